/-
  WholeRings: what was added can be taken off, and a factor goes to each part of a sum.
-/
import Derived.Test.YtpkcjgkgabemoabDoorP4
namespace Go.Proofs.YtpkcjgkgabemoabDoor
open Go.RowKit
set_option linter.unusedVariables false

/-- What holds behind the law's cut of three numbers. -/
def CutThree (w : World) (n m o : Bool) (mk : Value → Value → Value → Act) (e : Exit) (act : Act) (wr : World) : Prop := e = .normal ∧ ∃ (a1 : Option Addr) (m1 c1 x1 : Nat) (a2 : Option Addr) (m2 c2 x2 : Nat) (a3 : Option Addr) (m3 c3 x3 : Nat), act = mk (.agg #[.bool n, .slice a1 m1 c1]) (.agg #[.bool m, .slice a2 m2 c2]) (.agg #[.bool o, .slice a3 m3 c3]) ∧ m1 ≤ 16 ∧ m2 ≤ 16 ∧ m3 ≤ 16 ∧
  NI wr a1 m1 c1 x1 ∧ NI wr a2 m2 c2 x2 ∧ NI wr a3 m3 c3 x3 ∧ Bx wr w.heap.size (.bool n) (.slice a1 m1 c1) ∧ Bx wr (w.heap.size + 1) (.bool m) (.slice a2 m2 c2) ∧ Bx wr (w.heap.size + 1 + 1) (.bool o) (.slice a3 m3 c3) ∧ Below w.heap.size w wr
theorem cutThree {w w2 : World} {n m o : Bool} {mk : Value → Value → Value → Act} {a1 : Option Addr} {m1 c1 x1 : Nat} {a2 : Option Addr} {m2 c2 x2 : Nat} {a3 : Option Addr} {m3 c3 x3 : Nat} {p q r s t u : Value} (h1 : m1 ≤ 16) (h2 : m2 ≤ 16) (h3 : m3 ≤ 16) (n1 : NI w2 a1 m1 c1 x1) (n2 : NI w2 a2 m2 c2 x2) (n3 : NI w2 a3 m3 c3 x3) (xa : Bx w2 w.heap.size p q) (xb : Bx w2 (w.heap.size + 1) r s) (xc : Bx w2 (w.heap.size + 1 + 1) t u) (B : Below w.heap.size w w2)
    (f1 : Far (w.heap.size + 3) a1 m1) (f2 : Far (w.heap.size + 3) a2 m2) (f3 : Far (w.heap.size + 3) a3 m3) :
    CutThree w n m o mk .normal (mk (.agg #[.bool n, .slice a1 m1 c1]) (.agg #[.bool m, .slice a2 m2 c2]) (.agg #[.bool o, .slice a3 m3 c3])) ((((((w2.setCell ⟨w.heap.size, 0, none⟩ (.bool n)).setCell ⟨w.heap.size, 1, none⟩ (.slice a1 m1 c1)).setCell ⟨w.heap.size + 1, 0, none⟩ (.bool m)).setCell ⟨w.heap.size + 1, 1, none⟩ (.slice a2 m2 c2)).setCell ⟨w.heap.size + 1 + 1, 0, none⟩ (.bool o)).setCell ⟨w.heap.size + 1 + 1, 1, none⟩ (.slice a3 m3 c3)) := by
  have p1 : ∀ {a : Option Addr} {l c u : Nat}, NI w2 a l c u → Far (w.heap.size + 3) a l → NI ((((((w2.setCell ⟨w.heap.size, 0, none⟩ (.bool n)).setCell ⟨w.heap.size, 1, none⟩ (.slice a1 m1 c1)).setCell ⟨w.heap.size + 1, 0, none⟩ (.bool m)).setCell ⟨w.heap.size + 1, 1, none⟩ (.slice a2 m2 c2)).setCell ⟨w.heap.size + 1 + 1, 0, none⟩ (.bool o)).setCell ⟨w.heap.size + 1 + 1, 1, none⟩ (.slice a3 m3 c3)) a l c u := fun h f =>
    (((((h.put (f _ (by omega)) 0 _).put (f _ (by omega)) 1 _).put (f _ (by omega)) 0 _).put (f _ (by omega)) 1 _).put (f _ (by omega)) 0 _).put (f _ (by omega)) 1 _
  refine ⟨rfl, a1, m1, c1, x1, a2, m2, c2, x2, a3, m3, c3, x3, rfl, h1, h2, h3, p1 n1 f1, p1 n2 f2, p1 n3 f3, ?_, ?_, ?_, below_put2 (below_put2 (below_put2 B (Nat.le_refl _) _ _) (by omega) _ _) (by omega) _ _⟩
  · exact (((xa.set.put (by omega)).put (by omega)).put (by omega)).put (by omega)
  · exact (((xb.put (by omega)).put (by omega)).set.put (by omega)).put (by omega)
  · exact ((((xc.put (by omega)).put (by omega)).put (by omega)).put (by omega)).set
def RingTwo (w w0 : World) (n m o : Bool) (a1 : Option Addr) (m1 c1 : Nat) (a2 : Option Addr) (m2 c2 : Nat) (a3 : Option Addr) (m3 c3 : Nat) (X Y Z : Int) (mk : Value → Value → Value → Value → Value → Value → Value → Act) (e : Exit) (act : Act) (wr : World) : Prop := e = .normal ∧ ∃ (p q : Nat) (v1 v3 v4 : Value) (nl : Bool) (al : Option Addr) (ll cl : Nat) (nr : Bool) (ar : Option Addr) (lr cr : Nat),
  act = mk (.pointer (some ⟨p, 0, none⟩)) (.pointer (some ⟨q, 0, none⟩)) v1 (.agg #[.bool nl, .slice al ll cl]) v3 v4 (.agg #[.bool nr, .slice ar lr cr]) ∧ WI wr n a1 m1 c1 X ∧ WI wr m a2 m2 c2 Y ∧ WI wr o a3 m3 c3 Z ∧ WN wr nl al ll cl (X * (Y + Z)) ∧ WN wr nr ar lr cr (X * Y + X * Z) ∧
  Bx wr w.heap.size (.bool n) (.slice a1 m1 c1) ∧ Bx wr (w.heap.size + 1) (.bool m) (.slice a2 m2 c2) ∧ Bx wr (w.heap.size + 1 + 1) (.bool o) (.slice a3 m3 c3) ∧ Bx wr p (.bool nl) (.slice al ll cl) ∧ Bx wr q (.bool nr) (.slice ar lr cr) ∧ Below w.heap.size w wr
theorem ringTwo {w w0 W : World} {n m o : Bool} {a1 : Option Addr} {m1 c1 : Nat} {a2 : Option Addr} {m2 c2 : Nat} {a3 : Option Addr} {m3 c3 : Nat} {X Y Z : Int} {mk : Value → Value → Value → Value → Value → Value → Value → Act} {v1 v3 v4 z1 z2 z3 z4 : Value} {p q : Nat} {nl : Bool} {al : Option Addr} {ll cl : Nat} {nr : Bool} {ar : Option Addr} {lr cr : Nat}
    (wa : WI W n a1 m1 c1 X) (wb : WI W m a2 m2 c2 Y) (wc : WI W o a3 m3 c3 Z) (hL : WN W nl al ll cl (X * (Y + Z))) (hR : WN W nr ar lr cr (X * Y + X * Z)) (ya : Bx W w.heap.size (.bool n) (.slice a1 m1 c1)) (yb : Bx W (w.heap.size + 1) (.bool m) (.slice a2 m2 c2)) (yc : Bx W (w.heap.size + 1 + 1) (.bool o) (.slice a3 m3 c3)) (zp : Bx W p z1 z2) (zq : Bx W q z3 z4) (B : Below w.heap.size w W)
    (hp : w.heap.size + 1 + 1 < p) (hq : w.heap.size + 1 + 1 < q) (pq : p ≠ q) (Lp : NA p al ll) (Lq : NA q al ll) (Rp : NA p ar lr) (Rq : NA q ar lr) (ap : NA p a1 m1) (aq : NA q a1 m1) (bp : NA p a2 m2) (bq : NA q a2 m2) (cp : NA p a3 m3) (cq : NA q a3 m3) :
    RingTwo w w0 n m o a1 m1 c1 a2 m2 c2 a3 m3 c3 X Y Z mk .normal (mk (.pointer (some ⟨p, 0, none⟩)) (.pointer (some ⟨q, 0, none⟩)) v1 (.agg #[.bool nl, .slice al ll cl]) v3 v4 (.agg #[.bool nr, .slice ar lr cr]))
      ((((W.setCell ⟨p, 0, none⟩ (.bool nl)).setCell ⟨p, 1, none⟩ (.slice al ll cl)).setCell ⟨q, 0, none⟩ (.bool nr)).setCell ⟨q, 1, none⟩ (.slice ar lr cr)) := by
  refine ⟨rfl, p, q, v1, v3, v4, nl, al, ll, cl, nr, ar, lr, cr, rfl, (wa.put2 ap _ _).put2 aq _ _, (wb.put2 bp _ _).put2 bq _ _, (wc.put2 cp _ _).put2 cq _ _, (hL.put2 Lp _ _).put2 Lq _ _, (hR.put2 Rp _ _).put2 Rq _ _, ?_, ?_, ?_, ?_, ?_, below_put2 (below_put2 B (by omega) _ _) (by omega) _ _⟩
  · exact (((ya.put (by omega)).put (by omega)).put (by omega)).put (by omega)
  · exact (((yb.put (by omega)).put (by omega)).put (by omega)).put (by omega)
  · exact (((yc.put (by omega)).put (by omega)).put (by omega)).put (by omega)
  · exact (zp.set.put (fun e => pq e.symm)).put (fun e => pq e.symm)
  · exact ((zq.put pq).put pq).set
theorem keepB3 {n : Nat} {v1 v2 v3 v4 v5 v6 : Value} {w0 w w' : World} (h : w.cell? ⟨n, 0, none⟩ = some v1 ∧ w.cell? ⟨n, 1, none⟩ = some v2 ∧ w.cell? ⟨n + 1, 0, none⟩ = some v3 ∧ w.cell? ⟨n + 1, 1, none⟩ = some v4 ∧ w.cell? ⟨n + 1 + 1, 0, none⟩ = some v5 ∧ w.cell? ⟨n + 1 + 1, 1, none⟩ = some v6 ∧ Below w0.heap.size w0 w) (hb : Below w.heap.size w w') :
    w'.cell? ⟨n, 0, none⟩ = some v1 ∧ w'.cell? ⟨n, 1, none⟩ = some v2 ∧ w'.cell? ⟨n + 1, 0, none⟩ = some v3 ∧ w'.cell? ⟨n + 1, 1, none⟩ = some v4 ∧ w'.cell? ⟨n + 1 + 1, 0, none⟩ = some v5 ∧ w'.cell? ⟨n + 1 + 1, 1, none⟩ = some v6 ∧ Below w0.heap.size w0 w' :=
  ⟨cell_on hb h.1, cell_on hb h.2.1, cell_on hb h.2.2.1, cell_on hb h.2.2.2.1, cell_on hb h.2.2.2.2.1, cell_on hb h.2.2.2.2.2.1, also h.2.2.2.2.2.2 hb⟩
theorem keepS3 {n k : Nat} {v1 v2 v3 v4 v5 v6 : Value} {w0 w : World} (h : w.cell? ⟨n, 0, none⟩ = some v1 ∧ w.cell? ⟨n, 1, none⟩ = some v2 ∧ w.cell? ⟨n + 1, 0, none⟩ = some v3 ∧ w.cell? ⟨n + 1, 1, none⟩ = some v4 ∧ w.cell? ⟨n + 1 + 1, 0, none⟩ = some v5 ∧ w.cell? ⟨n + 1 + 1, 1, none⟩ = some v6 ∧ Below w0.heap.size w0 w) (hk : n + 1 + 1 < k) (hB : w0.heap.size ≤ k) (u v : Value) :
    ((w.setCell ⟨k, 0, none⟩ u).setCell ⟨k, 1, none⟩ v).cell? ⟨n, 0, none⟩ = some v1 ∧ ((w.setCell ⟨k, 0, none⟩ u).setCell ⟨k, 1, none⟩ v).cell? ⟨n, 1, none⟩ = some v2 ∧ ((w.setCell ⟨k, 0, none⟩ u).setCell ⟨k, 1, none⟩ v).cell? ⟨n + 1, 0, none⟩ = some v3 ∧ ((w.setCell ⟨k, 0, none⟩ u).setCell ⟨k, 1, none⟩ v).cell? ⟨n + 1, 1, none⟩ = some v4 ∧ ((w.setCell ⟨k, 0, none⟩ u).setCell ⟨k, 1, none⟩ v).cell? ⟨n + 1 + 1, 0, none⟩ = some v5 ∧ ((w.setCell ⟨k, 0, none⟩ u).setCell ⟨k, 1, none⟩ v).cell? ⟨n + 1 + 1, 1, none⟩ = some v6 ∧ Below w0.heap.size w0 ((w.setCell ⟨k, 0, none⟩ u).setCell ⟨k, 1, none⟩ v) := by
  obtain ⟨h1, h2, h3, h4, h5, h6, h7⟩ := h
  obtain ⟨a1, a2, _⟩ := keepS1 ⟨h1, h2, h7⟩ (by omega) hB u v
  obtain ⟨b1, b2, _⟩ := keepS1 ⟨h3, h4, h7⟩ (by omega) hB u v
  obtain ⟨c1, c2, c3⟩ := keepS1 ⟨h5, h6, h7⟩ hk hB u v
  exact ⟨a1, a2, b1, b2, c1, c2, c3⟩
theorem abs_add' {X Y : Int} {K : Nat} (h1 : X.natAbs < 4294967296 ^ K) (h2 : Y.natAbs < 4294967296 ^ K) : (X + Y).natAbs < 4294967296 ^ (K + 1) := by
  have := Int.natAbs_add_le X Y
  rw [Nat.pow_succ]
  omega
theorem abs_mul' {X Y : Int} {K L : Nat} (h1 : X.natAbs < 4294967296 ^ K) (h2 : Y.natAbs < 4294967296 ^ L) : (X * Y).natAbs < 4294967296 ^ (K + L) := by
  rw [Int.natAbs_mul, Nat.pow_add]
  exact Nat.mul_lt_mul_of_lt_of_le h1 (Nat.le_of_lt h2) (Nat.pow_pos (by decide))
namespace wrings
open Go.ChangeShapes Go.WideShapes Go.ChangeAt
set_option maxRecDepth 100000 in
set_option maxHeartbeats 80000000 in
theorem walk (n : Bool) (a : Option Addr) (la ca u : Nat) (m : Bool) (b : Option Addr) (lb cb v : Nat) (o : Bool) (c : Option Addr) (lc cc x : Nat) (w : World) (ha : Sl w a la ca (wd.dcells la (u : Int))) (hu : u < 4294967296 ^ la) (hb : Sl w b lb cb (wd.dcells lb (v : Int))) (hv : v < 4294967296 ^ lb) (hc : Sl w c lc cc (wd.dcells lc (x : Int))) (hx : x < 4294967296 ^ lc) :
    Calls Tryd.prog 3 #[.agg #[.bool n, .slice a la ca], .agg #[.bool m, .slice b lb cb], .agg #[.bool o, .slice c lc cc]] w fun e w' => e = .returned (.bool true) ∧ Below w.heap.size w w' := by
  obtain ⟨B0, xa, xb, xc, hs⟩ := box2 w (.bool n) (.slice a la ca) (.bool m) (.slice b lb cb) (.bool o) (.slice c lc cc) 25 25 25
  replace B0 := B0.drew
  replace xa := xa.drew
  replace xb := xb.drew
  replace xc := xc.drew
  have sa := ha.below B0
  have sb := hb.below B0
  have sc := hc.below B0
  obtain ⟨k0, k1, k2, k3⟩ := xa
  obtain ⟨j0, j1, j2, j3⟩ := xb
  obtain ⟨i0, i1, i2, i3⟩ := xc
  have xa : Bx _ _ _ _ := ⟨k0, k1, k2, k3⟩
  have xb : Bx _ _ _ _ := ⟨j0, j1, j2, j3⟩
  have xc : Bx _ _ _ _ := ⟨i0, i1, i2, i3⟩
  go_enter Tryd.func3, Tryd.ntmps3
  go_wp2
  refine wp_mono (Q := CutThree w n m o (fun p q r => ⟨#[.agg #[.bool n, .slice a la ca], .agg #[.bool m, .slice b lb cb], .agg #[.bool o, .slice c lc cc], .pointer (some ⟨w.heap.size, 0, none⟩), .pointer (some ⟨w.heap.size + 1, 0, none⟩), .pointer (some ⟨w.heap.size + 1 + 1, 0, none⟩), .bool false, undef, undef, .agg #[.bool n, .slice a la ca], p, .agg #[.bool m, .slice b lb cb], q, .agg #[.bool o, .slice c lc cc], r, undef, undef, undef, undef, undef, undef, undef, undef, undef, undef, undef, undef, undef, undef, undef, undef, undef, undef, undef, undef, undef, undef, undef, undef, undef, undef, undef, undef, undef, undef, undef, undef, undef, undef, undef, undef], []⟩)) ?_ ?_
  · go_region_with (first
      | (go_at_call_of 4 [Value.agg #[Value.bool n, Value.slice a la ca]]; refine (short4_any n a la ca u _ sa hu).mono ?_; rintro e w1 ⟨a1, m1, c1, x1, rfl, hm1, h1, f1, b1⟩; obtain ⟨k0, k1, k2, k3⟩ := xa.on b1; obtain ⟨j0, j1, j2, j3⟩ := xb.on b1; obtain ⟨i0, i1, i2, i3⟩ := xc.on b1)
      | (go_at_call_of 4 [Value.agg #[Value.bool m, Value.slice b lb cb]]; refine (short4_any m b lb cb v _ (sb.below b1) hv).mono ?_; rintro e w2 ⟨a2, m2, c2, x2, rfl, hm2, h2, f2, b2⟩; obtain ⟨k0, k1, k2, k3⟩ := (xa.on b1).on b2; obtain ⟨j0, j1, j2, j3⟩ := (xb.on b1).on b2; obtain ⟨i0, i1, i2, i3⟩ := (xc.on b1).on b2)
      | (go_at_call 4; refine (short4_any o c lc cc x _ ((sc.below b1).below b2) hx).mono ?_; rintro e w3 ⟨a3, m3, c3, x3, rfl, hm3, h3, f3, b3⟩; obtain ⟨k0, k1, k2, k3⟩ := ((xa.on b1).on b2).on b3; obtain ⟨j0, j1, j2, j3⟩ := ((xb.on b1).on b2).on b3; obtain ⟨i0, i1, i2, i3⟩ := ((xc.on b1).on b2).on b3))
    all_goals exact cutThree hm1 hm2 hm3 ((h1.below b2).below b3) (h2.below b3) h3 (((xa.on b1).on b2).on b3) (((xb.on b1).on b2).on b3) (((xc.on b1).on b2).on b3) (also (also (also B0 b1) b2) b3) (f1.mono (by simp)) (f2.mono (by have := b1.size; simp at this; omega)) (f3.mono (by have := b1.size; have := b2.size; simp at *; omega))
  rintro e act wr ⟨rfl, a1, m1, c1, x1, a2, m2, c2, x2, a3, m3, c3, x3, rfl, hm1, hm2, hm3, n1, n2, n3, ya, yb, yc, B1⟩
  dsimp only
  clear xa xb xc sa sb sc hs B0 k0 k1 k2 k3 j0 j1 j2 j3 i0 i1 i2 i3 ha hu hb hv hc hx
  have fX : (sgz n x1).natAbs < 4294967296 ^ 16 := sgz_lt n1.lt hm1
  have fY : (sgz m x2).natAbs < 4294967296 ^ 16 := sgz_lt n2.lt hm2
  have fZ : (sgz o x3).natAbs < 4294967296 ^ 16 := sgz_lt n3.lt hm3
  have wa := wi_of (n := n) n1
  have wb := wi_of (n := m) n2
  have wc := wi_of (n := o) n3
  generalize sgz n x1 = X at fX wa
  generalize sgz m x2 = Y at fY wb
  generalize sgz o x3 = Z at fZ wc
  have HYZ : Hid ((Y + Z).natAbs < 4294967296 ^ 17) := abs_add' fY fZ
  have HXY : Hid ((X * Y).natAbs < 4294967296 ^ 32) := abs_mul' fX fY
  have HXZ : Hid ((X * Z).natAbs < 4294967296 ^ 32) := abs_mul' fX fZ
  have HXYs : Hid ((X + Y).natAbs < 4294967296 ^ 17) := abs_add' fX fY
  have HL1 : Hid ((X * (Y + Z)).natAbs < 4294967296 ^ 33) := abs_mul' fX HYZ.out
  have HR1 : Hid ((X * Y + X * Z).natAbs < 4294967296 ^ 33) := abs_add' HXY.out HXZ.out
  have HX : Hid (X = X + Y - Y) := by unfold Hid; omega
  have FX : Hid _ := fX
  have HC0 : Hid ((0 : Int) = (X - X).sign) := by unfold Hid; rw [Int.sub_self]; rfl
  have HC1 : Hid ((0 : Int) = (X * (Y + Z) - (X * Y + X * Z)).sign) := by unfold Hid; rw [Int.mul_add, Int.sub_self]; rfl
  obtain ⟨t, ht⟩ : ∃ t, t = decZ (X * (Y + Z)) := ⟨_, rfl⟩
  have HT : Hid _ := ht
  have HT2 : Hid (t = decZ (X * Y + X * Z)) := by unfold Hid; rw [ht, Int.mul_add]
  have B9 := Below.refl wr.heap.size wr
  clear ht n1 n2 n3 fX fY fZ
  go_wp2
  refine wp_mono (Q := RingTwo w wr n m o a1 m1 c1 a2 m2 c2 a3 m3 c3 X Y Z (fun p q v1 v2 v3 v4 v5 => ⟨#[.agg #[.bool n, .slice a la ca], .agg #[.bool m, .slice b lb cb], .agg #[.bool o, .slice c lc cc], .pointer (some ⟨w.heap.size, 0, none⟩), .pointer (some ⟨w.heap.size + 1, 0, none⟩), .pointer (some ⟨w.heap.size + 1 + 1, 0, none⟩), .bool false, p, q, .agg #[.bool n, .slice a la ca], .agg #[.bool n, .slice a1 m1 c1], .agg #[.bool m, .slice b lb cb], .agg #[.bool m, .slice a2 m2 c2], .agg #[.bool o, .slice c lc cc], .agg #[.bool o, .slice a3 m3 c3], .agg #[.bool n, .slice a1 m1 c1], .agg #[.bool m, .slice a2 m2 c2], .agg #[.bool o, .slice a3 m3 c3], v1, v2, .agg #[.bool n, .slice a1 m1 c1], .agg #[.bool m, .slice a2 m2 c2], v3, .agg #[.bool n, .slice a1 m1 c1], .agg #[.bool o, .slice a3 m3 c3], v4, v5, undef, undef, undef, undef, undef, undef, undef, undef, undef, undef, undef, undef, undef, undef, undef, undef, undef, undef, undef, undef, undef, undef, undef, undef], []⟩)) ?_ ?_
  · refine wp_region_held_drew (S := (fun w' => w'.cell? ⟨w.heap.size, 0, none⟩ = some (.bool n) ∧ w'.cell? ⟨w.heap.size, 1, none⟩ = some (.slice a1 m1 c1) ∧ w'.cell? ⟨w.heap.size + 1, 0, none⟩ = some (.bool m) ∧ w'.cell? ⟨w.heap.size + 1, 1, none⟩ = some (.slice a2 m2 c2) ∧ w'.cell? ⟨w.heap.size + 1 + 1, 0, none⟩ = some (.bool o) ∧ w'.cell? ⟨w.heap.size + 1 + 1, 1, none⟩ = some (.slice a3 m3 c3) ∧ Below w.heap.size w w')) (by kernel_rfl) ?_ (fun hHeld => ?_)
    · exact ⟨ya.c0, ya.c1, yb.c0, yb.c1, yc.c0, yc.c1, B1.drew⟩
    refine take_yes (i := 0) (v := ?vf0) rfl (by kernel_rfl) (by kernel_rfl) (by kernel_rfl) (fun _ _ _ h => Exit.noConfusion h.1) (by rfl) (by assumption) ?hyf0 ?restf0
    case hyf0 => (intro w hSw; (try dsimp only at hSw); first | (go_simp; done) | (go_simp; with_reducible rfl))
    simp only [Act.put, List.setIfInBounds_toArray, List.set_cons_zero, List.set_cons_succ]
    refine take_yes (i := 1) (v := ?vf1) rfl (by kernel_rfl) (by kernel_rfl) (by kernel_rfl) (fun _ _ _ h => Exit.noConfusion h.1) (by rfl) (by assumption) ?hyf1 ?restf1
    case hyf1 => (intro w hSw; (try dsimp only at hSw); first | (go_simp; done) | (go_simp; with_reducible rfl))
    simp only [Act.put, List.setIfInBounds_toArray, List.set_cons_zero, List.set_cons_succ]
    refine take_yes (i := 2) (v := ?vf2) rfl (by kernel_rfl) (by kernel_rfl) (by kernel_rfl) (fun _ _ _ h => Exit.noConfusion h.1) (by rfl) (by assumption) ?hyf2 ?restf2
    case hyf2 => (intro w hSw; (try dsimp only at hSw); first | (go_simp; done) | (go_simp; with_reducible rfl))
    simp only [Act.put, List.setIfInBounds_toArray, List.set_cons_zero, List.set_cons_succ]
    refine take_yes (i := 5) (v := ?vf5) rfl (by kernel_rfl) (by kernel_rfl) (by kernel_rfl) (fun _ _ _ h => Exit.noConfusion h.1) (by rfl) (by assumption) ?hyf5 ?restf5
    case hyf5 => (intro w hSw; (try dsimp only at hSw); first | (go_simp; done) | (go_simp; with_reducible rfl))
    simp only [Act.put, List.setIfInBounds_toArray, List.set_cons_zero, List.set_cons_succ]
    refine take_yes (i := 6) (v := ?vf6) rfl (by kernel_rfl) (by kernel_rfl) (by kernel_rfl) (fun _ _ _ h => Exit.noConfusion h.1) (by rfl) (by assumption) ?hyf6 ?restf6
    case hyf6 => (intro w hSw; (try dsimp only at hSw); first | (go_simp; done) | (go_simp; with_reducible rfl))
    simp only [Act.put, List.setIfInBounds_toArray, List.set_cons_zero, List.set_cons_succ]
    refine take_yes (i := 8) (v := ?vf8) rfl (by kernel_rfl) (by kernel_rfl) (by kernel_rfl) (fun _ _ _ h => Exit.noConfusion h.1) (by rfl) (by assumption) ?hyf8 ?restf8
    case hyf8 => (intro w hSw; (try dsimp only at hSw); first | (go_simp; done) | (go_simp; with_reducible rfl))
    simp only [Act.put, List.setIfInBounds_toArray, List.set_cons_zero, List.set_cons_succ]
    refine take_yes (i := 9) (v := ?vf9) rfl (by kernel_rfl) (by kernel_rfl) (by kernel_rfl) (fun _ _ _ h => Exit.noConfusion h.1) (by rfl) (by assumption) ?hyf9 ?restf9
    case hyf9 => (intro w hSw; (try dsimp only at hSw); first | (go_simp; done) | (go_simp; with_reducible rfl))
    simp only [Act.put, List.setIfInBounds_toArray, List.set_cons_zero, List.set_cons_succ]
    have b0 : Below wr.heap.size wr wr.drew := (Below.refl _ _).drew
    generalize wr.drew = W at b0 hHeld ⊢
    have wa := wa.below b0; have wb := wb.below b0; have wc := wc.below b0; have ya := ya.on b0; have yb := yb.on b0; have yc := yc.on b0; have B1 := also B1 b0; have B9 := also B9 b0
    refine wpAnyH_ready (rs := [3, 12, 13]) (by kernel_rfl) (by simp) (AllReadyH.cons (i := 3) rfl (fun K hK => ?_) (AllReadyH.cons (i := 12) rfl (fun K hK => ?_) (AllReadyH.cons (i := 13) rfl (fun K hK => ?_) AllReadyH.nil)))
    · skip
      go_simp
      (go_at_call 6; refine (wAdd m o a2 a3 m2 m3 c2 c3 Y Z _ wb wc (Y + Z) rfl).mono ?_; rintro e Wc3 ⟨n20, a20, l20, c20, rfl, h20, f20, eWc3⟩)
      refine hK.out _ _ (keepB3 hHeld eWc3) (fun hHeld => ?_)
      clear hK K
      have wa := wa.below eWc3; have wb := wb.below eWc3; have wc := wc.below eWc3; have ya := ya.on eWc3; have yb := yb.on eWc3; have yc := yc.on eWc3; have B1 := also B1 eWc3; have B9 := also B9 eWc3
      refine wpAnyH_ready (rs := [4, 12, 13]) (by kernel_rfl) (by simp) (AllReadyH.cons (i := 4) rfl (fun K hK => ?_) (AllReadyH.cons (i := 12) rfl (fun K hK => ?_) (AllReadyH.cons (i := 13) rfl (fun K hK => ?_) AllReadyH.nil)))
      · skip
        go_simp
        (go_at_call 5; refine (wMul n n20 a1 a20 m1 l20 c1 c20 X (Y + Z) _ wa (h20.wi 17 (by decide) HYZ.out) (X * (Y + Z)) rfl).mono ?_; rintro e Wc3c4 ⟨nl, al, ll, cl, rfl, hL, fL, eWc3c4⟩)
        refine hK.out _ _ (keepB3 hHeld eWc3c4) (fun hHeld => ?_)
        clear hK K
        have wa := wa.below eWc3c4; have wb := wb.below eWc3c4; have wc := wc.below eWc3c4; have ya := ya.on eWc3c4; have yb := yb.on eWc3c4; have yc := yc.on eWc3c4; have B1 := also B1 eWc3c4; have B9 := also B9 eWc3c4; have h20 := h20.below eWc3c4
        refine wpAnyH_ready (rs := [7, 12, 13]) (by kernel_rfl) (by simp) (AllReadyH.cons (i := 7) rfl (fun K hK => ?_) (AllReadyH.cons (i := 12) rfl (fun K hK => ?_) (AllReadyH.cons (i := 13) rfl (fun K hK => ?_) AllReadyH.nil)))
        · skip
          go_simp
          (go_at_call 5; refine (wMul n m a1 a2 m1 m2 c1 c2 X Y _ wa wb (X * Y) rfl).mono ?_; rintro e Wc3c4c7 ⟨n22, a22, l22, c22, rfl, h22, f22, eWc3c4c7⟩)
          refine hK.out _ _ (keepB3 hHeld eWc3c4c7) (fun hHeld => ?_)
          clear hK K
          have wa := wa.below eWc3c4c7; have wb := wb.below eWc3c4c7; have wc := wc.below eWc3c4c7; have ya := ya.on eWc3c4c7; have yb := yb.on eWc3c4c7; have yc := yc.on eWc3c4c7; have B1 := also B1 eWc3c4c7; have B9 := also B9 eWc3c4c7; have h20 := h20.below eWc3c4c7; have hL := hL.below eWc3c4c7
          refine wpAnyH_ready (rs := [10, 12, 13]) (by kernel_rfl) (by simp) (AllReadyH.cons (i := 10) rfl (fun K hK => ?_) (AllReadyH.cons (i := 12) rfl (fun K hK => ?_) (AllReadyH.cons (i := 13) rfl (fun K hK => ?_) AllReadyH.nil)))
          · skip
            go_simp
            (go_at_call 5; refine (wMul n o a1 a3 m1 m3 c1 c3 X Z _ wa wc (X * Z) rfl).mono ?_; rintro e Wc3c4c7c10 ⟨n25, a25, l25, c25, rfl, h25, f25, eWc3c4c7c10⟩)
            refine hK.out _ _ (keepB3 hHeld eWc3c4c7c10) (fun hHeld => ?_)
            clear hK K
            have wa := wa.below eWc3c4c7c10; have wb := wb.below eWc3c4c7c10; have wc := wc.below eWc3c4c7c10; have ya := ya.on eWc3c4c7c10; have yb := yb.on eWc3c4c7c10; have yc := yc.on eWc3c4c7c10; have B1 := also B1 eWc3c4c7c10; have B9 := also B9 eWc3c4c7c10; have h20 := h20.below eWc3c4c7c10; have hL := hL.below eWc3c4c7c10; have h22 := h22.below eWc3c4c7c10
            refine wpAnyH_ready (rs := [11, 12, 13]) (by kernel_rfl) (by simp) (AllReadyH.cons (i := 11) rfl (fun K hK => ?_) (AllReadyH.cons (i := 12) rfl (fun K hK => ?_) (AllReadyH.cons (i := 13) rfl (fun K hK => ?_) AllReadyH.nil)))
            · skip
              go_simp
              (go_at_call 6; refine (wAdd n22 n25 a22 a25 l22 l25 c22 c25 (X * Y) (X * Z) _ (h22.wi 32 (by decide) HXY.out) (h25.wi 32 (by decide) HXZ.out) (X * Y + X * Z) rfl).mono ?_; rintro e Wc3c4c7c10c11 ⟨nr, ar, lr, cr, rfl, hR, fR, eWc3c4c7c10c11⟩)
              refine hK.out _ _ (keepB3 hHeld eWc3c4c7c10c11) (fun hHeld => ?_)
              clear hK K
              have wa := wa.below eWc3c4c7c10c11; have wb := wb.below eWc3c4c7c10c11; have wc := wc.below eWc3c4c7c10c11; have ya := ya.on eWc3c4c7c10c11; have yb := yb.on eWc3c4c7c10c11; have yc := yc.on eWc3c4c7c10c11; have B1 := also B1 eWc3c4c7c10c11; have B9 := also B9 eWc3c4c7c10c11; have h20 := h20.below eWc3c4c7c10c11; have hL := hL.below eWc3c4c7c10c11; have h22 := h22.below eWc3c4c7c10c11; have h25 := h25.below eWc3c4c7c10c11
              refine wpAnyH_ready (rs := [12, 13]) (by kernel_rfl) (by simp) (AllReadyH.cons (i := 12) rfl (fun K hK => ?_) (AllReadyH.cons (i := 13) rfl (fun K hK => ?_) AllReadyH.nil))
              · skip
                go_simp
                refine hK.out _ _ (keepB3 hHeld ((Below.refl _ _).alloc (Nat.le_refl _) _)) (fun hHeld => ?_)
                clear hK K
                have zp := bx_new Wc3c4c7c10c11 (.bool false) (.slice none 0 0) 25
                have eWc3c4c7c10c11a12 : Below Wc3c4c7c10c11.heap.size Wc3c4c7c10c11 (Wc3c4c7c10c11.alloc (.cells #[.bool false, .slice none 0 0] 25)) := (Below.refl _ _).alloc (Nat.le_refl _) _
                have lp : Wc3c4c7c10c11.heap.size < (Wc3c4c7c10c11.alloc (.cells #[.bool false, .slice none 0 0] 25)).heap.size := by simp
                have gp : w.heap.size + 1 + 1 < Wc3c4c7c10c11.heap.size := bx_lt yc; have vp : wr.heap.size ≤ Wc3c4c7c10c11.heap.size := B9.size
                have xap : NA Wc3c4c7c10c11.heap.size a1 m1 := wa.ni.sl.na (Nat.le_refl _)
                have xbp : NA Wc3c4c7c10c11.heap.size a2 m2 := wb.ni.sl.na (Nat.le_refl _)
                have xcp : NA Wc3c4c7c10c11.heap.size a3 m3 := wc.ni.sl.na (Nat.le_refl _)
                have Lp : NA Wc3c4c7c10c11.heap.size al ll := hL.nd.sl.na (Nat.le_refl _)
                have Rp : NA Wc3c4c7c10c11.heap.size ar lr := hR.nd.sl.na (Nat.le_refl _)
                generalize Wc3c4c7c10c11.alloc (.cells #[.bool false, .slice none 0 0] 25) = Wc3c4c7c10c11a12 at zp eWc3c4c7c10c11a12 lp hHeld ⊢
                have wa := wa.below eWc3c4c7c10c11a12; have wb := wb.below eWc3c4c7c10c11a12; have wc := wc.below eWc3c4c7c10c11a12; have ya := ya.on eWc3c4c7c10c11a12; have yb := yb.on eWc3c4c7c10c11a12; have yc := yc.on eWc3c4c7c10c11a12; have B1 := also B1 eWc3c4c7c10c11a12; have B9 := also B9 eWc3c4c7c10c11a12; have h20 := h20.below eWc3c4c7c10c11a12; have hL := hL.below eWc3c4c7c10c11a12; have h22 := h22.below eWc3c4c7c10c11a12; have h25 := h25.below eWc3c4c7c10c11a12; have hR := hR.below eWc3c4c7c10c11a12
                generalize Wc3c4c7c10c11.heap.size = p at zp lp gp vp xap xbp xcp Lp Rp ⊢
                refine take_call (i := 13) rfl (by kernel_rfl) (fun K hK => ?_)
                go_simp
                refine hK.out _ _ (keepB3 hHeld ((Below.refl _ _).alloc (Nat.le_refl _) _)) (fun hHeld => ?_)
                clear hK K
                have zq := bx_new Wc3c4c7c10c11a12 (.bool false) (.slice none 0 0) 25
                have eWc3c4c7c10c11a12a13 : Below Wc3c4c7c10c11a12.heap.size Wc3c4c7c10c11a12 (Wc3c4c7c10c11a12.alloc (.cells #[.bool false, .slice none 0 0] 25)) := (Below.refl _ _).alloc (Nat.le_refl _) _
                have lq : Wc3c4c7c10c11a12.heap.size < (Wc3c4c7c10c11a12.alloc (.cells #[.bool false, .slice none 0 0] 25)).heap.size := by simp
                have gq : w.heap.size + 1 + 1 < Wc3c4c7c10c11a12.heap.size := bx_lt yc; have vq : wr.heap.size ≤ Wc3c4c7c10c11a12.heap.size := B9.size
                have xaq : NA Wc3c4c7c10c11a12.heap.size a1 m1 := wa.ni.sl.na (Nat.le_refl _)
                have xbq : NA Wc3c4c7c10c11a12.heap.size a2 m2 := wb.ni.sl.na (Nat.le_refl _)
                have xcq : NA Wc3c4c7c10c11a12.heap.size a3 m3 := wc.ni.sl.na (Nat.le_refl _)
                have Lq : NA Wc3c4c7c10c11a12.heap.size al ll := hL.nd.sl.na (Nat.le_refl _)
                have Rq : NA Wc3c4c7c10c11a12.heap.size ar lr := hR.nd.sl.na (Nat.le_refl _)
                have pq : p ≠ Wc3c4c7c10c11a12.heap.size := Nat.ne_of_lt lp
                generalize Wc3c4c7c10c11a12.alloc (.cells #[.bool false, .slice none 0 0] 25) = Wc3c4c7c10c11a12a13 at zq eWc3c4c7c10c11a12a13 lq hHeld ⊢
                have wa := wa.below eWc3c4c7c10c11a12a13; have wb := wb.below eWc3c4c7c10c11a12a13; have wc := wc.below eWc3c4c7c10c11a12a13; have ya := ya.on eWc3c4c7c10c11a12a13; have yb := yb.on eWc3c4c7c10c11a12a13; have yc := yc.on eWc3c4c7c10c11a12a13; have B1 := also B1 eWc3c4c7c10c11a12a13; have B9 := also B9 eWc3c4c7c10c11a12a13; have h20 := h20.below eWc3c4c7c10c11a12a13; have hL := hL.below eWc3c4c7c10c11a12a13; have h22 := h22.below eWc3c4c7c10c11a12a13; have h25 := h25.below eWc3c4c7c10c11a12a13; have hR := hR.below eWc3c4c7c10c11a12a13
                have zp := zp.on eWc3c4c7c10c11a12a13; have lp := Nat.lt_of_lt_of_le lp eWc3c4c7c10c11a12a13.size
                generalize Wc3c4c7c10c11a12.heap.size = q at zq lq gq vq xaq xbq xcq Lq Rq pq ⊢
                obtain ⟨k0, k1, k2, k3⟩ := zp
                have zp : Bx _ _ _ _ := ⟨k0, k1, k2, k3⟩
                refine take_call (i := 14) rfl (by kernel_rfl) (fun K hK => ?_)
                go_simp
                refine hK.out _ _ ?_ (fun hHeld => ?_)
                · exact keepS3 hHeld gp (by omega) _ _
                clear hK K
                obtain ⟨j0, j1, j2, j3⟩ : Bx ((Wc3c4c7c10c11a12a13.setCell ⟨p, 0, none⟩ (.bool nl)).setCell ⟨p, 1, none⟩ (.slice al ll cl)) q (.bool false) (.slice none 0 0) := (zq.put pq).put pq
                refine take_call (i := 15) rfl (by kernel_rfl) (fun K hK => ?_)
                go_simp
                refine hK.out _ _ ?_ (fun hHeld => ?_)
                · exact keepS3 hHeld gq (by omega) _ _
                clear hK K
                refine wpAnyH_done (by kernel_rfl) ?_ _
                exact ringTwo wa wb wc hL hR ya yb yc zp zq B1 gp gq pq Lp Lq Rp Rq xap xaq xbp xbq xcp xcq
              · skip
                go_simp
                refine hK.out _ _ (keepB3 hHeld ((Below.refl _ _).alloc (Nat.le_refl _) _)) (fun hHeld => ?_)
                clear hK K
                have zq := bx_new Wc3c4c7c10c11 (.bool false) (.slice none 0 0) 25
                have eWc3c4c7c10c11a13 : Below Wc3c4c7c10c11.heap.size Wc3c4c7c10c11 (Wc3c4c7c10c11.alloc (.cells #[.bool false, .slice none 0 0] 25)) := (Below.refl _ _).alloc (Nat.le_refl _) _
                have lq : Wc3c4c7c10c11.heap.size < (Wc3c4c7c10c11.alloc (.cells #[.bool false, .slice none 0 0] 25)).heap.size := by simp
                have gq : w.heap.size + 1 + 1 < Wc3c4c7c10c11.heap.size := bx_lt yc; have vq : wr.heap.size ≤ Wc3c4c7c10c11.heap.size := B9.size
                have xaq : NA Wc3c4c7c10c11.heap.size a1 m1 := wa.ni.sl.na (Nat.le_refl _)
                have xbq : NA Wc3c4c7c10c11.heap.size a2 m2 := wb.ni.sl.na (Nat.le_refl _)
                have xcq : NA Wc3c4c7c10c11.heap.size a3 m3 := wc.ni.sl.na (Nat.le_refl _)
                have Lq : NA Wc3c4c7c10c11.heap.size al ll := hL.nd.sl.na (Nat.le_refl _)
                have Rq : NA Wc3c4c7c10c11.heap.size ar lr := hR.nd.sl.na (Nat.le_refl _)
                generalize Wc3c4c7c10c11.alloc (.cells #[.bool false, .slice none 0 0] 25) = Wc3c4c7c10c11a13 at zq eWc3c4c7c10c11a13 lq hHeld ⊢
                have wa := wa.below eWc3c4c7c10c11a13; have wb := wb.below eWc3c4c7c10c11a13; have wc := wc.below eWc3c4c7c10c11a13; have ya := ya.on eWc3c4c7c10c11a13; have yb := yb.on eWc3c4c7c10c11a13; have yc := yc.on eWc3c4c7c10c11a13; have B1 := also B1 eWc3c4c7c10c11a13; have B9 := also B9 eWc3c4c7c10c11a13; have h20 := h20.below eWc3c4c7c10c11a13; have hL := hL.below eWc3c4c7c10c11a13; have h22 := h22.below eWc3c4c7c10c11a13; have h25 := h25.below eWc3c4c7c10c11a13; have hR := hR.below eWc3c4c7c10c11a13
                generalize Wc3c4c7c10c11.heap.size = q at zq lq gq vq xaq xbq xcq Lq Rq ⊢
                refine take_call (i := 12) rfl (by kernel_rfl) (fun K hK => ?_)
                go_simp
                refine hK.out _ _ (keepB3 hHeld ((Below.refl _ _).alloc (Nat.le_refl _) _)) (fun hHeld => ?_)
                clear hK K
                have zp := bx_new Wc3c4c7c10c11a13 (.bool false) (.slice none 0 0) 25
                have eWc3c4c7c10c11a13a12 : Below Wc3c4c7c10c11a13.heap.size Wc3c4c7c10c11a13 (Wc3c4c7c10c11a13.alloc (.cells #[.bool false, .slice none 0 0] 25)) := (Below.refl _ _).alloc (Nat.le_refl _) _
                have lp : Wc3c4c7c10c11a13.heap.size < (Wc3c4c7c10c11a13.alloc (.cells #[.bool false, .slice none 0 0] 25)).heap.size := by simp
                have gp : w.heap.size + 1 + 1 < Wc3c4c7c10c11a13.heap.size := bx_lt yc; have vp : wr.heap.size ≤ Wc3c4c7c10c11a13.heap.size := B9.size
                have xap : NA Wc3c4c7c10c11a13.heap.size a1 m1 := wa.ni.sl.na (Nat.le_refl _)
                have xbp : NA Wc3c4c7c10c11a13.heap.size a2 m2 := wb.ni.sl.na (Nat.le_refl _)
                have xcp : NA Wc3c4c7c10c11a13.heap.size a3 m3 := wc.ni.sl.na (Nat.le_refl _)
                have Lp : NA Wc3c4c7c10c11a13.heap.size al ll := hL.nd.sl.na (Nat.le_refl _)
                have Rp : NA Wc3c4c7c10c11a13.heap.size ar lr := hR.nd.sl.na (Nat.le_refl _)
                have pq : Wc3c4c7c10c11a13.heap.size ≠ q := Nat.ne_of_gt lq
                generalize Wc3c4c7c10c11a13.alloc (.cells #[.bool false, .slice none 0 0] 25) = Wc3c4c7c10c11a13a12 at zp eWc3c4c7c10c11a13a12 lp hHeld ⊢
                have wa := wa.below eWc3c4c7c10c11a13a12; have wb := wb.below eWc3c4c7c10c11a13a12; have wc := wc.below eWc3c4c7c10c11a13a12; have ya := ya.on eWc3c4c7c10c11a13a12; have yb := yb.on eWc3c4c7c10c11a13a12; have yc := yc.on eWc3c4c7c10c11a13a12; have B1 := also B1 eWc3c4c7c10c11a13a12; have B9 := also B9 eWc3c4c7c10c11a13a12; have h20 := h20.below eWc3c4c7c10c11a13a12; have hL := hL.below eWc3c4c7c10c11a13a12; have h22 := h22.below eWc3c4c7c10c11a13a12; have h25 := h25.below eWc3c4c7c10c11a13a12; have hR := hR.below eWc3c4c7c10c11a13a12
                have zq := zq.on eWc3c4c7c10c11a13a12; have lq := Nat.lt_of_lt_of_le lq eWc3c4c7c10c11a13a12.size
                generalize Wc3c4c7c10c11a13.heap.size = p at zp lp gp vp xap xbp xcp Lp Rp pq ⊢
                obtain ⟨k0, k1, k2, k3⟩ := zp
                have zp : Bx _ _ _ _ := ⟨k0, k1, k2, k3⟩
                refine take_call (i := 14) rfl (by kernel_rfl) (fun K hK => ?_)
                go_simp
                refine hK.out _ _ ?_ (fun hHeld => ?_)
                · exact keepS3 hHeld gp (by omega) _ _
                clear hK K
                obtain ⟨j0, j1, j2, j3⟩ : Bx ((Wc3c4c7c10c11a13a12.setCell ⟨p, 0, none⟩ (.bool nl)).setCell ⟨p, 1, none⟩ (.slice al ll cl)) q (.bool false) (.slice none 0 0) := (zq.put pq).put pq
                refine take_call (i := 15) rfl (by kernel_rfl) (fun K hK => ?_)
                go_simp
                refine hK.out _ _ ?_ (fun hHeld => ?_)
                · exact keepS3 hHeld gq (by omega) _ _
                clear hK K
                refine wpAnyH_done (by kernel_rfl) ?_ _
                exact ringTwo wa wb wc hL hR ya yb yc zp zq B1 gp gq pq Lp Lq Rp Rq xap xaq xbp xbq xcp xcq
            · skip
              go_simp
              refine hK.out _ _ (keepB3 hHeld ((Below.refl _ _).alloc (Nat.le_refl _) _)) (fun hHeld => ?_)
              clear hK K
              have zp := bx_new Wc3c4c7c10 (.bool false) (.slice none 0 0) 25
              have eWc3c4c7c10a12 : Below Wc3c4c7c10.heap.size Wc3c4c7c10 (Wc3c4c7c10.alloc (.cells #[.bool false, .slice none 0 0] 25)) := (Below.refl _ _).alloc (Nat.le_refl _) _
              have lp : Wc3c4c7c10.heap.size < (Wc3c4c7c10.alloc (.cells #[.bool false, .slice none 0 0] 25)).heap.size := by simp
              have gp : w.heap.size + 1 + 1 < Wc3c4c7c10.heap.size := bx_lt yc; have vp : wr.heap.size ≤ Wc3c4c7c10.heap.size := B9.size
              have xap : NA Wc3c4c7c10.heap.size a1 m1 := wa.ni.sl.na (Nat.le_refl _)
              have xbp : NA Wc3c4c7c10.heap.size a2 m2 := wb.ni.sl.na (Nat.le_refl _)
              have xcp : NA Wc3c4c7c10.heap.size a3 m3 := wc.ni.sl.na (Nat.le_refl _)
              have Lp : NA Wc3c4c7c10.heap.size al ll := hL.nd.sl.na (Nat.le_refl _)
              generalize Wc3c4c7c10.alloc (.cells #[.bool false, .slice none 0 0] 25) = Wc3c4c7c10a12 at zp eWc3c4c7c10a12 lp hHeld ⊢
              have wa := wa.below eWc3c4c7c10a12; have wb := wb.below eWc3c4c7c10a12; have wc := wc.below eWc3c4c7c10a12; have ya := ya.on eWc3c4c7c10a12; have yb := yb.on eWc3c4c7c10a12; have yc := yc.on eWc3c4c7c10a12; have B1 := also B1 eWc3c4c7c10a12; have B9 := also B9 eWc3c4c7c10a12; have h20 := h20.below eWc3c4c7c10a12; have hL := hL.below eWc3c4c7c10a12; have h22 := h22.below eWc3c4c7c10a12; have h25 := h25.below eWc3c4c7c10a12
              generalize Wc3c4c7c10.heap.size = p at zp lp gp vp xap xbp xcp Lp ⊢
              refine wpAnyH_ready (rs := [11, 13]) (by kernel_rfl) (by simp) (AllReadyH.cons (i := 11) rfl (fun K hK => ?_) (AllReadyH.cons (i := 13) rfl (fun K hK => ?_) AllReadyH.nil))
              · skip
                go_simp
                (go_at_call 6; refine (wAdd n22 n25 a22 a25 l22 l25 c22 c25 (X * Y) (X * Z) _ (h22.wi 32 (by decide) HXY.out) (h25.wi 32 (by decide) HXZ.out) (X * Y + X * Z) rfl).mono ?_; rintro e Wc3c4c7c10a12c11 ⟨nr, ar, lr, cr, rfl, hR, fR, eWc3c4c7c10a12c11⟩)
                have Rp : NA p ar lr := fR p lp
                refine hK.out _ _ (keepB3 hHeld eWc3c4c7c10a12c11) (fun hHeld => ?_)
                clear hK K
                have wa := wa.below eWc3c4c7c10a12c11; have wb := wb.below eWc3c4c7c10a12c11; have wc := wc.below eWc3c4c7c10a12c11; have ya := ya.on eWc3c4c7c10a12c11; have yb := yb.on eWc3c4c7c10a12c11; have yc := yc.on eWc3c4c7c10a12c11; have B1 := also B1 eWc3c4c7c10a12c11; have B9 := also B9 eWc3c4c7c10a12c11; have h20 := h20.below eWc3c4c7c10a12c11; have hL := hL.below eWc3c4c7c10a12c11; have h22 := h22.below eWc3c4c7c10a12c11; have h25 := h25.below eWc3c4c7c10a12c11
                have zp := zp.on eWc3c4c7c10a12c11; have lp := Nat.lt_of_lt_of_le lp eWc3c4c7c10a12c11.size
                refine take_call (i := 13) rfl (by kernel_rfl) (fun K hK => ?_)
                go_simp
                refine hK.out _ _ (keepB3 hHeld ((Below.refl _ _).alloc (Nat.le_refl _) _)) (fun hHeld => ?_)
                clear hK K
                have zq := bx_new Wc3c4c7c10a12c11 (.bool false) (.slice none 0 0) 25
                have eWc3c4c7c10a12c11a13 : Below Wc3c4c7c10a12c11.heap.size Wc3c4c7c10a12c11 (Wc3c4c7c10a12c11.alloc (.cells #[.bool false, .slice none 0 0] 25)) := (Below.refl _ _).alloc (Nat.le_refl _) _
                have lq : Wc3c4c7c10a12c11.heap.size < (Wc3c4c7c10a12c11.alloc (.cells #[.bool false, .slice none 0 0] 25)).heap.size := by simp
                have gq : w.heap.size + 1 + 1 < Wc3c4c7c10a12c11.heap.size := bx_lt yc; have vq : wr.heap.size ≤ Wc3c4c7c10a12c11.heap.size := B9.size
                have xaq : NA Wc3c4c7c10a12c11.heap.size a1 m1 := wa.ni.sl.na (Nat.le_refl _)
                have xbq : NA Wc3c4c7c10a12c11.heap.size a2 m2 := wb.ni.sl.na (Nat.le_refl _)
                have xcq : NA Wc3c4c7c10a12c11.heap.size a3 m3 := wc.ni.sl.na (Nat.le_refl _)
                have Lq : NA Wc3c4c7c10a12c11.heap.size al ll := hL.nd.sl.na (Nat.le_refl _)
                have Rq : NA Wc3c4c7c10a12c11.heap.size ar lr := hR.nd.sl.na (Nat.le_refl _)
                have pq : p ≠ Wc3c4c7c10a12c11.heap.size := Nat.ne_of_lt lp
                generalize Wc3c4c7c10a12c11.alloc (.cells #[.bool false, .slice none 0 0] 25) = Wc3c4c7c10a12c11a13 at zq eWc3c4c7c10a12c11a13 lq hHeld ⊢
                have wa := wa.below eWc3c4c7c10a12c11a13; have wb := wb.below eWc3c4c7c10a12c11a13; have wc := wc.below eWc3c4c7c10a12c11a13; have ya := ya.on eWc3c4c7c10a12c11a13; have yb := yb.on eWc3c4c7c10a12c11a13; have yc := yc.on eWc3c4c7c10a12c11a13; have B1 := also B1 eWc3c4c7c10a12c11a13; have B9 := also B9 eWc3c4c7c10a12c11a13; have h20 := h20.below eWc3c4c7c10a12c11a13; have hL := hL.below eWc3c4c7c10a12c11a13; have h22 := h22.below eWc3c4c7c10a12c11a13; have h25 := h25.below eWc3c4c7c10a12c11a13; have hR := hR.below eWc3c4c7c10a12c11a13
                have zp := zp.on eWc3c4c7c10a12c11a13; have lp := Nat.lt_of_lt_of_le lp eWc3c4c7c10a12c11a13.size
                generalize Wc3c4c7c10a12c11.heap.size = q at zq lq gq vq xaq xbq xcq Lq Rq pq ⊢
                obtain ⟨k0, k1, k2, k3⟩ := zp
                have zp : Bx _ _ _ _ := ⟨k0, k1, k2, k3⟩
                refine take_call (i := 14) rfl (by kernel_rfl) (fun K hK => ?_)
                go_simp
                refine hK.out _ _ ?_ (fun hHeld => ?_)
                · exact keepS3 hHeld gp (by omega) _ _
                clear hK K
                obtain ⟨j0, j1, j2, j3⟩ : Bx ((Wc3c4c7c10a12c11a13.setCell ⟨p, 0, none⟩ (.bool nl)).setCell ⟨p, 1, none⟩ (.slice al ll cl)) q (.bool false) (.slice none 0 0) := (zq.put pq).put pq
                refine take_call (i := 15) rfl (by kernel_rfl) (fun K hK => ?_)
                go_simp
                refine hK.out _ _ ?_ (fun hHeld => ?_)
                · exact keepS3 hHeld gq (by omega) _ _
                clear hK K
                refine wpAnyH_done (by kernel_rfl) ?_ _
                exact ringTwo wa wb wc hL hR ya yb yc zp zq B1 gp gq pq Lp Lq Rp Rq xap xaq xbp xbq xcp xcq
              · skip
                go_simp
                refine hK.out _ _ (keepB3 hHeld ((Below.refl _ _).alloc (Nat.le_refl _) _)) (fun hHeld => ?_)
                clear hK K
                have zq := bx_new Wc3c4c7c10a12 (.bool false) (.slice none 0 0) 25
                have eWc3c4c7c10a12a13 : Below Wc3c4c7c10a12.heap.size Wc3c4c7c10a12 (Wc3c4c7c10a12.alloc (.cells #[.bool false, .slice none 0 0] 25)) := (Below.refl _ _).alloc (Nat.le_refl _) _
                have lq : Wc3c4c7c10a12.heap.size < (Wc3c4c7c10a12.alloc (.cells #[.bool false, .slice none 0 0] 25)).heap.size := by simp
                have gq : w.heap.size + 1 + 1 < Wc3c4c7c10a12.heap.size := bx_lt yc; have vq : wr.heap.size ≤ Wc3c4c7c10a12.heap.size := B9.size
                have xaq : NA Wc3c4c7c10a12.heap.size a1 m1 := wa.ni.sl.na (Nat.le_refl _)
                have xbq : NA Wc3c4c7c10a12.heap.size a2 m2 := wb.ni.sl.na (Nat.le_refl _)
                have xcq : NA Wc3c4c7c10a12.heap.size a3 m3 := wc.ni.sl.na (Nat.le_refl _)
                have Lq : NA Wc3c4c7c10a12.heap.size al ll := hL.nd.sl.na (Nat.le_refl _)
                have pq : p ≠ Wc3c4c7c10a12.heap.size := Nat.ne_of_lt lp
                generalize Wc3c4c7c10a12.alloc (.cells #[.bool false, .slice none 0 0] 25) = Wc3c4c7c10a12a13 at zq eWc3c4c7c10a12a13 lq hHeld ⊢
                have wa := wa.below eWc3c4c7c10a12a13; have wb := wb.below eWc3c4c7c10a12a13; have wc := wc.below eWc3c4c7c10a12a13; have ya := ya.on eWc3c4c7c10a12a13; have yb := yb.on eWc3c4c7c10a12a13; have yc := yc.on eWc3c4c7c10a12a13; have B1 := also B1 eWc3c4c7c10a12a13; have B9 := also B9 eWc3c4c7c10a12a13; have h20 := h20.below eWc3c4c7c10a12a13; have hL := hL.below eWc3c4c7c10a12a13; have h22 := h22.below eWc3c4c7c10a12a13; have h25 := h25.below eWc3c4c7c10a12a13
                have zp := zp.on eWc3c4c7c10a12a13; have lp := Nat.lt_of_lt_of_le lp eWc3c4c7c10a12a13.size
                generalize Wc3c4c7c10a12.heap.size = q at zq lq gq vq xaq xbq xcq Lq pq ⊢
                refine take_call (i := 11) rfl (by kernel_rfl) (fun K hK => ?_)
                go_simp
                (go_at_call 6; refine (wAdd n22 n25 a22 a25 l22 l25 c22 c25 (X * Y) (X * Z) _ (h22.wi 32 (by decide) HXY.out) (h25.wi 32 (by decide) HXZ.out) (X * Y + X * Z) rfl).mono ?_; rintro e Wc3c4c7c10a12a13c11 ⟨nr, ar, lr, cr, rfl, hR, fR, eWc3c4c7c10a12a13c11⟩)
                have Rp : NA p ar lr := fR p lp
                have Rq : NA q ar lr := fR q lq
                refine hK.out _ _ (keepB3 hHeld eWc3c4c7c10a12a13c11) (fun hHeld => ?_)
                clear hK K
                have wa := wa.below eWc3c4c7c10a12a13c11; have wb := wb.below eWc3c4c7c10a12a13c11; have wc := wc.below eWc3c4c7c10a12a13c11; have ya := ya.on eWc3c4c7c10a12a13c11; have yb := yb.on eWc3c4c7c10a12a13c11; have yc := yc.on eWc3c4c7c10a12a13c11; have B1 := also B1 eWc3c4c7c10a12a13c11; have B9 := also B9 eWc3c4c7c10a12a13c11; have h20 := h20.below eWc3c4c7c10a12a13c11; have hL := hL.below eWc3c4c7c10a12a13c11; have h22 := h22.below eWc3c4c7c10a12a13c11; have h25 := h25.below eWc3c4c7c10a12a13c11
                have zp := zp.on eWc3c4c7c10a12a13c11; have lp := Nat.lt_of_lt_of_le lp eWc3c4c7c10a12a13c11.size
                have zq := zq.on eWc3c4c7c10a12a13c11; have lq := Nat.lt_of_lt_of_le lq eWc3c4c7c10a12a13c11.size
                obtain ⟨k0, k1, k2, k3⟩ := zp
                have zp : Bx _ _ _ _ := ⟨k0, k1, k2, k3⟩
                refine take_call (i := 14) rfl (by kernel_rfl) (fun K hK => ?_)
                go_simp
                refine hK.out _ _ ?_ (fun hHeld => ?_)
                · exact keepS3 hHeld gp (by omega) _ _
                clear hK K
                obtain ⟨j0, j1, j2, j3⟩ : Bx ((Wc3c4c7c10a12a13c11.setCell ⟨p, 0, none⟩ (.bool nl)).setCell ⟨p, 1, none⟩ (.slice al ll cl)) q (.bool false) (.slice none 0 0) := (zq.put pq).put pq
                refine take_call (i := 15) rfl (by kernel_rfl) (fun K hK => ?_)
                go_simp
                refine hK.out _ _ ?_ (fun hHeld => ?_)
                · exact keepS3 hHeld gq (by omega) _ _
                clear hK K
                refine wpAnyH_done (by kernel_rfl) ?_ _
                exact ringTwo wa wb wc hL hR ya yb yc zp zq B1 gp gq pq Lp Lq Rp Rq xap xaq xbp xbq xcp xcq
            · skip
              go_simp
              refine hK.out _ _ (keepB3 hHeld ((Below.refl _ _).alloc (Nat.le_refl _) _)) (fun hHeld => ?_)
              clear hK K
              have zq := bx_new Wc3c4c7c10 (.bool false) (.slice none 0 0) 25
              have eWc3c4c7c10a13 : Below Wc3c4c7c10.heap.size Wc3c4c7c10 (Wc3c4c7c10.alloc (.cells #[.bool false, .slice none 0 0] 25)) := (Below.refl _ _).alloc (Nat.le_refl _) _
              have lq : Wc3c4c7c10.heap.size < (Wc3c4c7c10.alloc (.cells #[.bool false, .slice none 0 0] 25)).heap.size := by simp
              have gq : w.heap.size + 1 + 1 < Wc3c4c7c10.heap.size := bx_lt yc; have vq : wr.heap.size ≤ Wc3c4c7c10.heap.size := B9.size
              have xaq : NA Wc3c4c7c10.heap.size a1 m1 := wa.ni.sl.na (Nat.le_refl _)
              have xbq : NA Wc3c4c7c10.heap.size a2 m2 := wb.ni.sl.na (Nat.le_refl _)
              have xcq : NA Wc3c4c7c10.heap.size a3 m3 := wc.ni.sl.na (Nat.le_refl _)
              have Lq : NA Wc3c4c7c10.heap.size al ll := hL.nd.sl.na (Nat.le_refl _)
              generalize Wc3c4c7c10.alloc (.cells #[.bool false, .slice none 0 0] 25) = Wc3c4c7c10a13 at zq eWc3c4c7c10a13 lq hHeld ⊢
              have wa := wa.below eWc3c4c7c10a13; have wb := wb.below eWc3c4c7c10a13; have wc := wc.below eWc3c4c7c10a13; have ya := ya.on eWc3c4c7c10a13; have yb := yb.on eWc3c4c7c10a13; have yc := yc.on eWc3c4c7c10a13; have B1 := also B1 eWc3c4c7c10a13; have B9 := also B9 eWc3c4c7c10a13; have h20 := h20.below eWc3c4c7c10a13; have hL := hL.below eWc3c4c7c10a13; have h22 := h22.below eWc3c4c7c10a13; have h25 := h25.below eWc3c4c7c10a13
              generalize Wc3c4c7c10.heap.size = q at zq lq gq vq xaq xbq xcq Lq ⊢
              refine wpAnyH_ready (rs := [11, 12]) (by kernel_rfl) (by simp) (AllReadyH.cons (i := 11) rfl (fun K hK => ?_) (AllReadyH.cons (i := 12) rfl (fun K hK => ?_) AllReadyH.nil))
              · skip
                go_simp
                (go_at_call 6; refine (wAdd n22 n25 a22 a25 l22 l25 c22 c25 (X * Y) (X * Z) _ (h22.wi 32 (by decide) HXY.out) (h25.wi 32 (by decide) HXZ.out) (X * Y + X * Z) rfl).mono ?_; rintro e Wc3c4c7c10a13c11 ⟨nr, ar, lr, cr, rfl, hR, fR, eWc3c4c7c10a13c11⟩)
                have Rq : NA q ar lr := fR q lq
                refine hK.out _ _ (keepB3 hHeld eWc3c4c7c10a13c11) (fun hHeld => ?_)
                clear hK K
                have wa := wa.below eWc3c4c7c10a13c11; have wb := wb.below eWc3c4c7c10a13c11; have wc := wc.below eWc3c4c7c10a13c11; have ya := ya.on eWc3c4c7c10a13c11; have yb := yb.on eWc3c4c7c10a13c11; have yc := yc.on eWc3c4c7c10a13c11; have B1 := also B1 eWc3c4c7c10a13c11; have B9 := also B9 eWc3c4c7c10a13c11; have h20 := h20.below eWc3c4c7c10a13c11; have hL := hL.below eWc3c4c7c10a13c11; have h22 := h22.below eWc3c4c7c10a13c11; have h25 := h25.below eWc3c4c7c10a13c11
                have zq := zq.on eWc3c4c7c10a13c11; have lq := Nat.lt_of_lt_of_le lq eWc3c4c7c10a13c11.size
                refine take_call (i := 12) rfl (by kernel_rfl) (fun K hK => ?_)
                go_simp
                refine hK.out _ _ (keepB3 hHeld ((Below.refl _ _).alloc (Nat.le_refl _) _)) (fun hHeld => ?_)
                clear hK K
                have zp := bx_new Wc3c4c7c10a13c11 (.bool false) (.slice none 0 0) 25
                have eWc3c4c7c10a13c11a12 : Below Wc3c4c7c10a13c11.heap.size Wc3c4c7c10a13c11 (Wc3c4c7c10a13c11.alloc (.cells #[.bool false, .slice none 0 0] 25)) := (Below.refl _ _).alloc (Nat.le_refl _) _
                have lp : Wc3c4c7c10a13c11.heap.size < (Wc3c4c7c10a13c11.alloc (.cells #[.bool false, .slice none 0 0] 25)).heap.size := by simp
                have gp : w.heap.size + 1 + 1 < Wc3c4c7c10a13c11.heap.size := bx_lt yc; have vp : wr.heap.size ≤ Wc3c4c7c10a13c11.heap.size := B9.size
                have xap : NA Wc3c4c7c10a13c11.heap.size a1 m1 := wa.ni.sl.na (Nat.le_refl _)
                have xbp : NA Wc3c4c7c10a13c11.heap.size a2 m2 := wb.ni.sl.na (Nat.le_refl _)
                have xcp : NA Wc3c4c7c10a13c11.heap.size a3 m3 := wc.ni.sl.na (Nat.le_refl _)
                have Lp : NA Wc3c4c7c10a13c11.heap.size al ll := hL.nd.sl.na (Nat.le_refl _)
                have Rp : NA Wc3c4c7c10a13c11.heap.size ar lr := hR.nd.sl.na (Nat.le_refl _)
                have pq : Wc3c4c7c10a13c11.heap.size ≠ q := Nat.ne_of_gt lq
                generalize Wc3c4c7c10a13c11.alloc (.cells #[.bool false, .slice none 0 0] 25) = Wc3c4c7c10a13c11a12 at zp eWc3c4c7c10a13c11a12 lp hHeld ⊢
                have wa := wa.below eWc3c4c7c10a13c11a12; have wb := wb.below eWc3c4c7c10a13c11a12; have wc := wc.below eWc3c4c7c10a13c11a12; have ya := ya.on eWc3c4c7c10a13c11a12; have yb := yb.on eWc3c4c7c10a13c11a12; have yc := yc.on eWc3c4c7c10a13c11a12; have B1 := also B1 eWc3c4c7c10a13c11a12; have B9 := also B9 eWc3c4c7c10a13c11a12; have h20 := h20.below eWc3c4c7c10a13c11a12; have hL := hL.below eWc3c4c7c10a13c11a12; have h22 := h22.below eWc3c4c7c10a13c11a12; have h25 := h25.below eWc3c4c7c10a13c11a12; have hR := hR.below eWc3c4c7c10a13c11a12
                have zq := zq.on eWc3c4c7c10a13c11a12; have lq := Nat.lt_of_lt_of_le lq eWc3c4c7c10a13c11a12.size
                generalize Wc3c4c7c10a13c11.heap.size = p at zp lp gp vp xap xbp xcp Lp Rp pq ⊢
                obtain ⟨k0, k1, k2, k3⟩ := zp
                have zp : Bx _ _ _ _ := ⟨k0, k1, k2, k3⟩
                refine take_call (i := 14) rfl (by kernel_rfl) (fun K hK => ?_)
                go_simp
                refine hK.out _ _ ?_ (fun hHeld => ?_)
                · exact keepS3 hHeld gp (by omega) _ _
                clear hK K
                obtain ⟨j0, j1, j2, j3⟩ : Bx ((Wc3c4c7c10a13c11a12.setCell ⟨p, 0, none⟩ (.bool nl)).setCell ⟨p, 1, none⟩ (.slice al ll cl)) q (.bool false) (.slice none 0 0) := (zq.put pq).put pq
                refine take_call (i := 15) rfl (by kernel_rfl) (fun K hK => ?_)
                go_simp
                refine hK.out _ _ ?_ (fun hHeld => ?_)
                · exact keepS3 hHeld gq (by omega) _ _
                clear hK K
                refine wpAnyH_done (by kernel_rfl) ?_ _
                exact ringTwo wa wb wc hL hR ya yb yc zp zq B1 gp gq pq Lp Lq Rp Rq xap xaq xbp xbq xcp xcq
              · skip
                go_simp
                refine hK.out _ _ (keepB3 hHeld ((Below.refl _ _).alloc (Nat.le_refl _) _)) (fun hHeld => ?_)
                clear hK K
                have zp := bx_new Wc3c4c7c10a13 (.bool false) (.slice none 0 0) 25
                have eWc3c4c7c10a13a12 : Below Wc3c4c7c10a13.heap.size Wc3c4c7c10a13 (Wc3c4c7c10a13.alloc (.cells #[.bool false, .slice none 0 0] 25)) := (Below.refl _ _).alloc (Nat.le_refl _) _
                have lp : Wc3c4c7c10a13.heap.size < (Wc3c4c7c10a13.alloc (.cells #[.bool false, .slice none 0 0] 25)).heap.size := by simp
                have gp : w.heap.size + 1 + 1 < Wc3c4c7c10a13.heap.size := bx_lt yc; have vp : wr.heap.size ≤ Wc3c4c7c10a13.heap.size := B9.size
                have xap : NA Wc3c4c7c10a13.heap.size a1 m1 := wa.ni.sl.na (Nat.le_refl _)
                have xbp : NA Wc3c4c7c10a13.heap.size a2 m2 := wb.ni.sl.na (Nat.le_refl _)
                have xcp : NA Wc3c4c7c10a13.heap.size a3 m3 := wc.ni.sl.na (Nat.le_refl _)
                have Lp : NA Wc3c4c7c10a13.heap.size al ll := hL.nd.sl.na (Nat.le_refl _)
                have pq : Wc3c4c7c10a13.heap.size ≠ q := Nat.ne_of_gt lq
                generalize Wc3c4c7c10a13.alloc (.cells #[.bool false, .slice none 0 0] 25) = Wc3c4c7c10a13a12 at zp eWc3c4c7c10a13a12 lp hHeld ⊢
                have wa := wa.below eWc3c4c7c10a13a12; have wb := wb.below eWc3c4c7c10a13a12; have wc := wc.below eWc3c4c7c10a13a12; have ya := ya.on eWc3c4c7c10a13a12; have yb := yb.on eWc3c4c7c10a13a12; have yc := yc.on eWc3c4c7c10a13a12; have B1 := also B1 eWc3c4c7c10a13a12; have B9 := also B9 eWc3c4c7c10a13a12; have h20 := h20.below eWc3c4c7c10a13a12; have hL := hL.below eWc3c4c7c10a13a12; have h22 := h22.below eWc3c4c7c10a13a12; have h25 := h25.below eWc3c4c7c10a13a12
                have zq := zq.on eWc3c4c7c10a13a12; have lq := Nat.lt_of_lt_of_le lq eWc3c4c7c10a13a12.size
                generalize Wc3c4c7c10a13.heap.size = p at zp lp gp vp xap xbp xcp Lp pq ⊢
                refine take_call (i := 11) rfl (by kernel_rfl) (fun K hK => ?_)
                go_simp
                (go_at_call 6; refine (wAdd n22 n25 a22 a25 l22 l25 c22 c25 (X * Y) (X * Z) _ (h22.wi 32 (by decide) HXY.out) (h25.wi 32 (by decide) HXZ.out) (X * Y + X * Z) rfl).mono ?_; rintro e Wc3c4c7c10a13a12c11 ⟨nr, ar, lr, cr, rfl, hR, fR, eWc3c4c7c10a13a12c11⟩)
                have Rp : NA p ar lr := fR p lp
                have Rq : NA q ar lr := fR q lq
                refine hK.out _ _ (keepB3 hHeld eWc3c4c7c10a13a12c11) (fun hHeld => ?_)
                clear hK K
                have wa := wa.below eWc3c4c7c10a13a12c11; have wb := wb.below eWc3c4c7c10a13a12c11; have wc := wc.below eWc3c4c7c10a13a12c11; have ya := ya.on eWc3c4c7c10a13a12c11; have yb := yb.on eWc3c4c7c10a13a12c11; have yc := yc.on eWc3c4c7c10a13a12c11; have B1 := also B1 eWc3c4c7c10a13a12c11; have B9 := also B9 eWc3c4c7c10a13a12c11; have h20 := h20.below eWc3c4c7c10a13a12c11; have hL := hL.below eWc3c4c7c10a13a12c11; have h22 := h22.below eWc3c4c7c10a13a12c11; have h25 := h25.below eWc3c4c7c10a13a12c11
                have zp := zp.on eWc3c4c7c10a13a12c11; have lp := Nat.lt_of_lt_of_le lp eWc3c4c7c10a13a12c11.size
                have zq := zq.on eWc3c4c7c10a13a12c11; have lq := Nat.lt_of_lt_of_le lq eWc3c4c7c10a13a12c11.size
                obtain ⟨k0, k1, k2, k3⟩ := zp
                have zp : Bx _ _ _ _ := ⟨k0, k1, k2, k3⟩
                refine take_call (i := 14) rfl (by kernel_rfl) (fun K hK => ?_)
                go_simp
                refine hK.out _ _ ?_ (fun hHeld => ?_)
                · exact keepS3 hHeld gp (by omega) _ _
                clear hK K
                obtain ⟨j0, j1, j2, j3⟩ : Bx ((Wc3c4c7c10a13a12c11.setCell ⟨p, 0, none⟩ (.bool nl)).setCell ⟨p, 1, none⟩ (.slice al ll cl)) q (.bool false) (.slice none 0 0) := (zq.put pq).put pq
                refine take_call (i := 15) rfl (by kernel_rfl) (fun K hK => ?_)
                go_simp
                refine hK.out _ _ ?_ (fun hHeld => ?_)
                · exact keepS3 hHeld gq (by omega) _ _
                clear hK K
                refine wpAnyH_done (by kernel_rfl) ?_ _
                exact ringTwo wa wb wc hL hR ya yb yc zp zq B1 gp gq pq Lp Lq Rp Rq xap xaq xbp xbq xcp xcq
          · skip
            go_simp
            refine hK.out _ _ (keepB3 hHeld ((Below.refl _ _).alloc (Nat.le_refl _) _)) (fun hHeld => ?_)
            clear hK K
            have zp := bx_new Wc3c4c7 (.bool false) (.slice none 0 0) 25
            have eWc3c4c7a12 : Below Wc3c4c7.heap.size Wc3c4c7 (Wc3c4c7.alloc (.cells #[.bool false, .slice none 0 0] 25)) := (Below.refl _ _).alloc (Nat.le_refl _) _
            have lp : Wc3c4c7.heap.size < (Wc3c4c7.alloc (.cells #[.bool false, .slice none 0 0] 25)).heap.size := by simp
            have gp : w.heap.size + 1 + 1 < Wc3c4c7.heap.size := bx_lt yc; have vp : wr.heap.size ≤ Wc3c4c7.heap.size := B9.size
            have xap : NA Wc3c4c7.heap.size a1 m1 := wa.ni.sl.na (Nat.le_refl _)
            have xbp : NA Wc3c4c7.heap.size a2 m2 := wb.ni.sl.na (Nat.le_refl _)
            have xcp : NA Wc3c4c7.heap.size a3 m3 := wc.ni.sl.na (Nat.le_refl _)
            have Lp : NA Wc3c4c7.heap.size al ll := hL.nd.sl.na (Nat.le_refl _)
            generalize Wc3c4c7.alloc (.cells #[.bool false, .slice none 0 0] 25) = Wc3c4c7a12 at zp eWc3c4c7a12 lp hHeld ⊢
            have wa := wa.below eWc3c4c7a12; have wb := wb.below eWc3c4c7a12; have wc := wc.below eWc3c4c7a12; have ya := ya.on eWc3c4c7a12; have yb := yb.on eWc3c4c7a12; have yc := yc.on eWc3c4c7a12; have B1 := also B1 eWc3c4c7a12; have B9 := also B9 eWc3c4c7a12; have h20 := h20.below eWc3c4c7a12; have hL := hL.below eWc3c4c7a12; have h22 := h22.below eWc3c4c7a12
            generalize Wc3c4c7.heap.size = p at zp lp gp vp xap xbp xcp Lp ⊢
            refine wpAnyH_ready (rs := [10, 13]) (by kernel_rfl) (by simp) (AllReadyH.cons (i := 10) rfl (fun K hK => ?_) (AllReadyH.cons (i := 13) rfl (fun K hK => ?_) AllReadyH.nil))
            · skip
              go_simp
              (go_at_call 5; refine (wMul n o a1 a3 m1 m3 c1 c3 X Z _ wa wc (X * Z) rfl).mono ?_; rintro e Wc3c4c7a12c10 ⟨n25, a25, l25, c25, rfl, h25, f25, eWc3c4c7a12c10⟩)
              refine hK.out _ _ (keepB3 hHeld eWc3c4c7a12c10) (fun hHeld => ?_)
              clear hK K
              have wa := wa.below eWc3c4c7a12c10; have wb := wb.below eWc3c4c7a12c10; have wc := wc.below eWc3c4c7a12c10; have ya := ya.on eWc3c4c7a12c10; have yb := yb.on eWc3c4c7a12c10; have yc := yc.on eWc3c4c7a12c10; have B1 := also B1 eWc3c4c7a12c10; have B9 := also B9 eWc3c4c7a12c10; have h20 := h20.below eWc3c4c7a12c10; have hL := hL.below eWc3c4c7a12c10; have h22 := h22.below eWc3c4c7a12c10
              have zp := zp.on eWc3c4c7a12c10; have lp := Nat.lt_of_lt_of_le lp eWc3c4c7a12c10.size
              refine wpAnyH_ready (rs := [11, 13]) (by kernel_rfl) (by simp) (AllReadyH.cons (i := 11) rfl (fun K hK => ?_) (AllReadyH.cons (i := 13) rfl (fun K hK => ?_) AllReadyH.nil))
              · skip
                go_simp
                (go_at_call 6; refine (wAdd n22 n25 a22 a25 l22 l25 c22 c25 (X * Y) (X * Z) _ (h22.wi 32 (by decide) HXY.out) (h25.wi 32 (by decide) HXZ.out) (X * Y + X * Z) rfl).mono ?_; rintro e Wc3c4c7a12c10c11 ⟨nr, ar, lr, cr, rfl, hR, fR, eWc3c4c7a12c10c11⟩)
                have Rp : NA p ar lr := fR p lp
                refine hK.out _ _ (keepB3 hHeld eWc3c4c7a12c10c11) (fun hHeld => ?_)
                clear hK K
                have wa := wa.below eWc3c4c7a12c10c11; have wb := wb.below eWc3c4c7a12c10c11; have wc := wc.below eWc3c4c7a12c10c11; have ya := ya.on eWc3c4c7a12c10c11; have yb := yb.on eWc3c4c7a12c10c11; have yc := yc.on eWc3c4c7a12c10c11; have B1 := also B1 eWc3c4c7a12c10c11; have B9 := also B9 eWc3c4c7a12c10c11; have h20 := h20.below eWc3c4c7a12c10c11; have hL := hL.below eWc3c4c7a12c10c11; have h22 := h22.below eWc3c4c7a12c10c11; have h25 := h25.below eWc3c4c7a12c10c11
                have zp := zp.on eWc3c4c7a12c10c11; have lp := Nat.lt_of_lt_of_le lp eWc3c4c7a12c10c11.size
                refine take_call (i := 13) rfl (by kernel_rfl) (fun K hK => ?_)
                go_simp
                refine hK.out _ _ (keepB3 hHeld ((Below.refl _ _).alloc (Nat.le_refl _) _)) (fun hHeld => ?_)
                clear hK K
                have zq := bx_new Wc3c4c7a12c10c11 (.bool false) (.slice none 0 0) 25
                have eWc3c4c7a12c10c11a13 : Below Wc3c4c7a12c10c11.heap.size Wc3c4c7a12c10c11 (Wc3c4c7a12c10c11.alloc (.cells #[.bool false, .slice none 0 0] 25)) := (Below.refl _ _).alloc (Nat.le_refl _) _
                have lq : Wc3c4c7a12c10c11.heap.size < (Wc3c4c7a12c10c11.alloc (.cells #[.bool false, .slice none 0 0] 25)).heap.size := by simp
                have gq : w.heap.size + 1 + 1 < Wc3c4c7a12c10c11.heap.size := bx_lt yc; have vq : wr.heap.size ≤ Wc3c4c7a12c10c11.heap.size := B9.size
                have xaq : NA Wc3c4c7a12c10c11.heap.size a1 m1 := wa.ni.sl.na (Nat.le_refl _)
                have xbq : NA Wc3c4c7a12c10c11.heap.size a2 m2 := wb.ni.sl.na (Nat.le_refl _)
                have xcq : NA Wc3c4c7a12c10c11.heap.size a3 m3 := wc.ni.sl.na (Nat.le_refl _)
                have Lq : NA Wc3c4c7a12c10c11.heap.size al ll := hL.nd.sl.na (Nat.le_refl _)
                have Rq : NA Wc3c4c7a12c10c11.heap.size ar lr := hR.nd.sl.na (Nat.le_refl _)
                have pq : p ≠ Wc3c4c7a12c10c11.heap.size := Nat.ne_of_lt lp
                generalize Wc3c4c7a12c10c11.alloc (.cells #[.bool false, .slice none 0 0] 25) = Wc3c4c7a12c10c11a13 at zq eWc3c4c7a12c10c11a13 lq hHeld ⊢
                have wa := wa.below eWc3c4c7a12c10c11a13; have wb := wb.below eWc3c4c7a12c10c11a13; have wc := wc.below eWc3c4c7a12c10c11a13; have ya := ya.on eWc3c4c7a12c10c11a13; have yb := yb.on eWc3c4c7a12c10c11a13; have yc := yc.on eWc3c4c7a12c10c11a13; have B1 := also B1 eWc3c4c7a12c10c11a13; have B9 := also B9 eWc3c4c7a12c10c11a13; have h20 := h20.below eWc3c4c7a12c10c11a13; have hL := hL.below eWc3c4c7a12c10c11a13; have h22 := h22.below eWc3c4c7a12c10c11a13; have h25 := h25.below eWc3c4c7a12c10c11a13; have hR := hR.below eWc3c4c7a12c10c11a13
                have zp := zp.on eWc3c4c7a12c10c11a13; have lp := Nat.lt_of_lt_of_le lp eWc3c4c7a12c10c11a13.size
                generalize Wc3c4c7a12c10c11.heap.size = q at zq lq gq vq xaq xbq xcq Lq Rq pq ⊢
                obtain ⟨k0, k1, k2, k3⟩ := zp
                have zp : Bx _ _ _ _ := ⟨k0, k1, k2, k3⟩
                refine take_call (i := 14) rfl (by kernel_rfl) (fun K hK => ?_)
                go_simp
                refine hK.out _ _ ?_ (fun hHeld => ?_)
                · exact keepS3 hHeld gp (by omega) _ _
                clear hK K
                obtain ⟨j0, j1, j2, j3⟩ : Bx ((Wc3c4c7a12c10c11a13.setCell ⟨p, 0, none⟩ (.bool nl)).setCell ⟨p, 1, none⟩ (.slice al ll cl)) q (.bool false) (.slice none 0 0) := (zq.put pq).put pq
                refine take_call (i := 15) rfl (by kernel_rfl) (fun K hK => ?_)
                go_simp
                refine hK.out _ _ ?_ (fun hHeld => ?_)
                · exact keepS3 hHeld gq (by omega) _ _
                clear hK K
                refine wpAnyH_done (by kernel_rfl) ?_ _
                exact ringTwo wa wb wc hL hR ya yb yc zp zq B1 gp gq pq Lp Lq Rp Rq xap xaq xbp xbq xcp xcq
              · skip
                go_simp
                refine hK.out _ _ (keepB3 hHeld ((Below.refl _ _).alloc (Nat.le_refl _) _)) (fun hHeld => ?_)
                clear hK K
                have zq := bx_new Wc3c4c7a12c10 (.bool false) (.slice none 0 0) 25
                have eWc3c4c7a12c10a13 : Below Wc3c4c7a12c10.heap.size Wc3c4c7a12c10 (Wc3c4c7a12c10.alloc (.cells #[.bool false, .slice none 0 0] 25)) := (Below.refl _ _).alloc (Nat.le_refl _) _
                have lq : Wc3c4c7a12c10.heap.size < (Wc3c4c7a12c10.alloc (.cells #[.bool false, .slice none 0 0] 25)).heap.size := by simp
                have gq : w.heap.size + 1 + 1 < Wc3c4c7a12c10.heap.size := bx_lt yc; have vq : wr.heap.size ≤ Wc3c4c7a12c10.heap.size := B9.size
                have xaq : NA Wc3c4c7a12c10.heap.size a1 m1 := wa.ni.sl.na (Nat.le_refl _)
                have xbq : NA Wc3c4c7a12c10.heap.size a2 m2 := wb.ni.sl.na (Nat.le_refl _)
                have xcq : NA Wc3c4c7a12c10.heap.size a3 m3 := wc.ni.sl.na (Nat.le_refl _)
                have Lq : NA Wc3c4c7a12c10.heap.size al ll := hL.nd.sl.na (Nat.le_refl _)
                have pq : p ≠ Wc3c4c7a12c10.heap.size := Nat.ne_of_lt lp
                generalize Wc3c4c7a12c10.alloc (.cells #[.bool false, .slice none 0 0] 25) = Wc3c4c7a12c10a13 at zq eWc3c4c7a12c10a13 lq hHeld ⊢
                have wa := wa.below eWc3c4c7a12c10a13; have wb := wb.below eWc3c4c7a12c10a13; have wc := wc.below eWc3c4c7a12c10a13; have ya := ya.on eWc3c4c7a12c10a13; have yb := yb.on eWc3c4c7a12c10a13; have yc := yc.on eWc3c4c7a12c10a13; have B1 := also B1 eWc3c4c7a12c10a13; have B9 := also B9 eWc3c4c7a12c10a13; have h20 := h20.below eWc3c4c7a12c10a13; have hL := hL.below eWc3c4c7a12c10a13; have h22 := h22.below eWc3c4c7a12c10a13; have h25 := h25.below eWc3c4c7a12c10a13
                have zp := zp.on eWc3c4c7a12c10a13; have lp := Nat.lt_of_lt_of_le lp eWc3c4c7a12c10a13.size
                generalize Wc3c4c7a12c10.heap.size = q at zq lq gq vq xaq xbq xcq Lq pq ⊢
                refine take_call (i := 11) rfl (by kernel_rfl) (fun K hK => ?_)
                go_simp
                (go_at_call 6; refine (wAdd n22 n25 a22 a25 l22 l25 c22 c25 (X * Y) (X * Z) _ (h22.wi 32 (by decide) HXY.out) (h25.wi 32 (by decide) HXZ.out) (X * Y + X * Z) rfl).mono ?_; rintro e Wc3c4c7a12c10a13c11 ⟨nr, ar, lr, cr, rfl, hR, fR, eWc3c4c7a12c10a13c11⟩)
                have Rp : NA p ar lr := fR p lp
                have Rq : NA q ar lr := fR q lq
                refine hK.out _ _ (keepB3 hHeld eWc3c4c7a12c10a13c11) (fun hHeld => ?_)
                clear hK K
                have wa := wa.below eWc3c4c7a12c10a13c11; have wb := wb.below eWc3c4c7a12c10a13c11; have wc := wc.below eWc3c4c7a12c10a13c11; have ya := ya.on eWc3c4c7a12c10a13c11; have yb := yb.on eWc3c4c7a12c10a13c11; have yc := yc.on eWc3c4c7a12c10a13c11; have B1 := also B1 eWc3c4c7a12c10a13c11; have B9 := also B9 eWc3c4c7a12c10a13c11; have h20 := h20.below eWc3c4c7a12c10a13c11; have hL := hL.below eWc3c4c7a12c10a13c11; have h22 := h22.below eWc3c4c7a12c10a13c11; have h25 := h25.below eWc3c4c7a12c10a13c11
                have zp := zp.on eWc3c4c7a12c10a13c11; have lp := Nat.lt_of_lt_of_le lp eWc3c4c7a12c10a13c11.size
                have zq := zq.on eWc3c4c7a12c10a13c11; have lq := Nat.lt_of_lt_of_le lq eWc3c4c7a12c10a13c11.size
                obtain ⟨k0, k1, k2, k3⟩ := zp
                have zp : Bx _ _ _ _ := ⟨k0, k1, k2, k3⟩
                refine take_call (i := 14) rfl (by kernel_rfl) (fun K hK => ?_)
                go_simp
                refine hK.out _ _ ?_ (fun hHeld => ?_)
                · exact keepS3 hHeld gp (by omega) _ _
                clear hK K
                obtain ⟨j0, j1, j2, j3⟩ : Bx ((Wc3c4c7a12c10a13c11.setCell ⟨p, 0, none⟩ (.bool nl)).setCell ⟨p, 1, none⟩ (.slice al ll cl)) q (.bool false) (.slice none 0 0) := (zq.put pq).put pq
                refine take_call (i := 15) rfl (by kernel_rfl) (fun K hK => ?_)
                go_simp
                refine hK.out _ _ ?_ (fun hHeld => ?_)
                · exact keepS3 hHeld gq (by omega) _ _
                clear hK K
                refine wpAnyH_done (by kernel_rfl) ?_ _
                exact ringTwo wa wb wc hL hR ya yb yc zp zq B1 gp gq pq Lp Lq Rp Rq xap xaq xbp xbq xcp xcq
            · skip
              go_simp
              refine hK.out _ _ (keepB3 hHeld ((Below.refl _ _).alloc (Nat.le_refl _) _)) (fun hHeld => ?_)
              clear hK K
              have zq := bx_new Wc3c4c7a12 (.bool false) (.slice none 0 0) 25
              have eWc3c4c7a12a13 : Below Wc3c4c7a12.heap.size Wc3c4c7a12 (Wc3c4c7a12.alloc (.cells #[.bool false, .slice none 0 0] 25)) := (Below.refl _ _).alloc (Nat.le_refl _) _
              have lq : Wc3c4c7a12.heap.size < (Wc3c4c7a12.alloc (.cells #[.bool false, .slice none 0 0] 25)).heap.size := by simp
              have gq : w.heap.size + 1 + 1 < Wc3c4c7a12.heap.size := bx_lt yc; have vq : wr.heap.size ≤ Wc3c4c7a12.heap.size := B9.size
              have xaq : NA Wc3c4c7a12.heap.size a1 m1 := wa.ni.sl.na (Nat.le_refl _)
              have xbq : NA Wc3c4c7a12.heap.size a2 m2 := wb.ni.sl.na (Nat.le_refl _)
              have xcq : NA Wc3c4c7a12.heap.size a3 m3 := wc.ni.sl.na (Nat.le_refl _)
              have Lq : NA Wc3c4c7a12.heap.size al ll := hL.nd.sl.na (Nat.le_refl _)
              have pq : p ≠ Wc3c4c7a12.heap.size := Nat.ne_of_lt lp
              generalize Wc3c4c7a12.alloc (.cells #[.bool false, .slice none 0 0] 25) = Wc3c4c7a12a13 at zq eWc3c4c7a12a13 lq hHeld ⊢
              have wa := wa.below eWc3c4c7a12a13; have wb := wb.below eWc3c4c7a12a13; have wc := wc.below eWc3c4c7a12a13; have ya := ya.on eWc3c4c7a12a13; have yb := yb.on eWc3c4c7a12a13; have yc := yc.on eWc3c4c7a12a13; have B1 := also B1 eWc3c4c7a12a13; have B9 := also B9 eWc3c4c7a12a13; have h20 := h20.below eWc3c4c7a12a13; have hL := hL.below eWc3c4c7a12a13; have h22 := h22.below eWc3c4c7a12a13
              have zp := zp.on eWc3c4c7a12a13; have lp := Nat.lt_of_lt_of_le lp eWc3c4c7a12a13.size
              generalize Wc3c4c7a12.heap.size = q at zq lq gq vq xaq xbq xcq Lq pq ⊢
              refine take_call (i := 10) rfl (by kernel_rfl) (fun K hK => ?_)
              go_simp
              (go_at_call 5; refine (wMul n o a1 a3 m1 m3 c1 c3 X Z _ wa wc (X * Z) rfl).mono ?_; rintro e Wc3c4c7a12a13c10 ⟨n25, a25, l25, c25, rfl, h25, f25, eWc3c4c7a12a13c10⟩)
              refine hK.out _ _ (keepB3 hHeld eWc3c4c7a12a13c10) (fun hHeld => ?_)
              clear hK K
              have wa := wa.below eWc3c4c7a12a13c10; have wb := wb.below eWc3c4c7a12a13c10; have wc := wc.below eWc3c4c7a12a13c10; have ya := ya.on eWc3c4c7a12a13c10; have yb := yb.on eWc3c4c7a12a13c10; have yc := yc.on eWc3c4c7a12a13c10; have B1 := also B1 eWc3c4c7a12a13c10; have B9 := also B9 eWc3c4c7a12a13c10; have h20 := h20.below eWc3c4c7a12a13c10; have hL := hL.below eWc3c4c7a12a13c10; have h22 := h22.below eWc3c4c7a12a13c10
              have zp := zp.on eWc3c4c7a12a13c10; have lp := Nat.lt_of_lt_of_le lp eWc3c4c7a12a13c10.size
              have zq := zq.on eWc3c4c7a12a13c10; have lq := Nat.lt_of_lt_of_le lq eWc3c4c7a12a13c10.size
              refine take_call (i := 11) rfl (by kernel_rfl) (fun K hK => ?_)
              go_simp
              (go_at_call 6; refine (wAdd n22 n25 a22 a25 l22 l25 c22 c25 (X * Y) (X * Z) _ (h22.wi 32 (by decide) HXY.out) (h25.wi 32 (by decide) HXZ.out) (X * Y + X * Z) rfl).mono ?_; rintro e Wc3c4c7a12a13c10c11 ⟨nr, ar, lr, cr, rfl, hR, fR, eWc3c4c7a12a13c10c11⟩)
              have Rp : NA p ar lr := fR p lp
              have Rq : NA q ar lr := fR q lq
              refine hK.out _ _ (keepB3 hHeld eWc3c4c7a12a13c10c11) (fun hHeld => ?_)
              clear hK K
              have wa := wa.below eWc3c4c7a12a13c10c11; have wb := wb.below eWc3c4c7a12a13c10c11; have wc := wc.below eWc3c4c7a12a13c10c11; have ya := ya.on eWc3c4c7a12a13c10c11; have yb := yb.on eWc3c4c7a12a13c10c11; have yc := yc.on eWc3c4c7a12a13c10c11; have B1 := also B1 eWc3c4c7a12a13c10c11; have B9 := also B9 eWc3c4c7a12a13c10c11; have h20 := h20.below eWc3c4c7a12a13c10c11; have hL := hL.below eWc3c4c7a12a13c10c11; have h22 := h22.below eWc3c4c7a12a13c10c11; have h25 := h25.below eWc3c4c7a12a13c10c11
              have zp := zp.on eWc3c4c7a12a13c10c11; have lp := Nat.lt_of_lt_of_le lp eWc3c4c7a12a13c10c11.size
              have zq := zq.on eWc3c4c7a12a13c10c11; have lq := Nat.lt_of_lt_of_le lq eWc3c4c7a12a13c10c11.size
              obtain ⟨k0, k1, k2, k3⟩ := zp
              have zp : Bx _ _ _ _ := ⟨k0, k1, k2, k3⟩
              refine take_call (i := 14) rfl (by kernel_rfl) (fun K hK => ?_)
              go_simp
              refine hK.out _ _ ?_ (fun hHeld => ?_)
              · exact keepS3 hHeld gp (by omega) _ _
              clear hK K
              obtain ⟨j0, j1, j2, j3⟩ : Bx ((Wc3c4c7a12a13c10c11.setCell ⟨p, 0, none⟩ (.bool nl)).setCell ⟨p, 1, none⟩ (.slice al ll cl)) q (.bool false) (.slice none 0 0) := (zq.put pq).put pq
              refine take_call (i := 15) rfl (by kernel_rfl) (fun K hK => ?_)
              go_simp
              refine hK.out _ _ ?_ (fun hHeld => ?_)
              · exact keepS3 hHeld gq (by omega) _ _
              clear hK K
              refine wpAnyH_done (by kernel_rfl) ?_ _
              exact ringTwo wa wb wc hL hR ya yb yc zp zq B1 gp gq pq Lp Lq Rp Rq xap xaq xbp xbq xcp xcq
          · skip
            go_simp
            refine hK.out _ _ (keepB3 hHeld ((Below.refl _ _).alloc (Nat.le_refl _) _)) (fun hHeld => ?_)
            clear hK K
            have zq := bx_new Wc3c4c7 (.bool false) (.slice none 0 0) 25
            have eWc3c4c7a13 : Below Wc3c4c7.heap.size Wc3c4c7 (Wc3c4c7.alloc (.cells #[.bool false, .slice none 0 0] 25)) := (Below.refl _ _).alloc (Nat.le_refl _) _
            have lq : Wc3c4c7.heap.size < (Wc3c4c7.alloc (.cells #[.bool false, .slice none 0 0] 25)).heap.size := by simp
            have gq : w.heap.size + 1 + 1 < Wc3c4c7.heap.size := bx_lt yc; have vq : wr.heap.size ≤ Wc3c4c7.heap.size := B9.size
            have xaq : NA Wc3c4c7.heap.size a1 m1 := wa.ni.sl.na (Nat.le_refl _)
            have xbq : NA Wc3c4c7.heap.size a2 m2 := wb.ni.sl.na (Nat.le_refl _)
            have xcq : NA Wc3c4c7.heap.size a3 m3 := wc.ni.sl.na (Nat.le_refl _)
            have Lq : NA Wc3c4c7.heap.size al ll := hL.nd.sl.na (Nat.le_refl _)
            generalize Wc3c4c7.alloc (.cells #[.bool false, .slice none 0 0] 25) = Wc3c4c7a13 at zq eWc3c4c7a13 lq hHeld ⊢
            have wa := wa.below eWc3c4c7a13; have wb := wb.below eWc3c4c7a13; have wc := wc.below eWc3c4c7a13; have ya := ya.on eWc3c4c7a13; have yb := yb.on eWc3c4c7a13; have yc := yc.on eWc3c4c7a13; have B1 := also B1 eWc3c4c7a13; have B9 := also B9 eWc3c4c7a13; have h20 := h20.below eWc3c4c7a13; have hL := hL.below eWc3c4c7a13; have h22 := h22.below eWc3c4c7a13
            generalize Wc3c4c7.heap.size = q at zq lq gq vq xaq xbq xcq Lq ⊢
            refine wpAnyH_ready (rs := [10, 12]) (by kernel_rfl) (by simp) (AllReadyH.cons (i := 10) rfl (fun K hK => ?_) (AllReadyH.cons (i := 12) rfl (fun K hK => ?_) AllReadyH.nil))
            · skip
              go_simp
              (go_at_call 5; refine (wMul n o a1 a3 m1 m3 c1 c3 X Z _ wa wc (X * Z) rfl).mono ?_; rintro e Wc3c4c7a13c10 ⟨n25, a25, l25, c25, rfl, h25, f25, eWc3c4c7a13c10⟩)
              refine hK.out _ _ (keepB3 hHeld eWc3c4c7a13c10) (fun hHeld => ?_)
              clear hK K
              have wa := wa.below eWc3c4c7a13c10; have wb := wb.below eWc3c4c7a13c10; have wc := wc.below eWc3c4c7a13c10; have ya := ya.on eWc3c4c7a13c10; have yb := yb.on eWc3c4c7a13c10; have yc := yc.on eWc3c4c7a13c10; have B1 := also B1 eWc3c4c7a13c10; have B9 := also B9 eWc3c4c7a13c10; have h20 := h20.below eWc3c4c7a13c10; have hL := hL.below eWc3c4c7a13c10; have h22 := h22.below eWc3c4c7a13c10
              have zq := zq.on eWc3c4c7a13c10; have lq := Nat.lt_of_lt_of_le lq eWc3c4c7a13c10.size
              refine wpAnyH_ready (rs := [11, 12]) (by kernel_rfl) (by simp) (AllReadyH.cons (i := 11) rfl (fun K hK => ?_) (AllReadyH.cons (i := 12) rfl (fun K hK => ?_) AllReadyH.nil))
              · skip
                go_simp
                (go_at_call 6; refine (wAdd n22 n25 a22 a25 l22 l25 c22 c25 (X * Y) (X * Z) _ (h22.wi 32 (by decide) HXY.out) (h25.wi 32 (by decide) HXZ.out) (X * Y + X * Z) rfl).mono ?_; rintro e Wc3c4c7a13c10c11 ⟨nr, ar, lr, cr, rfl, hR, fR, eWc3c4c7a13c10c11⟩)
                have Rq : NA q ar lr := fR q lq
                refine hK.out _ _ (keepB3 hHeld eWc3c4c7a13c10c11) (fun hHeld => ?_)
                clear hK K
                have wa := wa.below eWc3c4c7a13c10c11; have wb := wb.below eWc3c4c7a13c10c11; have wc := wc.below eWc3c4c7a13c10c11; have ya := ya.on eWc3c4c7a13c10c11; have yb := yb.on eWc3c4c7a13c10c11; have yc := yc.on eWc3c4c7a13c10c11; have B1 := also B1 eWc3c4c7a13c10c11; have B9 := also B9 eWc3c4c7a13c10c11; have h20 := h20.below eWc3c4c7a13c10c11; have hL := hL.below eWc3c4c7a13c10c11; have h22 := h22.below eWc3c4c7a13c10c11; have h25 := h25.below eWc3c4c7a13c10c11
                have zq := zq.on eWc3c4c7a13c10c11; have lq := Nat.lt_of_lt_of_le lq eWc3c4c7a13c10c11.size
                refine take_call (i := 12) rfl (by kernel_rfl) (fun K hK => ?_)
                go_simp
                refine hK.out _ _ (keepB3 hHeld ((Below.refl _ _).alloc (Nat.le_refl _) _)) (fun hHeld => ?_)
                clear hK K
                have zp := bx_new Wc3c4c7a13c10c11 (.bool false) (.slice none 0 0) 25
                have eWc3c4c7a13c10c11a12 : Below Wc3c4c7a13c10c11.heap.size Wc3c4c7a13c10c11 (Wc3c4c7a13c10c11.alloc (.cells #[.bool false, .slice none 0 0] 25)) := (Below.refl _ _).alloc (Nat.le_refl _) _
                have lp : Wc3c4c7a13c10c11.heap.size < (Wc3c4c7a13c10c11.alloc (.cells #[.bool false, .slice none 0 0] 25)).heap.size := by simp
                have gp : w.heap.size + 1 + 1 < Wc3c4c7a13c10c11.heap.size := bx_lt yc; have vp : wr.heap.size ≤ Wc3c4c7a13c10c11.heap.size := B9.size
                have xap : NA Wc3c4c7a13c10c11.heap.size a1 m1 := wa.ni.sl.na (Nat.le_refl _)
                have xbp : NA Wc3c4c7a13c10c11.heap.size a2 m2 := wb.ni.sl.na (Nat.le_refl _)
                have xcp : NA Wc3c4c7a13c10c11.heap.size a3 m3 := wc.ni.sl.na (Nat.le_refl _)
                have Lp : NA Wc3c4c7a13c10c11.heap.size al ll := hL.nd.sl.na (Nat.le_refl _)
                have Rp : NA Wc3c4c7a13c10c11.heap.size ar lr := hR.nd.sl.na (Nat.le_refl _)
                have pq : Wc3c4c7a13c10c11.heap.size ≠ q := Nat.ne_of_gt lq
                generalize Wc3c4c7a13c10c11.alloc (.cells #[.bool false, .slice none 0 0] 25) = Wc3c4c7a13c10c11a12 at zp eWc3c4c7a13c10c11a12 lp hHeld ⊢
                have wa := wa.below eWc3c4c7a13c10c11a12; have wb := wb.below eWc3c4c7a13c10c11a12; have wc := wc.below eWc3c4c7a13c10c11a12; have ya := ya.on eWc3c4c7a13c10c11a12; have yb := yb.on eWc3c4c7a13c10c11a12; have yc := yc.on eWc3c4c7a13c10c11a12; have B1 := also B1 eWc3c4c7a13c10c11a12; have B9 := also B9 eWc3c4c7a13c10c11a12; have h20 := h20.below eWc3c4c7a13c10c11a12; have hL := hL.below eWc3c4c7a13c10c11a12; have h22 := h22.below eWc3c4c7a13c10c11a12; have h25 := h25.below eWc3c4c7a13c10c11a12; have hR := hR.below eWc3c4c7a13c10c11a12
                have zq := zq.on eWc3c4c7a13c10c11a12; have lq := Nat.lt_of_lt_of_le lq eWc3c4c7a13c10c11a12.size
                generalize Wc3c4c7a13c10c11.heap.size = p at zp lp gp vp xap xbp xcp Lp Rp pq ⊢
                obtain ⟨k0, k1, k2, k3⟩ := zp
                have zp : Bx _ _ _ _ := ⟨k0, k1, k2, k3⟩
                refine take_call (i := 14) rfl (by kernel_rfl) (fun K hK => ?_)
                go_simp
                refine hK.out _ _ ?_ (fun hHeld => ?_)
                · exact keepS3 hHeld gp (by omega) _ _
                clear hK K
                obtain ⟨j0, j1, j2, j3⟩ : Bx ((Wc3c4c7a13c10c11a12.setCell ⟨p, 0, none⟩ (.bool nl)).setCell ⟨p, 1, none⟩ (.slice al ll cl)) q (.bool false) (.slice none 0 0) := (zq.put pq).put pq
                refine take_call (i := 15) rfl (by kernel_rfl) (fun K hK => ?_)
                go_simp
                refine hK.out _ _ ?_ (fun hHeld => ?_)
                · exact keepS3 hHeld gq (by omega) _ _
                clear hK K
                refine wpAnyH_done (by kernel_rfl) ?_ _
                exact ringTwo wa wb wc hL hR ya yb yc zp zq B1 gp gq pq Lp Lq Rp Rq xap xaq xbp xbq xcp xcq
              · skip
                go_simp
                refine hK.out _ _ (keepB3 hHeld ((Below.refl _ _).alloc (Nat.le_refl _) _)) (fun hHeld => ?_)
                clear hK K
                have zp := bx_new Wc3c4c7a13c10 (.bool false) (.slice none 0 0) 25
                have eWc3c4c7a13c10a12 : Below Wc3c4c7a13c10.heap.size Wc3c4c7a13c10 (Wc3c4c7a13c10.alloc (.cells #[.bool false, .slice none 0 0] 25)) := (Below.refl _ _).alloc (Nat.le_refl _) _
                have lp : Wc3c4c7a13c10.heap.size < (Wc3c4c7a13c10.alloc (.cells #[.bool false, .slice none 0 0] 25)).heap.size := by simp
                have gp : w.heap.size + 1 + 1 < Wc3c4c7a13c10.heap.size := bx_lt yc; have vp : wr.heap.size ≤ Wc3c4c7a13c10.heap.size := B9.size
                have xap : NA Wc3c4c7a13c10.heap.size a1 m1 := wa.ni.sl.na (Nat.le_refl _)
                have xbp : NA Wc3c4c7a13c10.heap.size a2 m2 := wb.ni.sl.na (Nat.le_refl _)
                have xcp : NA Wc3c4c7a13c10.heap.size a3 m3 := wc.ni.sl.na (Nat.le_refl _)
                have Lp : NA Wc3c4c7a13c10.heap.size al ll := hL.nd.sl.na (Nat.le_refl _)
                have pq : Wc3c4c7a13c10.heap.size ≠ q := Nat.ne_of_gt lq
                generalize Wc3c4c7a13c10.alloc (.cells #[.bool false, .slice none 0 0] 25) = Wc3c4c7a13c10a12 at zp eWc3c4c7a13c10a12 lp hHeld ⊢
                have wa := wa.below eWc3c4c7a13c10a12; have wb := wb.below eWc3c4c7a13c10a12; have wc := wc.below eWc3c4c7a13c10a12; have ya := ya.on eWc3c4c7a13c10a12; have yb := yb.on eWc3c4c7a13c10a12; have yc := yc.on eWc3c4c7a13c10a12; have B1 := also B1 eWc3c4c7a13c10a12; have B9 := also B9 eWc3c4c7a13c10a12; have h20 := h20.below eWc3c4c7a13c10a12; have hL := hL.below eWc3c4c7a13c10a12; have h22 := h22.below eWc3c4c7a13c10a12; have h25 := h25.below eWc3c4c7a13c10a12
                have zq := zq.on eWc3c4c7a13c10a12; have lq := Nat.lt_of_lt_of_le lq eWc3c4c7a13c10a12.size
                generalize Wc3c4c7a13c10.heap.size = p at zp lp gp vp xap xbp xcp Lp pq ⊢
                refine take_call (i := 11) rfl (by kernel_rfl) (fun K hK => ?_)
                go_simp
                (go_at_call 6; refine (wAdd n22 n25 a22 a25 l22 l25 c22 c25 (X * Y) (X * Z) _ (h22.wi 32 (by decide) HXY.out) (h25.wi 32 (by decide) HXZ.out) (X * Y + X * Z) rfl).mono ?_; rintro e Wc3c4c7a13c10a12c11 ⟨nr, ar, lr, cr, rfl, hR, fR, eWc3c4c7a13c10a12c11⟩)
                have Rp : NA p ar lr := fR p lp
                have Rq : NA q ar lr := fR q lq
                refine hK.out _ _ (keepB3 hHeld eWc3c4c7a13c10a12c11) (fun hHeld => ?_)
                clear hK K
                have wa := wa.below eWc3c4c7a13c10a12c11; have wb := wb.below eWc3c4c7a13c10a12c11; have wc := wc.below eWc3c4c7a13c10a12c11; have ya := ya.on eWc3c4c7a13c10a12c11; have yb := yb.on eWc3c4c7a13c10a12c11; have yc := yc.on eWc3c4c7a13c10a12c11; have B1 := also B1 eWc3c4c7a13c10a12c11; have B9 := also B9 eWc3c4c7a13c10a12c11; have h20 := h20.below eWc3c4c7a13c10a12c11; have hL := hL.below eWc3c4c7a13c10a12c11; have h22 := h22.below eWc3c4c7a13c10a12c11; have h25 := h25.below eWc3c4c7a13c10a12c11
                have zp := zp.on eWc3c4c7a13c10a12c11; have lp := Nat.lt_of_lt_of_le lp eWc3c4c7a13c10a12c11.size
                have zq := zq.on eWc3c4c7a13c10a12c11; have lq := Nat.lt_of_lt_of_le lq eWc3c4c7a13c10a12c11.size
                obtain ⟨k0, k1, k2, k3⟩ := zp
                have zp : Bx _ _ _ _ := ⟨k0, k1, k2, k3⟩
                refine take_call (i := 14) rfl (by kernel_rfl) (fun K hK => ?_)
                go_simp
                refine hK.out _ _ ?_ (fun hHeld => ?_)
                · exact keepS3 hHeld gp (by omega) _ _
                clear hK K
                obtain ⟨j0, j1, j2, j3⟩ : Bx ((Wc3c4c7a13c10a12c11.setCell ⟨p, 0, none⟩ (.bool nl)).setCell ⟨p, 1, none⟩ (.slice al ll cl)) q (.bool false) (.slice none 0 0) := (zq.put pq).put pq
                refine take_call (i := 15) rfl (by kernel_rfl) (fun K hK => ?_)
                go_simp
                refine hK.out _ _ ?_ (fun hHeld => ?_)
                · exact keepS3 hHeld gq (by omega) _ _
                clear hK K
                refine wpAnyH_done (by kernel_rfl) ?_ _
                exact ringTwo wa wb wc hL hR ya yb yc zp zq B1 gp gq pq Lp Lq Rp Rq xap xaq xbp xbq xcp xcq
            · skip
              go_simp
              refine hK.out _ _ (keepB3 hHeld ((Below.refl _ _).alloc (Nat.le_refl _) _)) (fun hHeld => ?_)
              clear hK K
              have zp := bx_new Wc3c4c7a13 (.bool false) (.slice none 0 0) 25
              have eWc3c4c7a13a12 : Below Wc3c4c7a13.heap.size Wc3c4c7a13 (Wc3c4c7a13.alloc (.cells #[.bool false, .slice none 0 0] 25)) := (Below.refl _ _).alloc (Nat.le_refl _) _
              have lp : Wc3c4c7a13.heap.size < (Wc3c4c7a13.alloc (.cells #[.bool false, .slice none 0 0] 25)).heap.size := by simp
              have gp : w.heap.size + 1 + 1 < Wc3c4c7a13.heap.size := bx_lt yc; have vp : wr.heap.size ≤ Wc3c4c7a13.heap.size := B9.size
              have xap : NA Wc3c4c7a13.heap.size a1 m1 := wa.ni.sl.na (Nat.le_refl _)
              have xbp : NA Wc3c4c7a13.heap.size a2 m2 := wb.ni.sl.na (Nat.le_refl _)
              have xcp : NA Wc3c4c7a13.heap.size a3 m3 := wc.ni.sl.na (Nat.le_refl _)
              have Lp : NA Wc3c4c7a13.heap.size al ll := hL.nd.sl.na (Nat.le_refl _)
              have pq : Wc3c4c7a13.heap.size ≠ q := Nat.ne_of_gt lq
              generalize Wc3c4c7a13.alloc (.cells #[.bool false, .slice none 0 0] 25) = Wc3c4c7a13a12 at zp eWc3c4c7a13a12 lp hHeld ⊢
              have wa := wa.below eWc3c4c7a13a12; have wb := wb.below eWc3c4c7a13a12; have wc := wc.below eWc3c4c7a13a12; have ya := ya.on eWc3c4c7a13a12; have yb := yb.on eWc3c4c7a13a12; have yc := yc.on eWc3c4c7a13a12; have B1 := also B1 eWc3c4c7a13a12; have B9 := also B9 eWc3c4c7a13a12; have h20 := h20.below eWc3c4c7a13a12; have hL := hL.below eWc3c4c7a13a12; have h22 := h22.below eWc3c4c7a13a12
              have zq := zq.on eWc3c4c7a13a12; have lq := Nat.lt_of_lt_of_le lq eWc3c4c7a13a12.size
              generalize Wc3c4c7a13.heap.size = p at zp lp gp vp xap xbp xcp Lp pq ⊢
              refine take_call (i := 10) rfl (by kernel_rfl) (fun K hK => ?_)
              go_simp
              (go_at_call 5; refine (wMul n o a1 a3 m1 m3 c1 c3 X Z _ wa wc (X * Z) rfl).mono ?_; rintro e Wc3c4c7a13a12c10 ⟨n25, a25, l25, c25, rfl, h25, f25, eWc3c4c7a13a12c10⟩)
              refine hK.out _ _ (keepB3 hHeld eWc3c4c7a13a12c10) (fun hHeld => ?_)
              clear hK K
              have wa := wa.below eWc3c4c7a13a12c10; have wb := wb.below eWc3c4c7a13a12c10; have wc := wc.below eWc3c4c7a13a12c10; have ya := ya.on eWc3c4c7a13a12c10; have yb := yb.on eWc3c4c7a13a12c10; have yc := yc.on eWc3c4c7a13a12c10; have B1 := also B1 eWc3c4c7a13a12c10; have B9 := also B9 eWc3c4c7a13a12c10; have h20 := h20.below eWc3c4c7a13a12c10; have hL := hL.below eWc3c4c7a13a12c10; have h22 := h22.below eWc3c4c7a13a12c10
              have zp := zp.on eWc3c4c7a13a12c10; have lp := Nat.lt_of_lt_of_le lp eWc3c4c7a13a12c10.size
              have zq := zq.on eWc3c4c7a13a12c10; have lq := Nat.lt_of_lt_of_le lq eWc3c4c7a13a12c10.size
              refine take_call (i := 11) rfl (by kernel_rfl) (fun K hK => ?_)
              go_simp
              (go_at_call 6; refine (wAdd n22 n25 a22 a25 l22 l25 c22 c25 (X * Y) (X * Z) _ (h22.wi 32 (by decide) HXY.out) (h25.wi 32 (by decide) HXZ.out) (X * Y + X * Z) rfl).mono ?_; rintro e Wc3c4c7a13a12c10c11 ⟨nr, ar, lr, cr, rfl, hR, fR, eWc3c4c7a13a12c10c11⟩)
              have Rp : NA p ar lr := fR p lp
              have Rq : NA q ar lr := fR q lq
              refine hK.out _ _ (keepB3 hHeld eWc3c4c7a13a12c10c11) (fun hHeld => ?_)
              clear hK K
              have wa := wa.below eWc3c4c7a13a12c10c11; have wb := wb.below eWc3c4c7a13a12c10c11; have wc := wc.below eWc3c4c7a13a12c10c11; have ya := ya.on eWc3c4c7a13a12c10c11; have yb := yb.on eWc3c4c7a13a12c10c11; have yc := yc.on eWc3c4c7a13a12c10c11; have B1 := also B1 eWc3c4c7a13a12c10c11; have B9 := also B9 eWc3c4c7a13a12c10c11; have h20 := h20.below eWc3c4c7a13a12c10c11; have hL := hL.below eWc3c4c7a13a12c10c11; have h22 := h22.below eWc3c4c7a13a12c10c11; have h25 := h25.below eWc3c4c7a13a12c10c11
              have zp := zp.on eWc3c4c7a13a12c10c11; have lp := Nat.lt_of_lt_of_le lp eWc3c4c7a13a12c10c11.size
              have zq := zq.on eWc3c4c7a13a12c10c11; have lq := Nat.lt_of_lt_of_le lq eWc3c4c7a13a12c10c11.size
              obtain ⟨k0, k1, k2, k3⟩ := zp
              have zp : Bx _ _ _ _ := ⟨k0, k1, k2, k3⟩
              refine take_call (i := 14) rfl (by kernel_rfl) (fun K hK => ?_)
              go_simp
              refine hK.out _ _ ?_ (fun hHeld => ?_)
              · exact keepS3 hHeld gp (by omega) _ _
              clear hK K
              obtain ⟨j0, j1, j2, j3⟩ : Bx ((Wc3c4c7a13a12c10c11.setCell ⟨p, 0, none⟩ (.bool nl)).setCell ⟨p, 1, none⟩ (.slice al ll cl)) q (.bool false) (.slice none 0 0) := (zq.put pq).put pq
              refine take_call (i := 15) rfl (by kernel_rfl) (fun K hK => ?_)
              go_simp
              refine hK.out _ _ ?_ (fun hHeld => ?_)
              · exact keepS3 hHeld gq (by omega) _ _
              clear hK K
              refine wpAnyH_done (by kernel_rfl) ?_ _
              exact ringTwo wa wb wc hL hR ya yb yc zp zq B1 gp gq pq Lp Lq Rp Rq xap xaq xbp xbq xcp xcq
        · skip
          go_simp
          refine hK.out _ _ (keepB3 hHeld ((Below.refl _ _).alloc (Nat.le_refl _) _)) (fun hHeld => ?_)
          clear hK K
          have zp := bx_new Wc3c4 (.bool false) (.slice none 0 0) 25
          have eWc3c4a12 : Below Wc3c4.heap.size Wc3c4 (Wc3c4.alloc (.cells #[.bool false, .slice none 0 0] 25)) := (Below.refl _ _).alloc (Nat.le_refl _) _
          have lp : Wc3c4.heap.size < (Wc3c4.alloc (.cells #[.bool false, .slice none 0 0] 25)).heap.size := by simp
          have gp : w.heap.size + 1 + 1 < Wc3c4.heap.size := bx_lt yc; have vp : wr.heap.size ≤ Wc3c4.heap.size := B9.size
          have xap : NA Wc3c4.heap.size a1 m1 := wa.ni.sl.na (Nat.le_refl _)
          have xbp : NA Wc3c4.heap.size a2 m2 := wb.ni.sl.na (Nat.le_refl _)
          have xcp : NA Wc3c4.heap.size a3 m3 := wc.ni.sl.na (Nat.le_refl _)
          have Lp : NA Wc3c4.heap.size al ll := hL.nd.sl.na (Nat.le_refl _)
          generalize Wc3c4.alloc (.cells #[.bool false, .slice none 0 0] 25) = Wc3c4a12 at zp eWc3c4a12 lp hHeld ⊢
          have wa := wa.below eWc3c4a12; have wb := wb.below eWc3c4a12; have wc := wc.below eWc3c4a12; have ya := ya.on eWc3c4a12; have yb := yb.on eWc3c4a12; have yc := yc.on eWc3c4a12; have B1 := also B1 eWc3c4a12; have B9 := also B9 eWc3c4a12; have h20 := h20.below eWc3c4a12; have hL := hL.below eWc3c4a12
          generalize Wc3c4.heap.size = p at zp lp gp vp xap xbp xcp Lp ⊢
          refine wpAnyH_ready (rs := [7, 13]) (by kernel_rfl) (by simp) (AllReadyH.cons (i := 7) rfl (fun K hK => ?_) (AllReadyH.cons (i := 13) rfl (fun K hK => ?_) AllReadyH.nil))
          · skip
            go_simp
            (go_at_call 5; refine (wMul n m a1 a2 m1 m2 c1 c2 X Y _ wa wb (X * Y) rfl).mono ?_; rintro e Wc3c4a12c7 ⟨n22, a22, l22, c22, rfl, h22, f22, eWc3c4a12c7⟩)
            refine hK.out _ _ (keepB3 hHeld eWc3c4a12c7) (fun hHeld => ?_)
            clear hK K
            have wa := wa.below eWc3c4a12c7; have wb := wb.below eWc3c4a12c7; have wc := wc.below eWc3c4a12c7; have ya := ya.on eWc3c4a12c7; have yb := yb.on eWc3c4a12c7; have yc := yc.on eWc3c4a12c7; have B1 := also B1 eWc3c4a12c7; have B9 := also B9 eWc3c4a12c7; have h20 := h20.below eWc3c4a12c7; have hL := hL.below eWc3c4a12c7
            have zp := zp.on eWc3c4a12c7; have lp := Nat.lt_of_lt_of_le lp eWc3c4a12c7.size
            refine wpAnyH_ready (rs := [10, 13]) (by kernel_rfl) (by simp) (AllReadyH.cons (i := 10) rfl (fun K hK => ?_) (AllReadyH.cons (i := 13) rfl (fun K hK => ?_) AllReadyH.nil))
            · skip
              go_simp
              (go_at_call 5; refine (wMul n o a1 a3 m1 m3 c1 c3 X Z _ wa wc (X * Z) rfl).mono ?_; rintro e Wc3c4a12c7c10 ⟨n25, a25, l25, c25, rfl, h25, f25, eWc3c4a12c7c10⟩)
              refine hK.out _ _ (keepB3 hHeld eWc3c4a12c7c10) (fun hHeld => ?_)
              clear hK K
              have wa := wa.below eWc3c4a12c7c10; have wb := wb.below eWc3c4a12c7c10; have wc := wc.below eWc3c4a12c7c10; have ya := ya.on eWc3c4a12c7c10; have yb := yb.on eWc3c4a12c7c10; have yc := yc.on eWc3c4a12c7c10; have B1 := also B1 eWc3c4a12c7c10; have B9 := also B9 eWc3c4a12c7c10; have h20 := h20.below eWc3c4a12c7c10; have hL := hL.below eWc3c4a12c7c10; have h22 := h22.below eWc3c4a12c7c10
              have zp := zp.on eWc3c4a12c7c10; have lp := Nat.lt_of_lt_of_le lp eWc3c4a12c7c10.size
              refine wpAnyH_ready (rs := [11, 13]) (by kernel_rfl) (by simp) (AllReadyH.cons (i := 11) rfl (fun K hK => ?_) (AllReadyH.cons (i := 13) rfl (fun K hK => ?_) AllReadyH.nil))
              · skip
                go_simp
                (go_at_call 6; refine (wAdd n22 n25 a22 a25 l22 l25 c22 c25 (X * Y) (X * Z) _ (h22.wi 32 (by decide) HXY.out) (h25.wi 32 (by decide) HXZ.out) (X * Y + X * Z) rfl).mono ?_; rintro e Wc3c4a12c7c10c11 ⟨nr, ar, lr, cr, rfl, hR, fR, eWc3c4a12c7c10c11⟩)
                have Rp : NA p ar lr := fR p lp
                refine hK.out _ _ (keepB3 hHeld eWc3c4a12c7c10c11) (fun hHeld => ?_)
                clear hK K
                have wa := wa.below eWc3c4a12c7c10c11; have wb := wb.below eWc3c4a12c7c10c11; have wc := wc.below eWc3c4a12c7c10c11; have ya := ya.on eWc3c4a12c7c10c11; have yb := yb.on eWc3c4a12c7c10c11; have yc := yc.on eWc3c4a12c7c10c11; have B1 := also B1 eWc3c4a12c7c10c11; have B9 := also B9 eWc3c4a12c7c10c11; have h20 := h20.below eWc3c4a12c7c10c11; have hL := hL.below eWc3c4a12c7c10c11; have h22 := h22.below eWc3c4a12c7c10c11; have h25 := h25.below eWc3c4a12c7c10c11
                have zp := zp.on eWc3c4a12c7c10c11; have lp := Nat.lt_of_lt_of_le lp eWc3c4a12c7c10c11.size
                refine take_call (i := 13) rfl (by kernel_rfl) (fun K hK => ?_)
                go_simp
                refine hK.out _ _ (keepB3 hHeld ((Below.refl _ _).alloc (Nat.le_refl _) _)) (fun hHeld => ?_)
                clear hK K
                have zq := bx_new Wc3c4a12c7c10c11 (.bool false) (.slice none 0 0) 25
                have eWc3c4a12c7c10c11a13 : Below Wc3c4a12c7c10c11.heap.size Wc3c4a12c7c10c11 (Wc3c4a12c7c10c11.alloc (.cells #[.bool false, .slice none 0 0] 25)) := (Below.refl _ _).alloc (Nat.le_refl _) _
                have lq : Wc3c4a12c7c10c11.heap.size < (Wc3c4a12c7c10c11.alloc (.cells #[.bool false, .slice none 0 0] 25)).heap.size := by simp
                have gq : w.heap.size + 1 + 1 < Wc3c4a12c7c10c11.heap.size := bx_lt yc; have vq : wr.heap.size ≤ Wc3c4a12c7c10c11.heap.size := B9.size
                have xaq : NA Wc3c4a12c7c10c11.heap.size a1 m1 := wa.ni.sl.na (Nat.le_refl _)
                have xbq : NA Wc3c4a12c7c10c11.heap.size a2 m2 := wb.ni.sl.na (Nat.le_refl _)
                have xcq : NA Wc3c4a12c7c10c11.heap.size a3 m3 := wc.ni.sl.na (Nat.le_refl _)
                have Lq : NA Wc3c4a12c7c10c11.heap.size al ll := hL.nd.sl.na (Nat.le_refl _)
                have Rq : NA Wc3c4a12c7c10c11.heap.size ar lr := hR.nd.sl.na (Nat.le_refl _)
                have pq : p ≠ Wc3c4a12c7c10c11.heap.size := Nat.ne_of_lt lp
                generalize Wc3c4a12c7c10c11.alloc (.cells #[.bool false, .slice none 0 0] 25) = Wc3c4a12c7c10c11a13 at zq eWc3c4a12c7c10c11a13 lq hHeld ⊢
                have wa := wa.below eWc3c4a12c7c10c11a13; have wb := wb.below eWc3c4a12c7c10c11a13; have wc := wc.below eWc3c4a12c7c10c11a13; have ya := ya.on eWc3c4a12c7c10c11a13; have yb := yb.on eWc3c4a12c7c10c11a13; have yc := yc.on eWc3c4a12c7c10c11a13; have B1 := also B1 eWc3c4a12c7c10c11a13; have B9 := also B9 eWc3c4a12c7c10c11a13; have h20 := h20.below eWc3c4a12c7c10c11a13; have hL := hL.below eWc3c4a12c7c10c11a13; have h22 := h22.below eWc3c4a12c7c10c11a13; have h25 := h25.below eWc3c4a12c7c10c11a13; have hR := hR.below eWc3c4a12c7c10c11a13
                have zp := zp.on eWc3c4a12c7c10c11a13; have lp := Nat.lt_of_lt_of_le lp eWc3c4a12c7c10c11a13.size
                generalize Wc3c4a12c7c10c11.heap.size = q at zq lq gq vq xaq xbq xcq Lq Rq pq ⊢
                obtain ⟨k0, k1, k2, k3⟩ := zp
                have zp : Bx _ _ _ _ := ⟨k0, k1, k2, k3⟩
                refine take_call (i := 14) rfl (by kernel_rfl) (fun K hK => ?_)
                go_simp
                refine hK.out _ _ ?_ (fun hHeld => ?_)
                · exact keepS3 hHeld gp (by omega) _ _
                clear hK K
                obtain ⟨j0, j1, j2, j3⟩ : Bx ((Wc3c4a12c7c10c11a13.setCell ⟨p, 0, none⟩ (.bool nl)).setCell ⟨p, 1, none⟩ (.slice al ll cl)) q (.bool false) (.slice none 0 0) := (zq.put pq).put pq
                refine take_call (i := 15) rfl (by kernel_rfl) (fun K hK => ?_)
                go_simp
                refine hK.out _ _ ?_ (fun hHeld => ?_)
                · exact keepS3 hHeld gq (by omega) _ _
                clear hK K
                refine wpAnyH_done (by kernel_rfl) ?_ _
                exact ringTwo wa wb wc hL hR ya yb yc zp zq B1 gp gq pq Lp Lq Rp Rq xap xaq xbp xbq xcp xcq
              · skip
                go_simp
                refine hK.out _ _ (keepB3 hHeld ((Below.refl _ _).alloc (Nat.le_refl _) _)) (fun hHeld => ?_)
                clear hK K
                have zq := bx_new Wc3c4a12c7c10 (.bool false) (.slice none 0 0) 25
                have eWc3c4a12c7c10a13 : Below Wc3c4a12c7c10.heap.size Wc3c4a12c7c10 (Wc3c4a12c7c10.alloc (.cells #[.bool false, .slice none 0 0] 25)) := (Below.refl _ _).alloc (Nat.le_refl _) _
                have lq : Wc3c4a12c7c10.heap.size < (Wc3c4a12c7c10.alloc (.cells #[.bool false, .slice none 0 0] 25)).heap.size := by simp
                have gq : w.heap.size + 1 + 1 < Wc3c4a12c7c10.heap.size := bx_lt yc; have vq : wr.heap.size ≤ Wc3c4a12c7c10.heap.size := B9.size
                have xaq : NA Wc3c4a12c7c10.heap.size a1 m1 := wa.ni.sl.na (Nat.le_refl _)
                have xbq : NA Wc3c4a12c7c10.heap.size a2 m2 := wb.ni.sl.na (Nat.le_refl _)
                have xcq : NA Wc3c4a12c7c10.heap.size a3 m3 := wc.ni.sl.na (Nat.le_refl _)
                have Lq : NA Wc3c4a12c7c10.heap.size al ll := hL.nd.sl.na (Nat.le_refl _)
                have pq : p ≠ Wc3c4a12c7c10.heap.size := Nat.ne_of_lt lp
                generalize Wc3c4a12c7c10.alloc (.cells #[.bool false, .slice none 0 0] 25) = Wc3c4a12c7c10a13 at zq eWc3c4a12c7c10a13 lq hHeld ⊢
                have wa := wa.below eWc3c4a12c7c10a13; have wb := wb.below eWc3c4a12c7c10a13; have wc := wc.below eWc3c4a12c7c10a13; have ya := ya.on eWc3c4a12c7c10a13; have yb := yb.on eWc3c4a12c7c10a13; have yc := yc.on eWc3c4a12c7c10a13; have B1 := also B1 eWc3c4a12c7c10a13; have B9 := also B9 eWc3c4a12c7c10a13; have h20 := h20.below eWc3c4a12c7c10a13; have hL := hL.below eWc3c4a12c7c10a13; have h22 := h22.below eWc3c4a12c7c10a13; have h25 := h25.below eWc3c4a12c7c10a13
                have zp := zp.on eWc3c4a12c7c10a13; have lp := Nat.lt_of_lt_of_le lp eWc3c4a12c7c10a13.size
                generalize Wc3c4a12c7c10.heap.size = q at zq lq gq vq xaq xbq xcq Lq pq ⊢
                refine take_call (i := 11) rfl (by kernel_rfl) (fun K hK => ?_)
                go_simp
                (go_at_call 6; refine (wAdd n22 n25 a22 a25 l22 l25 c22 c25 (X * Y) (X * Z) _ (h22.wi 32 (by decide) HXY.out) (h25.wi 32 (by decide) HXZ.out) (X * Y + X * Z) rfl).mono ?_; rintro e Wc3c4a12c7c10a13c11 ⟨nr, ar, lr, cr, rfl, hR, fR, eWc3c4a12c7c10a13c11⟩)
                have Rp : NA p ar lr := fR p lp
                have Rq : NA q ar lr := fR q lq
                refine hK.out _ _ (keepB3 hHeld eWc3c4a12c7c10a13c11) (fun hHeld => ?_)
                clear hK K
                have wa := wa.below eWc3c4a12c7c10a13c11; have wb := wb.below eWc3c4a12c7c10a13c11; have wc := wc.below eWc3c4a12c7c10a13c11; have ya := ya.on eWc3c4a12c7c10a13c11; have yb := yb.on eWc3c4a12c7c10a13c11; have yc := yc.on eWc3c4a12c7c10a13c11; have B1 := also B1 eWc3c4a12c7c10a13c11; have B9 := also B9 eWc3c4a12c7c10a13c11; have h20 := h20.below eWc3c4a12c7c10a13c11; have hL := hL.below eWc3c4a12c7c10a13c11; have h22 := h22.below eWc3c4a12c7c10a13c11; have h25 := h25.below eWc3c4a12c7c10a13c11
                have zp := zp.on eWc3c4a12c7c10a13c11; have lp := Nat.lt_of_lt_of_le lp eWc3c4a12c7c10a13c11.size
                have zq := zq.on eWc3c4a12c7c10a13c11; have lq := Nat.lt_of_lt_of_le lq eWc3c4a12c7c10a13c11.size
                obtain ⟨k0, k1, k2, k3⟩ := zp
                have zp : Bx _ _ _ _ := ⟨k0, k1, k2, k3⟩
                refine take_call (i := 14) rfl (by kernel_rfl) (fun K hK => ?_)
                go_simp
                refine hK.out _ _ ?_ (fun hHeld => ?_)
                · exact keepS3 hHeld gp (by omega) _ _
                clear hK K
                obtain ⟨j0, j1, j2, j3⟩ : Bx ((Wc3c4a12c7c10a13c11.setCell ⟨p, 0, none⟩ (.bool nl)).setCell ⟨p, 1, none⟩ (.slice al ll cl)) q (.bool false) (.slice none 0 0) := (zq.put pq).put pq
                refine take_call (i := 15) rfl (by kernel_rfl) (fun K hK => ?_)
                go_simp
                refine hK.out _ _ ?_ (fun hHeld => ?_)
                · exact keepS3 hHeld gq (by omega) _ _
                clear hK K
                refine wpAnyH_done (by kernel_rfl) ?_ _
                exact ringTwo wa wb wc hL hR ya yb yc zp zq B1 gp gq pq Lp Lq Rp Rq xap xaq xbp xbq xcp xcq
            · skip
              go_simp
              refine hK.out _ _ (keepB3 hHeld ((Below.refl _ _).alloc (Nat.le_refl _) _)) (fun hHeld => ?_)
              clear hK K
              have zq := bx_new Wc3c4a12c7 (.bool false) (.slice none 0 0) 25
              have eWc3c4a12c7a13 : Below Wc3c4a12c7.heap.size Wc3c4a12c7 (Wc3c4a12c7.alloc (.cells #[.bool false, .slice none 0 0] 25)) := (Below.refl _ _).alloc (Nat.le_refl _) _
              have lq : Wc3c4a12c7.heap.size < (Wc3c4a12c7.alloc (.cells #[.bool false, .slice none 0 0] 25)).heap.size := by simp
              have gq : w.heap.size + 1 + 1 < Wc3c4a12c7.heap.size := bx_lt yc; have vq : wr.heap.size ≤ Wc3c4a12c7.heap.size := B9.size
              have xaq : NA Wc3c4a12c7.heap.size a1 m1 := wa.ni.sl.na (Nat.le_refl _)
              have xbq : NA Wc3c4a12c7.heap.size a2 m2 := wb.ni.sl.na (Nat.le_refl _)
              have xcq : NA Wc3c4a12c7.heap.size a3 m3 := wc.ni.sl.na (Nat.le_refl _)
              have Lq : NA Wc3c4a12c7.heap.size al ll := hL.nd.sl.na (Nat.le_refl _)
              have pq : p ≠ Wc3c4a12c7.heap.size := Nat.ne_of_lt lp
              generalize Wc3c4a12c7.alloc (.cells #[.bool false, .slice none 0 0] 25) = Wc3c4a12c7a13 at zq eWc3c4a12c7a13 lq hHeld ⊢
              have wa := wa.below eWc3c4a12c7a13; have wb := wb.below eWc3c4a12c7a13; have wc := wc.below eWc3c4a12c7a13; have ya := ya.on eWc3c4a12c7a13; have yb := yb.on eWc3c4a12c7a13; have yc := yc.on eWc3c4a12c7a13; have B1 := also B1 eWc3c4a12c7a13; have B9 := also B9 eWc3c4a12c7a13; have h20 := h20.below eWc3c4a12c7a13; have hL := hL.below eWc3c4a12c7a13; have h22 := h22.below eWc3c4a12c7a13
              have zp := zp.on eWc3c4a12c7a13; have lp := Nat.lt_of_lt_of_le lp eWc3c4a12c7a13.size
              generalize Wc3c4a12c7.heap.size = q at zq lq gq vq xaq xbq xcq Lq pq ⊢
              refine take_call (i := 10) rfl (by kernel_rfl) (fun K hK => ?_)
              go_simp
              (go_at_call 5; refine (wMul n o a1 a3 m1 m3 c1 c3 X Z _ wa wc (X * Z) rfl).mono ?_; rintro e Wc3c4a12c7a13c10 ⟨n25, a25, l25, c25, rfl, h25, f25, eWc3c4a12c7a13c10⟩)
              refine hK.out _ _ (keepB3 hHeld eWc3c4a12c7a13c10) (fun hHeld => ?_)
              clear hK K
              have wa := wa.below eWc3c4a12c7a13c10; have wb := wb.below eWc3c4a12c7a13c10; have wc := wc.below eWc3c4a12c7a13c10; have ya := ya.on eWc3c4a12c7a13c10; have yb := yb.on eWc3c4a12c7a13c10; have yc := yc.on eWc3c4a12c7a13c10; have B1 := also B1 eWc3c4a12c7a13c10; have B9 := also B9 eWc3c4a12c7a13c10; have h20 := h20.below eWc3c4a12c7a13c10; have hL := hL.below eWc3c4a12c7a13c10; have h22 := h22.below eWc3c4a12c7a13c10
              have zp := zp.on eWc3c4a12c7a13c10; have lp := Nat.lt_of_lt_of_le lp eWc3c4a12c7a13c10.size
              have zq := zq.on eWc3c4a12c7a13c10; have lq := Nat.lt_of_lt_of_le lq eWc3c4a12c7a13c10.size
              refine take_call (i := 11) rfl (by kernel_rfl) (fun K hK => ?_)
              go_simp
              (go_at_call 6; refine (wAdd n22 n25 a22 a25 l22 l25 c22 c25 (X * Y) (X * Z) _ (h22.wi 32 (by decide) HXY.out) (h25.wi 32 (by decide) HXZ.out) (X * Y + X * Z) rfl).mono ?_; rintro e Wc3c4a12c7a13c10c11 ⟨nr, ar, lr, cr, rfl, hR, fR, eWc3c4a12c7a13c10c11⟩)
              have Rp : NA p ar lr := fR p lp
              have Rq : NA q ar lr := fR q lq
              refine hK.out _ _ (keepB3 hHeld eWc3c4a12c7a13c10c11) (fun hHeld => ?_)
              clear hK K
              have wa := wa.below eWc3c4a12c7a13c10c11; have wb := wb.below eWc3c4a12c7a13c10c11; have wc := wc.below eWc3c4a12c7a13c10c11; have ya := ya.on eWc3c4a12c7a13c10c11; have yb := yb.on eWc3c4a12c7a13c10c11; have yc := yc.on eWc3c4a12c7a13c10c11; have B1 := also B1 eWc3c4a12c7a13c10c11; have B9 := also B9 eWc3c4a12c7a13c10c11; have h20 := h20.below eWc3c4a12c7a13c10c11; have hL := hL.below eWc3c4a12c7a13c10c11; have h22 := h22.below eWc3c4a12c7a13c10c11; have h25 := h25.below eWc3c4a12c7a13c10c11
              have zp := zp.on eWc3c4a12c7a13c10c11; have lp := Nat.lt_of_lt_of_le lp eWc3c4a12c7a13c10c11.size
              have zq := zq.on eWc3c4a12c7a13c10c11; have lq := Nat.lt_of_lt_of_le lq eWc3c4a12c7a13c10c11.size
              obtain ⟨k0, k1, k2, k3⟩ := zp
              have zp : Bx _ _ _ _ := ⟨k0, k1, k2, k3⟩
              refine take_call (i := 14) rfl (by kernel_rfl) (fun K hK => ?_)
              go_simp
              refine hK.out _ _ ?_ (fun hHeld => ?_)
              · exact keepS3 hHeld gp (by omega) _ _
              clear hK K
              obtain ⟨j0, j1, j2, j3⟩ : Bx ((Wc3c4a12c7a13c10c11.setCell ⟨p, 0, none⟩ (.bool nl)).setCell ⟨p, 1, none⟩ (.slice al ll cl)) q (.bool false) (.slice none 0 0) := (zq.put pq).put pq
              refine take_call (i := 15) rfl (by kernel_rfl) (fun K hK => ?_)
              go_simp
              refine hK.out _ _ ?_ (fun hHeld => ?_)
              · exact keepS3 hHeld gq (by omega) _ _
              clear hK K
              refine wpAnyH_done (by kernel_rfl) ?_ _
              exact ringTwo wa wb wc hL hR ya yb yc zp zq B1 gp gq pq Lp Lq Rp Rq xap xaq xbp xbq xcp xcq
          · skip
            go_simp
            refine hK.out _ _ (keepB3 hHeld ((Below.refl _ _).alloc (Nat.le_refl _) _)) (fun hHeld => ?_)
            clear hK K
            have zq := bx_new Wc3c4a12 (.bool false) (.slice none 0 0) 25
            have eWc3c4a12a13 : Below Wc3c4a12.heap.size Wc3c4a12 (Wc3c4a12.alloc (.cells #[.bool false, .slice none 0 0] 25)) := (Below.refl _ _).alloc (Nat.le_refl _) _
            have lq : Wc3c4a12.heap.size < (Wc3c4a12.alloc (.cells #[.bool false, .slice none 0 0] 25)).heap.size := by simp
            have gq : w.heap.size + 1 + 1 < Wc3c4a12.heap.size := bx_lt yc; have vq : wr.heap.size ≤ Wc3c4a12.heap.size := B9.size
            have xaq : NA Wc3c4a12.heap.size a1 m1 := wa.ni.sl.na (Nat.le_refl _)
            have xbq : NA Wc3c4a12.heap.size a2 m2 := wb.ni.sl.na (Nat.le_refl _)
            have xcq : NA Wc3c4a12.heap.size a3 m3 := wc.ni.sl.na (Nat.le_refl _)
            have Lq : NA Wc3c4a12.heap.size al ll := hL.nd.sl.na (Nat.le_refl _)
            have pq : p ≠ Wc3c4a12.heap.size := Nat.ne_of_lt lp
            generalize Wc3c4a12.alloc (.cells #[.bool false, .slice none 0 0] 25) = Wc3c4a12a13 at zq eWc3c4a12a13 lq hHeld ⊢
            have wa := wa.below eWc3c4a12a13; have wb := wb.below eWc3c4a12a13; have wc := wc.below eWc3c4a12a13; have ya := ya.on eWc3c4a12a13; have yb := yb.on eWc3c4a12a13; have yc := yc.on eWc3c4a12a13; have B1 := also B1 eWc3c4a12a13; have B9 := also B9 eWc3c4a12a13; have h20 := h20.below eWc3c4a12a13; have hL := hL.below eWc3c4a12a13
            have zp := zp.on eWc3c4a12a13; have lp := Nat.lt_of_lt_of_le lp eWc3c4a12a13.size
            generalize Wc3c4a12.heap.size = q at zq lq gq vq xaq xbq xcq Lq pq ⊢
            refine take_call (i := 7) rfl (by kernel_rfl) (fun K hK => ?_)
            go_simp
            (go_at_call 5; refine (wMul n m a1 a2 m1 m2 c1 c2 X Y _ wa wb (X * Y) rfl).mono ?_; rintro e Wc3c4a12a13c7 ⟨n22, a22, l22, c22, rfl, h22, f22, eWc3c4a12a13c7⟩)
            refine hK.out _ _ (keepB3 hHeld eWc3c4a12a13c7) (fun hHeld => ?_)
            clear hK K
            have wa := wa.below eWc3c4a12a13c7; have wb := wb.below eWc3c4a12a13c7; have wc := wc.below eWc3c4a12a13c7; have ya := ya.on eWc3c4a12a13c7; have yb := yb.on eWc3c4a12a13c7; have yc := yc.on eWc3c4a12a13c7; have B1 := also B1 eWc3c4a12a13c7; have B9 := also B9 eWc3c4a12a13c7; have h20 := h20.below eWc3c4a12a13c7; have hL := hL.below eWc3c4a12a13c7
            have zp := zp.on eWc3c4a12a13c7; have lp := Nat.lt_of_lt_of_le lp eWc3c4a12a13c7.size
            have zq := zq.on eWc3c4a12a13c7; have lq := Nat.lt_of_lt_of_le lq eWc3c4a12a13c7.size
            refine take_call (i := 10) rfl (by kernel_rfl) (fun K hK => ?_)
            go_simp
            (go_at_call 5; refine (wMul n o a1 a3 m1 m3 c1 c3 X Z _ wa wc (X * Z) rfl).mono ?_; rintro e Wc3c4a12a13c7c10 ⟨n25, a25, l25, c25, rfl, h25, f25, eWc3c4a12a13c7c10⟩)
            refine hK.out _ _ (keepB3 hHeld eWc3c4a12a13c7c10) (fun hHeld => ?_)
            clear hK K
            have wa := wa.below eWc3c4a12a13c7c10; have wb := wb.below eWc3c4a12a13c7c10; have wc := wc.below eWc3c4a12a13c7c10; have ya := ya.on eWc3c4a12a13c7c10; have yb := yb.on eWc3c4a12a13c7c10; have yc := yc.on eWc3c4a12a13c7c10; have B1 := also B1 eWc3c4a12a13c7c10; have B9 := also B9 eWc3c4a12a13c7c10; have h20 := h20.below eWc3c4a12a13c7c10; have hL := hL.below eWc3c4a12a13c7c10; have h22 := h22.below eWc3c4a12a13c7c10
            have zp := zp.on eWc3c4a12a13c7c10; have lp := Nat.lt_of_lt_of_le lp eWc3c4a12a13c7c10.size
            have zq := zq.on eWc3c4a12a13c7c10; have lq := Nat.lt_of_lt_of_le lq eWc3c4a12a13c7c10.size
            refine take_call (i := 11) rfl (by kernel_rfl) (fun K hK => ?_)
            go_simp
            (go_at_call 6; refine (wAdd n22 n25 a22 a25 l22 l25 c22 c25 (X * Y) (X * Z) _ (h22.wi 32 (by decide) HXY.out) (h25.wi 32 (by decide) HXZ.out) (X * Y + X * Z) rfl).mono ?_; rintro e Wc3c4a12a13c7c10c11 ⟨nr, ar, lr, cr, rfl, hR, fR, eWc3c4a12a13c7c10c11⟩)
            have Rp : NA p ar lr := fR p lp
            have Rq : NA q ar lr := fR q lq
            refine hK.out _ _ (keepB3 hHeld eWc3c4a12a13c7c10c11) (fun hHeld => ?_)
            clear hK K
            have wa := wa.below eWc3c4a12a13c7c10c11; have wb := wb.below eWc3c4a12a13c7c10c11; have wc := wc.below eWc3c4a12a13c7c10c11; have ya := ya.on eWc3c4a12a13c7c10c11; have yb := yb.on eWc3c4a12a13c7c10c11; have yc := yc.on eWc3c4a12a13c7c10c11; have B1 := also B1 eWc3c4a12a13c7c10c11; have B9 := also B9 eWc3c4a12a13c7c10c11; have h20 := h20.below eWc3c4a12a13c7c10c11; have hL := hL.below eWc3c4a12a13c7c10c11; have h22 := h22.below eWc3c4a12a13c7c10c11; have h25 := h25.below eWc3c4a12a13c7c10c11
            have zp := zp.on eWc3c4a12a13c7c10c11; have lp := Nat.lt_of_lt_of_le lp eWc3c4a12a13c7c10c11.size
            have zq := zq.on eWc3c4a12a13c7c10c11; have lq := Nat.lt_of_lt_of_le lq eWc3c4a12a13c7c10c11.size
            obtain ⟨k0, k1, k2, k3⟩ := zp
            have zp : Bx _ _ _ _ := ⟨k0, k1, k2, k3⟩
            refine take_call (i := 14) rfl (by kernel_rfl) (fun K hK => ?_)
            go_simp
            refine hK.out _ _ ?_ (fun hHeld => ?_)
            · exact keepS3 hHeld gp (by omega) _ _
            clear hK K
            obtain ⟨j0, j1, j2, j3⟩ : Bx ((Wc3c4a12a13c7c10c11.setCell ⟨p, 0, none⟩ (.bool nl)).setCell ⟨p, 1, none⟩ (.slice al ll cl)) q (.bool false) (.slice none 0 0) := (zq.put pq).put pq
            refine take_call (i := 15) rfl (by kernel_rfl) (fun K hK => ?_)
            go_simp
            refine hK.out _ _ ?_ (fun hHeld => ?_)
            · exact keepS3 hHeld gq (by omega) _ _
            clear hK K
            refine wpAnyH_done (by kernel_rfl) ?_ _
            exact ringTwo wa wb wc hL hR ya yb yc zp zq B1 gp gq pq Lp Lq Rp Rq xap xaq xbp xbq xcp xcq
        · skip
          go_simp
          refine hK.out _ _ (keepB3 hHeld ((Below.refl _ _).alloc (Nat.le_refl _) _)) (fun hHeld => ?_)
          clear hK K
          have zq := bx_new Wc3c4 (.bool false) (.slice none 0 0) 25
          have eWc3c4a13 : Below Wc3c4.heap.size Wc3c4 (Wc3c4.alloc (.cells #[.bool false, .slice none 0 0] 25)) := (Below.refl _ _).alloc (Nat.le_refl _) _
          have lq : Wc3c4.heap.size < (Wc3c4.alloc (.cells #[.bool false, .slice none 0 0] 25)).heap.size := by simp
          have gq : w.heap.size + 1 + 1 < Wc3c4.heap.size := bx_lt yc; have vq : wr.heap.size ≤ Wc3c4.heap.size := B9.size
          have xaq : NA Wc3c4.heap.size a1 m1 := wa.ni.sl.na (Nat.le_refl _)
          have xbq : NA Wc3c4.heap.size a2 m2 := wb.ni.sl.na (Nat.le_refl _)
          have xcq : NA Wc3c4.heap.size a3 m3 := wc.ni.sl.na (Nat.le_refl _)
          have Lq : NA Wc3c4.heap.size al ll := hL.nd.sl.na (Nat.le_refl _)
          generalize Wc3c4.alloc (.cells #[.bool false, .slice none 0 0] 25) = Wc3c4a13 at zq eWc3c4a13 lq hHeld ⊢
          have wa := wa.below eWc3c4a13; have wb := wb.below eWc3c4a13; have wc := wc.below eWc3c4a13; have ya := ya.on eWc3c4a13; have yb := yb.on eWc3c4a13; have yc := yc.on eWc3c4a13; have B1 := also B1 eWc3c4a13; have B9 := also B9 eWc3c4a13; have h20 := h20.below eWc3c4a13; have hL := hL.below eWc3c4a13
          generalize Wc3c4.heap.size = q at zq lq gq vq xaq xbq xcq Lq ⊢
          refine wpAnyH_ready (rs := [7, 12]) (by kernel_rfl) (by simp) (AllReadyH.cons (i := 7) rfl (fun K hK => ?_) (AllReadyH.cons (i := 12) rfl (fun K hK => ?_) AllReadyH.nil))
          · skip
            go_simp
            (go_at_call 5; refine (wMul n m a1 a2 m1 m2 c1 c2 X Y _ wa wb (X * Y) rfl).mono ?_; rintro e Wc3c4a13c7 ⟨n22, a22, l22, c22, rfl, h22, f22, eWc3c4a13c7⟩)
            refine hK.out _ _ (keepB3 hHeld eWc3c4a13c7) (fun hHeld => ?_)
            clear hK K
            have wa := wa.below eWc3c4a13c7; have wb := wb.below eWc3c4a13c7; have wc := wc.below eWc3c4a13c7; have ya := ya.on eWc3c4a13c7; have yb := yb.on eWc3c4a13c7; have yc := yc.on eWc3c4a13c7; have B1 := also B1 eWc3c4a13c7; have B9 := also B9 eWc3c4a13c7; have h20 := h20.below eWc3c4a13c7; have hL := hL.below eWc3c4a13c7
            have zq := zq.on eWc3c4a13c7; have lq := Nat.lt_of_lt_of_le lq eWc3c4a13c7.size
            refine wpAnyH_ready (rs := [10, 12]) (by kernel_rfl) (by simp) (AllReadyH.cons (i := 10) rfl (fun K hK => ?_) (AllReadyH.cons (i := 12) rfl (fun K hK => ?_) AllReadyH.nil))
            · skip
              go_simp
              (go_at_call 5; refine (wMul n o a1 a3 m1 m3 c1 c3 X Z _ wa wc (X * Z) rfl).mono ?_; rintro e Wc3c4a13c7c10 ⟨n25, a25, l25, c25, rfl, h25, f25, eWc3c4a13c7c10⟩)
              refine hK.out _ _ (keepB3 hHeld eWc3c4a13c7c10) (fun hHeld => ?_)
              clear hK K
              have wa := wa.below eWc3c4a13c7c10; have wb := wb.below eWc3c4a13c7c10; have wc := wc.below eWc3c4a13c7c10; have ya := ya.on eWc3c4a13c7c10; have yb := yb.on eWc3c4a13c7c10; have yc := yc.on eWc3c4a13c7c10; have B1 := also B1 eWc3c4a13c7c10; have B9 := also B9 eWc3c4a13c7c10; have h20 := h20.below eWc3c4a13c7c10; have hL := hL.below eWc3c4a13c7c10; have h22 := h22.below eWc3c4a13c7c10
              have zq := zq.on eWc3c4a13c7c10; have lq := Nat.lt_of_lt_of_le lq eWc3c4a13c7c10.size
              refine wpAnyH_ready (rs := [11, 12]) (by kernel_rfl) (by simp) (AllReadyH.cons (i := 11) rfl (fun K hK => ?_) (AllReadyH.cons (i := 12) rfl (fun K hK => ?_) AllReadyH.nil))
              · skip
                go_simp
                (go_at_call 6; refine (wAdd n22 n25 a22 a25 l22 l25 c22 c25 (X * Y) (X * Z) _ (h22.wi 32 (by decide) HXY.out) (h25.wi 32 (by decide) HXZ.out) (X * Y + X * Z) rfl).mono ?_; rintro e Wc3c4a13c7c10c11 ⟨nr, ar, lr, cr, rfl, hR, fR, eWc3c4a13c7c10c11⟩)
                have Rq : NA q ar lr := fR q lq
                refine hK.out _ _ (keepB3 hHeld eWc3c4a13c7c10c11) (fun hHeld => ?_)
                clear hK K
                have wa := wa.below eWc3c4a13c7c10c11; have wb := wb.below eWc3c4a13c7c10c11; have wc := wc.below eWc3c4a13c7c10c11; have ya := ya.on eWc3c4a13c7c10c11; have yb := yb.on eWc3c4a13c7c10c11; have yc := yc.on eWc3c4a13c7c10c11; have B1 := also B1 eWc3c4a13c7c10c11; have B9 := also B9 eWc3c4a13c7c10c11; have h20 := h20.below eWc3c4a13c7c10c11; have hL := hL.below eWc3c4a13c7c10c11; have h22 := h22.below eWc3c4a13c7c10c11; have h25 := h25.below eWc3c4a13c7c10c11
                have zq := zq.on eWc3c4a13c7c10c11; have lq := Nat.lt_of_lt_of_le lq eWc3c4a13c7c10c11.size
                refine take_call (i := 12) rfl (by kernel_rfl) (fun K hK => ?_)
                go_simp
                refine hK.out _ _ (keepB3 hHeld ((Below.refl _ _).alloc (Nat.le_refl _) _)) (fun hHeld => ?_)
                clear hK K
                have zp := bx_new Wc3c4a13c7c10c11 (.bool false) (.slice none 0 0) 25
                have eWc3c4a13c7c10c11a12 : Below Wc3c4a13c7c10c11.heap.size Wc3c4a13c7c10c11 (Wc3c4a13c7c10c11.alloc (.cells #[.bool false, .slice none 0 0] 25)) := (Below.refl _ _).alloc (Nat.le_refl _) _
                have lp : Wc3c4a13c7c10c11.heap.size < (Wc3c4a13c7c10c11.alloc (.cells #[.bool false, .slice none 0 0] 25)).heap.size := by simp
                have gp : w.heap.size + 1 + 1 < Wc3c4a13c7c10c11.heap.size := bx_lt yc; have vp : wr.heap.size ≤ Wc3c4a13c7c10c11.heap.size := B9.size
                have xap : NA Wc3c4a13c7c10c11.heap.size a1 m1 := wa.ni.sl.na (Nat.le_refl _)
                have xbp : NA Wc3c4a13c7c10c11.heap.size a2 m2 := wb.ni.sl.na (Nat.le_refl _)
                have xcp : NA Wc3c4a13c7c10c11.heap.size a3 m3 := wc.ni.sl.na (Nat.le_refl _)
                have Lp : NA Wc3c4a13c7c10c11.heap.size al ll := hL.nd.sl.na (Nat.le_refl _)
                have Rp : NA Wc3c4a13c7c10c11.heap.size ar lr := hR.nd.sl.na (Nat.le_refl _)
                have pq : Wc3c4a13c7c10c11.heap.size ≠ q := Nat.ne_of_gt lq
                generalize Wc3c4a13c7c10c11.alloc (.cells #[.bool false, .slice none 0 0] 25) = Wc3c4a13c7c10c11a12 at zp eWc3c4a13c7c10c11a12 lp hHeld ⊢
                have wa := wa.below eWc3c4a13c7c10c11a12; have wb := wb.below eWc3c4a13c7c10c11a12; have wc := wc.below eWc3c4a13c7c10c11a12; have ya := ya.on eWc3c4a13c7c10c11a12; have yb := yb.on eWc3c4a13c7c10c11a12; have yc := yc.on eWc3c4a13c7c10c11a12; have B1 := also B1 eWc3c4a13c7c10c11a12; have B9 := also B9 eWc3c4a13c7c10c11a12; have h20 := h20.below eWc3c4a13c7c10c11a12; have hL := hL.below eWc3c4a13c7c10c11a12; have h22 := h22.below eWc3c4a13c7c10c11a12; have h25 := h25.below eWc3c4a13c7c10c11a12; have hR := hR.below eWc3c4a13c7c10c11a12
                have zq := zq.on eWc3c4a13c7c10c11a12; have lq := Nat.lt_of_lt_of_le lq eWc3c4a13c7c10c11a12.size
                generalize Wc3c4a13c7c10c11.heap.size = p at zp lp gp vp xap xbp xcp Lp Rp pq ⊢
                obtain ⟨k0, k1, k2, k3⟩ := zp
                have zp : Bx _ _ _ _ := ⟨k0, k1, k2, k3⟩
                refine take_call (i := 14) rfl (by kernel_rfl) (fun K hK => ?_)
                go_simp
                refine hK.out _ _ ?_ (fun hHeld => ?_)
                · exact keepS3 hHeld gp (by omega) _ _
                clear hK K
                obtain ⟨j0, j1, j2, j3⟩ : Bx ((Wc3c4a13c7c10c11a12.setCell ⟨p, 0, none⟩ (.bool nl)).setCell ⟨p, 1, none⟩ (.slice al ll cl)) q (.bool false) (.slice none 0 0) := (zq.put pq).put pq
                refine take_call (i := 15) rfl (by kernel_rfl) (fun K hK => ?_)
                go_simp
                refine hK.out _ _ ?_ (fun hHeld => ?_)
                · exact keepS3 hHeld gq (by omega) _ _
                clear hK K
                refine wpAnyH_done (by kernel_rfl) ?_ _
                exact ringTwo wa wb wc hL hR ya yb yc zp zq B1 gp gq pq Lp Lq Rp Rq xap xaq xbp xbq xcp xcq
              · skip
                go_simp
                refine hK.out _ _ (keepB3 hHeld ((Below.refl _ _).alloc (Nat.le_refl _) _)) (fun hHeld => ?_)
                clear hK K
                have zp := bx_new Wc3c4a13c7c10 (.bool false) (.slice none 0 0) 25
                have eWc3c4a13c7c10a12 : Below Wc3c4a13c7c10.heap.size Wc3c4a13c7c10 (Wc3c4a13c7c10.alloc (.cells #[.bool false, .slice none 0 0] 25)) := (Below.refl _ _).alloc (Nat.le_refl _) _
                have lp : Wc3c4a13c7c10.heap.size < (Wc3c4a13c7c10.alloc (.cells #[.bool false, .slice none 0 0] 25)).heap.size := by simp
                have gp : w.heap.size + 1 + 1 < Wc3c4a13c7c10.heap.size := bx_lt yc; have vp : wr.heap.size ≤ Wc3c4a13c7c10.heap.size := B9.size
                have xap : NA Wc3c4a13c7c10.heap.size a1 m1 := wa.ni.sl.na (Nat.le_refl _)
                have xbp : NA Wc3c4a13c7c10.heap.size a2 m2 := wb.ni.sl.na (Nat.le_refl _)
                have xcp : NA Wc3c4a13c7c10.heap.size a3 m3 := wc.ni.sl.na (Nat.le_refl _)
                have Lp : NA Wc3c4a13c7c10.heap.size al ll := hL.nd.sl.na (Nat.le_refl _)
                have pq : Wc3c4a13c7c10.heap.size ≠ q := Nat.ne_of_gt lq
                generalize Wc3c4a13c7c10.alloc (.cells #[.bool false, .slice none 0 0] 25) = Wc3c4a13c7c10a12 at zp eWc3c4a13c7c10a12 lp hHeld ⊢
                have wa := wa.below eWc3c4a13c7c10a12; have wb := wb.below eWc3c4a13c7c10a12; have wc := wc.below eWc3c4a13c7c10a12; have ya := ya.on eWc3c4a13c7c10a12; have yb := yb.on eWc3c4a13c7c10a12; have yc := yc.on eWc3c4a13c7c10a12; have B1 := also B1 eWc3c4a13c7c10a12; have B9 := also B9 eWc3c4a13c7c10a12; have h20 := h20.below eWc3c4a13c7c10a12; have hL := hL.below eWc3c4a13c7c10a12; have h22 := h22.below eWc3c4a13c7c10a12; have h25 := h25.below eWc3c4a13c7c10a12
                have zq := zq.on eWc3c4a13c7c10a12; have lq := Nat.lt_of_lt_of_le lq eWc3c4a13c7c10a12.size
                generalize Wc3c4a13c7c10.heap.size = p at zp lp gp vp xap xbp xcp Lp pq ⊢
                refine take_call (i := 11) rfl (by kernel_rfl) (fun K hK => ?_)
                go_simp
                (go_at_call 6; refine (wAdd n22 n25 a22 a25 l22 l25 c22 c25 (X * Y) (X * Z) _ (h22.wi 32 (by decide) HXY.out) (h25.wi 32 (by decide) HXZ.out) (X * Y + X * Z) rfl).mono ?_; rintro e Wc3c4a13c7c10a12c11 ⟨nr, ar, lr, cr, rfl, hR, fR, eWc3c4a13c7c10a12c11⟩)
                have Rp : NA p ar lr := fR p lp
                have Rq : NA q ar lr := fR q lq
                refine hK.out _ _ (keepB3 hHeld eWc3c4a13c7c10a12c11) (fun hHeld => ?_)
                clear hK K
                have wa := wa.below eWc3c4a13c7c10a12c11; have wb := wb.below eWc3c4a13c7c10a12c11; have wc := wc.below eWc3c4a13c7c10a12c11; have ya := ya.on eWc3c4a13c7c10a12c11; have yb := yb.on eWc3c4a13c7c10a12c11; have yc := yc.on eWc3c4a13c7c10a12c11; have B1 := also B1 eWc3c4a13c7c10a12c11; have B9 := also B9 eWc3c4a13c7c10a12c11; have h20 := h20.below eWc3c4a13c7c10a12c11; have hL := hL.below eWc3c4a13c7c10a12c11; have h22 := h22.below eWc3c4a13c7c10a12c11; have h25 := h25.below eWc3c4a13c7c10a12c11
                have zp := zp.on eWc3c4a13c7c10a12c11; have lp := Nat.lt_of_lt_of_le lp eWc3c4a13c7c10a12c11.size
                have zq := zq.on eWc3c4a13c7c10a12c11; have lq := Nat.lt_of_lt_of_le lq eWc3c4a13c7c10a12c11.size
                obtain ⟨k0, k1, k2, k3⟩ := zp
                have zp : Bx _ _ _ _ := ⟨k0, k1, k2, k3⟩
                refine take_call (i := 14) rfl (by kernel_rfl) (fun K hK => ?_)
                go_simp
                refine hK.out _ _ ?_ (fun hHeld => ?_)
                · exact keepS3 hHeld gp (by omega) _ _
                clear hK K
                obtain ⟨j0, j1, j2, j3⟩ : Bx ((Wc3c4a13c7c10a12c11.setCell ⟨p, 0, none⟩ (.bool nl)).setCell ⟨p, 1, none⟩ (.slice al ll cl)) q (.bool false) (.slice none 0 0) := (zq.put pq).put pq
                refine take_call (i := 15) rfl (by kernel_rfl) (fun K hK => ?_)
                go_simp
                refine hK.out _ _ ?_ (fun hHeld => ?_)
                · exact keepS3 hHeld gq (by omega) _ _
                clear hK K
                refine wpAnyH_done (by kernel_rfl) ?_ _
                exact ringTwo wa wb wc hL hR ya yb yc zp zq B1 gp gq pq Lp Lq Rp Rq xap xaq xbp xbq xcp xcq
            · skip
              go_simp
              refine hK.out _ _ (keepB3 hHeld ((Below.refl _ _).alloc (Nat.le_refl _) _)) (fun hHeld => ?_)
              clear hK K
              have zp := bx_new Wc3c4a13c7 (.bool false) (.slice none 0 0) 25
              have eWc3c4a13c7a12 : Below Wc3c4a13c7.heap.size Wc3c4a13c7 (Wc3c4a13c7.alloc (.cells #[.bool false, .slice none 0 0] 25)) := (Below.refl _ _).alloc (Nat.le_refl _) _
              have lp : Wc3c4a13c7.heap.size < (Wc3c4a13c7.alloc (.cells #[.bool false, .slice none 0 0] 25)).heap.size := by simp
              have gp : w.heap.size + 1 + 1 < Wc3c4a13c7.heap.size := bx_lt yc; have vp : wr.heap.size ≤ Wc3c4a13c7.heap.size := B9.size
              have xap : NA Wc3c4a13c7.heap.size a1 m1 := wa.ni.sl.na (Nat.le_refl _)
              have xbp : NA Wc3c4a13c7.heap.size a2 m2 := wb.ni.sl.na (Nat.le_refl _)
              have xcp : NA Wc3c4a13c7.heap.size a3 m3 := wc.ni.sl.na (Nat.le_refl _)
              have Lp : NA Wc3c4a13c7.heap.size al ll := hL.nd.sl.na (Nat.le_refl _)
              have pq : Wc3c4a13c7.heap.size ≠ q := Nat.ne_of_gt lq
              generalize Wc3c4a13c7.alloc (.cells #[.bool false, .slice none 0 0] 25) = Wc3c4a13c7a12 at zp eWc3c4a13c7a12 lp hHeld ⊢
              have wa := wa.below eWc3c4a13c7a12; have wb := wb.below eWc3c4a13c7a12; have wc := wc.below eWc3c4a13c7a12; have ya := ya.on eWc3c4a13c7a12; have yb := yb.on eWc3c4a13c7a12; have yc := yc.on eWc3c4a13c7a12; have B1 := also B1 eWc3c4a13c7a12; have B9 := also B9 eWc3c4a13c7a12; have h20 := h20.below eWc3c4a13c7a12; have hL := hL.below eWc3c4a13c7a12; have h22 := h22.below eWc3c4a13c7a12
              have zq := zq.on eWc3c4a13c7a12; have lq := Nat.lt_of_lt_of_le lq eWc3c4a13c7a12.size
              generalize Wc3c4a13c7.heap.size = p at zp lp gp vp xap xbp xcp Lp pq ⊢
              refine take_call (i := 10) rfl (by kernel_rfl) (fun K hK => ?_)
              go_simp
              (go_at_call 5; refine (wMul n o a1 a3 m1 m3 c1 c3 X Z _ wa wc (X * Z) rfl).mono ?_; rintro e Wc3c4a13c7a12c10 ⟨n25, a25, l25, c25, rfl, h25, f25, eWc3c4a13c7a12c10⟩)
              refine hK.out _ _ (keepB3 hHeld eWc3c4a13c7a12c10) (fun hHeld => ?_)
              clear hK K
              have wa := wa.below eWc3c4a13c7a12c10; have wb := wb.below eWc3c4a13c7a12c10; have wc := wc.below eWc3c4a13c7a12c10; have ya := ya.on eWc3c4a13c7a12c10; have yb := yb.on eWc3c4a13c7a12c10; have yc := yc.on eWc3c4a13c7a12c10; have B1 := also B1 eWc3c4a13c7a12c10; have B9 := also B9 eWc3c4a13c7a12c10; have h20 := h20.below eWc3c4a13c7a12c10; have hL := hL.below eWc3c4a13c7a12c10; have h22 := h22.below eWc3c4a13c7a12c10
              have zp := zp.on eWc3c4a13c7a12c10; have lp := Nat.lt_of_lt_of_le lp eWc3c4a13c7a12c10.size
              have zq := zq.on eWc3c4a13c7a12c10; have lq := Nat.lt_of_lt_of_le lq eWc3c4a13c7a12c10.size
              refine take_call (i := 11) rfl (by kernel_rfl) (fun K hK => ?_)
              go_simp
              (go_at_call 6; refine (wAdd n22 n25 a22 a25 l22 l25 c22 c25 (X * Y) (X * Z) _ (h22.wi 32 (by decide) HXY.out) (h25.wi 32 (by decide) HXZ.out) (X * Y + X * Z) rfl).mono ?_; rintro e Wc3c4a13c7a12c10c11 ⟨nr, ar, lr, cr, rfl, hR, fR, eWc3c4a13c7a12c10c11⟩)
              have Rp : NA p ar lr := fR p lp
              have Rq : NA q ar lr := fR q lq
              refine hK.out _ _ (keepB3 hHeld eWc3c4a13c7a12c10c11) (fun hHeld => ?_)
              clear hK K
              have wa := wa.below eWc3c4a13c7a12c10c11; have wb := wb.below eWc3c4a13c7a12c10c11; have wc := wc.below eWc3c4a13c7a12c10c11; have ya := ya.on eWc3c4a13c7a12c10c11; have yb := yb.on eWc3c4a13c7a12c10c11; have yc := yc.on eWc3c4a13c7a12c10c11; have B1 := also B1 eWc3c4a13c7a12c10c11; have B9 := also B9 eWc3c4a13c7a12c10c11; have h20 := h20.below eWc3c4a13c7a12c10c11; have hL := hL.below eWc3c4a13c7a12c10c11; have h22 := h22.below eWc3c4a13c7a12c10c11; have h25 := h25.below eWc3c4a13c7a12c10c11
              have zp := zp.on eWc3c4a13c7a12c10c11; have lp := Nat.lt_of_lt_of_le lp eWc3c4a13c7a12c10c11.size
              have zq := zq.on eWc3c4a13c7a12c10c11; have lq := Nat.lt_of_lt_of_le lq eWc3c4a13c7a12c10c11.size
              obtain ⟨k0, k1, k2, k3⟩ := zp
              have zp : Bx _ _ _ _ := ⟨k0, k1, k2, k3⟩
              refine take_call (i := 14) rfl (by kernel_rfl) (fun K hK => ?_)
              go_simp
              refine hK.out _ _ ?_ (fun hHeld => ?_)
              · exact keepS3 hHeld gp (by omega) _ _
              clear hK K
              obtain ⟨j0, j1, j2, j3⟩ : Bx ((Wc3c4a13c7a12c10c11.setCell ⟨p, 0, none⟩ (.bool nl)).setCell ⟨p, 1, none⟩ (.slice al ll cl)) q (.bool false) (.slice none 0 0) := (zq.put pq).put pq
              refine take_call (i := 15) rfl (by kernel_rfl) (fun K hK => ?_)
              go_simp
              refine hK.out _ _ ?_ (fun hHeld => ?_)
              · exact keepS3 hHeld gq (by omega) _ _
              clear hK K
              refine wpAnyH_done (by kernel_rfl) ?_ _
              exact ringTwo wa wb wc hL hR ya yb yc zp zq B1 gp gq pq Lp Lq Rp Rq xap xaq xbp xbq xcp xcq
          · skip
            go_simp
            refine hK.out _ _ (keepB3 hHeld ((Below.refl _ _).alloc (Nat.le_refl _) _)) (fun hHeld => ?_)
            clear hK K
            have zp := bx_new Wc3c4a13 (.bool false) (.slice none 0 0) 25
            have eWc3c4a13a12 : Below Wc3c4a13.heap.size Wc3c4a13 (Wc3c4a13.alloc (.cells #[.bool false, .slice none 0 0] 25)) := (Below.refl _ _).alloc (Nat.le_refl _) _
            have lp : Wc3c4a13.heap.size < (Wc3c4a13.alloc (.cells #[.bool false, .slice none 0 0] 25)).heap.size := by simp
            have gp : w.heap.size + 1 + 1 < Wc3c4a13.heap.size := bx_lt yc; have vp : wr.heap.size ≤ Wc3c4a13.heap.size := B9.size
            have xap : NA Wc3c4a13.heap.size a1 m1 := wa.ni.sl.na (Nat.le_refl _)
            have xbp : NA Wc3c4a13.heap.size a2 m2 := wb.ni.sl.na (Nat.le_refl _)
            have xcp : NA Wc3c4a13.heap.size a3 m3 := wc.ni.sl.na (Nat.le_refl _)
            have Lp : NA Wc3c4a13.heap.size al ll := hL.nd.sl.na (Nat.le_refl _)
            have pq : Wc3c4a13.heap.size ≠ q := Nat.ne_of_gt lq
            generalize Wc3c4a13.alloc (.cells #[.bool false, .slice none 0 0] 25) = Wc3c4a13a12 at zp eWc3c4a13a12 lp hHeld ⊢
            have wa := wa.below eWc3c4a13a12; have wb := wb.below eWc3c4a13a12; have wc := wc.below eWc3c4a13a12; have ya := ya.on eWc3c4a13a12; have yb := yb.on eWc3c4a13a12; have yc := yc.on eWc3c4a13a12; have B1 := also B1 eWc3c4a13a12; have B9 := also B9 eWc3c4a13a12; have h20 := h20.below eWc3c4a13a12; have hL := hL.below eWc3c4a13a12
            have zq := zq.on eWc3c4a13a12; have lq := Nat.lt_of_lt_of_le lq eWc3c4a13a12.size
            generalize Wc3c4a13.heap.size = p at zp lp gp vp xap xbp xcp Lp pq ⊢
            refine take_call (i := 7) rfl (by kernel_rfl) (fun K hK => ?_)
            go_simp
            (go_at_call 5; refine (wMul n m a1 a2 m1 m2 c1 c2 X Y _ wa wb (X * Y) rfl).mono ?_; rintro e Wc3c4a13a12c7 ⟨n22, a22, l22, c22, rfl, h22, f22, eWc3c4a13a12c7⟩)
            refine hK.out _ _ (keepB3 hHeld eWc3c4a13a12c7) (fun hHeld => ?_)
            clear hK K
            have wa := wa.below eWc3c4a13a12c7; have wb := wb.below eWc3c4a13a12c7; have wc := wc.below eWc3c4a13a12c7; have ya := ya.on eWc3c4a13a12c7; have yb := yb.on eWc3c4a13a12c7; have yc := yc.on eWc3c4a13a12c7; have B1 := also B1 eWc3c4a13a12c7; have B9 := also B9 eWc3c4a13a12c7; have h20 := h20.below eWc3c4a13a12c7; have hL := hL.below eWc3c4a13a12c7
            have zp := zp.on eWc3c4a13a12c7; have lp := Nat.lt_of_lt_of_le lp eWc3c4a13a12c7.size
            have zq := zq.on eWc3c4a13a12c7; have lq := Nat.lt_of_lt_of_le lq eWc3c4a13a12c7.size
            refine take_call (i := 10) rfl (by kernel_rfl) (fun K hK => ?_)
            go_simp
            (go_at_call 5; refine (wMul n o a1 a3 m1 m3 c1 c3 X Z _ wa wc (X * Z) rfl).mono ?_; rintro e Wc3c4a13a12c7c10 ⟨n25, a25, l25, c25, rfl, h25, f25, eWc3c4a13a12c7c10⟩)
            refine hK.out _ _ (keepB3 hHeld eWc3c4a13a12c7c10) (fun hHeld => ?_)
            clear hK K
            have wa := wa.below eWc3c4a13a12c7c10; have wb := wb.below eWc3c4a13a12c7c10; have wc := wc.below eWc3c4a13a12c7c10; have ya := ya.on eWc3c4a13a12c7c10; have yb := yb.on eWc3c4a13a12c7c10; have yc := yc.on eWc3c4a13a12c7c10; have B1 := also B1 eWc3c4a13a12c7c10; have B9 := also B9 eWc3c4a13a12c7c10; have h20 := h20.below eWc3c4a13a12c7c10; have hL := hL.below eWc3c4a13a12c7c10; have h22 := h22.below eWc3c4a13a12c7c10
            have zp := zp.on eWc3c4a13a12c7c10; have lp := Nat.lt_of_lt_of_le lp eWc3c4a13a12c7c10.size
            have zq := zq.on eWc3c4a13a12c7c10; have lq := Nat.lt_of_lt_of_le lq eWc3c4a13a12c7c10.size
            refine take_call (i := 11) rfl (by kernel_rfl) (fun K hK => ?_)
            go_simp
            (go_at_call 6; refine (wAdd n22 n25 a22 a25 l22 l25 c22 c25 (X * Y) (X * Z) _ (h22.wi 32 (by decide) HXY.out) (h25.wi 32 (by decide) HXZ.out) (X * Y + X * Z) rfl).mono ?_; rintro e Wc3c4a13a12c7c10c11 ⟨nr, ar, lr, cr, rfl, hR, fR, eWc3c4a13a12c7c10c11⟩)
            have Rp : NA p ar lr := fR p lp
            have Rq : NA q ar lr := fR q lq
            refine hK.out _ _ (keepB3 hHeld eWc3c4a13a12c7c10c11) (fun hHeld => ?_)
            clear hK K
            have wa := wa.below eWc3c4a13a12c7c10c11; have wb := wb.below eWc3c4a13a12c7c10c11; have wc := wc.below eWc3c4a13a12c7c10c11; have ya := ya.on eWc3c4a13a12c7c10c11; have yb := yb.on eWc3c4a13a12c7c10c11; have yc := yc.on eWc3c4a13a12c7c10c11; have B1 := also B1 eWc3c4a13a12c7c10c11; have B9 := also B9 eWc3c4a13a12c7c10c11; have h20 := h20.below eWc3c4a13a12c7c10c11; have hL := hL.below eWc3c4a13a12c7c10c11; have h22 := h22.below eWc3c4a13a12c7c10c11; have h25 := h25.below eWc3c4a13a12c7c10c11
            have zp := zp.on eWc3c4a13a12c7c10c11; have lp := Nat.lt_of_lt_of_le lp eWc3c4a13a12c7c10c11.size
            have zq := zq.on eWc3c4a13a12c7c10c11; have lq := Nat.lt_of_lt_of_le lq eWc3c4a13a12c7c10c11.size
            obtain ⟨k0, k1, k2, k3⟩ := zp
            have zp : Bx _ _ _ _ := ⟨k0, k1, k2, k3⟩
            refine take_call (i := 14) rfl (by kernel_rfl) (fun K hK => ?_)
            go_simp
            refine hK.out _ _ ?_ (fun hHeld => ?_)
            · exact keepS3 hHeld gp (by omega) _ _
            clear hK K
            obtain ⟨j0, j1, j2, j3⟩ : Bx ((Wc3c4a13a12c7c10c11.setCell ⟨p, 0, none⟩ (.bool nl)).setCell ⟨p, 1, none⟩ (.slice al ll cl)) q (.bool false) (.slice none 0 0) := (zq.put pq).put pq
            refine take_call (i := 15) rfl (by kernel_rfl) (fun K hK => ?_)
            go_simp
            refine hK.out _ _ ?_ (fun hHeld => ?_)
            · exact keepS3 hHeld gq (by omega) _ _
            clear hK K
            refine wpAnyH_done (by kernel_rfl) ?_ _
            exact ringTwo wa wb wc hL hR ya yb yc zp zq B1 gp gq pq Lp Lq Rp Rq xap xaq xbp xbq xcp xcq
      · skip
        go_simp
        refine hK.out _ _ (keepB3 hHeld ((Below.refl _ _).alloc (Nat.le_refl _) _)) (fun hHeld => ?_)
        clear hK K
        have zp := bx_new Wc3 (.bool false) (.slice none 0 0) 25
        have eWc3a12 : Below Wc3.heap.size Wc3 (Wc3.alloc (.cells #[.bool false, .slice none 0 0] 25)) := (Below.refl _ _).alloc (Nat.le_refl _) _
        have lp : Wc3.heap.size < (Wc3.alloc (.cells #[.bool false, .slice none 0 0] 25)).heap.size := by simp
        have gp : w.heap.size + 1 + 1 < Wc3.heap.size := bx_lt yc; have vp : wr.heap.size ≤ Wc3.heap.size := B9.size
        have xap : NA Wc3.heap.size a1 m1 := wa.ni.sl.na (Nat.le_refl _)
        have xbp : NA Wc3.heap.size a2 m2 := wb.ni.sl.na (Nat.le_refl _)
        have xcp : NA Wc3.heap.size a3 m3 := wc.ni.sl.na (Nat.le_refl _)
        generalize Wc3.alloc (.cells #[.bool false, .slice none 0 0] 25) = Wc3a12 at zp eWc3a12 lp hHeld ⊢
        have wa := wa.below eWc3a12; have wb := wb.below eWc3a12; have wc := wc.below eWc3a12; have ya := ya.on eWc3a12; have yb := yb.on eWc3a12; have yc := yc.on eWc3a12; have B1 := also B1 eWc3a12; have B9 := also B9 eWc3a12; have h20 := h20.below eWc3a12
        generalize Wc3.heap.size = p at zp lp gp vp xap xbp xcp ⊢
        refine wpAnyH_ready (rs := [4, 13]) (by kernel_rfl) (by simp) (AllReadyH.cons (i := 4) rfl (fun K hK => ?_) (AllReadyH.cons (i := 13) rfl (fun K hK => ?_) AllReadyH.nil))
        · skip
          go_simp
          (go_at_call 5; refine (wMul n n20 a1 a20 m1 l20 c1 c20 X (Y + Z) _ wa (h20.wi 17 (by decide) HYZ.out) (X * (Y + Z)) rfl).mono ?_; rintro e Wc3a12c4 ⟨nl, al, ll, cl, rfl, hL, fL, eWc3a12c4⟩)
          have Lp : NA p al ll := fL p lp
          refine hK.out _ _ (keepB3 hHeld eWc3a12c4) (fun hHeld => ?_)
          clear hK K
          have wa := wa.below eWc3a12c4; have wb := wb.below eWc3a12c4; have wc := wc.below eWc3a12c4; have ya := ya.on eWc3a12c4; have yb := yb.on eWc3a12c4; have yc := yc.on eWc3a12c4; have B1 := also B1 eWc3a12c4; have B9 := also B9 eWc3a12c4; have h20 := h20.below eWc3a12c4
          have zp := zp.on eWc3a12c4; have lp := Nat.lt_of_lt_of_le lp eWc3a12c4.size
          refine wpAnyH_ready (rs := [7, 13]) (by kernel_rfl) (by simp) (AllReadyH.cons (i := 7) rfl (fun K hK => ?_) (AllReadyH.cons (i := 13) rfl (fun K hK => ?_) AllReadyH.nil))
          · skip
            go_simp
            (go_at_call 5; refine (wMul n m a1 a2 m1 m2 c1 c2 X Y _ wa wb (X * Y) rfl).mono ?_; rintro e Wc3a12c4c7 ⟨n22, a22, l22, c22, rfl, h22, f22, eWc3a12c4c7⟩)
            refine hK.out _ _ (keepB3 hHeld eWc3a12c4c7) (fun hHeld => ?_)
            clear hK K
            have wa := wa.below eWc3a12c4c7; have wb := wb.below eWc3a12c4c7; have wc := wc.below eWc3a12c4c7; have ya := ya.on eWc3a12c4c7; have yb := yb.on eWc3a12c4c7; have yc := yc.on eWc3a12c4c7; have B1 := also B1 eWc3a12c4c7; have B9 := also B9 eWc3a12c4c7; have h20 := h20.below eWc3a12c4c7; have hL := hL.below eWc3a12c4c7
            have zp := zp.on eWc3a12c4c7; have lp := Nat.lt_of_lt_of_le lp eWc3a12c4c7.size
            refine wpAnyH_ready (rs := [10, 13]) (by kernel_rfl) (by simp) (AllReadyH.cons (i := 10) rfl (fun K hK => ?_) (AllReadyH.cons (i := 13) rfl (fun K hK => ?_) AllReadyH.nil))
            · skip
              go_simp
              (go_at_call 5; refine (wMul n o a1 a3 m1 m3 c1 c3 X Z _ wa wc (X * Z) rfl).mono ?_; rintro e Wc3a12c4c7c10 ⟨n25, a25, l25, c25, rfl, h25, f25, eWc3a12c4c7c10⟩)
              refine hK.out _ _ (keepB3 hHeld eWc3a12c4c7c10) (fun hHeld => ?_)
              clear hK K
              have wa := wa.below eWc3a12c4c7c10; have wb := wb.below eWc3a12c4c7c10; have wc := wc.below eWc3a12c4c7c10; have ya := ya.on eWc3a12c4c7c10; have yb := yb.on eWc3a12c4c7c10; have yc := yc.on eWc3a12c4c7c10; have B1 := also B1 eWc3a12c4c7c10; have B9 := also B9 eWc3a12c4c7c10; have h20 := h20.below eWc3a12c4c7c10; have hL := hL.below eWc3a12c4c7c10; have h22 := h22.below eWc3a12c4c7c10
              have zp := zp.on eWc3a12c4c7c10; have lp := Nat.lt_of_lt_of_le lp eWc3a12c4c7c10.size
              refine wpAnyH_ready (rs := [11, 13]) (by kernel_rfl) (by simp) (AllReadyH.cons (i := 11) rfl (fun K hK => ?_) (AllReadyH.cons (i := 13) rfl (fun K hK => ?_) AllReadyH.nil))
              · skip
                go_simp
                (go_at_call 6; refine (wAdd n22 n25 a22 a25 l22 l25 c22 c25 (X * Y) (X * Z) _ (h22.wi 32 (by decide) HXY.out) (h25.wi 32 (by decide) HXZ.out) (X * Y + X * Z) rfl).mono ?_; rintro e Wc3a12c4c7c10c11 ⟨nr, ar, lr, cr, rfl, hR, fR, eWc3a12c4c7c10c11⟩)
                have Rp : NA p ar lr := fR p lp
                refine hK.out _ _ (keepB3 hHeld eWc3a12c4c7c10c11) (fun hHeld => ?_)
                clear hK K
                have wa := wa.below eWc3a12c4c7c10c11; have wb := wb.below eWc3a12c4c7c10c11; have wc := wc.below eWc3a12c4c7c10c11; have ya := ya.on eWc3a12c4c7c10c11; have yb := yb.on eWc3a12c4c7c10c11; have yc := yc.on eWc3a12c4c7c10c11; have B1 := also B1 eWc3a12c4c7c10c11; have B9 := also B9 eWc3a12c4c7c10c11; have h20 := h20.below eWc3a12c4c7c10c11; have hL := hL.below eWc3a12c4c7c10c11; have h22 := h22.below eWc3a12c4c7c10c11; have h25 := h25.below eWc3a12c4c7c10c11
                have zp := zp.on eWc3a12c4c7c10c11; have lp := Nat.lt_of_lt_of_le lp eWc3a12c4c7c10c11.size
                refine take_call (i := 13) rfl (by kernel_rfl) (fun K hK => ?_)
                go_simp
                refine hK.out _ _ (keepB3 hHeld ((Below.refl _ _).alloc (Nat.le_refl _) _)) (fun hHeld => ?_)
                clear hK K
                have zq := bx_new Wc3a12c4c7c10c11 (.bool false) (.slice none 0 0) 25
                have eWc3a12c4c7c10c11a13 : Below Wc3a12c4c7c10c11.heap.size Wc3a12c4c7c10c11 (Wc3a12c4c7c10c11.alloc (.cells #[.bool false, .slice none 0 0] 25)) := (Below.refl _ _).alloc (Nat.le_refl _) _
                have lq : Wc3a12c4c7c10c11.heap.size < (Wc3a12c4c7c10c11.alloc (.cells #[.bool false, .slice none 0 0] 25)).heap.size := by simp
                have gq : w.heap.size + 1 + 1 < Wc3a12c4c7c10c11.heap.size := bx_lt yc; have vq : wr.heap.size ≤ Wc3a12c4c7c10c11.heap.size := B9.size
                have xaq : NA Wc3a12c4c7c10c11.heap.size a1 m1 := wa.ni.sl.na (Nat.le_refl _)
                have xbq : NA Wc3a12c4c7c10c11.heap.size a2 m2 := wb.ni.sl.na (Nat.le_refl _)
                have xcq : NA Wc3a12c4c7c10c11.heap.size a3 m3 := wc.ni.sl.na (Nat.le_refl _)
                have Lq : NA Wc3a12c4c7c10c11.heap.size al ll := hL.nd.sl.na (Nat.le_refl _)
                have Rq : NA Wc3a12c4c7c10c11.heap.size ar lr := hR.nd.sl.na (Nat.le_refl _)
                have pq : p ≠ Wc3a12c4c7c10c11.heap.size := Nat.ne_of_lt lp
                generalize Wc3a12c4c7c10c11.alloc (.cells #[.bool false, .slice none 0 0] 25) = Wc3a12c4c7c10c11a13 at zq eWc3a12c4c7c10c11a13 lq hHeld ⊢
                have wa := wa.below eWc3a12c4c7c10c11a13; have wb := wb.below eWc3a12c4c7c10c11a13; have wc := wc.below eWc3a12c4c7c10c11a13; have ya := ya.on eWc3a12c4c7c10c11a13; have yb := yb.on eWc3a12c4c7c10c11a13; have yc := yc.on eWc3a12c4c7c10c11a13; have B1 := also B1 eWc3a12c4c7c10c11a13; have B9 := also B9 eWc3a12c4c7c10c11a13; have h20 := h20.below eWc3a12c4c7c10c11a13; have hL := hL.below eWc3a12c4c7c10c11a13; have h22 := h22.below eWc3a12c4c7c10c11a13; have h25 := h25.below eWc3a12c4c7c10c11a13; have hR := hR.below eWc3a12c4c7c10c11a13
                have zp := zp.on eWc3a12c4c7c10c11a13; have lp := Nat.lt_of_lt_of_le lp eWc3a12c4c7c10c11a13.size
                generalize Wc3a12c4c7c10c11.heap.size = q at zq lq gq vq xaq xbq xcq Lq Rq pq ⊢
                obtain ⟨k0, k1, k2, k3⟩ := zp
                have zp : Bx _ _ _ _ := ⟨k0, k1, k2, k3⟩
                refine take_call (i := 14) rfl (by kernel_rfl) (fun K hK => ?_)
                go_simp
                refine hK.out _ _ ?_ (fun hHeld => ?_)
                · exact keepS3 hHeld gp (by omega) _ _
                clear hK K
                obtain ⟨j0, j1, j2, j3⟩ : Bx ((Wc3a12c4c7c10c11a13.setCell ⟨p, 0, none⟩ (.bool nl)).setCell ⟨p, 1, none⟩ (.slice al ll cl)) q (.bool false) (.slice none 0 0) := (zq.put pq).put pq
                refine take_call (i := 15) rfl (by kernel_rfl) (fun K hK => ?_)
                go_simp
                refine hK.out _ _ ?_ (fun hHeld => ?_)
                · exact keepS3 hHeld gq (by omega) _ _
                clear hK K
                refine wpAnyH_done (by kernel_rfl) ?_ _
                exact ringTwo wa wb wc hL hR ya yb yc zp zq B1 gp gq pq Lp Lq Rp Rq xap xaq xbp xbq xcp xcq
              · skip
                go_simp
                refine hK.out _ _ (keepB3 hHeld ((Below.refl _ _).alloc (Nat.le_refl _) _)) (fun hHeld => ?_)
                clear hK K
                have zq := bx_new Wc3a12c4c7c10 (.bool false) (.slice none 0 0) 25
                have eWc3a12c4c7c10a13 : Below Wc3a12c4c7c10.heap.size Wc3a12c4c7c10 (Wc3a12c4c7c10.alloc (.cells #[.bool false, .slice none 0 0] 25)) := (Below.refl _ _).alloc (Nat.le_refl _) _
                have lq : Wc3a12c4c7c10.heap.size < (Wc3a12c4c7c10.alloc (.cells #[.bool false, .slice none 0 0] 25)).heap.size := by simp
                have gq : w.heap.size + 1 + 1 < Wc3a12c4c7c10.heap.size := bx_lt yc; have vq : wr.heap.size ≤ Wc3a12c4c7c10.heap.size := B9.size
                have xaq : NA Wc3a12c4c7c10.heap.size a1 m1 := wa.ni.sl.na (Nat.le_refl _)
                have xbq : NA Wc3a12c4c7c10.heap.size a2 m2 := wb.ni.sl.na (Nat.le_refl _)
                have xcq : NA Wc3a12c4c7c10.heap.size a3 m3 := wc.ni.sl.na (Nat.le_refl _)
                have Lq : NA Wc3a12c4c7c10.heap.size al ll := hL.nd.sl.na (Nat.le_refl _)
                have pq : p ≠ Wc3a12c4c7c10.heap.size := Nat.ne_of_lt lp
                generalize Wc3a12c4c7c10.alloc (.cells #[.bool false, .slice none 0 0] 25) = Wc3a12c4c7c10a13 at zq eWc3a12c4c7c10a13 lq hHeld ⊢
                have wa := wa.below eWc3a12c4c7c10a13; have wb := wb.below eWc3a12c4c7c10a13; have wc := wc.below eWc3a12c4c7c10a13; have ya := ya.on eWc3a12c4c7c10a13; have yb := yb.on eWc3a12c4c7c10a13; have yc := yc.on eWc3a12c4c7c10a13; have B1 := also B1 eWc3a12c4c7c10a13; have B9 := also B9 eWc3a12c4c7c10a13; have h20 := h20.below eWc3a12c4c7c10a13; have hL := hL.below eWc3a12c4c7c10a13; have h22 := h22.below eWc3a12c4c7c10a13; have h25 := h25.below eWc3a12c4c7c10a13
                have zp := zp.on eWc3a12c4c7c10a13; have lp := Nat.lt_of_lt_of_le lp eWc3a12c4c7c10a13.size
                generalize Wc3a12c4c7c10.heap.size = q at zq lq gq vq xaq xbq xcq Lq pq ⊢
                refine take_call (i := 11) rfl (by kernel_rfl) (fun K hK => ?_)
                go_simp
                (go_at_call 6; refine (wAdd n22 n25 a22 a25 l22 l25 c22 c25 (X * Y) (X * Z) _ (h22.wi 32 (by decide) HXY.out) (h25.wi 32 (by decide) HXZ.out) (X * Y + X * Z) rfl).mono ?_; rintro e Wc3a12c4c7c10a13c11 ⟨nr, ar, lr, cr, rfl, hR, fR, eWc3a12c4c7c10a13c11⟩)
                have Rp : NA p ar lr := fR p lp
                have Rq : NA q ar lr := fR q lq
                refine hK.out _ _ (keepB3 hHeld eWc3a12c4c7c10a13c11) (fun hHeld => ?_)
                clear hK K
                have wa := wa.below eWc3a12c4c7c10a13c11; have wb := wb.below eWc3a12c4c7c10a13c11; have wc := wc.below eWc3a12c4c7c10a13c11; have ya := ya.on eWc3a12c4c7c10a13c11; have yb := yb.on eWc3a12c4c7c10a13c11; have yc := yc.on eWc3a12c4c7c10a13c11; have B1 := also B1 eWc3a12c4c7c10a13c11; have B9 := also B9 eWc3a12c4c7c10a13c11; have h20 := h20.below eWc3a12c4c7c10a13c11; have hL := hL.below eWc3a12c4c7c10a13c11; have h22 := h22.below eWc3a12c4c7c10a13c11; have h25 := h25.below eWc3a12c4c7c10a13c11
                have zp := zp.on eWc3a12c4c7c10a13c11; have lp := Nat.lt_of_lt_of_le lp eWc3a12c4c7c10a13c11.size
                have zq := zq.on eWc3a12c4c7c10a13c11; have lq := Nat.lt_of_lt_of_le lq eWc3a12c4c7c10a13c11.size
                obtain ⟨k0, k1, k2, k3⟩ := zp
                have zp : Bx _ _ _ _ := ⟨k0, k1, k2, k3⟩
                refine take_call (i := 14) rfl (by kernel_rfl) (fun K hK => ?_)
                go_simp
                refine hK.out _ _ ?_ (fun hHeld => ?_)
                · exact keepS3 hHeld gp (by omega) _ _
                clear hK K
                obtain ⟨j0, j1, j2, j3⟩ : Bx ((Wc3a12c4c7c10a13c11.setCell ⟨p, 0, none⟩ (.bool nl)).setCell ⟨p, 1, none⟩ (.slice al ll cl)) q (.bool false) (.slice none 0 0) := (zq.put pq).put pq
                refine take_call (i := 15) rfl (by kernel_rfl) (fun K hK => ?_)
                go_simp
                refine hK.out _ _ ?_ (fun hHeld => ?_)
                · exact keepS3 hHeld gq (by omega) _ _
                clear hK K
                refine wpAnyH_done (by kernel_rfl) ?_ _
                exact ringTwo wa wb wc hL hR ya yb yc zp zq B1 gp gq pq Lp Lq Rp Rq xap xaq xbp xbq xcp xcq
            · skip
              go_simp
              refine hK.out _ _ (keepB3 hHeld ((Below.refl _ _).alloc (Nat.le_refl _) _)) (fun hHeld => ?_)
              clear hK K
              have zq := bx_new Wc3a12c4c7 (.bool false) (.slice none 0 0) 25
              have eWc3a12c4c7a13 : Below Wc3a12c4c7.heap.size Wc3a12c4c7 (Wc3a12c4c7.alloc (.cells #[.bool false, .slice none 0 0] 25)) := (Below.refl _ _).alloc (Nat.le_refl _) _
              have lq : Wc3a12c4c7.heap.size < (Wc3a12c4c7.alloc (.cells #[.bool false, .slice none 0 0] 25)).heap.size := by simp
              have gq : w.heap.size + 1 + 1 < Wc3a12c4c7.heap.size := bx_lt yc; have vq : wr.heap.size ≤ Wc3a12c4c7.heap.size := B9.size
              have xaq : NA Wc3a12c4c7.heap.size a1 m1 := wa.ni.sl.na (Nat.le_refl _)
              have xbq : NA Wc3a12c4c7.heap.size a2 m2 := wb.ni.sl.na (Nat.le_refl _)
              have xcq : NA Wc3a12c4c7.heap.size a3 m3 := wc.ni.sl.na (Nat.le_refl _)
              have Lq : NA Wc3a12c4c7.heap.size al ll := hL.nd.sl.na (Nat.le_refl _)
              have pq : p ≠ Wc3a12c4c7.heap.size := Nat.ne_of_lt lp
              generalize Wc3a12c4c7.alloc (.cells #[.bool false, .slice none 0 0] 25) = Wc3a12c4c7a13 at zq eWc3a12c4c7a13 lq hHeld ⊢
              have wa := wa.below eWc3a12c4c7a13; have wb := wb.below eWc3a12c4c7a13; have wc := wc.below eWc3a12c4c7a13; have ya := ya.on eWc3a12c4c7a13; have yb := yb.on eWc3a12c4c7a13; have yc := yc.on eWc3a12c4c7a13; have B1 := also B1 eWc3a12c4c7a13; have B9 := also B9 eWc3a12c4c7a13; have h20 := h20.below eWc3a12c4c7a13; have hL := hL.below eWc3a12c4c7a13; have h22 := h22.below eWc3a12c4c7a13
              have zp := zp.on eWc3a12c4c7a13; have lp := Nat.lt_of_lt_of_le lp eWc3a12c4c7a13.size
              generalize Wc3a12c4c7.heap.size = q at zq lq gq vq xaq xbq xcq Lq pq ⊢
              refine take_call (i := 10) rfl (by kernel_rfl) (fun K hK => ?_)
              go_simp
              (go_at_call 5; refine (wMul n o a1 a3 m1 m3 c1 c3 X Z _ wa wc (X * Z) rfl).mono ?_; rintro e Wc3a12c4c7a13c10 ⟨n25, a25, l25, c25, rfl, h25, f25, eWc3a12c4c7a13c10⟩)
              refine hK.out _ _ (keepB3 hHeld eWc3a12c4c7a13c10) (fun hHeld => ?_)
              clear hK K
              have wa := wa.below eWc3a12c4c7a13c10; have wb := wb.below eWc3a12c4c7a13c10; have wc := wc.below eWc3a12c4c7a13c10; have ya := ya.on eWc3a12c4c7a13c10; have yb := yb.on eWc3a12c4c7a13c10; have yc := yc.on eWc3a12c4c7a13c10; have B1 := also B1 eWc3a12c4c7a13c10; have B9 := also B9 eWc3a12c4c7a13c10; have h20 := h20.below eWc3a12c4c7a13c10; have hL := hL.below eWc3a12c4c7a13c10; have h22 := h22.below eWc3a12c4c7a13c10
              have zp := zp.on eWc3a12c4c7a13c10; have lp := Nat.lt_of_lt_of_le lp eWc3a12c4c7a13c10.size
              have zq := zq.on eWc3a12c4c7a13c10; have lq := Nat.lt_of_lt_of_le lq eWc3a12c4c7a13c10.size
              refine take_call (i := 11) rfl (by kernel_rfl) (fun K hK => ?_)
              go_simp
              (go_at_call 6; refine (wAdd n22 n25 a22 a25 l22 l25 c22 c25 (X * Y) (X * Z) _ (h22.wi 32 (by decide) HXY.out) (h25.wi 32 (by decide) HXZ.out) (X * Y + X * Z) rfl).mono ?_; rintro e Wc3a12c4c7a13c10c11 ⟨nr, ar, lr, cr, rfl, hR, fR, eWc3a12c4c7a13c10c11⟩)
              have Rp : NA p ar lr := fR p lp
              have Rq : NA q ar lr := fR q lq
              refine hK.out _ _ (keepB3 hHeld eWc3a12c4c7a13c10c11) (fun hHeld => ?_)
              clear hK K
              have wa := wa.below eWc3a12c4c7a13c10c11; have wb := wb.below eWc3a12c4c7a13c10c11; have wc := wc.below eWc3a12c4c7a13c10c11; have ya := ya.on eWc3a12c4c7a13c10c11; have yb := yb.on eWc3a12c4c7a13c10c11; have yc := yc.on eWc3a12c4c7a13c10c11; have B1 := also B1 eWc3a12c4c7a13c10c11; have B9 := also B9 eWc3a12c4c7a13c10c11; have h20 := h20.below eWc3a12c4c7a13c10c11; have hL := hL.below eWc3a12c4c7a13c10c11; have h22 := h22.below eWc3a12c4c7a13c10c11; have h25 := h25.below eWc3a12c4c7a13c10c11
              have zp := zp.on eWc3a12c4c7a13c10c11; have lp := Nat.lt_of_lt_of_le lp eWc3a12c4c7a13c10c11.size
              have zq := zq.on eWc3a12c4c7a13c10c11; have lq := Nat.lt_of_lt_of_le lq eWc3a12c4c7a13c10c11.size
              obtain ⟨k0, k1, k2, k3⟩ := zp
              have zp : Bx _ _ _ _ := ⟨k0, k1, k2, k3⟩
              refine take_call (i := 14) rfl (by kernel_rfl) (fun K hK => ?_)
              go_simp
              refine hK.out _ _ ?_ (fun hHeld => ?_)
              · exact keepS3 hHeld gp (by omega) _ _
              clear hK K
              obtain ⟨j0, j1, j2, j3⟩ : Bx ((Wc3a12c4c7a13c10c11.setCell ⟨p, 0, none⟩ (.bool nl)).setCell ⟨p, 1, none⟩ (.slice al ll cl)) q (.bool false) (.slice none 0 0) := (zq.put pq).put pq
              refine take_call (i := 15) rfl (by kernel_rfl) (fun K hK => ?_)
              go_simp
              refine hK.out _ _ ?_ (fun hHeld => ?_)
              · exact keepS3 hHeld gq (by omega) _ _
              clear hK K
              refine wpAnyH_done (by kernel_rfl) ?_ _
              exact ringTwo wa wb wc hL hR ya yb yc zp zq B1 gp gq pq Lp Lq Rp Rq xap xaq xbp xbq xcp xcq
          · skip
            go_simp
            refine hK.out _ _ (keepB3 hHeld ((Below.refl _ _).alloc (Nat.le_refl _) _)) (fun hHeld => ?_)
            clear hK K
            have zq := bx_new Wc3a12c4 (.bool false) (.slice none 0 0) 25
            have eWc3a12c4a13 : Below Wc3a12c4.heap.size Wc3a12c4 (Wc3a12c4.alloc (.cells #[.bool false, .slice none 0 0] 25)) := (Below.refl _ _).alloc (Nat.le_refl _) _
            have lq : Wc3a12c4.heap.size < (Wc3a12c4.alloc (.cells #[.bool false, .slice none 0 0] 25)).heap.size := by simp
            have gq : w.heap.size + 1 + 1 < Wc3a12c4.heap.size := bx_lt yc; have vq : wr.heap.size ≤ Wc3a12c4.heap.size := B9.size
            have xaq : NA Wc3a12c4.heap.size a1 m1 := wa.ni.sl.na (Nat.le_refl _)
            have xbq : NA Wc3a12c4.heap.size a2 m2 := wb.ni.sl.na (Nat.le_refl _)
            have xcq : NA Wc3a12c4.heap.size a3 m3 := wc.ni.sl.na (Nat.le_refl _)
            have Lq : NA Wc3a12c4.heap.size al ll := hL.nd.sl.na (Nat.le_refl _)
            have pq : p ≠ Wc3a12c4.heap.size := Nat.ne_of_lt lp
            generalize Wc3a12c4.alloc (.cells #[.bool false, .slice none 0 0] 25) = Wc3a12c4a13 at zq eWc3a12c4a13 lq hHeld ⊢
            have wa := wa.below eWc3a12c4a13; have wb := wb.below eWc3a12c4a13; have wc := wc.below eWc3a12c4a13; have ya := ya.on eWc3a12c4a13; have yb := yb.on eWc3a12c4a13; have yc := yc.on eWc3a12c4a13; have B1 := also B1 eWc3a12c4a13; have B9 := also B9 eWc3a12c4a13; have h20 := h20.below eWc3a12c4a13; have hL := hL.below eWc3a12c4a13
            have zp := zp.on eWc3a12c4a13; have lp := Nat.lt_of_lt_of_le lp eWc3a12c4a13.size
            generalize Wc3a12c4.heap.size = q at zq lq gq vq xaq xbq xcq Lq pq ⊢
            refine take_call (i := 7) rfl (by kernel_rfl) (fun K hK => ?_)
            go_simp
            (go_at_call 5; refine (wMul n m a1 a2 m1 m2 c1 c2 X Y _ wa wb (X * Y) rfl).mono ?_; rintro e Wc3a12c4a13c7 ⟨n22, a22, l22, c22, rfl, h22, f22, eWc3a12c4a13c7⟩)
            refine hK.out _ _ (keepB3 hHeld eWc3a12c4a13c7) (fun hHeld => ?_)
            clear hK K
            have wa := wa.below eWc3a12c4a13c7; have wb := wb.below eWc3a12c4a13c7; have wc := wc.below eWc3a12c4a13c7; have ya := ya.on eWc3a12c4a13c7; have yb := yb.on eWc3a12c4a13c7; have yc := yc.on eWc3a12c4a13c7; have B1 := also B1 eWc3a12c4a13c7; have B9 := also B9 eWc3a12c4a13c7; have h20 := h20.below eWc3a12c4a13c7; have hL := hL.below eWc3a12c4a13c7
            have zp := zp.on eWc3a12c4a13c7; have lp := Nat.lt_of_lt_of_le lp eWc3a12c4a13c7.size
            have zq := zq.on eWc3a12c4a13c7; have lq := Nat.lt_of_lt_of_le lq eWc3a12c4a13c7.size
            refine take_call (i := 10) rfl (by kernel_rfl) (fun K hK => ?_)
            go_simp
            (go_at_call 5; refine (wMul n o a1 a3 m1 m3 c1 c3 X Z _ wa wc (X * Z) rfl).mono ?_; rintro e Wc3a12c4a13c7c10 ⟨n25, a25, l25, c25, rfl, h25, f25, eWc3a12c4a13c7c10⟩)
            refine hK.out _ _ (keepB3 hHeld eWc3a12c4a13c7c10) (fun hHeld => ?_)
            clear hK K
            have wa := wa.below eWc3a12c4a13c7c10; have wb := wb.below eWc3a12c4a13c7c10; have wc := wc.below eWc3a12c4a13c7c10; have ya := ya.on eWc3a12c4a13c7c10; have yb := yb.on eWc3a12c4a13c7c10; have yc := yc.on eWc3a12c4a13c7c10; have B1 := also B1 eWc3a12c4a13c7c10; have B9 := also B9 eWc3a12c4a13c7c10; have h20 := h20.below eWc3a12c4a13c7c10; have hL := hL.below eWc3a12c4a13c7c10; have h22 := h22.below eWc3a12c4a13c7c10
            have zp := zp.on eWc3a12c4a13c7c10; have lp := Nat.lt_of_lt_of_le lp eWc3a12c4a13c7c10.size
            have zq := zq.on eWc3a12c4a13c7c10; have lq := Nat.lt_of_lt_of_le lq eWc3a12c4a13c7c10.size
            refine take_call (i := 11) rfl (by kernel_rfl) (fun K hK => ?_)
            go_simp
            (go_at_call 6; refine (wAdd n22 n25 a22 a25 l22 l25 c22 c25 (X * Y) (X * Z) _ (h22.wi 32 (by decide) HXY.out) (h25.wi 32 (by decide) HXZ.out) (X * Y + X * Z) rfl).mono ?_; rintro e Wc3a12c4a13c7c10c11 ⟨nr, ar, lr, cr, rfl, hR, fR, eWc3a12c4a13c7c10c11⟩)
            have Rp : NA p ar lr := fR p lp
            have Rq : NA q ar lr := fR q lq
            refine hK.out _ _ (keepB3 hHeld eWc3a12c4a13c7c10c11) (fun hHeld => ?_)
            clear hK K
            have wa := wa.below eWc3a12c4a13c7c10c11; have wb := wb.below eWc3a12c4a13c7c10c11; have wc := wc.below eWc3a12c4a13c7c10c11; have ya := ya.on eWc3a12c4a13c7c10c11; have yb := yb.on eWc3a12c4a13c7c10c11; have yc := yc.on eWc3a12c4a13c7c10c11; have B1 := also B1 eWc3a12c4a13c7c10c11; have B9 := also B9 eWc3a12c4a13c7c10c11; have h20 := h20.below eWc3a12c4a13c7c10c11; have hL := hL.below eWc3a12c4a13c7c10c11; have h22 := h22.below eWc3a12c4a13c7c10c11; have h25 := h25.below eWc3a12c4a13c7c10c11
            have zp := zp.on eWc3a12c4a13c7c10c11; have lp := Nat.lt_of_lt_of_le lp eWc3a12c4a13c7c10c11.size
            have zq := zq.on eWc3a12c4a13c7c10c11; have lq := Nat.lt_of_lt_of_le lq eWc3a12c4a13c7c10c11.size
            obtain ⟨k0, k1, k2, k3⟩ := zp
            have zp : Bx _ _ _ _ := ⟨k0, k1, k2, k3⟩
            refine take_call (i := 14) rfl (by kernel_rfl) (fun K hK => ?_)
            go_simp
            refine hK.out _ _ ?_ (fun hHeld => ?_)
            · exact keepS3 hHeld gp (by omega) _ _
            clear hK K
            obtain ⟨j0, j1, j2, j3⟩ : Bx ((Wc3a12c4a13c7c10c11.setCell ⟨p, 0, none⟩ (.bool nl)).setCell ⟨p, 1, none⟩ (.slice al ll cl)) q (.bool false) (.slice none 0 0) := (zq.put pq).put pq
            refine take_call (i := 15) rfl (by kernel_rfl) (fun K hK => ?_)
            go_simp
            refine hK.out _ _ ?_ (fun hHeld => ?_)
            · exact keepS3 hHeld gq (by omega) _ _
            clear hK K
            refine wpAnyH_done (by kernel_rfl) ?_ _
            exact ringTwo wa wb wc hL hR ya yb yc zp zq B1 gp gq pq Lp Lq Rp Rq xap xaq xbp xbq xcp xcq
        · skip
          go_simp
          refine hK.out _ _ (keepB3 hHeld ((Below.refl _ _).alloc (Nat.le_refl _) _)) (fun hHeld => ?_)
          clear hK K
          have zq := bx_new Wc3a12 (.bool false) (.slice none 0 0) 25
          have eWc3a12a13 : Below Wc3a12.heap.size Wc3a12 (Wc3a12.alloc (.cells #[.bool false, .slice none 0 0] 25)) := (Below.refl _ _).alloc (Nat.le_refl _) _
          have lq : Wc3a12.heap.size < (Wc3a12.alloc (.cells #[.bool false, .slice none 0 0] 25)).heap.size := by simp
          have gq : w.heap.size + 1 + 1 < Wc3a12.heap.size := bx_lt yc; have vq : wr.heap.size ≤ Wc3a12.heap.size := B9.size
          have xaq : NA Wc3a12.heap.size a1 m1 := wa.ni.sl.na (Nat.le_refl _)
          have xbq : NA Wc3a12.heap.size a2 m2 := wb.ni.sl.na (Nat.le_refl _)
          have xcq : NA Wc3a12.heap.size a3 m3 := wc.ni.sl.na (Nat.le_refl _)
          have pq : p ≠ Wc3a12.heap.size := Nat.ne_of_lt lp
          generalize Wc3a12.alloc (.cells #[.bool false, .slice none 0 0] 25) = Wc3a12a13 at zq eWc3a12a13 lq hHeld ⊢
          have wa := wa.below eWc3a12a13; have wb := wb.below eWc3a12a13; have wc := wc.below eWc3a12a13; have ya := ya.on eWc3a12a13; have yb := yb.on eWc3a12a13; have yc := yc.on eWc3a12a13; have B1 := also B1 eWc3a12a13; have B9 := also B9 eWc3a12a13; have h20 := h20.below eWc3a12a13
          have zp := zp.on eWc3a12a13; have lp := Nat.lt_of_lt_of_le lp eWc3a12a13.size
          generalize Wc3a12.heap.size = q at zq lq gq vq xaq xbq xcq pq ⊢
          refine take_call (i := 4) rfl (by kernel_rfl) (fun K hK => ?_)
          go_simp
          (go_at_call 5; refine (wMul n n20 a1 a20 m1 l20 c1 c20 X (Y + Z) _ wa (h20.wi 17 (by decide) HYZ.out) (X * (Y + Z)) rfl).mono ?_; rintro e Wc3a12a13c4 ⟨nl, al, ll, cl, rfl, hL, fL, eWc3a12a13c4⟩)
          have Lp : NA p al ll := fL p lp
          have Lq : NA q al ll := fL q lq
          refine hK.out _ _ (keepB3 hHeld eWc3a12a13c4) (fun hHeld => ?_)
          clear hK K
          have wa := wa.below eWc3a12a13c4; have wb := wb.below eWc3a12a13c4; have wc := wc.below eWc3a12a13c4; have ya := ya.on eWc3a12a13c4; have yb := yb.on eWc3a12a13c4; have yc := yc.on eWc3a12a13c4; have B1 := also B1 eWc3a12a13c4; have B9 := also B9 eWc3a12a13c4; have h20 := h20.below eWc3a12a13c4
          have zp := zp.on eWc3a12a13c4; have lp := Nat.lt_of_lt_of_le lp eWc3a12a13c4.size
          have zq := zq.on eWc3a12a13c4; have lq := Nat.lt_of_lt_of_le lq eWc3a12a13c4.size
          refine take_call (i := 7) rfl (by kernel_rfl) (fun K hK => ?_)
          go_simp
          (go_at_call 5; refine (wMul n m a1 a2 m1 m2 c1 c2 X Y _ wa wb (X * Y) rfl).mono ?_; rintro e Wc3a12a13c4c7 ⟨n22, a22, l22, c22, rfl, h22, f22, eWc3a12a13c4c7⟩)
          refine hK.out _ _ (keepB3 hHeld eWc3a12a13c4c7) (fun hHeld => ?_)
          clear hK K
          have wa := wa.below eWc3a12a13c4c7; have wb := wb.below eWc3a12a13c4c7; have wc := wc.below eWc3a12a13c4c7; have ya := ya.on eWc3a12a13c4c7; have yb := yb.on eWc3a12a13c4c7; have yc := yc.on eWc3a12a13c4c7; have B1 := also B1 eWc3a12a13c4c7; have B9 := also B9 eWc3a12a13c4c7; have h20 := h20.below eWc3a12a13c4c7; have hL := hL.below eWc3a12a13c4c7
          have zp := zp.on eWc3a12a13c4c7; have lp := Nat.lt_of_lt_of_le lp eWc3a12a13c4c7.size
          have zq := zq.on eWc3a12a13c4c7; have lq := Nat.lt_of_lt_of_le lq eWc3a12a13c4c7.size
          refine take_call (i := 10) rfl (by kernel_rfl) (fun K hK => ?_)
          go_simp
          (go_at_call 5; refine (wMul n o a1 a3 m1 m3 c1 c3 X Z _ wa wc (X * Z) rfl).mono ?_; rintro e Wc3a12a13c4c7c10 ⟨n25, a25, l25, c25, rfl, h25, f25, eWc3a12a13c4c7c10⟩)
          refine hK.out _ _ (keepB3 hHeld eWc3a12a13c4c7c10) (fun hHeld => ?_)
          clear hK K
          have wa := wa.below eWc3a12a13c4c7c10; have wb := wb.below eWc3a12a13c4c7c10; have wc := wc.below eWc3a12a13c4c7c10; have ya := ya.on eWc3a12a13c4c7c10; have yb := yb.on eWc3a12a13c4c7c10; have yc := yc.on eWc3a12a13c4c7c10; have B1 := also B1 eWc3a12a13c4c7c10; have B9 := also B9 eWc3a12a13c4c7c10; have h20 := h20.below eWc3a12a13c4c7c10; have hL := hL.below eWc3a12a13c4c7c10; have h22 := h22.below eWc3a12a13c4c7c10
          have zp := zp.on eWc3a12a13c4c7c10; have lp := Nat.lt_of_lt_of_le lp eWc3a12a13c4c7c10.size
          have zq := zq.on eWc3a12a13c4c7c10; have lq := Nat.lt_of_lt_of_le lq eWc3a12a13c4c7c10.size
          refine take_call (i := 11) rfl (by kernel_rfl) (fun K hK => ?_)
          go_simp
          (go_at_call 6; refine (wAdd n22 n25 a22 a25 l22 l25 c22 c25 (X * Y) (X * Z) _ (h22.wi 32 (by decide) HXY.out) (h25.wi 32 (by decide) HXZ.out) (X * Y + X * Z) rfl).mono ?_; rintro e Wc3a12a13c4c7c10c11 ⟨nr, ar, lr, cr, rfl, hR, fR, eWc3a12a13c4c7c10c11⟩)
          have Rp : NA p ar lr := fR p lp
          have Rq : NA q ar lr := fR q lq
          refine hK.out _ _ (keepB3 hHeld eWc3a12a13c4c7c10c11) (fun hHeld => ?_)
          clear hK K
          have wa := wa.below eWc3a12a13c4c7c10c11; have wb := wb.below eWc3a12a13c4c7c10c11; have wc := wc.below eWc3a12a13c4c7c10c11; have ya := ya.on eWc3a12a13c4c7c10c11; have yb := yb.on eWc3a12a13c4c7c10c11; have yc := yc.on eWc3a12a13c4c7c10c11; have B1 := also B1 eWc3a12a13c4c7c10c11; have B9 := also B9 eWc3a12a13c4c7c10c11; have h20 := h20.below eWc3a12a13c4c7c10c11; have hL := hL.below eWc3a12a13c4c7c10c11; have h22 := h22.below eWc3a12a13c4c7c10c11; have h25 := h25.below eWc3a12a13c4c7c10c11
          have zp := zp.on eWc3a12a13c4c7c10c11; have lp := Nat.lt_of_lt_of_le lp eWc3a12a13c4c7c10c11.size
          have zq := zq.on eWc3a12a13c4c7c10c11; have lq := Nat.lt_of_lt_of_le lq eWc3a12a13c4c7c10c11.size
          obtain ⟨k0, k1, k2, k3⟩ := zp
          have zp : Bx _ _ _ _ := ⟨k0, k1, k2, k3⟩
          refine take_call (i := 14) rfl (by kernel_rfl) (fun K hK => ?_)
          go_simp
          refine hK.out _ _ ?_ (fun hHeld => ?_)
          · exact keepS3 hHeld gp (by omega) _ _
          clear hK K
          obtain ⟨j0, j1, j2, j3⟩ : Bx ((Wc3a12a13c4c7c10c11.setCell ⟨p, 0, none⟩ (.bool nl)).setCell ⟨p, 1, none⟩ (.slice al ll cl)) q (.bool false) (.slice none 0 0) := (zq.put pq).put pq
          refine take_call (i := 15) rfl (by kernel_rfl) (fun K hK => ?_)
          go_simp
          refine hK.out _ _ ?_ (fun hHeld => ?_)
          · exact keepS3 hHeld gq (by omega) _ _
          clear hK K
          refine wpAnyH_done (by kernel_rfl) ?_ _
          exact ringTwo wa wb wc hL hR ya yb yc zp zq B1 gp gq pq Lp Lq Rp Rq xap xaq xbp xbq xcp xcq
      · skip
        go_simp
        refine hK.out _ _ (keepB3 hHeld ((Below.refl _ _).alloc (Nat.le_refl _) _)) (fun hHeld => ?_)
        clear hK K
        have zq := bx_new Wc3 (.bool false) (.slice none 0 0) 25
        have eWc3a13 : Below Wc3.heap.size Wc3 (Wc3.alloc (.cells #[.bool false, .slice none 0 0] 25)) := (Below.refl _ _).alloc (Nat.le_refl _) _
        have lq : Wc3.heap.size < (Wc3.alloc (.cells #[.bool false, .slice none 0 0] 25)).heap.size := by simp
        have gq : w.heap.size + 1 + 1 < Wc3.heap.size := bx_lt yc; have vq : wr.heap.size ≤ Wc3.heap.size := B9.size
        have xaq : NA Wc3.heap.size a1 m1 := wa.ni.sl.na (Nat.le_refl _)
        have xbq : NA Wc3.heap.size a2 m2 := wb.ni.sl.na (Nat.le_refl _)
        have xcq : NA Wc3.heap.size a3 m3 := wc.ni.sl.na (Nat.le_refl _)
        generalize Wc3.alloc (.cells #[.bool false, .slice none 0 0] 25) = Wc3a13 at zq eWc3a13 lq hHeld ⊢
        have wa := wa.below eWc3a13; have wb := wb.below eWc3a13; have wc := wc.below eWc3a13; have ya := ya.on eWc3a13; have yb := yb.on eWc3a13; have yc := yc.on eWc3a13; have B1 := also B1 eWc3a13; have B9 := also B9 eWc3a13; have h20 := h20.below eWc3a13
        generalize Wc3.heap.size = q at zq lq gq vq xaq xbq xcq ⊢
        refine wpAnyH_ready (rs := [4, 12]) (by kernel_rfl) (by simp) (AllReadyH.cons (i := 4) rfl (fun K hK => ?_) (AllReadyH.cons (i := 12) rfl (fun K hK => ?_) AllReadyH.nil))
        · skip
          go_simp
          (go_at_call 5; refine (wMul n n20 a1 a20 m1 l20 c1 c20 X (Y + Z) _ wa (h20.wi 17 (by decide) HYZ.out) (X * (Y + Z)) rfl).mono ?_; rintro e Wc3a13c4 ⟨nl, al, ll, cl, rfl, hL, fL, eWc3a13c4⟩)
          have Lq : NA q al ll := fL q lq
          refine hK.out _ _ (keepB3 hHeld eWc3a13c4) (fun hHeld => ?_)
          clear hK K
          have wa := wa.below eWc3a13c4; have wb := wb.below eWc3a13c4; have wc := wc.below eWc3a13c4; have ya := ya.on eWc3a13c4; have yb := yb.on eWc3a13c4; have yc := yc.on eWc3a13c4; have B1 := also B1 eWc3a13c4; have B9 := also B9 eWc3a13c4; have h20 := h20.below eWc3a13c4
          have zq := zq.on eWc3a13c4; have lq := Nat.lt_of_lt_of_le lq eWc3a13c4.size
          refine wpAnyH_ready (rs := [7, 12]) (by kernel_rfl) (by simp) (AllReadyH.cons (i := 7) rfl (fun K hK => ?_) (AllReadyH.cons (i := 12) rfl (fun K hK => ?_) AllReadyH.nil))
          · skip
            go_simp
            (go_at_call 5; refine (wMul n m a1 a2 m1 m2 c1 c2 X Y _ wa wb (X * Y) rfl).mono ?_; rintro e Wc3a13c4c7 ⟨n22, a22, l22, c22, rfl, h22, f22, eWc3a13c4c7⟩)
            refine hK.out _ _ (keepB3 hHeld eWc3a13c4c7) (fun hHeld => ?_)
            clear hK K
            have wa := wa.below eWc3a13c4c7; have wb := wb.below eWc3a13c4c7; have wc := wc.below eWc3a13c4c7; have ya := ya.on eWc3a13c4c7; have yb := yb.on eWc3a13c4c7; have yc := yc.on eWc3a13c4c7; have B1 := also B1 eWc3a13c4c7; have B9 := also B9 eWc3a13c4c7; have h20 := h20.below eWc3a13c4c7; have hL := hL.below eWc3a13c4c7
            have zq := zq.on eWc3a13c4c7; have lq := Nat.lt_of_lt_of_le lq eWc3a13c4c7.size
            refine wpAnyH_ready (rs := [10, 12]) (by kernel_rfl) (by simp) (AllReadyH.cons (i := 10) rfl (fun K hK => ?_) (AllReadyH.cons (i := 12) rfl (fun K hK => ?_) AllReadyH.nil))
            · skip
              go_simp
              (go_at_call 5; refine (wMul n o a1 a3 m1 m3 c1 c3 X Z _ wa wc (X * Z) rfl).mono ?_; rintro e Wc3a13c4c7c10 ⟨n25, a25, l25, c25, rfl, h25, f25, eWc3a13c4c7c10⟩)
              refine hK.out _ _ (keepB3 hHeld eWc3a13c4c7c10) (fun hHeld => ?_)
              clear hK K
              have wa := wa.below eWc3a13c4c7c10; have wb := wb.below eWc3a13c4c7c10; have wc := wc.below eWc3a13c4c7c10; have ya := ya.on eWc3a13c4c7c10; have yb := yb.on eWc3a13c4c7c10; have yc := yc.on eWc3a13c4c7c10; have B1 := also B1 eWc3a13c4c7c10; have B9 := also B9 eWc3a13c4c7c10; have h20 := h20.below eWc3a13c4c7c10; have hL := hL.below eWc3a13c4c7c10; have h22 := h22.below eWc3a13c4c7c10
              have zq := zq.on eWc3a13c4c7c10; have lq := Nat.lt_of_lt_of_le lq eWc3a13c4c7c10.size
              refine wpAnyH_ready (rs := [11, 12]) (by kernel_rfl) (by simp) (AllReadyH.cons (i := 11) rfl (fun K hK => ?_) (AllReadyH.cons (i := 12) rfl (fun K hK => ?_) AllReadyH.nil))
              · skip
                go_simp
                (go_at_call 6; refine (wAdd n22 n25 a22 a25 l22 l25 c22 c25 (X * Y) (X * Z) _ (h22.wi 32 (by decide) HXY.out) (h25.wi 32 (by decide) HXZ.out) (X * Y + X * Z) rfl).mono ?_; rintro e Wc3a13c4c7c10c11 ⟨nr, ar, lr, cr, rfl, hR, fR, eWc3a13c4c7c10c11⟩)
                have Rq : NA q ar lr := fR q lq
                refine hK.out _ _ (keepB3 hHeld eWc3a13c4c7c10c11) (fun hHeld => ?_)
                clear hK K
                have wa := wa.below eWc3a13c4c7c10c11; have wb := wb.below eWc3a13c4c7c10c11; have wc := wc.below eWc3a13c4c7c10c11; have ya := ya.on eWc3a13c4c7c10c11; have yb := yb.on eWc3a13c4c7c10c11; have yc := yc.on eWc3a13c4c7c10c11; have B1 := also B1 eWc3a13c4c7c10c11; have B9 := also B9 eWc3a13c4c7c10c11; have h20 := h20.below eWc3a13c4c7c10c11; have hL := hL.below eWc3a13c4c7c10c11; have h22 := h22.below eWc3a13c4c7c10c11; have h25 := h25.below eWc3a13c4c7c10c11
                have zq := zq.on eWc3a13c4c7c10c11; have lq := Nat.lt_of_lt_of_le lq eWc3a13c4c7c10c11.size
                refine take_call (i := 12) rfl (by kernel_rfl) (fun K hK => ?_)
                go_simp
                refine hK.out _ _ (keepB3 hHeld ((Below.refl _ _).alloc (Nat.le_refl _) _)) (fun hHeld => ?_)
                clear hK K
                have zp := bx_new Wc3a13c4c7c10c11 (.bool false) (.slice none 0 0) 25
                have eWc3a13c4c7c10c11a12 : Below Wc3a13c4c7c10c11.heap.size Wc3a13c4c7c10c11 (Wc3a13c4c7c10c11.alloc (.cells #[.bool false, .slice none 0 0] 25)) := (Below.refl _ _).alloc (Nat.le_refl _) _
                have lp : Wc3a13c4c7c10c11.heap.size < (Wc3a13c4c7c10c11.alloc (.cells #[.bool false, .slice none 0 0] 25)).heap.size := by simp
                have gp : w.heap.size + 1 + 1 < Wc3a13c4c7c10c11.heap.size := bx_lt yc; have vp : wr.heap.size ≤ Wc3a13c4c7c10c11.heap.size := B9.size
                have xap : NA Wc3a13c4c7c10c11.heap.size a1 m1 := wa.ni.sl.na (Nat.le_refl _)
                have xbp : NA Wc3a13c4c7c10c11.heap.size a2 m2 := wb.ni.sl.na (Nat.le_refl _)
                have xcp : NA Wc3a13c4c7c10c11.heap.size a3 m3 := wc.ni.sl.na (Nat.le_refl _)
                have Lp : NA Wc3a13c4c7c10c11.heap.size al ll := hL.nd.sl.na (Nat.le_refl _)
                have Rp : NA Wc3a13c4c7c10c11.heap.size ar lr := hR.nd.sl.na (Nat.le_refl _)
                have pq : Wc3a13c4c7c10c11.heap.size ≠ q := Nat.ne_of_gt lq
                generalize Wc3a13c4c7c10c11.alloc (.cells #[.bool false, .slice none 0 0] 25) = Wc3a13c4c7c10c11a12 at zp eWc3a13c4c7c10c11a12 lp hHeld ⊢
                have wa := wa.below eWc3a13c4c7c10c11a12; have wb := wb.below eWc3a13c4c7c10c11a12; have wc := wc.below eWc3a13c4c7c10c11a12; have ya := ya.on eWc3a13c4c7c10c11a12; have yb := yb.on eWc3a13c4c7c10c11a12; have yc := yc.on eWc3a13c4c7c10c11a12; have B1 := also B1 eWc3a13c4c7c10c11a12; have B9 := also B9 eWc3a13c4c7c10c11a12; have h20 := h20.below eWc3a13c4c7c10c11a12; have hL := hL.below eWc3a13c4c7c10c11a12; have h22 := h22.below eWc3a13c4c7c10c11a12; have h25 := h25.below eWc3a13c4c7c10c11a12; have hR := hR.below eWc3a13c4c7c10c11a12
                have zq := zq.on eWc3a13c4c7c10c11a12; have lq := Nat.lt_of_lt_of_le lq eWc3a13c4c7c10c11a12.size
                generalize Wc3a13c4c7c10c11.heap.size = p at zp lp gp vp xap xbp xcp Lp Rp pq ⊢
                obtain ⟨k0, k1, k2, k3⟩ := zp
                have zp : Bx _ _ _ _ := ⟨k0, k1, k2, k3⟩
                refine take_call (i := 14) rfl (by kernel_rfl) (fun K hK => ?_)
                go_simp
                refine hK.out _ _ ?_ (fun hHeld => ?_)
                · exact keepS3 hHeld gp (by omega) _ _
                clear hK K
                obtain ⟨j0, j1, j2, j3⟩ : Bx ((Wc3a13c4c7c10c11a12.setCell ⟨p, 0, none⟩ (.bool nl)).setCell ⟨p, 1, none⟩ (.slice al ll cl)) q (.bool false) (.slice none 0 0) := (zq.put pq).put pq
                refine take_call (i := 15) rfl (by kernel_rfl) (fun K hK => ?_)
                go_simp
                refine hK.out _ _ ?_ (fun hHeld => ?_)
                · exact keepS3 hHeld gq (by omega) _ _
                clear hK K
                refine wpAnyH_done (by kernel_rfl) ?_ _
                exact ringTwo wa wb wc hL hR ya yb yc zp zq B1 gp gq pq Lp Lq Rp Rq xap xaq xbp xbq xcp xcq
              · skip
                go_simp
                refine hK.out _ _ (keepB3 hHeld ((Below.refl _ _).alloc (Nat.le_refl _) _)) (fun hHeld => ?_)
                clear hK K
                have zp := bx_new Wc3a13c4c7c10 (.bool false) (.slice none 0 0) 25
                have eWc3a13c4c7c10a12 : Below Wc3a13c4c7c10.heap.size Wc3a13c4c7c10 (Wc3a13c4c7c10.alloc (.cells #[.bool false, .slice none 0 0] 25)) := (Below.refl _ _).alloc (Nat.le_refl _) _
                have lp : Wc3a13c4c7c10.heap.size < (Wc3a13c4c7c10.alloc (.cells #[.bool false, .slice none 0 0] 25)).heap.size := by simp
                have gp : w.heap.size + 1 + 1 < Wc3a13c4c7c10.heap.size := bx_lt yc; have vp : wr.heap.size ≤ Wc3a13c4c7c10.heap.size := B9.size
                have xap : NA Wc3a13c4c7c10.heap.size a1 m1 := wa.ni.sl.na (Nat.le_refl _)
                have xbp : NA Wc3a13c4c7c10.heap.size a2 m2 := wb.ni.sl.na (Nat.le_refl _)
                have xcp : NA Wc3a13c4c7c10.heap.size a3 m3 := wc.ni.sl.na (Nat.le_refl _)
                have Lp : NA Wc3a13c4c7c10.heap.size al ll := hL.nd.sl.na (Nat.le_refl _)
                have pq : Wc3a13c4c7c10.heap.size ≠ q := Nat.ne_of_gt lq
                generalize Wc3a13c4c7c10.alloc (.cells #[.bool false, .slice none 0 0] 25) = Wc3a13c4c7c10a12 at zp eWc3a13c4c7c10a12 lp hHeld ⊢
                have wa := wa.below eWc3a13c4c7c10a12; have wb := wb.below eWc3a13c4c7c10a12; have wc := wc.below eWc3a13c4c7c10a12; have ya := ya.on eWc3a13c4c7c10a12; have yb := yb.on eWc3a13c4c7c10a12; have yc := yc.on eWc3a13c4c7c10a12; have B1 := also B1 eWc3a13c4c7c10a12; have B9 := also B9 eWc3a13c4c7c10a12; have h20 := h20.below eWc3a13c4c7c10a12; have hL := hL.below eWc3a13c4c7c10a12; have h22 := h22.below eWc3a13c4c7c10a12; have h25 := h25.below eWc3a13c4c7c10a12
                have zq := zq.on eWc3a13c4c7c10a12; have lq := Nat.lt_of_lt_of_le lq eWc3a13c4c7c10a12.size
                generalize Wc3a13c4c7c10.heap.size = p at zp lp gp vp xap xbp xcp Lp pq ⊢
                refine take_call (i := 11) rfl (by kernel_rfl) (fun K hK => ?_)
                go_simp
                (go_at_call 6; refine (wAdd n22 n25 a22 a25 l22 l25 c22 c25 (X * Y) (X * Z) _ (h22.wi 32 (by decide) HXY.out) (h25.wi 32 (by decide) HXZ.out) (X * Y + X * Z) rfl).mono ?_; rintro e Wc3a13c4c7c10a12c11 ⟨nr, ar, lr, cr, rfl, hR, fR, eWc3a13c4c7c10a12c11⟩)
                have Rp : NA p ar lr := fR p lp
                have Rq : NA q ar lr := fR q lq
                refine hK.out _ _ (keepB3 hHeld eWc3a13c4c7c10a12c11) (fun hHeld => ?_)
                clear hK K
                have wa := wa.below eWc3a13c4c7c10a12c11; have wb := wb.below eWc3a13c4c7c10a12c11; have wc := wc.below eWc3a13c4c7c10a12c11; have ya := ya.on eWc3a13c4c7c10a12c11; have yb := yb.on eWc3a13c4c7c10a12c11; have yc := yc.on eWc3a13c4c7c10a12c11; have B1 := also B1 eWc3a13c4c7c10a12c11; have B9 := also B9 eWc3a13c4c7c10a12c11; have h20 := h20.below eWc3a13c4c7c10a12c11; have hL := hL.below eWc3a13c4c7c10a12c11; have h22 := h22.below eWc3a13c4c7c10a12c11; have h25 := h25.below eWc3a13c4c7c10a12c11
                have zp := zp.on eWc3a13c4c7c10a12c11; have lp := Nat.lt_of_lt_of_le lp eWc3a13c4c7c10a12c11.size
                have zq := zq.on eWc3a13c4c7c10a12c11; have lq := Nat.lt_of_lt_of_le lq eWc3a13c4c7c10a12c11.size
                obtain ⟨k0, k1, k2, k3⟩ := zp
                have zp : Bx _ _ _ _ := ⟨k0, k1, k2, k3⟩
                refine take_call (i := 14) rfl (by kernel_rfl) (fun K hK => ?_)
                go_simp
                refine hK.out _ _ ?_ (fun hHeld => ?_)
                · exact keepS3 hHeld gp (by omega) _ _
                clear hK K
                obtain ⟨j0, j1, j2, j3⟩ : Bx ((Wc3a13c4c7c10a12c11.setCell ⟨p, 0, none⟩ (.bool nl)).setCell ⟨p, 1, none⟩ (.slice al ll cl)) q (.bool false) (.slice none 0 0) := (zq.put pq).put pq
                refine take_call (i := 15) rfl (by kernel_rfl) (fun K hK => ?_)
                go_simp
                refine hK.out _ _ ?_ (fun hHeld => ?_)
                · exact keepS3 hHeld gq (by omega) _ _
                clear hK K
                refine wpAnyH_done (by kernel_rfl) ?_ _
                exact ringTwo wa wb wc hL hR ya yb yc zp zq B1 gp gq pq Lp Lq Rp Rq xap xaq xbp xbq xcp xcq
            · skip
              go_simp
              refine hK.out _ _ (keepB3 hHeld ((Below.refl _ _).alloc (Nat.le_refl _) _)) (fun hHeld => ?_)
              clear hK K
              have zp := bx_new Wc3a13c4c7 (.bool false) (.slice none 0 0) 25
              have eWc3a13c4c7a12 : Below Wc3a13c4c7.heap.size Wc3a13c4c7 (Wc3a13c4c7.alloc (.cells #[.bool false, .slice none 0 0] 25)) := (Below.refl _ _).alloc (Nat.le_refl _) _
              have lp : Wc3a13c4c7.heap.size < (Wc3a13c4c7.alloc (.cells #[.bool false, .slice none 0 0] 25)).heap.size := by simp
              have gp : w.heap.size + 1 + 1 < Wc3a13c4c7.heap.size := bx_lt yc; have vp : wr.heap.size ≤ Wc3a13c4c7.heap.size := B9.size
              have xap : NA Wc3a13c4c7.heap.size a1 m1 := wa.ni.sl.na (Nat.le_refl _)
              have xbp : NA Wc3a13c4c7.heap.size a2 m2 := wb.ni.sl.na (Nat.le_refl _)
              have xcp : NA Wc3a13c4c7.heap.size a3 m3 := wc.ni.sl.na (Nat.le_refl _)
              have Lp : NA Wc3a13c4c7.heap.size al ll := hL.nd.sl.na (Nat.le_refl _)
              have pq : Wc3a13c4c7.heap.size ≠ q := Nat.ne_of_gt lq
              generalize Wc3a13c4c7.alloc (.cells #[.bool false, .slice none 0 0] 25) = Wc3a13c4c7a12 at zp eWc3a13c4c7a12 lp hHeld ⊢
              have wa := wa.below eWc3a13c4c7a12; have wb := wb.below eWc3a13c4c7a12; have wc := wc.below eWc3a13c4c7a12; have ya := ya.on eWc3a13c4c7a12; have yb := yb.on eWc3a13c4c7a12; have yc := yc.on eWc3a13c4c7a12; have B1 := also B1 eWc3a13c4c7a12; have B9 := also B9 eWc3a13c4c7a12; have h20 := h20.below eWc3a13c4c7a12; have hL := hL.below eWc3a13c4c7a12; have h22 := h22.below eWc3a13c4c7a12
              have zq := zq.on eWc3a13c4c7a12; have lq := Nat.lt_of_lt_of_le lq eWc3a13c4c7a12.size
              generalize Wc3a13c4c7.heap.size = p at zp lp gp vp xap xbp xcp Lp pq ⊢
              refine take_call (i := 10) rfl (by kernel_rfl) (fun K hK => ?_)
              go_simp
              (go_at_call 5; refine (wMul n o a1 a3 m1 m3 c1 c3 X Z _ wa wc (X * Z) rfl).mono ?_; rintro e Wc3a13c4c7a12c10 ⟨n25, a25, l25, c25, rfl, h25, f25, eWc3a13c4c7a12c10⟩)
              refine hK.out _ _ (keepB3 hHeld eWc3a13c4c7a12c10) (fun hHeld => ?_)
              clear hK K
              have wa := wa.below eWc3a13c4c7a12c10; have wb := wb.below eWc3a13c4c7a12c10; have wc := wc.below eWc3a13c4c7a12c10; have ya := ya.on eWc3a13c4c7a12c10; have yb := yb.on eWc3a13c4c7a12c10; have yc := yc.on eWc3a13c4c7a12c10; have B1 := also B1 eWc3a13c4c7a12c10; have B9 := also B9 eWc3a13c4c7a12c10; have h20 := h20.below eWc3a13c4c7a12c10; have hL := hL.below eWc3a13c4c7a12c10; have h22 := h22.below eWc3a13c4c7a12c10
              have zp := zp.on eWc3a13c4c7a12c10; have lp := Nat.lt_of_lt_of_le lp eWc3a13c4c7a12c10.size
              have zq := zq.on eWc3a13c4c7a12c10; have lq := Nat.lt_of_lt_of_le lq eWc3a13c4c7a12c10.size
              refine take_call (i := 11) rfl (by kernel_rfl) (fun K hK => ?_)
              go_simp
              (go_at_call 6; refine (wAdd n22 n25 a22 a25 l22 l25 c22 c25 (X * Y) (X * Z) _ (h22.wi 32 (by decide) HXY.out) (h25.wi 32 (by decide) HXZ.out) (X * Y + X * Z) rfl).mono ?_; rintro e Wc3a13c4c7a12c10c11 ⟨nr, ar, lr, cr, rfl, hR, fR, eWc3a13c4c7a12c10c11⟩)
              have Rp : NA p ar lr := fR p lp
              have Rq : NA q ar lr := fR q lq
              refine hK.out _ _ (keepB3 hHeld eWc3a13c4c7a12c10c11) (fun hHeld => ?_)
              clear hK K
              have wa := wa.below eWc3a13c4c7a12c10c11; have wb := wb.below eWc3a13c4c7a12c10c11; have wc := wc.below eWc3a13c4c7a12c10c11; have ya := ya.on eWc3a13c4c7a12c10c11; have yb := yb.on eWc3a13c4c7a12c10c11; have yc := yc.on eWc3a13c4c7a12c10c11; have B1 := also B1 eWc3a13c4c7a12c10c11; have B9 := also B9 eWc3a13c4c7a12c10c11; have h20 := h20.below eWc3a13c4c7a12c10c11; have hL := hL.below eWc3a13c4c7a12c10c11; have h22 := h22.below eWc3a13c4c7a12c10c11; have h25 := h25.below eWc3a13c4c7a12c10c11
              have zp := zp.on eWc3a13c4c7a12c10c11; have lp := Nat.lt_of_lt_of_le lp eWc3a13c4c7a12c10c11.size
              have zq := zq.on eWc3a13c4c7a12c10c11; have lq := Nat.lt_of_lt_of_le lq eWc3a13c4c7a12c10c11.size
              obtain ⟨k0, k1, k2, k3⟩ := zp
              have zp : Bx _ _ _ _ := ⟨k0, k1, k2, k3⟩
              refine take_call (i := 14) rfl (by kernel_rfl) (fun K hK => ?_)
              go_simp
              refine hK.out _ _ ?_ (fun hHeld => ?_)
              · exact keepS3 hHeld gp (by omega) _ _
              clear hK K
              obtain ⟨j0, j1, j2, j3⟩ : Bx ((Wc3a13c4c7a12c10c11.setCell ⟨p, 0, none⟩ (.bool nl)).setCell ⟨p, 1, none⟩ (.slice al ll cl)) q (.bool false) (.slice none 0 0) := (zq.put pq).put pq
              refine take_call (i := 15) rfl (by kernel_rfl) (fun K hK => ?_)
              go_simp
              refine hK.out _ _ ?_ (fun hHeld => ?_)
              · exact keepS3 hHeld gq (by omega) _ _
              clear hK K
              refine wpAnyH_done (by kernel_rfl) ?_ _
              exact ringTwo wa wb wc hL hR ya yb yc zp zq B1 gp gq pq Lp Lq Rp Rq xap xaq xbp xbq xcp xcq
          · skip
            go_simp
            refine hK.out _ _ (keepB3 hHeld ((Below.refl _ _).alloc (Nat.le_refl _) _)) (fun hHeld => ?_)
            clear hK K
            have zp := bx_new Wc3a13c4 (.bool false) (.slice none 0 0) 25
            have eWc3a13c4a12 : Below Wc3a13c4.heap.size Wc3a13c4 (Wc3a13c4.alloc (.cells #[.bool false, .slice none 0 0] 25)) := (Below.refl _ _).alloc (Nat.le_refl _) _
            have lp : Wc3a13c4.heap.size < (Wc3a13c4.alloc (.cells #[.bool false, .slice none 0 0] 25)).heap.size := by simp
            have gp : w.heap.size + 1 + 1 < Wc3a13c4.heap.size := bx_lt yc; have vp : wr.heap.size ≤ Wc3a13c4.heap.size := B9.size
            have xap : NA Wc3a13c4.heap.size a1 m1 := wa.ni.sl.na (Nat.le_refl _)
            have xbp : NA Wc3a13c4.heap.size a2 m2 := wb.ni.sl.na (Nat.le_refl _)
            have xcp : NA Wc3a13c4.heap.size a3 m3 := wc.ni.sl.na (Nat.le_refl _)
            have Lp : NA Wc3a13c4.heap.size al ll := hL.nd.sl.na (Nat.le_refl _)
            have pq : Wc3a13c4.heap.size ≠ q := Nat.ne_of_gt lq
            generalize Wc3a13c4.alloc (.cells #[.bool false, .slice none 0 0] 25) = Wc3a13c4a12 at zp eWc3a13c4a12 lp hHeld ⊢
            have wa := wa.below eWc3a13c4a12; have wb := wb.below eWc3a13c4a12; have wc := wc.below eWc3a13c4a12; have ya := ya.on eWc3a13c4a12; have yb := yb.on eWc3a13c4a12; have yc := yc.on eWc3a13c4a12; have B1 := also B1 eWc3a13c4a12; have B9 := also B9 eWc3a13c4a12; have h20 := h20.below eWc3a13c4a12; have hL := hL.below eWc3a13c4a12
            have zq := zq.on eWc3a13c4a12; have lq := Nat.lt_of_lt_of_le lq eWc3a13c4a12.size
            generalize Wc3a13c4.heap.size = p at zp lp gp vp xap xbp xcp Lp pq ⊢
            refine take_call (i := 7) rfl (by kernel_rfl) (fun K hK => ?_)
            go_simp
            (go_at_call 5; refine (wMul n m a1 a2 m1 m2 c1 c2 X Y _ wa wb (X * Y) rfl).mono ?_; rintro e Wc3a13c4a12c7 ⟨n22, a22, l22, c22, rfl, h22, f22, eWc3a13c4a12c7⟩)
            refine hK.out _ _ (keepB3 hHeld eWc3a13c4a12c7) (fun hHeld => ?_)
            clear hK K
            have wa := wa.below eWc3a13c4a12c7; have wb := wb.below eWc3a13c4a12c7; have wc := wc.below eWc3a13c4a12c7; have ya := ya.on eWc3a13c4a12c7; have yb := yb.on eWc3a13c4a12c7; have yc := yc.on eWc3a13c4a12c7; have B1 := also B1 eWc3a13c4a12c7; have B9 := also B9 eWc3a13c4a12c7; have h20 := h20.below eWc3a13c4a12c7; have hL := hL.below eWc3a13c4a12c7
            have zp := zp.on eWc3a13c4a12c7; have lp := Nat.lt_of_lt_of_le lp eWc3a13c4a12c7.size
            have zq := zq.on eWc3a13c4a12c7; have lq := Nat.lt_of_lt_of_le lq eWc3a13c4a12c7.size
            refine take_call (i := 10) rfl (by kernel_rfl) (fun K hK => ?_)
            go_simp
            (go_at_call 5; refine (wMul n o a1 a3 m1 m3 c1 c3 X Z _ wa wc (X * Z) rfl).mono ?_; rintro e Wc3a13c4a12c7c10 ⟨n25, a25, l25, c25, rfl, h25, f25, eWc3a13c4a12c7c10⟩)
            refine hK.out _ _ (keepB3 hHeld eWc3a13c4a12c7c10) (fun hHeld => ?_)
            clear hK K
            have wa := wa.below eWc3a13c4a12c7c10; have wb := wb.below eWc3a13c4a12c7c10; have wc := wc.below eWc3a13c4a12c7c10; have ya := ya.on eWc3a13c4a12c7c10; have yb := yb.on eWc3a13c4a12c7c10; have yc := yc.on eWc3a13c4a12c7c10; have B1 := also B1 eWc3a13c4a12c7c10; have B9 := also B9 eWc3a13c4a12c7c10; have h20 := h20.below eWc3a13c4a12c7c10; have hL := hL.below eWc3a13c4a12c7c10; have h22 := h22.below eWc3a13c4a12c7c10
            have zp := zp.on eWc3a13c4a12c7c10; have lp := Nat.lt_of_lt_of_le lp eWc3a13c4a12c7c10.size
            have zq := zq.on eWc3a13c4a12c7c10; have lq := Nat.lt_of_lt_of_le lq eWc3a13c4a12c7c10.size
            refine take_call (i := 11) rfl (by kernel_rfl) (fun K hK => ?_)
            go_simp
            (go_at_call 6; refine (wAdd n22 n25 a22 a25 l22 l25 c22 c25 (X * Y) (X * Z) _ (h22.wi 32 (by decide) HXY.out) (h25.wi 32 (by decide) HXZ.out) (X * Y + X * Z) rfl).mono ?_; rintro e Wc3a13c4a12c7c10c11 ⟨nr, ar, lr, cr, rfl, hR, fR, eWc3a13c4a12c7c10c11⟩)
            have Rp : NA p ar lr := fR p lp
            have Rq : NA q ar lr := fR q lq
            refine hK.out _ _ (keepB3 hHeld eWc3a13c4a12c7c10c11) (fun hHeld => ?_)
            clear hK K
            have wa := wa.below eWc3a13c4a12c7c10c11; have wb := wb.below eWc3a13c4a12c7c10c11; have wc := wc.below eWc3a13c4a12c7c10c11; have ya := ya.on eWc3a13c4a12c7c10c11; have yb := yb.on eWc3a13c4a12c7c10c11; have yc := yc.on eWc3a13c4a12c7c10c11; have B1 := also B1 eWc3a13c4a12c7c10c11; have B9 := also B9 eWc3a13c4a12c7c10c11; have h20 := h20.below eWc3a13c4a12c7c10c11; have hL := hL.below eWc3a13c4a12c7c10c11; have h22 := h22.below eWc3a13c4a12c7c10c11; have h25 := h25.below eWc3a13c4a12c7c10c11
            have zp := zp.on eWc3a13c4a12c7c10c11; have lp := Nat.lt_of_lt_of_le lp eWc3a13c4a12c7c10c11.size
            have zq := zq.on eWc3a13c4a12c7c10c11; have lq := Nat.lt_of_lt_of_le lq eWc3a13c4a12c7c10c11.size
            obtain ⟨k0, k1, k2, k3⟩ := zp
            have zp : Bx _ _ _ _ := ⟨k0, k1, k2, k3⟩
            refine take_call (i := 14) rfl (by kernel_rfl) (fun K hK => ?_)
            go_simp
            refine hK.out _ _ ?_ (fun hHeld => ?_)
            · exact keepS3 hHeld gp (by omega) _ _
            clear hK K
            obtain ⟨j0, j1, j2, j3⟩ : Bx ((Wc3a13c4a12c7c10c11.setCell ⟨p, 0, none⟩ (.bool nl)).setCell ⟨p, 1, none⟩ (.slice al ll cl)) q (.bool false) (.slice none 0 0) := (zq.put pq).put pq
            refine take_call (i := 15) rfl (by kernel_rfl) (fun K hK => ?_)
            go_simp
            refine hK.out _ _ ?_ (fun hHeld => ?_)
            · exact keepS3 hHeld gq (by omega) _ _
            clear hK K
            refine wpAnyH_done (by kernel_rfl) ?_ _
            exact ringTwo wa wb wc hL hR ya yb yc zp zq B1 gp gq pq Lp Lq Rp Rq xap xaq xbp xbq xcp xcq
        · skip
          go_simp
          refine hK.out _ _ (keepB3 hHeld ((Below.refl _ _).alloc (Nat.le_refl _) _)) (fun hHeld => ?_)
          clear hK K
          have zp := bx_new Wc3a13 (.bool false) (.slice none 0 0) 25
          have eWc3a13a12 : Below Wc3a13.heap.size Wc3a13 (Wc3a13.alloc (.cells #[.bool false, .slice none 0 0] 25)) := (Below.refl _ _).alloc (Nat.le_refl _) _
          have lp : Wc3a13.heap.size < (Wc3a13.alloc (.cells #[.bool false, .slice none 0 0] 25)).heap.size := by simp
          have gp : w.heap.size + 1 + 1 < Wc3a13.heap.size := bx_lt yc; have vp : wr.heap.size ≤ Wc3a13.heap.size := B9.size
          have xap : NA Wc3a13.heap.size a1 m1 := wa.ni.sl.na (Nat.le_refl _)
          have xbp : NA Wc3a13.heap.size a2 m2 := wb.ni.sl.na (Nat.le_refl _)
          have xcp : NA Wc3a13.heap.size a3 m3 := wc.ni.sl.na (Nat.le_refl _)
          have pq : Wc3a13.heap.size ≠ q := Nat.ne_of_gt lq
          generalize Wc3a13.alloc (.cells #[.bool false, .slice none 0 0] 25) = Wc3a13a12 at zp eWc3a13a12 lp hHeld ⊢
          have wa := wa.below eWc3a13a12; have wb := wb.below eWc3a13a12; have wc := wc.below eWc3a13a12; have ya := ya.on eWc3a13a12; have yb := yb.on eWc3a13a12; have yc := yc.on eWc3a13a12; have B1 := also B1 eWc3a13a12; have B9 := also B9 eWc3a13a12; have h20 := h20.below eWc3a13a12
          have zq := zq.on eWc3a13a12; have lq := Nat.lt_of_lt_of_le lq eWc3a13a12.size
          generalize Wc3a13.heap.size = p at zp lp gp vp xap xbp xcp pq ⊢
          refine take_call (i := 4) rfl (by kernel_rfl) (fun K hK => ?_)
          go_simp
          (go_at_call 5; refine (wMul n n20 a1 a20 m1 l20 c1 c20 X (Y + Z) _ wa (h20.wi 17 (by decide) HYZ.out) (X * (Y + Z)) rfl).mono ?_; rintro e Wc3a13a12c4 ⟨nl, al, ll, cl, rfl, hL, fL, eWc3a13a12c4⟩)
          have Lp : NA p al ll := fL p lp
          have Lq : NA q al ll := fL q lq
          refine hK.out _ _ (keepB3 hHeld eWc3a13a12c4) (fun hHeld => ?_)
          clear hK K
          have wa := wa.below eWc3a13a12c4; have wb := wb.below eWc3a13a12c4; have wc := wc.below eWc3a13a12c4; have ya := ya.on eWc3a13a12c4; have yb := yb.on eWc3a13a12c4; have yc := yc.on eWc3a13a12c4; have B1 := also B1 eWc3a13a12c4; have B9 := also B9 eWc3a13a12c4; have h20 := h20.below eWc3a13a12c4
          have zp := zp.on eWc3a13a12c4; have lp := Nat.lt_of_lt_of_le lp eWc3a13a12c4.size
          have zq := zq.on eWc3a13a12c4; have lq := Nat.lt_of_lt_of_le lq eWc3a13a12c4.size
          refine take_call (i := 7) rfl (by kernel_rfl) (fun K hK => ?_)
          go_simp
          (go_at_call 5; refine (wMul n m a1 a2 m1 m2 c1 c2 X Y _ wa wb (X * Y) rfl).mono ?_; rintro e Wc3a13a12c4c7 ⟨n22, a22, l22, c22, rfl, h22, f22, eWc3a13a12c4c7⟩)
          refine hK.out _ _ (keepB3 hHeld eWc3a13a12c4c7) (fun hHeld => ?_)
          clear hK K
          have wa := wa.below eWc3a13a12c4c7; have wb := wb.below eWc3a13a12c4c7; have wc := wc.below eWc3a13a12c4c7; have ya := ya.on eWc3a13a12c4c7; have yb := yb.on eWc3a13a12c4c7; have yc := yc.on eWc3a13a12c4c7; have B1 := also B1 eWc3a13a12c4c7; have B9 := also B9 eWc3a13a12c4c7; have h20 := h20.below eWc3a13a12c4c7; have hL := hL.below eWc3a13a12c4c7
          have zp := zp.on eWc3a13a12c4c7; have lp := Nat.lt_of_lt_of_le lp eWc3a13a12c4c7.size
          have zq := zq.on eWc3a13a12c4c7; have lq := Nat.lt_of_lt_of_le lq eWc3a13a12c4c7.size
          refine take_call (i := 10) rfl (by kernel_rfl) (fun K hK => ?_)
          go_simp
          (go_at_call 5; refine (wMul n o a1 a3 m1 m3 c1 c3 X Z _ wa wc (X * Z) rfl).mono ?_; rintro e Wc3a13a12c4c7c10 ⟨n25, a25, l25, c25, rfl, h25, f25, eWc3a13a12c4c7c10⟩)
          refine hK.out _ _ (keepB3 hHeld eWc3a13a12c4c7c10) (fun hHeld => ?_)
          clear hK K
          have wa := wa.below eWc3a13a12c4c7c10; have wb := wb.below eWc3a13a12c4c7c10; have wc := wc.below eWc3a13a12c4c7c10; have ya := ya.on eWc3a13a12c4c7c10; have yb := yb.on eWc3a13a12c4c7c10; have yc := yc.on eWc3a13a12c4c7c10; have B1 := also B1 eWc3a13a12c4c7c10; have B9 := also B9 eWc3a13a12c4c7c10; have h20 := h20.below eWc3a13a12c4c7c10; have hL := hL.below eWc3a13a12c4c7c10; have h22 := h22.below eWc3a13a12c4c7c10
          have zp := zp.on eWc3a13a12c4c7c10; have lp := Nat.lt_of_lt_of_le lp eWc3a13a12c4c7c10.size
          have zq := zq.on eWc3a13a12c4c7c10; have lq := Nat.lt_of_lt_of_le lq eWc3a13a12c4c7c10.size
          refine take_call (i := 11) rfl (by kernel_rfl) (fun K hK => ?_)
          go_simp
          (go_at_call 6; refine (wAdd n22 n25 a22 a25 l22 l25 c22 c25 (X * Y) (X * Z) _ (h22.wi 32 (by decide) HXY.out) (h25.wi 32 (by decide) HXZ.out) (X * Y + X * Z) rfl).mono ?_; rintro e Wc3a13a12c4c7c10c11 ⟨nr, ar, lr, cr, rfl, hR, fR, eWc3a13a12c4c7c10c11⟩)
          have Rp : NA p ar lr := fR p lp
          have Rq : NA q ar lr := fR q lq
          refine hK.out _ _ (keepB3 hHeld eWc3a13a12c4c7c10c11) (fun hHeld => ?_)
          clear hK K
          have wa := wa.below eWc3a13a12c4c7c10c11; have wb := wb.below eWc3a13a12c4c7c10c11; have wc := wc.below eWc3a13a12c4c7c10c11; have ya := ya.on eWc3a13a12c4c7c10c11; have yb := yb.on eWc3a13a12c4c7c10c11; have yc := yc.on eWc3a13a12c4c7c10c11; have B1 := also B1 eWc3a13a12c4c7c10c11; have B9 := also B9 eWc3a13a12c4c7c10c11; have h20 := h20.below eWc3a13a12c4c7c10c11; have hL := hL.below eWc3a13a12c4c7c10c11; have h22 := h22.below eWc3a13a12c4c7c10c11; have h25 := h25.below eWc3a13a12c4c7c10c11
          have zp := zp.on eWc3a13a12c4c7c10c11; have lp := Nat.lt_of_lt_of_le lp eWc3a13a12c4c7c10c11.size
          have zq := zq.on eWc3a13a12c4c7c10c11; have lq := Nat.lt_of_lt_of_le lq eWc3a13a12c4c7c10c11.size
          obtain ⟨k0, k1, k2, k3⟩ := zp
          have zp : Bx _ _ _ _ := ⟨k0, k1, k2, k3⟩
          refine take_call (i := 14) rfl (by kernel_rfl) (fun K hK => ?_)
          go_simp
          refine hK.out _ _ ?_ (fun hHeld => ?_)
          · exact keepS3 hHeld gp (by omega) _ _
          clear hK K
          obtain ⟨j0, j1, j2, j3⟩ : Bx ((Wc3a13a12c4c7c10c11.setCell ⟨p, 0, none⟩ (.bool nl)).setCell ⟨p, 1, none⟩ (.slice al ll cl)) q (.bool false) (.slice none 0 0) := (zq.put pq).put pq
          refine take_call (i := 15) rfl (by kernel_rfl) (fun K hK => ?_)
          go_simp
          refine hK.out _ _ ?_ (fun hHeld => ?_)
          · exact keepS3 hHeld gq (by omega) _ _
          clear hK K
          refine wpAnyH_done (by kernel_rfl) ?_ _
          exact ringTwo wa wb wc hL hR ya yb yc zp zq B1 gp gq pq Lp Lq Rp Rq xap xaq xbp xbq xcp xcq
    · skip
      go_simp
      refine hK.out _ _ (keepB3 hHeld ((Below.refl _ _).alloc (Nat.le_refl _) _)) (fun hHeld => ?_)
      clear hK K
      have zp := bx_new W (.bool false) (.slice none 0 0) 25
      have eWa12 : Below W.heap.size W (W.alloc (.cells #[.bool false, .slice none 0 0] 25)) := (Below.refl _ _).alloc (Nat.le_refl _) _
      have lp : W.heap.size < (W.alloc (.cells #[.bool false, .slice none 0 0] 25)).heap.size := by simp
      have gp : w.heap.size + 1 + 1 < W.heap.size := bx_lt yc; have vp : wr.heap.size ≤ W.heap.size := B9.size
      have xap : NA W.heap.size a1 m1 := wa.ni.sl.na (Nat.le_refl _)
      have xbp : NA W.heap.size a2 m2 := wb.ni.sl.na (Nat.le_refl _)
      have xcp : NA W.heap.size a3 m3 := wc.ni.sl.na (Nat.le_refl _)
      generalize W.alloc (.cells #[.bool false, .slice none 0 0] 25) = Wa12 at zp eWa12 lp hHeld ⊢
      have wa := wa.below eWa12; have wb := wb.below eWa12; have wc := wc.below eWa12; have ya := ya.on eWa12; have yb := yb.on eWa12; have yc := yc.on eWa12; have B1 := also B1 eWa12; have B9 := also B9 eWa12
      generalize W.heap.size = p at zp lp gp vp xap xbp xcp ⊢
      refine wpAnyH_ready (rs := [3, 13]) (by kernel_rfl) (by simp) (AllReadyH.cons (i := 3) rfl (fun K hK => ?_) (AllReadyH.cons (i := 13) rfl (fun K hK => ?_) AllReadyH.nil))
      · skip
        go_simp
        (go_at_call 6; refine (wAdd m o a2 a3 m2 m3 c2 c3 Y Z _ wb wc (Y + Z) rfl).mono ?_; rintro e Wa12c3 ⟨n20, a20, l20, c20, rfl, h20, f20, eWa12c3⟩)
        refine hK.out _ _ (keepB3 hHeld eWa12c3) (fun hHeld => ?_)
        clear hK K
        have wa := wa.below eWa12c3; have wb := wb.below eWa12c3; have wc := wc.below eWa12c3; have ya := ya.on eWa12c3; have yb := yb.on eWa12c3; have yc := yc.on eWa12c3; have B1 := also B1 eWa12c3; have B9 := also B9 eWa12c3
        have zp := zp.on eWa12c3; have lp := Nat.lt_of_lt_of_le lp eWa12c3.size
        refine wpAnyH_ready (rs := [4, 13]) (by kernel_rfl) (by simp) (AllReadyH.cons (i := 4) rfl (fun K hK => ?_) (AllReadyH.cons (i := 13) rfl (fun K hK => ?_) AllReadyH.nil))
        · skip
          go_simp
          (go_at_call 5; refine (wMul n n20 a1 a20 m1 l20 c1 c20 X (Y + Z) _ wa (h20.wi 17 (by decide) HYZ.out) (X * (Y + Z)) rfl).mono ?_; rintro e Wa12c3c4 ⟨nl, al, ll, cl, rfl, hL, fL, eWa12c3c4⟩)
          have Lp : NA p al ll := fL p lp
          refine hK.out _ _ (keepB3 hHeld eWa12c3c4) (fun hHeld => ?_)
          clear hK K
          have wa := wa.below eWa12c3c4; have wb := wb.below eWa12c3c4; have wc := wc.below eWa12c3c4; have ya := ya.on eWa12c3c4; have yb := yb.on eWa12c3c4; have yc := yc.on eWa12c3c4; have B1 := also B1 eWa12c3c4; have B9 := also B9 eWa12c3c4; have h20 := h20.below eWa12c3c4
          have zp := zp.on eWa12c3c4; have lp := Nat.lt_of_lt_of_le lp eWa12c3c4.size
          refine wpAnyH_ready (rs := [7, 13]) (by kernel_rfl) (by simp) (AllReadyH.cons (i := 7) rfl (fun K hK => ?_) (AllReadyH.cons (i := 13) rfl (fun K hK => ?_) AllReadyH.nil))
          · skip
            go_simp
            (go_at_call 5; refine (wMul n m a1 a2 m1 m2 c1 c2 X Y _ wa wb (X * Y) rfl).mono ?_; rintro e Wa12c3c4c7 ⟨n22, a22, l22, c22, rfl, h22, f22, eWa12c3c4c7⟩)
            refine hK.out _ _ (keepB3 hHeld eWa12c3c4c7) (fun hHeld => ?_)
            clear hK K
            have wa := wa.below eWa12c3c4c7; have wb := wb.below eWa12c3c4c7; have wc := wc.below eWa12c3c4c7; have ya := ya.on eWa12c3c4c7; have yb := yb.on eWa12c3c4c7; have yc := yc.on eWa12c3c4c7; have B1 := also B1 eWa12c3c4c7; have B9 := also B9 eWa12c3c4c7; have h20 := h20.below eWa12c3c4c7; have hL := hL.below eWa12c3c4c7
            have zp := zp.on eWa12c3c4c7; have lp := Nat.lt_of_lt_of_le lp eWa12c3c4c7.size
            refine wpAnyH_ready (rs := [10, 13]) (by kernel_rfl) (by simp) (AllReadyH.cons (i := 10) rfl (fun K hK => ?_) (AllReadyH.cons (i := 13) rfl (fun K hK => ?_) AllReadyH.nil))
            · skip
              go_simp
              (go_at_call 5; refine (wMul n o a1 a3 m1 m3 c1 c3 X Z _ wa wc (X * Z) rfl).mono ?_; rintro e Wa12c3c4c7c10 ⟨n25, a25, l25, c25, rfl, h25, f25, eWa12c3c4c7c10⟩)
              refine hK.out _ _ (keepB3 hHeld eWa12c3c4c7c10) (fun hHeld => ?_)
              clear hK K
              have wa := wa.below eWa12c3c4c7c10; have wb := wb.below eWa12c3c4c7c10; have wc := wc.below eWa12c3c4c7c10; have ya := ya.on eWa12c3c4c7c10; have yb := yb.on eWa12c3c4c7c10; have yc := yc.on eWa12c3c4c7c10; have B1 := also B1 eWa12c3c4c7c10; have B9 := also B9 eWa12c3c4c7c10; have h20 := h20.below eWa12c3c4c7c10; have hL := hL.below eWa12c3c4c7c10; have h22 := h22.below eWa12c3c4c7c10
              have zp := zp.on eWa12c3c4c7c10; have lp := Nat.lt_of_lt_of_le lp eWa12c3c4c7c10.size
              refine wpAnyH_ready (rs := [11, 13]) (by kernel_rfl) (by simp) (AllReadyH.cons (i := 11) rfl (fun K hK => ?_) (AllReadyH.cons (i := 13) rfl (fun K hK => ?_) AllReadyH.nil))
              · skip
                go_simp
                (go_at_call 6; refine (wAdd n22 n25 a22 a25 l22 l25 c22 c25 (X * Y) (X * Z) _ (h22.wi 32 (by decide) HXY.out) (h25.wi 32 (by decide) HXZ.out) (X * Y + X * Z) rfl).mono ?_; rintro e Wa12c3c4c7c10c11 ⟨nr, ar, lr, cr, rfl, hR, fR, eWa12c3c4c7c10c11⟩)
                have Rp : NA p ar lr := fR p lp
                refine hK.out _ _ (keepB3 hHeld eWa12c3c4c7c10c11) (fun hHeld => ?_)
                clear hK K
                have wa := wa.below eWa12c3c4c7c10c11; have wb := wb.below eWa12c3c4c7c10c11; have wc := wc.below eWa12c3c4c7c10c11; have ya := ya.on eWa12c3c4c7c10c11; have yb := yb.on eWa12c3c4c7c10c11; have yc := yc.on eWa12c3c4c7c10c11; have B1 := also B1 eWa12c3c4c7c10c11; have B9 := also B9 eWa12c3c4c7c10c11; have h20 := h20.below eWa12c3c4c7c10c11; have hL := hL.below eWa12c3c4c7c10c11; have h22 := h22.below eWa12c3c4c7c10c11; have h25 := h25.below eWa12c3c4c7c10c11
                have zp := zp.on eWa12c3c4c7c10c11; have lp := Nat.lt_of_lt_of_le lp eWa12c3c4c7c10c11.size
                refine take_call (i := 13) rfl (by kernel_rfl) (fun K hK => ?_)
                go_simp
                refine hK.out _ _ (keepB3 hHeld ((Below.refl _ _).alloc (Nat.le_refl _) _)) (fun hHeld => ?_)
                clear hK K
                have zq := bx_new Wa12c3c4c7c10c11 (.bool false) (.slice none 0 0) 25
                have eWa12c3c4c7c10c11a13 : Below Wa12c3c4c7c10c11.heap.size Wa12c3c4c7c10c11 (Wa12c3c4c7c10c11.alloc (.cells #[.bool false, .slice none 0 0] 25)) := (Below.refl _ _).alloc (Nat.le_refl _) _
                have lq : Wa12c3c4c7c10c11.heap.size < (Wa12c3c4c7c10c11.alloc (.cells #[.bool false, .slice none 0 0] 25)).heap.size := by simp
                have gq : w.heap.size + 1 + 1 < Wa12c3c4c7c10c11.heap.size := bx_lt yc; have vq : wr.heap.size ≤ Wa12c3c4c7c10c11.heap.size := B9.size
                have xaq : NA Wa12c3c4c7c10c11.heap.size a1 m1 := wa.ni.sl.na (Nat.le_refl _)
                have xbq : NA Wa12c3c4c7c10c11.heap.size a2 m2 := wb.ni.sl.na (Nat.le_refl _)
                have xcq : NA Wa12c3c4c7c10c11.heap.size a3 m3 := wc.ni.sl.na (Nat.le_refl _)
                have Lq : NA Wa12c3c4c7c10c11.heap.size al ll := hL.nd.sl.na (Nat.le_refl _)
                have Rq : NA Wa12c3c4c7c10c11.heap.size ar lr := hR.nd.sl.na (Nat.le_refl _)
                have pq : p ≠ Wa12c3c4c7c10c11.heap.size := Nat.ne_of_lt lp
                generalize Wa12c3c4c7c10c11.alloc (.cells #[.bool false, .slice none 0 0] 25) = Wa12c3c4c7c10c11a13 at zq eWa12c3c4c7c10c11a13 lq hHeld ⊢
                have wa := wa.below eWa12c3c4c7c10c11a13; have wb := wb.below eWa12c3c4c7c10c11a13; have wc := wc.below eWa12c3c4c7c10c11a13; have ya := ya.on eWa12c3c4c7c10c11a13; have yb := yb.on eWa12c3c4c7c10c11a13; have yc := yc.on eWa12c3c4c7c10c11a13; have B1 := also B1 eWa12c3c4c7c10c11a13; have B9 := also B9 eWa12c3c4c7c10c11a13; have h20 := h20.below eWa12c3c4c7c10c11a13; have hL := hL.below eWa12c3c4c7c10c11a13; have h22 := h22.below eWa12c3c4c7c10c11a13; have h25 := h25.below eWa12c3c4c7c10c11a13; have hR := hR.below eWa12c3c4c7c10c11a13
                have zp := zp.on eWa12c3c4c7c10c11a13; have lp := Nat.lt_of_lt_of_le lp eWa12c3c4c7c10c11a13.size
                generalize Wa12c3c4c7c10c11.heap.size = q at zq lq gq vq xaq xbq xcq Lq Rq pq ⊢
                obtain ⟨k0, k1, k2, k3⟩ := zp
                have zp : Bx _ _ _ _ := ⟨k0, k1, k2, k3⟩
                refine take_call (i := 14) rfl (by kernel_rfl) (fun K hK => ?_)
                go_simp
                refine hK.out _ _ ?_ (fun hHeld => ?_)
                · exact keepS3 hHeld gp (by omega) _ _
                clear hK K
                obtain ⟨j0, j1, j2, j3⟩ : Bx ((Wa12c3c4c7c10c11a13.setCell ⟨p, 0, none⟩ (.bool nl)).setCell ⟨p, 1, none⟩ (.slice al ll cl)) q (.bool false) (.slice none 0 0) := (zq.put pq).put pq
                refine take_call (i := 15) rfl (by kernel_rfl) (fun K hK => ?_)
                go_simp
                refine hK.out _ _ ?_ (fun hHeld => ?_)
                · exact keepS3 hHeld gq (by omega) _ _
                clear hK K
                refine wpAnyH_done (by kernel_rfl) ?_ _
                exact ringTwo wa wb wc hL hR ya yb yc zp zq B1 gp gq pq Lp Lq Rp Rq xap xaq xbp xbq xcp xcq
              · skip
                go_simp
                refine hK.out _ _ (keepB3 hHeld ((Below.refl _ _).alloc (Nat.le_refl _) _)) (fun hHeld => ?_)
                clear hK K
                have zq := bx_new Wa12c3c4c7c10 (.bool false) (.slice none 0 0) 25
                have eWa12c3c4c7c10a13 : Below Wa12c3c4c7c10.heap.size Wa12c3c4c7c10 (Wa12c3c4c7c10.alloc (.cells #[.bool false, .slice none 0 0] 25)) := (Below.refl _ _).alloc (Nat.le_refl _) _
                have lq : Wa12c3c4c7c10.heap.size < (Wa12c3c4c7c10.alloc (.cells #[.bool false, .slice none 0 0] 25)).heap.size := by simp
                have gq : w.heap.size + 1 + 1 < Wa12c3c4c7c10.heap.size := bx_lt yc; have vq : wr.heap.size ≤ Wa12c3c4c7c10.heap.size := B9.size
                have xaq : NA Wa12c3c4c7c10.heap.size a1 m1 := wa.ni.sl.na (Nat.le_refl _)
                have xbq : NA Wa12c3c4c7c10.heap.size a2 m2 := wb.ni.sl.na (Nat.le_refl _)
                have xcq : NA Wa12c3c4c7c10.heap.size a3 m3 := wc.ni.sl.na (Nat.le_refl _)
                have Lq : NA Wa12c3c4c7c10.heap.size al ll := hL.nd.sl.na (Nat.le_refl _)
                have pq : p ≠ Wa12c3c4c7c10.heap.size := Nat.ne_of_lt lp
                generalize Wa12c3c4c7c10.alloc (.cells #[.bool false, .slice none 0 0] 25) = Wa12c3c4c7c10a13 at zq eWa12c3c4c7c10a13 lq hHeld ⊢
                have wa := wa.below eWa12c3c4c7c10a13; have wb := wb.below eWa12c3c4c7c10a13; have wc := wc.below eWa12c3c4c7c10a13; have ya := ya.on eWa12c3c4c7c10a13; have yb := yb.on eWa12c3c4c7c10a13; have yc := yc.on eWa12c3c4c7c10a13; have B1 := also B1 eWa12c3c4c7c10a13; have B9 := also B9 eWa12c3c4c7c10a13; have h20 := h20.below eWa12c3c4c7c10a13; have hL := hL.below eWa12c3c4c7c10a13; have h22 := h22.below eWa12c3c4c7c10a13; have h25 := h25.below eWa12c3c4c7c10a13
                have zp := zp.on eWa12c3c4c7c10a13; have lp := Nat.lt_of_lt_of_le lp eWa12c3c4c7c10a13.size
                generalize Wa12c3c4c7c10.heap.size = q at zq lq gq vq xaq xbq xcq Lq pq ⊢
                refine take_call (i := 11) rfl (by kernel_rfl) (fun K hK => ?_)
                go_simp
                (go_at_call 6; refine (wAdd n22 n25 a22 a25 l22 l25 c22 c25 (X * Y) (X * Z) _ (h22.wi 32 (by decide) HXY.out) (h25.wi 32 (by decide) HXZ.out) (X * Y + X * Z) rfl).mono ?_; rintro e Wa12c3c4c7c10a13c11 ⟨nr, ar, lr, cr, rfl, hR, fR, eWa12c3c4c7c10a13c11⟩)
                have Rp : NA p ar lr := fR p lp
                have Rq : NA q ar lr := fR q lq
                refine hK.out _ _ (keepB3 hHeld eWa12c3c4c7c10a13c11) (fun hHeld => ?_)
                clear hK K
                have wa := wa.below eWa12c3c4c7c10a13c11; have wb := wb.below eWa12c3c4c7c10a13c11; have wc := wc.below eWa12c3c4c7c10a13c11; have ya := ya.on eWa12c3c4c7c10a13c11; have yb := yb.on eWa12c3c4c7c10a13c11; have yc := yc.on eWa12c3c4c7c10a13c11; have B1 := also B1 eWa12c3c4c7c10a13c11; have B9 := also B9 eWa12c3c4c7c10a13c11; have h20 := h20.below eWa12c3c4c7c10a13c11; have hL := hL.below eWa12c3c4c7c10a13c11; have h22 := h22.below eWa12c3c4c7c10a13c11; have h25 := h25.below eWa12c3c4c7c10a13c11
                have zp := zp.on eWa12c3c4c7c10a13c11; have lp := Nat.lt_of_lt_of_le lp eWa12c3c4c7c10a13c11.size
                have zq := zq.on eWa12c3c4c7c10a13c11; have lq := Nat.lt_of_lt_of_le lq eWa12c3c4c7c10a13c11.size
                obtain ⟨k0, k1, k2, k3⟩ := zp
                have zp : Bx _ _ _ _ := ⟨k0, k1, k2, k3⟩
                refine take_call (i := 14) rfl (by kernel_rfl) (fun K hK => ?_)
                go_simp
                refine hK.out _ _ ?_ (fun hHeld => ?_)
                · exact keepS3 hHeld gp (by omega) _ _
                clear hK K
                obtain ⟨j0, j1, j2, j3⟩ : Bx ((Wa12c3c4c7c10a13c11.setCell ⟨p, 0, none⟩ (.bool nl)).setCell ⟨p, 1, none⟩ (.slice al ll cl)) q (.bool false) (.slice none 0 0) := (zq.put pq).put pq
                refine take_call (i := 15) rfl (by kernel_rfl) (fun K hK => ?_)
                go_simp
                refine hK.out _ _ ?_ (fun hHeld => ?_)
                · exact keepS3 hHeld gq (by omega) _ _
                clear hK K
                refine wpAnyH_done (by kernel_rfl) ?_ _
                exact ringTwo wa wb wc hL hR ya yb yc zp zq B1 gp gq pq Lp Lq Rp Rq xap xaq xbp xbq xcp xcq
            · skip
              go_simp
              refine hK.out _ _ (keepB3 hHeld ((Below.refl _ _).alloc (Nat.le_refl _) _)) (fun hHeld => ?_)
              clear hK K
              have zq := bx_new Wa12c3c4c7 (.bool false) (.slice none 0 0) 25
              have eWa12c3c4c7a13 : Below Wa12c3c4c7.heap.size Wa12c3c4c7 (Wa12c3c4c7.alloc (.cells #[.bool false, .slice none 0 0] 25)) := (Below.refl _ _).alloc (Nat.le_refl _) _
              have lq : Wa12c3c4c7.heap.size < (Wa12c3c4c7.alloc (.cells #[.bool false, .slice none 0 0] 25)).heap.size := by simp
              have gq : w.heap.size + 1 + 1 < Wa12c3c4c7.heap.size := bx_lt yc; have vq : wr.heap.size ≤ Wa12c3c4c7.heap.size := B9.size
              have xaq : NA Wa12c3c4c7.heap.size a1 m1 := wa.ni.sl.na (Nat.le_refl _)
              have xbq : NA Wa12c3c4c7.heap.size a2 m2 := wb.ni.sl.na (Nat.le_refl _)
              have xcq : NA Wa12c3c4c7.heap.size a3 m3 := wc.ni.sl.na (Nat.le_refl _)
              have Lq : NA Wa12c3c4c7.heap.size al ll := hL.nd.sl.na (Nat.le_refl _)
              have pq : p ≠ Wa12c3c4c7.heap.size := Nat.ne_of_lt lp
              generalize Wa12c3c4c7.alloc (.cells #[.bool false, .slice none 0 0] 25) = Wa12c3c4c7a13 at zq eWa12c3c4c7a13 lq hHeld ⊢
              have wa := wa.below eWa12c3c4c7a13; have wb := wb.below eWa12c3c4c7a13; have wc := wc.below eWa12c3c4c7a13; have ya := ya.on eWa12c3c4c7a13; have yb := yb.on eWa12c3c4c7a13; have yc := yc.on eWa12c3c4c7a13; have B1 := also B1 eWa12c3c4c7a13; have B9 := also B9 eWa12c3c4c7a13; have h20 := h20.below eWa12c3c4c7a13; have hL := hL.below eWa12c3c4c7a13; have h22 := h22.below eWa12c3c4c7a13
              have zp := zp.on eWa12c3c4c7a13; have lp := Nat.lt_of_lt_of_le lp eWa12c3c4c7a13.size
              generalize Wa12c3c4c7.heap.size = q at zq lq gq vq xaq xbq xcq Lq pq ⊢
              refine take_call (i := 10) rfl (by kernel_rfl) (fun K hK => ?_)
              go_simp
              (go_at_call 5; refine (wMul n o a1 a3 m1 m3 c1 c3 X Z _ wa wc (X * Z) rfl).mono ?_; rintro e Wa12c3c4c7a13c10 ⟨n25, a25, l25, c25, rfl, h25, f25, eWa12c3c4c7a13c10⟩)
              refine hK.out _ _ (keepB3 hHeld eWa12c3c4c7a13c10) (fun hHeld => ?_)
              clear hK K
              have wa := wa.below eWa12c3c4c7a13c10; have wb := wb.below eWa12c3c4c7a13c10; have wc := wc.below eWa12c3c4c7a13c10; have ya := ya.on eWa12c3c4c7a13c10; have yb := yb.on eWa12c3c4c7a13c10; have yc := yc.on eWa12c3c4c7a13c10; have B1 := also B1 eWa12c3c4c7a13c10; have B9 := also B9 eWa12c3c4c7a13c10; have h20 := h20.below eWa12c3c4c7a13c10; have hL := hL.below eWa12c3c4c7a13c10; have h22 := h22.below eWa12c3c4c7a13c10
              have zp := zp.on eWa12c3c4c7a13c10; have lp := Nat.lt_of_lt_of_le lp eWa12c3c4c7a13c10.size
              have zq := zq.on eWa12c3c4c7a13c10; have lq := Nat.lt_of_lt_of_le lq eWa12c3c4c7a13c10.size
              refine take_call (i := 11) rfl (by kernel_rfl) (fun K hK => ?_)
              go_simp
              (go_at_call 6; refine (wAdd n22 n25 a22 a25 l22 l25 c22 c25 (X * Y) (X * Z) _ (h22.wi 32 (by decide) HXY.out) (h25.wi 32 (by decide) HXZ.out) (X * Y + X * Z) rfl).mono ?_; rintro e Wa12c3c4c7a13c10c11 ⟨nr, ar, lr, cr, rfl, hR, fR, eWa12c3c4c7a13c10c11⟩)
              have Rp : NA p ar lr := fR p lp
              have Rq : NA q ar lr := fR q lq
              refine hK.out _ _ (keepB3 hHeld eWa12c3c4c7a13c10c11) (fun hHeld => ?_)
              clear hK K
              have wa := wa.below eWa12c3c4c7a13c10c11; have wb := wb.below eWa12c3c4c7a13c10c11; have wc := wc.below eWa12c3c4c7a13c10c11; have ya := ya.on eWa12c3c4c7a13c10c11; have yb := yb.on eWa12c3c4c7a13c10c11; have yc := yc.on eWa12c3c4c7a13c10c11; have B1 := also B1 eWa12c3c4c7a13c10c11; have B9 := also B9 eWa12c3c4c7a13c10c11; have h20 := h20.below eWa12c3c4c7a13c10c11; have hL := hL.below eWa12c3c4c7a13c10c11; have h22 := h22.below eWa12c3c4c7a13c10c11; have h25 := h25.below eWa12c3c4c7a13c10c11
              have zp := zp.on eWa12c3c4c7a13c10c11; have lp := Nat.lt_of_lt_of_le lp eWa12c3c4c7a13c10c11.size
              have zq := zq.on eWa12c3c4c7a13c10c11; have lq := Nat.lt_of_lt_of_le lq eWa12c3c4c7a13c10c11.size
              obtain ⟨k0, k1, k2, k3⟩ := zp
              have zp : Bx _ _ _ _ := ⟨k0, k1, k2, k3⟩
              refine take_call (i := 14) rfl (by kernel_rfl) (fun K hK => ?_)
              go_simp
              refine hK.out _ _ ?_ (fun hHeld => ?_)
              · exact keepS3 hHeld gp (by omega) _ _
              clear hK K
              obtain ⟨j0, j1, j2, j3⟩ : Bx ((Wa12c3c4c7a13c10c11.setCell ⟨p, 0, none⟩ (.bool nl)).setCell ⟨p, 1, none⟩ (.slice al ll cl)) q (.bool false) (.slice none 0 0) := (zq.put pq).put pq
              refine take_call (i := 15) rfl (by kernel_rfl) (fun K hK => ?_)
              go_simp
              refine hK.out _ _ ?_ (fun hHeld => ?_)
              · exact keepS3 hHeld gq (by omega) _ _
              clear hK K
              refine wpAnyH_done (by kernel_rfl) ?_ _
              exact ringTwo wa wb wc hL hR ya yb yc zp zq B1 gp gq pq Lp Lq Rp Rq xap xaq xbp xbq xcp xcq
          · skip
            go_simp
            refine hK.out _ _ (keepB3 hHeld ((Below.refl _ _).alloc (Nat.le_refl _) _)) (fun hHeld => ?_)
            clear hK K
            have zq := bx_new Wa12c3c4 (.bool false) (.slice none 0 0) 25
            have eWa12c3c4a13 : Below Wa12c3c4.heap.size Wa12c3c4 (Wa12c3c4.alloc (.cells #[.bool false, .slice none 0 0] 25)) := (Below.refl _ _).alloc (Nat.le_refl _) _
            have lq : Wa12c3c4.heap.size < (Wa12c3c4.alloc (.cells #[.bool false, .slice none 0 0] 25)).heap.size := by simp
            have gq : w.heap.size + 1 + 1 < Wa12c3c4.heap.size := bx_lt yc; have vq : wr.heap.size ≤ Wa12c3c4.heap.size := B9.size
            have xaq : NA Wa12c3c4.heap.size a1 m1 := wa.ni.sl.na (Nat.le_refl _)
            have xbq : NA Wa12c3c4.heap.size a2 m2 := wb.ni.sl.na (Nat.le_refl _)
            have xcq : NA Wa12c3c4.heap.size a3 m3 := wc.ni.sl.na (Nat.le_refl _)
            have Lq : NA Wa12c3c4.heap.size al ll := hL.nd.sl.na (Nat.le_refl _)
            have pq : p ≠ Wa12c3c4.heap.size := Nat.ne_of_lt lp
            generalize Wa12c3c4.alloc (.cells #[.bool false, .slice none 0 0] 25) = Wa12c3c4a13 at zq eWa12c3c4a13 lq hHeld ⊢
            have wa := wa.below eWa12c3c4a13; have wb := wb.below eWa12c3c4a13; have wc := wc.below eWa12c3c4a13; have ya := ya.on eWa12c3c4a13; have yb := yb.on eWa12c3c4a13; have yc := yc.on eWa12c3c4a13; have B1 := also B1 eWa12c3c4a13; have B9 := also B9 eWa12c3c4a13; have h20 := h20.below eWa12c3c4a13; have hL := hL.below eWa12c3c4a13
            have zp := zp.on eWa12c3c4a13; have lp := Nat.lt_of_lt_of_le lp eWa12c3c4a13.size
            generalize Wa12c3c4.heap.size = q at zq lq gq vq xaq xbq xcq Lq pq ⊢
            refine take_call (i := 7) rfl (by kernel_rfl) (fun K hK => ?_)
            go_simp
            (go_at_call 5; refine (wMul n m a1 a2 m1 m2 c1 c2 X Y _ wa wb (X * Y) rfl).mono ?_; rintro e Wa12c3c4a13c7 ⟨n22, a22, l22, c22, rfl, h22, f22, eWa12c3c4a13c7⟩)
            refine hK.out _ _ (keepB3 hHeld eWa12c3c4a13c7) (fun hHeld => ?_)
            clear hK K
            have wa := wa.below eWa12c3c4a13c7; have wb := wb.below eWa12c3c4a13c7; have wc := wc.below eWa12c3c4a13c7; have ya := ya.on eWa12c3c4a13c7; have yb := yb.on eWa12c3c4a13c7; have yc := yc.on eWa12c3c4a13c7; have B1 := also B1 eWa12c3c4a13c7; have B9 := also B9 eWa12c3c4a13c7; have h20 := h20.below eWa12c3c4a13c7; have hL := hL.below eWa12c3c4a13c7
            have zp := zp.on eWa12c3c4a13c7; have lp := Nat.lt_of_lt_of_le lp eWa12c3c4a13c7.size
            have zq := zq.on eWa12c3c4a13c7; have lq := Nat.lt_of_lt_of_le lq eWa12c3c4a13c7.size
            refine take_call (i := 10) rfl (by kernel_rfl) (fun K hK => ?_)
            go_simp
            (go_at_call 5; refine (wMul n o a1 a3 m1 m3 c1 c3 X Z _ wa wc (X * Z) rfl).mono ?_; rintro e Wa12c3c4a13c7c10 ⟨n25, a25, l25, c25, rfl, h25, f25, eWa12c3c4a13c7c10⟩)
            refine hK.out _ _ (keepB3 hHeld eWa12c3c4a13c7c10) (fun hHeld => ?_)
            clear hK K
            have wa := wa.below eWa12c3c4a13c7c10; have wb := wb.below eWa12c3c4a13c7c10; have wc := wc.below eWa12c3c4a13c7c10; have ya := ya.on eWa12c3c4a13c7c10; have yb := yb.on eWa12c3c4a13c7c10; have yc := yc.on eWa12c3c4a13c7c10; have B1 := also B1 eWa12c3c4a13c7c10; have B9 := also B9 eWa12c3c4a13c7c10; have h20 := h20.below eWa12c3c4a13c7c10; have hL := hL.below eWa12c3c4a13c7c10; have h22 := h22.below eWa12c3c4a13c7c10
            have zp := zp.on eWa12c3c4a13c7c10; have lp := Nat.lt_of_lt_of_le lp eWa12c3c4a13c7c10.size
            have zq := zq.on eWa12c3c4a13c7c10; have lq := Nat.lt_of_lt_of_le lq eWa12c3c4a13c7c10.size
            refine take_call (i := 11) rfl (by kernel_rfl) (fun K hK => ?_)
            go_simp
            (go_at_call 6; refine (wAdd n22 n25 a22 a25 l22 l25 c22 c25 (X * Y) (X * Z) _ (h22.wi 32 (by decide) HXY.out) (h25.wi 32 (by decide) HXZ.out) (X * Y + X * Z) rfl).mono ?_; rintro e Wa12c3c4a13c7c10c11 ⟨nr, ar, lr, cr, rfl, hR, fR, eWa12c3c4a13c7c10c11⟩)
            have Rp : NA p ar lr := fR p lp
            have Rq : NA q ar lr := fR q lq
            refine hK.out _ _ (keepB3 hHeld eWa12c3c4a13c7c10c11) (fun hHeld => ?_)
            clear hK K
            have wa := wa.below eWa12c3c4a13c7c10c11; have wb := wb.below eWa12c3c4a13c7c10c11; have wc := wc.below eWa12c3c4a13c7c10c11; have ya := ya.on eWa12c3c4a13c7c10c11; have yb := yb.on eWa12c3c4a13c7c10c11; have yc := yc.on eWa12c3c4a13c7c10c11; have B1 := also B1 eWa12c3c4a13c7c10c11; have B9 := also B9 eWa12c3c4a13c7c10c11; have h20 := h20.below eWa12c3c4a13c7c10c11; have hL := hL.below eWa12c3c4a13c7c10c11; have h22 := h22.below eWa12c3c4a13c7c10c11; have h25 := h25.below eWa12c3c4a13c7c10c11
            have zp := zp.on eWa12c3c4a13c7c10c11; have lp := Nat.lt_of_lt_of_le lp eWa12c3c4a13c7c10c11.size
            have zq := zq.on eWa12c3c4a13c7c10c11; have lq := Nat.lt_of_lt_of_le lq eWa12c3c4a13c7c10c11.size
            obtain ⟨k0, k1, k2, k3⟩ := zp
            have zp : Bx _ _ _ _ := ⟨k0, k1, k2, k3⟩
            refine take_call (i := 14) rfl (by kernel_rfl) (fun K hK => ?_)
            go_simp
            refine hK.out _ _ ?_ (fun hHeld => ?_)
            · exact keepS3 hHeld gp (by omega) _ _
            clear hK K
            obtain ⟨j0, j1, j2, j3⟩ : Bx ((Wa12c3c4a13c7c10c11.setCell ⟨p, 0, none⟩ (.bool nl)).setCell ⟨p, 1, none⟩ (.slice al ll cl)) q (.bool false) (.slice none 0 0) := (zq.put pq).put pq
            refine take_call (i := 15) rfl (by kernel_rfl) (fun K hK => ?_)
            go_simp
            refine hK.out _ _ ?_ (fun hHeld => ?_)
            · exact keepS3 hHeld gq (by omega) _ _
            clear hK K
            refine wpAnyH_done (by kernel_rfl) ?_ _
            exact ringTwo wa wb wc hL hR ya yb yc zp zq B1 gp gq pq Lp Lq Rp Rq xap xaq xbp xbq xcp xcq
        · skip
          go_simp
          refine hK.out _ _ (keepB3 hHeld ((Below.refl _ _).alloc (Nat.le_refl _) _)) (fun hHeld => ?_)
          clear hK K
          have zq := bx_new Wa12c3 (.bool false) (.slice none 0 0) 25
          have eWa12c3a13 : Below Wa12c3.heap.size Wa12c3 (Wa12c3.alloc (.cells #[.bool false, .slice none 0 0] 25)) := (Below.refl _ _).alloc (Nat.le_refl _) _
          have lq : Wa12c3.heap.size < (Wa12c3.alloc (.cells #[.bool false, .slice none 0 0] 25)).heap.size := by simp
          have gq : w.heap.size + 1 + 1 < Wa12c3.heap.size := bx_lt yc; have vq : wr.heap.size ≤ Wa12c3.heap.size := B9.size
          have xaq : NA Wa12c3.heap.size a1 m1 := wa.ni.sl.na (Nat.le_refl _)
          have xbq : NA Wa12c3.heap.size a2 m2 := wb.ni.sl.na (Nat.le_refl _)
          have xcq : NA Wa12c3.heap.size a3 m3 := wc.ni.sl.na (Nat.le_refl _)
          have pq : p ≠ Wa12c3.heap.size := Nat.ne_of_lt lp
          generalize Wa12c3.alloc (.cells #[.bool false, .slice none 0 0] 25) = Wa12c3a13 at zq eWa12c3a13 lq hHeld ⊢
          have wa := wa.below eWa12c3a13; have wb := wb.below eWa12c3a13; have wc := wc.below eWa12c3a13; have ya := ya.on eWa12c3a13; have yb := yb.on eWa12c3a13; have yc := yc.on eWa12c3a13; have B1 := also B1 eWa12c3a13; have B9 := also B9 eWa12c3a13; have h20 := h20.below eWa12c3a13
          have zp := zp.on eWa12c3a13; have lp := Nat.lt_of_lt_of_le lp eWa12c3a13.size
          generalize Wa12c3.heap.size = q at zq lq gq vq xaq xbq xcq pq ⊢
          refine take_call (i := 4) rfl (by kernel_rfl) (fun K hK => ?_)
          go_simp
          (go_at_call 5; refine (wMul n n20 a1 a20 m1 l20 c1 c20 X (Y + Z) _ wa (h20.wi 17 (by decide) HYZ.out) (X * (Y + Z)) rfl).mono ?_; rintro e Wa12c3a13c4 ⟨nl, al, ll, cl, rfl, hL, fL, eWa12c3a13c4⟩)
          have Lp : NA p al ll := fL p lp
          have Lq : NA q al ll := fL q lq
          refine hK.out _ _ (keepB3 hHeld eWa12c3a13c4) (fun hHeld => ?_)
          clear hK K
          have wa := wa.below eWa12c3a13c4; have wb := wb.below eWa12c3a13c4; have wc := wc.below eWa12c3a13c4; have ya := ya.on eWa12c3a13c4; have yb := yb.on eWa12c3a13c4; have yc := yc.on eWa12c3a13c4; have B1 := also B1 eWa12c3a13c4; have B9 := also B9 eWa12c3a13c4; have h20 := h20.below eWa12c3a13c4
          have zp := zp.on eWa12c3a13c4; have lp := Nat.lt_of_lt_of_le lp eWa12c3a13c4.size
          have zq := zq.on eWa12c3a13c4; have lq := Nat.lt_of_lt_of_le lq eWa12c3a13c4.size
          refine take_call (i := 7) rfl (by kernel_rfl) (fun K hK => ?_)
          go_simp
          (go_at_call 5; refine (wMul n m a1 a2 m1 m2 c1 c2 X Y _ wa wb (X * Y) rfl).mono ?_; rintro e Wa12c3a13c4c7 ⟨n22, a22, l22, c22, rfl, h22, f22, eWa12c3a13c4c7⟩)
          refine hK.out _ _ (keepB3 hHeld eWa12c3a13c4c7) (fun hHeld => ?_)
          clear hK K
          have wa := wa.below eWa12c3a13c4c7; have wb := wb.below eWa12c3a13c4c7; have wc := wc.below eWa12c3a13c4c7; have ya := ya.on eWa12c3a13c4c7; have yb := yb.on eWa12c3a13c4c7; have yc := yc.on eWa12c3a13c4c7; have B1 := also B1 eWa12c3a13c4c7; have B9 := also B9 eWa12c3a13c4c7; have h20 := h20.below eWa12c3a13c4c7; have hL := hL.below eWa12c3a13c4c7
          have zp := zp.on eWa12c3a13c4c7; have lp := Nat.lt_of_lt_of_le lp eWa12c3a13c4c7.size
          have zq := zq.on eWa12c3a13c4c7; have lq := Nat.lt_of_lt_of_le lq eWa12c3a13c4c7.size
          refine take_call (i := 10) rfl (by kernel_rfl) (fun K hK => ?_)
          go_simp
          (go_at_call 5; refine (wMul n o a1 a3 m1 m3 c1 c3 X Z _ wa wc (X * Z) rfl).mono ?_; rintro e Wa12c3a13c4c7c10 ⟨n25, a25, l25, c25, rfl, h25, f25, eWa12c3a13c4c7c10⟩)
          refine hK.out _ _ (keepB3 hHeld eWa12c3a13c4c7c10) (fun hHeld => ?_)
          clear hK K
          have wa := wa.below eWa12c3a13c4c7c10; have wb := wb.below eWa12c3a13c4c7c10; have wc := wc.below eWa12c3a13c4c7c10; have ya := ya.on eWa12c3a13c4c7c10; have yb := yb.on eWa12c3a13c4c7c10; have yc := yc.on eWa12c3a13c4c7c10; have B1 := also B1 eWa12c3a13c4c7c10; have B9 := also B9 eWa12c3a13c4c7c10; have h20 := h20.below eWa12c3a13c4c7c10; have hL := hL.below eWa12c3a13c4c7c10; have h22 := h22.below eWa12c3a13c4c7c10
          have zp := zp.on eWa12c3a13c4c7c10; have lp := Nat.lt_of_lt_of_le lp eWa12c3a13c4c7c10.size
          have zq := zq.on eWa12c3a13c4c7c10; have lq := Nat.lt_of_lt_of_le lq eWa12c3a13c4c7c10.size
          refine take_call (i := 11) rfl (by kernel_rfl) (fun K hK => ?_)
          go_simp
          (go_at_call 6; refine (wAdd n22 n25 a22 a25 l22 l25 c22 c25 (X * Y) (X * Z) _ (h22.wi 32 (by decide) HXY.out) (h25.wi 32 (by decide) HXZ.out) (X * Y + X * Z) rfl).mono ?_; rintro e Wa12c3a13c4c7c10c11 ⟨nr, ar, lr, cr, rfl, hR, fR, eWa12c3a13c4c7c10c11⟩)
          have Rp : NA p ar lr := fR p lp
          have Rq : NA q ar lr := fR q lq
          refine hK.out _ _ (keepB3 hHeld eWa12c3a13c4c7c10c11) (fun hHeld => ?_)
          clear hK K
          have wa := wa.below eWa12c3a13c4c7c10c11; have wb := wb.below eWa12c3a13c4c7c10c11; have wc := wc.below eWa12c3a13c4c7c10c11; have ya := ya.on eWa12c3a13c4c7c10c11; have yb := yb.on eWa12c3a13c4c7c10c11; have yc := yc.on eWa12c3a13c4c7c10c11; have B1 := also B1 eWa12c3a13c4c7c10c11; have B9 := also B9 eWa12c3a13c4c7c10c11; have h20 := h20.below eWa12c3a13c4c7c10c11; have hL := hL.below eWa12c3a13c4c7c10c11; have h22 := h22.below eWa12c3a13c4c7c10c11; have h25 := h25.below eWa12c3a13c4c7c10c11
          have zp := zp.on eWa12c3a13c4c7c10c11; have lp := Nat.lt_of_lt_of_le lp eWa12c3a13c4c7c10c11.size
          have zq := zq.on eWa12c3a13c4c7c10c11; have lq := Nat.lt_of_lt_of_le lq eWa12c3a13c4c7c10c11.size
          obtain ⟨k0, k1, k2, k3⟩ := zp
          have zp : Bx _ _ _ _ := ⟨k0, k1, k2, k3⟩
          refine take_call (i := 14) rfl (by kernel_rfl) (fun K hK => ?_)
          go_simp
          refine hK.out _ _ ?_ (fun hHeld => ?_)
          · exact keepS3 hHeld gp (by omega) _ _
          clear hK K
          obtain ⟨j0, j1, j2, j3⟩ : Bx ((Wa12c3a13c4c7c10c11.setCell ⟨p, 0, none⟩ (.bool nl)).setCell ⟨p, 1, none⟩ (.slice al ll cl)) q (.bool false) (.slice none 0 0) := (zq.put pq).put pq
          refine take_call (i := 15) rfl (by kernel_rfl) (fun K hK => ?_)
          go_simp
          refine hK.out _ _ ?_ (fun hHeld => ?_)
          · exact keepS3 hHeld gq (by omega) _ _
          clear hK K
          refine wpAnyH_done (by kernel_rfl) ?_ _
          exact ringTwo wa wb wc hL hR ya yb yc zp zq B1 gp gq pq Lp Lq Rp Rq xap xaq xbp xbq xcp xcq
      · skip
        go_simp
        refine hK.out _ _ (keepB3 hHeld ((Below.refl _ _).alloc (Nat.le_refl _) _)) (fun hHeld => ?_)
        clear hK K
        have zq := bx_new Wa12 (.bool false) (.slice none 0 0) 25
        have eWa12a13 : Below Wa12.heap.size Wa12 (Wa12.alloc (.cells #[.bool false, .slice none 0 0] 25)) := (Below.refl _ _).alloc (Nat.le_refl _) _
        have lq : Wa12.heap.size < (Wa12.alloc (.cells #[.bool false, .slice none 0 0] 25)).heap.size := by simp
        have gq : w.heap.size + 1 + 1 < Wa12.heap.size := bx_lt yc; have vq : wr.heap.size ≤ Wa12.heap.size := B9.size
        have xaq : NA Wa12.heap.size a1 m1 := wa.ni.sl.na (Nat.le_refl _)
        have xbq : NA Wa12.heap.size a2 m2 := wb.ni.sl.na (Nat.le_refl _)
        have xcq : NA Wa12.heap.size a3 m3 := wc.ni.sl.na (Nat.le_refl _)
        have pq : p ≠ Wa12.heap.size := Nat.ne_of_lt lp
        generalize Wa12.alloc (.cells #[.bool false, .slice none 0 0] 25) = Wa12a13 at zq eWa12a13 lq hHeld ⊢
        have wa := wa.below eWa12a13; have wb := wb.below eWa12a13; have wc := wc.below eWa12a13; have ya := ya.on eWa12a13; have yb := yb.on eWa12a13; have yc := yc.on eWa12a13; have B1 := also B1 eWa12a13; have B9 := also B9 eWa12a13
        have zp := zp.on eWa12a13; have lp := Nat.lt_of_lt_of_le lp eWa12a13.size
        generalize Wa12.heap.size = q at zq lq gq vq xaq xbq xcq pq ⊢
        refine take_call (i := 3) rfl (by kernel_rfl) (fun K hK => ?_)
        go_simp
        (go_at_call 6; refine (wAdd m o a2 a3 m2 m3 c2 c3 Y Z _ wb wc (Y + Z) rfl).mono ?_; rintro e Wa12a13c3 ⟨n20, a20, l20, c20, rfl, h20, f20, eWa12a13c3⟩)
        refine hK.out _ _ (keepB3 hHeld eWa12a13c3) (fun hHeld => ?_)
        clear hK K
        have wa := wa.below eWa12a13c3; have wb := wb.below eWa12a13c3; have wc := wc.below eWa12a13c3; have ya := ya.on eWa12a13c3; have yb := yb.on eWa12a13c3; have yc := yc.on eWa12a13c3; have B1 := also B1 eWa12a13c3; have B9 := also B9 eWa12a13c3
        have zp := zp.on eWa12a13c3; have lp := Nat.lt_of_lt_of_le lp eWa12a13c3.size
        have zq := zq.on eWa12a13c3; have lq := Nat.lt_of_lt_of_le lq eWa12a13c3.size
        refine take_call (i := 4) rfl (by kernel_rfl) (fun K hK => ?_)
        go_simp
        (go_at_call 5; refine (wMul n n20 a1 a20 m1 l20 c1 c20 X (Y + Z) _ wa (h20.wi 17 (by decide) HYZ.out) (X * (Y + Z)) rfl).mono ?_; rintro e Wa12a13c3c4 ⟨nl, al, ll, cl, rfl, hL, fL, eWa12a13c3c4⟩)
        have Lp : NA p al ll := fL p lp
        have Lq : NA q al ll := fL q lq
        refine hK.out _ _ (keepB3 hHeld eWa12a13c3c4) (fun hHeld => ?_)
        clear hK K
        have wa := wa.below eWa12a13c3c4; have wb := wb.below eWa12a13c3c4; have wc := wc.below eWa12a13c3c4; have ya := ya.on eWa12a13c3c4; have yb := yb.on eWa12a13c3c4; have yc := yc.on eWa12a13c3c4; have B1 := also B1 eWa12a13c3c4; have B9 := also B9 eWa12a13c3c4; have h20 := h20.below eWa12a13c3c4
        have zp := zp.on eWa12a13c3c4; have lp := Nat.lt_of_lt_of_le lp eWa12a13c3c4.size
        have zq := zq.on eWa12a13c3c4; have lq := Nat.lt_of_lt_of_le lq eWa12a13c3c4.size
        refine take_call (i := 7) rfl (by kernel_rfl) (fun K hK => ?_)
        go_simp
        (go_at_call 5; refine (wMul n m a1 a2 m1 m2 c1 c2 X Y _ wa wb (X * Y) rfl).mono ?_; rintro e Wa12a13c3c4c7 ⟨n22, a22, l22, c22, rfl, h22, f22, eWa12a13c3c4c7⟩)
        refine hK.out _ _ (keepB3 hHeld eWa12a13c3c4c7) (fun hHeld => ?_)
        clear hK K
        have wa := wa.below eWa12a13c3c4c7; have wb := wb.below eWa12a13c3c4c7; have wc := wc.below eWa12a13c3c4c7; have ya := ya.on eWa12a13c3c4c7; have yb := yb.on eWa12a13c3c4c7; have yc := yc.on eWa12a13c3c4c7; have B1 := also B1 eWa12a13c3c4c7; have B9 := also B9 eWa12a13c3c4c7; have h20 := h20.below eWa12a13c3c4c7; have hL := hL.below eWa12a13c3c4c7
        have zp := zp.on eWa12a13c3c4c7; have lp := Nat.lt_of_lt_of_le lp eWa12a13c3c4c7.size
        have zq := zq.on eWa12a13c3c4c7; have lq := Nat.lt_of_lt_of_le lq eWa12a13c3c4c7.size
        refine take_call (i := 10) rfl (by kernel_rfl) (fun K hK => ?_)
        go_simp
        (go_at_call 5; refine (wMul n o a1 a3 m1 m3 c1 c3 X Z _ wa wc (X * Z) rfl).mono ?_; rintro e Wa12a13c3c4c7c10 ⟨n25, a25, l25, c25, rfl, h25, f25, eWa12a13c3c4c7c10⟩)
        refine hK.out _ _ (keepB3 hHeld eWa12a13c3c4c7c10) (fun hHeld => ?_)
        clear hK K
        have wa := wa.below eWa12a13c3c4c7c10; have wb := wb.below eWa12a13c3c4c7c10; have wc := wc.below eWa12a13c3c4c7c10; have ya := ya.on eWa12a13c3c4c7c10; have yb := yb.on eWa12a13c3c4c7c10; have yc := yc.on eWa12a13c3c4c7c10; have B1 := also B1 eWa12a13c3c4c7c10; have B9 := also B9 eWa12a13c3c4c7c10; have h20 := h20.below eWa12a13c3c4c7c10; have hL := hL.below eWa12a13c3c4c7c10; have h22 := h22.below eWa12a13c3c4c7c10
        have zp := zp.on eWa12a13c3c4c7c10; have lp := Nat.lt_of_lt_of_le lp eWa12a13c3c4c7c10.size
        have zq := zq.on eWa12a13c3c4c7c10; have lq := Nat.lt_of_lt_of_le lq eWa12a13c3c4c7c10.size
        refine take_call (i := 11) rfl (by kernel_rfl) (fun K hK => ?_)
        go_simp
        (go_at_call 6; refine (wAdd n22 n25 a22 a25 l22 l25 c22 c25 (X * Y) (X * Z) _ (h22.wi 32 (by decide) HXY.out) (h25.wi 32 (by decide) HXZ.out) (X * Y + X * Z) rfl).mono ?_; rintro e Wa12a13c3c4c7c10c11 ⟨nr, ar, lr, cr, rfl, hR, fR, eWa12a13c3c4c7c10c11⟩)
        have Rp : NA p ar lr := fR p lp
        have Rq : NA q ar lr := fR q lq
        refine hK.out _ _ (keepB3 hHeld eWa12a13c3c4c7c10c11) (fun hHeld => ?_)
        clear hK K
        have wa := wa.below eWa12a13c3c4c7c10c11; have wb := wb.below eWa12a13c3c4c7c10c11; have wc := wc.below eWa12a13c3c4c7c10c11; have ya := ya.on eWa12a13c3c4c7c10c11; have yb := yb.on eWa12a13c3c4c7c10c11; have yc := yc.on eWa12a13c3c4c7c10c11; have B1 := also B1 eWa12a13c3c4c7c10c11; have B9 := also B9 eWa12a13c3c4c7c10c11; have h20 := h20.below eWa12a13c3c4c7c10c11; have hL := hL.below eWa12a13c3c4c7c10c11; have h22 := h22.below eWa12a13c3c4c7c10c11; have h25 := h25.below eWa12a13c3c4c7c10c11
        have zp := zp.on eWa12a13c3c4c7c10c11; have lp := Nat.lt_of_lt_of_le lp eWa12a13c3c4c7c10c11.size
        have zq := zq.on eWa12a13c3c4c7c10c11; have lq := Nat.lt_of_lt_of_le lq eWa12a13c3c4c7c10c11.size
        obtain ⟨k0, k1, k2, k3⟩ := zp
        have zp : Bx _ _ _ _ := ⟨k0, k1, k2, k3⟩
        refine take_call (i := 14) rfl (by kernel_rfl) (fun K hK => ?_)
        go_simp
        refine hK.out _ _ ?_ (fun hHeld => ?_)
        · exact keepS3 hHeld gp (by omega) _ _
        clear hK K
        obtain ⟨j0, j1, j2, j3⟩ : Bx ((Wa12a13c3c4c7c10c11.setCell ⟨p, 0, none⟩ (.bool nl)).setCell ⟨p, 1, none⟩ (.slice al ll cl)) q (.bool false) (.slice none 0 0) := (zq.put pq).put pq
        refine take_call (i := 15) rfl (by kernel_rfl) (fun K hK => ?_)
        go_simp
        refine hK.out _ _ ?_ (fun hHeld => ?_)
        · exact keepS3 hHeld gq (by omega) _ _
        clear hK K
        refine wpAnyH_done (by kernel_rfl) ?_ _
        exact ringTwo wa wb wc hL hR ya yb yc zp zq B1 gp gq pq Lp Lq Rp Rq xap xaq xbp xbq xcp xcq
    · skip
      go_simp
      refine hK.out _ _ (keepB3 hHeld ((Below.refl _ _).alloc (Nat.le_refl _) _)) (fun hHeld => ?_)
      clear hK K
      have zq := bx_new W (.bool false) (.slice none 0 0) 25
      have eWa13 : Below W.heap.size W (W.alloc (.cells #[.bool false, .slice none 0 0] 25)) := (Below.refl _ _).alloc (Nat.le_refl _) _
      have lq : W.heap.size < (W.alloc (.cells #[.bool false, .slice none 0 0] 25)).heap.size := by simp
      have gq : w.heap.size + 1 + 1 < W.heap.size := bx_lt yc; have vq : wr.heap.size ≤ W.heap.size := B9.size
      have xaq : NA W.heap.size a1 m1 := wa.ni.sl.na (Nat.le_refl _)
      have xbq : NA W.heap.size a2 m2 := wb.ni.sl.na (Nat.le_refl _)
      have xcq : NA W.heap.size a3 m3 := wc.ni.sl.na (Nat.le_refl _)
      generalize W.alloc (.cells #[.bool false, .slice none 0 0] 25) = Wa13 at zq eWa13 lq hHeld ⊢
      have wa := wa.below eWa13; have wb := wb.below eWa13; have wc := wc.below eWa13; have ya := ya.on eWa13; have yb := yb.on eWa13; have yc := yc.on eWa13; have B1 := also B1 eWa13; have B9 := also B9 eWa13
      generalize W.heap.size = q at zq lq gq vq xaq xbq xcq ⊢
      refine wpAnyH_ready (rs := [3, 12]) (by kernel_rfl) (by simp) (AllReadyH.cons (i := 3) rfl (fun K hK => ?_) (AllReadyH.cons (i := 12) rfl (fun K hK => ?_) AllReadyH.nil))
      · skip
        go_simp
        (go_at_call 6; refine (wAdd m o a2 a3 m2 m3 c2 c3 Y Z _ wb wc (Y + Z) rfl).mono ?_; rintro e Wa13c3 ⟨n20, a20, l20, c20, rfl, h20, f20, eWa13c3⟩)
        refine hK.out _ _ (keepB3 hHeld eWa13c3) (fun hHeld => ?_)
        clear hK K
        have wa := wa.below eWa13c3; have wb := wb.below eWa13c3; have wc := wc.below eWa13c3; have ya := ya.on eWa13c3; have yb := yb.on eWa13c3; have yc := yc.on eWa13c3; have B1 := also B1 eWa13c3; have B9 := also B9 eWa13c3
        have zq := zq.on eWa13c3; have lq := Nat.lt_of_lt_of_le lq eWa13c3.size
        refine wpAnyH_ready (rs := [4, 12]) (by kernel_rfl) (by simp) (AllReadyH.cons (i := 4) rfl (fun K hK => ?_) (AllReadyH.cons (i := 12) rfl (fun K hK => ?_) AllReadyH.nil))
        · skip
          go_simp
          (go_at_call 5; refine (wMul n n20 a1 a20 m1 l20 c1 c20 X (Y + Z) _ wa (h20.wi 17 (by decide) HYZ.out) (X * (Y + Z)) rfl).mono ?_; rintro e Wa13c3c4 ⟨nl, al, ll, cl, rfl, hL, fL, eWa13c3c4⟩)
          have Lq : NA q al ll := fL q lq
          refine hK.out _ _ (keepB3 hHeld eWa13c3c4) (fun hHeld => ?_)
          clear hK K
          have wa := wa.below eWa13c3c4; have wb := wb.below eWa13c3c4; have wc := wc.below eWa13c3c4; have ya := ya.on eWa13c3c4; have yb := yb.on eWa13c3c4; have yc := yc.on eWa13c3c4; have B1 := also B1 eWa13c3c4; have B9 := also B9 eWa13c3c4; have h20 := h20.below eWa13c3c4
          have zq := zq.on eWa13c3c4; have lq := Nat.lt_of_lt_of_le lq eWa13c3c4.size
          refine wpAnyH_ready (rs := [7, 12]) (by kernel_rfl) (by simp) (AllReadyH.cons (i := 7) rfl (fun K hK => ?_) (AllReadyH.cons (i := 12) rfl (fun K hK => ?_) AllReadyH.nil))
          · skip
            go_simp
            (go_at_call 5; refine (wMul n m a1 a2 m1 m2 c1 c2 X Y _ wa wb (X * Y) rfl).mono ?_; rintro e Wa13c3c4c7 ⟨n22, a22, l22, c22, rfl, h22, f22, eWa13c3c4c7⟩)
            refine hK.out _ _ (keepB3 hHeld eWa13c3c4c7) (fun hHeld => ?_)
            clear hK K
            have wa := wa.below eWa13c3c4c7; have wb := wb.below eWa13c3c4c7; have wc := wc.below eWa13c3c4c7; have ya := ya.on eWa13c3c4c7; have yb := yb.on eWa13c3c4c7; have yc := yc.on eWa13c3c4c7; have B1 := also B1 eWa13c3c4c7; have B9 := also B9 eWa13c3c4c7; have h20 := h20.below eWa13c3c4c7; have hL := hL.below eWa13c3c4c7
            have zq := zq.on eWa13c3c4c7; have lq := Nat.lt_of_lt_of_le lq eWa13c3c4c7.size
            refine wpAnyH_ready (rs := [10, 12]) (by kernel_rfl) (by simp) (AllReadyH.cons (i := 10) rfl (fun K hK => ?_) (AllReadyH.cons (i := 12) rfl (fun K hK => ?_) AllReadyH.nil))
            · skip
              go_simp
              (go_at_call 5; refine (wMul n o a1 a3 m1 m3 c1 c3 X Z _ wa wc (X * Z) rfl).mono ?_; rintro e Wa13c3c4c7c10 ⟨n25, a25, l25, c25, rfl, h25, f25, eWa13c3c4c7c10⟩)
              refine hK.out _ _ (keepB3 hHeld eWa13c3c4c7c10) (fun hHeld => ?_)
              clear hK K
              have wa := wa.below eWa13c3c4c7c10; have wb := wb.below eWa13c3c4c7c10; have wc := wc.below eWa13c3c4c7c10; have ya := ya.on eWa13c3c4c7c10; have yb := yb.on eWa13c3c4c7c10; have yc := yc.on eWa13c3c4c7c10; have B1 := also B1 eWa13c3c4c7c10; have B9 := also B9 eWa13c3c4c7c10; have h20 := h20.below eWa13c3c4c7c10; have hL := hL.below eWa13c3c4c7c10; have h22 := h22.below eWa13c3c4c7c10
              have zq := zq.on eWa13c3c4c7c10; have lq := Nat.lt_of_lt_of_le lq eWa13c3c4c7c10.size
              refine wpAnyH_ready (rs := [11, 12]) (by kernel_rfl) (by simp) (AllReadyH.cons (i := 11) rfl (fun K hK => ?_) (AllReadyH.cons (i := 12) rfl (fun K hK => ?_) AllReadyH.nil))
              · skip
                go_simp
                (go_at_call 6; refine (wAdd n22 n25 a22 a25 l22 l25 c22 c25 (X * Y) (X * Z) _ (h22.wi 32 (by decide) HXY.out) (h25.wi 32 (by decide) HXZ.out) (X * Y + X * Z) rfl).mono ?_; rintro e Wa13c3c4c7c10c11 ⟨nr, ar, lr, cr, rfl, hR, fR, eWa13c3c4c7c10c11⟩)
                have Rq : NA q ar lr := fR q lq
                refine hK.out _ _ (keepB3 hHeld eWa13c3c4c7c10c11) (fun hHeld => ?_)
                clear hK K
                have wa := wa.below eWa13c3c4c7c10c11; have wb := wb.below eWa13c3c4c7c10c11; have wc := wc.below eWa13c3c4c7c10c11; have ya := ya.on eWa13c3c4c7c10c11; have yb := yb.on eWa13c3c4c7c10c11; have yc := yc.on eWa13c3c4c7c10c11; have B1 := also B1 eWa13c3c4c7c10c11; have B9 := also B9 eWa13c3c4c7c10c11; have h20 := h20.below eWa13c3c4c7c10c11; have hL := hL.below eWa13c3c4c7c10c11; have h22 := h22.below eWa13c3c4c7c10c11; have h25 := h25.below eWa13c3c4c7c10c11
                have zq := zq.on eWa13c3c4c7c10c11; have lq := Nat.lt_of_lt_of_le lq eWa13c3c4c7c10c11.size
                refine take_call (i := 12) rfl (by kernel_rfl) (fun K hK => ?_)
                go_simp
                refine hK.out _ _ (keepB3 hHeld ((Below.refl _ _).alloc (Nat.le_refl _) _)) (fun hHeld => ?_)
                clear hK K
                have zp := bx_new Wa13c3c4c7c10c11 (.bool false) (.slice none 0 0) 25
                have eWa13c3c4c7c10c11a12 : Below Wa13c3c4c7c10c11.heap.size Wa13c3c4c7c10c11 (Wa13c3c4c7c10c11.alloc (.cells #[.bool false, .slice none 0 0] 25)) := (Below.refl _ _).alloc (Nat.le_refl _) _
                have lp : Wa13c3c4c7c10c11.heap.size < (Wa13c3c4c7c10c11.alloc (.cells #[.bool false, .slice none 0 0] 25)).heap.size := by simp
                have gp : w.heap.size + 1 + 1 < Wa13c3c4c7c10c11.heap.size := bx_lt yc; have vp : wr.heap.size ≤ Wa13c3c4c7c10c11.heap.size := B9.size
                have xap : NA Wa13c3c4c7c10c11.heap.size a1 m1 := wa.ni.sl.na (Nat.le_refl _)
                have xbp : NA Wa13c3c4c7c10c11.heap.size a2 m2 := wb.ni.sl.na (Nat.le_refl _)
                have xcp : NA Wa13c3c4c7c10c11.heap.size a3 m3 := wc.ni.sl.na (Nat.le_refl _)
                have Lp : NA Wa13c3c4c7c10c11.heap.size al ll := hL.nd.sl.na (Nat.le_refl _)
                have Rp : NA Wa13c3c4c7c10c11.heap.size ar lr := hR.nd.sl.na (Nat.le_refl _)
                have pq : Wa13c3c4c7c10c11.heap.size ≠ q := Nat.ne_of_gt lq
                generalize Wa13c3c4c7c10c11.alloc (.cells #[.bool false, .slice none 0 0] 25) = Wa13c3c4c7c10c11a12 at zp eWa13c3c4c7c10c11a12 lp hHeld ⊢
                have wa := wa.below eWa13c3c4c7c10c11a12; have wb := wb.below eWa13c3c4c7c10c11a12; have wc := wc.below eWa13c3c4c7c10c11a12; have ya := ya.on eWa13c3c4c7c10c11a12; have yb := yb.on eWa13c3c4c7c10c11a12; have yc := yc.on eWa13c3c4c7c10c11a12; have B1 := also B1 eWa13c3c4c7c10c11a12; have B9 := also B9 eWa13c3c4c7c10c11a12; have h20 := h20.below eWa13c3c4c7c10c11a12; have hL := hL.below eWa13c3c4c7c10c11a12; have h22 := h22.below eWa13c3c4c7c10c11a12; have h25 := h25.below eWa13c3c4c7c10c11a12; have hR := hR.below eWa13c3c4c7c10c11a12
                have zq := zq.on eWa13c3c4c7c10c11a12; have lq := Nat.lt_of_lt_of_le lq eWa13c3c4c7c10c11a12.size
                generalize Wa13c3c4c7c10c11.heap.size = p at zp lp gp vp xap xbp xcp Lp Rp pq ⊢
                obtain ⟨k0, k1, k2, k3⟩ := zp
                have zp : Bx _ _ _ _ := ⟨k0, k1, k2, k3⟩
                refine take_call (i := 14) rfl (by kernel_rfl) (fun K hK => ?_)
                go_simp
                refine hK.out _ _ ?_ (fun hHeld => ?_)
                · exact keepS3 hHeld gp (by omega) _ _
                clear hK K
                obtain ⟨j0, j1, j2, j3⟩ : Bx ((Wa13c3c4c7c10c11a12.setCell ⟨p, 0, none⟩ (.bool nl)).setCell ⟨p, 1, none⟩ (.slice al ll cl)) q (.bool false) (.slice none 0 0) := (zq.put pq).put pq
                refine take_call (i := 15) rfl (by kernel_rfl) (fun K hK => ?_)
                go_simp
                refine hK.out _ _ ?_ (fun hHeld => ?_)
                · exact keepS3 hHeld gq (by omega) _ _
                clear hK K
                refine wpAnyH_done (by kernel_rfl) ?_ _
                exact ringTwo wa wb wc hL hR ya yb yc zp zq B1 gp gq pq Lp Lq Rp Rq xap xaq xbp xbq xcp xcq
              · skip
                go_simp
                refine hK.out _ _ (keepB3 hHeld ((Below.refl _ _).alloc (Nat.le_refl _) _)) (fun hHeld => ?_)
                clear hK K
                have zp := bx_new Wa13c3c4c7c10 (.bool false) (.slice none 0 0) 25
                have eWa13c3c4c7c10a12 : Below Wa13c3c4c7c10.heap.size Wa13c3c4c7c10 (Wa13c3c4c7c10.alloc (.cells #[.bool false, .slice none 0 0] 25)) := (Below.refl _ _).alloc (Nat.le_refl _) _
                have lp : Wa13c3c4c7c10.heap.size < (Wa13c3c4c7c10.alloc (.cells #[.bool false, .slice none 0 0] 25)).heap.size := by simp
                have gp : w.heap.size + 1 + 1 < Wa13c3c4c7c10.heap.size := bx_lt yc; have vp : wr.heap.size ≤ Wa13c3c4c7c10.heap.size := B9.size
                have xap : NA Wa13c3c4c7c10.heap.size a1 m1 := wa.ni.sl.na (Nat.le_refl _)
                have xbp : NA Wa13c3c4c7c10.heap.size a2 m2 := wb.ni.sl.na (Nat.le_refl _)
                have xcp : NA Wa13c3c4c7c10.heap.size a3 m3 := wc.ni.sl.na (Nat.le_refl _)
                have Lp : NA Wa13c3c4c7c10.heap.size al ll := hL.nd.sl.na (Nat.le_refl _)
                have pq : Wa13c3c4c7c10.heap.size ≠ q := Nat.ne_of_gt lq
                generalize Wa13c3c4c7c10.alloc (.cells #[.bool false, .slice none 0 0] 25) = Wa13c3c4c7c10a12 at zp eWa13c3c4c7c10a12 lp hHeld ⊢
                have wa := wa.below eWa13c3c4c7c10a12; have wb := wb.below eWa13c3c4c7c10a12; have wc := wc.below eWa13c3c4c7c10a12; have ya := ya.on eWa13c3c4c7c10a12; have yb := yb.on eWa13c3c4c7c10a12; have yc := yc.on eWa13c3c4c7c10a12; have B1 := also B1 eWa13c3c4c7c10a12; have B9 := also B9 eWa13c3c4c7c10a12; have h20 := h20.below eWa13c3c4c7c10a12; have hL := hL.below eWa13c3c4c7c10a12; have h22 := h22.below eWa13c3c4c7c10a12; have h25 := h25.below eWa13c3c4c7c10a12
                have zq := zq.on eWa13c3c4c7c10a12; have lq := Nat.lt_of_lt_of_le lq eWa13c3c4c7c10a12.size
                generalize Wa13c3c4c7c10.heap.size = p at zp lp gp vp xap xbp xcp Lp pq ⊢
                refine take_call (i := 11) rfl (by kernel_rfl) (fun K hK => ?_)
                go_simp
                (go_at_call 6; refine (wAdd n22 n25 a22 a25 l22 l25 c22 c25 (X * Y) (X * Z) _ (h22.wi 32 (by decide) HXY.out) (h25.wi 32 (by decide) HXZ.out) (X * Y + X * Z) rfl).mono ?_; rintro e Wa13c3c4c7c10a12c11 ⟨nr, ar, lr, cr, rfl, hR, fR, eWa13c3c4c7c10a12c11⟩)
                have Rp : NA p ar lr := fR p lp
                have Rq : NA q ar lr := fR q lq
                refine hK.out _ _ (keepB3 hHeld eWa13c3c4c7c10a12c11) (fun hHeld => ?_)
                clear hK K
                have wa := wa.below eWa13c3c4c7c10a12c11; have wb := wb.below eWa13c3c4c7c10a12c11; have wc := wc.below eWa13c3c4c7c10a12c11; have ya := ya.on eWa13c3c4c7c10a12c11; have yb := yb.on eWa13c3c4c7c10a12c11; have yc := yc.on eWa13c3c4c7c10a12c11; have B1 := also B1 eWa13c3c4c7c10a12c11; have B9 := also B9 eWa13c3c4c7c10a12c11; have h20 := h20.below eWa13c3c4c7c10a12c11; have hL := hL.below eWa13c3c4c7c10a12c11; have h22 := h22.below eWa13c3c4c7c10a12c11; have h25 := h25.below eWa13c3c4c7c10a12c11
                have zp := zp.on eWa13c3c4c7c10a12c11; have lp := Nat.lt_of_lt_of_le lp eWa13c3c4c7c10a12c11.size
                have zq := zq.on eWa13c3c4c7c10a12c11; have lq := Nat.lt_of_lt_of_le lq eWa13c3c4c7c10a12c11.size
                obtain ⟨k0, k1, k2, k3⟩ := zp
                have zp : Bx _ _ _ _ := ⟨k0, k1, k2, k3⟩
                refine take_call (i := 14) rfl (by kernel_rfl) (fun K hK => ?_)
                go_simp
                refine hK.out _ _ ?_ (fun hHeld => ?_)
                · exact keepS3 hHeld gp (by omega) _ _
                clear hK K
                obtain ⟨j0, j1, j2, j3⟩ : Bx ((Wa13c3c4c7c10a12c11.setCell ⟨p, 0, none⟩ (.bool nl)).setCell ⟨p, 1, none⟩ (.slice al ll cl)) q (.bool false) (.slice none 0 0) := (zq.put pq).put pq
                refine take_call (i := 15) rfl (by kernel_rfl) (fun K hK => ?_)
                go_simp
                refine hK.out _ _ ?_ (fun hHeld => ?_)
                · exact keepS3 hHeld gq (by omega) _ _
                clear hK K
                refine wpAnyH_done (by kernel_rfl) ?_ _
                exact ringTwo wa wb wc hL hR ya yb yc zp zq B1 gp gq pq Lp Lq Rp Rq xap xaq xbp xbq xcp xcq
            · skip
              go_simp
              refine hK.out _ _ (keepB3 hHeld ((Below.refl _ _).alloc (Nat.le_refl _) _)) (fun hHeld => ?_)
              clear hK K
              have zp := bx_new Wa13c3c4c7 (.bool false) (.slice none 0 0) 25
              have eWa13c3c4c7a12 : Below Wa13c3c4c7.heap.size Wa13c3c4c7 (Wa13c3c4c7.alloc (.cells #[.bool false, .slice none 0 0] 25)) := (Below.refl _ _).alloc (Nat.le_refl _) _
              have lp : Wa13c3c4c7.heap.size < (Wa13c3c4c7.alloc (.cells #[.bool false, .slice none 0 0] 25)).heap.size := by simp
              have gp : w.heap.size + 1 + 1 < Wa13c3c4c7.heap.size := bx_lt yc; have vp : wr.heap.size ≤ Wa13c3c4c7.heap.size := B9.size
              have xap : NA Wa13c3c4c7.heap.size a1 m1 := wa.ni.sl.na (Nat.le_refl _)
              have xbp : NA Wa13c3c4c7.heap.size a2 m2 := wb.ni.sl.na (Nat.le_refl _)
              have xcp : NA Wa13c3c4c7.heap.size a3 m3 := wc.ni.sl.na (Nat.le_refl _)
              have Lp : NA Wa13c3c4c7.heap.size al ll := hL.nd.sl.na (Nat.le_refl _)
              have pq : Wa13c3c4c7.heap.size ≠ q := Nat.ne_of_gt lq
              generalize Wa13c3c4c7.alloc (.cells #[.bool false, .slice none 0 0] 25) = Wa13c3c4c7a12 at zp eWa13c3c4c7a12 lp hHeld ⊢
              have wa := wa.below eWa13c3c4c7a12; have wb := wb.below eWa13c3c4c7a12; have wc := wc.below eWa13c3c4c7a12; have ya := ya.on eWa13c3c4c7a12; have yb := yb.on eWa13c3c4c7a12; have yc := yc.on eWa13c3c4c7a12; have B1 := also B1 eWa13c3c4c7a12; have B9 := also B9 eWa13c3c4c7a12; have h20 := h20.below eWa13c3c4c7a12; have hL := hL.below eWa13c3c4c7a12; have h22 := h22.below eWa13c3c4c7a12
              have zq := zq.on eWa13c3c4c7a12; have lq := Nat.lt_of_lt_of_le lq eWa13c3c4c7a12.size
              generalize Wa13c3c4c7.heap.size = p at zp lp gp vp xap xbp xcp Lp pq ⊢
              refine take_call (i := 10) rfl (by kernel_rfl) (fun K hK => ?_)
              go_simp
              (go_at_call 5; refine (wMul n o a1 a3 m1 m3 c1 c3 X Z _ wa wc (X * Z) rfl).mono ?_; rintro e Wa13c3c4c7a12c10 ⟨n25, a25, l25, c25, rfl, h25, f25, eWa13c3c4c7a12c10⟩)
              refine hK.out _ _ (keepB3 hHeld eWa13c3c4c7a12c10) (fun hHeld => ?_)
              clear hK K
              have wa := wa.below eWa13c3c4c7a12c10; have wb := wb.below eWa13c3c4c7a12c10; have wc := wc.below eWa13c3c4c7a12c10; have ya := ya.on eWa13c3c4c7a12c10; have yb := yb.on eWa13c3c4c7a12c10; have yc := yc.on eWa13c3c4c7a12c10; have B1 := also B1 eWa13c3c4c7a12c10; have B9 := also B9 eWa13c3c4c7a12c10; have h20 := h20.below eWa13c3c4c7a12c10; have hL := hL.below eWa13c3c4c7a12c10; have h22 := h22.below eWa13c3c4c7a12c10
              have zp := zp.on eWa13c3c4c7a12c10; have lp := Nat.lt_of_lt_of_le lp eWa13c3c4c7a12c10.size
              have zq := zq.on eWa13c3c4c7a12c10; have lq := Nat.lt_of_lt_of_le lq eWa13c3c4c7a12c10.size
              refine take_call (i := 11) rfl (by kernel_rfl) (fun K hK => ?_)
              go_simp
              (go_at_call 6; refine (wAdd n22 n25 a22 a25 l22 l25 c22 c25 (X * Y) (X * Z) _ (h22.wi 32 (by decide) HXY.out) (h25.wi 32 (by decide) HXZ.out) (X * Y + X * Z) rfl).mono ?_; rintro e Wa13c3c4c7a12c10c11 ⟨nr, ar, lr, cr, rfl, hR, fR, eWa13c3c4c7a12c10c11⟩)
              have Rp : NA p ar lr := fR p lp
              have Rq : NA q ar lr := fR q lq
              refine hK.out _ _ (keepB3 hHeld eWa13c3c4c7a12c10c11) (fun hHeld => ?_)
              clear hK K
              have wa := wa.below eWa13c3c4c7a12c10c11; have wb := wb.below eWa13c3c4c7a12c10c11; have wc := wc.below eWa13c3c4c7a12c10c11; have ya := ya.on eWa13c3c4c7a12c10c11; have yb := yb.on eWa13c3c4c7a12c10c11; have yc := yc.on eWa13c3c4c7a12c10c11; have B1 := also B1 eWa13c3c4c7a12c10c11; have B9 := also B9 eWa13c3c4c7a12c10c11; have h20 := h20.below eWa13c3c4c7a12c10c11; have hL := hL.below eWa13c3c4c7a12c10c11; have h22 := h22.below eWa13c3c4c7a12c10c11; have h25 := h25.below eWa13c3c4c7a12c10c11
              have zp := zp.on eWa13c3c4c7a12c10c11; have lp := Nat.lt_of_lt_of_le lp eWa13c3c4c7a12c10c11.size
              have zq := zq.on eWa13c3c4c7a12c10c11; have lq := Nat.lt_of_lt_of_le lq eWa13c3c4c7a12c10c11.size
              obtain ⟨k0, k1, k2, k3⟩ := zp
              have zp : Bx _ _ _ _ := ⟨k0, k1, k2, k3⟩
              refine take_call (i := 14) rfl (by kernel_rfl) (fun K hK => ?_)
              go_simp
              refine hK.out _ _ ?_ (fun hHeld => ?_)
              · exact keepS3 hHeld gp (by omega) _ _
              clear hK K
              obtain ⟨j0, j1, j2, j3⟩ : Bx ((Wa13c3c4c7a12c10c11.setCell ⟨p, 0, none⟩ (.bool nl)).setCell ⟨p, 1, none⟩ (.slice al ll cl)) q (.bool false) (.slice none 0 0) := (zq.put pq).put pq
              refine take_call (i := 15) rfl (by kernel_rfl) (fun K hK => ?_)
              go_simp
              refine hK.out _ _ ?_ (fun hHeld => ?_)
              · exact keepS3 hHeld gq (by omega) _ _
              clear hK K
              refine wpAnyH_done (by kernel_rfl) ?_ _
              exact ringTwo wa wb wc hL hR ya yb yc zp zq B1 gp gq pq Lp Lq Rp Rq xap xaq xbp xbq xcp xcq
          · skip
            go_simp
            refine hK.out _ _ (keepB3 hHeld ((Below.refl _ _).alloc (Nat.le_refl _) _)) (fun hHeld => ?_)
            clear hK K
            have zp := bx_new Wa13c3c4 (.bool false) (.slice none 0 0) 25
            have eWa13c3c4a12 : Below Wa13c3c4.heap.size Wa13c3c4 (Wa13c3c4.alloc (.cells #[.bool false, .slice none 0 0] 25)) := (Below.refl _ _).alloc (Nat.le_refl _) _
            have lp : Wa13c3c4.heap.size < (Wa13c3c4.alloc (.cells #[.bool false, .slice none 0 0] 25)).heap.size := by simp
            have gp : w.heap.size + 1 + 1 < Wa13c3c4.heap.size := bx_lt yc; have vp : wr.heap.size ≤ Wa13c3c4.heap.size := B9.size
            have xap : NA Wa13c3c4.heap.size a1 m1 := wa.ni.sl.na (Nat.le_refl _)
            have xbp : NA Wa13c3c4.heap.size a2 m2 := wb.ni.sl.na (Nat.le_refl _)
            have xcp : NA Wa13c3c4.heap.size a3 m3 := wc.ni.sl.na (Nat.le_refl _)
            have Lp : NA Wa13c3c4.heap.size al ll := hL.nd.sl.na (Nat.le_refl _)
            have pq : Wa13c3c4.heap.size ≠ q := Nat.ne_of_gt lq
            generalize Wa13c3c4.alloc (.cells #[.bool false, .slice none 0 0] 25) = Wa13c3c4a12 at zp eWa13c3c4a12 lp hHeld ⊢
            have wa := wa.below eWa13c3c4a12; have wb := wb.below eWa13c3c4a12; have wc := wc.below eWa13c3c4a12; have ya := ya.on eWa13c3c4a12; have yb := yb.on eWa13c3c4a12; have yc := yc.on eWa13c3c4a12; have B1 := also B1 eWa13c3c4a12; have B9 := also B9 eWa13c3c4a12; have h20 := h20.below eWa13c3c4a12; have hL := hL.below eWa13c3c4a12
            have zq := zq.on eWa13c3c4a12; have lq := Nat.lt_of_lt_of_le lq eWa13c3c4a12.size
            generalize Wa13c3c4.heap.size = p at zp lp gp vp xap xbp xcp Lp pq ⊢
            refine take_call (i := 7) rfl (by kernel_rfl) (fun K hK => ?_)
            go_simp
            (go_at_call 5; refine (wMul n m a1 a2 m1 m2 c1 c2 X Y _ wa wb (X * Y) rfl).mono ?_; rintro e Wa13c3c4a12c7 ⟨n22, a22, l22, c22, rfl, h22, f22, eWa13c3c4a12c7⟩)
            refine hK.out _ _ (keepB3 hHeld eWa13c3c4a12c7) (fun hHeld => ?_)
            clear hK K
            have wa := wa.below eWa13c3c4a12c7; have wb := wb.below eWa13c3c4a12c7; have wc := wc.below eWa13c3c4a12c7; have ya := ya.on eWa13c3c4a12c7; have yb := yb.on eWa13c3c4a12c7; have yc := yc.on eWa13c3c4a12c7; have B1 := also B1 eWa13c3c4a12c7; have B9 := also B9 eWa13c3c4a12c7; have h20 := h20.below eWa13c3c4a12c7; have hL := hL.below eWa13c3c4a12c7
            have zp := zp.on eWa13c3c4a12c7; have lp := Nat.lt_of_lt_of_le lp eWa13c3c4a12c7.size
            have zq := zq.on eWa13c3c4a12c7; have lq := Nat.lt_of_lt_of_le lq eWa13c3c4a12c7.size
            refine take_call (i := 10) rfl (by kernel_rfl) (fun K hK => ?_)
            go_simp
            (go_at_call 5; refine (wMul n o a1 a3 m1 m3 c1 c3 X Z _ wa wc (X * Z) rfl).mono ?_; rintro e Wa13c3c4a12c7c10 ⟨n25, a25, l25, c25, rfl, h25, f25, eWa13c3c4a12c7c10⟩)
            refine hK.out _ _ (keepB3 hHeld eWa13c3c4a12c7c10) (fun hHeld => ?_)
            clear hK K
            have wa := wa.below eWa13c3c4a12c7c10; have wb := wb.below eWa13c3c4a12c7c10; have wc := wc.below eWa13c3c4a12c7c10; have ya := ya.on eWa13c3c4a12c7c10; have yb := yb.on eWa13c3c4a12c7c10; have yc := yc.on eWa13c3c4a12c7c10; have B1 := also B1 eWa13c3c4a12c7c10; have B9 := also B9 eWa13c3c4a12c7c10; have h20 := h20.below eWa13c3c4a12c7c10; have hL := hL.below eWa13c3c4a12c7c10; have h22 := h22.below eWa13c3c4a12c7c10
            have zp := zp.on eWa13c3c4a12c7c10; have lp := Nat.lt_of_lt_of_le lp eWa13c3c4a12c7c10.size
            have zq := zq.on eWa13c3c4a12c7c10; have lq := Nat.lt_of_lt_of_le lq eWa13c3c4a12c7c10.size
            refine take_call (i := 11) rfl (by kernel_rfl) (fun K hK => ?_)
            go_simp
            (go_at_call 6; refine (wAdd n22 n25 a22 a25 l22 l25 c22 c25 (X * Y) (X * Z) _ (h22.wi 32 (by decide) HXY.out) (h25.wi 32 (by decide) HXZ.out) (X * Y + X * Z) rfl).mono ?_; rintro e Wa13c3c4a12c7c10c11 ⟨nr, ar, lr, cr, rfl, hR, fR, eWa13c3c4a12c7c10c11⟩)
            have Rp : NA p ar lr := fR p lp
            have Rq : NA q ar lr := fR q lq
            refine hK.out _ _ (keepB3 hHeld eWa13c3c4a12c7c10c11) (fun hHeld => ?_)
            clear hK K
            have wa := wa.below eWa13c3c4a12c7c10c11; have wb := wb.below eWa13c3c4a12c7c10c11; have wc := wc.below eWa13c3c4a12c7c10c11; have ya := ya.on eWa13c3c4a12c7c10c11; have yb := yb.on eWa13c3c4a12c7c10c11; have yc := yc.on eWa13c3c4a12c7c10c11; have B1 := also B1 eWa13c3c4a12c7c10c11; have B9 := also B9 eWa13c3c4a12c7c10c11; have h20 := h20.below eWa13c3c4a12c7c10c11; have hL := hL.below eWa13c3c4a12c7c10c11; have h22 := h22.below eWa13c3c4a12c7c10c11; have h25 := h25.below eWa13c3c4a12c7c10c11
            have zp := zp.on eWa13c3c4a12c7c10c11; have lp := Nat.lt_of_lt_of_le lp eWa13c3c4a12c7c10c11.size
            have zq := zq.on eWa13c3c4a12c7c10c11; have lq := Nat.lt_of_lt_of_le lq eWa13c3c4a12c7c10c11.size
            obtain ⟨k0, k1, k2, k3⟩ := zp
            have zp : Bx _ _ _ _ := ⟨k0, k1, k2, k3⟩
            refine take_call (i := 14) rfl (by kernel_rfl) (fun K hK => ?_)
            go_simp
            refine hK.out _ _ ?_ (fun hHeld => ?_)
            · exact keepS3 hHeld gp (by omega) _ _
            clear hK K
            obtain ⟨j0, j1, j2, j3⟩ : Bx ((Wa13c3c4a12c7c10c11.setCell ⟨p, 0, none⟩ (.bool nl)).setCell ⟨p, 1, none⟩ (.slice al ll cl)) q (.bool false) (.slice none 0 0) := (zq.put pq).put pq
            refine take_call (i := 15) rfl (by kernel_rfl) (fun K hK => ?_)
            go_simp
            refine hK.out _ _ ?_ (fun hHeld => ?_)
            · exact keepS3 hHeld gq (by omega) _ _
            clear hK K
            refine wpAnyH_done (by kernel_rfl) ?_ _
            exact ringTwo wa wb wc hL hR ya yb yc zp zq B1 gp gq pq Lp Lq Rp Rq xap xaq xbp xbq xcp xcq
        · skip
          go_simp
          refine hK.out _ _ (keepB3 hHeld ((Below.refl _ _).alloc (Nat.le_refl _) _)) (fun hHeld => ?_)
          clear hK K
          have zp := bx_new Wa13c3 (.bool false) (.slice none 0 0) 25
          have eWa13c3a12 : Below Wa13c3.heap.size Wa13c3 (Wa13c3.alloc (.cells #[.bool false, .slice none 0 0] 25)) := (Below.refl _ _).alloc (Nat.le_refl _) _
          have lp : Wa13c3.heap.size < (Wa13c3.alloc (.cells #[.bool false, .slice none 0 0] 25)).heap.size := by simp
          have gp : w.heap.size + 1 + 1 < Wa13c3.heap.size := bx_lt yc; have vp : wr.heap.size ≤ Wa13c3.heap.size := B9.size
          have xap : NA Wa13c3.heap.size a1 m1 := wa.ni.sl.na (Nat.le_refl _)
          have xbp : NA Wa13c3.heap.size a2 m2 := wb.ni.sl.na (Nat.le_refl _)
          have xcp : NA Wa13c3.heap.size a3 m3 := wc.ni.sl.na (Nat.le_refl _)
          have pq : Wa13c3.heap.size ≠ q := Nat.ne_of_gt lq
          generalize Wa13c3.alloc (.cells #[.bool false, .slice none 0 0] 25) = Wa13c3a12 at zp eWa13c3a12 lp hHeld ⊢
          have wa := wa.below eWa13c3a12; have wb := wb.below eWa13c3a12; have wc := wc.below eWa13c3a12; have ya := ya.on eWa13c3a12; have yb := yb.on eWa13c3a12; have yc := yc.on eWa13c3a12; have B1 := also B1 eWa13c3a12; have B9 := also B9 eWa13c3a12; have h20 := h20.below eWa13c3a12
          have zq := zq.on eWa13c3a12; have lq := Nat.lt_of_lt_of_le lq eWa13c3a12.size
          generalize Wa13c3.heap.size = p at zp lp gp vp xap xbp xcp pq ⊢
          refine take_call (i := 4) rfl (by kernel_rfl) (fun K hK => ?_)
          go_simp
          (go_at_call 5; refine (wMul n n20 a1 a20 m1 l20 c1 c20 X (Y + Z) _ wa (h20.wi 17 (by decide) HYZ.out) (X * (Y + Z)) rfl).mono ?_; rintro e Wa13c3a12c4 ⟨nl, al, ll, cl, rfl, hL, fL, eWa13c3a12c4⟩)
          have Lp : NA p al ll := fL p lp
          have Lq : NA q al ll := fL q lq
          refine hK.out _ _ (keepB3 hHeld eWa13c3a12c4) (fun hHeld => ?_)
          clear hK K
          have wa := wa.below eWa13c3a12c4; have wb := wb.below eWa13c3a12c4; have wc := wc.below eWa13c3a12c4; have ya := ya.on eWa13c3a12c4; have yb := yb.on eWa13c3a12c4; have yc := yc.on eWa13c3a12c4; have B1 := also B1 eWa13c3a12c4; have B9 := also B9 eWa13c3a12c4; have h20 := h20.below eWa13c3a12c4
          have zp := zp.on eWa13c3a12c4; have lp := Nat.lt_of_lt_of_le lp eWa13c3a12c4.size
          have zq := zq.on eWa13c3a12c4; have lq := Nat.lt_of_lt_of_le lq eWa13c3a12c4.size
          refine take_call (i := 7) rfl (by kernel_rfl) (fun K hK => ?_)
          go_simp
          (go_at_call 5; refine (wMul n m a1 a2 m1 m2 c1 c2 X Y _ wa wb (X * Y) rfl).mono ?_; rintro e Wa13c3a12c4c7 ⟨n22, a22, l22, c22, rfl, h22, f22, eWa13c3a12c4c7⟩)
          refine hK.out _ _ (keepB3 hHeld eWa13c3a12c4c7) (fun hHeld => ?_)
          clear hK K
          have wa := wa.below eWa13c3a12c4c7; have wb := wb.below eWa13c3a12c4c7; have wc := wc.below eWa13c3a12c4c7; have ya := ya.on eWa13c3a12c4c7; have yb := yb.on eWa13c3a12c4c7; have yc := yc.on eWa13c3a12c4c7; have B1 := also B1 eWa13c3a12c4c7; have B9 := also B9 eWa13c3a12c4c7; have h20 := h20.below eWa13c3a12c4c7; have hL := hL.below eWa13c3a12c4c7
          have zp := zp.on eWa13c3a12c4c7; have lp := Nat.lt_of_lt_of_le lp eWa13c3a12c4c7.size
          have zq := zq.on eWa13c3a12c4c7; have lq := Nat.lt_of_lt_of_le lq eWa13c3a12c4c7.size
          refine take_call (i := 10) rfl (by kernel_rfl) (fun K hK => ?_)
          go_simp
          (go_at_call 5; refine (wMul n o a1 a3 m1 m3 c1 c3 X Z _ wa wc (X * Z) rfl).mono ?_; rintro e Wa13c3a12c4c7c10 ⟨n25, a25, l25, c25, rfl, h25, f25, eWa13c3a12c4c7c10⟩)
          refine hK.out _ _ (keepB3 hHeld eWa13c3a12c4c7c10) (fun hHeld => ?_)
          clear hK K
          have wa := wa.below eWa13c3a12c4c7c10; have wb := wb.below eWa13c3a12c4c7c10; have wc := wc.below eWa13c3a12c4c7c10; have ya := ya.on eWa13c3a12c4c7c10; have yb := yb.on eWa13c3a12c4c7c10; have yc := yc.on eWa13c3a12c4c7c10; have B1 := also B1 eWa13c3a12c4c7c10; have B9 := also B9 eWa13c3a12c4c7c10; have h20 := h20.below eWa13c3a12c4c7c10; have hL := hL.below eWa13c3a12c4c7c10; have h22 := h22.below eWa13c3a12c4c7c10
          have zp := zp.on eWa13c3a12c4c7c10; have lp := Nat.lt_of_lt_of_le lp eWa13c3a12c4c7c10.size
          have zq := zq.on eWa13c3a12c4c7c10; have lq := Nat.lt_of_lt_of_le lq eWa13c3a12c4c7c10.size
          refine take_call (i := 11) rfl (by kernel_rfl) (fun K hK => ?_)
          go_simp
          (go_at_call 6; refine (wAdd n22 n25 a22 a25 l22 l25 c22 c25 (X * Y) (X * Z) _ (h22.wi 32 (by decide) HXY.out) (h25.wi 32 (by decide) HXZ.out) (X * Y + X * Z) rfl).mono ?_; rintro e Wa13c3a12c4c7c10c11 ⟨nr, ar, lr, cr, rfl, hR, fR, eWa13c3a12c4c7c10c11⟩)
          have Rp : NA p ar lr := fR p lp
          have Rq : NA q ar lr := fR q lq
          refine hK.out _ _ (keepB3 hHeld eWa13c3a12c4c7c10c11) (fun hHeld => ?_)
          clear hK K
          have wa := wa.below eWa13c3a12c4c7c10c11; have wb := wb.below eWa13c3a12c4c7c10c11; have wc := wc.below eWa13c3a12c4c7c10c11; have ya := ya.on eWa13c3a12c4c7c10c11; have yb := yb.on eWa13c3a12c4c7c10c11; have yc := yc.on eWa13c3a12c4c7c10c11; have B1 := also B1 eWa13c3a12c4c7c10c11; have B9 := also B9 eWa13c3a12c4c7c10c11; have h20 := h20.below eWa13c3a12c4c7c10c11; have hL := hL.below eWa13c3a12c4c7c10c11; have h22 := h22.below eWa13c3a12c4c7c10c11; have h25 := h25.below eWa13c3a12c4c7c10c11
          have zp := zp.on eWa13c3a12c4c7c10c11; have lp := Nat.lt_of_lt_of_le lp eWa13c3a12c4c7c10c11.size
          have zq := zq.on eWa13c3a12c4c7c10c11; have lq := Nat.lt_of_lt_of_le lq eWa13c3a12c4c7c10c11.size
          obtain ⟨k0, k1, k2, k3⟩ := zp
          have zp : Bx _ _ _ _ := ⟨k0, k1, k2, k3⟩
          refine take_call (i := 14) rfl (by kernel_rfl) (fun K hK => ?_)
          go_simp
          refine hK.out _ _ ?_ (fun hHeld => ?_)
          · exact keepS3 hHeld gp (by omega) _ _
          clear hK K
          obtain ⟨j0, j1, j2, j3⟩ : Bx ((Wa13c3a12c4c7c10c11.setCell ⟨p, 0, none⟩ (.bool nl)).setCell ⟨p, 1, none⟩ (.slice al ll cl)) q (.bool false) (.slice none 0 0) := (zq.put pq).put pq
          refine take_call (i := 15) rfl (by kernel_rfl) (fun K hK => ?_)
          go_simp
          refine hK.out _ _ ?_ (fun hHeld => ?_)
          · exact keepS3 hHeld gq (by omega) _ _
          clear hK K
          refine wpAnyH_done (by kernel_rfl) ?_ _
          exact ringTwo wa wb wc hL hR ya yb yc zp zq B1 gp gq pq Lp Lq Rp Rq xap xaq xbp xbq xcp xcq
      · skip
        go_simp
        refine hK.out _ _ (keepB3 hHeld ((Below.refl _ _).alloc (Nat.le_refl _) _)) (fun hHeld => ?_)
        clear hK K
        have zp := bx_new Wa13 (.bool false) (.slice none 0 0) 25
        have eWa13a12 : Below Wa13.heap.size Wa13 (Wa13.alloc (.cells #[.bool false, .slice none 0 0] 25)) := (Below.refl _ _).alloc (Nat.le_refl _) _
        have lp : Wa13.heap.size < (Wa13.alloc (.cells #[.bool false, .slice none 0 0] 25)).heap.size := by simp
        have gp : w.heap.size + 1 + 1 < Wa13.heap.size := bx_lt yc; have vp : wr.heap.size ≤ Wa13.heap.size := B9.size
        have xap : NA Wa13.heap.size a1 m1 := wa.ni.sl.na (Nat.le_refl _)
        have xbp : NA Wa13.heap.size a2 m2 := wb.ni.sl.na (Nat.le_refl _)
        have xcp : NA Wa13.heap.size a3 m3 := wc.ni.sl.na (Nat.le_refl _)
        have pq : Wa13.heap.size ≠ q := Nat.ne_of_gt lq
        generalize Wa13.alloc (.cells #[.bool false, .slice none 0 0] 25) = Wa13a12 at zp eWa13a12 lp hHeld ⊢
        have wa := wa.below eWa13a12; have wb := wb.below eWa13a12; have wc := wc.below eWa13a12; have ya := ya.on eWa13a12; have yb := yb.on eWa13a12; have yc := yc.on eWa13a12; have B1 := also B1 eWa13a12; have B9 := also B9 eWa13a12
        have zq := zq.on eWa13a12; have lq := Nat.lt_of_lt_of_le lq eWa13a12.size
        generalize Wa13.heap.size = p at zp lp gp vp xap xbp xcp pq ⊢
        refine take_call (i := 3) rfl (by kernel_rfl) (fun K hK => ?_)
        go_simp
        (go_at_call 6; refine (wAdd m o a2 a3 m2 m3 c2 c3 Y Z _ wb wc (Y + Z) rfl).mono ?_; rintro e Wa13a12c3 ⟨n20, a20, l20, c20, rfl, h20, f20, eWa13a12c3⟩)
        refine hK.out _ _ (keepB3 hHeld eWa13a12c3) (fun hHeld => ?_)
        clear hK K
        have wa := wa.below eWa13a12c3; have wb := wb.below eWa13a12c3; have wc := wc.below eWa13a12c3; have ya := ya.on eWa13a12c3; have yb := yb.on eWa13a12c3; have yc := yc.on eWa13a12c3; have B1 := also B1 eWa13a12c3; have B9 := also B9 eWa13a12c3
        have zp := zp.on eWa13a12c3; have lp := Nat.lt_of_lt_of_le lp eWa13a12c3.size
        have zq := zq.on eWa13a12c3; have lq := Nat.lt_of_lt_of_le lq eWa13a12c3.size
        refine take_call (i := 4) rfl (by kernel_rfl) (fun K hK => ?_)
        go_simp
        (go_at_call 5; refine (wMul n n20 a1 a20 m1 l20 c1 c20 X (Y + Z) _ wa (h20.wi 17 (by decide) HYZ.out) (X * (Y + Z)) rfl).mono ?_; rintro e Wa13a12c3c4 ⟨nl, al, ll, cl, rfl, hL, fL, eWa13a12c3c4⟩)
        have Lp : NA p al ll := fL p lp
        have Lq : NA q al ll := fL q lq
        refine hK.out _ _ (keepB3 hHeld eWa13a12c3c4) (fun hHeld => ?_)
        clear hK K
        have wa := wa.below eWa13a12c3c4; have wb := wb.below eWa13a12c3c4; have wc := wc.below eWa13a12c3c4; have ya := ya.on eWa13a12c3c4; have yb := yb.on eWa13a12c3c4; have yc := yc.on eWa13a12c3c4; have B1 := also B1 eWa13a12c3c4; have B9 := also B9 eWa13a12c3c4; have h20 := h20.below eWa13a12c3c4
        have zp := zp.on eWa13a12c3c4; have lp := Nat.lt_of_lt_of_le lp eWa13a12c3c4.size
        have zq := zq.on eWa13a12c3c4; have lq := Nat.lt_of_lt_of_le lq eWa13a12c3c4.size
        refine take_call (i := 7) rfl (by kernel_rfl) (fun K hK => ?_)
        go_simp
        (go_at_call 5; refine (wMul n m a1 a2 m1 m2 c1 c2 X Y _ wa wb (X * Y) rfl).mono ?_; rintro e Wa13a12c3c4c7 ⟨n22, a22, l22, c22, rfl, h22, f22, eWa13a12c3c4c7⟩)
        refine hK.out _ _ (keepB3 hHeld eWa13a12c3c4c7) (fun hHeld => ?_)
        clear hK K
        have wa := wa.below eWa13a12c3c4c7; have wb := wb.below eWa13a12c3c4c7; have wc := wc.below eWa13a12c3c4c7; have ya := ya.on eWa13a12c3c4c7; have yb := yb.on eWa13a12c3c4c7; have yc := yc.on eWa13a12c3c4c7; have B1 := also B1 eWa13a12c3c4c7; have B9 := also B9 eWa13a12c3c4c7; have h20 := h20.below eWa13a12c3c4c7; have hL := hL.below eWa13a12c3c4c7
        have zp := zp.on eWa13a12c3c4c7; have lp := Nat.lt_of_lt_of_le lp eWa13a12c3c4c7.size
        have zq := zq.on eWa13a12c3c4c7; have lq := Nat.lt_of_lt_of_le lq eWa13a12c3c4c7.size
        refine take_call (i := 10) rfl (by kernel_rfl) (fun K hK => ?_)
        go_simp
        (go_at_call 5; refine (wMul n o a1 a3 m1 m3 c1 c3 X Z _ wa wc (X * Z) rfl).mono ?_; rintro e Wa13a12c3c4c7c10 ⟨n25, a25, l25, c25, rfl, h25, f25, eWa13a12c3c4c7c10⟩)
        refine hK.out _ _ (keepB3 hHeld eWa13a12c3c4c7c10) (fun hHeld => ?_)
        clear hK K
        have wa := wa.below eWa13a12c3c4c7c10; have wb := wb.below eWa13a12c3c4c7c10; have wc := wc.below eWa13a12c3c4c7c10; have ya := ya.on eWa13a12c3c4c7c10; have yb := yb.on eWa13a12c3c4c7c10; have yc := yc.on eWa13a12c3c4c7c10; have B1 := also B1 eWa13a12c3c4c7c10; have B9 := also B9 eWa13a12c3c4c7c10; have h20 := h20.below eWa13a12c3c4c7c10; have hL := hL.below eWa13a12c3c4c7c10; have h22 := h22.below eWa13a12c3c4c7c10
        have zp := zp.on eWa13a12c3c4c7c10; have lp := Nat.lt_of_lt_of_le lp eWa13a12c3c4c7c10.size
        have zq := zq.on eWa13a12c3c4c7c10; have lq := Nat.lt_of_lt_of_le lq eWa13a12c3c4c7c10.size
        refine take_call (i := 11) rfl (by kernel_rfl) (fun K hK => ?_)
        go_simp
        (go_at_call 6; refine (wAdd n22 n25 a22 a25 l22 l25 c22 c25 (X * Y) (X * Z) _ (h22.wi 32 (by decide) HXY.out) (h25.wi 32 (by decide) HXZ.out) (X * Y + X * Z) rfl).mono ?_; rintro e Wa13a12c3c4c7c10c11 ⟨nr, ar, lr, cr, rfl, hR, fR, eWa13a12c3c4c7c10c11⟩)
        have Rp : NA p ar lr := fR p lp
        have Rq : NA q ar lr := fR q lq
        refine hK.out _ _ (keepB3 hHeld eWa13a12c3c4c7c10c11) (fun hHeld => ?_)
        clear hK K
        have wa := wa.below eWa13a12c3c4c7c10c11; have wb := wb.below eWa13a12c3c4c7c10c11; have wc := wc.below eWa13a12c3c4c7c10c11; have ya := ya.on eWa13a12c3c4c7c10c11; have yb := yb.on eWa13a12c3c4c7c10c11; have yc := yc.on eWa13a12c3c4c7c10c11; have B1 := also B1 eWa13a12c3c4c7c10c11; have B9 := also B9 eWa13a12c3c4c7c10c11; have h20 := h20.below eWa13a12c3c4c7c10c11; have hL := hL.below eWa13a12c3c4c7c10c11; have h22 := h22.below eWa13a12c3c4c7c10c11; have h25 := h25.below eWa13a12c3c4c7c10c11
        have zp := zp.on eWa13a12c3c4c7c10c11; have lp := Nat.lt_of_lt_of_le lp eWa13a12c3c4c7c10c11.size
        have zq := zq.on eWa13a12c3c4c7c10c11; have lq := Nat.lt_of_lt_of_le lq eWa13a12c3c4c7c10c11.size
        obtain ⟨k0, k1, k2, k3⟩ := zp
        have zp : Bx _ _ _ _ := ⟨k0, k1, k2, k3⟩
        refine take_call (i := 14) rfl (by kernel_rfl) (fun K hK => ?_)
        go_simp
        refine hK.out _ _ ?_ (fun hHeld => ?_)
        · exact keepS3 hHeld gp (by omega) _ _
        clear hK K
        obtain ⟨j0, j1, j2, j3⟩ : Bx ((Wa13a12c3c4c7c10c11.setCell ⟨p, 0, none⟩ (.bool nl)).setCell ⟨p, 1, none⟩ (.slice al ll cl)) q (.bool false) (.slice none 0 0) := (zq.put pq).put pq
        refine take_call (i := 15) rfl (by kernel_rfl) (fun K hK => ?_)
        go_simp
        refine hK.out _ _ ?_ (fun hHeld => ?_)
        · exact keepS3 hHeld gq (by omega) _ _
        clear hK K
        refine wpAnyH_done (by kernel_rfl) ?_ _
        exact ringTwo wa wb wc hL hR ya yb yc zp zq B1 gp gq pq Lp Lq Rp Rq xap xaq xbp xbq xcp xcq
  rintro e act wr2 ⟨rfl, p, q, v1, v3, v4, nl, al, ll, cl, nr, ar, lr, cr, rfl, wa, wb, wc, hL, hR, ya, yb, yc, yp, yq, B1⟩
  dsimp only
  go_wp2
  refine wp_region_held_drew (S := (fun w' => w'.cell? ⟨w.heap.size, 0, none⟩ = some (.bool n) ∧ w'.cell? ⟨w.heap.size, 1, none⟩ = some (.slice a1 m1 c1) ∧ w'.cell? ⟨w.heap.size + 1, 0, none⟩ = some (.bool m) ∧ w'.cell? ⟨w.heap.size + 1, 1, none⟩ = some (.slice a2 m2 c2) ∧ w'.cell? ⟨p, 0, none⟩ = some (.bool nl) ∧ w'.cell? ⟨p, 1, none⟩ = some (.slice al ll cl) ∧ w'.cell? ⟨q, 0, none⟩ = some (.bool nr) ∧ w'.cell? ⟨q, 1, none⟩ = some (.slice ar lr cr) ∧ Below wr2.heap.size wr2 w')) (by kernel_rfl) ?_ (fun hHeld => ?_)
  · first | exact keepC4 hHeld bb | exact ⟨ya.c0, ya.c1, yb.c0, yb.c1, yp.c0, yp.c1, yq.c0, yq.c1, (Below.refl _ _).drew⟩
  refine take_yes (i := 0) (v := ?vw0) rfl (by kernel_rfl) (by kernel_rfl) (by kernel_rfl) (fun _ _ _ h => h) (by rfl) (by assumption) ?hyw0 ?restw0
  case hyw0 => (intro w hSw; (try dsimp only at hSw); first | (go_simp; done) | (go_simp; with_reducible rfl))
  simp only [Act.put, List.setIfInBounds_toArray, List.set_cons_zero, List.set_cons_succ]
  refine take_yes (i := 1) (v := ?vw1) rfl (by kernel_rfl) (by kernel_rfl) (by kernel_rfl) (fun _ _ _ h => h) (by rfl) (by assumption) ?hyw1 ?restw1
  case hyw1 => (intro w hSw; (try dsimp only at hSw); first | (go_simp; done) | (go_simp; with_reducible rfl))
  simp only [Act.put, List.setIfInBounds_toArray, List.set_cons_zero, List.set_cons_succ]
  refine take_yes (i := 3) (v := ?vw3) rfl (by kernel_rfl) (by kernel_rfl) (by kernel_rfl) (fun _ _ _ h => h) (by rfl) (by assumption) ?hyw3 ?restw3
  case hyw3 => (intro w hSw; (try dsimp only at hSw); first | (go_simp; done) | (go_simp; with_reducible rfl))
  simp only [Act.put, List.setIfInBounds_toArray, List.set_cons_zero, List.set_cons_succ]
  refine take_yes (i := 5) (v := ?vw5) rfl (by kernel_rfl) (by kernel_rfl) (by kernel_rfl) (fun _ _ _ h => h) (by rfl) (by assumption) ?hyw5 ?restw5
  case hyw5 => (intro w hSw; (try dsimp only at hSw); first | (go_simp; done) | (go_simp; with_reducible rfl))
  simp only [Act.put, List.setIfInBounds_toArray, List.set_cons_zero, List.set_cons_succ]
  refine take_call (i := 2) rfl (by kernel_rfl) (fun K hK => ?_)
  go_simp
  (go_at_call 6; refine (wAdd n m a1 a2 m1 m2 c1 c2 X Y _ (wa.below hHeld.2.2.2.2.2.2.2.2) (wb.below hHeld.2.2.2.2.2.2.2.2) (X + Y) rfl).mono ?_; rintro e w30 ⟨n30, a30, l30, c30, rfl, h30, f30, bb⟩)
  refine hK.out _ _ ?_ (fun hHeld => ?_)
  · first | exact keepC4 hHeld bb | exact ⟨ya.c0, ya.c1, yb.c0, yb.c1, yp.c0, yp.c1, yq.c0, yq.c1, (Below.refl _ _).drew⟩
  clear hK K
  refine take_call (i := 4) rfl (by kernel_rfl) (fun K hK => ?_)
  go_simp
  (go_at_call 8; refine (wSub n30 m a30 a2 l30 m2 c30 c2 (X + Y) Y _ (h30.wi 17 (by decide) HXYs.out) (wb.below hHeld.2.2.2.2.2.2.2.2) X HX.out).mono ?_; rintro e w31 ⟨n31, a31, l31, c31, rfl, h31, f31, bb⟩)
  refine hK.out _ _ ?_ (fun hHeld => ?_)
  · first | exact keepC4 hHeld bb | exact ⟨ya.c0, ya.c1, yb.c0, yb.c1, yp.c0, yp.c1, yq.c0, yq.c1, (Below.refl _ _).drew⟩
  clear hK K
  refine take_call (i := 6) rfl (by kernel_rfl) (fun K hK => ?_)
  go_simp
  (go_at_call 7; refine (wCmp n31 n a31 a1 l31 m1 c31 c1 X X _ (h31.wi 16 (by decide) FX.out) (wa.below hHeld.2.2.2.2.2.2.2.2) (g := 0) HC0.out).mono ?_; rintro e w32 ⟨rfl, bb⟩)
  refine hK.out _ _ ?_ (fun hHeld => ?_)
  · first | exact keepC4 hHeld bb | exact ⟨ya.c0, ya.c1, yb.c0, yb.c1, yp.c0, yp.c1, yq.c0, yq.c1, (Below.refl _ _).drew⟩
  clear hK K
  refine take_yes (i := 7) (v := ?vw7) rfl (by kernel_rfl) (by kernel_rfl) (by kernel_rfl) (fun _ _ _ h => h) (by rfl) (by assumption) ?hyw7 ?restw7
  case hyw7 => (intro w hSw; (try dsimp only at hSw); first | (go_simp; done) | (go_simp; with_reducible rfl))
  simp only [Act.put, List.setIfInBounds_toArray, List.set_cons_zero, List.set_cons_succ]
  refine take_yes (i := 8) (v := ?vw8) rfl (by kernel_rfl) (by kernel_rfl) (by kernel_rfl) (fun _ _ _ h => h) (by rfl) (by assumption) ?hyw8 ?restw8
  case hyw8 => (intro w hSw; (try dsimp only at hSw); first | (go_simp; done) | (go_simp; with_reducible rfl))
  simp only [Act.put, List.setIfInBounds_toArray, List.set_cons_zero, List.set_cons_succ]
  refine take_yes (i := 9) (v := ?vw9) rfl (by kernel_rfl) (by kernel_rfl) (by kernel_rfl) (fun _ _ _ h => h) (by rfl) (by assumption) ?hyw9 ?restw9
  case hyw9 => (intro w hSw; (try dsimp only at hSw); first | (go_simp; done) | (go_simp; with_reducible rfl))
  simp only [Act.put, List.setIfInBounds_toArray, List.set_cons_zero, List.set_cons_succ]
  refine take_yes (i := 10) (v := ?vw10) rfl (by kernel_rfl) (by kernel_rfl) (by kernel_rfl) (fun _ _ _ h => h) (by rfl) (by assumption) ?hyw10 ?restw10
  case hyw10 => (intro w hSw; (try dsimp only at hSw); first | (go_simp; done) | (go_simp; with_reducible rfl))
  simp only [Act.put, List.setIfInBounds_toArray, List.set_cons_zero, List.set_cons_succ]
  refine take_call (i := 11) rfl (by kernel_rfl) (fun K hK => ?_)
  go_simp
  (go_at_call 7; refine (wCmp nl nr al ar ll lr cl cr (X * (Y + Z)) (X * Y + X * Z) _ ((hL.below hHeld.2.2.2.2.2.2.2.2).wi 33 (by decide) HL1.out) ((hR.below hHeld.2.2.2.2.2.2.2.2).wi 33 (by decide) HR1.out) (g := 0) HC1.out).mono ?_; rintro e w33 ⟨rfl, bb⟩)
  refine hK.out _ _ ?_ (fun hHeld => ?_)
  · first | exact keepC4 hHeld bb | exact ⟨ya.c0, ya.c1, yb.c0, yb.c1, yp.c0, yp.c1, yq.c0, yq.c1, (Below.refl _ _).drew⟩
  clear hK K
  refine take_yes (i := 12) (v := ?vw12) rfl (by kernel_rfl) (by kernel_rfl) (by kernel_rfl) (fun _ _ _ h => h) (by rfl) (by assumption) ?hyw12 ?restw12
  case hyw12 => (intro w hSw; (try dsimp only at hSw); first | (go_simp; done) | (go_simp; with_reducible rfl))
  simp only [Act.put, List.setIfInBounds_toArray, List.set_cons_zero, List.set_cons_succ]
  refine take_yes (i := 13) (v := ?vw13) rfl (by kernel_rfl) (by kernel_rfl) (by kernel_rfl) (fun _ _ _ h => h) (by rfl) (by assumption) ?hyw13 ?restw13
  case hyw13 => (intro w hSw; (try dsimp only at hSw); first | (go_simp; done) | (go_simp; with_reducible rfl))
  simp only [Act.put, List.setIfInBounds_toArray, List.set_cons_zero, List.set_cons_succ]
  refine take_yes (i := 14) (v := ?vw14) rfl (by kernel_rfl) (by kernel_rfl) (by kernel_rfl) (fun _ _ _ h => h) (by rfl) (by assumption) ?hyw14 ?restw14
  case hyw14 => (intro w hSw; (try dsimp only at hSw); first | (go_simp; done) | (go_simp; with_reducible rfl))
  simp only [Act.put, List.setIfInBounds_toArray, List.set_cons_zero, List.set_cons_succ]
  refine take_yes (i := 15) (v := ?vw15) rfl (by kernel_rfl) (by kernel_rfl) (by kernel_rfl) (fun _ _ _ h => h) (by rfl) (by assumption) ?hyw15 ?restw15
  case hyw15 => (intro w hSw; (try dsimp only at hSw); first | (go_simp; done) | (go_simp; with_reducible rfl))
  simp only [Act.put, List.setIfInBounds_toArray, List.set_cons_zero, List.set_cons_succ]
  refine take_yes (i := 17) (v := ?vw17) rfl (by kernel_rfl) (by kernel_rfl) (by kernel_rfl) (fun _ _ _ h => h) (by rfl) (by assumption) ?hyw17 ?restw17
  case hyw17 => (intro w hSw; (try dsimp only at hSw); first | (go_simp; done) | (go_simp; with_reducible rfl))
  simp only [Act.put, List.setIfInBounds_toArray, List.set_cons_zero, List.set_cons_succ]
  refine take_call (i := 16) rfl (by kernel_rfl) (fun K hK => ?_)
  go_simp
  (go_at_call 9; refine (wShow nl al ll cl (X * (Y + Z)) _ ((hL.below hHeld.2.2.2.2.2.2.2.2).wi 33 (by decide) HL1.out) HT.out).mono ?_; rintro e w34 ⟨rfl, bb⟩)
  refine hK.out _ _ ?_ (fun hHeld => ?_)
  · first | exact keepC4 hHeld bb | exact ⟨ya.c0, ya.c1, yb.c0, yb.c1, yp.c0, yp.c1, yq.c0, yq.c1, (Below.refl _ _).drew⟩
  clear hK K
  refine take_call (i := 18) rfl (by kernel_rfl) (fun K hK => ?_)
  go_simp
  (go_at_call 9; refine (wShow nr ar lr cr (X * Y + X * Z) _ ((hR.below hHeld.2.2.2.2.2.2.2.2).wi 33 (by decide) HR1.out) HT2.out).mono ?_; rintro e w35 ⟨rfl, bb⟩)
  refine hK.out _ _ ?_ (fun hHeld => ?_)
  · first | exact keepC4 hHeld bb | exact ⟨ya.c0, ya.c1, yb.c0, yb.c1, yp.c0, yp.c1, yq.c0, yq.c1, (Below.refl _ _).drew⟩
  clear hK K
  refine take_yes (i := 19) (v := ?vw19) rfl (by kernel_rfl) (by kernel_rfl) (by kernel_rfl) (fun _ _ _ h => h) (by rfl) (by assumption) ?hyw19 ?restw19
  case hyw19 => (intro w hSw; (try dsimp only at hSw); first | (go_simp; done) | (go_simp; with_reducible rfl))
  simp only [Act.put, List.setIfInBounds_toArray, List.set_cons_zero, List.set_cons_succ]
  refine take_yes (i := 20) (v := ?vw20) rfl (by kernel_rfl) (by kernel_rfl) (by kernel_rfl) (fun _ _ _ h => h) (by rfl) (by assumption) ?hyw20 ?restw20
  case hyw20 => (intro w hSw; (try dsimp only at hSw); first | (go_simp; done) | (go_simp; with_reducible rfl))
  simp only [Act.put, List.setIfInBounds_toArray, List.set_cons_zero, List.set_cons_succ]
  refine take_yes (i := 21) (v := ?vw21) rfl (by kernel_rfl) (by kernel_rfl) (by kernel_rfl) (fun _ _ _ h => h) (by rfl) (by assumption) ?hyw21 ?restw21
  case hyw21 => (intro w hSw; (try dsimp only at hSw); first | (go_simp; done) | (go_simp; with_reducible rfl))
  simp only [Act.put, List.setIfInBounds_toArray, List.set_cons_zero, List.set_cons_succ]
  refine take_call (i := 22) rfl (by kernel_rfl) (fun K hK => ?_)
  go_simp
  (go_at_call 10; refine (lives4_any _).mono ?_; rintro e w36 ⟨rfl, bb⟩)
  refine hK.out _ _ ?_ (fun hHeld => ?_)
  · first | exact keepC4 hHeld bb | exact ⟨ya.c0, ya.c1, yb.c0, yb.c1, yp.c0, yp.c1, yq.c0, yq.c1, (Below.refl _ _).drew⟩
  clear hK K
  refine take_yes (i := 23) (v := ?vw23) rfl (by kernel_rfl) (by kernel_rfl) (by kernel_rfl) (fun _ _ _ h => h) (by rfl) (by assumption) ?hyw23 ?restw23
  case hyw23 => (intro w hSw; (try dsimp only at hSw); first | (go_simp; done) | (go_simp; with_reducible rfl))
  simp only [Act.put, List.setIfInBounds_toArray, List.set_cons_zero, List.set_cons_succ]
  refine take_yes (i := 24) (v := ?vw24) rfl (by kernel_rfl) (by kernel_rfl) (by kernel_rfl) (fun _ _ _ h => h) (by rfl) (by assumption) ?hyw24 ?restw24
  case hyw24 => (intro w hSw; (try dsimp only at hSw); first | (go_simp; done) | (go_simp; with_reducible rfl))
  simp only [Act.put, List.setIfInBounds_toArray, List.set_cons_zero, List.set_cons_succ]
  refine wpAnyH_done (by kernel_rfl) ?_ _
  go_wp2
  go_ret
  exact ⟨rfl, also B1 hHeld.2.2.2.2.2.2.2.2⟩
theorem own : ownKnob Tryd.prog.godebug = none := by kernel_rfl
set_option maxRecDepth 100000 in
theorem lifted (os : Os) (started : os.Started) (H : Type) (enc : TypeId × Value → H) :
    ReturnsInHanded {} Tryd.checked os 3 .any (fun w args => (Rows.wholeRingsSpec.pre enc Tryd.prog Tryd.f3 [] false w args ∧ laidMetH Tryd.prog Rows.wholeRingsRow.laid w) ∧ sizedMet enc Tryd.prog Tryd.f3 (OpenSpec.ofChange Rows.wholeRingsSpec) false w args)
      (Rows.wholeRingsSpec.post enc Tryd.prog Tryd.f3 false true false false) := by
  refine returnsInHanded_of_change_and (C := Tryd.checked) (X := fun w _ => laidMetH Tryd.prog Rows.wholeRingsRow.laid w) (fun _ _ _ hh h => h.of_heap hh) own started (by kernel_rfl) Tryd.func3
    (ChangeSpec.witness_shaped (enc := enc) (C := Tryd.checked) (os := os) (X := fun w _ => laidMetH Tryd.prog Rows.wholeRingsRow.laid w) false (World.laidAll Tryd.prog os Rows.wholeRingsRow.laid) #[.agg #[.bool false, .slice none 0 0], .agg #[.bool false, .slice none 0 0], .agg #[.bool false, .slice none 0 0]] 8 (World.laidAll_os _ _ _)
      (World.shaped_of_ZipB (by kernel_rfl) (by kernel_rfl)) (by kernel_rfl) (by kernel_rfl) (by kernel_rfl)
      (by rw [MakeChecks.laidMetH_plain _ _ _ (by kernel_rfl)]; exact laidMet_laidAll _ (by kernel_rfl) (by kernel_rfl))) ?_
  intro W base args ds gs before hval0 hW _ _ hL _
  have hval : ∀ (j : Nat) t v, Tryd.f3.params[j]? = some t → args[j]? = some v → Value.okWide Tryd.prog W .any base t v := hval0
  have hW' := hW
  obtain ⟨p, q, hA0, hV, rfl, hfz, hnd⟩ := hW
  have hA : DataW.TrodAll enc Tryd.prog W 0 (fun _ => true) true Tryd.f3.params.toList args.toList ds p := hA0
  rw [Tryd.params3] at hA hval
  obtain ⟨v0, vs0, d0, ds0, p0, q0, hargs, rfl, rfl, h0, r0⟩ := trodAll_cons hA
  obtain ⟨v1, vs1, d1, ds1, p1, q1, rfl, rfl, rfl, h1, r1⟩ := trodAll_cons r0
  obtain ⟨v2, vs2, d2, ds2, p2, q2, rfl, rfl, rfl, h2, r2⟩ := trodAll_cons r1
  obtain ⟨rfl, rfl, rfl⟩ := trodAll_nil r2
  obtain rfl : args = #[v0, v1, v2] := by cases args; simp_all
  obtain ⟨rfl, rfl⟩ := trodVars_none hV
  have hlt : ∀ x ∈ p0 ++ p1 ++ p2, x.block < W.heap.size := fun x hx => by simpa using hW'.lt x (by simpa using hx)
  have h0k := h0
  obtain ⟨n0, a0, l0, c0, u0, rfl, hu0, hs0⟩ := int_view (hval 0 25 v0 rfl rfl) h0 (fun b o h => hfz b o (by simp [h])) (fun x hx => hlt x (by simp [hx]))
  have h1k := h1
  obtain ⟨n1, a1, l1, c1, u1, rfl, hu1, hs1⟩ := int_view (hval 1 25 v1 rfl rfl) h1 (fun b o h => hfz b o (by simp [h])) (fun x hx => hlt x (by simp [hx]))
  have h2k := h2
  obtain ⟨n2, a2, l2, c2, u2, rfl, hu2, hs2⟩ := int_view (hval 2 25 v2 rfl rfl) h2 (fun b o h => hfz b o (by simp [h])) (fun x hx => hlt x (by simp [hx]))
  clear hA0 hval0
  refine (walk n0 a0 l0 c0 u0 n1 a1 l1 c1 u1 n2 a2 l2 c2 u2 W hs0 hu0 hs1 hu1 hs2 hu2).mono fun e W' ⟨he, bel⟩ => ?_
  subst he
  exact ⟨_, rfl, _, _, _, [], _, [], hW', trodAll_mk1 (shut_bool Tryd.underlying4 _), (trodAll_cons_mk (Below.trod laidOutAll (by kernel_rfl) (of_decide_eq_true (by kernel_rfl)) h0k bel (fun x hx => hlt x (by simp [hx]))) (trodAll_cons_mk (Below.trod laidOutAll (by kernel_rfl) (of_decide_eq_true (by kernel_rfl)) h1k bel (fun x hx => hlt x (by simp [hx]))) (trodAll_cons_mk (Below.trod laidOutAll (by kernel_rfl) (of_decide_eq_true (by kernel_rfl)) h2k bel (fun x hx => hlt x (by simp [hx]))) trodAll_mk0))), rfl, bel.frame _, fun h => by cases h⟩

theorem said : Rows.WholeRingsSaid :=
  OpenClaim.holds_of_wide 3 Tryd.f3 rfl rfl rfl rfl rfl rfl rfl ⟨rfl, rfl, rfl, rfl, rfl⟩ rfl rfl rfl rfl rfl (by kernel_rfl) Tryd.func3 (by kernel_rfl)
    (of_decide_eq_true (by kernel_rfl)) (by unfold Func.isWrapper; first | (rw [if_pos (by decide +kernel)]; kernel_rfl) | (rw [if_neg (by decide +kernel)]; exact ⟨rfl, rfl⟩))
    (fun os started H enc _ => lifted os started H enc)
/-- The program's own looks are off, and no parameter wants a stand-in: what the card asks. -/
theorem plain (f : FuncId) (fn : Func) (hf : Tryd.pinned.checked.prog.funcNamed "zellige/zelligelaw04.WholeRings" = some f) (hfn : Tryd.pinned.checked.prog.funcs[f]? = some fn) :
    false = Tryd.pinned.checked.prog.looks [] ∧ ∀ (j : Nat) t, fn.params[j]? = some t → Tryd.pinned.checked.prog.wantsStandIn t = false := by
  obtain rfl : f = 3 := Option.some.inj ((show Tryd.prog.funcNamed "zellige/zelligelaw04.WholeRings" = some 3 by kernel_rfl).symm.trans hf) |>.symm
  obtain rfl : fn = Tryd.f3 := (Option.some.inj (Tryd.func3.symm.trans hfn)).symm
  refine ⟨by kernel_rfl, fun j t ht => ?_⟩
  rw [Tryd.params3] at ht
  have hm : t ∈ [25, 25, 25] := by simpa using Array.mem_of_getElem? ht
  have hall : ([25, 25, 25].all fun u => !Tryd.prog.wantsStandIn u) = true := by kernel_rfl
  exact (show Tryd.prog.wantsStandIn t = false by simpa using List.all_eq_true.1 hall t hm)
/-- The statement: the card. -/
theorem proved : Rows.WholeRingsCardSaid :=
  Claim7.holds_tied_plain_at .later [] _ _ _ _ said (fun _ h => by cases h) (by kernel_rfl) (fun _ h => by cases h) wholeRings_row_tie rfl ⟨rfl, rfl⟩ (by kernel_rfl) rfl plain (by kernel_rfl)
#print axioms proved
end wrings
end Go.Proofs.YtpkcjgkgabemoabDoor
