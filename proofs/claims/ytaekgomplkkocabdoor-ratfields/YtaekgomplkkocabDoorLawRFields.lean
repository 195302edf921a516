/-
  RatFields: what was added, or multiplied, can be taken back, and a factor goes to each part of a sum.
-/
import Derived.Test.YtaekgomplkkocabDoorP6
import Derived.Test.YtaekgomplkkocabDoorP7
import Derived.Test.YtaekgomplkkocabDoorP8
namespace Go.Proofs.YtaekgomplkkocabDoor
open Go.RowKit
set_option linter.unusedVariables false

namespace rfields
open Go.ChangeShapes Go.WideShapes Go.ChangeAt
/-- What holds behind the law's cut of three fractions. -/
def CutF (w W : World) (n m o : Bool) (mk : Value → Value → Value → Act) (e : Exit) (act : Act) (wr : World) : Prop :=
  match e with
  | .normal => ∃ (a1 : Option Addr) (m1 c1 x1 : Nat) (d1 : Option Addr) (k1 g1 A : Nat) (a2 : Option Addr) (m2 c2 x2 : Nat) (d2 : Option Addr) (k2 g2 B : Nat) (a3 : Option Addr) (m3 c3 x3 : Nat) (d3 : Option Addr) (k3 g3 C : Nat), act = mk (.agg #[.bool n, .slice a1 m1 c1, .slice d1 k1 g1]) (.agg #[.bool m, .slice a2 m2 c2, .slice d2 k2 g2]) (.agg #[.bool o, .slice a3 m3 c3, .slice d3 k3 g3]) ∧ QI wr 6 n a1 m1 c1 d1 k1 g1 (sgz n x1) A ∧ QI wr 6 m a2 m2 c2 d2 k2 g2 (sgz m x2) B ∧ QI wr 6 o a3 m3 c3 d3 k3 g3 (sgz o x3) C ∧
    B3 wr (w.heap.size) (.bool n) (.slice a1 m1 c1) (.slice d1 k1 g1) ∧ B3 wr (w.heap.size + 1) (.bool m) (.slice a2 m2 c2) (.slice d2 k2 g2) ∧ B3 wr (w.heap.size + 1 + 1) (.bool o) (.slice a3 m3 c3) (.slice d3 k3 g3) ∧ Below w.heap.size w wr ∧ W.heap.size ≤ wr.heap.size
  | _ => False
theorem fsDrew {U : Nat} {w : World} {sl : List (Option Addr × Nat)} (S : FS U w [] sl) : FS U w.drew [] sl :=
  ⟨S.1, fun x hx => by obtain ⟨c, xs, q⟩ := S.2.1 x hx; exact ⟨c, xs, q.below (Below.refl _ _).drew⟩, fun p hp => by simp at hp⟩
/-- What a new block p is. -/
def NP (U : Nat) (w : World) (p : Nat) (sl : List (Option Addr × Nat)) : Prop := U ≤ p ∧ B3 w p (.bool false) (.slice none 0 0) (.slice none 0 0) ∧ ∀ x ∈ sl, NA p x.1 x.2
theorem fsOne {U : Nat} {w : World} {p q : Nat} {sl : List (Option Addr × Nat)} (S : FS U w [p, q] sl) : NP U w p sl ∧ NP U w q sl ∧ p ≠ q := ⟨S.2.2 p (by simp), S.2.2 q (by simp), by have t := S.1; simp at t; exact t⟩
theorem fsTwo {U : Nat} {w : World} {p q : Nat} {sl : List (Option Addr × Nat)} (S : FS U w [q, p] sl) : NP U w p sl ∧ NP U w q sl ∧ p ≠ q := ⟨S.2.2 p (by simp), S.2.2 q (by simp), by have t := S.1; simp at t; exact fun e => t e.symm⟩
theorem bnew (w : World) : Below w.heap.size w (w.alloc (.cells #[.bool false, .slice none 0 0, .slice none 0 0] 27)) := (Below.refl _ _).alloc (Nat.le_refl _) _
theorem bd (K : Nat) {z : Int} {D : Nat} (hz : z.natAbs < 4294967296 ^ K) (hD : D < 4294967296 ^ K) {N : Int} {E : Nat} (hN : N = lowN z D) (hE : E = lowD z D) : N.natAbs < 4294967296 ^ K ∧ E < 4294967296 ^ K := by
  rw [hN, hE]
  exact ⟨Nat.lt_of_le_of_lt (lowN_le _ _) hz, Nat.lt_of_le_of_lt (lowD_le _ _) hD⟩
theorem up {K L x : Nat} (h : x < 4294967296 ^ K) (hL : K ≤ L) : x < 4294967296 ^ L := Nat.lt_of_lt_of_le h (Nat.pow_le_pow_right (by decide) hL)
theorem cast_lt {K x : Nat} (h : x < 4294967296 ^ K) : ((x : Nat) : Int).natAbs < 4294967296 ^ K := by simpa using h
set_option maxRecDepth 100000 in
set_option maxHeartbeats 200000000 in
theorem walk (n : Bool) (a : Option Addr) (la ca u : Nat) (d : Option Addr) (ld cd v : Nat) (m : Bool) (b : Option Addr) (lb cb u' : Nat) (g : Option Addr) (lg cg v' : Nat) (o : Bool) (c : Option Addr) (lc cc u3 : Nat) (e0 : Option Addr) (le ce v3 : Nat) (w : World) (ha : Sl w a la ca (wd.dcells la (u : Int))) (hu : u < 4294967296 ^ la) (hd : Sl w d ld cd (wd.dcells ld (v : Int))) (hv : v < 4294967296 ^ ld) (hb : Sl w b lb cb (wd.dcells lb (u' : Int))) (hu' : u' < 4294967296 ^ lb) (hg : Sl w g lg cg (wd.dcells lg (v' : Int))) (hv' : v' < 4294967296 ^ lg) (hc : Sl w c lc cc (wd.dcells lc (u3 : Int))) (hu3 : u3 < 4294967296 ^ lc) (he : Sl w e0 le ce (wd.dcells le (v3 : Int))) (hv3 : v3 < 4294967296 ^ le) :
    Calls Tryd.prog 3 #[.agg #[.bool n, .slice a la ca, .slice d ld cd], .agg #[.bool m, .slice b lb cb, .slice g lg cg], .agg #[.bool o, .slice c lc cc, .slice e0 le ce]] w fun e w' => e = .returned (.bool true) ∧ Below w.heap.size w w' := by
  obtain ⟨W, hW, bW, x_a, x_b, x_c, sW⟩ := bs_333 w (.bool n) (.slice a la ca) (.slice d ld cd) (.bool m) (.slice b lb cb) (.slice g lg cg) (.bool o) (.slice c lc cc) (.slice e0 le ce) 27 27 27
  have zbW := bW.size
  replace ha := ha.below bW
  replace hd := hd.below bW
  replace hb := hb.below bW
  replace hg := hg.below bW
  replace hc := hc.below bW
  replace he := he.below bW
  have BB := bW
  go_enter Tryd.func3, Tryd.ntmps3
  go_wp2
  rw [← hW]
  clear hW
  have dd1 : Below W.heap.size W W.drew := (Below.refl _ _).drew
  have zdd1 := dd1.size
  replace ha := ha.below dd1
  replace hd := hd.below dd1
  replace hb := hb.below dd1
  replace hg := hg.below dd1
  replace hc := hc.below dd1
  replace he := he.below dd1
  replace BB := also BB dd1
  replace x_a := x_a.on dd1
  replace x_b := x_b.on dd1
  replace x_c := x_c.on dd1
  refine wp_mono (Q := CutF w W n m o (fun p q r => ⟨#[.agg #[.bool n, .slice a la ca, .slice d ld cd], .agg #[.bool m, .slice b lb cb, .slice g lg cg], .agg #[.bool o, .slice c lc cc, .slice e0 le ce], .pointer (some ⟨w.heap.size, 0, none⟩), .pointer (some ⟨w.heap.size + 1, 0, none⟩), .pointer (some ⟨w.heap.size + 1 + 1, 0, none⟩), .bool false, undef, undef, undef, undef, .agg #[.bool n, .slice a la ca, .slice d ld cd], p, .agg #[.bool m, .slice b lb cb, .slice g lg cg], q, .agg #[.bool o, .slice c lc cc, .slice e0 le ce], r, undef, undef, undef, undef, undef, undef, undef, undef, undef, undef, undef, undef, undef, undef, undef, undef, undef, undef, undef, undef, undef, undef, undef, undef, undef, undef, undef, undef, undef, undef, undef, undef, undef, undef, undef, undef, undef, undef, undef, undef, undef, undef, undef, undef, undef, undef, undef, undef, undef, undef, undef, undef, undef, undef, undef, undef, undef, undef, undef, undef], []⟩)) ?_ ?_
  · skip
    have kx_a0 : W.cell? ⟨w.heap.size, 0, none⟩ = some (.bool n) := x_a.c0
    have kx_a1 : W.cell? ⟨w.heap.size, 1, none⟩ = some (.slice a la ca) := x_a.c1
    have kx_a2 : W.cell? ⟨w.heap.size, 2, none⟩ = some (.slice d ld cd) := x_a.c2
    have kx_a3 : W.frozen? ⟨w.heap.size, 0, none⟩ = false := x_a.f0
    have kx_a4 : W.frozen? ⟨w.heap.size, 1, none⟩ = false := x_a.f1
    have kx_a5 : W.frozen? ⟨w.heap.size, 2, none⟩ = false := x_a.f2
    have kx_b0 : W.cell? ⟨w.heap.size + 1, 0, none⟩ = some (.bool m) := x_b.c0
    have kx_b1 : W.cell? ⟨w.heap.size + 1, 1, none⟩ = some (.slice b lb cb) := x_b.c1
    have kx_b2 : W.cell? ⟨w.heap.size + 1, 2, none⟩ = some (.slice g lg cg) := x_b.c2
    have kx_b3 : W.frozen? ⟨w.heap.size + 1, 0, none⟩ = false := x_b.f0
    have kx_b4 : W.frozen? ⟨w.heap.size + 1, 1, none⟩ = false := x_b.f1
    have kx_b5 : W.frozen? ⟨w.heap.size + 1, 2, none⟩ = false := x_b.f2
    have kx_c0 : W.cell? ⟨w.heap.size + 1 + 1, 0, none⟩ = some (.bool o) := x_c.c0
    have kx_c1 : W.cell? ⟨w.heap.size + 1 + 1, 1, none⟩ = some (.slice c lc cc) := x_c.c1
    have kx_c2 : W.cell? ⟨w.heap.size + 1 + 1, 2, none⟩ = some (.slice e0 le ce) := x_c.c2
    have kx_c3 : W.frozen? ⟨w.heap.size + 1 + 1, 0, none⟩ = false := x_c.f0
    have kx_c4 : W.frozen? ⟨w.heap.size + 1 + 1, 1, none⟩ = false := x_c.f1
    have kx_c5 : W.frozen? ⟨w.heap.size + 1 + 1, 2, none⟩ = false := x_c.f2
    go_region_with (first
      | (go_at_call_of 4 [Value.agg #[Value.bool n, Value.slice a la ca, Value.slice d ld cd]]; refine (short5_any n a la ca u d ld cd v _ ha hu hd hv).mono ?_; rintro e w1 ⟨a1, m1, c1, x1, d1, k1, g1, A, rfl, q1, f1, e1, b1⟩; have ⟨x_ab10, x_ab11, x_ab12, x_ab13, x_ab14, x_ab15⟩ := (x_a.on b1); have ⟨x_bb10, x_bb11, x_bb12, x_bb13, x_bb14, x_bb15⟩ := (x_b.on b1); have ⟨x_cb10, x_cb11, x_cb12, x_cb13, x_cb14, x_cb15⟩ := (x_c.on b1))
      | (go_at_call_of 4 [Value.agg #[Value.bool m, Value.slice b lb cb, Value.slice g lg cg]]; refine (short5_any m b lb cb u' g lg cg v' _ (hb.below b1) hu' (hg.below b1) hv').mono ?_; rintro e w2 ⟨a2, m2, c2, x2, d2, k2, g2, B, rfl, q2, f2, e2, b2⟩; have ⟨x_ab20, x_ab21, x_ab22, x_ab23, x_ab24, x_ab25⟩ := ((x_a.on b1).on b2); have ⟨x_bb20, x_bb21, x_bb22, x_bb23, x_bb24, x_bb25⟩ := ((x_b.on b1).on b2); have ⟨x_cb20, x_cb21, x_cb22, x_cb23, x_cb24, x_cb25⟩ := ((x_c.on b1).on b2))
      | (go_at_call 4; refine (short5_any o c lc cc u3 e0 le ce v3 _ ((hc.below b1).below b2) hu3 ((he.below b1).below b2) hv3).mono ?_; rintro e w3 ⟨a3, m3, c3, x3, d3, k3, g3, C, rfl, q3, f3, e3, b3⟩; have ⟨x_ab30, x_ab31, x_ab32, x_ab33, x_ab34, x_ab35⟩ := (((x_a.on b1).on b2).on b3); have ⟨x_bb30, x_bb31, x_bb32, x_bb33, x_bb34, x_bb35⟩ := (((x_b.on b1).on b2).on b3); have ⟨x_cb30, x_cb31, x_cb32, x_cb33, x_cb34, x_cb35⟩ := (((x_c.on b1).on b2).on b3)))
    all_goals (unfold CutF; dsimp only; have zb1 : W.heap.size ≤ w1.heap.size := b1.size; have zb2 : w1.heap.size ≤ w2.heap.size := b2.size; have zb3 : w2.heap.size ≤ w3.heap.size := b3.size; have F1 : Far W.heap.size a1 m1 := f1; have E1 : Far W.heap.size d1 k1 := e1; exact ⟨a1, m1, c1, x1, d1, k1, g1, A, a2, m2, c2, x2, d2, k2, g2, B, a3, m3, c3, x3, d3, k3, g3, C, rfl, (((((q1.below b2).below b3).put3 (F1 _ (by omega)) (E1 _ (by omega)) _ _ _).put3 (F1 _ (by omega)) (E1 _ (by omega)) _ _ _).put3 (F1 _ (by omega)) (E1 _ (by omega)) _ _ _), ((((q2.below b3).put3 (f2 _ (by omega)) (e2 _ (by omega)) _ _ _).put3 (f2 _ (by omega)) (e2 _ (by omega)) _ _ _).put3 (f2 _ (by omega)) (e2 _ (by omega)) _ _ _), (((q3.put3 (f3 _ (by omega)) (e3 _ (by omega)) _ _ _).put3 (f3 _ (by omega)) (e3 _ (by omega)) _ _ _).put3 (f3 _ (by omega)) (e3 _ (by omega)) _ _ _), ((((x_a.on b1).on b2).on b3).set.put3 (by omega)).put3 (by omega), ((((x_b.on b1).on b2).on b3).put3 (by omega)).set.put3 (by omega), ((((((x_c.on b1).on b2).on b3)).put3 (by omega)).put3 (by omega)).set, below_put3 (below_put3 (below_put3 (also (also (also BB b1) b2) b3) (by omega) _ _ _) (by omega) _ _ _) (by omega) _ _ _, by simp only [World.size_setCell]; omega⟩)
  intro e act U hcut
  unfold CutF at hcut
  cases e <;> first | exact False.elim hcut | skip
  obtain ⟨a1, m1, c1, x1, d1, k1, g1, A, a2, m2, c2, x2, d2, k2, g2, B, a3, m3, c3, x3, d3, k3, g3, C, rfl, q1, q2, q3, y_a, y_b, y_c, BU, z_U⟩ := hcut
  clear ha hd hb hg hc he hu hv hu' hv' hu3 hv3 x_a x_b x_c BB
  have x_a := y_a
  have x_b := y_b
  have x_c := y_c
  have BB := BU
  clear y_a y_b y_c BU
  dsimp only
  generalize sgz n x1 = X at q1
  generalize sgz m x2 = Y at q2
  generalize sgz o x3 = Z at q3
  have xn_s := q1.pn
  have xd_s := q1.pd
  have yn_s := q2.pn
  have yd_s := q2.pd
  have zn_s := q3.pn
  have zd_s := q3.pd
  obtain ⟨MN, hMN⟩ : ∃ t, t = lowN (pN X A * pN Y B) (pD A * pD B) := ⟨_, rfl⟩
  obtain ⟨MD, hMD⟩ : ∃ t, t = lowD (pN X A * pN Y B) (pD A * pD B) := ⟨_, rfl⟩
  obtain ⟨MN_s, MD_s⟩ := bd 12 (abs_mul' xn_s yn_s) (nat_mul' xd_s yd_s) hMN hMD
  have MD_p : 0 < MD := by rw [hMD]; exact lowD_pos (Nat.mul_pos (pD_pos _) (pD_pos _))
  obtain ⟨PN, hPN⟩ : ∃ t, t = lowN (pN X A * pN Z C) (pD A * pD C) := ⟨_, rfl⟩
  obtain ⟨PD, hPD⟩ : ∃ t, t = lowD (pN X A * pN Z C) (pD A * pD C) := ⟨_, rfl⟩
  obtain ⟨PN_s, PD_s⟩ := bd 12 (abs_mul' xn_s zn_s) (nat_mul' xd_s zd_s) hPN hPD
  have PD_p : 0 < PD := by rw [hPD]; exact lowD_pos (Nat.mul_pos (pD_pos _) (pD_pos _))
  obtain ⟨SN, hSN⟩ : ∃ t, t = lowN (pN Y B * (pD C : Int) + pN Z C * (pD B : Int)) (pD B * pD C) := ⟨_, rfl⟩
  obtain ⟨SD, hSD⟩ : ∃ t, t = lowD (pN Y B * (pD C : Int) + pN Z C * (pD B : Int)) (pD B * pD C) := ⟨_, rfl⟩
  obtain ⟨SN_s, SD_s⟩ := bd 13 (abs_add' (abs_mul' yn_s (cast_lt zd_s)) (abs_mul' zn_s (cast_lt yd_s))) (up (nat_mul' yd_s zd_s) (by decide)) hSN hSD
  have SD_p : 0 < SD := by rw [hSD]; exact lowD_pos (Nat.mul_pos (pD_pos _) (pD_pos _))
  obtain ⟨TN, hTN⟩ : ∃ t, t = lowN (pN X A * (pD B : Int) + pN Y B * (pD A : Int)) (pD A * pD B) := ⟨_, rfl⟩
  obtain ⟨TD, hTD⟩ : ∃ t, t = lowD (pN X A * (pD B : Int) + pN Y B * (pD A : Int)) (pD A * pD B) := ⟨_, rfl⟩
  obtain ⟨TN_s, TD_s⟩ := bd 13 (abs_add' (abs_mul' xn_s (cast_lt yd_s)) (abs_mul' yn_s (cast_lt xd_s))) (up (nat_mul' xd_s yd_s) (by decide)) hTN hTD
  have TD_p : 0 < TD := by rw [hTD]; exact lowD_pos (Nat.mul_pos (pD_pos _) (pD_pos _))
  have eMN : pN MN MD = MN := pN_pos MD_p
  have eMD : pD MD = MD := pD_eq MD_p
  have ePN : pN PN PD = PN := pN_pos PD_p
  have ePD : pD PD = PD := pD_eq PD_p
  have eSN : pN SN SD = SN := pN_pos SD_p
  have eSD : pD SD = SD := pD_eq SD_p
  have eTN : pN TN TD = TN := pN_pos TD_p
  have eTD : pD TD = TD := pD_eq TD_p
  obtain ⟨LN, hLN⟩ : ∃ t, t = lowN (pN X A * pN SN SD) (pD A * pD SD) := ⟨_, rfl⟩
  obtain ⟨LD, hLD⟩ : ∃ t, t = lowD (pN X A * pN SN SD) (pD A * pD SD) := ⟨_, rfl⟩
  obtain ⟨LN_s, LD_s⟩ := bd 26 (by rw [eSN]; exact up (abs_mul' xn_s SN_s) (by decide)) (by rw [eSD]; exact up (nat_mul' xd_s SD_s) (by decide)) hLN hLD
  have LD_p : 0 < LD := by rw [hLD, eSD]; exact lowD_pos (Nat.mul_pos (pD_pos _) SD_p)
  obtain ⟨VN, hVN⟩ : ∃ t, t = lowN (pN TN TD * (pD B : Int) - pN Y B * (pD TD : Int)) (pD TD * pD B) := ⟨_, rfl⟩
  obtain ⟨VD, hVD⟩ : ∃ t, t = lowD (pN TN TD * (pD B : Int) - pN Y B * (pD TD : Int)) (pD TD * pD B) := ⟨_, rfl⟩
  obtain ⟨VN_s, VD_s⟩ := bd 27 (by rw [eTN, eTD]; exact abs_sub' (up (abs_mul' TN_s (cast_lt yd_s)) (by decide)) (up (abs_mul' yn_s (cast_lt TD_s)) (by decide))) (by rw [eTD]; exact up (nat_mul' TD_s yd_s) (by decide)) hVN hVD
  have VD_p : 0 < VD := by rw [hVD, eTD]; exact lowD_pos (Nat.mul_pos TD_p (pD_pos _))
  have hdist := fld_dist (pN X A) (pN Y B) (pN Z C) (pD A) (pD B) (pD C) (pD_pos _) (pD_pos _) (pD_pos _) hSN hSD hMN hMD hPN hPD
  have HRN : Hid (LN = lowN (pN MN MD * (pD PD : Int) + pN PN PD * (pD MD : Int)) (pD MD * pD PD)) := by unfold Hid; rw [hLN, eSN, eSD, eMN, eMD, ePN, ePD]; exact hdist.1
  have HRD : Hid (LD = lowD (pN MN MD * (pD PD : Int) + pN PN PD * (pD MD : Int)) (pD MD * pD PD)) := by unfold Hid; rw [hLD, eSN, eSD, eMN, eMD, ePN, ePD]; exact hdist.2
  have HC1 : Hid ((0 : Int) = (pN VN VD * (pD A : Int) - pN X A * (pD VD : Int)).sign) := by unfold Hid; rw [pN_pos VD_p, pD_eq VD_p]; exact fld_sub (pN X A) (pN Y B) (pD A) (pD B) (pD_pos _) (pD_pos _) hTN hTD (by rw [hVN, eTN, eTD]) (by rw [hVD, eTN, eTD])
  have HC2 : Hid ((0 : Int) = (pN LN LD * (pD LD : Int) - pN LN LD * (pD LD : Int)).sign) := by unfold Hid; rw [Int.sub_self]; rfl
  obtain ⟨QV, QW, E, hQ⟩ : ∃ (QV : Int) (QW : Nat) (E : Int), (pN Y B ≠ 0 ∧ QV = lowN ((pN MN MD * (pD B : Int)) * (pN Y B * (pD MD : Int)).sign) (pN Y B * (pD MD : Int)).natAbs ∧ QW = lowD ((pN MN MD * (pD B : Int)) * (pN Y B * (pD MD : Int)).sign) (pN Y B * (pD MD : Int)).natAbs ∧ E = 0) ∨ (pN Y B = 0 ∧ QV = 0 ∧ QW = 1 ∧ E = 3) := by
    by_cases h : pN Y B = 0
    · exact ⟨0, 1, 3, Or.inr ⟨h, rfl, rfl, rfl⟩⟩
    · exact ⟨_, _, 0, Or.inl ⟨h, rfl, rfl, rfl⟩⟩
  have HCq : Hid (pN Y B ≠ 0 → QV.natAbs < 4294967296 ^ 24 ∧ QW < 4294967296 ^ 24 ∧ (0 : Int) = (pN QV QW * (pD A : Int) - pN X A * (pD QW : Int)).sign) := by
    unfold Hid
    intro h
    rcases hQ with ⟨_, h1, h2, _⟩ | ⟨h1, _⟩
    · rw [eMN, eMD] at h1 h2
      have hp : 0 < (pN Y B * (MD : Int)).natAbs := by have : pN Y B * (MD : Int) ≠ 0 := Int.mul_ne_zero h (by omega); omega
      have hq : 0 < QW := by rw [h2]; exact lowD_pos hp
      obtain ⟨b1, b2⟩ := bd 24 (show (MN * (pD B : Int) * (pN Y B * (MD : Int)).sign).natAbs < 4294967296 ^ 24 by rw [Int.natAbs_mul, Int.natAbs_sign_of_ne_zero (by omega), Nat.mul_one]; exact up (abs_mul' MN_s (cast_lt yd_s)) (by decide)) (up (abs_mul' yn_s (cast_lt MD_s)) (by decide)) h1 h2
      refine ⟨b1, b2, ?_⟩
      rw [pN_pos hq, pD_eq hq]
      exact fld_div (pN X A) (pN Y B) (pD A) (pD B) (pD_pos _) (pD_pos _) h hMN hMD h1 h2
    · exact absurd h1 h
  have HQ : Hid _ := hQ
  have HMN : Hid _ := hMN
  have BMN : Hid _ := MN_s
  have HMD : Hid _ := hMD
  have BMD : Hid _ := MD_s
  have HPN : Hid _ := hPN
  have BPN : Hid _ := PN_s
  have HPD : Hid _ := hPD
  have BPD : Hid _ := PD_s
  have HSN : Hid _ := hSN
  have BSN : Hid _ := SN_s
  have HSD : Hid _ := hSD
  have BSD : Hid _ := SD_s
  have HTN : Hid _ := hTN
  have BTN : Hid _ := TN_s
  have HTD : Hid _ := hTD
  have BTD : Hid _ := TD_s
  have HLN : Hid _ := hLN
  have BLN : Hid _ := LN_s
  have HLD : Hid _ := hLD
  have BLD : Hid _ := LD_s
  have HVN : Hid _ := hVN
  have BVN : Hid _ := VN_s
  have HVD : Hid _ := hVD
  have BVD : Hid _ := VD_s
  obtain ⟨TS, hTS⟩ : ∃ TS, TS = qText (lowN (pN LN LD) (pD LD)) (lowD (pN LN LD) (pD LD)) := ⟨_, rfl⟩
  have HT : Hid _ := hTS
  clear hQ hTS hdist hMN MN_s hMD MD_s hPN PN_s hPD PD_s hSN SN_s hSD SD_s hTN TN_s hTD TD_s hLN LN_s hLD LD_s hVN VN_s hVD VD_s eMN eMD ePN ePD eSN eSD eTN eTD MD_p PD_p SD_p TD_p LD_p VD_p xn_s xd_s yn_s yd_s zn_s zd_s
  go_wp2
  obtain ⟨QQ, hQQ⟩ : ∃ QQ : Exit → Act → World → Prop, QQ = fun e act wr => e = .normal ∧ ∃ (p0 : Nat) (n4 : Bool) (a4 : Option Addr) (l4 c4 : Nat) (d4 : Option Addr) (m4 k4 : Nat) (n5 : Bool) (a5 : Option Addr) (l5 c5 : Nat) (d5 : Option Addr) (m5 k5 : Nat), act = ⟨#[.agg #[.bool n, .slice a la ca, .slice d ld cd], .agg #[.bool m, .slice b lb cb, .slice g lg cg], .agg #[.bool o, .slice c lc cc, .slice e0 le ce], .pointer (some ⟨w.heap.size, 0, none⟩), .pointer (some ⟨w.heap.size + 1, 0, none⟩), .pointer (some ⟨w.heap.size + 1 + 1, 0, none⟩), .bool false, .pointer (some ⟨p0, 0, none⟩), .int .i64 E, undef, undef, .agg #[.bool n, .slice a la ca, .slice d ld cd], .agg #[.bool n, .slice a1 m1 c1, .slice d1 k1 g1], .agg #[.bool m, .slice b lb cb, .slice g lg cg], .agg #[.bool m, .slice a2 m2 c2, .slice d2 k2 g2], .agg #[.bool o, .slice c lc cc, .slice e0 le ce], .agg #[.bool o, .slice a3 m3 c3, .slice d3 k3 g3], .tuple #[.agg #[.bool n5, .slice a5 l5 c5, .slice d5 m5 k5], .int .i64 E], .agg #[.bool n, .slice a1 m1 c1, .slice d1 k1 g1], .agg #[.bool m, .slice a2 m2 c2, .slice d2 k2 g2], .agg #[.bool n4, .slice a4 l4 c4, .slice d4 m4 k4], .agg #[.bool m, .slice a2 m2 c2, .slice d2 k2 g2], .tuple #[.agg #[.bool n5, .slice a5 l5 c5, .slice d5 m5 k5], .int .i64 E], .agg #[.bool n5, .slice a5 l5 c5, .slice d5 m5 k5], .int .i64 E, undef, undef, undef, undef, undef, undef, undef, undef, undef, undef, undef, undef, undef, undef, undef, undef, undef, undef, undef, undef, undef, undef, undef, undef, undef, undef, undef, undef, undef, undef, undef, undef, undef, undef, undef, undef, undef, undef, undef, undef, undef, undef, undef, undef, undef, undef, undef, undef, undef, undef, undef, undef], []⟩ ∧ QI wr 6 n a1 m1 c1 d1 k1 g1 X A ∧ QI wr 6 m a2 m2 c2 d2 k2 g2 Y B ∧ QI wr 6 o a3 m3 c3 d3 k3 g3 Z C ∧ QN wr n4 a4 l4 c4 d4 m4 k4 MN MD ∧ QN wr n5 a5 l5 c5 d5 m5 k5 QV QW ∧ B3 wr (w.heap.size) (.bool n) (.slice a1 m1 c1) (.slice d1 k1 g1) ∧ B3 wr (w.heap.size + 1) (.bool m) (.slice a2 m2 c2) (.slice d2 k2 g2) ∧ B3 wr (w.heap.size + 1 + 1) (.bool o) (.slice a3 m3 c3) (.slice d3 k3 g3) ∧ B3 wr p0 (.bool n5) (.slice a5 l5 c5) (.slice d5 m5 k5) ∧ Below w.heap.size w wr ∧ U.heap.size ≤ wr.heap.size ∧ (U.heap.size ≤ p0 ∧ p0 < wr.heap.size) := ⟨_, rfl⟩
  have HQQ : Hid _ := hQQ
  clear hQQ
  refine wp_mono (Q := QQ) ?_ ?_
  · refine wp_region_held_drew (S := (fun w' => w'.cell? ⟨w.heap.size, 0, none⟩ = some (.bool n) ∧ w'.cell? ⟨w.heap.size, 1, none⟩ = some (.slice a1 m1 c1) ∧ w'.cell? ⟨w.heap.size, 2, none⟩ = some (.slice d1 k1 g1) ∧ w'.cell? ⟨w.heap.size + 1, 0, none⟩ = some (.bool m) ∧ w'.cell? ⟨w.heap.size + 1, 1, none⟩ = some (.slice a2 m2 c2) ∧ w'.cell? ⟨w.heap.size + 1, 2, none⟩ = some (.slice d2 k2 g2) ∧ Below w.heap.size w w')) (by kernel_rfl) ?_ (fun hHeld => ?_)
    · exact ⟨x_a.c0, x_a.c1, x_a.c2, x_b.c0, x_b.c1, x_b.c2, BB.drew⟩
    refine take_yes (i := 0) (v := ?vfa0x1) rfl (by kernel_rfl) (by kernel_rfl) (by kernel_rfl) (fun _ _ _ h => by rw [HQQ.out] at h; exact Exit.noConfusion h.1) (by rfl) (by assumption) ?hyfa0x1 ?restfa0x1
    case hyfa0x1 => (intro w hSw; (try dsimp only at hSw); first | (go_simp; done) | (go_simp; with_reducible rfl))
    simp only [Act.put, List.setIfInBounds_toArray, List.set_cons_zero, List.set_cons_succ]
    refine take_yes (i := 1) (v := ?vfa1x2) rfl (by kernel_rfl) (by kernel_rfl) (by kernel_rfl) (fun _ _ _ h => by rw [HQQ.out] at h; exact Exit.noConfusion h.1) (by rfl) (by assumption) ?hyfa1x2 ?restfa1x2
    case hyfa1x2 => (intro w hSw; (try dsimp only at hSw); first | (go_simp; done) | (go_simp; with_reducible rfl))
    simp only [Act.put, List.setIfInBounds_toArray, List.set_cons_zero, List.set_cons_succ]
    refine take_yes (i := 3) (v := ?vfa3x3) rfl (by kernel_rfl) (by kernel_rfl) (by kernel_rfl) (fun _ _ _ h => by rw [HQQ.out] at h; exact Exit.noConfusion h.1) (by rfl) (by assumption) ?hyfa3x3 ?restfa3x3
    case hyfa3x3 => (intro w hSw; (try dsimp only at hSw); first | (go_simp; done) | (go_simp; with_reducible rfl))
    simp only [Act.put, List.setIfInBounds_toArray, List.set_cons_zero, List.set_cons_succ]
    have b0 : Below U.heap.size U U.drew := (Below.refl _ _).drew
    have BU := b0
    generalize U.drew = X0 at b0 BU hHeld ⊢
    replace q1 := q1.below b0
    replace q2 := q2.below b0
    replace q3 := q3.below b0
    replace x_a := x_a.on b0
    replace x_b := x_b.on b0
    replace x_c := x_c.on b0
    replace BB := also BB b0
    refine wpAnyH_ready (rs := [2, 8]) (by kernel_rfl) (by simp) (AllReadyH.cons (i := 2) rfl (fun Kc hK => ?_) (AllReadyH.cons (i := 8) rfl (fun Kc hK => ?_) AllReadyH.nil))
    · skip
      go_simp
      (go_at_call 6; refine (qMul n a1 m1 c1 d1 k1 g1 X A m a2 m2 c2 d2 k2 g2 Y B 6 _ q1 q2 MN MD HMN.out HMD.out).mono ?_; rintro e X1 ⟨n4, a4, l4, c4, d4, m4, k4, rfl, h4, f4, j4, e1⟩)
      refine hK.out _ _ ⟨cell_on e1 hHeld.1, cell_on e1 hHeld.2.1, cell_on e1 hHeld.2.2.1, cell_on e1 hHeld.2.2.2.1, cell_on e1 hHeld.2.2.2.2.1, cell_on e1 hHeld.2.2.2.2.2.1, also hHeld.2.2.2.2.2.2 e1⟩ (fun hHeld => ?_)
      clear hK Kc
      replace q1 := q1.below e1
      replace q2 := q2.below e1
      replace q3 := q3.below e1
      replace x_a := x_a.on e1
      replace x_b := x_b.on e1
      replace x_c := x_c.on e1
      replace BB := also BB e1
      replace BU := also BU e1
      refine wpAnyH_ready (rs := [4, 8]) (by kernel_rfl) (by simp) (AllReadyH.cons (i := 4) rfl (fun Kc hK => ?_) (AllReadyH.cons (i := 8) rfl (fun Kc hK => ?_) AllReadyH.nil))
      · skip
        go_simp
        (go_at_call 5; refine (qDivE n4 a4 l4 c4 d4 m4 k4 MN MD m a2 m2 c2 d2 k2 g2 Y B 12 _ (h4.qi 12 (by decide) (by decide) BMN.out BMD.out) (q2.more (by decide) (by decide)) QV QW E HQ.out).mono ?_; rintro e X2 ⟨n5, a5, l5, c5, d5, m5, k5, rfl, h5, f5, j5, e2⟩)
        refine hK.out _ _ ⟨cell_on e2 hHeld.1, cell_on e2 hHeld.2.1, cell_on e2 hHeld.2.2.1, cell_on e2 hHeld.2.2.2.1, cell_on e2 hHeld.2.2.2.2.1, cell_on e2 hHeld.2.2.2.2.2.1, also hHeld.2.2.2.2.2.2 e2⟩ (fun hHeld => ?_)
        clear hK Kc
        replace q1 := q1.below e2
        replace q2 := q2.below e2
        replace q3 := q3.below e2
        replace h4 := h4.below e2
        replace x_a := x_a.on e2
        replace x_b := x_b.on e2
        replace x_c := x_c.on e2
        replace BB := also BB e2
        replace BU := also BU e2
        refine take_yes (i := 5) (v := ?vfa5x4) rfl (by kernel_rfl) (by kernel_rfl) (by kernel_rfl) (fun _ _ _ h => by rw [HQQ.out] at h; exact Exit.noConfusion h.1) (by rfl) (by assumption) ?hyfa5x4 ?restfa5x4
        case hyfa5x4 => (intro w hSw; (try dsimp only at hSw); first | (go_simp; done) | (go_simp; with_reducible rfl))
        simp only [Act.put, List.setIfInBounds_toArray, List.set_cons_zero, List.set_cons_succ]
        refine take_yes (i := 6) (v := ?vfa6x5) rfl (by kernel_rfl) (by kernel_rfl) (by kernel_rfl) (fun _ _ _ h => by rw [HQQ.out] at h; exact Exit.noConfusion h.1) (by rfl) (by assumption) ?hyfa6x5 ?restfa6x5
        case hyfa6x5 => (intro w hSw; (try dsimp only at hSw); first | (go_simp; done) | (go_simp; with_reducible rfl))
        simp only [Act.put, List.setIfInBounds_toArray, List.set_cons_zero, List.set_cons_succ]
        refine take_yes (i := 7) (v := ?vfa7x6) rfl (by kernel_rfl) (by kernel_rfl) (by kernel_rfl) (fun _ _ _ h => by rw [HQQ.out] at h; exact Exit.noConfusion h.1) (by rfl) (by assumption) ?hyfa7x6 ?restfa7x6
        case hyfa7x6 => (intro w hSw; (try dsimp only at hSw); first | (go_simp; done) | (go_simp; with_reducible rfl))
        simp only [Act.put, List.setIfInBounds_toArray, List.set_cons_zero, List.set_cons_succ]
        refine take_call (i := 8) rfl (by kernel_rfl) (fun Kc hK => ?_)
        go_simp
        refine hK.out _ _ ⟨cell_on ((Below.refl _ _).alloc (Nat.le_refl _) _) hHeld.1, cell_on ((Below.refl _ _).alloc (Nat.le_refl _) _) hHeld.2.1, cell_on ((Below.refl _ _).alloc (Nat.le_refl _) _) hHeld.2.2.1, cell_on ((Below.refl _ _).alloc (Nat.le_refl _) _) hHeld.2.2.2.1, cell_on ((Below.refl _ _).alloc (Nat.le_refl _) _) hHeld.2.2.2.2.1, cell_on ((Below.refl _ _).alloc (Nat.le_refl _) _) hHeld.2.2.2.2.2.1, also hHeld.2.2.2.2.2.2 ((Below.refl _ _).alloc (Nat.le_refl _) _)⟩ (fun hHeld => ?_)
        clear hK Kc
        have y_p0 := b3_new X2 (.bool false) (.slice none 0 0) (.slice none 0 0) 27
        have e3 : Below X2.heap.size X2 (X2.alloc (.cells #[.bool false, .slice none 0 0, .slice none 0 0] 27)) := (Below.refl _ _).alloc (Nat.le_refl _) _
        have lp0 : X2.heap.size < (X2.alloc (.cells #[.bool false, .slice none 0 0, .slice none 0 0] 27)).heap.size := by simp
        have gp0 : U.heap.size ≤ X2.heap.size := BU.size
        have n_q1_0_p0 : NA X2.heap.size a1 m1 := q1.wi.ni.sl.na (Nat.le_refl _)
        have n_q1_1_p0 : NA X2.heap.size d1 k1 := q1.ni.sl.na (Nat.le_refl _)
        have n_q2_0_p0 : NA X2.heap.size a2 m2 := q2.wi.ni.sl.na (Nat.le_refl _)
        have n_q2_1_p0 : NA X2.heap.size d2 k2 := q2.ni.sl.na (Nat.le_refl _)
        have n_q3_0_p0 : NA X2.heap.size a3 m3 := q3.wi.ni.sl.na (Nat.le_refl _)
        have n_q3_1_p0 : NA X2.heap.size d3 k3 := q3.ni.sl.na (Nat.le_refl _)
        have n_h4_0_p0 : NA X2.heap.size a4 l4 := h4.wn.nd.sl.na (Nat.le_refl _)
        have n_h4_1_p0 : NA X2.heap.size d4 m4 := h4.nd.sl.na (Nat.le_refl _)
        have n_h5_0_p0 : NA X2.heap.size a5 l5 := h5.wn.nd.sl.na (Nat.le_refl _)
        have n_h5_1_p0 : NA X2.heap.size d5 m5 := h5.nd.sl.na (Nat.le_refl _)
        generalize X2.alloc (.cells #[.bool false, .slice none 0 0, .slice none 0 0] 27) = X3 at y_p0 e3 lp0 hHeld ⊢
        replace q1 := q1.below e3
        replace q2 := q2.below e3
        replace q3 := q3.below e3
        replace h4 := h4.below e3
        replace h5 := h5.below e3
        replace x_a := x_a.on e3
        replace x_b := x_b.on e3
        replace x_c := x_c.on e3
        replace BB := also BB e3
        replace BU := also BU e3
        generalize X2.heap.size = p0 at y_p0 lp0 gp0 n_q1_0_p0 n_q1_1_p0 n_q2_0_p0 n_q2_1_p0 n_q3_0_p0 n_q3_1_p0 n_h4_0_p0 n_h4_1_p0 n_h5_0_p0 n_h5_1_p0 ⊢
        have ⟨c_p0_0, c_p0_1, c_p0_2, c_p0_3, c_p0_4, c_p0_5⟩ : B3 X3 p0 (.bool false) (.slice none 0 0) (.slice none 0 0) := y_p0
        refine take_call (i := 9) rfl (by kernel_rfl) (fun Kc hK => ?_)
        go_simp
        refine hK.out _ _ ⟨cell_put3 hHeld.1 (by omega) _ _ _, cell_put3 hHeld.2.1 (by omega) _ _ _, cell_put3 hHeld.2.2.1 (by omega) _ _ _, cell_put3 hHeld.2.2.2.1 (by omega) _ _ _, cell_put3 hHeld.2.2.2.2.1 (by omega) _ _ _, cell_put3 hHeld.2.2.2.2.2.1 (by omega) _ _ _, below_put3 hHeld.2.2.2.2.2.2 (by omega) _ _ _⟩ (fun hHeld => ?_)
        clear hK Kc
        refine take_yes (i := 10) (v := ?vfa10x7) rfl (by kernel_rfl) (by kernel_rfl) (by kernel_rfl) (fun _ _ _ h => by rw [HQQ.out] at h; exact Exit.noConfusion h.1) (by rfl) (by assumption) ?hyfa10x7 ?restfa10x7
        case hyfa10x7 => (intro w hSw; (try dsimp only at hSw); first | (go_simp; done) | (go_simp; with_reducible rfl))
        simp only [Act.put, List.setIfInBounds_toArray, List.set_cons_zero, List.set_cons_succ]
        refine wpAnyH_done (by kernel_rfl) ?_ _
        rw [HQQ.out]
        exact ⟨rfl, p0, n4, a4, l4, c4, d4, m4, k4, n5, a5, l5, c5, d5, m5, k5, rfl, (((q1.put n_q1_0_p0 n_q1_1_p0 0 _).put n_q1_0_p0 n_q1_1_p0 1 _).put n_q1_0_p0 n_q1_1_p0 2 _), (((q2.put n_q2_0_p0 n_q2_1_p0 0 _).put n_q2_0_p0 n_q2_1_p0 1 _).put n_q2_0_p0 n_q2_1_p0 2 _), (((q3.put n_q3_0_p0 n_q3_1_p0 0 _).put n_q3_0_p0 n_q3_1_p0 1 _).put n_q3_0_p0 n_q3_1_p0 2 _), (((h4.put n_h4_0_p0 n_h4_1_p0 0 _).put n_h4_0_p0 n_h4_1_p0 1 _).put n_h4_0_p0 n_h4_1_p0 2 _), (((h5.put n_h5_0_p0 n_h5_1_p0 0 _).put n_h5_0_p0 n_h5_1_p0 1 _).put n_h5_0_p0 n_h5_1_p0 2 _), (((x_a.put (by omega)).put (by omega)).put (by omega)), (((x_b.put (by omega)).put (by omega)).put (by omega)), (((x_c.put (by omega)).put (by omega)).put (by omega)), y_p0.set, (below_put3 BB (by omega) _ _ _), by have := BU.size; simp only [World.size_setCell]; omega, ⟨gp0, by simp only [World.size_setCell]; omega⟩⟩
      · skip
        go_simp
        refine hK.out _ _ ⟨cell_on ((Below.refl _ _).alloc (Nat.le_refl _) _) hHeld.1, cell_on ((Below.refl _ _).alloc (Nat.le_refl _) _) hHeld.2.1, cell_on ((Below.refl _ _).alloc (Nat.le_refl _) _) hHeld.2.2.1, cell_on ((Below.refl _ _).alloc (Nat.le_refl _) _) hHeld.2.2.2.1, cell_on ((Below.refl _ _).alloc (Nat.le_refl _) _) hHeld.2.2.2.2.1, cell_on ((Below.refl _ _).alloc (Nat.le_refl _) _) hHeld.2.2.2.2.2.1, also hHeld.2.2.2.2.2.2 ((Below.refl _ _).alloc (Nat.le_refl _) _)⟩ (fun hHeld => ?_)
        clear hK Kc
        have y_p0 := b3_new X1 (.bool false) (.slice none 0 0) (.slice none 0 0) 27
        have e4 : Below X1.heap.size X1 (X1.alloc (.cells #[.bool false, .slice none 0 0, .slice none 0 0] 27)) := (Below.refl _ _).alloc (Nat.le_refl _) _
        have lp0 : X1.heap.size < (X1.alloc (.cells #[.bool false, .slice none 0 0, .slice none 0 0] 27)).heap.size := by simp
        have gp0 : U.heap.size ≤ X1.heap.size := BU.size
        have n_q1_0_p0 : NA X1.heap.size a1 m1 := q1.wi.ni.sl.na (Nat.le_refl _)
        have n_q1_1_p0 : NA X1.heap.size d1 k1 := q1.ni.sl.na (Nat.le_refl _)
        have n_q2_0_p0 : NA X1.heap.size a2 m2 := q2.wi.ni.sl.na (Nat.le_refl _)
        have n_q2_1_p0 : NA X1.heap.size d2 k2 := q2.ni.sl.na (Nat.le_refl _)
        have n_q3_0_p0 : NA X1.heap.size a3 m3 := q3.wi.ni.sl.na (Nat.le_refl _)
        have n_q3_1_p0 : NA X1.heap.size d3 k3 := q3.ni.sl.na (Nat.le_refl _)
        have n_h4_0_p0 : NA X1.heap.size a4 l4 := h4.wn.nd.sl.na (Nat.le_refl _)
        have n_h4_1_p0 : NA X1.heap.size d4 m4 := h4.nd.sl.na (Nat.le_refl _)
        generalize X1.alloc (.cells #[.bool false, .slice none 0 0, .slice none 0 0] 27) = X4 at y_p0 e4 lp0 hHeld ⊢
        replace q1 := q1.below e4
        replace q2 := q2.below e4
        replace q3 := q3.below e4
        replace h4 := h4.below e4
        replace x_a := x_a.on e4
        replace x_b := x_b.on e4
        replace x_c := x_c.on e4
        replace BB := also BB e4
        replace BU := also BU e4
        generalize X1.heap.size = p0 at y_p0 lp0 gp0 n_q1_0_p0 n_q1_1_p0 n_q2_0_p0 n_q2_1_p0 n_q3_0_p0 n_q3_1_p0 n_h4_0_p0 n_h4_1_p0 ⊢
        refine take_call (i := 4) rfl (by kernel_rfl) (fun Kc hK => ?_)
        go_simp
        (go_at_call 5; refine (qDivE n4 a4 l4 c4 d4 m4 k4 MN MD m a2 m2 c2 d2 k2 g2 Y B 12 _ (h4.qi 12 (by decide) (by decide) BMN.out BMD.out) (q2.more (by decide) (by decide)) QV QW E HQ.out).mono ?_; rintro e X5 ⟨n5, a5, l5, c5, d5, m5, k5, rfl, h5, f5, j5, e5⟩)
        refine hK.out _ _ ⟨cell_on e5 hHeld.1, cell_on e5 hHeld.2.1, cell_on e5 hHeld.2.2.1, cell_on e5 hHeld.2.2.2.1, cell_on e5 hHeld.2.2.2.2.1, cell_on e5 hHeld.2.2.2.2.2.1, also hHeld.2.2.2.2.2.2 e5⟩ (fun hHeld => ?_)
        clear hK Kc
        have n_h5_0_p0 : NA p0 a5 l5 := f5 p0 lp0
        have n_h5_1_p0 : NA p0 d5 m5 := j5 p0 lp0
        replace q1 := q1.below e5
        replace q2 := q2.below e5
        replace q3 := q3.below e5
        replace h4 := h4.below e5
        replace x_a := x_a.on e5
        replace x_b := x_b.on e5
        replace x_c := x_c.on e5
        replace BB := also BB e5
        replace BU := also BU e5
        replace y_p0 := y_p0.on e5
        replace lp0 := Nat.lt_of_lt_of_le lp0 e5.size
        refine take_yes (i := 5) (v := ?vfa5x8) rfl (by kernel_rfl) (by kernel_rfl) (by kernel_rfl) (fun _ _ _ h => by rw [HQQ.out] at h; exact Exit.noConfusion h.1) (by rfl) (by assumption) ?hyfa5x8 ?restfa5x8
        case hyfa5x8 => (intro w hSw; (try dsimp only at hSw); first | (go_simp; done) | (go_simp; with_reducible rfl))
        simp only [Act.put, List.setIfInBounds_toArray, List.set_cons_zero, List.set_cons_succ]
        refine take_yes (i := 6) (v := ?vfa6x9) rfl (by kernel_rfl) (by kernel_rfl) (by kernel_rfl) (fun _ _ _ h => by rw [HQQ.out] at h; exact Exit.noConfusion h.1) (by rfl) (by assumption) ?hyfa6x9 ?restfa6x9
        case hyfa6x9 => (intro w hSw; (try dsimp only at hSw); first | (go_simp; done) | (go_simp; with_reducible rfl))
        simp only [Act.put, List.setIfInBounds_toArray, List.set_cons_zero, List.set_cons_succ]
        refine take_yes (i := 7) (v := ?vfa7x10) rfl (by kernel_rfl) (by kernel_rfl) (by kernel_rfl) (fun _ _ _ h => by rw [HQQ.out] at h; exact Exit.noConfusion h.1) (by rfl) (by assumption) ?hyfa7x10 ?restfa7x10
        case hyfa7x10 => (intro w hSw; (try dsimp only at hSw); first | (go_simp; done) | (go_simp; with_reducible rfl))
        simp only [Act.put, List.setIfInBounds_toArray, List.set_cons_zero, List.set_cons_succ]
        have ⟨c_p0_0, c_p0_1, c_p0_2, c_p0_3, c_p0_4, c_p0_5⟩ : B3 X5 p0 (.bool false) (.slice none 0 0) (.slice none 0 0) := y_p0
        refine take_call (i := 9) rfl (by kernel_rfl) (fun Kc hK => ?_)
        go_simp
        refine hK.out _ _ ⟨cell_put3 hHeld.1 (by omega) _ _ _, cell_put3 hHeld.2.1 (by omega) _ _ _, cell_put3 hHeld.2.2.1 (by omega) _ _ _, cell_put3 hHeld.2.2.2.1 (by omega) _ _ _, cell_put3 hHeld.2.2.2.2.1 (by omega) _ _ _, cell_put3 hHeld.2.2.2.2.2.1 (by omega) _ _ _, below_put3 hHeld.2.2.2.2.2.2 (by omega) _ _ _⟩ (fun hHeld => ?_)
        clear hK Kc
        refine take_yes (i := 10) (v := ?vfa10x11) rfl (by kernel_rfl) (by kernel_rfl) (by kernel_rfl) (fun _ _ _ h => by rw [HQQ.out] at h; exact Exit.noConfusion h.1) (by rfl) (by assumption) ?hyfa10x11 ?restfa10x11
        case hyfa10x11 => (intro w hSw; (try dsimp only at hSw); first | (go_simp; done) | (go_simp; with_reducible rfl))
        simp only [Act.put, List.setIfInBounds_toArray, List.set_cons_zero, List.set_cons_succ]
        refine wpAnyH_done (by kernel_rfl) ?_ _
        rw [HQQ.out]
        exact ⟨rfl, p0, n4, a4, l4, c4, d4, m4, k4, n5, a5, l5, c5, d5, m5, k5, rfl, (((q1.put n_q1_0_p0 n_q1_1_p0 0 _).put n_q1_0_p0 n_q1_1_p0 1 _).put n_q1_0_p0 n_q1_1_p0 2 _), (((q2.put n_q2_0_p0 n_q2_1_p0 0 _).put n_q2_0_p0 n_q2_1_p0 1 _).put n_q2_0_p0 n_q2_1_p0 2 _), (((q3.put n_q3_0_p0 n_q3_1_p0 0 _).put n_q3_0_p0 n_q3_1_p0 1 _).put n_q3_0_p0 n_q3_1_p0 2 _), (((h4.put n_h4_0_p0 n_h4_1_p0 0 _).put n_h4_0_p0 n_h4_1_p0 1 _).put n_h4_0_p0 n_h4_1_p0 2 _), (((h5.put n_h5_0_p0 n_h5_1_p0 0 _).put n_h5_0_p0 n_h5_1_p0 1 _).put n_h5_0_p0 n_h5_1_p0 2 _), (((x_a.put (by omega)).put (by omega)).put (by omega)), (((x_b.put (by omega)).put (by omega)).put (by omega)), (((x_c.put (by omega)).put (by omega)).put (by omega)), y_p0.set, (below_put3 BB (by omega) _ _ _), by have := BU.size; simp only [World.size_setCell]; omega, ⟨gp0, by simp only [World.size_setCell]; omega⟩⟩
    · skip
      go_simp
      refine hK.out _ _ ⟨cell_on ((Below.refl _ _).alloc (Nat.le_refl _) _) hHeld.1, cell_on ((Below.refl _ _).alloc (Nat.le_refl _) _) hHeld.2.1, cell_on ((Below.refl _ _).alloc (Nat.le_refl _) _) hHeld.2.2.1, cell_on ((Below.refl _ _).alloc (Nat.le_refl _) _) hHeld.2.2.2.1, cell_on ((Below.refl _ _).alloc (Nat.le_refl _) _) hHeld.2.2.2.2.1, cell_on ((Below.refl _ _).alloc (Nat.le_refl _) _) hHeld.2.2.2.2.2.1, also hHeld.2.2.2.2.2.2 ((Below.refl _ _).alloc (Nat.le_refl _) _)⟩ (fun hHeld => ?_)
      clear hK Kc
      have y_p0 := b3_new X0 (.bool false) (.slice none 0 0) (.slice none 0 0) 27
      have e6 : Below X0.heap.size X0 (X0.alloc (.cells #[.bool false, .slice none 0 0, .slice none 0 0] 27)) := (Below.refl _ _).alloc (Nat.le_refl _) _
      have lp0 : X0.heap.size < (X0.alloc (.cells #[.bool false, .slice none 0 0, .slice none 0 0] 27)).heap.size := by simp
      have gp0 : U.heap.size ≤ X0.heap.size := BU.size
      have n_q1_0_p0 : NA X0.heap.size a1 m1 := q1.wi.ni.sl.na (Nat.le_refl _)
      have n_q1_1_p0 : NA X0.heap.size d1 k1 := q1.ni.sl.na (Nat.le_refl _)
      have n_q2_0_p0 : NA X0.heap.size a2 m2 := q2.wi.ni.sl.na (Nat.le_refl _)
      have n_q2_1_p0 : NA X0.heap.size d2 k2 := q2.ni.sl.na (Nat.le_refl _)
      have n_q3_0_p0 : NA X0.heap.size a3 m3 := q3.wi.ni.sl.na (Nat.le_refl _)
      have n_q3_1_p0 : NA X0.heap.size d3 k3 := q3.ni.sl.na (Nat.le_refl _)
      generalize X0.alloc (.cells #[.bool false, .slice none 0 0, .slice none 0 0] 27) = X6 at y_p0 e6 lp0 hHeld ⊢
      replace q1 := q1.below e6
      replace q2 := q2.below e6
      replace q3 := q3.below e6
      replace x_a := x_a.on e6
      replace x_b := x_b.on e6
      replace x_c := x_c.on e6
      replace BB := also BB e6
      replace BU := also BU e6
      generalize X0.heap.size = p0 at y_p0 lp0 gp0 n_q1_0_p0 n_q1_1_p0 n_q2_0_p0 n_q2_1_p0 n_q3_0_p0 n_q3_1_p0 ⊢
      refine take_call (i := 2) rfl (by kernel_rfl) (fun Kc hK => ?_)
      go_simp
      (go_at_call 6; refine (qMul n a1 m1 c1 d1 k1 g1 X A m a2 m2 c2 d2 k2 g2 Y B 6 _ q1 q2 MN MD HMN.out HMD.out).mono ?_; rintro e X7 ⟨n4, a4, l4, c4, d4, m4, k4, rfl, h4, f4, j4, e7⟩)
      refine hK.out _ _ ⟨cell_on e7 hHeld.1, cell_on e7 hHeld.2.1, cell_on e7 hHeld.2.2.1, cell_on e7 hHeld.2.2.2.1, cell_on e7 hHeld.2.2.2.2.1, cell_on e7 hHeld.2.2.2.2.2.1, also hHeld.2.2.2.2.2.2 e7⟩ (fun hHeld => ?_)
      clear hK Kc
      have n_h4_0_p0 : NA p0 a4 l4 := f4 p0 lp0
      have n_h4_1_p0 : NA p0 d4 m4 := j4 p0 lp0
      replace q1 := q1.below e7
      replace q2 := q2.below e7
      replace q3 := q3.below e7
      replace x_a := x_a.on e7
      replace x_b := x_b.on e7
      replace x_c := x_c.on e7
      replace BB := also BB e7
      replace BU := also BU e7
      replace y_p0 := y_p0.on e7
      replace lp0 := Nat.lt_of_lt_of_le lp0 e7.size
      refine take_call (i := 4) rfl (by kernel_rfl) (fun Kc hK => ?_)
      go_simp
      (go_at_call 5; refine (qDivE n4 a4 l4 c4 d4 m4 k4 MN MD m a2 m2 c2 d2 k2 g2 Y B 12 _ (h4.qi 12 (by decide) (by decide) BMN.out BMD.out) (q2.more (by decide) (by decide)) QV QW E HQ.out).mono ?_; rintro e X8 ⟨n5, a5, l5, c5, d5, m5, k5, rfl, h5, f5, j5, e8⟩)
      refine hK.out _ _ ⟨cell_on e8 hHeld.1, cell_on e8 hHeld.2.1, cell_on e8 hHeld.2.2.1, cell_on e8 hHeld.2.2.2.1, cell_on e8 hHeld.2.2.2.2.1, cell_on e8 hHeld.2.2.2.2.2.1, also hHeld.2.2.2.2.2.2 e8⟩ (fun hHeld => ?_)
      clear hK Kc
      have n_h5_0_p0 : NA p0 a5 l5 := f5 p0 lp0
      have n_h5_1_p0 : NA p0 d5 m5 := j5 p0 lp0
      replace q1 := q1.below e8
      replace q2 := q2.below e8
      replace q3 := q3.below e8
      replace h4 := h4.below e8
      replace x_a := x_a.on e8
      replace x_b := x_b.on e8
      replace x_c := x_c.on e8
      replace BB := also BB e8
      replace BU := also BU e8
      replace y_p0 := y_p0.on e8
      replace lp0 := Nat.lt_of_lt_of_le lp0 e8.size
      refine take_yes (i := 5) (v := ?vfa5x12) rfl (by kernel_rfl) (by kernel_rfl) (by kernel_rfl) (fun _ _ _ h => by rw [HQQ.out] at h; exact Exit.noConfusion h.1) (by rfl) (by assumption) ?hyfa5x12 ?restfa5x12
      case hyfa5x12 => (intro w hSw; (try dsimp only at hSw); first | (go_simp; done) | (go_simp; with_reducible rfl))
      simp only [Act.put, List.setIfInBounds_toArray, List.set_cons_zero, List.set_cons_succ]
      refine take_yes (i := 6) (v := ?vfa6x13) rfl (by kernel_rfl) (by kernel_rfl) (by kernel_rfl) (fun _ _ _ h => by rw [HQQ.out] at h; exact Exit.noConfusion h.1) (by rfl) (by assumption) ?hyfa6x13 ?restfa6x13
      case hyfa6x13 => (intro w hSw; (try dsimp only at hSw); first | (go_simp; done) | (go_simp; with_reducible rfl))
      simp only [Act.put, List.setIfInBounds_toArray, List.set_cons_zero, List.set_cons_succ]
      refine take_yes (i := 7) (v := ?vfa7x14) rfl (by kernel_rfl) (by kernel_rfl) (by kernel_rfl) (fun _ _ _ h => by rw [HQQ.out] at h; exact Exit.noConfusion h.1) (by rfl) (by assumption) ?hyfa7x14 ?restfa7x14
      case hyfa7x14 => (intro w hSw; (try dsimp only at hSw); first | (go_simp; done) | (go_simp; with_reducible rfl))
      simp only [Act.put, List.setIfInBounds_toArray, List.set_cons_zero, List.set_cons_succ]
      have ⟨c_p0_0, c_p0_1, c_p0_2, c_p0_3, c_p0_4, c_p0_5⟩ : B3 X8 p0 (.bool false) (.slice none 0 0) (.slice none 0 0) := y_p0
      refine take_call (i := 9) rfl (by kernel_rfl) (fun Kc hK => ?_)
      go_simp
      refine hK.out _ _ ⟨cell_put3 hHeld.1 (by omega) _ _ _, cell_put3 hHeld.2.1 (by omega) _ _ _, cell_put3 hHeld.2.2.1 (by omega) _ _ _, cell_put3 hHeld.2.2.2.1 (by omega) _ _ _, cell_put3 hHeld.2.2.2.2.1 (by omega) _ _ _, cell_put3 hHeld.2.2.2.2.2.1 (by omega) _ _ _, below_put3 hHeld.2.2.2.2.2.2 (by omega) _ _ _⟩ (fun hHeld => ?_)
      clear hK Kc
      refine take_yes (i := 10) (v := ?vfa10x15) rfl (by kernel_rfl) (by kernel_rfl) (by kernel_rfl) (fun _ _ _ h => by rw [HQQ.out] at h; exact Exit.noConfusion h.1) (by rfl) (by assumption) ?hyfa10x15 ?restfa10x15
      case hyfa10x15 => (intro w hSw; (try dsimp only at hSw); first | (go_simp; done) | (go_simp; with_reducible rfl))
      simp only [Act.put, List.setIfInBounds_toArray, List.set_cons_zero, List.set_cons_succ]
      refine wpAnyH_done (by kernel_rfl) ?_ _
      rw [HQQ.out]
      exact ⟨rfl, p0, n4, a4, l4, c4, d4, m4, k4, n5, a5, l5, c5, d5, m5, k5, rfl, (((q1.put n_q1_0_p0 n_q1_1_p0 0 _).put n_q1_0_p0 n_q1_1_p0 1 _).put n_q1_0_p0 n_q1_1_p0 2 _), (((q2.put n_q2_0_p0 n_q2_1_p0 0 _).put n_q2_0_p0 n_q2_1_p0 1 _).put n_q2_0_p0 n_q2_1_p0 2 _), (((q3.put n_q3_0_p0 n_q3_1_p0 0 _).put n_q3_0_p0 n_q3_1_p0 1 _).put n_q3_0_p0 n_q3_1_p0 2 _), (((h4.put n_h4_0_p0 n_h4_1_p0 0 _).put n_h4_0_p0 n_h4_1_p0 1 _).put n_h4_0_p0 n_h4_1_p0 2 _), (((h5.put n_h5_0_p0 n_h5_1_p0 0 _).put n_h5_0_p0 n_h5_1_p0 1 _).put n_h5_0_p0 n_h5_1_p0 2 _), (((x_a.put (by omega)).put (by omega)).put (by omega)), (((x_b.put (by omega)).put (by omega)).put (by omega)), (((x_c.put (by omega)).put (by omega)).put (by omega)), y_p0.set, (below_put3 BB (by omega) _ _ _), by have := BU.size; simp only [World.size_setCell]; omega, ⟨gp0, by simp only [World.size_setCell]; omega⟩⟩
  rw [HQQ.out]
  rintro e act Y1 ⟨rfl, p0, n4, a4, l4, c4, d4, m4, k4, n5, a5, l5, c5, d5, m5, k5, rfl, q1, q2, q3, h4, h5, x_a, x_b, x_c, x_q, BB, z_Y1, z_Y1_p0⟩
  clear HQQ QQ
  dsimp only
  dsimp only [Exit.then]
  refine ‹∀ (a : Act) (w : World), Code.wp Tryd.prog _ _ a w → _› _ _ ?_
  apply wp_seq_k
  intro K2 hK2
  have gU : w.heap.size + 1 + 1 < U.heap.size := by have := sW; omega
  have key : ∀ (v25 v26 v27 v28 v29 v30 v31 v32 : Value) (Y2 : World), QI Y2 6 n a1 m1 c1 d1 k1 g1 X A → QI Y2 6 m a2 m2 c2 d2 k2 g2 Y B → QI Y2 6 o a3 m3 c3 d3 k3 g3 Z C → B3 Y2 (w.heap.size) (.bool n) (.slice a1 m1 c1) (.slice d1 k1 g1) → B3 Y2 (w.heap.size + 1) (.bool m) (.slice a2 m2 c2) (.slice d2 k2 g2) → B3 Y2 (w.heap.size + 1 + 1) (.bool o) (.slice a3 m3 c3) (.slice d3 k3 g3) → Below w.heap.size w Y2 → U.heap.size ≤ Y2.heap.size → K2 ⟨#[.agg #[.bool n, .slice a la ca, .slice d ld cd], .agg #[.bool m, .slice b lb cb, .slice g lg cg], .agg #[.bool o, .slice c lc cc, .slice e0 le ce], .pointer (some ⟨w.heap.size, 0, none⟩), .pointer (some ⟨w.heap.size + 1, 0, none⟩), .pointer (some ⟨w.heap.size + 1 + 1, 0, none⟩), .bool false, .pointer (some ⟨p0, 0, none⟩), .int .i64 E, undef, undef, .agg #[.bool n, .slice a la ca, .slice d ld cd], .agg #[.bool n, .slice a1 m1 c1, .slice d1 k1 g1], .agg #[.bool m, .slice b lb cb, .slice g lg cg], .agg #[.bool m, .slice a2 m2 c2, .slice d2 k2 g2], .agg #[.bool o, .slice c lc cc, .slice e0 le ce], .agg #[.bool o, .slice a3 m3 c3, .slice d3 k3 g3], .tuple #[.agg #[.bool n5, .slice a5 l5 c5, .slice d5 m5 k5], .int .i64 E], .agg #[.bool n, .slice a1 m1 c1, .slice d1 k1 g1], .agg #[.bool m, .slice a2 m2 c2, .slice d2 k2 g2], .agg #[.bool n4, .slice a4 l4 c4, .slice d4 m4 k4], .agg #[.bool m, .slice a2 m2 c2, .slice d2 k2 g2], .tuple #[.agg #[.bool n5, .slice a5 l5 c5, .slice d5 m5 k5], .int .i64 E], .agg #[.bool n5, .slice a5 l5 c5, .slice d5 m5 k5], .int .i64 E, v25, v26, v27, v28, v29, v30, v31, v32, undef, undef, undef, undef, undef, undef, undef, undef, undef, undef, undef, undef, undef, undef, undef, undef, undef, undef, undef, undef, undef, undef, undef, undef, undef, undef, undef, undef, undef, undef, undef, undef, undef, undef, undef, undef, undef, undef, undef, undef, undef, undef, undef, undef], []⟩ Y2 := by
    clear q1 q2 q3 h4 h5 x_a x_b x_c x_q BB
    intro v25 v26 v27 v28 v29 v30 v31 v32 Y2 q1 q2 q3 x_a x_b x_c BB z_Y2
    refine hK2 _ _ ?_
    clear hK2
    obtain ⟨SL, hSL⟩ : ∃ SL : List (Option Addr × Nat), SL = [(a1, m1), (d1, k1), (a2, m2), (d2, k2), (a3, m3), (d3, k3)] := ⟨_, rfl⟩
    obtain ⟨RF, hRF⟩ : ∃ RF : World → Prop, RF = fun wr => QI wr 6 n a1 m1 c1 d1 k1 g1 X A ∧ QI wr 6 m a2 m2 c2 d2 k2 g2 Y B ∧ QI wr 6 o a3 m3 c3 d3 k3 g3 Z C ∧ B3 wr (w.heap.size) (.bool n) (.slice a1 m1 c1) (.slice d1 k1 g1) ∧ B3 wr (w.heap.size + 1) (.bool m) (.slice a2 m2 c2) (.slice d2 k2 g2) ∧ B3 wr (w.heap.size + 1 + 1) (.bool o) (.slice a3 m3 c3) (.slice d3 k3 g3) ∧ Below w.heap.size w wr ∧ U.heap.size ≤ wr.heap.size := ⟨_, rfl⟩
    have HRF : Hid _ := hRF
    have RFon : ∀ wr wr', RF wr → Below wr.heap.size wr wr' → RF wr' := by
      rw [hRF]
      rintro wr wr' ⟨q1, q2, q3, xa, xb, xc, B, z⟩ b
      exact ⟨q1.below b, q2.below b, q3.below b, xa.on b, xb.on b, xc.on b, also B b, Nat.le_trans z b.size⟩
    have RFput : ∀ wr p u v t, RF wr → U.heap.size ≤ p → (∀ x ∈ SL, NA p x.1 x.2) → RF (((wr.setCell ⟨p, 0, none⟩ u).setCell ⟨p, 1, none⟩ v).setCell ⟨p, 2, none⟩ t) := by
      rw [hRF]
      rintro wr p u v t ⟨q1, q2, q3, xa, xb, xc, B, z⟩ hp hn
      have n1 : NA p a1 m1 := hn (a1, m1) (by rw [hSL]; simp)
      have n2 : NA p d1 k1 := hn (d1, k1) (by rw [hSL]; simp)
      have n3 : NA p a2 m2 := hn (a2, m2) (by rw [hSL]; simp)
      have n4 : NA p d2 k2 := hn (d2, k2) (by rw [hSL]; simp)
      have n5 : NA p a3 m3 := hn (a3, m3) (by rw [hSL]; simp)
      have n6 : NA p d3 k3 := hn (d3, k3) (by rw [hSL]; simp)
      exact ⟨q1.put3 n1 n2 _ _ _, q2.put3 n3 n4 _ _ _, q3.put3 n5 n6 _ _ _, xa.put3 (by omega), xb.put3 (by omega), xc.put3 (by omega), below_put3 B (by omega) _ _ _, by simp only [World.size_setCell]; omega⟩
    have RFU : ∀ wr, RF wr → U.heap.size ≤ wr.heap.size := by rw [hRF]; exact fun wr h => h.2.2.2.2.2.2.2
    have RF1 : ∀ wr, RF wr → QI wr 6 n a1 m1 c1 d1 k1 g1 X A := by rw [hRF]; exact fun wr h => h.1
    have RF2 : ∀ wr, RF wr → QI wr 6 m a2 m2 c2 d2 k2 g2 Y B := by rw [hRF]; exact fun wr h => h.2.1
    have RF3 : ∀ wr, RF wr → QI wr 6 o a3 m3 c3 d3 k3 g3 Z C := by rw [hRF]; exact fun wr h => h.2.2.1
    have S0 : FS U.heap.size Y2 [] SL := by
      refine ⟨List.nodup_nil, ?_, fun p hp => by simp at hp⟩
      rw [hSL]
      intro x hx
      simp only [List.mem_cons, List.not_mem_nil, or_false] at hx
      rcases hx with rfl | rfl | rfl | rfl | rfl | rfl
      · exact ⟨_, _, q1.wi.ni.sl⟩
      · exact ⟨_, _, q1.ni.sl⟩
      · exact ⟨_, _, q2.wi.ni.sl⟩
      · exact ⟨_, _, q2.ni.sl⟩
      · exact ⟨_, _, q3.wi.ni.sl⟩
      · exact ⟨_, _, q3.ni.sl⟩
    have R0 : RF Y2 := by rw [hRF]; exact ⟨q1, q2, q3, x_a, x_b, x_c, BB, z_Y2⟩
    clear hSL hRF q1 q2 q3
    go_wp2
    obtain ⟨QQ, hQQ⟩ : ∃ QQ : Exit → Act → World → Prop, QQ = fun e act wr => e = .normal ∧ ∃ (XW : World) (p q : Nat) (v36 v40 v43 : Value) (n7 : Bool) (a7 : Option Addr) (l7 c7 : Nat) (d7 : Option Addr) (m7 k7 : Nat) (n10 : Bool) (a10 : Option Addr) (l10 c10 : Nat) (d10 : Option Addr) (m10 k10 : Nat) (a6 : Option Addr) (l6 : Nat) (d6 : Option Addr) (m6 : Nat) (a8 : Option Addr) (l8 : Nat) (d8 : Option Addr) (m8 : Nat) (a9 : Option Addr) (l9 : Nat) (d9 : Option Addr) (m9 : Nat), act = ⟨#[.agg #[.bool n, .slice a la ca, .slice d ld cd], .agg #[.bool m, .slice b lb cb, .slice g lg cg], .agg #[.bool o, .slice c lc cc, .slice e0 le ce], .pointer (some ⟨w.heap.size, 0, none⟩), .pointer (some ⟨w.heap.size + 1, 0, none⟩), .pointer (some ⟨w.heap.size + 1 + 1, 0, none⟩), .bool false, .pointer (some ⟨p0, 0, none⟩), .int .i64 E, .pointer (some ⟨p, 0, none⟩), .pointer (some ⟨q, 0, none⟩), .agg #[.bool n, .slice a la ca, .slice d ld cd], .agg #[.bool n, .slice a1 m1 c1, .slice d1 k1 g1], .agg #[.bool m, .slice b lb cb, .slice g lg cg], .agg #[.bool m, .slice a2 m2 c2, .slice d2 k2 g2], .agg #[.bool o, .slice c lc cc, .slice e0 le ce], .agg #[.bool o, .slice a3 m3 c3, .slice d3 k3 g3], .tuple #[.agg #[.bool n5, .slice a5 l5 c5, .slice d5 m5 k5], .int .i64 E], .agg #[.bool n, .slice a1 m1 c1, .slice d1 k1 g1], .agg #[.bool m, .slice a2 m2 c2, .slice d2 k2 g2], .agg #[.bool n4, .slice a4 l4 c4, .slice d4 m4 k4], .agg #[.bool m, .slice a2 m2 c2, .slice d2 k2 g2], .tuple #[.agg #[.bool n5, .slice a5 l5 c5, .slice d5 m5 k5], .int .i64 E], .agg #[.bool n5, .slice a5 l5 c5, .slice d5 m5 k5], .int .i64 E, v25, v26, v27, v28, v29, v30, v31, v32, .agg #[.bool n, .slice a1 m1 c1, .slice d1 k1 g1], .agg #[.bool m, .slice a2 m2 c2, .slice d2 k2 g2], .agg #[.bool o, .slice a3 m3 c3, .slice d3 k3 g3], v36, .agg #[.bool n7, .slice a7 l7 c7, .slice d7 m7 k7], .agg #[.bool n, .slice a1 m1 c1, .slice d1 k1 g1], .agg #[.bool m, .slice a2 m2 c2, .slice d2 k2 g2], v40, .agg #[.bool n, .slice a1 m1 c1, .slice d1 k1 g1], .agg #[.bool o, .slice a3 m3 c3, .slice d3 k3 g3], v43, .agg #[.bool n10, .slice a10 l10 c10, .slice d10 m10 k10], undef, undef, undef, undef, undef, undef, undef, undef, undef, undef, undef, undef, undef, undef, undef, undef, undef, undef, undef, undef, undef, undef, undef, undef, undef, undef, undef, undef, undef, undef, undef, undef], []⟩ ∧ wr = ((((((XW.setCell ⟨p, 0, none⟩ (.bool n7)).setCell ⟨p, 1, none⟩ (.slice a7 l7 c7)).setCell ⟨p, 2, none⟩ (.slice d7 m7 k7)).setCell ⟨q, 0, none⟩ (.bool n10)).setCell ⟨q, 1, none⟩ (.slice a10 l10 c10)).setCell ⟨q, 2, none⟩ (.slice d10 m10 k10)) ∧ NP U.heap.size XW p ((a10, l10) :: (d10, m10) :: (a9, l9) :: (d9, m9) :: (a8, l8) :: (d8, m8) :: (a7, l7) :: (d7, m7) :: (a6, l6) :: (d6, m6) :: SL) ∧ NP U.heap.size XW q ((a10, l10) :: (d10, m10) :: (a9, l9) :: (d9, m9) :: (a8, l8) :: (d8, m8) :: (a7, l7) :: (d7, m7) :: (a6, l6) :: (d6, m6) :: SL) ∧ p ≠ q ∧ RF XW ∧ QN XW n7 a7 l7 c7 d7 m7 k7 LN LD ∧ QN XW n10 a10 l10 c10 d10 m10 k10 LN LD := ⟨_, rfl⟩
    have HQQ : Hid _ := hQQ
    clear hQQ
    refine wp_mono (Q := QQ) ?_ ?_
    · refine wp_region_held_drew (S := (fun w' => w'.cell? ⟨w.heap.size, 0, none⟩ = some (.bool n) ∧ w'.cell? ⟨w.heap.size, 1, none⟩ = some (.slice a1 m1 c1) ∧ w'.cell? ⟨w.heap.size, 2, none⟩ = some (.slice d1 k1 g1) ∧ w'.cell? ⟨w.heap.size + 1, 0, none⟩ = some (.bool m) ∧ w'.cell? ⟨w.heap.size + 1, 1, none⟩ = some (.slice a2 m2 c2) ∧ w'.cell? ⟨w.heap.size + 1, 2, none⟩ = some (.slice d2 k2 g2) ∧ w'.cell? ⟨w.heap.size + 1 + 1, 0, none⟩ = some (.bool o) ∧ w'.cell? ⟨w.heap.size + 1 + 1, 1, none⟩ = some (.slice a3 m3 c3) ∧ w'.cell? ⟨w.heap.size + 1 + 1, 2, none⟩ = some (.slice d3 k3 g3) ∧ Below w.heap.size w w')) (by kernel_rfl) ?_ (fun hHeld => ?_)
      · exact ⟨x_a.c0, x_a.c1, x_a.c2, x_b.c0, x_b.c1, x_b.c2, x_c.c0, x_c.c1, x_c.c2, BB.drew⟩
      refine take_yes (i := 0) (v := ?vk0) rfl (by kernel_rfl) (by kernel_rfl) (by kernel_rfl) (fun _ _ _ h => by rw [HQQ.out] at h; exact Exit.noConfusion h.1) (by rfl) (by assumption) ?hyk0 ?restk0
      case hyk0 => (intro w hSw; (try dsimp only at hSw); first | (go_simp; done) | (go_simp; with_reducible rfl))
      simp only [Act.put, List.setIfInBounds_toArray, List.set_cons_zero, List.set_cons_succ]
      refine take_yes (i := 1) (v := ?vk1) rfl (by kernel_rfl) (by kernel_rfl) (by kernel_rfl) (fun _ _ _ h => by rw [HQQ.out] at h; exact Exit.noConfusion h.1) (by rfl) (by assumption) ?hyk1 ?restk1
      case hyk1 => (intro w hSw; (try dsimp only at hSw); first | (go_simp; done) | (go_simp; with_reducible rfl))
      simp only [Act.put, List.setIfInBounds_toArray, List.set_cons_zero, List.set_cons_succ]
      refine take_yes (i := 2) (v := ?vk2) rfl (by kernel_rfl) (by kernel_rfl) (by kernel_rfl) (fun _ _ _ h => by rw [HQQ.out] at h; exact Exit.noConfusion h.1) (by rfl) (by assumption) ?hyk2 ?restk2
      case hyk2 => (intro w hSw; (try dsimp only at hSw); first | (go_simp; done) | (go_simp; with_reducible rfl))
      simp only [Act.put, List.setIfInBounds_toArray, List.set_cons_zero, List.set_cons_succ]
      refine take_yes (i := 5) (v := ?vk5) rfl (by kernel_rfl) (by kernel_rfl) (by kernel_rfl) (fun _ _ _ h => by rw [HQQ.out] at h; exact Exit.noConfusion h.1) (by rfl) (by assumption) ?hyk5 ?restk5
      case hyk5 => (intro w hSw; (try dsimp only at hSw); first | (go_simp; done) | (go_simp; with_reducible rfl))
      simp only [Act.put, List.setIfInBounds_toArray, List.set_cons_zero, List.set_cons_succ]
      refine take_yes (i := 6) (v := ?vk6) rfl (by kernel_rfl) (by kernel_rfl) (by kernel_rfl) (fun _ _ _ h => by rw [HQQ.out] at h; exact Exit.noConfusion h.1) (by rfl) (by assumption) ?hyk6 ?restk6
      case hyk6 => (intro w hSw; (try dsimp only at hSw); first | (go_simp; done) | (go_simp; with_reducible rfl))
      simp only [Act.put, List.setIfInBounds_toArray, List.set_cons_zero, List.set_cons_succ]
      refine take_yes (i := 8) (v := ?vk8) rfl (by kernel_rfl) (by kernel_rfl) (by kernel_rfl) (fun _ _ _ h => by rw [HQQ.out] at h; exact Exit.noConfusion h.1) (by rfl) (by assumption) ?hyk8 ?restk8
      case hyk8 => (intro w hSw; (try dsimp only at hSw); first | (go_simp; done) | (go_simp; with_reducible rfl))
      simp only [Act.put, List.setIfInBounds_toArray, List.set_cons_zero, List.set_cons_succ]
      refine take_yes (i := 9) (v := ?vk9) rfl (by kernel_rfl) (by kernel_rfl) (by kernel_rfl) (fun _ _ _ h => by rw [HQQ.out] at h; exact Exit.noConfusion h.1) (by rfl) (by assumption) ?hyk9 ?restk9
      case hyk9 => (intro w hSw; (try dsimp only at hSw); first | (go_simp; done) | (go_simp; with_reducible rfl))
      simp only [Act.put, List.setIfInBounds_toArray, List.set_cons_zero, List.set_cons_succ]
      have b0 : Below Y2.heap.size Y2 Y2.drew := (Below.refl _ _).drew
      have R := RFon _ _ R0 b0
      have S : FS U.heap.size Y2.drew [] SL := fsDrew S0
      clear b0 R0 S0 x_a x_b x_c BB z_Y2
      generalize Y2.drew = X0 at R S hHeld ⊢
      have C3 := fun w (R : RF w) => qAdd m a2 m2 c2 d2 k2 g2 Y B o a3 m3 c3 d3 k3 g3 Z C 6 w (RF2 _ R) (RF3 _ R) SN SD HSN.out HSD.out
      have C4 := fun n6 a6 l6 c6 d6 m6 k6 w (R : RF w) (h6 : QN w n6 a6 l6 c6 d6 m6 k6 SN SD) => qMul n a1 m1 c1 d1 k1 g1 X A n6 a6 l6 c6 d6 m6 k6 SN SD 13 w ((RF1 _ R).more (by decide) (by decide)) (h6.qi 13 (by decide) (by decide) BSN.out BSD.out) LN LD HLN.out HLD.out
      have C7 := fun w (R : RF w) => qMul n a1 m1 c1 d1 k1 g1 X A m a2 m2 c2 d2 k2 g2 Y B 6 w (RF1 _ R) (RF2 _ R) MN MD HMN.out HMD.out
      have C10 := fun w (R : RF w) => qMul n a1 m1 c1 d1 k1 g1 X A o a3 m3 c3 d3 k3 g3 Z C 6 w (RF1 _ R) (RF3 _ R) PN PD HPN.out HPD.out
      have C11 := fun n8 a8 l8 c8 d8 m8 k8 n9 a9 l9 c9 d9 m9 k9 w (h8 : QN w n8 a8 l8 c8 d8 m8 k8 MN MD) (h9 : QN w n9 a9 l9 c9 d9 m9 k9 PN PD) => qAdd n8 a8 l8 c8 d8 m8 k8 MN MD n9 a9 l9 c9 d9 m9 k9 PN PD 12 w (h8.qi 12 (by decide) (by decide) BMN.out BMD.out) (h9.qi 12 (by decide) (by decide) BPN.out BPD.out) LN LD HRN.out HRD.out
      replace C3 : Hid _ := C3
      replace C4 : Hid _ := C4
      replace C7 : Hid _ := C7
      replace C10 : Hid _ := C10
      replace C11 : Hid _ := C11
      refine wpAnyH_ready (rs := [3, 12, 13]) (by kernel_rfl) (by simp) (AllReadyH.cons (i := 3) rfl (fun Kc hK => ?_) (AllReadyH.cons (i := 12) rfl (fun Kc hK => ?_) (AllReadyH.cons (i := 13) rfl (fun Kc hK => ?_) AllReadyH.nil)))
      go_simp
      (go_at_call 8; refine (C3.out _ R).mono ?_; rintro e X1 ⟨n6, a6, l6, c6, d6, m6, k6, rfl, h6, f6, j6, b⟩)
      refine hK.out _ _ (keep9 hHeld b) (fun hHeld => ?_)
      clear hK Kc
      replace S := S.qn b h6 f6 j6
      replace R := RFon _ _ R b
      clear b f6 j6
      refine wpAnyH_ready (rs := [4, 12, 13]) (by kernel_rfl) (by simp) (AllReadyH.cons (i := 4) rfl (fun Kc hK => ?_) (AllReadyH.cons (i := 12) rfl (fun Kc hK => ?_) (AllReadyH.cons (i := 13) rfl (fun Kc hK => ?_) AllReadyH.nil)))
      go_simp
      (go_at_call 6; refine (C4.out n6 a6 l6 c6 d6 m6 k6 _ R h6).mono ?_; rintro e X2 ⟨n7, a7, l7, c7, d7, m7, k7, rfl, h7, f7, j7, b⟩)
      refine hK.out _ _ (keep9 hHeld b) (fun hHeld => ?_)
      clear hK Kc
      replace S := S.qn b h7 f7 j7
      replace R := RFon _ _ R b
      replace h6 := h6.below b
      clear b f7 j7
      refine wpAnyH_ready (rs := [7, 12, 13]) (by kernel_rfl) (by simp) (AllReadyH.cons (i := 7) rfl (fun Kc hK => ?_) (AllReadyH.cons (i := 12) rfl (fun Kc hK => ?_) (AllReadyH.cons (i := 13) rfl (fun Kc hK => ?_) AllReadyH.nil)))
      go_simp
      (go_at_call 6; refine (C7.out _ R).mono ?_; rintro e X3 ⟨n8, a8, l8, c8, d8, m8, k8, rfl, h8, f8, j8, b⟩)
      refine hK.out _ _ (keep9 hHeld b) (fun hHeld => ?_)
      clear hK Kc
      replace S := S.qn b h8 f8 j8
      replace R := RFon _ _ R b
      replace h6 := h6.below b
      replace h7 := h7.below b
      clear b f8 j8
      refine wpAnyH_ready (rs := [10, 12, 13]) (by kernel_rfl) (by simp) (AllReadyH.cons (i := 10) rfl (fun Kc hK => ?_) (AllReadyH.cons (i := 12) rfl (fun Kc hK => ?_) (AllReadyH.cons (i := 13) rfl (fun Kc hK => ?_) AllReadyH.nil)))
      go_simp
      (go_at_call 6; refine (C10.out _ R).mono ?_; rintro e X4 ⟨n9, a9, l9, c9, d9, m9, k9, rfl, h9, f9, j9, b⟩)
      refine hK.out _ _ (keep9 hHeld b) (fun hHeld => ?_)
      clear hK Kc
      replace S := S.qn b h9 f9 j9
      replace R := RFon _ _ R b
      replace h6 := h6.below b
      replace h7 := h7.below b
      replace h8 := h8.below b
      clear b f9 j9
      refine wpAnyH_ready (rs := [11, 12, 13]) (by kernel_rfl) (by simp) (AllReadyH.cons (i := 11) rfl (fun Kc hK => ?_) (AllReadyH.cons (i := 12) rfl (fun Kc hK => ?_) (AllReadyH.cons (i := 13) rfl (fun Kc hK => ?_) AllReadyH.nil)))
      go_simp
      (go_at_call 8; refine (C11.out n8 a8 l8 c8 d8 m8 k8 n9 a9 l9 c9 d9 m9 k9 _ h8 h9).mono ?_; rintro e X5 ⟨n10, a10, l10, c10, d10, m10, k10, rfl, h10, f10, j10, b⟩)
      refine hK.out _ _ (keep9 hHeld b) (fun hHeld => ?_)
      clear hK Kc
      replace S := S.qn b h10 f10 j10
      replace R := RFon _ _ R b
      replace h6 := h6.below b
      replace h7 := h7.below b
      replace h8 := h8.below b
      replace h9 := h9.below b
      clear b f10 j10
      refine wpAnyH_ready (rs := [12, 13]) (by kernel_rfl) (by simp) (AllReadyH.cons (i := 12) rfl (fun Kc hK => ?_) (AllReadyH.cons (i := 13) rfl (fun Kc hK => ?_) AllReadyH.nil))
      go_simp
      have b := bnew X5
      refine hK.out _ _ (keep9 hHeld b) (fun hHeld => ?_)
      clear hK Kc
      replace S := S.new 27 (RFU _ R)
      replace R := RFon _ _ R b
      replace h6 := h6.below b
      replace h7 := h7.below b
      replace h8 := h8.below b
      replace h9 := h9.below b
      replace h10 := h10.below b
      clear b
      generalize X5.alloc (.cells #[.bool false, .slice none 0 0, .slice none 0 0] 27) = X6 at S R hHeld h6 h7 h8 h9 h10 ⊢
      generalize X5.heap.size = p at S ⊢
      refine take_call (i := 13) rfl (by kernel_rfl) (fun Kc hK => ?_)
      go_simp
      have b := bnew X6
      refine hK.out _ _ (keep9 hHeld b) (fun hHeld => ?_)
      clear hK Kc
      replace S := S.new 27 (RFU _ R)
      replace R := RFon _ _ R b
      replace h6 := h6.below b
      replace h7 := h7.below b
      replace h8 := h8.below b
      replace h9 := h9.below b
      replace h10 := h10.below b
      clear b
      generalize X6.alloc (.cells #[.bool false, .slice none 0 0, .slice none 0 0] 27) = X7 at S R hHeld h6 h7 h8 h9 h10 ⊢
      generalize X6.heap.size = q at S ⊢
      obtain ⟨Sp, Sq, pq⟩ := fsTwo S
      have gp := Sp.1
      have gq := Sq.1
      have ⟨y0, y1, y2, y3, y4, y5⟩ := Sp.2.1
      refine take_call (i := 14) rfl (by kernel_rfl) (fun Kc hK => ?_)
      go_simp
      refine hK.out _ _ (keep9p hHeld (by omega) (by omega) (by omega) (by omega) _ _ _) (fun hHeld => ?_)
      clear hK Kc
      have ⟨i0, i1, i2, i3, i4, i5⟩ := Sq.2.1.put3 (u := (.bool n7)) (v := (.slice a7 l7 c7)) (t := (.slice d7 m7 k7)) pq
      refine take_call (i := 15) rfl (by kernel_rfl) (fun Kc hK => ?_)
      go_simp
      refine hK.out _ _ (keep9p hHeld (by omega) (by omega) (by omega) (by omega) _ _ _) (fun hHeld => ?_)
      clear hK Kc
      refine wpAnyH_done (by kernel_rfl) ?_ _
      rw [HQQ.out]
      exact ⟨rfl, _, p, q, _, _, _, n7, a7, l7, c7, d7, m7, k7, n10, a10, l10, c10, d10, m10, k10, _, _, _, _, _, _, _, _, _, _, _, _, rfl, rfl, Sp, Sq, pq, R, h7, h10⟩
      go_simp
      have b := bnew X5
      refine hK.out _ _ (keep9 hHeld b) (fun hHeld => ?_)
      clear hK Kc
      replace S := S.new 27 (RFU _ R)
      replace R := RFon _ _ R b
      replace h6 := h6.below b
      replace h7 := h7.below b
      replace h8 := h8.below b
      replace h9 := h9.below b
      replace h10 := h10.below b
      clear b
      generalize X5.alloc (.cells #[.bool false, .slice none 0 0, .slice none 0 0] 27) = X8 at S R hHeld h6 h7 h8 h9 h10 ⊢
      generalize X5.heap.size = q at S ⊢
      refine take_call (i := 12) rfl (by kernel_rfl) (fun Kc hK => ?_)
      go_simp
      have b := bnew X8
      refine hK.out _ _ (keep9 hHeld b) (fun hHeld => ?_)
      clear hK Kc
      replace S := S.new 27 (RFU _ R)
      replace R := RFon _ _ R b
      replace h6 := h6.below b
      replace h7 := h7.below b
      replace h8 := h8.below b
      replace h9 := h9.below b
      replace h10 := h10.below b
      clear b
      generalize X8.alloc (.cells #[.bool false, .slice none 0 0, .slice none 0 0] 27) = X9 at S R hHeld h6 h7 h8 h9 h10 ⊢
      generalize X8.heap.size = p at S ⊢
      obtain ⟨Sp, Sq, pq⟩ := fsOne S
      have gp := Sp.1
      have gq := Sq.1
      have ⟨y0, y1, y2, y3, y4, y5⟩ := Sp.2.1
      refine take_call (i := 14) rfl (by kernel_rfl) (fun Kc hK => ?_)
      go_simp
      refine hK.out _ _ (keep9p hHeld (by omega) (by omega) (by omega) (by omega) _ _ _) (fun hHeld => ?_)
      clear hK Kc
      have ⟨i0, i1, i2, i3, i4, i5⟩ := Sq.2.1.put3 (u := (.bool n7)) (v := (.slice a7 l7 c7)) (t := (.slice d7 m7 k7)) pq
      refine take_call (i := 15) rfl (by kernel_rfl) (fun Kc hK => ?_)
      go_simp
      refine hK.out _ _ (keep9p hHeld (by omega) (by omega) (by omega) (by omega) _ _ _) (fun hHeld => ?_)
      clear hK Kc
      refine wpAnyH_done (by kernel_rfl) ?_ _
      rw [HQQ.out]
      exact ⟨rfl, _, p, q, _, _, _, n7, a7, l7, c7, d7, m7, k7, n10, a10, l10, c10, d10, m10, k10, _, _, _, _, _, _, _, _, _, _, _, _, rfl, rfl, Sp, Sq, pq, R, h7, h10⟩
      go_simp
      have b := bnew X4
      refine hK.out _ _ (keep9 hHeld b) (fun hHeld => ?_)
      clear hK Kc
      replace S := S.new 27 (RFU _ R)
      replace R := RFon _ _ R b
      replace h6 := h6.below b
      replace h7 := h7.below b
      replace h8 := h8.below b
      replace h9 := h9.below b
      clear b
      generalize X4.alloc (.cells #[.bool false, .slice none 0 0, .slice none 0 0] 27) = X10 at S R hHeld h6 h7 h8 h9 ⊢
      generalize X4.heap.size = p at S ⊢
      refine wpAnyH_ready (rs := [11, 13]) (by kernel_rfl) (by simp) (AllReadyH.cons (i := 11) rfl (fun Kc hK => ?_) (AllReadyH.cons (i := 13) rfl (fun Kc hK => ?_) AllReadyH.nil))
      go_simp
      (go_at_call 8; refine (C11.out n8 a8 l8 c8 d8 m8 k8 n9 a9 l9 c9 d9 m9 k9 _ h8 h9).mono ?_; rintro e X11 ⟨n10, a10, l10, c10, d10, m10, k10, rfl, h10, f10, j10, b⟩)
      refine hK.out _ _ (keep9 hHeld b) (fun hHeld => ?_)
      clear hK Kc
      replace S := S.qn b h10 f10 j10
      replace R := RFon _ _ R b
      replace h6 := h6.below b
      replace h7 := h7.below b
      replace h8 := h8.below b
      replace h9 := h9.below b
      clear b f10 j10
      refine take_call (i := 13) rfl (by kernel_rfl) (fun Kc hK => ?_)
      go_simp
      have b := bnew X11
      refine hK.out _ _ (keep9 hHeld b) (fun hHeld => ?_)
      clear hK Kc
      replace S := S.new 27 (RFU _ R)
      replace R := RFon _ _ R b
      replace h6 := h6.below b
      replace h7 := h7.below b
      replace h8 := h8.below b
      replace h9 := h9.below b
      replace h10 := h10.below b
      clear b
      generalize X11.alloc (.cells #[.bool false, .slice none 0 0, .slice none 0 0] 27) = X12 at S R hHeld h6 h7 h8 h9 h10 ⊢
      generalize X11.heap.size = q at S ⊢
      obtain ⟨Sp, Sq, pq⟩ := fsTwo S
      have gp := Sp.1
      have gq := Sq.1
      have ⟨y0, y1, y2, y3, y4, y5⟩ := Sp.2.1
      refine take_call (i := 14) rfl (by kernel_rfl) (fun Kc hK => ?_)
      go_simp
      refine hK.out _ _ (keep9p hHeld (by omega) (by omega) (by omega) (by omega) _ _ _) (fun hHeld => ?_)
      clear hK Kc
      have ⟨i0, i1, i2, i3, i4, i5⟩ := Sq.2.1.put3 (u := (.bool n7)) (v := (.slice a7 l7 c7)) (t := (.slice d7 m7 k7)) pq
      refine take_call (i := 15) rfl (by kernel_rfl) (fun Kc hK => ?_)
      go_simp
      refine hK.out _ _ (keep9p hHeld (by omega) (by omega) (by omega) (by omega) _ _ _) (fun hHeld => ?_)
      clear hK Kc
      refine wpAnyH_done (by kernel_rfl) ?_ _
      rw [HQQ.out]
      exact ⟨rfl, _, p, q, _, _, _, n7, a7, l7, c7, d7, m7, k7, n10, a10, l10, c10, d10, m10, k10, _, _, _, _, _, _, _, _, _, _, _, _, rfl, rfl, Sp, Sq, pq, R, h7, h10⟩
      go_simp
      have b := bnew X10
      refine hK.out _ _ (keep9 hHeld b) (fun hHeld => ?_)
      clear hK Kc
      replace S := S.new 27 (RFU _ R)
      replace R := RFon _ _ R b
      replace h6 := h6.below b
      replace h7 := h7.below b
      replace h8 := h8.below b
      replace h9 := h9.below b
      clear b
      generalize X10.alloc (.cells #[.bool false, .slice none 0 0, .slice none 0 0] 27) = X13 at S R hHeld h6 h7 h8 h9 ⊢
      generalize X10.heap.size = q at S ⊢
      refine take_call (i := 11) rfl (by kernel_rfl) (fun Kc hK => ?_)
      go_simp
      (go_at_call 8; refine (C11.out n8 a8 l8 c8 d8 m8 k8 n9 a9 l9 c9 d9 m9 k9 _ h8 h9).mono ?_; rintro e X14 ⟨n10, a10, l10, c10, d10, m10, k10, rfl, h10, f10, j10, b⟩)
      refine hK.out _ _ (keep9 hHeld b) (fun hHeld => ?_)
      clear hK Kc
      replace S := S.qn b h10 f10 j10
      replace R := RFon _ _ R b
      replace h6 := h6.below b
      replace h7 := h7.below b
      replace h8 := h8.below b
      replace h9 := h9.below b
      clear b f10 j10
      obtain ⟨Sp, Sq, pq⟩ := fsTwo S
      have gp := Sp.1
      have gq := Sq.1
      have ⟨y0, y1, y2, y3, y4, y5⟩ := Sp.2.1
      refine take_call (i := 14) rfl (by kernel_rfl) (fun Kc hK => ?_)
      go_simp
      refine hK.out _ _ (keep9p hHeld (by omega) (by omega) (by omega) (by omega) _ _ _) (fun hHeld => ?_)
      clear hK Kc
      have ⟨i0, i1, i2, i3, i4, i5⟩ := Sq.2.1.put3 (u := (.bool n7)) (v := (.slice a7 l7 c7)) (t := (.slice d7 m7 k7)) pq
      refine take_call (i := 15) rfl (by kernel_rfl) (fun Kc hK => ?_)
      go_simp
      refine hK.out _ _ (keep9p hHeld (by omega) (by omega) (by omega) (by omega) _ _ _) (fun hHeld => ?_)
      clear hK Kc
      refine wpAnyH_done (by kernel_rfl) ?_ _
      rw [HQQ.out]
      exact ⟨rfl, _, p, q, _, _, _, n7, a7, l7, c7, d7, m7, k7, n10, a10, l10, c10, d10, m10, k10, _, _, _, _, _, _, _, _, _, _, _, _, rfl, rfl, Sp, Sq, pq, R, h7, h10⟩
      go_simp
      have b := bnew X4
      refine hK.out _ _ (keep9 hHeld b) (fun hHeld => ?_)
      clear hK Kc
      replace S := S.new 27 (RFU _ R)
      replace R := RFon _ _ R b
      replace h6 := h6.below b
      replace h7 := h7.below b
      replace h8 := h8.below b
      replace h9 := h9.below b
      clear b
      generalize X4.alloc (.cells #[.bool false, .slice none 0 0, .slice none 0 0] 27) = X15 at S R hHeld h6 h7 h8 h9 ⊢
      generalize X4.heap.size = q at S ⊢
      refine wpAnyH_ready (rs := [11, 12]) (by kernel_rfl) (by simp) (AllReadyH.cons (i := 11) rfl (fun Kc hK => ?_) (AllReadyH.cons (i := 12) rfl (fun Kc hK => ?_) AllReadyH.nil))
      go_simp
      (go_at_call 8; refine (C11.out n8 a8 l8 c8 d8 m8 k8 n9 a9 l9 c9 d9 m9 k9 _ h8 h9).mono ?_; rintro e X16 ⟨n10, a10, l10, c10, d10, m10, k10, rfl, h10, f10, j10, b⟩)
      refine hK.out _ _ (keep9 hHeld b) (fun hHeld => ?_)
      clear hK Kc
      replace S := S.qn b h10 f10 j10
      replace R := RFon _ _ R b
      replace h6 := h6.below b
      replace h7 := h7.below b
      replace h8 := h8.below b
      replace h9 := h9.below b
      clear b f10 j10
      refine take_call (i := 12) rfl (by kernel_rfl) (fun Kc hK => ?_)
      go_simp
      have b := bnew X16
      refine hK.out _ _ (keep9 hHeld b) (fun hHeld => ?_)
      clear hK Kc
      replace S := S.new 27 (RFU _ R)
      replace R := RFon _ _ R b
      replace h6 := h6.below b
      replace h7 := h7.below b
      replace h8 := h8.below b
      replace h9 := h9.below b
      replace h10 := h10.below b
      clear b
      generalize X16.alloc (.cells #[.bool false, .slice none 0 0, .slice none 0 0] 27) = X17 at S R hHeld h6 h7 h8 h9 h10 ⊢
      generalize X16.heap.size = p at S ⊢
      obtain ⟨Sp, Sq, pq⟩ := fsOne S
      have gp := Sp.1
      have gq := Sq.1
      have ⟨y0, y1, y2, y3, y4, y5⟩ := Sp.2.1
      refine take_call (i := 14) rfl (by kernel_rfl) (fun Kc hK => ?_)
      go_simp
      refine hK.out _ _ (keep9p hHeld (by omega) (by omega) (by omega) (by omega) _ _ _) (fun hHeld => ?_)
      clear hK Kc
      have ⟨i0, i1, i2, i3, i4, i5⟩ := Sq.2.1.put3 (u := (.bool n7)) (v := (.slice a7 l7 c7)) (t := (.slice d7 m7 k7)) pq
      refine take_call (i := 15) rfl (by kernel_rfl) (fun Kc hK => ?_)
      go_simp
      refine hK.out _ _ (keep9p hHeld (by omega) (by omega) (by omega) (by omega) _ _ _) (fun hHeld => ?_)
      clear hK Kc
      refine wpAnyH_done (by kernel_rfl) ?_ _
      rw [HQQ.out]
      exact ⟨rfl, _, p, q, _, _, _, n7, a7, l7, c7, d7, m7, k7, n10, a10, l10, c10, d10, m10, k10, _, _, _, _, _, _, _, _, _, _, _, _, rfl, rfl, Sp, Sq, pq, R, h7, h10⟩
      go_simp
      have b := bnew X15
      refine hK.out _ _ (keep9 hHeld b) (fun hHeld => ?_)
      clear hK Kc
      replace S := S.new 27 (RFU _ R)
      replace R := RFon _ _ R b
      replace h6 := h6.below b
      replace h7 := h7.below b
      replace h8 := h8.below b
      replace h9 := h9.below b
      clear b
      generalize X15.alloc (.cells #[.bool false, .slice none 0 0, .slice none 0 0] 27) = X18 at S R hHeld h6 h7 h8 h9 ⊢
      generalize X15.heap.size = p at S ⊢
      refine take_call (i := 11) rfl (by kernel_rfl) (fun Kc hK => ?_)
      go_simp
      (go_at_call 8; refine (C11.out n8 a8 l8 c8 d8 m8 k8 n9 a9 l9 c9 d9 m9 k9 _ h8 h9).mono ?_; rintro e X19 ⟨n10, a10, l10, c10, d10, m10, k10, rfl, h10, f10, j10, b⟩)
      refine hK.out _ _ (keep9 hHeld b) (fun hHeld => ?_)
      clear hK Kc
      replace S := S.qn b h10 f10 j10
      replace R := RFon _ _ R b
      replace h6 := h6.below b
      replace h7 := h7.below b
      replace h8 := h8.below b
      replace h9 := h9.below b
      clear b f10 j10
      obtain ⟨Sp, Sq, pq⟩ := fsOne S
      have gp := Sp.1
      have gq := Sq.1
      have ⟨y0, y1, y2, y3, y4, y5⟩ := Sp.2.1
      refine take_call (i := 14) rfl (by kernel_rfl) (fun Kc hK => ?_)
      go_simp
      refine hK.out _ _ (keep9p hHeld (by omega) (by omega) (by omega) (by omega) _ _ _) (fun hHeld => ?_)
      clear hK Kc
      have ⟨i0, i1, i2, i3, i4, i5⟩ := Sq.2.1.put3 (u := (.bool n7)) (v := (.slice a7 l7 c7)) (t := (.slice d7 m7 k7)) pq
      refine take_call (i := 15) rfl (by kernel_rfl) (fun Kc hK => ?_)
      go_simp
      refine hK.out _ _ (keep9p hHeld (by omega) (by omega) (by omega) (by omega) _ _ _) (fun hHeld => ?_)
      clear hK Kc
      refine wpAnyH_done (by kernel_rfl) ?_ _
      rw [HQQ.out]
      exact ⟨rfl, _, p, q, _, _, _, n7, a7, l7, c7, d7, m7, k7, n10, a10, l10, c10, d10, m10, k10, _, _, _, _, _, _, _, _, _, _, _, _, rfl, rfl, Sp, Sq, pq, R, h7, h10⟩
      go_simp
      have b := bnew X3
      refine hK.out _ _ (keep9 hHeld b) (fun hHeld => ?_)
      clear hK Kc
      replace S := S.new 27 (RFU _ R)
      replace R := RFon _ _ R b
      replace h6 := h6.below b
      replace h7 := h7.below b
      replace h8 := h8.below b
      clear b
      generalize X3.alloc (.cells #[.bool false, .slice none 0 0, .slice none 0 0] 27) = X20 at S R hHeld h6 h7 h8 ⊢
      generalize X3.heap.size = p at S ⊢
      refine wpAnyH_ready (rs := [10, 13]) (by kernel_rfl) (by simp) (AllReadyH.cons (i := 10) rfl (fun Kc hK => ?_) (AllReadyH.cons (i := 13) rfl (fun Kc hK => ?_) AllReadyH.nil))
      go_simp
      (go_at_call 6; refine (C10.out _ R).mono ?_; rintro e X21 ⟨n9, a9, l9, c9, d9, m9, k9, rfl, h9, f9, j9, b⟩)
      refine hK.out _ _ (keep9 hHeld b) (fun hHeld => ?_)
      clear hK Kc
      replace S := S.qn b h9 f9 j9
      replace R := RFon _ _ R b
      replace h6 := h6.below b
      replace h7 := h7.below b
      replace h8 := h8.below b
      clear b f9 j9
      refine wpAnyH_ready (rs := [11, 13]) (by kernel_rfl) (by simp) (AllReadyH.cons (i := 11) rfl (fun Kc hK => ?_) (AllReadyH.cons (i := 13) rfl (fun Kc hK => ?_) AllReadyH.nil))
      go_simp
      (go_at_call 8; refine (C11.out n8 a8 l8 c8 d8 m8 k8 n9 a9 l9 c9 d9 m9 k9 _ h8 h9).mono ?_; rintro e X22 ⟨n10, a10, l10, c10, d10, m10, k10, rfl, h10, f10, j10, b⟩)
      refine hK.out _ _ (keep9 hHeld b) (fun hHeld => ?_)
      clear hK Kc
      replace S := S.qn b h10 f10 j10
      replace R := RFon _ _ R b
      replace h6 := h6.below b
      replace h7 := h7.below b
      replace h8 := h8.below b
      replace h9 := h9.below b
      clear b f10 j10
      refine take_call (i := 13) rfl (by kernel_rfl) (fun Kc hK => ?_)
      go_simp
      have b := bnew X22
      refine hK.out _ _ (keep9 hHeld b) (fun hHeld => ?_)
      clear hK Kc
      replace S := S.new 27 (RFU _ R)
      replace R := RFon _ _ R b
      replace h6 := h6.below b
      replace h7 := h7.below b
      replace h8 := h8.below b
      replace h9 := h9.below b
      replace h10 := h10.below b
      clear b
      generalize X22.alloc (.cells #[.bool false, .slice none 0 0, .slice none 0 0] 27) = X23 at S R hHeld h6 h7 h8 h9 h10 ⊢
      generalize X22.heap.size = q at S ⊢
      obtain ⟨Sp, Sq, pq⟩ := fsTwo S
      have gp := Sp.1
      have gq := Sq.1
      have ⟨y0, y1, y2, y3, y4, y5⟩ := Sp.2.1
      refine take_call (i := 14) rfl (by kernel_rfl) (fun Kc hK => ?_)
      go_simp
      refine hK.out _ _ (keep9p hHeld (by omega) (by omega) (by omega) (by omega) _ _ _) (fun hHeld => ?_)
      clear hK Kc
      have ⟨i0, i1, i2, i3, i4, i5⟩ := Sq.2.1.put3 (u := (.bool n7)) (v := (.slice a7 l7 c7)) (t := (.slice d7 m7 k7)) pq
      refine take_call (i := 15) rfl (by kernel_rfl) (fun Kc hK => ?_)
      go_simp
      refine hK.out _ _ (keep9p hHeld (by omega) (by omega) (by omega) (by omega) _ _ _) (fun hHeld => ?_)
      clear hK Kc
      refine wpAnyH_done (by kernel_rfl) ?_ _
      rw [HQQ.out]
      exact ⟨rfl, _, p, q, _, _, _, n7, a7, l7, c7, d7, m7, k7, n10, a10, l10, c10, d10, m10, k10, _, _, _, _, _, _, _, _, _, _, _, _, rfl, rfl, Sp, Sq, pq, R, h7, h10⟩
      go_simp
      have b := bnew X21
      refine hK.out _ _ (keep9 hHeld b) (fun hHeld => ?_)
      clear hK Kc
      replace S := S.new 27 (RFU _ R)
      replace R := RFon _ _ R b
      replace h6 := h6.below b
      replace h7 := h7.below b
      replace h8 := h8.below b
      replace h9 := h9.below b
      clear b
      generalize X21.alloc (.cells #[.bool false, .slice none 0 0, .slice none 0 0] 27) = X24 at S R hHeld h6 h7 h8 h9 ⊢
      generalize X21.heap.size = q at S ⊢
      refine take_call (i := 11) rfl (by kernel_rfl) (fun Kc hK => ?_)
      go_simp
      (go_at_call 8; refine (C11.out n8 a8 l8 c8 d8 m8 k8 n9 a9 l9 c9 d9 m9 k9 _ h8 h9).mono ?_; rintro e X25 ⟨n10, a10, l10, c10, d10, m10, k10, rfl, h10, f10, j10, b⟩)
      refine hK.out _ _ (keep9 hHeld b) (fun hHeld => ?_)
      clear hK Kc
      replace S := S.qn b h10 f10 j10
      replace R := RFon _ _ R b
      replace h6 := h6.below b
      replace h7 := h7.below b
      replace h8 := h8.below b
      replace h9 := h9.below b
      clear b f10 j10
      obtain ⟨Sp, Sq, pq⟩ := fsTwo S
      have gp := Sp.1
      have gq := Sq.1
      have ⟨y0, y1, y2, y3, y4, y5⟩ := Sp.2.1
      refine take_call (i := 14) rfl (by kernel_rfl) (fun Kc hK => ?_)
      go_simp
      refine hK.out _ _ (keep9p hHeld (by omega) (by omega) (by omega) (by omega) _ _ _) (fun hHeld => ?_)
      clear hK Kc
      have ⟨i0, i1, i2, i3, i4, i5⟩ := Sq.2.1.put3 (u := (.bool n7)) (v := (.slice a7 l7 c7)) (t := (.slice d7 m7 k7)) pq
      refine take_call (i := 15) rfl (by kernel_rfl) (fun Kc hK => ?_)
      go_simp
      refine hK.out _ _ (keep9p hHeld (by omega) (by omega) (by omega) (by omega) _ _ _) (fun hHeld => ?_)
      clear hK Kc
      refine wpAnyH_done (by kernel_rfl) ?_ _
      rw [HQQ.out]
      exact ⟨rfl, _, p, q, _, _, _, n7, a7, l7, c7, d7, m7, k7, n10, a10, l10, c10, d10, m10, k10, _, _, _, _, _, _, _, _, _, _, _, _, rfl, rfl, Sp, Sq, pq, R, h7, h10⟩
      go_simp
      have b := bnew X20
      refine hK.out _ _ (keep9 hHeld b) (fun hHeld => ?_)
      clear hK Kc
      replace S := S.new 27 (RFU _ R)
      replace R := RFon _ _ R b
      replace h6 := h6.below b
      replace h7 := h7.below b
      replace h8 := h8.below b
      clear b
      generalize X20.alloc (.cells #[.bool false, .slice none 0 0, .slice none 0 0] 27) = X26 at S R hHeld h6 h7 h8 ⊢
      generalize X20.heap.size = q at S ⊢
      refine take_call (i := 10) rfl (by kernel_rfl) (fun Kc hK => ?_)
      go_simp
      (go_at_call 6; refine (C10.out _ R).mono ?_; rintro e X27 ⟨n9, a9, l9, c9, d9, m9, k9, rfl, h9, f9, j9, b⟩)
      refine hK.out _ _ (keep9 hHeld b) (fun hHeld => ?_)
      clear hK Kc
      replace S := S.qn b h9 f9 j9
      replace R := RFon _ _ R b
      replace h6 := h6.below b
      replace h7 := h7.below b
      replace h8 := h8.below b
      clear b f9 j9
      refine take_call (i := 11) rfl (by kernel_rfl) (fun Kc hK => ?_)
      go_simp
      (go_at_call 8; refine (C11.out n8 a8 l8 c8 d8 m8 k8 n9 a9 l9 c9 d9 m9 k9 _ h8 h9).mono ?_; rintro e X28 ⟨n10, a10, l10, c10, d10, m10, k10, rfl, h10, f10, j10, b⟩)
      refine hK.out _ _ (keep9 hHeld b) (fun hHeld => ?_)
      clear hK Kc
      replace S := S.qn b h10 f10 j10
      replace R := RFon _ _ R b
      replace h6 := h6.below b
      replace h7 := h7.below b
      replace h8 := h8.below b
      replace h9 := h9.below b
      clear b f10 j10
      obtain ⟨Sp, Sq, pq⟩ := fsTwo S
      have gp := Sp.1
      have gq := Sq.1
      have ⟨y0, y1, y2, y3, y4, y5⟩ := Sp.2.1
      refine take_call (i := 14) rfl (by kernel_rfl) (fun Kc hK => ?_)
      go_simp
      refine hK.out _ _ (keep9p hHeld (by omega) (by omega) (by omega) (by omega) _ _ _) (fun hHeld => ?_)
      clear hK Kc
      have ⟨i0, i1, i2, i3, i4, i5⟩ := Sq.2.1.put3 (u := (.bool n7)) (v := (.slice a7 l7 c7)) (t := (.slice d7 m7 k7)) pq
      refine take_call (i := 15) rfl (by kernel_rfl) (fun Kc hK => ?_)
      go_simp
      refine hK.out _ _ (keep9p hHeld (by omega) (by omega) (by omega) (by omega) _ _ _) (fun hHeld => ?_)
      clear hK Kc
      refine wpAnyH_done (by kernel_rfl) ?_ _
      rw [HQQ.out]
      exact ⟨rfl, _, p, q, _, _, _, n7, a7, l7, c7, d7, m7, k7, n10, a10, l10, c10, d10, m10, k10, _, _, _, _, _, _, _, _, _, _, _, _, rfl, rfl, Sp, Sq, pq, R, h7, h10⟩
      go_simp
      have b := bnew X3
      refine hK.out _ _ (keep9 hHeld b) (fun hHeld => ?_)
      clear hK Kc
      replace S := S.new 27 (RFU _ R)
      replace R := RFon _ _ R b
      replace h6 := h6.below b
      replace h7 := h7.below b
      replace h8 := h8.below b
      clear b
      generalize X3.alloc (.cells #[.bool false, .slice none 0 0, .slice none 0 0] 27) = X29 at S R hHeld h6 h7 h8 ⊢
      generalize X3.heap.size = q at S ⊢
      refine wpAnyH_ready (rs := [10, 12]) (by kernel_rfl) (by simp) (AllReadyH.cons (i := 10) rfl (fun Kc hK => ?_) (AllReadyH.cons (i := 12) rfl (fun Kc hK => ?_) AllReadyH.nil))
      go_simp
      (go_at_call 6; refine (C10.out _ R).mono ?_; rintro e X30 ⟨n9, a9, l9, c9, d9, m9, k9, rfl, h9, f9, j9, b⟩)
      refine hK.out _ _ (keep9 hHeld b) (fun hHeld => ?_)
      clear hK Kc
      replace S := S.qn b h9 f9 j9
      replace R := RFon _ _ R b
      replace h6 := h6.below b
      replace h7 := h7.below b
      replace h8 := h8.below b
      clear b f9 j9
      refine wpAnyH_ready (rs := [11, 12]) (by kernel_rfl) (by simp) (AllReadyH.cons (i := 11) rfl (fun Kc hK => ?_) (AllReadyH.cons (i := 12) rfl (fun Kc hK => ?_) AllReadyH.nil))
      go_simp
      (go_at_call 8; refine (C11.out n8 a8 l8 c8 d8 m8 k8 n9 a9 l9 c9 d9 m9 k9 _ h8 h9).mono ?_; rintro e X31 ⟨n10, a10, l10, c10, d10, m10, k10, rfl, h10, f10, j10, b⟩)
      refine hK.out _ _ (keep9 hHeld b) (fun hHeld => ?_)
      clear hK Kc
      replace S := S.qn b h10 f10 j10
      replace R := RFon _ _ R b
      replace h6 := h6.below b
      replace h7 := h7.below b
      replace h8 := h8.below b
      replace h9 := h9.below b
      clear b f10 j10
      refine take_call (i := 12) rfl (by kernel_rfl) (fun Kc hK => ?_)
      go_simp
      have b := bnew X31
      refine hK.out _ _ (keep9 hHeld b) (fun hHeld => ?_)
      clear hK Kc
      replace S := S.new 27 (RFU _ R)
      replace R := RFon _ _ R b
      replace h6 := h6.below b
      replace h7 := h7.below b
      replace h8 := h8.below b
      replace h9 := h9.below b
      replace h10 := h10.below b
      clear b
      generalize X31.alloc (.cells #[.bool false, .slice none 0 0, .slice none 0 0] 27) = X32 at S R hHeld h6 h7 h8 h9 h10 ⊢
      generalize X31.heap.size = p at S ⊢
      obtain ⟨Sp, Sq, pq⟩ := fsOne S
      have gp := Sp.1
      have gq := Sq.1
      have ⟨y0, y1, y2, y3, y4, y5⟩ := Sp.2.1
      refine take_call (i := 14) rfl (by kernel_rfl) (fun Kc hK => ?_)
      go_simp
      refine hK.out _ _ (keep9p hHeld (by omega) (by omega) (by omega) (by omega) _ _ _) (fun hHeld => ?_)
      clear hK Kc
      have ⟨i0, i1, i2, i3, i4, i5⟩ := Sq.2.1.put3 (u := (.bool n7)) (v := (.slice a7 l7 c7)) (t := (.slice d7 m7 k7)) pq
      refine take_call (i := 15) rfl (by kernel_rfl) (fun Kc hK => ?_)
      go_simp
      refine hK.out _ _ (keep9p hHeld (by omega) (by omega) (by omega) (by omega) _ _ _) (fun hHeld => ?_)
      clear hK Kc
      refine wpAnyH_done (by kernel_rfl) ?_ _
      rw [HQQ.out]
      exact ⟨rfl, _, p, q, _, _, _, n7, a7, l7, c7, d7, m7, k7, n10, a10, l10, c10, d10, m10, k10, _, _, _, _, _, _, _, _, _, _, _, _, rfl, rfl, Sp, Sq, pq, R, h7, h10⟩
      go_simp
      have b := bnew X30
      refine hK.out _ _ (keep9 hHeld b) (fun hHeld => ?_)
      clear hK Kc
      replace S := S.new 27 (RFU _ R)
      replace R := RFon _ _ R b
      replace h6 := h6.below b
      replace h7 := h7.below b
      replace h8 := h8.below b
      replace h9 := h9.below b
      clear b
      generalize X30.alloc (.cells #[.bool false, .slice none 0 0, .slice none 0 0] 27) = X33 at S R hHeld h6 h7 h8 h9 ⊢
      generalize X30.heap.size = p at S ⊢
      refine take_call (i := 11) rfl (by kernel_rfl) (fun Kc hK => ?_)
      go_simp
      (go_at_call 8; refine (C11.out n8 a8 l8 c8 d8 m8 k8 n9 a9 l9 c9 d9 m9 k9 _ h8 h9).mono ?_; rintro e X34 ⟨n10, a10, l10, c10, d10, m10, k10, rfl, h10, f10, j10, b⟩)
      refine hK.out _ _ (keep9 hHeld b) (fun hHeld => ?_)
      clear hK Kc
      replace S := S.qn b h10 f10 j10
      replace R := RFon _ _ R b
      replace h6 := h6.below b
      replace h7 := h7.below b
      replace h8 := h8.below b
      replace h9 := h9.below b
      clear b f10 j10
      obtain ⟨Sp, Sq, pq⟩ := fsOne S
      have gp := Sp.1
      have gq := Sq.1
      have ⟨y0, y1, y2, y3, y4, y5⟩ := Sp.2.1
      refine take_call (i := 14) rfl (by kernel_rfl) (fun Kc hK => ?_)
      go_simp
      refine hK.out _ _ (keep9p hHeld (by omega) (by omega) (by omega) (by omega) _ _ _) (fun hHeld => ?_)
      clear hK Kc
      have ⟨i0, i1, i2, i3, i4, i5⟩ := Sq.2.1.put3 (u := (.bool n7)) (v := (.slice a7 l7 c7)) (t := (.slice d7 m7 k7)) pq
      refine take_call (i := 15) rfl (by kernel_rfl) (fun Kc hK => ?_)
      go_simp
      refine hK.out _ _ (keep9p hHeld (by omega) (by omega) (by omega) (by omega) _ _ _) (fun hHeld => ?_)
      clear hK Kc
      refine wpAnyH_done (by kernel_rfl) ?_ _
      rw [HQQ.out]
      exact ⟨rfl, _, p, q, _, _, _, n7, a7, l7, c7, d7, m7, k7, n10, a10, l10, c10, d10, m10, k10, _, _, _, _, _, _, _, _, _, _, _, _, rfl, rfl, Sp, Sq, pq, R, h7, h10⟩
      go_simp
      have b := bnew X29
      refine hK.out _ _ (keep9 hHeld b) (fun hHeld => ?_)
      clear hK Kc
      replace S := S.new 27 (RFU _ R)
      replace R := RFon _ _ R b
      replace h6 := h6.below b
      replace h7 := h7.below b
      replace h8 := h8.below b
      clear b
      generalize X29.alloc (.cells #[.bool false, .slice none 0 0, .slice none 0 0] 27) = X35 at S R hHeld h6 h7 h8 ⊢
      generalize X29.heap.size = p at S ⊢
      refine take_call (i := 10) rfl (by kernel_rfl) (fun Kc hK => ?_)
      go_simp
      (go_at_call 6; refine (C10.out _ R).mono ?_; rintro e X36 ⟨n9, a9, l9, c9, d9, m9, k9, rfl, h9, f9, j9, b⟩)
      refine hK.out _ _ (keep9 hHeld b) (fun hHeld => ?_)
      clear hK Kc
      replace S := S.qn b h9 f9 j9
      replace R := RFon _ _ R b
      replace h6 := h6.below b
      replace h7 := h7.below b
      replace h8 := h8.below b
      clear b f9 j9
      refine take_call (i := 11) rfl (by kernel_rfl) (fun Kc hK => ?_)
      go_simp
      (go_at_call 8; refine (C11.out n8 a8 l8 c8 d8 m8 k8 n9 a9 l9 c9 d9 m9 k9 _ h8 h9).mono ?_; rintro e X37 ⟨n10, a10, l10, c10, d10, m10, k10, rfl, h10, f10, j10, b⟩)
      refine hK.out _ _ (keep9 hHeld b) (fun hHeld => ?_)
      clear hK Kc
      replace S := S.qn b h10 f10 j10
      replace R := RFon _ _ R b
      replace h6 := h6.below b
      replace h7 := h7.below b
      replace h8 := h8.below b
      replace h9 := h9.below b
      clear b f10 j10
      obtain ⟨Sp, Sq, pq⟩ := fsOne S
      have gp := Sp.1
      have gq := Sq.1
      have ⟨y0, y1, y2, y3, y4, y5⟩ := Sp.2.1
      refine take_call (i := 14) rfl (by kernel_rfl) (fun Kc hK => ?_)
      go_simp
      refine hK.out _ _ (keep9p hHeld (by omega) (by omega) (by omega) (by omega) _ _ _) (fun hHeld => ?_)
      clear hK Kc
      have ⟨i0, i1, i2, i3, i4, i5⟩ := Sq.2.1.put3 (u := (.bool n7)) (v := (.slice a7 l7 c7)) (t := (.slice d7 m7 k7)) pq
      refine take_call (i := 15) rfl (by kernel_rfl) (fun Kc hK => ?_)
      go_simp
      refine hK.out _ _ (keep9p hHeld (by omega) (by omega) (by omega) (by omega) _ _ _) (fun hHeld => ?_)
      clear hK Kc
      refine wpAnyH_done (by kernel_rfl) ?_ _
      rw [HQQ.out]
      exact ⟨rfl, _, p, q, _, _, _, n7, a7, l7, c7, d7, m7, k7, n10, a10, l10, c10, d10, m10, k10, _, _, _, _, _, _, _, _, _, _, _, _, rfl, rfl, Sp, Sq, pq, R, h7, h10⟩
      go_simp
      have b := bnew X2
      refine hK.out _ _ (keep9 hHeld b) (fun hHeld => ?_)
      clear hK Kc
      replace S := S.new 27 (RFU _ R)
      replace R := RFon _ _ R b
      replace h6 := h6.below b
      replace h7 := h7.below b
      clear b
      generalize X2.alloc (.cells #[.bool false, .slice none 0 0, .slice none 0 0] 27) = X38 at S R hHeld h6 h7 ⊢
      generalize X2.heap.size = p at S ⊢
      refine wpAnyH_ready (rs := [7, 13]) (by kernel_rfl) (by simp) (AllReadyH.cons (i := 7) rfl (fun Kc hK => ?_) (AllReadyH.cons (i := 13) rfl (fun Kc hK => ?_) AllReadyH.nil))
      go_simp
      (go_at_call 6; refine (C7.out _ R).mono ?_; rintro e X39 ⟨n8, a8, l8, c8, d8, m8, k8, rfl, h8, f8, j8, b⟩)
      refine hK.out _ _ (keep9 hHeld b) (fun hHeld => ?_)
      clear hK Kc
      replace S := S.qn b h8 f8 j8
      replace R := RFon _ _ R b
      replace h6 := h6.below b
      replace h7 := h7.below b
      clear b f8 j8
      refine wpAnyH_ready (rs := [10, 13]) (by kernel_rfl) (by simp) (AllReadyH.cons (i := 10) rfl (fun Kc hK => ?_) (AllReadyH.cons (i := 13) rfl (fun Kc hK => ?_) AllReadyH.nil))
      go_simp
      (go_at_call 6; refine (C10.out _ R).mono ?_; rintro e X40 ⟨n9, a9, l9, c9, d9, m9, k9, rfl, h9, f9, j9, b⟩)
      refine hK.out _ _ (keep9 hHeld b) (fun hHeld => ?_)
      clear hK Kc
      replace S := S.qn b h9 f9 j9
      replace R := RFon _ _ R b
      replace h6 := h6.below b
      replace h7 := h7.below b
      replace h8 := h8.below b
      clear b f9 j9
      refine wpAnyH_ready (rs := [11, 13]) (by kernel_rfl) (by simp) (AllReadyH.cons (i := 11) rfl (fun Kc hK => ?_) (AllReadyH.cons (i := 13) rfl (fun Kc hK => ?_) AllReadyH.nil))
      go_simp
      (go_at_call 8; refine (C11.out n8 a8 l8 c8 d8 m8 k8 n9 a9 l9 c9 d9 m9 k9 _ h8 h9).mono ?_; rintro e X41 ⟨n10, a10, l10, c10, d10, m10, k10, rfl, h10, f10, j10, b⟩)
      refine hK.out _ _ (keep9 hHeld b) (fun hHeld => ?_)
      clear hK Kc
      replace S := S.qn b h10 f10 j10
      replace R := RFon _ _ R b
      replace h6 := h6.below b
      replace h7 := h7.below b
      replace h8 := h8.below b
      replace h9 := h9.below b
      clear b f10 j10
      refine take_call (i := 13) rfl (by kernel_rfl) (fun Kc hK => ?_)
      go_simp
      have b := bnew X41
      refine hK.out _ _ (keep9 hHeld b) (fun hHeld => ?_)
      clear hK Kc
      replace S := S.new 27 (RFU _ R)
      replace R := RFon _ _ R b
      replace h6 := h6.below b
      replace h7 := h7.below b
      replace h8 := h8.below b
      replace h9 := h9.below b
      replace h10 := h10.below b
      clear b
      generalize X41.alloc (.cells #[.bool false, .slice none 0 0, .slice none 0 0] 27) = X42 at S R hHeld h6 h7 h8 h9 h10 ⊢
      generalize X41.heap.size = q at S ⊢
      obtain ⟨Sp, Sq, pq⟩ := fsTwo S
      have gp := Sp.1
      have gq := Sq.1
      have ⟨y0, y1, y2, y3, y4, y5⟩ := Sp.2.1
      refine take_call (i := 14) rfl (by kernel_rfl) (fun Kc hK => ?_)
      go_simp
      refine hK.out _ _ (keep9p hHeld (by omega) (by omega) (by omega) (by omega) _ _ _) (fun hHeld => ?_)
      clear hK Kc
      have ⟨i0, i1, i2, i3, i4, i5⟩ := Sq.2.1.put3 (u := (.bool n7)) (v := (.slice a7 l7 c7)) (t := (.slice d7 m7 k7)) pq
      refine take_call (i := 15) rfl (by kernel_rfl) (fun Kc hK => ?_)
      go_simp
      refine hK.out _ _ (keep9p hHeld (by omega) (by omega) (by omega) (by omega) _ _ _) (fun hHeld => ?_)
      clear hK Kc
      refine wpAnyH_done (by kernel_rfl) ?_ _
      rw [HQQ.out]
      exact ⟨rfl, _, p, q, _, _, _, n7, a7, l7, c7, d7, m7, k7, n10, a10, l10, c10, d10, m10, k10, _, _, _, _, _, _, _, _, _, _, _, _, rfl, rfl, Sp, Sq, pq, R, h7, h10⟩
      go_simp
      have b := bnew X40
      refine hK.out _ _ (keep9 hHeld b) (fun hHeld => ?_)
      clear hK Kc
      replace S := S.new 27 (RFU _ R)
      replace R := RFon _ _ R b
      replace h6 := h6.below b
      replace h7 := h7.below b
      replace h8 := h8.below b
      replace h9 := h9.below b
      clear b
      generalize X40.alloc (.cells #[.bool false, .slice none 0 0, .slice none 0 0] 27) = X43 at S R hHeld h6 h7 h8 h9 ⊢
      generalize X40.heap.size = q at S ⊢
      refine take_call (i := 11) rfl (by kernel_rfl) (fun Kc hK => ?_)
      go_simp
      (go_at_call 8; refine (C11.out n8 a8 l8 c8 d8 m8 k8 n9 a9 l9 c9 d9 m9 k9 _ h8 h9).mono ?_; rintro e X44 ⟨n10, a10, l10, c10, d10, m10, k10, rfl, h10, f10, j10, b⟩)
      refine hK.out _ _ (keep9 hHeld b) (fun hHeld => ?_)
      clear hK Kc
      replace S := S.qn b h10 f10 j10
      replace R := RFon _ _ R b
      replace h6 := h6.below b
      replace h7 := h7.below b
      replace h8 := h8.below b
      replace h9 := h9.below b
      clear b f10 j10
      obtain ⟨Sp, Sq, pq⟩ := fsTwo S
      have gp := Sp.1
      have gq := Sq.1
      have ⟨y0, y1, y2, y3, y4, y5⟩ := Sp.2.1
      refine take_call (i := 14) rfl (by kernel_rfl) (fun Kc hK => ?_)
      go_simp
      refine hK.out _ _ (keep9p hHeld (by omega) (by omega) (by omega) (by omega) _ _ _) (fun hHeld => ?_)
      clear hK Kc
      have ⟨i0, i1, i2, i3, i4, i5⟩ := Sq.2.1.put3 (u := (.bool n7)) (v := (.slice a7 l7 c7)) (t := (.slice d7 m7 k7)) pq
      refine take_call (i := 15) rfl (by kernel_rfl) (fun Kc hK => ?_)
      go_simp
      refine hK.out _ _ (keep9p hHeld (by omega) (by omega) (by omega) (by omega) _ _ _) (fun hHeld => ?_)
      clear hK Kc
      refine wpAnyH_done (by kernel_rfl) ?_ _
      rw [HQQ.out]
      exact ⟨rfl, _, p, q, _, _, _, n7, a7, l7, c7, d7, m7, k7, n10, a10, l10, c10, d10, m10, k10, _, _, _, _, _, _, _, _, _, _, _, _, rfl, rfl, Sp, Sq, pq, R, h7, h10⟩
      go_simp
      have b := bnew X39
      refine hK.out _ _ (keep9 hHeld b) (fun hHeld => ?_)
      clear hK Kc
      replace S := S.new 27 (RFU _ R)
      replace R := RFon _ _ R b
      replace h6 := h6.below b
      replace h7 := h7.below b
      replace h8 := h8.below b
      clear b
      generalize X39.alloc (.cells #[.bool false, .slice none 0 0, .slice none 0 0] 27) = X45 at S R hHeld h6 h7 h8 ⊢
      generalize X39.heap.size = q at S ⊢
      refine take_call (i := 10) rfl (by kernel_rfl) (fun Kc hK => ?_)
      go_simp
      (go_at_call 6; refine (C10.out _ R).mono ?_; rintro e X46 ⟨n9, a9, l9, c9, d9, m9, k9, rfl, h9, f9, j9, b⟩)
      refine hK.out _ _ (keep9 hHeld b) (fun hHeld => ?_)
      clear hK Kc
      replace S := S.qn b h9 f9 j9
      replace R := RFon _ _ R b
      replace h6 := h6.below b
      replace h7 := h7.below b
      replace h8 := h8.below b
      clear b f9 j9
      refine take_call (i := 11) rfl (by kernel_rfl) (fun Kc hK => ?_)
      go_simp
      (go_at_call 8; refine (C11.out n8 a8 l8 c8 d8 m8 k8 n9 a9 l9 c9 d9 m9 k9 _ h8 h9).mono ?_; rintro e X47 ⟨n10, a10, l10, c10, d10, m10, k10, rfl, h10, f10, j10, b⟩)
      refine hK.out _ _ (keep9 hHeld b) (fun hHeld => ?_)
      clear hK Kc
      replace S := S.qn b h10 f10 j10
      replace R := RFon _ _ R b
      replace h6 := h6.below b
      replace h7 := h7.below b
      replace h8 := h8.below b
      replace h9 := h9.below b
      clear b f10 j10
      obtain ⟨Sp, Sq, pq⟩ := fsTwo S
      have gp := Sp.1
      have gq := Sq.1
      have ⟨y0, y1, y2, y3, y4, y5⟩ := Sp.2.1
      refine take_call (i := 14) rfl (by kernel_rfl) (fun Kc hK => ?_)
      go_simp
      refine hK.out _ _ (keep9p hHeld (by omega) (by omega) (by omega) (by omega) _ _ _) (fun hHeld => ?_)
      clear hK Kc
      have ⟨i0, i1, i2, i3, i4, i5⟩ := Sq.2.1.put3 (u := (.bool n7)) (v := (.slice a7 l7 c7)) (t := (.slice d7 m7 k7)) pq
      refine take_call (i := 15) rfl (by kernel_rfl) (fun Kc hK => ?_)
      go_simp
      refine hK.out _ _ (keep9p hHeld (by omega) (by omega) (by omega) (by omega) _ _ _) (fun hHeld => ?_)
      clear hK Kc
      refine wpAnyH_done (by kernel_rfl) ?_ _
      rw [HQQ.out]
      exact ⟨rfl, _, p, q, _, _, _, n7, a7, l7, c7, d7, m7, k7, n10, a10, l10, c10, d10, m10, k10, _, _, _, _, _, _, _, _, _, _, _, _, rfl, rfl, Sp, Sq, pq, R, h7, h10⟩
      go_simp
      have b := bnew X38
      refine hK.out _ _ (keep9 hHeld b) (fun hHeld => ?_)
      clear hK Kc
      replace S := S.new 27 (RFU _ R)
      replace R := RFon _ _ R b
      replace h6 := h6.below b
      replace h7 := h7.below b
      clear b
      generalize X38.alloc (.cells #[.bool false, .slice none 0 0, .slice none 0 0] 27) = X48 at S R hHeld h6 h7 ⊢
      generalize X38.heap.size = q at S ⊢
      refine take_call (i := 7) rfl (by kernel_rfl) (fun Kc hK => ?_)
      go_simp
      (go_at_call 6; refine (C7.out _ R).mono ?_; rintro e X49 ⟨n8, a8, l8, c8, d8, m8, k8, rfl, h8, f8, j8, b⟩)
      refine hK.out _ _ (keep9 hHeld b) (fun hHeld => ?_)
      clear hK Kc
      replace S := S.qn b h8 f8 j8
      replace R := RFon _ _ R b
      replace h6 := h6.below b
      replace h7 := h7.below b
      clear b f8 j8
      refine take_call (i := 10) rfl (by kernel_rfl) (fun Kc hK => ?_)
      go_simp
      (go_at_call 6; refine (C10.out _ R).mono ?_; rintro e X50 ⟨n9, a9, l9, c9, d9, m9, k9, rfl, h9, f9, j9, b⟩)
      refine hK.out _ _ (keep9 hHeld b) (fun hHeld => ?_)
      clear hK Kc
      replace S := S.qn b h9 f9 j9
      replace R := RFon _ _ R b
      replace h6 := h6.below b
      replace h7 := h7.below b
      replace h8 := h8.below b
      clear b f9 j9
      refine take_call (i := 11) rfl (by kernel_rfl) (fun Kc hK => ?_)
      go_simp
      (go_at_call 8; refine (C11.out n8 a8 l8 c8 d8 m8 k8 n9 a9 l9 c9 d9 m9 k9 _ h8 h9).mono ?_; rintro e X51 ⟨n10, a10, l10, c10, d10, m10, k10, rfl, h10, f10, j10, b⟩)
      refine hK.out _ _ (keep9 hHeld b) (fun hHeld => ?_)
      clear hK Kc
      replace S := S.qn b h10 f10 j10
      replace R := RFon _ _ R b
      replace h6 := h6.below b
      replace h7 := h7.below b
      replace h8 := h8.below b
      replace h9 := h9.below b
      clear b f10 j10
      obtain ⟨Sp, Sq, pq⟩ := fsTwo S
      have gp := Sp.1
      have gq := Sq.1
      have ⟨y0, y1, y2, y3, y4, y5⟩ := Sp.2.1
      refine take_call (i := 14) rfl (by kernel_rfl) (fun Kc hK => ?_)
      go_simp
      refine hK.out _ _ (keep9p hHeld (by omega) (by omega) (by omega) (by omega) _ _ _) (fun hHeld => ?_)
      clear hK Kc
      have ⟨i0, i1, i2, i3, i4, i5⟩ := Sq.2.1.put3 (u := (.bool n7)) (v := (.slice a7 l7 c7)) (t := (.slice d7 m7 k7)) pq
      refine take_call (i := 15) rfl (by kernel_rfl) (fun Kc hK => ?_)
      go_simp
      refine hK.out _ _ (keep9p hHeld (by omega) (by omega) (by omega) (by omega) _ _ _) (fun hHeld => ?_)
      clear hK Kc
      refine wpAnyH_done (by kernel_rfl) ?_ _
      rw [HQQ.out]
      exact ⟨rfl, _, p, q, _, _, _, n7, a7, l7, c7, d7, m7, k7, n10, a10, l10, c10, d10, m10, k10, _, _, _, _, _, _, _, _, _, _, _, _, rfl, rfl, Sp, Sq, pq, R, h7, h10⟩
      go_simp
      have b := bnew X2
      refine hK.out _ _ (keep9 hHeld b) (fun hHeld => ?_)
      clear hK Kc
      replace S := S.new 27 (RFU _ R)
      replace R := RFon _ _ R b
      replace h6 := h6.below b
      replace h7 := h7.below b
      clear b
      generalize X2.alloc (.cells #[.bool false, .slice none 0 0, .slice none 0 0] 27) = X52 at S R hHeld h6 h7 ⊢
      generalize X2.heap.size = q at S ⊢
      refine wpAnyH_ready (rs := [7, 12]) (by kernel_rfl) (by simp) (AllReadyH.cons (i := 7) rfl (fun Kc hK => ?_) (AllReadyH.cons (i := 12) rfl (fun Kc hK => ?_) AllReadyH.nil))
      go_simp
      (go_at_call 6; refine (C7.out _ R).mono ?_; rintro e X53 ⟨n8, a8, l8, c8, d8, m8, k8, rfl, h8, f8, j8, b⟩)
      refine hK.out _ _ (keep9 hHeld b) (fun hHeld => ?_)
      clear hK Kc
      replace S := S.qn b h8 f8 j8
      replace R := RFon _ _ R b
      replace h6 := h6.below b
      replace h7 := h7.below b
      clear b f8 j8
      refine wpAnyH_ready (rs := [10, 12]) (by kernel_rfl) (by simp) (AllReadyH.cons (i := 10) rfl (fun Kc hK => ?_) (AllReadyH.cons (i := 12) rfl (fun Kc hK => ?_) AllReadyH.nil))
      go_simp
      (go_at_call 6; refine (C10.out _ R).mono ?_; rintro e X54 ⟨n9, a9, l9, c9, d9, m9, k9, rfl, h9, f9, j9, b⟩)
      refine hK.out _ _ (keep9 hHeld b) (fun hHeld => ?_)
      clear hK Kc
      replace S := S.qn b h9 f9 j9
      replace R := RFon _ _ R b
      replace h6 := h6.below b
      replace h7 := h7.below b
      replace h8 := h8.below b
      clear b f9 j9
      refine wpAnyH_ready (rs := [11, 12]) (by kernel_rfl) (by simp) (AllReadyH.cons (i := 11) rfl (fun Kc hK => ?_) (AllReadyH.cons (i := 12) rfl (fun Kc hK => ?_) AllReadyH.nil))
      go_simp
      (go_at_call 8; refine (C11.out n8 a8 l8 c8 d8 m8 k8 n9 a9 l9 c9 d9 m9 k9 _ h8 h9).mono ?_; rintro e X55 ⟨n10, a10, l10, c10, d10, m10, k10, rfl, h10, f10, j10, b⟩)
      refine hK.out _ _ (keep9 hHeld b) (fun hHeld => ?_)
      clear hK Kc
      replace S := S.qn b h10 f10 j10
      replace R := RFon _ _ R b
      replace h6 := h6.below b
      replace h7 := h7.below b
      replace h8 := h8.below b
      replace h9 := h9.below b
      clear b f10 j10
      refine take_call (i := 12) rfl (by kernel_rfl) (fun Kc hK => ?_)
      go_simp
      have b := bnew X55
      refine hK.out _ _ (keep9 hHeld b) (fun hHeld => ?_)
      clear hK Kc
      replace S := S.new 27 (RFU _ R)
      replace R := RFon _ _ R b
      replace h6 := h6.below b
      replace h7 := h7.below b
      replace h8 := h8.below b
      replace h9 := h9.below b
      replace h10 := h10.below b
      clear b
      generalize X55.alloc (.cells #[.bool false, .slice none 0 0, .slice none 0 0] 27) = X56 at S R hHeld h6 h7 h8 h9 h10 ⊢
      generalize X55.heap.size = p at S ⊢
      obtain ⟨Sp, Sq, pq⟩ := fsOne S
      have gp := Sp.1
      have gq := Sq.1
      have ⟨y0, y1, y2, y3, y4, y5⟩ := Sp.2.1
      refine take_call (i := 14) rfl (by kernel_rfl) (fun Kc hK => ?_)
      go_simp
      refine hK.out _ _ (keep9p hHeld (by omega) (by omega) (by omega) (by omega) _ _ _) (fun hHeld => ?_)
      clear hK Kc
      have ⟨i0, i1, i2, i3, i4, i5⟩ := Sq.2.1.put3 (u := (.bool n7)) (v := (.slice a7 l7 c7)) (t := (.slice d7 m7 k7)) pq
      refine take_call (i := 15) rfl (by kernel_rfl) (fun Kc hK => ?_)
      go_simp
      refine hK.out _ _ (keep9p hHeld (by omega) (by omega) (by omega) (by omega) _ _ _) (fun hHeld => ?_)
      clear hK Kc
      refine wpAnyH_done (by kernel_rfl) ?_ _
      rw [HQQ.out]
      exact ⟨rfl, _, p, q, _, _, _, n7, a7, l7, c7, d7, m7, k7, n10, a10, l10, c10, d10, m10, k10, _, _, _, _, _, _, _, _, _, _, _, _, rfl, rfl, Sp, Sq, pq, R, h7, h10⟩
      go_simp
      have b := bnew X54
      refine hK.out _ _ (keep9 hHeld b) (fun hHeld => ?_)
      clear hK Kc
      replace S := S.new 27 (RFU _ R)
      replace R := RFon _ _ R b
      replace h6 := h6.below b
      replace h7 := h7.below b
      replace h8 := h8.below b
      replace h9 := h9.below b
      clear b
      generalize X54.alloc (.cells #[.bool false, .slice none 0 0, .slice none 0 0] 27) = X57 at S R hHeld h6 h7 h8 h9 ⊢
      generalize X54.heap.size = p at S ⊢
      refine take_call (i := 11) rfl (by kernel_rfl) (fun Kc hK => ?_)
      go_simp
      (go_at_call 8; refine (C11.out n8 a8 l8 c8 d8 m8 k8 n9 a9 l9 c9 d9 m9 k9 _ h8 h9).mono ?_; rintro e X58 ⟨n10, a10, l10, c10, d10, m10, k10, rfl, h10, f10, j10, b⟩)
      refine hK.out _ _ (keep9 hHeld b) (fun hHeld => ?_)
      clear hK Kc
      replace S := S.qn b h10 f10 j10
      replace R := RFon _ _ R b
      replace h6 := h6.below b
      replace h7 := h7.below b
      replace h8 := h8.below b
      replace h9 := h9.below b
      clear b f10 j10
      obtain ⟨Sp, Sq, pq⟩ := fsOne S
      have gp := Sp.1
      have gq := Sq.1
      have ⟨y0, y1, y2, y3, y4, y5⟩ := Sp.2.1
      refine take_call (i := 14) rfl (by kernel_rfl) (fun Kc hK => ?_)
      go_simp
      refine hK.out _ _ (keep9p hHeld (by omega) (by omega) (by omega) (by omega) _ _ _) (fun hHeld => ?_)
      clear hK Kc
      have ⟨i0, i1, i2, i3, i4, i5⟩ := Sq.2.1.put3 (u := (.bool n7)) (v := (.slice a7 l7 c7)) (t := (.slice d7 m7 k7)) pq
      refine take_call (i := 15) rfl (by kernel_rfl) (fun Kc hK => ?_)
      go_simp
      refine hK.out _ _ (keep9p hHeld (by omega) (by omega) (by omega) (by omega) _ _ _) (fun hHeld => ?_)
      clear hK Kc
      refine wpAnyH_done (by kernel_rfl) ?_ _
      rw [HQQ.out]
      exact ⟨rfl, _, p, q, _, _, _, n7, a7, l7, c7, d7, m7, k7, n10, a10, l10, c10, d10, m10, k10, _, _, _, _, _, _, _, _, _, _, _, _, rfl, rfl, Sp, Sq, pq, R, h7, h10⟩
      go_simp
      have b := bnew X53
      refine hK.out _ _ (keep9 hHeld b) (fun hHeld => ?_)
      clear hK Kc
      replace S := S.new 27 (RFU _ R)
      replace R := RFon _ _ R b
      replace h6 := h6.below b
      replace h7 := h7.below b
      replace h8 := h8.below b
      clear b
      generalize X53.alloc (.cells #[.bool false, .slice none 0 0, .slice none 0 0] 27) = X59 at S R hHeld h6 h7 h8 ⊢
      generalize X53.heap.size = p at S ⊢
      refine take_call (i := 10) rfl (by kernel_rfl) (fun Kc hK => ?_)
      go_simp
      (go_at_call 6; refine (C10.out _ R).mono ?_; rintro e X60 ⟨n9, a9, l9, c9, d9, m9, k9, rfl, h9, f9, j9, b⟩)
      refine hK.out _ _ (keep9 hHeld b) (fun hHeld => ?_)
      clear hK Kc
      replace S := S.qn b h9 f9 j9
      replace R := RFon _ _ R b
      replace h6 := h6.below b
      replace h7 := h7.below b
      replace h8 := h8.below b
      clear b f9 j9
      refine take_call (i := 11) rfl (by kernel_rfl) (fun Kc hK => ?_)
      go_simp
      (go_at_call 8; refine (C11.out n8 a8 l8 c8 d8 m8 k8 n9 a9 l9 c9 d9 m9 k9 _ h8 h9).mono ?_; rintro e X61 ⟨n10, a10, l10, c10, d10, m10, k10, rfl, h10, f10, j10, b⟩)
      refine hK.out _ _ (keep9 hHeld b) (fun hHeld => ?_)
      clear hK Kc
      replace S := S.qn b h10 f10 j10
      replace R := RFon _ _ R b
      replace h6 := h6.below b
      replace h7 := h7.below b
      replace h8 := h8.below b
      replace h9 := h9.below b
      clear b f10 j10
      obtain ⟨Sp, Sq, pq⟩ := fsOne S
      have gp := Sp.1
      have gq := Sq.1
      have ⟨y0, y1, y2, y3, y4, y5⟩ := Sp.2.1
      refine take_call (i := 14) rfl (by kernel_rfl) (fun Kc hK => ?_)
      go_simp
      refine hK.out _ _ (keep9p hHeld (by omega) (by omega) (by omega) (by omega) _ _ _) (fun hHeld => ?_)
      clear hK Kc
      have ⟨i0, i1, i2, i3, i4, i5⟩ := Sq.2.1.put3 (u := (.bool n7)) (v := (.slice a7 l7 c7)) (t := (.slice d7 m7 k7)) pq
      refine take_call (i := 15) rfl (by kernel_rfl) (fun Kc hK => ?_)
      go_simp
      refine hK.out _ _ (keep9p hHeld (by omega) (by omega) (by omega) (by omega) _ _ _) (fun hHeld => ?_)
      clear hK Kc
      refine wpAnyH_done (by kernel_rfl) ?_ _
      rw [HQQ.out]
      exact ⟨rfl, _, p, q, _, _, _, n7, a7, l7, c7, d7, m7, k7, n10, a10, l10, c10, d10, m10, k10, _, _, _, _, _, _, _, _, _, _, _, _, rfl, rfl, Sp, Sq, pq, R, h7, h10⟩
      go_simp
      have b := bnew X52
      refine hK.out _ _ (keep9 hHeld b) (fun hHeld => ?_)
      clear hK Kc
      replace S := S.new 27 (RFU _ R)
      replace R := RFon _ _ R b
      replace h6 := h6.below b
      replace h7 := h7.below b
      clear b
      generalize X52.alloc (.cells #[.bool false, .slice none 0 0, .slice none 0 0] 27) = X62 at S R hHeld h6 h7 ⊢
      generalize X52.heap.size = p at S ⊢
      refine take_call (i := 7) rfl (by kernel_rfl) (fun Kc hK => ?_)
      go_simp
      (go_at_call 6; refine (C7.out _ R).mono ?_; rintro e X63 ⟨n8, a8, l8, c8, d8, m8, k8, rfl, h8, f8, j8, b⟩)
      refine hK.out _ _ (keep9 hHeld b) (fun hHeld => ?_)
      clear hK Kc
      replace S := S.qn b h8 f8 j8
      replace R := RFon _ _ R b
      replace h6 := h6.below b
      replace h7 := h7.below b
      clear b f8 j8
      refine take_call (i := 10) rfl (by kernel_rfl) (fun Kc hK => ?_)
      go_simp
      (go_at_call 6; refine (C10.out _ R).mono ?_; rintro e X64 ⟨n9, a9, l9, c9, d9, m9, k9, rfl, h9, f9, j9, b⟩)
      refine hK.out _ _ (keep9 hHeld b) (fun hHeld => ?_)
      clear hK Kc
      replace S := S.qn b h9 f9 j9
      replace R := RFon _ _ R b
      replace h6 := h6.below b
      replace h7 := h7.below b
      replace h8 := h8.below b
      clear b f9 j9
      refine take_call (i := 11) rfl (by kernel_rfl) (fun Kc hK => ?_)
      go_simp
      (go_at_call 8; refine (C11.out n8 a8 l8 c8 d8 m8 k8 n9 a9 l9 c9 d9 m9 k9 _ h8 h9).mono ?_; rintro e X65 ⟨n10, a10, l10, c10, d10, m10, k10, rfl, h10, f10, j10, b⟩)
      refine hK.out _ _ (keep9 hHeld b) (fun hHeld => ?_)
      clear hK Kc
      replace S := S.qn b h10 f10 j10
      replace R := RFon _ _ R b
      replace h6 := h6.below b
      replace h7 := h7.below b
      replace h8 := h8.below b
      replace h9 := h9.below b
      clear b f10 j10
      obtain ⟨Sp, Sq, pq⟩ := fsOne S
      have gp := Sp.1
      have gq := Sq.1
      have ⟨y0, y1, y2, y3, y4, y5⟩ := Sp.2.1
      refine take_call (i := 14) rfl (by kernel_rfl) (fun Kc hK => ?_)
      go_simp
      refine hK.out _ _ (keep9p hHeld (by omega) (by omega) (by omega) (by omega) _ _ _) (fun hHeld => ?_)
      clear hK Kc
      have ⟨i0, i1, i2, i3, i4, i5⟩ := Sq.2.1.put3 (u := (.bool n7)) (v := (.slice a7 l7 c7)) (t := (.slice d7 m7 k7)) pq
      refine take_call (i := 15) rfl (by kernel_rfl) (fun Kc hK => ?_)
      go_simp
      refine hK.out _ _ (keep9p hHeld (by omega) (by omega) (by omega) (by omega) _ _ _) (fun hHeld => ?_)
      clear hK Kc
      refine wpAnyH_done (by kernel_rfl) ?_ _
      rw [HQQ.out]
      exact ⟨rfl, _, p, q, _, _, _, n7, a7, l7, c7, d7, m7, k7, n10, a10, l10, c10, d10, m10, k10, _, _, _, _, _, _, _, _, _, _, _, _, rfl, rfl, Sp, Sq, pq, R, h7, h10⟩
      go_simp
      have b := bnew X1
      refine hK.out _ _ (keep9 hHeld b) (fun hHeld => ?_)
      clear hK Kc
      replace S := S.new 27 (RFU _ R)
      replace R := RFon _ _ R b
      replace h6 := h6.below b
      clear b
      generalize X1.alloc (.cells #[.bool false, .slice none 0 0, .slice none 0 0] 27) = X66 at S R hHeld h6 ⊢
      generalize X1.heap.size = p at S ⊢
      refine wpAnyH_ready (rs := [4, 13]) (by kernel_rfl) (by simp) (AllReadyH.cons (i := 4) rfl (fun Kc hK => ?_) (AllReadyH.cons (i := 13) rfl (fun Kc hK => ?_) AllReadyH.nil))
      go_simp
      (go_at_call 6; refine (C4.out n6 a6 l6 c6 d6 m6 k6 _ R h6).mono ?_; rintro e X67 ⟨n7, a7, l7, c7, d7, m7, k7, rfl, h7, f7, j7, b⟩)
      refine hK.out _ _ (keep9 hHeld b) (fun hHeld => ?_)
      clear hK Kc
      replace S := S.qn b h7 f7 j7
      replace R := RFon _ _ R b
      replace h6 := h6.below b
      clear b f7 j7
      refine wpAnyH_ready (rs := [7, 13]) (by kernel_rfl) (by simp) (AllReadyH.cons (i := 7) rfl (fun Kc hK => ?_) (AllReadyH.cons (i := 13) rfl (fun Kc hK => ?_) AllReadyH.nil))
      go_simp
      (go_at_call 6; refine (C7.out _ R).mono ?_; rintro e X68 ⟨n8, a8, l8, c8, d8, m8, k8, rfl, h8, f8, j8, b⟩)
      refine hK.out _ _ (keep9 hHeld b) (fun hHeld => ?_)
      clear hK Kc
      replace S := S.qn b h8 f8 j8
      replace R := RFon _ _ R b
      replace h6 := h6.below b
      replace h7 := h7.below b
      clear b f8 j8
      refine wpAnyH_ready (rs := [10, 13]) (by kernel_rfl) (by simp) (AllReadyH.cons (i := 10) rfl (fun Kc hK => ?_) (AllReadyH.cons (i := 13) rfl (fun Kc hK => ?_) AllReadyH.nil))
      go_simp
      (go_at_call 6; refine (C10.out _ R).mono ?_; rintro e X69 ⟨n9, a9, l9, c9, d9, m9, k9, rfl, h9, f9, j9, b⟩)
      refine hK.out _ _ (keep9 hHeld b) (fun hHeld => ?_)
      clear hK Kc
      replace S := S.qn b h9 f9 j9
      replace R := RFon _ _ R b
      replace h6 := h6.below b
      replace h7 := h7.below b
      replace h8 := h8.below b
      clear b f9 j9
      refine wpAnyH_ready (rs := [11, 13]) (by kernel_rfl) (by simp) (AllReadyH.cons (i := 11) rfl (fun Kc hK => ?_) (AllReadyH.cons (i := 13) rfl (fun Kc hK => ?_) AllReadyH.nil))
      go_simp
      (go_at_call 8; refine (C11.out n8 a8 l8 c8 d8 m8 k8 n9 a9 l9 c9 d9 m9 k9 _ h8 h9).mono ?_; rintro e X70 ⟨n10, a10, l10, c10, d10, m10, k10, rfl, h10, f10, j10, b⟩)
      refine hK.out _ _ (keep9 hHeld b) (fun hHeld => ?_)
      clear hK Kc
      replace S := S.qn b h10 f10 j10
      replace R := RFon _ _ R b
      replace h6 := h6.below b
      replace h7 := h7.below b
      replace h8 := h8.below b
      replace h9 := h9.below b
      clear b f10 j10
      refine take_call (i := 13) rfl (by kernel_rfl) (fun Kc hK => ?_)
      go_simp
      have b := bnew X70
      refine hK.out _ _ (keep9 hHeld b) (fun hHeld => ?_)
      clear hK Kc
      replace S := S.new 27 (RFU _ R)
      replace R := RFon _ _ R b
      replace h6 := h6.below b
      replace h7 := h7.below b
      replace h8 := h8.below b
      replace h9 := h9.below b
      replace h10 := h10.below b
      clear b
      generalize X70.alloc (.cells #[.bool false, .slice none 0 0, .slice none 0 0] 27) = X71 at S R hHeld h6 h7 h8 h9 h10 ⊢
      generalize X70.heap.size = q at S ⊢
      obtain ⟨Sp, Sq, pq⟩ := fsTwo S
      have gp := Sp.1
      have gq := Sq.1
      have ⟨y0, y1, y2, y3, y4, y5⟩ := Sp.2.1
      refine take_call (i := 14) rfl (by kernel_rfl) (fun Kc hK => ?_)
      go_simp
      refine hK.out _ _ (keep9p hHeld (by omega) (by omega) (by omega) (by omega) _ _ _) (fun hHeld => ?_)
      clear hK Kc
      have ⟨i0, i1, i2, i3, i4, i5⟩ := Sq.2.1.put3 (u := (.bool n7)) (v := (.slice a7 l7 c7)) (t := (.slice d7 m7 k7)) pq
      refine take_call (i := 15) rfl (by kernel_rfl) (fun Kc hK => ?_)
      go_simp
      refine hK.out _ _ (keep9p hHeld (by omega) (by omega) (by omega) (by omega) _ _ _) (fun hHeld => ?_)
      clear hK Kc
      refine wpAnyH_done (by kernel_rfl) ?_ _
      rw [HQQ.out]
      exact ⟨rfl, _, p, q, _, _, _, n7, a7, l7, c7, d7, m7, k7, n10, a10, l10, c10, d10, m10, k10, _, _, _, _, _, _, _, _, _, _, _, _, rfl, rfl, Sp, Sq, pq, R, h7, h10⟩
      go_simp
      have b := bnew X69
      refine hK.out _ _ (keep9 hHeld b) (fun hHeld => ?_)
      clear hK Kc
      replace S := S.new 27 (RFU _ R)
      replace R := RFon _ _ R b
      replace h6 := h6.below b
      replace h7 := h7.below b
      replace h8 := h8.below b
      replace h9 := h9.below b
      clear b
      generalize X69.alloc (.cells #[.bool false, .slice none 0 0, .slice none 0 0] 27) = X72 at S R hHeld h6 h7 h8 h9 ⊢
      generalize X69.heap.size = q at S ⊢
      refine take_call (i := 11) rfl (by kernel_rfl) (fun Kc hK => ?_)
      go_simp
      (go_at_call 8; refine (C11.out n8 a8 l8 c8 d8 m8 k8 n9 a9 l9 c9 d9 m9 k9 _ h8 h9).mono ?_; rintro e X73 ⟨n10, a10, l10, c10, d10, m10, k10, rfl, h10, f10, j10, b⟩)
      refine hK.out _ _ (keep9 hHeld b) (fun hHeld => ?_)
      clear hK Kc
      replace S := S.qn b h10 f10 j10
      replace R := RFon _ _ R b
      replace h6 := h6.below b
      replace h7 := h7.below b
      replace h8 := h8.below b
      replace h9 := h9.below b
      clear b f10 j10
      obtain ⟨Sp, Sq, pq⟩ := fsTwo S
      have gp := Sp.1
      have gq := Sq.1
      have ⟨y0, y1, y2, y3, y4, y5⟩ := Sp.2.1
      refine take_call (i := 14) rfl (by kernel_rfl) (fun Kc hK => ?_)
      go_simp
      refine hK.out _ _ (keep9p hHeld (by omega) (by omega) (by omega) (by omega) _ _ _) (fun hHeld => ?_)
      clear hK Kc
      have ⟨i0, i1, i2, i3, i4, i5⟩ := Sq.2.1.put3 (u := (.bool n7)) (v := (.slice a7 l7 c7)) (t := (.slice d7 m7 k7)) pq
      refine take_call (i := 15) rfl (by kernel_rfl) (fun Kc hK => ?_)
      go_simp
      refine hK.out _ _ (keep9p hHeld (by omega) (by omega) (by omega) (by omega) _ _ _) (fun hHeld => ?_)
      clear hK Kc
      refine wpAnyH_done (by kernel_rfl) ?_ _
      rw [HQQ.out]
      exact ⟨rfl, _, p, q, _, _, _, n7, a7, l7, c7, d7, m7, k7, n10, a10, l10, c10, d10, m10, k10, _, _, _, _, _, _, _, _, _, _, _, _, rfl, rfl, Sp, Sq, pq, R, h7, h10⟩
      go_simp
      have b := bnew X68
      refine hK.out _ _ (keep9 hHeld b) (fun hHeld => ?_)
      clear hK Kc
      replace S := S.new 27 (RFU _ R)
      replace R := RFon _ _ R b
      replace h6 := h6.below b
      replace h7 := h7.below b
      replace h8 := h8.below b
      clear b
      generalize X68.alloc (.cells #[.bool false, .slice none 0 0, .slice none 0 0] 27) = X74 at S R hHeld h6 h7 h8 ⊢
      generalize X68.heap.size = q at S ⊢
      refine take_call (i := 10) rfl (by kernel_rfl) (fun Kc hK => ?_)
      go_simp
      (go_at_call 6; refine (C10.out _ R).mono ?_; rintro e X75 ⟨n9, a9, l9, c9, d9, m9, k9, rfl, h9, f9, j9, b⟩)
      refine hK.out _ _ (keep9 hHeld b) (fun hHeld => ?_)
      clear hK Kc
      replace S := S.qn b h9 f9 j9
      replace R := RFon _ _ R b
      replace h6 := h6.below b
      replace h7 := h7.below b
      replace h8 := h8.below b
      clear b f9 j9
      refine take_call (i := 11) rfl (by kernel_rfl) (fun Kc hK => ?_)
      go_simp
      (go_at_call 8; refine (C11.out n8 a8 l8 c8 d8 m8 k8 n9 a9 l9 c9 d9 m9 k9 _ h8 h9).mono ?_; rintro e X76 ⟨n10, a10, l10, c10, d10, m10, k10, rfl, h10, f10, j10, b⟩)
      refine hK.out _ _ (keep9 hHeld b) (fun hHeld => ?_)
      clear hK Kc
      replace S := S.qn b h10 f10 j10
      replace R := RFon _ _ R b
      replace h6 := h6.below b
      replace h7 := h7.below b
      replace h8 := h8.below b
      replace h9 := h9.below b
      clear b f10 j10
      obtain ⟨Sp, Sq, pq⟩ := fsTwo S
      have gp := Sp.1
      have gq := Sq.1
      have ⟨y0, y1, y2, y3, y4, y5⟩ := Sp.2.1
      refine take_call (i := 14) rfl (by kernel_rfl) (fun Kc hK => ?_)
      go_simp
      refine hK.out _ _ (keep9p hHeld (by omega) (by omega) (by omega) (by omega) _ _ _) (fun hHeld => ?_)
      clear hK Kc
      have ⟨i0, i1, i2, i3, i4, i5⟩ := Sq.2.1.put3 (u := (.bool n7)) (v := (.slice a7 l7 c7)) (t := (.slice d7 m7 k7)) pq
      refine take_call (i := 15) rfl (by kernel_rfl) (fun Kc hK => ?_)
      go_simp
      refine hK.out _ _ (keep9p hHeld (by omega) (by omega) (by omega) (by omega) _ _ _) (fun hHeld => ?_)
      clear hK Kc
      refine wpAnyH_done (by kernel_rfl) ?_ _
      rw [HQQ.out]
      exact ⟨rfl, _, p, q, _, _, _, n7, a7, l7, c7, d7, m7, k7, n10, a10, l10, c10, d10, m10, k10, _, _, _, _, _, _, _, _, _, _, _, _, rfl, rfl, Sp, Sq, pq, R, h7, h10⟩
      go_simp
      have b := bnew X67
      refine hK.out _ _ (keep9 hHeld b) (fun hHeld => ?_)
      clear hK Kc
      replace S := S.new 27 (RFU _ R)
      replace R := RFon _ _ R b
      replace h6 := h6.below b
      replace h7 := h7.below b
      clear b
      generalize X67.alloc (.cells #[.bool false, .slice none 0 0, .slice none 0 0] 27) = X77 at S R hHeld h6 h7 ⊢
      generalize X67.heap.size = q at S ⊢
      refine take_call (i := 7) rfl (by kernel_rfl) (fun Kc hK => ?_)
      go_simp
      (go_at_call 6; refine (C7.out _ R).mono ?_; rintro e X78 ⟨n8, a8, l8, c8, d8, m8, k8, rfl, h8, f8, j8, b⟩)
      refine hK.out _ _ (keep9 hHeld b) (fun hHeld => ?_)
      clear hK Kc
      replace S := S.qn b h8 f8 j8
      replace R := RFon _ _ R b
      replace h6 := h6.below b
      replace h7 := h7.below b
      clear b f8 j8
      refine take_call (i := 10) rfl (by kernel_rfl) (fun Kc hK => ?_)
      go_simp
      (go_at_call 6; refine (C10.out _ R).mono ?_; rintro e X79 ⟨n9, a9, l9, c9, d9, m9, k9, rfl, h9, f9, j9, b⟩)
      refine hK.out _ _ (keep9 hHeld b) (fun hHeld => ?_)
      clear hK Kc
      replace S := S.qn b h9 f9 j9
      replace R := RFon _ _ R b
      replace h6 := h6.below b
      replace h7 := h7.below b
      replace h8 := h8.below b
      clear b f9 j9
      refine take_call (i := 11) rfl (by kernel_rfl) (fun Kc hK => ?_)
      go_simp
      (go_at_call 8; refine (C11.out n8 a8 l8 c8 d8 m8 k8 n9 a9 l9 c9 d9 m9 k9 _ h8 h9).mono ?_; rintro e X80 ⟨n10, a10, l10, c10, d10, m10, k10, rfl, h10, f10, j10, b⟩)
      refine hK.out _ _ (keep9 hHeld b) (fun hHeld => ?_)
      clear hK Kc
      replace S := S.qn b h10 f10 j10
      replace R := RFon _ _ R b
      replace h6 := h6.below b
      replace h7 := h7.below b
      replace h8 := h8.below b
      replace h9 := h9.below b
      clear b f10 j10
      obtain ⟨Sp, Sq, pq⟩ := fsTwo S
      have gp := Sp.1
      have gq := Sq.1
      have ⟨y0, y1, y2, y3, y4, y5⟩ := Sp.2.1
      refine take_call (i := 14) rfl (by kernel_rfl) (fun Kc hK => ?_)
      go_simp
      refine hK.out _ _ (keep9p hHeld (by omega) (by omega) (by omega) (by omega) _ _ _) (fun hHeld => ?_)
      clear hK Kc
      have ⟨i0, i1, i2, i3, i4, i5⟩ := Sq.2.1.put3 (u := (.bool n7)) (v := (.slice a7 l7 c7)) (t := (.slice d7 m7 k7)) pq
      refine take_call (i := 15) rfl (by kernel_rfl) (fun Kc hK => ?_)
      go_simp
      refine hK.out _ _ (keep9p hHeld (by omega) (by omega) (by omega) (by omega) _ _ _) (fun hHeld => ?_)
      clear hK Kc
      refine wpAnyH_done (by kernel_rfl) ?_ _
      rw [HQQ.out]
      exact ⟨rfl, _, p, q, _, _, _, n7, a7, l7, c7, d7, m7, k7, n10, a10, l10, c10, d10, m10, k10, _, _, _, _, _, _, _, _, _, _, _, _, rfl, rfl, Sp, Sq, pq, R, h7, h10⟩
      go_simp
      have b := bnew X66
      refine hK.out _ _ (keep9 hHeld b) (fun hHeld => ?_)
      clear hK Kc
      replace S := S.new 27 (RFU _ R)
      replace R := RFon _ _ R b
      replace h6 := h6.below b
      clear b
      generalize X66.alloc (.cells #[.bool false, .slice none 0 0, .slice none 0 0] 27) = X81 at S R hHeld h6 ⊢
      generalize X66.heap.size = q at S ⊢
      refine take_call (i := 4) rfl (by kernel_rfl) (fun Kc hK => ?_)
      go_simp
      (go_at_call 6; refine (C4.out n6 a6 l6 c6 d6 m6 k6 _ R h6).mono ?_; rintro e X82 ⟨n7, a7, l7, c7, d7, m7, k7, rfl, h7, f7, j7, b⟩)
      refine hK.out _ _ (keep9 hHeld b) (fun hHeld => ?_)
      clear hK Kc
      replace S := S.qn b h7 f7 j7
      replace R := RFon _ _ R b
      replace h6 := h6.below b
      clear b f7 j7
      refine take_call (i := 7) rfl (by kernel_rfl) (fun Kc hK => ?_)
      go_simp
      (go_at_call 6; refine (C7.out _ R).mono ?_; rintro e X83 ⟨n8, a8, l8, c8, d8, m8, k8, rfl, h8, f8, j8, b⟩)
      refine hK.out _ _ (keep9 hHeld b) (fun hHeld => ?_)
      clear hK Kc
      replace S := S.qn b h8 f8 j8
      replace R := RFon _ _ R b
      replace h6 := h6.below b
      replace h7 := h7.below b
      clear b f8 j8
      refine take_call (i := 10) rfl (by kernel_rfl) (fun Kc hK => ?_)
      go_simp
      (go_at_call 6; refine (C10.out _ R).mono ?_; rintro e X84 ⟨n9, a9, l9, c9, d9, m9, k9, rfl, h9, f9, j9, b⟩)
      refine hK.out _ _ (keep9 hHeld b) (fun hHeld => ?_)
      clear hK Kc
      replace S := S.qn b h9 f9 j9
      replace R := RFon _ _ R b
      replace h6 := h6.below b
      replace h7 := h7.below b
      replace h8 := h8.below b
      clear b f9 j9
      refine take_call (i := 11) rfl (by kernel_rfl) (fun Kc hK => ?_)
      go_simp
      (go_at_call 8; refine (C11.out n8 a8 l8 c8 d8 m8 k8 n9 a9 l9 c9 d9 m9 k9 _ h8 h9).mono ?_; rintro e X85 ⟨n10, a10, l10, c10, d10, m10, k10, rfl, h10, f10, j10, b⟩)
      refine hK.out _ _ (keep9 hHeld b) (fun hHeld => ?_)
      clear hK Kc
      replace S := S.qn b h10 f10 j10
      replace R := RFon _ _ R b
      replace h6 := h6.below b
      replace h7 := h7.below b
      replace h8 := h8.below b
      replace h9 := h9.below b
      clear b f10 j10
      obtain ⟨Sp, Sq, pq⟩ := fsTwo S
      have gp := Sp.1
      have gq := Sq.1
      have ⟨y0, y1, y2, y3, y4, y5⟩ := Sp.2.1
      refine take_call (i := 14) rfl (by kernel_rfl) (fun Kc hK => ?_)
      go_simp
      refine hK.out _ _ (keep9p hHeld (by omega) (by omega) (by omega) (by omega) _ _ _) (fun hHeld => ?_)
      clear hK Kc
      have ⟨i0, i1, i2, i3, i4, i5⟩ := Sq.2.1.put3 (u := (.bool n7)) (v := (.slice a7 l7 c7)) (t := (.slice d7 m7 k7)) pq
      refine take_call (i := 15) rfl (by kernel_rfl) (fun Kc hK => ?_)
      go_simp
      refine hK.out _ _ (keep9p hHeld (by omega) (by omega) (by omega) (by omega) _ _ _) (fun hHeld => ?_)
      clear hK Kc
      refine wpAnyH_done (by kernel_rfl) ?_ _
      rw [HQQ.out]
      exact ⟨rfl, _, p, q, _, _, _, n7, a7, l7, c7, d7, m7, k7, n10, a10, l10, c10, d10, m10, k10, _, _, _, _, _, _, _, _, _, _, _, _, rfl, rfl, Sp, Sq, pq, R, h7, h10⟩
      go_simp
      have b := bnew X1
      refine hK.out _ _ (keep9 hHeld b) (fun hHeld => ?_)
      clear hK Kc
      replace S := S.new 27 (RFU _ R)
      replace R := RFon _ _ R b
      replace h6 := h6.below b
      clear b
      generalize X1.alloc (.cells #[.bool false, .slice none 0 0, .slice none 0 0] 27) = X86 at S R hHeld h6 ⊢
      generalize X1.heap.size = q at S ⊢
      refine wpAnyH_ready (rs := [4, 12]) (by kernel_rfl) (by simp) (AllReadyH.cons (i := 4) rfl (fun Kc hK => ?_) (AllReadyH.cons (i := 12) rfl (fun Kc hK => ?_) AllReadyH.nil))
      go_simp
      (go_at_call 6; refine (C4.out n6 a6 l6 c6 d6 m6 k6 _ R h6).mono ?_; rintro e X87 ⟨n7, a7, l7, c7, d7, m7, k7, rfl, h7, f7, j7, b⟩)
      refine hK.out _ _ (keep9 hHeld b) (fun hHeld => ?_)
      clear hK Kc
      replace S := S.qn b h7 f7 j7
      replace R := RFon _ _ R b
      replace h6 := h6.below b
      clear b f7 j7
      refine wpAnyH_ready (rs := [7, 12]) (by kernel_rfl) (by simp) (AllReadyH.cons (i := 7) rfl (fun Kc hK => ?_) (AllReadyH.cons (i := 12) rfl (fun Kc hK => ?_) AllReadyH.nil))
      go_simp
      (go_at_call 6; refine (C7.out _ R).mono ?_; rintro e X88 ⟨n8, a8, l8, c8, d8, m8, k8, rfl, h8, f8, j8, b⟩)
      refine hK.out _ _ (keep9 hHeld b) (fun hHeld => ?_)
      clear hK Kc
      replace S := S.qn b h8 f8 j8
      replace R := RFon _ _ R b
      replace h6 := h6.below b
      replace h7 := h7.below b
      clear b f8 j8
      refine wpAnyH_ready (rs := [10, 12]) (by kernel_rfl) (by simp) (AllReadyH.cons (i := 10) rfl (fun Kc hK => ?_) (AllReadyH.cons (i := 12) rfl (fun Kc hK => ?_) AllReadyH.nil))
      go_simp
      (go_at_call 6; refine (C10.out _ R).mono ?_; rintro e X89 ⟨n9, a9, l9, c9, d9, m9, k9, rfl, h9, f9, j9, b⟩)
      refine hK.out _ _ (keep9 hHeld b) (fun hHeld => ?_)
      clear hK Kc
      replace S := S.qn b h9 f9 j9
      replace R := RFon _ _ R b
      replace h6 := h6.below b
      replace h7 := h7.below b
      replace h8 := h8.below b
      clear b f9 j9
      refine wpAnyH_ready (rs := [11, 12]) (by kernel_rfl) (by simp) (AllReadyH.cons (i := 11) rfl (fun Kc hK => ?_) (AllReadyH.cons (i := 12) rfl (fun Kc hK => ?_) AllReadyH.nil))
      go_simp
      (go_at_call 8; refine (C11.out n8 a8 l8 c8 d8 m8 k8 n9 a9 l9 c9 d9 m9 k9 _ h8 h9).mono ?_; rintro e X90 ⟨n10, a10, l10, c10, d10, m10, k10, rfl, h10, f10, j10, b⟩)
      refine hK.out _ _ (keep9 hHeld b) (fun hHeld => ?_)
      clear hK Kc
      replace S := S.qn b h10 f10 j10
      replace R := RFon _ _ R b
      replace h6 := h6.below b
      replace h7 := h7.below b
      replace h8 := h8.below b
      replace h9 := h9.below b
      clear b f10 j10
      refine take_call (i := 12) rfl (by kernel_rfl) (fun Kc hK => ?_)
      go_simp
      have b := bnew X90
      refine hK.out _ _ (keep9 hHeld b) (fun hHeld => ?_)
      clear hK Kc
      replace S := S.new 27 (RFU _ R)
      replace R := RFon _ _ R b
      replace h6 := h6.below b
      replace h7 := h7.below b
      replace h8 := h8.below b
      replace h9 := h9.below b
      replace h10 := h10.below b
      clear b
      generalize X90.alloc (.cells #[.bool false, .slice none 0 0, .slice none 0 0] 27) = X91 at S R hHeld h6 h7 h8 h9 h10 ⊢
      generalize X90.heap.size = p at S ⊢
      obtain ⟨Sp, Sq, pq⟩ := fsOne S
      have gp := Sp.1
      have gq := Sq.1
      have ⟨y0, y1, y2, y3, y4, y5⟩ := Sp.2.1
      refine take_call (i := 14) rfl (by kernel_rfl) (fun Kc hK => ?_)
      go_simp
      refine hK.out _ _ (keep9p hHeld (by omega) (by omega) (by omega) (by omega) _ _ _) (fun hHeld => ?_)
      clear hK Kc
      have ⟨i0, i1, i2, i3, i4, i5⟩ := Sq.2.1.put3 (u := (.bool n7)) (v := (.slice a7 l7 c7)) (t := (.slice d7 m7 k7)) pq
      refine take_call (i := 15) rfl (by kernel_rfl) (fun Kc hK => ?_)
      go_simp
      refine hK.out _ _ (keep9p hHeld (by omega) (by omega) (by omega) (by omega) _ _ _) (fun hHeld => ?_)
      clear hK Kc
      refine wpAnyH_done (by kernel_rfl) ?_ _
      rw [HQQ.out]
      exact ⟨rfl, _, p, q, _, _, _, n7, a7, l7, c7, d7, m7, k7, n10, a10, l10, c10, d10, m10, k10, _, _, _, _, _, _, _, _, _, _, _, _, rfl, rfl, Sp, Sq, pq, R, h7, h10⟩
      go_simp
      have b := bnew X89
      refine hK.out _ _ (keep9 hHeld b) (fun hHeld => ?_)
      clear hK Kc
      replace S := S.new 27 (RFU _ R)
      replace R := RFon _ _ R b
      replace h6 := h6.below b
      replace h7 := h7.below b
      replace h8 := h8.below b
      replace h9 := h9.below b
      clear b
      generalize X89.alloc (.cells #[.bool false, .slice none 0 0, .slice none 0 0] 27) = X92 at S R hHeld h6 h7 h8 h9 ⊢
      generalize X89.heap.size = p at S ⊢
      refine take_call (i := 11) rfl (by kernel_rfl) (fun Kc hK => ?_)
      go_simp
      (go_at_call 8; refine (C11.out n8 a8 l8 c8 d8 m8 k8 n9 a9 l9 c9 d9 m9 k9 _ h8 h9).mono ?_; rintro e X93 ⟨n10, a10, l10, c10, d10, m10, k10, rfl, h10, f10, j10, b⟩)
      refine hK.out _ _ (keep9 hHeld b) (fun hHeld => ?_)
      clear hK Kc
      replace S := S.qn b h10 f10 j10
      replace R := RFon _ _ R b
      replace h6 := h6.below b
      replace h7 := h7.below b
      replace h8 := h8.below b
      replace h9 := h9.below b
      clear b f10 j10
      obtain ⟨Sp, Sq, pq⟩ := fsOne S
      have gp := Sp.1
      have gq := Sq.1
      have ⟨y0, y1, y2, y3, y4, y5⟩ := Sp.2.1
      refine take_call (i := 14) rfl (by kernel_rfl) (fun Kc hK => ?_)
      go_simp
      refine hK.out _ _ (keep9p hHeld (by omega) (by omega) (by omega) (by omega) _ _ _) (fun hHeld => ?_)
      clear hK Kc
      have ⟨i0, i1, i2, i3, i4, i5⟩ := Sq.2.1.put3 (u := (.bool n7)) (v := (.slice a7 l7 c7)) (t := (.slice d7 m7 k7)) pq
      refine take_call (i := 15) rfl (by kernel_rfl) (fun Kc hK => ?_)
      go_simp
      refine hK.out _ _ (keep9p hHeld (by omega) (by omega) (by omega) (by omega) _ _ _) (fun hHeld => ?_)
      clear hK Kc
      refine wpAnyH_done (by kernel_rfl) ?_ _
      rw [HQQ.out]
      exact ⟨rfl, _, p, q, _, _, _, n7, a7, l7, c7, d7, m7, k7, n10, a10, l10, c10, d10, m10, k10, _, _, _, _, _, _, _, _, _, _, _, _, rfl, rfl, Sp, Sq, pq, R, h7, h10⟩
      go_simp
      have b := bnew X88
      refine hK.out _ _ (keep9 hHeld b) (fun hHeld => ?_)
      clear hK Kc
      replace S := S.new 27 (RFU _ R)
      replace R := RFon _ _ R b
      replace h6 := h6.below b
      replace h7 := h7.below b
      replace h8 := h8.below b
      clear b
      generalize X88.alloc (.cells #[.bool false, .slice none 0 0, .slice none 0 0] 27) = X94 at S R hHeld h6 h7 h8 ⊢
      generalize X88.heap.size = p at S ⊢
      refine take_call (i := 10) rfl (by kernel_rfl) (fun Kc hK => ?_)
      go_simp
      (go_at_call 6; refine (C10.out _ R).mono ?_; rintro e X95 ⟨n9, a9, l9, c9, d9, m9, k9, rfl, h9, f9, j9, b⟩)
      refine hK.out _ _ (keep9 hHeld b) (fun hHeld => ?_)
      clear hK Kc
      replace S := S.qn b h9 f9 j9
      replace R := RFon _ _ R b
      replace h6 := h6.below b
      replace h7 := h7.below b
      replace h8 := h8.below b
      clear b f9 j9
      refine take_call (i := 11) rfl (by kernel_rfl) (fun Kc hK => ?_)
      go_simp
      (go_at_call 8; refine (C11.out n8 a8 l8 c8 d8 m8 k8 n9 a9 l9 c9 d9 m9 k9 _ h8 h9).mono ?_; rintro e X96 ⟨n10, a10, l10, c10, d10, m10, k10, rfl, h10, f10, j10, b⟩)
      refine hK.out _ _ (keep9 hHeld b) (fun hHeld => ?_)
      clear hK Kc
      replace S := S.qn b h10 f10 j10
      replace R := RFon _ _ R b
      replace h6 := h6.below b
      replace h7 := h7.below b
      replace h8 := h8.below b
      replace h9 := h9.below b
      clear b f10 j10
      obtain ⟨Sp, Sq, pq⟩ := fsOne S
      have gp := Sp.1
      have gq := Sq.1
      have ⟨y0, y1, y2, y3, y4, y5⟩ := Sp.2.1
      refine take_call (i := 14) rfl (by kernel_rfl) (fun Kc hK => ?_)
      go_simp
      refine hK.out _ _ (keep9p hHeld (by omega) (by omega) (by omega) (by omega) _ _ _) (fun hHeld => ?_)
      clear hK Kc
      have ⟨i0, i1, i2, i3, i4, i5⟩ := Sq.2.1.put3 (u := (.bool n7)) (v := (.slice a7 l7 c7)) (t := (.slice d7 m7 k7)) pq
      refine take_call (i := 15) rfl (by kernel_rfl) (fun Kc hK => ?_)
      go_simp
      refine hK.out _ _ (keep9p hHeld (by omega) (by omega) (by omega) (by omega) _ _ _) (fun hHeld => ?_)
      clear hK Kc
      refine wpAnyH_done (by kernel_rfl) ?_ _
      rw [HQQ.out]
      exact ⟨rfl, _, p, q, _, _, _, n7, a7, l7, c7, d7, m7, k7, n10, a10, l10, c10, d10, m10, k10, _, _, _, _, _, _, _, _, _, _, _, _, rfl, rfl, Sp, Sq, pq, R, h7, h10⟩
      go_simp
      have b := bnew X87
      refine hK.out _ _ (keep9 hHeld b) (fun hHeld => ?_)
      clear hK Kc
      replace S := S.new 27 (RFU _ R)
      replace R := RFon _ _ R b
      replace h6 := h6.below b
      replace h7 := h7.below b
      clear b
      generalize X87.alloc (.cells #[.bool false, .slice none 0 0, .slice none 0 0] 27) = X97 at S R hHeld h6 h7 ⊢
      generalize X87.heap.size = p at S ⊢
      refine take_call (i := 7) rfl (by kernel_rfl) (fun Kc hK => ?_)
      go_simp
      (go_at_call 6; refine (C7.out _ R).mono ?_; rintro e X98 ⟨n8, a8, l8, c8, d8, m8, k8, rfl, h8, f8, j8, b⟩)
      refine hK.out _ _ (keep9 hHeld b) (fun hHeld => ?_)
      clear hK Kc
      replace S := S.qn b h8 f8 j8
      replace R := RFon _ _ R b
      replace h6 := h6.below b
      replace h7 := h7.below b
      clear b f8 j8
      refine take_call (i := 10) rfl (by kernel_rfl) (fun Kc hK => ?_)
      go_simp
      (go_at_call 6; refine (C10.out _ R).mono ?_; rintro e X99 ⟨n9, a9, l9, c9, d9, m9, k9, rfl, h9, f9, j9, b⟩)
      refine hK.out _ _ (keep9 hHeld b) (fun hHeld => ?_)
      clear hK Kc
      replace S := S.qn b h9 f9 j9
      replace R := RFon _ _ R b
      replace h6 := h6.below b
      replace h7 := h7.below b
      replace h8 := h8.below b
      clear b f9 j9
      refine take_call (i := 11) rfl (by kernel_rfl) (fun Kc hK => ?_)
      go_simp
      (go_at_call 8; refine (C11.out n8 a8 l8 c8 d8 m8 k8 n9 a9 l9 c9 d9 m9 k9 _ h8 h9).mono ?_; rintro e X100 ⟨n10, a10, l10, c10, d10, m10, k10, rfl, h10, f10, j10, b⟩)
      refine hK.out _ _ (keep9 hHeld b) (fun hHeld => ?_)
      clear hK Kc
      replace S := S.qn b h10 f10 j10
      replace R := RFon _ _ R b
      replace h6 := h6.below b
      replace h7 := h7.below b
      replace h8 := h8.below b
      replace h9 := h9.below b
      clear b f10 j10
      obtain ⟨Sp, Sq, pq⟩ := fsOne S
      have gp := Sp.1
      have gq := Sq.1
      have ⟨y0, y1, y2, y3, y4, y5⟩ := Sp.2.1
      refine take_call (i := 14) rfl (by kernel_rfl) (fun Kc hK => ?_)
      go_simp
      refine hK.out _ _ (keep9p hHeld (by omega) (by omega) (by omega) (by omega) _ _ _) (fun hHeld => ?_)
      clear hK Kc
      have ⟨i0, i1, i2, i3, i4, i5⟩ := Sq.2.1.put3 (u := (.bool n7)) (v := (.slice a7 l7 c7)) (t := (.slice d7 m7 k7)) pq
      refine take_call (i := 15) rfl (by kernel_rfl) (fun Kc hK => ?_)
      go_simp
      refine hK.out _ _ (keep9p hHeld (by omega) (by omega) (by omega) (by omega) _ _ _) (fun hHeld => ?_)
      clear hK Kc
      refine wpAnyH_done (by kernel_rfl) ?_ _
      rw [HQQ.out]
      exact ⟨rfl, _, p, q, _, _, _, n7, a7, l7, c7, d7, m7, k7, n10, a10, l10, c10, d10, m10, k10, _, _, _, _, _, _, _, _, _, _, _, _, rfl, rfl, Sp, Sq, pq, R, h7, h10⟩
      go_simp
      have b := bnew X86
      refine hK.out _ _ (keep9 hHeld b) (fun hHeld => ?_)
      clear hK Kc
      replace S := S.new 27 (RFU _ R)
      replace R := RFon _ _ R b
      replace h6 := h6.below b
      clear b
      generalize X86.alloc (.cells #[.bool false, .slice none 0 0, .slice none 0 0] 27) = X101 at S R hHeld h6 ⊢
      generalize X86.heap.size = p at S ⊢
      refine take_call (i := 4) rfl (by kernel_rfl) (fun Kc hK => ?_)
      go_simp
      (go_at_call 6; refine (C4.out n6 a6 l6 c6 d6 m6 k6 _ R h6).mono ?_; rintro e X102 ⟨n7, a7, l7, c7, d7, m7, k7, rfl, h7, f7, j7, b⟩)
      refine hK.out _ _ (keep9 hHeld b) (fun hHeld => ?_)
      clear hK Kc
      replace S := S.qn b h7 f7 j7
      replace R := RFon _ _ R b
      replace h6 := h6.below b
      clear b f7 j7
      refine take_call (i := 7) rfl (by kernel_rfl) (fun Kc hK => ?_)
      go_simp
      (go_at_call 6; refine (C7.out _ R).mono ?_; rintro e X103 ⟨n8, a8, l8, c8, d8, m8, k8, rfl, h8, f8, j8, b⟩)
      refine hK.out _ _ (keep9 hHeld b) (fun hHeld => ?_)
      clear hK Kc
      replace S := S.qn b h8 f8 j8
      replace R := RFon _ _ R b
      replace h6 := h6.below b
      replace h7 := h7.below b
      clear b f8 j8
      refine take_call (i := 10) rfl (by kernel_rfl) (fun Kc hK => ?_)
      go_simp
      (go_at_call 6; refine (C10.out _ R).mono ?_; rintro e X104 ⟨n9, a9, l9, c9, d9, m9, k9, rfl, h9, f9, j9, b⟩)
      refine hK.out _ _ (keep9 hHeld b) (fun hHeld => ?_)
      clear hK Kc
      replace S := S.qn b h9 f9 j9
      replace R := RFon _ _ R b
      replace h6 := h6.below b
      replace h7 := h7.below b
      replace h8 := h8.below b
      clear b f9 j9
      refine take_call (i := 11) rfl (by kernel_rfl) (fun Kc hK => ?_)
      go_simp
      (go_at_call 8; refine (C11.out n8 a8 l8 c8 d8 m8 k8 n9 a9 l9 c9 d9 m9 k9 _ h8 h9).mono ?_; rintro e X105 ⟨n10, a10, l10, c10, d10, m10, k10, rfl, h10, f10, j10, b⟩)
      refine hK.out _ _ (keep9 hHeld b) (fun hHeld => ?_)
      clear hK Kc
      replace S := S.qn b h10 f10 j10
      replace R := RFon _ _ R b
      replace h6 := h6.below b
      replace h7 := h7.below b
      replace h8 := h8.below b
      replace h9 := h9.below b
      clear b f10 j10
      obtain ⟨Sp, Sq, pq⟩ := fsOne S
      have gp := Sp.1
      have gq := Sq.1
      have ⟨y0, y1, y2, y3, y4, y5⟩ := Sp.2.1
      refine take_call (i := 14) rfl (by kernel_rfl) (fun Kc hK => ?_)
      go_simp
      refine hK.out _ _ (keep9p hHeld (by omega) (by omega) (by omega) (by omega) _ _ _) (fun hHeld => ?_)
      clear hK Kc
      have ⟨i0, i1, i2, i3, i4, i5⟩ := Sq.2.1.put3 (u := (.bool n7)) (v := (.slice a7 l7 c7)) (t := (.slice d7 m7 k7)) pq
      refine take_call (i := 15) rfl (by kernel_rfl) (fun Kc hK => ?_)
      go_simp
      refine hK.out _ _ (keep9p hHeld (by omega) (by omega) (by omega) (by omega) _ _ _) (fun hHeld => ?_)
      clear hK Kc
      refine wpAnyH_done (by kernel_rfl) ?_ _
      rw [HQQ.out]
      exact ⟨rfl, _, p, q, _, _, _, n7, a7, l7, c7, d7, m7, k7, n10, a10, l10, c10, d10, m10, k10, _, _, _, _, _, _, _, _, _, _, _, _, rfl, rfl, Sp, Sq, pq, R, h7, h10⟩
      go_simp
      have b := bnew X0
      refine hK.out _ _ (keep9 hHeld b) (fun hHeld => ?_)
      clear hK Kc
      replace S := S.new 27 (RFU _ R)
      replace R := RFon _ _ R b
      clear b
      generalize X0.alloc (.cells #[.bool false, .slice none 0 0, .slice none 0 0] 27) = X106 at S R hHeld  ⊢
      generalize X0.heap.size = p at S ⊢
      refine wpAnyH_ready (rs := [3, 13]) (by kernel_rfl) (by simp) (AllReadyH.cons (i := 3) rfl (fun Kc hK => ?_) (AllReadyH.cons (i := 13) rfl (fun Kc hK => ?_) AllReadyH.nil))
      go_simp
      (go_at_call 8; refine (C3.out _ R).mono ?_; rintro e X107 ⟨n6, a6, l6, c6, d6, m6, k6, rfl, h6, f6, j6, b⟩)
      refine hK.out _ _ (keep9 hHeld b) (fun hHeld => ?_)
      clear hK Kc
      replace S := S.qn b h6 f6 j6
      replace R := RFon _ _ R b
      clear b f6 j6
      refine wpAnyH_ready (rs := [4, 13]) (by kernel_rfl) (by simp) (AllReadyH.cons (i := 4) rfl (fun Kc hK => ?_) (AllReadyH.cons (i := 13) rfl (fun Kc hK => ?_) AllReadyH.nil))
      go_simp
      (go_at_call 6; refine (C4.out n6 a6 l6 c6 d6 m6 k6 _ R h6).mono ?_; rintro e X108 ⟨n7, a7, l7, c7, d7, m7, k7, rfl, h7, f7, j7, b⟩)
      refine hK.out _ _ (keep9 hHeld b) (fun hHeld => ?_)
      clear hK Kc
      replace S := S.qn b h7 f7 j7
      replace R := RFon _ _ R b
      replace h6 := h6.below b
      clear b f7 j7
      refine wpAnyH_ready (rs := [7, 13]) (by kernel_rfl) (by simp) (AllReadyH.cons (i := 7) rfl (fun Kc hK => ?_) (AllReadyH.cons (i := 13) rfl (fun Kc hK => ?_) AllReadyH.nil))
      go_simp
      (go_at_call 6; refine (C7.out _ R).mono ?_; rintro e X109 ⟨n8, a8, l8, c8, d8, m8, k8, rfl, h8, f8, j8, b⟩)
      refine hK.out _ _ (keep9 hHeld b) (fun hHeld => ?_)
      clear hK Kc
      replace S := S.qn b h8 f8 j8
      replace R := RFon _ _ R b
      replace h6 := h6.below b
      replace h7 := h7.below b
      clear b f8 j8
      refine wpAnyH_ready (rs := [10, 13]) (by kernel_rfl) (by simp) (AllReadyH.cons (i := 10) rfl (fun Kc hK => ?_) (AllReadyH.cons (i := 13) rfl (fun Kc hK => ?_) AllReadyH.nil))
      go_simp
      (go_at_call 6; refine (C10.out _ R).mono ?_; rintro e X110 ⟨n9, a9, l9, c9, d9, m9, k9, rfl, h9, f9, j9, b⟩)
      refine hK.out _ _ (keep9 hHeld b) (fun hHeld => ?_)
      clear hK Kc
      replace S := S.qn b h9 f9 j9
      replace R := RFon _ _ R b
      replace h6 := h6.below b
      replace h7 := h7.below b
      replace h8 := h8.below b
      clear b f9 j9
      refine wpAnyH_ready (rs := [11, 13]) (by kernel_rfl) (by simp) (AllReadyH.cons (i := 11) rfl (fun Kc hK => ?_) (AllReadyH.cons (i := 13) rfl (fun Kc hK => ?_) AllReadyH.nil))
      go_simp
      (go_at_call 8; refine (C11.out n8 a8 l8 c8 d8 m8 k8 n9 a9 l9 c9 d9 m9 k9 _ h8 h9).mono ?_; rintro e X111 ⟨n10, a10, l10, c10, d10, m10, k10, rfl, h10, f10, j10, b⟩)
      refine hK.out _ _ (keep9 hHeld b) (fun hHeld => ?_)
      clear hK Kc
      replace S := S.qn b h10 f10 j10
      replace R := RFon _ _ R b
      replace h6 := h6.below b
      replace h7 := h7.below b
      replace h8 := h8.below b
      replace h9 := h9.below b
      clear b f10 j10
      refine take_call (i := 13) rfl (by kernel_rfl) (fun Kc hK => ?_)
      go_simp
      have b := bnew X111
      refine hK.out _ _ (keep9 hHeld b) (fun hHeld => ?_)
      clear hK Kc
      replace S := S.new 27 (RFU _ R)
      replace R := RFon _ _ R b
      replace h6 := h6.below b
      replace h7 := h7.below b
      replace h8 := h8.below b
      replace h9 := h9.below b
      replace h10 := h10.below b
      clear b
      generalize X111.alloc (.cells #[.bool false, .slice none 0 0, .slice none 0 0] 27) = X112 at S R hHeld h6 h7 h8 h9 h10 ⊢
      generalize X111.heap.size = q at S ⊢
      obtain ⟨Sp, Sq, pq⟩ := fsTwo S
      have gp := Sp.1
      have gq := Sq.1
      have ⟨y0, y1, y2, y3, y4, y5⟩ := Sp.2.1
      refine take_call (i := 14) rfl (by kernel_rfl) (fun Kc hK => ?_)
      go_simp
      refine hK.out _ _ (keep9p hHeld (by omega) (by omega) (by omega) (by omega) _ _ _) (fun hHeld => ?_)
      clear hK Kc
      have ⟨i0, i1, i2, i3, i4, i5⟩ := Sq.2.1.put3 (u := (.bool n7)) (v := (.slice a7 l7 c7)) (t := (.slice d7 m7 k7)) pq
      refine take_call (i := 15) rfl (by kernel_rfl) (fun Kc hK => ?_)
      go_simp
      refine hK.out _ _ (keep9p hHeld (by omega) (by omega) (by omega) (by omega) _ _ _) (fun hHeld => ?_)
      clear hK Kc
      refine wpAnyH_done (by kernel_rfl) ?_ _
      rw [HQQ.out]
      exact ⟨rfl, _, p, q, _, _, _, n7, a7, l7, c7, d7, m7, k7, n10, a10, l10, c10, d10, m10, k10, _, _, _, _, _, _, _, _, _, _, _, _, rfl, rfl, Sp, Sq, pq, R, h7, h10⟩
      go_simp
      have b := bnew X110
      refine hK.out _ _ (keep9 hHeld b) (fun hHeld => ?_)
      clear hK Kc
      replace S := S.new 27 (RFU _ R)
      replace R := RFon _ _ R b
      replace h6 := h6.below b
      replace h7 := h7.below b
      replace h8 := h8.below b
      replace h9 := h9.below b
      clear b
      generalize X110.alloc (.cells #[.bool false, .slice none 0 0, .slice none 0 0] 27) = X113 at S R hHeld h6 h7 h8 h9 ⊢
      generalize X110.heap.size = q at S ⊢
      refine take_call (i := 11) rfl (by kernel_rfl) (fun Kc hK => ?_)
      go_simp
      (go_at_call 8; refine (C11.out n8 a8 l8 c8 d8 m8 k8 n9 a9 l9 c9 d9 m9 k9 _ h8 h9).mono ?_; rintro e X114 ⟨n10, a10, l10, c10, d10, m10, k10, rfl, h10, f10, j10, b⟩)
      refine hK.out _ _ (keep9 hHeld b) (fun hHeld => ?_)
      clear hK Kc
      replace S := S.qn b h10 f10 j10
      replace R := RFon _ _ R b
      replace h6 := h6.below b
      replace h7 := h7.below b
      replace h8 := h8.below b
      replace h9 := h9.below b
      clear b f10 j10
      obtain ⟨Sp, Sq, pq⟩ := fsTwo S
      have gp := Sp.1
      have gq := Sq.1
      have ⟨y0, y1, y2, y3, y4, y5⟩ := Sp.2.1
      refine take_call (i := 14) rfl (by kernel_rfl) (fun Kc hK => ?_)
      go_simp
      refine hK.out _ _ (keep9p hHeld (by omega) (by omega) (by omega) (by omega) _ _ _) (fun hHeld => ?_)
      clear hK Kc
      have ⟨i0, i1, i2, i3, i4, i5⟩ := Sq.2.1.put3 (u := (.bool n7)) (v := (.slice a7 l7 c7)) (t := (.slice d7 m7 k7)) pq
      refine take_call (i := 15) rfl (by kernel_rfl) (fun Kc hK => ?_)
      go_simp
      refine hK.out _ _ (keep9p hHeld (by omega) (by omega) (by omega) (by omega) _ _ _) (fun hHeld => ?_)
      clear hK Kc
      refine wpAnyH_done (by kernel_rfl) ?_ _
      rw [HQQ.out]
      exact ⟨rfl, _, p, q, _, _, _, n7, a7, l7, c7, d7, m7, k7, n10, a10, l10, c10, d10, m10, k10, _, _, _, _, _, _, _, _, _, _, _, _, rfl, rfl, Sp, Sq, pq, R, h7, h10⟩
      go_simp
      have b := bnew X109
      refine hK.out _ _ (keep9 hHeld b) (fun hHeld => ?_)
      clear hK Kc
      replace S := S.new 27 (RFU _ R)
      replace R := RFon _ _ R b
      replace h6 := h6.below b
      replace h7 := h7.below b
      replace h8 := h8.below b
      clear b
      generalize X109.alloc (.cells #[.bool false, .slice none 0 0, .slice none 0 0] 27) = X115 at S R hHeld h6 h7 h8 ⊢
      generalize X109.heap.size = q at S ⊢
      refine take_call (i := 10) rfl (by kernel_rfl) (fun Kc hK => ?_)
      go_simp
      (go_at_call 6; refine (C10.out _ R).mono ?_; rintro e X116 ⟨n9, a9, l9, c9, d9, m9, k9, rfl, h9, f9, j9, b⟩)
      refine hK.out _ _ (keep9 hHeld b) (fun hHeld => ?_)
      clear hK Kc
      replace S := S.qn b h9 f9 j9
      replace R := RFon _ _ R b
      replace h6 := h6.below b
      replace h7 := h7.below b
      replace h8 := h8.below b
      clear b f9 j9
      refine take_call (i := 11) rfl (by kernel_rfl) (fun Kc hK => ?_)
      go_simp
      (go_at_call 8; refine (C11.out n8 a8 l8 c8 d8 m8 k8 n9 a9 l9 c9 d9 m9 k9 _ h8 h9).mono ?_; rintro e X117 ⟨n10, a10, l10, c10, d10, m10, k10, rfl, h10, f10, j10, b⟩)
      refine hK.out _ _ (keep9 hHeld b) (fun hHeld => ?_)
      clear hK Kc
      replace S := S.qn b h10 f10 j10
      replace R := RFon _ _ R b
      replace h6 := h6.below b
      replace h7 := h7.below b
      replace h8 := h8.below b
      replace h9 := h9.below b
      clear b f10 j10
      obtain ⟨Sp, Sq, pq⟩ := fsTwo S
      have gp := Sp.1
      have gq := Sq.1
      have ⟨y0, y1, y2, y3, y4, y5⟩ := Sp.2.1
      refine take_call (i := 14) rfl (by kernel_rfl) (fun Kc hK => ?_)
      go_simp
      refine hK.out _ _ (keep9p hHeld (by omega) (by omega) (by omega) (by omega) _ _ _) (fun hHeld => ?_)
      clear hK Kc
      have ⟨i0, i1, i2, i3, i4, i5⟩ := Sq.2.1.put3 (u := (.bool n7)) (v := (.slice a7 l7 c7)) (t := (.slice d7 m7 k7)) pq
      refine take_call (i := 15) rfl (by kernel_rfl) (fun Kc hK => ?_)
      go_simp
      refine hK.out _ _ (keep9p hHeld (by omega) (by omega) (by omega) (by omega) _ _ _) (fun hHeld => ?_)
      clear hK Kc
      refine wpAnyH_done (by kernel_rfl) ?_ _
      rw [HQQ.out]
      exact ⟨rfl, _, p, q, _, _, _, n7, a7, l7, c7, d7, m7, k7, n10, a10, l10, c10, d10, m10, k10, _, _, _, _, _, _, _, _, _, _, _, _, rfl, rfl, Sp, Sq, pq, R, h7, h10⟩
      go_simp
      have b := bnew X108
      refine hK.out _ _ (keep9 hHeld b) (fun hHeld => ?_)
      clear hK Kc
      replace S := S.new 27 (RFU _ R)
      replace R := RFon _ _ R b
      replace h6 := h6.below b
      replace h7 := h7.below b
      clear b
      generalize X108.alloc (.cells #[.bool false, .slice none 0 0, .slice none 0 0] 27) = X118 at S R hHeld h6 h7 ⊢
      generalize X108.heap.size = q at S ⊢
      refine take_call (i := 7) rfl (by kernel_rfl) (fun Kc hK => ?_)
      go_simp
      (go_at_call 6; refine (C7.out _ R).mono ?_; rintro e X119 ⟨n8, a8, l8, c8, d8, m8, k8, rfl, h8, f8, j8, b⟩)
      refine hK.out _ _ (keep9 hHeld b) (fun hHeld => ?_)
      clear hK Kc
      replace S := S.qn b h8 f8 j8
      replace R := RFon _ _ R b
      replace h6 := h6.below b
      replace h7 := h7.below b
      clear b f8 j8
      refine take_call (i := 10) rfl (by kernel_rfl) (fun Kc hK => ?_)
      go_simp
      (go_at_call 6; refine (C10.out _ R).mono ?_; rintro e X120 ⟨n9, a9, l9, c9, d9, m9, k9, rfl, h9, f9, j9, b⟩)
      refine hK.out _ _ (keep9 hHeld b) (fun hHeld => ?_)
      clear hK Kc
      replace S := S.qn b h9 f9 j9
      replace R := RFon _ _ R b
      replace h6 := h6.below b
      replace h7 := h7.below b
      replace h8 := h8.below b
      clear b f9 j9
      refine take_call (i := 11) rfl (by kernel_rfl) (fun Kc hK => ?_)
      go_simp
      (go_at_call 8; refine (C11.out n8 a8 l8 c8 d8 m8 k8 n9 a9 l9 c9 d9 m9 k9 _ h8 h9).mono ?_; rintro e X121 ⟨n10, a10, l10, c10, d10, m10, k10, rfl, h10, f10, j10, b⟩)
      refine hK.out _ _ (keep9 hHeld b) (fun hHeld => ?_)
      clear hK Kc
      replace S := S.qn b h10 f10 j10
      replace R := RFon _ _ R b
      replace h6 := h6.below b
      replace h7 := h7.below b
      replace h8 := h8.below b
      replace h9 := h9.below b
      clear b f10 j10
      obtain ⟨Sp, Sq, pq⟩ := fsTwo S
      have gp := Sp.1
      have gq := Sq.1
      have ⟨y0, y1, y2, y3, y4, y5⟩ := Sp.2.1
      refine take_call (i := 14) rfl (by kernel_rfl) (fun Kc hK => ?_)
      go_simp
      refine hK.out _ _ (keep9p hHeld (by omega) (by omega) (by omega) (by omega) _ _ _) (fun hHeld => ?_)
      clear hK Kc
      have ⟨i0, i1, i2, i3, i4, i5⟩ := Sq.2.1.put3 (u := (.bool n7)) (v := (.slice a7 l7 c7)) (t := (.slice d7 m7 k7)) pq
      refine take_call (i := 15) rfl (by kernel_rfl) (fun Kc hK => ?_)
      go_simp
      refine hK.out _ _ (keep9p hHeld (by omega) (by omega) (by omega) (by omega) _ _ _) (fun hHeld => ?_)
      clear hK Kc
      refine wpAnyH_done (by kernel_rfl) ?_ _
      rw [HQQ.out]
      exact ⟨rfl, _, p, q, _, _, _, n7, a7, l7, c7, d7, m7, k7, n10, a10, l10, c10, d10, m10, k10, _, _, _, _, _, _, _, _, _, _, _, _, rfl, rfl, Sp, Sq, pq, R, h7, h10⟩
      go_simp
      have b := bnew X107
      refine hK.out _ _ (keep9 hHeld b) (fun hHeld => ?_)
      clear hK Kc
      replace S := S.new 27 (RFU _ R)
      replace R := RFon _ _ R b
      replace h6 := h6.below b
      clear b
      generalize X107.alloc (.cells #[.bool false, .slice none 0 0, .slice none 0 0] 27) = X122 at S R hHeld h6 ⊢
      generalize X107.heap.size = q at S ⊢
      refine take_call (i := 4) rfl (by kernel_rfl) (fun Kc hK => ?_)
      go_simp
      (go_at_call 6; refine (C4.out n6 a6 l6 c6 d6 m6 k6 _ R h6).mono ?_; rintro e X123 ⟨n7, a7, l7, c7, d7, m7, k7, rfl, h7, f7, j7, b⟩)
      refine hK.out _ _ (keep9 hHeld b) (fun hHeld => ?_)
      clear hK Kc
      replace S := S.qn b h7 f7 j7
      replace R := RFon _ _ R b
      replace h6 := h6.below b
      clear b f7 j7
      refine take_call (i := 7) rfl (by kernel_rfl) (fun Kc hK => ?_)
      go_simp
      (go_at_call 6; refine (C7.out _ R).mono ?_; rintro e X124 ⟨n8, a8, l8, c8, d8, m8, k8, rfl, h8, f8, j8, b⟩)
      refine hK.out _ _ (keep9 hHeld b) (fun hHeld => ?_)
      clear hK Kc
      replace S := S.qn b h8 f8 j8
      replace R := RFon _ _ R b
      replace h6 := h6.below b
      replace h7 := h7.below b
      clear b f8 j8
      refine take_call (i := 10) rfl (by kernel_rfl) (fun Kc hK => ?_)
      go_simp
      (go_at_call 6; refine (C10.out _ R).mono ?_; rintro e X125 ⟨n9, a9, l9, c9, d9, m9, k9, rfl, h9, f9, j9, b⟩)
      refine hK.out _ _ (keep9 hHeld b) (fun hHeld => ?_)
      clear hK Kc
      replace S := S.qn b h9 f9 j9
      replace R := RFon _ _ R b
      replace h6 := h6.below b
      replace h7 := h7.below b
      replace h8 := h8.below b
      clear b f9 j9
      refine take_call (i := 11) rfl (by kernel_rfl) (fun Kc hK => ?_)
      go_simp
      (go_at_call 8; refine (C11.out n8 a8 l8 c8 d8 m8 k8 n9 a9 l9 c9 d9 m9 k9 _ h8 h9).mono ?_; rintro e X126 ⟨n10, a10, l10, c10, d10, m10, k10, rfl, h10, f10, j10, b⟩)
      refine hK.out _ _ (keep9 hHeld b) (fun hHeld => ?_)
      clear hK Kc
      replace S := S.qn b h10 f10 j10
      replace R := RFon _ _ R b
      replace h6 := h6.below b
      replace h7 := h7.below b
      replace h8 := h8.below b
      replace h9 := h9.below b
      clear b f10 j10
      obtain ⟨Sp, Sq, pq⟩ := fsTwo S
      have gp := Sp.1
      have gq := Sq.1
      have ⟨y0, y1, y2, y3, y4, y5⟩ := Sp.2.1
      refine take_call (i := 14) rfl (by kernel_rfl) (fun Kc hK => ?_)
      go_simp
      refine hK.out _ _ (keep9p hHeld (by omega) (by omega) (by omega) (by omega) _ _ _) (fun hHeld => ?_)
      clear hK Kc
      have ⟨i0, i1, i2, i3, i4, i5⟩ := Sq.2.1.put3 (u := (.bool n7)) (v := (.slice a7 l7 c7)) (t := (.slice d7 m7 k7)) pq
      refine take_call (i := 15) rfl (by kernel_rfl) (fun Kc hK => ?_)
      go_simp
      refine hK.out _ _ (keep9p hHeld (by omega) (by omega) (by omega) (by omega) _ _ _) (fun hHeld => ?_)
      clear hK Kc
      refine wpAnyH_done (by kernel_rfl) ?_ _
      rw [HQQ.out]
      exact ⟨rfl, _, p, q, _, _, _, n7, a7, l7, c7, d7, m7, k7, n10, a10, l10, c10, d10, m10, k10, _, _, _, _, _, _, _, _, _, _, _, _, rfl, rfl, Sp, Sq, pq, R, h7, h10⟩
      go_simp
      have b := bnew X106
      refine hK.out _ _ (keep9 hHeld b) (fun hHeld => ?_)
      clear hK Kc
      replace S := S.new 27 (RFU _ R)
      replace R := RFon _ _ R b
      clear b
      generalize X106.alloc (.cells #[.bool false, .slice none 0 0, .slice none 0 0] 27) = X127 at S R hHeld  ⊢
      generalize X106.heap.size = q at S ⊢
      refine take_call (i := 3) rfl (by kernel_rfl) (fun Kc hK => ?_)
      go_simp
      (go_at_call 8; refine (C3.out _ R).mono ?_; rintro e X128 ⟨n6, a6, l6, c6, d6, m6, k6, rfl, h6, f6, j6, b⟩)
      refine hK.out _ _ (keep9 hHeld b) (fun hHeld => ?_)
      clear hK Kc
      replace S := S.qn b h6 f6 j6
      replace R := RFon _ _ R b
      clear b f6 j6
      refine take_call (i := 4) rfl (by kernel_rfl) (fun Kc hK => ?_)
      go_simp
      (go_at_call 6; refine (C4.out n6 a6 l6 c6 d6 m6 k6 _ R h6).mono ?_; rintro e X129 ⟨n7, a7, l7, c7, d7, m7, k7, rfl, h7, f7, j7, b⟩)
      refine hK.out _ _ (keep9 hHeld b) (fun hHeld => ?_)
      clear hK Kc
      replace S := S.qn b h7 f7 j7
      replace R := RFon _ _ R b
      replace h6 := h6.below b
      clear b f7 j7
      refine take_call (i := 7) rfl (by kernel_rfl) (fun Kc hK => ?_)
      go_simp
      (go_at_call 6; refine (C7.out _ R).mono ?_; rintro e X130 ⟨n8, a8, l8, c8, d8, m8, k8, rfl, h8, f8, j8, b⟩)
      refine hK.out _ _ (keep9 hHeld b) (fun hHeld => ?_)
      clear hK Kc
      replace S := S.qn b h8 f8 j8
      replace R := RFon _ _ R b
      replace h6 := h6.below b
      replace h7 := h7.below b
      clear b f8 j8
      refine take_call (i := 10) rfl (by kernel_rfl) (fun Kc hK => ?_)
      go_simp
      (go_at_call 6; refine (C10.out _ R).mono ?_; rintro e X131 ⟨n9, a9, l9, c9, d9, m9, k9, rfl, h9, f9, j9, b⟩)
      refine hK.out _ _ (keep9 hHeld b) (fun hHeld => ?_)
      clear hK Kc
      replace S := S.qn b h9 f9 j9
      replace R := RFon _ _ R b
      replace h6 := h6.below b
      replace h7 := h7.below b
      replace h8 := h8.below b
      clear b f9 j9
      refine take_call (i := 11) rfl (by kernel_rfl) (fun Kc hK => ?_)
      go_simp
      (go_at_call 8; refine (C11.out n8 a8 l8 c8 d8 m8 k8 n9 a9 l9 c9 d9 m9 k9 _ h8 h9).mono ?_; rintro e X132 ⟨n10, a10, l10, c10, d10, m10, k10, rfl, h10, f10, j10, b⟩)
      refine hK.out _ _ (keep9 hHeld b) (fun hHeld => ?_)
      clear hK Kc
      replace S := S.qn b h10 f10 j10
      replace R := RFon _ _ R b
      replace h6 := h6.below b
      replace h7 := h7.below b
      replace h8 := h8.below b
      replace h9 := h9.below b
      clear b f10 j10
      obtain ⟨Sp, Sq, pq⟩ := fsTwo S
      have gp := Sp.1
      have gq := Sq.1
      have ⟨y0, y1, y2, y3, y4, y5⟩ := Sp.2.1
      refine take_call (i := 14) rfl (by kernel_rfl) (fun Kc hK => ?_)
      go_simp
      refine hK.out _ _ (keep9p hHeld (by omega) (by omega) (by omega) (by omega) _ _ _) (fun hHeld => ?_)
      clear hK Kc
      have ⟨i0, i1, i2, i3, i4, i5⟩ := Sq.2.1.put3 (u := (.bool n7)) (v := (.slice a7 l7 c7)) (t := (.slice d7 m7 k7)) pq
      refine take_call (i := 15) rfl (by kernel_rfl) (fun Kc hK => ?_)
      go_simp
      refine hK.out _ _ (keep9p hHeld (by omega) (by omega) (by omega) (by omega) _ _ _) (fun hHeld => ?_)
      clear hK Kc
      refine wpAnyH_done (by kernel_rfl) ?_ _
      rw [HQQ.out]
      exact ⟨rfl, _, p, q, _, _, _, n7, a7, l7, c7, d7, m7, k7, n10, a10, l10, c10, d10, m10, k10, _, _, _, _, _, _, _, _, _, _, _, _, rfl, rfl, Sp, Sq, pq, R, h7, h10⟩
      go_simp
      have b := bnew X0
      refine hK.out _ _ (keep9 hHeld b) (fun hHeld => ?_)
      clear hK Kc
      replace S := S.new 27 (RFU _ R)
      replace R := RFon _ _ R b
      clear b
      generalize X0.alloc (.cells #[.bool false, .slice none 0 0, .slice none 0 0] 27) = X133 at S R hHeld  ⊢
      generalize X0.heap.size = q at S ⊢
      refine wpAnyH_ready (rs := [3, 12]) (by kernel_rfl) (by simp) (AllReadyH.cons (i := 3) rfl (fun Kc hK => ?_) (AllReadyH.cons (i := 12) rfl (fun Kc hK => ?_) AllReadyH.nil))
      go_simp
      (go_at_call 8; refine (C3.out _ R).mono ?_; rintro e X134 ⟨n6, a6, l6, c6, d6, m6, k6, rfl, h6, f6, j6, b⟩)
      refine hK.out _ _ (keep9 hHeld b) (fun hHeld => ?_)
      clear hK Kc
      replace S := S.qn b h6 f6 j6
      replace R := RFon _ _ R b
      clear b f6 j6
      refine wpAnyH_ready (rs := [4, 12]) (by kernel_rfl) (by simp) (AllReadyH.cons (i := 4) rfl (fun Kc hK => ?_) (AllReadyH.cons (i := 12) rfl (fun Kc hK => ?_) AllReadyH.nil))
      go_simp
      (go_at_call 6; refine (C4.out n6 a6 l6 c6 d6 m6 k6 _ R h6).mono ?_; rintro e X135 ⟨n7, a7, l7, c7, d7, m7, k7, rfl, h7, f7, j7, b⟩)
      refine hK.out _ _ (keep9 hHeld b) (fun hHeld => ?_)
      clear hK Kc
      replace S := S.qn b h7 f7 j7
      replace R := RFon _ _ R b
      replace h6 := h6.below b
      clear b f7 j7
      refine wpAnyH_ready (rs := [7, 12]) (by kernel_rfl) (by simp) (AllReadyH.cons (i := 7) rfl (fun Kc hK => ?_) (AllReadyH.cons (i := 12) rfl (fun Kc hK => ?_) AllReadyH.nil))
      go_simp
      (go_at_call 6; refine (C7.out _ R).mono ?_; rintro e X136 ⟨n8, a8, l8, c8, d8, m8, k8, rfl, h8, f8, j8, b⟩)
      refine hK.out _ _ (keep9 hHeld b) (fun hHeld => ?_)
      clear hK Kc
      replace S := S.qn b h8 f8 j8
      replace R := RFon _ _ R b
      replace h6 := h6.below b
      replace h7 := h7.below b
      clear b f8 j8
      refine wpAnyH_ready (rs := [10, 12]) (by kernel_rfl) (by simp) (AllReadyH.cons (i := 10) rfl (fun Kc hK => ?_) (AllReadyH.cons (i := 12) rfl (fun Kc hK => ?_) AllReadyH.nil))
      go_simp
      (go_at_call 6; refine (C10.out _ R).mono ?_; rintro e X137 ⟨n9, a9, l9, c9, d9, m9, k9, rfl, h9, f9, j9, b⟩)
      refine hK.out _ _ (keep9 hHeld b) (fun hHeld => ?_)
      clear hK Kc
      replace S := S.qn b h9 f9 j9
      replace R := RFon _ _ R b
      replace h6 := h6.below b
      replace h7 := h7.below b
      replace h8 := h8.below b
      clear b f9 j9
      refine wpAnyH_ready (rs := [11, 12]) (by kernel_rfl) (by simp) (AllReadyH.cons (i := 11) rfl (fun Kc hK => ?_) (AllReadyH.cons (i := 12) rfl (fun Kc hK => ?_) AllReadyH.nil))
      go_simp
      (go_at_call 8; refine (C11.out n8 a8 l8 c8 d8 m8 k8 n9 a9 l9 c9 d9 m9 k9 _ h8 h9).mono ?_; rintro e X138 ⟨n10, a10, l10, c10, d10, m10, k10, rfl, h10, f10, j10, b⟩)
      refine hK.out _ _ (keep9 hHeld b) (fun hHeld => ?_)
      clear hK Kc
      replace S := S.qn b h10 f10 j10
      replace R := RFon _ _ R b
      replace h6 := h6.below b
      replace h7 := h7.below b
      replace h8 := h8.below b
      replace h9 := h9.below b
      clear b f10 j10
      refine take_call (i := 12) rfl (by kernel_rfl) (fun Kc hK => ?_)
      go_simp
      have b := bnew X138
      refine hK.out _ _ (keep9 hHeld b) (fun hHeld => ?_)
      clear hK Kc
      replace S := S.new 27 (RFU _ R)
      replace R := RFon _ _ R b
      replace h6 := h6.below b
      replace h7 := h7.below b
      replace h8 := h8.below b
      replace h9 := h9.below b
      replace h10 := h10.below b
      clear b
      generalize X138.alloc (.cells #[.bool false, .slice none 0 0, .slice none 0 0] 27) = X139 at S R hHeld h6 h7 h8 h9 h10 ⊢
      generalize X138.heap.size = p at S ⊢
      obtain ⟨Sp, Sq, pq⟩ := fsOne S
      have gp := Sp.1
      have gq := Sq.1
      have ⟨y0, y1, y2, y3, y4, y5⟩ := Sp.2.1
      refine take_call (i := 14) rfl (by kernel_rfl) (fun Kc hK => ?_)
      go_simp
      refine hK.out _ _ (keep9p hHeld (by omega) (by omega) (by omega) (by omega) _ _ _) (fun hHeld => ?_)
      clear hK Kc
      have ⟨i0, i1, i2, i3, i4, i5⟩ := Sq.2.1.put3 (u := (.bool n7)) (v := (.slice a7 l7 c7)) (t := (.slice d7 m7 k7)) pq
      refine take_call (i := 15) rfl (by kernel_rfl) (fun Kc hK => ?_)
      go_simp
      refine hK.out _ _ (keep9p hHeld (by omega) (by omega) (by omega) (by omega) _ _ _) (fun hHeld => ?_)
      clear hK Kc
      refine wpAnyH_done (by kernel_rfl) ?_ _
      rw [HQQ.out]
      exact ⟨rfl, _, p, q, _, _, _, n7, a7, l7, c7, d7, m7, k7, n10, a10, l10, c10, d10, m10, k10, _, _, _, _, _, _, _, _, _, _, _, _, rfl, rfl, Sp, Sq, pq, R, h7, h10⟩
      go_simp
      have b := bnew X137
      refine hK.out _ _ (keep9 hHeld b) (fun hHeld => ?_)
      clear hK Kc
      replace S := S.new 27 (RFU _ R)
      replace R := RFon _ _ R b
      replace h6 := h6.below b
      replace h7 := h7.below b
      replace h8 := h8.below b
      replace h9 := h9.below b
      clear b
      generalize X137.alloc (.cells #[.bool false, .slice none 0 0, .slice none 0 0] 27) = X140 at S R hHeld h6 h7 h8 h9 ⊢
      generalize X137.heap.size = p at S ⊢
      refine take_call (i := 11) rfl (by kernel_rfl) (fun Kc hK => ?_)
      go_simp
      (go_at_call 8; refine (C11.out n8 a8 l8 c8 d8 m8 k8 n9 a9 l9 c9 d9 m9 k9 _ h8 h9).mono ?_; rintro e X141 ⟨n10, a10, l10, c10, d10, m10, k10, rfl, h10, f10, j10, b⟩)
      refine hK.out _ _ (keep9 hHeld b) (fun hHeld => ?_)
      clear hK Kc
      replace S := S.qn b h10 f10 j10
      replace R := RFon _ _ R b
      replace h6 := h6.below b
      replace h7 := h7.below b
      replace h8 := h8.below b
      replace h9 := h9.below b
      clear b f10 j10
      obtain ⟨Sp, Sq, pq⟩ := fsOne S
      have gp := Sp.1
      have gq := Sq.1
      have ⟨y0, y1, y2, y3, y4, y5⟩ := Sp.2.1
      refine take_call (i := 14) rfl (by kernel_rfl) (fun Kc hK => ?_)
      go_simp
      refine hK.out _ _ (keep9p hHeld (by omega) (by omega) (by omega) (by omega) _ _ _) (fun hHeld => ?_)
      clear hK Kc
      have ⟨i0, i1, i2, i3, i4, i5⟩ := Sq.2.1.put3 (u := (.bool n7)) (v := (.slice a7 l7 c7)) (t := (.slice d7 m7 k7)) pq
      refine take_call (i := 15) rfl (by kernel_rfl) (fun Kc hK => ?_)
      go_simp
      refine hK.out _ _ (keep9p hHeld (by omega) (by omega) (by omega) (by omega) _ _ _) (fun hHeld => ?_)
      clear hK Kc
      refine wpAnyH_done (by kernel_rfl) ?_ _
      rw [HQQ.out]
      exact ⟨rfl, _, p, q, _, _, _, n7, a7, l7, c7, d7, m7, k7, n10, a10, l10, c10, d10, m10, k10, _, _, _, _, _, _, _, _, _, _, _, _, rfl, rfl, Sp, Sq, pq, R, h7, h10⟩
      go_simp
      have b := bnew X136
      refine hK.out _ _ (keep9 hHeld b) (fun hHeld => ?_)
      clear hK Kc
      replace S := S.new 27 (RFU _ R)
      replace R := RFon _ _ R b
      replace h6 := h6.below b
      replace h7 := h7.below b
      replace h8 := h8.below b
      clear b
      generalize X136.alloc (.cells #[.bool false, .slice none 0 0, .slice none 0 0] 27) = X142 at S R hHeld h6 h7 h8 ⊢
      generalize X136.heap.size = p at S ⊢
      refine take_call (i := 10) rfl (by kernel_rfl) (fun Kc hK => ?_)
      go_simp
      (go_at_call 6; refine (C10.out _ R).mono ?_; rintro e X143 ⟨n9, a9, l9, c9, d9, m9, k9, rfl, h9, f9, j9, b⟩)
      refine hK.out _ _ (keep9 hHeld b) (fun hHeld => ?_)
      clear hK Kc
      replace S := S.qn b h9 f9 j9
      replace R := RFon _ _ R b
      replace h6 := h6.below b
      replace h7 := h7.below b
      replace h8 := h8.below b
      clear b f9 j9
      refine take_call (i := 11) rfl (by kernel_rfl) (fun Kc hK => ?_)
      go_simp
      (go_at_call 8; refine (C11.out n8 a8 l8 c8 d8 m8 k8 n9 a9 l9 c9 d9 m9 k9 _ h8 h9).mono ?_; rintro e X144 ⟨n10, a10, l10, c10, d10, m10, k10, rfl, h10, f10, j10, b⟩)
      refine hK.out _ _ (keep9 hHeld b) (fun hHeld => ?_)
      clear hK Kc
      replace S := S.qn b h10 f10 j10
      replace R := RFon _ _ R b
      replace h6 := h6.below b
      replace h7 := h7.below b
      replace h8 := h8.below b
      replace h9 := h9.below b
      clear b f10 j10
      obtain ⟨Sp, Sq, pq⟩ := fsOne S
      have gp := Sp.1
      have gq := Sq.1
      have ⟨y0, y1, y2, y3, y4, y5⟩ := Sp.2.1
      refine take_call (i := 14) rfl (by kernel_rfl) (fun Kc hK => ?_)
      go_simp
      refine hK.out _ _ (keep9p hHeld (by omega) (by omega) (by omega) (by omega) _ _ _) (fun hHeld => ?_)
      clear hK Kc
      have ⟨i0, i1, i2, i3, i4, i5⟩ := Sq.2.1.put3 (u := (.bool n7)) (v := (.slice a7 l7 c7)) (t := (.slice d7 m7 k7)) pq
      refine take_call (i := 15) rfl (by kernel_rfl) (fun Kc hK => ?_)
      go_simp
      refine hK.out _ _ (keep9p hHeld (by omega) (by omega) (by omega) (by omega) _ _ _) (fun hHeld => ?_)
      clear hK Kc
      refine wpAnyH_done (by kernel_rfl) ?_ _
      rw [HQQ.out]
      exact ⟨rfl, _, p, q, _, _, _, n7, a7, l7, c7, d7, m7, k7, n10, a10, l10, c10, d10, m10, k10, _, _, _, _, _, _, _, _, _, _, _, _, rfl, rfl, Sp, Sq, pq, R, h7, h10⟩
      go_simp
      have b := bnew X135
      refine hK.out _ _ (keep9 hHeld b) (fun hHeld => ?_)
      clear hK Kc
      replace S := S.new 27 (RFU _ R)
      replace R := RFon _ _ R b
      replace h6 := h6.below b
      replace h7 := h7.below b
      clear b
      generalize X135.alloc (.cells #[.bool false, .slice none 0 0, .slice none 0 0] 27) = X145 at S R hHeld h6 h7 ⊢
      generalize X135.heap.size = p at S ⊢
      refine take_call (i := 7) rfl (by kernel_rfl) (fun Kc hK => ?_)
      go_simp
      (go_at_call 6; refine (C7.out _ R).mono ?_; rintro e X146 ⟨n8, a8, l8, c8, d8, m8, k8, rfl, h8, f8, j8, b⟩)
      refine hK.out _ _ (keep9 hHeld b) (fun hHeld => ?_)
      clear hK Kc
      replace S := S.qn b h8 f8 j8
      replace R := RFon _ _ R b
      replace h6 := h6.below b
      replace h7 := h7.below b
      clear b f8 j8
      refine take_call (i := 10) rfl (by kernel_rfl) (fun Kc hK => ?_)
      go_simp
      (go_at_call 6; refine (C10.out _ R).mono ?_; rintro e X147 ⟨n9, a9, l9, c9, d9, m9, k9, rfl, h9, f9, j9, b⟩)
      refine hK.out _ _ (keep9 hHeld b) (fun hHeld => ?_)
      clear hK Kc
      replace S := S.qn b h9 f9 j9
      replace R := RFon _ _ R b
      replace h6 := h6.below b
      replace h7 := h7.below b
      replace h8 := h8.below b
      clear b f9 j9
      refine take_call (i := 11) rfl (by kernel_rfl) (fun Kc hK => ?_)
      go_simp
      (go_at_call 8; refine (C11.out n8 a8 l8 c8 d8 m8 k8 n9 a9 l9 c9 d9 m9 k9 _ h8 h9).mono ?_; rintro e X148 ⟨n10, a10, l10, c10, d10, m10, k10, rfl, h10, f10, j10, b⟩)
      refine hK.out _ _ (keep9 hHeld b) (fun hHeld => ?_)
      clear hK Kc
      replace S := S.qn b h10 f10 j10
      replace R := RFon _ _ R b
      replace h6 := h6.below b
      replace h7 := h7.below b
      replace h8 := h8.below b
      replace h9 := h9.below b
      clear b f10 j10
      obtain ⟨Sp, Sq, pq⟩ := fsOne S
      have gp := Sp.1
      have gq := Sq.1
      have ⟨y0, y1, y2, y3, y4, y5⟩ := Sp.2.1
      refine take_call (i := 14) rfl (by kernel_rfl) (fun Kc hK => ?_)
      go_simp
      refine hK.out _ _ (keep9p hHeld (by omega) (by omega) (by omega) (by omega) _ _ _) (fun hHeld => ?_)
      clear hK Kc
      have ⟨i0, i1, i2, i3, i4, i5⟩ := Sq.2.1.put3 (u := (.bool n7)) (v := (.slice a7 l7 c7)) (t := (.slice d7 m7 k7)) pq
      refine take_call (i := 15) rfl (by kernel_rfl) (fun Kc hK => ?_)
      go_simp
      refine hK.out _ _ (keep9p hHeld (by omega) (by omega) (by omega) (by omega) _ _ _) (fun hHeld => ?_)
      clear hK Kc
      refine wpAnyH_done (by kernel_rfl) ?_ _
      rw [HQQ.out]
      exact ⟨rfl, _, p, q, _, _, _, n7, a7, l7, c7, d7, m7, k7, n10, a10, l10, c10, d10, m10, k10, _, _, _, _, _, _, _, _, _, _, _, _, rfl, rfl, Sp, Sq, pq, R, h7, h10⟩
      go_simp
      have b := bnew X134
      refine hK.out _ _ (keep9 hHeld b) (fun hHeld => ?_)
      clear hK Kc
      replace S := S.new 27 (RFU _ R)
      replace R := RFon _ _ R b
      replace h6 := h6.below b
      clear b
      generalize X134.alloc (.cells #[.bool false, .slice none 0 0, .slice none 0 0] 27) = X149 at S R hHeld h6 ⊢
      generalize X134.heap.size = p at S ⊢
      refine take_call (i := 4) rfl (by kernel_rfl) (fun Kc hK => ?_)
      go_simp
      (go_at_call 6; refine (C4.out n6 a6 l6 c6 d6 m6 k6 _ R h6).mono ?_; rintro e X150 ⟨n7, a7, l7, c7, d7, m7, k7, rfl, h7, f7, j7, b⟩)
      refine hK.out _ _ (keep9 hHeld b) (fun hHeld => ?_)
      clear hK Kc
      replace S := S.qn b h7 f7 j7
      replace R := RFon _ _ R b
      replace h6 := h6.below b
      clear b f7 j7
      refine take_call (i := 7) rfl (by kernel_rfl) (fun Kc hK => ?_)
      go_simp
      (go_at_call 6; refine (C7.out _ R).mono ?_; rintro e X151 ⟨n8, a8, l8, c8, d8, m8, k8, rfl, h8, f8, j8, b⟩)
      refine hK.out _ _ (keep9 hHeld b) (fun hHeld => ?_)
      clear hK Kc
      replace S := S.qn b h8 f8 j8
      replace R := RFon _ _ R b
      replace h6 := h6.below b
      replace h7 := h7.below b
      clear b f8 j8
      refine take_call (i := 10) rfl (by kernel_rfl) (fun Kc hK => ?_)
      go_simp
      (go_at_call 6; refine (C10.out _ R).mono ?_; rintro e X152 ⟨n9, a9, l9, c9, d9, m9, k9, rfl, h9, f9, j9, b⟩)
      refine hK.out _ _ (keep9 hHeld b) (fun hHeld => ?_)
      clear hK Kc
      replace S := S.qn b h9 f9 j9
      replace R := RFon _ _ R b
      replace h6 := h6.below b
      replace h7 := h7.below b
      replace h8 := h8.below b
      clear b f9 j9
      refine take_call (i := 11) rfl (by kernel_rfl) (fun Kc hK => ?_)
      go_simp
      (go_at_call 8; refine (C11.out n8 a8 l8 c8 d8 m8 k8 n9 a9 l9 c9 d9 m9 k9 _ h8 h9).mono ?_; rintro e X153 ⟨n10, a10, l10, c10, d10, m10, k10, rfl, h10, f10, j10, b⟩)
      refine hK.out _ _ (keep9 hHeld b) (fun hHeld => ?_)
      clear hK Kc
      replace S := S.qn b h10 f10 j10
      replace R := RFon _ _ R b
      replace h6 := h6.below b
      replace h7 := h7.below b
      replace h8 := h8.below b
      replace h9 := h9.below b
      clear b f10 j10
      obtain ⟨Sp, Sq, pq⟩ := fsOne S
      have gp := Sp.1
      have gq := Sq.1
      have ⟨y0, y1, y2, y3, y4, y5⟩ := Sp.2.1
      refine take_call (i := 14) rfl (by kernel_rfl) (fun Kc hK => ?_)
      go_simp
      refine hK.out _ _ (keep9p hHeld (by omega) (by omega) (by omega) (by omega) _ _ _) (fun hHeld => ?_)
      clear hK Kc
      have ⟨i0, i1, i2, i3, i4, i5⟩ := Sq.2.1.put3 (u := (.bool n7)) (v := (.slice a7 l7 c7)) (t := (.slice d7 m7 k7)) pq
      refine take_call (i := 15) rfl (by kernel_rfl) (fun Kc hK => ?_)
      go_simp
      refine hK.out _ _ (keep9p hHeld (by omega) (by omega) (by omega) (by omega) _ _ _) (fun hHeld => ?_)
      clear hK Kc
      refine wpAnyH_done (by kernel_rfl) ?_ _
      rw [HQQ.out]
      exact ⟨rfl, _, p, q, _, _, _, n7, a7, l7, c7, d7, m7, k7, n10, a10, l10, c10, d10, m10, k10, _, _, _, _, _, _, _, _, _, _, _, _, rfl, rfl, Sp, Sq, pq, R, h7, h10⟩
      go_simp
      have b := bnew X133
      refine hK.out _ _ (keep9 hHeld b) (fun hHeld => ?_)
      clear hK Kc
      replace S := S.new 27 (RFU _ R)
      replace R := RFon _ _ R b
      clear b
      generalize X133.alloc (.cells #[.bool false, .slice none 0 0, .slice none 0 0] 27) = X154 at S R hHeld  ⊢
      generalize X133.heap.size = p at S ⊢
      refine take_call (i := 3) rfl (by kernel_rfl) (fun Kc hK => ?_)
      go_simp
      (go_at_call 8; refine (C3.out _ R).mono ?_; rintro e X155 ⟨n6, a6, l6, c6, d6, m6, k6, rfl, h6, f6, j6, b⟩)
      refine hK.out _ _ (keep9 hHeld b) (fun hHeld => ?_)
      clear hK Kc
      replace S := S.qn b h6 f6 j6
      replace R := RFon _ _ R b
      clear b f6 j6
      refine take_call (i := 4) rfl (by kernel_rfl) (fun Kc hK => ?_)
      go_simp
      (go_at_call 6; refine (C4.out n6 a6 l6 c6 d6 m6 k6 _ R h6).mono ?_; rintro e X156 ⟨n7, a7, l7, c7, d7, m7, k7, rfl, h7, f7, j7, b⟩)
      refine hK.out _ _ (keep9 hHeld b) (fun hHeld => ?_)
      clear hK Kc
      replace S := S.qn b h7 f7 j7
      replace R := RFon _ _ R b
      replace h6 := h6.below b
      clear b f7 j7
      refine take_call (i := 7) rfl (by kernel_rfl) (fun Kc hK => ?_)
      go_simp
      (go_at_call 6; refine (C7.out _ R).mono ?_; rintro e X157 ⟨n8, a8, l8, c8, d8, m8, k8, rfl, h8, f8, j8, b⟩)
      refine hK.out _ _ (keep9 hHeld b) (fun hHeld => ?_)
      clear hK Kc
      replace S := S.qn b h8 f8 j8
      replace R := RFon _ _ R b
      replace h6 := h6.below b
      replace h7 := h7.below b
      clear b f8 j8
      refine take_call (i := 10) rfl (by kernel_rfl) (fun Kc hK => ?_)
      go_simp
      (go_at_call 6; refine (C10.out _ R).mono ?_; rintro e X158 ⟨n9, a9, l9, c9, d9, m9, k9, rfl, h9, f9, j9, b⟩)
      refine hK.out _ _ (keep9 hHeld b) (fun hHeld => ?_)
      clear hK Kc
      replace S := S.qn b h9 f9 j9
      replace R := RFon _ _ R b
      replace h6 := h6.below b
      replace h7 := h7.below b
      replace h8 := h8.below b
      clear b f9 j9
      refine take_call (i := 11) rfl (by kernel_rfl) (fun Kc hK => ?_)
      go_simp
      (go_at_call 8; refine (C11.out n8 a8 l8 c8 d8 m8 k8 n9 a9 l9 c9 d9 m9 k9 _ h8 h9).mono ?_; rintro e X159 ⟨n10, a10, l10, c10, d10, m10, k10, rfl, h10, f10, j10, b⟩)
      refine hK.out _ _ (keep9 hHeld b) (fun hHeld => ?_)
      clear hK Kc
      replace S := S.qn b h10 f10 j10
      replace R := RFon _ _ R b
      replace h6 := h6.below b
      replace h7 := h7.below b
      replace h8 := h8.below b
      replace h9 := h9.below b
      clear b f10 j10
      obtain ⟨Sp, Sq, pq⟩ := fsOne S
      have gp := Sp.1
      have gq := Sq.1
      have ⟨y0, y1, y2, y3, y4, y5⟩ := Sp.2.1
      refine take_call (i := 14) rfl (by kernel_rfl) (fun Kc hK => ?_)
      go_simp
      refine hK.out _ _ (keep9p hHeld (by omega) (by omega) (by omega) (by omega) _ _ _) (fun hHeld => ?_)
      clear hK Kc
      have ⟨i0, i1, i2, i3, i4, i5⟩ := Sq.2.1.put3 (u := (.bool n7)) (v := (.slice a7 l7 c7)) (t := (.slice d7 m7 k7)) pq
      refine take_call (i := 15) rfl (by kernel_rfl) (fun Kc hK => ?_)
      go_simp
      refine hK.out _ _ (keep9p hHeld (by omega) (by omega) (by omega) (by omega) _ _ _) (fun hHeld => ?_)
      clear hK Kc
      refine wpAnyH_done (by kernel_rfl) ?_ _
      rw [HQQ.out]
      exact ⟨rfl, _, p, q, _, _, _, n7, a7, l7, c7, d7, m7, k7, n10, a10, l10, c10, d10, m10, k10, _, _, _, _, _, _, _, _, _, _, _, _, rfl, rfl, Sp, Sq, pq, R, h7, h10⟩
    rw [HQQ.out]
    rintro e act Y3 ⟨rfl, XW, p, q, v36, v40, v43, n7, a7, l7, c7, d7, m7, k7, n10, a10, l10, c10, d10, m10, k10, a6, l6, d6, m6, a8, l8, d8, m8, a9, l9, d9, m9, rfl, hY3, Sp, Sq, pq, R, h7, h10⟩
    have gp := Sp.1
    have gq := Sq.1
    replace R : RF Y3 := by rw [hY3]; exact RFput _ q _ _ _ (RFput _ p _ _ _ R gp (fun x hx => Sp.2.2 x (by repeat (first | exact hx | apply List.mem_cons_of_mem)))) gq (fun x hx => Sq.2.2 x (by repeat (first | exact hx | apply List.mem_cons_of_mem)))
    replace h7 : QN Y3 n7 a7 l7 c7 d7 m7 k7 LN LD := by rw [hY3]; exact (h7.put3 (Sp.2.2 (a7, l7) (by repeat (first | exact List.mem_cons_self | apply List.mem_cons_of_mem))) (Sp.2.2 (d7, m7) (by repeat (first | exact List.mem_cons_self | apply List.mem_cons_of_mem))) _ _ _).put3 (Sq.2.2 (a7, l7) (by repeat (first | exact List.mem_cons_self | apply List.mem_cons_of_mem))) (Sq.2.2 (d7, m7) (by repeat (first | exact List.mem_cons_self | apply List.mem_cons_of_mem))) _ _ _
    replace h10 : QN Y3 n10 a10 l10 c10 d10 m10 k10 LN LD := by rw [hY3]; exact (h10.put3 (Sp.2.2 (a10, l10) (by repeat (first | exact List.mem_cons_self | apply List.mem_cons_of_mem))) (Sp.2.2 (d10, m10) (by repeat (first | exact List.mem_cons_self | apply List.mem_cons_of_mem))) _ _ _).put3 (Sq.2.2 (a10, l10) (by repeat (first | exact List.mem_cons_self | apply List.mem_cons_of_mem))) (Sq.2.2 (d10, m10) (by repeat (first | exact List.mem_cons_self | apply List.mem_cons_of_mem))) _ _ _
    have x_p : B3 Y3 (p) (.bool n7) (.slice a7 l7 c7) (.slice d7 m7 k7) := by rw [hY3]; exact Sp.2.1.set.put3 (fun e => pq e.symm)
    have x_q : B3 Y3 (q) (.bool n10) (.slice a10 l10 c10) (.slice d10 m10 k10) := by rw [hY3]; exact (Sq.2.1.put3 pq).set
    clear HQQ QQ RFput RFon RFU RF1 RF2 RF3 R0 S0 x_a x_b x_c BB z_Y2 hY3 Sp Sq
    rw [HRF.out] at R
    clear HRF RF
    obtain ⟨q1, q2, q3, x_a, x_b, x_c, BB, z_Y3⟩ := R
    dsimp only
    replace h7 := h7.qi 26 (by decide) (by decide) BLN.out BLD.out
    replace h10 := h10.qi 26 (by decide) (by decide) BLN.out BLD.out
    rcases HQ.out with ⟨hy, _, _, hE⟩ | ⟨hy, _, _, hE⟩
    · subst hE
      obtain ⟨SG, hSG⟩ : ∃ SG, SG = (pN Y B).sign := ⟨_, rfl⟩
      have HS : Hid _ := hSG
      have hSG0 : ¬ SG = 0 := by rw [hSG]; exact fun e => hy (Int.sign_eq_zero_iff_zero.1 e)
      clear hSG
      have hSG1 : (SG == 0) = false := by simpa using hSG0
      have hSG2 : decide (SG = 0) = false := by simpa using hSG0
      clear hy
      go_wp2
      have dd1 : Below Y3.heap.size Y3 Y3.drew := (Below.refl _ _).drew
      have zdd1 := dd1.size
      replace BB := also BB dd1
      replace q1 := q1.below dd1
      replace q2 := q2.below dd1
      replace h7 := h7.below dd1
      replace h10 := h10.below dd1
      replace x_a := x_a.on dd1
      replace x_b := x_b.on dd1
      replace x_p := x_p.on dd1
      replace x_q := x_q.on dd1
      refine wp_region_held_drew (S := (fun w' => w'.cell? ⟨w.heap.size, 0, none⟩ = some (.bool n) ∧ w'.cell? ⟨w.heap.size, 1, none⟩ = some (.slice a1 m1 c1) ∧ w'.cell? ⟨w.heap.size, 2, none⟩ = some (.slice d1 k1 g1) ∧ w'.cell? ⟨w.heap.size + 1, 0, none⟩ = some (.bool m) ∧ w'.cell? ⟨w.heap.size + 1, 1, none⟩ = some (.slice a2 m2 c2) ∧ w'.cell? ⟨w.heap.size + 1, 2, none⟩ = some (.slice d2 k2 g2) ∧ w'.cell? ⟨p, 0, none⟩ = some (.bool n7) ∧ w'.cell? ⟨p, 1, none⟩ = some (.slice a7 l7 c7) ∧ w'.cell? ⟨p, 2, none⟩ = some (.slice d7 m7 k7) ∧ w'.cell? ⟨q, 0, none⟩ = some (.bool n10) ∧ w'.cell? ⟨q, 1, none⟩ = some (.slice a10 l10 c10) ∧ w'.cell? ⟨q, 2, none⟩ = some (.slice d10 m10 k10) ∧ Below w.heap.size w w')) (by kernel_rfl) ?_ (fun hHeld => ?_)
      · first | exact ⟨x_a.c0, x_a.c1, x_a.c2, x_b.c0, x_b.c1, x_b.c2, x_p.c0, x_p.c1, x_p.c2, x_q.c0, x_q.c1, x_q.c2, BB⟩ | exact ⟨cell_on bw27 hHeld.1, cell_on bw27 hHeld.2.1, cell_on bw27 hHeld.2.2.1, cell_on bw27 hHeld.2.2.2.1, cell_on bw27 hHeld.2.2.2.2.1, cell_on bw27 hHeld.2.2.2.2.2.1, cell_on bw27 hHeld.2.2.2.2.2.2.1, cell_on bw27 hHeld.2.2.2.2.2.2.2.1, cell_on bw27 hHeld.2.2.2.2.2.2.2.2.1, cell_on bw27 hHeld.2.2.2.2.2.2.2.2.2.1, cell_on bw27 hHeld.2.2.2.2.2.2.2.2.2.2.1, cell_on bw27 hHeld.2.2.2.2.2.2.2.2.2.2.2.1, also hHeld.2.2.2.2.2.2.2.2.2.2.2.2 bw27⟩ | exact ⟨cell_on bw26 hHeld.1, cell_on bw26 hHeld.2.1, cell_on bw26 hHeld.2.2.1, cell_on bw26 hHeld.2.2.2.1, cell_on bw26 hHeld.2.2.2.2.1, cell_on bw26 hHeld.2.2.2.2.2.1, cell_on bw26 hHeld.2.2.2.2.2.2.1, cell_on bw26 hHeld.2.2.2.2.2.2.2.1, cell_on bw26 hHeld.2.2.2.2.2.2.2.2.1, cell_on bw26 hHeld.2.2.2.2.2.2.2.2.2.1, cell_on bw26 hHeld.2.2.2.2.2.2.2.2.2.2.1, cell_on bw26 hHeld.2.2.2.2.2.2.2.2.2.2.2.1, also hHeld.2.2.2.2.2.2.2.2.2.2.2.2 bw26⟩ | exact ⟨cell_on bw25 hHeld.1, cell_on bw25 hHeld.2.1, cell_on bw25 hHeld.2.2.1, cell_on bw25 hHeld.2.2.2.1, cell_on bw25 hHeld.2.2.2.2.1, cell_on bw25 hHeld.2.2.2.2.2.1, cell_on bw25 hHeld.2.2.2.2.2.2.1, cell_on bw25 hHeld.2.2.2.2.2.2.2.1, cell_on bw25 hHeld.2.2.2.2.2.2.2.2.1, cell_on bw25 hHeld.2.2.2.2.2.2.2.2.2.1, cell_on bw25 hHeld.2.2.2.2.2.2.2.2.2.2.1, cell_on bw25 hHeld.2.2.2.2.2.2.2.2.2.2.2.1, also hHeld.2.2.2.2.2.2.2.2.2.2.2.2 bw25⟩ | exact ⟨cell_on bw24 hHeld.1, cell_on bw24 hHeld.2.1, cell_on bw24 hHeld.2.2.1, cell_on bw24 hHeld.2.2.2.1, cell_on bw24 hHeld.2.2.2.2.1, cell_on bw24 hHeld.2.2.2.2.2.1, cell_on bw24 hHeld.2.2.2.2.2.2.1, cell_on bw24 hHeld.2.2.2.2.2.2.2.1, cell_on bw24 hHeld.2.2.2.2.2.2.2.2.1, cell_on bw24 hHeld.2.2.2.2.2.2.2.2.2.1, cell_on bw24 hHeld.2.2.2.2.2.2.2.2.2.2.1, cell_on bw24 hHeld.2.2.2.2.2.2.2.2.2.2.2.1, also hHeld.2.2.2.2.2.2.2.2.2.2.2.2 bw24⟩ | exact ⟨cell_on bw23 hHeld.1, cell_on bw23 hHeld.2.1, cell_on bw23 hHeld.2.2.1, cell_on bw23 hHeld.2.2.2.1, cell_on bw23 hHeld.2.2.2.2.1, cell_on bw23 hHeld.2.2.2.2.2.1, cell_on bw23 hHeld.2.2.2.2.2.2.1, cell_on bw23 hHeld.2.2.2.2.2.2.2.1, cell_on bw23 hHeld.2.2.2.2.2.2.2.2.1, cell_on bw23 hHeld.2.2.2.2.2.2.2.2.2.1, cell_on bw23 hHeld.2.2.2.2.2.2.2.2.2.2.1, cell_on bw23 hHeld.2.2.2.2.2.2.2.2.2.2.2.1, also hHeld.2.2.2.2.2.2.2.2.2.2.2.2 bw23⟩ | exact ⟨cell_on bw22 hHeld.1, cell_on bw22 hHeld.2.1, cell_on bw22 hHeld.2.2.1, cell_on bw22 hHeld.2.2.2.1, cell_on bw22 hHeld.2.2.2.2.1, cell_on bw22 hHeld.2.2.2.2.2.1, cell_on bw22 hHeld.2.2.2.2.2.2.1, cell_on bw22 hHeld.2.2.2.2.2.2.2.1, cell_on bw22 hHeld.2.2.2.2.2.2.2.2.1, cell_on bw22 hHeld.2.2.2.2.2.2.2.2.2.1, cell_on bw22 hHeld.2.2.2.2.2.2.2.2.2.2.1, cell_on bw22 hHeld.2.2.2.2.2.2.2.2.2.2.2.1, also hHeld.2.2.2.2.2.2.2.2.2.2.2.2 bw22⟩ | exact ⟨cell_on bw21 hHeld.1, cell_on bw21 hHeld.2.1, cell_on bw21 hHeld.2.2.1, cell_on bw21 hHeld.2.2.2.1, cell_on bw21 hHeld.2.2.2.2.1, cell_on bw21 hHeld.2.2.2.2.2.1, cell_on bw21 hHeld.2.2.2.2.2.2.1, cell_on bw21 hHeld.2.2.2.2.2.2.2.1, cell_on bw21 hHeld.2.2.2.2.2.2.2.2.1, cell_on bw21 hHeld.2.2.2.2.2.2.2.2.2.1, cell_on bw21 hHeld.2.2.2.2.2.2.2.2.2.2.1, cell_on bw21 hHeld.2.2.2.2.2.2.2.2.2.2.2.1, also hHeld.2.2.2.2.2.2.2.2.2.2.2.2 bw21⟩ | exact ⟨cell_on bw20 hHeld.1, cell_on bw20 hHeld.2.1, cell_on bw20 hHeld.2.2.1, cell_on bw20 hHeld.2.2.2.1, cell_on bw20 hHeld.2.2.2.2.1, cell_on bw20 hHeld.2.2.2.2.2.1, cell_on bw20 hHeld.2.2.2.2.2.2.1, cell_on bw20 hHeld.2.2.2.2.2.2.2.1, cell_on bw20 hHeld.2.2.2.2.2.2.2.2.1, cell_on bw20 hHeld.2.2.2.2.2.2.2.2.2.1, cell_on bw20 hHeld.2.2.2.2.2.2.2.2.2.2.1, cell_on bw20 hHeld.2.2.2.2.2.2.2.2.2.2.2.1, also hHeld.2.2.2.2.2.2.2.2.2.2.2.2 bw20⟩
      refine take_yes (i := 0) (v := ?vy0) rfl (by kernel_rfl) (by kernel_rfl) (by kernel_rfl) (fun _ _ _ h => h) (by rfl) (by assumption) ?hyy0 ?resty0
      case hyy0 => (intro w hSw; (try dsimp only at hSw); first | (go_simp; done) | (go_simp; with_reducible rfl))
      simp only [Act.put, List.setIfInBounds_toArray, List.set_cons_zero, List.set_cons_succ]
      refine take_yes (i := 1) (v := ?vy1) rfl (by kernel_rfl) (by kernel_rfl) (by kernel_rfl) (fun _ _ _ h => h) (by rfl) (by assumption) ?hyy1 ?resty1
      case hyy1 => (intro w hSw; (try dsimp only at hSw); first | (go_simp; done) | (go_simp; with_reducible rfl))
      simp only [Act.put, List.setIfInBounds_toArray, List.set_cons_zero, List.set_cons_succ]
      refine take_yes (i := 2) (v := ?vy2) rfl (by kernel_rfl) (by kernel_rfl) (by kernel_rfl) (fun _ _ _ h => h) (by rfl) (by assumption) ?hyy2 ?resty2
      case hyy2 => (intro w hSw; (try dsimp only at hSw); first | (go_simp; done) | (go_simp; with_reducible rfl))
      simp only [Act.put, List.setIfInBounds_toArray, List.set_cons_zero, List.set_cons_succ]
      refine take_call (i := 3) rfl (by kernel_rfl) (fun Kc hK => ?_)
      go_simp
      (go_at_call 9; refine (qSign m a2 m2 c2 d2 k2 g2 Y B 6 _ q2 HS.out).mono ?_; rintro e w20 ⟨rfl, bw20⟩)
      refine hK.out _ _ ?_ (fun hHeld => ?_)
      · first | exact ⟨x_a.c0, x_a.c1, x_a.c2, x_b.c0, x_b.c1, x_b.c2, x_p.c0, x_p.c1, x_p.c2, x_q.c0, x_q.c1, x_q.c2, BB⟩ | exact ⟨cell_on bw27 hHeld.1, cell_on bw27 hHeld.2.1, cell_on bw27 hHeld.2.2.1, cell_on bw27 hHeld.2.2.2.1, cell_on bw27 hHeld.2.2.2.2.1, cell_on bw27 hHeld.2.2.2.2.2.1, cell_on bw27 hHeld.2.2.2.2.2.2.1, cell_on bw27 hHeld.2.2.2.2.2.2.2.1, cell_on bw27 hHeld.2.2.2.2.2.2.2.2.1, cell_on bw27 hHeld.2.2.2.2.2.2.2.2.2.1, cell_on bw27 hHeld.2.2.2.2.2.2.2.2.2.2.1, cell_on bw27 hHeld.2.2.2.2.2.2.2.2.2.2.2.1, also hHeld.2.2.2.2.2.2.2.2.2.2.2.2 bw27⟩ | exact ⟨cell_on bw26 hHeld.1, cell_on bw26 hHeld.2.1, cell_on bw26 hHeld.2.2.1, cell_on bw26 hHeld.2.2.2.1, cell_on bw26 hHeld.2.2.2.2.1, cell_on bw26 hHeld.2.2.2.2.2.1, cell_on bw26 hHeld.2.2.2.2.2.2.1, cell_on bw26 hHeld.2.2.2.2.2.2.2.1, cell_on bw26 hHeld.2.2.2.2.2.2.2.2.1, cell_on bw26 hHeld.2.2.2.2.2.2.2.2.2.1, cell_on bw26 hHeld.2.2.2.2.2.2.2.2.2.2.1, cell_on bw26 hHeld.2.2.2.2.2.2.2.2.2.2.2.1, also hHeld.2.2.2.2.2.2.2.2.2.2.2.2 bw26⟩ | exact ⟨cell_on bw25 hHeld.1, cell_on bw25 hHeld.2.1, cell_on bw25 hHeld.2.2.1, cell_on bw25 hHeld.2.2.2.1, cell_on bw25 hHeld.2.2.2.2.1, cell_on bw25 hHeld.2.2.2.2.2.1, cell_on bw25 hHeld.2.2.2.2.2.2.1, cell_on bw25 hHeld.2.2.2.2.2.2.2.1, cell_on bw25 hHeld.2.2.2.2.2.2.2.2.1, cell_on bw25 hHeld.2.2.2.2.2.2.2.2.2.1, cell_on bw25 hHeld.2.2.2.2.2.2.2.2.2.2.1, cell_on bw25 hHeld.2.2.2.2.2.2.2.2.2.2.2.1, also hHeld.2.2.2.2.2.2.2.2.2.2.2.2 bw25⟩ | exact ⟨cell_on bw24 hHeld.1, cell_on bw24 hHeld.2.1, cell_on bw24 hHeld.2.2.1, cell_on bw24 hHeld.2.2.2.1, cell_on bw24 hHeld.2.2.2.2.1, cell_on bw24 hHeld.2.2.2.2.2.1, cell_on bw24 hHeld.2.2.2.2.2.2.1, cell_on bw24 hHeld.2.2.2.2.2.2.2.1, cell_on bw24 hHeld.2.2.2.2.2.2.2.2.1, cell_on bw24 hHeld.2.2.2.2.2.2.2.2.2.1, cell_on bw24 hHeld.2.2.2.2.2.2.2.2.2.2.1, cell_on bw24 hHeld.2.2.2.2.2.2.2.2.2.2.2.1, also hHeld.2.2.2.2.2.2.2.2.2.2.2.2 bw24⟩ | exact ⟨cell_on bw23 hHeld.1, cell_on bw23 hHeld.2.1, cell_on bw23 hHeld.2.2.1, cell_on bw23 hHeld.2.2.2.1, cell_on bw23 hHeld.2.2.2.2.1, cell_on bw23 hHeld.2.2.2.2.2.1, cell_on bw23 hHeld.2.2.2.2.2.2.1, cell_on bw23 hHeld.2.2.2.2.2.2.2.1, cell_on bw23 hHeld.2.2.2.2.2.2.2.2.1, cell_on bw23 hHeld.2.2.2.2.2.2.2.2.2.1, cell_on bw23 hHeld.2.2.2.2.2.2.2.2.2.2.1, cell_on bw23 hHeld.2.2.2.2.2.2.2.2.2.2.2.1, also hHeld.2.2.2.2.2.2.2.2.2.2.2.2 bw23⟩ | exact ⟨cell_on bw22 hHeld.1, cell_on bw22 hHeld.2.1, cell_on bw22 hHeld.2.2.1, cell_on bw22 hHeld.2.2.2.1, cell_on bw22 hHeld.2.2.2.2.1, cell_on bw22 hHeld.2.2.2.2.2.1, cell_on bw22 hHeld.2.2.2.2.2.2.1, cell_on bw22 hHeld.2.2.2.2.2.2.2.1, cell_on bw22 hHeld.2.2.2.2.2.2.2.2.1, cell_on bw22 hHeld.2.2.2.2.2.2.2.2.2.1, cell_on bw22 hHeld.2.2.2.2.2.2.2.2.2.2.1, cell_on bw22 hHeld.2.2.2.2.2.2.2.2.2.2.2.1, also hHeld.2.2.2.2.2.2.2.2.2.2.2.2 bw22⟩ | exact ⟨cell_on bw21 hHeld.1, cell_on bw21 hHeld.2.1, cell_on bw21 hHeld.2.2.1, cell_on bw21 hHeld.2.2.2.1, cell_on bw21 hHeld.2.2.2.2.1, cell_on bw21 hHeld.2.2.2.2.2.1, cell_on bw21 hHeld.2.2.2.2.2.2.1, cell_on bw21 hHeld.2.2.2.2.2.2.2.1, cell_on bw21 hHeld.2.2.2.2.2.2.2.2.1, cell_on bw21 hHeld.2.2.2.2.2.2.2.2.2.1, cell_on bw21 hHeld.2.2.2.2.2.2.2.2.2.2.1, cell_on bw21 hHeld.2.2.2.2.2.2.2.2.2.2.2.1, also hHeld.2.2.2.2.2.2.2.2.2.2.2.2 bw21⟩ | exact ⟨cell_on bw20 hHeld.1, cell_on bw20 hHeld.2.1, cell_on bw20 hHeld.2.2.1, cell_on bw20 hHeld.2.2.2.1, cell_on bw20 hHeld.2.2.2.2.1, cell_on bw20 hHeld.2.2.2.2.2.1, cell_on bw20 hHeld.2.2.2.2.2.2.1, cell_on bw20 hHeld.2.2.2.2.2.2.2.1, cell_on bw20 hHeld.2.2.2.2.2.2.2.2.1, cell_on bw20 hHeld.2.2.2.2.2.2.2.2.2.1, cell_on bw20 hHeld.2.2.2.2.2.2.2.2.2.2.1, cell_on bw20 hHeld.2.2.2.2.2.2.2.2.2.2.2.1, also hHeld.2.2.2.2.2.2.2.2.2.2.2.2 bw20⟩
      clear hK Kc
      have zbw20 := bw20.size
      replace BB := also BB bw20
      replace q1 := q1.below bw20
      replace q2 := q2.below bw20
      replace h7 := h7.below bw20
      replace h10 := h10.below bw20
      replace x_a := x_a.on bw20
      replace x_b := x_b.on bw20
      replace x_p := x_p.on bw20
      replace x_q := x_q.on bw20
      refine take_yes (i := 4) (v := ?vy4) rfl (by kernel_rfl) (by kernel_rfl) (by kernel_rfl) (fun _ _ _ h => h) (by rfl) (by assumption) ?hyy4 ?resty4
      case hyy4 => (intro w hSw; (try dsimp only at hSw); first | (go_simp; done) | (go_simp; with_reducible rfl))
      simp only [Act.put, List.setIfInBounds_toArray, List.set_cons_zero, List.set_cons_succ]
      refine take_yes (i := 5) (v := ?vy5) rfl (by kernel_rfl) (by kernel_rfl) (by kernel_rfl) (fun _ _ _ h => h) (by rfl) (by assumption) ?hyy5 ?resty5
      case hyy5 => (intro w hSw; (try dsimp only at hSw); first | (go_simp; done) | (go_simp; with_reducible rfl))
      simp only [Act.put, List.setIfInBounds_toArray, List.set_cons_zero, List.set_cons_succ]
      refine take_yes (i := 6) (v := ?vy6) rfl (by kernel_rfl) (by kernel_rfl) (by kernel_rfl) (fun _ _ _ h => h) (by rfl) (by assumption) ?hyy6 ?resty6
      case hyy6 => (intro w hSw; (try dsimp only at hSw); first | (go_simp; done) | (go_simp; with_reducible rfl))
      simp only [Act.put, List.setIfInBounds_toArray, List.set_cons_zero, List.set_cons_succ]
      refine take_yes (i := 7) (v := ?vy7) rfl (by kernel_rfl) (by kernel_rfl) (by kernel_rfl) (fun _ _ _ h => h) (by rfl) (by assumption) ?hyy7 ?resty7
      case hyy7 => (intro w hSw; (try dsimp only at hSw); first | (go_simp; done) | (go_simp; with_reducible rfl))
      simp only [Act.put, List.setIfInBounds_toArray, List.set_cons_zero, List.set_cons_succ]
      refine take_yes (i := 8) (v := ?vy8) rfl (by kernel_rfl) (by kernel_rfl) (by kernel_rfl) (fun _ _ _ h => h) (by rfl) (by assumption) ?hyy8 ?resty8
      case hyy8 => (intro w hSw; (try dsimp only at hSw); first | (go_simp; done) | (go_simp; with_reducible rfl))
      simp only [Act.put, List.setIfInBounds_toArray, List.set_cons_zero, List.set_cons_succ]
      refine take_yes (i := 10) (v := ?vy10) rfl (by kernel_rfl) (by kernel_rfl) (by kernel_rfl) (fun _ _ _ h => h) (by rfl) (by assumption) ?hyy10 ?resty10
      case hyy10 => (intro w hSw; (try dsimp only at hSw); first | (go_simp; done) | (go_simp; with_reducible rfl))
      simp only [Act.put, List.setIfInBounds_toArray, List.set_cons_zero, List.set_cons_succ]
      refine take_yes (i := 12) (v := ?vy12) rfl (by kernel_rfl) (by kernel_rfl) (by kernel_rfl) (fun _ _ _ h => h) (by rfl) (by assumption) ?hyy12 ?resty12
      case hyy12 => (intro w hSw; (try dsimp only at hSw); first | (go_simp; done) | (go_simp; with_reducible rfl))
      simp only [Act.put, List.setIfInBounds_toArray, List.set_cons_zero, List.set_cons_succ]
      refine take_call (i := 9) rfl (by kernel_rfl) (fun Kc hK => ?_)
      go_simp
      (go_at_call 8; refine (qAdd n a1 m1 c1 d1 k1 g1 X A m a2 m2 c2 d2 k2 g2 Y B 6 _ q1 q2 TN TD HTN.out HTD.out).mono ?_; rintro e w21 ⟨n11, a11, l11, c11, d11, m11, k11, rfl, h11, f11, j11, bw21⟩)
      refine hK.out _ _ ?_ (fun hHeld => ?_)
      · first | exact ⟨x_a.c0, x_a.c1, x_a.c2, x_b.c0, x_b.c1, x_b.c2, x_p.c0, x_p.c1, x_p.c2, x_q.c0, x_q.c1, x_q.c2, BB⟩ | exact ⟨cell_on bw27 hHeld.1, cell_on bw27 hHeld.2.1, cell_on bw27 hHeld.2.2.1, cell_on bw27 hHeld.2.2.2.1, cell_on bw27 hHeld.2.2.2.2.1, cell_on bw27 hHeld.2.2.2.2.2.1, cell_on bw27 hHeld.2.2.2.2.2.2.1, cell_on bw27 hHeld.2.2.2.2.2.2.2.1, cell_on bw27 hHeld.2.2.2.2.2.2.2.2.1, cell_on bw27 hHeld.2.2.2.2.2.2.2.2.2.1, cell_on bw27 hHeld.2.2.2.2.2.2.2.2.2.2.1, cell_on bw27 hHeld.2.2.2.2.2.2.2.2.2.2.2.1, also hHeld.2.2.2.2.2.2.2.2.2.2.2.2 bw27⟩ | exact ⟨cell_on bw26 hHeld.1, cell_on bw26 hHeld.2.1, cell_on bw26 hHeld.2.2.1, cell_on bw26 hHeld.2.2.2.1, cell_on bw26 hHeld.2.2.2.2.1, cell_on bw26 hHeld.2.2.2.2.2.1, cell_on bw26 hHeld.2.2.2.2.2.2.1, cell_on bw26 hHeld.2.2.2.2.2.2.2.1, cell_on bw26 hHeld.2.2.2.2.2.2.2.2.1, cell_on bw26 hHeld.2.2.2.2.2.2.2.2.2.1, cell_on bw26 hHeld.2.2.2.2.2.2.2.2.2.2.1, cell_on bw26 hHeld.2.2.2.2.2.2.2.2.2.2.2.1, also hHeld.2.2.2.2.2.2.2.2.2.2.2.2 bw26⟩ | exact ⟨cell_on bw25 hHeld.1, cell_on bw25 hHeld.2.1, cell_on bw25 hHeld.2.2.1, cell_on bw25 hHeld.2.2.2.1, cell_on bw25 hHeld.2.2.2.2.1, cell_on bw25 hHeld.2.2.2.2.2.1, cell_on bw25 hHeld.2.2.2.2.2.2.1, cell_on bw25 hHeld.2.2.2.2.2.2.2.1, cell_on bw25 hHeld.2.2.2.2.2.2.2.2.1, cell_on bw25 hHeld.2.2.2.2.2.2.2.2.2.1, cell_on bw25 hHeld.2.2.2.2.2.2.2.2.2.2.1, cell_on bw25 hHeld.2.2.2.2.2.2.2.2.2.2.2.1, also hHeld.2.2.2.2.2.2.2.2.2.2.2.2 bw25⟩ | exact ⟨cell_on bw24 hHeld.1, cell_on bw24 hHeld.2.1, cell_on bw24 hHeld.2.2.1, cell_on bw24 hHeld.2.2.2.1, cell_on bw24 hHeld.2.2.2.2.1, cell_on bw24 hHeld.2.2.2.2.2.1, cell_on bw24 hHeld.2.2.2.2.2.2.1, cell_on bw24 hHeld.2.2.2.2.2.2.2.1, cell_on bw24 hHeld.2.2.2.2.2.2.2.2.1, cell_on bw24 hHeld.2.2.2.2.2.2.2.2.2.1, cell_on bw24 hHeld.2.2.2.2.2.2.2.2.2.2.1, cell_on bw24 hHeld.2.2.2.2.2.2.2.2.2.2.2.1, also hHeld.2.2.2.2.2.2.2.2.2.2.2.2 bw24⟩ | exact ⟨cell_on bw23 hHeld.1, cell_on bw23 hHeld.2.1, cell_on bw23 hHeld.2.2.1, cell_on bw23 hHeld.2.2.2.1, cell_on bw23 hHeld.2.2.2.2.1, cell_on bw23 hHeld.2.2.2.2.2.1, cell_on bw23 hHeld.2.2.2.2.2.2.1, cell_on bw23 hHeld.2.2.2.2.2.2.2.1, cell_on bw23 hHeld.2.2.2.2.2.2.2.2.1, cell_on bw23 hHeld.2.2.2.2.2.2.2.2.2.1, cell_on bw23 hHeld.2.2.2.2.2.2.2.2.2.2.1, cell_on bw23 hHeld.2.2.2.2.2.2.2.2.2.2.2.1, also hHeld.2.2.2.2.2.2.2.2.2.2.2.2 bw23⟩ | exact ⟨cell_on bw22 hHeld.1, cell_on bw22 hHeld.2.1, cell_on bw22 hHeld.2.2.1, cell_on bw22 hHeld.2.2.2.1, cell_on bw22 hHeld.2.2.2.2.1, cell_on bw22 hHeld.2.2.2.2.2.1, cell_on bw22 hHeld.2.2.2.2.2.2.1, cell_on bw22 hHeld.2.2.2.2.2.2.2.1, cell_on bw22 hHeld.2.2.2.2.2.2.2.2.1, cell_on bw22 hHeld.2.2.2.2.2.2.2.2.2.1, cell_on bw22 hHeld.2.2.2.2.2.2.2.2.2.2.1, cell_on bw22 hHeld.2.2.2.2.2.2.2.2.2.2.2.1, also hHeld.2.2.2.2.2.2.2.2.2.2.2.2 bw22⟩ | exact ⟨cell_on bw21 hHeld.1, cell_on bw21 hHeld.2.1, cell_on bw21 hHeld.2.2.1, cell_on bw21 hHeld.2.2.2.1, cell_on bw21 hHeld.2.2.2.2.1, cell_on bw21 hHeld.2.2.2.2.2.1, cell_on bw21 hHeld.2.2.2.2.2.2.1, cell_on bw21 hHeld.2.2.2.2.2.2.2.1, cell_on bw21 hHeld.2.2.2.2.2.2.2.2.1, cell_on bw21 hHeld.2.2.2.2.2.2.2.2.2.1, cell_on bw21 hHeld.2.2.2.2.2.2.2.2.2.2.1, cell_on bw21 hHeld.2.2.2.2.2.2.2.2.2.2.2.1, also hHeld.2.2.2.2.2.2.2.2.2.2.2.2 bw21⟩ | exact ⟨cell_on bw20 hHeld.1, cell_on bw20 hHeld.2.1, cell_on bw20 hHeld.2.2.1, cell_on bw20 hHeld.2.2.2.1, cell_on bw20 hHeld.2.2.2.2.1, cell_on bw20 hHeld.2.2.2.2.2.1, cell_on bw20 hHeld.2.2.2.2.2.2.1, cell_on bw20 hHeld.2.2.2.2.2.2.2.1, cell_on bw20 hHeld.2.2.2.2.2.2.2.2.1, cell_on bw20 hHeld.2.2.2.2.2.2.2.2.2.1, cell_on bw20 hHeld.2.2.2.2.2.2.2.2.2.2.1, cell_on bw20 hHeld.2.2.2.2.2.2.2.2.2.2.2.1, also hHeld.2.2.2.2.2.2.2.2.2.2.2.2 bw20⟩
      clear hK Kc
      have zbw21 := bw21.size
      replace BB := also BB bw21
      replace q1 := q1.below bw21
      replace q2 := q2.below bw21
      replace h7 := h7.below bw21
      replace h10 := h10.below bw21
      replace x_a := x_a.on bw21
      replace x_b := x_b.on bw21
      replace x_p := x_p.on bw21
      replace x_q := x_q.on bw21
      refine take_call (i := 11) rfl (by kernel_rfl) (fun Kc hK => ?_)
      go_simp
      (go_at_call 10; refine (qSub n11 a11 l11 c11 d11 m11 k11 TN TD m a2 m2 c2 d2 k2 g2 Y B 13 _ (h11.qi 13 (by decide) (by decide) BTN.out BTD.out) (q2.more (by decide) (by decide)) VN VD HVN.out HVD.out).mono ?_; rintro e w22 ⟨n12, a12, l12, c12, d12, m12, k12, rfl, h12, f12, j12, bw22⟩)
      refine hK.out _ _ ?_ (fun hHeld => ?_)
      · first | exact ⟨x_a.c0, x_a.c1, x_a.c2, x_b.c0, x_b.c1, x_b.c2, x_p.c0, x_p.c1, x_p.c2, x_q.c0, x_q.c1, x_q.c2, BB⟩ | exact ⟨cell_on bw27 hHeld.1, cell_on bw27 hHeld.2.1, cell_on bw27 hHeld.2.2.1, cell_on bw27 hHeld.2.2.2.1, cell_on bw27 hHeld.2.2.2.2.1, cell_on bw27 hHeld.2.2.2.2.2.1, cell_on bw27 hHeld.2.2.2.2.2.2.1, cell_on bw27 hHeld.2.2.2.2.2.2.2.1, cell_on bw27 hHeld.2.2.2.2.2.2.2.2.1, cell_on bw27 hHeld.2.2.2.2.2.2.2.2.2.1, cell_on bw27 hHeld.2.2.2.2.2.2.2.2.2.2.1, cell_on bw27 hHeld.2.2.2.2.2.2.2.2.2.2.2.1, also hHeld.2.2.2.2.2.2.2.2.2.2.2.2 bw27⟩ | exact ⟨cell_on bw26 hHeld.1, cell_on bw26 hHeld.2.1, cell_on bw26 hHeld.2.2.1, cell_on bw26 hHeld.2.2.2.1, cell_on bw26 hHeld.2.2.2.2.1, cell_on bw26 hHeld.2.2.2.2.2.1, cell_on bw26 hHeld.2.2.2.2.2.2.1, cell_on bw26 hHeld.2.2.2.2.2.2.2.1, cell_on bw26 hHeld.2.2.2.2.2.2.2.2.1, cell_on bw26 hHeld.2.2.2.2.2.2.2.2.2.1, cell_on bw26 hHeld.2.2.2.2.2.2.2.2.2.2.1, cell_on bw26 hHeld.2.2.2.2.2.2.2.2.2.2.2.1, also hHeld.2.2.2.2.2.2.2.2.2.2.2.2 bw26⟩ | exact ⟨cell_on bw25 hHeld.1, cell_on bw25 hHeld.2.1, cell_on bw25 hHeld.2.2.1, cell_on bw25 hHeld.2.2.2.1, cell_on bw25 hHeld.2.2.2.2.1, cell_on bw25 hHeld.2.2.2.2.2.1, cell_on bw25 hHeld.2.2.2.2.2.2.1, cell_on bw25 hHeld.2.2.2.2.2.2.2.1, cell_on bw25 hHeld.2.2.2.2.2.2.2.2.1, cell_on bw25 hHeld.2.2.2.2.2.2.2.2.2.1, cell_on bw25 hHeld.2.2.2.2.2.2.2.2.2.2.1, cell_on bw25 hHeld.2.2.2.2.2.2.2.2.2.2.2.1, also hHeld.2.2.2.2.2.2.2.2.2.2.2.2 bw25⟩ | exact ⟨cell_on bw24 hHeld.1, cell_on bw24 hHeld.2.1, cell_on bw24 hHeld.2.2.1, cell_on bw24 hHeld.2.2.2.1, cell_on bw24 hHeld.2.2.2.2.1, cell_on bw24 hHeld.2.2.2.2.2.1, cell_on bw24 hHeld.2.2.2.2.2.2.1, cell_on bw24 hHeld.2.2.2.2.2.2.2.1, cell_on bw24 hHeld.2.2.2.2.2.2.2.2.1, cell_on bw24 hHeld.2.2.2.2.2.2.2.2.2.1, cell_on bw24 hHeld.2.2.2.2.2.2.2.2.2.2.1, cell_on bw24 hHeld.2.2.2.2.2.2.2.2.2.2.2.1, also hHeld.2.2.2.2.2.2.2.2.2.2.2.2 bw24⟩ | exact ⟨cell_on bw23 hHeld.1, cell_on bw23 hHeld.2.1, cell_on bw23 hHeld.2.2.1, cell_on bw23 hHeld.2.2.2.1, cell_on bw23 hHeld.2.2.2.2.1, cell_on bw23 hHeld.2.2.2.2.2.1, cell_on bw23 hHeld.2.2.2.2.2.2.1, cell_on bw23 hHeld.2.2.2.2.2.2.2.1, cell_on bw23 hHeld.2.2.2.2.2.2.2.2.1, cell_on bw23 hHeld.2.2.2.2.2.2.2.2.2.1, cell_on bw23 hHeld.2.2.2.2.2.2.2.2.2.2.1, cell_on bw23 hHeld.2.2.2.2.2.2.2.2.2.2.2.1, also hHeld.2.2.2.2.2.2.2.2.2.2.2.2 bw23⟩ | exact ⟨cell_on bw22 hHeld.1, cell_on bw22 hHeld.2.1, cell_on bw22 hHeld.2.2.1, cell_on bw22 hHeld.2.2.2.1, cell_on bw22 hHeld.2.2.2.2.1, cell_on bw22 hHeld.2.2.2.2.2.1, cell_on bw22 hHeld.2.2.2.2.2.2.1, cell_on bw22 hHeld.2.2.2.2.2.2.2.1, cell_on bw22 hHeld.2.2.2.2.2.2.2.2.1, cell_on bw22 hHeld.2.2.2.2.2.2.2.2.2.1, cell_on bw22 hHeld.2.2.2.2.2.2.2.2.2.2.1, cell_on bw22 hHeld.2.2.2.2.2.2.2.2.2.2.2.1, also hHeld.2.2.2.2.2.2.2.2.2.2.2.2 bw22⟩ | exact ⟨cell_on bw21 hHeld.1, cell_on bw21 hHeld.2.1, cell_on bw21 hHeld.2.2.1, cell_on bw21 hHeld.2.2.2.1, cell_on bw21 hHeld.2.2.2.2.1, cell_on bw21 hHeld.2.2.2.2.2.1, cell_on bw21 hHeld.2.2.2.2.2.2.1, cell_on bw21 hHeld.2.2.2.2.2.2.2.1, cell_on bw21 hHeld.2.2.2.2.2.2.2.2.1, cell_on bw21 hHeld.2.2.2.2.2.2.2.2.2.1, cell_on bw21 hHeld.2.2.2.2.2.2.2.2.2.2.1, cell_on bw21 hHeld.2.2.2.2.2.2.2.2.2.2.2.1, also hHeld.2.2.2.2.2.2.2.2.2.2.2.2 bw21⟩ | exact ⟨cell_on bw20 hHeld.1, cell_on bw20 hHeld.2.1, cell_on bw20 hHeld.2.2.1, cell_on bw20 hHeld.2.2.2.1, cell_on bw20 hHeld.2.2.2.2.1, cell_on bw20 hHeld.2.2.2.2.2.1, cell_on bw20 hHeld.2.2.2.2.2.2.1, cell_on bw20 hHeld.2.2.2.2.2.2.2.1, cell_on bw20 hHeld.2.2.2.2.2.2.2.2.1, cell_on bw20 hHeld.2.2.2.2.2.2.2.2.2.1, cell_on bw20 hHeld.2.2.2.2.2.2.2.2.2.2.1, cell_on bw20 hHeld.2.2.2.2.2.2.2.2.2.2.2.1, also hHeld.2.2.2.2.2.2.2.2.2.2.2.2 bw20⟩
      clear hK Kc
      have zbw22 := bw22.size
      replace BB := also BB bw22
      replace q1 := q1.below bw22
      replace q2 := q2.below bw22
      replace h7 := h7.below bw22
      replace h10 := h10.below bw22
      replace x_a := x_a.on bw22
      replace x_b := x_b.on bw22
      replace x_p := x_p.on bw22
      replace x_q := x_q.on bw22
      replace h11 := h11.below bw22
      refine take_call (i := 13) rfl (by kernel_rfl) (fun Kc hK => ?_)
      go_simp
      (go_at_call 7; refine (qCmp n12 a12 l12 c12 d12 m12 k12 VN VD n a1 m1 c1 d1 k1 g1 X A 27 _ (h12.qi 27 (by decide) (by decide) BVN.out BVD.out) (q1.more (by decide) (by decide)) HC1.out).mono ?_; rintro e w23 ⟨rfl, bw23⟩)
      refine hK.out _ _ ?_ (fun hHeld => ?_)
      · first | exact ⟨x_a.c0, x_a.c1, x_a.c2, x_b.c0, x_b.c1, x_b.c2, x_p.c0, x_p.c1, x_p.c2, x_q.c0, x_q.c1, x_q.c2, BB⟩ | exact ⟨cell_on bw27 hHeld.1, cell_on bw27 hHeld.2.1, cell_on bw27 hHeld.2.2.1, cell_on bw27 hHeld.2.2.2.1, cell_on bw27 hHeld.2.2.2.2.1, cell_on bw27 hHeld.2.2.2.2.2.1, cell_on bw27 hHeld.2.2.2.2.2.2.1, cell_on bw27 hHeld.2.2.2.2.2.2.2.1, cell_on bw27 hHeld.2.2.2.2.2.2.2.2.1, cell_on bw27 hHeld.2.2.2.2.2.2.2.2.2.1, cell_on bw27 hHeld.2.2.2.2.2.2.2.2.2.2.1, cell_on bw27 hHeld.2.2.2.2.2.2.2.2.2.2.2.1, also hHeld.2.2.2.2.2.2.2.2.2.2.2.2 bw27⟩ | exact ⟨cell_on bw26 hHeld.1, cell_on bw26 hHeld.2.1, cell_on bw26 hHeld.2.2.1, cell_on bw26 hHeld.2.2.2.1, cell_on bw26 hHeld.2.2.2.2.1, cell_on bw26 hHeld.2.2.2.2.2.1, cell_on bw26 hHeld.2.2.2.2.2.2.1, cell_on bw26 hHeld.2.2.2.2.2.2.2.1, cell_on bw26 hHeld.2.2.2.2.2.2.2.2.1, cell_on bw26 hHeld.2.2.2.2.2.2.2.2.2.1, cell_on bw26 hHeld.2.2.2.2.2.2.2.2.2.2.1, cell_on bw26 hHeld.2.2.2.2.2.2.2.2.2.2.2.1, also hHeld.2.2.2.2.2.2.2.2.2.2.2.2 bw26⟩ | exact ⟨cell_on bw25 hHeld.1, cell_on bw25 hHeld.2.1, cell_on bw25 hHeld.2.2.1, cell_on bw25 hHeld.2.2.2.1, cell_on bw25 hHeld.2.2.2.2.1, cell_on bw25 hHeld.2.2.2.2.2.1, cell_on bw25 hHeld.2.2.2.2.2.2.1, cell_on bw25 hHeld.2.2.2.2.2.2.2.1, cell_on bw25 hHeld.2.2.2.2.2.2.2.2.1, cell_on bw25 hHeld.2.2.2.2.2.2.2.2.2.1, cell_on bw25 hHeld.2.2.2.2.2.2.2.2.2.2.1, cell_on bw25 hHeld.2.2.2.2.2.2.2.2.2.2.2.1, also hHeld.2.2.2.2.2.2.2.2.2.2.2.2 bw25⟩ | exact ⟨cell_on bw24 hHeld.1, cell_on bw24 hHeld.2.1, cell_on bw24 hHeld.2.2.1, cell_on bw24 hHeld.2.2.2.1, cell_on bw24 hHeld.2.2.2.2.1, cell_on bw24 hHeld.2.2.2.2.2.1, cell_on bw24 hHeld.2.2.2.2.2.2.1, cell_on bw24 hHeld.2.2.2.2.2.2.2.1, cell_on bw24 hHeld.2.2.2.2.2.2.2.2.1, cell_on bw24 hHeld.2.2.2.2.2.2.2.2.2.1, cell_on bw24 hHeld.2.2.2.2.2.2.2.2.2.2.1, cell_on bw24 hHeld.2.2.2.2.2.2.2.2.2.2.2.1, also hHeld.2.2.2.2.2.2.2.2.2.2.2.2 bw24⟩ | exact ⟨cell_on bw23 hHeld.1, cell_on bw23 hHeld.2.1, cell_on bw23 hHeld.2.2.1, cell_on bw23 hHeld.2.2.2.1, cell_on bw23 hHeld.2.2.2.2.1, cell_on bw23 hHeld.2.2.2.2.2.1, cell_on bw23 hHeld.2.2.2.2.2.2.1, cell_on bw23 hHeld.2.2.2.2.2.2.2.1, cell_on bw23 hHeld.2.2.2.2.2.2.2.2.1, cell_on bw23 hHeld.2.2.2.2.2.2.2.2.2.1, cell_on bw23 hHeld.2.2.2.2.2.2.2.2.2.2.1, cell_on bw23 hHeld.2.2.2.2.2.2.2.2.2.2.2.1, also hHeld.2.2.2.2.2.2.2.2.2.2.2.2 bw23⟩ | exact ⟨cell_on bw22 hHeld.1, cell_on bw22 hHeld.2.1, cell_on bw22 hHeld.2.2.1, cell_on bw22 hHeld.2.2.2.1, cell_on bw22 hHeld.2.2.2.2.1, cell_on bw22 hHeld.2.2.2.2.2.1, cell_on bw22 hHeld.2.2.2.2.2.2.1, cell_on bw22 hHeld.2.2.2.2.2.2.2.1, cell_on bw22 hHeld.2.2.2.2.2.2.2.2.1, cell_on bw22 hHeld.2.2.2.2.2.2.2.2.2.1, cell_on bw22 hHeld.2.2.2.2.2.2.2.2.2.2.1, cell_on bw22 hHeld.2.2.2.2.2.2.2.2.2.2.2.1, also hHeld.2.2.2.2.2.2.2.2.2.2.2.2 bw22⟩ | exact ⟨cell_on bw21 hHeld.1, cell_on bw21 hHeld.2.1, cell_on bw21 hHeld.2.2.1, cell_on bw21 hHeld.2.2.2.1, cell_on bw21 hHeld.2.2.2.2.1, cell_on bw21 hHeld.2.2.2.2.2.1, cell_on bw21 hHeld.2.2.2.2.2.2.1, cell_on bw21 hHeld.2.2.2.2.2.2.2.1, cell_on bw21 hHeld.2.2.2.2.2.2.2.2.1, cell_on bw21 hHeld.2.2.2.2.2.2.2.2.2.1, cell_on bw21 hHeld.2.2.2.2.2.2.2.2.2.2.1, cell_on bw21 hHeld.2.2.2.2.2.2.2.2.2.2.2.1, also hHeld.2.2.2.2.2.2.2.2.2.2.2.2 bw21⟩ | exact ⟨cell_on bw20 hHeld.1, cell_on bw20 hHeld.2.1, cell_on bw20 hHeld.2.2.1, cell_on bw20 hHeld.2.2.2.1, cell_on bw20 hHeld.2.2.2.2.1, cell_on bw20 hHeld.2.2.2.2.2.1, cell_on bw20 hHeld.2.2.2.2.2.2.1, cell_on bw20 hHeld.2.2.2.2.2.2.2.1, cell_on bw20 hHeld.2.2.2.2.2.2.2.2.1, cell_on bw20 hHeld.2.2.2.2.2.2.2.2.2.1, cell_on bw20 hHeld.2.2.2.2.2.2.2.2.2.2.1, cell_on bw20 hHeld.2.2.2.2.2.2.2.2.2.2.2.1, also hHeld.2.2.2.2.2.2.2.2.2.2.2.2 bw20⟩
      clear hK Kc
      have zbw23 := bw23.size
      replace BB := also BB bw23
      replace q1 := q1.below bw23
      replace q2 := q2.below bw23
      replace h7 := h7.below bw23
      replace h10 := h10.below bw23
      replace x_a := x_a.on bw23
      replace x_b := x_b.on bw23
      replace x_p := x_p.on bw23
      replace x_q := x_q.on bw23
      replace h11 := h11.below bw23
      replace h12 := h12.below bw23
      refine take_yes (i := 14) (v := ?vy14) rfl (by kernel_rfl) (by kernel_rfl) (by kernel_rfl) (fun _ _ _ h => h) (by rfl) (by assumption) ?hyy14 ?resty14
      case hyy14 => (intro w hSw; (try dsimp only at hSw); first | (go_simp; done) | (go_simp; with_reducible rfl))
      simp only [Act.put, List.setIfInBounds_toArray, List.set_cons_zero, List.set_cons_succ]
      refine take_yes (i := 15) (v := ?vy15) rfl (by kernel_rfl) (by kernel_rfl) (by kernel_rfl) (fun _ _ _ h => h) (by rfl) (by assumption) ?hyy15 ?resty15
      case hyy15 => (intro w hSw; (try dsimp only at hSw); first | (go_simp; done) | (go_simp; with_reducible rfl))
      simp only [Act.put, List.setIfInBounds_toArray, List.set_cons_zero, List.set_cons_succ]
      refine take_yes (i := 16) (v := ?vy16) rfl (by kernel_rfl) (by kernel_rfl) (by kernel_rfl) (fun _ _ _ h => h) (by rfl) (by assumption) ?hyy16 ?resty16
      case hyy16 => (intro w hSw; (try dsimp only at hSw); first | (go_simp; done) | (go_simp; with_reducible rfl))
      simp only [Act.put, List.setIfInBounds_toArray, List.set_cons_zero, List.set_cons_succ]
      refine take_yes (i := 17) (v := ?vy17) rfl (by kernel_rfl) (by kernel_rfl) (by kernel_rfl) (fun _ _ _ h => h) (by rfl) (by assumption) ?hyy17 ?resty17
      case hyy17 => (intro w hSw; (try dsimp only at hSw); first | (go_simp; done) | (go_simp; with_reducible rfl))
      simp only [Act.put, List.setIfInBounds_toArray, List.set_cons_zero, List.set_cons_succ]
      refine take_yes (i := 18) (v := ?vy18) rfl (by kernel_rfl) (by kernel_rfl) (by kernel_rfl) (fun _ _ _ h => h) (by rfl) (by assumption) ?hyy18 ?resty18
      case hyy18 => (intro w hSw; (try dsimp only at hSw); first | (go_simp; done) | (go_simp; with_reducible rfl))
      simp only [Act.put, List.setIfInBounds_toArray, List.set_cons_zero, List.set_cons_succ]
      refine take_call (i := 19) rfl (by kernel_rfl) (fun Kc hK => ?_)
      go_simp
      (go_at_call 7; refine (qCmp n7 a7 l7 c7 d7 m7 k7 LN LD n10 a10 l10 c10 d10 m10 k10 LN LD 26 _ h7 h10 HC2.out).mono ?_; rintro e w24 ⟨rfl, bw24⟩)
      refine hK.out _ _ ?_ (fun hHeld => ?_)
      · first | exact ⟨x_a.c0, x_a.c1, x_a.c2, x_b.c0, x_b.c1, x_b.c2, x_p.c0, x_p.c1, x_p.c2, x_q.c0, x_q.c1, x_q.c2, BB⟩ | exact ⟨cell_on bw27 hHeld.1, cell_on bw27 hHeld.2.1, cell_on bw27 hHeld.2.2.1, cell_on bw27 hHeld.2.2.2.1, cell_on bw27 hHeld.2.2.2.2.1, cell_on bw27 hHeld.2.2.2.2.2.1, cell_on bw27 hHeld.2.2.2.2.2.2.1, cell_on bw27 hHeld.2.2.2.2.2.2.2.1, cell_on bw27 hHeld.2.2.2.2.2.2.2.2.1, cell_on bw27 hHeld.2.2.2.2.2.2.2.2.2.1, cell_on bw27 hHeld.2.2.2.2.2.2.2.2.2.2.1, cell_on bw27 hHeld.2.2.2.2.2.2.2.2.2.2.2.1, also hHeld.2.2.2.2.2.2.2.2.2.2.2.2 bw27⟩ | exact ⟨cell_on bw26 hHeld.1, cell_on bw26 hHeld.2.1, cell_on bw26 hHeld.2.2.1, cell_on bw26 hHeld.2.2.2.1, cell_on bw26 hHeld.2.2.2.2.1, cell_on bw26 hHeld.2.2.2.2.2.1, cell_on bw26 hHeld.2.2.2.2.2.2.1, cell_on bw26 hHeld.2.2.2.2.2.2.2.1, cell_on bw26 hHeld.2.2.2.2.2.2.2.2.1, cell_on bw26 hHeld.2.2.2.2.2.2.2.2.2.1, cell_on bw26 hHeld.2.2.2.2.2.2.2.2.2.2.1, cell_on bw26 hHeld.2.2.2.2.2.2.2.2.2.2.2.1, also hHeld.2.2.2.2.2.2.2.2.2.2.2.2 bw26⟩ | exact ⟨cell_on bw25 hHeld.1, cell_on bw25 hHeld.2.1, cell_on bw25 hHeld.2.2.1, cell_on bw25 hHeld.2.2.2.1, cell_on bw25 hHeld.2.2.2.2.1, cell_on bw25 hHeld.2.2.2.2.2.1, cell_on bw25 hHeld.2.2.2.2.2.2.1, cell_on bw25 hHeld.2.2.2.2.2.2.2.1, cell_on bw25 hHeld.2.2.2.2.2.2.2.2.1, cell_on bw25 hHeld.2.2.2.2.2.2.2.2.2.1, cell_on bw25 hHeld.2.2.2.2.2.2.2.2.2.2.1, cell_on bw25 hHeld.2.2.2.2.2.2.2.2.2.2.2.1, also hHeld.2.2.2.2.2.2.2.2.2.2.2.2 bw25⟩ | exact ⟨cell_on bw24 hHeld.1, cell_on bw24 hHeld.2.1, cell_on bw24 hHeld.2.2.1, cell_on bw24 hHeld.2.2.2.1, cell_on bw24 hHeld.2.2.2.2.1, cell_on bw24 hHeld.2.2.2.2.2.1, cell_on bw24 hHeld.2.2.2.2.2.2.1, cell_on bw24 hHeld.2.2.2.2.2.2.2.1, cell_on bw24 hHeld.2.2.2.2.2.2.2.2.1, cell_on bw24 hHeld.2.2.2.2.2.2.2.2.2.1, cell_on bw24 hHeld.2.2.2.2.2.2.2.2.2.2.1, cell_on bw24 hHeld.2.2.2.2.2.2.2.2.2.2.2.1, also hHeld.2.2.2.2.2.2.2.2.2.2.2.2 bw24⟩ | exact ⟨cell_on bw23 hHeld.1, cell_on bw23 hHeld.2.1, cell_on bw23 hHeld.2.2.1, cell_on bw23 hHeld.2.2.2.1, cell_on bw23 hHeld.2.2.2.2.1, cell_on bw23 hHeld.2.2.2.2.2.1, cell_on bw23 hHeld.2.2.2.2.2.2.1, cell_on bw23 hHeld.2.2.2.2.2.2.2.1, cell_on bw23 hHeld.2.2.2.2.2.2.2.2.1, cell_on bw23 hHeld.2.2.2.2.2.2.2.2.2.1, cell_on bw23 hHeld.2.2.2.2.2.2.2.2.2.2.1, cell_on bw23 hHeld.2.2.2.2.2.2.2.2.2.2.2.1, also hHeld.2.2.2.2.2.2.2.2.2.2.2.2 bw23⟩ | exact ⟨cell_on bw22 hHeld.1, cell_on bw22 hHeld.2.1, cell_on bw22 hHeld.2.2.1, cell_on bw22 hHeld.2.2.2.1, cell_on bw22 hHeld.2.2.2.2.1, cell_on bw22 hHeld.2.2.2.2.2.1, cell_on bw22 hHeld.2.2.2.2.2.2.1, cell_on bw22 hHeld.2.2.2.2.2.2.2.1, cell_on bw22 hHeld.2.2.2.2.2.2.2.2.1, cell_on bw22 hHeld.2.2.2.2.2.2.2.2.2.1, cell_on bw22 hHeld.2.2.2.2.2.2.2.2.2.2.1, cell_on bw22 hHeld.2.2.2.2.2.2.2.2.2.2.2.1, also hHeld.2.2.2.2.2.2.2.2.2.2.2.2 bw22⟩ | exact ⟨cell_on bw21 hHeld.1, cell_on bw21 hHeld.2.1, cell_on bw21 hHeld.2.2.1, cell_on bw21 hHeld.2.2.2.1, cell_on bw21 hHeld.2.2.2.2.1, cell_on bw21 hHeld.2.2.2.2.2.1, cell_on bw21 hHeld.2.2.2.2.2.2.1, cell_on bw21 hHeld.2.2.2.2.2.2.2.1, cell_on bw21 hHeld.2.2.2.2.2.2.2.2.1, cell_on bw21 hHeld.2.2.2.2.2.2.2.2.2.1, cell_on bw21 hHeld.2.2.2.2.2.2.2.2.2.2.1, cell_on bw21 hHeld.2.2.2.2.2.2.2.2.2.2.2.1, also hHeld.2.2.2.2.2.2.2.2.2.2.2.2 bw21⟩ | exact ⟨cell_on bw20 hHeld.1, cell_on bw20 hHeld.2.1, cell_on bw20 hHeld.2.2.1, cell_on bw20 hHeld.2.2.2.1, cell_on bw20 hHeld.2.2.2.2.1, cell_on bw20 hHeld.2.2.2.2.2.1, cell_on bw20 hHeld.2.2.2.2.2.2.1, cell_on bw20 hHeld.2.2.2.2.2.2.2.1, cell_on bw20 hHeld.2.2.2.2.2.2.2.2.1, cell_on bw20 hHeld.2.2.2.2.2.2.2.2.2.1, cell_on bw20 hHeld.2.2.2.2.2.2.2.2.2.2.1, cell_on bw20 hHeld.2.2.2.2.2.2.2.2.2.2.2.1, also hHeld.2.2.2.2.2.2.2.2.2.2.2.2 bw20⟩
      clear hK Kc
      have zbw24 := bw24.size
      replace BB := also BB bw24
      replace q1 := q1.below bw24
      replace q2 := q2.below bw24
      replace h7 := h7.below bw24
      replace h10 := h10.below bw24
      replace x_a := x_a.on bw24
      replace x_b := x_b.on bw24
      replace x_p := x_p.on bw24
      replace x_q := x_q.on bw24
      replace h11 := h11.below bw24
      replace h12 := h12.below bw24
      refine take_yes (i := 20) (v := ?vy20) rfl (by kernel_rfl) (by kernel_rfl) (by kernel_rfl) (fun _ _ _ h => h) (by rfl) (by assumption) ?hyy20 ?resty20
      case hyy20 => (intro w hSw; (try dsimp only at hSw); first | (go_simp; done) | (go_simp; with_reducible rfl))
      simp only [Act.put, List.setIfInBounds_toArray, List.set_cons_zero, List.set_cons_succ]
      refine take_yes (i := 21) (v := ?vy21) rfl (by kernel_rfl) (by kernel_rfl) (by kernel_rfl) (fun _ _ _ h => h) (by rfl) (by assumption) ?hyy21 ?resty21
      case hyy21 => (intro w hSw; (try dsimp only at hSw); first | (go_simp; done) | (go_simp; with_reducible rfl))
      simp only [Act.put, List.setIfInBounds_toArray, List.set_cons_zero, List.set_cons_succ]
      refine take_yes (i := 22) (v := ?vy22) rfl (by kernel_rfl) (by kernel_rfl) (by kernel_rfl) (fun _ _ _ h => h) (by rfl) (by assumption) ?hyy22 ?resty22
      case hyy22 => (intro w hSw; (try dsimp only at hSw); first | (go_simp; done) | (go_simp; with_reducible rfl))
      simp only [Act.put, List.setIfInBounds_toArray, List.set_cons_zero, List.set_cons_succ]
      refine take_yes (i := 23) (v := ?vy23) rfl (by kernel_rfl) (by kernel_rfl) (by kernel_rfl) (fun _ _ _ h => h) (by rfl) (by assumption) ?hyy23 ?resty23
      case hyy23 => (intro w hSw; (try dsimp only at hSw); first | (go_simp; done) | (go_simp; with_reducible rfl))
      simp only [Act.put, List.setIfInBounds_toArray, List.set_cons_zero, List.set_cons_succ]
      refine take_yes (i := 25) (v := ?vy25) rfl (by kernel_rfl) (by kernel_rfl) (by kernel_rfl) (fun _ _ _ h => h) (by rfl) (by assumption) ?hyy25 ?resty25
      case hyy25 => (intro w hSw; (try dsimp only at hSw); first | (go_simp; done) | (go_simp; with_reducible rfl))
      simp only [Act.put, List.setIfInBounds_toArray, List.set_cons_zero, List.set_cons_succ]
      refine take_call (i := 24) rfl (by kernel_rfl) (fun Kc hK => ?_)
      go_simp
      (go_at_call 11; refine (qShow n7 a7 l7 c7 d7 m7 k7 LN LD 26 _ h7 HT.out).mono ?_; rintro e w25 ⟨rfl, bw25⟩)
      refine hK.out _ _ ?_ (fun hHeld => ?_)
      · first | exact ⟨x_a.c0, x_a.c1, x_a.c2, x_b.c0, x_b.c1, x_b.c2, x_p.c0, x_p.c1, x_p.c2, x_q.c0, x_q.c1, x_q.c2, BB⟩ | exact ⟨cell_on bw27 hHeld.1, cell_on bw27 hHeld.2.1, cell_on bw27 hHeld.2.2.1, cell_on bw27 hHeld.2.2.2.1, cell_on bw27 hHeld.2.2.2.2.1, cell_on bw27 hHeld.2.2.2.2.2.1, cell_on bw27 hHeld.2.2.2.2.2.2.1, cell_on bw27 hHeld.2.2.2.2.2.2.2.1, cell_on bw27 hHeld.2.2.2.2.2.2.2.2.1, cell_on bw27 hHeld.2.2.2.2.2.2.2.2.2.1, cell_on bw27 hHeld.2.2.2.2.2.2.2.2.2.2.1, cell_on bw27 hHeld.2.2.2.2.2.2.2.2.2.2.2.1, also hHeld.2.2.2.2.2.2.2.2.2.2.2.2 bw27⟩ | exact ⟨cell_on bw26 hHeld.1, cell_on bw26 hHeld.2.1, cell_on bw26 hHeld.2.2.1, cell_on bw26 hHeld.2.2.2.1, cell_on bw26 hHeld.2.2.2.2.1, cell_on bw26 hHeld.2.2.2.2.2.1, cell_on bw26 hHeld.2.2.2.2.2.2.1, cell_on bw26 hHeld.2.2.2.2.2.2.2.1, cell_on bw26 hHeld.2.2.2.2.2.2.2.2.1, cell_on bw26 hHeld.2.2.2.2.2.2.2.2.2.1, cell_on bw26 hHeld.2.2.2.2.2.2.2.2.2.2.1, cell_on bw26 hHeld.2.2.2.2.2.2.2.2.2.2.2.1, also hHeld.2.2.2.2.2.2.2.2.2.2.2.2 bw26⟩ | exact ⟨cell_on bw25 hHeld.1, cell_on bw25 hHeld.2.1, cell_on bw25 hHeld.2.2.1, cell_on bw25 hHeld.2.2.2.1, cell_on bw25 hHeld.2.2.2.2.1, cell_on bw25 hHeld.2.2.2.2.2.1, cell_on bw25 hHeld.2.2.2.2.2.2.1, cell_on bw25 hHeld.2.2.2.2.2.2.2.1, cell_on bw25 hHeld.2.2.2.2.2.2.2.2.1, cell_on bw25 hHeld.2.2.2.2.2.2.2.2.2.1, cell_on bw25 hHeld.2.2.2.2.2.2.2.2.2.2.1, cell_on bw25 hHeld.2.2.2.2.2.2.2.2.2.2.2.1, also hHeld.2.2.2.2.2.2.2.2.2.2.2.2 bw25⟩ | exact ⟨cell_on bw24 hHeld.1, cell_on bw24 hHeld.2.1, cell_on bw24 hHeld.2.2.1, cell_on bw24 hHeld.2.2.2.1, cell_on bw24 hHeld.2.2.2.2.1, cell_on bw24 hHeld.2.2.2.2.2.1, cell_on bw24 hHeld.2.2.2.2.2.2.1, cell_on bw24 hHeld.2.2.2.2.2.2.2.1, cell_on bw24 hHeld.2.2.2.2.2.2.2.2.1, cell_on bw24 hHeld.2.2.2.2.2.2.2.2.2.1, cell_on bw24 hHeld.2.2.2.2.2.2.2.2.2.2.1, cell_on bw24 hHeld.2.2.2.2.2.2.2.2.2.2.2.1, also hHeld.2.2.2.2.2.2.2.2.2.2.2.2 bw24⟩ | exact ⟨cell_on bw23 hHeld.1, cell_on bw23 hHeld.2.1, cell_on bw23 hHeld.2.2.1, cell_on bw23 hHeld.2.2.2.1, cell_on bw23 hHeld.2.2.2.2.1, cell_on bw23 hHeld.2.2.2.2.2.1, cell_on bw23 hHeld.2.2.2.2.2.2.1, cell_on bw23 hHeld.2.2.2.2.2.2.2.1, cell_on bw23 hHeld.2.2.2.2.2.2.2.2.1, cell_on bw23 hHeld.2.2.2.2.2.2.2.2.2.1, cell_on bw23 hHeld.2.2.2.2.2.2.2.2.2.2.1, cell_on bw23 hHeld.2.2.2.2.2.2.2.2.2.2.2.1, also hHeld.2.2.2.2.2.2.2.2.2.2.2.2 bw23⟩ | exact ⟨cell_on bw22 hHeld.1, cell_on bw22 hHeld.2.1, cell_on bw22 hHeld.2.2.1, cell_on bw22 hHeld.2.2.2.1, cell_on bw22 hHeld.2.2.2.2.1, cell_on bw22 hHeld.2.2.2.2.2.1, cell_on bw22 hHeld.2.2.2.2.2.2.1, cell_on bw22 hHeld.2.2.2.2.2.2.2.1, cell_on bw22 hHeld.2.2.2.2.2.2.2.2.1, cell_on bw22 hHeld.2.2.2.2.2.2.2.2.2.1, cell_on bw22 hHeld.2.2.2.2.2.2.2.2.2.2.1, cell_on bw22 hHeld.2.2.2.2.2.2.2.2.2.2.2.1, also hHeld.2.2.2.2.2.2.2.2.2.2.2.2 bw22⟩ | exact ⟨cell_on bw21 hHeld.1, cell_on bw21 hHeld.2.1, cell_on bw21 hHeld.2.2.1, cell_on bw21 hHeld.2.2.2.1, cell_on bw21 hHeld.2.2.2.2.1, cell_on bw21 hHeld.2.2.2.2.2.1, cell_on bw21 hHeld.2.2.2.2.2.2.1, cell_on bw21 hHeld.2.2.2.2.2.2.2.1, cell_on bw21 hHeld.2.2.2.2.2.2.2.2.1, cell_on bw21 hHeld.2.2.2.2.2.2.2.2.2.1, cell_on bw21 hHeld.2.2.2.2.2.2.2.2.2.2.1, cell_on bw21 hHeld.2.2.2.2.2.2.2.2.2.2.2.1, also hHeld.2.2.2.2.2.2.2.2.2.2.2.2 bw21⟩ | exact ⟨cell_on bw20 hHeld.1, cell_on bw20 hHeld.2.1, cell_on bw20 hHeld.2.2.1, cell_on bw20 hHeld.2.2.2.1, cell_on bw20 hHeld.2.2.2.2.1, cell_on bw20 hHeld.2.2.2.2.2.1, cell_on bw20 hHeld.2.2.2.2.2.2.1, cell_on bw20 hHeld.2.2.2.2.2.2.2.1, cell_on bw20 hHeld.2.2.2.2.2.2.2.2.1, cell_on bw20 hHeld.2.2.2.2.2.2.2.2.2.1, cell_on bw20 hHeld.2.2.2.2.2.2.2.2.2.2.1, cell_on bw20 hHeld.2.2.2.2.2.2.2.2.2.2.2.1, also hHeld.2.2.2.2.2.2.2.2.2.2.2.2 bw20⟩
      clear hK Kc
      have zbw25 := bw25.size
      replace BB := also BB bw25
      replace q1 := q1.below bw25
      replace q2 := q2.below bw25
      replace h7 := h7.below bw25
      replace h10 := h10.below bw25
      replace x_a := x_a.on bw25
      replace x_b := x_b.on bw25
      replace x_p := x_p.on bw25
      replace x_q := x_q.on bw25
      replace h11 := h11.below bw25
      replace h12 := h12.below bw25
      refine take_call (i := 26) rfl (by kernel_rfl) (fun Kc hK => ?_)
      go_simp
      (go_at_call 11; refine (qShow n10 a10 l10 c10 d10 m10 k10 LN LD 26 _ h10 HT.out).mono ?_; rintro e w26 ⟨rfl, bw26⟩)
      refine hK.out _ _ ?_ (fun hHeld => ?_)
      · first | exact ⟨x_a.c0, x_a.c1, x_a.c2, x_b.c0, x_b.c1, x_b.c2, x_p.c0, x_p.c1, x_p.c2, x_q.c0, x_q.c1, x_q.c2, BB⟩ | exact ⟨cell_on bw27 hHeld.1, cell_on bw27 hHeld.2.1, cell_on bw27 hHeld.2.2.1, cell_on bw27 hHeld.2.2.2.1, cell_on bw27 hHeld.2.2.2.2.1, cell_on bw27 hHeld.2.2.2.2.2.1, cell_on bw27 hHeld.2.2.2.2.2.2.1, cell_on bw27 hHeld.2.2.2.2.2.2.2.1, cell_on bw27 hHeld.2.2.2.2.2.2.2.2.1, cell_on bw27 hHeld.2.2.2.2.2.2.2.2.2.1, cell_on bw27 hHeld.2.2.2.2.2.2.2.2.2.2.1, cell_on bw27 hHeld.2.2.2.2.2.2.2.2.2.2.2.1, also hHeld.2.2.2.2.2.2.2.2.2.2.2.2 bw27⟩ | exact ⟨cell_on bw26 hHeld.1, cell_on bw26 hHeld.2.1, cell_on bw26 hHeld.2.2.1, cell_on bw26 hHeld.2.2.2.1, cell_on bw26 hHeld.2.2.2.2.1, cell_on bw26 hHeld.2.2.2.2.2.1, cell_on bw26 hHeld.2.2.2.2.2.2.1, cell_on bw26 hHeld.2.2.2.2.2.2.2.1, cell_on bw26 hHeld.2.2.2.2.2.2.2.2.1, cell_on bw26 hHeld.2.2.2.2.2.2.2.2.2.1, cell_on bw26 hHeld.2.2.2.2.2.2.2.2.2.2.1, cell_on bw26 hHeld.2.2.2.2.2.2.2.2.2.2.2.1, also hHeld.2.2.2.2.2.2.2.2.2.2.2.2 bw26⟩ | exact ⟨cell_on bw25 hHeld.1, cell_on bw25 hHeld.2.1, cell_on bw25 hHeld.2.2.1, cell_on bw25 hHeld.2.2.2.1, cell_on bw25 hHeld.2.2.2.2.1, cell_on bw25 hHeld.2.2.2.2.2.1, cell_on bw25 hHeld.2.2.2.2.2.2.1, cell_on bw25 hHeld.2.2.2.2.2.2.2.1, cell_on bw25 hHeld.2.2.2.2.2.2.2.2.1, cell_on bw25 hHeld.2.2.2.2.2.2.2.2.2.1, cell_on bw25 hHeld.2.2.2.2.2.2.2.2.2.2.1, cell_on bw25 hHeld.2.2.2.2.2.2.2.2.2.2.2.1, also hHeld.2.2.2.2.2.2.2.2.2.2.2.2 bw25⟩ | exact ⟨cell_on bw24 hHeld.1, cell_on bw24 hHeld.2.1, cell_on bw24 hHeld.2.2.1, cell_on bw24 hHeld.2.2.2.1, cell_on bw24 hHeld.2.2.2.2.1, cell_on bw24 hHeld.2.2.2.2.2.1, cell_on bw24 hHeld.2.2.2.2.2.2.1, cell_on bw24 hHeld.2.2.2.2.2.2.2.1, cell_on bw24 hHeld.2.2.2.2.2.2.2.2.1, cell_on bw24 hHeld.2.2.2.2.2.2.2.2.2.1, cell_on bw24 hHeld.2.2.2.2.2.2.2.2.2.2.1, cell_on bw24 hHeld.2.2.2.2.2.2.2.2.2.2.2.1, also hHeld.2.2.2.2.2.2.2.2.2.2.2.2 bw24⟩ | exact ⟨cell_on bw23 hHeld.1, cell_on bw23 hHeld.2.1, cell_on bw23 hHeld.2.2.1, cell_on bw23 hHeld.2.2.2.1, cell_on bw23 hHeld.2.2.2.2.1, cell_on bw23 hHeld.2.2.2.2.2.1, cell_on bw23 hHeld.2.2.2.2.2.2.1, cell_on bw23 hHeld.2.2.2.2.2.2.2.1, cell_on bw23 hHeld.2.2.2.2.2.2.2.2.1, cell_on bw23 hHeld.2.2.2.2.2.2.2.2.2.1, cell_on bw23 hHeld.2.2.2.2.2.2.2.2.2.2.1, cell_on bw23 hHeld.2.2.2.2.2.2.2.2.2.2.2.1, also hHeld.2.2.2.2.2.2.2.2.2.2.2.2 bw23⟩ | exact ⟨cell_on bw22 hHeld.1, cell_on bw22 hHeld.2.1, cell_on bw22 hHeld.2.2.1, cell_on bw22 hHeld.2.2.2.1, cell_on bw22 hHeld.2.2.2.2.1, cell_on bw22 hHeld.2.2.2.2.2.1, cell_on bw22 hHeld.2.2.2.2.2.2.1, cell_on bw22 hHeld.2.2.2.2.2.2.2.1, cell_on bw22 hHeld.2.2.2.2.2.2.2.2.1, cell_on bw22 hHeld.2.2.2.2.2.2.2.2.2.1, cell_on bw22 hHeld.2.2.2.2.2.2.2.2.2.2.1, cell_on bw22 hHeld.2.2.2.2.2.2.2.2.2.2.2.1, also hHeld.2.2.2.2.2.2.2.2.2.2.2.2 bw22⟩ | exact ⟨cell_on bw21 hHeld.1, cell_on bw21 hHeld.2.1, cell_on bw21 hHeld.2.2.1, cell_on bw21 hHeld.2.2.2.1, cell_on bw21 hHeld.2.2.2.2.1, cell_on bw21 hHeld.2.2.2.2.2.1, cell_on bw21 hHeld.2.2.2.2.2.2.1, cell_on bw21 hHeld.2.2.2.2.2.2.2.1, cell_on bw21 hHeld.2.2.2.2.2.2.2.2.1, cell_on bw21 hHeld.2.2.2.2.2.2.2.2.2.1, cell_on bw21 hHeld.2.2.2.2.2.2.2.2.2.2.1, cell_on bw21 hHeld.2.2.2.2.2.2.2.2.2.2.2.1, also hHeld.2.2.2.2.2.2.2.2.2.2.2.2 bw21⟩ | exact ⟨cell_on bw20 hHeld.1, cell_on bw20 hHeld.2.1, cell_on bw20 hHeld.2.2.1, cell_on bw20 hHeld.2.2.2.1, cell_on bw20 hHeld.2.2.2.2.1, cell_on bw20 hHeld.2.2.2.2.2.1, cell_on bw20 hHeld.2.2.2.2.2.2.1, cell_on bw20 hHeld.2.2.2.2.2.2.2.1, cell_on bw20 hHeld.2.2.2.2.2.2.2.2.1, cell_on bw20 hHeld.2.2.2.2.2.2.2.2.2.1, cell_on bw20 hHeld.2.2.2.2.2.2.2.2.2.2.1, cell_on bw20 hHeld.2.2.2.2.2.2.2.2.2.2.2.1, also hHeld.2.2.2.2.2.2.2.2.2.2.2.2 bw20⟩
      clear hK Kc
      have zbw26 := bw26.size
      replace BB := also BB bw26
      replace q1 := q1.below bw26
      replace q2 := q2.below bw26
      replace h7 := h7.below bw26
      replace h10 := h10.below bw26
      replace x_a := x_a.on bw26
      replace x_b := x_b.on bw26
      replace x_p := x_p.on bw26
      replace x_q := x_q.on bw26
      replace h11 := h11.below bw26
      replace h12 := h12.below bw26
      refine take_yes (i := 27) (v := ?vy27) rfl (by kernel_rfl) (by kernel_rfl) (by kernel_rfl) (fun _ _ _ h => h) (by rfl) (by assumption) ?hyy27 ?resty27
      case hyy27 => (intro w hSw; (try dsimp only at hSw); first | (go_simp; done) | (go_simp; with_reducible rfl))
      simp only [Act.put, List.setIfInBounds_toArray, List.set_cons_zero, List.set_cons_succ]
      refine take_yes (i := 28) (v := ?vy28) rfl (by kernel_rfl) (by kernel_rfl) (by kernel_rfl) (fun _ _ _ h => h) (by rfl) (by assumption) ?hyy28 ?resty28
      case hyy28 => (intro w hSw; (try dsimp only at hSw); first | (go_simp; done) | (go_simp; with_reducible rfl))
      simp only [Act.put, List.setIfInBounds_toArray, List.set_cons_zero, List.set_cons_succ]
      refine take_yes (i := 29) (v := ?vy29) rfl (by kernel_rfl) (by kernel_rfl) (by kernel_rfl) (fun _ _ _ h => h) (by rfl) (by assumption) ?hyy29 ?resty29
      case hyy29 => (intro w hSw; (try dsimp only at hSw); first | (go_simp; done) | (go_simp; with_reducible rfl))
      simp only [Act.put, List.setIfInBounds_toArray, List.set_cons_zero, List.set_cons_succ]
      refine take_call (i := 30) rfl (by kernel_rfl) (fun Kc hK => ?_)
      go_simp
      (go_at_call 12; refine (lives5_any _).mono ?_; rintro e w27 ⟨rfl, bw27⟩)
      refine hK.out _ _ ?_ (fun hHeld => ?_)
      · first | exact ⟨x_a.c0, x_a.c1, x_a.c2, x_b.c0, x_b.c1, x_b.c2, x_p.c0, x_p.c1, x_p.c2, x_q.c0, x_q.c1, x_q.c2, BB⟩ | exact ⟨cell_on bw27 hHeld.1, cell_on bw27 hHeld.2.1, cell_on bw27 hHeld.2.2.1, cell_on bw27 hHeld.2.2.2.1, cell_on bw27 hHeld.2.2.2.2.1, cell_on bw27 hHeld.2.2.2.2.2.1, cell_on bw27 hHeld.2.2.2.2.2.2.1, cell_on bw27 hHeld.2.2.2.2.2.2.2.1, cell_on bw27 hHeld.2.2.2.2.2.2.2.2.1, cell_on bw27 hHeld.2.2.2.2.2.2.2.2.2.1, cell_on bw27 hHeld.2.2.2.2.2.2.2.2.2.2.1, cell_on bw27 hHeld.2.2.2.2.2.2.2.2.2.2.2.1, also hHeld.2.2.2.2.2.2.2.2.2.2.2.2 bw27⟩ | exact ⟨cell_on bw26 hHeld.1, cell_on bw26 hHeld.2.1, cell_on bw26 hHeld.2.2.1, cell_on bw26 hHeld.2.2.2.1, cell_on bw26 hHeld.2.2.2.2.1, cell_on bw26 hHeld.2.2.2.2.2.1, cell_on bw26 hHeld.2.2.2.2.2.2.1, cell_on bw26 hHeld.2.2.2.2.2.2.2.1, cell_on bw26 hHeld.2.2.2.2.2.2.2.2.1, cell_on bw26 hHeld.2.2.2.2.2.2.2.2.2.1, cell_on bw26 hHeld.2.2.2.2.2.2.2.2.2.2.1, cell_on bw26 hHeld.2.2.2.2.2.2.2.2.2.2.2.1, also hHeld.2.2.2.2.2.2.2.2.2.2.2.2 bw26⟩ | exact ⟨cell_on bw25 hHeld.1, cell_on bw25 hHeld.2.1, cell_on bw25 hHeld.2.2.1, cell_on bw25 hHeld.2.2.2.1, cell_on bw25 hHeld.2.2.2.2.1, cell_on bw25 hHeld.2.2.2.2.2.1, cell_on bw25 hHeld.2.2.2.2.2.2.1, cell_on bw25 hHeld.2.2.2.2.2.2.2.1, cell_on bw25 hHeld.2.2.2.2.2.2.2.2.1, cell_on bw25 hHeld.2.2.2.2.2.2.2.2.2.1, cell_on bw25 hHeld.2.2.2.2.2.2.2.2.2.2.1, cell_on bw25 hHeld.2.2.2.2.2.2.2.2.2.2.2.1, also hHeld.2.2.2.2.2.2.2.2.2.2.2.2 bw25⟩ | exact ⟨cell_on bw24 hHeld.1, cell_on bw24 hHeld.2.1, cell_on bw24 hHeld.2.2.1, cell_on bw24 hHeld.2.2.2.1, cell_on bw24 hHeld.2.2.2.2.1, cell_on bw24 hHeld.2.2.2.2.2.1, cell_on bw24 hHeld.2.2.2.2.2.2.1, cell_on bw24 hHeld.2.2.2.2.2.2.2.1, cell_on bw24 hHeld.2.2.2.2.2.2.2.2.1, cell_on bw24 hHeld.2.2.2.2.2.2.2.2.2.1, cell_on bw24 hHeld.2.2.2.2.2.2.2.2.2.2.1, cell_on bw24 hHeld.2.2.2.2.2.2.2.2.2.2.2.1, also hHeld.2.2.2.2.2.2.2.2.2.2.2.2 bw24⟩ | exact ⟨cell_on bw23 hHeld.1, cell_on bw23 hHeld.2.1, cell_on bw23 hHeld.2.2.1, cell_on bw23 hHeld.2.2.2.1, cell_on bw23 hHeld.2.2.2.2.1, cell_on bw23 hHeld.2.2.2.2.2.1, cell_on bw23 hHeld.2.2.2.2.2.2.1, cell_on bw23 hHeld.2.2.2.2.2.2.2.1, cell_on bw23 hHeld.2.2.2.2.2.2.2.2.1, cell_on bw23 hHeld.2.2.2.2.2.2.2.2.2.1, cell_on bw23 hHeld.2.2.2.2.2.2.2.2.2.2.1, cell_on bw23 hHeld.2.2.2.2.2.2.2.2.2.2.2.1, also hHeld.2.2.2.2.2.2.2.2.2.2.2.2 bw23⟩ | exact ⟨cell_on bw22 hHeld.1, cell_on bw22 hHeld.2.1, cell_on bw22 hHeld.2.2.1, cell_on bw22 hHeld.2.2.2.1, cell_on bw22 hHeld.2.2.2.2.1, cell_on bw22 hHeld.2.2.2.2.2.1, cell_on bw22 hHeld.2.2.2.2.2.2.1, cell_on bw22 hHeld.2.2.2.2.2.2.2.1, cell_on bw22 hHeld.2.2.2.2.2.2.2.2.1, cell_on bw22 hHeld.2.2.2.2.2.2.2.2.2.1, cell_on bw22 hHeld.2.2.2.2.2.2.2.2.2.2.1, cell_on bw22 hHeld.2.2.2.2.2.2.2.2.2.2.2.1, also hHeld.2.2.2.2.2.2.2.2.2.2.2.2 bw22⟩ | exact ⟨cell_on bw21 hHeld.1, cell_on bw21 hHeld.2.1, cell_on bw21 hHeld.2.2.1, cell_on bw21 hHeld.2.2.2.1, cell_on bw21 hHeld.2.2.2.2.1, cell_on bw21 hHeld.2.2.2.2.2.1, cell_on bw21 hHeld.2.2.2.2.2.2.1, cell_on bw21 hHeld.2.2.2.2.2.2.2.1, cell_on bw21 hHeld.2.2.2.2.2.2.2.2.1, cell_on bw21 hHeld.2.2.2.2.2.2.2.2.2.1, cell_on bw21 hHeld.2.2.2.2.2.2.2.2.2.2.1, cell_on bw21 hHeld.2.2.2.2.2.2.2.2.2.2.2.1, also hHeld.2.2.2.2.2.2.2.2.2.2.2.2 bw21⟩ | exact ⟨cell_on bw20 hHeld.1, cell_on bw20 hHeld.2.1, cell_on bw20 hHeld.2.2.1, cell_on bw20 hHeld.2.2.2.1, cell_on bw20 hHeld.2.2.2.2.1, cell_on bw20 hHeld.2.2.2.2.2.1, cell_on bw20 hHeld.2.2.2.2.2.2.1, cell_on bw20 hHeld.2.2.2.2.2.2.2.1, cell_on bw20 hHeld.2.2.2.2.2.2.2.2.1, cell_on bw20 hHeld.2.2.2.2.2.2.2.2.2.1, cell_on bw20 hHeld.2.2.2.2.2.2.2.2.2.2.1, cell_on bw20 hHeld.2.2.2.2.2.2.2.2.2.2.2.1, also hHeld.2.2.2.2.2.2.2.2.2.2.2.2 bw20⟩
      clear hK Kc
      have zbw27 := bw27.size
      replace BB := also BB bw27
      replace q1 := q1.below bw27
      replace q2 := q2.below bw27
      replace h7 := h7.below bw27
      replace h10 := h10.below bw27
      replace x_a := x_a.on bw27
      replace x_b := x_b.on bw27
      replace x_p := x_p.on bw27
      replace x_q := x_q.on bw27
      replace h11 := h11.below bw27
      replace h12 := h12.below bw27
      refine take_yes (i := 31) (v := ?vy31) rfl (by kernel_rfl) (by kernel_rfl) (by kernel_rfl) (fun _ _ _ h => h) (by rfl) (by assumption) ?hyy31 ?resty31
      case hyy31 => (intro w hSw; (try dsimp only at hSw); first | (go_simp; done) | (go_simp; with_reducible rfl))
      simp only [Act.put, List.setIfInBounds_toArray, List.set_cons_zero, List.set_cons_succ]
      refine take_yes (i := 32) (v := ?vy32) rfl (by kernel_rfl) (by kernel_rfl) (by kernel_rfl) (fun _ _ _ h => h) (by rfl) (by assumption) ?hyy32 ?resty32
      case hyy32 => (intro w hSw; (try dsimp only at hSw); first | (go_simp; done) | (go_simp; with_reducible rfl))
      simp only [Act.put, List.setIfInBounds_toArray, List.set_cons_zero, List.set_cons_succ]
      refine wpAnyH_done (by kernel_rfl) ?_ _
      go_wp2
      go_ret
      exact ⟨rfl, BB⟩
    · subst hE
      have HS : Hid ((0 : Int) = (pN Y B).sign) := by unfold Hid; rw [hy]; rfl
      clear hy
      go_wp2
      have dd1 : Below Y3.heap.size Y3 Y3.drew := (Below.refl _ _).drew
      have zdd1 := dd1.size
      replace BB := also BB dd1
      replace q1 := q1.below dd1
      replace q2 := q2.below dd1
      replace h7 := h7.below dd1
      replace h10 := h10.below dd1
      replace x_a := x_a.on dd1
      replace x_b := x_b.on dd1
      replace x_p := x_p.on dd1
      replace x_q := x_q.on dd1
      refine wp_region_held_drew (S := (fun w' => w'.cell? ⟨w.heap.size, 0, none⟩ = some (.bool n) ∧ w'.cell? ⟨w.heap.size, 1, none⟩ = some (.slice a1 m1 c1) ∧ w'.cell? ⟨w.heap.size, 2, none⟩ = some (.slice d1 k1 g1) ∧ w'.cell? ⟨w.heap.size + 1, 0, none⟩ = some (.bool m) ∧ w'.cell? ⟨w.heap.size + 1, 1, none⟩ = some (.slice a2 m2 c2) ∧ w'.cell? ⟨w.heap.size + 1, 2, none⟩ = some (.slice d2 k2 g2) ∧ w'.cell? ⟨p, 0, none⟩ = some (.bool n7) ∧ w'.cell? ⟨p, 1, none⟩ = some (.slice a7 l7 c7) ∧ w'.cell? ⟨p, 2, none⟩ = some (.slice d7 m7 k7) ∧ w'.cell? ⟨q, 0, none⟩ = some (.bool n10) ∧ w'.cell? ⟨q, 1, none⟩ = some (.slice a10 l10 c10) ∧ w'.cell? ⟨q, 2, none⟩ = some (.slice d10 m10 k10) ∧ Below w.heap.size w w')) (by kernel_rfl) ?_ (fun hHeld => ?_)
      · first | exact ⟨x_a.c0, x_a.c1, x_a.c2, x_b.c0, x_b.c1, x_b.c2, x_p.c0, x_p.c1, x_p.c2, x_q.c0, x_q.c1, x_q.c2, BB⟩ | exact ⟨cell_on bw27 hHeld.1, cell_on bw27 hHeld.2.1, cell_on bw27 hHeld.2.2.1, cell_on bw27 hHeld.2.2.2.1, cell_on bw27 hHeld.2.2.2.2.1, cell_on bw27 hHeld.2.2.2.2.2.1, cell_on bw27 hHeld.2.2.2.2.2.2.1, cell_on bw27 hHeld.2.2.2.2.2.2.2.1, cell_on bw27 hHeld.2.2.2.2.2.2.2.2.1, cell_on bw27 hHeld.2.2.2.2.2.2.2.2.2.1, cell_on bw27 hHeld.2.2.2.2.2.2.2.2.2.2.1, cell_on bw27 hHeld.2.2.2.2.2.2.2.2.2.2.2.1, also hHeld.2.2.2.2.2.2.2.2.2.2.2.2 bw27⟩ | exact ⟨cell_on bw26 hHeld.1, cell_on bw26 hHeld.2.1, cell_on bw26 hHeld.2.2.1, cell_on bw26 hHeld.2.2.2.1, cell_on bw26 hHeld.2.2.2.2.1, cell_on bw26 hHeld.2.2.2.2.2.1, cell_on bw26 hHeld.2.2.2.2.2.2.1, cell_on bw26 hHeld.2.2.2.2.2.2.2.1, cell_on bw26 hHeld.2.2.2.2.2.2.2.2.1, cell_on bw26 hHeld.2.2.2.2.2.2.2.2.2.1, cell_on bw26 hHeld.2.2.2.2.2.2.2.2.2.2.1, cell_on bw26 hHeld.2.2.2.2.2.2.2.2.2.2.2.1, also hHeld.2.2.2.2.2.2.2.2.2.2.2.2 bw26⟩ | exact ⟨cell_on bw25 hHeld.1, cell_on bw25 hHeld.2.1, cell_on bw25 hHeld.2.2.1, cell_on bw25 hHeld.2.2.2.1, cell_on bw25 hHeld.2.2.2.2.1, cell_on bw25 hHeld.2.2.2.2.2.1, cell_on bw25 hHeld.2.2.2.2.2.2.1, cell_on bw25 hHeld.2.2.2.2.2.2.2.1, cell_on bw25 hHeld.2.2.2.2.2.2.2.2.1, cell_on bw25 hHeld.2.2.2.2.2.2.2.2.2.1, cell_on bw25 hHeld.2.2.2.2.2.2.2.2.2.2.1, cell_on bw25 hHeld.2.2.2.2.2.2.2.2.2.2.2.1, also hHeld.2.2.2.2.2.2.2.2.2.2.2.2 bw25⟩ | exact ⟨cell_on bw24 hHeld.1, cell_on bw24 hHeld.2.1, cell_on bw24 hHeld.2.2.1, cell_on bw24 hHeld.2.2.2.1, cell_on bw24 hHeld.2.2.2.2.1, cell_on bw24 hHeld.2.2.2.2.2.1, cell_on bw24 hHeld.2.2.2.2.2.2.1, cell_on bw24 hHeld.2.2.2.2.2.2.2.1, cell_on bw24 hHeld.2.2.2.2.2.2.2.2.1, cell_on bw24 hHeld.2.2.2.2.2.2.2.2.2.1, cell_on bw24 hHeld.2.2.2.2.2.2.2.2.2.2.1, cell_on bw24 hHeld.2.2.2.2.2.2.2.2.2.2.2.1, also hHeld.2.2.2.2.2.2.2.2.2.2.2.2 bw24⟩ | exact ⟨cell_on bw23 hHeld.1, cell_on bw23 hHeld.2.1, cell_on bw23 hHeld.2.2.1, cell_on bw23 hHeld.2.2.2.1, cell_on bw23 hHeld.2.2.2.2.1, cell_on bw23 hHeld.2.2.2.2.2.1, cell_on bw23 hHeld.2.2.2.2.2.2.1, cell_on bw23 hHeld.2.2.2.2.2.2.2.1, cell_on bw23 hHeld.2.2.2.2.2.2.2.2.1, cell_on bw23 hHeld.2.2.2.2.2.2.2.2.2.1, cell_on bw23 hHeld.2.2.2.2.2.2.2.2.2.2.1, cell_on bw23 hHeld.2.2.2.2.2.2.2.2.2.2.2.1, also hHeld.2.2.2.2.2.2.2.2.2.2.2.2 bw23⟩ | exact ⟨cell_on bw22 hHeld.1, cell_on bw22 hHeld.2.1, cell_on bw22 hHeld.2.2.1, cell_on bw22 hHeld.2.2.2.1, cell_on bw22 hHeld.2.2.2.2.1, cell_on bw22 hHeld.2.2.2.2.2.1, cell_on bw22 hHeld.2.2.2.2.2.2.1, cell_on bw22 hHeld.2.2.2.2.2.2.2.1, cell_on bw22 hHeld.2.2.2.2.2.2.2.2.1, cell_on bw22 hHeld.2.2.2.2.2.2.2.2.2.1, cell_on bw22 hHeld.2.2.2.2.2.2.2.2.2.2.1, cell_on bw22 hHeld.2.2.2.2.2.2.2.2.2.2.2.1, also hHeld.2.2.2.2.2.2.2.2.2.2.2.2 bw22⟩ | exact ⟨cell_on bw21 hHeld.1, cell_on bw21 hHeld.2.1, cell_on bw21 hHeld.2.2.1, cell_on bw21 hHeld.2.2.2.1, cell_on bw21 hHeld.2.2.2.2.1, cell_on bw21 hHeld.2.2.2.2.2.1, cell_on bw21 hHeld.2.2.2.2.2.2.1, cell_on bw21 hHeld.2.2.2.2.2.2.2.1, cell_on bw21 hHeld.2.2.2.2.2.2.2.2.1, cell_on bw21 hHeld.2.2.2.2.2.2.2.2.2.1, cell_on bw21 hHeld.2.2.2.2.2.2.2.2.2.2.1, cell_on bw21 hHeld.2.2.2.2.2.2.2.2.2.2.2.1, also hHeld.2.2.2.2.2.2.2.2.2.2.2.2 bw21⟩ | exact ⟨cell_on bw20 hHeld.1, cell_on bw20 hHeld.2.1, cell_on bw20 hHeld.2.2.1, cell_on bw20 hHeld.2.2.2.1, cell_on bw20 hHeld.2.2.2.2.1, cell_on bw20 hHeld.2.2.2.2.2.1, cell_on bw20 hHeld.2.2.2.2.2.2.1, cell_on bw20 hHeld.2.2.2.2.2.2.2.1, cell_on bw20 hHeld.2.2.2.2.2.2.2.2.1, cell_on bw20 hHeld.2.2.2.2.2.2.2.2.2.1, cell_on bw20 hHeld.2.2.2.2.2.2.2.2.2.2.1, cell_on bw20 hHeld.2.2.2.2.2.2.2.2.2.2.2.1, also hHeld.2.2.2.2.2.2.2.2.2.2.2.2 bw20⟩
      refine take_yes (i := 0) (v := ?vz0) rfl (by kernel_rfl) (by kernel_rfl) (by kernel_rfl) (fun _ _ _ h => h) (by rfl) (by assumption) ?hyz0 ?restz0
      case hyz0 => (intro w hSw; (try dsimp only at hSw); first | (go_simp; done) | (go_simp; with_reducible rfl))
      simp only [Act.put, List.setIfInBounds_toArray, List.set_cons_zero, List.set_cons_succ]
      refine take_yes (i := 1) (v := ?vz1) rfl (by kernel_rfl) (by kernel_rfl) (by kernel_rfl) (fun _ _ _ h => h) (by rfl) (by assumption) ?hyz1 ?restz1
      case hyz1 => (intro w hSw; (try dsimp only at hSw); first | (go_simp; done) | (go_simp; with_reducible rfl))
      simp only [Act.put, List.setIfInBounds_toArray, List.set_cons_zero, List.set_cons_succ]
      refine take_yes (i := 2) (v := ?vz2) rfl (by kernel_rfl) (by kernel_rfl) (by kernel_rfl) (fun _ _ _ h => h) (by rfl) (by assumption) ?hyz2 ?restz2
      case hyz2 => (intro w hSw; (try dsimp only at hSw); first | (go_simp; done) | (go_simp; with_reducible rfl))
      simp only [Act.put, List.setIfInBounds_toArray, List.set_cons_zero, List.set_cons_succ]
      refine take_call (i := 3) rfl (by kernel_rfl) (fun Kc hK => ?_)
      go_simp
      (go_at_call 9; refine (qSign m a2 m2 c2 d2 k2 g2 Y B 6 _ q2 HS.out).mono ?_; rintro e w20 ⟨rfl, bw20⟩)
      refine hK.out _ _ ?_ (fun hHeld => ?_)
      · first | exact ⟨x_a.c0, x_a.c1, x_a.c2, x_b.c0, x_b.c1, x_b.c2, x_p.c0, x_p.c1, x_p.c2, x_q.c0, x_q.c1, x_q.c2, BB⟩ | exact ⟨cell_on bw27 hHeld.1, cell_on bw27 hHeld.2.1, cell_on bw27 hHeld.2.2.1, cell_on bw27 hHeld.2.2.2.1, cell_on bw27 hHeld.2.2.2.2.1, cell_on bw27 hHeld.2.2.2.2.2.1, cell_on bw27 hHeld.2.2.2.2.2.2.1, cell_on bw27 hHeld.2.2.2.2.2.2.2.1, cell_on bw27 hHeld.2.2.2.2.2.2.2.2.1, cell_on bw27 hHeld.2.2.2.2.2.2.2.2.2.1, cell_on bw27 hHeld.2.2.2.2.2.2.2.2.2.2.1, cell_on bw27 hHeld.2.2.2.2.2.2.2.2.2.2.2.1, also hHeld.2.2.2.2.2.2.2.2.2.2.2.2 bw27⟩ | exact ⟨cell_on bw26 hHeld.1, cell_on bw26 hHeld.2.1, cell_on bw26 hHeld.2.2.1, cell_on bw26 hHeld.2.2.2.1, cell_on bw26 hHeld.2.2.2.2.1, cell_on bw26 hHeld.2.2.2.2.2.1, cell_on bw26 hHeld.2.2.2.2.2.2.1, cell_on bw26 hHeld.2.2.2.2.2.2.2.1, cell_on bw26 hHeld.2.2.2.2.2.2.2.2.1, cell_on bw26 hHeld.2.2.2.2.2.2.2.2.2.1, cell_on bw26 hHeld.2.2.2.2.2.2.2.2.2.2.1, cell_on bw26 hHeld.2.2.2.2.2.2.2.2.2.2.2.1, also hHeld.2.2.2.2.2.2.2.2.2.2.2.2 bw26⟩ | exact ⟨cell_on bw25 hHeld.1, cell_on bw25 hHeld.2.1, cell_on bw25 hHeld.2.2.1, cell_on bw25 hHeld.2.2.2.1, cell_on bw25 hHeld.2.2.2.2.1, cell_on bw25 hHeld.2.2.2.2.2.1, cell_on bw25 hHeld.2.2.2.2.2.2.1, cell_on bw25 hHeld.2.2.2.2.2.2.2.1, cell_on bw25 hHeld.2.2.2.2.2.2.2.2.1, cell_on bw25 hHeld.2.2.2.2.2.2.2.2.2.1, cell_on bw25 hHeld.2.2.2.2.2.2.2.2.2.2.1, cell_on bw25 hHeld.2.2.2.2.2.2.2.2.2.2.2.1, also hHeld.2.2.2.2.2.2.2.2.2.2.2.2 bw25⟩ | exact ⟨cell_on bw24 hHeld.1, cell_on bw24 hHeld.2.1, cell_on bw24 hHeld.2.2.1, cell_on bw24 hHeld.2.2.2.1, cell_on bw24 hHeld.2.2.2.2.1, cell_on bw24 hHeld.2.2.2.2.2.1, cell_on bw24 hHeld.2.2.2.2.2.2.1, cell_on bw24 hHeld.2.2.2.2.2.2.2.1, cell_on bw24 hHeld.2.2.2.2.2.2.2.2.1, cell_on bw24 hHeld.2.2.2.2.2.2.2.2.2.1, cell_on bw24 hHeld.2.2.2.2.2.2.2.2.2.2.1, cell_on bw24 hHeld.2.2.2.2.2.2.2.2.2.2.2.1, also hHeld.2.2.2.2.2.2.2.2.2.2.2.2 bw24⟩ | exact ⟨cell_on bw23 hHeld.1, cell_on bw23 hHeld.2.1, cell_on bw23 hHeld.2.2.1, cell_on bw23 hHeld.2.2.2.1, cell_on bw23 hHeld.2.2.2.2.1, cell_on bw23 hHeld.2.2.2.2.2.1, cell_on bw23 hHeld.2.2.2.2.2.2.1, cell_on bw23 hHeld.2.2.2.2.2.2.2.1, cell_on bw23 hHeld.2.2.2.2.2.2.2.2.1, cell_on bw23 hHeld.2.2.2.2.2.2.2.2.2.1, cell_on bw23 hHeld.2.2.2.2.2.2.2.2.2.2.1, cell_on bw23 hHeld.2.2.2.2.2.2.2.2.2.2.2.1, also hHeld.2.2.2.2.2.2.2.2.2.2.2.2 bw23⟩ | exact ⟨cell_on bw22 hHeld.1, cell_on bw22 hHeld.2.1, cell_on bw22 hHeld.2.2.1, cell_on bw22 hHeld.2.2.2.1, cell_on bw22 hHeld.2.2.2.2.1, cell_on bw22 hHeld.2.2.2.2.2.1, cell_on bw22 hHeld.2.2.2.2.2.2.1, cell_on bw22 hHeld.2.2.2.2.2.2.2.1, cell_on bw22 hHeld.2.2.2.2.2.2.2.2.1, cell_on bw22 hHeld.2.2.2.2.2.2.2.2.2.1, cell_on bw22 hHeld.2.2.2.2.2.2.2.2.2.2.1, cell_on bw22 hHeld.2.2.2.2.2.2.2.2.2.2.2.1, also hHeld.2.2.2.2.2.2.2.2.2.2.2.2 bw22⟩ | exact ⟨cell_on bw21 hHeld.1, cell_on bw21 hHeld.2.1, cell_on bw21 hHeld.2.2.1, cell_on bw21 hHeld.2.2.2.1, cell_on bw21 hHeld.2.2.2.2.1, cell_on bw21 hHeld.2.2.2.2.2.1, cell_on bw21 hHeld.2.2.2.2.2.2.1, cell_on bw21 hHeld.2.2.2.2.2.2.2.1, cell_on bw21 hHeld.2.2.2.2.2.2.2.2.1, cell_on bw21 hHeld.2.2.2.2.2.2.2.2.2.1, cell_on bw21 hHeld.2.2.2.2.2.2.2.2.2.2.1, cell_on bw21 hHeld.2.2.2.2.2.2.2.2.2.2.2.1, also hHeld.2.2.2.2.2.2.2.2.2.2.2.2 bw21⟩ | exact ⟨cell_on bw20 hHeld.1, cell_on bw20 hHeld.2.1, cell_on bw20 hHeld.2.2.1, cell_on bw20 hHeld.2.2.2.1, cell_on bw20 hHeld.2.2.2.2.1, cell_on bw20 hHeld.2.2.2.2.2.1, cell_on bw20 hHeld.2.2.2.2.2.2.1, cell_on bw20 hHeld.2.2.2.2.2.2.2.1, cell_on bw20 hHeld.2.2.2.2.2.2.2.2.1, cell_on bw20 hHeld.2.2.2.2.2.2.2.2.2.1, cell_on bw20 hHeld.2.2.2.2.2.2.2.2.2.2.1, cell_on bw20 hHeld.2.2.2.2.2.2.2.2.2.2.2.1, also hHeld.2.2.2.2.2.2.2.2.2.2.2.2 bw20⟩
      clear hK Kc
      have zbw20 := bw20.size
      replace BB := also BB bw20
      replace q1 := q1.below bw20
      replace q2 := q2.below bw20
      replace h7 := h7.below bw20
      replace h10 := h10.below bw20
      replace x_a := x_a.on bw20
      replace x_b := x_b.on bw20
      replace x_p := x_p.on bw20
      replace x_q := x_q.on bw20
      refine take_yes (i := 4) (v := ?vz4) rfl (by kernel_rfl) (by kernel_rfl) (by kernel_rfl) (fun _ _ _ h => h) (by rfl) (by assumption) ?hyz4 ?restz4
      case hyz4 => (intro w hSw; (try dsimp only at hSw); first | (go_simp; done) | (go_simp; with_reducible rfl))
      simp only [Act.put, List.setIfInBounds_toArray, List.set_cons_zero, List.set_cons_succ]
      refine take_yes (i := 5) (v := ?vz5) rfl (by kernel_rfl) (by kernel_rfl) (by kernel_rfl) (fun _ _ _ h => h) (by rfl) (by assumption) ?hyz5 ?restz5
      case hyz5 => (intro w hSw; (try dsimp only at hSw); first | (go_simp; done) | (go_simp; with_reducible rfl))
      simp only [Act.put, List.setIfInBounds_toArray, List.set_cons_zero, List.set_cons_succ]
      refine take_yes (i := 6) (v := ?vz6) rfl (by kernel_rfl) (by kernel_rfl) (by kernel_rfl) (fun _ _ _ h => h) (by rfl) (by assumption) ?hyz6 ?restz6
      case hyz6 => (intro w hSw; (try dsimp only at hSw); first | (go_simp; done) | (go_simp; with_reducible rfl))
      simp only [Act.put, List.setIfInBounds_toArray, List.set_cons_zero, List.set_cons_succ]
      refine take_yes (i := 7) (v := ?vz7) rfl (by kernel_rfl) (by kernel_rfl) (by kernel_rfl) (fun _ _ _ h => h) (by rfl) (by assumption) ?hyz7 ?restz7
      case hyz7 => (intro w hSw; (try dsimp only at hSw); first | (go_simp; done) | (go_simp; with_reducible rfl))
      simp only [Act.put, List.setIfInBounds_toArray, List.set_cons_zero, List.set_cons_succ]
      refine take_yes (i := 8) (v := ?vz8) rfl (by kernel_rfl) (by kernel_rfl) (by kernel_rfl) (fun _ _ _ h => h) (by rfl) (by assumption) ?hyz8 ?restz8
      case hyz8 => (intro w hSw; (try dsimp only at hSw); first | (go_simp; done) | (go_simp; with_reducible rfl))
      simp only [Act.put, List.setIfInBounds_toArray, List.set_cons_zero, List.set_cons_succ]
      refine take_yes (i := 10) (v := ?vz10) rfl (by kernel_rfl) (by kernel_rfl) (by kernel_rfl) (fun _ _ _ h => h) (by rfl) (by assumption) ?hyz10 ?restz10
      case hyz10 => (intro w hSw; (try dsimp only at hSw); first | (go_simp; done) | (go_simp; with_reducible rfl))
      simp only [Act.put, List.setIfInBounds_toArray, List.set_cons_zero, List.set_cons_succ]
      refine take_yes (i := 12) (v := ?vz12) rfl (by kernel_rfl) (by kernel_rfl) (by kernel_rfl) (fun _ _ _ h => h) (by rfl) (by assumption) ?hyz12 ?restz12
      case hyz12 => (intro w hSw; (try dsimp only at hSw); first | (go_simp; done) | (go_simp; with_reducible rfl))
      simp only [Act.put, List.setIfInBounds_toArray, List.set_cons_zero, List.set_cons_succ]
      refine take_call (i := 9) rfl (by kernel_rfl) (fun Kc hK => ?_)
      go_simp
      (go_at_call 8; refine (qAdd n a1 m1 c1 d1 k1 g1 X A m a2 m2 c2 d2 k2 g2 Y B 6 _ q1 q2 TN TD HTN.out HTD.out).mono ?_; rintro e w21 ⟨n11, a11, l11, c11, d11, m11, k11, rfl, h11, f11, j11, bw21⟩)
      refine hK.out _ _ ?_ (fun hHeld => ?_)
      · first | exact ⟨x_a.c0, x_a.c1, x_a.c2, x_b.c0, x_b.c1, x_b.c2, x_p.c0, x_p.c1, x_p.c2, x_q.c0, x_q.c1, x_q.c2, BB⟩ | exact ⟨cell_on bw27 hHeld.1, cell_on bw27 hHeld.2.1, cell_on bw27 hHeld.2.2.1, cell_on bw27 hHeld.2.2.2.1, cell_on bw27 hHeld.2.2.2.2.1, cell_on bw27 hHeld.2.2.2.2.2.1, cell_on bw27 hHeld.2.2.2.2.2.2.1, cell_on bw27 hHeld.2.2.2.2.2.2.2.1, cell_on bw27 hHeld.2.2.2.2.2.2.2.2.1, cell_on bw27 hHeld.2.2.2.2.2.2.2.2.2.1, cell_on bw27 hHeld.2.2.2.2.2.2.2.2.2.2.1, cell_on bw27 hHeld.2.2.2.2.2.2.2.2.2.2.2.1, also hHeld.2.2.2.2.2.2.2.2.2.2.2.2 bw27⟩ | exact ⟨cell_on bw26 hHeld.1, cell_on bw26 hHeld.2.1, cell_on bw26 hHeld.2.2.1, cell_on bw26 hHeld.2.2.2.1, cell_on bw26 hHeld.2.2.2.2.1, cell_on bw26 hHeld.2.2.2.2.2.1, cell_on bw26 hHeld.2.2.2.2.2.2.1, cell_on bw26 hHeld.2.2.2.2.2.2.2.1, cell_on bw26 hHeld.2.2.2.2.2.2.2.2.1, cell_on bw26 hHeld.2.2.2.2.2.2.2.2.2.1, cell_on bw26 hHeld.2.2.2.2.2.2.2.2.2.2.1, cell_on bw26 hHeld.2.2.2.2.2.2.2.2.2.2.2.1, also hHeld.2.2.2.2.2.2.2.2.2.2.2.2 bw26⟩ | exact ⟨cell_on bw25 hHeld.1, cell_on bw25 hHeld.2.1, cell_on bw25 hHeld.2.2.1, cell_on bw25 hHeld.2.2.2.1, cell_on bw25 hHeld.2.2.2.2.1, cell_on bw25 hHeld.2.2.2.2.2.1, cell_on bw25 hHeld.2.2.2.2.2.2.1, cell_on bw25 hHeld.2.2.2.2.2.2.2.1, cell_on bw25 hHeld.2.2.2.2.2.2.2.2.1, cell_on bw25 hHeld.2.2.2.2.2.2.2.2.2.1, cell_on bw25 hHeld.2.2.2.2.2.2.2.2.2.2.1, cell_on bw25 hHeld.2.2.2.2.2.2.2.2.2.2.2.1, also hHeld.2.2.2.2.2.2.2.2.2.2.2.2 bw25⟩ | exact ⟨cell_on bw24 hHeld.1, cell_on bw24 hHeld.2.1, cell_on bw24 hHeld.2.2.1, cell_on bw24 hHeld.2.2.2.1, cell_on bw24 hHeld.2.2.2.2.1, cell_on bw24 hHeld.2.2.2.2.2.1, cell_on bw24 hHeld.2.2.2.2.2.2.1, cell_on bw24 hHeld.2.2.2.2.2.2.2.1, cell_on bw24 hHeld.2.2.2.2.2.2.2.2.1, cell_on bw24 hHeld.2.2.2.2.2.2.2.2.2.1, cell_on bw24 hHeld.2.2.2.2.2.2.2.2.2.2.1, cell_on bw24 hHeld.2.2.2.2.2.2.2.2.2.2.2.1, also hHeld.2.2.2.2.2.2.2.2.2.2.2.2 bw24⟩ | exact ⟨cell_on bw23 hHeld.1, cell_on bw23 hHeld.2.1, cell_on bw23 hHeld.2.2.1, cell_on bw23 hHeld.2.2.2.1, cell_on bw23 hHeld.2.2.2.2.1, cell_on bw23 hHeld.2.2.2.2.2.1, cell_on bw23 hHeld.2.2.2.2.2.2.1, cell_on bw23 hHeld.2.2.2.2.2.2.2.1, cell_on bw23 hHeld.2.2.2.2.2.2.2.2.1, cell_on bw23 hHeld.2.2.2.2.2.2.2.2.2.1, cell_on bw23 hHeld.2.2.2.2.2.2.2.2.2.2.1, cell_on bw23 hHeld.2.2.2.2.2.2.2.2.2.2.2.1, also hHeld.2.2.2.2.2.2.2.2.2.2.2.2 bw23⟩ | exact ⟨cell_on bw22 hHeld.1, cell_on bw22 hHeld.2.1, cell_on bw22 hHeld.2.2.1, cell_on bw22 hHeld.2.2.2.1, cell_on bw22 hHeld.2.2.2.2.1, cell_on bw22 hHeld.2.2.2.2.2.1, cell_on bw22 hHeld.2.2.2.2.2.2.1, cell_on bw22 hHeld.2.2.2.2.2.2.2.1, cell_on bw22 hHeld.2.2.2.2.2.2.2.2.1, cell_on bw22 hHeld.2.2.2.2.2.2.2.2.2.1, cell_on bw22 hHeld.2.2.2.2.2.2.2.2.2.2.1, cell_on bw22 hHeld.2.2.2.2.2.2.2.2.2.2.2.1, also hHeld.2.2.2.2.2.2.2.2.2.2.2.2 bw22⟩ | exact ⟨cell_on bw21 hHeld.1, cell_on bw21 hHeld.2.1, cell_on bw21 hHeld.2.2.1, cell_on bw21 hHeld.2.2.2.1, cell_on bw21 hHeld.2.2.2.2.1, cell_on bw21 hHeld.2.2.2.2.2.1, cell_on bw21 hHeld.2.2.2.2.2.2.1, cell_on bw21 hHeld.2.2.2.2.2.2.2.1, cell_on bw21 hHeld.2.2.2.2.2.2.2.2.1, cell_on bw21 hHeld.2.2.2.2.2.2.2.2.2.1, cell_on bw21 hHeld.2.2.2.2.2.2.2.2.2.2.1, cell_on bw21 hHeld.2.2.2.2.2.2.2.2.2.2.2.1, also hHeld.2.2.2.2.2.2.2.2.2.2.2.2 bw21⟩ | exact ⟨cell_on bw20 hHeld.1, cell_on bw20 hHeld.2.1, cell_on bw20 hHeld.2.2.1, cell_on bw20 hHeld.2.2.2.1, cell_on bw20 hHeld.2.2.2.2.1, cell_on bw20 hHeld.2.2.2.2.2.1, cell_on bw20 hHeld.2.2.2.2.2.2.1, cell_on bw20 hHeld.2.2.2.2.2.2.2.1, cell_on bw20 hHeld.2.2.2.2.2.2.2.2.1, cell_on bw20 hHeld.2.2.2.2.2.2.2.2.2.1, cell_on bw20 hHeld.2.2.2.2.2.2.2.2.2.2.1, cell_on bw20 hHeld.2.2.2.2.2.2.2.2.2.2.2.1, also hHeld.2.2.2.2.2.2.2.2.2.2.2.2 bw20⟩
      clear hK Kc
      have zbw21 := bw21.size
      replace BB := also BB bw21
      replace q1 := q1.below bw21
      replace q2 := q2.below bw21
      replace h7 := h7.below bw21
      replace h10 := h10.below bw21
      replace x_a := x_a.on bw21
      replace x_b := x_b.on bw21
      replace x_p := x_p.on bw21
      replace x_q := x_q.on bw21
      refine take_call (i := 11) rfl (by kernel_rfl) (fun Kc hK => ?_)
      go_simp
      (go_at_call 10; refine (qSub n11 a11 l11 c11 d11 m11 k11 TN TD m a2 m2 c2 d2 k2 g2 Y B 13 _ (h11.qi 13 (by decide) (by decide) BTN.out BTD.out) (q2.more (by decide) (by decide)) VN VD HVN.out HVD.out).mono ?_; rintro e w22 ⟨n12, a12, l12, c12, d12, m12, k12, rfl, h12, f12, j12, bw22⟩)
      refine hK.out _ _ ?_ (fun hHeld => ?_)
      · first | exact ⟨x_a.c0, x_a.c1, x_a.c2, x_b.c0, x_b.c1, x_b.c2, x_p.c0, x_p.c1, x_p.c2, x_q.c0, x_q.c1, x_q.c2, BB⟩ | exact ⟨cell_on bw27 hHeld.1, cell_on bw27 hHeld.2.1, cell_on bw27 hHeld.2.2.1, cell_on bw27 hHeld.2.2.2.1, cell_on bw27 hHeld.2.2.2.2.1, cell_on bw27 hHeld.2.2.2.2.2.1, cell_on bw27 hHeld.2.2.2.2.2.2.1, cell_on bw27 hHeld.2.2.2.2.2.2.2.1, cell_on bw27 hHeld.2.2.2.2.2.2.2.2.1, cell_on bw27 hHeld.2.2.2.2.2.2.2.2.2.1, cell_on bw27 hHeld.2.2.2.2.2.2.2.2.2.2.1, cell_on bw27 hHeld.2.2.2.2.2.2.2.2.2.2.2.1, also hHeld.2.2.2.2.2.2.2.2.2.2.2.2 bw27⟩ | exact ⟨cell_on bw26 hHeld.1, cell_on bw26 hHeld.2.1, cell_on bw26 hHeld.2.2.1, cell_on bw26 hHeld.2.2.2.1, cell_on bw26 hHeld.2.2.2.2.1, cell_on bw26 hHeld.2.2.2.2.2.1, cell_on bw26 hHeld.2.2.2.2.2.2.1, cell_on bw26 hHeld.2.2.2.2.2.2.2.1, cell_on bw26 hHeld.2.2.2.2.2.2.2.2.1, cell_on bw26 hHeld.2.2.2.2.2.2.2.2.2.1, cell_on bw26 hHeld.2.2.2.2.2.2.2.2.2.2.1, cell_on bw26 hHeld.2.2.2.2.2.2.2.2.2.2.2.1, also hHeld.2.2.2.2.2.2.2.2.2.2.2.2 bw26⟩ | exact ⟨cell_on bw25 hHeld.1, cell_on bw25 hHeld.2.1, cell_on bw25 hHeld.2.2.1, cell_on bw25 hHeld.2.2.2.1, cell_on bw25 hHeld.2.2.2.2.1, cell_on bw25 hHeld.2.2.2.2.2.1, cell_on bw25 hHeld.2.2.2.2.2.2.1, cell_on bw25 hHeld.2.2.2.2.2.2.2.1, cell_on bw25 hHeld.2.2.2.2.2.2.2.2.1, cell_on bw25 hHeld.2.2.2.2.2.2.2.2.2.1, cell_on bw25 hHeld.2.2.2.2.2.2.2.2.2.2.1, cell_on bw25 hHeld.2.2.2.2.2.2.2.2.2.2.2.1, also hHeld.2.2.2.2.2.2.2.2.2.2.2.2 bw25⟩ | exact ⟨cell_on bw24 hHeld.1, cell_on bw24 hHeld.2.1, cell_on bw24 hHeld.2.2.1, cell_on bw24 hHeld.2.2.2.1, cell_on bw24 hHeld.2.2.2.2.1, cell_on bw24 hHeld.2.2.2.2.2.1, cell_on bw24 hHeld.2.2.2.2.2.2.1, cell_on bw24 hHeld.2.2.2.2.2.2.2.1, cell_on bw24 hHeld.2.2.2.2.2.2.2.2.1, cell_on bw24 hHeld.2.2.2.2.2.2.2.2.2.1, cell_on bw24 hHeld.2.2.2.2.2.2.2.2.2.2.1, cell_on bw24 hHeld.2.2.2.2.2.2.2.2.2.2.2.1, also hHeld.2.2.2.2.2.2.2.2.2.2.2.2 bw24⟩ | exact ⟨cell_on bw23 hHeld.1, cell_on bw23 hHeld.2.1, cell_on bw23 hHeld.2.2.1, cell_on bw23 hHeld.2.2.2.1, cell_on bw23 hHeld.2.2.2.2.1, cell_on bw23 hHeld.2.2.2.2.2.1, cell_on bw23 hHeld.2.2.2.2.2.2.1, cell_on bw23 hHeld.2.2.2.2.2.2.2.1, cell_on bw23 hHeld.2.2.2.2.2.2.2.2.1, cell_on bw23 hHeld.2.2.2.2.2.2.2.2.2.1, cell_on bw23 hHeld.2.2.2.2.2.2.2.2.2.2.1, cell_on bw23 hHeld.2.2.2.2.2.2.2.2.2.2.2.1, also hHeld.2.2.2.2.2.2.2.2.2.2.2.2 bw23⟩ | exact ⟨cell_on bw22 hHeld.1, cell_on bw22 hHeld.2.1, cell_on bw22 hHeld.2.2.1, cell_on bw22 hHeld.2.2.2.1, cell_on bw22 hHeld.2.2.2.2.1, cell_on bw22 hHeld.2.2.2.2.2.1, cell_on bw22 hHeld.2.2.2.2.2.2.1, cell_on bw22 hHeld.2.2.2.2.2.2.2.1, cell_on bw22 hHeld.2.2.2.2.2.2.2.2.1, cell_on bw22 hHeld.2.2.2.2.2.2.2.2.2.1, cell_on bw22 hHeld.2.2.2.2.2.2.2.2.2.2.1, cell_on bw22 hHeld.2.2.2.2.2.2.2.2.2.2.2.1, also hHeld.2.2.2.2.2.2.2.2.2.2.2.2 bw22⟩ | exact ⟨cell_on bw21 hHeld.1, cell_on bw21 hHeld.2.1, cell_on bw21 hHeld.2.2.1, cell_on bw21 hHeld.2.2.2.1, cell_on bw21 hHeld.2.2.2.2.1, cell_on bw21 hHeld.2.2.2.2.2.1, cell_on bw21 hHeld.2.2.2.2.2.2.1, cell_on bw21 hHeld.2.2.2.2.2.2.2.1, cell_on bw21 hHeld.2.2.2.2.2.2.2.2.1, cell_on bw21 hHeld.2.2.2.2.2.2.2.2.2.1, cell_on bw21 hHeld.2.2.2.2.2.2.2.2.2.2.1, cell_on bw21 hHeld.2.2.2.2.2.2.2.2.2.2.2.1, also hHeld.2.2.2.2.2.2.2.2.2.2.2.2 bw21⟩ | exact ⟨cell_on bw20 hHeld.1, cell_on bw20 hHeld.2.1, cell_on bw20 hHeld.2.2.1, cell_on bw20 hHeld.2.2.2.1, cell_on bw20 hHeld.2.2.2.2.1, cell_on bw20 hHeld.2.2.2.2.2.1, cell_on bw20 hHeld.2.2.2.2.2.2.1, cell_on bw20 hHeld.2.2.2.2.2.2.2.1, cell_on bw20 hHeld.2.2.2.2.2.2.2.2.1, cell_on bw20 hHeld.2.2.2.2.2.2.2.2.2.1, cell_on bw20 hHeld.2.2.2.2.2.2.2.2.2.2.1, cell_on bw20 hHeld.2.2.2.2.2.2.2.2.2.2.2.1, also hHeld.2.2.2.2.2.2.2.2.2.2.2.2 bw20⟩
      clear hK Kc
      have zbw22 := bw22.size
      replace BB := also BB bw22
      replace q1 := q1.below bw22
      replace q2 := q2.below bw22
      replace h7 := h7.below bw22
      replace h10 := h10.below bw22
      replace x_a := x_a.on bw22
      replace x_b := x_b.on bw22
      replace x_p := x_p.on bw22
      replace x_q := x_q.on bw22
      replace h11 := h11.below bw22
      refine take_call (i := 13) rfl (by kernel_rfl) (fun Kc hK => ?_)
      go_simp
      (go_at_call 7; refine (qCmp n12 a12 l12 c12 d12 m12 k12 VN VD n a1 m1 c1 d1 k1 g1 X A 27 _ (h12.qi 27 (by decide) (by decide) BVN.out BVD.out) (q1.more (by decide) (by decide)) HC1.out).mono ?_; rintro e w23 ⟨rfl, bw23⟩)
      refine hK.out _ _ ?_ (fun hHeld => ?_)
      · first | exact ⟨x_a.c0, x_a.c1, x_a.c2, x_b.c0, x_b.c1, x_b.c2, x_p.c0, x_p.c1, x_p.c2, x_q.c0, x_q.c1, x_q.c2, BB⟩ | exact ⟨cell_on bw27 hHeld.1, cell_on bw27 hHeld.2.1, cell_on bw27 hHeld.2.2.1, cell_on bw27 hHeld.2.2.2.1, cell_on bw27 hHeld.2.2.2.2.1, cell_on bw27 hHeld.2.2.2.2.2.1, cell_on bw27 hHeld.2.2.2.2.2.2.1, cell_on bw27 hHeld.2.2.2.2.2.2.2.1, cell_on bw27 hHeld.2.2.2.2.2.2.2.2.1, cell_on bw27 hHeld.2.2.2.2.2.2.2.2.2.1, cell_on bw27 hHeld.2.2.2.2.2.2.2.2.2.2.1, cell_on bw27 hHeld.2.2.2.2.2.2.2.2.2.2.2.1, also hHeld.2.2.2.2.2.2.2.2.2.2.2.2 bw27⟩ | exact ⟨cell_on bw26 hHeld.1, cell_on bw26 hHeld.2.1, cell_on bw26 hHeld.2.2.1, cell_on bw26 hHeld.2.2.2.1, cell_on bw26 hHeld.2.2.2.2.1, cell_on bw26 hHeld.2.2.2.2.2.1, cell_on bw26 hHeld.2.2.2.2.2.2.1, cell_on bw26 hHeld.2.2.2.2.2.2.2.1, cell_on bw26 hHeld.2.2.2.2.2.2.2.2.1, cell_on bw26 hHeld.2.2.2.2.2.2.2.2.2.1, cell_on bw26 hHeld.2.2.2.2.2.2.2.2.2.2.1, cell_on bw26 hHeld.2.2.2.2.2.2.2.2.2.2.2.1, also hHeld.2.2.2.2.2.2.2.2.2.2.2.2 bw26⟩ | exact ⟨cell_on bw25 hHeld.1, cell_on bw25 hHeld.2.1, cell_on bw25 hHeld.2.2.1, cell_on bw25 hHeld.2.2.2.1, cell_on bw25 hHeld.2.2.2.2.1, cell_on bw25 hHeld.2.2.2.2.2.1, cell_on bw25 hHeld.2.2.2.2.2.2.1, cell_on bw25 hHeld.2.2.2.2.2.2.2.1, cell_on bw25 hHeld.2.2.2.2.2.2.2.2.1, cell_on bw25 hHeld.2.2.2.2.2.2.2.2.2.1, cell_on bw25 hHeld.2.2.2.2.2.2.2.2.2.2.1, cell_on bw25 hHeld.2.2.2.2.2.2.2.2.2.2.2.1, also hHeld.2.2.2.2.2.2.2.2.2.2.2.2 bw25⟩ | exact ⟨cell_on bw24 hHeld.1, cell_on bw24 hHeld.2.1, cell_on bw24 hHeld.2.2.1, cell_on bw24 hHeld.2.2.2.1, cell_on bw24 hHeld.2.2.2.2.1, cell_on bw24 hHeld.2.2.2.2.2.1, cell_on bw24 hHeld.2.2.2.2.2.2.1, cell_on bw24 hHeld.2.2.2.2.2.2.2.1, cell_on bw24 hHeld.2.2.2.2.2.2.2.2.1, cell_on bw24 hHeld.2.2.2.2.2.2.2.2.2.1, cell_on bw24 hHeld.2.2.2.2.2.2.2.2.2.2.1, cell_on bw24 hHeld.2.2.2.2.2.2.2.2.2.2.2.1, also hHeld.2.2.2.2.2.2.2.2.2.2.2.2 bw24⟩ | exact ⟨cell_on bw23 hHeld.1, cell_on bw23 hHeld.2.1, cell_on bw23 hHeld.2.2.1, cell_on bw23 hHeld.2.2.2.1, cell_on bw23 hHeld.2.2.2.2.1, cell_on bw23 hHeld.2.2.2.2.2.1, cell_on bw23 hHeld.2.2.2.2.2.2.1, cell_on bw23 hHeld.2.2.2.2.2.2.2.1, cell_on bw23 hHeld.2.2.2.2.2.2.2.2.1, cell_on bw23 hHeld.2.2.2.2.2.2.2.2.2.1, cell_on bw23 hHeld.2.2.2.2.2.2.2.2.2.2.1, cell_on bw23 hHeld.2.2.2.2.2.2.2.2.2.2.2.1, also hHeld.2.2.2.2.2.2.2.2.2.2.2.2 bw23⟩ | exact ⟨cell_on bw22 hHeld.1, cell_on bw22 hHeld.2.1, cell_on bw22 hHeld.2.2.1, cell_on bw22 hHeld.2.2.2.1, cell_on bw22 hHeld.2.2.2.2.1, cell_on bw22 hHeld.2.2.2.2.2.1, cell_on bw22 hHeld.2.2.2.2.2.2.1, cell_on bw22 hHeld.2.2.2.2.2.2.2.1, cell_on bw22 hHeld.2.2.2.2.2.2.2.2.1, cell_on bw22 hHeld.2.2.2.2.2.2.2.2.2.1, cell_on bw22 hHeld.2.2.2.2.2.2.2.2.2.2.1, cell_on bw22 hHeld.2.2.2.2.2.2.2.2.2.2.2.1, also hHeld.2.2.2.2.2.2.2.2.2.2.2.2 bw22⟩ | exact ⟨cell_on bw21 hHeld.1, cell_on bw21 hHeld.2.1, cell_on bw21 hHeld.2.2.1, cell_on bw21 hHeld.2.2.2.1, cell_on bw21 hHeld.2.2.2.2.1, cell_on bw21 hHeld.2.2.2.2.2.1, cell_on bw21 hHeld.2.2.2.2.2.2.1, cell_on bw21 hHeld.2.2.2.2.2.2.2.1, cell_on bw21 hHeld.2.2.2.2.2.2.2.2.1, cell_on bw21 hHeld.2.2.2.2.2.2.2.2.2.1, cell_on bw21 hHeld.2.2.2.2.2.2.2.2.2.2.1, cell_on bw21 hHeld.2.2.2.2.2.2.2.2.2.2.2.1, also hHeld.2.2.2.2.2.2.2.2.2.2.2.2 bw21⟩ | exact ⟨cell_on bw20 hHeld.1, cell_on bw20 hHeld.2.1, cell_on bw20 hHeld.2.2.1, cell_on bw20 hHeld.2.2.2.1, cell_on bw20 hHeld.2.2.2.2.1, cell_on bw20 hHeld.2.2.2.2.2.1, cell_on bw20 hHeld.2.2.2.2.2.2.1, cell_on bw20 hHeld.2.2.2.2.2.2.2.1, cell_on bw20 hHeld.2.2.2.2.2.2.2.2.1, cell_on bw20 hHeld.2.2.2.2.2.2.2.2.2.1, cell_on bw20 hHeld.2.2.2.2.2.2.2.2.2.2.1, cell_on bw20 hHeld.2.2.2.2.2.2.2.2.2.2.2.1, also hHeld.2.2.2.2.2.2.2.2.2.2.2.2 bw20⟩
      clear hK Kc
      have zbw23 := bw23.size
      replace BB := also BB bw23
      replace q1 := q1.below bw23
      replace q2 := q2.below bw23
      replace h7 := h7.below bw23
      replace h10 := h10.below bw23
      replace x_a := x_a.on bw23
      replace x_b := x_b.on bw23
      replace x_p := x_p.on bw23
      replace x_q := x_q.on bw23
      replace h11 := h11.below bw23
      replace h12 := h12.below bw23
      refine take_yes (i := 14) (v := ?vz14) rfl (by kernel_rfl) (by kernel_rfl) (by kernel_rfl) (fun _ _ _ h => h) (by rfl) (by assumption) ?hyz14 ?restz14
      case hyz14 => (intro w hSw; (try dsimp only at hSw); first | (go_simp; done) | (go_simp; with_reducible rfl))
      simp only [Act.put, List.setIfInBounds_toArray, List.set_cons_zero, List.set_cons_succ]
      refine take_yes (i := 15) (v := ?vz15) rfl (by kernel_rfl) (by kernel_rfl) (by kernel_rfl) (fun _ _ _ h => h) (by rfl) (by assumption) ?hyz15 ?restz15
      case hyz15 => (intro w hSw; (try dsimp only at hSw); first | (go_simp; done) | (go_simp; with_reducible rfl))
      simp only [Act.put, List.setIfInBounds_toArray, List.set_cons_zero, List.set_cons_succ]
      refine take_yes (i := 16) (v := ?vz16) rfl (by kernel_rfl) (by kernel_rfl) (by kernel_rfl) (fun _ _ _ h => h) (by rfl) (by assumption) ?hyz16 ?restz16
      case hyz16 => (intro w hSw; (try dsimp only at hSw); first | (go_simp; done) | (go_simp; with_reducible rfl))
      simp only [Act.put, List.setIfInBounds_toArray, List.set_cons_zero, List.set_cons_succ]
      refine take_yes (i := 17) (v := ?vz17) rfl (by kernel_rfl) (by kernel_rfl) (by kernel_rfl) (fun _ _ _ h => h) (by rfl) (by assumption) ?hyz17 ?restz17
      case hyz17 => (intro w hSw; (try dsimp only at hSw); first | (go_simp; done) | (go_simp; with_reducible rfl))
      simp only [Act.put, List.setIfInBounds_toArray, List.set_cons_zero, List.set_cons_succ]
      refine take_yes (i := 18) (v := ?vz18) rfl (by kernel_rfl) (by kernel_rfl) (by kernel_rfl) (fun _ _ _ h => h) (by rfl) (by assumption) ?hyz18 ?restz18
      case hyz18 => (intro w hSw; (try dsimp only at hSw); first | (go_simp; done) | (go_simp; with_reducible rfl))
      simp only [Act.put, List.setIfInBounds_toArray, List.set_cons_zero, List.set_cons_succ]
      refine take_call (i := 19) rfl (by kernel_rfl) (fun Kc hK => ?_)
      go_simp
      (go_at_call 7; refine (qCmp n7 a7 l7 c7 d7 m7 k7 LN LD n10 a10 l10 c10 d10 m10 k10 LN LD 26 _ h7 h10 HC2.out).mono ?_; rintro e w24 ⟨rfl, bw24⟩)
      refine hK.out _ _ ?_ (fun hHeld => ?_)
      · first | exact ⟨x_a.c0, x_a.c1, x_a.c2, x_b.c0, x_b.c1, x_b.c2, x_p.c0, x_p.c1, x_p.c2, x_q.c0, x_q.c1, x_q.c2, BB⟩ | exact ⟨cell_on bw27 hHeld.1, cell_on bw27 hHeld.2.1, cell_on bw27 hHeld.2.2.1, cell_on bw27 hHeld.2.2.2.1, cell_on bw27 hHeld.2.2.2.2.1, cell_on bw27 hHeld.2.2.2.2.2.1, cell_on bw27 hHeld.2.2.2.2.2.2.1, cell_on bw27 hHeld.2.2.2.2.2.2.2.1, cell_on bw27 hHeld.2.2.2.2.2.2.2.2.1, cell_on bw27 hHeld.2.2.2.2.2.2.2.2.2.1, cell_on bw27 hHeld.2.2.2.2.2.2.2.2.2.2.1, cell_on bw27 hHeld.2.2.2.2.2.2.2.2.2.2.2.1, also hHeld.2.2.2.2.2.2.2.2.2.2.2.2 bw27⟩ | exact ⟨cell_on bw26 hHeld.1, cell_on bw26 hHeld.2.1, cell_on bw26 hHeld.2.2.1, cell_on bw26 hHeld.2.2.2.1, cell_on bw26 hHeld.2.2.2.2.1, cell_on bw26 hHeld.2.2.2.2.2.1, cell_on bw26 hHeld.2.2.2.2.2.2.1, cell_on bw26 hHeld.2.2.2.2.2.2.2.1, cell_on bw26 hHeld.2.2.2.2.2.2.2.2.1, cell_on bw26 hHeld.2.2.2.2.2.2.2.2.2.1, cell_on bw26 hHeld.2.2.2.2.2.2.2.2.2.2.1, cell_on bw26 hHeld.2.2.2.2.2.2.2.2.2.2.2.1, also hHeld.2.2.2.2.2.2.2.2.2.2.2.2 bw26⟩ | exact ⟨cell_on bw25 hHeld.1, cell_on bw25 hHeld.2.1, cell_on bw25 hHeld.2.2.1, cell_on bw25 hHeld.2.2.2.1, cell_on bw25 hHeld.2.2.2.2.1, cell_on bw25 hHeld.2.2.2.2.2.1, cell_on bw25 hHeld.2.2.2.2.2.2.1, cell_on bw25 hHeld.2.2.2.2.2.2.2.1, cell_on bw25 hHeld.2.2.2.2.2.2.2.2.1, cell_on bw25 hHeld.2.2.2.2.2.2.2.2.2.1, cell_on bw25 hHeld.2.2.2.2.2.2.2.2.2.2.1, cell_on bw25 hHeld.2.2.2.2.2.2.2.2.2.2.2.1, also hHeld.2.2.2.2.2.2.2.2.2.2.2.2 bw25⟩ | exact ⟨cell_on bw24 hHeld.1, cell_on bw24 hHeld.2.1, cell_on bw24 hHeld.2.2.1, cell_on bw24 hHeld.2.2.2.1, cell_on bw24 hHeld.2.2.2.2.1, cell_on bw24 hHeld.2.2.2.2.2.1, cell_on bw24 hHeld.2.2.2.2.2.2.1, cell_on bw24 hHeld.2.2.2.2.2.2.2.1, cell_on bw24 hHeld.2.2.2.2.2.2.2.2.1, cell_on bw24 hHeld.2.2.2.2.2.2.2.2.2.1, cell_on bw24 hHeld.2.2.2.2.2.2.2.2.2.2.1, cell_on bw24 hHeld.2.2.2.2.2.2.2.2.2.2.2.1, also hHeld.2.2.2.2.2.2.2.2.2.2.2.2 bw24⟩ | exact ⟨cell_on bw23 hHeld.1, cell_on bw23 hHeld.2.1, cell_on bw23 hHeld.2.2.1, cell_on bw23 hHeld.2.2.2.1, cell_on bw23 hHeld.2.2.2.2.1, cell_on bw23 hHeld.2.2.2.2.2.1, cell_on bw23 hHeld.2.2.2.2.2.2.1, cell_on bw23 hHeld.2.2.2.2.2.2.2.1, cell_on bw23 hHeld.2.2.2.2.2.2.2.2.1, cell_on bw23 hHeld.2.2.2.2.2.2.2.2.2.1, cell_on bw23 hHeld.2.2.2.2.2.2.2.2.2.2.1, cell_on bw23 hHeld.2.2.2.2.2.2.2.2.2.2.2.1, also hHeld.2.2.2.2.2.2.2.2.2.2.2.2 bw23⟩ | exact ⟨cell_on bw22 hHeld.1, cell_on bw22 hHeld.2.1, cell_on bw22 hHeld.2.2.1, cell_on bw22 hHeld.2.2.2.1, cell_on bw22 hHeld.2.2.2.2.1, cell_on bw22 hHeld.2.2.2.2.2.1, cell_on bw22 hHeld.2.2.2.2.2.2.1, cell_on bw22 hHeld.2.2.2.2.2.2.2.1, cell_on bw22 hHeld.2.2.2.2.2.2.2.2.1, cell_on bw22 hHeld.2.2.2.2.2.2.2.2.2.1, cell_on bw22 hHeld.2.2.2.2.2.2.2.2.2.2.1, cell_on bw22 hHeld.2.2.2.2.2.2.2.2.2.2.2.1, also hHeld.2.2.2.2.2.2.2.2.2.2.2.2 bw22⟩ | exact ⟨cell_on bw21 hHeld.1, cell_on bw21 hHeld.2.1, cell_on bw21 hHeld.2.2.1, cell_on bw21 hHeld.2.2.2.1, cell_on bw21 hHeld.2.2.2.2.1, cell_on bw21 hHeld.2.2.2.2.2.1, cell_on bw21 hHeld.2.2.2.2.2.2.1, cell_on bw21 hHeld.2.2.2.2.2.2.2.1, cell_on bw21 hHeld.2.2.2.2.2.2.2.2.1, cell_on bw21 hHeld.2.2.2.2.2.2.2.2.2.1, cell_on bw21 hHeld.2.2.2.2.2.2.2.2.2.2.1, cell_on bw21 hHeld.2.2.2.2.2.2.2.2.2.2.2.1, also hHeld.2.2.2.2.2.2.2.2.2.2.2.2 bw21⟩ | exact ⟨cell_on bw20 hHeld.1, cell_on bw20 hHeld.2.1, cell_on bw20 hHeld.2.2.1, cell_on bw20 hHeld.2.2.2.1, cell_on bw20 hHeld.2.2.2.2.1, cell_on bw20 hHeld.2.2.2.2.2.1, cell_on bw20 hHeld.2.2.2.2.2.2.1, cell_on bw20 hHeld.2.2.2.2.2.2.2.1, cell_on bw20 hHeld.2.2.2.2.2.2.2.2.1, cell_on bw20 hHeld.2.2.2.2.2.2.2.2.2.1, cell_on bw20 hHeld.2.2.2.2.2.2.2.2.2.2.1, cell_on bw20 hHeld.2.2.2.2.2.2.2.2.2.2.2.1, also hHeld.2.2.2.2.2.2.2.2.2.2.2.2 bw20⟩
      clear hK Kc
      have zbw24 := bw24.size
      replace BB := also BB bw24
      replace q1 := q1.below bw24
      replace q2 := q2.below bw24
      replace h7 := h7.below bw24
      replace h10 := h10.below bw24
      replace x_a := x_a.on bw24
      replace x_b := x_b.on bw24
      replace x_p := x_p.on bw24
      replace x_q := x_q.on bw24
      replace h11 := h11.below bw24
      replace h12 := h12.below bw24
      refine take_yes (i := 20) (v := ?vz20) rfl (by kernel_rfl) (by kernel_rfl) (by kernel_rfl) (fun _ _ _ h => h) (by rfl) (by assumption) ?hyz20 ?restz20
      case hyz20 => (intro w hSw; (try dsimp only at hSw); first | (go_simp; done) | (go_simp; with_reducible rfl))
      simp only [Act.put, List.setIfInBounds_toArray, List.set_cons_zero, List.set_cons_succ]
      refine take_yes (i := 21) (v := ?vz21) rfl (by kernel_rfl) (by kernel_rfl) (by kernel_rfl) (fun _ _ _ h => h) (by rfl) (by assumption) ?hyz21 ?restz21
      case hyz21 => (intro w hSw; (try dsimp only at hSw); first | (go_simp; done) | (go_simp; with_reducible rfl))
      simp only [Act.put, List.setIfInBounds_toArray, List.set_cons_zero, List.set_cons_succ]
      refine take_yes (i := 22) (v := ?vz22) rfl (by kernel_rfl) (by kernel_rfl) (by kernel_rfl) (fun _ _ _ h => h) (by rfl) (by assumption) ?hyz22 ?restz22
      case hyz22 => (intro w hSw; (try dsimp only at hSw); first | (go_simp; done) | (go_simp; with_reducible rfl))
      simp only [Act.put, List.setIfInBounds_toArray, List.set_cons_zero, List.set_cons_succ]
      refine take_yes (i := 23) (v := ?vz23) rfl (by kernel_rfl) (by kernel_rfl) (by kernel_rfl) (fun _ _ _ h => h) (by rfl) (by assumption) ?hyz23 ?restz23
      case hyz23 => (intro w hSw; (try dsimp only at hSw); first | (go_simp; done) | (go_simp; with_reducible rfl))
      simp only [Act.put, List.setIfInBounds_toArray, List.set_cons_zero, List.set_cons_succ]
      refine take_yes (i := 25) (v := ?vz25) rfl (by kernel_rfl) (by kernel_rfl) (by kernel_rfl) (fun _ _ _ h => h) (by rfl) (by assumption) ?hyz25 ?restz25
      case hyz25 => (intro w hSw; (try dsimp only at hSw); first | (go_simp; done) | (go_simp; with_reducible rfl))
      simp only [Act.put, List.setIfInBounds_toArray, List.set_cons_zero, List.set_cons_succ]
      refine take_call (i := 24) rfl (by kernel_rfl) (fun Kc hK => ?_)
      go_simp
      (go_at_call 11; refine (qShow n7 a7 l7 c7 d7 m7 k7 LN LD 26 _ h7 HT.out).mono ?_; rintro e w25 ⟨rfl, bw25⟩)
      refine hK.out _ _ ?_ (fun hHeld => ?_)
      · first | exact ⟨x_a.c0, x_a.c1, x_a.c2, x_b.c0, x_b.c1, x_b.c2, x_p.c0, x_p.c1, x_p.c2, x_q.c0, x_q.c1, x_q.c2, BB⟩ | exact ⟨cell_on bw27 hHeld.1, cell_on bw27 hHeld.2.1, cell_on bw27 hHeld.2.2.1, cell_on bw27 hHeld.2.2.2.1, cell_on bw27 hHeld.2.2.2.2.1, cell_on bw27 hHeld.2.2.2.2.2.1, cell_on bw27 hHeld.2.2.2.2.2.2.1, cell_on bw27 hHeld.2.2.2.2.2.2.2.1, cell_on bw27 hHeld.2.2.2.2.2.2.2.2.1, cell_on bw27 hHeld.2.2.2.2.2.2.2.2.2.1, cell_on bw27 hHeld.2.2.2.2.2.2.2.2.2.2.1, cell_on bw27 hHeld.2.2.2.2.2.2.2.2.2.2.2.1, also hHeld.2.2.2.2.2.2.2.2.2.2.2.2 bw27⟩ | exact ⟨cell_on bw26 hHeld.1, cell_on bw26 hHeld.2.1, cell_on bw26 hHeld.2.2.1, cell_on bw26 hHeld.2.2.2.1, cell_on bw26 hHeld.2.2.2.2.1, cell_on bw26 hHeld.2.2.2.2.2.1, cell_on bw26 hHeld.2.2.2.2.2.2.1, cell_on bw26 hHeld.2.2.2.2.2.2.2.1, cell_on bw26 hHeld.2.2.2.2.2.2.2.2.1, cell_on bw26 hHeld.2.2.2.2.2.2.2.2.2.1, cell_on bw26 hHeld.2.2.2.2.2.2.2.2.2.2.1, cell_on bw26 hHeld.2.2.2.2.2.2.2.2.2.2.2.1, also hHeld.2.2.2.2.2.2.2.2.2.2.2.2 bw26⟩ | exact ⟨cell_on bw25 hHeld.1, cell_on bw25 hHeld.2.1, cell_on bw25 hHeld.2.2.1, cell_on bw25 hHeld.2.2.2.1, cell_on bw25 hHeld.2.2.2.2.1, cell_on bw25 hHeld.2.2.2.2.2.1, cell_on bw25 hHeld.2.2.2.2.2.2.1, cell_on bw25 hHeld.2.2.2.2.2.2.2.1, cell_on bw25 hHeld.2.2.2.2.2.2.2.2.1, cell_on bw25 hHeld.2.2.2.2.2.2.2.2.2.1, cell_on bw25 hHeld.2.2.2.2.2.2.2.2.2.2.1, cell_on bw25 hHeld.2.2.2.2.2.2.2.2.2.2.2.1, also hHeld.2.2.2.2.2.2.2.2.2.2.2.2 bw25⟩ | exact ⟨cell_on bw24 hHeld.1, cell_on bw24 hHeld.2.1, cell_on bw24 hHeld.2.2.1, cell_on bw24 hHeld.2.2.2.1, cell_on bw24 hHeld.2.2.2.2.1, cell_on bw24 hHeld.2.2.2.2.2.1, cell_on bw24 hHeld.2.2.2.2.2.2.1, cell_on bw24 hHeld.2.2.2.2.2.2.2.1, cell_on bw24 hHeld.2.2.2.2.2.2.2.2.1, cell_on bw24 hHeld.2.2.2.2.2.2.2.2.2.1, cell_on bw24 hHeld.2.2.2.2.2.2.2.2.2.2.1, cell_on bw24 hHeld.2.2.2.2.2.2.2.2.2.2.2.1, also hHeld.2.2.2.2.2.2.2.2.2.2.2.2 bw24⟩ | exact ⟨cell_on bw23 hHeld.1, cell_on bw23 hHeld.2.1, cell_on bw23 hHeld.2.2.1, cell_on bw23 hHeld.2.2.2.1, cell_on bw23 hHeld.2.2.2.2.1, cell_on bw23 hHeld.2.2.2.2.2.1, cell_on bw23 hHeld.2.2.2.2.2.2.1, cell_on bw23 hHeld.2.2.2.2.2.2.2.1, cell_on bw23 hHeld.2.2.2.2.2.2.2.2.1, cell_on bw23 hHeld.2.2.2.2.2.2.2.2.2.1, cell_on bw23 hHeld.2.2.2.2.2.2.2.2.2.2.1, cell_on bw23 hHeld.2.2.2.2.2.2.2.2.2.2.2.1, also hHeld.2.2.2.2.2.2.2.2.2.2.2.2 bw23⟩ | exact ⟨cell_on bw22 hHeld.1, cell_on bw22 hHeld.2.1, cell_on bw22 hHeld.2.2.1, cell_on bw22 hHeld.2.2.2.1, cell_on bw22 hHeld.2.2.2.2.1, cell_on bw22 hHeld.2.2.2.2.2.1, cell_on bw22 hHeld.2.2.2.2.2.2.1, cell_on bw22 hHeld.2.2.2.2.2.2.2.1, cell_on bw22 hHeld.2.2.2.2.2.2.2.2.1, cell_on bw22 hHeld.2.2.2.2.2.2.2.2.2.1, cell_on bw22 hHeld.2.2.2.2.2.2.2.2.2.2.1, cell_on bw22 hHeld.2.2.2.2.2.2.2.2.2.2.2.1, also hHeld.2.2.2.2.2.2.2.2.2.2.2.2 bw22⟩ | exact ⟨cell_on bw21 hHeld.1, cell_on bw21 hHeld.2.1, cell_on bw21 hHeld.2.2.1, cell_on bw21 hHeld.2.2.2.1, cell_on bw21 hHeld.2.2.2.2.1, cell_on bw21 hHeld.2.2.2.2.2.1, cell_on bw21 hHeld.2.2.2.2.2.2.1, cell_on bw21 hHeld.2.2.2.2.2.2.2.1, cell_on bw21 hHeld.2.2.2.2.2.2.2.2.1, cell_on bw21 hHeld.2.2.2.2.2.2.2.2.2.1, cell_on bw21 hHeld.2.2.2.2.2.2.2.2.2.2.1, cell_on bw21 hHeld.2.2.2.2.2.2.2.2.2.2.2.1, also hHeld.2.2.2.2.2.2.2.2.2.2.2.2 bw21⟩ | exact ⟨cell_on bw20 hHeld.1, cell_on bw20 hHeld.2.1, cell_on bw20 hHeld.2.2.1, cell_on bw20 hHeld.2.2.2.1, cell_on bw20 hHeld.2.2.2.2.1, cell_on bw20 hHeld.2.2.2.2.2.1, cell_on bw20 hHeld.2.2.2.2.2.2.1, cell_on bw20 hHeld.2.2.2.2.2.2.2.1, cell_on bw20 hHeld.2.2.2.2.2.2.2.2.1, cell_on bw20 hHeld.2.2.2.2.2.2.2.2.2.1, cell_on bw20 hHeld.2.2.2.2.2.2.2.2.2.2.1, cell_on bw20 hHeld.2.2.2.2.2.2.2.2.2.2.2.1, also hHeld.2.2.2.2.2.2.2.2.2.2.2.2 bw20⟩
      clear hK Kc
      have zbw25 := bw25.size
      replace BB := also BB bw25
      replace q1 := q1.below bw25
      replace q2 := q2.below bw25
      replace h7 := h7.below bw25
      replace h10 := h10.below bw25
      replace x_a := x_a.on bw25
      replace x_b := x_b.on bw25
      replace x_p := x_p.on bw25
      replace x_q := x_q.on bw25
      replace h11 := h11.below bw25
      replace h12 := h12.below bw25
      refine take_call (i := 26) rfl (by kernel_rfl) (fun Kc hK => ?_)
      go_simp
      (go_at_call 11; refine (qShow n10 a10 l10 c10 d10 m10 k10 LN LD 26 _ h10 HT.out).mono ?_; rintro e w26 ⟨rfl, bw26⟩)
      refine hK.out _ _ ?_ (fun hHeld => ?_)
      · first | exact ⟨x_a.c0, x_a.c1, x_a.c2, x_b.c0, x_b.c1, x_b.c2, x_p.c0, x_p.c1, x_p.c2, x_q.c0, x_q.c1, x_q.c2, BB⟩ | exact ⟨cell_on bw27 hHeld.1, cell_on bw27 hHeld.2.1, cell_on bw27 hHeld.2.2.1, cell_on bw27 hHeld.2.2.2.1, cell_on bw27 hHeld.2.2.2.2.1, cell_on bw27 hHeld.2.2.2.2.2.1, cell_on bw27 hHeld.2.2.2.2.2.2.1, cell_on bw27 hHeld.2.2.2.2.2.2.2.1, cell_on bw27 hHeld.2.2.2.2.2.2.2.2.1, cell_on bw27 hHeld.2.2.2.2.2.2.2.2.2.1, cell_on bw27 hHeld.2.2.2.2.2.2.2.2.2.2.1, cell_on bw27 hHeld.2.2.2.2.2.2.2.2.2.2.2.1, also hHeld.2.2.2.2.2.2.2.2.2.2.2.2 bw27⟩ | exact ⟨cell_on bw26 hHeld.1, cell_on bw26 hHeld.2.1, cell_on bw26 hHeld.2.2.1, cell_on bw26 hHeld.2.2.2.1, cell_on bw26 hHeld.2.2.2.2.1, cell_on bw26 hHeld.2.2.2.2.2.1, cell_on bw26 hHeld.2.2.2.2.2.2.1, cell_on bw26 hHeld.2.2.2.2.2.2.2.1, cell_on bw26 hHeld.2.2.2.2.2.2.2.2.1, cell_on bw26 hHeld.2.2.2.2.2.2.2.2.2.1, cell_on bw26 hHeld.2.2.2.2.2.2.2.2.2.2.1, cell_on bw26 hHeld.2.2.2.2.2.2.2.2.2.2.2.1, also hHeld.2.2.2.2.2.2.2.2.2.2.2.2 bw26⟩ | exact ⟨cell_on bw25 hHeld.1, cell_on bw25 hHeld.2.1, cell_on bw25 hHeld.2.2.1, cell_on bw25 hHeld.2.2.2.1, cell_on bw25 hHeld.2.2.2.2.1, cell_on bw25 hHeld.2.2.2.2.2.1, cell_on bw25 hHeld.2.2.2.2.2.2.1, cell_on bw25 hHeld.2.2.2.2.2.2.2.1, cell_on bw25 hHeld.2.2.2.2.2.2.2.2.1, cell_on bw25 hHeld.2.2.2.2.2.2.2.2.2.1, cell_on bw25 hHeld.2.2.2.2.2.2.2.2.2.2.1, cell_on bw25 hHeld.2.2.2.2.2.2.2.2.2.2.2.1, also hHeld.2.2.2.2.2.2.2.2.2.2.2.2 bw25⟩ | exact ⟨cell_on bw24 hHeld.1, cell_on bw24 hHeld.2.1, cell_on bw24 hHeld.2.2.1, cell_on bw24 hHeld.2.2.2.1, cell_on bw24 hHeld.2.2.2.2.1, cell_on bw24 hHeld.2.2.2.2.2.1, cell_on bw24 hHeld.2.2.2.2.2.2.1, cell_on bw24 hHeld.2.2.2.2.2.2.2.1, cell_on bw24 hHeld.2.2.2.2.2.2.2.2.1, cell_on bw24 hHeld.2.2.2.2.2.2.2.2.2.1, cell_on bw24 hHeld.2.2.2.2.2.2.2.2.2.2.1, cell_on bw24 hHeld.2.2.2.2.2.2.2.2.2.2.2.1, also hHeld.2.2.2.2.2.2.2.2.2.2.2.2 bw24⟩ | exact ⟨cell_on bw23 hHeld.1, cell_on bw23 hHeld.2.1, cell_on bw23 hHeld.2.2.1, cell_on bw23 hHeld.2.2.2.1, cell_on bw23 hHeld.2.2.2.2.1, cell_on bw23 hHeld.2.2.2.2.2.1, cell_on bw23 hHeld.2.2.2.2.2.2.1, cell_on bw23 hHeld.2.2.2.2.2.2.2.1, cell_on bw23 hHeld.2.2.2.2.2.2.2.2.1, cell_on bw23 hHeld.2.2.2.2.2.2.2.2.2.1, cell_on bw23 hHeld.2.2.2.2.2.2.2.2.2.2.1, cell_on bw23 hHeld.2.2.2.2.2.2.2.2.2.2.2.1, also hHeld.2.2.2.2.2.2.2.2.2.2.2.2 bw23⟩ | exact ⟨cell_on bw22 hHeld.1, cell_on bw22 hHeld.2.1, cell_on bw22 hHeld.2.2.1, cell_on bw22 hHeld.2.2.2.1, cell_on bw22 hHeld.2.2.2.2.1, cell_on bw22 hHeld.2.2.2.2.2.1, cell_on bw22 hHeld.2.2.2.2.2.2.1, cell_on bw22 hHeld.2.2.2.2.2.2.2.1, cell_on bw22 hHeld.2.2.2.2.2.2.2.2.1, cell_on bw22 hHeld.2.2.2.2.2.2.2.2.2.1, cell_on bw22 hHeld.2.2.2.2.2.2.2.2.2.2.1, cell_on bw22 hHeld.2.2.2.2.2.2.2.2.2.2.2.1, also hHeld.2.2.2.2.2.2.2.2.2.2.2.2 bw22⟩ | exact ⟨cell_on bw21 hHeld.1, cell_on bw21 hHeld.2.1, cell_on bw21 hHeld.2.2.1, cell_on bw21 hHeld.2.2.2.1, cell_on bw21 hHeld.2.2.2.2.1, cell_on bw21 hHeld.2.2.2.2.2.1, cell_on bw21 hHeld.2.2.2.2.2.2.1, cell_on bw21 hHeld.2.2.2.2.2.2.2.1, cell_on bw21 hHeld.2.2.2.2.2.2.2.2.1, cell_on bw21 hHeld.2.2.2.2.2.2.2.2.2.1, cell_on bw21 hHeld.2.2.2.2.2.2.2.2.2.2.1, cell_on bw21 hHeld.2.2.2.2.2.2.2.2.2.2.2.1, also hHeld.2.2.2.2.2.2.2.2.2.2.2.2 bw21⟩ | exact ⟨cell_on bw20 hHeld.1, cell_on bw20 hHeld.2.1, cell_on bw20 hHeld.2.2.1, cell_on bw20 hHeld.2.2.2.1, cell_on bw20 hHeld.2.2.2.2.1, cell_on bw20 hHeld.2.2.2.2.2.1, cell_on bw20 hHeld.2.2.2.2.2.2.1, cell_on bw20 hHeld.2.2.2.2.2.2.2.1, cell_on bw20 hHeld.2.2.2.2.2.2.2.2.1, cell_on bw20 hHeld.2.2.2.2.2.2.2.2.2.1, cell_on bw20 hHeld.2.2.2.2.2.2.2.2.2.2.1, cell_on bw20 hHeld.2.2.2.2.2.2.2.2.2.2.2.1, also hHeld.2.2.2.2.2.2.2.2.2.2.2.2 bw20⟩
      clear hK Kc
      have zbw26 := bw26.size
      replace BB := also BB bw26
      replace q1 := q1.below bw26
      replace q2 := q2.below bw26
      replace h7 := h7.below bw26
      replace h10 := h10.below bw26
      replace x_a := x_a.on bw26
      replace x_b := x_b.on bw26
      replace x_p := x_p.on bw26
      replace x_q := x_q.on bw26
      replace h11 := h11.below bw26
      replace h12 := h12.below bw26
      refine take_yes (i := 27) (v := ?vz27) rfl (by kernel_rfl) (by kernel_rfl) (by kernel_rfl) (fun _ _ _ h => h) (by rfl) (by assumption) ?hyz27 ?restz27
      case hyz27 => (intro w hSw; (try dsimp only at hSw); first | (go_simp; done) | (go_simp; with_reducible rfl))
      simp only [Act.put, List.setIfInBounds_toArray, List.set_cons_zero, List.set_cons_succ]
      refine take_yes (i := 28) (v := ?vz28) rfl (by kernel_rfl) (by kernel_rfl) (by kernel_rfl) (fun _ _ _ h => h) (by rfl) (by assumption) ?hyz28 ?restz28
      case hyz28 => (intro w hSw; (try dsimp only at hSw); first | (go_simp; done) | (go_simp; with_reducible rfl))
      simp only [Act.put, List.setIfInBounds_toArray, List.set_cons_zero, List.set_cons_succ]
      refine take_yes (i := 29) (v := ?vz29) rfl (by kernel_rfl) (by kernel_rfl) (by kernel_rfl) (fun _ _ _ h => h) (by rfl) (by assumption) ?hyz29 ?restz29
      case hyz29 => (intro w hSw; (try dsimp only at hSw); first | (go_simp; done) | (go_simp; with_reducible rfl))
      simp only [Act.put, List.setIfInBounds_toArray, List.set_cons_zero, List.set_cons_succ]
      refine take_call (i := 30) rfl (by kernel_rfl) (fun Kc hK => ?_)
      go_simp
      (go_at_call 12; refine (lives5_any _).mono ?_; rintro e w27 ⟨rfl, bw27⟩)
      refine hK.out _ _ ?_ (fun hHeld => ?_)
      · first | exact ⟨x_a.c0, x_a.c1, x_a.c2, x_b.c0, x_b.c1, x_b.c2, x_p.c0, x_p.c1, x_p.c2, x_q.c0, x_q.c1, x_q.c2, BB⟩ | exact ⟨cell_on bw27 hHeld.1, cell_on bw27 hHeld.2.1, cell_on bw27 hHeld.2.2.1, cell_on bw27 hHeld.2.2.2.1, cell_on bw27 hHeld.2.2.2.2.1, cell_on bw27 hHeld.2.2.2.2.2.1, cell_on bw27 hHeld.2.2.2.2.2.2.1, cell_on bw27 hHeld.2.2.2.2.2.2.2.1, cell_on bw27 hHeld.2.2.2.2.2.2.2.2.1, cell_on bw27 hHeld.2.2.2.2.2.2.2.2.2.1, cell_on bw27 hHeld.2.2.2.2.2.2.2.2.2.2.1, cell_on bw27 hHeld.2.2.2.2.2.2.2.2.2.2.2.1, also hHeld.2.2.2.2.2.2.2.2.2.2.2.2 bw27⟩ | exact ⟨cell_on bw26 hHeld.1, cell_on bw26 hHeld.2.1, cell_on bw26 hHeld.2.2.1, cell_on bw26 hHeld.2.2.2.1, cell_on bw26 hHeld.2.2.2.2.1, cell_on bw26 hHeld.2.2.2.2.2.1, cell_on bw26 hHeld.2.2.2.2.2.2.1, cell_on bw26 hHeld.2.2.2.2.2.2.2.1, cell_on bw26 hHeld.2.2.2.2.2.2.2.2.1, cell_on bw26 hHeld.2.2.2.2.2.2.2.2.2.1, cell_on bw26 hHeld.2.2.2.2.2.2.2.2.2.2.1, cell_on bw26 hHeld.2.2.2.2.2.2.2.2.2.2.2.1, also hHeld.2.2.2.2.2.2.2.2.2.2.2.2 bw26⟩ | exact ⟨cell_on bw25 hHeld.1, cell_on bw25 hHeld.2.1, cell_on bw25 hHeld.2.2.1, cell_on bw25 hHeld.2.2.2.1, cell_on bw25 hHeld.2.2.2.2.1, cell_on bw25 hHeld.2.2.2.2.2.1, cell_on bw25 hHeld.2.2.2.2.2.2.1, cell_on bw25 hHeld.2.2.2.2.2.2.2.1, cell_on bw25 hHeld.2.2.2.2.2.2.2.2.1, cell_on bw25 hHeld.2.2.2.2.2.2.2.2.2.1, cell_on bw25 hHeld.2.2.2.2.2.2.2.2.2.2.1, cell_on bw25 hHeld.2.2.2.2.2.2.2.2.2.2.2.1, also hHeld.2.2.2.2.2.2.2.2.2.2.2.2 bw25⟩ | exact ⟨cell_on bw24 hHeld.1, cell_on bw24 hHeld.2.1, cell_on bw24 hHeld.2.2.1, cell_on bw24 hHeld.2.2.2.1, cell_on bw24 hHeld.2.2.2.2.1, cell_on bw24 hHeld.2.2.2.2.2.1, cell_on bw24 hHeld.2.2.2.2.2.2.1, cell_on bw24 hHeld.2.2.2.2.2.2.2.1, cell_on bw24 hHeld.2.2.2.2.2.2.2.2.1, cell_on bw24 hHeld.2.2.2.2.2.2.2.2.2.1, cell_on bw24 hHeld.2.2.2.2.2.2.2.2.2.2.1, cell_on bw24 hHeld.2.2.2.2.2.2.2.2.2.2.2.1, also hHeld.2.2.2.2.2.2.2.2.2.2.2.2 bw24⟩ | exact ⟨cell_on bw23 hHeld.1, cell_on bw23 hHeld.2.1, cell_on bw23 hHeld.2.2.1, cell_on bw23 hHeld.2.2.2.1, cell_on bw23 hHeld.2.2.2.2.1, cell_on bw23 hHeld.2.2.2.2.2.1, cell_on bw23 hHeld.2.2.2.2.2.2.1, cell_on bw23 hHeld.2.2.2.2.2.2.2.1, cell_on bw23 hHeld.2.2.2.2.2.2.2.2.1, cell_on bw23 hHeld.2.2.2.2.2.2.2.2.2.1, cell_on bw23 hHeld.2.2.2.2.2.2.2.2.2.2.1, cell_on bw23 hHeld.2.2.2.2.2.2.2.2.2.2.2.1, also hHeld.2.2.2.2.2.2.2.2.2.2.2.2 bw23⟩ | exact ⟨cell_on bw22 hHeld.1, cell_on bw22 hHeld.2.1, cell_on bw22 hHeld.2.2.1, cell_on bw22 hHeld.2.2.2.1, cell_on bw22 hHeld.2.2.2.2.1, cell_on bw22 hHeld.2.2.2.2.2.1, cell_on bw22 hHeld.2.2.2.2.2.2.1, cell_on bw22 hHeld.2.2.2.2.2.2.2.1, cell_on bw22 hHeld.2.2.2.2.2.2.2.2.1, cell_on bw22 hHeld.2.2.2.2.2.2.2.2.2.1, cell_on bw22 hHeld.2.2.2.2.2.2.2.2.2.2.1, cell_on bw22 hHeld.2.2.2.2.2.2.2.2.2.2.2.1, also hHeld.2.2.2.2.2.2.2.2.2.2.2.2 bw22⟩ | exact ⟨cell_on bw21 hHeld.1, cell_on bw21 hHeld.2.1, cell_on bw21 hHeld.2.2.1, cell_on bw21 hHeld.2.2.2.1, cell_on bw21 hHeld.2.2.2.2.1, cell_on bw21 hHeld.2.2.2.2.2.1, cell_on bw21 hHeld.2.2.2.2.2.2.1, cell_on bw21 hHeld.2.2.2.2.2.2.2.1, cell_on bw21 hHeld.2.2.2.2.2.2.2.2.1, cell_on bw21 hHeld.2.2.2.2.2.2.2.2.2.1, cell_on bw21 hHeld.2.2.2.2.2.2.2.2.2.2.1, cell_on bw21 hHeld.2.2.2.2.2.2.2.2.2.2.2.1, also hHeld.2.2.2.2.2.2.2.2.2.2.2.2 bw21⟩ | exact ⟨cell_on bw20 hHeld.1, cell_on bw20 hHeld.2.1, cell_on bw20 hHeld.2.2.1, cell_on bw20 hHeld.2.2.2.1, cell_on bw20 hHeld.2.2.2.2.1, cell_on bw20 hHeld.2.2.2.2.2.1, cell_on bw20 hHeld.2.2.2.2.2.2.1, cell_on bw20 hHeld.2.2.2.2.2.2.2.1, cell_on bw20 hHeld.2.2.2.2.2.2.2.2.1, cell_on bw20 hHeld.2.2.2.2.2.2.2.2.2.1, cell_on bw20 hHeld.2.2.2.2.2.2.2.2.2.2.1, cell_on bw20 hHeld.2.2.2.2.2.2.2.2.2.2.2.1, also hHeld.2.2.2.2.2.2.2.2.2.2.2.2 bw20⟩
      clear hK Kc
      have zbw27 := bw27.size
      replace BB := also BB bw27
      replace q1 := q1.below bw27
      replace q2 := q2.below bw27
      replace h7 := h7.below bw27
      replace h10 := h10.below bw27
      replace x_a := x_a.on bw27
      replace x_b := x_b.on bw27
      replace x_p := x_p.on bw27
      replace x_q := x_q.on bw27
      replace h11 := h11.below bw27
      replace h12 := h12.below bw27
      refine take_yes (i := 31) (v := ?vz31) rfl (by kernel_rfl) (by kernel_rfl) (by kernel_rfl) (fun _ _ _ h => h) (by rfl) (by assumption) ?hyz31 ?restz31
      case hyz31 => (intro w hSw; (try dsimp only at hSw); first | (go_simp; done) | (go_simp; with_reducible rfl))
      simp only [Act.put, List.setIfInBounds_toArray, List.set_cons_zero, List.set_cons_succ]
      refine take_yes (i := 32) (v := ?vz32) rfl (by kernel_rfl) (by kernel_rfl) (by kernel_rfl) (fun _ _ _ h => h) (by rfl) (by assumption) ?hyz32 ?restz32
      case hyz32 => (intro w hSw; (try dsimp only at hSw); first | (go_simp; done) | (go_simp; with_reducible rfl))
      simp only [Act.put, List.setIfInBounds_toArray, List.set_cons_zero, List.set_cons_succ]
      refine wpAnyH_done (by kernel_rfl) ?_ _
      go_wp2
      go_ret
      exact ⟨rfl, BB⟩
  clear hK2
  rcases HQ.out with ⟨hy, _, _, hE⟩ | ⟨hy, _, _, hE⟩
  · subst hE
    obtain ⟨b1, b2, b3⟩ := HCq.out hy
    have HB3 : Hid _ := b3
    replace h5 := h5.qi 24 (by decide) (by decide) b1 b2
    clear b1 b2 b3 hy
    have ⟨x_a_0, x_a_1, x_a_2, x_a_3, x_a_4, x_a_5⟩ := x_a
    have ⟨x_q_0, x_q_1, x_q_2, x_q_3, x_q_4, x_q_5⟩ := x_q
    go_wp2_with (go_at_call 7; fail)
    refine (qCmp n5 a5 l5 c5 d5 m5 k5 QV QW n a1 m1 c1 d1 k1 g1 X A 24 Y1 h5 (q1.more (by decide) (by decide)) HB3.out).mono ?_
    rintro e w9 ⟨rfl, bw9⟩
    clear x_a_0 x_a_1 x_a_2 x_a_3 x_a_4 x_a_5 x_q_0 x_q_1 x_q_2 x_q_3 x_q_4 x_q_5
    have zbw9 := bw9.size
    replace BB := also BB bw9
    replace x_a := x_a.on bw9
    replace x_b := x_b.on bw9
    replace x_c := x_c.on bw9
    replace q1 := q1.below bw9
    replace q2 := q2.below bw9
    replace q3 := q3.below bw9
    replace h4 := h4.below bw9
    replace h5 := h5.below bw9
    replace x_q := x_q.on bw9
    go_wp2
    exact key _ _ _ _ _ _ _ _ _ q1 q2 q3 x_a x_b x_c BB (by omega)
  · subst hE
    clear hy
    go_wp2
    exact key _ _ _ _ _ _ _ _ _ q1 q2 q3 x_a x_b x_c BB (by omega)
theorem own : ownKnob Tryd.prog.godebug = none := by kernel_rfl
set_option maxRecDepth 100000 in
theorem lifted (os : Os) (started : os.Started) (H : Type) (enc : TypeId × Value → H) :
    ReturnsInHanded {} Tryd.checked os 3 .any (fun w args => (Rows.ratFieldsSpec.pre enc Tryd.prog Tryd.f3 [] false w args ∧ laidMetH Tryd.prog Rows.ratFieldsRow.laid w) ∧ sizedMet enc Tryd.prog Tryd.f3 (OpenSpec.ofChange Rows.ratFieldsSpec) false w args)
      (Rows.ratFieldsSpec.post enc Tryd.prog Tryd.f3 false true false false) := by
  refine returnsInHanded_of_change_and (C := Tryd.checked) (X := fun w _ => laidMetH Tryd.prog Rows.ratFieldsRow.laid w) (fun _ _ _ hh h => h.of_heap hh) own started (by kernel_rfl) Tryd.func3
    (ChangeSpec.witness_shaped (enc := enc) (C := Tryd.checked) (os := os) (X := fun w _ => laidMetH Tryd.prog Rows.ratFieldsRow.laid w) false (World.laidAll Tryd.prog os Rows.ratFieldsRow.laid) #[.agg #[.bool false, .slice none 0 0, .slice none 0 0], .agg #[.bool false, .slice none 0 0, .slice none 0 0], .agg #[.bool false, .slice none 0 0, .slice none 0 0]] 8 (World.laidAll_os _ _ _)
      (World.shaped_of_ZipB (by kernel_rfl) (by kernel_rfl)) (by kernel_rfl) (by kernel_rfl) (by kernel_rfl)
      (by rw [MakeChecks.laidMetH_plain _ _ _ (by kernel_rfl)]; exact laidMet_laidAll _ (by kernel_rfl) (by kernel_rfl))) ?_
  intro W base args ds gs before hval0 hW _ _ hL _
  have hval : ∀ (j : Nat) t v, Tryd.f3.params[j]? = some t → args[j]? = some v → Value.okWide Tryd.prog W .any base t v := hval0
  have hW' := hW
  obtain ⟨p, q, hA0, hV, rfl, hfz, hnd⟩ := hW
  have hA : DataW.TrodAll enc Tryd.prog W 0 (fun _ => true) true Tryd.f3.params.toList args.toList ds p := hA0
  rw [Tryd.params3] at hA hval
  obtain ⟨v0, vs0, d0, ds0, p0, q0, hargs, rfl, rfl, h0, r0⟩ := trodAll_cons hA
  obtain ⟨v1, vs1, d1, ds1, p1, q1, rfl, rfl, rfl, h1, r1⟩ := trodAll_cons r0
  obtain ⟨v2, vs2, d2, ds2, p2, q2, rfl, rfl, rfl, h2, r2⟩ := trodAll_cons r1
  obtain ⟨rfl, rfl, rfl⟩ := trodAll_nil r2
  obtain rfl : args = #[v0, v1, v2] := by cases args; simp_all
  obtain ⟨rfl, rfl⟩ := trodVars_none hV
  have hlt : ∀ x ∈ p0 ++ p1 ++ p2, x.block < W.heap.size := fun x hx => by simpa using hW'.lt x (by simpa using hx)
  have h0k := h0
  obtain ⟨n0, a0, l0, c0, u0, e0, m0, k0, x0, rfl, hu0, hs0, hx0, ht0⟩ := rat_view (hval 0 27 v0 rfl rfl) h0 (fun b o h => hfz b o (by simp [h])) (fun x hx => hlt x (by simp [hx]))
  have h1k := h1
  obtain ⟨n1, a1, l1, c1, u1, e1, m1, k1, x1, rfl, hu1, hs1, hx1, ht1⟩ := rat_view (hval 1 27 v1 rfl rfl) h1 (fun b o h => hfz b o (by simp [h])) (fun x hx => hlt x (by simp [hx]))
  have h2k := h2
  obtain ⟨n2, a2, l2, c2, u2, e2, m2, k2, x2, rfl, hu2, hs2, hx2, ht2⟩ := rat_view (hval 2 27 v2 rfl rfl) h2 (fun b o h => hfz b o (by simp [h])) (fun x hx => hlt x (by simp [hx]))
  clear hA0 hval0
  refine (walk n0 a0 l0 c0 u0 e0 m0 k0 x0 n1 a1 l1 c1 u1 e1 m1 k1 x1 n2 a2 l2 c2 u2 e2 m2 k2 x2 W hs0 hu0 ht0 hx0 hs1 hu1 ht1 hx1 hs2 hu2 ht2 hx2).mono fun e W' ⟨he, bel⟩ => ?_
  subst he
  exact ⟨_, rfl, _, _, _, [], _, [], hW', trodAll_mk1 (shut_bool Tryd.underlying4 _), (trodAll_cons_mk (Below.trod laidOutAll (by kernel_rfl) (of_decide_eq_true (by kernel_rfl)) h0k bel (fun x hx => hlt x (by simp [hx]))) (trodAll_cons_mk (Below.trod laidOutAll (by kernel_rfl) (of_decide_eq_true (by kernel_rfl)) h1k bel (fun x hx => hlt x (by simp [hx]))) (trodAll_cons_mk (Below.trod laidOutAll (by kernel_rfl) (of_decide_eq_true (by kernel_rfl)) h2k bel (fun x hx => hlt x (by simp [hx]))) trodAll_mk0))), rfl, bel.frame _, fun h => by cases h⟩

theorem said : Rows.RatFieldsSaid :=
  OpenClaim.holds_of_wide 3 Tryd.f3 rfl rfl rfl rfl rfl rfl rfl ⟨rfl, rfl, rfl, rfl, rfl⟩ rfl rfl rfl rfl rfl (by kernel_rfl) Tryd.func3 (by kernel_rfl)
    (of_decide_eq_true (by kernel_rfl)) (by unfold Func.isWrapper; first | (rw [if_pos (by decide +kernel)]; kernel_rfl) | (rw [if_neg (by decide +kernel)]; exact ⟨rfl, rfl⟩))
    (fun os started H enc _ => lifted os started H enc)
/-- The program's own looks are off, and no parameter wants a stand-in: what the card asks. -/
theorem plain (f : FuncId) (fn : Func) (hf : Tryd.pinned.checked.prog.funcNamed "zellige/zelligelaw05.RatFields" = some f) (hfn : Tryd.pinned.checked.prog.funcs[f]? = some fn) :
    false = Tryd.pinned.checked.prog.looks [] ∧ ∀ (j : Nat) t, fn.params[j]? = some t → Tryd.pinned.checked.prog.wantsStandIn t = false := by
  obtain rfl : f = 3 := Option.some.inj ((show Tryd.prog.funcNamed "zellige/zelligelaw05.RatFields" = some 3 by kernel_rfl).symm.trans hf) |>.symm
  obtain rfl : fn = Tryd.f3 := (Option.some.inj (Tryd.func3.symm.trans hfn)).symm
  refine ⟨by kernel_rfl, fun j t ht => ?_⟩
  rw [Tryd.params3] at ht
  have hm : t ∈ [27, 27, 27] := by simpa using Array.mem_of_getElem? ht
  have hall : ([27, 27, 27].all fun u => !Tryd.prog.wantsStandIn u) = true := by kernel_rfl
  exact (show Tryd.prog.wantsStandIn t = false by simpa using List.all_eq_true.1 hall t hm)
/-- The statement: the card. -/
theorem proved : Rows.RatFieldsCardSaid :=
  Claim7.holds_tied_plain_at .later [] _ _ _ _ said (fun _ h => by cases h) (by kernel_rfl) (fun _ h => by cases h) ratFields_row_tie rfl ⟨rfl, rfl⟩ (by kernel_rfl) rfl plain (by kernel_rfl)
#print axioms proved
end rfields
end Go.Proofs.YtaekgomplkkocabDoor
