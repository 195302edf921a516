/-
  Joined texts, part 3:
  What package whole's Floor answers.
  Points over a torus: which can be, where they lie, in which order. It imports nothing of the program.
  Blocks of three and of four cells: what they hold, and that they can be written.
  Blocks of two to four cells, made one behind the other, and what they hold behind a store into another. It imports nothing of the program.
  What package whole's Cmp answers.
  What package whole's Small answers.
  What package lift's Can, Sum, Less, Cmp answer, and what they call.
  What package lift's At and Home answer, and the laws' own look.
-/
import Derived.Test.YtnhoaopmnoilbaaP2
namespace Go.Proofs.Ytnhoaopmnoilbaa
open Go.RowKit
set_option linter.unusedVariables false

/-- The greatest whole number that is not above a quotient, and what is left. -/
def flQ (x y : Int) : Int := x.sign * y.sign * ((x.natAbs / y.natAbs : Nat) : Int) - (if x.sign * y.sign < 0 ∧ x.natAbs % y.natAbs ≠ 0 then 1 else 0)
def flR (x y : Int) : Int := x - flQ x y * y
theorem sgz_sign (n : Bool) (u : Nat) : (sgz n u).sign = if u = 0 then 0 else if n then -1 else 1 := by
  unfold sgz
  by_cases h : u = 0
  · subst h; cases n <;> simp
  · rw [if_neg h]
    cases n
    · simp only [Bool.false_eq_true, if_false]; exact Int.sign_eq_one_of_pos (by omega)
    · simp only [if_true]; exact Int.sign_eq_neg_one_of_neg (by omega)
theorem fl_more (n m : Bool) (u v : Nat) (hv : 0 < v) (hnm : n ≠ m) (hR : 0 < u % v) : flQ (sgz n u) (sgz m v) = sgz true (u / v + 1) ∧ flR (sgz n u) (sgz m v) = sgz m (v - u % v) := by
  have hu : u ≠ 0 := by rintro rfl; simp at hR
  have hv' : v ≠ 0 := by omega
  have hlt := Nat.mod_lt u hv
  have e : (u : Int) = v * (u / v : Nat) + (u % v : Nat) := by rw [← Int.natCast_mul, ← Int.natCast_add, Nat.div_add_mod]
  have hQ : flQ (sgz n u) (sgz m v) = sgz true (u / v + 1) := by
    unfold flQ
    rw [sgz_sign, sgz_sign, sgz_abs, sgz_abs, if_neg hu, if_neg hv']
    have hR' : u % v ≠ 0 := by omega
    cases n <;> cases m
    · exact absurd rfl hnm
    · simp only [Bool.false_eq_true, if_false, if_true, sgz]
      rw [if_pos ⟨by decide, hR'⟩]
      omega
    · simp only [Bool.false_eq_true, if_false, if_true, sgz]
      rw [if_pos ⟨by decide, hR'⟩]
      omega
    · exact absurd rfl hnm
  refine ⟨hQ, ?_⟩
  unfold flR
  rw [hQ]
  have es : ((v - u % v : Nat) : Int) = v - (u % v : Nat) := Int.ofNat_sub (by omega)
  have ea : ((u / v + 1 : Nat) : Int) = (u / v : Nat) + 1 := by simp
  clear hQ
  unfold sgz
  rw [es, ea]
  clear es ea hlt hR
  generalize ((u / v : Nat) : Int) = Q at e ⊢
  generalize ((u % v : Nat) : Int) = R at e ⊢
  cases n <;> cases m
  · exact absurd rfl hnm
  · simp only [Bool.false_eq_true, if_false, if_true]; rw [e]; grind
  · simp only [Bool.false_eq_true, if_false, if_true]; rw [e]; grind
  · exact absurd rfl hnm
theorem fl_less (n m : Bool) (u v : Nat) (hv : 0 < v) (h : ¬ (n ≠ m ∧ 0 < u % v)) : flQ (sgz n u) (sgz m v) = sgz (n != m) (u / v) ∧ flR (sgz n u) (sgz m v) = sgz m (u % v) := by
  have hv' : v ≠ 0 := by omega
  have hlt := Nat.mod_lt u hv
  by_cases hu : u = 0
  · subst hu
    unfold flR flQ
    rw [sgz_sign, sgz_sign, sgz_abs, sgz_abs]
    cases n <;> cases m <;> simp [sgz]
  have e : (u : Int) = v * (u / v : Nat) + (u % v : Nat) := by rw [← Int.natCast_mul, ← Int.natCast_add, Nat.div_add_mod]
  have hQ : flQ (sgz n u) (sgz m v) = sgz (n != m) (u / v) := by
    unfold flQ
    rw [sgz_sign, sgz_sign, sgz_abs, sgz_abs, if_neg hu, if_neg hv']
    cases n <;> cases m
    · simp only [Bool.false_eq_true, if_false, sgz, bne_self_eq_false]
      rw [if_neg (by rintro ⟨h, _⟩; exact absurd h (by decide))]
      omega
    · have hR : u % v = 0 := by
        rcases Nat.eq_zero_or_pos (u % v) with z | z
        · exact z
        · exact absurd ⟨by decide, z⟩ h
      simp only [Bool.false_eq_true, if_false, if_true, sgz, show (false != true) = true from rfl]
      rw [if_neg (by rintro ⟨_, h⟩; exact h hR)]
      omega
    · have hR : u % v = 0 := by
        rcases Nat.eq_zero_or_pos (u % v) with z | z
        · exact z
        · exact absurd ⟨by decide, z⟩ h
      simp only [Bool.false_eq_true, if_false, if_true, sgz, show (true != false) = true from rfl]
      rw [if_neg (by rintro ⟨_, h⟩; exact h hR)]
      omega
    · simp only [Bool.false_eq_true, if_false, if_true, sgz, bne_self_eq_false]
      rw [if_neg (by rintro ⟨h, _⟩; exact absurd h (by decide))]
      omega
  refine ⟨hQ, ?_⟩
  unfold flR
  rw [hQ]
  have hR0 : n ≠ m → ((u % v : Nat) : Int) = 0 := fun hn => by
    rcases Nat.eq_zero_or_pos (u % v) with z | z
    · rw [z]; rfl
    · exact absurd ⟨hn, z⟩ h
  clear hQ h hlt
  unfold sgz
  generalize ((u / v : Nat) : Int) = Q at e ⊢
  generalize ((u % v : Nat) : Int) = R at e hR0 ⊢
  cases n <;> cases m
  · simp only [Bool.false_eq_true, if_false, bne_self_eq_false]; rw [e]; grind
  · have := hR0 (by decide); simp only [Bool.false_eq_true, if_false, if_true, show (false != true) = true from rfl]; rw [e]; grind
  · have := hR0 (by decide); simp only [Bool.false_eq_true, if_false, if_true, show (true != false) = true from rfl]; rw [e]; grind
  · simp only [Bool.false_eq_true, if_false, if_true, bne_self_eq_false]; rw [e]; grind

theorem ND.drew {w : World} {a : Option Addr} {l c u : Nat} (h : ND w a l c u) : ND w.drew a l c u := h.below ((Below.refl _ _).drew)
def GotFl (w : World) (q r : Int) (e : Ending) (w' : World) : Prop := ∃ (n1 : Bool) (a1 : Option Addr) (l1 c1 : Nat) (n2 : Bool) (a2 : Option Addr) (l2 c2 : Nat), e = .returned (.tuple #[.agg #[.bool n1, .slice a1 l1 c1], .agg #[.bool n2, .slice a2 l2 c2], .int .i64 0]) ∧
  WN w' n1 a1 l1 c1 q ∧ WN w' n2 a2 l2 c2 r ∧ Far w.heap.size a1 l1 ∧ Far w.heap.size a2 l2 ∧ Below w.heap.size w w'
theorem box3 (w : World) (x1 y1 x2 y2 z1 z2 s1 s2 : Value) (t1 t2 t3 t4 : TypeId) : ∃ W, W = (((w.alloc (.cells #[x1, y1] t1)).alloc (.cells #[x2, y2] t2)).alloc (.cells #[z1, z2] t3)).alloc (.cells #[s1, s2] t4) ∧ Below w.heap.size w W ∧ Bx W w.heap.size x1 y1 ∧ Bx W (w.heap.size + 1) x2 y2 ∧ Bx W (w.heap.size + 1 + 1) z1 z2 ∧ Bx W (w.heap.size + 1 + 1 + 1) s1 s2 ∧ w.heap.size + 1 + 1 + 1 < W.heap.size := by
  obtain ⟨h1, h2, h3, h4, h5⟩ := box2 w x1 y1 x2 y2 z1 z2 t1 t2 t3
  have hb := (Below.refl (((w.alloc (.cells #[x1, y1] t1)).alloc (.cells #[x2, y2] t2)).alloc (.cells #[z1, z2] t3)).heap.size (((w.alloc (.cells #[x1, y1] t1)).alloc (.cells #[x2, y2] t2)).alloc (.cells #[z1, z2] t3))).alloc (Nat.le_refl _) (.cells #[s1, s2] t4)
  have h6 := bx_new (((w.alloc (.cells #[x1, y1] t1)).alloc (.cells #[x2, y2] t2)).alloc (.cells #[z1, z2] t3)) s1 s2 t4
  rw [World.size_alloc, World.size_alloc, World.size_alloc] at h6
  exact ⟨_, rfl, also h1 hb, h2.on hb, h3.on hb, h4.on hb, h6, by simp⟩

theorem endFl {w W w6 : World} {n5 n6 : Bool} {aq ar : Option Addr} {lq cq lr cr k : Nat} {Q R : Int} (hk : w.heap.size ≤ k) (hs : k + 1 < W.heap.size) (B : Below w.heap.size w w6) (hq : WN w6 n5 aq lq cq Q) (hr : WN w6 n6 ar lr cr R) (fq : Far W.heap.size aq lq) (fr : Far W.heap.size ar lr) (u v u' v' : Value) :
    GotFl w Q R (.returned (.tuple #[.agg #[.bool n5, .slice aq lq cq], .agg #[.bool n6, .slice ar lr cr], .int .i64 0])) ((((w6.setCell ⟨k, 0, none⟩ u).setCell ⟨k, 1, none⟩ v).setCell ⟨k + 1, 0, none⟩ u').setCell ⟨k + 1, 1, none⟩ v') :=
  ⟨n5, aq, lq, cq, n6, ar, lr, cr, rfl, (hq.put2 (fq k (by omega)) u v).put2 (fq (k + 1) hs) u' v', (hr.put2 (fr k (by omega)) u v).put2 (fr (k + 1) hs) u' v', fq.mono (by omega), fr.mono (by omega), below_put2 (below_put2 B hk u v) (by omega) u' v'⟩
end Go.Proofs.Ytnhoaopmnoilbaa

namespace Go.Proofs.Ytnhoaopmnoilbaa
open Go.RowKit
set_option linter.unusedVariables false

theorem bd_i64 {x : Int} (h : (Lit.int .i64 x).wf = true) : -9223372036854775808 ≤ x ∧ x ≤ 9223372036854775807 := by
  simp [Lit.wf, IntKind.min, IntKind.max, IntKind.signed, IntKind.bits] at h
  exact ⟨by omega, by omega⟩
/-- A number that a point may have; a side that a torus may have. -/
def inC (c : Int) : Bool := decide (-1099511627776 ≤ c ∧ c ≤ 1099511627776)
def sideC (s : Int) : Bool := decide (1 ≤ s ∧ s ≤ 1099511627776)
def canC (x y : Int) : Bool := inC x && inC y
/-- Whether the point i sides to the right of x, y and k above can be. -/
def atC (x y i k s : Int) : Bool := sideC s && (canC x y && (inC (x + i * s) && inC (y + k * s)))
def homeC (x y s : Int) : Bool := sideC s && canC x y
/-- Which of two points stands ahead. -/
def cmpP (x y z t : Int) : Int := if x = z then cmpI y t else cmpI x z
theorem inC_true {c : Int} : inC c = true ↔ (-1099511627776 ≤ c ∧ c ≤ 1099511627776) := by unfold inC; exact decide_eq_true_iff
theorem inC_false {c : Int} : inC c = false ↔ ¬(-1099511627776 ≤ c ∧ c ≤ 1099511627776) := by unfold inC; exact decide_eq_false_iff_not
theorem sideC_true {s : Int} : sideC s = true ↔ (1 ≤ s ∧ s ≤ 1099511627776) := by unfold sideC; exact decide_eq_true_iff
theorem sideC_false {s : Int} : sideC s = false ↔ ¬(1 ≤ s ∧ s ≤ 1099511627776) := by unfold sideC; exact decide_eq_false_iff_not
theorem canC_true {x y : Int} : canC x y = true ↔ (inC x = true ∧ inC y = true) := by unfold canC; exact Bool.and_eq_true_iff
theorem atC_true {x y i k s : Int} : atC x y i k s = true ↔ (sideC s = true ∧ canC x y = true ∧ inC (x + i * s) = true ∧ inC (y + k * s) = true) := by unfold atC; rw [Bool.and_eq_true_iff, Bool.and_eq_true_iff, Bool.and_eq_true_iff]
/-- How many sides lie between the ends. -/
def reachC (i s : Int) : Bool := decide (-(2199023255552 / s) ≤ i ∧ i ≤ 2199023255552 / s)
theorem reach_prod {i s : Int} (hs : sideC s = true) (h : reachC i s = true) : -2199023255552 ≤ i * s ∧ i * s ≤ 2199023255552 := by
  obtain ⟨s1, s2⟩ := sideC_true.1 hs
  obtain ⟨h1, h2⟩ := decide_eq_true_iff.1 h
  have e := Int.mul_ediv_add_emod 2199023255552 s
  have m := Int.emod_nonneg 2199023255552 (b := s) (by omega)
  have p1 : i * s ≤ 2199023255552 / s * s := Int.mul_le_mul_of_nonneg_right h2 (by omega)
  have p2 : -(2199023255552 / s) * s ≤ i * s := Int.mul_le_mul_of_nonneg_right h1 (by omega)
  rw [Int.neg_mul] at p2
  rw [Int.mul_comm] at e
  exact ⟨by omega, by omega⟩
theorem reach_in {x i s : Int} (hs : sideC s = true) (hx : inC x = true) (h : inC (x + i * s) = true) : reachC i s = true := by
  obtain ⟨s1, s2⟩ := sideC_true.1 hs
  obtain ⟨x1, x2⟩ := inC_true.1 hx
  obtain ⟨h1, h2⟩ := inC_true.1 h
  refine decide_eq_true_iff.2 ⟨?_, ?_⟩
  · have : -i ≤ 2199023255552 / s := (Int.le_ediv_iff_mul_le (by omega)).2 (by rw [Int.neg_mul]; omega)
    omega
  · exact (Int.le_ediv_iff_mul_le (by omega)).2 (by omega)
theorem wrap_in {x : Int} (h1 : -9223372036854775808 ≤ x) (h2 : x ≤ 9223372036854775807) : wrap64 x = x := by unfold wrap64; omega
theorem wrap_i64 (x : Int) : IntKind.i64.wrap x = wrap64 x := by unfold wrap64; simp [IntKind.wrap, IntKind.signed, IntKind.bits]; try omega
theorem tdiv_big {s : Int} (hs : 0 < s) : (2199023255552 : Int).tdiv s = 2199023255552 / s := Int.tdiv_eq_ediv_of_nonneg (by decide)
/-- The quotient towards nought and its rest, mended. -/
theorem fold_neg {c s : Int} (hs : 0 < s) (h : c.tmod s < 0) : c.tmod s + s = c % s ∧ c.tdiv s - 1 = c / s := by
  have e := Int.mul_tdiv_add_tmod c s
  have l := Int.lt_tmod_of_pos c hs
  have u : (c.tdiv s - 1) = c / s := by
    refine ((Int.ediv_emod_unique hs (a := c) (r := c.tmod s + s) (q := c.tdiv s - 1)).2 ⟨?_, by omega, by omega⟩).1.symm
    rw [Int.mul_sub, Int.mul_one]; omega
  refine ⟨?_, u⟩
  exact ((Int.ediv_emod_unique hs (a := c) (r := c.tmod s + s) (q := c.tdiv s - 1)).2 ⟨by rw [Int.mul_sub, Int.mul_one]; omega, by omega, by omega⟩).2.symm
theorem fold_pos {c s : Int} (hs : 0 < s) (h : ¬ c.tmod s < 0) : c.tmod s = c % s ∧ c.tdiv s = c / s := by
  have e := Int.mul_tdiv_add_tmod c s
  have l := Int.tmod_lt_of_pos c hs
  have := (Int.ediv_emod_unique hs (a := c) (r := c.tmod s) (q := c.tdiv s)).2 ⟨by omega, by omega, by omega⟩
  exact ⟨this.2.symm, this.1.symm⟩
theorem flQ_ediv (x s : Int) (hs : 0 < s) : flQ x s = x / s ∧ flR x s = x % s := by
  obtain ⟨D, rfl⟩ := Int.eq_ofNat_of_zero_le (Int.le_of_lt hs)
  have hD : 0 < D := by omega
  have key : flQ x D * D ≤ x ∧ x < flQ x D * D + D := by
    have e := Nat.div_add_mod x.natAbs D
    have hr := Nat.mod_lt x.natAbs hD
    unfold flQ
    rw [Int.natAbs_natCast, Int.sign_natCast_of_ne_zero (by omega), Int.mul_one]
    generalize hq : x.natAbs / D = q at e ⊢
    generalize hm : x.natAbs % D = r at e hr ⊢
    have e2 : (x.natAbs : Int) = (q : Int) * D + r := by rw [← e, Nat.mul_comm]; simp
    clear hq hm e
    generalize hp : (q : Int) * D = p at e2
    rcases Int.lt_trichotomy x 0 with h | h | h
    · rw [Int.sign_eq_neg_one_of_neg h]
      by_cases h0 : r = 0
      · rw [if_neg (by omega), Int.sub_zero, Int.neg_mul, Int.one_mul, Int.neg_mul, hp]; omega
      · rw [if_pos (by omega), Int.sub_mul, Int.one_mul, Int.neg_mul, Int.one_mul, Int.neg_mul, hp]; omega
    · subst h; rw [Int.sign_zero, if_neg (by omega), Int.sub_zero, Int.zero_mul, Int.zero_mul]; omega
    · rw [Int.sign_eq_one_of_pos h, if_neg (by omega), Int.sub_zero, Int.one_mul, hp]; omega
  have := (Int.ediv_emod_unique hs (a := x) (r := flR x D) (q := flQ x D)).2 ⟨by unfold flR; rw [Int.mul_comm]; omega, by unfold flR; omega, by unfold flR; omega⟩
  exact ⟨this.1.symm, this.2.symm⟩
theorem cmpP_moved (x y z t a b : Int) : cmpP (x + a) (y + b) (z + a) (t + b) = cmpP x y z t := by
  unfold cmpP cmpI; split <;> split <;> (try split) <;> (try split) <;> (try split) <;> (try split) <;> omega
theorem cmpP_turn (x y z t : Int) : cmpP z t x y = -cmpP x y z t := by
  unfold cmpP cmpI; split <;> split <;> (try split) <;> (try split) <;> (try split) <;> (try split) <;> omega
theorem cmpP_small (x y z t : Int) : -1 ≤ cmpP x y z t ∧ cmpP x y z t ≤ 1 := by
  unfold cmpP cmpI; split <;> split <;> (try split) <;> omega
end Go.Proofs.Ytnhoaopmnoilbaa

namespace Go.Proofs.Ytnhoaopmnoilbaa
open Go.RowKit
set_option linter.unusedVariables false

theorem cell_lt {w : World} {p : Addr} {v : Value} (h : w.cell? p = some v) : p.block < w.heap.size := by
  refine Nat.lt_of_not_le fun hle => ?_
  unfold World.cell? at h
  rw [Array.getElem?_eq_none hle] at h
  simp at h
theorem cell_far {w w' : World} {b g i : Nat} {v : Value} (h : w.cell? ⟨b, i, none⟩ = some v) (hg : w.grownBy w' (some g)) (hne : b ≠ g) : w'.cell? ⟨b, i, none⟩ = some v :=
  (hg.cell_far ⟨b, i, none⟩ (cell_lt h) (by simpa using hne)).trans h
theorem free_far {w w' : World} {b g i : Nat} {v : Value} (h : w.cell? ⟨b, i, none⟩ = some v) (hf : w.frozen? ⟨b, i, none⟩ = false) (hg : w.grownBy w' (some g)) (hne : b ≠ g) : w'.frozen? ⟨b, i, none⟩ = false :=
  (hg.frozen_far ⟨b, i, none⟩ (cell_lt h) (by simpa using hne)).trans hf
/-- A block of 3 cells. -/
structure B3 (w : World) (b : Nat) (x0 x1 x2 : Value) : Prop where
  c0 : w.cell? ⟨b, 0, none⟩ = some x0
  c1 : w.cell? ⟨b, 1, none⟩ = some x1
  c2 : w.cell? ⟨b, 2, none⟩ = some x2
  f0 : w.frozen? ⟨b, 0, none⟩ = false
  f1 : w.frozen? ⟨b, 1, none⟩ = false
  f2 : w.frozen? ⟨b, 2, none⟩ = false
theorem B3.on {w w' : World} {b : Nat} {x0 x1 x2 : Value} (h : B3 w b x0 x1 x2) (hb : Below w.heap.size w w') : B3 w' b x0 x1 x2 := ⟨cell_on hb h.c0, cell_on hb h.c1, cell_on hb h.c2, free_on hb h.c0 h.f0, free_on hb h.c1 h.f1, free_on hb h.c2 h.f2⟩
theorem b3_new (w : World) (x0 x1 x2 : Value) (t : TypeId) : B3 (w.alloc (.cells #[x0, x1, x2] t)) w.heap.size x0 x1 x2 := by
  have h := Row.new w [x0, x1, x2] t
  exact ⟨h.cell 0 _ rfl, h.cell 1 _ rfl, h.cell 2 _ rfl, h.free 0 (by simp), h.free 1 (by simp), h.free 2 (by simp)⟩
theorem b3_lt {w : World} {b : Nat} {x0 x1 x2 : Value} (h : B3 w b x0 x1 x2) : b < w.heap.size := cell_lt h.c0
theorem B3.put {w : World} {b k i : Nat} {x0 x1 x2 v : Value} (h : B3 w b x0 x1 x2) (hk : k ≠ b) : B3 (w.setCell ⟨k, i, none⟩ v) b x0 x1 x2 := by
  refine ⟨?_, ?_, ?_, by rw [World.frozen?_setCell]; exact h.f0, by rw [World.frozen?_setCell]; exact h.f1, by rw [World.frozen?_setCell]; exact h.f2⟩
  · rw [World.cell?_setCell_other _ _ _ _ (by intro q; simp only [Addr.mk.injEq] at q; omega)]; exact h.c0
  · rw [World.cell?_setCell_other _ _ _ _ (by intro q; simp only [Addr.mk.injEq] at q; omega)]; exact h.c1
  · rw [World.cell?_setCell_other _ _ _ _ (by intro q; simp only [Addr.mk.injEq] at q; omega)]; exact h.c2
theorem B3.set {w : World} {b : Nat} {x0 x1 x2 u0 u1 u2 : Value} (h : B3 w b x0 x1 x2) : B3 (((w.setCell ⟨b, 0, none⟩ u0).setCell ⟨b, 1, none⟩ u1).setCell ⟨b, 2, none⟩ u2) b u0 u1 u2 := by
  refine ⟨?_, ?_, ?_, by simp only [World.frozen?_setCell]; exact h.f0, by simp only [World.frozen?_setCell]; exact h.f1, by simp only [World.frozen?_setCell]; exact h.f2⟩
  · rw [World.cell?_setCell_other _ _ _ _ (by intro q; simp only [Addr.mk.injEq] at q; omega)]; rw [World.cell?_setCell_other _ _ _ _ (by intro q; simp only [Addr.mk.injEq] at q; omega)]; have hh : _ = some x0 := h.c0
    have h1 : w.cell? ⟨b, 0, none⟩ = some x0 := by
      exact hh
    exact World.cell?_setCell_same _ _ _ h1
  · rw [World.cell?_setCell_other _ _ _ _ (by intro q; simp only [Addr.mk.injEq] at q; omega)]; have hh : _ = some x1 := h.c1
    have h1 : (w.setCell ⟨b, 0, none⟩ u0).cell? ⟨b, 1, none⟩ = some x1 := by
      rw [World.cell?_setCell_other _ _ _ _ (by intro q; simp only [Addr.mk.injEq] at q; omega)]; exact hh
    exact World.cell?_setCell_same _ _ _ h1
  · have hh : _ = some x2 := h.c2
    have h1 : ((w.setCell ⟨b, 0, none⟩ u0).setCell ⟨b, 1, none⟩ u1).cell? ⟨b, 2, none⟩ = some x2 := by
      rw [World.cell?_setCell_other _ _ _ _ (by intro q; simp only [Addr.mk.injEq] at q; omega)]; rw [World.cell?_setCell_other _ _ _ _ (by intro q; simp only [Addr.mk.injEq] at q; omega)]; exact hh
    exact World.cell?_setCell_same _ _ _ h1
theorem B3.drew {w : World} {b : Nat} {x0 x1 x2 : Value} (h : B3 w b x0 x1 x2) : B3 w.drew b x0 x1 x2 := ⟨h.c0, h.c1, h.c2, h.f0, h.f1, h.f2⟩
theorem B3.grown {w w' : World} {b g : Nat} {x0 x1 x2 : Value} (h : B3 w b x0 x1 x2) (hg : w.grownBy w' (some g)) (hne : b ≠ g) : B3 w' b x0 x1 x2 := ⟨cell_far h.c0 hg hne, cell_far h.c1 hg hne, cell_far h.c2 hg hne, free_far h.c0 h.f0 hg hne, free_far h.c1 h.f1 hg hne, free_far h.c2 h.f2 hg hne⟩
/-- A block of 4 cells. -/
structure B4 (w : World) (b : Nat) (x0 x1 x2 x3 : Value) : Prop where
  c0 : w.cell? ⟨b, 0, none⟩ = some x0
  c1 : w.cell? ⟨b, 1, none⟩ = some x1
  c2 : w.cell? ⟨b, 2, none⟩ = some x2
  c3 : w.cell? ⟨b, 3, none⟩ = some x3
  f0 : w.frozen? ⟨b, 0, none⟩ = false
  f1 : w.frozen? ⟨b, 1, none⟩ = false
  f2 : w.frozen? ⟨b, 2, none⟩ = false
  f3 : w.frozen? ⟨b, 3, none⟩ = false
theorem B4.on {w w' : World} {b : Nat} {x0 x1 x2 x3 : Value} (h : B4 w b x0 x1 x2 x3) (hb : Below w.heap.size w w') : B4 w' b x0 x1 x2 x3 := ⟨cell_on hb h.c0, cell_on hb h.c1, cell_on hb h.c2, cell_on hb h.c3, free_on hb h.c0 h.f0, free_on hb h.c1 h.f1, free_on hb h.c2 h.f2, free_on hb h.c3 h.f3⟩
theorem b4_new (w : World) (x0 x1 x2 x3 : Value) (t : TypeId) : B4 (w.alloc (.cells #[x0, x1, x2, x3] t)) w.heap.size x0 x1 x2 x3 := by
  have h := Row.new w [x0, x1, x2, x3] t
  exact ⟨h.cell 0 _ rfl, h.cell 1 _ rfl, h.cell 2 _ rfl, h.cell 3 _ rfl, h.free 0 (by simp), h.free 1 (by simp), h.free 2 (by simp), h.free 3 (by simp)⟩
theorem b4_lt {w : World} {b : Nat} {x0 x1 x2 x3 : Value} (h : B4 w b x0 x1 x2 x3) : b < w.heap.size := cell_lt h.c0
theorem B4.put {w : World} {b k i : Nat} {x0 x1 x2 x3 v : Value} (h : B4 w b x0 x1 x2 x3) (hk : k ≠ b) : B4 (w.setCell ⟨k, i, none⟩ v) b x0 x1 x2 x3 := by
  refine ⟨?_, ?_, ?_, ?_, by rw [World.frozen?_setCell]; exact h.f0, by rw [World.frozen?_setCell]; exact h.f1, by rw [World.frozen?_setCell]; exact h.f2, by rw [World.frozen?_setCell]; exact h.f3⟩
  · rw [World.cell?_setCell_other _ _ _ _ (by intro q; simp only [Addr.mk.injEq] at q; omega)]; exact h.c0
  · rw [World.cell?_setCell_other _ _ _ _ (by intro q; simp only [Addr.mk.injEq] at q; omega)]; exact h.c1
  · rw [World.cell?_setCell_other _ _ _ _ (by intro q; simp only [Addr.mk.injEq] at q; omega)]; exact h.c2
  · rw [World.cell?_setCell_other _ _ _ _ (by intro q; simp only [Addr.mk.injEq] at q; omega)]; exact h.c3
theorem B4.set {w : World} {b : Nat} {x0 x1 x2 x3 u0 u1 u2 u3 : Value} (h : B4 w b x0 x1 x2 x3) : B4 ((((w.setCell ⟨b, 0, none⟩ u0).setCell ⟨b, 1, none⟩ u1).setCell ⟨b, 2, none⟩ u2).setCell ⟨b, 3, none⟩ u3) b u0 u1 u2 u3 := by
  refine ⟨?_, ?_, ?_, ?_, by simp only [World.frozen?_setCell]; exact h.f0, by simp only [World.frozen?_setCell]; exact h.f1, by simp only [World.frozen?_setCell]; exact h.f2, by simp only [World.frozen?_setCell]; exact h.f3⟩
  · rw [World.cell?_setCell_other _ _ _ _ (by intro q; simp only [Addr.mk.injEq] at q; omega)]; rw [World.cell?_setCell_other _ _ _ _ (by intro q; simp only [Addr.mk.injEq] at q; omega)]; rw [World.cell?_setCell_other _ _ _ _ (by intro q; simp only [Addr.mk.injEq] at q; omega)]; have hh : _ = some x0 := h.c0
    have h1 : w.cell? ⟨b, 0, none⟩ = some x0 := by
      exact hh
    exact World.cell?_setCell_same _ _ _ h1
  · rw [World.cell?_setCell_other _ _ _ _ (by intro q; simp only [Addr.mk.injEq] at q; omega)]; rw [World.cell?_setCell_other _ _ _ _ (by intro q; simp only [Addr.mk.injEq] at q; omega)]; have hh : _ = some x1 := h.c1
    have h1 : (w.setCell ⟨b, 0, none⟩ u0).cell? ⟨b, 1, none⟩ = some x1 := by
      rw [World.cell?_setCell_other _ _ _ _ (by intro q; simp only [Addr.mk.injEq] at q; omega)]; exact hh
    exact World.cell?_setCell_same _ _ _ h1
  · rw [World.cell?_setCell_other _ _ _ _ (by intro q; simp only [Addr.mk.injEq] at q; omega)]; have hh : _ = some x2 := h.c2
    have h1 : ((w.setCell ⟨b, 0, none⟩ u0).setCell ⟨b, 1, none⟩ u1).cell? ⟨b, 2, none⟩ = some x2 := by
      rw [World.cell?_setCell_other _ _ _ _ (by intro q; simp only [Addr.mk.injEq] at q; omega)]; rw [World.cell?_setCell_other _ _ _ _ (by intro q; simp only [Addr.mk.injEq] at q; omega)]; exact hh
    exact World.cell?_setCell_same _ _ _ h1
  · have hh : _ = some x3 := h.c3
    have h1 : (((w.setCell ⟨b, 0, none⟩ u0).setCell ⟨b, 1, none⟩ u1).setCell ⟨b, 2, none⟩ u2).cell? ⟨b, 3, none⟩ = some x3 := by
      rw [World.cell?_setCell_other _ _ _ _ (by intro q; simp only [Addr.mk.injEq] at q; omega)]; rw [World.cell?_setCell_other _ _ _ _ (by intro q; simp only [Addr.mk.injEq] at q; omega)]; rw [World.cell?_setCell_other _ _ _ _ (by intro q; simp only [Addr.mk.injEq] at q; omega)]; exact hh
    exact World.cell?_setCell_same _ _ _ h1
theorem B4.drew {w : World} {b : Nat} {x0 x1 x2 x3 : Value} (h : B4 w b x0 x1 x2 x3) : B4 w.drew b x0 x1 x2 x3 := ⟨h.c0, h.c1, h.c2, h.c3, h.f0, h.f1, h.f2, h.f3⟩
theorem B4.grown {w w' : World} {b g : Nat} {x0 x1 x2 x3 : Value} (h : B4 w b x0 x1 x2 x3) (hg : w.grownBy w' (some g)) (hne : b ≠ g) : B4 w' b x0 x1 x2 x3 := ⟨cell_far h.c0 hg hne, cell_far h.c1 hg hne, cell_far h.c2 hg hne, cell_far h.c3 hg hne, free_far h.c0 h.f0 hg hne, free_far h.c1 h.f1 hg hne, free_far h.c2 h.f2 hg hne, free_far h.c3 h.f3 hg hne⟩
end Go.Proofs.Ytnhoaopmnoilbaa

namespace Go.Proofs.Ytnhoaopmnoilbaa
open Go.RowKit
set_option linter.unusedVariables false
theorem cell_put1 {w : World} {n k i j : Nat} {v : Value} (h : w.cell? ⟨n, i, none⟩ = some v) (hk : n ≠ k) (u : Value) : (w.setCell ⟨k, j, none⟩ u).cell? ⟨n, i, none⟩ = some v := by
  rw [World.cell?_setCell_other _ _ _ _ (by intro q; simp only [Addr.mk.injEq] at q; omega)]; exact h
theorem cell_put2 {w : World} {n k i : Nat} {x : Value} (h : w.cell? ⟨n, i, none⟩ = some x) (hk : n ≠ k) (u v : Value) : ((w.setCell ⟨k, 0, none⟩ u).setCell ⟨k, 1, none⟩ v).cell? ⟨n, i, none⟩ = some x := cell_put1 (cell_put1 h hk u) hk v
theorem cell_put3 {w : World} {n k i : Nat} {x : Value} (h : w.cell? ⟨n, i, none⟩ = some x) (hk : n ≠ k) (u v t : Value) : (((w.setCell ⟨k, 0, none⟩ u).setCell ⟨k, 1, none⟩ v).setCell ⟨k, 2, none⟩ t).cell? ⟨n, i, none⟩ = some x := cell_put1 (cell_put2 h hk u v) hk t
theorem cell_put4 {w : World} {n k i : Nat} {x : Value} (h : w.cell? ⟨n, i, none⟩ = some x) (hk : n ≠ k) (u v t s : Value) : ((((w.setCell ⟨k, 0, none⟩ u).setCell ⟨k, 1, none⟩ v).setCell ⟨k, 2, none⟩ t).setCell ⟨k, 3, none⟩ s).cell? ⟨n, i, none⟩ = some x := cell_put1 (cell_put3 h hk u v t) hk s
theorem bs_32 (w : World) (x00 x01 x02 x10 x11 : Value) (t0 t1 : TypeId) : ∃ W, W = ((w.alloc (.cells #[x00, x01, x02] t0)).alloc (.cells #[x10, x11] t1)) ∧ Below w.heap.size w W ∧ B3 W (w.heap.size) x00 x01 x02 ∧ Bx W (w.heap.size + 1) x10 x11 ∧ w.heap.size + 1 < W.heap.size := by
  have e0 : Below w.heap.size w (w.alloc (.cells #[x00, x01, x02] t0)) := (Below.refl _ _).alloc (Nat.le_refl _) _
  have h0 := b3_new w x00 x01 x02 t0
  have e1 : Below (w.alloc (.cells #[x00, x01, x02] t0)).heap.size (w.alloc (.cells #[x00, x01, x02] t0)) ((w.alloc (.cells #[x00, x01, x02] t0)).alloc (.cells #[x10, x11] t1)) := (Below.refl _ _).alloc (Nat.le_refl _) _
  have h1 := bx_new (w.alloc (.cells #[x00, x01, x02] t0)) x10 x11 t1
  rw [World.size_alloc] at h1
  exact ⟨_, rfl, also (e0) e1, (h0.on e1), h1, by simp⟩
theorem bs_23 (w : World) (x00 x01 x10 x11 x12 : Value) (t0 t1 : TypeId) : ∃ W, W = ((w.alloc (.cells #[x00, x01] t0)).alloc (.cells #[x10, x11, x12] t1)) ∧ Below w.heap.size w W ∧ Bx W (w.heap.size) x00 x01 ∧ B3 W (w.heap.size + 1) x10 x11 x12 ∧ w.heap.size + 1 < W.heap.size := by
  have e0 : Below w.heap.size w (w.alloc (.cells #[x00, x01] t0)) := (Below.refl _ _).alloc (Nat.le_refl _) _
  have h0 := bx_new w x00 x01 t0
  have e1 : Below (w.alloc (.cells #[x00, x01] t0)).heap.size (w.alloc (.cells #[x00, x01] t0)) ((w.alloc (.cells #[x00, x01] t0)).alloc (.cells #[x10, x11, x12] t1)) := (Below.refl _ _).alloc (Nat.le_refl _) _
  have h1 := b3_new (w.alloc (.cells #[x00, x01] t0)) x10 x11 x12 t1
  rw [World.size_alloc] at h1
  exact ⟨_, rfl, also (e0) e1, (h0.on e1), h1, by simp⟩
theorem bs_22 (w : World) (x00 x01 x10 x11 : Value) (t0 t1 : TypeId) : ∃ W, W = ((w.alloc (.cells #[x00, x01] t0)).alloc (.cells #[x10, x11] t1)) ∧ Below w.heap.size w W ∧ Bx W (w.heap.size) x00 x01 ∧ Bx W (w.heap.size + 1) x10 x11 ∧ w.heap.size + 1 < W.heap.size := by
  have e0 : Below w.heap.size w (w.alloc (.cells #[x00, x01] t0)) := (Below.refl _ _).alloc (Nat.le_refl _) _
  have h0 := bx_new w x00 x01 t0
  have e1 : Below (w.alloc (.cells #[x00, x01] t0)).heap.size (w.alloc (.cells #[x00, x01] t0)) ((w.alloc (.cells #[x00, x01] t0)).alloc (.cells #[x10, x11] t1)) := (Below.refl _ _).alloc (Nat.le_refl _) _
  have h1 := bx_new (w.alloc (.cells #[x00, x01] t0)) x10 x11 t1
  rw [World.size_alloc] at h1
  exact ⟨_, rfl, also (e0) e1, (h0.on e1), h1, by simp⟩
theorem bs_33 (w : World) (x00 x01 x02 x10 x11 x12 : Value) (t0 t1 : TypeId) : ∃ W, W = ((w.alloc (.cells #[x00, x01, x02] t0)).alloc (.cells #[x10, x11, x12] t1)) ∧ Below w.heap.size w W ∧ B3 W (w.heap.size) x00 x01 x02 ∧ B3 W (w.heap.size + 1) x10 x11 x12 ∧ w.heap.size + 1 < W.heap.size := by
  have e0 : Below w.heap.size w (w.alloc (.cells #[x00, x01, x02] t0)) := (Below.refl _ _).alloc (Nat.le_refl _) _
  have h0 := b3_new w x00 x01 x02 t0
  have e1 : Below (w.alloc (.cells #[x00, x01, x02] t0)).heap.size (w.alloc (.cells #[x00, x01, x02] t0)) ((w.alloc (.cells #[x00, x01, x02] t0)).alloc (.cells #[x10, x11, x12] t1)) := (Below.refl _ _).alloc (Nat.le_refl _) _
  have h1 := b3_new (w.alloc (.cells #[x00, x01, x02] t0)) x10 x11 x12 t1
  rw [World.size_alloc] at h1
  exact ⟨_, rfl, also (e0) e1, (h0.on e1), h1, by simp⟩
theorem bs_333 (w : World) (x00 x01 x02 x10 x11 x12 x20 x21 x22 : Value) (t0 t1 t2 : TypeId) : ∃ W, W = (((w.alloc (.cells #[x00, x01, x02] t0)).alloc (.cells #[x10, x11, x12] t1)).alloc (.cells #[x20, x21, x22] t2)) ∧ Below w.heap.size w W ∧ B3 W (w.heap.size) x00 x01 x02 ∧ B3 W (w.heap.size + 1) x10 x11 x12 ∧ B3 W (w.heap.size + 1 + 1) x20 x21 x22 ∧ w.heap.size + 1 + 1 < W.heap.size := by
  have e0 : Below w.heap.size w (w.alloc (.cells #[x00, x01, x02] t0)) := (Below.refl _ _).alloc (Nat.le_refl _) _
  have h0 := b3_new w x00 x01 x02 t0
  have e1 : Below (w.alloc (.cells #[x00, x01, x02] t0)).heap.size (w.alloc (.cells #[x00, x01, x02] t0)) ((w.alloc (.cells #[x00, x01, x02] t0)).alloc (.cells #[x10, x11, x12] t1)) := (Below.refl _ _).alloc (Nat.le_refl _) _
  have h1 := b3_new (w.alloc (.cells #[x00, x01, x02] t0)) x10 x11 x12 t1
  rw [World.size_alloc] at h1
  have e2 : Below ((w.alloc (.cells #[x00, x01, x02] t0)).alloc (.cells #[x10, x11, x12] t1)).heap.size ((w.alloc (.cells #[x00, x01, x02] t0)).alloc (.cells #[x10, x11, x12] t1)) (((w.alloc (.cells #[x00, x01, x02] t0)).alloc (.cells #[x10, x11, x12] t1)).alloc (.cells #[x20, x21, x22] t2)) := (Below.refl _ _).alloc (Nat.le_refl _) _
  have h2 := b3_new ((w.alloc (.cells #[x00, x01, x02] t0)).alloc (.cells #[x10, x11, x12] t1)) x20 x21 x22 t2
  rw [World.size_alloc, World.size_alloc] at h2
  exact ⟨_, rfl, also (also (e0) e1) e2, ((h0.on e1).on e2), (h1.on e2), h2, by simp⟩
theorem bs_3322 (w : World) (x00 x01 x02 x10 x11 x12 x20 x21 x30 x31 : Value) (t0 t1 t2 t3 : TypeId) : ∃ W, W = ((((w.alloc (.cells #[x00, x01, x02] t0)).alloc (.cells #[x10, x11, x12] t1)).alloc (.cells #[x20, x21] t2)).alloc (.cells #[x30, x31] t3)) ∧ Below w.heap.size w W ∧ B3 W (w.heap.size) x00 x01 x02 ∧ B3 W (w.heap.size + 1) x10 x11 x12 ∧ Bx W (w.heap.size + 1 + 1) x20 x21 ∧ Bx W (w.heap.size + 1 + 1 + 1) x30 x31 ∧ w.heap.size + 1 + 1 + 1 < W.heap.size := by
  have e0 : Below w.heap.size w (w.alloc (.cells #[x00, x01, x02] t0)) := (Below.refl _ _).alloc (Nat.le_refl _) _
  have h0 := b3_new w x00 x01 x02 t0
  have e1 : Below (w.alloc (.cells #[x00, x01, x02] t0)).heap.size (w.alloc (.cells #[x00, x01, x02] t0)) ((w.alloc (.cells #[x00, x01, x02] t0)).alloc (.cells #[x10, x11, x12] t1)) := (Below.refl _ _).alloc (Nat.le_refl _) _
  have h1 := b3_new (w.alloc (.cells #[x00, x01, x02] t0)) x10 x11 x12 t1
  rw [World.size_alloc] at h1
  have e2 : Below ((w.alloc (.cells #[x00, x01, x02] t0)).alloc (.cells #[x10, x11, x12] t1)).heap.size ((w.alloc (.cells #[x00, x01, x02] t0)).alloc (.cells #[x10, x11, x12] t1)) (((w.alloc (.cells #[x00, x01, x02] t0)).alloc (.cells #[x10, x11, x12] t1)).alloc (.cells #[x20, x21] t2)) := (Below.refl _ _).alloc (Nat.le_refl _) _
  have h2 := bx_new ((w.alloc (.cells #[x00, x01, x02] t0)).alloc (.cells #[x10, x11, x12] t1)) x20 x21 t2
  rw [World.size_alloc, World.size_alloc] at h2
  have e3 : Below (((w.alloc (.cells #[x00, x01, x02] t0)).alloc (.cells #[x10, x11, x12] t1)).alloc (.cells #[x20, x21] t2)).heap.size (((w.alloc (.cells #[x00, x01, x02] t0)).alloc (.cells #[x10, x11, x12] t1)).alloc (.cells #[x20, x21] t2)) ((((w.alloc (.cells #[x00, x01, x02] t0)).alloc (.cells #[x10, x11, x12] t1)).alloc (.cells #[x20, x21] t2)).alloc (.cells #[x30, x31] t3)) := (Below.refl _ _).alloc (Nat.le_refl _) _
  have h3 := bx_new (((w.alloc (.cells #[x00, x01, x02] t0)).alloc (.cells #[x10, x11, x12] t1)).alloc (.cells #[x20, x21] t2)) x30 x31 t3
  rw [World.size_alloc, World.size_alloc, World.size_alloc] at h3
  exact ⟨_, rfl, also (also (also (e0) e1) e2) e3, (((h0.on e1).on e2).on e3), ((h1.on e2).on e3), (h2.on e3), h3, by simp⟩
theorem bs_223 (w : World) (x00 x01 x10 x11 x20 x21 x22 : Value) (t0 t1 t2 : TypeId) : ∃ W, W = (((w.alloc (.cells #[x00, x01] t0)).alloc (.cells #[x10, x11] t1)).alloc (.cells #[x20, x21, x22] t2)) ∧ Below w.heap.size w W ∧ Bx W (w.heap.size) x00 x01 ∧ Bx W (w.heap.size + 1) x10 x11 ∧ B3 W (w.heap.size + 1 + 1) x20 x21 x22 ∧ w.heap.size + 1 + 1 < W.heap.size := by
  have e0 : Below w.heap.size w (w.alloc (.cells #[x00, x01] t0)) := (Below.refl _ _).alloc (Nat.le_refl _) _
  have h0 := bx_new w x00 x01 t0
  have e1 : Below (w.alloc (.cells #[x00, x01] t0)).heap.size (w.alloc (.cells #[x00, x01] t0)) ((w.alloc (.cells #[x00, x01] t0)).alloc (.cells #[x10, x11] t1)) := (Below.refl _ _).alloc (Nat.le_refl _) _
  have h1 := bx_new (w.alloc (.cells #[x00, x01] t0)) x10 x11 t1
  rw [World.size_alloc] at h1
  have e2 : Below ((w.alloc (.cells #[x00, x01] t0)).alloc (.cells #[x10, x11] t1)).heap.size ((w.alloc (.cells #[x00, x01] t0)).alloc (.cells #[x10, x11] t1)) (((w.alloc (.cells #[x00, x01] t0)).alloc (.cells #[x10, x11] t1)).alloc (.cells #[x20, x21, x22] t2)) := (Below.refl _ _).alloc (Nat.le_refl _) _
  have h2 := b3_new ((w.alloc (.cells #[x00, x01] t0)).alloc (.cells #[x10, x11] t1)) x20 x21 x22 t2
  rw [World.size_alloc, World.size_alloc] at h2
  exact ⟨_, rfl, also (also (e0) e1) e2, ((h0.on e1).on e2), (h1.on e2), h2, by simp⟩
theorem bs_2 (w : World) (x00 x01 : Value) (t0 : TypeId) : ∃ W, W = (w.alloc (.cells #[x00, x01] t0)) ∧ Below w.heap.size w W ∧ Bx W (w.heap.size) x00 x01 ∧ w.heap.size < W.heap.size := by
  have e0 : Below w.heap.size w (w.alloc (.cells #[x00, x01] t0)) := (Below.refl _ _).alloc (Nat.le_refl _) _
  have h0 := bx_new w x00 x01 t0
  exact ⟨_, rfl, e0, h0, by simp⟩
theorem bs_3 (w : World) (x00 x01 x02 : Value) (t0 : TypeId) : ∃ W, W = (w.alloc (.cells #[x00, x01, x02] t0)) ∧ Below w.heap.size w W ∧ B3 W (w.heap.size) x00 x01 x02 ∧ w.heap.size < W.heap.size := by
  have e0 : Below w.heap.size w (w.alloc (.cells #[x00, x01, x02] t0)) := (Below.refl _ _).alloc (Nat.le_refl _) _
  have h0 := b3_new w x00 x01 x02 t0
  exact ⟨_, rfl, e0, h0, by simp⟩
theorem bs_4 (w : World) (x00 x01 x02 x03 : Value) (t0 : TypeId) : ∃ W, W = (w.alloc (.cells #[x00, x01, x02, x03] t0)) ∧ Below w.heap.size w W ∧ B4 W (w.heap.size) x00 x01 x02 x03 ∧ w.heap.size < W.heap.size := by
  have e0 : Below w.heap.size w (w.alloc (.cells #[x00, x01, x02, x03] t0)) := (Below.refl _ _).alloc (Nat.le_refl _) _
  have h0 := b4_new w x00 x01 x02 x03 t0
  exact ⟨_, rfl, e0, h0, by simp⟩
theorem bs_34 (w : World) (x00 x01 x02 x10 x11 x12 x13 : Value) (t0 t1 : TypeId) : ∃ W, W = ((w.alloc (.cells #[x00, x01, x02] t0)).alloc (.cells #[x10, x11, x12, x13] t1)) ∧ Below w.heap.size w W ∧ B3 W (w.heap.size) x00 x01 x02 ∧ B4 W (w.heap.size + 1) x10 x11 x12 x13 ∧ w.heap.size + 1 < W.heap.size := by
  have e0 : Below w.heap.size w (w.alloc (.cells #[x00, x01, x02] t0)) := (Below.refl _ _).alloc (Nat.le_refl _) _
  have h0 := b3_new w x00 x01 x02 t0
  have e1 : Below (w.alloc (.cells #[x00, x01, x02] t0)).heap.size (w.alloc (.cells #[x00, x01, x02] t0)) ((w.alloc (.cells #[x00, x01, x02] t0)).alloc (.cells #[x10, x11, x12, x13] t1)) := (Below.refl _ _).alloc (Nat.le_refl _) _
  have h1 := b4_new (w.alloc (.cells #[x00, x01, x02] t0)) x10 x11 x12 x13 t1
  rw [World.size_alloc] at h1
  exact ⟨_, rfl, also (e0) e1, (h0.on e1), h1, by simp⟩
theorem bs_44 (w : World) (x00 x01 x02 x03 x10 x11 x12 x13 : Value) (t0 t1 : TypeId) : ∃ W, W = ((w.alloc (.cells #[x00, x01, x02, x03] t0)).alloc (.cells #[x10, x11, x12, x13] t1)) ∧ Below w.heap.size w W ∧ B4 W (w.heap.size) x00 x01 x02 x03 ∧ B4 W (w.heap.size + 1) x10 x11 x12 x13 ∧ w.heap.size + 1 < W.heap.size := by
  have e0 : Below w.heap.size w (w.alloc (.cells #[x00, x01, x02, x03] t0)) := (Below.refl _ _).alloc (Nat.le_refl _) _
  have h0 := b4_new w x00 x01 x02 x03 t0
  have e1 : Below (w.alloc (.cells #[x00, x01, x02, x03] t0)).heap.size (w.alloc (.cells #[x00, x01, x02, x03] t0)) ((w.alloc (.cells #[x00, x01, x02, x03] t0)).alloc (.cells #[x10, x11, x12, x13] t1)) := (Below.refl _ _).alloc (Nat.le_refl _) _
  have h1 := b4_new (w.alloc (.cells #[x00, x01, x02, x03] t0)) x10 x11 x12 x13 t1
  rw [World.size_alloc] at h1
  exact ⟨_, rfl, also (e0) e1, (h0.on e1), h1, by simp⟩
theorem bs_444 (w : World) (x00 x01 x02 x03 x10 x11 x12 x13 x20 x21 x22 x23 : Value) (t0 t1 t2 : TypeId) : ∃ W, W = (((w.alloc (.cells #[x00, x01, x02, x03] t0)).alloc (.cells #[x10, x11, x12, x13] t1)).alloc (.cells #[x20, x21, x22, x23] t2)) ∧ Below w.heap.size w W ∧ B4 W (w.heap.size) x00 x01 x02 x03 ∧ B4 W (w.heap.size + 1) x10 x11 x12 x13 ∧ B4 W (w.heap.size + 1 + 1) x20 x21 x22 x23 ∧ w.heap.size + 1 + 1 < W.heap.size := by
  have e0 : Below w.heap.size w (w.alloc (.cells #[x00, x01, x02, x03] t0)) := (Below.refl _ _).alloc (Nat.le_refl _) _
  have h0 := b4_new w x00 x01 x02 x03 t0
  have e1 : Below (w.alloc (.cells #[x00, x01, x02, x03] t0)).heap.size (w.alloc (.cells #[x00, x01, x02, x03] t0)) ((w.alloc (.cells #[x00, x01, x02, x03] t0)).alloc (.cells #[x10, x11, x12, x13] t1)) := (Below.refl _ _).alloc (Nat.le_refl _) _
  have h1 := b4_new (w.alloc (.cells #[x00, x01, x02, x03] t0)) x10 x11 x12 x13 t1
  rw [World.size_alloc] at h1
  have e2 : Below ((w.alloc (.cells #[x00, x01, x02, x03] t0)).alloc (.cells #[x10, x11, x12, x13] t1)).heap.size ((w.alloc (.cells #[x00, x01, x02, x03] t0)).alloc (.cells #[x10, x11, x12, x13] t1)) (((w.alloc (.cells #[x00, x01, x02, x03] t0)).alloc (.cells #[x10, x11, x12, x13] t1)).alloc (.cells #[x20, x21, x22, x23] t2)) := (Below.refl _ _).alloc (Nat.le_refl _) _
  have h2 := b4_new ((w.alloc (.cells #[x00, x01, x02, x03] t0)).alloc (.cells #[x10, x11, x12, x13] t1)) x20 x21 x22 x23 t2
  rw [World.size_alloc, World.size_alloc] at h2
  exact ⟨_, rfl, also (also (e0) e1) e2, ((h0.on e1).on e2), (h1.on e2), h2, by simp⟩
theorem bs_224 (w : World) (x00 x01 x10 x11 x20 x21 x22 x23 : Value) (t0 t1 t2 : TypeId) : ∃ W, W = (((w.alloc (.cells #[x00, x01] t0)).alloc (.cells #[x10, x11] t1)).alloc (.cells #[x20, x21, x22, x23] t2)) ∧ Below w.heap.size w W ∧ Bx W (w.heap.size) x00 x01 ∧ Bx W (w.heap.size + 1) x10 x11 ∧ B4 W (w.heap.size + 1 + 1) x20 x21 x22 x23 ∧ w.heap.size + 1 + 1 < W.heap.size := by
  have e0 : Below w.heap.size w (w.alloc (.cells #[x00, x01] t0)) := (Below.refl _ _).alloc (Nat.le_refl _) _
  have h0 := bx_new w x00 x01 t0
  have e1 : Below (w.alloc (.cells #[x00, x01] t0)).heap.size (w.alloc (.cells #[x00, x01] t0)) ((w.alloc (.cells #[x00, x01] t0)).alloc (.cells #[x10, x11] t1)) := (Below.refl _ _).alloc (Nat.le_refl _) _
  have h1 := bx_new (w.alloc (.cells #[x00, x01] t0)) x10 x11 t1
  rw [World.size_alloc] at h1
  have e2 : Below ((w.alloc (.cells #[x00, x01] t0)).alloc (.cells #[x10, x11] t1)).heap.size ((w.alloc (.cells #[x00, x01] t0)).alloc (.cells #[x10, x11] t1)) (((w.alloc (.cells #[x00, x01] t0)).alloc (.cells #[x10, x11] t1)).alloc (.cells #[x20, x21, x22, x23] t2)) := (Below.refl _ _).alloc (Nat.le_refl _) _
  have h2 := b4_new ((w.alloc (.cells #[x00, x01] t0)).alloc (.cells #[x10, x11] t1)) x20 x21 x22 x23 t2
  rw [World.size_alloc, World.size_alloc] at h2
  exact ⟨_, rfl, also (also (e0) e1) e2, ((h0.on e1).on e2), (h1.on e2), h2, by simp⟩
theorem bs_42 (w : World) (x00 x01 x02 x03 x10 x11 : Value) (t0 t1 : TypeId) : ∃ W, W = ((w.alloc (.cells #[x00, x01, x02, x03] t0)).alloc (.cells #[x10, x11] t1)) ∧ Below w.heap.size w W ∧ B4 W (w.heap.size) x00 x01 x02 x03 ∧ Bx W (w.heap.size + 1) x10 x11 ∧ w.heap.size + 1 < W.heap.size := by
  have e0 : Below w.heap.size w (w.alloc (.cells #[x00, x01, x02, x03] t0)) := (Below.refl _ _).alloc (Nat.le_refl _) _
  have h0 := b4_new w x00 x01 x02 x03 t0
  have e1 : Below (w.alloc (.cells #[x00, x01, x02, x03] t0)).heap.size (w.alloc (.cells #[x00, x01, x02, x03] t0)) ((w.alloc (.cells #[x00, x01, x02, x03] t0)).alloc (.cells #[x10, x11] t1)) := (Below.refl _ _).alloc (Nat.le_refl _) _
  have h1 := bx_new (w.alloc (.cells #[x00, x01, x02, x03] t0)) x10 x11 t1
  rw [World.size_alloc] at h1
  exact ⟨_, rfl, also (e0) e1, (h0.on e1), h1, by simp⟩
theorem bs_43 (w : World) (x00 x01 x02 x03 x10 x11 x12 : Value) (t0 t1 : TypeId) : ∃ W, W = ((w.alloc (.cells #[x00, x01, x02, x03] t0)).alloc (.cells #[x10, x11, x12] t1)) ∧ Below w.heap.size w W ∧ B4 W (w.heap.size) x00 x01 x02 x03 ∧ B3 W (w.heap.size + 1) x10 x11 x12 ∧ w.heap.size + 1 < W.heap.size := by
  have e0 : Below w.heap.size w (w.alloc (.cells #[x00, x01, x02, x03] t0)) := (Below.refl _ _).alloc (Nat.le_refl _) _
  have h0 := b4_new w x00 x01 x02 x03 t0
  have e1 : Below (w.alloc (.cells #[x00, x01, x02, x03] t0)).heap.size (w.alloc (.cells #[x00, x01, x02, x03] t0)) ((w.alloc (.cells #[x00, x01, x02, x03] t0)).alloc (.cells #[x10, x11, x12] t1)) := (Below.refl _ _).alloc (Nat.le_refl _) _
  have h1 := b3_new (w.alloc (.cells #[x00, x01, x02, x03] t0)) x10 x11 x12 t1
  rw [World.size_alloc] at h1
  exact ⟨_, rfl, also (e0) e1, (h0.on e1), h1, by simp⟩
theorem bs_222 (w : World) (x00 x01 x10 x11 x20 x21 : Value) (t0 t1 t2 : TypeId) : ∃ W, W = (((w.alloc (.cells #[x00, x01] t0)).alloc (.cells #[x10, x11] t1)).alloc (.cells #[x20, x21] t2)) ∧ Below w.heap.size w W ∧ Bx W (w.heap.size) x00 x01 ∧ Bx W (w.heap.size + 1) x10 x11 ∧ Bx W (w.heap.size + 1 + 1) x20 x21 ∧ w.heap.size + 1 + 1 < W.heap.size := by
  have e0 : Below w.heap.size w (w.alloc (.cells #[x00, x01] t0)) := (Below.refl _ _).alloc (Nat.le_refl _) _
  have h0 := bx_new w x00 x01 t0
  have e1 : Below (w.alloc (.cells #[x00, x01] t0)).heap.size (w.alloc (.cells #[x00, x01] t0)) ((w.alloc (.cells #[x00, x01] t0)).alloc (.cells #[x10, x11] t1)) := (Below.refl _ _).alloc (Nat.le_refl _) _
  have h1 := bx_new (w.alloc (.cells #[x00, x01] t0)) x10 x11 t1
  rw [World.size_alloc] at h1
  have e2 : Below ((w.alloc (.cells #[x00, x01] t0)).alloc (.cells #[x10, x11] t1)).heap.size ((w.alloc (.cells #[x00, x01] t0)).alloc (.cells #[x10, x11] t1)) (((w.alloc (.cells #[x00, x01] t0)).alloc (.cells #[x10, x11] t1)).alloc (.cells #[x20, x21] t2)) := (Below.refl _ _).alloc (Nat.le_refl _) _
  have h2 := bx_new ((w.alloc (.cells #[x00, x01] t0)).alloc (.cells #[x10, x11] t1)) x20 x21 t2
  rw [World.size_alloc, World.size_alloc] at h2
  exact ⟨_, rfl, also (also (e0) e1) e2, ((h0.on e1).on e2), (h1.on e2), h2, by simp⟩
theorem bs_332 (w : World) (x00 x01 x02 x10 x11 x12 x20 x21 : Value) (t0 t1 t2 : TypeId) : ∃ W, W = (((w.alloc (.cells #[x00, x01, x02] t0)).alloc (.cells #[x10, x11, x12] t1)).alloc (.cells #[x20, x21] t2)) ∧ Below w.heap.size w W ∧ B3 W (w.heap.size) x00 x01 x02 ∧ B3 W (w.heap.size + 1) x10 x11 x12 ∧ Bx W (w.heap.size + 1 + 1) x20 x21 ∧ w.heap.size + 1 + 1 < W.heap.size := by
  have e0 : Below w.heap.size w (w.alloc (.cells #[x00, x01, x02] t0)) := (Below.refl _ _).alloc (Nat.le_refl _) _
  have h0 := b3_new w x00 x01 x02 t0
  have e1 : Below (w.alloc (.cells #[x00, x01, x02] t0)).heap.size (w.alloc (.cells #[x00, x01, x02] t0)) ((w.alloc (.cells #[x00, x01, x02] t0)).alloc (.cells #[x10, x11, x12] t1)) := (Below.refl _ _).alloc (Nat.le_refl _) _
  have h1 := b3_new (w.alloc (.cells #[x00, x01, x02] t0)) x10 x11 x12 t1
  rw [World.size_alloc] at h1
  have e2 : Below ((w.alloc (.cells #[x00, x01, x02] t0)).alloc (.cells #[x10, x11, x12] t1)).heap.size ((w.alloc (.cells #[x00, x01, x02] t0)).alloc (.cells #[x10, x11, x12] t1)) (((w.alloc (.cells #[x00, x01, x02] t0)).alloc (.cells #[x10, x11, x12] t1)).alloc (.cells #[x20, x21] t2)) := (Below.refl _ _).alloc (Nat.le_refl _) _
  have h2 := bx_new ((w.alloc (.cells #[x00, x01, x02] t0)).alloc (.cells #[x10, x11, x12] t1)) x20 x21 t2
  rw [World.size_alloc, World.size_alloc] at h2
  exact ⟨_, rfl, also (also (e0) e1) e2, ((h0.on e1).on e2), (h1.on e2), h2, by simp⟩
theorem bs_2222 (w : World) (x00 x01 x10 x11 x20 x21 x30 x31 : Value) (t0 t1 t2 t3 : TypeId) : ∃ W, W = ((((w.alloc (.cells #[x00, x01] t0)).alloc (.cells #[x10, x11] t1)).alloc (.cells #[x20, x21] t2)).alloc (.cells #[x30, x31] t3)) ∧ Below w.heap.size w W ∧ Bx W (w.heap.size) x00 x01 ∧ Bx W (w.heap.size + 1) x10 x11 ∧ Bx W (w.heap.size + 1 + 1) x20 x21 ∧ Bx W (w.heap.size + 1 + 1 + 1) x30 x31 ∧ w.heap.size + 1 + 1 + 1 < W.heap.size := by
  have e0 : Below w.heap.size w (w.alloc (.cells #[x00, x01] t0)) := (Below.refl _ _).alloc (Nat.le_refl _) _
  have h0 := bx_new w x00 x01 t0
  have e1 : Below (w.alloc (.cells #[x00, x01] t0)).heap.size (w.alloc (.cells #[x00, x01] t0)) ((w.alloc (.cells #[x00, x01] t0)).alloc (.cells #[x10, x11] t1)) := (Below.refl _ _).alloc (Nat.le_refl _) _
  have h1 := bx_new (w.alloc (.cells #[x00, x01] t0)) x10 x11 t1
  rw [World.size_alloc] at h1
  have e2 : Below ((w.alloc (.cells #[x00, x01] t0)).alloc (.cells #[x10, x11] t1)).heap.size ((w.alloc (.cells #[x00, x01] t0)).alloc (.cells #[x10, x11] t1)) (((w.alloc (.cells #[x00, x01] t0)).alloc (.cells #[x10, x11] t1)).alloc (.cells #[x20, x21] t2)) := (Below.refl _ _).alloc (Nat.le_refl _) _
  have h2 := bx_new ((w.alloc (.cells #[x00, x01] t0)).alloc (.cells #[x10, x11] t1)) x20 x21 t2
  rw [World.size_alloc, World.size_alloc] at h2
  have e3 : Below (((w.alloc (.cells #[x00, x01] t0)).alloc (.cells #[x10, x11] t1)).alloc (.cells #[x20, x21] t2)).heap.size (((w.alloc (.cells #[x00, x01] t0)).alloc (.cells #[x10, x11] t1)).alloc (.cells #[x20, x21] t2)) ((((w.alloc (.cells #[x00, x01] t0)).alloc (.cells #[x10, x11] t1)).alloc (.cells #[x20, x21] t2)).alloc (.cells #[x30, x31] t3)) := (Below.refl _ _).alloc (Nat.le_refl _) _
  have h3 := bx_new (((w.alloc (.cells #[x00, x01] t0)).alloc (.cells #[x10, x11] t1)).alloc (.cells #[x20, x21] t2)) x30 x31 t3
  rw [World.size_alloc, World.size_alloc, World.size_alloc] at h3
  exact ⟨_, rfl, also (also (also (e0) e1) e2) e3, (((h0.on e1).on e2).on e3), ((h1.on e2).on e3), (h2.on e3), h3, by simp⟩
theorem bs_22222 (w : World) (x00 x01 x10 x11 x20 x21 x30 x31 x40 x41 : Value) (t0 t1 t2 t3 t4 : TypeId) : ∃ W, W = (((((w.alloc (.cells #[x00, x01] t0)).alloc (.cells #[x10, x11] t1)).alloc (.cells #[x20, x21] t2)).alloc (.cells #[x30, x31] t3)).alloc (.cells #[x40, x41] t4)) ∧ Below w.heap.size w W ∧ Bx W (w.heap.size) x00 x01 ∧ Bx W (w.heap.size + 1) x10 x11 ∧ Bx W (w.heap.size + 1 + 1) x20 x21 ∧ Bx W (w.heap.size + 1 + 1 + 1) x30 x31 ∧ Bx W (w.heap.size + 1 + 1 + 1 + 1) x40 x41 ∧ w.heap.size + 1 + 1 + 1 + 1 < W.heap.size := by
  have e0 : Below w.heap.size w (w.alloc (.cells #[x00, x01] t0)) := (Below.refl _ _).alloc (Nat.le_refl _) _
  have h0 := bx_new w x00 x01 t0
  have e1 : Below (w.alloc (.cells #[x00, x01] t0)).heap.size (w.alloc (.cells #[x00, x01] t0)) ((w.alloc (.cells #[x00, x01] t0)).alloc (.cells #[x10, x11] t1)) := (Below.refl _ _).alloc (Nat.le_refl _) _
  have h1 := bx_new (w.alloc (.cells #[x00, x01] t0)) x10 x11 t1
  rw [World.size_alloc] at h1
  have e2 : Below ((w.alloc (.cells #[x00, x01] t0)).alloc (.cells #[x10, x11] t1)).heap.size ((w.alloc (.cells #[x00, x01] t0)).alloc (.cells #[x10, x11] t1)) (((w.alloc (.cells #[x00, x01] t0)).alloc (.cells #[x10, x11] t1)).alloc (.cells #[x20, x21] t2)) := (Below.refl _ _).alloc (Nat.le_refl _) _
  have h2 := bx_new ((w.alloc (.cells #[x00, x01] t0)).alloc (.cells #[x10, x11] t1)) x20 x21 t2
  rw [World.size_alloc, World.size_alloc] at h2
  have e3 : Below (((w.alloc (.cells #[x00, x01] t0)).alloc (.cells #[x10, x11] t1)).alloc (.cells #[x20, x21] t2)).heap.size (((w.alloc (.cells #[x00, x01] t0)).alloc (.cells #[x10, x11] t1)).alloc (.cells #[x20, x21] t2)) ((((w.alloc (.cells #[x00, x01] t0)).alloc (.cells #[x10, x11] t1)).alloc (.cells #[x20, x21] t2)).alloc (.cells #[x30, x31] t3)) := (Below.refl _ _).alloc (Nat.le_refl _) _
  have h3 := bx_new (((w.alloc (.cells #[x00, x01] t0)).alloc (.cells #[x10, x11] t1)).alloc (.cells #[x20, x21] t2)) x30 x31 t3
  rw [World.size_alloc, World.size_alloc, World.size_alloc] at h3
  have e4 : Below ((((w.alloc (.cells #[x00, x01] t0)).alloc (.cells #[x10, x11] t1)).alloc (.cells #[x20, x21] t2)).alloc (.cells #[x30, x31] t3)).heap.size ((((w.alloc (.cells #[x00, x01] t0)).alloc (.cells #[x10, x11] t1)).alloc (.cells #[x20, x21] t2)).alloc (.cells #[x30, x31] t3)) (((((w.alloc (.cells #[x00, x01] t0)).alloc (.cells #[x10, x11] t1)).alloc (.cells #[x20, x21] t2)).alloc (.cells #[x30, x31] t3)).alloc (.cells #[x40, x41] t4)) := (Below.refl _ _).alloc (Nat.le_refl _) _
  have h4 := bx_new ((((w.alloc (.cells #[x00, x01] t0)).alloc (.cells #[x10, x11] t1)).alloc (.cells #[x20, x21] t2)).alloc (.cells #[x30, x31] t3)) x40 x41 t4
  rw [World.size_alloc, World.size_alloc, World.size_alloc, World.size_alloc] at h4
  exact ⟨_, rfl, also (also (also (also (e0) e1) e2) e3) e4, ((((h0.on e1).on e2).on e3).on e4), (((h1.on e2).on e3).on e4), ((h2.on e3).on e4), (h3.on e4), h4, by simp⟩
end Go.Proofs.Ytnhoaopmnoilbaa

namespace Go.Proofs.Ytnhoaopmnoilbaa
open Go.RowKit
set_option linter.unusedVariables false

theorem wsign_cases (x : Int) : (x < 0 ∧ x.sign = -1) ∨ (x = 0 ∧ x.sign = 0) ∨ (0 < x ∧ x.sign = 1) := by
  rcases Int.lt_trichotomy x 0 with h | h | h
  · exact Or.inl ⟨h, Int.sign_eq_neg_one_of_neg h⟩
  · exact Or.inr (Or.inl ⟨h, Int.sign_eq_zero_iff_zero.2 h⟩)
  · exact Or.inr (Or.inr ⟨h, Int.sign_eq_one_of_pos h⟩)
theorem cmpI_sign (a b : Int) : cmpI a b = (a - b).sign := by
  unfold cmpI
  rcases wsign_cases (a - b) with ⟨h, e⟩ | ⟨h, e⟩ | ⟨h, e⟩
  · rw [if_pos (by omega), e]
  · rw [if_neg (by omega), if_neg (by omega), e]
  · rw [if_neg (by omega), if_pos (by omega), e]
end Go.Proofs.Ytnhoaopmnoilbaa

namespace Go.Proofs.Ytnhoaopmnoilbaa
open Go.RowKit
set_option linter.unusedVariables false

/-- A number of 64 bits, or none. -/
def smOk (z : Int) : Bool := decide (-9223372036854775808 ≤ z ∧ z ≤ 9223372036854775807)
def smV (z : Int) : Int := if smOk z then z else 0
theorem bt_more {u : Nat} (h : 64 < bt.nlen u) : 18446744073709551616 ≤ u := by
  refine Nat.le_of_not_lt fun hlt => ?_
  have := bt.nlen_le (n := 64) (v := u) hlt
  omega
theorem bt_less {u : Nat} (h : bt.nlen u ≤ 64) : u < 18446744073709551616 := Nat.lt_of_lt_of_le (bt.nlen_lt u) (Nat.le_trans (Nat.pow_le_pow_right (by decide) h) (by decide))
theorem cmpLong_any (x y : Int) (w : World) :
    Calls Try.prog 33 #[.int .i64 x, .int .i64 y] w fun e w' => e = .returned (.int .i64 (cmpI x y)) ∧ w = w' := by
  unfold cmpI
  go_enter Try.func33, Try.ntmps33
  go_wp2
  all_goals (go_ret; exact ⟨rfl, rfl⟩)
theorem sm_step (U j : Nat) (hj : j ≤ 1) : bits BinOp.or IntKind.u64 ((U : Int) % 4294967296 ^ j) (IntKind.u64.wrap (wd.dg (U : Int) j * 2 ^ (32 * j))) = ((U % 4294967296 ^ (j + 1) : Nat) : Int) := by
  obtain ⟨d0, d1⟩ := wd.dg_range (U : Int) j
  obtain ⟨D, hD⟩ := Int.eq_ofNat_of_zero_le d0
  have hdn := wd.dg_nat U j
  rw [hD] at hdn d1 ⊢
  rcases j with _ | _ | j
  · simp only [Int.pow_zero, Nat.mul_zero, Int.mul_one, Int.emod_one, Nat.zero_add, Nat.pow_one]
    rw [show IntKind.u64.wrap (D : Int) = (D : Int) by rw [IntKind.wrap_u64]; omega, show (0 : Int) = ((0 : Nat) : Int) from rfl, u64_or_nat _ _ (by omega) (by omega), Nat.zero_or]
    simp at hdn
    omega
  · rw [show IntKind.u64.wrap ((D : Int) * 2 ^ (32 * (0 + 1))) = ((D * 4294967296 : Nat) : Int) by rw [IntKind.wrap_u64]; simp; omega]
    have h1 : ((U : Int) % 4294967296 ^ (0 + 1)) = ((U % 4294967296 : Nat) : Int) := by simp
    rw [h1, u64_or_nat _ _ (by omega) (by omega), Nat.or_comm, nat_join 32 (D * 4294967296) (U % 4294967296) (by omega) (by omega)]
    simp at hdn
    rw [show (4294967296 : Nat) ^ (0 + 1 + 1) = 18446744073709551616 from rfl]
    omega
  · omega
/-- What holds at the head of each round. -/
def SmRel (w : World) (U K : Nat) (mag i : Value) (wr : World) : Prop := ∃ j : Nat, j ≤ K ∧ i = .int .i64 (j : Int) ∧ mag = .int .u64 ((U % 4294967296 ^ j : Nat) : Int) ∧ wr = w
/-- The word as a number of 64 bits, with its sign: it has that sign just if there is room for it. -/
theorem sm_math (n : Bool) (z : Int) (U : Nat) (hU : U < 18446744073709551616) (hz : z = sgz n U) :
    ∃ V0 V : Int, IntKind.i64.wrap (U : Int) = V0 ∧ (n = true → wrap64 (-V0) = V) ∧ (n = false → V0 = V) ∧ (smOk z = true → cmpI V 0 = z.sign ∧ V = z) ∧ (smOk z = false → cmpI V 0 ≠ z.sign) := by
  refine ⟨IntKind.i64.wrap (U : Int), if n then wrap64 (-(IntKind.i64.wrap (U : Int))) else IntKind.i64.wrap (U : Int), rfl, fun h => by rw [h]; rfl, fun h => by rw [h]; rfl, ?_, ?_⟩
  all_goals
    rw [IntKind.wrap_i64]
    unfold smOk wrap64
    rw [cmpI_sign, hz]
    unfold sgz
    cases n
    · simp only [Bool.false_eq_true, if_false, decide_eq_true_eq, decide_eq_false_iff_not, Int.sub_zero]
      intro h
      first
        | (have e : ((U : Int) + 9223372036854775808) % 18446744073709551616 - 9223372036854775808 = U := by omega
           rw [e]; exact ⟨rfl, rfl⟩)
        | (rw [Int.sign_eq_neg_one_of_neg (show ((U : Int) + 9223372036854775808) % 18446744073709551616 - 9223372036854775808 < 0 by omega), Int.sign_eq_one_of_pos (show (0 : Int) < U by omega)]; decide)
    · simp only [if_true, decide_eq_true_eq, decide_eq_false_iff_not, Int.sub_zero]
      intro h
      first
        | (have e : (-(((U : Int) + 9223372036854775808) % 18446744073709551616 - 9223372036854775808) + 9223372036854775808) % 18446744073709551616 - 9223372036854775808 = -(U : Int) := by omega
           rw [e]; exact ⟨rfl, rfl⟩)
        | (rw [Int.sign_eq_one_of_pos (show 0 < (-(((U : Int) + 9223372036854775808) % 18446744073709551616 - 9223372036854775808) + 9223372036854775808) % 18446744073709551616 - 9223372036854775808 by omega), Int.sign_eq_neg_one_of_neg (show -(U : Int) < 0 by omega)]; decide)
end Go.Proofs.Ytnhoaopmnoilbaa

namespace Go.Proofs.Ytnhoaopmnoilbaa
open Go.RowKit
set_option linter.unusedVariables false

theorem lCoord (c : Int) (w : World) {b : Bool} (hb : b = inC c) : Calls Try.prog 30 #[.int .i64 c] w fun e w' => e = .returned (.bool b) ∧ Below w.heap.size w w' := by
  subst hb
  unfold inC
  go_enter Try.func30, Try.ntmps30
  go_wp2
  all_goals (go_ret; exact ⟨by simp; omega, Below.refl _ _⟩)
theorem lSide (c : Int) (w : World) {b : Bool} (hb : b = sideC c) : Calls Try.prog 22 #[.int .i64 c] w fun e w' => e = .returned (.bool b) ∧ Below w.heap.size w w' := by
  subst hb
  unfold sideC
  go_enter Try.func22, Try.ntmps22
  go_wp2
  all_goals (go_ret; exact ⟨by simp; omega, Below.refl _ _⟩)
theorem lReach (i s : Int) (w : World) (hs : sideC s = true) {b : Bool} (hb : b = reachC i s) : Calls Try.prog 23 #[.int .i64 i, .int .i64 s] w fun e w' => e = .returned (.bool b) ∧ Below w.heap.size w w' := by
  subst hb
  obtain ⟨s1, s2⟩ := sideC_true.1 hs
  have hq : (2199023255552 : Int).tdiv s = 2199023255552 / s := tdiv_big (by omega)
  have q1 : (0 : Int) ≤ 2199023255552 / s := Int.ediv_nonneg (by decide) (by omega)
  have q2 : (2199023255552 : Int) / s ≤ 2199023255552 := Int.ediv_le_self _ (by decide)
  have hs0 : ¬ s = 0 := by omega
  clear hs
  unfold reachC
  generalize (2199023255552 : Int) / s = m at hq q1 q2 ⊢
  have hw1 : wrap64 m = m := wrap_in (by omega) (by omega)
  have hw2 : wrap64 (-m) = -m := wrap_in (by omega) (by omega)
  go_enter Try.func23, Try.ntmps23
  go_wp2
  all_goals (go_ret; exact ⟨by simp; omega, Below.refl _ _⟩)
theorem lSum (x y z t : Int) (w : World) {u v : Int} (hu : u = wrap64 (x + z)) (hv : v = wrap64 (y + t)) : Calls Try.prog 20 #[.agg #[.int .i64 x, .int .i64 y], .agg #[.int .i64 z, .int .i64 t]] w fun e w' => e = .returned (.agg #[.int .i64 u, .int .i64 v]) ∧ Below w.heap.size w w' := by
  subst hu hv
  go_enter Try.func20, Try.ntmps20
  go_wp2
  exact bodyPost_ret (v := .agg #[.int .i64 (wrap64 (x + z)), .int .i64 (wrap64 (y + t))]) (by simp [results, Try.results20, go_sem]) rfl ⟨rfl, (((Below.refl _ _).alloc (Nat.le_refl _) _).alloc (by simp) _).alloc (by simp; omega) _⟩
theorem lLess (x y z t : Int) (w : World) {u v : Int} (hu : u = wrap64 (x - z)) (hv : v = wrap64 (y - t)) : Calls Try.prog 21 #[.agg #[.int .i64 x, .int .i64 y], .agg #[.int .i64 z, .int .i64 t]] w fun e w' => e = .returned (.agg #[.int .i64 u, .int .i64 v]) ∧ Below w.heap.size w w' := by
  subst hu hv
  go_enter Try.func21, Try.ntmps21
  go_wp2
  exact bodyPost_ret (v := .agg #[.int .i64 (wrap64 (x - z)), .int .i64 (wrap64 (y - t))]) (by simp [results, Try.results21, go_sem]) rfl ⟨rfl, (((Below.refl _ _).alloc (Nat.le_refl _) _).alloc (by simp) _).alloc (by simp; omega) _⟩
theorem lCmp (x y z t : Int) (w : World) {g : Int} (hg : g = cmpP x y z t) : Calls Try.prog 15 #[.agg #[.int .i64 x, .int .i64 y], .agg #[.int .i64 z, .int .i64 t]] w fun e w' => e = .returned (.int .i64 g) ∧ Below w.heap.size w w' := by
  subst hg
  unfold cmpP
  by_cases g : x = z
  · have g' : (x == z) = true := by simpa using g
    rw [if_pos g]
    clear g
    go_enter Try.func15, Try.ntmps15
    go_wp2_with (go_at_call 33; refine (cmpLong_any y t _).mono ?_; rintro e w' ⟨rfl, hw⟩; subst hw)
    go_ret
    exact ⟨rfl, ((Below.refl _ _).alloc (Nat.le_refl _) _).alloc (by simp) _⟩
  · have g' : (x == z) = false := by simpa using g
    rw [if_neg g]
    clear g
    go_enter Try.func15, Try.ntmps15
    go_wp2_with (go_at_call 33; refine (cmpLong_any x z _).mono ?_; rintro e w' ⟨rfl, hw⟩; subst hw)
    go_ret
    exact ⟨rfl, ((Below.refl _ _).alloc (Nat.le_refl _) _).alloc (by simp) _⟩
theorem fold_bound {c s : Int} (hs : sideC s = true) (hc : inC c = true) : -1099511627776 ≤ c / s ∧ c / s ≤ 1099511627776 ∧ 0 ≤ c % s ∧ c % s < s ∧ s ≤ 1099511627776 := by
  obtain ⟨s1, s2⟩ := sideC_true.1 hs
  obtain ⟨c1, c2⟩ := inC_true.1 hc
  refine ⟨(Int.le_ediv_iff_mul_le (by omega)).2 (by omega), ?_, Int.emod_nonneg _ (by omega), Int.emod_lt_of_pos _ (by omega), s2⟩
  have : c / s < 1099511627777 := (Int.ediv_lt_iff_lt_mul (by omega)).2 (by omega)
  omega
theorem lFold (c s : Int) (w : World) (hs : sideC s = true) (hc : inC c = true) {u v : Int} (hu : u = c % s) (hv : v = c / s) : Calls Try.prog 31 #[.int .i64 c, .int .i64 s] w fun e w' => e = .returned (.tuple #[.int .i64 u, .int .i64 v]) ∧ Below w.heap.size w w' := by
  obtain ⟨d1, d2, m1, m2, s2⟩ := fold_bound hs hc
  obtain ⟨s1, _⟩ := sideC_true.1 hs
  have hs0 : ¬ s = 0 := by omega
  rw [← hu] at m1 m2
  rw [← hv] at d1 d2
  by_cases h : c.tmod s < 0
  · obtain ⟨e1, e2⟩ := fold_neg (by omega) h
    rw [← hu] at e1
    rw [← hv] at e2
    clear hu hv hs hc
    generalize hm : c.tmod s = m at h e1
    generalize hq : c.tdiv s = q at e2
    have hw1 : wrap64 q = q := wrap_in (by omega) (by omega)
    have hw2 : wrap64 (m + s) = u := by rw [wrap_in (by omega) (by omega)]; exact e1
    have hw3 : wrap64 (q - 1) = v := by rw [wrap_in (by omega) (by omega)]; exact e2
    clear e1 e2 m1 m2 d1 d2
    go_enter Try.func31, Try.ntmps31
    go_wp2
    go_region
    go_wp2
    exact bodyPost_ret (v := .tuple #[.int .i64 u, .int .i64 v]) (by simp [results, Try.results31, go_sem, *]) rfl ⟨rfl, (Below.refl _ _).drew⟩
  · obtain ⟨e1, e2⟩ := fold_pos (by omega) h
    rw [← hu] at e1
    rw [← hv] at e2
    clear hu hv hs hc
    rw [e1] at h
    have hw1 : wrap64 v = v := wrap_in (by omega) (by omega)
    clear m1 m2 d1 d2
    go_enter Try.func31, Try.ntmps31
    go_wp2
    go_region
    go_wp2
    exact bodyPost_ret (v := .tuple #[.int .i64 u, .int .i64 v]) (by simp [results, Try.results31, go_sem, *]) rfl ⟨rfl, (Below.refl _ _).drew⟩
set_option maxRecDepth 100000 in
theorem lCan (x y : Int) (w : World) {b : Bool} (hb : b = canC x y) : Calls Try.prog 10 #[.agg #[.int .i64 x, .int .i64 y]] w fun e w' => e = .returned (.bool b) ∧ Below w.heap.size w w' := by
  subst hb
  unfold canC
  cases hx : inC x
  · skip
    obtain ⟨W, hW, bW, x_p, sW⟩ := bs_2 w (.int .i64 x) (.int .i64 y) 23
    have zbW := bW.size
    have BB := bW
    go_enter Try.func10, Try.ntmps10
    go_wp2_with (go_at_call 30; fail)
    rw [← hW]
    clear hW
    refine (lCoord x W hx.symm).mono ?_
    rintro e w1 ⟨rfl, bw1⟩
    have zbw1 := bw1.size
    replace BB := also BB bw1
    replace x_p := x_p.on bw1
    have ⟨x_p_0, x_p_1, x_p_2, x_p_3⟩ := x_p
    go_wp2
    go_ret
    exact ⟨by simp, BB⟩
  · skip
    obtain ⟨W, hW, bW, x_p, sW⟩ := bs_2 w (.int .i64 x) (.int .i64 y) 23
    have zbW := bW.size
    have BB := bW
    go_enter Try.func10, Try.ntmps10
    go_wp2_with (go_at_call 30; fail)
    rw [← hW]
    clear hW
    refine (lCoord x W hx.symm).mono ?_
    rintro e w1 ⟨rfl, bw1⟩
    have zbw1 := bw1.size
    replace BB := also BB bw1
    replace x_p := x_p.on bw1
    have ⟨x_p_0, x_p_1, x_p_2, x_p_3⟩ := x_p
    go_wp2_with (go_at_call 30; fail)
    refine (lCoord y w1 rfl).mono ?_
    rintro e w2 ⟨rfl, bw2⟩
    clear x_p_0 x_p_1 x_p_2 x_p_3
    have zbw2 := bw2.size
    replace BB := also BB bw2
    replace x_p := x_p.on bw2
    go_wp2
    go_ret
    exact ⟨by simp, BB⟩
end Go.Proofs.Ytnhoaopmnoilbaa

namespace Go.Proofs.Ytnhoaopmnoilbaa
open Go.RowKit
set_option linter.unusedVariables false

theorem at_no_can {x y i k s : Int} (h : canC x y = false) : atC x y i k s = false := by unfold atC; rw [h]; simp
theorem at_no_side {x y i k s : Int} (h : sideC s = false) : atC x y i k s = false := by unfold atC; rw [h]; rfl
theorem at_no_right {x y i k s : Int} (hs : sideC s = true) (hr : reachC i s = false) : atC x y i k s = false := by
  cases h : atC x y i k s
  · rfl
  · obtain ⟨_, q1, q2, _⟩ := atC_true.1 h
    have := reach_in hs (canC_true.1 q1).1 q2
    rw [hr] at this; cases this
theorem at_no_up {x y i k s : Int} (hs : sideC s = true) (hr : reachC k s = false) : atC x y i k s = false := by
  cases h : atC x y i k s
  · rfl
  · obtain ⟨_, q1, _, q2⟩ := atC_true.1 h
    have := reach_in hs (canC_true.1 q1).2 q2
    rw [hr] at this; cases this
theorem at_no_there {x y i k s : Int} (h : canC (x + i * s) (y + k * s) = false) : atC x y i k s = false := by unfold atC; unfold canC at h ⊢; rw [h]; simp
theorem at_yes {x y i k s : Int} (h1 : canC x y = true) (h2 : sideC s = true) (h : canC (x + i * s) (y + k * s) = true) : atC x y i k s = true := by unfold atC; unfold canC at h h1 ⊢; rw [h, h1, h2]; rfl
theorem home_no_can {x y s : Int} (h : canC x y = false) : homeC x y s = false := by unfold homeC; rw [h]; simp
theorem home_no_side {x y s : Int} (h : sideC s = false) : homeC x y s = false := by unfold homeC; rw [h]; rfl
set_option maxRecDepth 100000 in
set_option maxHeartbeats 4000000 in
theorem lAt (x y i k s : Int) (w : World) {u v : Int} {b : Bool} (hb : b = atC x y i k s) (hu : u = if b then x + i * s else 0) (hv : v = if b then y + k * s else 0) :
    Calls Try.prog 8 #[.agg #[.int .i64 x, .int .i64 y], .agg #[.int .i64 i, .int .i64 k], .int .i64 s] w fun e w' => e = .returned (.tuple #[.agg #[.int .i64 u, .int .i64 v], .bool b]) ∧ Below w.heap.size w w' := by
  cases hc : canC x y
  · skip
    have h0 := @at_no_can x y i k s hc
    obtain rfl : b = false := by rw [hb, h0]
    obtain rfl : u = 0 := hu
    obtain rfl : v = 0 := hv
    clear hb h0
    obtain ⟨W, hW, bW, x_p, x_o, x_z, sW⟩ := bs_222 w (.int .i64 x) (.int .i64 y) (.int .i64 i) (.int .i64 k) (.int .i64 0) (.int .i64 0) 23 25 23
    have zbW := bW.size
    have BB := bW
    go_enter Try.func8, Try.ntmps8
    go_wp2_with (go_at_call 10; fail)
    rw [← hW]
    clear hW
    refine (lCan x y W hc.symm).mono ?_
    rintro e w1 ⟨rfl, bw1⟩
    have zbw1 := bw1.size
    replace BB := also BB bw1
    replace x_p := x_p.on bw1
    replace x_o := x_o.on bw1
    replace x_z := x_z.on bw1
    have ⟨x_p_0, x_p_1, x_p_2, x_p_3⟩ := x_p
    have ⟨x_o_0, x_o_1, x_o_2, x_o_3⟩ := x_o
    have ⟨x_z_0, x_z_1, x_z_2, x_z_3⟩ := x_z
    go_wp2
    exact bodyPost_ret (v := .tuple #[.agg #[.int .i64 0, .int .i64 0], .bool false]) (by simp [results, Try.results8, go_sem, *]) rfl (⟨rfl, below_put2 BB (by omega) _ _⟩)
  · skip
    cases hs : sideC s
    · skip
      have h0 := @at_no_side x y i k s hs
      obtain rfl : b = false := by rw [hb, h0]
      obtain rfl : u = 0 := hu
      obtain rfl : v = 0 := hv
      clear hb h0
      obtain ⟨W, hW, bW, x_p, x_o, x_z, sW⟩ := bs_222 w (.int .i64 x) (.int .i64 y) (.int .i64 i) (.int .i64 k) (.int .i64 0) (.int .i64 0) 23 25 23
      have zbW := bW.size
      have BB := bW
      go_enter Try.func8, Try.ntmps8
      go_wp2_with (go_at_call 10; fail)
      rw [← hW]
      clear hW
      refine (lCan x y W hc.symm).mono ?_
      rintro e w1 ⟨rfl, bw1⟩
      have zbw1 := bw1.size
      replace BB := also BB bw1
      replace x_p := x_p.on bw1
      replace x_o := x_o.on bw1
      replace x_z := x_z.on bw1
      have ⟨x_p_0, x_p_1, x_p_2, x_p_3⟩ := x_p
      have ⟨x_o_0, x_o_1, x_o_2, x_o_3⟩ := x_o
      have ⟨x_z_0, x_z_1, x_z_2, x_z_3⟩ := x_z
      go_wp2_with (go_at_call 22; fail)
      refine (lSide s w1 hs.symm).mono ?_
      rintro e w2 ⟨rfl, bw2⟩
      clear x_p_0 x_p_1 x_p_2 x_p_3 x_o_0 x_o_1 x_o_2 x_o_3 x_z_0 x_z_1 x_z_2 x_z_3
      have zbw2 := bw2.size
      replace BB := also BB bw2
      replace x_p := x_p.on bw2
      replace x_o := x_o.on bw2
      replace x_z := x_z.on bw2
      have ⟨x_p_0, x_p_1, x_p_2, x_p_3⟩ := x_p
      have ⟨x_o_0, x_o_1, x_o_2, x_o_3⟩ := x_o
      have ⟨x_z_0, x_z_1, x_z_2, x_z_3⟩ := x_z
      go_wp2
      exact bodyPost_ret (v := .tuple #[.agg #[.int .i64 0, .int .i64 0], .bool false]) (by simp [results, Try.results8, go_sem, *]) rfl (⟨rfl, below_put2 BB (by omega) _ _⟩)
    · skip
      cases hr : reachC i s
      · skip
        have h0 := @at_no_right x y i k s hs hr
        obtain rfl : b = false := by rw [hb, h0]
        obtain rfl : u = 0 := hu
        obtain rfl : v = 0 := hv
        clear hb h0
        obtain ⟨W, hW, bW, x_p, x_o, x_z, sW⟩ := bs_222 w (.int .i64 x) (.int .i64 y) (.int .i64 i) (.int .i64 k) (.int .i64 0) (.int .i64 0) 23 25 23
        have zbW := bW.size
        have BB := bW
        go_enter Try.func8, Try.ntmps8
        go_wp2_with (go_at_call 10; fail)
        rw [← hW]
        clear hW
        refine (lCan x y W hc.symm).mono ?_
        rintro e w1 ⟨rfl, bw1⟩
        have zbw1 := bw1.size
        replace BB := also BB bw1
        replace x_p := x_p.on bw1
        replace x_o := x_o.on bw1
        replace x_z := x_z.on bw1
        have ⟨x_p_0, x_p_1, x_p_2, x_p_3⟩ := x_p
        have ⟨x_o_0, x_o_1, x_o_2, x_o_3⟩ := x_o
        have ⟨x_z_0, x_z_1, x_z_2, x_z_3⟩ := x_z
        go_wp2_with (go_at_call 22; fail)
        refine (lSide s w1 hs.symm).mono ?_
        rintro e w2 ⟨rfl, bw2⟩
        clear x_p_0 x_p_1 x_p_2 x_p_3 x_o_0 x_o_1 x_o_2 x_o_3 x_z_0 x_z_1 x_z_2 x_z_3
        have zbw2 := bw2.size
        replace BB := also BB bw2
        replace x_p := x_p.on bw2
        replace x_o := x_o.on bw2
        replace x_z := x_z.on bw2
        have ⟨x_p_0, x_p_1, x_p_2, x_p_3⟩ := x_p
        have ⟨x_o_0, x_o_1, x_o_2, x_o_3⟩ := x_o
        have ⟨x_z_0, x_z_1, x_z_2, x_z_3⟩ := x_z
        go_wp2_with (go_at_call 23; fail)
        refine (lReach i s w2 hs hr.symm).mono ?_
        rintro e w3 ⟨rfl, bw3⟩
        clear x_p_0 x_p_1 x_p_2 x_p_3 x_o_0 x_o_1 x_o_2 x_o_3 x_z_0 x_z_1 x_z_2 x_z_3
        have zbw3 := bw3.size
        replace BB := also BB bw3
        replace x_p := x_p.on bw3
        replace x_o := x_o.on bw3
        replace x_z := x_z.on bw3
        have ⟨x_p_0, x_p_1, x_p_2, x_p_3⟩ := x_p
        have ⟨x_o_0, x_o_1, x_o_2, x_o_3⟩ := x_o
        have ⟨x_z_0, x_z_1, x_z_2, x_z_3⟩ := x_z
        go_wp2
        exact bodyPost_ret (v := .tuple #[.agg #[.int .i64 0, .int .i64 0], .bool false]) (by simp [results, Try.results8, go_sem, *]) rfl (⟨rfl, below_put2 BB (by omega) _ _⟩)
      · skip
        cases ht : reachC k s
        · skip
          have h0 := @at_no_up x y i k s hs ht
          obtain rfl : b = false := by rw [hb, h0]
          obtain rfl : u = 0 := hu
          obtain rfl : v = 0 := hv
          clear hb h0
          obtain ⟨W, hW, bW, x_p, x_o, x_z, sW⟩ := bs_222 w (.int .i64 x) (.int .i64 y) (.int .i64 i) (.int .i64 k) (.int .i64 0) (.int .i64 0) 23 25 23
          have zbW := bW.size
          have BB := bW
          go_enter Try.func8, Try.ntmps8
          go_wp2_with (go_at_call 10; fail)
          rw [← hW]
          clear hW
          refine (lCan x y W hc.symm).mono ?_
          rintro e w1 ⟨rfl, bw1⟩
          have zbw1 := bw1.size
          replace BB := also BB bw1
          replace x_p := x_p.on bw1
          replace x_o := x_o.on bw1
          replace x_z := x_z.on bw1
          have ⟨x_p_0, x_p_1, x_p_2, x_p_3⟩ := x_p
          have ⟨x_o_0, x_o_1, x_o_2, x_o_3⟩ := x_o
          have ⟨x_z_0, x_z_1, x_z_2, x_z_3⟩ := x_z
          go_wp2_with (go_at_call 22; fail)
          refine (lSide s w1 hs.symm).mono ?_
          rintro e w2 ⟨rfl, bw2⟩
          clear x_p_0 x_p_1 x_p_2 x_p_3 x_o_0 x_o_1 x_o_2 x_o_3 x_z_0 x_z_1 x_z_2 x_z_3
          have zbw2 := bw2.size
          replace BB := also BB bw2
          replace x_p := x_p.on bw2
          replace x_o := x_o.on bw2
          replace x_z := x_z.on bw2
          have ⟨x_p_0, x_p_1, x_p_2, x_p_3⟩ := x_p
          have ⟨x_o_0, x_o_1, x_o_2, x_o_3⟩ := x_o
          have ⟨x_z_0, x_z_1, x_z_2, x_z_3⟩ := x_z
          go_wp2_with (go_at_call 23; fail)
          refine (lReach i s w2 hs hr.symm).mono ?_
          rintro e w3 ⟨rfl, bw3⟩
          clear x_p_0 x_p_1 x_p_2 x_p_3 x_o_0 x_o_1 x_o_2 x_o_3 x_z_0 x_z_1 x_z_2 x_z_3
          have zbw3 := bw3.size
          replace BB := also BB bw3
          replace x_p := x_p.on bw3
          replace x_o := x_o.on bw3
          replace x_z := x_z.on bw3
          have ⟨x_p_0, x_p_1, x_p_2, x_p_3⟩ := x_p
          have ⟨x_o_0, x_o_1, x_o_2, x_o_3⟩ := x_o
          have ⟨x_z_0, x_z_1, x_z_2, x_z_3⟩ := x_z
          go_wp2_with (go_at_call 23; fail)
          refine (lReach k s w3 hs ht.symm).mono ?_
          rintro e w4 ⟨rfl, bw4⟩
          clear x_p_0 x_p_1 x_p_2 x_p_3 x_o_0 x_o_1 x_o_2 x_o_3 x_z_0 x_z_1 x_z_2 x_z_3
          have zbw4 := bw4.size
          replace BB := also BB bw4
          replace x_p := x_p.on bw4
          replace x_o := x_o.on bw4
          replace x_z := x_z.on bw4
          have ⟨x_p_0, x_p_1, x_p_2, x_p_3⟩ := x_p
          have ⟨x_o_0, x_o_1, x_o_2, x_o_3⟩ := x_o
          have ⟨x_z_0, x_z_1, x_z_2, x_z_3⟩ := x_z
          go_wp2
          exact bodyPost_ret (v := .tuple #[.agg #[.int .i64 0, .int .i64 0], .bool false]) (by simp [results, Try.results8, go_sem, *]) rfl (⟨rfl, below_put2 BB (by omega) _ _⟩)
        · skip
          cases hq : canC (x + i * s) (y + k * s)
          · skip
            have h0 := @at_no_there x y i k s hq
            obtain rfl : b = false := by rw [hb, h0]
            obtain rfl : u = 0 := hu
            obtain rfl : v = 0 := hv
            clear hb h0
            obtain ⟨p1, p2⟩ := reach_prod hs hr
            obtain ⟨p3, p4⟩ := reach_prod hs ht
            obtain ⟨c1, c2⟩ := inC_true.1 (canC_true.1 hc).1
            obtain ⟨c3, c4⟩ := inC_true.1 (canC_true.1 hc).2
            obtain ⟨u, hu⟩ : ∃ u, u = x + i * s := ⟨_, rfl⟩
            obtain ⟨v, hv⟩ : ∃ v, v = y + k * s := ⟨_, rfl⟩
            rw [← hu, ← hv] at hq
            obtain ⟨P, hP⟩ : ∃ P, P = i * s := ⟨_, rfl⟩
            obtain ⟨R, hR⟩ : ∃ R, R = k * s := ⟨_, rfl⟩
            rw [← hP] at p1 p2 hu
            rw [← hR] at p3 p4 hv
            have hw1 : wrap64 (i * s) = P := by rw [← hP]; exact wrap_in (by omega) (by omega)
            have hw2 : wrap64 (k * s) = R := by rw [← hR]; exact wrap_in (by omega) (by omega)
            have hw3 : wrap64 (x + P) = u := by rw [hu]; exact wrap_in (by omega) (by omega)
            have hw4 : wrap64 (y + R) = v := by rw [hv]; exact wrap_in (by omega) (by omega)
            clear hP hR hu hv p1 p2 p3 p4 c1 c2 c3 c4
            obtain ⟨W, hW, bW, x_p, x_o, x_z, sW⟩ := bs_222 w (.int .i64 x) (.int .i64 y) (.int .i64 i) (.int .i64 k) (.int .i64 0) (.int .i64 0) 23 25 23
            have zbW := bW.size
            have BB := bW
            go_enter Try.func8, Try.ntmps8
            go_wp2_with (go_at_call 10; fail)
            rw [← hW]
            clear hW
            refine (lCan x y W hc.symm).mono ?_
            rintro e w1 ⟨rfl, bw1⟩
            have zbw1 := bw1.size
            replace BB := also BB bw1
            replace x_p := x_p.on bw1
            replace x_o := x_o.on bw1
            replace x_z := x_z.on bw1
            have ⟨x_p_0, x_p_1, x_p_2, x_p_3⟩ := x_p
            have ⟨x_o_0, x_o_1, x_o_2, x_o_3⟩ := x_o
            have ⟨x_z_0, x_z_1, x_z_2, x_z_3⟩ := x_z
            go_wp2_with (go_at_call 22; fail)
            refine (lSide s w1 hs.symm).mono ?_
            rintro e w2 ⟨rfl, bw2⟩
            clear x_p_0 x_p_1 x_p_2 x_p_3 x_o_0 x_o_1 x_o_2 x_o_3 x_z_0 x_z_1 x_z_2 x_z_3
            have zbw2 := bw2.size
            replace BB := also BB bw2
            replace x_p := x_p.on bw2
            replace x_o := x_o.on bw2
            replace x_z := x_z.on bw2
            have ⟨x_p_0, x_p_1, x_p_2, x_p_3⟩ := x_p
            have ⟨x_o_0, x_o_1, x_o_2, x_o_3⟩ := x_o
            have ⟨x_z_0, x_z_1, x_z_2, x_z_3⟩ := x_z
            go_wp2_with (go_at_call 23; fail)
            refine (lReach i s w2 hs hr.symm).mono ?_
            rintro e w3 ⟨rfl, bw3⟩
            clear x_p_0 x_p_1 x_p_2 x_p_3 x_o_0 x_o_1 x_o_2 x_o_3 x_z_0 x_z_1 x_z_2 x_z_3
            have zbw3 := bw3.size
            replace BB := also BB bw3
            replace x_p := x_p.on bw3
            replace x_o := x_o.on bw3
            replace x_z := x_z.on bw3
            have ⟨x_p_0, x_p_1, x_p_2, x_p_3⟩ := x_p
            have ⟨x_o_0, x_o_1, x_o_2, x_o_3⟩ := x_o
            have ⟨x_z_0, x_z_1, x_z_2, x_z_3⟩ := x_z
            go_wp2_with (go_at_call 23; fail)
            refine (lReach k s w3 hs ht.symm).mono ?_
            rintro e w4 ⟨rfl, bw4⟩
            clear x_p_0 x_p_1 x_p_2 x_p_3 x_o_0 x_o_1 x_o_2 x_o_3 x_z_0 x_z_1 x_z_2 x_z_3
            have zbw4 := bw4.size
            replace BB := also BB bw4
            replace x_p := x_p.on bw4
            replace x_o := x_o.on bw4
            replace x_z := x_z.on bw4
            have ⟨x_p_0, x_p_1, x_p_2, x_p_3⟩ := x_p
            have ⟨x_o_0, x_o_1, x_o_2, x_o_3⟩ := x_o
            have ⟨x_z_0, x_z_1, x_z_2, x_z_3⟩ := x_z
            obtain ⟨V, hV, bV, x_q, sV⟩ := bs_2 w4 (.int .i64 u) (.int .i64 v) 23
            have zbV := bV.size
            replace BB := also BB bV
            replace x_p := x_p.on bV
            replace x_o := x_o.on bV
            replace x_z := x_z.on bV
            go_wp2_with (go_at_call 10; fail)
            rw [← hV]
            clear hV
            refine (lCan u v V hq.symm).mono ?_
            rintro e w5 ⟨rfl, bw5⟩
            clear x_p_0 x_p_1 x_p_2 x_p_3 x_o_0 x_o_1 x_o_2 x_o_3 x_z_0 x_z_1 x_z_2 x_z_3
            have zbw5 := bw5.size
            replace BB := also BB bw5
            replace x_p := x_p.on bw5
            replace x_o := x_o.on bw5
            replace x_z := x_z.on bw5
            replace x_q := x_q.on bw5
            have ⟨x_z_0, x_z_1, x_z_2, x_z_3⟩ := x_z
            have ⟨x_q_0, x_q_1, x_q_2, x_q_3⟩ := x_q
            go_wp2
            exact bodyPost_ret (v := .tuple #[.agg #[.int .i64 0, .int .i64 0], .bool false]) (by simp [results, Try.results8, go_sem, *]) rfl (⟨rfl, below_put2 BB (by omega) _ _⟩)
          · skip
            have h0 := @at_yes x y i k s hc hs hq
            obtain rfl : b = true := by rw [hb, h0]
            replace hu : u = x + i * s := hu
            replace hv : v = y + k * s := hv
            clear hb h0
            obtain ⟨p1, p2⟩ := reach_prod hs hr
            obtain ⟨p3, p4⟩ := reach_prod hs ht
            obtain ⟨c1, c2⟩ := inC_true.1 (canC_true.1 hc).1
            obtain ⟨c3, c4⟩ := inC_true.1 (canC_true.1 hc).2
            rw [← hu, ← hv] at hq
            obtain ⟨P, hP⟩ : ∃ P, P = i * s := ⟨_, rfl⟩
            obtain ⟨R, hR⟩ : ∃ R, R = k * s := ⟨_, rfl⟩
            rw [← hP] at p1 p2 hu
            rw [← hR] at p3 p4 hv
            have hw1 : wrap64 (i * s) = P := by rw [← hP]; exact wrap_in (by omega) (by omega)
            have hw2 : wrap64 (k * s) = R := by rw [← hR]; exact wrap_in (by omega) (by omega)
            have hw3 : wrap64 (x + P) = u := by rw [hu]; exact wrap_in (by omega) (by omega)
            have hw4 : wrap64 (y + R) = v := by rw [hv]; exact wrap_in (by omega) (by omega)
            clear hP hR hu hv p1 p2 p3 p4 c1 c2 c3 c4
            obtain ⟨W, hW, bW, x_p, x_o, x_z, sW⟩ := bs_222 w (.int .i64 x) (.int .i64 y) (.int .i64 i) (.int .i64 k) (.int .i64 0) (.int .i64 0) 23 25 23
            have zbW := bW.size
            have BB := bW
            go_enter Try.func8, Try.ntmps8
            go_wp2_with (go_at_call 10; fail)
            rw [← hW]
            clear hW
            refine (lCan x y W hc.symm).mono ?_
            rintro e w1 ⟨rfl, bw1⟩
            have zbw1 := bw1.size
            replace BB := also BB bw1
            replace x_p := x_p.on bw1
            replace x_o := x_o.on bw1
            replace x_z := x_z.on bw1
            have ⟨x_p_0, x_p_1, x_p_2, x_p_3⟩ := x_p
            have ⟨x_o_0, x_o_1, x_o_2, x_o_3⟩ := x_o
            have ⟨x_z_0, x_z_1, x_z_2, x_z_3⟩ := x_z
            go_wp2_with (go_at_call 22; fail)
            refine (lSide s w1 hs.symm).mono ?_
            rintro e w2 ⟨rfl, bw2⟩
            clear x_p_0 x_p_1 x_p_2 x_p_3 x_o_0 x_o_1 x_o_2 x_o_3 x_z_0 x_z_1 x_z_2 x_z_3
            have zbw2 := bw2.size
            replace BB := also BB bw2
            replace x_p := x_p.on bw2
            replace x_o := x_o.on bw2
            replace x_z := x_z.on bw2
            have ⟨x_p_0, x_p_1, x_p_2, x_p_3⟩ := x_p
            have ⟨x_o_0, x_o_1, x_o_2, x_o_3⟩ := x_o
            have ⟨x_z_0, x_z_1, x_z_2, x_z_3⟩ := x_z
            go_wp2_with (go_at_call 23; fail)
            refine (lReach i s w2 hs hr.symm).mono ?_
            rintro e w3 ⟨rfl, bw3⟩
            clear x_p_0 x_p_1 x_p_2 x_p_3 x_o_0 x_o_1 x_o_2 x_o_3 x_z_0 x_z_1 x_z_2 x_z_3
            have zbw3 := bw3.size
            replace BB := also BB bw3
            replace x_p := x_p.on bw3
            replace x_o := x_o.on bw3
            replace x_z := x_z.on bw3
            have ⟨x_p_0, x_p_1, x_p_2, x_p_3⟩ := x_p
            have ⟨x_o_0, x_o_1, x_o_2, x_o_3⟩ := x_o
            have ⟨x_z_0, x_z_1, x_z_2, x_z_3⟩ := x_z
            go_wp2_with (go_at_call 23; fail)
            refine (lReach k s w3 hs ht.symm).mono ?_
            rintro e w4 ⟨rfl, bw4⟩
            clear x_p_0 x_p_1 x_p_2 x_p_3 x_o_0 x_o_1 x_o_2 x_o_3 x_z_0 x_z_1 x_z_2 x_z_3
            have zbw4 := bw4.size
            replace BB := also BB bw4
            replace x_p := x_p.on bw4
            replace x_o := x_o.on bw4
            replace x_z := x_z.on bw4
            have ⟨x_p_0, x_p_1, x_p_2, x_p_3⟩ := x_p
            have ⟨x_o_0, x_o_1, x_o_2, x_o_3⟩ := x_o
            have ⟨x_z_0, x_z_1, x_z_2, x_z_3⟩ := x_z
            obtain ⟨V, hV, bV, x_q, sV⟩ := bs_2 w4 (.int .i64 u) (.int .i64 v) 23
            have zbV := bV.size
            replace BB := also BB bV
            replace x_p := x_p.on bV
            replace x_o := x_o.on bV
            replace x_z := x_z.on bV
            go_wp2_with (go_at_call 10; fail)
            rw [← hV]
            clear hV
            refine (lCan u v V hq.symm).mono ?_
            rintro e w5 ⟨rfl, bw5⟩
            clear x_p_0 x_p_1 x_p_2 x_p_3 x_o_0 x_o_1 x_o_2 x_o_3 x_z_0 x_z_1 x_z_2 x_z_3
            have zbw5 := bw5.size
            replace BB := also BB bw5
            replace x_p := x_p.on bw5
            replace x_o := x_o.on bw5
            replace x_z := x_z.on bw5
            replace x_q := x_q.on bw5
            have ⟨x_z_0, x_z_1, x_z_2, x_z_3⟩ := x_z
            have ⟨x_q_0, x_q_1, x_q_2, x_q_3⟩ := x_q
            go_wp2
            exact bodyPost_ret (v := .tuple #[.agg #[.int .i64 u, .int .i64 v], .bool true]) (by simp [results, Try.results8, go_sem, *]) rfl (⟨rfl, below_put2 BB (by omega) _ _⟩)
set_option maxRecDepth 100000 in
set_option maxHeartbeats 4000000 in
theorem lHome (x y s : Int) (w : World) {a c p q : Int} {b : Bool} (hb : b = homeC x y s) (ha : a = if b then x % s else 0) (hc' : c = if b then y % s else 0) (hp : p = if b then x / s else 0) (hq : q = if b then y / s else 0) :
    Calls Try.prog 13 #[.agg #[.int .i64 x, .int .i64 y], .int .i64 s] w fun e w' => e = .returned (.tuple #[.agg #[.int .i64 a, .int .i64 c], .agg #[.int .i64 p, .int .i64 q], .bool b]) ∧ Below w.heap.size w w' := by
  cases hc : canC x y
  · skip
    have h0 := @home_no_can x y s hc
    obtain rfl : b = false := by rw [hb, h0]
    obtain rfl : a = 0 := ha
    obtain rfl : c = 0 := hc'
    obtain rfl : p = 0 := hp
    obtain rfl : q = 0 := hq
    clear hb h0
    obtain ⟨W, hW, bW, x_p, x_z, x_t, sW⟩ := bs_222 w (.int .i64 x) (.int .i64 y) (.int .i64 0) (.int .i64 0) (.int .i64 0) (.int .i64 0) 23 23 25
    have zbW := bW.size
    have BB := bW
    go_enter Try.func13, Try.ntmps13
    go_wp2_with (go_at_call 10; fail)
    rw [← hW]
    clear hW
    refine (lCan x y W hc.symm).mono ?_
    rintro e w1 ⟨rfl, bw1⟩
    have zbw1 := bw1.size
    replace BB := also BB bw1
    replace x_p := x_p.on bw1
    replace x_z := x_z.on bw1
    replace x_t := x_t.on bw1
    have ⟨x_p_0, x_p_1, x_p_2, x_p_3⟩ := x_p
    have ⟨x_z_0, x_z_1, x_z_2, x_z_3⟩ := x_z
    have ⟨x_t_0, x_t_1, x_t_2, x_t_3⟩ := x_t
    go_wp2
    exact bodyPost_ret (v := .tuple #[.agg #[.int .i64 0, .int .i64 0], .agg #[.int .i64 0, .int .i64 0], .bool false]) (by simp [results, Try.results13, go_sem, *]) rfl (⟨rfl, below_put2 (below_put2 BB (by omega) _ _) (by omega) _ _⟩)
  · skip
    cases hs : sideC s
    · skip
      have h0 := @home_no_side x y s hs
      obtain rfl : b = false := by rw [hb, h0]
      obtain rfl : a = 0 := ha
      obtain rfl : c = 0 := hc'
      obtain rfl : p = 0 := hp
      obtain rfl : q = 0 := hq
      clear hb h0
      obtain ⟨W, hW, bW, x_p, x_z, x_t, sW⟩ := bs_222 w (.int .i64 x) (.int .i64 y) (.int .i64 0) (.int .i64 0) (.int .i64 0) (.int .i64 0) 23 23 25
      have zbW := bW.size
      have BB := bW
      go_enter Try.func13, Try.ntmps13
      go_wp2_with (go_at_call 10; fail)
      rw [← hW]
      clear hW
      refine (lCan x y W hc.symm).mono ?_
      rintro e w1 ⟨rfl, bw1⟩
      have zbw1 := bw1.size
      replace BB := also BB bw1
      replace x_p := x_p.on bw1
      replace x_z := x_z.on bw1
      replace x_t := x_t.on bw1
      have ⟨x_p_0, x_p_1, x_p_2, x_p_3⟩ := x_p
      have ⟨x_z_0, x_z_1, x_z_2, x_z_3⟩ := x_z
      have ⟨x_t_0, x_t_1, x_t_2, x_t_3⟩ := x_t
      go_wp2_with (go_at_call 22; fail)
      refine (lSide s w1 hs.symm).mono ?_
      rintro e w2 ⟨rfl, bw2⟩
      clear x_p_0 x_p_1 x_p_2 x_p_3 x_z_0 x_z_1 x_z_2 x_z_3 x_t_0 x_t_1 x_t_2 x_t_3
      have zbw2 := bw2.size
      replace BB := also BB bw2
      replace x_p := x_p.on bw2
      replace x_z := x_z.on bw2
      replace x_t := x_t.on bw2
      have ⟨x_p_0, x_p_1, x_p_2, x_p_3⟩ := x_p
      have ⟨x_z_0, x_z_1, x_z_2, x_z_3⟩ := x_z
      have ⟨x_t_0, x_t_1, x_t_2, x_t_3⟩ := x_t
      go_wp2
      exact bodyPost_ret (v := .tuple #[.agg #[.int .i64 0, .int .i64 0], .agg #[.int .i64 0, .int .i64 0], .bool false]) (by simp [results, Try.results13, go_sem, *]) rfl (⟨rfl, below_put2 (below_put2 BB (by omega) _ _) (by omega) _ _⟩)
    · skip
      obtain rfl : b = true := by rw [hb]; unfold homeC; rw [hs, hc]; rfl
      have Ha : Hid (a = x % s) := ha
      have Hc : Hid (c = y % s) := hc'
      have Hp : Hid (p = x / s) := hp
      have Hq : Hid (q = y / s) := hq
      clear hb ha hc' hp hq
      have HC1 : Hid (inC x = true) := (canC_true.1 hc).1
      have HC2 : Hid (inC y = true) := (canC_true.1 hc).2
      obtain ⟨W, hW, bW, x_p, x_z, x_t, sW⟩ := bs_222 w (.int .i64 x) (.int .i64 y) (.int .i64 0) (.int .i64 0) (.int .i64 0) (.int .i64 0) 23 23 25
      have zbW := bW.size
      have BB := bW
      go_enter Try.func13, Try.ntmps13
      go_wp2_with (go_at_call 10; fail)
      rw [← hW]
      clear hW
      refine (lCan x y W hc.symm).mono ?_
      rintro e w1 ⟨rfl, bw1⟩
      have zbw1 := bw1.size
      replace BB := also BB bw1
      replace x_p := x_p.on bw1
      replace x_z := x_z.on bw1
      replace x_t := x_t.on bw1
      have ⟨x_p_0, x_p_1, x_p_2, x_p_3⟩ := x_p
      have ⟨x_z_0, x_z_1, x_z_2, x_z_3⟩ := x_z
      have ⟨x_t_0, x_t_1, x_t_2, x_t_3⟩ := x_t
      go_wp2_with (go_at_call 22; fail)
      refine (lSide s w1 hs.symm).mono ?_
      rintro e w2 ⟨rfl, bw2⟩
      clear x_p_0 x_p_1 x_p_2 x_p_3 x_z_0 x_z_1 x_z_2 x_z_3 x_t_0 x_t_1 x_t_2 x_t_3
      have zbw2 := bw2.size
      replace BB := also BB bw2
      replace x_p := x_p.on bw2
      replace x_z := x_z.on bw2
      replace x_t := x_t.on bw2
      have ⟨x_p_0, x_p_1, x_p_2, x_p_3⟩ := x_p
      have ⟨x_z_0, x_z_1, x_z_2, x_z_3⟩ := x_z
      have ⟨x_t_0, x_t_1, x_t_2, x_t_3⟩ := x_t
      go_wp2_with (go_at_call 31; fail)
      refine (lFold x s w2 hs HC1.out Ha.out Hp.out).mono ?_
      rintro e w3 ⟨rfl, bw3⟩
      clear x_p_0 x_p_1 x_p_2 x_p_3 x_z_0 x_z_1 x_z_2 x_z_3 x_t_0 x_t_1 x_t_2 x_t_3
      have zbw3 := bw3.size
      replace BB := also BB bw3
      replace x_p := x_p.on bw3
      replace x_z := x_z.on bw3
      replace x_t := x_t.on bw3
      have ⟨x_p_0, x_p_1, x_p_2, x_p_3⟩ := x_p
      have ⟨x_z_0, x_z_1, x_z_2, x_z_3⟩ := x_z
      have ⟨x_t_0, x_t_1, x_t_2, x_t_3⟩ := x_t
      go_wp2_with (go_at_call 31; fail)
      refine (lFold y s w3 hs HC2.out Hc.out Hq.out).mono ?_
      rintro e w4 ⟨rfl, bw4⟩
      clear x_p_0 x_p_1 x_p_2 x_p_3 x_z_0 x_z_1 x_z_2 x_z_3 x_t_0 x_t_1 x_t_2 x_t_3
      have zbw4 := bw4.size
      replace BB := also BB bw4
      replace x_p := x_p.on bw4
      replace x_z := x_z.on bw4
      replace x_t := x_t.on bw4
      have ⟨x_p_0, x_p_1, x_p_2, x_p_3⟩ := x_p
      have ⟨x_z_0, x_z_1, x_z_2, x_z_3⟩ := x_z
      have ⟨x_t_0, x_t_1, x_t_2, x_t_3⟩ := x_t
      go_wp2
      exact bodyPost_ret (v := .tuple #[.agg #[.int .i64 a, .int .i64 c], .agg #[.int .i64 p, .int .i64 q], .bool true]) (by simp [results, Try.results13, go_sem, *]) rfl (⟨rfl, below_put2 (below_put2 BB (by omega) _ _) (by omega) _ _⟩)
theorem lives6_any (w : World) : Calls Try.prog 12 #[] w fun e w' => e = .returned (.bool true) ∧ Below w.heap.size w w' := by
  go_enter Try.func12, Try.ntmps12
  go_wp2_with (go_at_call 13; refine (lHome (-1) 25 10 _ (b := true) (a := 9) (c := 5) (p := -1) (q := 2) (by decide) rfl rfl rfl rfl).mono ?_; rintro e w1 ⟨rfl, hb⟩)
  go_ret
  exact ⟨rfl, (hb.alloc (by have := hb.size; omega) _).alloc (by have := hb.size; simp; omega) _⟩
end Go.Proofs.Ytnhoaopmnoilbaa
