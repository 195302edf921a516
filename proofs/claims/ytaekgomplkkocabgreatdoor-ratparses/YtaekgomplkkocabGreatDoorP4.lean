/-
  Joined texts, part 4:
  Whole numbers in memory; what package whole's signed and plus answer.
  What package whole's Add, Sub, Neg, Norm and Mul answer.
  What package whole's Of, Sign and Show answer.
  What package whole's Floor answers.
  The laws' own look and cut of layer 4.
  A whole number that comes as an argument, opened; and what the laws of layer 4 import.
  Blocks of three and of four cells: what they hold, and that they can be written.
  What package whole's Cmp answers.
  What nat's gcdSmall and restOf answer.
  What nat's headAt and small answer.
  What nat's between answers.
  The mathematics of foreseen divisions (Lehmer's, by Collins' condition): what the heads of two numbers tell of the numbers. It imports nothing of the program.
  What nat's foresee answers.
-/
import Derived.Test.YtaekgomplkkocabGreatDoorP3
import Derived.Deep.RegionHeld3
import Derived.Test.YtaekgomplkkocabGreatDoorP2
import Derived.Deep.AppendLies
import Derived.Test.YtaekgomplkkocabGreatDoorP1
import Derived.Test.YtaekgomplkkocabGreatDoorCards
import Derived.Test.YtaekgomplkkocabGreatDoorTie
import Derived.Lay
import Derived.Carry
import Derived.SevenTiedAt
import Derived.BigQuiet
namespace Go.Proofs.YtaekgomplkkocabGreatDoor
open Go.RowKit
set_option linter.unusedVariables false

/-- A whole number as it comes: a sign, which does not count of nought, and how much. -/
structure WI (w : World) (n : Bool) (a : Option Addr) (l c : Nat) (z : Int) : Prop where
  ni : NI w a l c z.natAbs
  neg : n = true → z ≤ 0
  pos : n = false → 0 ≤ z
/-- A whole number in its one form. -/
structure WN (w : World) (n : Bool) (a : Option Addr) (l c : Nat) (z : Int) : Prop where
  nd : ND w a l c z.natAbs
  sg : n = decide (z < 0)
theorem WI.below {w w' : World} {n : Bool} {a : Option Addr} {l c : Nat} {z : Int} (h : WI w n a l c z) (hb : Below w.heap.size w w') : WI w' n a l c z := ⟨h.ni.below hb, h.neg, h.pos⟩
theorem WN.below {w w' : World} {n : Bool} {a : Option Addr} {l c : Nat} {z : Int} (h : WN w n a l c z) (hb : Below w.heap.size w w') : WN w' n a l c z := ⟨h.nd.below hb, h.sg⟩
theorem WN.wi {w : World} {n : Bool} {a : Option Addr} {l c : Nat} {z : Int} (h : WN w n a l c z) (K : Nat) (hK : K ≤ 1000000) (hz : z.natAbs < 4294967296 ^ K) : WI w n a l c z :=
  ⟨h.nd.ni K hK hz, fun e => by have := h.sg; rw [e] at this; have := of_decide_eq_true this.symm; omega, fun e => by have := h.sg; rw [e] at this; have := of_decide_eq_false this.symm; omega⟩
/-- The number of a sign and how much. -/
def sgz (n : Bool) (u : Nat) : Int := if n then -(u : Int) else u
theorem sgz_abs (n : Bool) (u : Nat) : (sgz n u).natAbs = u := by unfold sgz; split <;> omega
theorem WI.is {w : World} {n : Bool} {a : Option Addr} {l c : Nat} {z : Int} (h : WI w n a l c z) : z = sgz n z.natAbs := by
  have h1 := h.neg
  have h2 := h.pos
  unfold sgz
  cases n
  · have := h2 rfl; simp; omega
  · have := h1 rfl; simp; omega
theorem wi_of {w : World} {n : Bool} {a : Option Addr} {l c u : Nat} (h : NI w a l c u) : WI w n a l c (sgz n u) := by
  refine ⟨by rw [sgz_abs]; exact h, fun e => ?_, fun e => ?_⟩ <;> subst e <;> simp [sgz] <;> omega
def GotW (w : World) (z : Int) (e : Ending) (w' : World) : Prop := ∃ (n : Bool) (a : Option Addr) (l c : Nat), e = .returned (.agg #[.bool n, .slice a l c]) ∧ WN w' n a l c z ∧ Far w.heap.size a l ∧ Below w.heap.size w w'

theorem WN.put {w : World} {n : Bool} {a : Option Addr} {l c b : Nat} {z : Int} (h : WN w n a l c z) (hn : NA b a l) (i : Nat) (v : Value) : WN (w.setCell ⟨b, i, none⟩ v) n a l c z := ⟨h.nd.put hn i v, h.sg⟩
theorem WI.put {w : World} {n : Bool} {a : Option Addr} {l c b : Nat} {z : Int} (h : WI w n a l c z) (hn : NA b a l) (i : Nat) (v : Value) : WI (w.setCell ⟨b, i, none⟩ v) n a l c z := ⟨h.ni.put hn i v, h.neg, h.pos⟩
theorem WN.put2 {w : World} {n : Bool} {a : Option Addr} {l c b : Nat} {z : Int} (h : WN w n a l c z) (hn : NA b a l) (u v : Value) : WN ((w.setCell ⟨b, 0, none⟩ u).setCell ⟨b, 1, none⟩ v) n a l c z := (h.put hn 0 u).put hn 1 v
theorem WI.put2 {w : World} {n : Bool} {a : Option Addr} {l c b : Nat} {z : Int} (h : WI w n a l c z) (hn : NA b a l) (u v : Value) : WI ((w.setCell ⟨b, 0, none⟩ u).setCell ⟨b, 1, none⟩ v) n a l c z := (h.put hn 0 u).put hn 1 v
theorem below_put2 {B b : Nat} {w w' : World} (h : Below B w w') (hb : B ≤ b) (u v : Value) : Below B w ((w'.setCell ⟨b, 0, none⟩ u).setCell ⟨b, 1, none⟩ v) := (h.setCell hb _).setCell hb _
set_option maxHeartbeats 1000000 in
theorem signed_run (n : Bool) (a : Option Addr) (l c : Nat) (w : World) : Calls Tryz.prog 30 #[.bool n, .slice a l c] w fun e w' => e = .returned (.agg #[.bool (n && decide (0 < l)), .slice a l c]) ∧ Below w.heap.size w w' := by
  cases n
  · go_enter Tryz.func30, Tryz.ntmps30
    go_wp2
    refine bodyPost_ret (v := .agg #[.bool false, .slice a l c]) (by simp [results, Tryz.results30, go_sem, *]) rfl ⟨by simp, (Below.refl _ _).alloc (Nat.le_refl _) _⟩
  · rcases Nat.eq_zero_or_pos l with h0 | h0
    · subst h0
      go_enter Tryz.func30, Tryz.ntmps30
      go_wp2
      refine bodyPost_ret (v := .agg #[.bool false, .slice a 0 c]) (by simp [results, Tryz.results30, go_sem, *]) rfl ⟨by simp, (Below.refl _ _).alloc (Nat.le_refl _) _⟩
    · have h1 : (0 : Int) < l := by omega
      go_enter Tryz.func30, Tryz.ntmps30
      go_wp2
      refine bodyPost_ret (v := .agg #[.bool true, .slice a l c]) (by simp [results, Tryz.results30, go_sem, *]) rfl ⟨by simp [h0], (Below.refl _ _).alloc (Nat.le_refl _) _⟩
/-- The number with this sign, in its one form. -/
def Signed (w : World) (a : Option Addr) (l c : Nat) (z : Int) (e : Ending) (w' : World) : Prop := ∃ n, e = .returned (.agg #[.bool n, .slice a l c]) ∧ WN w' n a l c z ∧ Below w.heap.size w w'
theorem wSigned (n : Bool) (a : Option Addr) (l c u : Nat) (w : World) (h : ND w a l c u) (z : Int) (hz : z = sgz n u) : Calls Tryz.prog 30 #[.bool n, .slice a l c] w (Signed w a l c z) := by
  refine (signed_run n a l c w).mono ?_
  rintro e w' ⟨he, hb⟩
  refine ⟨_, he, ⟨by rw [hz, sgz_abs]; exact h.below hb, ?_⟩, hb⟩
  have hl : 0 < l ↔ 0 < u := by
    rw [h.len]
    constructor
    · intro h0
      rcases Nat.eq_zero_or_pos u with e | e
      · rw [e, wd.nlen_zero] at h0; omega
      · exact e
    · exact wd.nlen_pos
  rw [hz]
  unfold sgz
  cases n
  · simp
  · simp [hl]
theorem add_same (n : Bool) (u v : Nat) : sgz n (u + v) = sgz n u + sgz n v := by unfold sgz; split <;> omega
theorem add_more (n m : Bool) (u v : Nat) (h : n ≠ m) (hle : v ≤ u) : sgz n (u - v) = sgz n u + sgz m v := by
  unfold sgz
  cases n <;> cases m <;> simp_all <;> omega
theorem add_less (n m : Bool) (u v : Nat) (h : n ≠ m) (hle : u ≤ v) : sgz m (v - u) = sgz n u + sgz m v := by
  unfold sgz
  cases n <;> cases m <;> simp_all <;> omega

theorem endW {w W w2 : World} {n : Bool} {a : Option Addr} {l c : Nat} {z : Int} (k : Nat) (hk : w.heap.size ≤ k) (hs : k < W.heap.size) (B : Below w.heap.size w w2) (h : WN w2 n a l c z) (f : Far W.heap.size a l) (u v : Value) :
    GotW w z (.returned (.agg #[.bool n, .slice a l c])) ((w2.setCell ⟨k, 0, none⟩ u).setCell ⟨k, 1, none⟩ v) :=
  ⟨n, a, l, c, rfl, h.put2 (f k hs) u v, f.mono (by omega), below_put2 B hk u v⟩
theorem also {w w1 w2 : World} (h : Below w.heap.size w w1) (k : Below w1.heap.size w1 w2) : Below w.heap.size w w2 := h.trans (k.mono h.size)

set_option maxRecDepth 100000 in
set_option maxHeartbeats 1000000 in
theorem wPlus (n m : Bool) (a b : Option Addr) (la lb ca cb u v : Nat) (w : World) (ha : NI w a la ca u) (hb : NI w b lb cb v) (z : Int) (hz : z = sgz n u + sgz m v) :
    Calls Tryz.prog 67 #[.bool n, .slice a la ca, .bool m, .slice b lb cb] w (GotW w z) := by
  have HZ : Hid _ := hz
  clear hz
  have B0 : Below w.heap.size w (w.alloc (.cells #[.bool false, .slice none 0 0] 25)) := (Below.refl _ _).alloc (Nat.le_refl _) _
  have x0 := bx_new w (.bool false) (.slice none 0 0) 25
  have na := ha.below B0
  have nb := hb.below B0
  obtain ⟨W, hW⟩ : ∃ W, W = w.alloc (.cells #[.bool false, .slice none 0 0] 25) := ⟨_, rfl⟩
  rw [← hW] at B0 x0 na nb
  have hs : w.heap.size < W.heap.size := by rw [hW]; simp
  by_cases hnm : n = m
  · subst hnm
    go_enter Tryz.func67, Tryz.ntmps67
    go_wp2_with (go_at_call 50; fail)
    rw [← hW]
    clear hW
    refine (fAdd a b la lb ca cb u v W na nb).mono ?_
    rintro e w1 ⟨a1, l1, c1, rfl, h1, f1, b1⟩
    go_wp2_with (go_at_call 30; fail)
    refine (wSigned n a1 l1 c1 (u + v) w1 h1 z (by rw [HZ.out, add_same])).mono ?_
    rintro e w2 ⟨n2, rfl, h2, b2⟩
    obtain ⟨k0, k1, k2, k3⟩ := (x0.on b1).on b2
    go_wp2
    exact bodyPost_ret (v := .agg #[.bool n2, .slice a1 l1 c1]) (by simp [results, Tryz.results67, go_sem, *]) rfl (endW _ (Nat.le_refl _) hs (also (also B0 b1) b2) h2 (f1.mono (Nat.le_refl _)) _ _)
  · have hnm' : (n == m) = false := by simpa using hnm
    rcases Nat.lt_or_ge u v with hlt | hge
    · go_enter Tryz.func67, Tryz.ntmps67
      go_wp2_with (go_at_call 92; fail)
      rw [← hW]
      clear hW
      refine (nSubN a b la lb ca cb u v W na nb hlt).mono ?_
      rintro e w1 ⟨rfl, b1⟩
      go_wp2_with (go_at_call 92; fail)
      refine (fSubY b a lb la cb ca v u w1 (nb.below b1) (na.below b1) (Nat.le_of_lt hlt)).mono ?_
      rintro e w2 ⟨a2, l2, c2, rfl, h2, f2, b2⟩
      go_wp2_with (go_at_call 30; fail)
      refine (wSigned m a2 l2 c2 (v - u) w2 h2 z (by rw [HZ.out, add_less n m u v hnm (by omega)])).mono ?_
      rintro e w3 ⟨n3, rfl, h3, b3⟩
      obtain ⟨k0, k1, k2, k3⟩ := ((x0.on b1).on b2).on b3
      go_wp2
      exact bodyPost_ret (v := .agg #[.bool n3, .slice a2 l2 c2]) (by simp [results, Tryz.results67, go_sem, *]) rfl (endW (W := W) _ (Nat.le_refl _) hs (also (also (also B0 b1) b2) b3) h3 (f2.mono b1.size) _ _)
    · go_enter Tryz.func67, Tryz.ntmps67
      go_wp2_with (go_at_call 92; fail)
      rw [← hW]
      clear hW
      refine (fSubY a b la lb ca cb u v W na nb hge).mono ?_
      rintro e w2 ⟨a2, l2, c2, rfl, h2, f2, b2⟩
      go_wp2_with (go_at_call 30; fail)
      refine (wSigned n a2 l2 c2 (u - v) w2 h2 z (by rw [HZ.out, add_more n m u v hnm hge])).mono ?_
      rintro e w3 ⟨n3, rfl, h3, b3⟩
      obtain ⟨k0, k1, k2, k3⟩ := (x0.on b2).on b3
      go_wp2
      exact bodyPost_ret (v := .agg #[.bool n3, .slice a2 l2 c2]) (by simp [results, Tryz.results67, go_sem, *]) rfl (endW (W := W) _ (Nat.le_refl _) hs (also (also B0 b2) b3) h3 f2 _ _)
end Go.Proofs.YtaekgomplkkocabGreatDoor

namespace Go.Proofs.YtaekgomplkkocabGreatDoor
open Go.RowKit
set_option linter.unusedVariables false

theorem box1 (w : World) (x1 y1 z1 z2 : Value) (t1 t2 : TypeId) : Below w.heap.size w ((w.alloc (.cells #[x1, y1] t1)).alloc (.cells #[z1, z2] t2)) ∧ Bx ((w.alloc (.cells #[x1, y1] t1)).alloc (.cells #[z1, z2] t2)) w.heap.size x1 y1 ∧
    Bx ((w.alloc (.cells #[x1, y1] t1)).alloc (.cells #[z1, z2] t2)) (w.heap.size + 1) z1 z2 ∧ w.heap.size + 1 < ((w.alloc (.cells #[x1, y1] t1)).alloc (.cells #[z1, z2] t2)).heap.size := by
  have h1 := (bx_new w x1 y1 t1).on ((Below.refl _ _).alloc (Nat.le_refl _) (.cells #[z1, z2] t2))
  have h2 := bx_new (w.alloc (.cells #[x1, y1] t1)) z1 z2 t2
  rw [World.size_alloc] at h2
  exact ⟨((Below.refl _ _).alloc (Nat.le_refl _) _).alloc (by simp) _, h1, h2, by simp⟩
theorem box2 (w : World) (x1 y1 x2 y2 z1 z2 : Value) (t1 t2 t3 : TypeId) : Below w.heap.size w (((w.alloc (.cells #[x1, y1] t1)).alloc (.cells #[x2, y2] t2)).alloc (.cells #[z1, z2] t3)) ∧ Bx (((w.alloc (.cells #[x1, y1] t1)).alloc (.cells #[x2, y2] t2)).alloc (.cells #[z1, z2] t3)) w.heap.size x1 y1 ∧
    Bx (((w.alloc (.cells #[x1, y1] t1)).alloc (.cells #[x2, y2] t2)).alloc (.cells #[z1, z2] t3)) (w.heap.size + 1) x2 y2 ∧ Bx (((w.alloc (.cells #[x1, y1] t1)).alloc (.cells #[x2, y2] t2)).alloc (.cells #[z1, z2] t3)) (w.heap.size + 1 + 1) z1 z2 ∧
    w.heap.size + 1 + 1 < (((w.alloc (.cells #[x1, y1] t1)).alloc (.cells #[x2, y2] t2)).alloc (.cells #[z1, z2] t3)).heap.size := by
  obtain ⟨h1, h2, h3, h4⟩ := box1 w x1 y1 x2 y2 t1 t2
  have hb : Below ((w.alloc (.cells #[x1, y1] t1)).alloc (.cells #[x2, y2] t2)).heap.size ((w.alloc (.cells #[x1, y1] t1)).alloc (.cells #[x2, y2] t2)) (((w.alloc (.cells #[x1, y1] t1)).alloc (.cells #[x2, y2] t2)).alloc (.cells #[z1, z2] t3)) := (Below.refl _ _).alloc (Nat.le_refl _) _
  have h5 := bx_new ((w.alloc (.cells #[x1, y1] t1)).alloc (.cells #[x2, y2] t2)) z1 z2 t3
  rw [World.size_alloc, World.size_alloc] at h5
  exact ⟨also h1 hb, h2.on hb, h3.on hb, h5, by simp⟩
theorem keepB1 {n : Nat} {v1 v2 : Value} {w0 w w' : World} (h : w.cell? ⟨n, 0, none⟩ = some v1 ∧ w.cell? ⟨n, 1, none⟩ = some v2 ∧ Below w0.heap.size w0 w) (hb : Below w.heap.size w w') : w'.cell? ⟨n, 0, none⟩ = some v1 ∧ w'.cell? ⟨n, 1, none⟩ = some v2 ∧ Below w0.heap.size w0 w' :=
  ⟨cell_on hb h.1, cell_on hb h.2.1, also h.2.2 hb⟩
theorem keepB2 {n : Nat} {v1 v2 v3 v4 : Value} {w0 w w' : World} (h : w.cell? ⟨n, 0, none⟩ = some v1 ∧ w.cell? ⟨n, 1, none⟩ = some v2 ∧ w.cell? ⟨n + 1, 0, none⟩ = some v3 ∧ w.cell? ⟨n + 1, 1, none⟩ = some v4 ∧ Below w0.heap.size w0 w) (hb : Below w.heap.size w w') :
    w'.cell? ⟨n, 0, none⟩ = some v1 ∧ w'.cell? ⟨n, 1, none⟩ = some v2 ∧ w'.cell? ⟨n + 1, 0, none⟩ = some v3 ∧ w'.cell? ⟨n + 1, 1, none⟩ = some v4 ∧ Below w0.heap.size w0 w' :=
  ⟨cell_on hb h.1, cell_on hb h.2.1, cell_on hb h.2.2.1, cell_on hb h.2.2.2.1, also h.2.2.2.2 hb⟩
theorem keepS1 {n k : Nat} {v1 v2 : Value} {w0 w : World} (h : w.cell? ⟨n, 0, none⟩ = some v1 ∧ w.cell? ⟨n, 1, none⟩ = some v2 ∧ Below w0.heap.size w0 w) (hk : n < k) (hB : w0.heap.size ≤ k) (u v : Value) :
    ((w.setCell ⟨k, 0, none⟩ u).setCell ⟨k, 1, none⟩ v).cell? ⟨n, 0, none⟩ = some v1 ∧ ((w.setCell ⟨k, 0, none⟩ u).setCell ⟨k, 1, none⟩ v).cell? ⟨n, 1, none⟩ = some v2 ∧ Below w0.heap.size w0 ((w.setCell ⟨k, 0, none⟩ u).setCell ⟨k, 1, none⟩ v) := by
  have hne : ∀ i j : Nat, (⟨k, i, none⟩ : Addr) ≠ ⟨n, j, none⟩ := fun i j e => by simp only [Addr.mk.injEq] at e; omega
  exact ⟨by rw [World.cell?_setCell_other _ _ _ _ (hne _ _), World.cell?_setCell_other _ _ _ _ (hne _ _)]; exact h.1, by rw [World.cell?_setCell_other _ _ _ _ (hne _ _), World.cell?_setCell_other _ _ _ _ (hne _ _)]; exact h.2.1, below_put2 h.2.2 hB u v⟩
theorem keepS2 {n k : Nat} {v1 v2 v3 v4 : Value} {w0 w : World} (h : w.cell? ⟨n, 0, none⟩ = some v1 ∧ w.cell? ⟨n, 1, none⟩ = some v2 ∧ w.cell? ⟨n + 1, 0, none⟩ = some v3 ∧ w.cell? ⟨n + 1, 1, none⟩ = some v4 ∧ Below w0.heap.size w0 w) (hk : n + 1 < k) (hB : w0.heap.size ≤ k) (u v : Value) :
    ((w.setCell ⟨k, 0, none⟩ u).setCell ⟨k, 1, none⟩ v).cell? ⟨n, 0, none⟩ = some v1 ∧ ((w.setCell ⟨k, 0, none⟩ u).setCell ⟨k, 1, none⟩ v).cell? ⟨n, 1, none⟩ = some v2 ∧ ((w.setCell ⟨k, 0, none⟩ u).setCell ⟨k, 1, none⟩ v).cell? ⟨n + 1, 0, none⟩ = some v3 ∧ ((w.setCell ⟨k, 0, none⟩ u).setCell ⟨k, 1, none⟩ v).cell? ⟨n + 1, 1, none⟩ = some v4 ∧ Below w0.heap.size w0 ((w.setCell ⟨k, 0, none⟩ u).setCell ⟨k, 1, none⟩ v) := by
  obtain ⟨h1, h2, h3, h4, h5⟩ := h
  obtain ⟨a1, a2, _⟩ := keepS1 ⟨h1, h2, h5⟩ (by omega) hB u v
  obtain ⟨b1, b2, b3⟩ := keepS1 ⟨h3, h4, h5⟩ hk hB u v
  exact ⟨a1, a2, b1, b2, b3⟩
theorem Bx.drew {w : World} {b : Nat} {x y : Value} (h : Bx w b x y) : Bx w.drew b x y := ⟨h.c0, h.c1, h.f0, h.f1⟩
theorem sub_sg (n m : Bool) (u v : Nat) : sgz n u - sgz m v = sgz n u + sgz (!m) v := by
  unfold sgz
  cases m <;> simp <;> omega
theorem neg_sg (n : Bool) (u : Nat) : - sgz n u = sgz (!n) u := by
  unfold sgz
  cases n <;> simp

set_option maxRecDepth 100000 in
set_option maxHeartbeats 1000000 in
theorem wAdd (n m : Bool) (a b : Option Addr) (la lb ca cb : Nat) (x y : Int) (w : World) (ha : WI w n a la ca x) (hb : WI w m b lb cb y) (z : Int) (hz : z = x + y) :
    Calls Tryz.prog 48 #[.agg #[.bool n, .slice a la ca], .agg #[.bool m, .slice b lb cb]] w (GotW w z) := by
  have HZ : Hid (z = sgz n x.natAbs + sgz m y.natAbs) := by unfold Hid; rw [hz, ← ha.is, ← hb.is]
  clear hz
  obtain ⟨B0, xa, xb, xz, hs⟩ := box2 w (.bool n) (.slice a la ca) (.bool m) (.slice b lb cb) (.bool false) (.slice none 0 0) 25 25 25
  have na := ha.ni.below B0
  have nb := hb.ni.below B0
  go_enter Tryz.func48, Tryz.ntmps48
  go_wp2_with (go_at_call 67; fail)
  refine (wPlus n m a b la lb ca cb _ _ _ na nb z HZ.out).mono ?_
  rintro e w1 ⟨n1, a1, l1, c1, rfl, h1, f1, b1⟩
  obtain ⟨k0, k1, k2, k3⟩ := xz.on b1
  go_wp2
  exact bodyPost_ret (v := .agg #[.bool n1, .slice a1 l1 c1]) (by simp [results, Tryz.results48, go_sem, *]) rfl (endW _ (by omega) hs (also B0 b1) h1 f1 _ _)

set_option maxRecDepth 100000 in
set_option maxHeartbeats 1000000 in
theorem wNorm (n : Bool) (a : Option Addr) (la ca : Nat) (x : Int) (w : World) (ha : WI w n a la ca x) (z : Int) (hz : z = x) :
    Calls Tryz.prog 66 #[.agg #[.bool n, .slice a la ca]] w (GotW w z) := by
  have HZ : Hid (z = sgz n x.natAbs) := by unfold Hid; rw [hz]; exact ha.is
  clear hz
  obtain ⟨B0, xa, xz, hs⟩ := box1 w (.bool n) (.slice a la ca) (.bool false) (.slice none 0 0) 25 25
  replace B0 := B0.drew
  replace xa := xa.drew
  replace xz := xz.drew
  have na := ha.ni
  go_enter Tryz.func66, Tryz.ntmps66
  go_wp2
  refine wp_region_held_drew (S := (fun w' => w'.cell? ⟨w.heap.size, 0, none⟩ = some (.bool n) ∧ w'.cell? ⟨w.heap.size, 1, none⟩ = some (.slice a la ca) ∧ Below w.heap.size w w')) (by kernel_rfl) ?_ (fun hHeld => ?_)
  · first | exact keepB1 hHeld b2 | exact keepB1 hHeld b1 | exact ⟨xa.c0, xa.c1, B0⟩ | exact keepS1 hHeld (by omega) (by omega) _ _
  refine take_yes (i := 0) (v := ?v0) rfl (by kernel_rfl) (by kernel_rfl) (by kernel_rfl) (fun _ _ _ h => h) (by rfl) (by assumption) ?hy0 ?rest0
  case hy0 => (intro w hSw; (try dsimp only at hSw); first | (go_simp; done) | (go_simp; with_reducible rfl))
  simp only [Act.put, List.setIfInBounds_toArray, List.set_cons_zero, List.set_cons_succ]
  refine take_yes (i := 1) (v := ?v1) rfl (by kernel_rfl) (by kernel_rfl) (by kernel_rfl) (fun _ _ _ h => h) (by rfl) (by assumption) ?hy1 ?rest1
  case hy1 => (intro w hSw; (try dsimp only at hSw); first | (go_simp; done) | (go_simp; with_reducible rfl))
  simp only [Act.put, List.setIfInBounds_toArray, List.set_cons_zero, List.set_cons_succ]
  refine take_yes (i := 2) (v := ?v2) rfl (by kernel_rfl) (by kernel_rfl) (by kernel_rfl) (fun _ _ _ h => h) (by rfl) (by assumption) ?hy2 ?rest2
  case hy2 => (intro w hSw; (try dsimp only at hSw); first | (go_simp; done) | (go_simp; with_reducible rfl))
  simp only [Act.put, List.setIfInBounds_toArray, List.set_cons_zero, List.set_cons_succ]
  refine take_yes (i := 3) (v := ?v3) rfl (by kernel_rfl) (by kernel_rfl) (by kernel_rfl) (fun _ _ _ h => h) (by rfl) (by assumption) ?hy3 ?rest3
  case hy3 => (intro w hSw; (try dsimp only at hSw); first | (go_simp; done) | (go_simp; with_reducible rfl))
  simp only [Act.put, List.setIfInBounds_toArray, List.set_cons_zero, List.set_cons_succ]
  refine take_call (i := 4) rfl (by kernel_rfl) (fun K hK => ?_)
  go_simp
  first
      | (go_at_call 79; refine (fTrim a la ca _ _ (na.below hHeld.2.2)).mono ?_; rintro e w1 ⟨a1, l1, c1, rfl, h1, f1, b1⟩)
      | (go_at_call 30; refine (wSigned n a1 l1 c1 _ _ h1 z HZ.out).mono ?_; rintro e w2 ⟨n2, rfl, h2, b2⟩)
  refine hK.out _ _ ?_ (fun hHeld => ?_)
  · first | exact keepB1 hHeld b2 | exact keepB1 hHeld b1 | exact ⟨xa.c0, xa.c1, B0⟩ | exact keepS1 hHeld (by omega) (by omega) _ _
  clear hK K
  refine take_call (i := 5) rfl (by kernel_rfl) (fun K hK => ?_)
  go_simp
  first
      | (go_at_call 79; refine (fTrim a la ca _ _ (na.below hHeld.2.2)).mono ?_; rintro e w1 ⟨a1, l1, c1, rfl, h1, f1, b1⟩)
      | (go_at_call 30; refine (wSigned n a1 l1 c1 _ _ h1 z HZ.out).mono ?_; rintro e w2 ⟨n2, rfl, h2, b2⟩)
  refine hK.out _ _ ?_ (fun hHeld => ?_)
  · first | exact keepB1 hHeld b2 | exact keepB1 hHeld b1 | exact ⟨xa.c0, xa.c1, B0⟩ | exact keepS1 hHeld (by omega) (by omega) _ _
  clear hK K
  obtain ⟨k0, k1, k2, k3⟩ := (xz.on b1).on b2
  refine take_call (i := 6) rfl (by kernel_rfl) (fun K hK => ?_)
  go_simp
  refine hK.out _ _ ?_ (fun hHeld => ?_)
  · first | exact keepB1 hHeld b2 | exact keepB1 hHeld b1 | exact ⟨xa.c0, xa.c1, B0⟩ | exact keepS1 hHeld (by omega) (by omega) _ _
  clear hK K
  refine wpAnyH_done (by kernel_rfl) ?_ _
  go_wp2
  exact bodyPost_ret (v := .agg #[.bool n2, .slice a1 l1 c1]) (by simp [results, Tryz.results66, go_sem, *]) rfl (endW _ (by omega) hs (also (also B0 b1) b2) h2 f1 _ _)

theorem mul_sg (n m : Bool) (u v : Nat) : sgz n u * sgz m v = sgz (n != m) (u * v) := by
  unfold sgz
  cases n <;> cases m <;> simp [Int.natCast_mul, Int.mul_neg, Int.neg_mul]
end Go.Proofs.YtaekgomplkkocabGreatDoor

namespace Go.Proofs.YtaekgomplkkocabGreatDoor
open Go.RowKit
set_option linter.unusedVariables false

set_option maxRecDepth 100000 in
set_option maxHeartbeats 1000000 in
theorem wOf (x : Int) (w : World) (h1 : -9223372036854775808 ≤ x) (h2 : x ≤ 9223372036854775807) : Calls Tryz.prog 31 #[.int .i64 x] w (GotW w x) := by
  have B0 : Below w.heap.size w (w.alloc (.cells #[.bool false, .slice none 0 0] 25)) := (Below.refl _ _).alloc (Nat.le_refl _) _
  have x0 := bx_new w (.bool false) (.slice none 0 0) 25
  have hs : w.heap.size < (w.alloc (.cells #[.bool false, .slice none 0 0] 25)).heap.size := by simp
  obtain ⟨u, hu⟩ : ∃ u, u = x.natAbs := ⟨_, rfl⟩
  by_cases hx : x < 0
  · have HX : Hid (x = sgz true u) := by unfold Hid sgz; simp; omega
    go_enter Tryz.func31, Tryz.ntmps31
    have hw : wrap64 (-x) = (if x = -9223372036854775808 then x else -x) := by
      unfold wrap64
      split <;> omega
    have E : IntKind.u64.wrap (wrap64 (-x)) = (u : Int) := by
      rw [IntKind.wrap_u64, hw]
      split <;> omega
    have hul : u < 18446744073709551616 := by omega
    clear hw hu
    go_wp2_with (go_at_call 14; fail)
    refine (fOf u hul rfl _).mono ?_
    rintro e w1 ⟨a1, l1, c1, rfl, h1, f1, b1⟩
    go_wp2_with (go_at_call 30; fail)
    refine (wSigned true a1 l1 c1 u w1 h1 x HX.out).mono ?_
    rintro e w2 ⟨n2, rfl, h2, b2⟩
    obtain ⟨k0, k1, k2, k3⟩ := (x0.on b1).on b2
    go_wp2
    exact bodyPost_ret (v := .agg #[.bool n2, .slice a1 l1 c1]) (by simp [results, Tryz.results31, go_sem, *]) rfl (endW _ (Nat.le_refl _) hs (also (also B0 b1) b2) h2 f1 _ _)
  · have HX : Hid (x = sgz false u) := by unfold Hid sgz; simp; omega
    go_enter Tryz.func31, Tryz.ntmps31
    go_wp2_with (go_at_call 14; fail)
    refine (fOf u (by omega) (show x = (u : Int) by omega) _).mono ?_
    rintro e w1 ⟨a1, l1, c1, rfl, h1, f1, b1⟩
    go_wp2_with (go_at_call 30; fail)
    refine (wSigned false a1 l1 c1 u w1 h1 x HX.out).mono ?_
    rintro e w2 ⟨n2, rfl, h2, b2⟩
    obtain ⟨k0, k1, k2, k3⟩ := (x0.on b1).on b2
    clear hu
    go_wp2
    exact bodyPost_ret (v := .agg #[.bool n2, .slice a1 l1 c1]) (by simp [results, Tryz.results31, go_sem, *]) rfl (endW _ (Nat.le_refl _) hs (also (also B0 b1) b2) h2 f1 _ _)
theorem bt_zero {u : Nat} : bt.nlen u = 0 ↔ u = 0 := by
  constructor
  · intro h
    have := bt.nlen_lt u
    rw [h] at this
    simpa using this
  · rintro rfl
    exact bt.nlen_zero
set_option maxRecDepth 100000 in
set_option maxHeartbeats 1000000 in
theorem wSign (n : Bool) (a : Option Addr) (la ca : Nat) (x : Int) (w : World) (ha : WI w n a la ca x) {s : Int} (hs : s = x.sign) :
    Calls Tryz.prog 45 #[.agg #[.bool n, .slice a la ca]] w fun e w' => e = .returned (.int .i64 s) ∧ Below w.heap.size w w' := by
  have B0 : Below w.heap.size w (w.alloc (.cells #[.bool n, .slice a la ca] 25)) := (Below.refl _ _).alloc (Nat.le_refl _) _
  have na := ha.ni.below B0
  obtain ⟨k, hk⟩ : ∃ k, k = bt.nlen x.natAbs := ⟨_, rfl⟩
  have HK : Hid _ := hk
  have hk0 : k = 0 ↔ x = 0 := by rw [hk, bt_zero]; omega
  by_cases h0 : x = 0
  · obtain rfl : k = 0 := hk0.2 h0
    obtain rfl : s = 0 := by rw [hs, h0]; rfl
    clear hk hk0 hs
    go_enter Tryz.func45, Tryz.ntmps45
    go_wp2_with (go_at_call 63; refine (nBits a la ca _ _ na HK.out).mono ?_; rintro e w' ⟨rfl, hw⟩; subst hw)
    go_ret
    exact ⟨rfl, B0⟩
  · have hk1 : ¬ (k : Int) = 0 := by omega
    cases n
    · have := ha.pos rfl
      obtain rfl : s = 1 := by rw [hs]; exact Int.sign_eq_one_of_pos (by omega)
      clear hk hk0 hs
      go_enter Tryz.func45, Tryz.ntmps45
      go_wp2_with (go_at_call 63; refine (nBits a la ca _ _ na HK.out).mono ?_; rintro e w' ⟨rfl, hw⟩; subst hw)
      go_ret
      exact ⟨rfl, B0⟩
    · have := ha.neg rfl
      obtain rfl : s = -1 := by rw [hs]; exact Int.sign_eq_neg_one_of_neg (by omega)
      clear hk hk0 hs
      go_enter Tryz.func45, Tryz.ntmps45
      go_wp2_with (go_at_call 63; refine (nBits a la ca _ _ na HK.out).mono ?_; rintro e w' ⟨rfl, hw⟩; subst hw)
      go_ret
      exact ⟨rfl, B0⟩
theorem dlen_le {u l : Nat} (h : u < 4294967296 ^ l) : dlen u ≤ 10 * l + 1 := by
  obtain ⟨h1, h2, h3⟩ := isDec_dlen u
  rcases h3 with h3 | h3
  · omega
  · rcases Nat.lt_or_ge (10 * l) (dlen u - 1) with h4 | h4
    · have a1 := Nat.pow_le_pow_right (n := 10) (by decide) (show 10 * l ≤ dlen u - 1 by omega)
      have a2 : 4294967296 ^ l ≤ (10 ^ 10) ^ l := Nat.pow_le_pow_left (by decide) l
      rw [← Nat.pow_mul] at a2
      omega
    · omega
/-- A whole number's text. -/
def decZ (z : Int) : ByteArray := if z < 0 then ⟨#[45]⟩ ++ decS z.natAbs else decS z.natAbs
set_option maxRecDepth 100000 in
set_option maxHeartbeats 1000000 in
theorem wShow (n : Bool) (a : Option Addr) (la ca : Nat) (x : Int) (w : World) (ha : WI w n a la ca x) {s : ByteArray} (hs : s = decZ x) :
    Calls Tryz.prog 37 #[.agg #[.bool n, .slice a la ca]] w fun e w' => e = .returned (.string s) ∧ Below w.heap.size w w' := by
  have B0 : Below w.heap.size w (w.alloc (.cells #[.bool n, .slice a la ca] 25)) := (Below.refl _ _).alloc (Nat.le_refl _) _
  have x0 := bx_new w (.bool n) (.slice a la ca) 25
  have wa := ha.below B0
  obtain ⟨t, ht⟩ : ∃ t, t = decS x.natAbs := ⟨_, rfl⟩
  have HT : Hid _ := ht
  have hsz : ¬ 9223372036854775807 < 1 + t.size := by
    rw [ht, decS_size]
    have := dlen_le ha.ni.lt
    have := ha.ni.few
    omega
  by_cases hx : x < 0
  · obtain rfl : s = ⟨#[45]⟩ ++ t := by rw [hs]; unfold decZ; rw [if_pos hx, ht]
    have HS : Hid ((-1 : Int) = x.sign) := (Int.sign_eq_neg_one_of_neg hx).symm
    clear hs ht
    go_enter Tryz.func37, Tryz.ntmps37
    go_wp2_with (go_at_call 45; fail)
    refine (wSign n a la ca x _ wa HS.out).mono ?_
    rintro e w1 ⟨rfl, b1⟩
    obtain ⟨k0, k1, k2, k3⟩ := x0.on b1
    go_wp2_with (go_at_call 38; fail)
    refine (nShow a la ca _ _ (wa.below b1).ni HT.out).mono ?_
    rintro e w2 ⟨rfl, b2⟩
    go_wp2
    go_ret
    exact ⟨rfl, also (also B0 b1) b2⟩
  · obtain rfl : s = t := by rw [hs]; unfold decZ; rw [if_neg hx, ht]
    obtain ⟨g, hg⟩ : ∃ g, g = x.sign := ⟨_, rfl⟩
    have HS : Hid _ := hg
    have hg0 : ¬ g < 0 := by
      rw [hg]
      rcases Int.lt_or_gt_of_ne (show x ≠ -1 by omega) with h | h
      · omega
      · have := Int.sign_nonneg_iff.2 (show 0 ≤ x by omega)
        omega
    clear hs ht hg
    go_enter Tryz.func37, Tryz.ntmps37
    go_wp2_with (go_at_call 45; fail)
    refine (wSign n a la ca x _ wa HS.out).mono ?_
    rintro e w1 ⟨rfl, b1⟩
    obtain ⟨k0, k1, k2, k3⟩ := x0.on b1
    go_wp2_with (go_at_call 38; fail)
    refine (nShow a la ca _ _ (wa.below b1).ni HT.out).mono ?_
    rintro e w2 ⟨rfl, b2⟩
    go_wp2
    go_ret
    exact ⟨rfl, also (also B0 b1) b2⟩
end Go.Proofs.YtaekgomplkkocabGreatDoor

namespace Go.Proofs.YtaekgomplkkocabGreatDoor
open Go.RowKit
set_option linter.unusedVariables false

/-- The greatest whole number that is not above a quotient, and what is left. -/
def flQ (x y : Int) : Int := x.sign * y.sign * ((x.natAbs / y.natAbs : Nat) : Int) - (if x.sign * y.sign < 0 ∧ x.natAbs % y.natAbs ≠ 0 then 1 else 0)
def flR (x y : Int) : Int := x - flQ x y * y
theorem sgz_sign (n : Bool) (u : Nat) : (sgz n u).sign = if u = 0 then 0 else if n then -1 else 1 := by
  unfold sgz
  by_cases h : u = 0
  · subst h; cases n <;> simp
  · rw [if_neg h]
    cases n
    · simp only [Bool.false_eq_true, if_false]; exact Int.sign_eq_one_of_pos (by omega)
    · simp only [if_true]; exact Int.sign_eq_neg_one_of_neg (by omega)
theorem fl_more (n m : Bool) (u v : Nat) (hv : 0 < v) (hnm : n ≠ m) (hR : 0 < u % v) : flQ (sgz n u) (sgz m v) = sgz true (u / v + 1) ∧ flR (sgz n u) (sgz m v) = sgz m (v - u % v) := by
  have hu : u ≠ 0 := by rintro rfl; simp at hR
  have hv' : v ≠ 0 := by omega
  have hlt := Nat.mod_lt u hv
  have e : (u : Int) = v * (u / v : Nat) + (u % v : Nat) := by rw [← Int.natCast_mul, ← Int.natCast_add, Nat.div_add_mod]
  have hQ : flQ (sgz n u) (sgz m v) = sgz true (u / v + 1) := by
    unfold flQ
    rw [sgz_sign, sgz_sign, sgz_abs, sgz_abs, if_neg hu, if_neg hv']
    have hR' : u % v ≠ 0 := by omega
    cases n <;> cases m
    · exact absurd rfl hnm
    · simp only [Bool.false_eq_true, if_false, if_true, sgz]
      rw [if_pos ⟨by decide, hR'⟩]
      omega
    · simp only [Bool.false_eq_true, if_false, if_true, sgz]
      rw [if_pos ⟨by decide, hR'⟩]
      omega
    · exact absurd rfl hnm
  refine ⟨hQ, ?_⟩
  unfold flR
  rw [hQ]
  have es : ((v - u % v : Nat) : Int) = v - (u % v : Nat) := Int.ofNat_sub (by omega)
  have ea : ((u / v + 1 : Nat) : Int) = (u / v : Nat) + 1 := by simp
  clear hQ
  unfold sgz
  rw [es, ea]
  clear es ea hlt hR
  generalize ((u / v : Nat) : Int) = Q at e ⊢
  generalize ((u % v : Nat) : Int) = R at e ⊢
  cases n <;> cases m
  · exact absurd rfl hnm
  · simp only [Bool.false_eq_true, if_false, if_true]; rw [e]; grind
  · simp only [Bool.false_eq_true, if_false, if_true]; rw [e]; grind
  · exact absurd rfl hnm
theorem fl_less (n m : Bool) (u v : Nat) (hv : 0 < v) (h : ¬ (n ≠ m ∧ 0 < u % v)) : flQ (sgz n u) (sgz m v) = sgz (n != m) (u / v) ∧ flR (sgz n u) (sgz m v) = sgz m (u % v) := by
  have hv' : v ≠ 0 := by omega
  have hlt := Nat.mod_lt u hv
  by_cases hu : u = 0
  · subst hu
    unfold flR flQ
    rw [sgz_sign, sgz_sign, sgz_abs, sgz_abs]
    cases n <;> cases m <;> simp [sgz]
  have e : (u : Int) = v * (u / v : Nat) + (u % v : Nat) := by rw [← Int.natCast_mul, ← Int.natCast_add, Nat.div_add_mod]
  have hQ : flQ (sgz n u) (sgz m v) = sgz (n != m) (u / v) := by
    unfold flQ
    rw [sgz_sign, sgz_sign, sgz_abs, sgz_abs, if_neg hu, if_neg hv']
    cases n <;> cases m
    · simp only [Bool.false_eq_true, if_false, sgz, bne_self_eq_false]
      rw [if_neg (by rintro ⟨h, _⟩; exact absurd h (by decide))]
      omega
    · have hR : u % v = 0 := by
        rcases Nat.eq_zero_or_pos (u % v) with z | z
        · exact z
        · exact absurd ⟨by decide, z⟩ h
      simp only [Bool.false_eq_true, if_false, if_true, sgz, show (false != true) = true from rfl]
      rw [if_neg (by rintro ⟨_, h⟩; exact h hR)]
      omega
    · have hR : u % v = 0 := by
        rcases Nat.eq_zero_or_pos (u % v) with z | z
        · exact z
        · exact absurd ⟨by decide, z⟩ h
      simp only [Bool.false_eq_true, if_false, if_true, sgz, show (true != false) = true from rfl]
      rw [if_neg (by rintro ⟨_, h⟩; exact h hR)]
      omega
    · simp only [Bool.false_eq_true, if_false, if_true, sgz, bne_self_eq_false]
      rw [if_neg (by rintro ⟨h, _⟩; exact absurd h (by decide))]
      omega
  refine ⟨hQ, ?_⟩
  unfold flR
  rw [hQ]
  have hR0 : n ≠ m → ((u % v : Nat) : Int) = 0 := fun hn => by
    rcases Nat.eq_zero_or_pos (u % v) with z | z
    · rw [z]; rfl
    · exact absurd ⟨hn, z⟩ h
  clear hQ h hlt
  unfold sgz
  generalize ((u / v : Nat) : Int) = Q at e ⊢
  generalize ((u % v : Nat) : Int) = R at e hR0 ⊢
  cases n <;> cases m
  · simp only [Bool.false_eq_true, if_false, bne_self_eq_false]; rw [e]; grind
  · have := hR0 (by decide); simp only [Bool.false_eq_true, if_false, if_true, show (false != true) = true from rfl]; rw [e]; grind
  · have := hR0 (by decide); simp only [Bool.false_eq_true, if_false, if_true, show (true != false) = true from rfl]; rw [e]; grind
  · simp only [Bool.false_eq_true, if_false, if_true, bne_self_eq_false]; rw [e]; grind

theorem ND.drew {w : World} {a : Option Addr} {l c u : Nat} (h : ND w a l c u) : ND w.drew a l c u := h.below ((Below.refl _ _).drew)
def GotFl (w : World) (q r : Int) (e : Ending) (w' : World) : Prop := ∃ (n1 : Bool) (a1 : Option Addr) (l1 c1 : Nat) (n2 : Bool) (a2 : Option Addr) (l2 c2 : Nat), e = .returned (.tuple #[.agg #[.bool n1, .slice a1 l1 c1], .agg #[.bool n2, .slice a2 l2 c2], .int .i64 0]) ∧
  WN w' n1 a1 l1 c1 q ∧ WN w' n2 a2 l2 c2 r ∧ Far w.heap.size a1 l1 ∧ Far w.heap.size a2 l2 ∧ Below w.heap.size w w'
theorem box3 (w : World) (x1 y1 x2 y2 z1 z2 s1 s2 : Value) (t1 t2 t3 t4 : TypeId) : ∃ W, W = (((w.alloc (.cells #[x1, y1] t1)).alloc (.cells #[x2, y2] t2)).alloc (.cells #[z1, z2] t3)).alloc (.cells #[s1, s2] t4) ∧ Below w.heap.size w W ∧ Bx W w.heap.size x1 y1 ∧ Bx W (w.heap.size + 1) x2 y2 ∧ Bx W (w.heap.size + 1 + 1) z1 z2 ∧ Bx W (w.heap.size + 1 + 1 + 1) s1 s2 ∧ w.heap.size + 1 + 1 + 1 < W.heap.size := by
  obtain ⟨h1, h2, h3, h4, h5⟩ := box2 w x1 y1 x2 y2 z1 z2 t1 t2 t3
  have hb := (Below.refl (((w.alloc (.cells #[x1, y1] t1)).alloc (.cells #[x2, y2] t2)).alloc (.cells #[z1, z2] t3)).heap.size (((w.alloc (.cells #[x1, y1] t1)).alloc (.cells #[x2, y2] t2)).alloc (.cells #[z1, z2] t3))).alloc (Nat.le_refl _) (.cells #[s1, s2] t4)
  have h6 := bx_new (((w.alloc (.cells #[x1, y1] t1)).alloc (.cells #[x2, y2] t2)).alloc (.cells #[z1, z2] t3)) s1 s2 t4
  rw [World.size_alloc, World.size_alloc, World.size_alloc] at h6
  exact ⟨_, rfl, also h1 hb, h2.on hb, h3.on hb, h4.on hb, h6, by simp⟩

set_option maxRecDepth 100000 in
set_option maxHeartbeats 1000000 in
theorem wFloor0 (n m : Bool) (a b : Option Addr) (la lb ca cb : Nat) (x y : Int) (w : World) (ha : WI w n a la ca x) (hb : WI w m b lb cb y) (h0 : y = 0) :
    Calls Tryz.prog 68 #[.agg #[.bool n, .slice a la ca], .agg #[.bool m, .slice b lb cb]] w fun e w' => e = .returned (.tuple #[.agg #[.bool false, .slice none 0 0], .agg #[.bool false, .slice none 0 0], .int .i64 3]) ∧ Below w.heap.size w w' := by
  obtain ⟨W, hW, B0, xa, xb, x4, x5, hs⟩ := box3 w (.bool n) (.slice a la ca) (.bool m) (.slice b lb cb) (.bool false) (.slice none 0 0) (.bool false) (.slice none 0 0) 25 25 25 25
  have na := ha.ni.below B0
  have nb := hb.ni.below B0
  go_enter Tryz.func68, Tryz.ntmps68
  go_wp2_with (go_at_call 65; fail)
  rw [← hW]
  refine (nDiv0 a b la lb ca cb _ _ W na nb (by omega)).mono ?_
  rintro e w1 ⟨rfl, hw⟩
  subst hw
  obtain ⟨k0, k1, k2, k3⟩ := x4
  obtain ⟨j0, j1, j2, j3⟩ := x5
  clear hW
  go_wp2
  exact bodyPost_ret (v := .tuple #[.agg #[.bool false, .slice none 0 0], .agg #[.bool false, .slice none 0 0], .int .i64 3]) (by simp [results, Tryz.results68, go_sem, *]) rfl ⟨rfl, below_put2 (below_put2 B0 (by omega) _ _) (by omega) _ _⟩

theorem endFl {w W w6 : World} {n5 n6 : Bool} {aq ar : Option Addr} {lq cq lr cr k : Nat} {Q R : Int} (hk : w.heap.size ≤ k) (hs : k + 1 < W.heap.size) (B : Below w.heap.size w w6) (hq : WN w6 n5 aq lq cq Q) (hr : WN w6 n6 ar lr cr R) (fq : Far W.heap.size aq lq) (fr : Far W.heap.size ar lr) (u v u' v' : Value) :
    GotFl w Q R (.returned (.tuple #[.agg #[.bool n5, .slice aq lq cq], .agg #[.bool n6, .slice ar lr cr], .int .i64 0])) ((((w6.setCell ⟨k, 0, none⟩ u).setCell ⟨k, 1, none⟩ v).setCell ⟨k + 1, 0, none⟩ u').setCell ⟨k + 1, 1, none⟩ v') :=
  ⟨n5, aq, lq, cq, n6, ar, lr, cr, rfl, (hq.put2 (fq k (by omega)) u v).put2 (fq (k + 1) hs) u' v', (hr.put2 (fr k (by omega)) u v).put2 (fr (k + 1) hs) u' v', fq.mono (by omega), fr.mono (by omega), below_put2 (below_put2 B hk u v) (by omega) u' v'⟩
set_option maxRecDepth 100000 in
set_option maxHeartbeats 2000000 in
theorem wFloor (n m : Bool) (a b : Option Addr) (la lb ca cb : Nat) (x y : Int) (w : World) (ha : WI w n a la ca x) (hb : WI w m b lb cb y) (h0 : y ≠ 0) (Q R : Int) (hQ0 : Q = flQ x y) (hR0 : R = flR x y) :
    Calls Tryz.prog 68 #[.agg #[.bool n, .slice a la ca], .agg #[.bool m, .slice b lb cb]] w (GotFl w Q R) := by
  obtain ⟨W, hW, B0, xa, xb, x4, x5, hs⟩ := box3 w (.bool n) (.slice a la ca) (.bool m) (.slice b lb cb) (.bool false) (.slice none 0 0) (.bool false) (.slice none 0 0) 25 25 25 25
  have na := ha.ni.below B0
  have nb := hb.ni.below B0
  have ex := ha.is
  have ey := hb.is
  obtain ⟨u, hu⟩ : ∃ u, u = x.natAbs := ⟨_, rfl⟩
  obtain ⟨v, hv⟩ : ∃ v, v = y.natAbs := ⟨_, rfl⟩
  have hv0 : 0 < v := by omega
  rw [← hu] at na ex
  rw [← hv] at nb ey
  rw [ex, ey] at hQ0 hR0
  have HD := fDiv a b la lb ca cb u v W na nb hv0
  obtain ⟨q, hq⟩ : ∃ q, q = u / v := ⟨_, rfl⟩
  obtain ⟨r, hr⟩ : ∃ r, r = u % v := ⟨_, rfl⟩
  have hrv : r < v := by rw [hr]; exact Nat.mod_lt _ hv0
  have hqu : q ≤ u := by rw [hq]; exact Nat.div_le_self _ _
  have hul := na.lt
  have hla := na.few
  have hvl := nb.lt
  have hlb := nb.few
  have hM := fl_more n m u v hv0
  have hL := fl_less n m u v hv0
  rw [← hq, ← hr] at HD hM hL
  have HDD : Hid _ := HD
  clear HD hq hr ex ey hu hv ha hb
  by_cases hc : n ≠ m ∧ 0 < r
  · obtain ⟨hnm, hr0⟩ := hc
    obtain ⟨e1, e2⟩ := hM hnm hr0
    have HQ : Hid (Q = sgz true (q + 1)) := hQ0.trans e1
    have HR : Hid (R = sgz m (v - r)) := hR0.trans e2
    clear hM hL hQ0 hR0 e1 e2
    obtain rfl : m = !n := by cases n <;> cases m <;> simp_all
    go_enter Tryz.func68, Tryz.ntmps68
    go_wp2_with (go_at_call 65; fail)
    rw [← hW]
    clear hW
    refine (show Calls _ _ _ _ (GotBF W q r) from HDD.out).mono ?_
    rintro e w1 ⟨aq, lq, cq, ar, lr, cr, rfl, hq, hr, fq, fr, b1⟩
    obtain ⟨k0, k1, k2, k3⟩ := xa.on b1
    obtain ⟨j0, j1, j2, j3⟩ := xb.on b1
    have hlr : (0 : Int) < lr := by rw [hr.len]; have := wd.nlen_pos hr0; omega
    have nq := hq.ni la hla (by omega)
    go_wp2_with (go_at_call 14; fail)
    refine (fOf 1 (by decide) rfl w1).mono ?_
    rintro e w2 ⟨ao, lo, co, rfl, ho, fo, b2⟩
    go_wp2_with (go_at_call 50; fail)
    refine (fAdd aq ao lq lo cq co q 1 w2 (nq.below b2) (ho.ni 1 (by decide) (by decide))).mono ?_
    rintro e w3 ⟨aS, lS, cS, rfl, hS, fs, b3⟩
    have nr := ((hr.ni lb hlb (by omega)).below b2).below b3
    have nb3 := ((nb.below b1).below b2).below b3
    obtain ⟨k0, k1, k2, k3⟩ := ((xa.on b1).on b2).on b3
    obtain ⟨j0, j1, j2, j3⟩ := ((xb.on b1).on b2).on b3
    go_wp2_with (go_at_call 92; fail)
    refine (fSubY b ar lb lr cb cr v r w3 nb3 nr (by omega)).mono ?_
    rintro e w4 ⟨ad, ld, cd, rfl, hd, fd, b4⟩
    have B4 := also (also (also (also B0 b1) b2) b3) b4
    replace B0 := B4.drew
    replace xa := ((((xa.on b1).on b2).on b3).on b4).drew
    replace xb := ((((xb.on b1).on b2).on b3).on b4).drew
    replace x4 := ((((x4.on b1).on b2).on b3).on b4).drew
    replace x5 := ((((x5.on b1).on b2).on b3).on b4).drew
    have hq := (hS.below b4).drew
    replace hd := hd.drew
    clear na nb nr nb3 nq ho k0 k1 k2 k3 j0 j1 j2 j3
    go_wp2
    refine wp_region_held_drew (S := (fun w' => w'.cell? ⟨w.heap.size, 0, none⟩ = some (.bool n) ∧ w'.cell? ⟨w.heap.size, 1, none⟩ = some (.slice a la ca) ∧ w'.cell? ⟨w.heap.size + 1, 0, none⟩ = some (.bool (!n)) ∧ w'.cell? ⟨w.heap.size + 1, 1, none⟩ = some (.slice b lb cb) ∧ Below w.heap.size w w')) (by kernel_rfl) ?_ (fun hHeld => ?_)
    · first | exact keepB2 hHeld b6 | exact keepB2 hHeld b5 | exact ⟨xa.c0, xa.c1, xb.c0, xb.c1, B0⟩ | exact keepS2 hHeld (by omega) (by omega) _ _
    refine take_yes (i := 0) (v := ?vx0) rfl (by kernel_rfl) (by kernel_rfl) (by kernel_rfl) (fun _ _ _ h => h) (by rfl) (by assumption) ?hyx0 ?restx0
    case hyx0 => (intro w hSw; (try dsimp only at hSw); first | (go_simp; done) | (go_simp; with_reducible rfl))
    simp only [Act.put, List.setIfInBounds_toArray, List.set_cons_zero, List.set_cons_succ]
    refine take_yes (i := 1) (v := ?vx1) rfl (by kernel_rfl) (by kernel_rfl) (by kernel_rfl) (fun _ _ _ h => h) (by rfl) (by assumption) ?hyx1 ?restx1
    case hyx1 => (intro w hSw; (try dsimp only at hSw); first | (go_simp; done) | (go_simp; with_reducible rfl))
    simp only [Act.put, List.setIfInBounds_toArray, List.set_cons_zero, List.set_cons_succ]
    refine take_yes (i := 3) (v := ?vx3) rfl (by kernel_rfl) (by kernel_rfl) (by kernel_rfl) (fun _ _ _ h => h) (by rfl) (by assumption) ?hyx3 ?restx3
    case hyx3 => (intro w hSw; (try dsimp only at hSw); first | (go_simp; done) | (go_simp; with_reducible rfl))
    simp only [Act.put, List.setIfInBounds_toArray, List.set_cons_zero, List.set_cons_succ]
    refine take_yes (i := 4) (v := ?vx4) rfl (by kernel_rfl) (by kernel_rfl) (by kernel_rfl) (fun _ _ _ h => h) (by rfl) (by assumption) ?hyx4 ?restx4
    case hyx4 => (intro w hSw; (try dsimp only at hSw); first | (go_simp; done) | (go_simp; with_reducible rfl))
    simp only [Act.put, List.setIfInBounds_toArray, List.set_cons_zero, List.set_cons_succ]
    refine take_yes (i := 5) (v := ?vx5) rfl (by kernel_rfl) (by kernel_rfl) (by kernel_rfl) (fun _ _ _ h => h) (by rfl) (by assumption) ?hyx5 ?restx5
    case hyx5 => (intro w hSw; (try dsimp only at hSw); first | (go_simp; done) | (go_simp; with_reducible rfl))
    simp only [Act.put, List.setIfInBounds_toArray, List.set_cons_zero, List.set_cons_succ]
    refine take_call (i := 2) rfl (by kernel_rfl) (fun K hK => ?_)
    go_simp
    first
    | (go_at_call_of 30 [Value.slice aS lS cS]; refine (wSigned true aS lS cS _ _ hq Q HQ.out).mono ?_; rintro e w5 ⟨n5, rfl, h5, b5⟩)
    | (go_at_call 30; refine (wSigned (!n) ad ld cd _ _ (hd.below b5) R HR.out).mono ?_; rintro e w6 ⟨n6, rfl, h6, b6⟩)
    refine hK.out _ _ ?_ (fun hHeld => ?_)
    · first | exact keepB2 hHeld b6 | exact keepB2 hHeld b5 | exact ⟨xa.c0, xa.c1, xb.c0, xb.c1, B0⟩ | exact keepS2 hHeld (by omega) (by omega) _ _
    clear hK K
    refine take_call (i := 6) rfl (by kernel_rfl) (fun K hK => ?_)
    go_simp
    first
    | (go_at_call_of 30 [Value.slice aS lS cS]; refine (wSigned true aS lS cS _ _ hq Q HQ.out).mono ?_; rintro e w5 ⟨n5, rfl, h5, b5⟩)
    | (go_at_call 30; refine (wSigned (!n) ad ld cd _ _ (hd.below b5) R HR.out).mono ?_; rintro e w6 ⟨n6, rfl, h6, b6⟩)
    refine hK.out _ _ ?_ (fun hHeld => ?_)
    · first | exact keepB2 hHeld b6 | exact keepB2 hHeld b5 | exact ⟨xa.c0, xa.c1, xb.c0, xb.c1, B0⟩ | exact keepS2 hHeld (by omega) (by omega) _ _
    clear hK K
    obtain ⟨k0, k1, k2, k3⟩ := (x4.on b5).on b6
    obtain ⟨j0, j1, j2, j3⟩ := (x5.on b5).on b6
    refine take_call (i := 7) rfl (by kernel_rfl) (fun K hK => ?_)
    go_simp
    refine hK.out _ _ ?_ (fun hHeld => ?_)
    · first | exact keepB2 hHeld b6 | exact keepB2 hHeld b5 | exact ⟨xa.c0, xa.c1, xb.c0, xb.c1, B0⟩ | exact keepS2 hHeld (by omega) (by omega) _ _
    clear hK K
    refine take_call (i := 8) rfl (by kernel_rfl) (fun K hK => ?_)
    go_simp
    refine hK.out _ _ ?_ (fun hHeld => ?_)
    · first | exact keepB2 hHeld b6 | exact keepB2 hHeld b5 | exact ⟨xa.c0, xa.c1, xb.c0, xb.c1, B0⟩ | exact keepS2 hHeld (by omega) (by omega) _ _
    clear hK K
    refine take_yes (i := 9) (v := ?vx9) rfl (by kernel_rfl) (by kernel_rfl) (by kernel_rfl) (fun _ _ _ h => h) (by rfl) (by assumption) ?hyx9 ?restx9
    case hyx9 => (intro w hSw; (try dsimp only at hSw); first | (go_simp; done) | (go_simp; with_reducible rfl))
    simp only [Act.put, List.setIfInBounds_toArray, List.set_cons_zero, List.set_cons_succ]
    refine wpAnyH_done (by kernel_rfl) ?_ _
    go_wp2
    exact bodyPost_ret (v := .tuple #[.agg #[.bool n5, .slice aS lS cS], .agg #[.bool n6, .slice ad ld cd], .int .i64 0]) (by simp [results, Tryz.results68, go_sem, *]) rfl (endFl (W := W) (by omega) hs (also (also B0 b5) b6) (h5.below b6) h6 (fs.mono (Nat.le_trans b1.size b2.size)) (fd.mono (Nat.le_trans (Nat.le_trans b1.size b2.size) b3.size)) _ _ _ _)
  · obtain ⟨e1, e2⟩ := hL hc
    have HQ : Hid (Q = sgz (n != m) q) := hQ0.trans e1
    have HR : Hid (R = sgz m r) := hR0.trans e2
    clear hM hL hQ0 hR0 e1 e2
    go_enter Tryz.func68, Tryz.ntmps68
    go_wp2_with (go_at_call 65; fail)
    rw [← hW]
    clear hW
    refine (show Calls _ _ _ _ (GotBF W q r) from HDD.out).mono ?_
    rintro e w1 ⟨aq, lq, cq, ar, lr, cr, rfl, hq, hr, fq, fr, b1⟩
    obtain ⟨k0, k1, k2, k3⟩ := xa.on b1
    obtain ⟨j0, j1, j2, j3⟩ := xb.on b1
    have B4 := also B0 b1
    replace B0 := B4.drew
    replace xa := (xa.on b1).drew
    replace xb := (xb.on b1).drew
    replace x4 := (x4.on b1).drew
    replace x5 := (x5.on b1).drew
    replace hq := hq.drew
    replace hr := hr.drew
    by_cases hnm : n = m
    · subst hnm
      rw [bne_self_eq_false] at HQ
      go_wp2
      refine wp_region_held_drew (S := (fun w' => w'.cell? ⟨w.heap.size, 0, none⟩ = some (.bool n) ∧ w'.cell? ⟨w.heap.size, 1, none⟩ = some (.slice a la ca) ∧ w'.cell? ⟨w.heap.size + 1, 0, none⟩ = some (.bool n) ∧ w'.cell? ⟨w.heap.size + 1, 1, none⟩ = some (.slice b lb cb) ∧ Below w.heap.size w w')) (by kernel_rfl) ?_ (fun hHeld => ?_)
      · first | exact keepB2 hHeld b6 | exact keepB2 hHeld b5 | exact ⟨xa.c0, xa.c1, xb.c0, xb.c1, B0⟩ | exact keepS2 hHeld (by omega) (by omega) _ _
      refine take_yes (i := 0) (v := ?vy0) rfl (by kernel_rfl) (by kernel_rfl) (by kernel_rfl) (fun _ _ _ h => h) (by rfl) (by assumption) ?hyy0 ?resty0
      case hyy0 => (intro w hSw; (try dsimp only at hSw); first | (go_simp; done) | (go_simp; with_reducible rfl))
      simp only [Act.put, List.setIfInBounds_toArray, List.set_cons_zero, List.set_cons_succ]
      refine take_yes (i := 1) (v := ?vy1) rfl (by kernel_rfl) (by kernel_rfl) (by kernel_rfl) (fun _ _ _ h => h) (by rfl) (by assumption) ?hyy1 ?resty1
      case hyy1 => (intro w hSw; (try dsimp only at hSw); first | (go_simp; done) | (go_simp; with_reducible rfl))
      simp only [Act.put, List.setIfInBounds_toArray, List.set_cons_zero, List.set_cons_succ]
      refine take_yes (i := 3) (v := ?vy3) rfl (by kernel_rfl) (by kernel_rfl) (by kernel_rfl) (fun _ _ _ h => h) (by rfl) (by assumption) ?hyy3 ?resty3
      case hyy3 => (intro w hSw; (try dsimp only at hSw); first | (go_simp; done) | (go_simp; with_reducible rfl))
      simp only [Act.put, List.setIfInBounds_toArray, List.set_cons_zero, List.set_cons_succ]
      refine take_yes (i := 4) (v := ?vy4) rfl (by kernel_rfl) (by kernel_rfl) (by kernel_rfl) (fun _ _ _ h => h) (by rfl) (by assumption) ?hyy4 ?resty4
      case hyy4 => (intro w hSw; (try dsimp only at hSw); first | (go_simp; done) | (go_simp; with_reducible rfl))
      simp only [Act.put, List.setIfInBounds_toArray, List.set_cons_zero, List.set_cons_succ]
      refine take_yes (i := 5) (v := ?vy5) rfl (by kernel_rfl) (by kernel_rfl) (by kernel_rfl) (fun _ _ _ h => h) (by rfl) (by assumption) ?hyy5 ?resty5
      case hyy5 => (intro w hSw; (try dsimp only at hSw); first | (go_simp; done) | (go_simp; with_reducible rfl))
      simp only [Act.put, List.setIfInBounds_toArray, List.set_cons_zero, List.set_cons_succ]
      refine take_call (i := 2) rfl (by kernel_rfl) (fun K hK => ?_)
      go_simp
      first
      | (go_at_call_of 30 [Value.slice aq lq cq]; refine (wSigned false aq lq cq _ _ hq Q HQ.out).mono ?_; rintro e w5 ⟨n5, rfl, h5, b5⟩)
      | (go_at_call 30; refine (wSigned n ar lr cr _ _ (hr.below b5) R HR.out).mono ?_; rintro e w6 ⟨n6, rfl, h6, b6⟩)
      refine hK.out _ _ ?_ (fun hHeld => ?_)
      · first | exact keepB2 hHeld b6 | exact keepB2 hHeld b5 | exact ⟨xa.c0, xa.c1, xb.c0, xb.c1, B0⟩ | exact keepS2 hHeld (by omega) (by omega) _ _
      clear hK K
      refine take_call (i := 6) rfl (by kernel_rfl) (fun K hK => ?_)
      go_simp
      first
      | (go_at_call_of 30 [Value.slice aq lq cq]; refine (wSigned false aq lq cq _ _ hq Q HQ.out).mono ?_; rintro e w5 ⟨n5, rfl, h5, b5⟩)
      | (go_at_call 30; refine (wSigned n ar lr cr _ _ (hr.below b5) R HR.out).mono ?_; rintro e w6 ⟨n6, rfl, h6, b6⟩)
      refine hK.out _ _ ?_ (fun hHeld => ?_)
      · first | exact keepB2 hHeld b6 | exact keepB2 hHeld b5 | exact ⟨xa.c0, xa.c1, xb.c0, xb.c1, B0⟩ | exact keepS2 hHeld (by omega) (by omega) _ _
      clear hK K
      obtain ⟨k0, k1, k2, k3⟩ := (x4.on b5).on b6
      obtain ⟨j0, j1, j2, j3⟩ := (x5.on b5).on b6
      refine take_call (i := 7) rfl (by kernel_rfl) (fun K hK => ?_)
      go_simp
      refine hK.out _ _ ?_ (fun hHeld => ?_)
      · first | exact keepB2 hHeld b6 | exact keepB2 hHeld b5 | exact ⟨xa.c0, xa.c1, xb.c0, xb.c1, B0⟩ | exact keepS2 hHeld (by omega) (by omega) _ _
      clear hK K
      refine take_call (i := 8) rfl (by kernel_rfl) (fun K hK => ?_)
      go_simp
      refine hK.out _ _ ?_ (fun hHeld => ?_)
      · first | exact keepB2 hHeld b6 | exact keepB2 hHeld b5 | exact ⟨xa.c0, xa.c1, xb.c0, xb.c1, B0⟩ | exact keepS2 hHeld (by omega) (by omega) _ _
      clear hK K
      refine take_yes (i := 9) (v := ?vy9) rfl (by kernel_rfl) (by kernel_rfl) (by kernel_rfl) (fun _ _ _ h => h) (by rfl) (by assumption) ?hyy9 ?resty9
      case hyy9 => (intro w hSw; (try dsimp only at hSw); first | (go_simp; done) | (go_simp; with_reducible rfl))
      simp only [Act.put, List.setIfInBounds_toArray, List.set_cons_zero, List.set_cons_succ]
      refine wpAnyH_done (by kernel_rfl) ?_ _
      go_wp2
      exact bodyPost_ret (v := .tuple #[.agg #[.bool n5, .slice aq lq cq], .agg #[.bool n6, .slice ar lr cr], .int .i64 0]) (by simp [results, Tryz.results68, go_sem, *]) rfl (endFl (W := W) (by omega) hs (also (also B0 b5) b6) (h5.below b6) h6 fq fr _ _ _ _)
    · have hr0 : r = 0 := by
        rcases Nat.eq_zero_or_pos r with e | e
        · exact e
        · exact absurd ⟨hnm, e⟩ hc
      obtain rfl : m = !n := by cases n <;> cases m <;> simp_all
      obtain rfl : lr = 0 := by rw [hr.len, hr0, wd.nlen_zero]
      rw [show (n != !n) = true by cases n <;> rfl] at HQ
      clear hc hnm hr0
      go_wp2
      refine wp_region_held_drew (S := (fun w' => w'.cell? ⟨w.heap.size, 0, none⟩ = some (.bool n) ∧ w'.cell? ⟨w.heap.size, 1, none⟩ = some (.slice a la ca) ∧ w'.cell? ⟨w.heap.size + 1, 0, none⟩ = some (.bool (!n)) ∧ w'.cell? ⟨w.heap.size + 1, 1, none⟩ = some (.slice b lb cb) ∧ Below w.heap.size w w')) (by kernel_rfl) ?_ (fun hHeld => ?_)
      · first | exact keepB2 hHeld b6 | exact keepB2 hHeld b5 | exact ⟨xa.c0, xa.c1, xb.c0, xb.c1, B0⟩ | exact keepS2 hHeld (by omega) (by omega) _ _
      refine take_yes (i := 0) (v := ?vz0) rfl (by kernel_rfl) (by kernel_rfl) (by kernel_rfl) (fun _ _ _ h => h) (by rfl) (by assumption) ?hyz0 ?restz0
      case hyz0 => (intro w hSw; (try dsimp only at hSw); first | (go_simp; done) | (go_simp; with_reducible rfl))
      simp only [Act.put, List.setIfInBounds_toArray, List.set_cons_zero, List.set_cons_succ]
      refine take_yes (i := 1) (v := ?vz1) rfl (by kernel_rfl) (by kernel_rfl) (by kernel_rfl) (fun _ _ _ h => h) (by rfl) (by assumption) ?hyz1 ?restz1
      case hyz1 => (intro w hSw; (try dsimp only at hSw); first | (go_simp; done) | (go_simp; with_reducible rfl))
      simp only [Act.put, List.setIfInBounds_toArray, List.set_cons_zero, List.set_cons_succ]
      refine take_yes (i := 3) (v := ?vz3) rfl (by kernel_rfl) (by kernel_rfl) (by kernel_rfl) (fun _ _ _ h => h) (by rfl) (by assumption) ?hyz3 ?restz3
      case hyz3 => (intro w hSw; (try dsimp only at hSw); first | (go_simp; done) | (go_simp; with_reducible rfl))
      simp only [Act.put, List.setIfInBounds_toArray, List.set_cons_zero, List.set_cons_succ]
      refine take_yes (i := 4) (v := ?vz4) rfl (by kernel_rfl) (by kernel_rfl) (by kernel_rfl) (fun _ _ _ h => h) (by rfl) (by assumption) ?hyz4 ?restz4
      case hyz4 => (intro w hSw; (try dsimp only at hSw); first | (go_simp; done) | (go_simp; with_reducible rfl))
      simp only [Act.put, List.setIfInBounds_toArray, List.set_cons_zero, List.set_cons_succ]
      refine take_yes (i := 5) (v := ?vz5) rfl (by kernel_rfl) (by kernel_rfl) (by kernel_rfl) (fun _ _ _ h => h) (by rfl) (by assumption) ?hyz5 ?restz5
      case hyz5 => (intro w hSw; (try dsimp only at hSw); first | (go_simp; done) | (go_simp; with_reducible rfl))
      simp only [Act.put, List.setIfInBounds_toArray, List.set_cons_zero, List.set_cons_succ]
      refine take_call (i := 2) rfl (by kernel_rfl) (fun K hK => ?_)
      go_simp
      first
      | (go_at_call_of 30 [Value.slice aq lq cq]; refine (wSigned true aq lq cq _ _ hq Q HQ.out).mono ?_; rintro e w5 ⟨n5, rfl, h5, b5⟩)
      | (go_at_call 30; refine (wSigned (!n) ar 0 cr _ _ (hr.below b5) R HR.out).mono ?_; rintro e w6 ⟨n6, rfl, h6, b6⟩)
      refine hK.out _ _ ?_ (fun hHeld => ?_)
      · first | exact keepB2 hHeld b6 | exact keepB2 hHeld b5 | exact ⟨xa.c0, xa.c1, xb.c0, xb.c1, B0⟩ | exact keepS2 hHeld (by omega) (by omega) _ _
      clear hK K
      refine take_call (i := 6) rfl (by kernel_rfl) (fun K hK => ?_)
      go_simp
      first
      | (go_at_call_of 30 [Value.slice aq lq cq]; refine (wSigned true aq lq cq _ _ hq Q HQ.out).mono ?_; rintro e w5 ⟨n5, rfl, h5, b5⟩)
      | (go_at_call 30; refine (wSigned (!n) ar 0 cr _ _ (hr.below b5) R HR.out).mono ?_; rintro e w6 ⟨n6, rfl, h6, b6⟩)
      refine hK.out _ _ ?_ (fun hHeld => ?_)
      · first | exact keepB2 hHeld b6 | exact keepB2 hHeld b5 | exact ⟨xa.c0, xa.c1, xb.c0, xb.c1, B0⟩ | exact keepS2 hHeld (by omega) (by omega) _ _
      clear hK K
      obtain ⟨k0, k1, k2, k3⟩ := (x4.on b5).on b6
      obtain ⟨j0, j1, j2, j3⟩ := (x5.on b5).on b6
      refine take_call (i := 7) rfl (by kernel_rfl) (fun K hK => ?_)
      go_simp
      refine hK.out _ _ ?_ (fun hHeld => ?_)
      · first | exact keepB2 hHeld b6 | exact keepB2 hHeld b5 | exact ⟨xa.c0, xa.c1, xb.c0, xb.c1, B0⟩ | exact keepS2 hHeld (by omega) (by omega) _ _
      clear hK K
      refine take_call (i := 8) rfl (by kernel_rfl) (fun K hK => ?_)
      go_simp
      refine hK.out _ _ ?_ (fun hHeld => ?_)
      · first | exact keepB2 hHeld b6 | exact keepB2 hHeld b5 | exact ⟨xa.c0, xa.c1, xb.c0, xb.c1, B0⟩ | exact keepS2 hHeld (by omega) (by omega) _ _
      clear hK K
      refine take_yes (i := 9) (v := ?vz9) rfl (by kernel_rfl) (by kernel_rfl) (by kernel_rfl) (fun _ _ _ h => h) (by rfl) (by assumption) ?hyz9 ?restz9
      case hyz9 => (intro w hSw; (try dsimp only at hSw); first | (go_simp; done) | (go_simp; with_reducible rfl))
      simp only [Act.put, List.setIfInBounds_toArray, List.set_cons_zero, List.set_cons_succ]
      refine wpAnyH_done (by kernel_rfl) ?_ _
      go_wp2
      exact bodyPost_ret (v := .tuple #[.agg #[.bool n5, .slice aq lq cq], .agg #[.bool n6, .slice ar 0 cr], .int .i64 0]) (by simp [results, Tryz.results68, go_sem, *]) rfl (endFl (W := W) (by omega) hs (also (also B0 b5) b6) (h5.below b6) h6 fq fr _ _ _ _)
end Go.Proofs.YtaekgomplkkocabGreatDoor

namespace Go.Proofs.YtaekgomplkkocabGreatDoor
open Go.RowKit
set_option linter.unusedVariables false

theorem wp_append_any {P : Program} {w : World} {o : Oper} {a : Act} {K : Act → World → Prop} {Q : Exit → Act → World → Prop} (s x : Operand) (t : TypeId)
    (ho : o.op = .call { callee := .builtin .append, args := #[s, x], argTypes := #[t, t] })
    (base : Nat) (e : TypeId) (i : TypeInfo) (z : Value) (bytes : Nat) (ht : P.underlying t = some (.slice e)) (hi : P.info? e = some i) (hz : i.zero = some z)
    (hsize : i.size = 1) (hby : i.bytes = bytes) (hzs : z.cells.size = 1)
    (a0 : Option Addr) (n0 c0 : Nat) (xs : List Value) (hs : a.eval s = .slice a0 n0 c0) (hown : Own w base e a0 n0 c0 xs)
    (ao : Option Addr) (m c : Nat) (news : List Value) (hx : a.eval x = .slice ao m c) (hsl : Sl w ao m c news) (h1 : ∀ u ∈ news, u.oneCell' = true)
    (h63 : n0 + m ≤ maxLen) (hbytes : (n0 + m) * bytes ≤ 140737488355328) (hbase : base ≤ w.heap.size)
    (h : ∀ a' cap' w', Own w' base e a' (n0 + m) cap' (xs ++ news) → w.grownBy w' (Value.slice a0 n0 c0).ownBlock → K (a.put o.dst (.slice a' (n0 + m) cap')) w') : o.wp P a w K Q := by
  cases ao with
  | none =>
    obtain ⟨rfl, rfl⟩ := hsl.nil rfl
    obtain rfl : news = [] := List.eq_nil_of_length_eq_zero hsl.len
    have hrun := run_append_owned_none (P := P) (w := w) base t o.type e i 1 ht hi _ n0 xs hown
    unfold Oper.wp
    simp [execOp, ho, resolve, invoke, builtin, hs, hx, hrun, Result.andThen]
    exact h a0 c0 w (by simpa using hown) (World.grownBy.refl _ _)
  | some ad =>
    obtain ⟨v', w', hr, h2, h3, _, _⟩ := run_append_own_at (P := P) w base t o.type e i z 1 bytes ht hi hz hsize hby hzs (by decide) _ n0 xs hown ad m c news (by rw [hsl.len]; omega) (by
      intro j u hu
      have hj := (List.getElem?_eq_some_iff.1 hu).1
      obtain ⟨b, off, e1, hb, hseg⟩ := hsl.at (by have := hsl.len; omega)
      cases e1
      rw [Addr.add_lit]
      exact hseg.cell j u hu) h1 h63 hbytes hbase
    obtain ⟨a', cap', rfl, h4⟩ := Own.form h2
    unfold Oper.wp execOp
    simp only [ho, resolve, invoke, builtin, Sem.run_bind, Sem.run_pure, Result.andThen_ok, List.map_toArray, List.map_cons, List.map_nil, hs, hx, hr]
    exact h a' cap' w' h4 h3
theorem step_append_any {P : Program} {w : World} {ops : Array Oper} {o : Oper} {a : Act} {K : Act → World → Prop} {Q : Exit → Act → World → Prop} {E : Prop} (hgd : o.guard = none) (s x : Operand) (t : TypeId)
    (ho : o.op = .call { callee := .builtin .append, args := #[s, x], argTypes := #[t, t] })
    (base : Nat) (e : TypeId) (i : TypeInfo) (z : Value) (bytes : Nat) (ht : P.underlying t = some (.slice e)) (hi : P.info? e = some i) (hz : i.zero = some z)
    (hsize : i.size = 1) (hby : i.bytes = bytes) (hzs : z.cells.size = 1)
    (a0 : Option Addr) (n0 c0 : Nat) (xs : List Value) (hs : a.eval s = .slice a0 n0 c0) (hown : Own w base e a0 n0 c0 xs)
    (ao : Option Addr) (m c : Nat) (news : List Value) (hx : a.eval x = .slice ao m c) (hsl : Sl w ao m c news) (h1 : ∀ u ∈ news, u.oneCell' = true)
    (h63 : n0 + m ≤ maxLen) (hbytes : (n0 + m) * bytes ≤ 140737488355328) (hbase : base ≤ w.heap.size)
    (h : ∀ a' cap' w', Own w' base e a' (n0 + m) cap' (xs ++ news) → w.grownBy w' (Value.slice a0 n0 c0).ownBlock → K (a.put o.dst (.slice a' (n0 + m) cap')) w') :
    if Region.wanted o (yielded ops a.tmps) = true then Oper.wp P o a w K Q else E := by
  have hw : Region.wanted o (yielded ops a.tmps) = true := by simp [Region.wanted, hgd]
  rw [if_pos hw]
  exact wp_append_any s x t ho base e i z bytes ht hi hz hsize hby hzs a0 n0 c0 xs hs hown ao m c news hx hsl h1 h63 hbytes hbase h
theorem eown (w : World) (base : Nat) (T : TypeId) (hb : base ≤ w.heap.size) : Own (w.alloc (.cells #[] T)) base T (some ⟨w.heap.size, 0, none⟩) 0 0 [] := World.ownsRow_lit w #[] 0 hb (by decide) rfl
/-- The first words of a number are a number. -/
theorem sl_cut {w : World} {a : Option Addr} {m c x k : Nat} (h : Sl w a m c (wd.dcells m (x : Int))) (hk : k ≤ m) : Sl w a k c (wd.dcells k ((x % 4294967296 ^ k : Nat) : Int)) := by
  have e : wd.dcells k (x : Int) = wd.dcells k ((x % 4294967296 ^ k : Nat) : Int) := by
    refine wd.dcells_congr ((x / 4294967296 ^ k : Nat) : Int) ?_
    have := Nat.mod_add_div x (4294967296 ^ k)
    rw [← wd.pow_cast]
    rw [← Int.natCast_mul, Nat.mul_comm]
    omega
  rw [← e]
  refine ⟨wd.dcells_length _ _, Nat.le_trans hk h.room, h.big, fun ha => ⟨by have := (h.nil ha).1; omega, (h.nil ha).2⟩, ?_⟩
  rcases Nat.eq_zero_or_pos k with rfl | hk0
  · exact Or.inl rfl
  · obtain ⟨b, o, e1, hb, hs⟩ := h.at (by omega)
    exact Or.inr ⟨b, o, e1, hb, by have := hs.take k; rwa [wd.dcells_take _ _ _ hk] at this⟩
/-- Some number of sixteen words at most, with the same sign. -/
def Cut4 (w : World) (n : Bool) (e : Ending) (w' : World) : Prop := ∃ (a : Option Addr) (m c x : Nat), e = .returned (.agg #[.bool n, .slice a m c]) ∧ m ≤ 16 ∧ NI w' a m c x ∧ Far w.heap.size a m ∧ Below w.heap.size w w'

theorem Bx.grown {w w' : World} {b g : Nat} {x y : Value} (h : Bx w b x y) (hg : w.grownBy w' (some g)) (hne : b ≠ g) : Bx w' b x y := by
  have hlt : b < w.heap.size := by
    refine Nat.lt_of_not_le fun hle => ?_
    have := h.c0
    unfold World.cell? at this
    rw [Array.getElem?_eq_none hle] at this
    simp at this
  exact ⟨(hg.cell_far ⟨b, 0, none⟩ hlt (by simpa using hne)).trans h.c0, (hg.cell_far ⟨b, 1, none⟩ hlt (by simpa using hne)).trans h.c1, (hg.frozen_far ⟨b, 0, none⟩ hlt (by simpa using hne)).trans h.f0, (hg.frozen_far ⟨b, 1, none⟩ hlt (by simpa using hne)).trans h.f1⟩
theorem endCut {w w2 : World} {n : Bool} {a2 : Option Addr} {m c k x base : Nat} {T : TypeId} (hm : m ≤ 16) (hx : x < 4294967296 ^ m) (hown : Own w2 base T a2 m c (wd.dcells m (x : Int))) (hk : w.heap.size ≤ k) (hkb : k < base) (B : Below w.heap.size w w2) (u v : Value) :
    Cut4 w n (.returned (.agg #[.bool n, .slice a2 m c])) ((w2.setCell ⟨k, 0, none⟩ u).setCell ⟨k, 1, none⟩ v) :=
  have f := Own.far hown
  have h : NI w2 a2 m c x := ⟨Own.sl hown, hx, by omega⟩
  ⟨a2, m, c, x, rfl, hm, (h.put (f k hkb) 0 u).put (f k hkb) 1 v, f.mono (by omega), below_put2 B hk u v⟩
theorem keepG {n g : Nat} {v1 v2 : Value} {w0 w w' : World} (h : w.cell? ⟨n, 0, none⟩ = some v1 ∧ w.cell? ⟨n, 1, none⟩ = some v2 ∧ Below w0.heap.size w0 w) (hg : w.grownBy w' (some g)) (hn : n < g) (hB : w0.heap.size ≤ g) : w'.cell? ⟨n, 0, none⟩ = some v1 ∧ w'.cell? ⟨n, 1, none⟩ = some v2 ∧ Below w0.heap.size w0 w' := by
  have hlt : n < w.heap.size := by
    refine Nat.lt_of_not_le fun hle => ?_
    have := h.1
    unfold World.cell? at this
    rw [Array.getElem?_eq_none hle] at this
    simp at this
  refine ⟨(hg.cell_far ⟨n, 0, none⟩ hlt (by simp; omega)).trans h.1, (hg.cell_far ⟨n, 1, none⟩ hlt (by simp; omega)).trans h.2.1, h.2.2.grown hg h.2.2.size (fun k e => by cases e; exact hB)⟩

theorem decM4 : decZ (-4) = ⟨#[45, 52]⟩ := by
  unfold decZ decS
  rw [if_pos (by decide), dlen_eq (k := 1) ⟨by decide, by decide, Or.inl rfl⟩]
  decide +kernel
theorem decP1 : decZ 1 = ⟨#[49]⟩ := by
  unfold decZ decS
  rw [if_neg (by decide), dlen_eq (k := 1) ⟨by decide, by decide, Or.inl rfl⟩]
  decide +kernel
end Go.Proofs.YtaekgomplkkocabGreatDoor

namespace Go.Proofs.YtaekgomplkkocabGreatDoor
open Go.ChangeShapes Go.WideShapes Go.ChangeAt Go.RowKit Go.Joins
set_option linter.unusedVariables false

theorem cellsInt : Tryz.prog.cellsOf 25 = 2 := by kernel_rfl
set_option maxRecDepth 100000 in
theorem int_view {H : Type} {enc : TypeId × Value → H} {W : World} {b0 : Nat} {v : Value} {d : DataW H} {p : List MemPlace} (hv : Value.okWide Tryz.prog W .any b0 25 v)
    (h : DataW.Trod enc Tryz.prog W 0 (fun _ => true) true 25 v d p) (hfz : W.noneFrozen p) (hlt : ∀ x ∈ p, x.block < W.heap.size) :
    ∃ (n : Bool) (a : Option Addr) (l c u : Nat), v = .agg #[.bool n, .slice a l c] ∧ u < 4294967296 ^ l ∧ Sl W a l c (wd.dcells l (u : Int)) := by
  obtain ⟨x, y, g, k, m, rfl, rfl, rfl, hx, hy⟩ := open_agg2 Tryz.underlying25 (by kernel_rfl) cellsInt hv h
  obtain ⟨n, ex, _⟩ := DataW.trod_bool Tryz.underlying4 hx
  obtain ⟨a, l, c, ey⟩ := slice_form Tryz.underlying23 hy
  simp at ex ey
  subst ex ey
  obtain ⟨kd, kp⟩ := k
  obtain ⟨u, hu, hs⟩ := nat_view (d := kd) (p := kp) (by simpa [Value.cells] using hy) (fun b o hm => hfz b o (by simp [hm])) (fun z hz => hlt z (by simp [hz]))
  exact ⟨n, a, l, c, u, rfl, hu, hs⟩
/-- What holds behind the laws' cut of two numbers. -/
def CutTwo (w : World) (n m : Bool) (mk : Value → Value → Act) (e : Exit) (act : Act) (wr : World) : Prop := e = .normal ∧ ∃ (a1 : Option Addr) (m1 c1 x1 : Nat) (a2 : Option Addr) (m2 c2 x2 : Nat), act = mk (.agg #[.bool n, .slice a1 m1 c1]) (.agg #[.bool m, .slice a2 m2 c2]) ∧ m1 ≤ 16 ∧ m2 ≤ 16 ∧
  NI wr a1 m1 c1 x1 ∧ NI wr a2 m2 c2 x2 ∧ Bx wr w.heap.size (.bool n) (.slice a1 m1 c1) ∧ Bx wr (w.heap.size + 1) (.bool m) (.slice a2 m2 c2) ∧ Below w.heap.size w wr
theorem cutTwo {w w2 : World} {n m : Bool} {mk : Value → Value → Act} {a1 : Option Addr} {m1 c1 x1 : Nat} {a2 : Option Addr} {m2 c2 x2 : Nat} {p q r s : Value} (h1 : m1 ≤ 16) (h2 : m2 ≤ 16) (n1 : NI w2 a1 m1 c1 x1) (n2 : NI w2 a2 m2 c2 x2) (xa : Bx w2 w.heap.size p q) (xb : Bx w2 (w.heap.size + 1) r s) (B : Below w.heap.size w w2)
    (f1 : Far (w.heap.size + 2) a1 m1) (f2 : Far (w.heap.size + 2) a2 m2) :
    CutTwo w n m mk .normal (mk (.agg #[.bool n, .slice a1 m1 c1]) (.agg #[.bool m, .slice a2 m2 c2])) ((((w2.setCell ⟨w.heap.size, 0, none⟩ (.bool n)).setCell ⟨w.heap.size, 1, none⟩ (.slice a1 m1 c1)).setCell ⟨w.heap.size + 1, 0, none⟩ (.bool m)).setCell ⟨w.heap.size + 1, 1, none⟩ (.slice a2 m2 c2)) := by
  have p1 : ∀ {a : Option Addr} {l c u : Nat}, NI w2 a l c u → Far (w.heap.size + 2) a l → NI ((((w2.setCell ⟨w.heap.size, 0, none⟩ (.bool n)).setCell ⟨w.heap.size, 1, none⟩ (.slice a1 m1 c1)).setCell ⟨w.heap.size + 1, 0, none⟩ (.bool m)).setCell ⟨w.heap.size + 1, 1, none⟩ (.slice a2 m2 c2)) a l c u := fun h f =>
    (((h.put (f _ (by omega)) 0 _).put (f _ (by omega)) 1 _).put (f _ (by omega)) 0 _).put (f _ (by omega)) 1 _
  refine ⟨rfl, a1, m1, c1, x1, a2, m2, c2, x2, rfl, h1, h2, p1 n1 f1, p1 n2 f2, ?_, ?_, below_put2 (below_put2 B (Nat.le_refl _) _ _) (by omega) _ _⟩
  · exact (xa.set.put (by omega)).put (by omega)
  · exact ((xb.put (by omega)).put (by omega)).set
theorem keepC4 {p q r s : Nat} {v1 v2 v3 v4 v5 v6 v7 v8 : Value} {w0 w w' : World} (h : w.cell? ⟨p, 0, none⟩ = some v1 ∧ w.cell? ⟨p, 1, none⟩ = some v2 ∧ w.cell? ⟨q, 0, none⟩ = some v3 ∧ w.cell? ⟨q, 1, none⟩ = some v4 ∧ w.cell? ⟨r, 0, none⟩ = some v5 ∧ w.cell? ⟨r, 1, none⟩ = some v6 ∧ w.cell? ⟨s, 0, none⟩ = some v7 ∧ w.cell? ⟨s, 1, none⟩ = some v8 ∧ Below w0.heap.size w0 w) (hb : Below w.heap.size w w') :
    w'.cell? ⟨p, 0, none⟩ = some v1 ∧ w'.cell? ⟨p, 1, none⟩ = some v2 ∧ w'.cell? ⟨q, 0, none⟩ = some v3 ∧ w'.cell? ⟨q, 1, none⟩ = some v4 ∧ w'.cell? ⟨r, 0, none⟩ = some v5 ∧ w'.cell? ⟨r, 1, none⟩ = some v6 ∧ w'.cell? ⟨s, 0, none⟩ = some v7 ∧ w'.cell? ⟨s, 1, none⟩ = some v8 ∧ Below w0.heap.size w0 w' :=
  ⟨cell_on hb h.1, cell_on hb h.2.1, cell_on hb h.2.2.1, cell_on hb h.2.2.2.1, cell_on hb h.2.2.2.2.1, cell_on hb h.2.2.2.2.2.1, cell_on hb h.2.2.2.2.2.2.1, cell_on hb h.2.2.2.2.2.2.2.1, also h.2.2.2.2.2.2.2.2 hb⟩
theorem sgz_lt {n : Bool} {u l K : Nat} (hu : u < 4294967296 ^ l) (hl : l ≤ K) : (sgz n u).natAbs < 4294967296 ^ K := by
  rw [sgz_abs]
  exact Nat.lt_of_lt_of_le hu (Nat.pow_le_pow_right (by decide) hl)
end Go.Proofs.YtaekgomplkkocabGreatDoor

namespace Go.Proofs.YtaekgomplkkocabGreatDoor
open Go.RowKit
set_option linter.unusedVariables false

theorem cell_lt {w : World} {p : Addr} {v : Value} (h : w.cell? p = some v) : p.block < w.heap.size := by
  refine Nat.lt_of_not_le fun hle => ?_
  unfold World.cell? at h
  rw [Array.getElem?_eq_none hle] at h
  simp at h
theorem cell_far {w w' : World} {b g i : Nat} {v : Value} (h : w.cell? ⟨b, i, none⟩ = some v) (hg : w.grownBy w' (some g)) (hne : b ≠ g) : w'.cell? ⟨b, i, none⟩ = some v :=
  (hg.cell_far ⟨b, i, none⟩ (cell_lt h) (by simpa using hne)).trans h
theorem free_far {w w' : World} {b g i : Nat} {v : Value} (h : w.cell? ⟨b, i, none⟩ = some v) (hf : w.frozen? ⟨b, i, none⟩ = false) (hg : w.grownBy w' (some g)) (hne : b ≠ g) : w'.frozen? ⟨b, i, none⟩ = false :=
  (hg.frozen_far ⟨b, i, none⟩ (cell_lt h) (by simpa using hne)).trans hf
/-- A block of 3 cells. -/
structure B3 (w : World) (b : Nat) (x0 x1 x2 : Value) : Prop where
  c0 : w.cell? ⟨b, 0, none⟩ = some x0
  c1 : w.cell? ⟨b, 1, none⟩ = some x1
  c2 : w.cell? ⟨b, 2, none⟩ = some x2
  f0 : w.frozen? ⟨b, 0, none⟩ = false
  f1 : w.frozen? ⟨b, 1, none⟩ = false
  f2 : w.frozen? ⟨b, 2, none⟩ = false
theorem B3.on {w w' : World} {b : Nat} {x0 x1 x2 : Value} (h : B3 w b x0 x1 x2) (hb : Below w.heap.size w w') : B3 w' b x0 x1 x2 := ⟨cell_on hb h.c0, cell_on hb h.c1, cell_on hb h.c2, free_on hb h.c0 h.f0, free_on hb h.c1 h.f1, free_on hb h.c2 h.f2⟩
theorem b3_new (w : World) (x0 x1 x2 : Value) (t : TypeId) : B3 (w.alloc (.cells #[x0, x1, x2] t)) w.heap.size x0 x1 x2 := by
  have h := Row.new w [x0, x1, x2] t
  exact ⟨h.cell 0 _ rfl, h.cell 1 _ rfl, h.cell 2 _ rfl, h.free 0 (by simp), h.free 1 (by simp), h.free 2 (by simp)⟩
theorem b3_lt {w : World} {b : Nat} {x0 x1 x2 : Value} (h : B3 w b x0 x1 x2) : b < w.heap.size := cell_lt h.c0
theorem B3.put {w : World} {b k i : Nat} {x0 x1 x2 v : Value} (h : B3 w b x0 x1 x2) (hk : k ≠ b) : B3 (w.setCell ⟨k, i, none⟩ v) b x0 x1 x2 := by
  refine ⟨?_, ?_, ?_, by rw [World.frozen?_setCell]; exact h.f0, by rw [World.frozen?_setCell]; exact h.f1, by rw [World.frozen?_setCell]; exact h.f2⟩
  · rw [World.cell?_setCell_other _ _ _ _ (by intro q; simp only [Addr.mk.injEq] at q; omega)]; exact h.c0
  · rw [World.cell?_setCell_other _ _ _ _ (by intro q; simp only [Addr.mk.injEq] at q; omega)]; exact h.c1
  · rw [World.cell?_setCell_other _ _ _ _ (by intro q; simp only [Addr.mk.injEq] at q; omega)]; exact h.c2
theorem B3.set {w : World} {b : Nat} {x0 x1 x2 u0 u1 u2 : Value} (h : B3 w b x0 x1 x2) : B3 (((w.setCell ⟨b, 0, none⟩ u0).setCell ⟨b, 1, none⟩ u1).setCell ⟨b, 2, none⟩ u2) b u0 u1 u2 := by
  refine ⟨?_, ?_, ?_, by simp only [World.frozen?_setCell]; exact h.f0, by simp only [World.frozen?_setCell]; exact h.f1, by simp only [World.frozen?_setCell]; exact h.f2⟩
  · rw [World.cell?_setCell_other _ _ _ _ (by intro q; simp only [Addr.mk.injEq] at q; omega)]; rw [World.cell?_setCell_other _ _ _ _ (by intro q; simp only [Addr.mk.injEq] at q; omega)]; have hh : _ = some x0 := h.c0
    have h1 : w.cell? ⟨b, 0, none⟩ = some x0 := by
      exact hh
    exact World.cell?_setCell_same _ _ _ h1
  · rw [World.cell?_setCell_other _ _ _ _ (by intro q; simp only [Addr.mk.injEq] at q; omega)]; have hh : _ = some x1 := h.c1
    have h1 : (w.setCell ⟨b, 0, none⟩ u0).cell? ⟨b, 1, none⟩ = some x1 := by
      rw [World.cell?_setCell_other _ _ _ _ (by intro q; simp only [Addr.mk.injEq] at q; omega)]; exact hh
    exact World.cell?_setCell_same _ _ _ h1
  · have hh : _ = some x2 := h.c2
    have h1 : ((w.setCell ⟨b, 0, none⟩ u0).setCell ⟨b, 1, none⟩ u1).cell? ⟨b, 2, none⟩ = some x2 := by
      rw [World.cell?_setCell_other _ _ _ _ (by intro q; simp only [Addr.mk.injEq] at q; omega)]; rw [World.cell?_setCell_other _ _ _ _ (by intro q; simp only [Addr.mk.injEq] at q; omega)]; exact hh
    exact World.cell?_setCell_same _ _ _ h1
theorem B3.drew {w : World} {b : Nat} {x0 x1 x2 : Value} (h : B3 w b x0 x1 x2) : B3 w.drew b x0 x1 x2 := ⟨h.c0, h.c1, h.c2, h.f0, h.f1, h.f2⟩
theorem B3.grown {w w' : World} {b g : Nat} {x0 x1 x2 : Value} (h : B3 w b x0 x1 x2) (hg : w.grownBy w' (some g)) (hne : b ≠ g) : B3 w' b x0 x1 x2 := ⟨cell_far h.c0 hg hne, cell_far h.c1 hg hne, cell_far h.c2 hg hne, free_far h.c0 h.f0 hg hne, free_far h.c1 h.f1 hg hne, free_far h.c2 h.f2 hg hne⟩
/-- A block of 4 cells. -/
structure B4 (w : World) (b : Nat) (x0 x1 x2 x3 : Value) : Prop where
  c0 : w.cell? ⟨b, 0, none⟩ = some x0
  c1 : w.cell? ⟨b, 1, none⟩ = some x1
  c2 : w.cell? ⟨b, 2, none⟩ = some x2
  c3 : w.cell? ⟨b, 3, none⟩ = some x3
  f0 : w.frozen? ⟨b, 0, none⟩ = false
  f1 : w.frozen? ⟨b, 1, none⟩ = false
  f2 : w.frozen? ⟨b, 2, none⟩ = false
  f3 : w.frozen? ⟨b, 3, none⟩ = false
theorem B4.on {w w' : World} {b : Nat} {x0 x1 x2 x3 : Value} (h : B4 w b x0 x1 x2 x3) (hb : Below w.heap.size w w') : B4 w' b x0 x1 x2 x3 := ⟨cell_on hb h.c0, cell_on hb h.c1, cell_on hb h.c2, cell_on hb h.c3, free_on hb h.c0 h.f0, free_on hb h.c1 h.f1, free_on hb h.c2 h.f2, free_on hb h.c3 h.f3⟩
theorem b4_new (w : World) (x0 x1 x2 x3 : Value) (t : TypeId) : B4 (w.alloc (.cells #[x0, x1, x2, x3] t)) w.heap.size x0 x1 x2 x3 := by
  have h := Row.new w [x0, x1, x2, x3] t
  exact ⟨h.cell 0 _ rfl, h.cell 1 _ rfl, h.cell 2 _ rfl, h.cell 3 _ rfl, h.free 0 (by simp), h.free 1 (by simp), h.free 2 (by simp), h.free 3 (by simp)⟩
theorem b4_lt {w : World} {b : Nat} {x0 x1 x2 x3 : Value} (h : B4 w b x0 x1 x2 x3) : b < w.heap.size := cell_lt h.c0
theorem B4.put {w : World} {b k i : Nat} {x0 x1 x2 x3 v : Value} (h : B4 w b x0 x1 x2 x3) (hk : k ≠ b) : B4 (w.setCell ⟨k, i, none⟩ v) b x0 x1 x2 x3 := by
  refine ⟨?_, ?_, ?_, ?_, by rw [World.frozen?_setCell]; exact h.f0, by rw [World.frozen?_setCell]; exact h.f1, by rw [World.frozen?_setCell]; exact h.f2, by rw [World.frozen?_setCell]; exact h.f3⟩
  · rw [World.cell?_setCell_other _ _ _ _ (by intro q; simp only [Addr.mk.injEq] at q; omega)]; exact h.c0
  · rw [World.cell?_setCell_other _ _ _ _ (by intro q; simp only [Addr.mk.injEq] at q; omega)]; exact h.c1
  · rw [World.cell?_setCell_other _ _ _ _ (by intro q; simp only [Addr.mk.injEq] at q; omega)]; exact h.c2
  · rw [World.cell?_setCell_other _ _ _ _ (by intro q; simp only [Addr.mk.injEq] at q; omega)]; exact h.c3
theorem B4.set {w : World} {b : Nat} {x0 x1 x2 x3 u0 u1 u2 u3 : Value} (h : B4 w b x0 x1 x2 x3) : B4 ((((w.setCell ⟨b, 0, none⟩ u0).setCell ⟨b, 1, none⟩ u1).setCell ⟨b, 2, none⟩ u2).setCell ⟨b, 3, none⟩ u3) b u0 u1 u2 u3 := by
  refine ⟨?_, ?_, ?_, ?_, by simp only [World.frozen?_setCell]; exact h.f0, by simp only [World.frozen?_setCell]; exact h.f1, by simp only [World.frozen?_setCell]; exact h.f2, by simp only [World.frozen?_setCell]; exact h.f3⟩
  · rw [World.cell?_setCell_other _ _ _ _ (by intro q; simp only [Addr.mk.injEq] at q; omega)]; rw [World.cell?_setCell_other _ _ _ _ (by intro q; simp only [Addr.mk.injEq] at q; omega)]; rw [World.cell?_setCell_other _ _ _ _ (by intro q; simp only [Addr.mk.injEq] at q; omega)]; have hh : _ = some x0 := h.c0
    have h1 : w.cell? ⟨b, 0, none⟩ = some x0 := by
      exact hh
    exact World.cell?_setCell_same _ _ _ h1
  · rw [World.cell?_setCell_other _ _ _ _ (by intro q; simp only [Addr.mk.injEq] at q; omega)]; rw [World.cell?_setCell_other _ _ _ _ (by intro q; simp only [Addr.mk.injEq] at q; omega)]; have hh : _ = some x1 := h.c1
    have h1 : (w.setCell ⟨b, 0, none⟩ u0).cell? ⟨b, 1, none⟩ = some x1 := by
      rw [World.cell?_setCell_other _ _ _ _ (by intro q; simp only [Addr.mk.injEq] at q; omega)]; exact hh
    exact World.cell?_setCell_same _ _ _ h1
  · rw [World.cell?_setCell_other _ _ _ _ (by intro q; simp only [Addr.mk.injEq] at q; omega)]; have hh : _ = some x2 := h.c2
    have h1 : ((w.setCell ⟨b, 0, none⟩ u0).setCell ⟨b, 1, none⟩ u1).cell? ⟨b, 2, none⟩ = some x2 := by
      rw [World.cell?_setCell_other _ _ _ _ (by intro q; simp only [Addr.mk.injEq] at q; omega)]; rw [World.cell?_setCell_other _ _ _ _ (by intro q; simp only [Addr.mk.injEq] at q; omega)]; exact hh
    exact World.cell?_setCell_same _ _ _ h1
  · have hh : _ = some x3 := h.c3
    have h1 : (((w.setCell ⟨b, 0, none⟩ u0).setCell ⟨b, 1, none⟩ u1).setCell ⟨b, 2, none⟩ u2).cell? ⟨b, 3, none⟩ = some x3 := by
      rw [World.cell?_setCell_other _ _ _ _ (by intro q; simp only [Addr.mk.injEq] at q; omega)]; rw [World.cell?_setCell_other _ _ _ _ (by intro q; simp only [Addr.mk.injEq] at q; omega)]; rw [World.cell?_setCell_other _ _ _ _ (by intro q; simp only [Addr.mk.injEq] at q; omega)]; exact hh
    exact World.cell?_setCell_same _ _ _ h1
theorem B4.drew {w : World} {b : Nat} {x0 x1 x2 x3 : Value} (h : B4 w b x0 x1 x2 x3) : B4 w.drew b x0 x1 x2 x3 := ⟨h.c0, h.c1, h.c2, h.c3, h.f0, h.f1, h.f2, h.f3⟩
theorem B4.grown {w w' : World} {b g : Nat} {x0 x1 x2 x3 : Value} (h : B4 w b x0 x1 x2 x3) (hg : w.grownBy w' (some g)) (hne : b ≠ g) : B4 w' b x0 x1 x2 x3 := ⟨cell_far h.c0 hg hne, cell_far h.c1 hg hne, cell_far h.c2 hg hne, cell_far h.c3 hg hne, free_far h.c0 h.f0 hg hne, free_far h.c1 h.f1 hg hne, free_far h.c2 h.f2 hg hne, free_far h.c3 h.f3 hg hne⟩
end Go.Proofs.YtaekgomplkkocabGreatDoor

namespace Go.Proofs.YtaekgomplkkocabGreatDoor
open Go.RowKit
set_option linter.unusedVariables false

theorem wsign_cases (x : Int) : (x < 0 ∧ x.sign = -1) ∨ (x = 0 ∧ x.sign = 0) ∨ (0 < x ∧ x.sign = 1) := by
  rcases Int.lt_trichotomy x 0 with h | h | h
  · exact Or.inl ⟨h, Int.sign_eq_neg_one_of_neg h⟩
  · exact Or.inr (Or.inl ⟨h, Int.sign_eq_zero_iff_zero.2 h⟩)
  · exact Or.inr (Or.inr ⟨h, Int.sign_eq_one_of_pos h⟩)
theorem cmpI_sign (a b : Int) : cmpI a b = (a - b).sign := by
  unfold cmpI
  rcases wsign_cases (a - b) with ⟨h, e⟩ | ⟨h, e⟩ | ⟨h, e⟩
  · rw [if_pos (by omega), e]
  · rw [if_neg (by omega), if_neg (by omega), e]
  · rw [if_neg (by omega), if_pos (by omega), e]
end Go.Proofs.YtaekgomplkkocabGreatDoor

namespace Go.Proofs.YtaekgomplkkocabGreatDoor
open Go.RowKit
set_option linter.unusedVariables false

/-- What holds at the head of each round: two words of the same greatest divisor. -/
def SmallRel (g : Nat) (a b : Value) : Prop := ∃ x y : Nat, a = .int .u64 (x : Int) ∧ b = .int .u64 (y : Int) ∧ Hid (Nat.gcd x y = g) ∧ x < 18446744073709551616 ∧ y < 18446744073709551616
set_option maxRecDepth 100000 in
set_option maxHeartbeats 1000000 in
theorem gcdSmall_any (x y : Nat) (hx : x < 18446744073709551616) (hy : y < 18446744073709551616) (w : World) :
    Calls Tryz.prog 88 #[.int .u64 (x : Int), .int .u64 (y : Int)] w fun e w' => e = .returned (.int .u64 (Nat.gcd x y : Int)) ∧ Below w.heap.size w w' := by
  obtain ⟨g, hg⟩ : ∃ g, g = Nat.gcd x y := ⟨_, rfl⟩
  have HG : Hid _ := hg.symm
  rw [← hg]
  clear hg
  go_enter Tryz.func88, Tryz.ntmps88
  go_wp2
  go_loopw [0, 1] (fun a b wr => SmallRel g a b ∧ Below w.heap.size w wr) (fun _ b _ => (intOf b).toNat)
  case atStart => exact ⟨⟨x, y, rfl, rfl, HG.out, hx, hy⟩, Below.refl _ _⟩
  case round =>
    obtain ⟨⟨p, q, rfl, rfl, H, hp, hq⟩, hbel⟩ := hrel
    rcases Nat.eq_zero_or_pos q with h0 | h0
    · subst h0
      have hpg : p = g := by have := H.out; simpa using this
      subst hpg
      go_wp2
      go_ret
      exact ⟨rfl, by first | exact hbel | exact hbel.drew⟩
    · have f1 : ¬ (q : Int) = 0 := by omega
      obtain ⟨r, hr⟩ : ∃ r, r = p % q := ⟨_, rfl⟩
      have E : (p : Int) % (q : Int) = (r : Int) := by rw [hr, Int.natCast_emod]
      have hrq : r < q := by rw [hr]; exact Nat.mod_lt _ h0
      have HN : Hid (Nat.gcd q r = g) := by
        unfold Hid
        rw [hr, ← H.out, Nat.gcd_comm q (p % q), ← Nat.gcd_rec, Nat.gcd_comm]
      clear hr
      go_wp2
      go_quiet (fail)
      go_wp2
      try rw [E]
      go_roundw
      case rel => exact ⟨⟨q, r, rfl, by first | rfl | rw [E], HN.out, hq, by omega⟩, ⟨hbel.os, hbel.tape, hbel.output, hbel.size, hbel.block⟩⟩
      case measure => simp [intOf]; omega

set_option maxRecDepth 100000 in
set_option maxHeartbeats 1000000 in
theorem restOf_any (a b : Option Addr) (la lb ca cb u v : Nat) (w : World) (ha : Sl w a la ca (wd.dcells la (u : Int))) (hu : u < 4294967296 ^ la) (hla : la ≤ 100000000) (hb : Sl w b lb cb (wd.dcells lb (v : Int))) (hv : v < 4294967296 ^ lb) (h0 : 0 < v) :
    Calls Tryz.prog 90 #[.slice a la ca, .slice b lb cb] w fun e w' => ∃ ar cr, e = .returned (.slice ar (wd.nlen (u % v)) cr) ∧ Own w' w.heap.size 65 ar (wd.nlen (u % v)) cr (wd.dcells (wd.nlen (u % v)) ((u % v : Nat) : Int)) ∧ Below w.heap.size w w' := by
  obtain ⟨R, hR⟩ : ∃ R, R = u % v := ⟨_, rfl⟩
  obtain ⟨Q, hQ⟩ : ∃ Q, Q = u / v := ⟨_, rfl⟩
  have H := divMod_any a b la lb ca cb u v w ha hu hla hb hv h0
  rw [← hR, ← hQ] at H
  have HH : Hid _ := H
  rw [← hR]
  clear hR hQ H
  go_enter Tryz.func90, Tryz.ntmps90
  go_wp2_with (go_at_call 65; fail)
  refine (show Calls _ _ _ _ (Both w Q R) from HH.out).mono ?_
  rintro e w6 ⟨aq, cq, ar, cr, rfl, hownQ, hownR, hbel⟩
  have HO : Hid _ := hownR
  clear hownQ hownR
  go_wp2
  go_ret
  exact ⟨ar, cr, rfl, HO.out, hbel⟩
end Go.Proofs.YtaekgomplkkocabGreatDoor

namespace Go.Proofs.YtaekgomplkkocabGreatDoor
open Go.RowKit
set_option linter.unusedVariables false

theorem head_math (X d2 d1 d0 s : Nat) (h2 : d2 = X / 18446744073709551616 % 4294967296) (h1 : d1 = X / 4294967296 % 4294967296) (h0 : d0 = X % 4294967296) (hs : s < 32) :
    (d1 * 4294967296 + d0) / 2 ^ s + d2 * 2 ^ (64 - s) % 18446744073709551616 = X / 2 ^ s % 18446744073709551616 ∧ (d1 * 4294967296 + d0) / 2 ^ s < 2 ^ (64 - s) ∧ d2 * 2 ^ (64 - s) % 18446744073709551616 % 2 ^ (64 - s) = 0 := by
  have hp : 0 < 2 ^ s := Nat.pow_pos (by decide)
  have hq : 0 < 2 ^ (64 - s) := Nat.pow_pos (by decide)
  have e64 : 2 ^ (64 - s) * 2 ^ s = 18446744073709551616 := by rw [← Nat.pow_add, show 64 - s + s = 64 by omega]
  have e32 : 2 ^ (32 - s) * 2 ^ s = 4294967296 := by rw [← Nat.pow_add, show 32 - s + s = 32 by omega]
  have elow : d1 * 4294967296 + d0 = X % 18446744073709551616 := by omega
  have hlow : (d1 * 4294967296 + d0) / 2 ^ s < 2 ^ (64 - s) := by
    rw [elow]
    refine Nat.div_lt_of_lt_mul ?_
    rw [Nat.mul_comm, e64]
    exact Nat.mod_lt _ (by decide)
  have hm : d2 * 2 ^ (64 - s) % 18446744073709551616 % 2 ^ (64 - s) = 0 := by
    rw [← e64, Nat.mod_mul_right_mod, Nat.mul_mod_left]
  refine ⟨?_, hlow, hm⟩
  have hX : X = X / 79228162514264337593543950336 * 79228162514264337593543950336 + d2 * 18446744073709551616 + (d1 * 4294967296 + d0) := by omega
  obtain ⟨low, hl⟩ : ∃ low, low = d1 * 4294967296 + d0 := ⟨_, rfl⟩
  rw [← hl] at hX hlow ⊢
  clear hl elow h0 h1
  obtain ⟨t, ht⟩ : ∃ t, t = X / 79228162514264337593543950336 := ⟨_, rfl⟩
  rw [← ht] at hX
  have e96 : t * 79228162514264337593543950336 = t * 2 ^ (32 - s) * 18446744073709551616 * 2 ^ s := by
    rw [Nat.mul_assoc, Nat.mul_assoc, Nat.mul_comm 18446744073709551616 (2 ^ s), ← Nat.mul_assoc (2 ^ (32 - s)), e32]
  have ed : d2 * 18446744073709551616 = d2 * 2 ^ (64 - s) * 2 ^ s := by rw [Nat.mul_assoc, e64]
  have hdiv : X / 2 ^ s = t * 2 ^ (32 - s) * 18446744073709551616 + d2 * 2 ^ (64 - s) + low / 2 ^ s := by
    rw [hX, e96, ed, ← Nat.add_mul, Nat.add_comm, Nat.add_mul_div_right _ _ hp]
    omega
  rw [hdiv]
  obtain ⟨M, hMe⟩ : ∃ M, M = d2 * 2 ^ (64 - s) := ⟨_, rfl⟩
  obtain ⟨T, hTe⟩ : ∃ T, T = t * 2 ^ (32 - s) := ⟨_, rfl⟩
  rw [← hMe] at hm ⊢
  rw [← hTe]
  clear hdiv ed e96 hX hMe hTe h2
  have hM : M % 18446744073709551616 + low / 2 ^ s < 18446744073709551616 := by
    obtain ⟨c, hc⟩ := Nat.dvd_of_mod_eq_zero hm
    have h3 : M % 18446744073709551616 < 18446744073709551616 := Nat.mod_lt _ (by decide)
    rw [hc] at h3 ⊢
    rw [← e64] at h3 ⊢
    have h4 : c < 2 ^ s := Nat.lt_of_mul_lt_mul_left h3
    have h5 : 2 ^ (64 - s) * (c + 1) ≤ 2 ^ (64 - s) * 2 ^ s := Nat.mul_le_mul_left _ h4
    rw [Nat.mul_add, Nat.mul_one] at h5
    omega
  obtain ⟨L, hL⟩ : ∃ L, L = low / 2 ^ s := ⟨_, rfl⟩
  rw [← hL] at hM ⊢
  clear hL hlow hm e64 e32
  omega
theorem dg_nat (u i : Nat) : wd.dg (u : Int) i = ((u / 4294967296 ^ i % 4294967296 : Nat) : Int) := by
  unfold wd.dg
  rw [Int.natCast_emod, Int.natCast_ediv, wd.pow_cast]
  rfl
theorem pow_from (f : Nat) : 2 ^ f = 4294967296 ^ (f / 32) * 2 ^ (f % 32) := by
  rw [show (4294967296 : Nat) = 2 ^ 32 from rfl, ← Nat.pow_mul, ← Nat.pow_add]
  congr 1
  omega
set_option maxRecDepth 100000 in
set_option maxHeartbeats 1000000 in
theorem headAt_any (a : Option Addr) (l cap u f : Nat) (w : World) (ha : Sl w a l cap (wd.dcells l (u : Int))) (hu : u < 4294967296 ^ l) (hf : f ≤ 100000000000) :
    Calls Tryz.prog 99 #[.slice a l cap, .int .i64 (f : Int)] w fun e w' => e = .returned (.int .u64 ((u / 2 ^ f % 18446744073709551616 : Nat) : Int)) ∧ Below w.heap.size w w' := by
  obtain ⟨i, hi⟩ : ∃ i, i = f / 32 := ⟨_, rfl⟩
  obtain ⟨s, hs⟩ : ∃ s, s = f % 32 := ⟨_, rfl⟩
  obtain ⟨X, hX⟩ : ∃ X, X = u / 4294967296 ^ i := ⟨_, rfl⟩
  have hs32 : s < 32 := by omega
  have n0 := dg_nat u i
  have n1 := dg_nat u (i + 1)
  have n2 := dg_nat u (i + 2)
  rw [Nat.pow_succ, ← Nat.div_div_eq_div_mul, ← hX] at n1
  rw [show i + 2 = i + 1 + 1 from rfl, Nat.pow_succ, Nat.pow_succ, ← Nat.div_div_eq_div_mul, ← Nat.div_div_eq_div_mul, ← hX, Nat.div_div_eq_div_mul] at n2
  rw [← hX] at n0
  obtain ⟨d0, hd0⟩ : ∃ d, d = X % 4294967296 := ⟨_, rfl⟩
  obtain ⟨d1, hd1⟩ : ∃ d, d = X / 4294967296 % 4294967296 := ⟨_, rfl⟩
  obtain ⟨d2, hd2⟩ : ∃ d, d = X / 18446744073709551616 % 4294967296 := ⟨_, rfl⟩
  rw [← hd0] at n0
  rw [← hd1] at n1
  rw [show 4294967296 * 4294967296 = 18446744073709551616 from rfl, ← hd2] at n2
  obtain ⟨m1, m2, m3⟩ := head_math X d2 d1 d0 s hd2 hd1 hd0 hs32
  have hres : u / 2 ^ f = X / 2 ^ s := by rw [pow_from, ← hi, ← hs, hX, Nat.div_div_eq_div_mul]
  rw [hres, ← m1]
  have b0 : d0 < 4294967296 := by omega
  have b1 : d1 < 4294967296 := by omega
  have b2 : d2 < 4294967296 := by omega
  obtain ⟨LOW, hLOW⟩ : ∃ L, L = d1 * 4294967296 + d0 := ⟨_, rfl⟩
  rw [← hLOW] at m2 ⊢
  obtain ⟨Lw, hLw⟩ : ∃ L, L = LOW / 2 ^ s := ⟨_, rfl⟩
  obtain ⟨Hg, hHg⟩ : ∃ H, H = d2 * 2 ^ (64 - s) % 18446744073709551616 := ⟨_, rfl⟩
  rw [← hLw] at m2 ⊢
  rw [← hHg] at m3 ⊢
  obtain ⟨t, ht⟩ : ∃ t, t = 64 - s := ⟨_, rfl⟩
  rw [← ht] at hHg m2 m3
  have bH : Hg < 18446744073709551616 := by rw [hHg]; exact Nat.mod_lt _ (by decide)
  have bL : Lw < 18446744073709551616 := Nat.lt_of_lt_of_le m2 (Nat.le_trans (Nat.pow_le_pow_right (by decide) (show t ≤ 64 by omega)) (by decide))
  have E1 : (LOW : Int) / 2 ^ s = (Lw : Int) := by rw [hLw, Int.natCast_ediv, Int.natCast_pow]; rfl
  have E2 : IntKind.u64.wrap ((d2 : Int) * 2 ^ t) = (Hg : Int) := by rw [hHg, IntKind.wrap_u64, Int.natCast_emod, Int.natCast_mul, Int.natCast_pow]; rfl
  have E3 : bits BinOp.or IntKind.u64 (Lw : Int) (Hg : Int) = ((Lw + Hg : Nat) : Int) := by
    rw [u64_or_nat _ _ (by omega) (by omega), Nat.or_comm, nat_join t Hg Lw m3 m2]
    omega
  have E4 : bits BinOp.or IntKind.u64 ((d1 : Int) * 4294967296) (d0 : Int) = (LOW : Int) := by rw [join_bits _ _ (by omega) (by omega) (by omega) (by omega)]; omega
  have E5 : (64 : Int) - (s : Int) = (t : Int) := by omega
  have E6 : (f : Int) / 32 = (i : Int) := by omega
  have E7 : (f : Int) % 32 = (s : Int) := by omega
  have bi : i ≤ 100000000000 := by omega
  have ht64 : t ≤ 64 := by omega
  have HW1 : Hid _ := n1
  have HW0 : Hid _ := n0
  have HW2 : Hid (∀ n, Calls Tryz.prog 70 #[.slice a l cap, .int .i64 ((i : Int) + 2)] (w.drewN n) fun e w'' => e = .returned (.int .u32 (d2 : Int)) ∧ ∃ m, w'' = w.drewN m) := fun n => by
    have h := wordAt_any a l cap u (i + 2) (iv := (i : Int) + 2) (w.drewN n) (ha.below ⟨rfl, rfl, rfl, Nat.le_refl _, fun _ _ => rfl⟩) hu (by omega)
    rw [n2] at h
    refine h.mono ?_
    rintro e w' ⟨rfl, hw⟩
    exact ⟨rfl, n, hw.symm⟩
  clear hi hs hX n0 n1 n2 hd0 hd1 hd2 m1 m2 m3 hres hLOW hLw hHg ht
  go_enter Tryz.func99, Tryz.ntmps99
  go_wp2_with (go_at_call 70; fail)
  refine (wordAt_any a l cap u (i + 1) (iv := (i : Int) + 1) w ha hu (by omega)).mono ?_
  rw [HW1.out]
  rintro e w' ⟨rfl, hw⟩
  subst hw
  go_wp2_with (go_at_call 70; fail)
  refine (wordAt_any a l cap u i (iv := (i : Int)) w ha hu rfl).mono ?_
  rw [HW0.out]
  rintro e w' ⟨rfl, hw⟩
  subst hw
  go_wp2
  go_quiet (first | (go_at_call 70; exact HW2.out _))
  go_wp2
  go_ret
  exact ⟨by first | rfl | simp, ⟨rfl, rfl, rfl, Nat.le_refl _, fun _ _ => rfl⟩⟩

set_option maxRecDepth 100000 in
set_option maxHeartbeats 1000000 in
theorem small_any (a : Option Addr) (l cap u : Nat) (w : World) (ha : Sl w a l cap (wd.dcells l (u : Int))) (hu : u < 4294967296 ^ l) (h64 : u < 18446744073709551616) :
    Calls Tryz.prog 89 #[.slice a l cap] w fun e w' => e = .returned (.int .u64 (u : Int)) ∧ Below w.heap.size w w' := by
  have H := headAt_any a l cap u 0 w ha hu (by omega)
  rw [Nat.pow_zero, Nat.div_one, Nat.mod_eq_of_lt h64] at H
  have HH : Hid _ := H
  clear H
  go_enter Tryz.func89, Tryz.ntmps89
  go_wp2_with (go_at_call 99; fail)
  refine (show Calls _ _ _ _ (fun e w' => e = .returned (.int .u64 (u : Int)) ∧ Below w.heap.size w w') from HH.out).mono ?_
  rintro e w' ⟨rfl, hb⟩
  go_wp2
  go_ret
  exact ⟨rfl, hb⟩
end Go.Proofs.YtaekgomplkkocabGreatDoor

namespace Go.Proofs.YtaekgomplkkocabGreatDoor
open Go.RowKit
set_option linter.unusedVariables false

/-- What holds at the head of each round, where the first product is the greater. -/
def OverRel (w : World) (P u Q v : Int) (l b : Nat) (ua ub r i : Value) (wr : World) : Prop := ∃ k : Nat, k ≤ l ∧ i = .int .i64 (k : Int) ∧ ua = .int .u64 (sc P u k) ∧ ub = .int .u64 (sc Q v k) ∧ r = .int .u64 (wd.bw (P * u) (Q * v) k) ∧
  Own wr w.heap.size 65 (some ⟨b, 0, none⟩) l l (wd.mix l k (P * u - Q * v) 0) ∧ Below w.heap.size w wr
theorem over_next (w wr : World) (P u Q v za zb d : Int) (l b k : Nat) (hk : k < l) (hb : w.heap.size ≤ b) (hza : za = sc P u k + P * wd.dg u k) (hzb : zb = sc Q v k + Q * wd.dg v k) (hd : d = (za % 4294967296 - zb % 4294967296 - wd.bw (P * u) (Q * v) k) % 18446744073709551616)
    (hown : Own wr w.heap.size 65 (some ⟨b, 0, none⟩) l l (wd.mix l k (P * u - Q * v) 0)) (hbel : Below w.heap.size w wr) :
    OverRel w P u Q v l b (.int .u64 (za / 4294967296)) (.int .u64 (zb / 4294967296)) (.int .u64 (d / 9223372036854775808)) (.int .i64 ((k : Int) + 1)) (wr.setCell ⟨b, k, none⟩ (.int .u32 (d % 4294967296))) := by
  subst hza hzb
  rw [sc_digit, sc_digit] at hd
  obtain ⟨r0, r1⟩ := wd.bw_range (P * u) (Q * v) k
  obtain ⟨x0, x1⟩ := wd.dg_range (P * u) k
  obtain ⟨y0, y1⟩ := wd.dg_range (Q * v) k
  have e1 : d % 4294967296 = wd.dg (P * u - Q * v) k := by rw [← wd.sub_digit, hd]; omega
  have e2 : d / 9223372036854775808 = wd.bw (P * u) (Q * v) (k + 1) := by
    rw [← wd.bw_succ, hd]
    unfold wd.bor
    split <;> omega
  refine ⟨k + 1, by omega, by simp, by rw [sc_succ], by rw [sc_succ], by rw [e2], ?_, hbel.setCell hb _⟩
  rw [e1, ← wd.mix_set]
  exact Own.set hown _ hk

set_option maxRecDepth 100000 in
set_option maxHeartbeats 1000000 in
theorem between_over (a b : Option Addr) (la lb ca cb u v P Q : Nat) (w : World) (ha : Sl w a la ca (wd.dcells la (u : Int))) (hu : u < 4294967296 ^ la) (hla : la ≤ 1000000000) (hb : Sl w b lb cb (wd.dcells lb (v : Int))) (hv : v < 4294967296 ^ lb) (hP : P < 4294967296) (hQ : Q < 4294967296) (hle : Q * v ≤ P * u) (hlt : P * u - Q * v < 4294967296 ^ la) :
    Calls Tryz.prog 100 #[.slice a la ca, .slice b lb cb, .int .u64 (P : Int), .int .u64 (Q : Int), .bool true] w fun e w' => ∃ a' cap', e = .returned (.slice a' (wd.nlen (P * u - Q * v)) cap') ∧ Own w' w.heap.size 65 a' (wd.nlen (P * u - Q * v)) cap' (wd.dcells (wd.nlen (P * u - Q * v)) ((P * u - Q * v : Nat) : Int)) ∧ Below w.heap.size w w' := by
  obtain ⟨i0, hi0, hz0, hz1, hz2⟩ := info_parts infoWord
  have hz0' : wd.dcells la 0 = List.replicate la (.int .u32 0) := wd.dcells_zero _
  have hmax : la ≤ maxLen := by unfold maxLen; omega
  have HE : Hid ((P : Int) * u - (Q : Int) * v = ((P * u - Q * v : Nat) : Int)) := by unfold Hid; rw [Int.ofNat_sub hle, Int.natCast_mul, Int.natCast_mul]
  have HL : Hid _ := hlt
  clear hlt hle
  obtain ⟨Z, hZ⟩ : ∃ Z, Z = P * u - Q * v := ⟨_, rfl⟩
  rw [← hZ] at HE HL ⊢
  clear hZ
  have hcap := ha.big
  have hroom := ha.room
  unfold maxLen at hcap
  go_enter Tryz.func100, Tryz.ntmps100
  go_wp2_with (at_make; refine make_any _ rfl (.tmp 21) (.tmp 21) 23 rfl w.heap.size 65 i0 (.int .u32 0) Tryz.underlying23 hi0 hz0 hz1 rfl .i64 .i64 _ _ la rfl rfl (by simp) (by simp) (by rw [hz2]; omega) (by omega) (Nat.le_refl _) ?_; intro w1 hown hbel)
  rw [← hz0', ← wd.mix_zero la ((P : Int) * u - (Q : Int) * v)] at hown
  go_loopw [12, 13, 14, 25] (fun ua ub r i wr => OverRel w P u Q v la w.heap.size ua ub r i wr) (fun _ _ _ i _ => la - (intOf i).toNat)
  case atStart => exact ⟨0, by omega, rfl, by rw [sc_zero], by rw [sc_zero], by rw [wd.bw_zero], hown, hbel⟩
  case round =>
    clear hown hbel
    obtain ⟨k, hk, rfl, rfl, rfl, rfl, hown, hbel⟩ := hrel
    by_cases hlt : k < la
    · obtain ⟨ba, oa, rfl, hba, hseg⟩ := ha.at (by omega)
      have c1 : wr.cell? ⟨ba, oa + k, none⟩ = some (.int .u32 (wd.dg u k)) := (hbel.cell (p := ⟨ba, oa + k, none⟩) hba).trans (hseg.cell k _ (wd.dcells_at _ _ _ hlt))
      have c3 : wr.cell? ⟨w.heap.size, k, none⟩ = some (.int .u32 (wd.dg 0 k)) := Own.cell hown k _ (wd.mix_at _ _ _ _ _ (by omega) (Nat.le_refl _))
      have c4 : wr.frozen? ⟨w.heap.size, k, none⟩ = false := Own.free hown k (by omega)
      obtain ⟨d0, d1⟩ := wd.dg_range u k
      obtain ⟨e0, e1⟩ := wd.dg_range v k
      obtain ⟨f0, f1⟩ := sc_range P u k (by omega) (by omega)
      obtain ⟨g0, g1⟩ := sc_range Q v k (by omega) (by omega)
      obtain ⟨x0, x1⟩ := xdg P u k (by omega) (by omega)
      obtain ⟨y0, y1⟩ := xdg Q v k (by omega) (by omega)
      obtain ⟨r0, r1⟩ := wd.bw_range ((P : Int) * u) ((Q : Int) * v) k
      have HN : Hid _ := fun za zb d h1 h2 h3 => over_next w wr P u Q v za zb d la w.heap.size k hlt (Nat.le_refl _) h1 h2 h3 hown hbel
      obtain ⟨za, hza⟩ : ∃ z, z = sc (P : Int) u k + P * wd.dg u k := ⟨_, rfl⟩
      obtain ⟨zb, hzb⟩ : ∃ z, z = sc (Q : Int) v k + Q * wd.dg v k := ⟨_, rfl⟩
      have Ea : sc (P : Int) u k + P * wd.dg u k = za := hza.symm
      have Eb : sc (Q : Int) v k + Q * wd.dg v k = zb := hzb.symm
      have za0 : 0 ≤ za := by omega
      have za1 : za < 18446744073709551616 := by omega
      have zb0 : 0 ≤ zb := by omega
      have zb1 : zb < 18446744073709551616 := by omega
      have HN : Hid _ := fun d => HN.out za zb d hza hzb
      have hs2 := hb.below hbel
      clear hown hza hzb hseg
      go_wp2_with (go_at_call 70; refine (wordAt_any _ _ _ v k _ hs2 hv rfl).mono ?_; rintro e w' ⟨rfl, hw⟩; subst hw)
      go_roundw
      case rel => exact HN.out _ (by rw [IntKind.wrap_u64, IntKind.wrap_u64]; omega)
      case measure => simp [intOf]; omega
    · obtain rfl : k = la := by omega
      rw [wd.mix_full, HE.out] at hown
      go_wp2_with (go_at_call 32; refine (strip_any _ _ _ Z _ hown.sl HL.out).mono ?_; rintro e w' ⟨a3, c3', rfl, hw, hcut3⟩; subst hw)
      go_ret
      exact ⟨a3, c3', rfl, hcut3.own hown, hbel⟩
set_option maxRecDepth 100000 in
set_option maxHeartbeats 1000000 in
theorem between_under (a b : Option Addr) (la lb ca cb u v P Q : Nat) (w : World) (ha : Sl w a la ca (wd.dcells la (u : Int))) (hu : u < 4294967296 ^ la) (hla : la ≤ 1000000000) (hb : Sl w b lb cb (wd.dcells lb (v : Int))) (hv : v < 4294967296 ^ lb) (hP : P < 4294967296) (hQ : Q < 4294967296) (hle : P * u ≤ Q * v) (hlt : Q * v - P * u < 4294967296 ^ la) :
    Calls Tryz.prog 100 #[.slice a la ca, .slice b lb cb, .int .u64 (P : Int), .int .u64 (Q : Int), .bool false] w fun e w' => ∃ a' cap', e = .returned (.slice a' (wd.nlen (Q * v - P * u)) cap') ∧ Own w' w.heap.size 65 a' (wd.nlen (Q * v - P * u)) cap' (wd.dcells (wd.nlen (Q * v - P * u)) ((Q * v - P * u : Nat) : Int)) ∧ Below w.heap.size w w' := by
  obtain ⟨i0, hi0, hz0, hz1, hz2⟩ := info_parts infoWord
  have hz0' : wd.dcells la 0 = List.replicate la (.int .u32 0) := wd.dcells_zero _
  have hmax : la ≤ maxLen := by unfold maxLen; omega
  have HE : Hid ((Q : Int) * v - (P : Int) * u = ((Q * v - P * u : Nat) : Int)) := by unfold Hid; rw [Int.ofNat_sub hle, Int.natCast_mul, Int.natCast_mul]
  have HL : Hid _ := hlt
  clear hlt hle
  obtain ⟨Z, hZ⟩ : ∃ Z, Z = Q * v - P * u := ⟨_, rfl⟩
  rw [← hZ] at HE HL ⊢
  clear hZ
  have hcap := ha.big
  have hroom := ha.room
  unfold maxLen at hcap
  go_enter Tryz.func100, Tryz.ntmps100
  go_wp2_with (at_make; refine make_any _ rfl (.tmp 21) (.tmp 21) 23 rfl w.heap.size 65 i0 (.int .u32 0) Tryz.underlying23 hi0 hz0 hz1 rfl .i64 .i64 _ _ la rfl rfl (by simp) (by simp) (by rw [hz2]; omega) (by omega) (Nat.le_refl _) ?_; intro w1 hown hbel)
  rw [← hz0', ← wd.mix_zero la ((Q : Int) * v - (P : Int) * u)] at hown
  go_loopw [12, 13, 14, 25] (fun ua ub r i wr => OverRel w Q v P u la w.heap.size ub ua r i wr) (fun _ _ _ i _ => la - (intOf i).toNat)
  case atStart => exact ⟨0, by omega, rfl, by rw [sc_zero], by rw [sc_zero], by rw [wd.bw_zero], hown, hbel⟩
  case round =>
    clear hown hbel
    obtain ⟨k, hk, rfl, rfl, rfl, rfl, hown, hbel⟩ := hrel
    by_cases hlt : k < la
    · obtain ⟨ba, oa, rfl, hba, hseg⟩ := ha.at (by omega)
      have c1 : wr.cell? ⟨ba, oa + k, none⟩ = some (.int .u32 (wd.dg u k)) := (hbel.cell (p := ⟨ba, oa + k, none⟩) hba).trans (hseg.cell k _ (wd.dcells_at _ _ _ hlt))
      have c3 : wr.cell? ⟨w.heap.size, k, none⟩ = some (.int .u32 (wd.dg 0 k)) := Own.cell hown k _ (wd.mix_at _ _ _ _ _ (by omega) (Nat.le_refl _))
      have c4 : wr.frozen? ⟨w.heap.size, k, none⟩ = false := Own.free hown k (by omega)
      obtain ⟨d0, d1⟩ := wd.dg_range u k
      obtain ⟨e0, e1⟩ := wd.dg_range v k
      obtain ⟨f0, f1⟩ := sc_range P u k (by omega) (by omega)
      obtain ⟨g0, g1⟩ := sc_range Q v k (by omega) (by omega)
      obtain ⟨x0, x1⟩ := xdg P u k (by omega) (by omega)
      obtain ⟨y0, y1⟩ := xdg Q v k (by omega) (by omega)
      obtain ⟨r0, r1⟩ := wd.bw_range ((Q : Int) * v) ((P : Int) * u) k
      have HN : Hid _ := fun za zb d h1 h2 h3 => over_next w wr Q v P u zb za d la w.heap.size k hlt (Nat.le_refl _) h2 h1 h3 hown hbel
      obtain ⟨za, hza⟩ : ∃ z, z = sc (P : Int) u k + P * wd.dg u k := ⟨_, rfl⟩
      obtain ⟨zb, hzb⟩ : ∃ z, z = sc (Q : Int) v k + Q * wd.dg v k := ⟨_, rfl⟩
      have Ea : sc (P : Int) u k + P * wd.dg u k = za := hza.symm
      have Eb : sc (Q : Int) v k + Q * wd.dg v k = zb := hzb.symm
      have za0 : 0 ≤ za := by omega
      have za1 : za < 18446744073709551616 := by omega
      have zb0 : 0 ≤ zb := by omega
      have zb1 : zb < 18446744073709551616 := by omega
      have HN : Hid _ := fun d => HN.out za zb d hza hzb
      have hs2 := hb.below hbel
      clear hown hza hzb hseg
      go_wp2_with (go_at_call 70; refine (wordAt_any _ _ _ v k _ hs2 hv rfl).mono ?_; rintro e w' ⟨rfl, hw⟩; subst hw)
      go_roundw
      case rel => exact HN.out _ (by rw [IntKind.wrap_u64, IntKind.wrap_u64]; omega)
      case measure => simp [intOf]; omega
    · obtain rfl : k = la := by omega
      rw [wd.mix_full, HE.out] at hown
      go_wp2_with (go_at_call 32; refine (strip_any _ _ _ Z _ hown.sl HL.out).mono ?_; rintro e w' ⟨a3, c3', rfl, hw, hcut3⟩; subst hw)
      go_ret
      exact ⟨a3, c3', rfl, hcut3.own hown, hbel⟩
end Go.Proofs.YtaekgomplkkocabGreatDoor

namespace Go.Proofs.YtaekgomplkkocabGreatDoor
set_option linter.unusedVariables false

def sgv (ev : Bool) : Int := if ev then -1 else 1
theorem sgv_not (ev : Bool) : sgv (!ev) = - sgv ev := by cases ev <;> rfl
theorem sgv_sq (ev : Bool) : sgv ev * sgv ev = 1 := by cases ev <;> rfl
/-- What holds at the head of each round, of two numbers A = x F + α and B = y F + β: a and b are what is left of x and y; p and q the factors. -/
structure Fore (A B x y : Int) (a b p0 p1 pn q0 q1 qn : Int) (ev : Bool) : Prop where
  ha : a = sgv ev * (p1 * x - q1 * y)
  hb : b = - sgv ev * (pn * x - qn * y)
  det : p1 * qn - pn * q1 = sgv ev
  b0 : 0 ≤ b
  ab : b ≤ a
  hp0 : 0 ≤ p0
  hp1 : 0 ≤ p1
  hpn : 0 ≤ pn
  hq0 : 0 ≤ q0
  hq1 : 0 ≤ q1
  q1n : q1 ≤ qn
  hqn : 1 ≤ qn
  pqn : pn ≤ qn
  first : (q1 = 0 ∧ p1 = 1 ∧ pn = 0 ∧ qn = 1 ∧ ev = false ∧ q0 = 0) ∨ (1 ≤ q1 ∧ p1 ≤ q1)
  q1l : q1 < 4294967296
  q0l : q0 < 4294967296
  p0l : p0 < 4294967296
  p1l : p1 < 4294967296
  out : q0 ≠ 0 → 0 ≤ sgv ev * (p1 * A - q1 * B) ∧ sgv ev * (p1 * A - q1 * B) < - sgv ev * (p0 * A - q0 * B) ∧ - sgv ev * (p0 * A - q0 * B) ≤ B ∧ p0 * q1 - p1 * q0 = - sgv ev
  cur : q1 ≠ 0 → sgv ev * (p1 * A - q1 * B) ≤ B
theorem fore_start (A B x y : Int) (hy : 0 ≤ y) (hxy : y ≤ x) : Fore A B x y x y 0 1 0 0 0 1 false := by
  refine ⟨?_, ?_, ?_, hy, hxy, ?_, ?_, ?_, ?_, ?_, ?_, ?_, ?_, Or.inl ⟨rfl, rfl, rfl, rfl, rfl, rfl⟩, ?_, ?_, ?_, ?_, ?_, ?_⟩ <;> simp [sgv]
theorem fore_x {A B x y a b p0 p1 pn q0 q1 qn : Int} {ev : Bool} (h : Fore A B x y a b p0 p1 pn q0 q1 qn ev) : qn * a + q1 * b = x := by
  have h1 := h.ha
  have h2 := h.hb
  have h3 := h.det
  have h4 := sgv_sq ev
  clear h
  grind
theorem fore_y {A B x y a b p0 p1 pn q0 q1 qn : Int} {ev : Bool} (h : Fore A B x y a b p0 p1 pn q0 q1 qn ev) : pn * a + p1 * b = y := by
  have h1 := h.ha
  have h2 := h.hb
  have h3 := h.det
  have h4 := sgv_sq ev
  clear h
  grind
/-- Where the test is met there is room for the sum that it asks for, and for the next factors; and the factors that are next are short. -/
theorem fore_room {A B x y a b p0 p1 pn q0 q1 qn : Int} {ev : Bool} (h : Fore A B x y a b p0 p1 pn q0 q1 qn ev) (hx : x < 18446744073709551616) (hyx : y ≤ x) (hb : qn ≤ b) :
    q1 + qn < 18446744073709551616 ∧ q1 + a / b * qn < 18446744073709551616 ∧ p1 + a / b * pn < 18446744073709551616 ∧ qn < 4294967296 ∧ a < 18446744073709551616 ∧ a / b * qn < 18446744073709551616 ∧ a / b * pn < 18446744073709551616 ∧ 1 ≤ a / b := by
  have hX := fore_x h
  have hY := fore_y h
  have h1 := h.hqn
  have h2 := h.hq1
  have h3 := h.ab
  have h4 := h.hpn
  have h5 := h.hp1
  have hb0 : 0 < b := by omega
  have t1 : 1 ≤ a / b := Int.le_ediv_of_mul_le hb0 (by omega)
  have tb : a / b * b ≤ a := Int.ediv_mul_le a (by omega)
  generalize a / b = t at t1 tb
  have e1 : qn * qn ≤ qn * a := Int.mul_le_mul_of_nonneg_left (by omega) (by omega)
  have e2 : 0 ≤ q1 * b := Int.mul_nonneg h2 (by omega)
  have e3 : qn * (t * b) ≤ qn * a := Int.mul_le_mul_of_nonneg_left tb (by omega)
  have e4 : pn * (t * b) ≤ pn * a := Int.mul_le_mul_of_nonneg_left tb (by omega)
  have e5 : (q1 + t * qn) * 1 ≤ (q1 + t * qn) * b := Int.mul_le_mul_of_nonneg_left (by omega) (by have := Int.mul_nonneg (show 0 ≤ t by omega) (show 0 ≤ qn by omega); omega)
  have e6 : (p1 + t * pn) * 1 ≤ (p1 + t * pn) * b := Int.mul_le_mul_of_nonneg_left (by omega) (by have := Int.mul_nonneg (show 0 ≤ t by omega) h4; omega)
  have e7 : (q1 + t * qn) * b = q1 * b + qn * (t * b) := by grind
  have e8 : (p1 + t * pn) * b = p1 * b + pn * (t * b) := by grind
  have e9 : 1 * qn ≤ t * qn := Int.mul_le_mul_of_nonneg_right t1 (by omega)
  have e10 : 1 * a ≤ qn * a := Int.mul_le_mul_of_nonneg_right h1 (by omega)
  have e11 : qn < 4294967296 := by
    rcases Int.lt_or_le qn 4294967296 with g | g
    · exact g
    · have := Int.mul_le_mul g g (by decide) (by omega)
      omega
  have e12 := Int.mul_nonneg (show 0 ≤ t by omega) (show 0 ≤ qn by omega)
  have e13 := Int.mul_nonneg (show 0 ≤ t by omega) h4
  refine ⟨by omega, by omega, by omega, e11, by omega, by omega, by omega, t1⟩
theorem fore_next {A B x y a b p0 p1 pn q0 q1 qn F al be : Int} {ev : Bool} (h : Fore A B x y a b p0 p1 pn q0 q1 qn ev) (hx : x < 18446744073709551616) (hyx : y ≤ x) (hA : A = x * F + al) (hB : B = y * F + be) (ha0 : 0 ≤ al) (ha1 : al < F) (hb0 : 0 ≤ be) (hb1 : be < F)
    (t1 : qn ≤ b) (t2 : q1 + qn ≤ a - b) : Fore A B x y b (a % b) p1 pn (p1 + a / b * pn) q1 qn (q1 + a / b * qn) (!ev) := by
  obtain ⟨_, _, _, r1, _, _, _, r2⟩ := fore_room h hx hyx t1
  have hq := h.hqn
  have hbp : 0 < b := by omega
  have hm : a % b = a - a / b * b := by have := Int.mul_ediv_add_emod a b; rw [Int.mul_comm] at this; omega
  have hm0 := Int.emod_nonneg a (Int.ne_of_gt hbp)
  have hm1 := Int.emod_lt_of_pos a hbp
  generalize a / b = t at hm r2
  generalize a % b = m at hm hm0 hm1
  have g1 := h.ha
  have g2 := h.hb
  have g3 := h.det
  have g4 := h.hp1
  have g5 := h.hpn
  have g6 := h.hq1
  have g7 := h.pqn
  have g8 := sgv_sq ev
  have n1 := Int.mul_nonneg (show 0 ≤ t by omega) g5
  have n2 := Int.mul_nonneg (show 0 ≤ t by omega) (show 0 ≤ qn by omega)
  have n3 : 1 * qn ≤ t * qn := Int.mul_le_mul_of_nonneg_right r2 (by omega)
  have n4 : t * pn ≤ t * qn := Int.mul_le_mul_of_nonneg_left g7 (by omega)
  -- what is left of the numbers themselves
  have key : 0 ≤ - sgv ev * (pn * A - qn * B) ∧ (q1 ≠ 0 → - sgv ev * (pn * A - qn * B) < sgv ev * (p1 * A - q1 * B)) ∧ (q1 = 0 → - sgv ev * (pn * A - qn * B) = B) := by
    have k1 : qn * F ≤ b * F := Int.mul_le_mul_of_nonneg_right t1 (by omega)
    have k2 : (q1 + qn) * F ≤ (a - b) * F := Int.mul_le_mul_of_nonneg_right t2 (by omega)
    have k3 : pn * al ≤ qn * F := Int.le_trans (Int.mul_le_mul_of_nonneg_right g7 ha0) (Int.mul_le_mul_of_nonneg_left (by omega) (by omega))
    have k4 : qn * be ≤ qn * F := Int.mul_le_mul_of_nonneg_left (by omega) (by omega)
    have k5 : 0 ≤ pn * al := Int.mul_nonneg g5 ha0
    have k6 : 0 ≤ qn * be := Int.mul_nonneg (by omega) hb0
    have k7 : 0 ≤ p1 * al := Int.mul_nonneg g4 ha0
    have k8 : 0 ≤ q1 * be := Int.mul_nonneg g6 hb0
    have eR : - sgv ev * (pn * A - qn * B) = b * F - sgv ev * (pn * al - qn * be) := by rw [g2, hA, hB]; clear g1 g2 g3 hA hB; grind
    have eS : sgv ev * (p1 * A - q1 * B) = a * F + sgv ev * (p1 * al - q1 * be) := by rw [g1, hA, hB]; clear g1 g2 g3 hA hB; grind
    refine ⟨?_, ?_, ?_⟩
    · rw [eR]
      cases ev
      · simp only [sgv]; simp; omega
      · simp only [sgv]; simp; omega
    · intro hq1
      rcases h.first with ⟨z, _⟩ | ⟨o1, o2⟩
      · exact absurd z hq1
      · have k9 : (q1 + qn) * (be + 1) ≤ (q1 + qn) * F := Int.mul_le_mul_of_nonneg_left (by omega) (by omega)
        have k10 : (q1 + qn) * (al + 1) ≤ (q1 + qn) * F := Int.mul_le_mul_of_nonneg_left (by omega) (by omega)
        have k11 : (p1 + pn) * al ≤ (q1 + qn) * al := Int.mul_le_mul_of_nonneg_right (by omega) ha0
        rw [eR, eS]
        rw [Int.sub_mul] at k2
        rw [Int.mul_add, Int.mul_one, Int.add_mul q1 qn be, Int.add_mul] at k9
        rw [Int.mul_add, Int.mul_one, Int.add_mul q1 qn al, Int.add_mul] at k10
        rw [Int.add_mul, Int.add_mul] at k11
        rw [Int.add_mul] at k2
        cases ev
        · simp only [sgv]; simp; omega
        · simp only [sgv]; simp; omega
    · intro hq1
      rcases h.first with ⟨_, z1, z2, z3, z4, _⟩ | ⟨o1, o2⟩
      · subst z4; rw [z2, z3]; simp [sgv]
      · omega
  refine ⟨?_, ?_, ?_, hm0, by omega, g4, g5, by omega, g6, by omega, by omega, by omega, ?_, Or.inr ⟨by omega, g7⟩, r1, h.q1l, h.p1l, by omega, ?_, ?_⟩
  · rw [sgv_not]; exact g2
  · rw [sgv_not, hm]; clear h key hA hB; grind
  · rw [sgv_not]; clear h key hA hB; grind
  · rcases h.first with ⟨z0, z1, z2, z3, _⟩ | ⟨o1, o2⟩
    · subst z0 z1 z2 z3; omega
    · omega
  · intro hq1
    rw [sgv_not]
    obtain ⟨key1, key2, _⟩ := key
    have c := h.cur hq1
    have d := key2 hq1
    refine ⟨by simpa using key1, by simpa using d, by simpa using c, by simpa using g3⟩
  · intro _
    rw [sgv_not]
    obtain ⟨_, key2, key3⟩ := key
    by_cases hq1 : q1 = 0
    · have := key3 hq1; omega
    · have := key2 hq1
      have := h.cur hq1
      omega
/-- What is told at the end. -/
theorem fore_gcd (A B X Y p0 p1 q0 q1 : Nat) (ev : Bool) (hX : (X : Int) = - sgv ev * (p0 * A - q0 * B)) (hY : (Y : Int) = sgv ev * (p1 * A - q1 * B)) (det : (p0 : Int) * q1 - p1 * q0 = - sgv ev) : Nat.gcd X Y = Nat.gcd A B := by
  have s := sgv_sq ev
  have eA : (A : Int) = q1 * X + q0 * Y := by rw [hX, hY]; grind
  have eB : (B : Int) = p1 * X + p0 * Y := by rw [hX, hY]; grind
  have dv : ∀ d u v : Nat, ∀ z c1 c2 : Int, d ∣ u → d ∣ v → z = c1 * u + c2 * v → (d : Int) ∣ z := by
    intro d u v z c1 c2 h1 h2 h3
    rw [h3]
    exact Int.dvd_add (Int.dvd_trans (Int.natCast_dvd_natCast.2 h1) (Int.dvd_mul_left _ _)) (Int.dvd_trans (Int.natCast_dvd_natCast.2 h2) (Int.dvd_mul_left _ _))
  refine Nat.dvd_antisymm (Nat.dvd_gcd ?_ ?_) (Nat.dvd_gcd ?_ ?_)
  · exact Int.natCast_dvd_natCast.1 (dv _ X Y _ _ _ (Nat.gcd_dvd_left _ _) (Nat.gcd_dvd_right _ _) eA)
  · exact Int.natCast_dvd_natCast.1 (dv _ X Y _ _ _ (Nat.gcd_dvd_left _ _) (Nat.gcd_dvd_right _ _) eB)
  · exact Int.natCast_dvd_natCast.1 (dv _ A B _ (- sgv ev * p0) (sgv ev * q0) (Nat.gcd_dvd_left _ _) (Nat.gcd_dvd_right _ _) (by rw [hX]; grind))
  · exact Int.natCast_dvd_natCast.1 (dv _ A B _ (sgv ev * p1) (- sgv ev * q1) (Nat.gcd_dvd_left _ _) (Nat.gcd_dvd_right _ _) (by rw [hY]; grind))
end Go.Proofs.YtaekgomplkkocabGreatDoor

namespace Go.Proofs.YtaekgomplkkocabGreatDoor
open Go.RowKit
set_option linter.unusedVariables false

/-- What is told: short factors, and, where there is a factor for B, what they leave of A and B. -/
structure ForeOut (A B p0 p1 q0 q1 : Nat) (ev : Bool) : Prop where
  hp0 : p0 < 4294967296
  hp1 : p1 < 4294967296
  hq0 : q0 < 4294967296
  hq1 : q1 < 4294967296
  out : q0 ≠ 0 → 0 ≤ sgv ev * (p1 * A - q1 * B) ∧ sgv ev * (p1 * A - q1 * B) < - sgv ev * (p0 * A - q0 * B) ∧ - sgv ev * (p0 * A - q0 * B) ≤ B ∧ (p0 : Int) * q1 - p1 * q0 = - sgv ev
theorem Fore.told {A B p0 p1 q0 q1 : Nat} {x y a b pn qn : Int} {ev : Bool} (h : Fore A B x y a b p0 p1 pn q0 q1 qn ev) : ForeOut A B p0 p1 q0 q1 ev :=
  ⟨by have := h.p0l; omega, by have := h.p1l; omega, by have := h.q0l; omega, by have := h.q1l; omega, fun hq => h.out (by omega)⟩
def ForePost (w : World) (A B : Nat) (e : Ending) (w' : World) : Prop := ∃ (p0 p1 q0 q1 : Nat) (ev : Bool), e = .returned (.agg #[.int .u64 (p0 : Int), .int .u64 (p1 : Int), .int .u64 (q0 : Int), .int .u64 (q1 : Int), .bool ev]) ∧ ForeOut A B p0 p1 q0 q1 ev ∧ Below w.heap.size w w'
def foreCells (p0 p1 q0 q1 : Nat) (ev : Bool) : List Value := [.int .u64 (p0 : Int), .int .u64 (p1 : Int), .int .u64 (q0 : Int), .int .u64 (q1 : Int), .bool ev]
/-- What holds at the head of each round. -/
def ForeRel (w : World) (A B x y : Nat) (av bv nA nB : Value) (wr : World) : Prop := ∃ (a b p0 p1 pn q0 q1 qn : Nat) (ev : Bool), av = .int .u64 (a : Int) ∧ bv = .int .u64 (b : Int) ∧ nA = .int .u64 (pn : Int) ∧ nB = .int .u64 (qn : Int) ∧ Hid (Fore A B x y a b p0 p1 pn q0 q1 qn ev) ∧ a < 18446744073709551616 ∧ b ≤ a ∧
  Row wr (w.heap.size + 1) (foreCells p0 p1 q0 q1 ev) ∧ Row wr w.heap.size (foreCells 0 0 0 0 false) ∧ Below w.heap.size w wr
theorem fore_cells {wr : World} {b p0 p1 q0 q1 pn qn : Nat} {ev : Bool} (n : Nat) (h : Row wr b (foreCells p0 p1 q0 q1 ev)) :
    Row ((((((wr.drewN n).setCell ⟨b, 0, none⟩ (.int .u64 (p1 : Int))).setCell ⟨b, 1, none⟩ (.int .u64 (pn : Int))).setCell ⟨b, 2, none⟩ (.int .u64 (q1 : Int))).setCell ⟨b, 3, none⟩ (.int .u64 (qn : Int))).setCell ⟨b, 4, none⟩ (.bool (!ev))) b (foreCells p1 pn q1 qn (!ev)) :=
  (((((h.drewN n).set 0 _ (by simp [foreCells])).set 1 _ (by simp [foreCells])).set 2 _ (by simp [foreCells])).set 3 _ (by simp [foreCells])).set 4 _ (by simp [foreCells])
theorem below_drewN {B : Nat} {w wr : World} (h : Below B w wr) (n : Nat) : Below B w (wr.drewN n) := ⟨h.os, h.tape, h.output, h.size, h.block⟩
set_option maxRecDepth 100000 in
set_option maxHeartbeats 2000000 in
theorem foresee_any (A B x y F al be : Nat) (w : World) (hyx : y ≤ x) (hx : x < 18446744073709551616) (hA : A = x * F + al) (hB : B = y * F + be) (hal : al < F) (hbe : be < F) :
    Calls Tryz.prog 98 #[.int .u64 (x : Int), .int .u64 (y : Int)] w (ForePost w A B) := by
  have HA : Hid ((A : Int) = (x : Int) * F + al) := by unfold Hid; rw [hA]; simp
  have HB : Hid ((B : Int) = (y : Int) * F + be) := by unfold Hid; rw [hB]; simp
  have HS : Hid (Fore A B x y x y ((0 : Nat) : Int) ((1 : Nat) : Int) ((0 : Nat) : Int) ((0 : Nat) : Int) ((0 : Nat) : Int) ((1 : Nat) : Int) false) := fore_start A B x y (by omega) (by omega)
  clear hA hB
  go_enter Tryz.func98, Tryz.ntmps98
  go_wp2
  go_loopw [0, 1, 6, 7] (fun av bv nA nB wr => ForeRel w A B x y av bv nA nB wr) (fun _ bv _ _ _ => (intOf bv).toNat)
  case atStart =>
    refine ⟨x, y, 0, 1, 0, 0, 0, 1, false, rfl, rfl, rfl, rfl, HS.out, hx, hyx, ?_, ?_, ?_⟩
    · have := Row.new (w.alloc (.cells #[.int .u64 0, .int .u64 0, .int .u64 0, .int .u64 0, .bool false] 141)) (foreCells 0 1 0 0 false) 141
      simpa [foreCells] using this
    · have := (Row.new w (foreCells 0 0 0 0 false) 141).alloc (.cells (foreCells 0 1 0 0 false).toArray 141) (by simp)
      simpa [foreCells] using this
    · exact ((Below.refl _ _).alloc (Nat.le_refl _) _).alloc (by simp) _
  case round =>
    obtain ⟨a, b, p0, p1, pn, q0, q1, qn, ev, rfl, rfl, rfl, rfl, H, ha, hba, hrow, hrow0, hbel⟩ := hrel
    have c0 : wr.cell? ⟨w.heap.size + 1, 0, none⟩ = some (.int .u64 (p0 : Int)) := hrow.cell 0 _ rfl
    have c1 : wr.cell? ⟨w.heap.size + 1, 1, none⟩ = some (.int .u64 (p1 : Int)) := hrow.cell 1 _ rfl
    have c2 : wr.cell? ⟨w.heap.size + 1, 2, none⟩ = some (.int .u64 (q0 : Int)) := hrow.cell 2 _ rfl
    have c3 : wr.cell? ⟨w.heap.size + 1, 3, none⟩ = some (.int .u64 (q1 : Int)) := hrow.cell 3 _ rfl
    have c4 : wr.cell? ⟨w.heap.size + 1, 4, none⟩ = some (.bool ev) := hrow.cell 4 _ rfl
    have f0 : wr.frozen? ⟨w.heap.size + 1, 0, none⟩ = false := hrow.free 0 (by simp [foreCells])
    have f1 : wr.frozen? ⟨w.heap.size + 1, 1, none⟩ = false := hrow.free 1 (by simp [foreCells])
    have f2 : wr.frozen? ⟨w.heap.size + 1, 2, none⟩ = false := hrow.free 2 (by simp [foreCells])
    have f3 : wr.frozen? ⟨w.heap.size + 1, 3, none⟩ = false := hrow.free 3 (by simp [foreCells])
    have f4 : wr.frozen? ⟨w.heap.size + 1, 4, none⟩ = false := hrow.free 4 (by simp [foreCells])
    have z0 : wr.cell? ⟨w.heap.size, 0, none⟩ = some (.int .u64 0) := hrow0.cell 0 _ rfl
    have z1 : wr.cell? ⟨w.heap.size, 1, none⟩ = some (.int .u64 0) := hrow0.cell 1 _ rfl
    have z2 : wr.cell? ⟨w.heap.size, 2, none⟩ = some (.int .u64 0) := hrow0.cell 2 _ rfl
    have z3 : wr.cell? ⟨w.heap.size, 3, none⟩ = some (.int .u64 0) := hrow0.cell 3 _ rfl
    have z4 : wr.cell? ⟨w.heap.size, 4, none⟩ = some (.bool false) := hrow0.cell 4 _ rfl
    have y0 : wr.frozen? ⟨w.heap.size, 0, none⟩ = false := hrow0.free 0 (by simp [foreCells])
    have y1 : wr.frozen? ⟨w.heap.size, 1, none⟩ = false := hrow0.free 1 (by simp [foreCells])
    have y2 : wr.frozen? ⟨w.heap.size, 2, none⟩ = false := hrow0.free 2 (by simp [foreCells])
    have y3 : wr.frozen? ⟨w.heap.size, 3, none⟩ = false := hrow0.free 3 (by simp [foreCells])
    have y4 : wr.frozen? ⟨w.heap.size, 4, none⟩ = false := hrow0.free 4 (by simp [foreCells])
    by_cases t1 : qn ≤ b
    · obtain ⟨r1, r2, r3, r4, r5, r6, r7, r8⟩ := fore_room H.out (by omega) (by omega) (by omega)
      have hqn := H.out.hqn
      have hb0 : ¬ (b : Int) = 0 := by omega
      have t1' : decide ((b : Int) ≥ qn) = true := by simpa using t1
      by_cases t2 : q1 + qn ≤ a - b
      · have HN : Hid _ := fore_next H.out (by omega) (by omega) HA.out HB.out (by omega) (by omega) (by omega) (by omega) (by omega) (by omega)
        obtain ⟨T, hT⟩ : ∃ T, T = a / b := ⟨_, rfl⟩
        obtain ⟨m, hm⟩ : ∃ m, m = a % b := ⟨_, rfl⟩
        have E1 : (a : Int) / (b : Int) = (T : Int) := by rw [hT, Int.natCast_ediv]
        have E2 : (a : Int) % (b : Int) = (m : Int) := by rw [hm, Int.natCast_emod]
        have hmb : m < b := by rw [hm]; exact Nat.mod_lt _ (by omega)
        rw [E1] at r2 r3 r6 r7 r8
        rw [E1, E2] at HN
        have hTa : T < 18446744073709551616 := Nat.lt_of_le_of_lt (hT ▸ Nat.div_le_self a b) ha
        clear hT hm
        have s1 : (0 : Int) ≤ (T : Int) * (pn : Int) := by rw [← Int.natCast_mul]; omega
        have s2 : (0 : Int) ≤ (T : Int) * (qn : Int) := by rw [← Int.natCast_mul]; omega
        obtain ⟨X, hX⟩ : ∃ X, X = T * pn := ⟨_, rfl⟩
        obtain ⟨Y, hY⟩ : ∃ Y, Y = T * qn := ⟨_, rfl⟩
        have EX : (T : Int) * (pn : Int) = (X : Int) := by rw [hX, Int.natCast_mul]
        have EY : (T : Int) * (qn : Int) = (Y : Int) := by rw [hY, Int.natCast_mul]
        rw [EX] at r3 r7 HN
        rw [EY] at r2 r6 HN
        clear hX hY
        have t2' : (q1 : Int) + qn ≤ a - b := by omega
        go_wp2
        go_quiet (fail)
        go_wp2
        go_roundw
        case rel =>
          refine ⟨b, m, p1, pn, p1 + X, q1, qn, q1 + Y, !ev, rfl, by first | rfl | rw [E2], by simp, by simp, ?_, by omega, by omega, ?_, ?_, ?_⟩
          · have := HN.out
            unfold Hid
            simpa using this
          · exact fore_cells _ hrow
          · exact (((((hrow0.drewN _).other _ (by omega)).other _ (by omega)).other _ (by omega)).other _ (by omega)).other _ (by omega)
          · exact (((((below_drewN hbel _).setCell (by show _ ≤ w.heap.size + 1; omega) _).setCell (by show _ ≤ w.heap.size + 1; omega) _).setCell (by show _ ≤ w.heap.size + 1; omega) _).setCell (by show _ ≤ w.heap.size + 1; omega) _).setCell (by show _ ≤ w.heap.size + 1; omega) _
        case measure => simp [intOf]; omega
      · have t2' : ¬ ((q1 : Int) + qn ≤ a - b) := by omega
        go_wp2
        refine bodyPost_ret (v := .agg #[.int .u64 (p0 : Int), .int .u64 (p1 : Int), .int .u64 (q0 : Int), .int .u64 (q1 : Int), .bool ev]) (by simp [results, Tryz.results98, go_sem, *]) rfl ⟨p0, p1, q0, q1, ev, rfl, H.out.told, ?_⟩
        exact ((((hbel.setCell (by show _ ≤ w.heap.size; omega) _).setCell (by show _ ≤ w.heap.size; omega) _).setCell (by show _ ≤ w.heap.size; omega) _).setCell (by show _ ≤ w.heap.size; omega) _).setCell (by show _ ≤ w.heap.size; omega) _
    · have t1' : ¬ ((qn : Int) ≤ b) := by omega
      go_wp2
      refine bodyPost_ret (v := .agg #[.int .u64 (p0 : Int), .int .u64 (p1 : Int), .int .u64 (q0 : Int), .int .u64 (q1 : Int), .bool ev]) (by simp [results, Tryz.results98, go_sem, *]) rfl ⟨p0, p1, q0, q1, ev, rfl, H.out.told, ?_⟩
      exact ((((hbel.setCell (by show _ ≤ w.heap.size; omega) _).setCell (by show _ ≤ w.heap.size; omega) _).setCell (by show _ ≤ w.heap.size; omega) _).setCell (by show _ ≤ w.heap.size; omega) _).setCell (by show _ ≤ w.heap.size; omega) _
end Go.Proofs.YtaekgomplkkocabGreatDoor
