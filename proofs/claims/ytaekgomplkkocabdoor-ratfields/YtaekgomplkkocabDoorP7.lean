/-
  Joined texts, part 7:
  What package rat's alike, bothDens, Norm, Neg, Add, Sub and Mul answer.
  What package rat's Of, Make, Div, Floor, Round, Sign and Cmp answer.
  What a walk with blocks that are made at any time holds on to: new blocks of fractions, apart from the slices there are.
-/
import Derived.Test.YtaekgomplkkocabDoorP6
import Derived.Test.YtaekgomplkkocabDoorP5
import Derived.Test.YtaekgomplkkocabDoorP3
namespace Go.Proofs.YtaekgomplkkocabDoor
open Go.RowKit
set_option linter.unusedVariables false

def GotTwo (w : World) (x y : Int) (e : Ending) (w' : World) : Prop := ∃ (n : Bool) (a : Option Addr) (l c : Nat) (m : Bool) (b : Option Addr) (k g : Nat), e = .returned (.tuple #[.agg #[.bool n, .slice a l c], .agg #[.bool m, .slice b k g]]) ∧ WN w' n a l c x ∧ WN w' m b k g y ∧ Below w.heap.size w w'
theorem endTwo {w w2 : World} {n : Bool} {a : Option Addr} {l c : Nat} {m : Bool} {b : Option Addr} {k g : Nat} {x y : Int} (p : Nat) (hp : w.heap.size ≤ p) (B : Below w.heap.size w w2) (h1 : WN w2 n a l c x) (h2 : WN w2 m b k g y) (f1 : Far (p + 2) a l) (f2 : Far (p + 2) b k) (u v u' v' : Value) :
    GotTwo w x y (.returned (.tuple #[.agg #[.bool n, .slice a l c], .agg #[.bool m, .slice b k g]])) ((((w2.setCell ⟨p, 0, none⟩ u).setCell ⟨p, 1, none⟩ v).setCell ⟨p + 1, 0, none⟩ u').setCell ⟨p + 1, 1, none⟩ v') :=
  ⟨n, a, l, c, m, b, k, g, rfl, (h1.put2 (f1 _ (by omega)) _ _).put2 (f1 _ (by omega)) _ _, (h2.put2 (f2 _ (by omega)) _ _).put2 (f2 _ (by omega)) _ _, below_put2 (below_put2 B hp _ _) (by omega) _ _⟩
theorem abs_add' {X Y : Int} {K : Nat} (h1 : X.natAbs < 4294967296 ^ K) (h2 : Y.natAbs < 4294967296 ^ K) : (X + Y).natAbs < 4294967296 ^ (K + 1) := by
  have := Int.natAbs_add_le X Y
  rw [Nat.pow_succ]
  omega
theorem abs_mul' {X Y : Int} {K L : Nat} (h1 : X.natAbs < 4294967296 ^ K) (h2 : Y.natAbs < 4294967296 ^ L) : (X * Y).natAbs < 4294967296 ^ (K + L) := by
  rw [Int.natAbs_mul, Nat.pow_add]
  exact Nat.mul_lt_mul_of_lt_of_le h1 (Nat.le_of_lt h2) (Nat.pow_pos (by decide))
theorem nat_mul' {X Y : Nat} {K L : Nat} (h1 : X < 4294967296 ^ K) (h2 : Y < 4294967296 ^ L) : X * Y < 4294967296 ^ (K + L) := by
  rw [Nat.pow_add]
  exact Nat.mul_lt_mul_of_lt_of_le h1 (Nat.le_of_lt h2) (Nat.pow_pos (by decide))
theorem QI.pn {w : World} {K : Nat} {n : Bool} {a : Option Addr} {l c : Nat} {d : Option Addr} {m k : Nat} {z : Int} {D : Nat} (h : QI w K n a l c d m k z D) : (pN z D).natAbs < 4294967296 ^ K := by
  unfold pN
  split
  · exact Nat.pow_pos (by decide)
  · exact h.zs
theorem QI.pd {w : World} {K : Nat} {n : Bool} {a : Option Addr} {l c : Nat} {d : Option Addr} {m k : Nat} {z : Int} {D : Nat} (h : QI w K n a l c d m k z D) : pD D < 4294967296 ^ K := by
  unfold pD
  split
  · exact Nat.lt_of_lt_of_le (show 1 < 4294967296 ^ 1 by decide) (Nat.pow_le_pow_right (by decide) h.k1)
  · exact h.ds
theorem abs_sub' {X Y : Int} {K : Nat} (h1 : X.natAbs < 4294967296 ^ K) (h2 : Y.natAbs < 4294967296 ^ K) : (X - Y).natAbs < 4294967296 ^ (K + 1) := by
  have := Int.natAbs_sub_le X Y
  rw [Nat.pow_succ]
  omega
set_option maxRecDepth 100000 in
set_option maxHeartbeats 1000000 in
theorem qAlike (n : Bool) (a : Option Addr) (la ca : Nat) (d : Option Addr) (ld cd : Nat) (za : Int) (Da : Nat) (m : Bool) (b : Option Addr) (lb cb : Nat) (g : Option Addr) (lg cg : Nat) (zb : Int) (Db : Nat) (K : Nat) (w : World) (ha : QI w K n a la ca d ld cd za Da) (hb : QI w K m b lb cb g lg cg zb Db) :
    Calls Tryd.prog 13 #[.agg #[.bool n, .slice a la ca, .slice d ld cd], .agg #[.bool m, .slice b lb cb, .slice g lg cg]] w (GotTwo w (pN za Da * (pD Db : Int)) (pN zb Db * (pD Da : Int))) := by
  obtain ⟨W, hW, bW, x_a, x_b, x_p, x_q, sW⟩ := bs_3322 w (.bool n) (.slice a la ca) (.slice d ld cd) (.bool m) (.slice b lb cb) (.slice g lg cg) (.bool false) (.slice none 0 0) (.bool false) (.slice none 0 0) 27 27 25 25
  have zbW := bW.size
  replace ha := ha.below bW
  replace hb := hb.below bW
  have BB := bW
  go_enter Tryd.func13, Tryd.ntmps13
  go_wp2_with (go_at_call 15; fail)
  rw [← hW]
  clear hW
  refine (qParts n a la ca d ld cd za Da K W ha).mono ?_
  rintro e w1 ⟨n1, a1, l1, c1, d1, m1, k1, rfl, h1, bw1⟩
  have zbw1 := bw1.size
  replace ha := ha.below bw1
  replace hb := hb.below bw1
  replace BB := also BB bw1
  replace x_a := x_a.on bw1
  replace x_b := x_b.on bw1
  replace x_p := x_p.on bw1
  replace x_q := x_q.on bw1
  obtain ⟨V1, hV1, bV1, x_r, sV1⟩ := bs_2 w1 (.bool n1) (.slice a1 l1 c1) 25
  have zbV1 := bV1.size
  replace ha := ha.below bV1
  replace hb := hb.below bV1
  replace BB := also BB bV1
  replace x_a := x_a.on bV1
  replace x_b := x_b.on bV1
  replace x_p := x_p.on bV1
  replace x_q := x_q.on bV1
  replace h1 := h1.below bV1
  have st_b_0 : (w1.alloc (.cells #[.bool n1, .slice a1 l1 c1] 25)).cell? ⟨w.heap.size + 1, 0, none⟩ = some (.bool m) := by rw [← hV1]; exact x_b.c0
  have st_b_1 : (w1.alloc (.cells #[.bool n1, .slice a1 l1 c1] 25)).cell? ⟨w.heap.size + 1, 1, none⟩ = some (.slice b lb cb) := by rw [← hV1]; exact x_b.c1
  have st_b_2 : (w1.alloc (.cells #[.bool n1, .slice a1 l1 c1] 25)).cell? ⟨w.heap.size + 1, 2, none⟩ = some (.slice g lg cg) := by rw [← hV1]; exact x_b.c2
  have sf_b_0 : (w1.alloc (.cells #[.bool n1, .slice a1 l1 c1] 25)).frozen? ⟨w.heap.size + 1, 0, none⟩ = false := by rw [← hV1]; exact x_b.f0
  have sf_b_1 : (w1.alloc (.cells #[.bool n1, .slice a1 l1 c1] 25)).frozen? ⟨w.heap.size + 1, 1, none⟩ = false := by rw [← hV1]; exact x_b.f1
  have sf_b_2 : (w1.alloc (.cells #[.bool n1, .slice a1 l1 c1] 25)).frozen? ⟨w.heap.size + 1, 2, none⟩ = false := by rw [← hV1]; exact x_b.f2
  go_wp2_with (go_at_call 15; fail)
  rw [← hV1]
  clear hV1 st_b_0 st_b_1 st_b_2 sf_b_0 sf_b_1 sf_b_2
  refine (qParts m b lb cb g lg cg zb Db K V1 hb).mono ?_
  rintro e w2 ⟨n2, a2, l2, c2, d2, m2, k2, rfl, h2, bw2⟩
  have zbw2 := bw2.size
  replace ha := ha.below bw2
  replace hb := hb.below bw2
  replace BB := also BB bw2
  replace x_a := x_a.on bw2
  replace x_b := x_b.on bw2
  replace x_p := x_p.on bw2
  replace x_q := x_q.on bw2
  replace h1 := h1.below bw2
  replace x_r := x_r.on bw2
  obtain ⟨V2, hV2, bV2, x_s, sV2⟩ := bs_2 w2 (.bool n2) (.slice a2 l2 c2) 25
  have zbV2 := bV2.size
  replace ha := ha.below bV2
  replace hb := hb.below bV2
  replace BB := also BB bV2
  replace x_a := x_a.on bV2
  replace x_b := x_b.on bV2
  replace x_p := x_p.on bV2
  replace x_q := x_q.on bV2
  replace h1 := h1.below bV2
  replace x_r := x_r.on bV2
  replace h2 := h2.below bV2
  have st_r_0 : (w2.alloc (.cells #[.bool n2, .slice a2 l2 c2] 25)).cell? ⟨w1.heap.size, 0, none⟩ = some (.bool n1) := by rw [← hV2]; exact x_r.c0
  have st_r_1 : (w2.alloc (.cells #[.bool n2, .slice a2 l2 c2] 25)).cell? ⟨w1.heap.size, 1, none⟩ = some (.slice a1 l1 c1) := by rw [← hV2]; exact x_r.c1
  have sf_r_0 : (w2.alloc (.cells #[.bool n2, .slice a2 l2 c2] 25)).frozen? ⟨w1.heap.size, 0, none⟩ = false := by rw [← hV2]; exact x_r.f0
  have sf_r_1 : (w2.alloc (.cells #[.bool n2, .slice a2 l2 c2] 25)).frozen? ⟨w1.heap.size, 1, none⟩ = false := by rw [← hV2]; exact x_r.f1
  go_wp2
  rw [← hV2]
  clear hV2 st_r_0 st_r_1 sf_r_0 sf_r_1
  have dd1 : Below V2.heap.size V2 V2.drew := (Below.refl _ _).drew
  have zdd1 := dd1.size
  replace ha := ha.below dd1
  replace hb := hb.below dd1
  replace BB := also BB dd1
  replace x_a := x_a.on dd1
  replace x_b := x_b.on dd1
  replace x_p := x_p.on dd1
  replace x_q := x_q.on dd1
  replace h1 := h1.below dd1
  replace x_r := x_r.on dd1
  replace h2 := h2.below dd1
  replace x_s := x_s.on dd1
  refine wp_region_held_drew (S := (fun w' => w'.cell? ⟨w1.heap.size, 0, none⟩ = some (.bool n1) ∧ w'.cell? ⟨w1.heap.size, 1, none⟩ = some (.slice a1 l1 c1) ∧ w'.cell? ⟨w2.heap.size, 0, none⟩ = some (.bool n2) ∧ w'.cell? ⟨w2.heap.size, 1, none⟩ = some (.slice a2 l2 c2) ∧ Below w.heap.size w w')) (by kernel_rfl) ?_ (fun hHeld => ?_)
  · first | exact ⟨x_r.c0, x_r.c1, x_s.c0, x_s.c1, BB⟩ | exact ⟨cell_on bw6 hHeld.1, cell_on bw6 hHeld.2.1, cell_on bw6 hHeld.2.2.1, cell_on bw6 hHeld.2.2.2.1, also hHeld.2.2.2.2 bw6⟩ | exact ⟨cell_on bw5 hHeld.1, cell_on bw5 hHeld.2.1, cell_on bw5 hHeld.2.2.1, cell_on bw5 hHeld.2.2.2.1, also hHeld.2.2.2.2 bw5⟩ | exact ⟨cell_put2 hHeld.1 (by omega) _ _, cell_put2 hHeld.2.1 (by omega) _ _, cell_put2 hHeld.2.2.1 (by omega) _ _, cell_put2 hHeld.2.2.2.1 (by omega) _ _, below_put2 hHeld.2.2.2.2 (by omega) _ _⟩
  refine take_yes (i := 0) (v := ?vr0) rfl (by kernel_rfl) (by kernel_rfl) (by kernel_rfl) (fun _ _ _ h => h) (by rfl) (by assumption) ?hyr0 ?restr0
  case hyr0 => (intro w hSw; (try dsimp only at hSw); first | (go_simp; done) | (go_simp; with_reducible rfl))
  simp only [Act.put, List.setIfInBounds_toArray, List.set_cons_zero, List.set_cons_succ]
  refine take_yes (i := 1) (v := ?vr1) rfl (by kernel_rfl) (by kernel_rfl) (by kernel_rfl) (fun _ _ _ h => h) (by rfl) (by assumption) ?hyr1 ?restr1
  case hyr1 => (intro w hSw; (try dsimp only at hSw); first | (go_simp; done) | (go_simp; with_reducible rfl))
  simp only [Act.put, List.setIfInBounds_toArray, List.set_cons_zero, List.set_cons_succ]
  refine take_yes (i := 2) (v := ?vr2) rfl (by kernel_rfl) (by kernel_rfl) (by kernel_rfl) (fun _ _ _ h => h) (by rfl) (by assumption) ?hyr2 ?restr2
  case hyr2 => (intro w hSw; (try dsimp only at hSw); first | (go_simp; done) | (go_simp; with_reducible rfl))
  simp only [Act.put, List.setIfInBounds_toArray, List.set_cons_zero, List.set_cons_succ]
  refine take_yes (i := 4) (v := ?vr4) rfl (by kernel_rfl) (by kernel_rfl) (by kernel_rfl) (fun _ _ _ h => h) (by rfl) (by assumption) ?hyr4 ?restr4
  case hyr4 => (intro w hSw; (try dsimp only at hSw); first | (go_simp; done) | (go_simp; with_reducible rfl))
  simp only [Act.put, List.setIfInBounds_toArray, List.set_cons_zero, List.set_cons_succ]
  refine take_yes (i := 5) (v := ?vr5) rfl (by kernel_rfl) (by kernel_rfl) (by kernel_rfl) (fun _ _ _ h => h) (by rfl) (by assumption) ?hyr5 ?restr5
  case hyr5 => (intro w hSw; (try dsimp only at hSw); first | (go_simp; done) | (go_simp; with_reducible rfl))
  simp only [Act.put, List.setIfInBounds_toArray, List.set_cons_zero, List.set_cons_succ]
  refine take_yes (i := 6) (v := ?vr6) rfl (by kernel_rfl) (by kernel_rfl) (by kernel_rfl) (fun _ _ _ h => h) (by rfl) (by assumption) ?hyr6 ?restr6
  case hyr6 => (intro w hSw; (try dsimp only at hSw); first | (go_simp; done) | (go_simp; with_reducible rfl))
  simp only [Act.put, List.setIfInBounds_toArray, List.set_cons_zero, List.set_cons_succ]
  refine take_call (i := 3) rfl (by kernel_rfl) (fun Kc hK => ?_)
  go_simp
  (go_at_call 17; refine (wMul n1 false a1 d2 l1 m2 c1 k2 _ _ _ h1.wi (wi_nat h2.ni) (pN za Da * (pD Db : Int)) rfl).mono ?_; rintro e w5 ⟨n5, a5, l5, c5, rfl, h5, f5, bw5⟩)
  refine hK.out _ _ ?_ (fun hHeld => ?_)
  · first | exact ⟨x_r.c0, x_r.c1, x_s.c0, x_s.c1, BB⟩ | exact ⟨cell_on bw6 hHeld.1, cell_on bw6 hHeld.2.1, cell_on bw6 hHeld.2.2.1, cell_on bw6 hHeld.2.2.2.1, also hHeld.2.2.2.2 bw6⟩ | exact ⟨cell_on bw5 hHeld.1, cell_on bw5 hHeld.2.1, cell_on bw5 hHeld.2.2.1, cell_on bw5 hHeld.2.2.2.1, also hHeld.2.2.2.2 bw5⟩ | exact ⟨cell_put2 hHeld.1 (by omega) _ _, cell_put2 hHeld.2.1 (by omega) _ _, cell_put2 hHeld.2.2.1 (by omega) _ _, cell_put2 hHeld.2.2.2.1 (by omega) _ _, below_put2 hHeld.2.2.2.2 (by omega) _ _⟩
  clear hK Kc
  have zbw5 := bw5.size
  replace ha := ha.below bw5
  replace hb := hb.below bw5
  replace BB := also BB bw5
  replace x_a := x_a.on bw5
  replace x_b := x_b.on bw5
  replace x_p := x_p.on bw5
  replace x_q := x_q.on bw5
  replace h1 := h1.below bw5
  replace x_r := x_r.on bw5
  replace h2 := h2.below bw5
  replace x_s := x_s.on bw5
  refine take_call (i := 7) rfl (by kernel_rfl) (fun Kc hK => ?_)
  go_simp
  (go_at_call 17; refine (wMul n2 false a2 d1 l2 m1 c2 k1 _ _ _ h2.wi (wi_nat h1.ni) (pN zb Db * (pD Da : Int)) rfl).mono ?_; rintro e w6 ⟨n6, a6, l6, c6, rfl, h6, f6, bw6⟩)
  refine hK.out _ _ ?_ (fun hHeld => ?_)
  · first | exact ⟨x_r.c0, x_r.c1, x_s.c0, x_s.c1, BB⟩ | exact ⟨cell_on bw6 hHeld.1, cell_on bw6 hHeld.2.1, cell_on bw6 hHeld.2.2.1, cell_on bw6 hHeld.2.2.2.1, also hHeld.2.2.2.2 bw6⟩ | exact ⟨cell_on bw5 hHeld.1, cell_on bw5 hHeld.2.1, cell_on bw5 hHeld.2.2.1, cell_on bw5 hHeld.2.2.2.1, also hHeld.2.2.2.2 bw5⟩ | exact ⟨cell_put2 hHeld.1 (by omega) _ _, cell_put2 hHeld.2.1 (by omega) _ _, cell_put2 hHeld.2.2.1 (by omega) _ _, cell_put2 hHeld.2.2.2.1 (by omega) _ _, below_put2 hHeld.2.2.2.2 (by omega) _ _⟩
  clear hK Kc
  have zbw6 := bw6.size
  replace ha := ha.below bw6
  replace hb := hb.below bw6
  replace BB := also BB bw6
  replace x_a := x_a.on bw6
  replace x_b := x_b.on bw6
  replace x_p := x_p.on bw6
  replace x_q := x_q.on bw6
  replace h1 := h1.below bw6
  replace x_r := x_r.on bw6
  replace h2 := h2.below bw6
  replace x_s := x_s.on bw6
  replace h5 := h5.below bw6
  have ⟨x_p_0, x_p_1, x_p_2, x_p_3⟩ := x_p
  have ⟨x_q_0, x_q_1, x_q_2, x_q_3⟩ := x_q
  refine take_call (i := 8) rfl (by kernel_rfl) (fun Kc hK => ?_)
  go_simp
  refine hK.out _ _ ?_ (fun hHeld => ?_)
  · first | exact ⟨x_r.c0, x_r.c1, x_s.c0, x_s.c1, BB⟩ | exact ⟨cell_on bw6 hHeld.1, cell_on bw6 hHeld.2.1, cell_on bw6 hHeld.2.2.1, cell_on bw6 hHeld.2.2.2.1, also hHeld.2.2.2.2 bw6⟩ | exact ⟨cell_on bw5 hHeld.1, cell_on bw5 hHeld.2.1, cell_on bw5 hHeld.2.2.1, cell_on bw5 hHeld.2.2.2.1, also hHeld.2.2.2.2 bw5⟩ | exact ⟨cell_put2 hHeld.1 (by omega) _ _, cell_put2 hHeld.2.1 (by omega) _ _, cell_put2 hHeld.2.2.1 (by omega) _ _, cell_put2 hHeld.2.2.2.1 (by omega) _ _, below_put2 hHeld.2.2.2.2 (by omega) _ _⟩
  clear hK Kc
  refine take_call (i := 9) rfl (by kernel_rfl) (fun Kc hK => ?_)
  go_simp
  refine hK.out _ _ ?_ (fun hHeld => ?_)
  · first | exact ⟨x_r.c0, x_r.c1, x_s.c0, x_s.c1, BB⟩ | exact ⟨cell_on bw6 hHeld.1, cell_on bw6 hHeld.2.1, cell_on bw6 hHeld.2.2.1, cell_on bw6 hHeld.2.2.2.1, also hHeld.2.2.2.2 bw6⟩ | exact ⟨cell_on bw5 hHeld.1, cell_on bw5 hHeld.2.1, cell_on bw5 hHeld.2.2.1, cell_on bw5 hHeld.2.2.2.1, also hHeld.2.2.2.2 bw5⟩ | exact ⟨cell_put2 hHeld.1 (by omega) _ _, cell_put2 hHeld.2.1 (by omega) _ _, cell_put2 hHeld.2.2.1 (by omega) _ _, cell_put2 hHeld.2.2.2.1 (by omega) _ _, below_put2 hHeld.2.2.2.2 (by omega) _ _⟩
  clear hK Kc
  refine wpAnyH_done (by kernel_rfl) ?_ _
  go_wp2
  exact bodyPost_ret (v := .tuple #[.agg #[.bool n5, .slice a5 l5 c5], .agg #[.bool n6, .slice a6 l6 c6]]) (by simp [results, Tryd.results13, go_sem, *]) rfl (endTwo _ (by omega) BB h5 h6 (f5.mono (by omega)) (f6.mono (by omega)) _ _ _ _)
set_option maxRecDepth 100000 in
set_option maxHeartbeats 1000000 in
theorem qBoth (n : Bool) (a : Option Addr) (la ca : Nat) (d : Option Addr) (ld cd : Nat) (za : Int) (Da : Nat) (m : Bool) (b : Option Addr) (lb cb : Nat) (g : Option Addr) (lg cg : Nat) (zb : Int) (Db : Nat) (K : Nat) (w : World) (ha : QI w K n a la ca d ld cd za Da) (hb : QI w K m b lb cb g lg cg zb Db) :
    Calls Tryd.prog 18 #[.agg #[.bool n, .slice a la ca, .slice d ld cd], .agg #[.bool m, .slice b lb cb, .slice g lg cg]] w (GotN w (pD Da * pD Db)) := by
  obtain ⟨W, hW, bW, x_a, x_b, sW⟩ := bs_33 w (.bool n) (.slice a la ca) (.slice d ld cd) (.bool m) (.slice b lb cb) (.slice g lg cg) 27 27
  have zbW := bW.size
  replace ha := ha.below bW
  replace hb := hb.below bW
  have BB := bW
  go_enter Tryd.func18, Tryd.ntmps18
  go_wp2_with (go_at_call 15; fail)
  rw [← hW]
  clear hW
  refine (qParts n a la ca d ld cd za Da K W ha).mono ?_
  rintro e w1 ⟨n1, a1, l1, c1, d1, m1, k1, rfl, h1, bw1⟩
  have zbw1 := bw1.size
  replace ha := ha.below bw1
  replace hb := hb.below bw1
  replace BB := also BB bw1
  replace x_a := x_a.on bw1
  replace x_b := x_b.on bw1
  obtain ⟨V1, hV1, bV1, x_r, sV1⟩ := bs_2 w1 (.bool n1) (.slice a1 l1 c1) 25
  have zbV1 := bV1.size
  replace ha := ha.below bV1
  replace hb := hb.below bV1
  replace BB := also BB bV1
  replace x_a := x_a.on bV1
  replace x_b := x_b.on bV1
  replace h1 := h1.below bV1
  have st_b_0 : (w1.alloc (.cells #[.bool n1, .slice a1 l1 c1] 25)).cell? ⟨w.heap.size + 1, 0, none⟩ = some (.bool m) := by rw [← hV1]; exact x_b.c0
  have st_b_1 : (w1.alloc (.cells #[.bool n1, .slice a1 l1 c1] 25)).cell? ⟨w.heap.size + 1, 1, none⟩ = some (.slice b lb cb) := by rw [← hV1]; exact x_b.c1
  have st_b_2 : (w1.alloc (.cells #[.bool n1, .slice a1 l1 c1] 25)).cell? ⟨w.heap.size + 1, 2, none⟩ = some (.slice g lg cg) := by rw [← hV1]; exact x_b.c2
  have sf_b_0 : (w1.alloc (.cells #[.bool n1, .slice a1 l1 c1] 25)).frozen? ⟨w.heap.size + 1, 0, none⟩ = false := by rw [← hV1]; exact x_b.f0
  have sf_b_1 : (w1.alloc (.cells #[.bool n1, .slice a1 l1 c1] 25)).frozen? ⟨w.heap.size + 1, 1, none⟩ = false := by rw [← hV1]; exact x_b.f1
  have sf_b_2 : (w1.alloc (.cells #[.bool n1, .slice a1 l1 c1] 25)).frozen? ⟨w.heap.size + 1, 2, none⟩ = false := by rw [← hV1]; exact x_b.f2
  go_wp2_with (go_at_call 15; fail)
  rw [← hV1]
  clear hV1 st_b_0 st_b_1 st_b_2 sf_b_0 sf_b_1 sf_b_2
  refine (qParts m b lb cb g lg cg zb Db K V1 hb).mono ?_
  rintro e w2 ⟨n2, a2, l2, c2, d2, m2, k2, rfl, h2, bw2⟩
  have zbw2 := bw2.size
  replace ha := ha.below bw2
  replace hb := hb.below bw2
  replace BB := also BB bw2
  replace x_a := x_a.on bw2
  replace x_b := x_b.on bw2
  replace h1 := h1.below bw2
  replace x_r := x_r.on bw2
  obtain ⟨V2, hV2, bV2, x_s, sV2⟩ := bs_2 w2 (.bool n2) (.slice a2 l2 c2) 25
  have zbV2 := bV2.size
  replace ha := ha.below bV2
  replace hb := hb.below bV2
  replace BB := also BB bV2
  replace x_a := x_a.on bV2
  replace x_b := x_b.on bV2
  replace h1 := h1.below bV2
  replace x_r := x_r.on bV2
  replace h2 := h2.below bV2
  have st_r_0 : (w2.alloc (.cells #[.bool n2, .slice a2 l2 c2] 25)).cell? ⟨w1.heap.size, 0, none⟩ = some (.bool n1) := by rw [← hV2]; exact x_r.c0
  have st_r_1 : (w2.alloc (.cells #[.bool n2, .slice a2 l2 c2] 25)).cell? ⟨w1.heap.size, 1, none⟩ = some (.slice a1 l1 c1) := by rw [← hV2]; exact x_r.c1
  have sf_r_0 : (w2.alloc (.cells #[.bool n2, .slice a2 l2 c2] 25)).frozen? ⟨w1.heap.size, 0, none⟩ = false := by rw [← hV2]; exact x_r.f0
  have sf_r_1 : (w2.alloc (.cells #[.bool n2, .slice a2 l2 c2] 25)).frozen? ⟨w1.heap.size, 1, none⟩ = false := by rw [← hV2]; exact x_r.f1
  go_wp2_with (go_at_call 35; fail)
  rw [← hV2]
  clear hV2 st_r_0 st_r_1 sf_r_0 sf_r_1
  refine (nMul d1 d2 m1 m2 k1 k2 _ _ V2 h1.ni h2.ni).mono ?_
  rintro e w5 ⟨a5, l5, c5, rfl, h5, bw5⟩
  have zbw5 := bw5.size
  replace ha := ha.below bw5
  replace hb := hb.below bw5
  replace BB := also BB bw5
  replace x_a := x_a.on bw5
  replace x_b := x_b.on bw5
  replace h1 := h1.below bw5
  replace x_r := x_r.on bw5
  replace h2 := h2.below bw5
  replace x_s := x_s.on bw5
  go_wp2
  go_ret
  exact ⟨a5, l5, c5, rfl, h5, BB⟩
set_option maxRecDepth 100000 in
set_option maxHeartbeats 1000000 in
theorem qNorm (n : Bool) (a : Option Addr) (la ca : Nat) (d : Option Addr) (ld cd : Nat) (za : Int) (Da : Nat) (K : Nat) (w : World) (ha : QI w K n a la ca d ld cd za Da) (N : Int) (E : Nat) (hN : N = lowN (pN za Da) (pD Da)) (hE : E = lowD (pN za Da) (pD Da)) :
    Calls Tryd.prog 23 #[.agg #[.bool n, .slice a la ca, .slice d ld cd]] w (GotQ w N E) := by
  have HN : Hid _ := hN
  have HE : Hid _ := hE
  clear hN hE
  obtain ⟨W, hW, bW, x_a, x_z, sW⟩ := bs_33 w (.bool n) (.slice a la ca) (.slice d ld cd) (.bool false) (.slice none 0 0) (.slice none 0 0) 27 27
  have zbW := bW.size
  replace ha := ha.below bW
  have BB := bW
  go_enter Tryd.func23, Tryd.ntmps23
  go_wp2_with (go_at_call 15; fail)
  rw [← hW]
  clear hW
  refine (qParts n a la ca d ld cd za Da K W ha).mono ?_
  rintro e w1 ⟨n1, a1, l1, c1, d1, m1, k1, rfl, h1, bw1⟩
  have zbw1 := bw1.size
  replace ha := ha.below bw1
  replace BB := also BB bw1
  replace x_a := x_a.on bw1
  replace x_z := x_z.on bw1
  go_wp2_with (go_at_call 16; fail)
  refine (qLow n1 a1 l1 c1 _ d1 m1 k1 _ w1 h1.wi h1.ni (pD_pos _) N E HN.out HE.out).mono ?_
  rintro e w3 ⟨n3, a3, l3, c3, d3, m3, k3, rfl, h3, f3, g3, bw3⟩
  have zbw3 := bw3.size
  replace ha := ha.below bw3
  replace BB := also BB bw3
  replace x_a := x_a.on bw3
  replace x_z := x_z.on bw3
  replace h1 := h1.below bw3
  have ⟨x_z_0, x_z_1, x_z_2, x_z_3, x_z_4, x_z_5⟩ := x_z
  go_wp2
  exact bodyPost_ret (v := .agg #[.bool n3, .slice a3 l3 c3, .slice d3 m3 k3]) (by simp [results, Tryd.results23, go_sem, *]) rfl (endQ _ (by omega) BB h3 (f3.mono (by omega)) (g3.mono (by omega)) _ _ _)
set_option maxRecDepth 100000 in
set_option maxHeartbeats 1000000 in
theorem qAdd (n : Bool) (a : Option Addr) (la ca : Nat) (d : Option Addr) (ld cd : Nat) (za : Int) (Da : Nat) (m : Bool) (b : Option Addr) (lb cb : Nat) (g : Option Addr) (lg cg : Nat) (zb : Int) (Db : Nat) (K : Nat) (w : World) (ha : QI w K n a la ca d ld cd za Da) (hb : QI w K m b lb cb g lg cg zb Db) (N : Int) (E : Nat) (hN : N = lowN (pN za Da * (pD Db : Int) + pN zb Db * (pD Da : Int)) (pD Da * pD Db)) (hE : E = lowD (pN za Da * (pD Db : Int) + pN zb Db * (pD Da : Int)) (pD Da * pD Db)) :
    Calls Tryd.prog 8 #[.agg #[.bool n, .slice a la ca, .slice d ld cd], .agg #[.bool m, .slice b lb cb, .slice g lg cg]] w (GotQ w N E) := by
  have HN : Hid _ := hN
  have HE : Hid _ := hE
  have kk := ha.kk
  clear hN hE
  obtain ⟨W, hW, bW, x_a, x_b, x_z, sW⟩ := bs_333 w (.bool n) (.slice a la ca) (.slice d ld cd) (.bool m) (.slice b lb cb) (.slice g lg cg) (.bool false) (.slice none 0 0) (.slice none 0 0) 27 27 27
  have zbW := bW.size
  replace ha := ha.below bW
  replace hb := hb.below bW
  have BB := bW
  go_enter Tryd.func8, Tryd.ntmps8
  go_wp2_with (go_at_call 13; fail)
  rw [← hW]
  clear hW
  refine (qAlike n a la ca d ld cd za Da m b lb cb g lg cg zb Db K W ha hb).mono ?_
  rintro e w1 ⟨n1, a1, l1, c1, n2, a2, l2, c2, rfl, h1, h2, bw1⟩
  have zbw1 := bw1.size
  replace ha := ha.below bw1
  replace hb := hb.below bw1
  replace BB := also BB bw1
  replace x_a := x_a.on bw1
  replace x_b := x_b.on bw1
  replace x_z := x_z.on bw1
  replace h1 := h1.wi (K + K) (by omega) (abs_mul' ha.pn (by simpa using hb.pd))
  replace h2 := h2.wi (K + K) (by omega) (abs_mul' hb.pn (by simpa using ha.pd))
  obtain ⟨V2, hV2, bV2, x_r, x_s, sV2⟩ := bs_22 w1 (.bool n1) (.slice a1 l1 c1) (.bool n2) (.slice a2 l2 c2) 25 25
  have zbV2 := bV2.size
  replace ha := ha.below bV2
  replace hb := hb.below bV2
  replace BB := also BB bV2
  replace x_a := x_a.on bV2
  replace x_b := x_b.on bV2
  replace x_z := x_z.on bV2
  replace h1 := h1.below bV2
  replace h2 := h2.below bV2
  have st_a_0 : ((w1.alloc (.cells #[.bool n1, .slice a1 l1 c1] 25)).alloc (.cells #[.bool n2, .slice a2 l2 c2] 25)).cell? ⟨w.heap.size, 0, none⟩ = some (.bool n) := by rw [← hV2]; exact x_a.c0
  have st_a_1 : ((w1.alloc (.cells #[.bool n1, .slice a1 l1 c1] 25)).alloc (.cells #[.bool n2, .slice a2 l2 c2] 25)).cell? ⟨w.heap.size, 1, none⟩ = some (.slice a la ca) := by rw [← hV2]; exact x_a.c1
  have st_a_2 : ((w1.alloc (.cells #[.bool n1, .slice a1 l1 c1] 25)).alloc (.cells #[.bool n2, .slice a2 l2 c2] 25)).cell? ⟨w.heap.size, 2, none⟩ = some (.slice d ld cd) := by rw [← hV2]; exact x_a.c2
  have sf_a_0 : ((w1.alloc (.cells #[.bool n1, .slice a1 l1 c1] 25)).alloc (.cells #[.bool n2, .slice a2 l2 c2] 25)).frozen? ⟨w.heap.size, 0, none⟩ = false := by rw [← hV2]; exact x_a.f0
  have sf_a_1 : ((w1.alloc (.cells #[.bool n1, .slice a1 l1 c1] 25)).alloc (.cells #[.bool n2, .slice a2 l2 c2] 25)).frozen? ⟨w.heap.size, 1, none⟩ = false := by rw [← hV2]; exact x_a.f1
  have sf_a_2 : ((w1.alloc (.cells #[.bool n1, .slice a1 l1 c1] 25)).alloc (.cells #[.bool n2, .slice a2 l2 c2] 25)).frozen? ⟨w.heap.size, 2, none⟩ = false := by rw [← hV2]; exact x_a.f2
  go_wp2
  rw [← hV2]
  clear hV2 st_a_0 st_a_1 st_a_2 sf_a_0 sf_a_1 sf_a_2
  have dd1 : Below V2.heap.size V2 V2.drew := (Below.refl _ _).drew
  have zdd1 := dd1.size
  replace ha := ha.below dd1
  replace hb := hb.below dd1
  replace BB := also BB dd1
  replace x_a := x_a.on dd1
  replace x_b := x_b.on dd1
  replace x_z := x_z.on dd1
  replace h1 := h1.below dd1
  replace h2 := h2.below dd1
  replace x_r := x_r.on dd1
  replace x_s := x_s.on dd1
  refine wp_region_held_drew (S := (fun w' => w'.cell? ⟨w1.heap.size, 0, none⟩ = some (.bool n1) ∧ w'.cell? ⟨w1.heap.size, 1, none⟩ = some (.slice a1 l1 c1) ∧ w'.cell? ⟨w1.heap.size + 1, 0, none⟩ = some (.bool n2) ∧ w'.cell? ⟨w1.heap.size + 1, 1, none⟩ = some (.slice a2 l2 c2) ∧ w'.cell? ⟨w.heap.size, 0, none⟩ = some (.bool n) ∧ w'.cell? ⟨w.heap.size, 1, none⟩ = some (.slice a la ca) ∧ w'.cell? ⟨w.heap.size, 2, none⟩ = some (.slice d ld cd) ∧ w'.cell? ⟨w.heap.size + 1, 0, none⟩ = some (.bool m) ∧ w'.cell? ⟨w.heap.size + 1, 1, none⟩ = some (.slice b lb cb) ∧ w'.cell? ⟨w.heap.size + 1, 2, none⟩ = some (.slice g lg cg) ∧ Below w.heap.size w w')) (by kernel_rfl) ?_ (fun hHeld => ?_)
  · first | exact ⟨x_r.c0, x_r.c1, x_s.c0, x_s.c1, x_a.c0, x_a.c1, x_a.c2, x_b.c0, x_b.c1, x_b.c2, BB⟩ | exact ⟨cell_on bw7 hHeld.1, cell_on bw7 hHeld.2.1, cell_on bw7 hHeld.2.2.1, cell_on bw7 hHeld.2.2.2.1, cell_on bw7 hHeld.2.2.2.2.1, cell_on bw7 hHeld.2.2.2.2.2.1, cell_on bw7 hHeld.2.2.2.2.2.2.1, cell_on bw7 hHeld.2.2.2.2.2.2.2.1, cell_on bw7 hHeld.2.2.2.2.2.2.2.2.1, cell_on bw7 hHeld.2.2.2.2.2.2.2.2.2.1, also hHeld.2.2.2.2.2.2.2.2.2.2 bw7⟩ | exact ⟨cell_on bw6 hHeld.1, cell_on bw6 hHeld.2.1, cell_on bw6 hHeld.2.2.1, cell_on bw6 hHeld.2.2.2.1, cell_on bw6 hHeld.2.2.2.2.1, cell_on bw6 hHeld.2.2.2.2.2.1, cell_on bw6 hHeld.2.2.2.2.2.2.1, cell_on bw6 hHeld.2.2.2.2.2.2.2.1, cell_on bw6 hHeld.2.2.2.2.2.2.2.2.1, cell_on bw6 hHeld.2.2.2.2.2.2.2.2.2.1, also hHeld.2.2.2.2.2.2.2.2.2.2 bw6⟩ | exact ⟨cell_on bw5 hHeld.1, cell_on bw5 hHeld.2.1, cell_on bw5 hHeld.2.2.1, cell_on bw5 hHeld.2.2.2.1, cell_on bw5 hHeld.2.2.2.2.1, cell_on bw5 hHeld.2.2.2.2.2.1, cell_on bw5 hHeld.2.2.2.2.2.2.1, cell_on bw5 hHeld.2.2.2.2.2.2.2.1, cell_on bw5 hHeld.2.2.2.2.2.2.2.2.1, cell_on bw5 hHeld.2.2.2.2.2.2.2.2.2.1, also hHeld.2.2.2.2.2.2.2.2.2.2 bw5⟩ | exact ⟨cell_put3 hHeld.1 (by omega) _ _ _, cell_put3 hHeld.2.1 (by omega) _ _ _, cell_put3 hHeld.2.2.1 (by omega) _ _ _, cell_put3 hHeld.2.2.2.1 (by omega) _ _ _, cell_put3 hHeld.2.2.2.2.1 (by omega) _ _ _, cell_put3 hHeld.2.2.2.2.2.1 (by omega) _ _ _, cell_put3 hHeld.2.2.2.2.2.2.1 (by omega) _ _ _, cell_put3 hHeld.2.2.2.2.2.2.2.1 (by omega) _ _ _, cell_put3 hHeld.2.2.2.2.2.2.2.2.1 (by omega) _ _ _, cell_put3 hHeld.2.2.2.2.2.2.2.2.2.1 (by omega) _ _ _, below_put3 hHeld.2.2.2.2.2.2.2.2.2.2 (by omega) _ _ _⟩
  refine take_yes (i := 0) (v := ?vr0) rfl (by kernel_rfl) (by kernel_rfl) (by kernel_rfl) (fun _ _ _ h => h) (by rfl) (by assumption) ?hyr0 ?restr0
  case hyr0 => (intro w hSw; (try dsimp only at hSw); first | (go_simp; done) | (go_simp; with_reducible rfl))
  simp only [Act.put, List.setIfInBounds_toArray, List.set_cons_zero, List.set_cons_succ]
  refine take_yes (i := 1) (v := ?vr1) rfl (by kernel_rfl) (by kernel_rfl) (by kernel_rfl) (fun _ _ _ h => h) (by rfl) (by assumption) ?hyr1 ?restr1
  case hyr1 => (intro w hSw; (try dsimp only at hSw); first | (go_simp; done) | (go_simp; with_reducible rfl))
  simp only [Act.put, List.setIfInBounds_toArray, List.set_cons_zero, List.set_cons_succ]
  refine take_yes (i := 3) (v := ?vr3) rfl (by kernel_rfl) (by kernel_rfl) (by kernel_rfl) (fun _ _ _ h => h) (by rfl) (by assumption) ?hyr3 ?restr3
  case hyr3 => (intro w hSw; (try dsimp only at hSw); first | (go_simp; done) | (go_simp; with_reducible rfl))
  simp only [Act.put, List.setIfInBounds_toArray, List.set_cons_zero, List.set_cons_succ]
  refine take_yes (i := 4) (v := ?vr4) rfl (by kernel_rfl) (by kernel_rfl) (by kernel_rfl) (fun _ _ _ h => h) (by rfl) (by assumption) ?hyr4 ?restr4
  case hyr4 => (intro w hSw; (try dsimp only at hSw); first | (go_simp; done) | (go_simp; with_reducible rfl))
  simp only [Act.put, List.setIfInBounds_toArray, List.set_cons_zero, List.set_cons_succ]
  refine take_call (i := 2) rfl (by kernel_rfl) (fun Kc hK => ?_)
  go_simp
  (go_at_call 20; refine (wAdd n1 n2 a1 a2 l1 l2 c1 c2 _ _ _ h1 h2 (pN za Da * (pD Db : Int) + pN zb Db * (pD Da : Int)) rfl).mono ?_; rintro e w5 ⟨n5, a5, l5, c5, rfl, h5, f5, bw5⟩)
  refine hK.out _ _ ?_ (fun hHeld => ?_)
  · first | exact ⟨x_r.c0, x_r.c1, x_s.c0, x_s.c1, x_a.c0, x_a.c1, x_a.c2, x_b.c0, x_b.c1, x_b.c2, BB⟩ | exact ⟨cell_on bw7 hHeld.1, cell_on bw7 hHeld.2.1, cell_on bw7 hHeld.2.2.1, cell_on bw7 hHeld.2.2.2.1, cell_on bw7 hHeld.2.2.2.2.1, cell_on bw7 hHeld.2.2.2.2.2.1, cell_on bw7 hHeld.2.2.2.2.2.2.1, cell_on bw7 hHeld.2.2.2.2.2.2.2.1, cell_on bw7 hHeld.2.2.2.2.2.2.2.2.1, cell_on bw7 hHeld.2.2.2.2.2.2.2.2.2.1, also hHeld.2.2.2.2.2.2.2.2.2.2 bw7⟩ | exact ⟨cell_on bw6 hHeld.1, cell_on bw6 hHeld.2.1, cell_on bw6 hHeld.2.2.1, cell_on bw6 hHeld.2.2.2.1, cell_on bw6 hHeld.2.2.2.2.1, cell_on bw6 hHeld.2.2.2.2.2.1, cell_on bw6 hHeld.2.2.2.2.2.2.1, cell_on bw6 hHeld.2.2.2.2.2.2.2.1, cell_on bw6 hHeld.2.2.2.2.2.2.2.2.1, cell_on bw6 hHeld.2.2.2.2.2.2.2.2.2.1, also hHeld.2.2.2.2.2.2.2.2.2.2 bw6⟩ | exact ⟨cell_on bw5 hHeld.1, cell_on bw5 hHeld.2.1, cell_on bw5 hHeld.2.2.1, cell_on bw5 hHeld.2.2.2.1, cell_on bw5 hHeld.2.2.2.2.1, cell_on bw5 hHeld.2.2.2.2.2.1, cell_on bw5 hHeld.2.2.2.2.2.2.1, cell_on bw5 hHeld.2.2.2.2.2.2.2.1, cell_on bw5 hHeld.2.2.2.2.2.2.2.2.1, cell_on bw5 hHeld.2.2.2.2.2.2.2.2.2.1, also hHeld.2.2.2.2.2.2.2.2.2.2 bw5⟩ | exact ⟨cell_put3 hHeld.1 (by omega) _ _ _, cell_put3 hHeld.2.1 (by omega) _ _ _, cell_put3 hHeld.2.2.1 (by omega) _ _ _, cell_put3 hHeld.2.2.2.1 (by omega) _ _ _, cell_put3 hHeld.2.2.2.2.1 (by omega) _ _ _, cell_put3 hHeld.2.2.2.2.2.1 (by omega) _ _ _, cell_put3 hHeld.2.2.2.2.2.2.1 (by omega) _ _ _, cell_put3 hHeld.2.2.2.2.2.2.2.1 (by omega) _ _ _, cell_put3 hHeld.2.2.2.2.2.2.2.2.1 (by omega) _ _ _, cell_put3 hHeld.2.2.2.2.2.2.2.2.2.1 (by omega) _ _ _, below_put3 hHeld.2.2.2.2.2.2.2.2.2.2 (by omega) _ _ _⟩
  clear hK Kc
  have zbw5 := bw5.size
  replace ha := ha.below bw5
  replace hb := hb.below bw5
  replace BB := also BB bw5
  replace x_a := x_a.on bw5
  replace x_b := x_b.on bw5
  replace x_z := x_z.on bw5
  replace h1 := h1.below bw5
  replace h2 := h2.below bw5
  replace x_r := x_r.on bw5
  replace x_s := x_s.on bw5
  refine take_call (i := 5) rfl (by kernel_rfl) (fun Kc hK => ?_)
  go_simp
  (go_at_call 18; refine (qBoth n a la ca d ld cd za Da m b lb cb g lg cg zb Db K _ ha hb).mono ?_; rintro e w6 ⟨a6, l6, c6, rfl, h6, bw6⟩)
  refine hK.out _ _ ?_ (fun hHeld => ?_)
  · first | exact ⟨x_r.c0, x_r.c1, x_s.c0, x_s.c1, x_a.c0, x_a.c1, x_a.c2, x_b.c0, x_b.c1, x_b.c2, BB⟩ | exact ⟨cell_on bw7 hHeld.1, cell_on bw7 hHeld.2.1, cell_on bw7 hHeld.2.2.1, cell_on bw7 hHeld.2.2.2.1, cell_on bw7 hHeld.2.2.2.2.1, cell_on bw7 hHeld.2.2.2.2.2.1, cell_on bw7 hHeld.2.2.2.2.2.2.1, cell_on bw7 hHeld.2.2.2.2.2.2.2.1, cell_on bw7 hHeld.2.2.2.2.2.2.2.2.1, cell_on bw7 hHeld.2.2.2.2.2.2.2.2.2.1, also hHeld.2.2.2.2.2.2.2.2.2.2 bw7⟩ | exact ⟨cell_on bw6 hHeld.1, cell_on bw6 hHeld.2.1, cell_on bw6 hHeld.2.2.1, cell_on bw6 hHeld.2.2.2.1, cell_on bw6 hHeld.2.2.2.2.1, cell_on bw6 hHeld.2.2.2.2.2.1, cell_on bw6 hHeld.2.2.2.2.2.2.1, cell_on bw6 hHeld.2.2.2.2.2.2.2.1, cell_on bw6 hHeld.2.2.2.2.2.2.2.2.1, cell_on bw6 hHeld.2.2.2.2.2.2.2.2.2.1, also hHeld.2.2.2.2.2.2.2.2.2.2 bw6⟩ | exact ⟨cell_on bw5 hHeld.1, cell_on bw5 hHeld.2.1, cell_on bw5 hHeld.2.2.1, cell_on bw5 hHeld.2.2.2.1, cell_on bw5 hHeld.2.2.2.2.1, cell_on bw5 hHeld.2.2.2.2.2.1, cell_on bw5 hHeld.2.2.2.2.2.2.1, cell_on bw5 hHeld.2.2.2.2.2.2.2.1, cell_on bw5 hHeld.2.2.2.2.2.2.2.2.1, cell_on bw5 hHeld.2.2.2.2.2.2.2.2.2.1, also hHeld.2.2.2.2.2.2.2.2.2.2 bw5⟩ | exact ⟨cell_put3 hHeld.1 (by omega) _ _ _, cell_put3 hHeld.2.1 (by omega) _ _ _, cell_put3 hHeld.2.2.1 (by omega) _ _ _, cell_put3 hHeld.2.2.2.1 (by omega) _ _ _, cell_put3 hHeld.2.2.2.2.1 (by omega) _ _ _, cell_put3 hHeld.2.2.2.2.2.1 (by omega) _ _ _, cell_put3 hHeld.2.2.2.2.2.2.1 (by omega) _ _ _, cell_put3 hHeld.2.2.2.2.2.2.2.1 (by omega) _ _ _, cell_put3 hHeld.2.2.2.2.2.2.2.2.1 (by omega) _ _ _, cell_put3 hHeld.2.2.2.2.2.2.2.2.2.1 (by omega) _ _ _, below_put3 hHeld.2.2.2.2.2.2.2.2.2.2 (by omega) _ _ _⟩
  clear hK Kc
  have zbw6 := bw6.size
  replace ha := ha.below bw6
  replace hb := hb.below bw6
  replace BB := also BB bw6
  replace x_a := x_a.on bw6
  replace x_b := x_b.on bw6
  replace x_z := x_z.on bw6
  replace h1 := h1.below bw6
  replace h2 := h2.below bw6
  replace x_r := x_r.on bw6
  replace x_s := x_s.on bw6
  replace h5 := h5.below bw6
  refine take_call (i := 6) rfl (by kernel_rfl) (fun Kc hK => ?_)
  go_simp
  (go_at_call 16; refine (qLow n5 a5 l5 c5 _ a6 l6 c6 _ _ (h5.wi (K + K + 1) (by omega) (abs_add' (abs_mul' ha.pn (by simpa using hb.pd)) (abs_mul' hb.pn (by simpa using ha.pd)))) (h6.ni (K + K) (by omega) (nat_mul' ha.pd hb.pd)) (Nat.mul_pos (pD_pos _) (pD_pos _)) N E HN.out HE.out).mono ?_; rintro e w7 ⟨n7, a7, l7, c7, d7, m7, k7, rfl, h7, f7, g7, bw7⟩)
  refine hK.out _ _ ?_ (fun hHeld => ?_)
  · first | exact ⟨x_r.c0, x_r.c1, x_s.c0, x_s.c1, x_a.c0, x_a.c1, x_a.c2, x_b.c0, x_b.c1, x_b.c2, BB⟩ | exact ⟨cell_on bw7 hHeld.1, cell_on bw7 hHeld.2.1, cell_on bw7 hHeld.2.2.1, cell_on bw7 hHeld.2.2.2.1, cell_on bw7 hHeld.2.2.2.2.1, cell_on bw7 hHeld.2.2.2.2.2.1, cell_on bw7 hHeld.2.2.2.2.2.2.1, cell_on bw7 hHeld.2.2.2.2.2.2.2.1, cell_on bw7 hHeld.2.2.2.2.2.2.2.2.1, cell_on bw7 hHeld.2.2.2.2.2.2.2.2.2.1, also hHeld.2.2.2.2.2.2.2.2.2.2 bw7⟩ | exact ⟨cell_on bw6 hHeld.1, cell_on bw6 hHeld.2.1, cell_on bw6 hHeld.2.2.1, cell_on bw6 hHeld.2.2.2.1, cell_on bw6 hHeld.2.2.2.2.1, cell_on bw6 hHeld.2.2.2.2.2.1, cell_on bw6 hHeld.2.2.2.2.2.2.1, cell_on bw6 hHeld.2.2.2.2.2.2.2.1, cell_on bw6 hHeld.2.2.2.2.2.2.2.2.1, cell_on bw6 hHeld.2.2.2.2.2.2.2.2.2.1, also hHeld.2.2.2.2.2.2.2.2.2.2 bw6⟩ | exact ⟨cell_on bw5 hHeld.1, cell_on bw5 hHeld.2.1, cell_on bw5 hHeld.2.2.1, cell_on bw5 hHeld.2.2.2.1, cell_on bw5 hHeld.2.2.2.2.1, cell_on bw5 hHeld.2.2.2.2.2.1, cell_on bw5 hHeld.2.2.2.2.2.2.1, cell_on bw5 hHeld.2.2.2.2.2.2.2.1, cell_on bw5 hHeld.2.2.2.2.2.2.2.2.1, cell_on bw5 hHeld.2.2.2.2.2.2.2.2.2.1, also hHeld.2.2.2.2.2.2.2.2.2.2 bw5⟩ | exact ⟨cell_put3 hHeld.1 (by omega) _ _ _, cell_put3 hHeld.2.1 (by omega) _ _ _, cell_put3 hHeld.2.2.1 (by omega) _ _ _, cell_put3 hHeld.2.2.2.1 (by omega) _ _ _, cell_put3 hHeld.2.2.2.2.1 (by omega) _ _ _, cell_put3 hHeld.2.2.2.2.2.1 (by omega) _ _ _, cell_put3 hHeld.2.2.2.2.2.2.1 (by omega) _ _ _, cell_put3 hHeld.2.2.2.2.2.2.2.1 (by omega) _ _ _, cell_put3 hHeld.2.2.2.2.2.2.2.2.1 (by omega) _ _ _, cell_put3 hHeld.2.2.2.2.2.2.2.2.2.1 (by omega) _ _ _, below_put3 hHeld.2.2.2.2.2.2.2.2.2.2 (by omega) _ _ _⟩
  clear hK Kc
  have zbw7 := bw7.size
  replace ha := ha.below bw7
  replace hb := hb.below bw7
  replace BB := also BB bw7
  replace x_a := x_a.on bw7
  replace x_b := x_b.on bw7
  replace x_z := x_z.on bw7
  replace h1 := h1.below bw7
  replace h2 := h2.below bw7
  replace x_r := x_r.on bw7
  replace x_s := x_s.on bw7
  replace h5 := h5.below bw7
  replace h6 := h6.below bw7
  have ⟨x_z_0, x_z_1, x_z_2, x_z_3, x_z_4, x_z_5⟩ := x_z
  refine take_call (i := 7) rfl (by kernel_rfl) (fun Kc hK => ?_)
  go_simp
  refine hK.out _ _ ?_ (fun hHeld => ?_)
  · first | exact ⟨x_r.c0, x_r.c1, x_s.c0, x_s.c1, x_a.c0, x_a.c1, x_a.c2, x_b.c0, x_b.c1, x_b.c2, BB⟩ | exact ⟨cell_on bw7 hHeld.1, cell_on bw7 hHeld.2.1, cell_on bw7 hHeld.2.2.1, cell_on bw7 hHeld.2.2.2.1, cell_on bw7 hHeld.2.2.2.2.1, cell_on bw7 hHeld.2.2.2.2.2.1, cell_on bw7 hHeld.2.2.2.2.2.2.1, cell_on bw7 hHeld.2.2.2.2.2.2.2.1, cell_on bw7 hHeld.2.2.2.2.2.2.2.2.1, cell_on bw7 hHeld.2.2.2.2.2.2.2.2.2.1, also hHeld.2.2.2.2.2.2.2.2.2.2 bw7⟩ | exact ⟨cell_on bw6 hHeld.1, cell_on bw6 hHeld.2.1, cell_on bw6 hHeld.2.2.1, cell_on bw6 hHeld.2.2.2.1, cell_on bw6 hHeld.2.2.2.2.1, cell_on bw6 hHeld.2.2.2.2.2.1, cell_on bw6 hHeld.2.2.2.2.2.2.1, cell_on bw6 hHeld.2.2.2.2.2.2.2.1, cell_on bw6 hHeld.2.2.2.2.2.2.2.2.1, cell_on bw6 hHeld.2.2.2.2.2.2.2.2.2.1, also hHeld.2.2.2.2.2.2.2.2.2.2 bw6⟩ | exact ⟨cell_on bw5 hHeld.1, cell_on bw5 hHeld.2.1, cell_on bw5 hHeld.2.2.1, cell_on bw5 hHeld.2.2.2.1, cell_on bw5 hHeld.2.2.2.2.1, cell_on bw5 hHeld.2.2.2.2.2.1, cell_on bw5 hHeld.2.2.2.2.2.2.1, cell_on bw5 hHeld.2.2.2.2.2.2.2.1, cell_on bw5 hHeld.2.2.2.2.2.2.2.2.1, cell_on bw5 hHeld.2.2.2.2.2.2.2.2.2.1, also hHeld.2.2.2.2.2.2.2.2.2.2 bw5⟩ | exact ⟨cell_put3 hHeld.1 (by omega) _ _ _, cell_put3 hHeld.2.1 (by omega) _ _ _, cell_put3 hHeld.2.2.1 (by omega) _ _ _, cell_put3 hHeld.2.2.2.1 (by omega) _ _ _, cell_put3 hHeld.2.2.2.2.1 (by omega) _ _ _, cell_put3 hHeld.2.2.2.2.2.1 (by omega) _ _ _, cell_put3 hHeld.2.2.2.2.2.2.1 (by omega) _ _ _, cell_put3 hHeld.2.2.2.2.2.2.2.1 (by omega) _ _ _, cell_put3 hHeld.2.2.2.2.2.2.2.2.1 (by omega) _ _ _, cell_put3 hHeld.2.2.2.2.2.2.2.2.2.1 (by omega) _ _ _, below_put3 hHeld.2.2.2.2.2.2.2.2.2.2 (by omega) _ _ _⟩
  clear hK Kc
  refine wpAnyH_done (by kernel_rfl) ?_ _
  go_wp2
  exact bodyPost_ret (v := .agg #[.bool n7, .slice a7 l7 c7, .slice d7 m7 k7]) (by simp [results, Tryd.results8, go_sem, *]) rfl (endQ _ (by omega) BB h7 (f7.mono (by omega)) (g7.mono (by omega)) _ _ _)
set_option maxRecDepth 100000 in
set_option maxHeartbeats 1000000 in
theorem qSub (n : Bool) (a : Option Addr) (la ca : Nat) (d : Option Addr) (ld cd : Nat) (za : Int) (Da : Nat) (m : Bool) (b : Option Addr) (lb cb : Nat) (g : Option Addr) (lg cg : Nat) (zb : Int) (Db : Nat) (K : Nat) (w : World) (ha : QI w K n a la ca d ld cd za Da) (hb : QI w K m b lb cb g lg cg zb Db) (N : Int) (E : Nat) (hN : N = lowN (pN za Da * (pD Db : Int) - pN zb Db * (pD Da : Int)) (pD Da * pD Db)) (hE : E = lowD (pN za Da * (pD Db : Int) - pN zb Db * (pD Da : Int)) (pD Da * pD Db)) :
    Calls Tryd.prog 10 #[.agg #[.bool n, .slice a la ca, .slice d ld cd], .agg #[.bool m, .slice b lb cb, .slice g lg cg]] w (GotQ w N E) := by
  have HN : Hid _ := hN
  have HE : Hid _ := hE
  have kk := ha.kk
  clear hN hE
  obtain ⟨W, hW, bW, x_a, x_b, x_z, sW⟩ := bs_333 w (.bool n) (.slice a la ca) (.slice d ld cd) (.bool m) (.slice b lb cb) (.slice g lg cg) (.bool false) (.slice none 0 0) (.slice none 0 0) 27 27 27
  have zbW := bW.size
  replace ha := ha.below bW
  replace hb := hb.below bW
  have BB := bW
  go_enter Tryd.func10, Tryd.ntmps10
  go_wp2_with (go_at_call 13; fail)
  rw [← hW]
  clear hW
  refine (qAlike n a la ca d ld cd za Da m b lb cb g lg cg zb Db K W ha hb).mono ?_
  rintro e w1 ⟨n1, a1, l1, c1, n2, a2, l2, c2, rfl, h1, h2, bw1⟩
  have zbw1 := bw1.size
  replace ha := ha.below bw1
  replace hb := hb.below bw1
  replace BB := also BB bw1
  replace x_a := x_a.on bw1
  replace x_b := x_b.on bw1
  replace x_z := x_z.on bw1
  replace h1 := h1.wi (K + K) (by omega) (abs_mul' ha.pn (by simpa using hb.pd))
  replace h2 := h2.wi (K + K) (by omega) (abs_mul' hb.pn (by simpa using ha.pd))
  obtain ⟨V2, hV2, bV2, x_r, x_s, sV2⟩ := bs_22 w1 (.bool n1) (.slice a1 l1 c1) (.bool n2) (.slice a2 l2 c2) 25 25
  have zbV2 := bV2.size
  replace ha := ha.below bV2
  replace hb := hb.below bV2
  replace BB := also BB bV2
  replace x_a := x_a.on bV2
  replace x_b := x_b.on bV2
  replace x_z := x_z.on bV2
  replace h1 := h1.below bV2
  replace h2 := h2.below bV2
  have st_a_0 : ((w1.alloc (.cells #[.bool n1, .slice a1 l1 c1] 25)).alloc (.cells #[.bool n2, .slice a2 l2 c2] 25)).cell? ⟨w.heap.size, 0, none⟩ = some (.bool n) := by rw [← hV2]; exact x_a.c0
  have st_a_1 : ((w1.alloc (.cells #[.bool n1, .slice a1 l1 c1] 25)).alloc (.cells #[.bool n2, .slice a2 l2 c2] 25)).cell? ⟨w.heap.size, 1, none⟩ = some (.slice a la ca) := by rw [← hV2]; exact x_a.c1
  have st_a_2 : ((w1.alloc (.cells #[.bool n1, .slice a1 l1 c1] 25)).alloc (.cells #[.bool n2, .slice a2 l2 c2] 25)).cell? ⟨w.heap.size, 2, none⟩ = some (.slice d ld cd) := by rw [← hV2]; exact x_a.c2
  have sf_a_0 : ((w1.alloc (.cells #[.bool n1, .slice a1 l1 c1] 25)).alloc (.cells #[.bool n2, .slice a2 l2 c2] 25)).frozen? ⟨w.heap.size, 0, none⟩ = false := by rw [← hV2]; exact x_a.f0
  have sf_a_1 : ((w1.alloc (.cells #[.bool n1, .slice a1 l1 c1] 25)).alloc (.cells #[.bool n2, .slice a2 l2 c2] 25)).frozen? ⟨w.heap.size, 1, none⟩ = false := by rw [← hV2]; exact x_a.f1
  have sf_a_2 : ((w1.alloc (.cells #[.bool n1, .slice a1 l1 c1] 25)).alloc (.cells #[.bool n2, .slice a2 l2 c2] 25)).frozen? ⟨w.heap.size, 2, none⟩ = false := by rw [← hV2]; exact x_a.f2
  go_wp2
  rw [← hV2]
  clear hV2 st_a_0 st_a_1 st_a_2 sf_a_0 sf_a_1 sf_a_2
  have dd1 : Below V2.heap.size V2 V2.drew := (Below.refl _ _).drew
  have zdd1 := dd1.size
  replace ha := ha.below dd1
  replace hb := hb.below dd1
  replace BB := also BB dd1
  replace x_a := x_a.on dd1
  replace x_b := x_b.on dd1
  replace x_z := x_z.on dd1
  replace h1 := h1.below dd1
  replace h2 := h2.below dd1
  replace x_r := x_r.on dd1
  replace x_s := x_s.on dd1
  refine wp_region_held_drew (S := (fun w' => w'.cell? ⟨w1.heap.size, 0, none⟩ = some (.bool n1) ∧ w'.cell? ⟨w1.heap.size, 1, none⟩ = some (.slice a1 l1 c1) ∧ w'.cell? ⟨w1.heap.size + 1, 0, none⟩ = some (.bool n2) ∧ w'.cell? ⟨w1.heap.size + 1, 1, none⟩ = some (.slice a2 l2 c2) ∧ w'.cell? ⟨w.heap.size, 0, none⟩ = some (.bool n) ∧ w'.cell? ⟨w.heap.size, 1, none⟩ = some (.slice a la ca) ∧ w'.cell? ⟨w.heap.size, 2, none⟩ = some (.slice d ld cd) ∧ w'.cell? ⟨w.heap.size + 1, 0, none⟩ = some (.bool m) ∧ w'.cell? ⟨w.heap.size + 1, 1, none⟩ = some (.slice b lb cb) ∧ w'.cell? ⟨w.heap.size + 1, 2, none⟩ = some (.slice g lg cg) ∧ Below w.heap.size w w')) (by kernel_rfl) ?_ (fun hHeld => ?_)
  · first | exact ⟨x_r.c0, x_r.c1, x_s.c0, x_s.c1, x_a.c0, x_a.c1, x_a.c2, x_b.c0, x_b.c1, x_b.c2, BB⟩ | exact ⟨cell_on bw7 hHeld.1, cell_on bw7 hHeld.2.1, cell_on bw7 hHeld.2.2.1, cell_on bw7 hHeld.2.2.2.1, cell_on bw7 hHeld.2.2.2.2.1, cell_on bw7 hHeld.2.2.2.2.2.1, cell_on bw7 hHeld.2.2.2.2.2.2.1, cell_on bw7 hHeld.2.2.2.2.2.2.2.1, cell_on bw7 hHeld.2.2.2.2.2.2.2.2.1, cell_on bw7 hHeld.2.2.2.2.2.2.2.2.2.1, also hHeld.2.2.2.2.2.2.2.2.2.2 bw7⟩ | exact ⟨cell_on bw6 hHeld.1, cell_on bw6 hHeld.2.1, cell_on bw6 hHeld.2.2.1, cell_on bw6 hHeld.2.2.2.1, cell_on bw6 hHeld.2.2.2.2.1, cell_on bw6 hHeld.2.2.2.2.2.1, cell_on bw6 hHeld.2.2.2.2.2.2.1, cell_on bw6 hHeld.2.2.2.2.2.2.2.1, cell_on bw6 hHeld.2.2.2.2.2.2.2.2.1, cell_on bw6 hHeld.2.2.2.2.2.2.2.2.2.1, also hHeld.2.2.2.2.2.2.2.2.2.2 bw6⟩ | exact ⟨cell_on bw5 hHeld.1, cell_on bw5 hHeld.2.1, cell_on bw5 hHeld.2.2.1, cell_on bw5 hHeld.2.2.2.1, cell_on bw5 hHeld.2.2.2.2.1, cell_on bw5 hHeld.2.2.2.2.2.1, cell_on bw5 hHeld.2.2.2.2.2.2.1, cell_on bw5 hHeld.2.2.2.2.2.2.2.1, cell_on bw5 hHeld.2.2.2.2.2.2.2.2.1, cell_on bw5 hHeld.2.2.2.2.2.2.2.2.2.1, also hHeld.2.2.2.2.2.2.2.2.2.2 bw5⟩ | exact ⟨cell_put3 hHeld.1 (by omega) _ _ _, cell_put3 hHeld.2.1 (by omega) _ _ _, cell_put3 hHeld.2.2.1 (by omega) _ _ _, cell_put3 hHeld.2.2.2.1 (by omega) _ _ _, cell_put3 hHeld.2.2.2.2.1 (by omega) _ _ _, cell_put3 hHeld.2.2.2.2.2.1 (by omega) _ _ _, cell_put3 hHeld.2.2.2.2.2.2.1 (by omega) _ _ _, cell_put3 hHeld.2.2.2.2.2.2.2.1 (by omega) _ _ _, cell_put3 hHeld.2.2.2.2.2.2.2.2.1 (by omega) _ _ _, cell_put3 hHeld.2.2.2.2.2.2.2.2.2.1 (by omega) _ _ _, below_put3 hHeld.2.2.2.2.2.2.2.2.2.2 (by omega) _ _ _⟩
  refine take_yes (i := 0) (v := ?vr0) rfl (by kernel_rfl) (by kernel_rfl) (by kernel_rfl) (fun _ _ _ h => h) (by rfl) (by assumption) ?hyr0 ?restr0
  case hyr0 => (intro w hSw; (try dsimp only at hSw); first | (go_simp; done) | (go_simp; with_reducible rfl))
  simp only [Act.put, List.setIfInBounds_toArray, List.set_cons_zero, List.set_cons_succ]
  refine take_yes (i := 1) (v := ?vr1) rfl (by kernel_rfl) (by kernel_rfl) (by kernel_rfl) (fun _ _ _ h => h) (by rfl) (by assumption) ?hyr1 ?restr1
  case hyr1 => (intro w hSw; (try dsimp only at hSw); first | (go_simp; done) | (go_simp; with_reducible rfl))
  simp only [Act.put, List.setIfInBounds_toArray, List.set_cons_zero, List.set_cons_succ]
  refine take_yes (i := 3) (v := ?vr3) rfl (by kernel_rfl) (by kernel_rfl) (by kernel_rfl) (fun _ _ _ h => h) (by rfl) (by assumption) ?hyr3 ?restr3
  case hyr3 => (intro w hSw; (try dsimp only at hSw); first | (go_simp; done) | (go_simp; with_reducible rfl))
  simp only [Act.put, List.setIfInBounds_toArray, List.set_cons_zero, List.set_cons_succ]
  refine take_yes (i := 4) (v := ?vr4) rfl (by kernel_rfl) (by kernel_rfl) (by kernel_rfl) (fun _ _ _ h => h) (by rfl) (by assumption) ?hyr4 ?restr4
  case hyr4 => (intro w hSw; (try dsimp only at hSw); first | (go_simp; done) | (go_simp; with_reducible rfl))
  simp only [Act.put, List.setIfInBounds_toArray, List.set_cons_zero, List.set_cons_succ]
  refine take_call (i := 2) rfl (by kernel_rfl) (fun Kc hK => ?_)
  go_simp
  (go_at_call 22; refine (wSub n1 n2 a1 a2 l1 l2 c1 c2 _ _ _ h1 h2 (pN za Da * (pD Db : Int) - pN zb Db * (pD Da : Int)) rfl).mono ?_; rintro e w5 ⟨n5, a5, l5, c5, rfl, h5, f5, bw5⟩)
  refine hK.out _ _ ?_ (fun hHeld => ?_)
  · first | exact ⟨x_r.c0, x_r.c1, x_s.c0, x_s.c1, x_a.c0, x_a.c1, x_a.c2, x_b.c0, x_b.c1, x_b.c2, BB⟩ | exact ⟨cell_on bw7 hHeld.1, cell_on bw7 hHeld.2.1, cell_on bw7 hHeld.2.2.1, cell_on bw7 hHeld.2.2.2.1, cell_on bw7 hHeld.2.2.2.2.1, cell_on bw7 hHeld.2.2.2.2.2.1, cell_on bw7 hHeld.2.2.2.2.2.2.1, cell_on bw7 hHeld.2.2.2.2.2.2.2.1, cell_on bw7 hHeld.2.2.2.2.2.2.2.2.1, cell_on bw7 hHeld.2.2.2.2.2.2.2.2.2.1, also hHeld.2.2.2.2.2.2.2.2.2.2 bw7⟩ | exact ⟨cell_on bw6 hHeld.1, cell_on bw6 hHeld.2.1, cell_on bw6 hHeld.2.2.1, cell_on bw6 hHeld.2.2.2.1, cell_on bw6 hHeld.2.2.2.2.1, cell_on bw6 hHeld.2.2.2.2.2.1, cell_on bw6 hHeld.2.2.2.2.2.2.1, cell_on bw6 hHeld.2.2.2.2.2.2.2.1, cell_on bw6 hHeld.2.2.2.2.2.2.2.2.1, cell_on bw6 hHeld.2.2.2.2.2.2.2.2.2.1, also hHeld.2.2.2.2.2.2.2.2.2.2 bw6⟩ | exact ⟨cell_on bw5 hHeld.1, cell_on bw5 hHeld.2.1, cell_on bw5 hHeld.2.2.1, cell_on bw5 hHeld.2.2.2.1, cell_on bw5 hHeld.2.2.2.2.1, cell_on bw5 hHeld.2.2.2.2.2.1, cell_on bw5 hHeld.2.2.2.2.2.2.1, cell_on bw5 hHeld.2.2.2.2.2.2.2.1, cell_on bw5 hHeld.2.2.2.2.2.2.2.2.1, cell_on bw5 hHeld.2.2.2.2.2.2.2.2.2.1, also hHeld.2.2.2.2.2.2.2.2.2.2 bw5⟩ | exact ⟨cell_put3 hHeld.1 (by omega) _ _ _, cell_put3 hHeld.2.1 (by omega) _ _ _, cell_put3 hHeld.2.2.1 (by omega) _ _ _, cell_put3 hHeld.2.2.2.1 (by omega) _ _ _, cell_put3 hHeld.2.2.2.2.1 (by omega) _ _ _, cell_put3 hHeld.2.2.2.2.2.1 (by omega) _ _ _, cell_put3 hHeld.2.2.2.2.2.2.1 (by omega) _ _ _, cell_put3 hHeld.2.2.2.2.2.2.2.1 (by omega) _ _ _, cell_put3 hHeld.2.2.2.2.2.2.2.2.1 (by omega) _ _ _, cell_put3 hHeld.2.2.2.2.2.2.2.2.2.1 (by omega) _ _ _, below_put3 hHeld.2.2.2.2.2.2.2.2.2.2 (by omega) _ _ _⟩
  clear hK Kc
  have zbw5 := bw5.size
  replace ha := ha.below bw5
  replace hb := hb.below bw5
  replace BB := also BB bw5
  replace x_a := x_a.on bw5
  replace x_b := x_b.on bw5
  replace x_z := x_z.on bw5
  replace h1 := h1.below bw5
  replace h2 := h2.below bw5
  replace x_r := x_r.on bw5
  replace x_s := x_s.on bw5
  refine take_call (i := 5) rfl (by kernel_rfl) (fun Kc hK => ?_)
  go_simp
  (go_at_call 18; refine (qBoth n a la ca d ld cd za Da m b lb cb g lg cg zb Db K _ ha hb).mono ?_; rintro e w6 ⟨a6, l6, c6, rfl, h6, bw6⟩)
  refine hK.out _ _ ?_ (fun hHeld => ?_)
  · first | exact ⟨x_r.c0, x_r.c1, x_s.c0, x_s.c1, x_a.c0, x_a.c1, x_a.c2, x_b.c0, x_b.c1, x_b.c2, BB⟩ | exact ⟨cell_on bw7 hHeld.1, cell_on bw7 hHeld.2.1, cell_on bw7 hHeld.2.2.1, cell_on bw7 hHeld.2.2.2.1, cell_on bw7 hHeld.2.2.2.2.1, cell_on bw7 hHeld.2.2.2.2.2.1, cell_on bw7 hHeld.2.2.2.2.2.2.1, cell_on bw7 hHeld.2.2.2.2.2.2.2.1, cell_on bw7 hHeld.2.2.2.2.2.2.2.2.1, cell_on bw7 hHeld.2.2.2.2.2.2.2.2.2.1, also hHeld.2.2.2.2.2.2.2.2.2.2 bw7⟩ | exact ⟨cell_on bw6 hHeld.1, cell_on bw6 hHeld.2.1, cell_on bw6 hHeld.2.2.1, cell_on bw6 hHeld.2.2.2.1, cell_on bw6 hHeld.2.2.2.2.1, cell_on bw6 hHeld.2.2.2.2.2.1, cell_on bw6 hHeld.2.2.2.2.2.2.1, cell_on bw6 hHeld.2.2.2.2.2.2.2.1, cell_on bw6 hHeld.2.2.2.2.2.2.2.2.1, cell_on bw6 hHeld.2.2.2.2.2.2.2.2.2.1, also hHeld.2.2.2.2.2.2.2.2.2.2 bw6⟩ | exact ⟨cell_on bw5 hHeld.1, cell_on bw5 hHeld.2.1, cell_on bw5 hHeld.2.2.1, cell_on bw5 hHeld.2.2.2.1, cell_on bw5 hHeld.2.2.2.2.1, cell_on bw5 hHeld.2.2.2.2.2.1, cell_on bw5 hHeld.2.2.2.2.2.2.1, cell_on bw5 hHeld.2.2.2.2.2.2.2.1, cell_on bw5 hHeld.2.2.2.2.2.2.2.2.1, cell_on bw5 hHeld.2.2.2.2.2.2.2.2.2.1, also hHeld.2.2.2.2.2.2.2.2.2.2 bw5⟩ | exact ⟨cell_put3 hHeld.1 (by omega) _ _ _, cell_put3 hHeld.2.1 (by omega) _ _ _, cell_put3 hHeld.2.2.1 (by omega) _ _ _, cell_put3 hHeld.2.2.2.1 (by omega) _ _ _, cell_put3 hHeld.2.2.2.2.1 (by omega) _ _ _, cell_put3 hHeld.2.2.2.2.2.1 (by omega) _ _ _, cell_put3 hHeld.2.2.2.2.2.2.1 (by omega) _ _ _, cell_put3 hHeld.2.2.2.2.2.2.2.1 (by omega) _ _ _, cell_put3 hHeld.2.2.2.2.2.2.2.2.1 (by omega) _ _ _, cell_put3 hHeld.2.2.2.2.2.2.2.2.2.1 (by omega) _ _ _, below_put3 hHeld.2.2.2.2.2.2.2.2.2.2 (by omega) _ _ _⟩
  clear hK Kc
  have zbw6 := bw6.size
  replace ha := ha.below bw6
  replace hb := hb.below bw6
  replace BB := also BB bw6
  replace x_a := x_a.on bw6
  replace x_b := x_b.on bw6
  replace x_z := x_z.on bw6
  replace h1 := h1.below bw6
  replace h2 := h2.below bw6
  replace x_r := x_r.on bw6
  replace x_s := x_s.on bw6
  replace h5 := h5.below bw6
  refine take_call (i := 6) rfl (by kernel_rfl) (fun Kc hK => ?_)
  go_simp
  (go_at_call 16; refine (qLow n5 a5 l5 c5 _ a6 l6 c6 _ _ (h5.wi (K + K + 1) (by omega) (abs_sub' (abs_mul' ha.pn (by simpa using hb.pd)) (abs_mul' hb.pn (by simpa using ha.pd)))) (h6.ni (K + K) (by omega) (nat_mul' ha.pd hb.pd)) (Nat.mul_pos (pD_pos _) (pD_pos _)) N E HN.out HE.out).mono ?_; rintro e w7 ⟨n7, a7, l7, c7, d7, m7, k7, rfl, h7, f7, g7, bw7⟩)
  refine hK.out _ _ ?_ (fun hHeld => ?_)
  · first | exact ⟨x_r.c0, x_r.c1, x_s.c0, x_s.c1, x_a.c0, x_a.c1, x_a.c2, x_b.c0, x_b.c1, x_b.c2, BB⟩ | exact ⟨cell_on bw7 hHeld.1, cell_on bw7 hHeld.2.1, cell_on bw7 hHeld.2.2.1, cell_on bw7 hHeld.2.2.2.1, cell_on bw7 hHeld.2.2.2.2.1, cell_on bw7 hHeld.2.2.2.2.2.1, cell_on bw7 hHeld.2.2.2.2.2.2.1, cell_on bw7 hHeld.2.2.2.2.2.2.2.1, cell_on bw7 hHeld.2.2.2.2.2.2.2.2.1, cell_on bw7 hHeld.2.2.2.2.2.2.2.2.2.1, also hHeld.2.2.2.2.2.2.2.2.2.2 bw7⟩ | exact ⟨cell_on bw6 hHeld.1, cell_on bw6 hHeld.2.1, cell_on bw6 hHeld.2.2.1, cell_on bw6 hHeld.2.2.2.1, cell_on bw6 hHeld.2.2.2.2.1, cell_on bw6 hHeld.2.2.2.2.2.1, cell_on bw6 hHeld.2.2.2.2.2.2.1, cell_on bw6 hHeld.2.2.2.2.2.2.2.1, cell_on bw6 hHeld.2.2.2.2.2.2.2.2.1, cell_on bw6 hHeld.2.2.2.2.2.2.2.2.2.1, also hHeld.2.2.2.2.2.2.2.2.2.2 bw6⟩ | exact ⟨cell_on bw5 hHeld.1, cell_on bw5 hHeld.2.1, cell_on bw5 hHeld.2.2.1, cell_on bw5 hHeld.2.2.2.1, cell_on bw5 hHeld.2.2.2.2.1, cell_on bw5 hHeld.2.2.2.2.2.1, cell_on bw5 hHeld.2.2.2.2.2.2.1, cell_on bw5 hHeld.2.2.2.2.2.2.2.1, cell_on bw5 hHeld.2.2.2.2.2.2.2.2.1, cell_on bw5 hHeld.2.2.2.2.2.2.2.2.2.1, also hHeld.2.2.2.2.2.2.2.2.2.2 bw5⟩ | exact ⟨cell_put3 hHeld.1 (by omega) _ _ _, cell_put3 hHeld.2.1 (by omega) _ _ _, cell_put3 hHeld.2.2.1 (by omega) _ _ _, cell_put3 hHeld.2.2.2.1 (by omega) _ _ _, cell_put3 hHeld.2.2.2.2.1 (by omega) _ _ _, cell_put3 hHeld.2.2.2.2.2.1 (by omega) _ _ _, cell_put3 hHeld.2.2.2.2.2.2.1 (by omega) _ _ _, cell_put3 hHeld.2.2.2.2.2.2.2.1 (by omega) _ _ _, cell_put3 hHeld.2.2.2.2.2.2.2.2.1 (by omega) _ _ _, cell_put3 hHeld.2.2.2.2.2.2.2.2.2.1 (by omega) _ _ _, below_put3 hHeld.2.2.2.2.2.2.2.2.2.2 (by omega) _ _ _⟩
  clear hK Kc
  have zbw7 := bw7.size
  replace ha := ha.below bw7
  replace hb := hb.below bw7
  replace BB := also BB bw7
  replace x_a := x_a.on bw7
  replace x_b := x_b.on bw7
  replace x_z := x_z.on bw7
  replace h1 := h1.below bw7
  replace h2 := h2.below bw7
  replace x_r := x_r.on bw7
  replace x_s := x_s.on bw7
  replace h5 := h5.below bw7
  replace h6 := h6.below bw7
  have ⟨x_z_0, x_z_1, x_z_2, x_z_3, x_z_4, x_z_5⟩ := x_z
  refine take_call (i := 7) rfl (by kernel_rfl) (fun Kc hK => ?_)
  go_simp
  refine hK.out _ _ ?_ (fun hHeld => ?_)
  · first | exact ⟨x_r.c0, x_r.c1, x_s.c0, x_s.c1, x_a.c0, x_a.c1, x_a.c2, x_b.c0, x_b.c1, x_b.c2, BB⟩ | exact ⟨cell_on bw7 hHeld.1, cell_on bw7 hHeld.2.1, cell_on bw7 hHeld.2.2.1, cell_on bw7 hHeld.2.2.2.1, cell_on bw7 hHeld.2.2.2.2.1, cell_on bw7 hHeld.2.2.2.2.2.1, cell_on bw7 hHeld.2.2.2.2.2.2.1, cell_on bw7 hHeld.2.2.2.2.2.2.2.1, cell_on bw7 hHeld.2.2.2.2.2.2.2.2.1, cell_on bw7 hHeld.2.2.2.2.2.2.2.2.2.1, also hHeld.2.2.2.2.2.2.2.2.2.2 bw7⟩ | exact ⟨cell_on bw6 hHeld.1, cell_on bw6 hHeld.2.1, cell_on bw6 hHeld.2.2.1, cell_on bw6 hHeld.2.2.2.1, cell_on bw6 hHeld.2.2.2.2.1, cell_on bw6 hHeld.2.2.2.2.2.1, cell_on bw6 hHeld.2.2.2.2.2.2.1, cell_on bw6 hHeld.2.2.2.2.2.2.2.1, cell_on bw6 hHeld.2.2.2.2.2.2.2.2.1, cell_on bw6 hHeld.2.2.2.2.2.2.2.2.2.1, also hHeld.2.2.2.2.2.2.2.2.2.2 bw6⟩ | exact ⟨cell_on bw5 hHeld.1, cell_on bw5 hHeld.2.1, cell_on bw5 hHeld.2.2.1, cell_on bw5 hHeld.2.2.2.1, cell_on bw5 hHeld.2.2.2.2.1, cell_on bw5 hHeld.2.2.2.2.2.1, cell_on bw5 hHeld.2.2.2.2.2.2.1, cell_on bw5 hHeld.2.2.2.2.2.2.2.1, cell_on bw5 hHeld.2.2.2.2.2.2.2.2.1, cell_on bw5 hHeld.2.2.2.2.2.2.2.2.2.1, also hHeld.2.2.2.2.2.2.2.2.2.2 bw5⟩ | exact ⟨cell_put3 hHeld.1 (by omega) _ _ _, cell_put3 hHeld.2.1 (by omega) _ _ _, cell_put3 hHeld.2.2.1 (by omega) _ _ _, cell_put3 hHeld.2.2.2.1 (by omega) _ _ _, cell_put3 hHeld.2.2.2.2.1 (by omega) _ _ _, cell_put3 hHeld.2.2.2.2.2.1 (by omega) _ _ _, cell_put3 hHeld.2.2.2.2.2.2.1 (by omega) _ _ _, cell_put3 hHeld.2.2.2.2.2.2.2.1 (by omega) _ _ _, cell_put3 hHeld.2.2.2.2.2.2.2.2.1 (by omega) _ _ _, cell_put3 hHeld.2.2.2.2.2.2.2.2.2.1 (by omega) _ _ _, below_put3 hHeld.2.2.2.2.2.2.2.2.2.2 (by omega) _ _ _⟩
  clear hK Kc
  refine wpAnyH_done (by kernel_rfl) ?_ _
  go_wp2
  exact bodyPost_ret (v := .agg #[.bool n7, .slice a7 l7 c7, .slice d7 m7 k7]) (by simp [results, Tryd.results10, go_sem, *]) rfl (endQ _ (by omega) BB h7 (f7.mono (by omega)) (g7.mono (by omega)) _ _ _)
set_option maxRecDepth 100000 in
set_option maxHeartbeats 1000000 in
theorem qMul (n : Bool) (a : Option Addr) (la ca : Nat) (d : Option Addr) (ld cd : Nat) (za : Int) (Da : Nat) (m : Bool) (b : Option Addr) (lb cb : Nat) (g : Option Addr) (lg cg : Nat) (zb : Int) (Db : Nat) (K : Nat) (w : World) (ha : QI w K n a la ca d ld cd za Da) (hb : QI w K m b lb cb g lg cg zb Db) (N : Int) (E : Nat) (hN : N = lowN (pN za Da * pN zb Db) (pD Da * pD Db)) (hE : E = lowD (pN za Da * pN zb Db) (pD Da * pD Db)) :
    Calls Tryd.prog 6 #[.agg #[.bool n, .slice a la ca, .slice d ld cd], .agg #[.bool m, .slice b lb cb, .slice g lg cg]] w (GotQ w N E) := by
  have HN : Hid _ := hN
  have HE : Hid _ := hE
  have kk := ha.kk
  clear hN hE
  obtain ⟨W, hW, bW, x_a, x_b, x_z, sW⟩ := bs_333 w (.bool n) (.slice a la ca) (.slice d ld cd) (.bool m) (.slice b lb cb) (.slice g lg cg) (.bool false) (.slice none 0 0) (.slice none 0 0) 27 27 27
  have zbW := bW.size
  replace ha := ha.below bW
  replace hb := hb.below bW
  have BB := bW
  go_enter Tryd.func6, Tryd.ntmps6
  go_wp2_with (go_at_call 15; fail)
  rw [← hW]
  clear hW
  refine (qParts n a la ca d ld cd za Da K W ha).mono ?_
  rintro e w1 ⟨n1, a1, l1, c1, d1, m1, k1, rfl, h1, bw1⟩
  have zbw1 := bw1.size
  replace ha := ha.below bw1
  replace hb := hb.below bw1
  replace BB := also BB bw1
  replace x_a := x_a.on bw1
  replace x_b := x_b.on bw1
  replace x_z := x_z.on bw1
  obtain ⟨V1, hV1, bV1, x_r, sV1⟩ := bs_2 w1 (.bool n1) (.slice a1 l1 c1) 25
  have zbV1 := bV1.size
  replace ha := ha.below bV1
  replace hb := hb.below bV1
  replace BB := also BB bV1
  replace x_a := x_a.on bV1
  replace x_b := x_b.on bV1
  replace x_z := x_z.on bV1
  replace h1 := h1.below bV1
  have st_b_0 : (w1.alloc (.cells #[.bool n1, .slice a1 l1 c1] 25)).cell? ⟨w.heap.size + 1, 0, none⟩ = some (.bool m) := by rw [← hV1]; exact x_b.c0
  have st_b_1 : (w1.alloc (.cells #[.bool n1, .slice a1 l1 c1] 25)).cell? ⟨w.heap.size + 1, 1, none⟩ = some (.slice b lb cb) := by rw [← hV1]; exact x_b.c1
  have st_b_2 : (w1.alloc (.cells #[.bool n1, .slice a1 l1 c1] 25)).cell? ⟨w.heap.size + 1, 2, none⟩ = some (.slice g lg cg) := by rw [← hV1]; exact x_b.c2
  have sf_b_0 : (w1.alloc (.cells #[.bool n1, .slice a1 l1 c1] 25)).frozen? ⟨w.heap.size + 1, 0, none⟩ = false := by rw [← hV1]; exact x_b.f0
  have sf_b_1 : (w1.alloc (.cells #[.bool n1, .slice a1 l1 c1] 25)).frozen? ⟨w.heap.size + 1, 1, none⟩ = false := by rw [← hV1]; exact x_b.f1
  have sf_b_2 : (w1.alloc (.cells #[.bool n1, .slice a1 l1 c1] 25)).frozen? ⟨w.heap.size + 1, 2, none⟩ = false := by rw [← hV1]; exact x_b.f2
  go_wp2_with (go_at_call 15; fail)
  rw [← hV1]
  clear hV1 st_b_0 st_b_1 st_b_2 sf_b_0 sf_b_1 sf_b_2
  refine (qParts m b lb cb g lg cg zb Db K V1 hb).mono ?_
  rintro e w2 ⟨n2, a2, l2, c2, d2, m2, k2, rfl, h2, bw2⟩
  have zbw2 := bw2.size
  replace ha := ha.below bw2
  replace hb := hb.below bw2
  replace BB := also BB bw2
  replace x_a := x_a.on bw2
  replace x_b := x_b.on bw2
  replace x_z := x_z.on bw2
  replace h1 := h1.below bw2
  replace x_r := x_r.on bw2
  obtain ⟨V2, hV2, bV2, x_s, sV2⟩ := bs_2 w2 (.bool n2) (.slice a2 l2 c2) 25
  have zbV2 := bV2.size
  replace ha := ha.below bV2
  replace hb := hb.below bV2
  replace BB := also BB bV2
  replace x_a := x_a.on bV2
  replace x_b := x_b.on bV2
  replace x_z := x_z.on bV2
  replace h1 := h1.below bV2
  replace x_r := x_r.on bV2
  replace h2 := h2.below bV2
  have st_r_0 : (w2.alloc (.cells #[.bool n2, .slice a2 l2 c2] 25)).cell? ⟨w1.heap.size, 0, none⟩ = some (.bool n1) := by rw [← hV2]; exact x_r.c0
  have st_r_1 : (w2.alloc (.cells #[.bool n2, .slice a2 l2 c2] 25)).cell? ⟨w1.heap.size, 1, none⟩ = some (.slice a1 l1 c1) := by rw [← hV2]; exact x_r.c1
  have sf_r_0 : (w2.alloc (.cells #[.bool n2, .slice a2 l2 c2] 25)).frozen? ⟨w1.heap.size, 0, none⟩ = false := by rw [← hV2]; exact x_r.f0
  have sf_r_1 : (w2.alloc (.cells #[.bool n2, .slice a2 l2 c2] 25)).frozen? ⟨w1.heap.size, 1, none⟩ = false := by rw [← hV2]; exact x_r.f1
  go_wp2
  rw [← hV2]
  clear hV2 st_r_0 st_r_1 sf_r_0 sf_r_1
  have dd1 : Below V2.heap.size V2 V2.drew := (Below.refl _ _).drew
  have zdd1 := dd1.size
  replace ha := ha.below dd1
  replace hb := hb.below dd1
  replace BB := also BB dd1
  replace x_a := x_a.on dd1
  replace x_b := x_b.on dd1
  replace x_z := x_z.on dd1
  replace h1 := h1.below dd1
  replace x_r := x_r.on dd1
  replace h2 := h2.below dd1
  replace x_s := x_s.on dd1
  refine wp_region_held_drew (S := (fun w' => w'.cell? ⟨w1.heap.size, 0, none⟩ = some (.bool n1) ∧ w'.cell? ⟨w1.heap.size, 1, none⟩ = some (.slice a1 l1 c1) ∧ w'.cell? ⟨w2.heap.size, 0, none⟩ = some (.bool n2) ∧ w'.cell? ⟨w2.heap.size, 1, none⟩ = some (.slice a2 l2 c2) ∧ w'.cell? ⟨w.heap.size, 0, none⟩ = some (.bool n) ∧ w'.cell? ⟨w.heap.size, 1, none⟩ = some (.slice a la ca) ∧ w'.cell? ⟨w.heap.size, 2, none⟩ = some (.slice d ld cd) ∧ w'.cell? ⟨w.heap.size + 1, 0, none⟩ = some (.bool m) ∧ w'.cell? ⟨w.heap.size + 1, 1, none⟩ = some (.slice b lb cb) ∧ w'.cell? ⟨w.heap.size + 1, 2, none⟩ = some (.slice g lg cg) ∧ Below w.heap.size w w')) (by kernel_rfl) ?_ (fun hHeld => ?_)
  · first | exact ⟨x_r.c0, x_r.c1, x_s.c0, x_s.c1, x_a.c0, x_a.c1, x_a.c2, x_b.c0, x_b.c1, x_b.c2, BB⟩ | exact ⟨cell_on bw7 hHeld.1, cell_on bw7 hHeld.2.1, cell_on bw7 hHeld.2.2.1, cell_on bw7 hHeld.2.2.2.1, cell_on bw7 hHeld.2.2.2.2.1, cell_on bw7 hHeld.2.2.2.2.2.1, cell_on bw7 hHeld.2.2.2.2.2.2.1, cell_on bw7 hHeld.2.2.2.2.2.2.2.1, cell_on bw7 hHeld.2.2.2.2.2.2.2.2.1, cell_on bw7 hHeld.2.2.2.2.2.2.2.2.2.1, also hHeld.2.2.2.2.2.2.2.2.2.2 bw7⟩ | exact ⟨cell_on bw6 hHeld.1, cell_on bw6 hHeld.2.1, cell_on bw6 hHeld.2.2.1, cell_on bw6 hHeld.2.2.2.1, cell_on bw6 hHeld.2.2.2.2.1, cell_on bw6 hHeld.2.2.2.2.2.1, cell_on bw6 hHeld.2.2.2.2.2.2.1, cell_on bw6 hHeld.2.2.2.2.2.2.2.1, cell_on bw6 hHeld.2.2.2.2.2.2.2.2.1, cell_on bw6 hHeld.2.2.2.2.2.2.2.2.2.1, also hHeld.2.2.2.2.2.2.2.2.2.2 bw6⟩ | exact ⟨cell_on bw5 hHeld.1, cell_on bw5 hHeld.2.1, cell_on bw5 hHeld.2.2.1, cell_on bw5 hHeld.2.2.2.1, cell_on bw5 hHeld.2.2.2.2.1, cell_on bw5 hHeld.2.2.2.2.2.1, cell_on bw5 hHeld.2.2.2.2.2.2.1, cell_on bw5 hHeld.2.2.2.2.2.2.2.1, cell_on bw5 hHeld.2.2.2.2.2.2.2.2.1, cell_on bw5 hHeld.2.2.2.2.2.2.2.2.2.1, also hHeld.2.2.2.2.2.2.2.2.2.2 bw5⟩ | exact ⟨cell_put3 hHeld.1 (by omega) _ _ _, cell_put3 hHeld.2.1 (by omega) _ _ _, cell_put3 hHeld.2.2.1 (by omega) _ _ _, cell_put3 hHeld.2.2.2.1 (by omega) _ _ _, cell_put3 hHeld.2.2.2.2.1 (by omega) _ _ _, cell_put3 hHeld.2.2.2.2.2.1 (by omega) _ _ _, cell_put3 hHeld.2.2.2.2.2.2.1 (by omega) _ _ _, cell_put3 hHeld.2.2.2.2.2.2.2.1 (by omega) _ _ _, cell_put3 hHeld.2.2.2.2.2.2.2.2.1 (by omega) _ _ _, cell_put3 hHeld.2.2.2.2.2.2.2.2.2.1 (by omega) _ _ _, below_put3 hHeld.2.2.2.2.2.2.2.2.2.2 (by omega) _ _ _⟩
  refine take_yes (i := 0) (v := ?vr0) rfl (by kernel_rfl) (by kernel_rfl) (by kernel_rfl) (fun _ _ _ h => h) (by rfl) (by assumption) ?hyr0 ?restr0
  case hyr0 => (intro w hSw; (try dsimp only at hSw); first | (go_simp; done) | (go_simp; with_reducible rfl))
  simp only [Act.put, List.setIfInBounds_toArray, List.set_cons_zero, List.set_cons_succ]
  refine take_yes (i := 1) (v := ?vr1) rfl (by kernel_rfl) (by kernel_rfl) (by kernel_rfl) (fun _ _ _ h => h) (by rfl) (by assumption) ?hyr1 ?restr1
  case hyr1 => (intro w hSw; (try dsimp only at hSw); first | (go_simp; done) | (go_simp; with_reducible rfl))
  simp only [Act.put, List.setIfInBounds_toArray, List.set_cons_zero, List.set_cons_succ]
  refine take_yes (i := 3) (v := ?vr3) rfl (by kernel_rfl) (by kernel_rfl) (by kernel_rfl) (fun _ _ _ h => h) (by rfl) (by assumption) ?hyr3 ?restr3
  case hyr3 => (intro w hSw; (try dsimp only at hSw); first | (go_simp; done) | (go_simp; with_reducible rfl))
  simp only [Act.put, List.setIfInBounds_toArray, List.set_cons_zero, List.set_cons_succ]
  refine take_yes (i := 4) (v := ?vr4) rfl (by kernel_rfl) (by kernel_rfl) (by kernel_rfl) (fun _ _ _ h => h) (by rfl) (by assumption) ?hyr4 ?restr4
  case hyr4 => (intro w hSw; (try dsimp only at hSw); first | (go_simp; done) | (go_simp; with_reducible rfl))
  simp only [Act.put, List.setIfInBounds_toArray, List.set_cons_zero, List.set_cons_succ]
  refine take_call (i := 2) rfl (by kernel_rfl) (fun Kc hK => ?_)
  go_simp
  (go_at_call 17; refine (wMul n1 n2 a1 a2 l1 l2 c1 c2 _ _ _ h1.wi h2.wi (pN za Da * pN zb Db) rfl).mono ?_; rintro e w5 ⟨n5, a5, l5, c5, rfl, h5, f5, bw5⟩)
  refine hK.out _ _ ?_ (fun hHeld => ?_)
  · first | exact ⟨x_r.c0, x_r.c1, x_s.c0, x_s.c1, x_a.c0, x_a.c1, x_a.c2, x_b.c0, x_b.c1, x_b.c2, BB⟩ | exact ⟨cell_on bw7 hHeld.1, cell_on bw7 hHeld.2.1, cell_on bw7 hHeld.2.2.1, cell_on bw7 hHeld.2.2.2.1, cell_on bw7 hHeld.2.2.2.2.1, cell_on bw7 hHeld.2.2.2.2.2.1, cell_on bw7 hHeld.2.2.2.2.2.2.1, cell_on bw7 hHeld.2.2.2.2.2.2.2.1, cell_on bw7 hHeld.2.2.2.2.2.2.2.2.1, cell_on bw7 hHeld.2.2.2.2.2.2.2.2.2.1, also hHeld.2.2.2.2.2.2.2.2.2.2 bw7⟩ | exact ⟨cell_on bw6 hHeld.1, cell_on bw6 hHeld.2.1, cell_on bw6 hHeld.2.2.1, cell_on bw6 hHeld.2.2.2.1, cell_on bw6 hHeld.2.2.2.2.1, cell_on bw6 hHeld.2.2.2.2.2.1, cell_on bw6 hHeld.2.2.2.2.2.2.1, cell_on bw6 hHeld.2.2.2.2.2.2.2.1, cell_on bw6 hHeld.2.2.2.2.2.2.2.2.1, cell_on bw6 hHeld.2.2.2.2.2.2.2.2.2.1, also hHeld.2.2.2.2.2.2.2.2.2.2 bw6⟩ | exact ⟨cell_on bw5 hHeld.1, cell_on bw5 hHeld.2.1, cell_on bw5 hHeld.2.2.1, cell_on bw5 hHeld.2.2.2.1, cell_on bw5 hHeld.2.2.2.2.1, cell_on bw5 hHeld.2.2.2.2.2.1, cell_on bw5 hHeld.2.2.2.2.2.2.1, cell_on bw5 hHeld.2.2.2.2.2.2.2.1, cell_on bw5 hHeld.2.2.2.2.2.2.2.2.1, cell_on bw5 hHeld.2.2.2.2.2.2.2.2.2.1, also hHeld.2.2.2.2.2.2.2.2.2.2 bw5⟩ | exact ⟨cell_put3 hHeld.1 (by omega) _ _ _, cell_put3 hHeld.2.1 (by omega) _ _ _, cell_put3 hHeld.2.2.1 (by omega) _ _ _, cell_put3 hHeld.2.2.2.1 (by omega) _ _ _, cell_put3 hHeld.2.2.2.2.1 (by omega) _ _ _, cell_put3 hHeld.2.2.2.2.2.1 (by omega) _ _ _, cell_put3 hHeld.2.2.2.2.2.2.1 (by omega) _ _ _, cell_put3 hHeld.2.2.2.2.2.2.2.1 (by omega) _ _ _, cell_put3 hHeld.2.2.2.2.2.2.2.2.1 (by omega) _ _ _, cell_put3 hHeld.2.2.2.2.2.2.2.2.2.1 (by omega) _ _ _, below_put3 hHeld.2.2.2.2.2.2.2.2.2.2 (by omega) _ _ _⟩
  clear hK Kc
  have zbw5 := bw5.size
  replace ha := ha.below bw5
  replace hb := hb.below bw5
  replace BB := also BB bw5
  replace x_a := x_a.on bw5
  replace x_b := x_b.on bw5
  replace x_z := x_z.on bw5
  replace h1 := h1.below bw5
  replace x_r := x_r.on bw5
  replace h2 := h2.below bw5
  replace x_s := x_s.on bw5
  refine take_call (i := 5) rfl (by kernel_rfl) (fun Kc hK => ?_)
  go_simp
  (go_at_call 18; refine (qBoth n a la ca d ld cd za Da m b lb cb g lg cg zb Db K _ ha hb).mono ?_; rintro e w6 ⟨a6, l6, c6, rfl, h6, bw6⟩)
  refine hK.out _ _ ?_ (fun hHeld => ?_)
  · first | exact ⟨x_r.c0, x_r.c1, x_s.c0, x_s.c1, x_a.c0, x_a.c1, x_a.c2, x_b.c0, x_b.c1, x_b.c2, BB⟩ | exact ⟨cell_on bw7 hHeld.1, cell_on bw7 hHeld.2.1, cell_on bw7 hHeld.2.2.1, cell_on bw7 hHeld.2.2.2.1, cell_on bw7 hHeld.2.2.2.2.1, cell_on bw7 hHeld.2.2.2.2.2.1, cell_on bw7 hHeld.2.2.2.2.2.2.1, cell_on bw7 hHeld.2.2.2.2.2.2.2.1, cell_on bw7 hHeld.2.2.2.2.2.2.2.2.1, cell_on bw7 hHeld.2.2.2.2.2.2.2.2.2.1, also hHeld.2.2.2.2.2.2.2.2.2.2 bw7⟩ | exact ⟨cell_on bw6 hHeld.1, cell_on bw6 hHeld.2.1, cell_on bw6 hHeld.2.2.1, cell_on bw6 hHeld.2.2.2.1, cell_on bw6 hHeld.2.2.2.2.1, cell_on bw6 hHeld.2.2.2.2.2.1, cell_on bw6 hHeld.2.2.2.2.2.2.1, cell_on bw6 hHeld.2.2.2.2.2.2.2.1, cell_on bw6 hHeld.2.2.2.2.2.2.2.2.1, cell_on bw6 hHeld.2.2.2.2.2.2.2.2.2.1, also hHeld.2.2.2.2.2.2.2.2.2.2 bw6⟩ | exact ⟨cell_on bw5 hHeld.1, cell_on bw5 hHeld.2.1, cell_on bw5 hHeld.2.2.1, cell_on bw5 hHeld.2.2.2.1, cell_on bw5 hHeld.2.2.2.2.1, cell_on bw5 hHeld.2.2.2.2.2.1, cell_on bw5 hHeld.2.2.2.2.2.2.1, cell_on bw5 hHeld.2.2.2.2.2.2.2.1, cell_on bw5 hHeld.2.2.2.2.2.2.2.2.1, cell_on bw5 hHeld.2.2.2.2.2.2.2.2.2.1, also hHeld.2.2.2.2.2.2.2.2.2.2 bw5⟩ | exact ⟨cell_put3 hHeld.1 (by omega) _ _ _, cell_put3 hHeld.2.1 (by omega) _ _ _, cell_put3 hHeld.2.2.1 (by omega) _ _ _, cell_put3 hHeld.2.2.2.1 (by omega) _ _ _, cell_put3 hHeld.2.2.2.2.1 (by omega) _ _ _, cell_put3 hHeld.2.2.2.2.2.1 (by omega) _ _ _, cell_put3 hHeld.2.2.2.2.2.2.1 (by omega) _ _ _, cell_put3 hHeld.2.2.2.2.2.2.2.1 (by omega) _ _ _, cell_put3 hHeld.2.2.2.2.2.2.2.2.1 (by omega) _ _ _, cell_put3 hHeld.2.2.2.2.2.2.2.2.2.1 (by omega) _ _ _, below_put3 hHeld.2.2.2.2.2.2.2.2.2.2 (by omega) _ _ _⟩
  clear hK Kc
  have zbw6 := bw6.size
  replace ha := ha.below bw6
  replace hb := hb.below bw6
  replace BB := also BB bw6
  replace x_a := x_a.on bw6
  replace x_b := x_b.on bw6
  replace x_z := x_z.on bw6
  replace h1 := h1.below bw6
  replace x_r := x_r.on bw6
  replace h2 := h2.below bw6
  replace x_s := x_s.on bw6
  replace h5 := h5.below bw6
  refine take_call (i := 6) rfl (by kernel_rfl) (fun Kc hK => ?_)
  go_simp
  (go_at_call 16; refine (qLow n5 a5 l5 c5 _ a6 l6 c6 _ _ (h5.wi (K + K + 1) (by omega) (Nat.lt_of_lt_of_le (abs_mul' ha.pn hb.pn) (Nat.pow_le_pow_right (by decide) (by omega)))) (h6.ni (K + K) (by omega) (nat_mul' ha.pd hb.pd)) (Nat.mul_pos (pD_pos _) (pD_pos _)) N E HN.out HE.out).mono ?_; rintro e w7 ⟨n7, a7, l7, c7, d7, m7, k7, rfl, h7, f7, g7, bw7⟩)
  refine hK.out _ _ ?_ (fun hHeld => ?_)
  · first | exact ⟨x_r.c0, x_r.c1, x_s.c0, x_s.c1, x_a.c0, x_a.c1, x_a.c2, x_b.c0, x_b.c1, x_b.c2, BB⟩ | exact ⟨cell_on bw7 hHeld.1, cell_on bw7 hHeld.2.1, cell_on bw7 hHeld.2.2.1, cell_on bw7 hHeld.2.2.2.1, cell_on bw7 hHeld.2.2.2.2.1, cell_on bw7 hHeld.2.2.2.2.2.1, cell_on bw7 hHeld.2.2.2.2.2.2.1, cell_on bw7 hHeld.2.2.2.2.2.2.2.1, cell_on bw7 hHeld.2.2.2.2.2.2.2.2.1, cell_on bw7 hHeld.2.2.2.2.2.2.2.2.2.1, also hHeld.2.2.2.2.2.2.2.2.2.2 bw7⟩ | exact ⟨cell_on bw6 hHeld.1, cell_on bw6 hHeld.2.1, cell_on bw6 hHeld.2.2.1, cell_on bw6 hHeld.2.2.2.1, cell_on bw6 hHeld.2.2.2.2.1, cell_on bw6 hHeld.2.2.2.2.2.1, cell_on bw6 hHeld.2.2.2.2.2.2.1, cell_on bw6 hHeld.2.2.2.2.2.2.2.1, cell_on bw6 hHeld.2.2.2.2.2.2.2.2.1, cell_on bw6 hHeld.2.2.2.2.2.2.2.2.2.1, also hHeld.2.2.2.2.2.2.2.2.2.2 bw6⟩ | exact ⟨cell_on bw5 hHeld.1, cell_on bw5 hHeld.2.1, cell_on bw5 hHeld.2.2.1, cell_on bw5 hHeld.2.2.2.1, cell_on bw5 hHeld.2.2.2.2.1, cell_on bw5 hHeld.2.2.2.2.2.1, cell_on bw5 hHeld.2.2.2.2.2.2.1, cell_on bw5 hHeld.2.2.2.2.2.2.2.1, cell_on bw5 hHeld.2.2.2.2.2.2.2.2.1, cell_on bw5 hHeld.2.2.2.2.2.2.2.2.2.1, also hHeld.2.2.2.2.2.2.2.2.2.2 bw5⟩ | exact ⟨cell_put3 hHeld.1 (by omega) _ _ _, cell_put3 hHeld.2.1 (by omega) _ _ _, cell_put3 hHeld.2.2.1 (by omega) _ _ _, cell_put3 hHeld.2.2.2.1 (by omega) _ _ _, cell_put3 hHeld.2.2.2.2.1 (by omega) _ _ _, cell_put3 hHeld.2.2.2.2.2.1 (by omega) _ _ _, cell_put3 hHeld.2.2.2.2.2.2.1 (by omega) _ _ _, cell_put3 hHeld.2.2.2.2.2.2.2.1 (by omega) _ _ _, cell_put3 hHeld.2.2.2.2.2.2.2.2.1 (by omega) _ _ _, cell_put3 hHeld.2.2.2.2.2.2.2.2.2.1 (by omega) _ _ _, below_put3 hHeld.2.2.2.2.2.2.2.2.2.2 (by omega) _ _ _⟩
  clear hK Kc
  have zbw7 := bw7.size
  replace ha := ha.below bw7
  replace hb := hb.below bw7
  replace BB := also BB bw7
  replace x_a := x_a.on bw7
  replace x_b := x_b.on bw7
  replace x_z := x_z.on bw7
  replace h1 := h1.below bw7
  replace x_r := x_r.on bw7
  replace h2 := h2.below bw7
  replace x_s := x_s.on bw7
  replace h5 := h5.below bw7
  replace h6 := h6.below bw7
  have ⟨x_z_0, x_z_1, x_z_2, x_z_3, x_z_4, x_z_5⟩ := x_z
  refine take_call (i := 7) rfl (by kernel_rfl) (fun Kc hK => ?_)
  go_simp
  refine hK.out _ _ ?_ (fun hHeld => ?_)
  · first | exact ⟨x_r.c0, x_r.c1, x_s.c0, x_s.c1, x_a.c0, x_a.c1, x_a.c2, x_b.c0, x_b.c1, x_b.c2, BB⟩ | exact ⟨cell_on bw7 hHeld.1, cell_on bw7 hHeld.2.1, cell_on bw7 hHeld.2.2.1, cell_on bw7 hHeld.2.2.2.1, cell_on bw7 hHeld.2.2.2.2.1, cell_on bw7 hHeld.2.2.2.2.2.1, cell_on bw7 hHeld.2.2.2.2.2.2.1, cell_on bw7 hHeld.2.2.2.2.2.2.2.1, cell_on bw7 hHeld.2.2.2.2.2.2.2.2.1, cell_on bw7 hHeld.2.2.2.2.2.2.2.2.2.1, also hHeld.2.2.2.2.2.2.2.2.2.2 bw7⟩ | exact ⟨cell_on bw6 hHeld.1, cell_on bw6 hHeld.2.1, cell_on bw6 hHeld.2.2.1, cell_on bw6 hHeld.2.2.2.1, cell_on bw6 hHeld.2.2.2.2.1, cell_on bw6 hHeld.2.2.2.2.2.1, cell_on bw6 hHeld.2.2.2.2.2.2.1, cell_on bw6 hHeld.2.2.2.2.2.2.2.1, cell_on bw6 hHeld.2.2.2.2.2.2.2.2.1, cell_on bw6 hHeld.2.2.2.2.2.2.2.2.2.1, also hHeld.2.2.2.2.2.2.2.2.2.2 bw6⟩ | exact ⟨cell_on bw5 hHeld.1, cell_on bw5 hHeld.2.1, cell_on bw5 hHeld.2.2.1, cell_on bw5 hHeld.2.2.2.1, cell_on bw5 hHeld.2.2.2.2.1, cell_on bw5 hHeld.2.2.2.2.2.1, cell_on bw5 hHeld.2.2.2.2.2.2.1, cell_on bw5 hHeld.2.2.2.2.2.2.2.1, cell_on bw5 hHeld.2.2.2.2.2.2.2.2.1, cell_on bw5 hHeld.2.2.2.2.2.2.2.2.2.1, also hHeld.2.2.2.2.2.2.2.2.2.2 bw5⟩ | exact ⟨cell_put3 hHeld.1 (by omega) _ _ _, cell_put3 hHeld.2.1 (by omega) _ _ _, cell_put3 hHeld.2.2.1 (by omega) _ _ _, cell_put3 hHeld.2.2.2.1 (by omega) _ _ _, cell_put3 hHeld.2.2.2.2.1 (by omega) _ _ _, cell_put3 hHeld.2.2.2.2.2.1 (by omega) _ _ _, cell_put3 hHeld.2.2.2.2.2.2.1 (by omega) _ _ _, cell_put3 hHeld.2.2.2.2.2.2.2.1 (by omega) _ _ _, cell_put3 hHeld.2.2.2.2.2.2.2.2.1 (by omega) _ _ _, cell_put3 hHeld.2.2.2.2.2.2.2.2.2.1 (by omega) _ _ _, below_put3 hHeld.2.2.2.2.2.2.2.2.2.2 (by omega) _ _ _⟩
  clear hK Kc
  refine wpAnyH_done (by kernel_rfl) ?_ _
  go_wp2
  exact bodyPost_ret (v := .agg #[.bool n7, .slice a7 l7 c7, .slice d7 m7 k7]) (by simp [results, Tryd.results6, go_sem, *]) rfl (endQ _ (by omega) BB h7 (f7.mono (by omega)) (g7.mono (by omega)) _ _ _)
end Go.Proofs.YtaekgomplkkocabDoor

namespace Go.Proofs.YtaekgomplkkocabDoor
open Go.RowKit
set_option linter.unusedVariables false

/-- A fraction and an error. -/
def GotMk (w : World) (z : Int) (D : Nat) (E : Int) (e : Ending) (w' : World) : Prop := ∃ (n : Bool) (a : Option Addr) (l c : Nat) (d : Option Addr) (m k : Nat), e = .returned (.tuple #[.agg #[.bool n, .slice a l c, .slice d m k], .int .i64 E]) ∧ QN w' n a l c d m k z D ∧ Far w.heap.size a l ∧ Far w.heap.size d m ∧ Below w.heap.size w w'
theorem endMk {w w2 : World} {n : Bool} {a : Option Addr} {l c : Nat} {d : Option Addr} {m k : Nat} {z : Int} {D : Nat} {E : Int} (b : Nat) (hb : w.heap.size ≤ b) (B : Below w.heap.size w w2) (h : QN w2 n a l c d m k z D) (f1 : Far (b + 1) a l) (f2 : Far (b + 1) d m) (u v t : Value) :
    GotMk w z D E (.returned (.tuple #[.agg #[.bool n, .slice a l c, .slice d m k], .int .i64 E])) (((w2.setCell ⟨b, 0, none⟩ u).setCell ⟨b, 1, none⟩ v).setCell ⟨b, 2, none⟩ t) :=
  ⟨n, a, l, c, d, m, k, rfl, h.put3 (f1 b (by omega)) (f2 b (by omega)) u v t, f1.mono (by omega), f2.mono (by omega), below_put3 B hb u v t⟩
theorem ne_not {n m : Bool} (h : ¬ n = m) : m = !n := by cases n <;> cases m <;> first | rfl | exact absurd rfl h
theorem bne_self (m : Bool) : (m != m) = false := by cases m <;> rfl
theorem bne_not (n : Bool) : (n != !n) = true := by cases n <;> rfl
theorem wi_over {w : World} {n m : Bool} {a b : Option Addr} {la ca lb cb : Nat} {x y : Int} (ha : WI w n a la ca x) (hb : WI w m b lb cb y) (h0 : y ≠ 0) : WI w (n != m) a la ca (x * y.sign) := by
  have h1 := ha.neg
  have h2 := ha.pos
  have h3 := hb.neg
  have h4 := hb.pos
  rcases wsign_cases y with ⟨hy, e⟩ | ⟨hy, e⟩ | ⟨hy, e⟩
  · rw [e]
    obtain rfl : m = true := by cases m; (have := h4 rfl; omega); rfl
    refine ⟨by rw [show (x * -1).natAbs = x.natAbs by omega]; exact ha.ni, ?_, ?_⟩ <;> cases n <;> simp <;> first | (have := h1 rfl; omega) | (have := h2 rfl; omega)
  · exact absurd hy h0
  · rw [e]
    obtain rfl : m = false := by cases m; rfl; (have := h3 rfl; omega)
    refine ⟨by rw [Int.mul_one]; exact ha.ni, ?_, ?_⟩ <;> cases n <;> simp <;> first | (have := h1 rfl; omega) | (have := h2 rfl; omega)
set_option maxRecDepth 100000 in
set_option maxHeartbeats 1000000 in
theorem qOf (x : Int) (w : World) (h1 : -9223372036854775808 ≤ x) (h2 : x ≤ 9223372036854775807) : Calls Tryd.prog 29 #[.int .i64 x] w (GotQ w x 1) := by
  have HX1 : Hid _ := h1
  have HX2 : Hid _ := h2
  clear h1 h2
  obtain ⟨W, hW, bW, x_z, sW⟩ := bs_3 w (.bool false) (.slice none 0 0) (.slice none 0 0) 27
  have zbW := bW.size
  have BB := bW
  go_enter Tryd.func29, Tryd.ntmps29
  go_wp2_with (go_at_call 45; fail)
  rw [← hW]
  clear hW
  refine (wOf x W HX1.out HX2.out).mono ?_
  rintro e w1 ⟨n1, a1, l1, c1, rfl, h1, f1, bw1⟩
  have zbw1 := bw1.size
  replace BB := also BB bw1
  replace x_z := x_z.on bw1
  go_wp2_with (go_at_call 25; fail)
  refine (fOf 1 (by decide) rfl w1).mono ?_
  rintro e w2 ⟨a2, l2, c2, rfl, h2, f2, bw2⟩
  have zbw2 := bw2.size
  replace BB := also BB bw2
  replace x_z := x_z.on bw2
  replace h1 := h1.below bw2
  have ⟨x_z_0, x_z_1, x_z_2, x_z_3, x_z_4, x_z_5⟩ := x_z
  go_wp2
  exact bodyPost_ret (v := .agg #[.bool n1, .slice a1 l1 c1, .slice a2 l2 c2]) (by simp [results, Tryd.results29, go_sem, *]) rfl (endQ _ (by omega) BB ⟨h1, h2⟩ (f1.mono (by omega)) (f2.mono (by omega)) _ _ _)
set_option maxRecDepth 100000 in
set_option maxHeartbeats 1000000 in
theorem qMake0 (n m : Bool) (a b : Option Addr) (la lb ca cb : Nat) (x y : Int) (w : World) (ha : WI w n a la ca x) (hb : WI w m b lb cb y) (h0 : y = 0) :
    Calls Tryd.prog 14 #[.agg #[.bool n, .slice a la ca], .agg #[.bool m, .slice b lb cb]] w (GotMk w 0 1 3) := by
  have HS : Hid ((0 : Int) = y.sign) := by unfold Hid; rw [h0]; rfl
  clear h0
  obtain ⟨W, hW, bW, x_a, x_b, x_z, sW⟩ := bs_223 w (.bool n) (.slice a la ca) (.bool m) (.slice b lb cb) (.bool false) (.slice none 0 0) (.slice none 0 0) 25 25 27
  have zbW := bW.size
  replace ha := ha.below bW
  replace hb := hb.below bW
  have BB := bW
  go_enter Tryd.func14, Tryd.ntmps14
  go_wp2_with (go_at_call 21; fail)
  rw [← hW]
  clear hW
  refine (wSign m b lb cb y W hb HS.out).mono ?_
  rintro e w1 ⟨rfl, bw1⟩
  have zbw1 := bw1.size
  replace ha := ha.below bw1
  replace hb := hb.below bw1
  replace BB := also BB bw1
  replace x_a := x_a.on bw1
  replace x_b := x_b.on bw1
  replace x_z := x_z.on bw1
  go_wp2_with (go_at_call 29; fail)
  refine (qOf 0 w1 (by decide) (by decide)).mono ?_
  rintro e w3 ⟨n3, a3, l3, c3, d3, m3, k3, rfl, h3, f3, g3, bw3⟩
  have zbw3 := bw3.size
  replace ha := ha.below bw3
  replace hb := hb.below bw3
  replace BB := also BB bw3
  replace x_a := x_a.on bw3
  replace x_b := x_b.on bw3
  replace x_z := x_z.on bw3
  have ⟨x_z_0, x_z_1, x_z_2, x_z_3, x_z_4, x_z_5⟩ := x_z
  go_wp2
  exact bodyPost_ret (v := .tuple #[.agg #[.bool n3, .slice a3 l3 c3, .slice d3 m3 k3], .int .i64 3]) (by simp [results, Tryd.results14, go_sem, *]) rfl (endMk _ (by omega) BB h3 (f3.mono (by omega)) (g3.mono (by omega)) _ _ _)
set_option maxRecDepth 100000 in
set_option maxHeartbeats 1000000 in
theorem qMake (n m : Bool) (a b : Option Addr) (la lb ca cb : Nat) (x y : Int) (w : World) (ha : WI w n a la ca x) (hb : WI w m b lb cb y) (h0 : y ≠ 0) (N : Int) (E : Nat) (hN : N = lowN (x * y.sign) y.natAbs) (hE : E = lowD (x * y.sign) y.natAbs) :
    Calls Tryd.prog 14 #[.agg #[.bool n, .slice a la ca], .agg #[.bool m, .slice b lb cb]] w (GotMk w N E 0) := by
  have HN : Hid _ := hN
  have HE : Hid _ := hE
  have hq := wi_over ha hb h0
  obtain ⟨s, hs⟩ : ∃ s, s = y.sign := ⟨_, rfl⟩
  have HS : Hid _ := hs
  have hs0 : ¬ s = 0 := by rw [hs]; exact fun e => h0 (Int.sign_eq_zero_iff_zero.1 e)
  have hy : 0 < y.natAbs := by omega
  clear hN hE hs h0
  obtain ⟨r, hr⟩ : ∃ r, r = (n != m) := ⟨_, rfl⟩
  have HR : Hid _ := hr
  have hr2 : (n != m) = r := hr.symm
  rw [hr2] at hq
  clear hr
  by_cases hnm : n = m
  · obtain rfl : r = false := by rw [← hr2, hnm]; exact bne_self m
    subst hnm
    clear hr2 HR
    obtain ⟨W, hW, bW, x_a, x_b, x_z, sW⟩ := bs_223 w (.bool n) (.slice a la ca) (.bool n) (.slice b lb cb) (.bool false) (.slice none 0 0) (.slice none 0 0) 25 25 27
    have zbW := bW.size
    replace ha := ha.below bW
    replace hb := hb.below bW
    replace hq := hq.below bW
    have BB := bW
    go_enter Tryd.func14, Tryd.ntmps14
    go_wp2_with (go_at_call 21; fail)
    rw [← hW]
    clear hW
    refine (wSign n b lb cb y W hb HS.out).mono ?_
    rintro e w1 ⟨rfl, bw1⟩
    have zbw1 := bw1.size
    replace ha := ha.below bw1
    replace hb := hb.below bw1
    replace hq := hq.below bw1
    replace BB := also BB bw1
    replace x_a := x_a.on bw1
    replace x_b := x_b.on bw1
    replace x_z := x_z.on bw1
    have ⟨x_a_0, x_a_1, x_a_2, x_a_3⟩ := x_a
    have ⟨x_b_0, x_b_1, x_b_2, x_b_3⟩ := x_b
    go_wp2_with (go_at_call 16; fail)
    refine (qLow false a la ca _ b lb cb _ w1 hq hb.ni hy N E HN.out HE.out).mono ?_
    rintro e w3 ⟨n3, a3, l3, c3, d3, m3, k3, rfl, h3, f3, g3, bw3⟩
    clear x_a_0 x_a_1 x_a_2 x_a_3 x_b_0 x_b_1 x_b_2 x_b_3
    have zbw3 := bw3.size
    replace ha := ha.below bw3
    replace hb := hb.below bw3
    replace hq := hq.below bw3
    replace BB := also BB bw3
    replace x_a := x_a.on bw3
    replace x_b := x_b.on bw3
    replace x_z := x_z.on bw3
    have ⟨x_z_0, x_z_1, x_z_2, x_z_3, x_z_4, x_z_5⟩ := x_z
    go_wp2
    exact bodyPost_ret (v := .tuple #[.agg #[.bool n3, .slice a3 l3 c3, .slice d3 m3 k3], .int .i64 0]) (by simp [results, Tryd.results14, go_sem, *]) rfl (endMk _ (by omega) BB h3 (f3.mono (by omega)) (g3.mono (by omega)) _ _ _)
  · obtain rfl : r = true := by rw [← hr2, ne_not hnm]; exact bne_not n
    obtain rfl : m = !n := ne_not hnm
    clear hr2 HR hnm
    obtain ⟨W, hW, bW, x_a, x_b, x_z, sW⟩ := bs_223 w (.bool n) (.slice a la ca) (.bool (!n)) (.slice b lb cb) (.bool false) (.slice none 0 0) (.slice none 0 0) 25 25 27
    have zbW := bW.size
    replace ha := ha.below bW
    replace hb := hb.below bW
    replace hq := hq.below bW
    have BB := bW
    go_enter Tryd.func14, Tryd.ntmps14
    go_wp2_with (go_at_call 21; fail)
    rw [← hW]
    clear hW
    refine (wSign (!n) b lb cb y W hb HS.out).mono ?_
    rintro e w1 ⟨rfl, bw1⟩
    have zbw1 := bw1.size
    replace ha := ha.below bw1
    replace hb := hb.below bw1
    replace hq := hq.below bw1
    replace BB := also BB bw1
    replace x_a := x_a.on bw1
    replace x_b := x_b.on bw1
    replace x_z := x_z.on bw1
    have ⟨x_a_0, x_a_1, x_a_2, x_a_3⟩ := x_a
    have ⟨x_b_0, x_b_1, x_b_2, x_b_3⟩ := x_b
    go_wp2_with (go_at_call 16; fail)
    refine (qLow true a la ca _ b lb cb _ w1 hq hb.ni hy N E HN.out HE.out).mono ?_
    rintro e w3 ⟨n3, a3, l3, c3, d3, m3, k3, rfl, h3, f3, g3, bw3⟩
    clear x_a_0 x_a_1 x_a_2 x_a_3 x_b_0 x_b_1 x_b_2 x_b_3
    have zbw3 := bw3.size
    replace ha := ha.below bw3
    replace hb := hb.below bw3
    replace hq := hq.below bw3
    replace BB := also BB bw3
    replace x_a := x_a.on bw3
    replace x_b := x_b.on bw3
    replace x_z := x_z.on bw3
    have ⟨x_z_0, x_z_1, x_z_2, x_z_3, x_z_4, x_z_5⟩ := x_z
    go_wp2
    exact bodyPost_ret (v := .tuple #[.agg #[.bool n3, .slice a3 l3 c3, .slice d3 m3 k3], .int .i64 0]) (by simp [results, Tryd.results14, go_sem, *]) rfl (endMk _ (by omega) BB h3 (f3.mono (by omega)) (g3.mono (by omega)) _ _ _)
set_option maxRecDepth 100000 in
set_option maxHeartbeats 1000000 in
theorem qDiv0 (n : Bool) (a : Option Addr) (la ca : Nat) (d : Option Addr) (ld cd : Nat) (za : Int) (Da : Nat) (m : Bool) (b : Option Addr) (lb cb : Nat) (g : Option Addr) (lg cg : Nat) (zb : Int) (Db : Nat) (K : Nat) (w : World) (ha : QI w K n a la ca d ld cd za Da) (hb : QI w K m b lb cb g lg cg zb Db) (h0 : pN zb Db = 0) :
    Calls Tryd.prog 5 #[.agg #[.bool n, .slice a la ca, .slice d ld cd], .agg #[.bool m, .slice b lb cb, .slice g lg cg]] w (GotMk w 0 1 3) := by
  have hr : (pN zb Db * (pD Da : Int)) = 0 := by rw [h0, Int.zero_mul]
  have kk := ha.kk
  have HR : Hid _ := hr
  clear hr h0
  obtain ⟨W, hW, bW, x_a, x_b, x_z, sW⟩ := bs_333 w (.bool n) (.slice a la ca) (.slice d ld cd) (.bool m) (.slice b lb cb) (.slice g lg cg) (.bool false) (.slice none 0 0) (.slice none 0 0) 27 27 27
  have zbW := bW.size
  replace ha := ha.below bW
  replace hb := hb.below bW
  have BB := bW
  go_enter Tryd.func5, Tryd.ntmps5
  go_wp2_with (go_at_call 13; fail)
  rw [← hW]
  clear hW
  refine (qAlike n a la ca d ld cd za Da m b lb cb g lg cg zb Db K W ha hb).mono ?_
  rintro e w1 ⟨n1, a1, l1, c1, n2, a2, l2, c2, rfl, h1, h2, bw1⟩
  have zbw1 := bw1.size
  replace ha := ha.below bw1
  replace hb := hb.below bw1
  replace BB := also BB bw1
  replace x_a := x_a.on bw1
  replace x_b := x_b.on bw1
  replace x_z := x_z.on bw1
  replace h1 := h1.wi (K + K) (by omega) (abs_mul' ha.pn (by simpa using hb.pd))
  replace h2 := h2.wi (K + K) (by omega) (abs_mul' hb.pn (by simpa using ha.pd))
  obtain ⟨V2, hV2, bV2, x_r, x_s, sV2⟩ := bs_22 w1 (.bool n1) (.slice a1 l1 c1) (.bool n2) (.slice a2 l2 c2) 25 25
  have zbV2 := bV2.size
  replace ha := ha.below bV2
  replace hb := hb.below bV2
  replace BB := also BB bV2
  replace x_a := x_a.on bV2
  replace x_b := x_b.on bV2
  replace x_z := x_z.on bV2
  replace h1 := h1.below bV2
  replace h2 := h2.below bV2
  have st_a_0 : ((w1.alloc (.cells #[.bool n1, .slice a1 l1 c1] 25)).alloc (.cells #[.bool n2, .slice a2 l2 c2] 25)).cell? ⟨w.heap.size, 0, none⟩ = some (.bool n) := by rw [← hV2]; exact x_a.c0
  have st_a_1 : ((w1.alloc (.cells #[.bool n1, .slice a1 l1 c1] 25)).alloc (.cells #[.bool n2, .slice a2 l2 c2] 25)).cell? ⟨w.heap.size, 1, none⟩ = some (.slice a la ca) := by rw [← hV2]; exact x_a.c1
  have st_a_2 : ((w1.alloc (.cells #[.bool n1, .slice a1 l1 c1] 25)).alloc (.cells #[.bool n2, .slice a2 l2 c2] 25)).cell? ⟨w.heap.size, 2, none⟩ = some (.slice d ld cd) := by rw [← hV2]; exact x_a.c2
  have sf_a_0 : ((w1.alloc (.cells #[.bool n1, .slice a1 l1 c1] 25)).alloc (.cells #[.bool n2, .slice a2 l2 c2] 25)).frozen? ⟨w.heap.size, 0, none⟩ = false := by rw [← hV2]; exact x_a.f0
  have sf_a_1 : ((w1.alloc (.cells #[.bool n1, .slice a1 l1 c1] 25)).alloc (.cells #[.bool n2, .slice a2 l2 c2] 25)).frozen? ⟨w.heap.size, 1, none⟩ = false := by rw [← hV2]; exact x_a.f1
  have sf_a_2 : ((w1.alloc (.cells #[.bool n1, .slice a1 l1 c1] 25)).alloc (.cells #[.bool n2, .slice a2 l2 c2] 25)).frozen? ⟨w.heap.size, 2, none⟩ = false := by rw [← hV2]; exact x_a.f2
  go_wp2_with (go_at_call 14; fail)
  rw [← hV2]
  clear hV2 st_a_0 st_a_1 st_a_2 sf_a_0 sf_a_1 sf_a_2
  refine (qMake0 n1 n2 a1 a2 l1 l2 c1 c2 _ _ V2 h1 h2 HR.out).mono ?_
  rintro e w3 ⟨n3, a3, l3, c3, d3, m3, k3, rfl, h3, f3, g3, bw3⟩
  have zbw3 := bw3.size
  replace ha := ha.below bw3
  replace hb := hb.below bw3
  replace BB := also BB bw3
  replace x_a := x_a.on bw3
  replace x_b := x_b.on bw3
  replace x_z := x_z.on bw3
  replace h1 := h1.below bw3
  replace h2 := h2.below bw3
  replace x_r := x_r.on bw3
  replace x_s := x_s.on bw3
  have ⟨x_z_0, x_z_1, x_z_2, x_z_3, x_z_4, x_z_5⟩ := x_z
  go_wp2
  exact bodyPost_ret (v := .tuple #[.agg #[.bool n3, .slice a3 l3 c3, .slice d3 m3 k3], .int .i64 3]) (by simp [results, Tryd.results5, go_sem, *]) rfl (endMk _ (by omega) BB h3 (f3.mono (by omega)) (g3.mono (by omega)) _ _ _)
set_option maxRecDepth 100000 in
set_option maxHeartbeats 1000000 in
theorem qDiv (n : Bool) (a : Option Addr) (la ca : Nat) (d : Option Addr) (ld cd : Nat) (za : Int) (Da : Nat) (m : Bool) (b : Option Addr) (lb cb : Nat) (g : Option Addr) (lg cg : Nat) (zb : Int) (Db : Nat) (K : Nat) (w : World) (ha : QI w K n a la ca d ld cd za Da) (hb : QI w K m b lb cb g lg cg zb Db) (h0 : pN zb Db ≠ 0) (N : Int) (E : Nat) (hN : N = lowN ((pN za Da * (pD Db : Int)) * (pN zb Db * (pD Da : Int)).sign) (pN zb Db * (pD Da : Int)).natAbs) (hE : E = lowD ((pN za Da * (pD Db : Int)) * (pN zb Db * (pD Da : Int)).sign) (pN zb Db * (pD Da : Int)).natAbs) :
    Calls Tryd.prog 5 #[.agg #[.bool n, .slice a la ca, .slice d ld cd], .agg #[.bool m, .slice b lb cb, .slice g lg cg]] w (GotMk w N E 0) := by
  have HN : Hid _ := hN
  have HE : Hid _ := hE
  have hr : (pN zb Db * (pD Da : Int)) ≠ 0 := Int.mul_ne_zero h0 (by have := pD_pos Da; omega)
  clear hN hE
  have kk := ha.kk
  have HR : Hid _ := hr
  clear hr h0
  obtain ⟨W, hW, bW, x_a, x_b, x_z, sW⟩ := bs_333 w (.bool n) (.slice a la ca) (.slice d ld cd) (.bool m) (.slice b lb cb) (.slice g lg cg) (.bool false) (.slice none 0 0) (.slice none 0 0) 27 27 27
  have zbW := bW.size
  replace ha := ha.below bW
  replace hb := hb.below bW
  have BB := bW
  go_enter Tryd.func5, Tryd.ntmps5
  go_wp2_with (go_at_call 13; fail)
  rw [← hW]
  clear hW
  refine (qAlike n a la ca d ld cd za Da m b lb cb g lg cg zb Db K W ha hb).mono ?_
  rintro e w1 ⟨n1, a1, l1, c1, n2, a2, l2, c2, rfl, h1, h2, bw1⟩
  have zbw1 := bw1.size
  replace ha := ha.below bw1
  replace hb := hb.below bw1
  replace BB := also BB bw1
  replace x_a := x_a.on bw1
  replace x_b := x_b.on bw1
  replace x_z := x_z.on bw1
  replace h1 := h1.wi (K + K) (by omega) (abs_mul' ha.pn (by simpa using hb.pd))
  replace h2 := h2.wi (K + K) (by omega) (abs_mul' hb.pn (by simpa using ha.pd))
  obtain ⟨V2, hV2, bV2, x_r, x_s, sV2⟩ := bs_22 w1 (.bool n1) (.slice a1 l1 c1) (.bool n2) (.slice a2 l2 c2) 25 25
  have zbV2 := bV2.size
  replace ha := ha.below bV2
  replace hb := hb.below bV2
  replace BB := also BB bV2
  replace x_a := x_a.on bV2
  replace x_b := x_b.on bV2
  replace x_z := x_z.on bV2
  replace h1 := h1.below bV2
  replace h2 := h2.below bV2
  have st_a_0 : ((w1.alloc (.cells #[.bool n1, .slice a1 l1 c1] 25)).alloc (.cells #[.bool n2, .slice a2 l2 c2] 25)).cell? ⟨w.heap.size, 0, none⟩ = some (.bool n) := by rw [← hV2]; exact x_a.c0
  have st_a_1 : ((w1.alloc (.cells #[.bool n1, .slice a1 l1 c1] 25)).alloc (.cells #[.bool n2, .slice a2 l2 c2] 25)).cell? ⟨w.heap.size, 1, none⟩ = some (.slice a la ca) := by rw [← hV2]; exact x_a.c1
  have st_a_2 : ((w1.alloc (.cells #[.bool n1, .slice a1 l1 c1] 25)).alloc (.cells #[.bool n2, .slice a2 l2 c2] 25)).cell? ⟨w.heap.size, 2, none⟩ = some (.slice d ld cd) := by rw [← hV2]; exact x_a.c2
  have sf_a_0 : ((w1.alloc (.cells #[.bool n1, .slice a1 l1 c1] 25)).alloc (.cells #[.bool n2, .slice a2 l2 c2] 25)).frozen? ⟨w.heap.size, 0, none⟩ = false := by rw [← hV2]; exact x_a.f0
  have sf_a_1 : ((w1.alloc (.cells #[.bool n1, .slice a1 l1 c1] 25)).alloc (.cells #[.bool n2, .slice a2 l2 c2] 25)).frozen? ⟨w.heap.size, 1, none⟩ = false := by rw [← hV2]; exact x_a.f1
  have sf_a_2 : ((w1.alloc (.cells #[.bool n1, .slice a1 l1 c1] 25)).alloc (.cells #[.bool n2, .slice a2 l2 c2] 25)).frozen? ⟨w.heap.size, 2, none⟩ = false := by rw [← hV2]; exact x_a.f2
  go_wp2_with (go_at_call 14; fail)
  rw [← hV2]
  clear hV2 st_a_0 st_a_1 st_a_2 sf_a_0 sf_a_1 sf_a_2
  refine (qMake n1 n2 a1 a2 l1 l2 c1 c2 _ _ V2 h1 h2 HR.out N E HN.out HE.out).mono ?_
  rintro e w3 ⟨n3, a3, l3, c3, d3, m3, k3, rfl, h3, f3, g3, bw3⟩
  have zbw3 := bw3.size
  replace ha := ha.below bw3
  replace hb := hb.below bw3
  replace BB := also BB bw3
  replace x_a := x_a.on bw3
  replace x_b := x_b.on bw3
  replace x_z := x_z.on bw3
  replace h1 := h1.below bw3
  replace h2 := h2.below bw3
  replace x_r := x_r.on bw3
  replace x_s := x_s.on bw3
  have ⟨x_z_0, x_z_1, x_z_2, x_z_3, x_z_4, x_z_5⟩ := x_z
  go_wp2
  exact bodyPost_ret (v := .tuple #[.agg #[.bool n3, .slice a3 l3 c3, .slice d3 m3 k3], .int .i64 0]) (by simp [results, Tryd.results5, go_sem, *]) rfl (endMk _ (by omega) BB h3 (f3.mono (by omega)) (g3.mono (by omega)) _ _ _)
set_option maxRecDepth 100000 in
set_option maxHeartbeats 1000000 in
theorem qRound (n : Bool) (a : Option Addr) (la ca : Nat) (d : Option Addr) (ld cd : Nat) (za : Int) (Da : Nat) (K : Nat) (w : World) (ha : QI w K n a la ca d ld cd za Da) (Q : Int) (hQ : Q = flQ (pN za Da + pN za Da + (pD Da : Int)) ((pD Da + pD Da : Nat) : Int)) :
    Calls Tryd.prog 28 #[.agg #[.bool n, .slice a la ca, .slice d ld cd]] w (GotW w Q) := by
  have HQ : Hid _ := hQ
  have kk := ha.kk
  clear hQ
  obtain ⟨W, hW, bW, x_a, x_z, sW⟩ := bs_32 w (.bool n) (.slice a la ca) (.slice d ld cd) (.bool false) (.slice none 0 0) 27 25
  have zbW := bW.size
  replace ha := ha.below bW
  have BB := bW
  go_enter Tryd.func28, Tryd.ntmps28
  go_wp2_with (go_at_call 15; fail)
  rw [← hW]
  clear hW
  refine (qParts n a la ca d ld cd za Da K W ha).mono ?_
  rintro e w1 ⟨n1, a1, l1, c1, d1, m1, k1, rfl, h1, bw1⟩
  have zbw1 := bw1.size
  replace ha := ha.below bw1
  replace BB := also BB bw1
  replace x_a := x_a.on bw1
  replace x_z := x_z.on bw1
  obtain ⟨V1, hV1, bV1, x_r, sV1⟩ := bs_2 w1 (.bool n1) (.slice a1 l1 c1) 25
  have zbV1 := bV1.size
  replace ha := ha.below bV1
  replace BB := also BB bV1
  replace x_a := x_a.on bV1
  replace x_z := x_z.on bV1
  replace h1 := h1.below bV1
  have st_a_0 : (w1.alloc (.cells #[.bool n1, .slice a1 l1 c1] 25)).cell? ⟨w.heap.size, 0, none⟩ = some (.bool n) := by rw [← hV1]; exact x_a.c0
  have st_a_1 : (w1.alloc (.cells #[.bool n1, .slice a1 l1 c1] 25)).cell? ⟨w.heap.size, 1, none⟩ = some (.slice a la ca) := by rw [← hV1]; exact x_a.c1
  have st_a_2 : (w1.alloc (.cells #[.bool n1, .slice a1 l1 c1] 25)).cell? ⟨w.heap.size, 2, none⟩ = some (.slice d ld cd) := by rw [← hV1]; exact x_a.c2
  have sf_a_0 : (w1.alloc (.cells #[.bool n1, .slice a1 l1 c1] 25)).frozen? ⟨w.heap.size, 0, none⟩ = false := by rw [← hV1]; exact x_a.f0
  have sf_a_1 : (w1.alloc (.cells #[.bool n1, .slice a1 l1 c1] 25)).frozen? ⟨w.heap.size, 1, none⟩ = false := by rw [← hV1]; exact x_a.f1
  have sf_a_2 : (w1.alloc (.cells #[.bool n1, .slice a1 l1 c1] 25)).frozen? ⟨w.heap.size, 2, none⟩ = false := by rw [← hV1]; exact x_a.f2
  go_wp2_with (go_at_call 20; fail)
  rw [← hV1]
  clear hV1 st_a_0 st_a_1 st_a_2 sf_a_0 sf_a_1 sf_a_2
  refine (wAdd n1 n1 a1 a1 l1 l1 c1 c1 _ _ V1 h1.wi h1.wi (pN za Da + pN za Da) rfl).mono ?_
  rintro e w2 ⟨n2, a2, l2, c2, rfl, h2, f2, bw2⟩
  have zbw2 := bw2.size
  replace ha := ha.below bw2
  replace BB := also BB bw2
  replace x_a := x_a.on bw2
  replace x_z := x_z.on bw2
  replace h1 := h1.below bw2
  replace x_r := x_r.on bw2
  replace h2 := h2.wi (K + 1) (by omega) (abs_add' h1.zs h1.zs)
  obtain ⟨V2, hV2, bV2, x_s, sV2⟩ := bs_2 w2 (.bool n2) (.slice a2 l2 c2) 25
  have zbV2 := bV2.size
  replace ha := ha.below bV2
  replace BB := also BB bV2
  replace x_a := x_a.on bV2
  replace x_z := x_z.on bV2
  replace h1 := h1.below bV2
  replace x_r := x_r.on bV2
  replace h2 := h2.below bV2
  have st_a_0 : (w2.alloc (.cells #[.bool n2, .slice a2 l2 c2] 25)).cell? ⟨w.heap.size, 0, none⟩ = some (.bool n) := by rw [← hV2]; exact x_a.c0
  have st_a_1 : (w2.alloc (.cells #[.bool n2, .slice a2 l2 c2] 25)).cell? ⟨w.heap.size, 1, none⟩ = some (.slice a la ca) := by rw [← hV2]; exact x_a.c1
  have st_a_2 : (w2.alloc (.cells #[.bool n2, .slice a2 l2 c2] 25)).cell? ⟨w.heap.size, 2, none⟩ = some (.slice d ld cd) := by rw [← hV2]; exact x_a.c2
  have sf_a_0 : (w2.alloc (.cells #[.bool n2, .slice a2 l2 c2] 25)).frozen? ⟨w.heap.size, 0, none⟩ = false := by rw [← hV2]; exact x_a.f0
  have sf_a_1 : (w2.alloc (.cells #[.bool n2, .slice a2 l2 c2] 25)).frozen? ⟨w.heap.size, 1, none⟩ = false := by rw [← hV2]; exact x_a.f1
  have sf_a_2 : (w2.alloc (.cells #[.bool n2, .slice a2 l2 c2] 25)).frozen? ⟨w.heap.size, 2, none⟩ = false := by rw [← hV2]; exact x_a.f2
  go_wp2_with (go_at_call 20; fail)
  rw [← hV2]
  clear hV2 st_a_0 st_a_1 st_a_2 sf_a_0 sf_a_1 sf_a_2
  refine (wAdd n2 false a2 d1 l2 m1 c2 k1 _ _ V2 h2 (wi_nat h1.ni) (pN za Da + pN za Da + (pD Da : Int)) rfl).mono ?_
  rintro e w3 ⟨n3, a3, l3, c3, rfl, h3, f3, bw3⟩
  have zbw3 := bw3.size
  replace ha := ha.below bw3
  replace BB := also BB bw3
  replace x_a := x_a.on bw3
  replace x_z := x_z.on bw3
  replace h1 := h1.below bw3
  replace x_r := x_r.on bw3
  replace h2 := h2.below bw3
  replace x_s := x_s.on bw3
  replace h3 := h3.wi (K + 1 + 1) (by omega) (abs_add' (abs_add' h1.zs h1.zs) (Nat.lt_of_lt_of_le (show ((pD Da : Nat) : Int).natAbs < 4294967296 ^ K by simpa using h1.ds) (Nat.pow_le_pow_right (by decide) (by omega))))
  go_wp2_with (go_at_call 44; fail)
  refine (fAdd d1 d1 m1 m1 k1 k1 _ _ w3 h1.ni h1.ni).mono ?_
  rintro e w4 ⟨a4, l4, c4, rfl, h4, f4, bw4⟩
  have zbw4 := bw4.size
  replace ha := ha.below bw4
  replace BB := also BB bw4
  replace x_a := x_a.on bw4
  replace x_z := x_z.on bw4
  replace h1 := h1.below bw4
  replace x_r := x_r.on bw4
  replace h2 := h2.below bw4
  replace x_s := x_s.on bw4
  replace h3 := h3.below bw4
  replace h4 := h4.ni (K + 1) (by omega) (by have := h1.ds; rw [Nat.pow_succ]; omega)
  go_wp2_with (go_at_call 43; fail)
  refine (qDown n3 a3 l3 c3 _ a4 l4 c4 _ w4 h3 h4 (by have := pD_pos Da; omega) Q HQ.out).mono ?_
  rintro e w5 ⟨n5, a5, l5, c5, rfl, h5, f5, bw5⟩
  have zbw5 := bw5.size
  replace ha := ha.below bw5
  replace BB := also BB bw5
  replace x_a := x_a.on bw5
  replace x_z := x_z.on bw5
  replace h1 := h1.below bw5
  replace x_r := x_r.on bw5
  replace h2 := h2.below bw5
  replace x_s := x_s.on bw5
  replace h3 := h3.below bw5
  replace h4 := h4.below bw5
  have ⟨x_z_0, x_z_1, x_z_2, x_z_3⟩ := x_z
  go_wp2
  exact bodyPost_ret (v := .agg #[.bool n5, .slice a5 l5 c5]) (by simp [results, Tryd.results28, go_sem, *]) rfl (endW (W := w4) _ (by omega) (by omega) BB h5 f5 _ _)
set_option maxRecDepth 100000 in
set_option maxHeartbeats 1000000 in
theorem qSign (n : Bool) (a : Option Addr) (la ca : Nat) (d : Option Addr) (ld cd : Nat) (za : Int) (Da : Nat) (K : Nat) (w : World) (ha : QI w K n a la ca d ld cd za Da) {s : Int} (hs : s = (pN za Da).sign) :
    Calls Tryd.prog 9 #[.agg #[.bool n, .slice a la ca, .slice d ld cd]] w fun e w' => e = .returned (.int .i64 s) ∧ Below w.heap.size w w' := by
  have HS : Hid _ := hs
  clear hs
  obtain ⟨W, hW, bW, x_a, sW⟩ := bs_3 w (.bool n) (.slice a la ca) (.slice d ld cd) 27
  have zbW := bW.size
  replace ha := ha.below bW
  have BB := bW
  go_enter Tryd.func9, Tryd.ntmps9
  go_wp2_with (go_at_call 15; fail)
  rw [← hW]
  clear hW
  refine (qParts n a la ca d ld cd za Da K W ha).mono ?_
  rintro e w1 ⟨n1, a1, l1, c1, d1, m1, k1, rfl, h1, bw1⟩
  have zbw1 := bw1.size
  replace ha := ha.below bw1
  replace BB := also BB bw1
  replace x_a := x_a.on bw1
  obtain ⟨V1, hV1, bV1, x_r, sV1⟩ := bs_2 w1 (.bool n1) (.slice a1 l1 c1) 25
  have zbV1 := bV1.size
  replace ha := ha.below bV1
  replace BB := also BB bV1
  replace x_a := x_a.on bV1
  replace h1 := h1.below bV1
  have st_a_0 : (w1.alloc (.cells #[.bool n1, .slice a1 l1 c1] 25)).cell? ⟨w.heap.size, 0, none⟩ = some (.bool n) := by rw [← hV1]; exact x_a.c0
  have st_a_1 : (w1.alloc (.cells #[.bool n1, .slice a1 l1 c1] 25)).cell? ⟨w.heap.size, 1, none⟩ = some (.slice a la ca) := by rw [← hV1]; exact x_a.c1
  have st_a_2 : (w1.alloc (.cells #[.bool n1, .slice a1 l1 c1] 25)).cell? ⟨w.heap.size, 2, none⟩ = some (.slice d ld cd) := by rw [← hV1]; exact x_a.c2
  have sf_a_0 : (w1.alloc (.cells #[.bool n1, .slice a1 l1 c1] 25)).frozen? ⟨w.heap.size, 0, none⟩ = false := by rw [← hV1]; exact x_a.f0
  have sf_a_1 : (w1.alloc (.cells #[.bool n1, .slice a1 l1 c1] 25)).frozen? ⟨w.heap.size, 1, none⟩ = false := by rw [← hV1]; exact x_a.f1
  have sf_a_2 : (w1.alloc (.cells #[.bool n1, .slice a1 l1 c1] 25)).frozen? ⟨w.heap.size, 2, none⟩ = false := by rw [← hV1]; exact x_a.f2
  go_wp2_with (go_at_call 21; fail)
  rw [← hV1]
  clear hV1 st_a_0 st_a_1 st_a_2 sf_a_0 sf_a_1 sf_a_2
  refine (wSign n1 a1 l1 c1 _ V1 h1.wi HS.out).mono ?_
  rintro e w3 ⟨rfl, bw3⟩
  have zbw3 := bw3.size
  replace ha := ha.below bw3
  replace BB := also BB bw3
  replace x_a := x_a.on bw3
  replace h1 := h1.below bw3
  replace x_r := x_r.on bw3
  go_wp2
  go_ret
  exact ⟨rfl, BB⟩
set_option maxRecDepth 100000 in
set_option maxHeartbeats 1000000 in
theorem qCmp (n : Bool) (a : Option Addr) (la ca : Nat) (d : Option Addr) (ld cd : Nat) (za : Int) (Da : Nat) (m : Bool) (b : Option Addr) (lb cb : Nat) (g : Option Addr) (lg cg : Nat) (zb : Int) (Db : Nat) (K : Nat) (w : World) (ha : QI w K n a la ca d ld cd za Da) (hb : QI w K m b lb cb g lg cg zb Db) {s : Int} (hs : s = ((pN za Da * (pD Db : Int)) - (pN zb Db * (pD Da : Int))).sign) :
    Calls Tryd.prog 7 #[.agg #[.bool n, .slice a la ca, .slice d ld cd], .agg #[.bool m, .slice b lb cb, .slice g lg cg]] w fun e w' => e = .returned (.int .i64 s) ∧ Below w.heap.size w w' := by
  have HS : Hid _ := hs
  have kk := ha.kk
  clear hs
  obtain ⟨W, hW, bW, x_a, x_b, sW⟩ := bs_33 w (.bool n) (.slice a la ca) (.slice d ld cd) (.bool m) (.slice b lb cb) (.slice g lg cg) 27 27
  have zbW := bW.size
  replace ha := ha.below bW
  replace hb := hb.below bW
  have BB := bW
  go_enter Tryd.func7, Tryd.ntmps7
  go_wp2_with (go_at_call 13; fail)
  rw [← hW]
  clear hW
  refine (qAlike n a la ca d ld cd za Da m b lb cb g lg cg zb Db K W ha hb).mono ?_
  rintro e w1 ⟨n1, a1, l1, c1, n2, a2, l2, c2, rfl, h1, h2, bw1⟩
  have zbw1 := bw1.size
  replace ha := ha.below bw1
  replace hb := hb.below bw1
  replace BB := also BB bw1
  replace x_a := x_a.on bw1
  replace x_b := x_b.on bw1
  replace h1 := h1.wi (K + K) (by omega) (abs_mul' ha.pn (by simpa using hb.pd))
  replace h2 := h2.wi (K + K) (by omega) (abs_mul' hb.pn (by simpa using ha.pd))
  obtain ⟨V2, hV2, bV2, x_r, x_s, sV2⟩ := bs_22 w1 (.bool n1) (.slice a1 l1 c1) (.bool n2) (.slice a2 l2 c2) 25 25
  have zbV2 := bV2.size
  replace ha := ha.below bV2
  replace hb := hb.below bV2
  replace BB := also BB bV2
  replace x_a := x_a.on bV2
  replace x_b := x_b.on bV2
  replace h1 := h1.below bV2
  replace h2 := h2.below bV2
  have st_a_0 : ((w1.alloc (.cells #[.bool n1, .slice a1 l1 c1] 25)).alloc (.cells #[.bool n2, .slice a2 l2 c2] 25)).cell? ⟨w.heap.size, 0, none⟩ = some (.bool n) := by rw [← hV2]; exact x_a.c0
  have st_a_1 : ((w1.alloc (.cells #[.bool n1, .slice a1 l1 c1] 25)).alloc (.cells #[.bool n2, .slice a2 l2 c2] 25)).cell? ⟨w.heap.size, 1, none⟩ = some (.slice a la ca) := by rw [← hV2]; exact x_a.c1
  have st_a_2 : ((w1.alloc (.cells #[.bool n1, .slice a1 l1 c1] 25)).alloc (.cells #[.bool n2, .slice a2 l2 c2] 25)).cell? ⟨w.heap.size, 2, none⟩ = some (.slice d ld cd) := by rw [← hV2]; exact x_a.c2
  have sf_a_0 : ((w1.alloc (.cells #[.bool n1, .slice a1 l1 c1] 25)).alloc (.cells #[.bool n2, .slice a2 l2 c2] 25)).frozen? ⟨w.heap.size, 0, none⟩ = false := by rw [← hV2]; exact x_a.f0
  have sf_a_1 : ((w1.alloc (.cells #[.bool n1, .slice a1 l1 c1] 25)).alloc (.cells #[.bool n2, .slice a2 l2 c2] 25)).frozen? ⟨w.heap.size, 1, none⟩ = false := by rw [← hV2]; exact x_a.f1
  have sf_a_2 : ((w1.alloc (.cells #[.bool n1, .slice a1 l1 c1] 25)).alloc (.cells #[.bool n2, .slice a2 l2 c2] 25)).frozen? ⟨w.heap.size, 2, none⟩ = false := by rw [← hV2]; exact x_a.f2
  go_wp2_with (go_at_call 19; fail)
  rw [← hV2]
  clear hV2 st_a_0 st_a_1 st_a_2 sf_a_0 sf_a_1 sf_a_2
  refine (wCmp n1 n2 a1 a2 l1 l2 c1 c2 _ _ V2 h1 h2 HS.out).mono ?_
  rintro e w3 ⟨rfl, bw3⟩
  have zbw3 := bw3.size
  replace ha := ha.below bw3
  replace hb := hb.below bw3
  replace BB := also BB bw3
  replace x_a := x_a.on bw3
  replace x_b := x_b.on bw3
  replace h1 := h1.below bw3
  replace h2 := h2.below bw3
  replace x_r := x_r.on bw3
  replace x_s := x_s.on bw3
  go_wp2
  go_ret
  exact ⟨rfl, BB⟩
end Go.Proofs.YtaekgomplkkocabDoor

namespace Go.Proofs.YtaekgomplkkocabDoor
open Go.RowKit
set_option linter.unusedVariables false

/-- Blocks ps, new since U, each with an empty fraction, no two the same, and none with anything of the slices sl. -/
def FS (U : Nat) (wr : World) (ps : List Nat) (sl : List (Option Addr × Nat)) : Prop := ps.Nodup ∧ (∀ x ∈ sl, ∃ c xs, Sl wr x.1 x.2 c xs) ∧ ∀ p ∈ ps, U ≤ p ∧ B3 wr p (.bool false) (.slice none 0 0) (.slice none 0 0) ∧ ∀ x ∈ sl, NA p x.1 x.2
theorem FS.qn {U : Nat} {wr wr' : World} {ps : List Nat} {sl : List (Option Addr × Nat)} {n : Bool} {a : Option Addr} {l c : Nat} {d : Option Addr} {m k : Nat} {z : Int} {D : Nat} (S : FS U wr ps sl) (b : Below wr.heap.size wr wr') (h : QN wr' n a l c d m k z D) (f : Far wr.heap.size a l) (g : Far wr.heap.size d m) : FS U wr' ps ((a, l) :: (d, m) :: sl) := by
  refine ⟨S.1, ?_, ?_⟩
  · intro x hx
    simp only [List.mem_cons] at hx
    rcases hx with rfl | rfl | hx
    · exact ⟨_, _, h.wn.nd.sl⟩
    · exact ⟨_, _, h.nd.sl⟩
    · obtain ⟨c, xs, q⟩ := S.2.1 x hx
      exact ⟨c, xs, q.below b⟩
  · intro p hp
    obtain ⟨h1, h2, h3⟩ := S.2.2 p hp
    have hlt := b3_lt h2
    refine ⟨h1, h2.on b, ?_⟩
    intro x hx
    simp only [List.mem_cons] at hx
    rcases hx with rfl | rfl | hx
    · exact f p hlt
    · exact g p hlt
    · exact h3 x hx
theorem FS.new {U : Nat} {wr : World} {ps : List Nat} {sl : List (Option Addr × Nat)} (t : TypeId) (S : FS U wr ps sl) (hU : U ≤ wr.heap.size) : FS U (wr.alloc (.cells #[.bool false, .slice none 0 0, .slice none 0 0] t)) (wr.heap.size :: ps) sl := by
  have b : Below wr.heap.size wr (wr.alloc (.cells #[.bool false, .slice none 0 0, .slice none 0 0] t)) := (Below.refl _ _).alloc (Nat.le_refl _) _
  refine ⟨?_, ?_, ?_⟩
  · rw [List.nodup_cons]
    exact ⟨fun hm => Nat.lt_irrefl _ (b3_lt (S.2.2 _ hm).2.1), S.1⟩
  · intro x hx
    obtain ⟨c, xs, q⟩ := S.2.1 x hx
    exact ⟨c, xs, q.below b⟩
  · intro p hp
    simp only [List.mem_cons] at hp
    rcases hp with rfl | hp
    · exact ⟨hU, b3_new wr _ _ _ t, fun x hx => by obtain ⟨c, xs, q⟩ := S.2.1 x hx; exact q.na (Nat.le_refl _)⟩
    · obtain ⟨h1, h2, h3⟩ := S.2.2 p hp
      exact ⟨h1, h2.on b, h3⟩
theorem keep9 {p q r : Nat} {v1 v2 v3 v4 v5 v6 v7 v8 v9 : Value} {w0 w w' : World} (h : w.cell? ⟨p, 0, none⟩ = some v1 ∧ w.cell? ⟨p, 1, none⟩ = some v2 ∧ w.cell? ⟨p, 2, none⟩ = some v3 ∧ w.cell? ⟨q, 0, none⟩ = some v4 ∧ w.cell? ⟨q, 1, none⟩ = some v5 ∧ w.cell? ⟨q, 2, none⟩ = some v6 ∧ w.cell? ⟨r, 0, none⟩ = some v7 ∧ w.cell? ⟨r, 1, none⟩ = some v8 ∧ w.cell? ⟨r, 2, none⟩ = some v9 ∧ Below w0.heap.size w0 w) (hb : Below w.heap.size w w') :
    w'.cell? ⟨p, 0, none⟩ = some v1 ∧ w'.cell? ⟨p, 1, none⟩ = some v2 ∧ w'.cell? ⟨p, 2, none⟩ = some v3 ∧ w'.cell? ⟨q, 0, none⟩ = some v4 ∧ w'.cell? ⟨q, 1, none⟩ = some v5 ∧ w'.cell? ⟨q, 2, none⟩ = some v6 ∧ w'.cell? ⟨r, 0, none⟩ = some v7 ∧ w'.cell? ⟨r, 1, none⟩ = some v8 ∧ w'.cell? ⟨r, 2, none⟩ = some v9 ∧ Below w0.heap.size w0 w' := by
  obtain ⟨h1, h2, h3, h4, h5, h6, h7, h8, h9, h10⟩ := h
  exact ⟨cell_on hb h1, cell_on hb h2, cell_on hb h3, cell_on hb h4, cell_on hb h5, cell_on hb h6, cell_on hb h7, cell_on hb h8, cell_on hb h9, also h10 hb⟩
theorem keep9p {p q r k : Nat} {v1 v2 v3 v4 v5 v6 v7 v8 v9 : Value} {w0 w : World} (h : w.cell? ⟨p, 0, none⟩ = some v1 ∧ w.cell? ⟨p, 1, none⟩ = some v2 ∧ w.cell? ⟨p, 2, none⟩ = some v3 ∧ w.cell? ⟨q, 0, none⟩ = some v4 ∧ w.cell? ⟨q, 1, none⟩ = some v5 ∧ w.cell? ⟨q, 2, none⟩ = some v6 ∧ w.cell? ⟨r, 0, none⟩ = some v7 ∧ w.cell? ⟨r, 1, none⟩ = some v8 ∧ w.cell? ⟨r, 2, none⟩ = some v9 ∧ Below w0.heap.size w0 w) (hp : p < k) (hq : q < k) (hr : r < k) (hw : w0.heap.size ≤ k) (u v t : Value) :
    (((w.setCell ⟨k, 0, none⟩ u).setCell ⟨k, 1, none⟩ v).setCell ⟨k, 2, none⟩ t).cell? ⟨p, 0, none⟩ = some v1 ∧ (((w.setCell ⟨k, 0, none⟩ u).setCell ⟨k, 1, none⟩ v).setCell ⟨k, 2, none⟩ t).cell? ⟨p, 1, none⟩ = some v2 ∧ (((w.setCell ⟨k, 0, none⟩ u).setCell ⟨k, 1, none⟩ v).setCell ⟨k, 2, none⟩ t).cell? ⟨p, 2, none⟩ = some v3 ∧ (((w.setCell ⟨k, 0, none⟩ u).setCell ⟨k, 1, none⟩ v).setCell ⟨k, 2, none⟩ t).cell? ⟨q, 0, none⟩ = some v4 ∧ (((w.setCell ⟨k, 0, none⟩ u).setCell ⟨k, 1, none⟩ v).setCell ⟨k, 2, none⟩ t).cell? ⟨q, 1, none⟩ = some v5 ∧ (((w.setCell ⟨k, 0, none⟩ u).setCell ⟨k, 1, none⟩ v).setCell ⟨k, 2, none⟩ t).cell? ⟨q, 2, none⟩ = some v6 ∧ (((w.setCell ⟨k, 0, none⟩ u).setCell ⟨k, 1, none⟩ v).setCell ⟨k, 2, none⟩ t).cell? ⟨r, 0, none⟩ = some v7 ∧ (((w.setCell ⟨k, 0, none⟩ u).setCell ⟨k, 1, none⟩ v).setCell ⟨k, 2, none⟩ t).cell? ⟨r, 1, none⟩ = some v8 ∧ (((w.setCell ⟨k, 0, none⟩ u).setCell ⟨k, 1, none⟩ v).setCell ⟨k, 2, none⟩ t).cell? ⟨r, 2, none⟩ = some v9 ∧ Below w0.heap.size w0 (((w.setCell ⟨k, 0, none⟩ u).setCell ⟨k, 1, none⟩ v).setCell ⟨k, 2, none⟩ t) := by
  obtain ⟨h1, h2, h3, h4, h5, h6, h7, h8, h9, h10⟩ := h
  exact ⟨cell_put3 h1 (by omega) _ _ _, cell_put3 h2 (by omega) _ _ _, cell_put3 h3 (by omega) _ _ _, cell_put3 h4 (by omega) _ _ _, cell_put3 h5 (by omega) _ _ _, cell_put3 h6 (by omega) _ _ _, cell_put3 h7 (by omega) _ _ _, cell_put3 h8 (by omega) _ _ _, cell_put3 h9 (by omega) _ _ _, below_put3 h10 hw _ _ _⟩
theorem QI.more {w : World} {K L : Nat} {n : Bool} {a : Option Addr} {l c : Nat} {d : Option Addr} {m k : Nat} {z : Int} {D : Nat} (h : QI w K n a l c d m k z D) (hL : K ≤ L) (kk : L ≤ 10000) : QI w L n a l c d m k z D :=
  ⟨h.wi, h.ni, Nat.lt_of_lt_of_le h.zs (Nat.pow_le_pow_right (by decide) hL), Nat.lt_of_lt_of_le h.ds (Nat.pow_le_pow_right (by decide) hL), Nat.le_trans h.k1 hL, kk⟩
theorem QI.put3 {w : World} {K : Nat} {n : Bool} {a : Option Addr} {l c : Nat} {d : Option Addr} {m k : Nat} {z : Int} {D b : Nat} (h : QI w K n a l c d m k z D) (n1 : NA b a l) (n2 : NA b d m) (u v t : Value) : QI (((w.setCell ⟨b, 0, none⟩ u).setCell ⟨b, 1, none⟩ v).setCell ⟨b, 2, none⟩ t) K n a l c d m k z D := ((h.put n1 n2 0 u).put n1 n2 1 v).put n1 n2 2 t
theorem B3.put3 {w : World} {b k : Nat} {x0 x1 x2 u v t : Value} (h : B3 w b x0 x1 x2) (hk : k ≠ b) : B3 (((w.setCell ⟨k, 0, none⟩ u).setCell ⟨k, 1, none⟩ v).setCell ⟨k, 2, none⟩ t) b x0 x1 x2 := ((h.put hk).put hk).put hk
/-- A quotient, or that there is none, by one name. -/
theorem qDivE (n : Bool) (a : Option Addr) (la ca : Nat) (d : Option Addr) (ld cd : Nat) (za : Int) (Da : Nat) (m : Bool) (b : Option Addr) (lb cb : Nat) (g : Option Addr) (lg cg : Nat) (zb : Int) (Db : Nat) (K : Nat) (w : World) (ha : QI w K n a la ca d ld cd za Da) (hb : QI w K m b lb cb g lg cg zb Db) (N : Int) (D : Nat) (E : Int)
    (h : (pN zb Db ≠ 0 ∧ N = lowN ((pN za Da * (pD Db : Int)) * (pN zb Db * (pD Da : Int)).sign) (pN zb Db * (pD Da : Int)).natAbs ∧ D = lowD ((pN za Da * (pD Db : Int)) * (pN zb Db * (pD Da : Int)).sign) (pN zb Db * (pD Da : Int)).natAbs ∧ E = 0) ∨ (pN zb Db = 0 ∧ N = 0 ∧ D = 1 ∧ E = 3)) :
    Calls Tryd.prog 5 #[.agg #[.bool n, .slice a la ca, .slice d ld cd], .agg #[.bool m, .slice b lb cb, .slice g lg cg]] w (GotMk w N D E) := by
  rcases h with ⟨h0, hN, hD, rfl⟩ | ⟨h0, rfl, rfl, rfl⟩
  · exact qDiv n a la ca d ld cd za Da m b lb cb g lg cg zb Db K w ha hb h0 N D hN hD
  · exact qDiv0 n a la ca d ld cd za Da m b lb cb g lg cg zb Db K w ha hb h0
end Go.Proofs.YtaekgomplkkocabDoor
