/-
  Joined texts, part 7:
  What package rat's alike, bothDens, Norm, Neg, Add, Sub and Mul answer.
  What zelligeref03's Cmp, Add and Sub answer.
  What zelligeref03's Mul answers.
  What zelligeref03 answers, with letters for the lengths.
  What zelligeref03 answers, with letters for the lengths, apart from all that was there before.
-/
import Derived.Test.YtaekgomplkkocaaGreatDoorP6
import Derived.Test.YtaekgomplkkocaaGreatDoorP5
import Derived.Test.YtaekgomplkkocaaGreatDoorP2
import Derived.Test.YtaekgomplkkocaaGreatDoorP3
import Derived.Test.YtaekgomplkkocaaGreatDoorP4
namespace Go.Proofs.YtaekgomplkkocaaGreatDoor
open Go.RowKit
set_option linter.unusedVariables false

def GotTwo (w : World) (x y : Int) (e : Ending) (w' : World) : Prop := ∃ (n : Bool) (a : Option Addr) (l c : Nat) (m : Bool) (b : Option Addr) (k g : Nat), e = .returned (.tuple #[.agg #[.bool n, .slice a l c], .agg #[.bool m, .slice b k g]]) ∧ WN w' n a l c x ∧ WN w' m b k g y ∧ Below w.heap.size w w'
theorem endTwo {w w2 : World} {n : Bool} {a : Option Addr} {l c : Nat} {m : Bool} {b : Option Addr} {k g : Nat} {x y : Int} (p : Nat) (hp : w.heap.size ≤ p) (B : Below w.heap.size w w2) (h1 : WN w2 n a l c x) (h2 : WN w2 m b k g y) (f1 : Far (p + 2) a l) (f2 : Far (p + 2) b k) (u v u' v' : Value) :
    GotTwo w x y (.returned (.tuple #[.agg #[.bool n, .slice a l c], .agg #[.bool m, .slice b k g]])) ((((w2.setCell ⟨p, 0, none⟩ u).setCell ⟨p, 1, none⟩ v).setCell ⟨p + 1, 0, none⟩ u').setCell ⟨p + 1, 1, none⟩ v') :=
  ⟨n, a, l, c, m, b, k, g, rfl, (h1.put2 (f1 _ (by omega)) _ _).put2 (f1 _ (by omega)) _ _, (h2.put2 (f2 _ (by omega)) _ _).put2 (f2 _ (by omega)) _ _, below_put2 (below_put2 B hp _ _) (by omega) _ _⟩
theorem abs_add' {X Y : Int} {K : Nat} (h1 : X.natAbs < 4294967296 ^ K) (h2 : Y.natAbs < 4294967296 ^ K) : (X + Y).natAbs < 4294967296 ^ (K + 1) := by
  have := Int.natAbs_add_le X Y
  rw [Nat.pow_succ]
  omega
theorem abs_mul' {X Y : Int} {K L : Nat} (h1 : X.natAbs < 4294967296 ^ K) (h2 : Y.natAbs < 4294967296 ^ L) : (X * Y).natAbs < 4294967296 ^ (K + L) := by
  rw [Int.natAbs_mul, Nat.pow_add]
  exact Nat.mul_lt_mul_of_lt_of_le h1 (Nat.le_of_lt h2) (Nat.pow_pos (by decide))
theorem nat_mul' {X Y : Nat} {K L : Nat} (h1 : X < 4294967296 ^ K) (h2 : Y < 4294967296 ^ L) : X * Y < 4294967296 ^ (K + L) := by
  rw [Nat.pow_add]
  exact Nat.mul_lt_mul_of_lt_of_le h1 (Nat.le_of_lt h2) (Nat.pow_pos (by decide))
theorem QI.pn {w : World} {K : Nat} {n : Bool} {a : Option Addr} {l c : Nat} {d : Option Addr} {m k : Nat} {z : Int} {D : Nat} (h : QI w K n a l c d m k z D) : (pN z D).natAbs < 4294967296 ^ K := by
  unfold pN
  split
  · exact Nat.pow_pos (by decide)
  · exact h.zs
theorem QI.pd {w : World} {K : Nat} {n : Bool} {a : Option Addr} {l c : Nat} {d : Option Addr} {m k : Nat} {z : Int} {D : Nat} (h : QI w K n a l c d m k z D) : pD D < 4294967296 ^ K := by
  unfold pD
  split
  · exact Nat.lt_of_lt_of_le (show 1 < 4294967296 ^ 1 by decide) (Nat.pow_le_pow_right (by decide) h.k1)
  · exact h.ds
theorem abs_sub' {X Y : Int} {K : Nat} (h1 : X.natAbs < 4294967296 ^ K) (h2 : Y.natAbs < 4294967296 ^ K) : (X - Y).natAbs < 4294967296 ^ (K + 1) := by
  have := Int.natAbs_sub_le X Y
  rw [Nat.pow_succ]
  omega
set_option maxRecDepth 100000 in
set_option maxHeartbeats 1000000 in
theorem qAlike (n : Bool) (a : Option Addr) (la ca : Nat) (d : Option Addr) (ld cd : Nat) (za : Int) (Da : Nat) (m : Bool) (b : Option Addr) (lb cb : Nat) (g : Option Addr) (lg cg : Nat) (zb : Int) (Db : Nat) (K : Nat) (w : World) (ha : QI w K n a la ca d ld cd za Da) (hb : QI w K m b lb cb g lg cg zb Db) :
    Calls Tryz.prog 37 #[.agg #[.bool n, .slice a la ca, .slice d ld cd], .agg #[.bool m, .slice b lb cb, .slice g lg cg]] w (GotTwo w (pN za Da * (pD Db : Int)) (pN zb Db * (pD Da : Int))) := by
  obtain ⟨W, hW, bW, x_a, x_b, x_p, x_q, sW⟩ := bs_3322 w (.bool n) (.slice a la ca) (.slice d ld cd) (.bool m) (.slice b lb cb) (.slice g lg cg) (.bool false) (.slice none 0 0) (.bool false) (.slice none 0 0) 27 27 25 25
  have zbW := bW.size
  replace ha := ha.below bW
  replace hb := hb.below bW
  have BB := bW
  go_enter Tryz.func37, Tryz.ntmps37
  go_wp2_with (go_at_call 44; fail)
  rw [← hW]
  clear hW
  refine (qParts n a la ca d ld cd za Da K W ha).mono ?_
  rintro e w1 ⟨n1, a1, l1, c1, d1, m1, k1, rfl, h1, bw1⟩
  have zbw1 := bw1.size
  replace ha := ha.below bw1
  replace hb := hb.below bw1
  replace BB := also BB bw1
  replace x_a := x_a.on bw1
  replace x_b := x_b.on bw1
  replace x_p := x_p.on bw1
  replace x_q := x_q.on bw1
  obtain ⟨V1, hV1, bV1, x_r, sV1⟩ := bs_2 w1 (.bool n1) (.slice a1 l1 c1) 25
  have zbV1 := bV1.size
  replace ha := ha.below bV1
  replace hb := hb.below bV1
  replace BB := also BB bV1
  replace x_a := x_a.on bV1
  replace x_b := x_b.on bV1
  replace x_p := x_p.on bV1
  replace x_q := x_q.on bV1
  replace h1 := h1.below bV1
  have st_b_0 : (w1.alloc (.cells #[.bool n1, .slice a1 l1 c1] 25)).cell? ⟨w.heap.size + 1, 0, none⟩ = some (.bool m) := by rw [← hV1]; exact x_b.c0
  have st_b_1 : (w1.alloc (.cells #[.bool n1, .slice a1 l1 c1] 25)).cell? ⟨w.heap.size + 1, 1, none⟩ = some (.slice b lb cb) := by rw [← hV1]; exact x_b.c1
  have st_b_2 : (w1.alloc (.cells #[.bool n1, .slice a1 l1 c1] 25)).cell? ⟨w.heap.size + 1, 2, none⟩ = some (.slice g lg cg) := by rw [← hV1]; exact x_b.c2
  have sf_b_0 : (w1.alloc (.cells #[.bool n1, .slice a1 l1 c1] 25)).frozen? ⟨w.heap.size + 1, 0, none⟩ = false := by rw [← hV1]; exact x_b.f0
  have sf_b_1 : (w1.alloc (.cells #[.bool n1, .slice a1 l1 c1] 25)).frozen? ⟨w.heap.size + 1, 1, none⟩ = false := by rw [← hV1]; exact x_b.f1
  have sf_b_2 : (w1.alloc (.cells #[.bool n1, .slice a1 l1 c1] 25)).frozen? ⟨w.heap.size + 1, 2, none⟩ = false := by rw [← hV1]; exact x_b.f2
  go_wp2_with (go_at_call 44; fail)
  rw [← hV1]
  clear hV1 st_b_0 st_b_1 st_b_2 sf_b_0 sf_b_1 sf_b_2
  refine (qParts m b lb cb g lg cg zb Db K V1 hb).mono ?_
  rintro e w2 ⟨n2, a2, l2, c2, d2, m2, k2, rfl, h2, bw2⟩
  have zbw2 := bw2.size
  replace ha := ha.below bw2
  replace hb := hb.below bw2
  replace BB := also BB bw2
  replace x_a := x_a.on bw2
  replace x_b := x_b.on bw2
  replace x_p := x_p.on bw2
  replace x_q := x_q.on bw2
  replace h1 := h1.below bw2
  replace x_r := x_r.on bw2
  obtain ⟨V2, hV2, bV2, x_s, sV2⟩ := bs_2 w2 (.bool n2) (.slice a2 l2 c2) 25
  have zbV2 := bV2.size
  replace ha := ha.below bV2
  replace hb := hb.below bV2
  replace BB := also BB bV2
  replace x_a := x_a.on bV2
  replace x_b := x_b.on bV2
  replace x_p := x_p.on bV2
  replace x_q := x_q.on bV2
  replace h1 := h1.below bV2
  replace x_r := x_r.on bV2
  replace h2 := h2.below bV2
  have st_r_0 : (w2.alloc (.cells #[.bool n2, .slice a2 l2 c2] 25)).cell? ⟨w1.heap.size, 0, none⟩ = some (.bool n1) := by rw [← hV2]; exact x_r.c0
  have st_r_1 : (w2.alloc (.cells #[.bool n2, .slice a2 l2 c2] 25)).cell? ⟨w1.heap.size, 1, none⟩ = some (.slice a1 l1 c1) := by rw [← hV2]; exact x_r.c1
  have sf_r_0 : (w2.alloc (.cells #[.bool n2, .slice a2 l2 c2] 25)).frozen? ⟨w1.heap.size, 0, none⟩ = false := by rw [← hV2]; exact x_r.f0
  have sf_r_1 : (w2.alloc (.cells #[.bool n2, .slice a2 l2 c2] 25)).frozen? ⟨w1.heap.size, 1, none⟩ = false := by rw [← hV2]; exact x_r.f1
  go_wp2
  rw [← hV2]
  clear hV2 st_r_0 st_r_1 sf_r_0 sf_r_1
  have dd1 : Below V2.heap.size V2 V2.drew := (Below.refl _ _).drew
  have zdd1 := dd1.size
  replace ha := ha.below dd1
  replace hb := hb.below dd1
  replace BB := also BB dd1
  replace x_a := x_a.on dd1
  replace x_b := x_b.on dd1
  replace x_p := x_p.on dd1
  replace x_q := x_q.on dd1
  replace h1 := h1.below dd1
  replace x_r := x_r.on dd1
  replace h2 := h2.below dd1
  replace x_s := x_s.on dd1
  refine wp_region_held_drew (S := (fun w' => w'.cell? ⟨w1.heap.size, 0, none⟩ = some (.bool n1) ∧ w'.cell? ⟨w1.heap.size, 1, none⟩ = some (.slice a1 l1 c1) ∧ w'.cell? ⟨w2.heap.size, 0, none⟩ = some (.bool n2) ∧ w'.cell? ⟨w2.heap.size, 1, none⟩ = some (.slice a2 l2 c2) ∧ Below w.heap.size w w')) (by kernel_rfl) ?_ (fun hHeld => ?_)
  · first | exact ⟨x_r.c0, x_r.c1, x_s.c0, x_s.c1, BB⟩ | exact ⟨cell_on bw6 hHeld.1, cell_on bw6 hHeld.2.1, cell_on bw6 hHeld.2.2.1, cell_on bw6 hHeld.2.2.2.1, also hHeld.2.2.2.2 bw6⟩ | exact ⟨cell_on bw5 hHeld.1, cell_on bw5 hHeld.2.1, cell_on bw5 hHeld.2.2.1, cell_on bw5 hHeld.2.2.2.1, also hHeld.2.2.2.2 bw5⟩ | exact ⟨cell_put2 hHeld.1 (by omega) _ _, cell_put2 hHeld.2.1 (by omega) _ _, cell_put2 hHeld.2.2.1 (by omega) _ _, cell_put2 hHeld.2.2.2.1 (by omega) _ _, below_put2 hHeld.2.2.2.2 (by omega) _ _⟩
  refine take_yes (i := 0) (v := ?vr0) rfl (by kernel_rfl) (by kernel_rfl) (by kernel_rfl) (fun _ _ _ h => h) (by rfl) (by assumption) ?hyr0 ?restr0
  case hyr0 => (intro w hSw; (try dsimp only at hSw); first | (go_simp; done) | (go_simp; with_reducible rfl))
  simp only [Act.put, List.setIfInBounds_toArray, List.set_cons_zero, List.set_cons_succ]
  refine take_yes (i := 1) (v := ?vr1) rfl (by kernel_rfl) (by kernel_rfl) (by kernel_rfl) (fun _ _ _ h => h) (by rfl) (by assumption) ?hyr1 ?restr1
  case hyr1 => (intro w hSw; (try dsimp only at hSw); first | (go_simp; done) | (go_simp; with_reducible rfl))
  simp only [Act.put, List.setIfInBounds_toArray, List.set_cons_zero, List.set_cons_succ]
  refine take_yes (i := 2) (v := ?vr2) rfl (by kernel_rfl) (by kernel_rfl) (by kernel_rfl) (fun _ _ _ h => h) (by rfl) (by assumption) ?hyr2 ?restr2
  case hyr2 => (intro w hSw; (try dsimp only at hSw); first | (go_simp; done) | (go_simp; with_reducible rfl))
  simp only [Act.put, List.setIfInBounds_toArray, List.set_cons_zero, List.set_cons_succ]
  refine take_yes (i := 4) (v := ?vr4) rfl (by kernel_rfl) (by kernel_rfl) (by kernel_rfl) (fun _ _ _ h => h) (by rfl) (by assumption) ?hyr4 ?restr4
  case hyr4 => (intro w hSw; (try dsimp only at hSw); first | (go_simp; done) | (go_simp; with_reducible rfl))
  simp only [Act.put, List.setIfInBounds_toArray, List.set_cons_zero, List.set_cons_succ]
  refine take_yes (i := 5) (v := ?vr5) rfl (by kernel_rfl) (by kernel_rfl) (by kernel_rfl) (fun _ _ _ h => h) (by rfl) (by assumption) ?hyr5 ?restr5
  case hyr5 => (intro w hSw; (try dsimp only at hSw); first | (go_simp; done) | (go_simp; with_reducible rfl))
  simp only [Act.put, List.setIfInBounds_toArray, List.set_cons_zero, List.set_cons_succ]
  refine take_yes (i := 6) (v := ?vr6) rfl (by kernel_rfl) (by kernel_rfl) (by kernel_rfl) (fun _ _ _ h => h) (by rfl) (by assumption) ?hyr6 ?restr6
  case hyr6 => (intro w hSw; (try dsimp only at hSw); first | (go_simp; done) | (go_simp; with_reducible rfl))
  simp only [Act.put, List.setIfInBounds_toArray, List.set_cons_zero, List.set_cons_succ]
  refine take_call (i := 3) rfl (by kernel_rfl) (fun Kc hK => ?_)
  go_simp
  (go_at_call 48; refine (wMul n1 false a1 d2 l1 m2 c1 k2 _ _ _ h1.wi (wi_nat h2.ni) (pN za Da * (pD Db : Int)) rfl).mono ?_; rintro e w5 ⟨n5, a5, l5, c5, rfl, h5, f5, bw5⟩)
  refine hK.out _ _ ?_ (fun hHeld => ?_)
  · first | exact ⟨x_r.c0, x_r.c1, x_s.c0, x_s.c1, BB⟩ | exact ⟨cell_on bw6 hHeld.1, cell_on bw6 hHeld.2.1, cell_on bw6 hHeld.2.2.1, cell_on bw6 hHeld.2.2.2.1, also hHeld.2.2.2.2 bw6⟩ | exact ⟨cell_on bw5 hHeld.1, cell_on bw5 hHeld.2.1, cell_on bw5 hHeld.2.2.1, cell_on bw5 hHeld.2.2.2.1, also hHeld.2.2.2.2 bw5⟩ | exact ⟨cell_put2 hHeld.1 (by omega) _ _, cell_put2 hHeld.2.1 (by omega) _ _, cell_put2 hHeld.2.2.1 (by omega) _ _, cell_put2 hHeld.2.2.2.1 (by omega) _ _, below_put2 hHeld.2.2.2.2 (by omega) _ _⟩
  clear hK Kc
  have zbw5 := bw5.size
  replace ha := ha.below bw5
  replace hb := hb.below bw5
  replace BB := also BB bw5
  replace x_a := x_a.on bw5
  replace x_b := x_b.on bw5
  replace x_p := x_p.on bw5
  replace x_q := x_q.on bw5
  replace h1 := h1.below bw5
  replace x_r := x_r.on bw5
  replace h2 := h2.below bw5
  replace x_s := x_s.on bw5
  refine take_call (i := 7) rfl (by kernel_rfl) (fun Kc hK => ?_)
  go_simp
  (go_at_call 48; refine (wMul n2 false a2 d1 l2 m1 c2 k1 _ _ _ h2.wi (wi_nat h1.ni) (pN zb Db * (pD Da : Int)) rfl).mono ?_; rintro e w6 ⟨n6, a6, l6, c6, rfl, h6, f6, bw6⟩)
  refine hK.out _ _ ?_ (fun hHeld => ?_)
  · first | exact ⟨x_r.c0, x_r.c1, x_s.c0, x_s.c1, BB⟩ | exact ⟨cell_on bw6 hHeld.1, cell_on bw6 hHeld.2.1, cell_on bw6 hHeld.2.2.1, cell_on bw6 hHeld.2.2.2.1, also hHeld.2.2.2.2 bw6⟩ | exact ⟨cell_on bw5 hHeld.1, cell_on bw5 hHeld.2.1, cell_on bw5 hHeld.2.2.1, cell_on bw5 hHeld.2.2.2.1, also hHeld.2.2.2.2 bw5⟩ | exact ⟨cell_put2 hHeld.1 (by omega) _ _, cell_put2 hHeld.2.1 (by omega) _ _, cell_put2 hHeld.2.2.1 (by omega) _ _, cell_put2 hHeld.2.2.2.1 (by omega) _ _, below_put2 hHeld.2.2.2.2 (by omega) _ _⟩
  clear hK Kc
  have zbw6 := bw6.size
  replace ha := ha.below bw6
  replace hb := hb.below bw6
  replace BB := also BB bw6
  replace x_a := x_a.on bw6
  replace x_b := x_b.on bw6
  replace x_p := x_p.on bw6
  replace x_q := x_q.on bw6
  replace h1 := h1.below bw6
  replace x_r := x_r.on bw6
  replace h2 := h2.below bw6
  replace x_s := x_s.on bw6
  replace h5 := h5.below bw6
  have ⟨x_p_0, x_p_1, x_p_2, x_p_3⟩ := x_p
  have ⟨x_q_0, x_q_1, x_q_2, x_q_3⟩ := x_q
  refine take_call (i := 8) rfl (by kernel_rfl) (fun Kc hK => ?_)
  go_simp
  refine hK.out _ _ ?_ (fun hHeld => ?_)
  · first | exact ⟨x_r.c0, x_r.c1, x_s.c0, x_s.c1, BB⟩ | exact ⟨cell_on bw6 hHeld.1, cell_on bw6 hHeld.2.1, cell_on bw6 hHeld.2.2.1, cell_on bw6 hHeld.2.2.2.1, also hHeld.2.2.2.2 bw6⟩ | exact ⟨cell_on bw5 hHeld.1, cell_on bw5 hHeld.2.1, cell_on bw5 hHeld.2.2.1, cell_on bw5 hHeld.2.2.2.1, also hHeld.2.2.2.2 bw5⟩ | exact ⟨cell_put2 hHeld.1 (by omega) _ _, cell_put2 hHeld.2.1 (by omega) _ _, cell_put2 hHeld.2.2.1 (by omega) _ _, cell_put2 hHeld.2.2.2.1 (by omega) _ _, below_put2 hHeld.2.2.2.2 (by omega) _ _⟩
  clear hK Kc
  refine take_call (i := 9) rfl (by kernel_rfl) (fun Kc hK => ?_)
  go_simp
  refine hK.out _ _ ?_ (fun hHeld => ?_)
  · first | exact ⟨x_r.c0, x_r.c1, x_s.c0, x_s.c1, BB⟩ | exact ⟨cell_on bw6 hHeld.1, cell_on bw6 hHeld.2.1, cell_on bw6 hHeld.2.2.1, cell_on bw6 hHeld.2.2.2.1, also hHeld.2.2.2.2 bw6⟩ | exact ⟨cell_on bw5 hHeld.1, cell_on bw5 hHeld.2.1, cell_on bw5 hHeld.2.2.1, cell_on bw5 hHeld.2.2.2.1, also hHeld.2.2.2.2 bw5⟩ | exact ⟨cell_put2 hHeld.1 (by omega) _ _, cell_put2 hHeld.2.1 (by omega) _ _, cell_put2 hHeld.2.2.1 (by omega) _ _, cell_put2 hHeld.2.2.2.1 (by omega) _ _, below_put2 hHeld.2.2.2.2 (by omega) _ _⟩
  clear hK Kc
  refine wpAnyH_done (by kernel_rfl) ?_ _
  go_wp2
  exact bodyPost_ret (v := .tuple #[.agg #[.bool n5, .slice a5 l5 c5], .agg #[.bool n6, .slice a6 l6 c6]]) (by simp [results, Tryz.results37, go_sem, *]) rfl (endTwo _ (by omega) BB h5 h6 (f5.mono (by omega)) (f6.mono (by omega)) _ _ _ _)
set_option maxRecDepth 100000 in
set_option maxHeartbeats 1000000 in
theorem qBoth (n : Bool) (a : Option Addr) (la ca : Nat) (d : Option Addr) (ld cd : Nat) (za : Int) (Da : Nat) (m : Bool) (b : Option Addr) (lb cb : Nat) (g : Option Addr) (lg cg : Nat) (zb : Int) (Db : Nat) (K : Nat) (w : World) (ha : QI w K n a la ca d ld cd za Da) (hb : QI w K m b lb cb g lg cg zb Db) :
    Calls Tryz.prog 40 #[.agg #[.bool n, .slice a la ca, .slice d ld cd], .agg #[.bool m, .slice b lb cb, .slice g lg cg]] w (GotN w (pD Da * pD Db)) := by
  obtain ⟨W, hW, bW, x_a, x_b, sW⟩ := bs_33 w (.bool n) (.slice a la ca) (.slice d ld cd) (.bool m) (.slice b lb cb) (.slice g lg cg) 27 27
  have zbW := bW.size
  replace ha := ha.below bW
  replace hb := hb.below bW
  have BB := bW
  go_enter Tryz.func40, Tryz.ntmps40
  go_wp2_with (go_at_call 44; fail)
  rw [← hW]
  clear hW
  refine (qParts n a la ca d ld cd za Da K W ha).mono ?_
  rintro e w1 ⟨n1, a1, l1, c1, d1, m1, k1, rfl, h1, bw1⟩
  have zbw1 := bw1.size
  replace ha := ha.below bw1
  replace hb := hb.below bw1
  replace BB := also BB bw1
  replace x_a := x_a.on bw1
  replace x_b := x_b.on bw1
  obtain ⟨V1, hV1, bV1, x_r, sV1⟩ := bs_2 w1 (.bool n1) (.slice a1 l1 c1) 25
  have zbV1 := bV1.size
  replace ha := ha.below bV1
  replace hb := hb.below bV1
  replace BB := also BB bV1
  replace x_a := x_a.on bV1
  replace x_b := x_b.on bV1
  replace h1 := h1.below bV1
  have st_b_0 : (w1.alloc (.cells #[.bool n1, .slice a1 l1 c1] 25)).cell? ⟨w.heap.size + 1, 0, none⟩ = some (.bool m) := by rw [← hV1]; exact x_b.c0
  have st_b_1 : (w1.alloc (.cells #[.bool n1, .slice a1 l1 c1] 25)).cell? ⟨w.heap.size + 1, 1, none⟩ = some (.slice b lb cb) := by rw [← hV1]; exact x_b.c1
  have st_b_2 : (w1.alloc (.cells #[.bool n1, .slice a1 l1 c1] 25)).cell? ⟨w.heap.size + 1, 2, none⟩ = some (.slice g lg cg) := by rw [← hV1]; exact x_b.c2
  have sf_b_0 : (w1.alloc (.cells #[.bool n1, .slice a1 l1 c1] 25)).frozen? ⟨w.heap.size + 1, 0, none⟩ = false := by rw [← hV1]; exact x_b.f0
  have sf_b_1 : (w1.alloc (.cells #[.bool n1, .slice a1 l1 c1] 25)).frozen? ⟨w.heap.size + 1, 1, none⟩ = false := by rw [← hV1]; exact x_b.f1
  have sf_b_2 : (w1.alloc (.cells #[.bool n1, .slice a1 l1 c1] 25)).frozen? ⟨w.heap.size + 1, 2, none⟩ = false := by rw [← hV1]; exact x_b.f2
  go_wp2_with (go_at_call 44; fail)
  rw [← hV1]
  clear hV1 st_b_0 st_b_1 st_b_2 sf_b_0 sf_b_1 sf_b_2
  refine (qParts m b lb cb g lg cg zb Db K V1 hb).mono ?_
  rintro e w2 ⟨n2, a2, l2, c2, d2, m2, k2, rfl, h2, bw2⟩
  have zbw2 := bw2.size
  replace ha := ha.below bw2
  replace hb := hb.below bw2
  replace BB := also BB bw2
  replace x_a := x_a.on bw2
  replace x_b := x_b.on bw2
  replace h1 := h1.below bw2
  replace x_r := x_r.on bw2
  obtain ⟨V2, hV2, bV2, x_s, sV2⟩ := bs_2 w2 (.bool n2) (.slice a2 l2 c2) 25
  have zbV2 := bV2.size
  replace ha := ha.below bV2
  replace hb := hb.below bV2
  replace BB := also BB bV2
  replace x_a := x_a.on bV2
  replace x_b := x_b.on bV2
  replace h1 := h1.below bV2
  replace x_r := x_r.on bV2
  replace h2 := h2.below bV2
  have st_r_0 : (w2.alloc (.cells #[.bool n2, .slice a2 l2 c2] 25)).cell? ⟨w1.heap.size, 0, none⟩ = some (.bool n1) := by rw [← hV2]; exact x_r.c0
  have st_r_1 : (w2.alloc (.cells #[.bool n2, .slice a2 l2 c2] 25)).cell? ⟨w1.heap.size, 1, none⟩ = some (.slice a1 l1 c1) := by rw [← hV2]; exact x_r.c1
  have sf_r_0 : (w2.alloc (.cells #[.bool n2, .slice a2 l2 c2] 25)).frozen? ⟨w1.heap.size, 0, none⟩ = false := by rw [← hV2]; exact x_r.f0
  have sf_r_1 : (w2.alloc (.cells #[.bool n2, .slice a2 l2 c2] 25)).frozen? ⟨w1.heap.size, 1, none⟩ = false := by rw [← hV2]; exact x_r.f1
  go_wp2_with (go_at_call 71; fail)
  rw [← hV2]
  clear hV2 st_r_0 st_r_1 sf_r_0 sf_r_1
  refine (nMul d1 d2 m1 m2 k1 k2 _ _ V2 h1.ni h2.ni).mono ?_
  rintro e w5 ⟨a5, l5, c5, rfl, h5, bw5⟩
  have zbw5 := bw5.size
  replace ha := ha.below bw5
  replace hb := hb.below bw5
  replace BB := also BB bw5
  replace x_a := x_a.on bw5
  replace x_b := x_b.on bw5
  replace h1 := h1.below bw5
  replace x_r := x_r.on bw5
  replace h2 := h2.below bw5
  replace x_s := x_s.on bw5
  go_wp2
  go_ret
  exact ⟨a5, l5, c5, rfl, h5, BB⟩
set_option maxRecDepth 100000 in
set_option maxHeartbeats 1000000 in
theorem qNorm (n : Bool) (a : Option Addr) (la ca : Nat) (d : Option Addr) (ld cd : Nat) (za : Int) (Da : Nat) (K : Nat) (w : World) (ha : QI w K n a la ca d ld cd za Da) (N : Int) (E : Nat) (hN : N = lowN (pN za Da) (pD Da)) (hE : E = lowD (pN za Da) (pD Da)) :
    Calls Tryz.prog 16 #[.agg #[.bool n, .slice a la ca, .slice d ld cd]] w (GotQ w N E) := by
  have HN : Hid _ := hN
  have HE : Hid _ := hE
  clear hN hE
  obtain ⟨W, hW, bW, x_a, x_z, sW⟩ := bs_33 w (.bool n) (.slice a la ca) (.slice d ld cd) (.bool false) (.slice none 0 0) (.slice none 0 0) 27 27
  have zbW := bW.size
  replace ha := ha.below bW
  have BB := bW
  go_enter Tryz.func16, Tryz.ntmps16
  go_wp2_with (go_at_call 44; fail)
  rw [← hW]
  clear hW
  refine (qParts n a la ca d ld cd za Da K W ha).mono ?_
  rintro e w1 ⟨n1, a1, l1, c1, d1, m1, k1, rfl, h1, bw1⟩
  have zbw1 := bw1.size
  replace ha := ha.below bw1
  replace BB := also BB bw1
  replace x_a := x_a.on bw1
  replace x_z := x_z.on bw1
  go_wp2_with (go_at_call 38; fail)
  refine (qLow n1 a1 l1 c1 _ d1 m1 k1 _ w1 h1.wi h1.ni (pD_pos _) N E HN.out HE.out).mono ?_
  rintro e w3 ⟨n3, a3, l3, c3, d3, m3, k3, rfl, h3, f3, g3, bw3⟩
  have zbw3 := bw3.size
  replace ha := ha.below bw3
  replace BB := also BB bw3
  replace x_a := x_a.on bw3
  replace x_z := x_z.on bw3
  replace h1 := h1.below bw3
  have ⟨x_z_0, x_z_1, x_z_2, x_z_3, x_z_4, x_z_5⟩ := x_z
  go_wp2
  exact bodyPost_ret (v := .agg #[.bool n3, .slice a3 l3 c3, .slice d3 m3 k3]) (by simp [results, Tryz.results16, go_sem, *]) rfl (endQ _ (by omega) BB h3 (f3.mono (by omega)) (g3.mono (by omega)) _ _ _)
set_option maxRecDepth 100000 in
set_option maxHeartbeats 1000000 in
theorem qNeg (n : Bool) (a : Option Addr) (la ca : Nat) (d : Option Addr) (ld cd : Nat) (za : Int) (Da : Nat) (K : Nat) (w : World) (ha : QI w K n a la ca d ld cd za Da) (N : Int) (E : Nat) (hN : N = lowN (-(pN za Da)) (pD Da)) (hE : E = lowD (-(pN za Da)) (pD Da)) :
    Calls Tryz.prog 14 #[.agg #[.bool n, .slice a la ca, .slice d ld cd]] w (GotQ w N E) := by
  have HN : Hid _ := hN
  have HE : Hid _ := hE
  clear hN hE
  obtain ⟨W, hW, bW, x_a, x_z, sW⟩ := bs_33 w (.bool n) (.slice a la ca) (.slice d ld cd) (.bool false) (.slice none 0 0) (.slice none 0 0) 27 27
  have zbW := bW.size
  replace ha := ha.below bW
  have BB := bW
  go_enter Tryz.func14, Tryz.ntmps14
  go_wp2_with (go_at_call 44; fail)
  rw [← hW]
  clear hW
  refine (qParts n a la ca d ld cd za Da K W ha).mono ?_
  rintro e w1 ⟨n1, a1, l1, c1, d1, m1, k1, rfl, h1, bw1⟩
  have zbw1 := bw1.size
  replace ha := ha.below bw1
  replace BB := also BB bw1
  replace x_a := x_a.on bw1
  replace x_z := x_z.on bw1
  obtain ⟨V1, hV1, bV1, x_r, sV1⟩ := bs_2 w1 (.bool n1) (.slice a1 l1 c1) 25
  have zbV1 := bV1.size
  replace ha := ha.below bV1
  replace BB := also BB bV1
  replace x_a := x_a.on bV1
  replace x_z := x_z.on bV1
  replace h1 := h1.below bV1
  have st_a_0 : (w1.alloc (.cells #[.bool n1, .slice a1 l1 c1] 25)).cell? ⟨w.heap.size, 0, none⟩ = some (.bool n) := by rw [← hV1]; exact x_a.c0
  have st_a_1 : (w1.alloc (.cells #[.bool n1, .slice a1 l1 c1] 25)).cell? ⟨w.heap.size, 1, none⟩ = some (.slice a la ca) := by rw [← hV1]; exact x_a.c1
  have st_a_2 : (w1.alloc (.cells #[.bool n1, .slice a1 l1 c1] 25)).cell? ⟨w.heap.size, 2, none⟩ = some (.slice d ld cd) := by rw [← hV1]; exact x_a.c2
  have sf_a_0 : (w1.alloc (.cells #[.bool n1, .slice a1 l1 c1] 25)).frozen? ⟨w.heap.size, 0, none⟩ = false := by rw [← hV1]; exact x_a.f0
  have sf_a_1 : (w1.alloc (.cells #[.bool n1, .slice a1 l1 c1] 25)).frozen? ⟨w.heap.size, 1, none⟩ = false := by rw [← hV1]; exact x_a.f1
  have sf_a_2 : (w1.alloc (.cells #[.bool n1, .slice a1 l1 c1] 25)).frozen? ⟨w.heap.size, 2, none⟩ = false := by rw [← hV1]; exact x_a.f2
  go_wp2_with (go_at_call 45; fail)
  rw [← hV1]
  clear hV1 st_a_0 st_a_1 st_a_2 sf_a_0 sf_a_1 sf_a_2
  refine (wNeg n1 a1 l1 c1 _ V1 h1.wi (-(pN za Da)) rfl).mono ?_
  rintro e w2 ⟨n2, a2, l2, c2, rfl, h2, f2, bw2⟩
  have zbw2 := bw2.size
  replace ha := ha.below bw2
  replace BB := also BB bw2
  replace x_a := x_a.on bw2
  replace x_z := x_z.on bw2
  replace h1 := h1.below bw2
  replace x_r := x_r.on bw2
  replace h2 := h2.wi K (by have := h1.kk; omega) (by rw [Int.natAbs_neg]; exact h1.zs)
  have ⟨x_r_0, x_r_1, x_r_2, x_r_3⟩ := x_r
  go_wp2_with (go_at_call 38; fail)
  refine (qLow n2 a2 l2 c2 _ d1 m1 k1 _ w2 h2 h1.ni (pD_pos _) N E HN.out HE.out).mono ?_
  rintro e w3 ⟨n3, a3, l3, c3, d3, m3, k3, rfl, h3, f3, g3, bw3⟩
  clear x_r_0 x_r_1 x_r_2 x_r_3
  have zbw3 := bw3.size
  replace ha := ha.below bw3
  replace BB := also BB bw3
  replace x_a := x_a.on bw3
  replace x_z := x_z.on bw3
  replace h1 := h1.below bw3
  replace x_r := x_r.on bw3
  replace h2 := h2.below bw3
  have ⟨x_z_0, x_z_1, x_z_2, x_z_3, x_z_4, x_z_5⟩ := x_z
  go_wp2
  exact bodyPost_ret (v := .agg #[.bool n3, .slice a3 l3 c3, .slice d3 m3 k3]) (by simp [results, Tryz.results14, go_sem, *]) rfl (endQ _ (by omega) BB h3 (f3.mono (by omega)) (g3.mono (by omega)) _ _ _)
set_option maxRecDepth 100000 in
set_option maxHeartbeats 1000000 in
theorem qAdd (n : Bool) (a : Option Addr) (la ca : Nat) (d : Option Addr) (ld cd : Nat) (za : Int) (Da : Nat) (m : Bool) (b : Option Addr) (lb cb : Nat) (g : Option Addr) (lg cg : Nat) (zb : Int) (Db : Nat) (K : Nat) (w : World) (ha : QI w K n a la ca d ld cd za Da) (hb : QI w K m b lb cb g lg cg zb Db) (N : Int) (E : Nat) (hN : N = lowN (pN za Da * (pD Db : Int) + pN zb Db * (pD Da : Int)) (pD Da * pD Db)) (hE : E = lowD (pN za Da * (pD Db : Int) + pN zb Db * (pD Da : Int)) (pD Da * pD Db)) :
    Calls Tryz.prog 10 #[.agg #[.bool n, .slice a la ca, .slice d ld cd], .agg #[.bool m, .slice b lb cb, .slice g lg cg]] w (GotQ w N E) := by
  have HN : Hid _ := hN
  have HE : Hid _ := hE
  have kk := ha.kk
  clear hN hE
  obtain ⟨W, hW, bW, x_a, x_b, x_z, sW⟩ := bs_333 w (.bool n) (.slice a la ca) (.slice d ld cd) (.bool m) (.slice b lb cb) (.slice g lg cg) (.bool false) (.slice none 0 0) (.slice none 0 0) 27 27 27
  have zbW := bW.size
  replace ha := ha.below bW
  replace hb := hb.below bW
  have BB := bW
  go_enter Tryz.func10, Tryz.ntmps10
  go_wp2_with (go_at_call 37; fail)
  rw [← hW]
  clear hW
  refine (qAlike n a la ca d ld cd za Da m b lb cb g lg cg zb Db K W ha hb).mono ?_
  rintro e w1 ⟨n1, a1, l1, c1, n2, a2, l2, c2, rfl, h1, h2, bw1⟩
  have zbw1 := bw1.size
  replace ha := ha.below bw1
  replace hb := hb.below bw1
  replace BB := also BB bw1
  replace x_a := x_a.on bw1
  replace x_b := x_b.on bw1
  replace x_z := x_z.on bw1
  replace h1 := h1.wi (K + K) (by omega) (abs_mul' ha.pn (by simpa using hb.pd))
  replace h2 := h2.wi (K + K) (by omega) (abs_mul' hb.pn (by simpa using ha.pd))
  obtain ⟨V2, hV2, bV2, x_r, x_s, sV2⟩ := bs_22 w1 (.bool n1) (.slice a1 l1 c1) (.bool n2) (.slice a2 l2 c2) 25 25
  have zbV2 := bV2.size
  replace ha := ha.below bV2
  replace hb := hb.below bV2
  replace BB := also BB bV2
  replace x_a := x_a.on bV2
  replace x_b := x_b.on bV2
  replace x_z := x_z.on bV2
  replace h1 := h1.below bV2
  replace h2 := h2.below bV2
  have st_a_0 : ((w1.alloc (.cells #[.bool n1, .slice a1 l1 c1] 25)).alloc (.cells #[.bool n2, .slice a2 l2 c2] 25)).cell? ⟨w.heap.size, 0, none⟩ = some (.bool n) := by rw [← hV2]; exact x_a.c0
  have st_a_1 : ((w1.alloc (.cells #[.bool n1, .slice a1 l1 c1] 25)).alloc (.cells #[.bool n2, .slice a2 l2 c2] 25)).cell? ⟨w.heap.size, 1, none⟩ = some (.slice a la ca) := by rw [← hV2]; exact x_a.c1
  have st_a_2 : ((w1.alloc (.cells #[.bool n1, .slice a1 l1 c1] 25)).alloc (.cells #[.bool n2, .slice a2 l2 c2] 25)).cell? ⟨w.heap.size, 2, none⟩ = some (.slice d ld cd) := by rw [← hV2]; exact x_a.c2
  have sf_a_0 : ((w1.alloc (.cells #[.bool n1, .slice a1 l1 c1] 25)).alloc (.cells #[.bool n2, .slice a2 l2 c2] 25)).frozen? ⟨w.heap.size, 0, none⟩ = false := by rw [← hV2]; exact x_a.f0
  have sf_a_1 : ((w1.alloc (.cells #[.bool n1, .slice a1 l1 c1] 25)).alloc (.cells #[.bool n2, .slice a2 l2 c2] 25)).frozen? ⟨w.heap.size, 1, none⟩ = false := by rw [← hV2]; exact x_a.f1
  have sf_a_2 : ((w1.alloc (.cells #[.bool n1, .slice a1 l1 c1] 25)).alloc (.cells #[.bool n2, .slice a2 l2 c2] 25)).frozen? ⟨w.heap.size, 2, none⟩ = false := by rw [← hV2]; exact x_a.f2
  go_wp2
  rw [← hV2]
  clear hV2 st_a_0 st_a_1 st_a_2 sf_a_0 sf_a_1 sf_a_2
  have dd1 : Below V2.heap.size V2 V2.drew := (Below.refl _ _).drew
  have zdd1 := dd1.size
  replace ha := ha.below dd1
  replace hb := hb.below dd1
  replace BB := also BB dd1
  replace x_a := x_a.on dd1
  replace x_b := x_b.on dd1
  replace x_z := x_z.on dd1
  replace h1 := h1.below dd1
  replace h2 := h2.below dd1
  replace x_r := x_r.on dd1
  replace x_s := x_s.on dd1
  refine wp_region_held_drew (S := (fun w' => w'.cell? ⟨w1.heap.size, 0, none⟩ = some (.bool n1) ∧ w'.cell? ⟨w1.heap.size, 1, none⟩ = some (.slice a1 l1 c1) ∧ w'.cell? ⟨w1.heap.size + 1, 0, none⟩ = some (.bool n2) ∧ w'.cell? ⟨w1.heap.size + 1, 1, none⟩ = some (.slice a2 l2 c2) ∧ w'.cell? ⟨w.heap.size, 0, none⟩ = some (.bool n) ∧ w'.cell? ⟨w.heap.size, 1, none⟩ = some (.slice a la ca) ∧ w'.cell? ⟨w.heap.size, 2, none⟩ = some (.slice d ld cd) ∧ w'.cell? ⟨w.heap.size + 1, 0, none⟩ = some (.bool m) ∧ w'.cell? ⟨w.heap.size + 1, 1, none⟩ = some (.slice b lb cb) ∧ w'.cell? ⟨w.heap.size + 1, 2, none⟩ = some (.slice g lg cg) ∧ Below w.heap.size w w')) (by kernel_rfl) ?_ (fun hHeld => ?_)
  · first | exact ⟨x_r.c0, x_r.c1, x_s.c0, x_s.c1, x_a.c0, x_a.c1, x_a.c2, x_b.c0, x_b.c1, x_b.c2, BB⟩ | exact ⟨cell_on bw7 hHeld.1, cell_on bw7 hHeld.2.1, cell_on bw7 hHeld.2.2.1, cell_on bw7 hHeld.2.2.2.1, cell_on bw7 hHeld.2.2.2.2.1, cell_on bw7 hHeld.2.2.2.2.2.1, cell_on bw7 hHeld.2.2.2.2.2.2.1, cell_on bw7 hHeld.2.2.2.2.2.2.2.1, cell_on bw7 hHeld.2.2.2.2.2.2.2.2.1, cell_on bw7 hHeld.2.2.2.2.2.2.2.2.2.1, also hHeld.2.2.2.2.2.2.2.2.2.2 bw7⟩ | exact ⟨cell_on bw6 hHeld.1, cell_on bw6 hHeld.2.1, cell_on bw6 hHeld.2.2.1, cell_on bw6 hHeld.2.2.2.1, cell_on bw6 hHeld.2.2.2.2.1, cell_on bw6 hHeld.2.2.2.2.2.1, cell_on bw6 hHeld.2.2.2.2.2.2.1, cell_on bw6 hHeld.2.2.2.2.2.2.2.1, cell_on bw6 hHeld.2.2.2.2.2.2.2.2.1, cell_on bw6 hHeld.2.2.2.2.2.2.2.2.2.1, also hHeld.2.2.2.2.2.2.2.2.2.2 bw6⟩ | exact ⟨cell_on bw5 hHeld.1, cell_on bw5 hHeld.2.1, cell_on bw5 hHeld.2.2.1, cell_on bw5 hHeld.2.2.2.1, cell_on bw5 hHeld.2.2.2.2.1, cell_on bw5 hHeld.2.2.2.2.2.1, cell_on bw5 hHeld.2.2.2.2.2.2.1, cell_on bw5 hHeld.2.2.2.2.2.2.2.1, cell_on bw5 hHeld.2.2.2.2.2.2.2.2.1, cell_on bw5 hHeld.2.2.2.2.2.2.2.2.2.1, also hHeld.2.2.2.2.2.2.2.2.2.2 bw5⟩ | exact ⟨cell_put3 hHeld.1 (by omega) _ _ _, cell_put3 hHeld.2.1 (by omega) _ _ _, cell_put3 hHeld.2.2.1 (by omega) _ _ _, cell_put3 hHeld.2.2.2.1 (by omega) _ _ _, cell_put3 hHeld.2.2.2.2.1 (by omega) _ _ _, cell_put3 hHeld.2.2.2.2.2.1 (by omega) _ _ _, cell_put3 hHeld.2.2.2.2.2.2.1 (by omega) _ _ _, cell_put3 hHeld.2.2.2.2.2.2.2.1 (by omega) _ _ _, cell_put3 hHeld.2.2.2.2.2.2.2.2.1 (by omega) _ _ _, cell_put3 hHeld.2.2.2.2.2.2.2.2.2.1 (by omega) _ _ _, below_put3 hHeld.2.2.2.2.2.2.2.2.2.2 (by omega) _ _ _⟩
  refine take_yes (i := 0) (v := ?vr0) rfl (by kernel_rfl) (by kernel_rfl) (by kernel_rfl) (fun _ _ _ h => h) (by rfl) (by assumption) ?hyr0 ?restr0
  case hyr0 => (intro w hSw; (try dsimp only at hSw); first | (go_simp; done) | (go_simp; with_reducible rfl))
  simp only [Act.put, List.setIfInBounds_toArray, List.set_cons_zero, List.set_cons_succ]
  refine take_yes (i := 1) (v := ?vr1) rfl (by kernel_rfl) (by kernel_rfl) (by kernel_rfl) (fun _ _ _ h => h) (by rfl) (by assumption) ?hyr1 ?restr1
  case hyr1 => (intro w hSw; (try dsimp only at hSw); first | (go_simp; done) | (go_simp; with_reducible rfl))
  simp only [Act.put, List.setIfInBounds_toArray, List.set_cons_zero, List.set_cons_succ]
  refine take_yes (i := 3) (v := ?vr3) rfl (by kernel_rfl) (by kernel_rfl) (by kernel_rfl) (fun _ _ _ h => h) (by rfl) (by assumption) ?hyr3 ?restr3
  case hyr3 => (intro w hSw; (try dsimp only at hSw); first | (go_simp; done) | (go_simp; with_reducible rfl))
  simp only [Act.put, List.setIfInBounds_toArray, List.set_cons_zero, List.set_cons_succ]
  refine take_yes (i := 4) (v := ?vr4) rfl (by kernel_rfl) (by kernel_rfl) (by kernel_rfl) (fun _ _ _ h => h) (by rfl) (by assumption) ?hyr4 ?restr4
  case hyr4 => (intro w hSw; (try dsimp only at hSw); first | (go_simp; done) | (go_simp; with_reducible rfl))
  simp only [Act.put, List.setIfInBounds_toArray, List.set_cons_zero, List.set_cons_succ]
  refine take_call (i := 2) rfl (by kernel_rfl) (fun Kc hK => ?_)
  go_simp
  (go_at_call 39; refine (wAdd n1 n2 a1 a2 l1 l2 c1 c2 _ _ _ h1 h2 (pN za Da * (pD Db : Int) + pN zb Db * (pD Da : Int)) rfl).mono ?_; rintro e w5 ⟨n5, a5, l5, c5, rfl, h5, f5, bw5⟩)
  refine hK.out _ _ ?_ (fun hHeld => ?_)
  · first | exact ⟨x_r.c0, x_r.c1, x_s.c0, x_s.c1, x_a.c0, x_a.c1, x_a.c2, x_b.c0, x_b.c1, x_b.c2, BB⟩ | exact ⟨cell_on bw7 hHeld.1, cell_on bw7 hHeld.2.1, cell_on bw7 hHeld.2.2.1, cell_on bw7 hHeld.2.2.2.1, cell_on bw7 hHeld.2.2.2.2.1, cell_on bw7 hHeld.2.2.2.2.2.1, cell_on bw7 hHeld.2.2.2.2.2.2.1, cell_on bw7 hHeld.2.2.2.2.2.2.2.1, cell_on bw7 hHeld.2.2.2.2.2.2.2.2.1, cell_on bw7 hHeld.2.2.2.2.2.2.2.2.2.1, also hHeld.2.2.2.2.2.2.2.2.2.2 bw7⟩ | exact ⟨cell_on bw6 hHeld.1, cell_on bw6 hHeld.2.1, cell_on bw6 hHeld.2.2.1, cell_on bw6 hHeld.2.2.2.1, cell_on bw6 hHeld.2.2.2.2.1, cell_on bw6 hHeld.2.2.2.2.2.1, cell_on bw6 hHeld.2.2.2.2.2.2.1, cell_on bw6 hHeld.2.2.2.2.2.2.2.1, cell_on bw6 hHeld.2.2.2.2.2.2.2.2.1, cell_on bw6 hHeld.2.2.2.2.2.2.2.2.2.1, also hHeld.2.2.2.2.2.2.2.2.2.2 bw6⟩ | exact ⟨cell_on bw5 hHeld.1, cell_on bw5 hHeld.2.1, cell_on bw5 hHeld.2.2.1, cell_on bw5 hHeld.2.2.2.1, cell_on bw5 hHeld.2.2.2.2.1, cell_on bw5 hHeld.2.2.2.2.2.1, cell_on bw5 hHeld.2.2.2.2.2.2.1, cell_on bw5 hHeld.2.2.2.2.2.2.2.1, cell_on bw5 hHeld.2.2.2.2.2.2.2.2.1, cell_on bw5 hHeld.2.2.2.2.2.2.2.2.2.1, also hHeld.2.2.2.2.2.2.2.2.2.2 bw5⟩ | exact ⟨cell_put3 hHeld.1 (by omega) _ _ _, cell_put3 hHeld.2.1 (by omega) _ _ _, cell_put3 hHeld.2.2.1 (by omega) _ _ _, cell_put3 hHeld.2.2.2.1 (by omega) _ _ _, cell_put3 hHeld.2.2.2.2.1 (by omega) _ _ _, cell_put3 hHeld.2.2.2.2.2.1 (by omega) _ _ _, cell_put3 hHeld.2.2.2.2.2.2.1 (by omega) _ _ _, cell_put3 hHeld.2.2.2.2.2.2.2.1 (by omega) _ _ _, cell_put3 hHeld.2.2.2.2.2.2.2.2.1 (by omega) _ _ _, cell_put3 hHeld.2.2.2.2.2.2.2.2.2.1 (by omega) _ _ _, below_put3 hHeld.2.2.2.2.2.2.2.2.2.2 (by omega) _ _ _⟩
  clear hK Kc
  have zbw5 := bw5.size
  replace ha := ha.below bw5
  replace hb := hb.below bw5
  replace BB := also BB bw5
  replace x_a := x_a.on bw5
  replace x_b := x_b.on bw5
  replace x_z := x_z.on bw5
  replace h1 := h1.below bw5
  replace h2 := h2.below bw5
  replace x_r := x_r.on bw5
  replace x_s := x_s.on bw5
  refine take_call (i := 5) rfl (by kernel_rfl) (fun Kc hK => ?_)
  go_simp
  (go_at_call 40; refine (qBoth n a la ca d ld cd za Da m b lb cb g lg cg zb Db K _ ha hb).mono ?_; rintro e w6 ⟨a6, l6, c6, rfl, h6, bw6⟩)
  refine hK.out _ _ ?_ (fun hHeld => ?_)
  · first | exact ⟨x_r.c0, x_r.c1, x_s.c0, x_s.c1, x_a.c0, x_a.c1, x_a.c2, x_b.c0, x_b.c1, x_b.c2, BB⟩ | exact ⟨cell_on bw7 hHeld.1, cell_on bw7 hHeld.2.1, cell_on bw7 hHeld.2.2.1, cell_on bw7 hHeld.2.2.2.1, cell_on bw7 hHeld.2.2.2.2.1, cell_on bw7 hHeld.2.2.2.2.2.1, cell_on bw7 hHeld.2.2.2.2.2.2.1, cell_on bw7 hHeld.2.2.2.2.2.2.2.1, cell_on bw7 hHeld.2.2.2.2.2.2.2.2.1, cell_on bw7 hHeld.2.2.2.2.2.2.2.2.2.1, also hHeld.2.2.2.2.2.2.2.2.2.2 bw7⟩ | exact ⟨cell_on bw6 hHeld.1, cell_on bw6 hHeld.2.1, cell_on bw6 hHeld.2.2.1, cell_on bw6 hHeld.2.2.2.1, cell_on bw6 hHeld.2.2.2.2.1, cell_on bw6 hHeld.2.2.2.2.2.1, cell_on bw6 hHeld.2.2.2.2.2.2.1, cell_on bw6 hHeld.2.2.2.2.2.2.2.1, cell_on bw6 hHeld.2.2.2.2.2.2.2.2.1, cell_on bw6 hHeld.2.2.2.2.2.2.2.2.2.1, also hHeld.2.2.2.2.2.2.2.2.2.2 bw6⟩ | exact ⟨cell_on bw5 hHeld.1, cell_on bw5 hHeld.2.1, cell_on bw5 hHeld.2.2.1, cell_on bw5 hHeld.2.2.2.1, cell_on bw5 hHeld.2.2.2.2.1, cell_on bw5 hHeld.2.2.2.2.2.1, cell_on bw5 hHeld.2.2.2.2.2.2.1, cell_on bw5 hHeld.2.2.2.2.2.2.2.1, cell_on bw5 hHeld.2.2.2.2.2.2.2.2.1, cell_on bw5 hHeld.2.2.2.2.2.2.2.2.2.1, also hHeld.2.2.2.2.2.2.2.2.2.2 bw5⟩ | exact ⟨cell_put3 hHeld.1 (by omega) _ _ _, cell_put3 hHeld.2.1 (by omega) _ _ _, cell_put3 hHeld.2.2.1 (by omega) _ _ _, cell_put3 hHeld.2.2.2.1 (by omega) _ _ _, cell_put3 hHeld.2.2.2.2.1 (by omega) _ _ _, cell_put3 hHeld.2.2.2.2.2.1 (by omega) _ _ _, cell_put3 hHeld.2.2.2.2.2.2.1 (by omega) _ _ _, cell_put3 hHeld.2.2.2.2.2.2.2.1 (by omega) _ _ _, cell_put3 hHeld.2.2.2.2.2.2.2.2.1 (by omega) _ _ _, cell_put3 hHeld.2.2.2.2.2.2.2.2.2.1 (by omega) _ _ _, below_put3 hHeld.2.2.2.2.2.2.2.2.2.2 (by omega) _ _ _⟩
  clear hK Kc
  have zbw6 := bw6.size
  replace ha := ha.below bw6
  replace hb := hb.below bw6
  replace BB := also BB bw6
  replace x_a := x_a.on bw6
  replace x_b := x_b.on bw6
  replace x_z := x_z.on bw6
  replace h1 := h1.below bw6
  replace h2 := h2.below bw6
  replace x_r := x_r.on bw6
  replace x_s := x_s.on bw6
  replace h5 := h5.below bw6
  refine take_call (i := 6) rfl (by kernel_rfl) (fun Kc hK => ?_)
  go_simp
  (go_at_call 38; refine (qLow n5 a5 l5 c5 _ a6 l6 c6 _ _ (h5.wi (K + K + 1) (by omega) (abs_add' (abs_mul' ha.pn (by simpa using hb.pd)) (abs_mul' hb.pn (by simpa using ha.pd)))) (h6.ni (K + K) (by omega) (nat_mul' ha.pd hb.pd)) (Nat.mul_pos (pD_pos _) (pD_pos _)) N E HN.out HE.out).mono ?_; rintro e w7 ⟨n7, a7, l7, c7, d7, m7, k7, rfl, h7, f7, g7, bw7⟩)
  refine hK.out _ _ ?_ (fun hHeld => ?_)
  · first | exact ⟨x_r.c0, x_r.c1, x_s.c0, x_s.c1, x_a.c0, x_a.c1, x_a.c2, x_b.c0, x_b.c1, x_b.c2, BB⟩ | exact ⟨cell_on bw7 hHeld.1, cell_on bw7 hHeld.2.1, cell_on bw7 hHeld.2.2.1, cell_on bw7 hHeld.2.2.2.1, cell_on bw7 hHeld.2.2.2.2.1, cell_on bw7 hHeld.2.2.2.2.2.1, cell_on bw7 hHeld.2.2.2.2.2.2.1, cell_on bw7 hHeld.2.2.2.2.2.2.2.1, cell_on bw7 hHeld.2.2.2.2.2.2.2.2.1, cell_on bw7 hHeld.2.2.2.2.2.2.2.2.2.1, also hHeld.2.2.2.2.2.2.2.2.2.2 bw7⟩ | exact ⟨cell_on bw6 hHeld.1, cell_on bw6 hHeld.2.1, cell_on bw6 hHeld.2.2.1, cell_on bw6 hHeld.2.2.2.1, cell_on bw6 hHeld.2.2.2.2.1, cell_on bw6 hHeld.2.2.2.2.2.1, cell_on bw6 hHeld.2.2.2.2.2.2.1, cell_on bw6 hHeld.2.2.2.2.2.2.2.1, cell_on bw6 hHeld.2.2.2.2.2.2.2.2.1, cell_on bw6 hHeld.2.2.2.2.2.2.2.2.2.1, also hHeld.2.2.2.2.2.2.2.2.2.2 bw6⟩ | exact ⟨cell_on bw5 hHeld.1, cell_on bw5 hHeld.2.1, cell_on bw5 hHeld.2.2.1, cell_on bw5 hHeld.2.2.2.1, cell_on bw5 hHeld.2.2.2.2.1, cell_on bw5 hHeld.2.2.2.2.2.1, cell_on bw5 hHeld.2.2.2.2.2.2.1, cell_on bw5 hHeld.2.2.2.2.2.2.2.1, cell_on bw5 hHeld.2.2.2.2.2.2.2.2.1, cell_on bw5 hHeld.2.2.2.2.2.2.2.2.2.1, also hHeld.2.2.2.2.2.2.2.2.2.2 bw5⟩ | exact ⟨cell_put3 hHeld.1 (by omega) _ _ _, cell_put3 hHeld.2.1 (by omega) _ _ _, cell_put3 hHeld.2.2.1 (by omega) _ _ _, cell_put3 hHeld.2.2.2.1 (by omega) _ _ _, cell_put3 hHeld.2.2.2.2.1 (by omega) _ _ _, cell_put3 hHeld.2.2.2.2.2.1 (by omega) _ _ _, cell_put3 hHeld.2.2.2.2.2.2.1 (by omega) _ _ _, cell_put3 hHeld.2.2.2.2.2.2.2.1 (by omega) _ _ _, cell_put3 hHeld.2.2.2.2.2.2.2.2.1 (by omega) _ _ _, cell_put3 hHeld.2.2.2.2.2.2.2.2.2.1 (by omega) _ _ _, below_put3 hHeld.2.2.2.2.2.2.2.2.2.2 (by omega) _ _ _⟩
  clear hK Kc
  have zbw7 := bw7.size
  replace ha := ha.below bw7
  replace hb := hb.below bw7
  replace BB := also BB bw7
  replace x_a := x_a.on bw7
  replace x_b := x_b.on bw7
  replace x_z := x_z.on bw7
  replace h1 := h1.below bw7
  replace h2 := h2.below bw7
  replace x_r := x_r.on bw7
  replace x_s := x_s.on bw7
  replace h5 := h5.below bw7
  replace h6 := h6.below bw7
  have ⟨x_z_0, x_z_1, x_z_2, x_z_3, x_z_4, x_z_5⟩ := x_z
  refine take_call (i := 7) rfl (by kernel_rfl) (fun Kc hK => ?_)
  go_simp
  refine hK.out _ _ ?_ (fun hHeld => ?_)
  · first | exact ⟨x_r.c0, x_r.c1, x_s.c0, x_s.c1, x_a.c0, x_a.c1, x_a.c2, x_b.c0, x_b.c1, x_b.c2, BB⟩ | exact ⟨cell_on bw7 hHeld.1, cell_on bw7 hHeld.2.1, cell_on bw7 hHeld.2.2.1, cell_on bw7 hHeld.2.2.2.1, cell_on bw7 hHeld.2.2.2.2.1, cell_on bw7 hHeld.2.2.2.2.2.1, cell_on bw7 hHeld.2.2.2.2.2.2.1, cell_on bw7 hHeld.2.2.2.2.2.2.2.1, cell_on bw7 hHeld.2.2.2.2.2.2.2.2.1, cell_on bw7 hHeld.2.2.2.2.2.2.2.2.2.1, also hHeld.2.2.2.2.2.2.2.2.2.2 bw7⟩ | exact ⟨cell_on bw6 hHeld.1, cell_on bw6 hHeld.2.1, cell_on bw6 hHeld.2.2.1, cell_on bw6 hHeld.2.2.2.1, cell_on bw6 hHeld.2.2.2.2.1, cell_on bw6 hHeld.2.2.2.2.2.1, cell_on bw6 hHeld.2.2.2.2.2.2.1, cell_on bw6 hHeld.2.2.2.2.2.2.2.1, cell_on bw6 hHeld.2.2.2.2.2.2.2.2.1, cell_on bw6 hHeld.2.2.2.2.2.2.2.2.2.1, also hHeld.2.2.2.2.2.2.2.2.2.2 bw6⟩ | exact ⟨cell_on bw5 hHeld.1, cell_on bw5 hHeld.2.1, cell_on bw5 hHeld.2.2.1, cell_on bw5 hHeld.2.2.2.1, cell_on bw5 hHeld.2.2.2.2.1, cell_on bw5 hHeld.2.2.2.2.2.1, cell_on bw5 hHeld.2.2.2.2.2.2.1, cell_on bw5 hHeld.2.2.2.2.2.2.2.1, cell_on bw5 hHeld.2.2.2.2.2.2.2.2.1, cell_on bw5 hHeld.2.2.2.2.2.2.2.2.2.1, also hHeld.2.2.2.2.2.2.2.2.2.2 bw5⟩ | exact ⟨cell_put3 hHeld.1 (by omega) _ _ _, cell_put3 hHeld.2.1 (by omega) _ _ _, cell_put3 hHeld.2.2.1 (by omega) _ _ _, cell_put3 hHeld.2.2.2.1 (by omega) _ _ _, cell_put3 hHeld.2.2.2.2.1 (by omega) _ _ _, cell_put3 hHeld.2.2.2.2.2.1 (by omega) _ _ _, cell_put3 hHeld.2.2.2.2.2.2.1 (by omega) _ _ _, cell_put3 hHeld.2.2.2.2.2.2.2.1 (by omega) _ _ _, cell_put3 hHeld.2.2.2.2.2.2.2.2.1 (by omega) _ _ _, cell_put3 hHeld.2.2.2.2.2.2.2.2.2.1 (by omega) _ _ _, below_put3 hHeld.2.2.2.2.2.2.2.2.2.2 (by omega) _ _ _⟩
  clear hK Kc
  refine wpAnyH_done (by kernel_rfl) ?_ _
  go_wp2
  exact bodyPost_ret (v := .agg #[.bool n7, .slice a7 l7 c7, .slice d7 m7 k7]) (by simp [results, Tryz.results10, go_sem, *]) rfl (endQ _ (by omega) BB h7 (f7.mono (by omega)) (g7.mono (by omega)) _ _ _)
set_option maxRecDepth 100000 in
set_option maxHeartbeats 1000000 in
theorem qSub (n : Bool) (a : Option Addr) (la ca : Nat) (d : Option Addr) (ld cd : Nat) (za : Int) (Da : Nat) (m : Bool) (b : Option Addr) (lb cb : Nat) (g : Option Addr) (lg cg : Nat) (zb : Int) (Db : Nat) (K : Nat) (w : World) (ha : QI w K n a la ca d ld cd za Da) (hb : QI w K m b lb cb g lg cg zb Db) (N : Int) (E : Nat) (hN : N = lowN (pN za Da * (pD Db : Int) - pN zb Db * (pD Da : Int)) (pD Da * pD Db)) (hE : E = lowD (pN za Da * (pD Db : Int) - pN zb Db * (pD Da : Int)) (pD Da * pD Db)) :
    Calls Tryz.prog 12 #[.agg #[.bool n, .slice a la ca, .slice d ld cd], .agg #[.bool m, .slice b lb cb, .slice g lg cg]] w (GotQ w N E) := by
  have HN : Hid _ := hN
  have HE : Hid _ := hE
  have kk := ha.kk
  clear hN hE
  obtain ⟨W, hW, bW, x_a, x_b, x_z, sW⟩ := bs_333 w (.bool n) (.slice a la ca) (.slice d ld cd) (.bool m) (.slice b lb cb) (.slice g lg cg) (.bool false) (.slice none 0 0) (.slice none 0 0) 27 27 27
  have zbW := bW.size
  replace ha := ha.below bW
  replace hb := hb.below bW
  have BB := bW
  go_enter Tryz.func12, Tryz.ntmps12
  go_wp2_with (go_at_call 37; fail)
  rw [← hW]
  clear hW
  refine (qAlike n a la ca d ld cd za Da m b lb cb g lg cg zb Db K W ha hb).mono ?_
  rintro e w1 ⟨n1, a1, l1, c1, n2, a2, l2, c2, rfl, h1, h2, bw1⟩
  have zbw1 := bw1.size
  replace ha := ha.below bw1
  replace hb := hb.below bw1
  replace BB := also BB bw1
  replace x_a := x_a.on bw1
  replace x_b := x_b.on bw1
  replace x_z := x_z.on bw1
  replace h1 := h1.wi (K + K) (by omega) (abs_mul' ha.pn (by simpa using hb.pd))
  replace h2 := h2.wi (K + K) (by omega) (abs_mul' hb.pn (by simpa using ha.pd))
  obtain ⟨V2, hV2, bV2, x_r, x_s, sV2⟩ := bs_22 w1 (.bool n1) (.slice a1 l1 c1) (.bool n2) (.slice a2 l2 c2) 25 25
  have zbV2 := bV2.size
  replace ha := ha.below bV2
  replace hb := hb.below bV2
  replace BB := also BB bV2
  replace x_a := x_a.on bV2
  replace x_b := x_b.on bV2
  replace x_z := x_z.on bV2
  replace h1 := h1.below bV2
  replace h2 := h2.below bV2
  have st_a_0 : ((w1.alloc (.cells #[.bool n1, .slice a1 l1 c1] 25)).alloc (.cells #[.bool n2, .slice a2 l2 c2] 25)).cell? ⟨w.heap.size, 0, none⟩ = some (.bool n) := by rw [← hV2]; exact x_a.c0
  have st_a_1 : ((w1.alloc (.cells #[.bool n1, .slice a1 l1 c1] 25)).alloc (.cells #[.bool n2, .slice a2 l2 c2] 25)).cell? ⟨w.heap.size, 1, none⟩ = some (.slice a la ca) := by rw [← hV2]; exact x_a.c1
  have st_a_2 : ((w1.alloc (.cells #[.bool n1, .slice a1 l1 c1] 25)).alloc (.cells #[.bool n2, .slice a2 l2 c2] 25)).cell? ⟨w.heap.size, 2, none⟩ = some (.slice d ld cd) := by rw [← hV2]; exact x_a.c2
  have sf_a_0 : ((w1.alloc (.cells #[.bool n1, .slice a1 l1 c1] 25)).alloc (.cells #[.bool n2, .slice a2 l2 c2] 25)).frozen? ⟨w.heap.size, 0, none⟩ = false := by rw [← hV2]; exact x_a.f0
  have sf_a_1 : ((w1.alloc (.cells #[.bool n1, .slice a1 l1 c1] 25)).alloc (.cells #[.bool n2, .slice a2 l2 c2] 25)).frozen? ⟨w.heap.size, 1, none⟩ = false := by rw [← hV2]; exact x_a.f1
  have sf_a_2 : ((w1.alloc (.cells #[.bool n1, .slice a1 l1 c1] 25)).alloc (.cells #[.bool n2, .slice a2 l2 c2] 25)).frozen? ⟨w.heap.size, 2, none⟩ = false := by rw [← hV2]; exact x_a.f2
  go_wp2
  rw [← hV2]
  clear hV2 st_a_0 st_a_1 st_a_2 sf_a_0 sf_a_1 sf_a_2
  have dd1 : Below V2.heap.size V2 V2.drew := (Below.refl _ _).drew
  have zdd1 := dd1.size
  replace ha := ha.below dd1
  replace hb := hb.below dd1
  replace BB := also BB dd1
  replace x_a := x_a.on dd1
  replace x_b := x_b.on dd1
  replace x_z := x_z.on dd1
  replace h1 := h1.below dd1
  replace h2 := h2.below dd1
  replace x_r := x_r.on dd1
  replace x_s := x_s.on dd1
  refine wp_region_held_drew (S := (fun w' => w'.cell? ⟨w1.heap.size, 0, none⟩ = some (.bool n1) ∧ w'.cell? ⟨w1.heap.size, 1, none⟩ = some (.slice a1 l1 c1) ∧ w'.cell? ⟨w1.heap.size + 1, 0, none⟩ = some (.bool n2) ∧ w'.cell? ⟨w1.heap.size + 1, 1, none⟩ = some (.slice a2 l2 c2) ∧ w'.cell? ⟨w.heap.size, 0, none⟩ = some (.bool n) ∧ w'.cell? ⟨w.heap.size, 1, none⟩ = some (.slice a la ca) ∧ w'.cell? ⟨w.heap.size, 2, none⟩ = some (.slice d ld cd) ∧ w'.cell? ⟨w.heap.size + 1, 0, none⟩ = some (.bool m) ∧ w'.cell? ⟨w.heap.size + 1, 1, none⟩ = some (.slice b lb cb) ∧ w'.cell? ⟨w.heap.size + 1, 2, none⟩ = some (.slice g lg cg) ∧ Below w.heap.size w w')) (by kernel_rfl) ?_ (fun hHeld => ?_)
  · first | exact ⟨x_r.c0, x_r.c1, x_s.c0, x_s.c1, x_a.c0, x_a.c1, x_a.c2, x_b.c0, x_b.c1, x_b.c2, BB⟩ | exact ⟨cell_on bw7 hHeld.1, cell_on bw7 hHeld.2.1, cell_on bw7 hHeld.2.2.1, cell_on bw7 hHeld.2.2.2.1, cell_on bw7 hHeld.2.2.2.2.1, cell_on bw7 hHeld.2.2.2.2.2.1, cell_on bw7 hHeld.2.2.2.2.2.2.1, cell_on bw7 hHeld.2.2.2.2.2.2.2.1, cell_on bw7 hHeld.2.2.2.2.2.2.2.2.1, cell_on bw7 hHeld.2.2.2.2.2.2.2.2.2.1, also hHeld.2.2.2.2.2.2.2.2.2.2 bw7⟩ | exact ⟨cell_on bw6 hHeld.1, cell_on bw6 hHeld.2.1, cell_on bw6 hHeld.2.2.1, cell_on bw6 hHeld.2.2.2.1, cell_on bw6 hHeld.2.2.2.2.1, cell_on bw6 hHeld.2.2.2.2.2.1, cell_on bw6 hHeld.2.2.2.2.2.2.1, cell_on bw6 hHeld.2.2.2.2.2.2.2.1, cell_on bw6 hHeld.2.2.2.2.2.2.2.2.1, cell_on bw6 hHeld.2.2.2.2.2.2.2.2.2.1, also hHeld.2.2.2.2.2.2.2.2.2.2 bw6⟩ | exact ⟨cell_on bw5 hHeld.1, cell_on bw5 hHeld.2.1, cell_on bw5 hHeld.2.2.1, cell_on bw5 hHeld.2.2.2.1, cell_on bw5 hHeld.2.2.2.2.1, cell_on bw5 hHeld.2.2.2.2.2.1, cell_on bw5 hHeld.2.2.2.2.2.2.1, cell_on bw5 hHeld.2.2.2.2.2.2.2.1, cell_on bw5 hHeld.2.2.2.2.2.2.2.2.1, cell_on bw5 hHeld.2.2.2.2.2.2.2.2.2.1, also hHeld.2.2.2.2.2.2.2.2.2.2 bw5⟩ | exact ⟨cell_put3 hHeld.1 (by omega) _ _ _, cell_put3 hHeld.2.1 (by omega) _ _ _, cell_put3 hHeld.2.2.1 (by omega) _ _ _, cell_put3 hHeld.2.2.2.1 (by omega) _ _ _, cell_put3 hHeld.2.2.2.2.1 (by omega) _ _ _, cell_put3 hHeld.2.2.2.2.2.1 (by omega) _ _ _, cell_put3 hHeld.2.2.2.2.2.2.1 (by omega) _ _ _, cell_put3 hHeld.2.2.2.2.2.2.2.1 (by omega) _ _ _, cell_put3 hHeld.2.2.2.2.2.2.2.2.1 (by omega) _ _ _, cell_put3 hHeld.2.2.2.2.2.2.2.2.2.1 (by omega) _ _ _, below_put3 hHeld.2.2.2.2.2.2.2.2.2.2 (by omega) _ _ _⟩
  refine take_yes (i := 0) (v := ?vr0) rfl (by kernel_rfl) (by kernel_rfl) (by kernel_rfl) (fun _ _ _ h => h) (by rfl) (by assumption) ?hyr0 ?restr0
  case hyr0 => (intro w hSw; (try dsimp only at hSw); first | (go_simp; done) | (go_simp; with_reducible rfl))
  simp only [Act.put, List.setIfInBounds_toArray, List.set_cons_zero, List.set_cons_succ]
  refine take_yes (i := 1) (v := ?vr1) rfl (by kernel_rfl) (by kernel_rfl) (by kernel_rfl) (fun _ _ _ h => h) (by rfl) (by assumption) ?hyr1 ?restr1
  case hyr1 => (intro w hSw; (try dsimp only at hSw); first | (go_simp; done) | (go_simp; with_reducible rfl))
  simp only [Act.put, List.setIfInBounds_toArray, List.set_cons_zero, List.set_cons_succ]
  refine take_yes (i := 3) (v := ?vr3) rfl (by kernel_rfl) (by kernel_rfl) (by kernel_rfl) (fun _ _ _ h => h) (by rfl) (by assumption) ?hyr3 ?restr3
  case hyr3 => (intro w hSw; (try dsimp only at hSw); first | (go_simp; done) | (go_simp; with_reducible rfl))
  simp only [Act.put, List.setIfInBounds_toArray, List.set_cons_zero, List.set_cons_succ]
  refine take_yes (i := 4) (v := ?vr4) rfl (by kernel_rfl) (by kernel_rfl) (by kernel_rfl) (fun _ _ _ h => h) (by rfl) (by assumption) ?hyr4 ?restr4
  case hyr4 => (intro w hSw; (try dsimp only at hSw); first | (go_simp; done) | (go_simp; with_reducible rfl))
  simp only [Act.put, List.setIfInBounds_toArray, List.set_cons_zero, List.set_cons_succ]
  refine take_call (i := 2) rfl (by kernel_rfl) (fun Kc hK => ?_)
  go_simp
  (go_at_call 43; refine (wSub n1 n2 a1 a2 l1 l2 c1 c2 _ _ _ h1 h2 (pN za Da * (pD Db : Int) - pN zb Db * (pD Da : Int)) rfl).mono ?_; rintro e w5 ⟨n5, a5, l5, c5, rfl, h5, f5, bw5⟩)
  refine hK.out _ _ ?_ (fun hHeld => ?_)
  · first | exact ⟨x_r.c0, x_r.c1, x_s.c0, x_s.c1, x_a.c0, x_a.c1, x_a.c2, x_b.c0, x_b.c1, x_b.c2, BB⟩ | exact ⟨cell_on bw7 hHeld.1, cell_on bw7 hHeld.2.1, cell_on bw7 hHeld.2.2.1, cell_on bw7 hHeld.2.2.2.1, cell_on bw7 hHeld.2.2.2.2.1, cell_on bw7 hHeld.2.2.2.2.2.1, cell_on bw7 hHeld.2.2.2.2.2.2.1, cell_on bw7 hHeld.2.2.2.2.2.2.2.1, cell_on bw7 hHeld.2.2.2.2.2.2.2.2.1, cell_on bw7 hHeld.2.2.2.2.2.2.2.2.2.1, also hHeld.2.2.2.2.2.2.2.2.2.2 bw7⟩ | exact ⟨cell_on bw6 hHeld.1, cell_on bw6 hHeld.2.1, cell_on bw6 hHeld.2.2.1, cell_on bw6 hHeld.2.2.2.1, cell_on bw6 hHeld.2.2.2.2.1, cell_on bw6 hHeld.2.2.2.2.2.1, cell_on bw6 hHeld.2.2.2.2.2.2.1, cell_on bw6 hHeld.2.2.2.2.2.2.2.1, cell_on bw6 hHeld.2.2.2.2.2.2.2.2.1, cell_on bw6 hHeld.2.2.2.2.2.2.2.2.2.1, also hHeld.2.2.2.2.2.2.2.2.2.2 bw6⟩ | exact ⟨cell_on bw5 hHeld.1, cell_on bw5 hHeld.2.1, cell_on bw5 hHeld.2.2.1, cell_on bw5 hHeld.2.2.2.1, cell_on bw5 hHeld.2.2.2.2.1, cell_on bw5 hHeld.2.2.2.2.2.1, cell_on bw5 hHeld.2.2.2.2.2.2.1, cell_on bw5 hHeld.2.2.2.2.2.2.2.1, cell_on bw5 hHeld.2.2.2.2.2.2.2.2.1, cell_on bw5 hHeld.2.2.2.2.2.2.2.2.2.1, also hHeld.2.2.2.2.2.2.2.2.2.2 bw5⟩ | exact ⟨cell_put3 hHeld.1 (by omega) _ _ _, cell_put3 hHeld.2.1 (by omega) _ _ _, cell_put3 hHeld.2.2.1 (by omega) _ _ _, cell_put3 hHeld.2.2.2.1 (by omega) _ _ _, cell_put3 hHeld.2.2.2.2.1 (by omega) _ _ _, cell_put3 hHeld.2.2.2.2.2.1 (by omega) _ _ _, cell_put3 hHeld.2.2.2.2.2.2.1 (by omega) _ _ _, cell_put3 hHeld.2.2.2.2.2.2.2.1 (by omega) _ _ _, cell_put3 hHeld.2.2.2.2.2.2.2.2.1 (by omega) _ _ _, cell_put3 hHeld.2.2.2.2.2.2.2.2.2.1 (by omega) _ _ _, below_put3 hHeld.2.2.2.2.2.2.2.2.2.2 (by omega) _ _ _⟩
  clear hK Kc
  have zbw5 := bw5.size
  replace ha := ha.below bw5
  replace hb := hb.below bw5
  replace BB := also BB bw5
  replace x_a := x_a.on bw5
  replace x_b := x_b.on bw5
  replace x_z := x_z.on bw5
  replace h1 := h1.below bw5
  replace h2 := h2.below bw5
  replace x_r := x_r.on bw5
  replace x_s := x_s.on bw5
  refine take_call (i := 5) rfl (by kernel_rfl) (fun Kc hK => ?_)
  go_simp
  (go_at_call 40; refine (qBoth n a la ca d ld cd za Da m b lb cb g lg cg zb Db K _ ha hb).mono ?_; rintro e w6 ⟨a6, l6, c6, rfl, h6, bw6⟩)
  refine hK.out _ _ ?_ (fun hHeld => ?_)
  · first | exact ⟨x_r.c0, x_r.c1, x_s.c0, x_s.c1, x_a.c0, x_a.c1, x_a.c2, x_b.c0, x_b.c1, x_b.c2, BB⟩ | exact ⟨cell_on bw7 hHeld.1, cell_on bw7 hHeld.2.1, cell_on bw7 hHeld.2.2.1, cell_on bw7 hHeld.2.2.2.1, cell_on bw7 hHeld.2.2.2.2.1, cell_on bw7 hHeld.2.2.2.2.2.1, cell_on bw7 hHeld.2.2.2.2.2.2.1, cell_on bw7 hHeld.2.2.2.2.2.2.2.1, cell_on bw7 hHeld.2.2.2.2.2.2.2.2.1, cell_on bw7 hHeld.2.2.2.2.2.2.2.2.2.1, also hHeld.2.2.2.2.2.2.2.2.2.2 bw7⟩ | exact ⟨cell_on bw6 hHeld.1, cell_on bw6 hHeld.2.1, cell_on bw6 hHeld.2.2.1, cell_on bw6 hHeld.2.2.2.1, cell_on bw6 hHeld.2.2.2.2.1, cell_on bw6 hHeld.2.2.2.2.2.1, cell_on bw6 hHeld.2.2.2.2.2.2.1, cell_on bw6 hHeld.2.2.2.2.2.2.2.1, cell_on bw6 hHeld.2.2.2.2.2.2.2.2.1, cell_on bw6 hHeld.2.2.2.2.2.2.2.2.2.1, also hHeld.2.2.2.2.2.2.2.2.2.2 bw6⟩ | exact ⟨cell_on bw5 hHeld.1, cell_on bw5 hHeld.2.1, cell_on bw5 hHeld.2.2.1, cell_on bw5 hHeld.2.2.2.1, cell_on bw5 hHeld.2.2.2.2.1, cell_on bw5 hHeld.2.2.2.2.2.1, cell_on bw5 hHeld.2.2.2.2.2.2.1, cell_on bw5 hHeld.2.2.2.2.2.2.2.1, cell_on bw5 hHeld.2.2.2.2.2.2.2.2.1, cell_on bw5 hHeld.2.2.2.2.2.2.2.2.2.1, also hHeld.2.2.2.2.2.2.2.2.2.2 bw5⟩ | exact ⟨cell_put3 hHeld.1 (by omega) _ _ _, cell_put3 hHeld.2.1 (by omega) _ _ _, cell_put3 hHeld.2.2.1 (by omega) _ _ _, cell_put3 hHeld.2.2.2.1 (by omega) _ _ _, cell_put3 hHeld.2.2.2.2.1 (by omega) _ _ _, cell_put3 hHeld.2.2.2.2.2.1 (by omega) _ _ _, cell_put3 hHeld.2.2.2.2.2.2.1 (by omega) _ _ _, cell_put3 hHeld.2.2.2.2.2.2.2.1 (by omega) _ _ _, cell_put3 hHeld.2.2.2.2.2.2.2.2.1 (by omega) _ _ _, cell_put3 hHeld.2.2.2.2.2.2.2.2.2.1 (by omega) _ _ _, below_put3 hHeld.2.2.2.2.2.2.2.2.2.2 (by omega) _ _ _⟩
  clear hK Kc
  have zbw6 := bw6.size
  replace ha := ha.below bw6
  replace hb := hb.below bw6
  replace BB := also BB bw6
  replace x_a := x_a.on bw6
  replace x_b := x_b.on bw6
  replace x_z := x_z.on bw6
  replace h1 := h1.below bw6
  replace h2 := h2.below bw6
  replace x_r := x_r.on bw6
  replace x_s := x_s.on bw6
  replace h5 := h5.below bw6
  refine take_call (i := 6) rfl (by kernel_rfl) (fun Kc hK => ?_)
  go_simp
  (go_at_call 38; refine (qLow n5 a5 l5 c5 _ a6 l6 c6 _ _ (h5.wi (K + K + 1) (by omega) (abs_sub' (abs_mul' ha.pn (by simpa using hb.pd)) (abs_mul' hb.pn (by simpa using ha.pd)))) (h6.ni (K + K) (by omega) (nat_mul' ha.pd hb.pd)) (Nat.mul_pos (pD_pos _) (pD_pos _)) N E HN.out HE.out).mono ?_; rintro e w7 ⟨n7, a7, l7, c7, d7, m7, k7, rfl, h7, f7, g7, bw7⟩)
  refine hK.out _ _ ?_ (fun hHeld => ?_)
  · first | exact ⟨x_r.c0, x_r.c1, x_s.c0, x_s.c1, x_a.c0, x_a.c1, x_a.c2, x_b.c0, x_b.c1, x_b.c2, BB⟩ | exact ⟨cell_on bw7 hHeld.1, cell_on bw7 hHeld.2.1, cell_on bw7 hHeld.2.2.1, cell_on bw7 hHeld.2.2.2.1, cell_on bw7 hHeld.2.2.2.2.1, cell_on bw7 hHeld.2.2.2.2.2.1, cell_on bw7 hHeld.2.2.2.2.2.2.1, cell_on bw7 hHeld.2.2.2.2.2.2.2.1, cell_on bw7 hHeld.2.2.2.2.2.2.2.2.1, cell_on bw7 hHeld.2.2.2.2.2.2.2.2.2.1, also hHeld.2.2.2.2.2.2.2.2.2.2 bw7⟩ | exact ⟨cell_on bw6 hHeld.1, cell_on bw6 hHeld.2.1, cell_on bw6 hHeld.2.2.1, cell_on bw6 hHeld.2.2.2.1, cell_on bw6 hHeld.2.2.2.2.1, cell_on bw6 hHeld.2.2.2.2.2.1, cell_on bw6 hHeld.2.2.2.2.2.2.1, cell_on bw6 hHeld.2.2.2.2.2.2.2.1, cell_on bw6 hHeld.2.2.2.2.2.2.2.2.1, cell_on bw6 hHeld.2.2.2.2.2.2.2.2.2.1, also hHeld.2.2.2.2.2.2.2.2.2.2 bw6⟩ | exact ⟨cell_on bw5 hHeld.1, cell_on bw5 hHeld.2.1, cell_on bw5 hHeld.2.2.1, cell_on bw5 hHeld.2.2.2.1, cell_on bw5 hHeld.2.2.2.2.1, cell_on bw5 hHeld.2.2.2.2.2.1, cell_on bw5 hHeld.2.2.2.2.2.2.1, cell_on bw5 hHeld.2.2.2.2.2.2.2.1, cell_on bw5 hHeld.2.2.2.2.2.2.2.2.1, cell_on bw5 hHeld.2.2.2.2.2.2.2.2.2.1, also hHeld.2.2.2.2.2.2.2.2.2.2 bw5⟩ | exact ⟨cell_put3 hHeld.1 (by omega) _ _ _, cell_put3 hHeld.2.1 (by omega) _ _ _, cell_put3 hHeld.2.2.1 (by omega) _ _ _, cell_put3 hHeld.2.2.2.1 (by omega) _ _ _, cell_put3 hHeld.2.2.2.2.1 (by omega) _ _ _, cell_put3 hHeld.2.2.2.2.2.1 (by omega) _ _ _, cell_put3 hHeld.2.2.2.2.2.2.1 (by omega) _ _ _, cell_put3 hHeld.2.2.2.2.2.2.2.1 (by omega) _ _ _, cell_put3 hHeld.2.2.2.2.2.2.2.2.1 (by omega) _ _ _, cell_put3 hHeld.2.2.2.2.2.2.2.2.2.1 (by omega) _ _ _, below_put3 hHeld.2.2.2.2.2.2.2.2.2.2 (by omega) _ _ _⟩
  clear hK Kc
  have zbw7 := bw7.size
  replace ha := ha.below bw7
  replace hb := hb.below bw7
  replace BB := also BB bw7
  replace x_a := x_a.on bw7
  replace x_b := x_b.on bw7
  replace x_z := x_z.on bw7
  replace h1 := h1.below bw7
  replace h2 := h2.below bw7
  replace x_r := x_r.on bw7
  replace x_s := x_s.on bw7
  replace h5 := h5.below bw7
  replace h6 := h6.below bw7
  have ⟨x_z_0, x_z_1, x_z_2, x_z_3, x_z_4, x_z_5⟩ := x_z
  refine take_call (i := 7) rfl (by kernel_rfl) (fun Kc hK => ?_)
  go_simp
  refine hK.out _ _ ?_ (fun hHeld => ?_)
  · first | exact ⟨x_r.c0, x_r.c1, x_s.c0, x_s.c1, x_a.c0, x_a.c1, x_a.c2, x_b.c0, x_b.c1, x_b.c2, BB⟩ | exact ⟨cell_on bw7 hHeld.1, cell_on bw7 hHeld.2.1, cell_on bw7 hHeld.2.2.1, cell_on bw7 hHeld.2.2.2.1, cell_on bw7 hHeld.2.2.2.2.1, cell_on bw7 hHeld.2.2.2.2.2.1, cell_on bw7 hHeld.2.2.2.2.2.2.1, cell_on bw7 hHeld.2.2.2.2.2.2.2.1, cell_on bw7 hHeld.2.2.2.2.2.2.2.2.1, cell_on bw7 hHeld.2.2.2.2.2.2.2.2.2.1, also hHeld.2.2.2.2.2.2.2.2.2.2 bw7⟩ | exact ⟨cell_on bw6 hHeld.1, cell_on bw6 hHeld.2.1, cell_on bw6 hHeld.2.2.1, cell_on bw6 hHeld.2.2.2.1, cell_on bw6 hHeld.2.2.2.2.1, cell_on bw6 hHeld.2.2.2.2.2.1, cell_on bw6 hHeld.2.2.2.2.2.2.1, cell_on bw6 hHeld.2.2.2.2.2.2.2.1, cell_on bw6 hHeld.2.2.2.2.2.2.2.2.1, cell_on bw6 hHeld.2.2.2.2.2.2.2.2.2.1, also hHeld.2.2.2.2.2.2.2.2.2.2 bw6⟩ | exact ⟨cell_on bw5 hHeld.1, cell_on bw5 hHeld.2.1, cell_on bw5 hHeld.2.2.1, cell_on bw5 hHeld.2.2.2.1, cell_on bw5 hHeld.2.2.2.2.1, cell_on bw5 hHeld.2.2.2.2.2.1, cell_on bw5 hHeld.2.2.2.2.2.2.1, cell_on bw5 hHeld.2.2.2.2.2.2.2.1, cell_on bw5 hHeld.2.2.2.2.2.2.2.2.1, cell_on bw5 hHeld.2.2.2.2.2.2.2.2.2.1, also hHeld.2.2.2.2.2.2.2.2.2.2 bw5⟩ | exact ⟨cell_put3 hHeld.1 (by omega) _ _ _, cell_put3 hHeld.2.1 (by omega) _ _ _, cell_put3 hHeld.2.2.1 (by omega) _ _ _, cell_put3 hHeld.2.2.2.1 (by omega) _ _ _, cell_put3 hHeld.2.2.2.2.1 (by omega) _ _ _, cell_put3 hHeld.2.2.2.2.2.1 (by omega) _ _ _, cell_put3 hHeld.2.2.2.2.2.2.1 (by omega) _ _ _, cell_put3 hHeld.2.2.2.2.2.2.2.1 (by omega) _ _ _, cell_put3 hHeld.2.2.2.2.2.2.2.2.1 (by omega) _ _ _, cell_put3 hHeld.2.2.2.2.2.2.2.2.2.1 (by omega) _ _ _, below_put3 hHeld.2.2.2.2.2.2.2.2.2.2 (by omega) _ _ _⟩
  clear hK Kc
  refine wpAnyH_done (by kernel_rfl) ?_ _
  go_wp2
  exact bodyPost_ret (v := .agg #[.bool n7, .slice a7 l7 c7, .slice d7 m7 k7]) (by simp [results, Tryz.results12, go_sem, *]) rfl (endQ _ (by omega) BB h7 (f7.mono (by omega)) (g7.mono (by omega)) _ _ _)
set_option maxRecDepth 100000 in
set_option maxHeartbeats 1000000 in
theorem qMul (n : Bool) (a : Option Addr) (la ca : Nat) (d : Option Addr) (ld cd : Nat) (za : Int) (Da : Nat) (m : Bool) (b : Option Addr) (lb cb : Nat) (g : Option Addr) (lg cg : Nat) (zb : Int) (Db : Nat) (K : Nat) (w : World) (ha : QI w K n a la ca d ld cd za Da) (hb : QI w K m b lb cb g lg cg zb Db) (N : Int) (E : Nat) (hN : N = lowN (pN za Da * pN zb Db) (pD Da * pD Db)) (hE : E = lowD (pN za Da * pN zb Db) (pD Da * pD Db)) :
    Calls Tryz.prog 20 #[.agg #[.bool n, .slice a la ca, .slice d ld cd], .agg #[.bool m, .slice b lb cb, .slice g lg cg]] w (GotQ w N E) := by
  have HN : Hid _ := hN
  have HE : Hid _ := hE
  have kk := ha.kk
  clear hN hE
  obtain ⟨W, hW, bW, x_a, x_b, x_z, sW⟩ := bs_333 w (.bool n) (.slice a la ca) (.slice d ld cd) (.bool m) (.slice b lb cb) (.slice g lg cg) (.bool false) (.slice none 0 0) (.slice none 0 0) 27 27 27
  have zbW := bW.size
  replace ha := ha.below bW
  replace hb := hb.below bW
  have BB := bW
  go_enter Tryz.func20, Tryz.ntmps20
  go_wp2_with (go_at_call 44; fail)
  rw [← hW]
  clear hW
  refine (qParts n a la ca d ld cd za Da K W ha).mono ?_
  rintro e w1 ⟨n1, a1, l1, c1, d1, m1, k1, rfl, h1, bw1⟩
  have zbw1 := bw1.size
  replace ha := ha.below bw1
  replace hb := hb.below bw1
  replace BB := also BB bw1
  replace x_a := x_a.on bw1
  replace x_b := x_b.on bw1
  replace x_z := x_z.on bw1
  obtain ⟨V1, hV1, bV1, x_r, sV1⟩ := bs_2 w1 (.bool n1) (.slice a1 l1 c1) 25
  have zbV1 := bV1.size
  replace ha := ha.below bV1
  replace hb := hb.below bV1
  replace BB := also BB bV1
  replace x_a := x_a.on bV1
  replace x_b := x_b.on bV1
  replace x_z := x_z.on bV1
  replace h1 := h1.below bV1
  have st_b_0 : (w1.alloc (.cells #[.bool n1, .slice a1 l1 c1] 25)).cell? ⟨w.heap.size + 1, 0, none⟩ = some (.bool m) := by rw [← hV1]; exact x_b.c0
  have st_b_1 : (w1.alloc (.cells #[.bool n1, .slice a1 l1 c1] 25)).cell? ⟨w.heap.size + 1, 1, none⟩ = some (.slice b lb cb) := by rw [← hV1]; exact x_b.c1
  have st_b_2 : (w1.alloc (.cells #[.bool n1, .slice a1 l1 c1] 25)).cell? ⟨w.heap.size + 1, 2, none⟩ = some (.slice g lg cg) := by rw [← hV1]; exact x_b.c2
  have sf_b_0 : (w1.alloc (.cells #[.bool n1, .slice a1 l1 c1] 25)).frozen? ⟨w.heap.size + 1, 0, none⟩ = false := by rw [← hV1]; exact x_b.f0
  have sf_b_1 : (w1.alloc (.cells #[.bool n1, .slice a1 l1 c1] 25)).frozen? ⟨w.heap.size + 1, 1, none⟩ = false := by rw [← hV1]; exact x_b.f1
  have sf_b_2 : (w1.alloc (.cells #[.bool n1, .slice a1 l1 c1] 25)).frozen? ⟨w.heap.size + 1, 2, none⟩ = false := by rw [← hV1]; exact x_b.f2
  go_wp2_with (go_at_call 44; fail)
  rw [← hV1]
  clear hV1 st_b_0 st_b_1 st_b_2 sf_b_0 sf_b_1 sf_b_2
  refine (qParts m b lb cb g lg cg zb Db K V1 hb).mono ?_
  rintro e w2 ⟨n2, a2, l2, c2, d2, m2, k2, rfl, h2, bw2⟩
  have zbw2 := bw2.size
  replace ha := ha.below bw2
  replace hb := hb.below bw2
  replace BB := also BB bw2
  replace x_a := x_a.on bw2
  replace x_b := x_b.on bw2
  replace x_z := x_z.on bw2
  replace h1 := h1.below bw2
  replace x_r := x_r.on bw2
  obtain ⟨V2, hV2, bV2, x_s, sV2⟩ := bs_2 w2 (.bool n2) (.slice a2 l2 c2) 25
  have zbV2 := bV2.size
  replace ha := ha.below bV2
  replace hb := hb.below bV2
  replace BB := also BB bV2
  replace x_a := x_a.on bV2
  replace x_b := x_b.on bV2
  replace x_z := x_z.on bV2
  replace h1 := h1.below bV2
  replace x_r := x_r.on bV2
  replace h2 := h2.below bV2
  have st_r_0 : (w2.alloc (.cells #[.bool n2, .slice a2 l2 c2] 25)).cell? ⟨w1.heap.size, 0, none⟩ = some (.bool n1) := by rw [← hV2]; exact x_r.c0
  have st_r_1 : (w2.alloc (.cells #[.bool n2, .slice a2 l2 c2] 25)).cell? ⟨w1.heap.size, 1, none⟩ = some (.slice a1 l1 c1) := by rw [← hV2]; exact x_r.c1
  have sf_r_0 : (w2.alloc (.cells #[.bool n2, .slice a2 l2 c2] 25)).frozen? ⟨w1.heap.size, 0, none⟩ = false := by rw [← hV2]; exact x_r.f0
  have sf_r_1 : (w2.alloc (.cells #[.bool n2, .slice a2 l2 c2] 25)).frozen? ⟨w1.heap.size, 1, none⟩ = false := by rw [← hV2]; exact x_r.f1
  go_wp2
  rw [← hV2]
  clear hV2 st_r_0 st_r_1 sf_r_0 sf_r_1
  have dd1 : Below V2.heap.size V2 V2.drew := (Below.refl _ _).drew
  have zdd1 := dd1.size
  replace ha := ha.below dd1
  replace hb := hb.below dd1
  replace BB := also BB dd1
  replace x_a := x_a.on dd1
  replace x_b := x_b.on dd1
  replace x_z := x_z.on dd1
  replace h1 := h1.below dd1
  replace x_r := x_r.on dd1
  replace h2 := h2.below dd1
  replace x_s := x_s.on dd1
  refine wp_region_held_drew (S := (fun w' => w'.cell? ⟨w1.heap.size, 0, none⟩ = some (.bool n1) ∧ w'.cell? ⟨w1.heap.size, 1, none⟩ = some (.slice a1 l1 c1) ∧ w'.cell? ⟨w2.heap.size, 0, none⟩ = some (.bool n2) ∧ w'.cell? ⟨w2.heap.size, 1, none⟩ = some (.slice a2 l2 c2) ∧ w'.cell? ⟨w.heap.size, 0, none⟩ = some (.bool n) ∧ w'.cell? ⟨w.heap.size, 1, none⟩ = some (.slice a la ca) ∧ w'.cell? ⟨w.heap.size, 2, none⟩ = some (.slice d ld cd) ∧ w'.cell? ⟨w.heap.size + 1, 0, none⟩ = some (.bool m) ∧ w'.cell? ⟨w.heap.size + 1, 1, none⟩ = some (.slice b lb cb) ∧ w'.cell? ⟨w.heap.size + 1, 2, none⟩ = some (.slice g lg cg) ∧ Below w.heap.size w w')) (by kernel_rfl) ?_ (fun hHeld => ?_)
  · first | exact ⟨x_r.c0, x_r.c1, x_s.c0, x_s.c1, x_a.c0, x_a.c1, x_a.c2, x_b.c0, x_b.c1, x_b.c2, BB⟩ | exact ⟨cell_on bw7 hHeld.1, cell_on bw7 hHeld.2.1, cell_on bw7 hHeld.2.2.1, cell_on bw7 hHeld.2.2.2.1, cell_on bw7 hHeld.2.2.2.2.1, cell_on bw7 hHeld.2.2.2.2.2.1, cell_on bw7 hHeld.2.2.2.2.2.2.1, cell_on bw7 hHeld.2.2.2.2.2.2.2.1, cell_on bw7 hHeld.2.2.2.2.2.2.2.2.1, cell_on bw7 hHeld.2.2.2.2.2.2.2.2.2.1, also hHeld.2.2.2.2.2.2.2.2.2.2 bw7⟩ | exact ⟨cell_on bw6 hHeld.1, cell_on bw6 hHeld.2.1, cell_on bw6 hHeld.2.2.1, cell_on bw6 hHeld.2.2.2.1, cell_on bw6 hHeld.2.2.2.2.1, cell_on bw6 hHeld.2.2.2.2.2.1, cell_on bw6 hHeld.2.2.2.2.2.2.1, cell_on bw6 hHeld.2.2.2.2.2.2.2.1, cell_on bw6 hHeld.2.2.2.2.2.2.2.2.1, cell_on bw6 hHeld.2.2.2.2.2.2.2.2.2.1, also hHeld.2.2.2.2.2.2.2.2.2.2 bw6⟩ | exact ⟨cell_on bw5 hHeld.1, cell_on bw5 hHeld.2.1, cell_on bw5 hHeld.2.2.1, cell_on bw5 hHeld.2.2.2.1, cell_on bw5 hHeld.2.2.2.2.1, cell_on bw5 hHeld.2.2.2.2.2.1, cell_on bw5 hHeld.2.2.2.2.2.2.1, cell_on bw5 hHeld.2.2.2.2.2.2.2.1, cell_on bw5 hHeld.2.2.2.2.2.2.2.2.1, cell_on bw5 hHeld.2.2.2.2.2.2.2.2.2.1, also hHeld.2.2.2.2.2.2.2.2.2.2 bw5⟩ | exact ⟨cell_put3 hHeld.1 (by omega) _ _ _, cell_put3 hHeld.2.1 (by omega) _ _ _, cell_put3 hHeld.2.2.1 (by omega) _ _ _, cell_put3 hHeld.2.2.2.1 (by omega) _ _ _, cell_put3 hHeld.2.2.2.2.1 (by omega) _ _ _, cell_put3 hHeld.2.2.2.2.2.1 (by omega) _ _ _, cell_put3 hHeld.2.2.2.2.2.2.1 (by omega) _ _ _, cell_put3 hHeld.2.2.2.2.2.2.2.1 (by omega) _ _ _, cell_put3 hHeld.2.2.2.2.2.2.2.2.1 (by omega) _ _ _, cell_put3 hHeld.2.2.2.2.2.2.2.2.2.1 (by omega) _ _ _, below_put3 hHeld.2.2.2.2.2.2.2.2.2.2 (by omega) _ _ _⟩
  refine take_yes (i := 0) (v := ?vr0) rfl (by kernel_rfl) (by kernel_rfl) (by kernel_rfl) (fun _ _ _ h => h) (by rfl) (by assumption) ?hyr0 ?restr0
  case hyr0 => (intro w hSw; (try dsimp only at hSw); first | (go_simp; done) | (go_simp; with_reducible rfl))
  simp only [Act.put, List.setIfInBounds_toArray, List.set_cons_zero, List.set_cons_succ]
  refine take_yes (i := 1) (v := ?vr1) rfl (by kernel_rfl) (by kernel_rfl) (by kernel_rfl) (fun _ _ _ h => h) (by rfl) (by assumption) ?hyr1 ?restr1
  case hyr1 => (intro w hSw; (try dsimp only at hSw); first | (go_simp; done) | (go_simp; with_reducible rfl))
  simp only [Act.put, List.setIfInBounds_toArray, List.set_cons_zero, List.set_cons_succ]
  refine take_yes (i := 3) (v := ?vr3) rfl (by kernel_rfl) (by kernel_rfl) (by kernel_rfl) (fun _ _ _ h => h) (by rfl) (by assumption) ?hyr3 ?restr3
  case hyr3 => (intro w hSw; (try dsimp only at hSw); first | (go_simp; done) | (go_simp; with_reducible rfl))
  simp only [Act.put, List.setIfInBounds_toArray, List.set_cons_zero, List.set_cons_succ]
  refine take_yes (i := 4) (v := ?vr4) rfl (by kernel_rfl) (by kernel_rfl) (by kernel_rfl) (fun _ _ _ h => h) (by rfl) (by assumption) ?hyr4 ?restr4
  case hyr4 => (intro w hSw; (try dsimp only at hSw); first | (go_simp; done) | (go_simp; with_reducible rfl))
  simp only [Act.put, List.setIfInBounds_toArray, List.set_cons_zero, List.set_cons_succ]
  refine take_call (i := 2) rfl (by kernel_rfl) (fun Kc hK => ?_)
  go_simp
  (go_at_call 48; refine (wMul n1 n2 a1 a2 l1 l2 c1 c2 _ _ _ h1.wi h2.wi (pN za Da * pN zb Db) rfl).mono ?_; rintro e w5 ⟨n5, a5, l5, c5, rfl, h5, f5, bw5⟩)
  refine hK.out _ _ ?_ (fun hHeld => ?_)
  · first | exact ⟨x_r.c0, x_r.c1, x_s.c0, x_s.c1, x_a.c0, x_a.c1, x_a.c2, x_b.c0, x_b.c1, x_b.c2, BB⟩ | exact ⟨cell_on bw7 hHeld.1, cell_on bw7 hHeld.2.1, cell_on bw7 hHeld.2.2.1, cell_on bw7 hHeld.2.2.2.1, cell_on bw7 hHeld.2.2.2.2.1, cell_on bw7 hHeld.2.2.2.2.2.1, cell_on bw7 hHeld.2.2.2.2.2.2.1, cell_on bw7 hHeld.2.2.2.2.2.2.2.1, cell_on bw7 hHeld.2.2.2.2.2.2.2.2.1, cell_on bw7 hHeld.2.2.2.2.2.2.2.2.2.1, also hHeld.2.2.2.2.2.2.2.2.2.2 bw7⟩ | exact ⟨cell_on bw6 hHeld.1, cell_on bw6 hHeld.2.1, cell_on bw6 hHeld.2.2.1, cell_on bw6 hHeld.2.2.2.1, cell_on bw6 hHeld.2.2.2.2.1, cell_on bw6 hHeld.2.2.2.2.2.1, cell_on bw6 hHeld.2.2.2.2.2.2.1, cell_on bw6 hHeld.2.2.2.2.2.2.2.1, cell_on bw6 hHeld.2.2.2.2.2.2.2.2.1, cell_on bw6 hHeld.2.2.2.2.2.2.2.2.2.1, also hHeld.2.2.2.2.2.2.2.2.2.2 bw6⟩ | exact ⟨cell_on bw5 hHeld.1, cell_on bw5 hHeld.2.1, cell_on bw5 hHeld.2.2.1, cell_on bw5 hHeld.2.2.2.1, cell_on bw5 hHeld.2.2.2.2.1, cell_on bw5 hHeld.2.2.2.2.2.1, cell_on bw5 hHeld.2.2.2.2.2.2.1, cell_on bw5 hHeld.2.2.2.2.2.2.2.1, cell_on bw5 hHeld.2.2.2.2.2.2.2.2.1, cell_on bw5 hHeld.2.2.2.2.2.2.2.2.2.1, also hHeld.2.2.2.2.2.2.2.2.2.2 bw5⟩ | exact ⟨cell_put3 hHeld.1 (by omega) _ _ _, cell_put3 hHeld.2.1 (by omega) _ _ _, cell_put3 hHeld.2.2.1 (by omega) _ _ _, cell_put3 hHeld.2.2.2.1 (by omega) _ _ _, cell_put3 hHeld.2.2.2.2.1 (by omega) _ _ _, cell_put3 hHeld.2.2.2.2.2.1 (by omega) _ _ _, cell_put3 hHeld.2.2.2.2.2.2.1 (by omega) _ _ _, cell_put3 hHeld.2.2.2.2.2.2.2.1 (by omega) _ _ _, cell_put3 hHeld.2.2.2.2.2.2.2.2.1 (by omega) _ _ _, cell_put3 hHeld.2.2.2.2.2.2.2.2.2.1 (by omega) _ _ _, below_put3 hHeld.2.2.2.2.2.2.2.2.2.2 (by omega) _ _ _⟩
  clear hK Kc
  have zbw5 := bw5.size
  replace ha := ha.below bw5
  replace hb := hb.below bw5
  replace BB := also BB bw5
  replace x_a := x_a.on bw5
  replace x_b := x_b.on bw5
  replace x_z := x_z.on bw5
  replace h1 := h1.below bw5
  replace x_r := x_r.on bw5
  replace h2 := h2.below bw5
  replace x_s := x_s.on bw5
  refine take_call (i := 5) rfl (by kernel_rfl) (fun Kc hK => ?_)
  go_simp
  (go_at_call 40; refine (qBoth n a la ca d ld cd za Da m b lb cb g lg cg zb Db K _ ha hb).mono ?_; rintro e w6 ⟨a6, l6, c6, rfl, h6, bw6⟩)
  refine hK.out _ _ ?_ (fun hHeld => ?_)
  · first | exact ⟨x_r.c0, x_r.c1, x_s.c0, x_s.c1, x_a.c0, x_a.c1, x_a.c2, x_b.c0, x_b.c1, x_b.c2, BB⟩ | exact ⟨cell_on bw7 hHeld.1, cell_on bw7 hHeld.2.1, cell_on bw7 hHeld.2.2.1, cell_on bw7 hHeld.2.2.2.1, cell_on bw7 hHeld.2.2.2.2.1, cell_on bw7 hHeld.2.2.2.2.2.1, cell_on bw7 hHeld.2.2.2.2.2.2.1, cell_on bw7 hHeld.2.2.2.2.2.2.2.1, cell_on bw7 hHeld.2.2.2.2.2.2.2.2.1, cell_on bw7 hHeld.2.2.2.2.2.2.2.2.2.1, also hHeld.2.2.2.2.2.2.2.2.2.2 bw7⟩ | exact ⟨cell_on bw6 hHeld.1, cell_on bw6 hHeld.2.1, cell_on bw6 hHeld.2.2.1, cell_on bw6 hHeld.2.2.2.1, cell_on bw6 hHeld.2.2.2.2.1, cell_on bw6 hHeld.2.2.2.2.2.1, cell_on bw6 hHeld.2.2.2.2.2.2.1, cell_on bw6 hHeld.2.2.2.2.2.2.2.1, cell_on bw6 hHeld.2.2.2.2.2.2.2.2.1, cell_on bw6 hHeld.2.2.2.2.2.2.2.2.2.1, also hHeld.2.2.2.2.2.2.2.2.2.2 bw6⟩ | exact ⟨cell_on bw5 hHeld.1, cell_on bw5 hHeld.2.1, cell_on bw5 hHeld.2.2.1, cell_on bw5 hHeld.2.2.2.1, cell_on bw5 hHeld.2.2.2.2.1, cell_on bw5 hHeld.2.2.2.2.2.1, cell_on bw5 hHeld.2.2.2.2.2.2.1, cell_on bw5 hHeld.2.2.2.2.2.2.2.1, cell_on bw5 hHeld.2.2.2.2.2.2.2.2.1, cell_on bw5 hHeld.2.2.2.2.2.2.2.2.2.1, also hHeld.2.2.2.2.2.2.2.2.2.2 bw5⟩ | exact ⟨cell_put3 hHeld.1 (by omega) _ _ _, cell_put3 hHeld.2.1 (by omega) _ _ _, cell_put3 hHeld.2.2.1 (by omega) _ _ _, cell_put3 hHeld.2.2.2.1 (by omega) _ _ _, cell_put3 hHeld.2.2.2.2.1 (by omega) _ _ _, cell_put3 hHeld.2.2.2.2.2.1 (by omega) _ _ _, cell_put3 hHeld.2.2.2.2.2.2.1 (by omega) _ _ _, cell_put3 hHeld.2.2.2.2.2.2.2.1 (by omega) _ _ _, cell_put3 hHeld.2.2.2.2.2.2.2.2.1 (by omega) _ _ _, cell_put3 hHeld.2.2.2.2.2.2.2.2.2.1 (by omega) _ _ _, below_put3 hHeld.2.2.2.2.2.2.2.2.2.2 (by omega) _ _ _⟩
  clear hK Kc
  have zbw6 := bw6.size
  replace ha := ha.below bw6
  replace hb := hb.below bw6
  replace BB := also BB bw6
  replace x_a := x_a.on bw6
  replace x_b := x_b.on bw6
  replace x_z := x_z.on bw6
  replace h1 := h1.below bw6
  replace x_r := x_r.on bw6
  replace h2 := h2.below bw6
  replace x_s := x_s.on bw6
  replace h5 := h5.below bw6
  refine take_call (i := 6) rfl (by kernel_rfl) (fun Kc hK => ?_)
  go_simp
  (go_at_call 38; refine (qLow n5 a5 l5 c5 _ a6 l6 c6 _ _ (h5.wi (K + K + 1) (by omega) (Nat.lt_of_lt_of_le (abs_mul' ha.pn hb.pn) (Nat.pow_le_pow_right (by decide) (by omega)))) (h6.ni (K + K) (by omega) (nat_mul' ha.pd hb.pd)) (Nat.mul_pos (pD_pos _) (pD_pos _)) N E HN.out HE.out).mono ?_; rintro e w7 ⟨n7, a7, l7, c7, d7, m7, k7, rfl, h7, f7, g7, bw7⟩)
  refine hK.out _ _ ?_ (fun hHeld => ?_)
  · first | exact ⟨x_r.c0, x_r.c1, x_s.c0, x_s.c1, x_a.c0, x_a.c1, x_a.c2, x_b.c0, x_b.c1, x_b.c2, BB⟩ | exact ⟨cell_on bw7 hHeld.1, cell_on bw7 hHeld.2.1, cell_on bw7 hHeld.2.2.1, cell_on bw7 hHeld.2.2.2.1, cell_on bw7 hHeld.2.2.2.2.1, cell_on bw7 hHeld.2.2.2.2.2.1, cell_on bw7 hHeld.2.2.2.2.2.2.1, cell_on bw7 hHeld.2.2.2.2.2.2.2.1, cell_on bw7 hHeld.2.2.2.2.2.2.2.2.1, cell_on bw7 hHeld.2.2.2.2.2.2.2.2.2.1, also hHeld.2.2.2.2.2.2.2.2.2.2 bw7⟩ | exact ⟨cell_on bw6 hHeld.1, cell_on bw6 hHeld.2.1, cell_on bw6 hHeld.2.2.1, cell_on bw6 hHeld.2.2.2.1, cell_on bw6 hHeld.2.2.2.2.1, cell_on bw6 hHeld.2.2.2.2.2.1, cell_on bw6 hHeld.2.2.2.2.2.2.1, cell_on bw6 hHeld.2.2.2.2.2.2.2.1, cell_on bw6 hHeld.2.2.2.2.2.2.2.2.1, cell_on bw6 hHeld.2.2.2.2.2.2.2.2.2.1, also hHeld.2.2.2.2.2.2.2.2.2.2 bw6⟩ | exact ⟨cell_on bw5 hHeld.1, cell_on bw5 hHeld.2.1, cell_on bw5 hHeld.2.2.1, cell_on bw5 hHeld.2.2.2.1, cell_on bw5 hHeld.2.2.2.2.1, cell_on bw5 hHeld.2.2.2.2.2.1, cell_on bw5 hHeld.2.2.2.2.2.2.1, cell_on bw5 hHeld.2.2.2.2.2.2.2.1, cell_on bw5 hHeld.2.2.2.2.2.2.2.2.1, cell_on bw5 hHeld.2.2.2.2.2.2.2.2.2.1, also hHeld.2.2.2.2.2.2.2.2.2.2 bw5⟩ | exact ⟨cell_put3 hHeld.1 (by omega) _ _ _, cell_put3 hHeld.2.1 (by omega) _ _ _, cell_put3 hHeld.2.2.1 (by omega) _ _ _, cell_put3 hHeld.2.2.2.1 (by omega) _ _ _, cell_put3 hHeld.2.2.2.2.1 (by omega) _ _ _, cell_put3 hHeld.2.2.2.2.2.1 (by omega) _ _ _, cell_put3 hHeld.2.2.2.2.2.2.1 (by omega) _ _ _, cell_put3 hHeld.2.2.2.2.2.2.2.1 (by omega) _ _ _, cell_put3 hHeld.2.2.2.2.2.2.2.2.1 (by omega) _ _ _, cell_put3 hHeld.2.2.2.2.2.2.2.2.2.1 (by omega) _ _ _, below_put3 hHeld.2.2.2.2.2.2.2.2.2.2 (by omega) _ _ _⟩
  clear hK Kc
  have zbw7 := bw7.size
  replace ha := ha.below bw7
  replace hb := hb.below bw7
  replace BB := also BB bw7
  replace x_a := x_a.on bw7
  replace x_b := x_b.on bw7
  replace x_z := x_z.on bw7
  replace h1 := h1.below bw7
  replace x_r := x_r.on bw7
  replace h2 := h2.below bw7
  replace x_s := x_s.on bw7
  replace h5 := h5.below bw7
  replace h6 := h6.below bw7
  have ⟨x_z_0, x_z_1, x_z_2, x_z_3, x_z_4, x_z_5⟩ := x_z
  refine take_call (i := 7) rfl (by kernel_rfl) (fun Kc hK => ?_)
  go_simp
  refine hK.out _ _ ?_ (fun hHeld => ?_)
  · first | exact ⟨x_r.c0, x_r.c1, x_s.c0, x_s.c1, x_a.c0, x_a.c1, x_a.c2, x_b.c0, x_b.c1, x_b.c2, BB⟩ | exact ⟨cell_on bw7 hHeld.1, cell_on bw7 hHeld.2.1, cell_on bw7 hHeld.2.2.1, cell_on bw7 hHeld.2.2.2.1, cell_on bw7 hHeld.2.2.2.2.1, cell_on bw7 hHeld.2.2.2.2.2.1, cell_on bw7 hHeld.2.2.2.2.2.2.1, cell_on bw7 hHeld.2.2.2.2.2.2.2.1, cell_on bw7 hHeld.2.2.2.2.2.2.2.2.1, cell_on bw7 hHeld.2.2.2.2.2.2.2.2.2.1, also hHeld.2.2.2.2.2.2.2.2.2.2 bw7⟩ | exact ⟨cell_on bw6 hHeld.1, cell_on bw6 hHeld.2.1, cell_on bw6 hHeld.2.2.1, cell_on bw6 hHeld.2.2.2.1, cell_on bw6 hHeld.2.2.2.2.1, cell_on bw6 hHeld.2.2.2.2.2.1, cell_on bw6 hHeld.2.2.2.2.2.2.1, cell_on bw6 hHeld.2.2.2.2.2.2.2.1, cell_on bw6 hHeld.2.2.2.2.2.2.2.2.1, cell_on bw6 hHeld.2.2.2.2.2.2.2.2.2.1, also hHeld.2.2.2.2.2.2.2.2.2.2 bw6⟩ | exact ⟨cell_on bw5 hHeld.1, cell_on bw5 hHeld.2.1, cell_on bw5 hHeld.2.2.1, cell_on bw5 hHeld.2.2.2.1, cell_on bw5 hHeld.2.2.2.2.1, cell_on bw5 hHeld.2.2.2.2.2.1, cell_on bw5 hHeld.2.2.2.2.2.2.1, cell_on bw5 hHeld.2.2.2.2.2.2.2.1, cell_on bw5 hHeld.2.2.2.2.2.2.2.2.1, cell_on bw5 hHeld.2.2.2.2.2.2.2.2.2.1, also hHeld.2.2.2.2.2.2.2.2.2.2 bw5⟩ | exact ⟨cell_put3 hHeld.1 (by omega) _ _ _, cell_put3 hHeld.2.1 (by omega) _ _ _, cell_put3 hHeld.2.2.1 (by omega) _ _ _, cell_put3 hHeld.2.2.2.1 (by omega) _ _ _, cell_put3 hHeld.2.2.2.2.1 (by omega) _ _ _, cell_put3 hHeld.2.2.2.2.2.1 (by omega) _ _ _, cell_put3 hHeld.2.2.2.2.2.2.1 (by omega) _ _ _, cell_put3 hHeld.2.2.2.2.2.2.2.1 (by omega) _ _ _, cell_put3 hHeld.2.2.2.2.2.2.2.2.1 (by omega) _ _ _, cell_put3 hHeld.2.2.2.2.2.2.2.2.2.1 (by omega) _ _ _, below_put3 hHeld.2.2.2.2.2.2.2.2.2.2 (by omega) _ _ _⟩
  clear hK Kc
  refine wpAnyH_done (by kernel_rfl) ?_ _
  go_wp2
  exact bodyPost_ret (v := .agg #[.bool n7, .slice a7 l7 c7, .slice d7 m7 k7]) (by simp [results, Tryz.results20, go_sem, *]) rfl (endQ _ (by omega) BB h7 (f7.mono (by omega)) (g7.mono (by omega)) _ _ _)
end Go.Proofs.YtaekgomplkkocaaGreatDoor

namespace Go.Proofs.YtaekgomplkkocaaGreatDoor
open Go.RowKit
set_option linter.unusedVariables false

theorem hf_top_eq {u v m k : Nat} (hk : k ≤ m) (hu : u < 65536 ^ m) (hv : v < 65536 ^ m) (h : ∀ j, k ≤ j → j < m → hf.dg (u : Int) j = hf.dg (v : Int) j) : u / 65536 ^ k = v / 65536 ^ k := by
  have hlt : ∀ x : Nat, x < 65536 ^ m → x / 65536 ^ k < 65536 ^ (m - k) := fun x hx => by
    refine Nat.div_lt_of_lt_mul ?_
    rw [← Nat.pow_add, show k + (m - k) = m by omega]
    exact hx
  refine hf.eq_of_dcells (m - k) _ _ (hlt u hu) (hlt v hv) fun j hj => ?_
  rw [Int.natCast_ediv, Int.natCast_ediv, hf.pow_cast, hf.dg_div, hf.dg_div]
  exact h _ (by omega) (by omega)
theorem cmpI_lt {x y : Int} (h : x < y) : cmpI x y = -1 := by unfold cmpI; rw [if_pos h]
theorem cmpI_gt {x y : Int} (h : y < x) : cmpI x y = 1 := by unfold cmpI; rw [if_neg (by omega), if_pos h]

set_option maxRecDepth 100000 in
set_option maxHeartbeats 1000000 in
theorem rcmp_any (a b : Option Addr) (ca cb u v : Nat) (w : World) (ha : Sl w a (hf.nlen u) ca (hf.dcells (hf.nlen u) (u : Int))) (hb : Sl w b (hf.nlen v) cb (hf.dcells (hf.nlen v) (v : Int))) :
    Calls Tryz.prog 73 #[.slice a (hf.nlen u) ca, .slice b (hf.nlen v) cb] w fun e w' => e = .returned (.int .i64 (cmpI u v)) ∧ Below w.heap.size w w' := by
  have k1 := ha.big
  have k2 := ha.room
  have k3 := hb.big
  have k4 := hb.room
  unfold maxLen at k1 k3
  rcases Nat.lt_trichotomy (hf.nlen u) (hf.nlen v) with h | h | h
  · have HC : Hid (cmpI u v = -1) := cmpI_lt (by have := hf.lt_of_nlen h; omega)
    go_enter Tryz.func73, Tryz.ntmps73
    go_wp2
    go_ret
    exact ⟨by rw [HC.out]; rfl, (by first | exact Below.refl _ _ | exact below_drewN (Below.refl _ _) _ | exact below_drewN (below_drewN (Below.refl _ _) _) _ | exact below_drewN (below_drewN (below_drewN (Below.refl _ _) _) _) _)⟩
  · obtain ⟨m, hm⟩ : ∃ m, hf.nlen u = m := ⟨_, rfl⟩
    have hv := hf.nlen_lt v
    have hu := hf.nlen_lt u
    rw [← h] at hb hv k4 ⊢
    rw [hm] at ha hb hu hv k2 k4 ⊢
    have HU : Hid _ := hu
    have HV : Hid _ := hv
    clear hm hu hv h
    go_enter Tryz.func73, Tryz.ntmps73
    go_wp2
    go_loopw [5] (fun i wr => ∃ r : Nat, r ≤ m ∧ i = .int .i64 ((r : Int) - 1) ∧ Hid (∀ j, r ≤ j → j < m → hf.dg (u : Int) j = hf.dg (v : Int) j) ∧ ∃ n, wr = w.drewN n) (fun i _ => (intOf i + 1).toNat)
    case atStart => exact ⟨m, Nat.le_refl _, rfl, fun j h1 h2 => absurd h1 (by omega), 0, rfl⟩
    case round =>
      obtain ⟨r, hr, rfl, HR, n, rfl⟩ := hrel
      rcases r with _ | q
      · have HE : Hid (cmpI u v = 0) := by
          obtain rfl : u = v := hf.eq_of_dcells m u v HU.out HV.out (fun j hj => HR.out j (Nat.zero_le _) hj)
          exact cmpI_self _
        go_wp2
        go_ret
        exact ⟨by rw [HE.out]; rfl, (by first | exact Below.refl _ _ | exact below_drewN (Below.refl _ _) _ | exact below_drewN (below_drewN (Below.refl _ _) _) _ | exact below_drewN (below_drewN (below_drewN (Below.refl _ _) _) _) _)⟩
      · obtain ⟨ba, oa, rfl, hba, hsa⟩ := ha.at (by omega)
        obtain ⟨bb, ob, rfl, hbb, hsb⟩ := hb.at (by omega)
        have c1 : w.cell? ⟨ba, oa + q, none⟩ = some (.int .i64 (hf.dg u q)) := hsa.cell q _ (hf.dcells_at _ _ _ (by omega))
        have c2 : w.cell? ⟨bb, ob + q, none⟩ = some (.int .i64 (hf.dg v q)) := hsb.cell q _ (hf.dcells_at _ _ _ (by omega))
        have HT : Hid (u / 65536 ^ (q + 1) = v / 65536 ^ (q + 1)) := hf_top_eq (by omega) HU.out HV.out HR.out
        have e1 : ((q + 1 : Nat) : Int) - 1 = (q : Int) := by omega
        obtain ⟨X, hX⟩ : ∃ X, hf.dg (u : Int) q = X := ⟨_, rfl⟩
        obtain ⟨Y, hY⟩ : ∃ Y, hf.dg (v : Int) q = Y := ⟨_, rfl⟩
        rcases Int.lt_trichotomy X Y with l | l | l
        · have HC : Hid (cmpI u v = -1) := cmpI_lt (by have := hf.lt_of_top HT.out (by rw [hX, hY]; exact l); omega)
          rw [hX] at c1
          rw [hY] at c2
          clear hX hY
          go_wp2
          go_quiet (fail)
          go_wp2
          go_ret
          exact ⟨by rw [HC.out]; rfl, (by first | exact Below.refl _ _ | exact below_drewN (Below.refl _ _) _ | exact below_drewN (below_drewN (Below.refl _ _) _) _ | exact below_drewN (below_drewN (below_drewN (Below.refl _ _) _) _) _)⟩
        · have HQ : Hid (∀ j, q ≤ j → j < m → hf.dg (u : Int) j = hf.dg (v : Int) j) := fun j h1 h2 => by
            rcases Nat.lt_or_ge q j with h3 | h3
            · exact HR.out j h3 h2
            · obtain rfl : j = q := by omega
              rw [hX, hY, l]
          have l1 : ¬ X < Y := by omega
          have l2 : ¬ Y < X := by omega
          rw [hX] at c1
          rw [hY] at c2
          clear hX hY l
          go_wp2
          go_quiet (fail)
          go_wp2
          go_quiet (fail)
          go_wp2
          go_roundw
          case rel => exact ⟨q, by omega, by go_num, HQ.out, _, rfl⟩
          case measure => simp [intOf]
        · have HC : Hid (cmpI u v = 1) := cmpI_gt (by have := hf.lt_of_top HT.out.symm (by rw [hX, hY]; exact l); omega)
          have l1 : ¬ X < Y := by omega
          rw [hX] at c1
          rw [hY] at c2
          clear hX hY
          go_wp2
          go_quiet (fail)
          go_wp2
          go_quiet (fail)
          go_wp2
          go_ret
          exact ⟨by rw [HC.out]; rfl, (by first | exact Below.refl _ _ | exact below_drewN (Below.refl _ _) _ | exact below_drewN (below_drewN (Below.refl _ _) _) _ | exact below_drewN (below_drewN (below_drewN (Below.refl _ _) _) _) _)⟩
  · have HC : Hid (cmpI u v = 1) := cmpI_gt (by have := hf.lt_of_nlen h; omega)
    have h' : ¬ (hf.nlen u : Int) < hf.nlen v := by omega
    go_enter Tryz.func73, Tryz.ntmps73
    go_wp2
    go_ret
    exact ⟨by rw [HC.out]; rfl, (by first | exact Below.refl _ _ | exact below_drewN (Below.refl _ _) _ | exact below_drewN (below_drewN (Below.refl _ _) _) _ | exact below_drewN (below_drewN (below_drewN (Below.refl _ _) _) _) _)⟩

/-- One digit more behind those that one has. -/
theorem push_next {w wr w2 w4 : World} {k cap cap' g' : Nat} {a : Option Addr} {V x : Int} (hx : x = hf.dg V k) (hown : Own wr w.heap.size 3 a k cap (hf.dcells k V)) (hbel : Below w.heap.size w wr)
    (h4 : w4.ownsRow w.heap.size 3 1 (.slice (some ⟨g', 0, none⟩) (k + 1) cap') (k + 1) (hf.dcells k V ++ [.int .i64 x]))
    (h2 : Below wr.heap.size wr w2) (hgr : w2.grownBy w4 (Value.slice a k cap).ownBlock) : Own w4 w.heap.size 3 (some ⟨g', 0, none⟩) (k + 1) cap' (hf.dcells (k + 1) V) ∧ Below w.heap.size w w4 := by
  have hs := hbel.size
  refine ⟨?_, (hbel.trans (h2.mono hs)).grown hgr (by have := h2.size; omega) (fun k' hk' => (World.ownsRow.lt hown k' hk').1)⟩
  rw [hf.dcells_succ, ← hx]
  exact h4
/-- What holds at the head of each round of the sum's loop. -/
def RAddRel (w : World) (u v l : Nat) (o c i : Value) (wr : World) : Prop := ∃ (k cap : Nat) (ao : Option Addr), k ≤ l ∧ i = .int .i64 (k : Int) ∧ c = .int .i64 (hf.carry u v k) ∧ o = .slice ao k cap ∧ Own wr w.heap.size 3 ao k cap (hf.dcells k ((u : Int) + v)) ∧ Below w.heap.size w wr
theorem radd_next {w wr w2 w4 : World} {u v l k cap cap' g' : Nat} {ao : Option Addr} {x : Int} (hk : k < l) (hx : x = hf.carry u v k + hf.dg u k + hf.dg v k) (hown : Own wr w.heap.size 3 ao k cap (hf.dcells k ((u : Int) + v))) (hbel : Below w.heap.size w wr)
    (h4 : w4.ownsRow w.heap.size 3 1 (.slice (some ⟨g', 0, none⟩) (k + 1) cap') (k + 1) (hf.dcells k ((u : Int) + v) ++ [.int .i64 (x % 65536)]))
    (h2 : Below wr.heap.size wr w2) (hgr : w2.grownBy w4 (Value.slice ao k cap).ownBlock) : RAddRel w u v l (.slice (some ⟨g', 0, none⟩) (k + 1) cap') (.int .i64 (x / 65536)) (.int .i64 ((k : Int) + 1)) w4 := by
  obtain ⟨h5, h6⟩ := push_next (x := x % 65536) (by rw [hx, hf.add_digit]) hown hbel h4 h2 hgr
  exact ⟨k + 1, cap', _, hk, by simp, by rw [hf.carry_succ, hx], rfl, h5, h6⟩

set_option maxRecDepth 100000 in
set_option maxHeartbeats 2000000 in
theorem radd_any (a b : Option Addr) (ca cb u v : Nat) (w : World) (ha : Sl w a (hf.nlen u) ca (hf.dcells (hf.nlen u) (u : Int))) (hb : Sl w b (hf.nlen v) cb (hf.dcells (hf.nlen v) (v : Int))) (hlu : hf.nlen u ≤ 1000000000) (hlv : hf.nlen v ≤ 1000000000) :
    Calls Tryz.prog 72 #[.slice a (hf.nlen u) ca, .slice b (hf.nlen v) cb] w fun e w' => ∃ a' cap', e = .returned (.slice a' (hf.nlen (u + v)) cap') ∧ Own w' w.heap.size 3 a' (hf.nlen (u + v)) cap' (hf.dcells (hf.nlen (u + v)) ((u + v : Nat) : Int)) ∧ Below w.heap.size w w' := by
  obtain ⟨i0, hi0, hz0, hz1, hz2⟩ := info_parts infoInt
  have hown0 := own_empty w w.heap.size 3 (Nat.le_refl _)
  have hu := hf.nlen_lt u
  have hv := hf.nlen_lt v
  obtain ⟨lu, hlu'⟩ : ∃ l, hf.nlen u = l := ⟨_, rfl⟩
  obtain ⟨lv, hlv'⟩ : ∃ l, hf.nlen v = l := ⟨_, rfl⟩
  rw [hlu'] at ha hlu hu ⊢
  rw [hlv'] at hb hlv hv ⊢
  obtain ⟨L, hL1, hL2, hL3⟩ : ∃ L, lu ≤ L ∧ lv ≤ L ∧ (L ≤ lu ∨ L ≤ lv) := ⟨max lu lv, by omega, by omega, by omega⟩
  have HU : Hid (∀ k, lu ≤ k → hf.dg (u : Int) k = 0) := fun k hk => hf.dg_over (Nat.lt_of_lt_of_le hu (Nat.pow_le_pow_right (by decide) hk))
  have HV : Hid (∀ k, lv ≤ k → hf.dg (v : Int) k = 0) := fun k hk => hf.dg_over (Nat.lt_of_lt_of_le hv (Nat.pow_le_pow_right (by decide) hk))
  have HS : Hid (u + v < 65536 ^ (L + 1)) := by
    have h1 := Nat.pow_le_pow_right (n := 65536) (by decide) hL1
    have h2 := Nat.pow_le_pow_right (n := 65536) (by decide) hL2
    unfold Hid
    rw [Nat.pow_succ]; omega
  have HE : Hid ((u : Int) + v = ((u + v : Nat) : Int)) := by unfold Hid; omega
  clear hu hv hlu' hlv'
  go_enter Tryz.func72, Tryz.ntmps72
  go_wp2
  go_loopw [5, 6, 7] (fun o c i wr => RAddRel w u v L o c i wr) (fun _ _ i _ => L - (intOf i).toNat)
  case atStart => exact ⟨0, 0, _, by omega, rfl, by rw [hf.carry_zero], rfl, hown0, (Below.refl _ _).alloc (Nat.le_refl _) _⟩
  case round =>
    clear hown0
    obtain ⟨k, cap, ao, hk, rfl, rfl, rfl, hown, hbel⟩ := hrel
    have hsz := hbel.size
    obtain ⟨f0, f1⟩ := hf.carry_range u v k
    obtain ⟨d0, d1⟩ := hf.dg_range u k
    obtain ⟨e0, e1⟩ := hf.dg_range v k
    obtain ⟨C, hC⟩ : ∃ C, hf.carry (u : Int) v k = C := ⟨_, rfl⟩
    obtain ⟨X, hX⟩ : ∃ X, hf.dg (u : Int) k = X := ⟨_, rfl⟩
    obtain ⟨Y, hY⟩ : ∃ Y, hf.dg (v : Int) k = Y := ⟨_, rfl⟩
    rw [hC] at f0 f1
    rw [hX] at d0 d1
    rw [hY] at e0 e1
    by_cases h1 : k < lu
    · obtain ⟨ba, oa, rfl, hba, hsa⟩ := ha.at (by omega)
      have r1 := ha.room
      have c1 : wr.cell? ⟨ba, oa + k, none⟩ = some (.int .i64 X) := (hbel.cell (p := ⟨ba, oa + k, none⟩) hba).trans (by rw [← hX]; exact hsa.cell k _ (hf.dcells_at _ _ _ h1))
      by_cases h2 : k < lv
      · obtain ⟨bb, ob, rfl, hbb, hsb⟩ := hb.at (by omega)
        have r2 := hb.room
        have c2 : wr.cell? ⟨bb, ob + k, none⟩ = some (.int .i64 Y) := (hbel.cell (p := ⟨bb, ob + k, none⟩) hbb).trans (by rw [← hY]; exact hsb.cell k _ (hf.dcells_at _ _ _ h2))
        have HN : Hid _ := fun w2 w4 g' cap' => radd_next (l := L) (x := C + X + Y) (w2 := w2) (w4 := w4) (g' := g') (cap' := cap') (by omega) (by rw [hC, hX, hY]) hown hbel
        rw [hC]
        clear hC hX hY
        go_wp2_with (at_builtin; refine wpList_append_lies _ rfl (.tmp 41) (.tmp 44) 29 rfl w.heap.size 3 i0 (.int .i64 0) 1 8 Tryz.underlying29 hi0 hz0 hz1 hz2 rfl (by decide) (.slice ao k cap) (k) (hf.dcells k ((u : Int) + v)) rfl (World.ownsRow.alloc hown _) ⟨wr.heap.size, 0, none⟩ 1 1 [.int .i64 ((C + X + Y) % 65536)] rfl rfl (cell_one_new _ _ _) (ints_oneCell .i64 [(C + X + Y) % 65536]) (by decide) (by unfold maxLen; omega) (by omega) (by simp; omega) _ rfl ?_; intro g' cap' w4 hown4 hgrow4 hat4 hlt4)
        go_roundw
        case rel => exact HN.out _ w4 g' cap' hown4 ((Below.refl _ _).alloc (Nat.le_refl _) _) hgrow4
        case measure => simp [intOf]; omega
      · have HN : Hid _ := fun w2 w4 g' cap' => radd_next (l := L) (x := C + X) (w2 := w2) (w4 := w4) (g' := g') (cap' := cap') (by omega) (by rw [hC, hX, HV.out k (by omega)]; omega) hown hbel
        have h2' : ¬ (k : Int) < lv := by omega
        rw [hC]
        clear hC hX hY
        go_wp2_with (at_builtin; refine wpList_append_lies _ rfl (.tmp 41) (.tmp 44) 29 rfl w.heap.size 3 i0 (.int .i64 0) 1 8 Tryz.underlying29 hi0 hz0 hz1 hz2 rfl (by decide) (.slice ao k cap) (k) (hf.dcells k ((u : Int) + v)) rfl (World.ownsRow.alloc hown _) ⟨wr.heap.size, 0, none⟩ 1 1 [.int .i64 ((C + X) % 65536)] rfl rfl (cell_one_new _ _ _) (ints_oneCell .i64 [(C + X) % 65536]) (by decide) (by unfold maxLen; omega) (by omega) (by simp; omega) _ rfl ?_; intro g' cap' w4 hown4 hgrow4 hat4 hlt4)
        go_roundw
        case rel => exact HN.out _ w4 g' cap' hown4 ((Below.refl _ _).alloc (Nat.le_refl _) _) hgrow4
        case measure => simp [intOf]; omega
    · by_cases h2 : k < lv
      · obtain ⟨bb, ob, rfl, hbb, hsb⟩ := hb.at (by omega)
        have r2 := hb.room
        have c2 : wr.cell? ⟨bb, ob + k, none⟩ = some (.int .i64 Y) := (hbel.cell (p := ⟨bb, ob + k, none⟩) hbb).trans (by rw [← hY]; exact hsb.cell k _ (hf.dcells_at _ _ _ h2))
        have HN : Hid _ := fun w2 w4 g' cap' => radd_next (l := L) (x := C + Y) (w2 := w2) (w4 := w4) (g' := g') (cap' := cap') (by omega) (by rw [hC, hY, HU.out k (by omega)]; omega) hown hbel
        have h1' : ¬ (k : Int) < lu := by omega
        rw [hC]
        clear hC hX hY
        go_wp2_with (at_builtin; refine wpList_append_lies _ rfl (.tmp 41) (.tmp 44) 29 rfl w.heap.size 3 i0 (.int .i64 0) 1 8 Tryz.underlying29 hi0 hz0 hz1 hz2 rfl (by decide) (.slice ao k cap) (k) (hf.dcells k ((u : Int) + v)) rfl (World.ownsRow.alloc hown _) ⟨wr.heap.size, 0, none⟩ 1 1 [.int .i64 ((C + Y) % 65536)] rfl rfl (cell_one_new _ _ _) (ints_oneCell .i64 [(C + Y) % 65536]) (by decide) (by unfold maxLen; omega) (by omega) (by simp; omega) _ rfl ?_; intro g' cap' w4 hown4 hgrow4 hat4 hlt4)
        go_roundw
        case rel => exact HN.out _ w4 g' cap' hown4 ((Below.refl _ _).alloc (Nat.le_refl _) _) hgrow4
        case measure => simp [intOf]; omega
      · obtain rfl : k = L := by omega
        have HC2 : Hid (C = hf.dg ((u : Int) + v) k) := by
          have h := hf.add_digit u v k
          rw [hC, hX, hY] at h
          have hx0 := HU.out k (by omega)
          have hy0 := HV.out k (by omega)
          rw [hX] at hx0
          rw [hY] at hy0
          unfold Hid
          omega
        have h1' : ¬ (k : Int) < lu := by omega
        have h2' : ¬ (k : Int) < lv := by omega
        have HN : Hid _ := fun w2 w4 g' cap' => push_next (x := C) (w2 := w2) (w4 := w4) (g' := g') (cap' := cap') HC2.out hown hbel
        rw [hC]
        clear hC hX hY
        go_wp2_with (first
          | (at_builtin; refine wpList_append_lies _ rfl (.tmp 48) (.tmp 50) 29 rfl w.heap.size 3 i0 (.int .i64 0) 1 8 Tryz.underlying29 hi0 hz0 hz1 hz2 rfl (by decide) (.slice ao k cap) (k) (hf.dcells k ((u : Int) + v)) rfl (World.ownsRow.alloc hown _) ⟨wr.heap.size, 0, none⟩ 1 1 [.int .i64 (C)] rfl rfl (cell_one_new _ _ _) (ints_oneCell .i64 [C]) (by decide) (by unfold maxLen; omega) (by omega) (by simp; omega) _ rfl ?_; intro g' cap' w4 hown4 hgrow4 hat4 hlt4)
          | (go_at_call 63; have hnx := HN.out _ w4 g' cap' hown4 ((Below.refl _ _).alloc (Nat.le_refl _) _) hgrow4; rw [HE.out] at hnx; refine (rtrim_own _ _ _ (u + v) _ _ hnx.1 HS.out).mono ?_; rintro e w' ⟨rfl, hw, hown5⟩; subst hw))
        go_ret
        exact ⟨_, cap', rfl, hown5, hnx.2⟩

/-- What holds at the head of each round of the difference's loop. -/
def RSubRel (w : World) (u v l : Nat) (o c i : Value) (wr : World) : Prop := ∃ (k cap : Nat) (ao : Option Addr), k ≤ l ∧ i = .int .i64 (k : Int) ∧ c = .int .i64 (hf.bw u v k) ∧ o = .slice ao k cap ∧ Own wr w.heap.size 3 ao k cap (hf.dcells k ((u : Int) - v)) ∧ Below w.heap.size w wr
theorem rsub_next {w wr w2 w4 : World} {u v l k cap cap' g' : Nat} {ao : Option Addr} {x c : Int} (hk : k < l) (hx : (x = hf.dg u k - hf.dg v k - hf.bw u v k ∧ 0 ≤ x ∧ c = 0) ∨ (x = hf.dg u k - hf.dg v k - hf.bw u v k + 65536 ∧ x < 65536 ∧ c = 1)) (hown : Own wr w.heap.size 3 ao k cap (hf.dcells k ((u : Int) - v))) (hbel : Below w.heap.size w wr)
    (h4 : w4.ownsRow w.heap.size 3 1 (.slice (some ⟨g', 0, none⟩) (k + 1) cap') (k + 1) (hf.dcells k ((u : Int) - v) ++ [.int .i64 x]))
    (h2 : Below wr.heap.size wr w2) (hgr : w2.grownBy w4 (Value.slice ao k cap).ownBlock) : RSubRel w u v l (.slice (some ⟨g', 0, none⟩) (k + 1) cap') (.int .i64 c) (.int .i64 ((k : Int) + 1)) w4 := by
  have d := hf.dg_range u k
  have e := hf.dg_range v k
  have f := hf.bw_range u v k
  have hd := hf.sub_digit u v k
  have hb := hf.bw_succ u v k
  obtain ⟨h5, h6⟩ := push_next (x := x) (by rw [← hd]; omega) hown hbel h4 h2 hgr
  refine ⟨k + 1, cap', _, hk, by simp, ?_, rfl, h5, h6⟩
  rw [← hb]
  unfold hf.bor
  rcases hx with ⟨h, h0, rfl⟩ | ⟨h, h0, rfl⟩
  · rw [if_neg (by omega)]
  · rw [if_pos (by omega)]
set_option maxRecDepth 100000 in
set_option maxHeartbeats 2000000 in
theorem rsub_any (a b : Option Addr) (ca cb u v : Nat) (w : World) (ha : Sl w a (hf.nlen u) ca (hf.dcells (hf.nlen u) (u : Int))) (hb : Sl w b (hf.nlen v) cb (hf.dcells (hf.nlen v) (v : Int))) (hlu : hf.nlen u ≤ 1000000000) (hlv : hf.nlen v ≤ 1000000000) (hle : v ≤ u) :
    Calls Tryz.prog 75 #[.slice a (hf.nlen u) ca, .slice b (hf.nlen v) cb] w fun e w' => ∃ a' cap', e = .returned (.slice a' (hf.nlen (u - v)) cap') ∧ Own w' w.heap.size 3 a' (hf.nlen (u - v)) cap' (hf.dcells (hf.nlen (u - v)) ((u - v : Nat) : Int)) ∧ Below w.heap.size w w' := by
  obtain ⟨i0, hi0, hz0, hz1, hz2⟩ := info_parts infoInt
  have hown0 := own_empty w w.heap.size 3 (Nat.le_refl _)
  have hu := hf.nlen_lt u
  have hv := hf.nlen_lt v
  obtain ⟨lu, hlu'⟩ : ∃ l, hf.nlen u = l := ⟨_, rfl⟩
  obtain ⟨lv, hlv'⟩ : ∃ l, hf.nlen v = l := ⟨_, rfl⟩
  rw [hlu'] at ha hlu hu ⊢
  rw [hlv'] at hb hlv hv ⊢
  have HV : Hid (∀ k, lv ≤ k → hf.dg (v : Int) k = 0) := fun k hk => hf.dg_over (Nat.lt_of_lt_of_le hv (Nat.pow_le_pow_right (by decide) hk))
  have HS : Hid (u - v < 65536 ^ lu) := by unfold Hid; omega
  have HE : Hid ((u : Int) - v = ((u - v : Nat) : Int)) := by unfold Hid; omega
  clear hu hv hlu' hlv' hle
  go_enter Tryz.func75, Tryz.ntmps75
  go_wp2
  go_loopw [5, 6, 7] (fun o c i wr => RSubRel w u v lu o c i wr) (fun _ _ i _ => lu - (intOf i).toNat)
  case atStart => exact ⟨0, 0, _, by omega, rfl, by rw [hf.bw_zero], rfl, hown0, (Below.refl _ _).alloc (Nat.le_refl _) _⟩
  case round =>
    clear hown0
    obtain ⟨k, cap, ao, hk, rfl, rfl, rfl, hown, hbel⟩ := hrel
    have hsz := hbel.size
    obtain ⟨f0, f1⟩ := hf.bw_range u v k
    obtain ⟨d0, d1⟩ := hf.dg_range u k
    obtain ⟨e0, e1⟩ := hf.dg_range v k
    obtain ⟨C, hC⟩ : ∃ C, hf.bw (u : Int) v k = C := ⟨_, rfl⟩
    obtain ⟨X, hX⟩ : ∃ X, hf.dg (u : Int) k = X := ⟨_, rfl⟩
    obtain ⟨Y, hY⟩ : ∃ Y, hf.dg (v : Int) k = Y := ⟨_, rfl⟩
    rw [hC] at f0 f1
    rw [hX] at d0 d1
    rw [hY] at e0 e1
    by_cases h1 : k < lu
    · obtain ⟨ba, oa, rfl, hba, hsa⟩ := ha.at (by omega)
      have r1 := ha.room
      have c1 : wr.cell? ⟨ba, oa + k, none⟩ = some (.int .i64 X) := (hbel.cell (p := ⟨ba, oa + k, none⟩) hba).trans (by rw [← hX]; exact hsa.cell k _ (hf.dcells_at _ _ _ h1))
      by_cases h2 : k < lv
      · obtain ⟨bb, ob, rfl, hbb, hsb⟩ := hb.at (by omega)
        have r2 := hb.room
        have c2 : wr.cell? ⟨bb, ob + k, none⟩ = some (.int .i64 Y) := (hbel.cell (p := ⟨bb, ob + k, none⟩) hbb).trans (by rw [← hY]; exact hsb.cell k _ (hf.dcells_at _ _ _ h2))
        by_cases hn : X - C - Y < 0
        · have HN : Hid _ := fun w2 w4 g' cap' => rsub_next (l := lu) (c := 1) (x := X - C - Y + 65536) (w2 := w2) (w4 := w4) (g' := g') (cap' := cap') (by omega) (Or.inr ⟨by rw [hC, hX, hY]; omega, by omega, rfl⟩) hown hbel
          rw [hC]
          clear hC hX hY
          go_wp2_with (at_builtin; refine wpList_append_lies _ rfl (.tmp 36) (.tmp 38) 29 rfl w.heap.size 3 i0 (.int .i64 0) 1 8 Tryz.underlying29 hi0 hz0 hz1 hz2 rfl (by decide) (.slice ao k cap) (k) (hf.dcells k ((u : Int) - v)) rfl (World.ownsRow.alloc hown _) ⟨wr.heap.size, 0, none⟩ 1 1 [.int .i64 (X - C - Y + 65536)] rfl rfl (cell_one_new _ _ _) (ints_oneCell .i64 [X - C - Y + 65536]) (by decide) (by unfold maxLen; omega) (by omega) (by simp; omega) _ rfl ?_; intro g' cap' w4 hown4 hgrow4 hat4 hlt4)
          go_roundw
          case rel => exact HN.out _ w4 g' cap' hown4 ((Below.refl _ _).alloc (Nat.le_refl _) _) hgrow4
          case measure => simp [intOf]; omega
        · have HN : Hid _ := fun w2 w4 g' cap' => rsub_next (l := lu) (c := 0) (x := X - C - Y) (w2 := w2) (w4 := w4) (g' := g') (cap' := cap') (by omega) (Or.inl ⟨by rw [hC, hX, hY]; omega, by omega, rfl⟩) hown hbel
          rw [hC]
          clear hC hX hY
          go_wp2_with (at_builtin; refine wpList_append_lies _ rfl (.tmp 36) (.tmp 38) 29 rfl w.heap.size 3 i0 (.int .i64 0) 1 8 Tryz.underlying29 hi0 hz0 hz1 hz2 rfl (by decide) (.slice ao k cap) (k) (hf.dcells k ((u : Int) - v)) rfl (World.ownsRow.alloc hown _) ⟨wr.heap.size, 0, none⟩ 1 1 [.int .i64 (X - C - Y)] rfl rfl (cell_one_new _ _ _) (ints_oneCell .i64 [X - C - Y]) (by decide) (by unfold maxLen; omega) (by omega) (by simp; omega) _ rfl ?_; intro g' cap' w4 hown4 hgrow4 hat4 hlt4)
          go_roundw
          case rel => exact HN.out _ w4 g' cap' hown4 ((Below.refl _ _).alloc (Nat.le_refl _) _) hgrow4
          case measure => simp [intOf]; omega
      · have h2' : ¬ (k : Int) < lv := by omega
        have hY0 := HV.out k (by omega)
        by_cases hn : X - C < 0
        · have HN : Hid _ := fun w2 w4 g' cap' => rsub_next (l := lu) (c := 1) (x := X - C + 65536) (w2 := w2) (w4 := w4) (g' := g') (cap' := cap') (by omega) (Or.inr ⟨by rw [hC, hX, hY0]; omega, by omega, rfl⟩) hown hbel
          rw [hC]
          clear hC hX hY hY0
          go_wp2_with (at_builtin; refine wpList_append_lies _ rfl (.tmp 36) (.tmp 38) 29 rfl w.heap.size 3 i0 (.int .i64 0) 1 8 Tryz.underlying29 hi0 hz0 hz1 hz2 rfl (by decide) (.slice ao k cap) (k) (hf.dcells k ((u : Int) - v)) rfl (World.ownsRow.alloc hown _) ⟨wr.heap.size, 0, none⟩ 1 1 [.int .i64 (X - C + 65536)] rfl rfl (cell_one_new _ _ _) (ints_oneCell .i64 [X - C + 65536]) (by decide) (by unfold maxLen; omega) (by omega) (by simp; omega) _ rfl ?_; intro g' cap' w4 hown4 hgrow4 hat4 hlt4)
          go_roundw
          case rel => exact HN.out _ w4 g' cap' hown4 ((Below.refl _ _).alloc (Nat.le_refl _) _) hgrow4
          case measure => simp [intOf]; omega
        · have HN : Hid _ := fun w2 w4 g' cap' => rsub_next (l := lu) (c := 0) (x := X - C) (w2 := w2) (w4 := w4) (g' := g') (cap' := cap') (by omega) (Or.inl ⟨by rw [hC, hX, hY0]; omega, by omega, rfl⟩) hown hbel
          rw [hC]
          clear hC hX hY hY0
          go_wp2_with (at_builtin; refine wpList_append_lies _ rfl (.tmp 36) (.tmp 38) 29 rfl w.heap.size 3 i0 (.int .i64 0) 1 8 Tryz.underlying29 hi0 hz0 hz1 hz2 rfl (by decide) (.slice ao k cap) (k) (hf.dcells k ((u : Int) - v)) rfl (World.ownsRow.alloc hown _) ⟨wr.heap.size, 0, none⟩ 1 1 [.int .i64 (X - C)] rfl rfl (cell_one_new _ _ _) (ints_oneCell .i64 [X - C]) (by decide) (by unfold maxLen; omega) (by omega) (by simp; omega) _ rfl ?_; intro g' cap' w4 hown4 hgrow4 hat4 hlt4)
          go_roundw
          case rel => exact HN.out _ w4 g' cap' hown4 ((Below.refl _ _).alloc (Nat.le_refl _) _) hgrow4
          case measure => simp [intOf]; omega
    · obtain rfl : k = lu := by omega
      rw [HE.out] at hown
      clear hC hX hY
      go_wp2_with (go_at_call 63; refine (rtrim_own _ _ _ (u - v) _ _ hown HS.out).mono ?_; rintro e w' ⟨rfl, hw, hown5⟩; subst hw)
      go_ret
      exact ⟨_, cap, rfl, hown5, hbel⟩
end Go.Proofs.YtaekgomplkkocaaGreatDoor

namespace Go.Proofs.YtaekgomplkkocaaGreatDoor
open Go.RowKit
set_option linter.unusedVariables false

/-- What holds at the head of each round of the inner loop. -/
def RMulIn (w : World) (b N lv i : Nat) (O x v : Int) (c kv : Value) (wr : World) : Prop := ∃ k : Nat, k ≤ lv ∧ kv = .int .i64 (k : Int) ∧ c = .int .i64 (hf.cy O x v i k) ∧ Own wr w.heap.size 3 (some ⟨b, 0, none⟩) N N (hf.mix N (i + k) (O + x * 65536 ^ i * v) O) ∧ Below w.heap.size w wr
theorem rmul_next {w wr : World} {b N lv i k n : Nat} {O x v t : Int} (hk : k < lv) (hN : i + lv ≤ N) (ht : t = hf.cy O x v i k + hf.dg O (i + k) + x * hf.dg v k) (hown : Own wr w.heap.size 3 (some ⟨b, 0, none⟩) N N (hf.mix N (i + k) (O + x * 65536 ^ i * v) O)) (hbel : Below w.heap.size w wr) :
    RMulIn w b N lv i O x v (.int .i64 (t / 65536)) (.int .i64 ((k : Int) + 1)) ((wr.drewN n).setCell ⟨b, i + k, none⟩ (.int .i64 (t % 65536))) := by
  have hown' : Own (wr.drewN n) w.heap.size 3 (some ⟨b, 0, none⟩) N N (hf.mix N (i + k) (O + x * 65536 ^ i * v) O) := hown
  refine ⟨k + 1, hk, by simp, by rw [ht, hf.cy_succ], ?_, (below_drewN hbel n).setCell (seg_of_own hown).2.2 _⟩
  rw [ht, hf.mul_digit, ← Nat.add_assoc, ← hf.mix_set]
  exact Own.set hown' _ (by omega)
/-- What holds at the head of each round of the outer loop. -/
def RMulOut (w : World) (b lu lv u v : Nat) (iv : Value) (wr : World) : Prop := ∃ i : Nat, i ≤ lu ∧ iv = .int .i64 (i : Int) ∧ Own wr w.heap.size 3 (some ⟨b, 0, none⟩) (lu + lv) (lu + lv) (hf.dcells (lu + lv) ((u % 65536 ^ i * v : Nat) : Int)) ∧ Below w.heap.size w wr
theorem hpart_lt {u v k lb : Nat} (hv : v < 65536 ^ lb) : u % 65536 ^ k * v < 65536 ^ (k + lb) := by
  rw [Nat.pow_add]
  exact Nat.mul_lt_mul_of_lt_of_le (Nat.mod_lt _ (hf.pow_nat k)) (Nat.le_of_lt hv) (hf.pow_nat lb)
theorem hpart_next (u v k : Nat) : ((u % 65536 ^ k * v : Nat) : Int) + hf.dg u k * 65536 ^ k * v = ((u % 65536 ^ (k + 1) * v : Nat) : Int) := by
  rw [Int.natCast_mul, Int.natCast_mul, Int.natCast_emod, Int.natCast_emod, hf.pow_cast, hf.pow_cast]
  exact hf.mul_next u v k
theorem rmul_last {w wr : World} {b lu lv u v i : Nat} {c O X : Int} (hO : O = ((u % 65536 ^ i * v : Nat) : Int)) (hX : X = hf.dg (u : Int) i) (hi : i < lu) (hv : v < 65536 ^ lv) (hc : c = hf.cy O X v i lv)
    (hown : Own wr w.heap.size 3 (some ⟨b, 0, none⟩) (lu + lv) (lu + lv) (hf.mix (lu + lv) (i + lv) (O + X * 65536 ^ i * v) O)) (hbel : Below w.heap.size w wr) :
    RMulOut w b lu lv u v (.int .i64 ((i : Int) + 1)) (wr.setCell ⟨b, i + lv, none⟩ (.int .i64 c)) := by
  subst hO hX
  refine ⟨i + 1, hi, by simp, ?_, hbel.setCell (seg_of_own hown).2.2 _⟩
  have hd := hf.mul_digit ((u % 65536 ^ i * v : Nat) : Int) (hf.dg u i) v i lv
  have h0 : hf.dg ((u % 65536 ^ i * v : Nat) : Int) (i + lv) = 0 := hf.dg_over (hpart_lt hv)
  have h1 : hf.dg (v : Int) lv = 0 := hf.dg_over hv
  have hr := hf.cy_range ((u % 65536 ^ i * v : Nat) : Int) (hf.dg u i) v i lv (hf.dg_range u i).1 (hf.dg_range u i).2
  rw [h0, h1, ← hc, Int.mul_zero] at hd
  rw [← hc] at hr
  have hc2 : c = hf.dg (((u % 65536 ^ i * v : Nat) : Int) + hf.dg u i * 65536 ^ i * v) (i + lv) := by rw [← hd]; omega
  have := Own.set hown (i := i + lv) (.int .i64 c) (by omega)
  rw [hc2, hf.mix_set] at this
  rw [hc2]
  have e : hf.mix (lu + lv) (i + lv + 1) (((u % 65536 ^ i * v : Nat) : Int) + hf.dg u i * 65536 ^ i * v) ((u % 65536 ^ i * v : Nat) : Int) = hf.dcells (lu + lv) ((u % 65536 ^ (i + 1) * v : Nat) : Int) := by
    rw [← hpart_next, ← hf.mix_full (lu + lv) (((u % 65536 ^ i * v : Nat) : Int) + hf.dg u i * 65536 ^ i * v) ((u % 65536 ^ i * v : Nat) : Int)]
    refine hf.fill_congr fun j hj => ?_
    by_cases h : j < i + lv + 1
    · simp [h, hj]
    · have z1 : hf.dg ((u % 65536 ^ i * v : Nat) : Int) j = 0 := hf.dg_over (Nat.lt_of_lt_of_le (hpart_lt hv) (Nat.pow_le_pow_right (by decide) (by omega)))
      have z2 : hf.dg (((u % 65536 ^ i * v : Nat) : Int) + hf.dg u i * 65536 ^ i * v) j = 0 := by
        rw [hpart_next]
        exact hf.dg_over (Nat.lt_of_lt_of_le (hpart_lt hv) (Nat.pow_le_pow_right (by decide) (by omega)))
      rw [z1, z2]; simp
  rw [← e]
  exact this

set_option maxRecDepth 100000 in
set_option maxHeartbeats 2000000 in
theorem rmul_any (a b : Option Addr) (ca cb u v : Nat) (w : World) (ha : Sl w a (hf.nlen u) ca (hf.dcells (hf.nlen u) (u : Int))) (hb : Sl w b (hf.nlen v) cb (hf.dcells (hf.nlen v) (v : Int))) (hlu : hf.nlen u ≤ 1000000000) (hlv : hf.nlen v ≤ 1000000000) :
    Calls Tryz.prog 76 #[.slice a (hf.nlen u) ca, .slice b (hf.nlen v) cb] w fun e w' => ∃ a' cap', e = .returned (.slice a' (hf.nlen (u * v)) cap') ∧ Own w' w.heap.size 3 a' (hf.nlen (u * v)) cap' (hf.dcells (hf.nlen (u * v)) ((u * v : Nat) : Int)) ∧ Below w.heap.size w w' := by
  obtain ⟨i0, hi0, hz0, hz1, hz2⟩ := info_parts infoInt
  have hu := hf.nlen_lt u
  have hv := hf.nlen_lt v
  obtain ⟨lu, hlu'⟩ : ∃ l, hf.nlen u = l := ⟨_, rfl⟩
  obtain ⟨lv, hlv'⟩ : ∃ l, hf.nlen v = l := ⟨_, rfl⟩
  rw [hlu'] at ha hlu hu ⊢
  rw [hlv'] at hb hlv hv ⊢
  have HM : Hid (u % 65536 ^ lu = u) := Nat.mod_eq_of_lt hu
  have HV : Hid _ := hv
  have HS : Hid (u * v < 65536 ^ (lu + lv)) := by have := hpart_lt (u := u) (k := lu) hv; rwa [HM.out] at this
  have hz0' : hf.dcells (lu + lv) 0 = List.replicate (lu + lv) (.int .i64 0) := hf.dcells_zero _
  have HZ : Hid _ := hz0'
  have hmax : lu + lv ≤ maxLen := by unfold maxLen; omega
  clear hu hv hlu' hlv' hz0'
  go_enter Tryz.func76, Tryz.ntmps76
  go_wp2_with (at_make; refine make_any _ rfl (.tmp 13) (.tmp 13) 29 rfl w.heap.size 3 i0 (.int .i64 0) Tryz.underlying29 hi0 hz0 hz1 rfl .i64 .i64 _ _ (lu + lv) rfl rfl (by simp) (by simp) (by rw [hz2]; omega) (by omega) (Nat.le_refl _) ?_; intro w1 hown hbel)
  rw [← HZ.out] at hown
  go_loopw [6] (fun iv wr => RMulOut w w.heap.size lu lv u v iv wr) (fun iv _ => lu - (intOf iv).toNat)
  case atStart => exact ⟨0, by omega, rfl, by rw [Nat.pow_zero, Nat.mod_one, Nat.zero_mul]; exact hown, hbel⟩
  case round =>
    clear hown hbel
    obtain ⟨i, hi, rfl, hown, hbel⟩ := hrel
    by_cases hlt : i < lu
    · obtain ⟨ba, oa, rfl, hba, hsa⟩ := ha.at (by omega)
      have r1 := ha.room
      obtain ⟨X, hX⟩ : ∃ X, X = hf.dg (u : Int) i := ⟨_, rfl⟩
      obtain ⟨O, hO⟩ : ∃ O, O = ((u % 65536 ^ i * v : Nat) : Int) := ⟨_, rfl⟩
      obtain ⟨x0, x1⟩ := hf.dg_range u i
      have c0 : w.cell? ⟨ba, oa + i, none⟩ = some (.int .i64 X) := by rw [hX]; exact hsa.cell i _ (hf.dcells_at _ _ _ hlt)
      rw [← hX] at x0 x1
      have HI : Hid (RMulIn w w.heap.size (lu + lv) lv i O X v (.int .i64 0) (.int .i64 0) wr) := ⟨0, by omega, rfl, by rw [hf.cy_zero], by rw [Nat.add_zero, hf.mix_start, hO]; exact hown, hbel⟩
      have HL : Hid _ := fun (wr : World) (c : Int) => rmul_last (w := w) (wr := wr) (b := w.heap.size) (c := c) hO hX hlt HV.out
      clear hown hbel hX hO
      go_wp2
      go_loopw [7, 8] (fun c kv wr => RMulIn w w.heap.size (lu + lv) lv i O X v c kv wr) (fun _ kv _ => lv - (intOf kv).toNat)
      case atStart => exact HI.out
      case round =>
        obtain ⟨k, hk, rfl, rfl, hown, hbel⟩ := hrel
        obtain ⟨f0, f1⟩ := hf.cy_range O X v i k x0 x1
        by_cases hlk : k < lv
        · obtain ⟨bb, ob, rfl, hbb, hsb⟩ := hb.at (by omega)
          have r2 := hb.room
          have c1 : wr.cell? ⟨ba, oa + i, none⟩ = some (.int .i64 X) := (hbel.cell (p := ⟨ba, oa + i, none⟩) hba).trans c0
          have c2 : wr.cell? ⟨bb, ob + k, none⟩ = some (.int .i64 (hf.dg v k)) := (hbel.cell (p := ⟨bb, ob + k, none⟩) hbb).trans (hsb.cell k _ (hf.dcells_at _ _ _ hlk))
          have c3 : wr.cell? ⟨w.heap.size, i + k, none⟩ = some (.int .i64 (hf.dg O (i + k))) := Own.cell hown _ _ (hf.mix_at _ _ _ _ _ (by omega) (Nat.le_refl _))
          have c4 : wr.frozen? ⟨w.heap.size, i + k, none⟩ = false := Own.free hown _ (by omega)
          obtain ⟨d0, d1⟩ := hf.dg_range v k
          obtain ⟨e0, e1⟩ := hf.dg_range O (i + k)
          have HN : Hid _ := fun n => rmul_next (n := n) hlk (by omega) rfl hown hbel
          obtain ⟨C, hC⟩ : ∃ C, hf.cy O X v i k = C := ⟨_, rfl⟩
          obtain ⟨Y, hY⟩ : ∃ Y, hf.dg (v : Int) k = Y := ⟨_, rfl⟩
          obtain ⟨D, hD⟩ : ∃ D, hf.dg O (i + k) = D := ⟨_, rfl⟩
          rw [hC] at f0 f1 HN ⊢
          rw [hY] at c2 d0 d1 HN
          rw [hD] at c3 e0 e1 HN
          have m0 : 0 ≤ X * Y := Int.mul_nonneg x0 d0
          have m1 : X * Y ≤ 4294836225 := by have := Int.mul_le_mul (show X ≤ 65535 by omega) (show Y ≤ 65535 by omega) d0 (by decide); omega
          clear hown hC hY hD
          go_wp2
          go_quiet (fail)
          go_wp2
          go_roundw
          case rel => exact HN.out _
          case measure => simp [intOf]; omega
        · obtain rfl : k = lv := by omega
          have c3 : wr.cell? ⟨w.heap.size, i + k, none⟩ = some (.int .i64 (hf.dg O (i + k))) := Own.cell hown _ _ (hf.mix_at _ _ _ _ _ (by omega) (Nat.le_refl _))
          have c4 : wr.frozen? ⟨w.heap.size, i + k, none⟩ = false := Own.free hown _ (by omega)
          have HN : Hid _ := HL.out wr _ rfl hown hbel
          clear hown
          go_wp2
          go_roundw
          case rel => exact HN.out
          case measure => simp [intOf]; omega
    · obtain rfl : i = lu := by omega
      rw [HM.out] at hown
      go_wp2_with (go_at_call 63; refine (rtrim_own _ _ _ (u * v) _ _ hown HS.out).mono ?_; rintro e w' ⟨rfl, hw, hown5⟩; subst hw)
      go_ret
      exact ⟨_, _, rfl, hown5, hbel⟩
end Go.Proofs.YtaekgomplkkocaaGreatDoor

namespace Go.Proofs.YtaekgomplkkocaaGreatDoor
open Go.RowKit
set_option linter.unusedVariables false

/-- The slice is the digits of the number u. -/
structure HD (w : World) (a : Option Addr) (l c u : Nat) : Prop where
  sl : Sl w a l c (hf.dcells l (u : Int))
  len : l = hf.nlen u
theorem HD.below {w w' : World} {a : Option Addr} {l c u : Nat} (h : HD w a l c u) (hb : Below w.heap.size w w') : HD w' a l c u := ⟨h.sl.below hb, h.len⟩
theorem hd_nil (w : World) : HD w none 0 0 0 := ⟨sl_nil w, hf.nlen_zero.symm⟩
def GotH (w : World) (u : Nat) (e : Ending) (w' : World) : Prop := ∃ a l c, e = .returned (.slice a l c) ∧ HD w' a l c u ∧ Below w.heap.size w w'
theorem gotH {w w' : World} {u : Nat} {e : Ending} (h : ∃ a' cap', e = .returned (.slice a' (hf.nlen u) cap') ∧ Own w' w.heap.size 3 a' (hf.nlen u) cap' (hf.dcells (hf.nlen u) (u : Int)) ∧ Below w.heap.size w w') : GotH w u e w' := by
  obtain ⟨a, c, he, ho, hb⟩ := h
  exact ⟨a, _, c, he, ⟨Own.sl ho, rfl⟩, hb⟩
theorem hfew {u K : Nat} (hu : u < 4294967296 ^ K) (hK : K ≤ 500000) : hf.nlen u ≤ 1000000 := by
  have : hf.nlen u ≤ 2 * K := hf.nlen_le (by rw [pow_halves]; exact hu)
  omega
theorem hOf (a : Option Addr) (l c u : Nat) (w : World) (hs : Sl w a l c (wd.dcells l (u : Int))) (hu : u < 4294967296 ^ l) (hl : l ≤ 1000000) : Calls Tryz.prog 34 #[.slice a l c] w (GotH w u) :=
  (rof_any a l c u w hs hu (by omega)).mono fun _ _ h => gotH h
theorem hCmp (a b : Option Addr) (la lb ca cb u v : Nat) (w : World) (ha : HD w a la ca u) (hb : HD w b lb cb v) {c : Int} (hc : c = cmpI u v) : Calls Tryz.prog 73 #[.slice a la ca, .slice b lb cb] w fun e w' => e = .returned (.int .i64 c) ∧ Below w.heap.size w w' := by
  obtain ⟨ha, rfl⟩ := ha
  obtain ⟨hb, rfl⟩ := hb
  subst hc
  exact rcmp_any a b ca cb u v w ha hb
theorem hAdd (a b : Option Addr) (la lb ca cb u v : Nat) (w : World) (ha : HD w a la ca u) (hb : HD w b lb cb v) (fu : hf.nlen u ≤ 1000000) (fv : hf.nlen v ≤ 1000000) : Calls Tryz.prog 72 #[.slice a la ca, .slice b lb cb] w (GotH w (u + v)) := by
  obtain ⟨ha, rfl⟩ := ha
  obtain ⟨hb, rfl⟩ := hb
  exact (radd_any a b ca cb u v w ha hb (by omega) (by omega)).mono fun _ _ h => gotH h
theorem hSub (a b : Option Addr) (la lb ca cb u v : Nat) (w : World) (ha : HD w a la ca u) (hb : HD w b lb cb v) (fu : hf.nlen u ≤ 1000000) (fv : hf.nlen v ≤ 1000000) (hle : v ≤ u) : Calls Tryz.prog 75 #[.slice a la ca, .slice b lb cb] w (GotH w (u - v)) := by
  obtain ⟨ha, rfl⟩ := ha
  obtain ⟨hb, rfl⟩ := hb
  exact (rsub_any a b ca cb u v w ha hb (by omega) (by omega) hle).mono fun _ _ h => gotH h
theorem hMul (a b : Option Addr) (la lb ca cb u v : Nat) (w : World) (ha : HD w a la ca u) (hb : HD w b lb cb v) (fu : hf.nlen u ≤ 1000000) (fv : hf.nlen v ≤ 1000000) : Calls Tryz.prog 76 #[.slice a la ca, .slice b lb cb] w (GotH w (u * v)) := by
  obtain ⟨ha, rfl⟩ := ha
  obtain ⟨hb, rfl⟩ := hb
  exact (rmul_any a b ca cb u v w ha hb (by omega) (by omega)).mono fun _ _ h => gotH h
theorem hHalf (a : Option Addr) (la ca u : Nat) (w : World) (ha : HD w a la ca u) (fu : hf.nlen u ≤ 1000000) : Calls Tryz.prog 97 #[.slice a la ca] w (GotH w (u / 2)) := by
  obtain ⟨ha, rfl⟩ := ha
  exact (rhalf_any a ca u w ha (by omega)).mono fun _ _ h => gotH h
theorem hSame (a b : Option Addr) (la lb ca cb u : Nat) (w : World) (ha : Sl w a la ca (wd.dcells la (u : Int))) (ea : la = wd.nlen u) (hb : HD w b lb cb u) (fu : hf.nlen u ≤ 1000000) : Calls Tryz.prog 36 #[.slice a la ca, .slice b lb cb] w fun e w' => e = .returned (.bool true) ∧ Below w.heap.size w w' := by
  subst ea
  obtain ⟨hb, rfl⟩ := hb
  exact same_yes a b ca cb u w ha hb (by omega)
end Go.Proofs.YtaekgomplkkocaaGreatDoor

namespace Go.Proofs.YtaekgomplkkocaaGreatDoor
open Go.RowKit
set_option linter.unusedVariables false

theorem HD.put {w : World} {a : Option Addr} {l c u b : Nat} (h : HD w a l c u) (hn : NA b a l) (i : Nat) (v : Value) : HD (w.setCell ⟨b, i, none⟩ v) a l c u := ⟨h.sl.put hn i v, h.len⟩
def GotHF (w : World) (u : Nat) (e : Ending) (w' : World) : Prop := ∃ a l c, e = .returned (.slice a l c) ∧ HD w' a l c u ∧ Far w.heap.size a l ∧ Below w.heap.size w w'
theorem gotHF {w w' : World} {u : Nat} {e : Ending} (h : ∃ a' cap', e = .returned (.slice a' (hf.nlen u) cap') ∧ Own w' w.heap.size 3 a' (hf.nlen u) cap' (hf.dcells (hf.nlen u) (u : Int)) ∧ Below w.heap.size w w') : GotHF w u e w' := by
  obtain ⟨a, c, he, ho, hb⟩ := h
  exact ⟨a, _, c, he, ⟨Own.sl ho, rfl⟩, Own.far ho, hb⟩
theorem hfOf (a : Option Addr) (l c u : Nat) (w : World) (h : NI w a l c u) : Calls Tryz.prog 34 #[.slice a l c] w (GotHF w u) :=
  (rof_any a l c u w h.sl h.lt (by have := h.few; omega)).mono fun _ _ h => gotHF h
theorem hfAdd (a b : Option Addr) (la lb ca cb u v : Nat) (w : World) (ha : HD w a la ca u) (hb : HD w b lb cb v) (fu : hf.nlen u ≤ 1000000) (fv : hf.nlen v ≤ 1000000) : Calls Tryz.prog 72 #[.slice a la ca, .slice b lb cb] w (GotHF w (u + v)) := by
  obtain ⟨ha, rfl⟩ := ha
  obtain ⟨hb, rfl⟩ := hb
  exact (radd_any a b ca cb u v w ha hb (by omega) (by omega)).mono fun _ _ h => gotHF h
theorem hfSub (a b : Option Addr) (la lb ca cb u v : Nat) (w : World) (ha : HD w a la ca u) (hb : HD w b lb cb v) (fu : hf.nlen u ≤ 1000000) (fv : hf.nlen v ≤ 1000000) (hle : v ≤ u) : Calls Tryz.prog 75 #[.slice a la ca, .slice b lb cb] w (GotHF w (u - v)) := by
  obtain ⟨ha, rfl⟩ := ha
  obtain ⟨hb, rfl⟩ := hb
  exact (rsub_any a b ca cb u v w ha hb (by omega) (by omega) hle).mono fun _ _ h => gotHF h
theorem hfMul (a b : Option Addr) (la lb ca cb u v : Nat) (w : World) (ha : HD w a la ca u) (hb : HD w b lb cb v) (fu : hf.nlen u ≤ 1000000) (fv : hf.nlen v ≤ 1000000) : Calls Tryz.prog 76 #[.slice a la ca, .slice b lb cb] w (GotHF w (u * v)) := by
  obtain ⟨ha, rfl⟩ := ha
  obtain ⟨hb, rfl⟩ := hb
  exact (rmul_any a b ca cb u v w ha hb (by omega) (by omega)).mono fun _ _ h => gotHF h
end Go.Proofs.YtaekgomplkkocaaGreatDoor
