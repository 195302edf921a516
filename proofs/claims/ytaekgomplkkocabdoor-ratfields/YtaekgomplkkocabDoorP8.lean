/-
  Joined texts, part 8:
  What package rat's Show answers.
  The laws' own look of layer 5: a fraction is made and rounded.
  Mathematics of a field, by fractions in lowest terms: what was added, or multiplied, can be taken back, and a factor goes to each part of a sum.
-/
import Derived.Test.YtaekgomplkkocabDoorP7
import Derived.Test.YtaekgomplkkocabDoorP3
import Derived.Test.YtaekgomplkkocabDoorP5
namespace Go.Proofs.YtaekgomplkkocabDoor
open Go.RowKit
set_option linter.unusedVariables false

/-- A fraction's text, by its parts in lowest terms. -/
def qText (N : Int) (D : Nat) : ByteArray := if D = 1 then decZ N else (decZ N ++ ⟨#[47]⟩) ++ decS D
theorem decZ_size {z : Int} {K : Nat} (h : z.natAbs < 4294967296 ^ K) : (decZ z).size ≤ 10 * K + 2 := by
  have := dlen_le h
  unfold decZ
  split
  · rw [ByteArray.size_append, decS_size]; show 1 + _ ≤ _; omega
  · rw [decS_size]; omega
theorem decS_sz {u K : Nat} (h : u < 4294967296 ^ K) : (decS u).size ≤ 10 * K + 1 := by rw [decS_size]; exact dlen_le h
theorem QN.set3 {w w' : World} {n : Bool} {a : Option Addr} {l c : Nat} {d : Option Addr} {m k : Nat} {z : Int} {D : Nat} {b : Nat} {u v t : Value} (h : QN w n a l c d m k z D) (e : w' = ((w.setCell ⟨b, 0, none⟩ u).setCell ⟨b, 1, none⟩ v).setCell ⟨b, 2, none⟩ t) (n1 : NA b a l) (n2 : NA b d m) : QN w' n a l c d m k z D := by
  rw [e]; exact h.put3 n1 n2 u v t
set_option maxRecDepth 100000 in
set_option maxHeartbeats 1000000 in
theorem qShow (n : Bool) (a : Option Addr) (la ca : Nat) (d : Option Addr) (ld cd : Nat) (za : Int) (Da : Nat) (K : Nat) (w : World) (ha : QI w K n a la ca d ld cd za Da) {s : ByteArray} (hs : s = qText (lowN (pN za Da) (pD Da)) (lowD (pN za Da) (pD Da))) :
    Calls Tryd.prog 11 #[.agg #[.bool n, .slice a la ca, .slice d ld cd]] w fun e w' => e = .returned (.string s) ∧ Below w.heap.size w w' := by
  obtain ⟨N, hN⟩ : ∃ N, N = lowN (pN za Da) (pD Da) := ⟨_, rfl⟩
  obtain ⟨E, hE⟩ : ∃ E, E = lowD (pN za Da) (pD Da) := ⟨_, rfl⟩
  rw [← hN, ← hE] at hs
  have HNs : Hid (N.natAbs < 4294967296 ^ K) := by unfold Hid; rw [hN]; exact Nat.lt_of_le_of_lt (lowN_le _ _) ha.pn
  have HEs : Hid (E < 4294967296 ^ K) := by unfold Hid; rw [hE]; exact Nat.lt_of_le_of_lt (lowD_le _ _) ha.pd
  have hk1 := ha.k1
  have kk := ha.kk
  have HN : Hid _ := hN
  have HE : Hid _ := hE
  obtain ⟨g0, hg⟩ : ∃ g0, g0 = cmpI (E : Int) ((1 : Nat) : Int) := ⟨_, rfl⟩
  have HG : Hid _ := hg
  clear hN hE
  by_cases h1 : E = 1
  · have HT : Hid (s = decZ N) := by unfold Hid; rw [hs]; unfold qText; rw [if_pos h1]
    obtain rfl : g0 = 0 := by rw [hg, h1]; rfl
    clear hs hg h1
    obtain ⟨W, hW, bW, x_a, sW⟩ := bs_3 w (.bool n) (.slice a la ca) (.slice d ld cd) 27
    have zbW := bW.size
    replace ha := ha.below bW
    have BB := bW
    go_enter Tryd.func11, Tryd.ntmps11
    go_wp2_with (go_at_call 23; fail)
    rw [← hW]
    clear hW
    refine (qNorm n a la ca d ld cd za Da K W ha N E HN.out HE.out).mono ?_
    rintro e w1 ⟨n1, a1, l1, c1, d1, m1, k1, rfl, h1, f1, g1, bw1⟩
    have zbw1 := bw1.size
    replace ha := ha.below bw1
    replace BB := also BB bw1
    replace x_a := x_a.on bw1
    have ⟨x_a_0, x_a_1, x_a_2, x_a_3, x_a_4, x_a_5⟩ := x_a
    go_wp2
    clear x_a_0 x_a_1 x_a_2 x_a_3 x_a_4 x_a_5
    obtain ⟨U, hU⟩ : ∃ U, U = (((w1.setCell ⟨w.heap.size, 0, none⟩ (.bool n1)).setCell ⟨w.heap.size, 1, none⟩ (.slice a1 l1 c1)).setCell ⟨w.heap.size, 2, none⟩ (.slice d1 m1 k1)) := ⟨_, rfl⟩
    have zU : U.heap.size = w1.heap.size := by rw [hU]; simp
    clear ha
    replace BB : Below w.heap.size w U := by rw [hU]; exact below_put3 BB (by omega) _ _ _
    replace x_a : B3 U (w.heap.size) (.bool n1) (.slice a1 l1 c1) (.slice d1 m1 k1) := by rw [hU]; exact x_a.set
    replace h1 := h1.set3 hU (f1 _ (by omega)) (g1 _ (by omega))
    rw [← hU]
    clear hU
    replace h1 := h1.qi K hk1 kk HNs.out HEs.out
    have dd1 : Below U.heap.size U U.drew := (Below.refl _ _).drew
    have zdd1 := dd1.size
    replace BB := also BB dd1
    replace x_a := x_a.on dd1
    replace h1 := h1.below dd1
    refine wp_region_held_drew (S := (fun w' => w'.cell? ⟨w.heap.size, 0, none⟩ = some (.bool n1) ∧ w'.cell? ⟨w.heap.size, 1, none⟩ = some (.slice a1 l1 c1) ∧ w'.cell? ⟨w.heap.size, 2, none⟩ = some (.slice d1 m1 k1) ∧ Below w.heap.size w w')) (by kernel_rfl) ?_ (fun hHeld => ?_)
    · first | exact ⟨x_a.c0, x_a.c1, x_a.c2, BB⟩ | exact ⟨cell_on bw3 hHeld.1, cell_on bw3 hHeld.2.1, cell_on bw3 hHeld.2.2.1, also hHeld.2.2.2 bw3⟩ | exact ⟨cell_on bw2 hHeld.1, cell_on bw2 hHeld.2.1, cell_on bw2 hHeld.2.2.1, also hHeld.2.2.2 bw2⟩
    refine take_yes (i := 0) (v := ?vr0) rfl (by kernel_rfl) (by kernel_rfl) (by kernel_rfl) (fun _ _ _ h => h) (by rfl) (by assumption) ?hyr0 ?restr0
    case hyr0 => (intro w hSw; (try dsimp only at hSw); first | (go_simp; done) | (go_simp; with_reducible rfl))
    simp only [Act.put, List.setIfInBounds_toArray, List.set_cons_zero, List.set_cons_succ]
    refine take_yes (i := 1) (v := ?vr1) rfl (by kernel_rfl) (by kernel_rfl) (by kernel_rfl) (fun _ _ _ h => h) (by rfl) (by assumption) ?hyr1 ?restr1
    case hyr1 => (intro w hSw; (try dsimp only at hSw); first | (go_simp; done) | (go_simp; with_reducible rfl))
    simp only [Act.put, List.setIfInBounds_toArray, List.set_cons_zero, List.set_cons_succ]
    refine take_call (i := 2) rfl (by kernel_rfl) (fun Kc hK => ?_)
    go_simp
    (go_at_call 25; refine (fOf 1 (by decide) rfl _).mono ?_; rintro e w2 ⟨a2, l2, c2, rfl, h2, f2, bw2⟩)
    refine hK.out _ _ ?_ (fun hHeld => ?_)
    · first | exact ⟨x_a.c0, x_a.c1, x_a.c2, BB⟩ | exact ⟨cell_on bw3 hHeld.1, cell_on bw3 hHeld.2.1, cell_on bw3 hHeld.2.2.1, also hHeld.2.2.2 bw3⟩ | exact ⟨cell_on bw2 hHeld.1, cell_on bw2 hHeld.2.1, cell_on bw2 hHeld.2.2.1, also hHeld.2.2.2 bw2⟩
    clear hK Kc
    have zbw2 := bw2.size
    replace BB := also BB bw2
    replace x_a := x_a.on bw2
    replace h1 := h1.below bw2
    refine take_call (i := 3) rfl (by kernel_rfl) (fun Kc hK => ?_)
    go_simp
    (go_at_call 24; refine (nCmp d1 a2 m1 l2 k1 c2 _ _ _ h1.ni (h2.ni 1 (by decide) (by decide)) HG.out).mono ?_; rintro e w3 ⟨rfl, bw3⟩)
    refine hK.out _ _ ?_ (fun hHeld => ?_)
    · first | exact ⟨x_a.c0, x_a.c1, x_a.c2, BB⟩ | exact ⟨cell_on bw3 hHeld.1, cell_on bw3 hHeld.2.1, cell_on bw3 hHeld.2.2.1, also hHeld.2.2.2 bw3⟩ | exact ⟨cell_on bw2 hHeld.1, cell_on bw2 hHeld.2.1, cell_on bw2 hHeld.2.2.1, also hHeld.2.2.2 bw2⟩
    clear hK Kc
    have zbw3 := bw3.size
    replace BB := also BB bw3
    replace x_a := x_a.on bw3
    replace h1 := h1.below bw3
    replace h2 := h2.below bw3
    refine take_yes (i := 4) (v := ?vr4) rfl (by kernel_rfl) (by kernel_rfl) (by kernel_rfl) (fun _ _ _ h => h) (by rfl) (by assumption) ?hyr4 ?restr4
    case hyr4 => (intro w hSw; (try dsimp only at hSw); first | (go_simp; done) | (go_simp; with_reducible rfl))
    simp only [Act.put, List.setIfInBounds_toArray, List.set_cons_zero, List.set_cons_succ]
    refine wpAnyH_done (by kernel_rfl) ?_ _
    have ⟨x_a_0, x_a_1, x_a_2, x_a_3, x_a_4, x_a_5⟩ := x_a
    go_wp2_with (go_at_call 26; fail)
    refine (wShow n1 a1 l1 c1 N w3 h1.wi HT.out).mono ?_
    rintro e w4 ⟨rfl, bw4⟩
    clear x_a_0 x_a_1 x_a_2 x_a_3 x_a_4 x_a_5
    have zbw4 := bw4.size
    replace BB := also BB bw4
    replace x_a := x_a.on bw4
    replace h1 := h1.below bw4
    replace h2 := h2.below bw4
    go_wp2
    go_ret
    exact ⟨rfl, BB⟩
  · have HT : Hid (s = (decZ N ++ ⟨#[47]⟩) ++ decS E) := by unfold Hid; rw [hs]; unfold qText; rw [if_neg h1]
    have hg0 : ¬ g0 = 0 := by rw [hg]; unfold cmpI; split; omega; split <;> omega
    clear hs hg h1
    obtain ⟨t1, ht1⟩ : ∃ t1, t1 = decZ N := ⟨_, rfl⟩
    obtain ⟨t2, ht2⟩ : ∃ t2, t2 = decS E := ⟨_, rfl⟩
    have q1 := decZ_size HNs.out
    have q2 := decS_sz HEs.out
    rw [← ht1] at q1
    rw [← ht2] at q2
    have hz1 : ¬ 9223372036854775807 < t1.size + 1 := by omega
    have hz2 : ¬ 9223372036854775807 < t1.size + 1 + t2.size := by omega
    clear q1 q2
    rw [← ht1, ← ht2] at HT
    have HT1 : Hid _ := ht1
    have HT2 : Hid _ := ht2
    clear ht1 ht2
    obtain ⟨W, hW, bW, x_a, sW⟩ := bs_3 w (.bool n) (.slice a la ca) (.slice d ld cd) 27
    have zbW := bW.size
    replace ha := ha.below bW
    have BB := bW
    go_enter Tryd.func11, Tryd.ntmps11
    go_wp2_with (go_at_call 23; fail)
    rw [← hW]
    clear hW
    refine (qNorm n a la ca d ld cd za Da K W ha N E HN.out HE.out).mono ?_
    rintro e w1 ⟨n1, a1, l1, c1, d1, m1, k1, rfl, h1, f1, g1, bw1⟩
    have zbw1 := bw1.size
    replace ha := ha.below bw1
    replace BB := also BB bw1
    replace x_a := x_a.on bw1
    have ⟨x_a_0, x_a_1, x_a_2, x_a_3, x_a_4, x_a_5⟩ := x_a
    go_wp2
    clear x_a_0 x_a_1 x_a_2 x_a_3 x_a_4 x_a_5
    obtain ⟨U, hU⟩ : ∃ U, U = (((w1.setCell ⟨w.heap.size, 0, none⟩ (.bool n1)).setCell ⟨w.heap.size, 1, none⟩ (.slice a1 l1 c1)).setCell ⟨w.heap.size, 2, none⟩ (.slice d1 m1 k1)) := ⟨_, rfl⟩
    have zU : U.heap.size = w1.heap.size := by rw [hU]; simp
    clear ha
    replace BB : Below w.heap.size w U := by rw [hU]; exact below_put3 BB (by omega) _ _ _
    replace x_a : B3 U (w.heap.size) (.bool n1) (.slice a1 l1 c1) (.slice d1 m1 k1) := by rw [hU]; exact x_a.set
    replace h1 := h1.set3 hU (f1 _ (by omega)) (g1 _ (by omega))
    rw [← hU]
    clear hU
    replace h1 := h1.qi K hk1 kk HNs.out HEs.out
    have dd1 : Below U.heap.size U U.drew := (Below.refl _ _).drew
    have zdd1 := dd1.size
    replace BB := also BB dd1
    replace x_a := x_a.on dd1
    replace h1 := h1.below dd1
    refine wp_region_held_drew (S := (fun w' => w'.cell? ⟨w.heap.size, 0, none⟩ = some (.bool n1) ∧ w'.cell? ⟨w.heap.size, 1, none⟩ = some (.slice a1 l1 c1) ∧ w'.cell? ⟨w.heap.size, 2, none⟩ = some (.slice d1 m1 k1) ∧ Below w.heap.size w w')) (by kernel_rfl) ?_ (fun hHeld => ?_)
    · first | exact ⟨x_a.c0, x_a.c1, x_a.c2, BB⟩ | exact ⟨cell_on bw3 hHeld.1, cell_on bw3 hHeld.2.1, cell_on bw3 hHeld.2.2.1, also hHeld.2.2.2 bw3⟩ | exact ⟨cell_on bw2 hHeld.1, cell_on bw2 hHeld.2.1, cell_on bw2 hHeld.2.2.1, also hHeld.2.2.2 bw2⟩
    refine take_yes (i := 0) (v := ?vq0) rfl (by kernel_rfl) (by kernel_rfl) (by kernel_rfl) (fun _ _ _ h => h) (by rfl) (by assumption) ?hyq0 ?restq0
    case hyq0 => (intro w hSw; (try dsimp only at hSw); first | (go_simp; done) | (go_simp; with_reducible rfl))
    simp only [Act.put, List.setIfInBounds_toArray, List.set_cons_zero, List.set_cons_succ]
    refine take_yes (i := 1) (v := ?vq1) rfl (by kernel_rfl) (by kernel_rfl) (by kernel_rfl) (fun _ _ _ h => h) (by rfl) (by assumption) ?hyq1 ?restq1
    case hyq1 => (intro w hSw; (try dsimp only at hSw); first | (go_simp; done) | (go_simp; with_reducible rfl))
    simp only [Act.put, List.setIfInBounds_toArray, List.set_cons_zero, List.set_cons_succ]
    refine take_call (i := 2) rfl (by kernel_rfl) (fun Kc hK => ?_)
    go_simp
    (go_at_call 25; refine (fOf 1 (by decide) rfl _).mono ?_; rintro e w2 ⟨a2, l2, c2, rfl, h2, f2, bw2⟩)
    refine hK.out _ _ ?_ (fun hHeld => ?_)
    · first | exact ⟨x_a.c0, x_a.c1, x_a.c2, BB⟩ | exact ⟨cell_on bw3 hHeld.1, cell_on bw3 hHeld.2.1, cell_on bw3 hHeld.2.2.1, also hHeld.2.2.2 bw3⟩ | exact ⟨cell_on bw2 hHeld.1, cell_on bw2 hHeld.2.1, cell_on bw2 hHeld.2.2.1, also hHeld.2.2.2 bw2⟩
    clear hK Kc
    have zbw2 := bw2.size
    replace BB := also BB bw2
    replace x_a := x_a.on bw2
    replace h1 := h1.below bw2
    refine take_call (i := 3) rfl (by kernel_rfl) (fun Kc hK => ?_)
    go_simp
    (go_at_call 24; refine (nCmp d1 a2 m1 l2 k1 c2 _ _ _ h1.ni (h2.ni 1 (by decide) (by decide)) HG.out).mono ?_; rintro e w3 ⟨rfl, bw3⟩)
    refine hK.out _ _ ?_ (fun hHeld => ?_)
    · first | exact ⟨x_a.c0, x_a.c1, x_a.c2, BB⟩ | exact ⟨cell_on bw3 hHeld.1, cell_on bw3 hHeld.2.1, cell_on bw3 hHeld.2.2.1, also hHeld.2.2.2 bw3⟩ | exact ⟨cell_on bw2 hHeld.1, cell_on bw2 hHeld.2.1, cell_on bw2 hHeld.2.2.1, also hHeld.2.2.2 bw2⟩
    clear hK Kc
    have zbw3 := bw3.size
    replace BB := also BB bw3
    replace x_a := x_a.on bw3
    replace h1 := h1.below bw3
    replace h2 := h2.below bw3
    refine take_yes (i := 4) (v := ?vq4) rfl (by kernel_rfl) (by kernel_rfl) (by kernel_rfl) (fun _ _ _ h => h) (by rfl) (by assumption) ?hyq4 ?restq4
    case hyq4 => (intro w hSw; (try dsimp only at hSw); first | (go_simp; done) | (go_simp; with_reducible rfl))
    simp only [Act.put, List.setIfInBounds_toArray, List.set_cons_zero, List.set_cons_succ]
    refine wpAnyH_done (by kernel_rfl) ?_ _
    have ⟨x_a_0, x_a_1, x_a_2, x_a_3, x_a_4, x_a_5⟩ := x_a
    go_wp2
    have dd2 : Below w3.heap.size w3 w3.drew := (Below.refl _ _).drew
    clear x_a_0 x_a_1 x_a_2 x_a_3 x_a_4 x_a_5
    have zdd2 := dd2.size
    replace BB := also BB dd2
    replace x_a := x_a.on dd2
    replace h1 := h1.below dd2
    replace h2 := h2.below dd2
    refine wp_region_held_drew (S := (fun w' => w'.cell? ⟨w.heap.size, 0, none⟩ = some (.bool n1) ∧ w'.cell? ⟨w.heap.size, 1, none⟩ = some (.slice a1 l1 c1) ∧ w'.cell? ⟨w.heap.size, 2, none⟩ = some (.slice d1 m1 k1) ∧ Below w.heap.size w w')) (by kernel_rfl) ?_ (fun hHeld => ?_)
    · first | exact ⟨x_a.c0, x_a.c1, x_a.c2, BB⟩ | exact ⟨cell_on bw5 hHeld.1, cell_on bw5 hHeld.2.1, cell_on bw5 hHeld.2.2.1, also hHeld.2.2.2 bw5⟩ | exact ⟨cell_on bw4 hHeld.1, cell_on bw4 hHeld.2.1, cell_on bw4 hHeld.2.2.1, also hHeld.2.2.2 bw4⟩
    refine take_yes (i := 0) (v := ?vs0) rfl (by kernel_rfl) (by kernel_rfl) (by kernel_rfl) (fun _ _ _ h => h) (by rfl) (by assumption) ?hys0 ?rests0
    case hys0 => (intro w hSw; (try dsimp only at hSw); first | (go_simp; done) | (go_simp; with_reducible rfl))
    simp only [Act.put, List.setIfInBounds_toArray, List.set_cons_zero, List.set_cons_succ]
    refine take_yes (i := 1) (v := ?vs1) rfl (by kernel_rfl) (by kernel_rfl) (by kernel_rfl) (fun _ _ _ h => h) (by rfl) (by assumption) ?hys1 ?rests1
    case hys1 => (intro w hSw; (try dsimp only at hSw); first | (go_simp; done) | (go_simp; with_reducible rfl))
    simp only [Act.put, List.setIfInBounds_toArray, List.set_cons_zero, List.set_cons_succ]
    refine take_yes (i := 4) (v := ?vs4) rfl (by kernel_rfl) (by kernel_rfl) (by kernel_rfl) (fun _ _ _ h => h) (by rfl) (by assumption) ?hys4 ?rests4
    case hys4 => (intro w hSw; (try dsimp only at hSw); first | (go_simp; done) | (go_simp; with_reducible rfl))
    simp only [Act.put, List.setIfInBounds_toArray, List.set_cons_zero, List.set_cons_succ]
    refine take_yes (i := 5) (v := ?vs5) rfl (by kernel_rfl) (by kernel_rfl) (by kernel_rfl) (fun _ _ _ h => h) (by rfl) (by assumption) ?hys5 ?rests5
    case hys5 => (intro w hSw; (try dsimp only at hSw); first | (go_simp; done) | (go_simp; with_reducible rfl))
    simp only [Act.put, List.setIfInBounds_toArray, List.set_cons_zero, List.set_cons_succ]
    refine take_call (i := 2) rfl (by kernel_rfl) (fun Kc hK => ?_)
    go_simp
    (go_at_call 26; refine (wShow n1 a1 l1 c1 N _ h1.wi HT1.out).mono ?_; rintro e w4 ⟨rfl, bw4⟩)
    refine hK.out _ _ ?_ (fun hHeld => ?_)
    · first | exact ⟨x_a.c0, x_a.c1, x_a.c2, BB⟩ | exact ⟨cell_on bw5 hHeld.1, cell_on bw5 hHeld.2.1, cell_on bw5 hHeld.2.2.1, also hHeld.2.2.2 bw5⟩ | exact ⟨cell_on bw4 hHeld.1, cell_on bw4 hHeld.2.1, cell_on bw4 hHeld.2.2.1, also hHeld.2.2.2 bw4⟩
    clear hK Kc
    have zbw4 := bw4.size
    replace BB := also BB bw4
    replace x_a := x_a.on bw4
    replace h1 := h1.below bw4
    replace h2 := h2.below bw4
    refine take_yes (i := 3) (v := ?vs3) rfl (by kernel_rfl) (by kernel_rfl) (by kernel_rfl) (fun _ _ _ h => h) (by rfl) (by assumption) ?hys3 ?rests3
    case hys3 => (intro w hSw; (try dsimp only at hSw); first | (go_simp; done) | (go_simp; with_reducible rfl))
    simp only [Act.put, List.setIfInBounds_toArray, List.set_cons_zero, List.set_cons_succ]
    refine take_call (i := 6) rfl (by kernel_rfl) (fun Kc hK => ?_)
    go_simp
    (go_at_call 27; refine (nShow d1 m1 k1 E _ h1.ni HT2.out).mono ?_; rintro e w5 ⟨rfl, bw5⟩)
    refine hK.out _ _ ?_ (fun hHeld => ?_)
    · first | exact ⟨x_a.c0, x_a.c1, x_a.c2, BB⟩ | exact ⟨cell_on bw5 hHeld.1, cell_on bw5 hHeld.2.1, cell_on bw5 hHeld.2.2.1, also hHeld.2.2.2 bw5⟩ | exact ⟨cell_on bw4 hHeld.1, cell_on bw4 hHeld.2.1, cell_on bw4 hHeld.2.2.1, also hHeld.2.2.2 bw4⟩
    clear hK Kc
    have zbw5 := bw5.size
    replace BB := also BB bw5
    replace x_a := x_a.on bw5
    replace h1 := h1.below bw5
    replace h2 := h2.below bw5
    refine take_yes (i := 7) (v := ?vs7) rfl (by kernel_rfl) (by kernel_rfl) (by kernel_rfl) (fun _ _ _ h => h) (by rfl) (by assumption) ?hys7 ?rests7
    case hys7 => (intro w hSw; (try dsimp only at hSw); first | (go_simp; done) | (go_simp; with_reducible rfl))
    simp only [Act.put, List.setIfInBounds_toArray, List.set_cons_zero, List.set_cons_succ]
    refine take_yes (i := 8) (v := ?vs8) rfl (by kernel_rfl) (by kernel_rfl) (by kernel_rfl) (fun _ _ _ h => h) (by rfl) (by assumption) ?hys8 ?rests8
    case hys8 => (intro w hSw; (try dsimp only at hSw); first | (go_simp; done) | (go_simp; with_reducible rfl))
    simp only [Act.put, List.setIfInBounds_toArray, List.set_cons_zero, List.set_cons_succ]
    refine wpAnyH_done (by kernel_rfl) ?_ _
    go_wp2
    go_ret
    exact ⟨by rw [HT.out]; rfl, BB⟩
end Go.Proofs.YtaekgomplkkocabDoor

namespace Go.Proofs.YtaekgomplkkocabDoor
open Go.RowKit
set_option linter.unusedVariables false

theorem ni_lit (w : World) (x : Nat) (hx : x < 4294967296) (xv : Int) (hv : xv = (x : Int)) : NI (w.alloc (.cells #[.int .u32 xv] 53)) (some ⟨w.heap.size, 0, none⟩) 1 1 x := by
  subst hv
  have e : wd.dcells 1 (x : Int) = [.int .u32 (x : Int)] := by
    have : (x : Int) % 4294967296 = x := Int.emod_eq_of_lt (by omega) (by omega)
    simp [wd.dcells, wd.dg, this]
  refine ⟨?_, by simpa using hx, by decide⟩
  rw [e]
  exact Own.sl (World.ownsRow_lit (base := w.heap.size) (e := 53) (size := 1) w #[.int .u32 (x : Int)] 1 (Nat.le_refl _) (by decide) rfl)
theorem low64 : lowN (6 * (-4 : Int).sign) (-4 : Int).natAbs = -3 ∧ lowD (6 * (-4 : Int).sign) (-4 : Int).natAbs = 2 := by decide
theorem low32 : lowN (pN (-3) 2) (pD 2) = -3 ∧ lowD (pN (-3) 2) (pD 2) = 2 := by decide
theorem rnd32 : flQ (pN (-3) 2 + pN (-3) 2 + ((pD 2 : Nat) : Int)) ((pD 2 + pD 2 : Nat) : Int) = -1 := by decide
theorem text32 : qText (-3) 2 = ⟨#[45, 51, 47, 50]⟩ := by
  unfold qText decZ decS
  rw [if_neg (by decide), if_pos (by decide), dlen_eq (k := 1) ⟨by decide, by decide, Or.inl rfl⟩, dlen_eq (k := 1) ⟨by decide, by decide, Or.inl rfl⟩]
  decide +kernel
set_option maxRecDepth 100000 in
set_option maxHeartbeats 1000000 in
theorem lives5_any (w : World) : Calls Tryd.prog 12 #[] w fun e w' => e = .returned (.bool true) ∧ Below w.heap.size w w' := by
  have e1 : Below w.heap.size w (w.alloc (.cells #[.int .u32 6] 53)) := (Below.refl _ _).alloc (Nat.le_refl _) _
  have e2 : Below (w.alloc (.cells #[.int .u32 6] 53)).heap.size (w.alloc (.cells #[.int .u32 6] 53)) ((w.alloc (.cells #[.int .u32 6] 53)).alloc (.cells #[.int .u32 4] 53)) := (Below.refl _ _).alloc (Nat.le_refl _) _
  have s6 := (ni_lit w 6 (by decide) 6 rfl).below e2
  have s4 := ni_lit (w.alloc (.cells #[.int .u32 6] 53)) 4 (by decide) 4 rfl
  rw [World.size_alloc] at s4
  have q6 : WI _ false _ 1 1 6 := wi_of (n := false) s6
  have q4 : WI _ true _ 1 1 (-4) := wi_of (n := true) s4
  have BB := also e1 e2
  obtain ⟨W, hW⟩ : ∃ W, W = (w.alloc (.cells #[.int .u32 6] 53)).alloc (.cells #[.int .u32 4] 53) := ⟨_, rfl⟩
  rw [← hW] at q6 q4 BB
  clear s6 s4 e1 e2
  go_enter Tryd.func12, Tryd.ntmps12
  go_wp2_with (go_at_call 14; fail)
  rw [← hW]
  clear hW
  refine (qMake false true _ _ 1 1 1 1 6 (-4) W q6 q4 (by decide) (-3) 2 low64.1.symm low64.2.symm).mono ?_
  rintro e w1 ⟨n1, a1, l1, c1, d1, m1, k1, rfl, h1, f1, g1, bw1⟩
  have zbw1 := bw1.size
  replace q6 := q6.below bw1
  replace q4 := q4.below bw1
  replace BB := also BB bw1
  replace h1 := h1.qi 1 (by decide) (by decide) (by decide) (by decide)
  obtain ⟨V1, hV1, bV1, x_a, sV1⟩ := bs_3 w1 (.bool n1) (.slice a1 l1 c1) (.slice d1 m1 k1) 27
  have zbV1 := bV1.size
  replace q6 := q6.below bV1
  replace q4 := q4.below bV1
  replace BB := also BB bV1
  replace h1 := h1.below bV1
  go_wp2_with (go_at_call 28; fail)
  rw [← hV1]
  clear hV1
  refine (qRound n1 a1 l1 c1 d1 m1 k1 (-3) 2 1 V1 h1 (-1) rnd32.symm).mono ?_
  rintro e w2 ⟨n2, a2, l2, c2, rfl, h2, f2, bw2⟩
  have zbw2 := bw2.size
  replace q6 := q6.below bw2
  replace q4 := q4.below bw2
  replace BB := also BB bw2
  replace h1 := h1.below bw2
  replace x_a := x_a.on bw2
  obtain ⟨V2, hV2, bV2, x_n, sV2⟩ := bs_2 w2 (.bool n2) (.slice a2 l2 c2) 25
  have zbV2 := bV2.size
  replace q6 := q6.below bV2
  replace q4 := q4.below bV2
  replace BB := also BB bV2
  replace h1 := h1.below bV2
  replace x_a := x_a.on bV2
  replace h2 := h2.below bV2
  have st_a_0 : (w2.alloc (.cells #[.bool n2, .slice a2 l2 c2] 25)).cell? ⟨w1.heap.size, 0, none⟩ = some (.bool n1) := by rw [← hV2]; exact x_a.c0
  have st_a_1 : (w2.alloc (.cells #[.bool n2, .slice a2 l2 c2] 25)).cell? ⟨w1.heap.size, 1, none⟩ = some (.slice a1 l1 c1) := by rw [← hV2]; exact x_a.c1
  have st_a_2 : (w2.alloc (.cells #[.bool n2, .slice a2 l2 c2] 25)).cell? ⟨w1.heap.size, 2, none⟩ = some (.slice d1 m1 k1) := by rw [← hV2]; exact x_a.c2
  have sf_a_0 : (w2.alloc (.cells #[.bool n2, .slice a2 l2 c2] 25)).frozen? ⟨w1.heap.size, 0, none⟩ = false := by rw [← hV2]; exact x_a.f0
  have sf_a_1 : (w2.alloc (.cells #[.bool n2, .slice a2 l2 c2] 25)).frozen? ⟨w1.heap.size, 1, none⟩ = false := by rw [← hV2]; exact x_a.f1
  have sf_a_2 : (w2.alloc (.cells #[.bool n2, .slice a2 l2 c2] 25)).frozen? ⟨w1.heap.size, 2, none⟩ = false := by rw [← hV2]; exact x_a.f2
  have HS : Hid ((⟨#[45, 51, 47, 50]⟩ : ByteArray) = qText (lowN (pN (-3) 2) (pD 2)) (lowD (pN (-3) 2) (pD 2))) := by unfold Hid; rw [low32.1, low32.2, text32]
  go_wp2_with (go_at_call 11; fail)
  rw [← hV2]
  clear hV2 st_a_0 st_a_1 st_a_2 sf_a_0 sf_a_1 sf_a_2
  refine (qShow n1 a1 l1 c1 d1 m1 k1 (-3) 2 1 V2 h1 HS.out).mono ?_
  rintro e w3 ⟨rfl, bw3⟩
  have zbw3 := bw3.size
  replace q6 := q6.below bw3
  replace q4 := q4.below bw3
  replace BB := also BB bw3
  replace h1 := h1.below bw3
  replace x_a := x_a.on bw3
  replace h2 := h2.below bw3
  replace x_n := x_n.on bw3
  obtain rfl : n2 = true := by rw [h2.sg]; rfl
  obtain rfl : l2 = 1 := by rw [h2.nd.len]; exact wd.nlen_eq ⟨by decide, Or.inr (by decide)⟩
  obtain ⟨b, p, rfl, hb, seg⟩ := h2.nd.sl.at (by decide)
  have hc : w3.cell? ⟨b, p, none⟩ = some (.int .u32 1) := by have := seg.cell 0 _ (wd.dcells_at _ _ _ (by decide)); simpa [wd.dg] using this
  have ⟨x_n_0, x_n_1, x_n_2, x_n_3⟩ := x_n
  go_wp2
  go_ret
  exact ⟨rfl, BB⟩
end Go.Proofs.YtaekgomplkkocabDoor

namespace Go.Proofs.YtaekgomplkkocabDoor
set_option linter.unusedVariables false

/-- Two fractions of one value. -/
def fe (n : Int) (d : Nat) (n' : Int) (d' : Nat) : Prop := n * (d' : Int) = n' * (d : Int)
theorem fe_low {z : Int} {D : Nat} (h : 0 < D) : fe (lowN z D) (lowD z D) z D := low_same h
theorem fe_trans {n n' n'' : Int} {d d' d'' : Nat} (h : 0 < d') (h1 : fe n d n' d') (h2 : fe n' d' n'' d'') : fe n d n'' d'' := by
  unfold fe at *
  refine Int.eq_of_mul_eq_mul_right (show (d' : Int) ≠ 0 by omega) ?_
  grind
theorem fe_symm {n n' : Int} {d d' : Nat} (h : fe n d n' d') : fe n' d' n d := by unfold fe at *; exact h.symm
theorem fe_mul {n n' m m' : Int} {d d' e e' : Nat} (h1 : fe n d n' d') (h2 : fe m e m' e') : fe (n * m) (d * e) (n' * m') (d' * e') := by
  unfold fe at *
  rw [Int.natCast_mul, Int.natCast_mul]
  grind
theorem fe_add {n n' m m' : Int} {d d' e e' : Nat} (h1 : fe n d n' d') (h2 : fe m e m' e') : fe (n * (e : Int) + m * (d : Int)) (d * e) (n' * (e' : Int) + m' * (d' : Int)) (d' * e') := by
  unfold fe at *
  rw [Int.natCast_mul, Int.natCast_mul]
  grind
theorem fe_sub {n n' m m' : Int} {d d' e e' : Nat} (h1 : fe n d n' d') (h2 : fe m e m' e') : fe (n * (e : Int) - m * (d : Int)) (d * e) (n' * (e' : Int) - m' * (d' : Int)) (d' * e') := by
  unfold fe at *
  rw [Int.natCast_mul, Int.natCast_mul]
  grind
theorem fe_refl (n : Int) (d : Nat) : fe n d n d := rfl
theorem low_uniq {z z' : Int} {D D' : Nat} (h0 : 0 < D) (h0' : 0 < D') (h : fe z D z' D') : lowN z D = lowN z' D' ∧ lowD z D = lowD z' D' :=
  low_one (fe_trans h0 (fe_low h0) (fe_trans h0' h (fe_symm (fe_low h0')))) (low_gcd h0) (low_gcd h0') (lowD_pos h0) (lowD_pos h0')
theorem pN_pos {z : Int} {D : Nat} (h : 0 < D) : pN z D = z := if_neg (by omega)
theorem pD_eq {D : Nat} (h : 0 < D) : pD D = D := if_neg (by omega)
theorem fld_dist (x y z : Int) (a b c : Nat) (ha : 0 < a) (hb : 0 < b) (hc : 0 < c) {sN m1 m2 : Int} {sD e1 e2 : Nat} (h1 : sN = lowN (y * (c : Int) + z * (b : Int)) (b * c)) (h2 : sD = lowD (y * (c : Int) + z * (b : Int)) (b * c)) (h3 : m1 = lowN (x * y) (a * b)) (h4 : e1 = lowD (x * y) (a * b)) (h5 : m2 = lowN (x * z) (a * c)) (h6 : e2 = lowD (x * z) (a * c)) :
    lowN (x * sN) (a * sD) = lowN (m1 * (e2 : Int) + m2 * (e1 : Int)) (e1 * e2) ∧ lowD (x * sN) (a * sD) = lowD (m1 * (e2 : Int) + m2 * (e1 : Int)) (e1 * e2) := by
  have bc : 0 < b * c := Nat.mul_pos hb hc
  have ab : 0 < a * b := Nat.mul_pos ha hb
  have ac : 0 < a * c := Nat.mul_pos ha hc
  have f1 : fe sN sD (y * (c : Int) + z * (b : Int)) (b * c) := by rw [h1, h2]; exact fe_low bc
  have f2 : fe m1 e1 (x * y) (a * b) := by rw [h3, h4]; exact fe_low ab
  have f3 : fe m2 e2 (x * z) (a * c) := by rw [h5, h6]; exact fe_low ac
  have p1 : 0 < sD := by rw [h2]; exact lowD_pos bc
  have p2 : 0 < e1 := by rw [h4]; exact lowD_pos ab
  have p3 : 0 < e2 := by rw [h6]; exact lowD_pos ac
  refine low_uniq (Nat.mul_pos ha p1) (Nat.mul_pos p2 p3) ?_
  refine fe_trans (Nat.mul_pos ha bc) (fe_mul (fe_refl x a) f1) (fe_trans (Nat.mul_pos ab ac) ?_ (fe_symm (fe_add f2 f3)))
  unfold fe
  simp only [Int.natCast_mul]
  grind
theorem fld_sub (x y : Int) (a b : Nat) (ha : 0 < a) (hb : 0 < b) {sN tN : Int} {sD tD : Nat} (h1 : sN = lowN (x * (b : Int) + y * (a : Int)) (a * b)) (h2 : sD = lowD (x * (b : Int) + y * (a : Int)) (a * b)) (h3 : tN = lowN (sN * (b : Int) - y * (sD : Int)) (sD * b)) (h4 : tD = lowD (sN * (b : Int) - y * (sD : Int)) (sD * b)) :
    (0 : Int) = (tN * (a : Int) - x * (tD : Int)).sign := by
  have ab : 0 < a * b := Nat.mul_pos ha hb
  have p1 : 0 < sD := by rw [h2]; exact lowD_pos ab
  have f1 : fe sN sD (x * (b : Int) + y * (a : Int)) (a * b) := by rw [h1, h2]; exact fe_low ab
  have f2 : fe tN tD (sN * (b : Int) - y * (sD : Int)) (sD * b) := by rw [h3, h4]; exact fe_low (Nat.mul_pos p1 hb)
  have f3 := fe_sub f1 (fe_refl y b)
  have f4 : fe ((x * (b : Int) + y * (a : Int)) * (b : Int) - y * ((a * b : Nat) : Int)) (a * b * b) x a := by
    unfold fe
    simp only [Int.natCast_mul]
    grind
  have f5 : fe tN tD x a := fe_trans (Nat.mul_pos p1 hb) f2 (fe_trans (Nat.mul_pos ab hb) f3 f4)
  unfold fe at f5
  rw [f5, Int.sub_self]
  rfl
theorem fld_div (x y : Int) (a b : Nat) (ha : 0 < a) (hb : 0 < b) (hy : y ≠ 0) {mN qN : Int} {mD qD : Nat} (h1 : mN = lowN (x * y) (a * b)) (h2 : mD = lowD (x * y) (a * b)) (h3 : qN = lowN (mN * (b : Int) * (y * (mD : Int)).sign) (y * (mD : Int)).natAbs) (h4 : qD = lowD (mN * (b : Int) * (y * (mD : Int)).sign) (y * (mD : Int)).natAbs) :
    (0 : Int) = (qN * (a : Int) - x * (qD : Int)).sign := by
  have ab : 0 < a * b := Nat.mul_pos ha hb
  have p1 : 0 < mD := by rw [h2]; exact lowD_pos ab
  have hR : y * (mD : Int) ≠ 0 := Int.mul_ne_zero hy (by omega)
  have p2 : 0 < (y * (mD : Int)).natAbs := by omega
  have f1 : mN * ((a * b : Nat) : Int) = x * y * (mD : Int) := by rw [h1, h2]; exact fe_low ab
  have f2 : qN * ((y * (mD : Int)).natAbs : Int) = mN * (b : Int) * (y * (mD : Int)).sign * (qD : Int) := by rw [h3, h4]; exact fe_low p2
  have f3 : qN * (y * (mD : Int)) = mN * (b : Int) * (qD : Int) := by
    rcases wsign_cases (y * (mD : Int)) with ⟨q, s⟩ | ⟨q, s⟩ | ⟨q, s⟩
    · rw [s] at f2
      have e : ((y * (mD : Int)).natAbs : Int) = -(y * (mD : Int)) := by omega
      rw [e] at f2
      grind
    · exact absurd q hR
    · rw [s] at f2
      have e : ((y * (mD : Int)).natAbs : Int) = y * (mD : Int) := by omega
      rw [e] at f2
      grind
  have f4 : qN * (a : Int) = x * (qD : Int) := by
    refine Int.eq_of_mul_eq_mul_right hR ?_
    simp only [Int.natCast_mul] at f1
    grind
  rw [f4, Int.sub_self]
  rfl
end Go.Proofs.YtaekgomplkkocabDoor
