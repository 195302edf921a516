/-
  Joined texts, part 7:
  What package rat's Show answers.
  The laws' own look of layer 5: a fraction is made and rounded.
  What strings.Cut answers at a slash.
  What holds behind the laws' taking of both numbers' digits.
  What nat's isShow and withPiece answer.
  What nat's Parse answers.
  What package whole's Parse answers.
  What zelligeref03's Show answers.
  What zelligeref03's Parse answers.
  What zelligeref03's Parse answers where there is no number.
  What zelligeref04's Show answers; and what both packages read of a text.
  A number's text is read as the number (as for layer 4's law).
  What package rat's Parse answers at a fraction's text.
-/
import Derived.Test.YtaekgomplkkocabGreatDoorP6
import Derived.Test.YtaekgomplkkocabGreatDoorP5
import Derived.Test.YtaekgomplkkocabGreatDoorP4
import Derived.Laws.Externs
import Derived.Lib.Bytealg
import Derived.Test.YtaekgomplkkocabGreatDoorP3
import Derived.OpenShut
import Derived.ShutString
namespace Go.Proofs.YtaekgomplkkocabGreatDoor
open Go.RowKit
set_option linter.unusedVariables false

/-- A fraction's text, by its parts in lowest terms. -/
def qText (N : Int) (D : Nat) : ByteArray := if D = 1 then decZ N else (decZ N ++ ⟨#[47]⟩) ++ decS D
theorem decZ_size {z : Int} {K : Nat} (h : z.natAbs < 4294967296 ^ K) : (decZ z).size ≤ 10 * K + 2 := by
  have := dlen_le h
  unfold decZ
  split
  · rw [ByteArray.size_append, decS_size]; show 1 + _ ≤ _; omega
  · rw [decS_size]; omega
theorem decS_sz {u K : Nat} (h : u < 4294967296 ^ K) : (decS u).size ≤ 10 * K + 1 := by rw [decS_size]; exact dlen_le h
theorem QN.set3 {w w' : World} {n : Bool} {a : Option Addr} {l c : Nat} {d : Option Addr} {m k : Nat} {z : Int} {D : Nat} {b : Nat} {u v t : Value} (h : QN w n a l c d m k z D) (e : w' = ((w.setCell ⟨b, 0, none⟩ u).setCell ⟨b, 1, none⟩ v).setCell ⟨b, 2, none⟩ t) (n1 : NA b a l) (n2 : NA b d m) : QN w' n a l c d m k z D := by
  rw [e]; exact h.put3 n1 n2 u v t
set_option maxRecDepth 100000 in
set_option maxHeartbeats 1000000 in
theorem qShow (n : Bool) (a : Option Addr) (la ca : Nat) (d : Option Addr) (ld cd : Nat) (za : Int) (Da : Nat) (K : Nat) (w : World) (ha : QI w K n a la ca d ld cd za Da) {s : ByteArray} (hs : s = qText (lowN (pN za Da) (pD Da)) (lowD (pN za Da) (pD Da))) :
    Calls Tryz.prog 16 #[.agg #[.bool n, .slice a la ca, .slice d ld cd]] w fun e w' => e = .returned (.string s) ∧ Below w.heap.size w w' := by
  obtain ⟨N, hN⟩ : ∃ N, N = lowN (pN za Da) (pD Da) := ⟨_, rfl⟩
  obtain ⟨E, hE⟩ : ∃ E, E = lowD (pN za Da) (pD Da) := ⟨_, rfl⟩
  rw [← hN, ← hE] at hs
  have HNs : Hid (N.natAbs < 4294967296 ^ K) := by unfold Hid; rw [hN]; exact Nat.lt_of_le_of_lt (lowN_le _ _) ha.pn
  have HEs : Hid (E < 4294967296 ^ K) := by unfold Hid; rw [hE]; exact Nat.lt_of_le_of_lt (lowD_le _ _) ha.pd
  have hk1 := ha.k1
  have kk := ha.kk
  have HN : Hid _ := hN
  have HE : Hid _ := hE
  obtain ⟨g0, hg⟩ : ∃ g0, g0 = cmpI (E : Int) ((1 : Nat) : Int) := ⟨_, rfl⟩
  have HG : Hid _ := hg
  clear hN hE
  by_cases h1 : E = 1
  · have HT : Hid (s = decZ N) := by unfold Hid; rw [hs]; unfold qText; rw [if_pos h1]
    obtain rfl : g0 = 0 := by rw [hg, h1]; rfl
    clear hs hg h1
    obtain ⟨W, hW, bW, x_a, sW⟩ := bs_3 w (.bool n) (.slice a la ca) (.slice d ld cd) 27
    have zbW := bW.size
    replace ha := ha.below bW
    have BB := bW
    go_enter Tryz.func16, Tryz.ntmps16
    go_wp2_with (go_at_call 35; fail)
    rw [← hW]
    clear hW
    refine (qNorm n a la ca d ld cd za Da K W ha N E HN.out HE.out).mono ?_
    rintro e w1 ⟨n1, a1, l1, c1, d1, m1, k1, rfl, h1, f1, g1, bw1⟩
    have zbw1 := bw1.size
    replace ha := ha.below bw1
    replace BB := also BB bw1
    replace x_a := x_a.on bw1
    have ⟨x_a_0, x_a_1, x_a_2, x_a_3, x_a_4, x_a_5⟩ := x_a
    go_wp2
    clear x_a_0 x_a_1 x_a_2 x_a_3 x_a_4 x_a_5
    obtain ⟨U, hU⟩ : ∃ U, U = (((w1.setCell ⟨w.heap.size, 0, none⟩ (.bool n1)).setCell ⟨w.heap.size, 1, none⟩ (.slice a1 l1 c1)).setCell ⟨w.heap.size, 2, none⟩ (.slice d1 m1 k1)) := ⟨_, rfl⟩
    have zU : U.heap.size = w1.heap.size := by rw [hU]; simp
    clear ha
    replace BB : Below w.heap.size w U := by rw [hU]; exact below_put3 BB (by omega) _ _ _
    replace x_a : B3 U (w.heap.size) (.bool n1) (.slice a1 l1 c1) (.slice d1 m1 k1) := by rw [hU]; exact x_a.set
    replace h1 := h1.set3 hU (f1 _ (by omega)) (g1 _ (by omega))
    rw [← hU]
    clear hU
    replace h1 := h1.qi K hk1 kk HNs.out HEs.out
    have dd1 : Below U.heap.size U U.drew := (Below.refl _ _).drew
    have zdd1 := dd1.size
    replace BB := also BB dd1
    replace x_a := x_a.on dd1
    replace h1 := h1.below dd1
    refine wp_region_held_drew (S := (fun w' => w'.cell? ⟨w.heap.size, 0, none⟩ = some (.bool n1) ∧ w'.cell? ⟨w.heap.size, 1, none⟩ = some (.slice a1 l1 c1) ∧ w'.cell? ⟨w.heap.size, 2, none⟩ = some (.slice d1 m1 k1) ∧ Below w.heap.size w w')) (by kernel_rfl) ?_ (fun hHeld => ?_)
    · first | exact ⟨x_a.c0, x_a.c1, x_a.c2, BB⟩ | exact ⟨cell_on bw3 hHeld.1, cell_on bw3 hHeld.2.1, cell_on bw3 hHeld.2.2.1, also hHeld.2.2.2 bw3⟩ | exact ⟨cell_on bw2 hHeld.1, cell_on bw2 hHeld.2.1, cell_on bw2 hHeld.2.2.1, also hHeld.2.2.2 bw2⟩
    refine take_yes (i := 0) (v := ?vr0) rfl (by kernel_rfl) (by kernel_rfl) (by kernel_rfl) (fun _ _ _ h => h) (by rfl) (by assumption) ?hyr0 ?restr0
    case hyr0 => (intro w hSw; (try dsimp only at hSw); first | (go_simp; done) | (go_simp; with_reducible rfl))
    simp only [Act.put, List.setIfInBounds_toArray, List.set_cons_zero, List.set_cons_succ]
    refine take_yes (i := 1) (v := ?vr1) rfl (by kernel_rfl) (by kernel_rfl) (by kernel_rfl) (fun _ _ _ h => h) (by rfl) (by assumption) ?hyr1 ?restr1
    case hyr1 => (intro w hSw; (try dsimp only at hSw); first | (go_simp; done) | (go_simp; with_reducible rfl))
    simp only [Act.put, List.setIfInBounds_toArray, List.set_cons_zero, List.set_cons_succ]
    refine take_call (i := 2) rfl (by kernel_rfl) (fun Kc hK => ?_)
    go_simp
    (go_at_call 14; refine (fOf 1 (by decide) rfl _).mono ?_; rintro e w2 ⟨a2, l2, c2, rfl, h2, f2, bw2⟩)
    refine hK.out _ _ ?_ (fun hHeld => ?_)
    · first | exact ⟨x_a.c0, x_a.c1, x_a.c2, BB⟩ | exact ⟨cell_on bw3 hHeld.1, cell_on bw3 hHeld.2.1, cell_on bw3 hHeld.2.2.1, also hHeld.2.2.2 bw3⟩ | exact ⟨cell_on bw2 hHeld.1, cell_on bw2 hHeld.2.1, cell_on bw2 hHeld.2.2.1, also hHeld.2.2.2 bw2⟩
    clear hK Kc
    have zbw2 := bw2.size
    replace BB := also BB bw2
    replace x_a := x_a.on bw2
    replace h1 := h1.below bw2
    refine take_call (i := 3) rfl (by kernel_rfl) (fun Kc hK => ?_)
    go_simp
    (go_at_call 36; refine (nCmp d1 a2 m1 l2 k1 c2 _ _ _ h1.ni (h2.ni 1 (by decide) (by decide)) HG.out).mono ?_; rintro e w3 ⟨rfl, bw3⟩)
    refine hK.out _ _ ?_ (fun hHeld => ?_)
    · first | exact ⟨x_a.c0, x_a.c1, x_a.c2, BB⟩ | exact ⟨cell_on bw3 hHeld.1, cell_on bw3 hHeld.2.1, cell_on bw3 hHeld.2.2.1, also hHeld.2.2.2 bw3⟩ | exact ⟨cell_on bw2 hHeld.1, cell_on bw2 hHeld.2.1, cell_on bw2 hHeld.2.2.1, also hHeld.2.2.2 bw2⟩
    clear hK Kc
    have zbw3 := bw3.size
    replace BB := also BB bw3
    replace x_a := x_a.on bw3
    replace h1 := h1.below bw3
    replace h2 := h2.below bw3
    refine take_yes (i := 4) (v := ?vr4) rfl (by kernel_rfl) (by kernel_rfl) (by kernel_rfl) (fun _ _ _ h => h) (by rfl) (by assumption) ?hyr4 ?restr4
    case hyr4 => (intro w hSw; (try dsimp only at hSw); first | (go_simp; done) | (go_simp; with_reducible rfl))
    simp only [Act.put, List.setIfInBounds_toArray, List.set_cons_zero, List.set_cons_succ]
    refine wpAnyH_done (by kernel_rfl) ?_ _
    have ⟨x_a_0, x_a_1, x_a_2, x_a_3, x_a_4, x_a_5⟩ := x_a
    go_wp2_with (go_at_call 37; fail)
    refine (wShow n1 a1 l1 c1 N w3 h1.wi HT.out).mono ?_
    rintro e w4 ⟨rfl, bw4⟩
    clear x_a_0 x_a_1 x_a_2 x_a_3 x_a_4 x_a_5
    have zbw4 := bw4.size
    replace BB := also BB bw4
    replace x_a := x_a.on bw4
    replace h1 := h1.below bw4
    replace h2 := h2.below bw4
    go_wp2
    go_ret
    exact ⟨rfl, BB⟩
  · have HT : Hid (s = (decZ N ++ ⟨#[47]⟩) ++ decS E) := by unfold Hid; rw [hs]; unfold qText; rw [if_neg h1]
    have hg0 : ¬ g0 = 0 := by rw [hg]; unfold cmpI; split; omega; split <;> omega
    clear hs hg h1
    obtain ⟨t1, ht1⟩ : ∃ t1, t1 = decZ N := ⟨_, rfl⟩
    obtain ⟨t2, ht2⟩ : ∃ t2, t2 = decS E := ⟨_, rfl⟩
    have q1 := decZ_size HNs.out
    have q2 := decS_sz HEs.out
    rw [← ht1] at q1
    rw [← ht2] at q2
    have hz1 : ¬ 9223372036854775807 < t1.size + 1 := by omega
    have hz2 : ¬ 9223372036854775807 < t1.size + 1 + t2.size := by omega
    clear q1 q2
    rw [← ht1, ← ht2] at HT
    have HT1 : Hid _ := ht1
    have HT2 : Hid _ := ht2
    clear ht1 ht2
    obtain ⟨W, hW, bW, x_a, sW⟩ := bs_3 w (.bool n) (.slice a la ca) (.slice d ld cd) 27
    have zbW := bW.size
    replace ha := ha.below bW
    have BB := bW
    go_enter Tryz.func16, Tryz.ntmps16
    go_wp2_with (go_at_call 35; fail)
    rw [← hW]
    clear hW
    refine (qNorm n a la ca d ld cd za Da K W ha N E HN.out HE.out).mono ?_
    rintro e w1 ⟨n1, a1, l1, c1, d1, m1, k1, rfl, h1, f1, g1, bw1⟩
    have zbw1 := bw1.size
    replace ha := ha.below bw1
    replace BB := also BB bw1
    replace x_a := x_a.on bw1
    have ⟨x_a_0, x_a_1, x_a_2, x_a_3, x_a_4, x_a_5⟩ := x_a
    go_wp2
    clear x_a_0 x_a_1 x_a_2 x_a_3 x_a_4 x_a_5
    obtain ⟨U, hU⟩ : ∃ U, U = (((w1.setCell ⟨w.heap.size, 0, none⟩ (.bool n1)).setCell ⟨w.heap.size, 1, none⟩ (.slice a1 l1 c1)).setCell ⟨w.heap.size, 2, none⟩ (.slice d1 m1 k1)) := ⟨_, rfl⟩
    have zU : U.heap.size = w1.heap.size := by rw [hU]; simp
    clear ha
    replace BB : Below w.heap.size w U := by rw [hU]; exact below_put3 BB (by omega) _ _ _
    replace x_a : B3 U (w.heap.size) (.bool n1) (.slice a1 l1 c1) (.slice d1 m1 k1) := by rw [hU]; exact x_a.set
    replace h1 := h1.set3 hU (f1 _ (by omega)) (g1 _ (by omega))
    rw [← hU]
    clear hU
    replace h1 := h1.qi K hk1 kk HNs.out HEs.out
    have dd1 : Below U.heap.size U U.drew := (Below.refl _ _).drew
    have zdd1 := dd1.size
    replace BB := also BB dd1
    replace x_a := x_a.on dd1
    replace h1 := h1.below dd1
    refine wp_region_held_drew (S := (fun w' => w'.cell? ⟨w.heap.size, 0, none⟩ = some (.bool n1) ∧ w'.cell? ⟨w.heap.size, 1, none⟩ = some (.slice a1 l1 c1) ∧ w'.cell? ⟨w.heap.size, 2, none⟩ = some (.slice d1 m1 k1) ∧ Below w.heap.size w w')) (by kernel_rfl) ?_ (fun hHeld => ?_)
    · first | exact ⟨x_a.c0, x_a.c1, x_a.c2, BB⟩ | exact ⟨cell_on bw3 hHeld.1, cell_on bw3 hHeld.2.1, cell_on bw3 hHeld.2.2.1, also hHeld.2.2.2 bw3⟩ | exact ⟨cell_on bw2 hHeld.1, cell_on bw2 hHeld.2.1, cell_on bw2 hHeld.2.2.1, also hHeld.2.2.2 bw2⟩
    refine take_yes (i := 0) (v := ?vq0) rfl (by kernel_rfl) (by kernel_rfl) (by kernel_rfl) (fun _ _ _ h => h) (by rfl) (by assumption) ?hyq0 ?restq0
    case hyq0 => (intro w hSw; (try dsimp only at hSw); first | (go_simp; done) | (go_simp; with_reducible rfl))
    simp only [Act.put, List.setIfInBounds_toArray, List.set_cons_zero, List.set_cons_succ]
    refine take_yes (i := 1) (v := ?vq1) rfl (by kernel_rfl) (by kernel_rfl) (by kernel_rfl) (fun _ _ _ h => h) (by rfl) (by assumption) ?hyq1 ?restq1
    case hyq1 => (intro w hSw; (try dsimp only at hSw); first | (go_simp; done) | (go_simp; with_reducible rfl))
    simp only [Act.put, List.setIfInBounds_toArray, List.set_cons_zero, List.set_cons_succ]
    refine take_call (i := 2) rfl (by kernel_rfl) (fun Kc hK => ?_)
    go_simp
    (go_at_call 14; refine (fOf 1 (by decide) rfl _).mono ?_; rintro e w2 ⟨a2, l2, c2, rfl, h2, f2, bw2⟩)
    refine hK.out _ _ ?_ (fun hHeld => ?_)
    · first | exact ⟨x_a.c0, x_a.c1, x_a.c2, BB⟩ | exact ⟨cell_on bw3 hHeld.1, cell_on bw3 hHeld.2.1, cell_on bw3 hHeld.2.2.1, also hHeld.2.2.2 bw3⟩ | exact ⟨cell_on bw2 hHeld.1, cell_on bw2 hHeld.2.1, cell_on bw2 hHeld.2.2.1, also hHeld.2.2.2 bw2⟩
    clear hK Kc
    have zbw2 := bw2.size
    replace BB := also BB bw2
    replace x_a := x_a.on bw2
    replace h1 := h1.below bw2
    refine take_call (i := 3) rfl (by kernel_rfl) (fun Kc hK => ?_)
    go_simp
    (go_at_call 36; refine (nCmp d1 a2 m1 l2 k1 c2 _ _ _ h1.ni (h2.ni 1 (by decide) (by decide)) HG.out).mono ?_; rintro e w3 ⟨rfl, bw3⟩)
    refine hK.out _ _ ?_ (fun hHeld => ?_)
    · first | exact ⟨x_a.c0, x_a.c1, x_a.c2, BB⟩ | exact ⟨cell_on bw3 hHeld.1, cell_on bw3 hHeld.2.1, cell_on bw3 hHeld.2.2.1, also hHeld.2.2.2 bw3⟩ | exact ⟨cell_on bw2 hHeld.1, cell_on bw2 hHeld.2.1, cell_on bw2 hHeld.2.2.1, also hHeld.2.2.2 bw2⟩
    clear hK Kc
    have zbw3 := bw3.size
    replace BB := also BB bw3
    replace x_a := x_a.on bw3
    replace h1 := h1.below bw3
    replace h2 := h2.below bw3
    refine take_yes (i := 4) (v := ?vq4) rfl (by kernel_rfl) (by kernel_rfl) (by kernel_rfl) (fun _ _ _ h => h) (by rfl) (by assumption) ?hyq4 ?restq4
    case hyq4 => (intro w hSw; (try dsimp only at hSw); first | (go_simp; done) | (go_simp; with_reducible rfl))
    simp only [Act.put, List.setIfInBounds_toArray, List.set_cons_zero, List.set_cons_succ]
    refine wpAnyH_done (by kernel_rfl) ?_ _
    have ⟨x_a_0, x_a_1, x_a_2, x_a_3, x_a_4, x_a_5⟩ := x_a
    go_wp2
    have dd2 : Below w3.heap.size w3 w3.drew := (Below.refl _ _).drew
    clear x_a_0 x_a_1 x_a_2 x_a_3 x_a_4 x_a_5
    have zdd2 := dd2.size
    replace BB := also BB dd2
    replace x_a := x_a.on dd2
    replace h1 := h1.below dd2
    replace h2 := h2.below dd2
    refine wp_region_held_drew (S := (fun w' => w'.cell? ⟨w.heap.size, 0, none⟩ = some (.bool n1) ∧ w'.cell? ⟨w.heap.size, 1, none⟩ = some (.slice a1 l1 c1) ∧ w'.cell? ⟨w.heap.size, 2, none⟩ = some (.slice d1 m1 k1) ∧ Below w.heap.size w w')) (by kernel_rfl) ?_ (fun hHeld => ?_)
    · first | exact ⟨x_a.c0, x_a.c1, x_a.c2, BB⟩ | exact ⟨cell_on bw5 hHeld.1, cell_on bw5 hHeld.2.1, cell_on bw5 hHeld.2.2.1, also hHeld.2.2.2 bw5⟩ | exact ⟨cell_on bw4 hHeld.1, cell_on bw4 hHeld.2.1, cell_on bw4 hHeld.2.2.1, also hHeld.2.2.2 bw4⟩
    refine take_yes (i := 0) (v := ?vs0) rfl (by kernel_rfl) (by kernel_rfl) (by kernel_rfl) (fun _ _ _ h => h) (by rfl) (by assumption) ?hys0 ?rests0
    case hys0 => (intro w hSw; (try dsimp only at hSw); first | (go_simp; done) | (go_simp; with_reducible rfl))
    simp only [Act.put, List.setIfInBounds_toArray, List.set_cons_zero, List.set_cons_succ]
    refine take_yes (i := 1) (v := ?vs1) rfl (by kernel_rfl) (by kernel_rfl) (by kernel_rfl) (fun _ _ _ h => h) (by rfl) (by assumption) ?hys1 ?rests1
    case hys1 => (intro w hSw; (try dsimp only at hSw); first | (go_simp; done) | (go_simp; with_reducible rfl))
    simp only [Act.put, List.setIfInBounds_toArray, List.set_cons_zero, List.set_cons_succ]
    refine take_yes (i := 4) (v := ?vs4) rfl (by kernel_rfl) (by kernel_rfl) (by kernel_rfl) (fun _ _ _ h => h) (by rfl) (by assumption) ?hys4 ?rests4
    case hys4 => (intro w hSw; (try dsimp only at hSw); first | (go_simp; done) | (go_simp; with_reducible rfl))
    simp only [Act.put, List.setIfInBounds_toArray, List.set_cons_zero, List.set_cons_succ]
    refine take_yes (i := 5) (v := ?vs5) rfl (by kernel_rfl) (by kernel_rfl) (by kernel_rfl) (fun _ _ _ h => h) (by rfl) (by assumption) ?hys5 ?rests5
    case hys5 => (intro w hSw; (try dsimp only at hSw); first | (go_simp; done) | (go_simp; with_reducible rfl))
    simp only [Act.put, List.setIfInBounds_toArray, List.set_cons_zero, List.set_cons_succ]
    refine take_call (i := 2) rfl (by kernel_rfl) (fun Kc hK => ?_)
    go_simp
    (go_at_call 37; refine (wShow n1 a1 l1 c1 N _ h1.wi HT1.out).mono ?_; rintro e w4 ⟨rfl, bw4⟩)
    refine hK.out _ _ ?_ (fun hHeld => ?_)
    · first | exact ⟨x_a.c0, x_a.c1, x_a.c2, BB⟩ | exact ⟨cell_on bw5 hHeld.1, cell_on bw5 hHeld.2.1, cell_on bw5 hHeld.2.2.1, also hHeld.2.2.2 bw5⟩ | exact ⟨cell_on bw4 hHeld.1, cell_on bw4 hHeld.2.1, cell_on bw4 hHeld.2.2.1, also hHeld.2.2.2 bw4⟩
    clear hK Kc
    have zbw4 := bw4.size
    replace BB := also BB bw4
    replace x_a := x_a.on bw4
    replace h1 := h1.below bw4
    replace h2 := h2.below bw4
    refine take_yes (i := 3) (v := ?vs3) rfl (by kernel_rfl) (by kernel_rfl) (by kernel_rfl) (fun _ _ _ h => h) (by rfl) (by assumption) ?hys3 ?rests3
    case hys3 => (intro w hSw; (try dsimp only at hSw); first | (go_simp; done) | (go_simp; with_reducible rfl))
    simp only [Act.put, List.setIfInBounds_toArray, List.set_cons_zero, List.set_cons_succ]
    refine take_call (i := 6) rfl (by kernel_rfl) (fun Kc hK => ?_)
    go_simp
    (go_at_call 38; refine (nShow d1 m1 k1 E _ h1.ni HT2.out).mono ?_; rintro e w5 ⟨rfl, bw5⟩)
    refine hK.out _ _ ?_ (fun hHeld => ?_)
    · first | exact ⟨x_a.c0, x_a.c1, x_a.c2, BB⟩ | exact ⟨cell_on bw5 hHeld.1, cell_on bw5 hHeld.2.1, cell_on bw5 hHeld.2.2.1, also hHeld.2.2.2 bw5⟩ | exact ⟨cell_on bw4 hHeld.1, cell_on bw4 hHeld.2.1, cell_on bw4 hHeld.2.2.1, also hHeld.2.2.2 bw4⟩
    clear hK Kc
    have zbw5 := bw5.size
    replace BB := also BB bw5
    replace x_a := x_a.on bw5
    replace h1 := h1.below bw5
    replace h2 := h2.below bw5
    refine take_yes (i := 7) (v := ?vs7) rfl (by kernel_rfl) (by kernel_rfl) (by kernel_rfl) (fun _ _ _ h => h) (by rfl) (by assumption) ?hys7 ?rests7
    case hys7 => (intro w hSw; (try dsimp only at hSw); first | (go_simp; done) | (go_simp; with_reducible rfl))
    simp only [Act.put, List.setIfInBounds_toArray, List.set_cons_zero, List.set_cons_succ]
    refine take_yes (i := 8) (v := ?vs8) rfl (by kernel_rfl) (by kernel_rfl) (by kernel_rfl) (fun _ _ _ h => h) (by rfl) (by assumption) ?hys8 ?rests8
    case hys8 => (intro w hSw; (try dsimp only at hSw); first | (go_simp; done) | (go_simp; with_reducible rfl))
    simp only [Act.put, List.setIfInBounds_toArray, List.set_cons_zero, List.set_cons_succ]
    refine wpAnyH_done (by kernel_rfl) ?_ _
    go_wp2
    go_ret
    exact ⟨by rw [HT.out]; rfl, BB⟩
end Go.Proofs.YtaekgomplkkocabGreatDoor

namespace Go.Proofs.YtaekgomplkkocabGreatDoor
open Go.RowKit
set_option linter.unusedVariables false

theorem ni_lit (w : World) (x : Nat) (hx : x < 4294967296) (xv : Int) (hv : xv = (x : Int)) : NI (w.alloc (.cells #[.int .u32 xv] 65)) (some ⟨w.heap.size, 0, none⟩) 1 1 x := by
  subst hv
  have e : wd.dcells 1 (x : Int) = [.int .u32 (x : Int)] := by
    have : (x : Int) % 4294967296 = x := Int.emod_eq_of_lt (by omega) (by omega)
    simp [wd.dcells, wd.dg, this]
  refine ⟨?_, by simpa using hx, by decide⟩
  rw [e]
  exact Own.sl (World.ownsRow_lit (base := w.heap.size) (e := 65) (size := 1) w #[.int .u32 (x : Int)] 1 (Nat.le_refl _) (by decide) rfl)
theorem low64 : lowN (6 * (-4 : Int).sign) (-4 : Int).natAbs = -3 ∧ lowD (6 * (-4 : Int).sign) (-4 : Int).natAbs = 2 := by decide
theorem low32 : lowN (pN (-3) 2) (pD 2) = -3 ∧ lowD (pN (-3) 2) (pD 2) = 2 := by decide
theorem rnd32 : flQ (pN (-3) 2 + pN (-3) 2 + ((pD 2 : Nat) : Int)) ((pD 2 + pD 2 : Nat) : Int) = -1 := by decide
theorem text32 : qText (-3) 2 = ⟨#[45, 51, 47, 50]⟩ := by
  unfold qText decZ decS
  rw [if_neg (by decide), if_pos (by decide), dlen_eq (k := 1) ⟨by decide, by decide, Or.inl rfl⟩, dlen_eq (k := 1) ⟨by decide, by decide, Or.inl rfl⟩]
  decide +kernel
set_option maxRecDepth 100000 in
set_option maxHeartbeats 1000000 in
theorem lives5_any (w : World) : Calls Tryz.prog 10 #[] w fun e w' => e = .returned (.bool true) ∧ Below w.heap.size w w' := by
  have e1 : Below w.heap.size w (w.alloc (.cells #[.int .u32 6] 65)) := (Below.refl _ _).alloc (Nat.le_refl _) _
  have e2 : Below (w.alloc (.cells #[.int .u32 6] 65)).heap.size (w.alloc (.cells #[.int .u32 6] 65)) ((w.alloc (.cells #[.int .u32 6] 65)).alloc (.cells #[.int .u32 4] 65)) := (Below.refl _ _).alloc (Nat.le_refl _) _
  have s6 := (ni_lit w 6 (by decide) 6 rfl).below e2
  have s4 := ni_lit (w.alloc (.cells #[.int .u32 6] 65)) 4 (by decide) 4 rfl
  rw [World.size_alloc] at s4
  have q6 : WI _ false _ 1 1 6 := wi_of (n := false) s6
  have q4 : WI _ true _ 1 1 (-4) := wi_of (n := true) s4
  have BB := also e1 e2
  obtain ⟨W, hW⟩ : ∃ W, W = (w.alloc (.cells #[.int .u32 6] 65)).alloc (.cells #[.int .u32 4] 65) := ⟨_, rfl⟩
  rw [← hW] at q6 q4 BB
  clear s6 s4 e1 e2
  go_enter Tryz.func10, Tryz.ntmps10
  go_wp2_with (go_at_call 26; fail)
  rw [← hW]
  clear hW
  refine (qMake false true _ _ 1 1 1 1 6 (-4) W q6 q4 (by decide) (-3) 2 low64.1.symm low64.2.symm).mono ?_
  rintro e w1 ⟨n1, a1, l1, c1, d1, m1, k1, rfl, h1, f1, g1, bw1⟩
  have zbw1 := bw1.size
  replace q6 := q6.below bw1
  replace q4 := q4.below bw1
  replace BB := also BB bw1
  replace h1 := h1.qi 1 (by decide) (by decide) (by decide) (by decide)
  obtain ⟨V1, hV1, bV1, x_a, sV1⟩ := bs_3 w1 (.bool n1) (.slice a1 l1 c1) (.slice d1 m1 k1) 27
  have zbV1 := bV1.size
  replace q6 := q6.below bV1
  replace q4 := q4.below bV1
  replace BB := also BB bV1
  replace h1 := h1.below bV1
  go_wp2_with (go_at_call 27; fail)
  rw [← hV1]
  clear hV1
  refine (qRound n1 a1 l1 c1 d1 m1 k1 (-3) 2 1 V1 h1 (-1) rnd32.symm).mono ?_
  rintro e w2 ⟨n2, a2, l2, c2, rfl, h2, f2, bw2⟩
  have zbw2 := bw2.size
  replace q6 := q6.below bw2
  replace q4 := q4.below bw2
  replace BB := also BB bw2
  replace h1 := h1.below bw2
  replace x_a := x_a.on bw2
  obtain ⟨V2, hV2, bV2, x_n, sV2⟩ := bs_2 w2 (.bool n2) (.slice a2 l2 c2) 25
  have zbV2 := bV2.size
  replace q6 := q6.below bV2
  replace q4 := q4.below bV2
  replace BB := also BB bV2
  replace h1 := h1.below bV2
  replace x_a := x_a.on bV2
  replace h2 := h2.below bV2
  have st_a_0 : (w2.alloc (.cells #[.bool n2, .slice a2 l2 c2] 25)).cell? ⟨w1.heap.size, 0, none⟩ = some (.bool n1) := by rw [← hV2]; exact x_a.c0
  have st_a_1 : (w2.alloc (.cells #[.bool n2, .slice a2 l2 c2] 25)).cell? ⟨w1.heap.size, 1, none⟩ = some (.slice a1 l1 c1) := by rw [← hV2]; exact x_a.c1
  have st_a_2 : (w2.alloc (.cells #[.bool n2, .slice a2 l2 c2] 25)).cell? ⟨w1.heap.size, 2, none⟩ = some (.slice d1 m1 k1) := by rw [← hV2]; exact x_a.c2
  have sf_a_0 : (w2.alloc (.cells #[.bool n2, .slice a2 l2 c2] 25)).frozen? ⟨w1.heap.size, 0, none⟩ = false := by rw [← hV2]; exact x_a.f0
  have sf_a_1 : (w2.alloc (.cells #[.bool n2, .slice a2 l2 c2] 25)).frozen? ⟨w1.heap.size, 1, none⟩ = false := by rw [← hV2]; exact x_a.f1
  have sf_a_2 : (w2.alloc (.cells #[.bool n2, .slice a2 l2 c2] 25)).frozen? ⟨w1.heap.size, 2, none⟩ = false := by rw [← hV2]; exact x_a.f2
  have HS : Hid ((⟨#[45, 51, 47, 50]⟩ : ByteArray) = qText (lowN (pN (-3) 2) (pD 2)) (lowD (pN (-3) 2) (pD 2))) := by unfold Hid; rw [low32.1, low32.2, text32]
  go_wp2_with (go_at_call 16; fail)
  rw [← hV2]
  clear hV2 st_a_0 st_a_1 st_a_2 sf_a_0 sf_a_1 sf_a_2
  refine (qShow n1 a1 l1 c1 d1 m1 k1 (-3) 2 1 V2 h1 HS.out).mono ?_
  rintro e w3 ⟨rfl, bw3⟩
  have zbw3 := bw3.size
  replace q6 := q6.below bw3
  replace q4 := q4.below bw3
  replace BB := also BB bw3
  replace h1 := h1.below bw3
  replace x_a := x_a.on bw3
  replace h2 := h2.below bw3
  replace x_n := x_n.on bw3
  obtain rfl : n2 = true := by rw [h2.sg]; rfl
  obtain rfl : l2 = 1 := by rw [h2.nd.len]; exact wd.nlen_eq ⟨by decide, Or.inr (by decide)⟩
  obtain ⟨b, p, rfl, hb, seg⟩ := h2.nd.sl.at (by decide)
  have hc : w3.cell? ⟨b, p, none⟩ = some (.int .u32 1) := by have := seg.cell 0 _ (wd.dcells_at _ _ _ (by decide)); simpa [wd.dg] using this
  have ⟨x_n_0, x_n_1, x_n_2, x_n_3⟩ := x_n
  go_wp2
  go_ret
  exact ⟨rfl, BB⟩
end Go.Proofs.YtaekgomplkkocabGreatDoor

namespace Go.Proofs.YtaekgomplkkocabGreatDoor
open Go.RowKit
set_option linter.unusedVariables false

set_option maxRecDepth 100000 in
set_option maxHeartbeats 1000000 in
theorem idxByte (s : ByteArray) (w : World) : Calls Tryz.prog 71 #[.string s, .int .u8 47] w fun e w' => e = .returned (.int .i64 (Lib.indexByte s.data.toList 47)) ∧ w' = w := by
  go_enter Tryz.func71, Tryz.ntmps71
  go_wp2
  rw [run_callFunc_extern Tryz.func93 (by kernel_rfl) (by kernel_rfl) (by kernel_rfl) (e := Extern.BytealgIndexByte.indexByte) (by kernel_rfl), Lib.run_indexByteString]
  simp only [Result.andThen]
  rw [Oper.upon_value]
  go_wp2
  go_ret
  exact ⟨rfl, rfl⟩
set_option maxRecDepth 100000 in
set_option maxHeartbeats 1000000 in
theorem idxOne (s : ByteArray) (w : World) {i : Int} (hi : i = Lib.indexByte s.data.toList 47) : Calls Tryz.prog 51 #[.string s, .string ⟨#[47]⟩] w fun e w' => e = .returned (.int .i64 i) ∧ w' = w := by
  subst hi
  go_enter Tryz.func51, Tryz.ntmps51
  go_wp2_with (go_at_call 71; refine (idxByte _ _).mono ?_; rintro e w' ⟨rfl, rfl⟩)
  · have h : ([47] == s.toList) = true := by assumption
    go_ret
    refine ⟨?_, rfl⟩
    have e : s.data.toList = [47] := by rw [← Lib.toList_data]; exact (beq_iff_eq.1 h).symm
    rw [e]
    simp [Lib.indexByte]
  · go_ret
    exact ⟨rfl, rfl⟩
theorem ext_ahead (t1 t2 : ByteArray) : ((t1 ++ ⟨#[47]⟩) ++ t2).extract 0 t1.size = t1 := by
  apply ByteArray.ext
  obtain ⟨⟨l1⟩⟩ := t1
  obtain ⟨⟨l2⟩⟩ := t2
  simp [ByteArray.data_extract, ByteArray.size]
theorem ext_behind (t1 t2 : ByteArray) : ((t1 ++ ⟨#[47]⟩) ++ t2).extract (t1.size + 1) ((t1 ++ ⟨#[47]⟩) ++ t2).size = t2 := by
  apply ByteArray.ext
  obtain ⟨⟨l1⟩⟩ := t1
  obtain ⟨⟨l2⟩⟩ := t2
  simp [ByteArray.data_extract, ByteArray.size]
  exact List.take_of_length_le (by omega)
theorem idx_none (l : List UInt8) (h : 47 ∉ l) : Lib.indexByte l 47 = -1 := by
  induction l with
  | nil => rfl
  | cons b l ih =>
    simp only [List.mem_cons, not_or] at h
    unfold Lib.indexByte
    rw [ih h.2, if_neg (by simp; exact fun e => h.1 e.symm)]
    rfl
theorem idx_at (l1 l2 : List UInt8) (h : 47 ∉ l1) : Lib.indexByte (l1 ++ 47 :: l2) 47 = (l1.length : Int) := by
  induction l1 with
  | nil => simp [Lib.indexByte]
  | cons b l ih =>
    simp only [List.mem_cons, not_or] at h
    rw [List.cons_append]
    unfold Lib.indexByte
    rw [ih h.2, if_neg (by simp; exact fun e => h.1 e.symm), if_neg (by simp)]
    simp
set_option maxRecDepth 100000 in
set_option maxHeartbeats 1000000 in
theorem cutNo (s : ByteArray) (w : World) (h : Lib.indexByte s.data.toList 47 = -1) : Calls Tryz.prog 11 #[.string s, .string ⟨#[47]⟩] w fun e w' => e = .returned (.tuple #[.string s, .string ⟨#[]⟩, .bool false]) ∧ w' = w := by
  have HI : Hid ((-1 : Int) = Lib.indexByte s.data.toList 47) := h.symm
  clear h
  have h1 : ∀ w, Calls Tryz.prog 28 #[.string s, .string ⟨#[47]⟩] w fun e w' => e = .returned (.tuple #[.string s, .string ⟨#[]⟩, .bool false]) ∧ w' = w := by
    intro w
    go_enter Tryz.func28, Tryz.ntmps28
    go_wp2_with (go_at_call 51; refine (idxOne s _ HI.out).mono ?_; rintro e w' ⟨rfl, rfl⟩)
    exact bodyPost_ret (v := .tuple #[.string s, .string ⟨#[]⟩, .bool false]) (by simp [results, Tryz.results28, go_sem, *]) rfl ⟨rfl, rfl⟩
  go_enter Tryz.func11, Tryz.ntmps11
  go_wp2_with (go_at_call 28; refine (h1 _).mono ?_; rintro e w' ⟨rfl, rfl⟩)
  exact bodyPost_ret (v := .tuple #[.string s, .string ⟨#[]⟩, .bool false]) (by simp [results, Tryz.results11, go_sem, *]) rfl ⟨rfl, rfl⟩
set_option maxRecDepth 100000 in
set_option maxHeartbeats 1000000 in
theorem cutYes (s t1 t2 : ByteArray) (w : World) (hs : s = (t1 ++ ⟨#[47]⟩) ++ t2) (h : Lib.indexByte s.data.toList 47 = (t1.size : Int)) (hz : s.size ≤ 9223372036854775807) : Calls Tryz.prog 11 #[.string s, .string ⟨#[47]⟩] w fun e w' => e = .returned (.tuple #[.string t1, .string t2, .bool true]) ∧ Below w.heap.size w w' := by
  obtain ⟨k, hk⟩ : ∃ k : Nat, k = t1.size := ⟨_, rfl⟩
  have HI : Hid ((k : Int) = Lib.indexByte s.data.toList 47) := by unfold Hid; rw [h, hk]
  have E1 : s.extract 0 k = t1 := by rw [hs, hk]; exact ext_ahead t1 t2
  have E2 : s.extract (k + 1) s.size = t2 := by rw [hs, hk]; exact ext_behind t1 t2
  have hl : k + 1 ≤ s.size := by rw [hs, hk, ByteArray.size_append, ByteArray.size_append]; show t1.size + 1 ≤ t1.size + 1 + _; omega
  clear h hs hk
  have l1 : (0 : Int) ≤ k := by omega
  have l2 : (k : Int) ≤ s.size := by omega
  have l3 : (k : Int) + 1 ≤ s.size := by omega
  have l4 : wrap64 ((k : Int) + 1) = (k : Int) + 1 := by unfold wrap64; omega
  have h1 : ∀ w, Calls Tryz.prog 28 #[.string s, .string ⟨#[47]⟩] w fun e w' => e = .returned (.tuple #[.string t1, .string t2, .bool true]) ∧ Below w.heap.size w w' := by
    intro w
    go_enter Tryz.func28, Tryz.ntmps28
    go_wp2_with (go_at_call 51; refine (idxOne s _ HI.out).mono ?_; rintro e w' ⟨rfl, rfl⟩)
    go_region
    all_goals go_wp2
    all_goals exact bodyPost_ret (v := .tuple #[.string t1, .string t2, .bool true]) (by simp [results, Tryz.results28, go_sem, *]) rfl ⟨rfl, by first | exact Below.refl _ _ | exact (Below.refl _ _).drew⟩
  go_enter Tryz.func11, Tryz.ntmps11
  go_wp2_with (go_at_call 28; refine (h1 _).mono ?_; rintro e w' ⟨rfl, b⟩)
  exact bodyPost_ret (v := .tuple #[.string t1, .string t2, .bool true]) (by simp [results, Tryz.results11, go_sem, *]) rfl ⟨rfl, b⟩
end Go.Proofs.YtaekgomplkkocabGreatDoor

namespace Go.Proofs.YtaekgomplkkocabGreatDoor
open Go.RowKit
set_option linter.unusedVariables false

def RefTwo (w w0 : World) (n m : Bool) (a1 : Option Addr) (m1 c1 x1 : Nat) (a2 : Option Addr) (m2 c2 x2 : Nat) (mk : Value → Value → Value → Value → Act) (e : Exit) (act : Act) (wr : World) : Prop := e = .normal ∧ ∃ (p q : Nat) (s : Int) (d : Option Addr) (l c : Nat) (t : Int) (g : Option Addr) (h k : Nat),
  act = mk (.pointer (some ⟨p, 0, none⟩)) (.pointer (some ⟨q, 0, none⟩)) (.agg #[.int .i64 s, .slice d l c]) (.agg #[.int .i64 t, .slice g h k]) ∧ NI wr a1 m1 c1 x1 ∧ NI wr a2 m2 c2 x2 ∧ RN wr s d l c (sgz n x1) ∧ RN wr t g h k (sgz m x2) ∧
  Bx wr w.heap.size (.bool n) (.slice a1 m1 c1) ∧ Bx wr (w.heap.size + 1) (.bool m) (.slice a2 m2 c2) ∧ Bx wr p (.int .i64 s) (.slice d l c) ∧ Bx wr q (.int .i64 t) (.slice g h k) ∧ Below w.heap.size w wr ∧ Below w0.heap.size w0 wr
theorem refTwo {w w0 W : World} {n m : Bool} {a1 : Option Addr} {m1 c1 x1 : Nat} {a2 : Option Addr} {m2 c2 x2 : Nat} {mk : Value → Value → Value → Value → Act} {p q : Nat} {s : Int} {d : Option Addr} {l c : Nat} {t : Int} {g : Option Addr} {h k : Nat} {z1 z2 z3 z4 : Value}
    (n1 : NI W a1 m1 c1 x1) (n2 : NI W a2 m2 c2 x2) (hx : RN W s d l c (sgz n x1)) (hy : RN W t g h k (sgz m x2)) (ya : Bx W w.heap.size (.bool n) (.slice a1 m1 c1)) (yb : Bx W (w.heap.size + 1) (.bool m) (.slice a2 m2 c2)) (zp : Bx W p z1 z2) (zq : Bx W q z3 z4) (B : Below w.heap.size w W) (B9 : Below w0.heap.size w0 W) (hp0 : w0.heap.size ≤ p) (hq0 : w0.heap.size ≤ q)
    (hp : w.heap.size + 1 < p) (hq : w.heap.size + 1 < q) (pq : p ≠ q) (xp : NA p d l) (xq : NA q d l) (yp : NA p g h) (yq : NA q g h) (ap : NA p a1 m1) (aq : NA q a1 m1) (bp : NA p a2 m2) (bq : NA q a2 m2) :
    RefTwo w w0 n m a1 m1 c1 x1 a2 m2 c2 x2 mk .normal (mk (.pointer (some ⟨p, 0, none⟩)) (.pointer (some ⟨q, 0, none⟩)) (.agg #[.int .i64 s, .slice d l c]) (.agg #[.int .i64 t, .slice g h k]))
      ((((W.setCell ⟨p, 0, none⟩ (.int .i64 s)).setCell ⟨p, 1, none⟩ (.slice d l c)).setCell ⟨q, 0, none⟩ (.int .i64 t)).setCell ⟨q, 1, none⟩ (.slice g h k)) := by
  refine ⟨rfl, p, q, s, d, l, c, t, g, h, k, rfl, ?_, ?_, (hx.put2 xp _ _).put2 xq _ _, (hy.put2 yp _ _).put2 yq _ _, ?_, ?_, ?_, ?_, below_put2 (below_put2 B (by omega) _ _) (by omega) _ _, below_put2 (below_put2 B9 hp0 _ _) hq0 _ _⟩
  · exact (((n1.put ap 0 _).put ap 1 _).put aq 0 _).put aq 1 _
  · exact (((n2.put bp 0 _).put bp 1 _).put bq 0 _).put bq 1 _
  · exact (((ya.put (by omega)).put (by omega)).put (by omega)).put (by omega)
  · exact (((yb.put (by omega)).put (by omega)).put (by omega)).put (by omega)
  · exact (zp.set.put (fun e => pq e.symm)).put (fun e => pq e.symm)
  · exact ((zq.put pq).put pq).set
theorem abs_add {X Y : Int} (h1 : X.natAbs < 4294967296 ^ 16) (h2 : Y.natAbs < 4294967296 ^ 16) : (X + Y).natAbs < 4294967296 ^ 17 := by
  have := Int.natAbs_add_le X Y
  rw [Nat.pow_succ]
  omega
theorem abs_sub {X Y : Int} (h1 : X.natAbs < 4294967296 ^ 16) (h2 : Y.natAbs < 4294967296 ^ 16) : (X - Y).natAbs < 4294967296 ^ 17 := by
  have := abs_add (Y := -Y) h1 (by rw [Int.natAbs_neg]; exact h2)
  rwa [← Int.sub_eq_add_neg] at this
theorem abs_mul {X Y : Int} (h1 : X.natAbs < 4294967296 ^ 16) (h2 : Y.natAbs < 4294967296 ^ 16) : (X * Y).natAbs < 4294967296 ^ 32 := by
  rw [Int.natAbs_mul, show 32 = 16 + 16 from rfl, Nat.pow_add]
  exact Nat.mul_lt_mul_of_lt_of_le h1 (Nat.le_of_lt h2) (by decide)
end Go.Proofs.YtaekgomplkkocabGreatDoor

namespace Go.Proofs.YtaekgomplkkocabGreatDoor
open Go.RowKit
set_option linter.unusedVariables false

/-- Digits, at least one, no noughts ahead. -/
def showsB (l : List Int) : Bool := decide (l ≠ [] ∧ ¬ (1 < l.length ∧ l.head? = some 48) ∧ ∀ c ∈ l, 48 ≤ c ∧ c ≤ 57)
theorem shows_empty {l : List Int} (h : l.length = 0) : showsB l = false := by
  unfold showsB
  rw [decide_eq_false_iff_not]
  intro h'
  exact h'.1 (List.length_eq_zero_iff.1 h)
theorem shows_lead {l : List Int} (h : 1 < l.length) (h2 : l.head? = some 48) : showsB l = false := by
  unfold showsB
  rw [decide_eq_false_iff_not]
  intro h'
  exact h'.2.1 ⟨h, h2⟩
theorem shows_bad {l : List Int} {k : Nat} {c : Int} (h : l[k]? = some c) (hc : c < 48 ∨ 57 < c) : showsB l = false := by
  unfold showsB
  rw [decide_eq_false_iff_not]
  intro h'
  have := h'.2.2 c (List.mem_of_getElem? h)
  omega
theorem shows_yes {l : List Int} (h0 : 0 < l.length) (h1 : ¬ (1 < l.length ∧ l.head? = some 48)) (h2 : ∀ (k : Nat) (c : Int), l[k]? = some c → 48 ≤ c ∧ c ≤ 57) : showsB l = true := by
  unfold showsB
  rw [decide_eq_true_iff]
  refine ⟨fun e => by rw [e] at h0; simp at h0, h1, fun c hc => ?_⟩
  obtain ⟨k, hk⟩ := List.getElem?_of_mem hc
  exact h2 k c hk
theorem nums_head (s : ByteArray) (h : 0 < s.size) : (nums s).head? = some ((s[0]).toNat : Int) := by
  rw [List.head?_eq_getElem?, nums_at s 0 h]
theorem isEmpty_no {s : ByteArray} (h : 0 < s.size) : s.toList.isEmpty = false := by
  rw [ByteArray.toList_eq, List.isEmpty_eq_false_iff, ← List.length_pos_iff]
  exact h
theorem isEmpty_yes {s : ByteArray} (h : s.size = 0) : s.toList.isEmpty = true := by
  rw [ByteArray.toList_eq, List.isEmpty_iff, ← List.length_eq_zero_iff]
  exact h

set_option maxRecDepth 100000 in
set_option maxHeartbeats 1000000 in
theorem isShow_any (s : ByteArray) (w : World) (hs : s.size ≤ 9223372036854775807) :
    Calls Tryz.prog 33 #[.string s] w fun e w' => e = .returned (.bool (showsB (nums s))) ∧ w = w' := by
  by_cases h0 : 0 < s.size
  · have he := isEmpty_no h0
    by_cases h1 : 1 < s.size ∧ (s[0].toNat : Int) = 48
    · obtain ⟨h1, h2⟩ := h1
      have HS : Hid (showsB (nums s) = false) := shows_lead (by rw [nums_length]; exact h1) (by rw [nums_head s h0, h2])
      have h2' : ((s[0].toNat : Int) == 48) = true := by simpa using h2
      clear h2
      go_enter Tryz.func33, Tryz.ntmps33
      go_wp2
      go_ret
      exact ⟨by rw [HS.out]; rfl, rfl⟩
    · have HL : Hid _ := h1
      have HF : Hid (∀ k : Nat, (∀ j (hj : j < s.size), j < k → 48 ≤ (s[j].toNat : Int) ∧ (s[j].toNat : Int) ≤ 57) → s.size ≤ k → showsB (nums s) = true) := by
        intro k hk hle
        refine shows_yes (by rw [nums_length]; exact h0) ?_ ?_
        · rw [nums_length, nums_head s h0]
          intro h
          exact h1 ⟨h.1, by simpa using h.2⟩
        · intro j c hj
          have hj' := (List.getElem?_eq_some_iff.1 hj).1
          rw [nums_length] at hj'
          rw [nums_at s j hj'] at hj
          simp only [Option.some.injEq] at hj
          rw [← hj]
          exact hk j hj' (by omega)
      have hcase : s.size ≤ 1 ∨ (1 < s.size ∧ ((s[0].toNat : Int) == 48) = false) := by
        rcases Nat.lt_or_ge 1 s.size with h | h
        · exact Or.inr ⟨h, by rw [beq_eq_false_iff_ne]; exact fun e => h1 ⟨h, e⟩⟩
        · exact Or.inl h
      clear h1
      rcases hcase with hc | ⟨hc, hc2⟩
      all_goals
        go_enter Tryz.func33, Tryz.ntmps33
        go_wp2
        go_loop [18] (fun i => ∃ k : Nat, k ≤ s.size ∧ i = .int .i64 (k : Int) ∧ Hid (∀ j (hj : j < s.size), j < k → 48 ≤ (s[j].toNat : Int) ∧ (s[j].toNat : Int) ≤ 57)) (fun i => s.size - (intOf i).toNat)
        case atStart => exact ⟨0, by omega, rfl, fun j hj h => absurd h (by omega)⟩
        case round =>
          obtain ⟨k, hk, rfl, HK⟩ := hrel
          by_cases hlt : k < s.size
          · by_cases hd : 48 ≤ (s[k].toNat : Int) ∧ (s[k].toNat : Int) ≤ 57
            · obtain ⟨d0, d1⟩ := hd
              have HK' : Hid (∀ j (hj : j < s.size), j < k + 1 → 48 ≤ (s[j].toNat : Int) ∧ (s[j].toNat : Int) ≤ 57) := fun j hj h => by
                rcases Nat.lt_or_ge j k with h' | h'
                · exact HK.out j hj h'
                · obtain rfl : j = k := by omega
                  exact ⟨d0, d1⟩
              go_wp2
              go_round
              case rel => exact ⟨k + 1, by omega, by simp, HK'.out⟩
              case measure => simp [intOf]; omega
            · have HB : Hid (showsB (nums s) = false) := shows_bad (nums_at s k hlt) (by omega)
              have hd2 : (s[k].toNat : Int) < 48 ∨ (48 ≤ (s[k].toNat : Int) ∧ 57 < (s[k].toNat : Int)) := by omega
              clear hd
              rcases hd2 with hd | ⟨hd, hd'⟩
              all_goals
                go_wp2
                go_ret
                exact ⟨by rw [HB.out]; rfl, rfl⟩
          · have HB : Hid (showsB (nums s) = true) := HF.out k HK.out (by omega)
            go_wp2
            go_ret
            exact ⟨by rw [HB.out]; rfl, rfl⟩
  · have he := isEmpty_yes (s := s) (by omega)
    have HS : Hid (showsB (nums s) = false) := shows_empty (by rw [nums_length]; omega)
    go_enter Tryz.func33, Tryz.ntmps33
    go_wp2
    go_ret
    exact ⟨by rw [HS.out]; rfl, rfl⟩

/-- The carry into place k when u times 10^9 and p are added. -/
def wc (u p : Int) (k : Nat) : Int := (u % 4294967296 ^ k * 1000000000 + p) / 4294967296 ^ k
theorem wc_zero (u p : Int) : wc u p 0 = p := by simp [wc, Int.emod_one]
theorem wc_sum (u p : Int) (k : Nat) : (u % 4294967296 ^ (k + 1) * 1000000000 + p) / 4294967296 ^ k = wc u p k + wd.dg u k * 1000000000 := by
  rw [wd.emod_succ]
  unfold wc
  have e : (wd.dg u k * 4294967296 ^ k + u % 4294967296 ^ k) * 1000000000 + p = (u % 4294967296 ^ k * 1000000000 + p) + (wd.dg u k * 1000000000) * 4294967296 ^ k := by
    rw [Int.add_mul, Int.mul_right_comm]; omega
  rw [e, Int.add_mul_ediv_right _ _ (Int.ne_of_gt (wd.p256 k))]
theorem wc_succ (u p : Int) (k : Nat) : wc u p (k + 1) = (wc u p k + wd.dg u k * 1000000000) / 4294967296 := by
  rw [← wc_sum]
  show (u % 4294967296 ^ (k + 1) * 1000000000 + p) / 4294967296 ^ (k + 1) = _
  have hp := wd.p256 k
  rw [Int.pow_succ, Int.ediv_ediv, if_neg (by omega)]; omega
theorem wc_digit (u p : Int) (k : Nat) : (wc u p k + wd.dg u k * 1000000000) % 4294967296 = wd.dg (u * 1000000000 + p) k := by
  rw [← wc_sum]
  show wd.dg (u % 4294967296 ^ (k + 1) * 1000000000 + p) k = _
  refine (wd.dg_congr (i := k + 1) (u / 4294967296 ^ (k + 1) * 1000000000) ?_ (by omega)).symm
  have h := Int.mul_ediv_add_emod u (4294967296 ^ (k + 1))
  have e : u / 4294967296 ^ (k + 1) * 1000000000 * 4294967296 ^ (k + 1) = 4294967296 ^ (k + 1) * (u / 4294967296 ^ (k + 1)) * 1000000000 := by
    rw [Int.mul_right_comm, Int.mul_comm (u / 4294967296 ^ (k + 1))]
  rw [e]
  have h2 : u * 1000000000 = (4294967296 ^ (k + 1) * (u / 4294967296 ^ (k + 1)) + u % 4294967296 ^ (k + 1)) * 1000000000 := by rw [h]
  rw [h2, Int.add_mul]
  omega
theorem wc_range (u p : Int) (k : Nat) (p0 : 0 ≤ p) (p1 : p < 1000000000) : 0 ≤ wc u p k ∧ wc u p k < 1000000000 := by
  unfold wc
  have hp := wd.p256 k
  have a := Int.emod_nonneg u (Int.ne_of_gt hp)
  have a' := Int.emod_lt_of_pos u hp
  exact ⟨Int.ediv_nonneg (by omega) (by omega), Int.ediv_lt_of_lt_mul hp (by omega)⟩
theorem wc_last (u p : Nat) (l : Nat) (hu : u < 4294967296 ^ l) : wc u p l = (((u * 1000000000 + p) / 4294967296 ^ l : Nat) : Int) := by
  unfold wc
  rw [Int.emod_eq_of_lt (by omega) (by rw [← wd.pow_cast]; omega), Int.natCast_ediv, wd.pow_cast]
  rfl
/-- How long the new number is. -/
theorem piece_len_same {u p : Nat} (h : (u * 1000000000 + p) / 4294967296 ^ wd.nlen u = 0) (hp : 0 < u ∨ p = 0) : wd.nlen (u * 1000000000 + p) = wd.nlen u := by
  have hlt : u * 1000000000 + p < 4294967296 ^ wd.nlen u := by
    rcases Nat.div_eq_zero_iff.1 h with h | h
    · have := wd.pow_nat (wd.nlen u); omega
    · exact h
  refine wd.nlen_eq ⟨hlt, ?_⟩
  rcases (wd.nlen_is u).2 with h1 | h1
  · exact Or.inl h1
  · exact Or.inr (by omega)
theorem piece_len_more {u p : Nat} (hp : p < 1000000000) (h : (u * 1000000000 + p) / 4294967296 ^ wd.nlen u ≠ 0) : wd.nlen (u * 1000000000 + p) = wd.nlen u + 1 := by
  have hu := wd.nlen_lt u
  have hge : 4294967296 ^ wd.nlen u ≤ u * 1000000000 + p := by
    rcases Nat.lt_or_ge (u * 1000000000 + p) (4294967296 ^ wd.nlen u) with h1 | h1
    · exact absurd (Nat.div_eq_of_lt h1) h
    · exact h1
  exact wd.nlen_eq ⟨by rw [Nat.pow_succ]; omega, Or.inr (by simpa using hge)⟩

/-- What holds at the head of each round. -/
def WithRel (w : World) (base u p l cap : Nat) (a : Option Addr) (c i : Value) (wr : World) : Prop := ∃ k : Nat, k ≤ l ∧ i = .int .i64 (k : Int) ∧ c = .int .u64 (wc u p k) ∧ Own wr base 65 a l cap (wd.mix l k ((u : Int) * 1000000000 + p) u) ∧ Below base w wr
theorem with_next (w wr : World) (base u p l cap b k : Nat) (hk : k < l) (hown : Own wr base 65 (some ⟨b, 0, none⟩) l cap (wd.mix l k ((u : Int) * 1000000000 + p) u)) (hb : Below base w wr) :
    WithRel w base u p l cap (some ⟨b, 0, none⟩) (.int .u64 ((wc u p k + wd.dg u k * 1000000000) / 4294967296)) (.int .i64 ((k : Int) + 1)) (wr.setCell ⟨b, k, none⟩ (.int .u32 ((wc u p k + wd.dg u k * 1000000000) % 4294967296))) := by
  refine ⟨k + 1, by omega, by simp, by rw [wc_succ], ?_, hb.setCell (seg_of_own hown).2.2 _⟩
  rw [wc_digit, ← wd.mix_set]
  exact Own.set hown _ hk

set_option maxRecDepth 100000 in
set_option maxHeartbeats 1000000 in
theorem with_any (a : Option Addr) (cap base u p : Nat) {pv : Int} (w : World) (hown : Own w base 65 a (wd.nlen u) cap (wd.dcells (wd.nlen u) (u : Int))) (hl : wd.nlen u ≤ 1000000000) (hbase : base ≤ w.heap.size) (hp : p < 1000000000) (hpv : pv = (p : Int)) :
    Calls Tryz.prog 34 #[.slice a (wd.nlen u) cap, .int .u32 pv] w fun e w' => ∃ a' cap', e = .returned (.slice a' (wd.nlen (u * 1000000000 + p)) cap') ∧ Own w' base 65 a' (wd.nlen (u * 1000000000 + p)) cap' (wd.dcells (wd.nlen (u * 1000000000 + p)) ((u * 1000000000 + p : Nat) : Int)) ∧ Below base w w' := by
  subst hpv
  obtain ⟨i0, hi0, hz0, hz1, hz2⟩ := info_parts infoWord
  obtain ⟨l, hl'⟩ : ∃ l, wd.nlen u = l := ⟨_, rfl⟩
  have HL : Hid _ := hl'
  have hu := wd.nlen_lt u
  have Hlast : Hid _ := wc_last u p (wd.nlen u) hu
  have Hsame : Hid _ := @piece_len_same u p
  have Hmore : Hid _ := @piece_len_more u p hp
  have HE : Hid ((u : Int) * 1000000000 + p = ((u * 1000000000 + p : Nat) : Int)) := by unfold Hid; omega
  have HU0 : Hid (u = 0 → p ≠ 0 → (u * 1000000000 + p) / 4294967296 ^ wd.nlen u ≠ 0) := by
    intro h1 h2
    rw [h1, wd.nlen_zero]; simpa using h2
  rw [hl'] at hown hl hu Hlast Hsame Hmore HU0 ⊢
  clear hl' hu
  go_enter Tryz.func34, Tryz.ntmps34
  go_wp2
  go_loopw [5, 12] (fun c i wr => WithRel w base u p l cap a c i wr) (fun _ i _ => l - (intOf i).toNat)
  case atStart => exact ⟨0, by omega, rfl, by rw [wc_zero], by rw [wd.mix_zero]; exact hown, Below.refl _ _⟩
  case round =>
    clear hown
    obtain ⟨k, hk, rfl, rfl, hown, hbel⟩ := hrel
    obtain ⟨f0, f1⟩ := wc_range u p k (by omega) (by omega)
    by_cases hlt : k < l
    · obtain ⟨b, rfl, hb, hb2, _⟩ := Own.at hown (by omega)
      have hroom := (Own.sl hown).room
      have c3 : wr.cell? ⟨b, k, none⟩ = some (.int .u32 (wd.dg u k)) := Own.cell hown k _ (wd.mix_at _ _ _ _ _ (by omega) (Nat.le_refl _))
      have c4 : wr.frozen? ⟨b, k, none⟩ = false := Own.free hown k (by omega)
      obtain ⟨d0, d1⟩ := wd.dg_range u k
      have HN : Hid _ := with_next w wr base u p l cap b k hlt hown hbel
      clear hown
      go_wp2
      go_roundw
      case rel => exact HN.out
      case measure => simp [intOf]; omega
    · obtain rfl : k = l := by omega
      rw [wd.mix_full, HE.out] at hown
      by_cases hz : (u * 1000000000 + p) / 4294967296 ^ k = 0
      · have hw0 : wc u p k = 0 := by rw [Hlast.out, hz]; rfl
        have hs := Hsame.out hz (by
          rcases Nat.eq_zero_or_pos u with h | h
          · rcases Nat.eq_zero_or_pos p with h2 | h2
            · exact Or.inr h2
            · exact absurd hz (HU0.out h (by omega))
          · exact Or.inl h)
        have HS : Hid _ := hs
        clear hs hz
        go_wp2
        go_ret
        rw [HS.out]
        exact ⟨a, cap, rfl, hown, hbel⟩
      · have hw0 : (wc u p k == 0) = false := by
          rw [Hlast.out, beq_eq_false_iff_ne]; omega
        have HS : Hid _ := Hmore.out hz
        have HT : Hid (wc u p k = wd.dg ((u * 1000000000 + p : Nat) : Int) k) := by
          have h1 := Hlast.out
          have h2 := wd.dg_nat (u * 1000000000 + p) k
          unfold Hid
          rw [h2]
          omega
        have hsz := hbel.size
        clear hz
        obtain ⟨C, hC⟩ : ∃ C, wc u p k = C := ⟨_, rfl⟩
        rw [hC] at f0 f1 hw0 HT ⊢
        clear hC
        go_wp2_with (at_builtin; refine wpList_append_lies _ rfl (.tmp 32) (.tmp 35) 23 rfl base 65 i0 (.int .u32 0) 1 4 Tryz.underlying23 hi0 hz0 hz1 hz2 rfl (by decide) (.slice a k cap) k (wd.dcells k ((u * 1000000000 + p : Nat) : Int)) rfl (World.ownsRow.alloc hown _) ⟨wr.heap.size, 0, none⟩ 1 1 [.int .u32 C] rfl rfl (cell_one_new _ _ _) (ints_oneCell .u32 [C]) (by decide) (by unfold maxLen; omega) (by omega) (by simp; omega) _ rfl ?_; intro g' cap' w4 hown4 hgrow4 hat4 hlt4)
        go_ret
        rw [HS.out]
        refine ⟨some ⟨g', 0, none⟩, cap', rfl, ?_, (hbel.alloc (by omega) _).grown hgrow4 (by simp; omega) (fun k' hk' => (World.ownsRow.lt hown k' hk').1)⟩
        rw [wd.dcells_succ, ← HT.out]
        exact hown4
end Go.Proofs.YtaekgomplkkocabGreatDoor

namespace Go.Proofs.YtaekgomplkkocabGreatDoor
open Go.RowKit
set_option linter.unusedVariables false

/-- The number of digits' bytes. -/
def rdN (l : List Int) : Nat := l.foldl (fun v c => 10 * v + (c - 48).toNat) 0
theorem rdN_snoc (l : List Int) (c : Int) : rdN (l ++ [c]) = 10 * rdN l + (c - 48).toNat := by unfold rdN; rw [List.foldl_append]; rfl
theorem rdN_lt : ∀ (n : Nat) (l : List Int), l.length = n → (∀ c ∈ l, 48 ≤ c ∧ c ≤ 57) → rdN l < 10 ^ n
  | 0, l, h, _ => by rw [List.length_eq_zero_iff.1 h]; decide
  | n + 1, l, h, hd => by
    have hne : l ≠ [] := fun e => by rw [e] at h; simp at h
    rw [← List.dropLast_concat_getLast hne] at hd ⊢
    rw [rdN_snoc, Nat.pow_succ]
    have h1 := rdN_lt n l.dropLast (by rw [List.length_dropLast]; omega) (fun c hc => hd c (List.mem_append_left _ hc))
    have h2 := hd (l.getLast hne) (List.mem_append_right _ (List.mem_singleton.2 rfl))
    omega
theorem rdN_digs (k m : Nat) : rdN (digs k m) = m % 10 ^ k := by
  induction k generalizing m with
  | zero => simp [digs, rdN, Nat.mod_one]
  | succ k ih =>
    rw [digs_snoc, rdN_snoc, ih]
    have h : m % 10 ^ (k + 1) = m / 10 % 10 ^ k * 10 + m % 10 := by
      rw [Nat.pow_succ, Nat.mul_comm (10 ^ k) 10, Nat.mod_mul]; omega
    rw [h]
    omega
theorem nlen_dec {N k : Nat} (h : N < 10 ^ k) : wd.nlen N ≤ k := wd.nlen_le (Nat.lt_of_lt_of_le h (Nat.pow_le_pow_left (by decide) k))

/-- What holds at the head of each round. -/
def ParseRel (w : World) (s : ByteArray) (nv pv iv : Value) (wr : World) : Prop := ∃ (k N P m cap : Nat) (a : Option Addr), k ≤ s.size ∧ iv = .int .i64 (k : Int) ∧ nv = .slice a (wd.nlen N) cap ∧ pv = .int .u32 (P : Int) ∧
  Hid (rdN ((nums s).take k) = N * 10 ^ m + P ∧ P < 10 ^ m ∧ m = (9 - (s.size - k) % 9) % 9) ∧ P < 100000000 ∧ wd.nlen N ≤ 2000 ∧ Own wr w.heap.size 65 a (wd.nlen N) cap (wd.dcells (wd.nlen N) (N : Int)) ∧ Below w.heap.size w wr
theorem pow10_le {m : Nat} (h : m ≤ 8) : 10 ^ m ≤ 100000000 := Nat.pow_le_pow_right (n := 10) (by decide) h
theorem parse_on {w wr : World} {s : ByteArray} {k N P m cap : Nat} {a : Option Addr} (hk : k < s.size) (H : Hid (rdN ((nums s).take k) = N * 10 ^ m + P ∧ P < 10 ^ m ∧ m = (9 - (s.size - k) % 9) % 9)) (d0 : 48 ≤ (s[k].toNat : Int)) (d1 : (s[k].toNat : Int) ≤ 57) (hne : (s.size - 1 - k) % 9 ≠ 0) (hn : wd.nlen N ≤ 2000)
    (hown : Own wr w.heap.size 65 a (wd.nlen N) cap (wd.dcells (wd.nlen N) (N : Int))) (hb : Below w.heap.size w wr) : ParseRel w s (.slice a (wd.nlen N) cap) (.int .u32 ((P : Int) * 10 + ((s[k].toNat : Int) - 48))) (.int .i64 ((k : Int) + 1)) wr := by
  obtain ⟨h1, h2, h3⟩ := H.out
  have e : (P : Int) * 10 + ((s[k].toNat : Int) - 48) = ((P * 10 + ((s[k].toNat : Int) - 48).toNat : Nat) : Int) := by omega
  have hm : m ≤ 7 := by omega
  have hp := pow10_le (m := m + 1) (by omega)
  rw [Nat.pow_succ] at hp
  refine ⟨k + 1, N, P * 10 + ((s[k].toNat : Int) - 48).toNat, m + 1, cap, a, hk, by simp, rfl, by rw [e], ⟨?_, by rw [Nat.pow_succ]; omega, by omega⟩, by omega, hn, hown, hb⟩
  rw [nums_take s k hk, rdN_snoc, h1, Nat.pow_succ, ← Nat.mul_assoc]
  omega
theorem parse_cut {w wr : World} {s : ByteArray} {k N P m cap N' : Nat} {a : Option Addr} (hk : k < s.size) (H : Hid (rdN ((nums s).take k) = N * 10 ^ m + P ∧ P < 10 ^ m ∧ m = (9 - (s.size - k) % 9) % 9)) (d0 : 48 ≤ (s[k].toNat : Int)) (d1 : (s[k].toNat : Int) ≤ 57) (hz : (s.size - 1 - k) % 9 = 0) (hN : N' = N * 1000000000 + (P * 10 + ((s[k].toNat : Int) - 48).toNat)) (hn : wd.nlen N' ≤ 2000)
    (hown : Own wr w.heap.size 65 a (wd.nlen N') cap (wd.dcells (wd.nlen N') (N' : Int))) (hb : Below w.heap.size w wr) : ParseRel w s (.slice a (wd.nlen N') cap) (.int .u32 0) (.int .i64 ((k : Int) + 1)) wr := by
  obtain ⟨h1, h2, h3⟩ := H.out
  refine ⟨k + 1, N', 0, 0, cap, a, hk, by simp, rfl, rfl, ⟨?_, by decide, by omega⟩, by omega, hn, hown, hb⟩
  obtain rfl : m = 8 := by omega
  rw [nums_take s k hk, rdN_snoc, h1, hN]
  omega

set_option maxRecDepth 100000 in
set_option maxHeartbeats 1000000 in
theorem parse_form (s : ByteArray) (w : World) (hs : s.size ≤ 9223372036854775807) (h : showsB (nums s) = false) :
    Calls Tryz.prog 15 #[.string s] w fun e w' => e = .returned (.tuple #[.slice none 0 0, .int .i64 4]) ∧ w = w' := by
  go_enter Tryz.func15, Tryz.ntmps15
  go_wp2_with (go_at_call 33; refine (isShow_any s _ hs).mono ?_; rintro e w' ⟨rfl, hw⟩; subst hw)
  go_ret2
  exact ⟨rfl, rfl⟩
set_option maxRecDepth 100000 in
set_option maxHeartbeats 1000000 in
theorem parse_long (s : ByteArray) (w : World) (hs : s.size ≤ 9223372036854775807) (h : showsB (nums s) = true) (hl : 2000 < s.size) :
    Calls Tryz.prog 15 #[.string s] w fun e w' => e = .returned (.tuple #[.slice none 0 0, .int .i64 5]) ∧ w = w' := by
  go_enter Tryz.func15, Tryz.ntmps15
  go_wp2_with (go_at_call 33; refine (isShow_any s _ hs).mono ?_; rintro e w' ⟨rfl, hw⟩; subst hw)
  go_ret2
  exact ⟨rfl, rfl⟩
set_option maxRecDepth 100000 in
set_option maxHeartbeats 1000000 in
theorem parse_num (s : ByteArray) (w : World) (h : showsB (nums s) = true) (hl : s.size ≤ 2000) :
    Calls Tryz.prog 15 #[.string s] w fun e w' => ∃ a cap, e = .returned (.tuple #[.slice a (wd.nlen (rdN (nums s))) cap, .int .i64 0]) ∧ Own w' w.heap.size 65 a (wd.nlen (rdN (nums s))) cap (wd.dcells (wd.nlen (rdN (nums s))) (rdN (nums s) : Int)) ∧ Below w.heap.size w w' := by
  have hd : ∀ k (hk : k < s.size), 48 ≤ (s[k].toNat : Int) ∧ (s[k].toNat : Int) ≤ 57 := fun k hk => by
    unfold showsB at h
    exact (of_decide_eq_true h).2.2 _ (List.mem_of_getElem? (nums_at s k hk))
  have HD : Hid _ := hd
  have HR : Hid (∀ k, k ≤ s.size → rdN ((nums s).take k) < 10 ^ k) := fun k hk => by
    refine rdN_lt k _ (by rw [List.length_take, nums_length]; omega) fun c hc => ?_
    unfold showsB at h
    exact (of_decide_eq_true h).2.2 c (List.mem_of_mem_take hc)
  clear hd
  go_enter Tryz.func15, Tryz.ntmps15
  go_wp2_with (go_at_call 33; refine (isShow_any s _ (by omega)).mono ?_; rintro e w' ⟨rfl, hw⟩; subst hw)
  go_loopw [4, 5, 15] (fun nv pv iv wr => ParseRel w s nv pv iv wr) (fun _ _ iv _ => s.size - (intOf iv).toNat)
  case atStart =>
    refine ⟨0, 0, 0, (9 - (s.size - 0) % 9) % 9, 0, none, by omega, rfl, by rw [wd.nlen_zero], rfl, ⟨by simp [rdN], Nat.pow_pos (by decide), rfl⟩, by omega, by rw [wd.nlen_zero]; omega, ?_, Below.refl _ _⟩
    rw [wd.nlen_zero]
    exact World.ownsRow_nil _ _ _ _
  case round =>
    obtain ⟨k, N, P, m, cap, a, hk, rfl, rfl, rfl, H, hP, hn, hown, hbel⟩ := hrel
    by_cases hlt : k < s.size
    · obtain ⟨d0, d1⟩ := HD.out k hlt
      by_cases hz : (s.size - 1 - k) % 9 = 0
      · have hz' : (((s.size : Int) - 1 - k) % 9 == 0) = true := by rw [beq_iff_eq]; omega
        obtain ⟨N', hN'⟩ : ∃ N', N' = N * 1000000000 + (P * 10 + ((s[k].toNat : Int) - 48).toNat) := ⟨_, rfl⟩
        have hn' : wd.nlen N' ≤ 2000 := by
          obtain ⟨h1, h2, h3⟩ := H.out
          have h4 := HR.out (k + 1) hlt
          obtain rfl : m = 8 := by omega
          have : rdN ((nums s).take (k + 1)) = N' := by rw [nums_take s k hlt, rdN_snoc, h1, hN']; omega
          rw [this] at h4
          have := nlen_dec h4
          omega
        have HN : Hid _ := fun wr a cap => parse_cut (w := w) (wr := wr) (cap := cap) (a := a) hlt H d0 d1 hz hN' hn'
        have HW : Hid _ := fun (w0 : World) (h : Own w0 w.heap.size 65 a (wd.nlen N) cap (wd.dcells (wd.nlen N) (N : Int))) (hb : w.heap.size ≤ w0.heap.size) => with_any a cap w.heap.size N (P * 10 + ((s[k].toNat : Int) - 48).toNat) (pv := (P : Int) * 10 + ((s[k].toNat : Int) - 48)) w0 h (by omega) hb (by omega) (by omega)
        have hsz := hbel.size
        have HN' : Hid _ := hN'
        clear hz hN'
        go_wp2_with (go_at_call 34; refine (HW.out _ hown hsz).mono ?_; rw [← HN'.out]; rintro e w2 ⟨a2, cap2, rfl, hown2, hbel2⟩)
        go_roundw
        case rel => exact HN.out w2 a2 cap2 hown2 (hbel.trans hbel2)
        case measure => simp [intOf]; omega
      · have hz' : (((s.size : Int) - 1 - k) % 9 == 0) = false := by rw [beq_eq_false_iff_ne]; omega
        have HN : Hid _ := parse_on hlt H d0 d1 hz hn hown hbel
        clear hz hown
        go_wp2
        go_roundw
        case rel => exact HN.out
        case measure => simp [intOf]; omega
    · obtain rfl : k = s.size := by omega
      have HF : Hid (rdN (nums s) = N) := by
        obtain ⟨h1, h2, h3⟩ := H.out
        rw [Nat.sub_self] at h3
        obtain rfl : m = 0 := by simpa using h3
        rw [List.take_of_length_le (by rw [nums_length]; omega)] at h1
        unfold Hid
        rw [h1]
        simp at h2
        omega
      go_wp2
      go_ret2
      rw [HF.out]
      exact ⟨a, cap, rfl, hown, hbel⟩
end Go.Proofs.YtaekgomplkkocabGreatDoor

namespace Go.Proofs.YtaekgomplkkocabGreatDoor
open Go.RowKit
set_option linter.unusedVariables false

/-- What nat reads of a text: a number and an error. -/
def GotP (w : World) (N : Nat) (E : Int) (e : Ending) (w' : World) : Prop := ∃ a l c, e = .returned (.tuple #[.slice a l c, .int .i64 E]) ∧ ND w' a l c N ∧ Far w.heap.size a l ∧ Below w.heap.size w w'
theorem first_is (s : ByteArray) (h0 : 0 < s.size) : ((s.extract 0 1).toList == [45]) = ((s[0].toNat : Int) == 45) := by
  have e : (s.extract 0 1).toList = [s[0]] := by
    rw [ByteArray.toList_eq]
    obtain ⟨⟨l⟩⟩ := s
    cases l with
    | nil => exact absurd (show 0 < 0 from h0) (Nat.lt_irrefl 0)
    | cons x r => simp [ByteArray.data_extract]; rfl
  rw [e, Bool.eq_iff_iff]
  simp only [List.cons_beq_cons, List.beq_nil_eq, beq_iff_eq, Bool.and_eq_true, List.isEmpty_nil, and_true]
  constructor
  · intro h; rw [h]; rfl
  · intro h
    have : s[0].toNat = 45 := by omega
    exact UInt8.toNat_inj.1 this
set_option maxRecDepth 100000 in
set_option maxHeartbeats 1000000 in
theorem hasPrefix_any (s : ByteArray) (w : World) (hs : s.size ≤ 9223372036854775807) (h0 : 0 < s.size) :
    Calls Tryz.prog 75 #[.string s, .string ⟨#[45]⟩] w fun e w' => e = .returned (.bool ((s[0].toNat : Int) == 45)) ∧ w = w' := by
  have h1 : (1 : Int) ≤ s.size := by omega
  have HF : Hid _ := first_is s h0
  go_enter Tryz.func75, Tryz.ntmps75
  go_wp2
  go_ret
  exact ⟨by rw [← HF.out]; rfl, rfl⟩
set_option maxRecDepth 100000 in
set_option maxHeartbeats 1000000 in
theorem hasPrefix_nil (s : ByteArray) (w : World) (h0 : s.size = 0) :
    Calls Tryz.prog 75 #[.string s, .string ⟨#[45]⟩] w fun e w' => e = .returned (.bool false) ∧ w = w' := by
  go_enter Tryz.func75, Tryz.ntmps75
  go_wp2
  go_ret
  exact ⟨rfl, rfl⟩
/-- Whether a text begins with a minus, and what stands behind it. -/
def minus? (s : ByteArray) : Bool := if h : 0 < s.size then ((s[0].toNat : Int) == 45) else false
def behind (s : ByteArray) : ByteArray := if minus? s then s.extract 1 s.size else s
theorem hasPrefix_is (s : ByteArray) (w : World) (hs : s.size ≤ 9223372036854775807) {b : Bool} (hb : b = minus? s) :
    Calls Tryz.prog 75 #[.string s, .string ⟨#[45]⟩] w fun e w' => e = .returned (.bool b) ∧ w = w' := by
  subst hb
  unfold minus?
  split
  · exact hasPrefix_any s w hs (by assumption)
  · exact hasPrefix_nil s w (by omega)
set_option maxRecDepth 100000 in
set_option maxHeartbeats 1000000 in
theorem cutPrefix_is (s : ByteArray) (w : World) (hs : s.size ≤ 9223372036854775807) {b : Bool} (hb : b = minus? s) {t : ByteArray} (ht : t = behind s) :
    Calls Tryz.prog 29 #[.string s, .string ⟨#[45]⟩] w fun e w' => e = .returned (.tuple #[.string t, .bool b]) ∧ w = w' := by
  have HB : Hid _ := hb
  have hin : Calls Tryz.prog 52 #[.string s, .string ⟨#[45]⟩] w fun e w' => e = .returned (.tuple #[.string t, .bool b]) ∧ w = w' := by
    cases b
    · obtain rfl : t = s := by rw [ht]; unfold behind; rw [← hb]; rfl
      clear ht hb
      go_enter Tryz.func52, Tryz.ntmps52
      go_wp2_with (go_at_call 75; refine (hasPrefix_is _ _ hs HB.out).mono ?_; rintro e w' ⟨rfl, hw⟩; subst hw)
      go_ret2
      exact ⟨rfl, rfl⟩
    · obtain rfl : t = s.extract 1 s.size := by rw [ht]; unfold behind; rw [← hb]; rfl
      have h1 : (1 : Int) ≤ s.size := by
        unfold minus? at hb
        split at hb
        · omega
        · cases hb
      clear ht hb
      go_enter Tryz.func52, Tryz.ntmps52
      go_wp2_with (go_at_call 75; refine (hasPrefix_is _ _ hs HB.out).mono ?_; rintro e w' ⟨rfl, hw⟩; subst hw)
      go_ret2
      exact ⟨rfl, rfl⟩
  have HI : Hid _ := hin
  clear hin hb ht
  go_enter Tryz.func29, Tryz.ntmps29
  go_wp2_with (go_at_call 52; refine (show Calls _ _ _ _ (fun e w' => e = .returned (.tuple #[.string t, .bool b]) ∧ w = w') from HI.out).mono ?_; rintro e w' ⟨rfl, hw⟩; subst hw)
  go_ret2
  exact ⟨rfl, rfl⟩
/-- What whole reads of a text. -/
def GotZ (w : World) (z E : Int) (e : Ending) (w' : World) : Prop := ∃ (n : Bool) (a : Option Addr) (l c : Nat), e = .returned (.tuple #[.agg #[.bool n, .slice a l c], .int .i64 E]) ∧ WN w' n a l c z ∧ Far w.heap.size a l ∧ Below w.heap.size w w'
theorem endZ {w W w2 : World} {n : Bool} {a : Option Addr} {l c : Nat} {z E : Int} (k : Nat) (hk : w.heap.size ≤ k) (hs : k < W.heap.size) (B : Below w.heap.size w w2) (h : WN w2 n a l c z) (f : Far W.heap.size a l) (u v : Value) :
    GotZ w z E (.returned (.tuple #[.agg #[.bool n, .slice a l c], .int .i64 E])) ((w2.setCell ⟨k, 0, none⟩ u).setCell ⟨k, 1, none⟩ v) :=
  ⟨n, a, l, c, rfl, h.put2 (f k hs) u v, f.mono (by omega), below_put2 B hk u v⟩
theorem wn_zero (w : World) : WN w false none 0 0 0 := ⟨nd_nil w, rfl⟩
/-- The number and the error of a text, by those of what stands behind its minus. -/
def zOf (b : Bool) (N : Nat) (E : Int) : Int × Int := if E ≠ 0 then (0, E) else if b = true ∧ N = 0 then (0, 4) else (sgz b N, 0)
set_option maxRecDepth 100000 in
set_option maxHeartbeats 1000000 in
theorem wParse (s : ByteArray) (N : Nat) (E : Int) (w : World) (hs : s.size ≤ 9223372036854775807) (hp : ∀ w, Calls Tryz.prog 15 #[.string (behind s)] w (GotP w N E)) :
    Calls Tryz.prog 12 #[.string s] w (GotZ w (zOf (minus? s) N E).1 (zOf (minus? s) N E).2) := by
  have B0 : Below w.heap.size w (w.alloc (.cells #[.bool false, .slice none 0 0] 25)) := (Below.refl _ _).alloc (Nat.le_refl _) _
  have x0 := bx_new w (.bool false) (.slice none 0 0) 25
  have hsz : w.heap.size < (w.alloc (.cells #[.bool false, .slice none 0 0] 25)).heap.size := by simp
  obtain ⟨b, hb⟩ : ∃ b, b = minus? s := ⟨_, rfl⟩
  obtain ⟨t, ht⟩ : ∃ t, t = behind s := ⟨_, rfl⟩
  rw [← hb]
  rw [← ht] at hp
  have HB : Hid _ := hb
  have HT : Hid _ := ht
  have HP : Hid _ := hp
  clear hb ht hp
  by_cases hE : E = 0
  · subst hE
    by_cases hz : b = true ∧ N = 0
    · obtain ⟨rfl, rfl⟩ := hz
      have HV : Hid (zOf true 0 0 = (0, 4)) := by unfold Hid zOf; simp
      rw [HV.out]
      go_enter Tryz.func12, Tryz.ntmps12
      go_wp2_with (go_at_call 29; refine (cutPrefix_is s _ hs HB.out HT.out).mono ?_; rintro e w' ⟨rfl, hw⟩; subst hw)
      refine (show Calls _ _ _ _ (GotP _ 0 0) from HP.out _).mono ?_
      rintro e w1 ⟨a, l, c, rfl, h1, f1, b1⟩
      obtain rfl : l = 0 := by rw [h1.len, wd.nlen_zero]
      obtain ⟨k0, k1, k2, k3⟩ := x0.on b1
      go_wp2
      exact bodyPost_ret (v := .tuple #[.agg #[.bool false, .slice none 0 0], .int .i64 4]) (by simp [results, Tryz.results12, go_sem, *]) rfl (endZ _ (Nat.le_refl _) hsz (also B0 b1) (wn_zero _) (far_nil _ _) _ _)
    · have HV : Hid (zOf b N 0 = (sgz b N, 0)) := by unfold Hid zOf; rw [if_neg (by simp), if_neg hz]
      rw [HV.out]
      go_enter Tryz.func12, Tryz.ntmps12
      go_wp2_with (go_at_call 29; refine (cutPrefix_is s _ hs HB.out HT.out).mono ?_; rintro e w' ⟨rfl, hw⟩; subst hw)
      refine (show Calls _ _ _ _ (GotP _ N 0) from HP.out _).mono ?_
      rintro e w1 ⟨a, l, c, rfl, h1, f1, b1⟩
      obtain ⟨k0, k1, k2, k3⟩ := x0.on b1
      cases b
      · go_wp2_with (go_at_call 30; fail)
        refine (wSigned false a l c N w1 h1 (sgz false N) rfl).mono ?_
        rintro e w2 ⟨n2, rfl, h2, b2⟩
        obtain ⟨k0, k1, k2, k3⟩ := (x0.on b1).on b2
        go_wp2
        exact bodyPost_ret (v := .tuple #[.agg #[.bool n2, .slice a l c], .int .i64 0]) (by simp [results, Tryz.results12, go_sem, *]) rfl (endZ _ (Nat.le_refl _) hsz (also (also B0 b1) b2) h2 f1 _ _)
      · have hl : ¬ (l : Int) = 0 := by
          have hN : N ≠ 0 := fun e => hz ⟨rfl, e⟩
          have := wd.nlen_pos (Nat.pos_of_ne_zero hN)
          rw [h1.len]
          omega
        go_wp2_with (go_at_call 30; fail)
        refine (wSigned true a l c N w1 h1 (sgz true N) rfl).mono ?_
        rintro e w2 ⟨n2, rfl, h2, b2⟩
        obtain ⟨k0, k1, k2, k3⟩ := (x0.on b1).on b2
        go_wp2
        exact bodyPost_ret (v := .tuple #[.agg #[.bool n2, .slice a l c], .int .i64 0]) (by simp [results, Tryz.results12, go_sem, *]) rfl (endZ _ (Nat.le_refl _) hsz (also (also B0 b1) b2) h2 f1 _ _)
  · have HV : Hid (zOf b N E = (0, E)) := by unfold Hid zOf; rw [if_pos hE]
    rw [HV.out]
    go_enter Tryz.func12, Tryz.ntmps12
    go_wp2_with (go_at_call 29; refine (cutPrefix_is s _ hs HB.out HT.out).mono ?_; rintro e w' ⟨rfl, hw⟩; subst hw)
    refine (show Calls _ _ _ _ (GotP _ N E) from HP.out _).mono ?_
    rintro e w1 ⟨a, l, c, rfl, h1, f1, b1⟩
    obtain ⟨k0, k1, k2, k3⟩ := x0.on b1
    go_wp2
    exact bodyPost_ret (v := .tuple #[.agg #[.bool false, .slice none 0 0], .int .i64 E]) (by simp [results, Tryz.results12, go_sem, *]) rfl (endZ _ (Nat.le_refl _) hsz (also B0 b1) (wn_zero _) (far_nil _ _) _ _)
end Go.Proofs.YtaekgomplkkocabGreatDoor

namespace Go.Proofs.YtaekgomplkkocabGreatDoor
open Go.RowKit
set_option linter.unusedVariables false

theorem slice10 (r : Int) (r0 : 0 ≤ r) (r1 : r < 10) (w : World) : (Instr.slice 9 (.string ⟨#[48, 49, 50, 51, 52, 53, 54, 55, 56, 57]⟩) (some (.int .i64 r)) (some (.int .i64 (r + 1))) none).run Tryz.prog w = .ok (.string (strOfNums [48 + r])) w := by
  have : r = 0 ∨ r = 1 ∨ r = 2 ∨ r = 3 ∨ r = 4 ∨ r = 5 ∨ r = 6 ∨ r = 7 ∨ r = 8 ∨ r = 9 := by omega
  rcases this with h | h | h | h | h | h | h | h | h | h <;> (subst h; show _ = _; kernel_rfl)
theorem hf_one (l : Nat) (u : Int) : ∀ v ∈ hf.dcells l u, v.oneCell' = true := by
  intro v hv
  unfold hf.dcells at hv
  simp only [List.mem_map] at hv
  obtain ⟨j, _, rfl⟩ := hv
  rfl
/-- What holds at the head of each round of the inner loop. -/
def TenIn (w : World) (U L cap : Nat) (a : Option Addr) (c i : Value) (wr : World) : Prop := ∃ (r : Nat) (R : Int), r ≤ L ∧ Hid (R = (U : Int) / 65536 ^ r % 10) ∧ i = .int .i64 ((r : Int) - 1) ∧ c = .int .i64 R ∧ 0 ≤ R ∧ R < 10 ∧ Own wr w.heap.size 3 a L cap (hf.xim L r ((U : Int) / 10) U) ∧ Below w.heap.size w wr
theorem ten_next (w wr : World) (U L cap b q : Nat) (R : Int) (hR : Hid (R = (U : Int) / 65536 ^ (q + 1) % 10)) (hq : q < L) (hown : Own wr w.heap.size 3 (some ⟨b, 0, none⟩) L cap (hf.xim L (q + 1) ((U : Int) / 10) U)) (hb : Below w.heap.size w wr) :
    TenIn w U L cap (some ⟨b, 0, none⟩) (.int .i64 ((R * 65536 + hf.dg U q) % 10)) (.int .i64 ((q : Int) - 1)) (wr.setCell ⟨b, q, none⟩ (.int .i64 ((R * 65536 + hf.dg U q) / 10))) := by
  refine ⟨q, _, by omega, ?_, rfl, rfl, by omega, by omega, ?_, hb.setCell (seg_of_own hown).2.2 _⟩
  · unfold Hid; rw [hR.out, (hf.long_div U 10 q (by decide)).2]
  · rw [hR.out, hf.quot_digit _ _ _ (by decide), ← hf.xim_set]
    exact Own.set hown _ hq
/-- What holds at the head of each round of the outer loop. -/
def TenOut (w : World) (u lu : Nat) (lv sv : Value) (wr : World) : Prop := ∃ (t U cap : Nat) (a : Option Addr), t ≤ dlen u ∧ (t ≤ 1 ∨ 10 ^ (t - 1) ≤ u) ∧ Hid (U = u / 10 ^ t) ∧ lv = .slice a (hf.nlen U) cap ∧ sv = .string (strOfNums (digs t u)) ∧ hf.nlen U ≤ lu ∧ Own wr w.heap.size 3 a (hf.nlen U) cap (hf.dcells (hf.nlen U) (U : Int)) ∧ Below w.heap.size w wr
theorem dlen_few {u l : Nat} (h : u < 65536 ^ l) : dlen u ≤ 5 * l + 1 := by
  obtain ⟨h1, h2, h3⟩ := isDec_dlen u
  rcases h3 with h3 | h3
  · omega
  · rcases Nat.lt_or_ge (5 * l) (dlen u - 1) with h4 | h4
    · have a1 := Nat.pow_le_pow_right (n := 10) (by decide) (show 5 * l ≤ dlen u - 1 by omega)
      have a2 : 65536 ^ l ≤ (10 ^ 5) ^ l := Nat.pow_le_pow_left (by decide) l
      rw [← Nat.pow_mul] at a2
      omega
    · omega
theorem isDec_of {m k : Nat} (h1 : 1 ≤ k) (hq : m / 10 ^ k = 0) (hl : k ≤ 1 ∨ 10 ^ (k - 1) ≤ m) : IsDec m k := by
  refine ⟨h1, ?_, ?_⟩
  · rcases (Nat.div_eq_zero_iff).1 hq with h | h
    · have := Nat.pow_pos (n := k) (show 0 < 10 by decide); omega
    · exact h
  · rcases hl with h | h
    · exact Or.inl (by omega)
    · exact Or.inr h
theorem digs_empty (t u : Nat) : (strOfNums (digs t u)).toList.isEmpty = decide (t = 0) := by
  rw [ByteArray.toList_eq, strOfNums_data]
  rcases t with _ | t
  · rfl
  · simp [digs]
theorem str_eq_empty (t u : Nat) : ((strOfNums (digs t u)).toList == []) = decide (t = 0) := by
  have := digs_empty t u
  rw [Bool.eq_iff_iff] at this ⊢
  simpa using this
theorem ten_meas (t u : Nat) (R : Int) : strLen (.string (strOfNums [48 + R] ++ strOfNums (digs t u))) = t + 1 ∧ strLen (.string (strOfNums (digs t u))) = t := by
  rw [strOfNums_append]
  refine ⟨?_, ?_⟩
  · rw [strLen_str, strOfNums_size, List.length_append, digs_length]
    show 1 + t = t + 1
    omega
  · rw [strLen_str, strOfNums_size, digs_length]
theorem ten_text (t u U : Nat) (hU : U = u / 10 ^ t) : strOfNums [48 + (U : Int) % 10] ++ strOfNums (digs t u) = strOfNums (digs (t + 1) u) := by
  rw [strOfNums_append, digs, ← hU]; simp

set_option maxRecDepth 100000 in
set_option maxHeartbeats 2000000 in
theorem rshow_any (a : Option Addr) (ca u : Nat) (w : World) (ha : Sl w a (hf.nlen u) ca (hf.dcells (hf.nlen u) (u : Int))) (hlu : hf.nlen u ≤ 1000000000) :
    Calls Tryz.prog 43 #[.slice a (hf.nlen u) ca] w fun e w' => e = .returned (.string (decS u)) ∧ Below w.heap.size w w' := by
  obtain ⟨i0, hi0, hz0, hz1, hz2⟩ := info_parts infoInt
  have hd := dlen_few (hf.nlen_lt u)
  have HD : Hid _ := isDec_dlen u
  have hown0 := own_empty w w.heap.size 3 (Nat.le_refl _)
  have hB0 : Below w.heap.size w (w.alloc (.cells #[] 3)) := (Below.refl _ _).alloc (Nat.le_refl _) _
  have ha' := ha.below hB0
  have hmx : hf.nlen u ≤ maxLen := by unfold maxLen; omega
  go_enter Tryz.func43, Tryz.ntmps43
  go_wp2_with (at_builtin; refine append_any _ rfl (.tmp 7) (.tmp 8) 32 rfl w.heap.size 3 i0 (.int .i64 0) 8 Tryz.underlying32 hi0 hz0 hz1 hz2 rfl _ 0 0 [] rfl hown0 a (hf.nlen u) ca (hf.dcells (hf.nlen u) (u : Int)) rfl ha' (hf_one _ _) (by omega) (by omega) (by simp) ?_; intro a2 cap2 w2 hown hgrow)
  rw [List.nil_append] at hown
  have hbel := hB0.grown hgrow (by simp) (fun k' hk' => by simp [Value.ownBlock] at hk'; omega)
  clear hown0 ha' hB0
  go_loopw [3, 4] (fun lv sv wr => TenOut w u (hf.nlen u) lv sv wr) (fun _ sv _ => dlen u + 1 - strLen sv)
  case atStart => exact ⟨0, u, cap2, a2, by omega, Or.inl (by omega), by unfold Hid; simp, by first | rfl | simp, by rfl, Nat.le_refl _, by simpa using hown, hbel⟩
  case round =>
    clear hown hbel
    obtain ⟨t, U, cap, a3, ht, hl, HU, rfl, rfl, hL, hown, hbel⟩ := hrel
    have HE := digs_empty t u
    have HE2 := str_eq_empty t u
    by_cases hgo : 0 < hf.nlen U ∨ t = 0
    · have ht2 : t + 1 ≤ dlen u := by
        obtain ⟨h1, h2, h3⟩ := HD.out
        rcases hgo with h | h
        · rcases Nat.lt_or_ge t (dlen u) with h4 | h4
          · exact h4
          · have := Nat.pow_le_pow_right (n := 10) (by decide) h4
            have hu0 : U = 0 := by rw [HU.out]; exact Nat.div_eq_of_lt (by omega)
            rw [hu0, hf.nlen_zero] at h
            omega
        · omega
      have hl2 : Hid (t + 1 ≤ 1 ∨ 10 ^ (t + 1 - 1) ≤ u) := by
        rcases hgo with h | h
        · right
          rcases Nat.lt_or_ge u (10 ^ t) with h4 | h4
          · have hu0 : U = 0 := by rw [HU.out]; exact Nat.div_eq_of_lt h4
            rw [hu0, hf.nlen_zero] at h
            omega
          · simpa using h4
        · left; omega
      obtain ⟨V, hV⟩ : ∃ V, V = U / 10 := ⟨_, rfl⟩
      have HV : Hid (V = u / 10 ^ (t + 1)) := by unfold Hid; rw [hV, HU.out, Nat.pow_succ, Nat.div_div_eq_div_mul]
      have HV2 : Hid ((U : Int) / 10 = (V : Int)) := by unfold Hid; omega
      have hLV : hf.nlen V ≤ hf.nlen u := Nat.le_trans (hf.nlen_le (Nat.lt_of_le_of_lt (show V ≤ U by omega) (hf.nlen_lt U))) hL
      have HVS : Hid (V < 65536 ^ hf.nlen U) := by have := hf.nlen_lt U; unfold Hid; omega
      have HI : Hid (TenIn w U (hf.nlen U) cap a3 (.int .i64 0) (.int .i64 ((hf.nlen U : Int) - 1)) wr) := ⟨hf.nlen U, 0, Nat.le_refl _, by unfold Hid; rw [Int.ediv_eq_zero_of_lt (by omega) (by rw [← hf.pow_cast]; have := hf.nlen_lt U; omega)]; rfl, rfl, rfl, by omega, by omega, by rw [hf.xim_full]; exact hown, hbel⟩
      have z1 : (strOfNums (digs t u)).size = t := by rw [strOfNums_size, digs_length]
      have HT : Hid _ := ten_text t u U HU.out
      have HMe : Hid _ := fun R => ten_meas t u R
      clear hown hbel hV hl
      obtain ⟨L, hLL⟩ : ∃ L, hf.nlen U = L := ⟨_, rfl⟩
      rw [hLL] at hgo HVS HI hL ⊢
      obtain ⟨S, hS⟩ : ∃ S, strOfNums (digs t u) = S := ⟨_, rfl⟩
      rw [hS] at HE HE2 z1 HT HMe ⊢
      clear hLL hS
      have hcase : (0 : Int) < L ∨ (L = 0 ∧ S.toList.isEmpty = true) := by
        rcases hgo with h | h
        · exact Or.inl (by omega)
        · rcases Nat.eq_zero_or_pos L with h1 | h1
          · exact Or.inr ⟨h1, by rw [HE, h]; rfl⟩
          · exact Or.inl (by omega)
      clear hgo HE HE2
      rcases hcase with hc | ⟨hc, hc2⟩
      · go_wp2
        go_loopw [5, 6] (fun c i wr => TenIn w U L cap a3 c i wr) (fun _ i _ => (intOf i + 1).toNat)
        case atStart => exact HI.out
        case round =>
          obtain ⟨r, R, hr, HR, rfl, rfl, r0, r1, hown, hbel⟩ := hrel
          rcases r with _ | q
          · have HR2 : Hid (R = (U : Int) % 10) := by unfold Hid; rw [HR.out]; simp
            rw [hf.xim_zero, HV2.out] at hown
            have hsl := slice10 R r0 r1
            have z2 : (strOfNums [48 + R]).size = 1 := by rw [strOfNums_size]; rfl
            have z3 : ¬ 9223372036854775807 < 1 + t := by omega
            go_wp2_with (go_at_call 19; refine (rtrim_own _ _ _ V _ _ hown HVS.out).mono ?_; rintro e w' ⟨rfl, hw, hown5⟩; subst hw)
            go_roundw
            case rel => exact ⟨t + 1, V, cap, a3, ht2, hl2.out, HV.out, rfl, by rw [HR2.out, HT.out], hLV, hown5, hbel⟩
            case measure => rw [(HMe.out R).1, (HMe.out R).2]; omega
          · obtain ⟨g, rfl, hg, hg2, _⟩ := Own.at hown (by omega)
            have hroom := (Own.sl hown).room
            have hbig := (Own.sl hown).big
            unfold maxLen at hbig
            have c3 : wr.cell? ⟨g, q, none⟩ = some (.int .i64 (hf.dg U q)) := Own.cell hown q _ (hf.xim_at _ _ _ _ _ (by omega) (by omega))
            have c4 : wr.frozen? ⟨g, q, none⟩ = false := Own.free hown q (by omega)
            obtain ⟨d0, d1⟩ := hf.dg_range U q
            have HN : Hid _ := ten_next w wr U L cap g q R HR (by omega) hown hbel
            obtain ⟨D, hD⟩ : ∃ D, hf.dg (U : Int) q = D := ⟨_, rfl⟩
            rw [hD] at c3 d0 d1 HN
            have e1 : ((q + 1 : Nat) : Int) - 1 = (q : Int) := by omega
            clear hown hD
            go_wp2
            go_roundw
            case rel => exact HN.out
            case measure => simp [intOf]
      · subst hc
        go_wp2
        go_loopw [5, 6] (fun c i wr => TenIn w U 0 cap a3 c i wr) (fun _ i _ => (intOf i + 1).toNat)
        case atStart => exact HI.out
        case round =>
          obtain ⟨r, R, hr, HR, rfl, rfl, r0, r1, hown, hbel⟩ := hrel
          rcases r with _ | q
          · have HR2 : Hid (R = (U : Int) % 10) := by unfold Hid; rw [HR.out]; simp
            rw [hf.xim_zero, HV2.out] at hown
            have hsl := slice10 R r0 r1
            have z2 : (strOfNums [48 + R]).size = 1 := by rw [strOfNums_size]; rfl
            have z3 : ¬ 9223372036854775807 < 1 + t := by omega
            go_wp2_with (go_at_call 19; refine (rtrim_own _ _ _ V _ _ hown HVS.out).mono ?_; rintro e w' ⟨rfl, hw, hown5⟩; subst hw)
            go_roundw
            case rel => exact ⟨t + 1, V, cap, a3, ht2, hl2.out, HV.out, rfl, by rw [HR2.out, HT.out], hLV, hown5, hbel⟩
            case measure => rw [(HMe.out R).1, (HMe.out R).2]; omega
          · omega
    · have hz : hf.nlen U = 0 := by omega
      have hu0 := hf.nlen_eq_zero.1 hz
      have HF : Hid (decS u = strOfNums (digs t u)) := by
        unfold Hid decS
        rw [dlen_eq (isDec_of (by omega) (HU.out.symm.trans hu0) hl)]
      have h1 : ¬ (0 : Int) < (hf.nlen U : Int) := by omega
      have h2 : (strOfNums (digs t u)).toList.isEmpty = false := by rw [HE]; simp; omega
      obtain ⟨S, hS⟩ : ∃ S, strOfNums (digs t u) = S := ⟨_, rfl⟩
      rw [hS] at h2 HF ⊢
      clear HE HE2 hS hz hu0
      go_wp2
      go_ret
      exact ⟨by rw [HF.out]; rfl, hbel⟩
end Go.Proofs.YtaekgomplkkocabGreatDoor

namespace Go.Proofs.YtaekgomplkkocabGreatDoor
open Go.RowKit
set_option linter.unusedVariables false

theorem sl_new (w : World) (x : Int) (T : TypeId) : Sl (w.alloc (.cells #[.int .i64 x] T)) (some ⟨w.heap.size, 0, none⟩) 1 1 [.int .i64 x] := Own.sl (World.ownsRow_lit (base := w.heap.size) (e := T) (size := 1) w #[.int .i64 x] 1 (Nat.le_refl _) (by decide) rfl)
theorem hf_cell (x : Nat) (h : x < 65536) : hf.dcells 1 (x : Int) = [.int .i64 (x : Int)] := by
  simp [hf.dcells, List.range_succ, hf.dg]
  omega
theorem nlen10 : hf.nlen 10 = 1 := hf.nlen_eq ⟨by decide, Or.inr (by decide)⟩
theorem mul10 (a : Option Addr) (ca N B : Nat) (w : World) (ha : Sl w a (hf.nlen N) ca (hf.dcells (hf.nlen N) (N : Int))) (hlu : hf.nlen N ≤ 100000000) (hb : Sl w (some ⟨B, 0, none⟩) 1 1 [.int .i64 10]) :
    Calls Tryz.prog 18 #[.slice a (hf.nlen N) ca, .slice (some ⟨B, 0, none⟩) 1 1] w fun e w' => ∃ a' cap', e = .returned (.slice a' (hf.nlen (N * 10)) cap') ∧ Own w' w.heap.size 3 a' (hf.nlen (N * 10)) cap' (hf.dcells (hf.nlen (N * 10)) ((N * 10 : Nat) : Int)) ∧ Below w.heap.size w w' := by
  have h := rmul_any a (some ⟨B, 0, none⟩) ca 1 N 10 w ha (by rw [nlen10]; rw [hf_cell 10 (by decide)]; exact hb) (by omega) (by rw [nlen10]; decide)
  rw [nlen10] at h
  exact h
theorem trim1 (d B base : Nat) (w : World) (hd : d < 65536) {dv : Int} (hdv : dv = (d : Int)) (hown : Own w base 3 (some ⟨B, 0, none⟩) 1 1 [.int .i64 dv]) :
    Calls Tryz.prog 19 #[.slice (some ⟨B, 0, none⟩) 1 1] w fun e w' => e = .returned (.slice (some ⟨B, 0, none⟩) (hf.nlen d) 1) ∧ w = w' ∧ Sl w (some ⟨B, 0, none⟩) (hf.nlen d) 1 (hf.dcells (hf.nlen d) (d : Int)) := by
  subst hdv
  rw [← hf_cell d hd] at hown
  refine (rtrim_own _ 1 1 d base w hown (by simpa using hd)).mono ?_
  rintro e w' ⟨rfl, hw, h⟩
  exact ⟨rfl, hw, Own.sl h⟩
theorem own_one (w : World) (x : Int) (T : TypeId) : Own (w.alloc (.cells #[.int .i64 x] T)) w.heap.size T (some ⟨w.heap.size, 0, none⟩) 1 1 [.int .i64 x] := World.ownsRow_lit w _ 1 (Nat.le_refl _) (by decide) rfl
theorem own_one' (w : World) (o : Obj) (x : Int) (T : TypeId) : Own ((w.alloc o).alloc (.cells #[.int .i64 x] T)) 0 T (some ⟨w.heap.size + 1, 0, none⟩) 1 1 [.int .i64 x] := by
  have h := (own_one (w.alloc o) x T).mono (Nat.zero_le _)
  have e : (w.alloc o).heap.size = w.heap.size + 1 := by simp
  rw [e] at h
  exact h
theorem hf_ten {N : Nat} (h : hf.nlen N ≤ 2000) : hf.nlen (N * 10) ≤ 1000000000 := by
  have : hf.nlen (N * 10) ≤ hf.nlen N + 1 := hf.nlen_le (by have := hf.nlen_lt N; rw [Nat.pow_succ]; omega)
  omega
theorem Below.then {a b c : World} (h : Below a.heap.size a b) (k : Below b.heap.size b c) : Below a.heap.size a c := h.trans (k.mono h.size)
theorem Below.more {a b : World} (h : Below a.heap.size a b) (o : Obj) : Below a.heap.size a (b.alloc o) := h.alloc h.size o
/-- What holds at the head of each round of the second loop. -/
def PRel (w : World) (s : ByteArray) (o i : Value) (wr : World) : Prop := ∃ (k N cap : Nat) (ao : Option Addr), k ≤ s.size ∧ i = .int .i64 (k : Int) ∧ o = .slice ao (hf.nlen N) cap ∧ Hid (rdN ((nums s).take k) = N) ∧ hf.nlen N ≤ 2000 ∧ Own wr w.heap.size 3 ao (hf.nlen N) cap (hf.dcells (hf.nlen N) (N : Int)) ∧ Below w.heap.size w wr
theorem p_next {w w6 : World} {s : ByteArray} {j N d cn B : Nat} {an : Option Addr} (hlt : j < s.size) (HR : Hid (∀ k, k ≤ s.size → rdN ((nums s).take k) < 10 ^ k)) (hl : s.size ≤ 2000) (HN : Hid (rdN ((nums s).take j) = N)) (HDD : Hid ((s[j].toNat : Int) - 48 = (d : Int))) (hown : Own w6 B 3 an (hf.nlen (N * 10 + d)) cn (hf.dcells (hf.nlen (N * 10 + d)) ((N * 10 + d : Nat) : Int))) (hB : w.heap.size ≤ B) (hb : Below w.heap.size w w6) :
    PRel w s (.slice an (hf.nlen (N * 10 + d)) cn) (.int .i64 ((j : Int) + 1)) w6 := by
  have e : rdN ((nums s).take (j + 1)) = N * 10 + d := by rw [nums_take s j hlt, rdN_snoc, HN.out, HDD.out]; omega
  refine ⟨j + 1, N * 10 + d, cn, an, by omega, by simp, rfl, e, ?_, hown.mono hB, hb⟩
  have h1 := HR.out (j + 1) (by omega)
  rw [e] at h1
  exact Nat.le_trans (hf.nlen_le (Nat.lt_of_lt_of_le h1 (Nat.pow_le_pow_left (by decide) _))) (by omega)
set_option maxRecDepth 100000 in
set_option maxHeartbeats 8000000 in
theorem rparse_num (s : ByteArray) (w : World) (h : showsB (nums s) = true) (hl : s.size ≤ 2000) :
    Calls Tryz.prog 6 #[.string s] w fun e w' => ∃ a cap, e = .returned (.tuple #[.slice a (hf.nlen (rdN (nums s))) cap, .int .i64 0]) ∧ Own w' w.heap.size 3 a (hf.nlen (rdN (nums s))) cap (hf.dcells (hf.nlen (rdN (nums s))) (rdN (nums s) : Int)) ∧ Below w.heap.size w w' := by
  have hsh : (0 < s.size) ∧ (s.size ≤ 1 ∨ (1 < s.size ∧ ∀ h0 : 0 < s.size, (s[0].toNat : Int) ≠ 48)) ∧ ∀ k (hk : k < s.size), 48 ≤ (s[k].toNat : Int) ∧ (s[k].toNat : Int) ≤ 57 := by
    unfold showsB at h
    obtain ⟨h1, h2, h3⟩ := of_decide_eq_true h
    refine ⟨?_, ?_, fun k hk => h3 _ (List.mem_of_getElem? (nums_at s k hk))⟩
    · rw [← nums_length, List.length_pos_iff]; exact h1
    · rcases Nat.lt_or_ge 1 s.size with h4 | h4
      · refine Or.inr ⟨h4, fun h0 e => h2 ⟨by rw [nums_length]; exact h4, by rw [nums_head s h0, e]⟩⟩
      · exact Or.inl h4
  obtain ⟨h0, h1, hd⟩ := hsh
  have HD : Hid _ := hd
  have HR : Hid (∀ k, k ≤ s.size → rdN ((nums s).take k) < 10 ^ k) := fun k hk => by
    refine rdN_lt k _ (by rw [List.length_take, nums_length]; omega) fun c hc => ?_
    unfold showsB at h
    exact (of_decide_eq_true h).2.2 c (List.mem_of_mem_take hc)
  have he := isEmpty_no h0
  clear hd h
  go_enter Tryz.func6, Tryz.ntmps6
  go_wp2
  go_loop [5] (fun i => ∃ k : Nat, k ≤ s.size ∧ i = .int .i64 (k : Int)) (fun i => s.size - (intOf i).toNat)
  case atStart => exact ⟨0, by omega, rfl⟩
  case round =>
    obtain ⟨k, hk, rfl⟩ := hrel
    by_cases hlt : k < s.size
    · obtain ⟨d0, d1⟩ := HD.out k hlt
      go_wp2
      go_round
      case rel => exact ⟨k + 1, by omega, by simp⟩
      case measure => simp [intOf]; omega
    · have h48 : (((s[0].toNat : Int) == 48) = true ∧ s.size ≤ 1) ∨ ((s[0].toNat : Int) == 48) = false := by
        rcases hb : ((s[0].toNat : Int) == 48) with _ | _
        · exact Or.inr rfl
        · rcases h1 with h | ⟨_, h⟩
          · exact Or.inl ⟨rfl, h⟩
          · exact absurd (by simpa using hb) (h h0)
      clear h1
      rcases h48 with ⟨h48, h481⟩ | h48
      all_goals
        go_wp2
        go_loopw [4, 6] (fun o i wr => PRel w s o i wr) (fun _ i _ => s.size - (intOf i).toNat)
        case atStart => exact ⟨0, 0, 0, _, by omega, rfl, by rw [hf.nlen_zero], by simp [Hid, rdN], by rw [hf.nlen_zero]; omega, by rw [hf.nlen_zero]; exact own_empty w w.heap.size 3 (Nat.le_refl _), (Below.refl _ _).alloc (Nat.le_refl _) _⟩
        case round =>
          obtain ⟨j, N, cap, ao, hj, rfl, rfl, HN, hlN, hown, hbel⟩ := hrel
          by_cases hlt : j < s.size
          · obtain ⟨d0, d1⟩ := HD.out j hlt
            have hsl := Own.sl hown
            obtain ⟨d, hd⟩ : ∃ d : Nat, (s[j].toNat : Int) - 48 = (d : Int) := ⟨((s[j].toNat : Int) - 48).toNat, by omega⟩
            have E : IntKind.i64.wrap (IntKind.u8.wrap ((s[j].toNat : Int) - 48)) = (d : Int) := by rw [hd, IntKind.wrap_u8', IntKind.wrap_i64]; omega
            have hd10 : d < 10 := by omega
            have HDD : Hid _ := hd
            have b1 : Below wr.heap.size wr (wr.alloc (.cells #[.int .i64 10] 3)) := (Below.refl _ _).alloc (Nat.le_refl _) _
            have b2 : Below wr.heap.size wr ((wr.alloc (.cells #[.int .i64 (d : Int)] 3)).alloc (.cells #[.int .i64 10] 3)) := ((Below.refl _ _).alloc (Nat.le_refl _) _).alloc (by simp) _
            have b3 : Below wr.heap.size wr ((wr.alloc (.cells #[.int .i64 10] 3)).alloc (.cells #[.int .i64 (d : Int)] 3)) := ((Below.refl _ _).alloc (Nat.le_refl _) _).alloc (by simp) _
            have fM : hf.nlen (N * 10) ≤ 1000000000 := hf_ten hlN
            have fD : hf.nlen d ≤ 1000000000 := Nat.le_trans (hf.nlen_le (n := 1) (by omega)) (by decide)
            have HoD : Hid _ := fun w0 : World => own_one w0 (d : Int) 3
            have HoE : Hid _ := fun (w0 : World) (o : Obj) => own_one' w0 o (d : Int) 3
            have HtE : Hid _ := fun (w0 : World) (o : Obj) => Own.sl (own_one' w0 o 10 3)
            clear hd
            go_wp2
            go_region_with (first
              | (go_at_call 18; refine (mul10 ao cap N _ _ (hsl.below (by with_reducible (repeat (first | assumption | exact Below.refl _ _ | refine Below.drew ?_ | refine Below.more ?_ _)))) (by omega) (by with_reducible first | exact (sl_new wr 10 3) | exact (sl_new wr 10 3).below (by with_reducible (repeat (first | assumption | exact Below.refl _ _ | refine Below.drew ?_ | refine Below.more ?_ _))) | exact HtE.out wr _ | exact (HtE.out wr _).below (by with_reducible (repeat (first | assumption | exact Below.refl _ _ | refine Below.drew ?_ | refine Below.more ?_ _))))).mono ?_; rintro e w5 ⟨am, cm, rfl, hown5, hbel5⟩)
              | (go_at_call 19; refine (trim1 d _ 0 _ (by omega) rfl (by with_reducible first | exact (HoD.out w5).mono (Nat.zero_le _) | exact (Own.below (HoD.out w5) (by with_reducible (repeat (first | assumption | exact Below.refl _ _ | refine Below.drew ?_ | refine Below.more ?_ _)))).mono (Nat.zero_le _) | exact (Own.below (Own.below (HoD.out wr) (by with_reducible (repeat (first | assumption | exact Below.refl _ _ | refine Below.drew ?_ | refine Below.more ?_ _)))) hbel5).mono (Nat.zero_le _) | exact Own.below (HoE.out wr _) hbel5 | exact Own.below (Own.below (HoE.out wr _) (by with_reducible (repeat (first | assumption | exact Below.refl _ _ | refine Below.drew ?_ | refine Below.more ?_ _)))) hbel5)).mono ?_; rintro e w' ⟨rfl, hw, sD⟩; subst hw)
              | (go_at_call 17; refine (radd_any am _ cm 1 (N * 10) d _ ((Own.sl hown5).below (by with_reducible (repeat (first | assumption | exact Below.refl _ _ | refine Below.drew ?_ | refine Below.more ?_ _)))) sD fM fD).mono ?_; rintro e w6 ⟨an, cn, rfl, hown6, hbel6⟩))
            all_goals
              go_wp2
              go_round
              case rel =>
                have c6 : Below w.heap.size w _ := Below.then (by with_reducible (repeat (first | assumption | exact Below.refl _ _ | refine Below.drew ?_ | refine Below.more ?_ _ | refine Below.then ?_ hbel5))) hbel6
                exact p_next hlt HR hl HN HDD hown6 (Below.size (B := w.heap.size) (by with_reducible (repeat (first | assumption | exact Below.refl _ _ | refine Below.drew ?_ | refine Below.more ?_ _ | refine Below.then ?_ hbel5)))) c6
              case measure => simp [intOf]; omega
          · have HF : Hid (rdN (nums s) = N) := by
              have h := HN.out
              rw [List.take_of_length_le (by rw [nums_length]; omega)] at h
              exact h
            go_wp2
            go_ret2
            rw [HF.out]
            exact ⟨ao, cap, rfl, hown, hbel⟩
end Go.Proofs.YtaekgomplkkocabGreatDoor

namespace Go.Proofs.YtaekgomplkkocabGreatDoor
open Go.RowKit
set_option linter.unusedVariables false

set_option maxRecDepth 100000 in
set_option maxHeartbeats 1000000 in
theorem rparse_form (s : ByteArray) (w : World) (hs : s.size ≤ 9223372036854775807) (h : showsB (nums s) = false) :
    Calls Tryz.prog 6 #[.string s] w fun e w' => ∃ a, e = .returned (.tuple #[.slice a 0 0, .int .i64 4]) ∧ Below w.heap.size w w' := by
  have hsh : (∃ k, ∃ hk : k < s.size, ¬(48 ≤ (s[k].toNat : Int) ∧ (s[k].toNat : Int) ≤ 57)) ∨ s.size = 0 ∨ (1 < s.size ∧ ∀ h0 : 0 < s.size, (s[0].toNat : Int) = 48) := by
    refine Classical.byContradiction fun hno => ?_
    unfold showsB at h
    refine of_decide_eq_false h ⟨fun e => hno (Or.inr (Or.inl (by rw [← nums_length, e]; rfl))), fun e => hno (Or.inr (Or.inr ⟨by have := e.1; rw [nums_length] at this; exact this, fun h0 => by have := e.2; rw [nums_head s h0] at this; simpa using this⟩)), fun c hc => ?_⟩
    obtain ⟨k, hk, e⟩ := List.getElem_of_mem hc
    rw [nums_length] at hk
    have e1 := nums_at s k hk
    rw [List.getElem?_eq_getElem (by rw [nums_length]; exact hk), e] at e1
    have e2 : c = (s[k].toNat : Int) := by simpa using e1
    refine Classical.byContradiction fun hb => hno (Or.inl ⟨k, hk, ?_⟩)
    rw [← e2]
    exact hb
  clear h
  go_enter Tryz.func6, Tryz.ntmps6
  go_wp2
  go_loop [5] (fun i => ∃ k : Nat, k ≤ s.size ∧ i = .int .i64 (k : Int) ∧ Hid (∀ j (hj : j < s.size), j < k → 48 ≤ (s[j].toNat : Int) ∧ (s[j].toNat : Int) ≤ 57)) (fun i => s.size - (intOf i).toNat)
  case atStart => exact ⟨0, by omega, rfl, fun j hj h => by omega⟩
  case round =>
    obtain ⟨k, hk, rfl, HG⟩ := hrel
    by_cases hlt : k < s.size
    · by_cases d0 : 48 ≤ (s[k].toNat : Int)
      · by_cases d1 : (s[k].toNat : Int) ≤ 57
        · go_wp2
          go_round
          case rel =>
            refine ⟨k + 1, by omega, by simp, fun j hj hjk => ?_⟩
            rcases Nat.lt_or_ge j k with h | h
            · exact HG.out j hj h
            · obtain rfl : j = k := by omega
              exact ⟨d0, d1⟩
          case measure => simp [intOf]; omega
        · go_wp2
          go_ret2
          ((first | refine ⟨⟨_, rfl⟩, ?_⟩ | refine ⟨_, rfl, ?_⟩); with_reducible (repeat (first | exact Below.refl _ _ | refine Below.drew ?_ | refine Below.alloc ?_ (by simp) _)))
      · go_wp2
        go_ret2
        ((first | refine ⟨⟨_, rfl⟩, ?_⟩ | refine ⟨_, rfl, ?_⟩); with_reducible (repeat (first | exact Below.refl _ _ | refine Below.drew ?_ | refine Below.alloc ?_ (by simp) _)))
    · have hsh := hsh.resolve_left (fun ⟨j, hj, hb⟩ => hb (HG.out j hj (by omega)))
      rcases hsh with h0 | ⟨h1, h48⟩
      · obtain rfl : s = ⟨#[]⟩ := ByteArray.ext (Array.eq_empty_of_size_eq_zero h0)
        clear h0
        go_wp2
        go_ret2
        ((first | refine ⟨⟨_, rfl⟩, ?_⟩ | refine ⟨_, rfl, ?_⟩); with_reducible (repeat (first | exact Below.refl _ _ | refine Below.drew ?_ | refine Below.alloc ?_ (by simp) _)))
      · have h0 : 0 < s.size := by omega
        have he := isEmpty_no h0
        have h48 := h48 h0
        have hb : ((s[0].toNat : Int) == 48) = true := by rw [h48]; rfl
        clear h48
        go_wp2
        go_ret2
        ((first | refine ⟨⟨_, rfl⟩, ?_⟩ | refine ⟨_, rfl, ?_⟩); with_reducible (repeat (first | exact Below.refl _ _ | refine Below.drew ?_ | refine Below.alloc ?_ (by simp) _)))
set_option maxRecDepth 100000 in
set_option maxHeartbeats 1000000 in
theorem rparse_long (s : ByteArray) (w : World) (hs : s.size ≤ 9223372036854775807) (h : showsB (nums s) = true) (hl : 2000 < s.size) :
    Calls Tryz.prog 6 #[.string s] w fun e w' => ∃ a, e = .returned (.tuple #[.slice a 0 0, .int .i64 5]) ∧ Below w.heap.size w w' := by
  have h0 : 0 < s.size := by omega
  have hb : ((s[0].toNat : Int) == 48) = false := by
    unfold showsB at h
    have h2 := (of_decide_eq_true h).2.1
    rcases hb : ((s[0].toNat : Int) == 48) with _ | _
    · rfl
    · exact absurd ⟨by rw [nums_length]; omega, by rw [nums_head s h0]; simpa using hb⟩ h2
  have HD : Hid (∀ k (hk : k < s.size), 48 ≤ (s[k].toNat : Int) ∧ (s[k].toNat : Int) ≤ 57) := fun k hk => by
    unfold showsB at h
    exact (of_decide_eq_true h).2.2 _ (List.mem_of_getElem? (nums_at s k hk))
  have he := isEmpty_no h0
  clear h
  go_enter Tryz.func6, Tryz.ntmps6
  go_wp2
  go_loop [5] (fun i => ∃ k : Nat, k ≤ s.size ∧ i = .int .i64 (k : Int)) (fun i => s.size - (intOf i).toNat)
  case atStart => exact ⟨0, by omega, rfl⟩
  case round =>
    obtain ⟨k, hk, rfl⟩ := hrel
    by_cases hlt : k < s.size
    · obtain ⟨d0, d1⟩ := HD.out k hlt
      go_wp2
      go_round
      case rel => exact ⟨k + 1, by omega, by simp⟩
      case measure => simp [intOf]; omega
    · go_wp2
      go_ret2
      ((first | refine ⟨⟨_, rfl⟩, ?_⟩ | refine ⟨_, rfl, ?_⟩); with_reducible (repeat (first | exact Below.refl _ _ | refine Below.drew ?_ | refine Below.alloc ?_ (by simp) _)))
end Go.Proofs.YtaekgomplkkocabGreatDoor

namespace Go.Proofs.YtaekgomplkkocabGreatDoor
open Go.RowKit
set_option linter.unusedVariables false

theorem hShow (a : Option Addr) (la ca u : Nat) (w : World) (ha : HD w a la ca u) (fu : hf.nlen u ≤ 1000000) {s : ByteArray} (hs : s = decS u) : Calls Tryz.prog 43 #[.slice a la ca] w fun e w' => e = .returned (.string s) ∧ Below w.heap.size w w' := by
  obtain ⟨ha, rfl⟩ := ha
  subst hs
  exact rshow_any a ca u w ha (by omega)
set_option maxRecDepth 100000 in
set_option maxHeartbeats 1000000 in
theorem rwShow (s : Int) (d : Option Addr) (l c : Nat) (z : Int) (w : World) (hd : RN w s d l c z) (fz : hf.nlen z.natAbs ≤ 1000000) {t : ByteArray} (ht : t = decZ z) :
    Calls Tryz.prog 23 #[.agg #[.int .i64 s, .slice d l c]] w fun e w' => e = .returned (.string t) ∧ Below w.heap.size w w' := by
  have B0 : Below w.heap.size w (w.alloc (.cells #[.int .i64 s, .slice d l c] 34)) := (Below.refl _ _).alloc (Nat.le_refl _) _
  have h0 := hd.hd.below B0
  obtain ⟨r, hr⟩ : ∃ r, r = decS z.natAbs := ⟨_, rfl⟩
  have HR : Hid _ := hr
  have hsz : ¬ 9223372036854775807 < 1 + r.size := by
    rw [hr, decS_size]
    have := dlen_few (hf.nlen_lt z.natAbs)
    omega
  by_cases hz : z < 0
  · obtain rfl : t = ⟨#[45]⟩ ++ r := by rw [ht]; unfold decZ; rw [if_pos hz, hr]
    obtain rfl : s = -1 := by rw [hd.sg]; exact sign_neg hz
    clear ht hr
    go_enter Tryz.func23, Tryz.ntmps23
    go_wp2_with (go_at_call 43; fail)
    refine (hShow d l c _ _ h0 fz HR.out).mono ?_
    rintro e w1 ⟨rfl, b1⟩
    go_wp2
    go_ret
    exact ⟨rfl, also B0 b1⟩
  · obtain rfl : t = r := by rw [ht]; unfold decZ; rw [if_neg hz, hr]
    have hs : ¬ s < 0 := by rw [hd.sg]; rcases sign_cases z with ⟨h, e⟩ | ⟨h, e⟩ | ⟨h, e⟩ <;> omega
    clear ht hr
    go_enter Tryz.func23, Tryz.ntmps23
    go_wp2_with (go_at_call 43; fail)
    refine (hShow d l c _ _ h0 fz HR.out).mono ?_
    rintro e w1 ⟨rfl, b1⟩
    go_wp2
    go_ret
    exact ⟨rfl, also B0 b1⟩

def GotHP (w : World) (N : Nat) (E : Int) (e : Ending) (w' : World) : Prop := ∃ a l c, e = .returned (.tuple #[.slice a l c, .int .i64 E]) ∧ HD w' a l c N ∧ Below w.heap.size w w'
theorem sl_none (w : World) (a : Option Addr) : Sl w a 0 0 [] := ⟨rfl, Nat.le_refl _, Nat.zero_le _, fun _ => ⟨rfl, rfl⟩, Or.inl rfl⟩
/-- Every text has a number and an error, which both functions answer. -/
theorem parse_two (u : ByteArray) (hs : u.size ≤ 2100) : ∃ (N : Nat) (E : Int), hf.nlen N ≤ 2000 ∧ (∀ w, Calls Tryz.prog 15 #[.string u] w (GotP w N E)) ∧ (∀ w, Calls Tryz.prog 6 #[.string u] w (GotHP w N E)) := by
  rcases hsh : showsB (nums u) with _ | _
  · refine ⟨0, 4, by rw [hf.nlen_zero]; omega, fun w => ?_, fun w => ?_⟩
    · refine (parse_form u w (by omega) hsh).mono ?_
      rintro e w' ⟨rfl, hw⟩
      exact ⟨none, 0, 0, rfl, nd_nil _, far_nil _ _, hw ▸ Below.refl _ _⟩
    · refine (rparse_form u w (by omega) hsh).mono ?_
      rintro e w' ⟨a, rfl, hb⟩
      exact ⟨a, 0, 0, rfl, ⟨sl_none _ _, hf.nlen_zero.symm⟩, hb⟩
  · rcases Nat.lt_or_ge 2000 u.size with hl | hl
    · refine ⟨0, 5, by rw [hf.nlen_zero]; omega, fun w => ?_, fun w => ?_⟩
      · refine (parse_long u w (by omega) hsh hl).mono ?_
        rintro e w' ⟨rfl, hw⟩
        exact ⟨none, 0, 0, rfl, nd_nil _, far_nil _ _, hw ▸ Below.refl _ _⟩
      · refine (rparse_long u w (by omega) hsh hl).mono ?_
        rintro e w' ⟨a, rfl, hb⟩
        exact ⟨a, 0, 0, rfl, ⟨sl_none _ _, hf.nlen_zero.symm⟩, hb⟩
    · refine ⟨rdN (nums u), 0, ?_, fun w => ?_, fun w => ?_⟩
      · have h1 : rdN (nums u) < 10 ^ u.size := by
          refine rdN_lt u.size _ (nums_length u) fun c hc => ?_
          unfold showsB at hsh
          exact (of_decide_eq_true hsh).2.2 c hc
        exact Nat.le_trans (hf.nlen_le (Nat.lt_of_lt_of_le h1 (Nat.pow_le_pow_left (by decide) _))) hl
      · refine (parse_num u w hsh hl).mono ?_
        rintro e w' ⟨a, cap, rfl, ho, hb⟩
        exact ⟨a, _, cap, rfl, ⟨Own.sl ho, rfl⟩, Own.far ho, hb⟩
      · refine (rparse_num u w hsh hl).mono ?_
        rintro e w' ⟨a, cap, rfl, ho, hb⟩
        exact ⟨a, _, cap, rfl, ⟨Own.sl ho, rfl⟩, hb⟩
theorem behind_size (s : ByteArray) : (behind s).size ≤ s.size := by
  unfold behind
  split
  · simp
  · exact Nat.le_refl _
end Go.Proofs.YtaekgomplkkocabGreatDoor

namespace Go.Proofs.YtaekgomplkkocabGreatDoor
open Go.RowKit
set_option linter.unusedVariables false

theorem dec_shows (x : Nat) : showsB (nums (decS x)) = true := by
  rw [decS_nums]
  obtain ⟨h1, h2, h3⟩ := isDec_dlen x
  refine shows_yes (by rw [digs_length]; omega) ?_ ?_
  · rintro ⟨ha, hb⟩
    rw [digs_length] at ha
    have h4 := h3.resolve_left (by omega)
    obtain ⟨k, hk⟩ : ∃ k, dlen x = k + 1 := ⟨dlen x - 1, by omega⟩
    rw [hk] at hb h2 h4
    rw [digs, List.head?_cons] at hb
    have h5 : 1 ≤ x / 10 ^ k := (Nat.one_le_div_iff (Nat.pow_pos (by decide))).2 (by simpa using h4)
    have h6 : x / 10 ^ k < 10 := by rw [Nat.pow_succ] at h2; exact Nat.div_lt_of_lt_mul h2
    rw [Nat.mod_eq_of_lt h6] at hb
    simp only [Option.some.injEq] at hb
    omega
  · intro k c hk
    exact digs_bytes _ _ c (List.mem_of_getElem? hk)
theorem dec_back (x : Nat) : rdN (nums (decS x)) = x := by
  rw [decS_nums, rdN_digs, Nat.mod_eq_of_lt (isDec_dlen x).2.1]
theorem parse_dec {x m : Nat} (hm : m ≤ 16) (hx : x < 4294967296 ^ m) (w : World) : Calls Tryz.prog 15 #[.string (decS x)] w (GotP w x 0) := by
  have h := parse_num (decS x) w (dec_shows x) (by rw [decS_size]; have := dlen_le hx; omega)
  rw [dec_back] at h
  refine h.mono ?_
  rintro e w' ⟨a, cap, rfl, ho, hb⟩
  exact ⟨a, _, cap, rfl, ⟨Own.sl ho, rfl⟩, Own.far ho, hb⟩
theorem dec_pos (x : Nat) : 0 < (decS x).size := by rw [decS_size]; have := (isDec_dlen x).1; omega
theorem minus_nat (x : Nat) : minus? (decS x) = false := by
  unfold minus?
  rw [dif_pos (dec_pos x)]
  have h := nums_at (decS x) 0 (dec_pos x)
  rw [decS_nums] at h
  have := digs_bytes _ _ _ (List.mem_of_getElem? h)
  simp
  omega
theorem minus_neg (t : ByteArray) : minus? (⟨#[45]⟩ ++ t) = true ∧ behind (⟨#[45]⟩ ++ t) = t := by
  have h1 : minus? (⟨#[45]⟩ ++ t) = true := by
    unfold minus?
    rw [dif_pos (by rw [ByteArray.size_append]; show 0 < 1 + t.size; omega)]
    obtain ⟨⟨l⟩⟩ := t
    rfl
  refine ⟨h1, ?_⟩
  unfold behind
  rw [h1]
  obtain ⟨⟨l⟩⟩ := t
  apply ByteArray.ext
  simp [ByteArray.data_extract, ByteArray.size_append]
  exact List.take_of_length_le (by show l.length ≤ 1 + l.length - 1; omega)
theorem minus_dec (z : Int) : minus? (decZ z) = decide (z < 0) ∧ behind (decZ z) = decS z.natAbs := by
  unfold decZ
  by_cases h : z < 0
  · rw [if_pos h]
    obtain ⟨h1, h2⟩ := minus_neg (decS z.natAbs)
    exact ⟨by rw [h1]; simp [h], h2⟩
  · rw [if_neg h]
    refine ⟨by rw [minus_nat]; simp [h], ?_⟩
    unfold behind
    rw [minus_nat]
    rfl
theorem zOf_dec (z : Int) : zOf (decide (z < 0)) z.natAbs 0 = (z, 0) := by
  unfold zOf
  rw [if_neg (by simp)]
  by_cases h : z < 0
  · rw [if_neg (by omega)]
    simp [sgz, h]
    omega
  · rw [if_neg (by simp [h])]
    simp [sgz, h]
    omega
/-- A number's text is read as the number. -/
theorem wParse_dec (z : Int) {m : Nat} (hm : m ≤ 16) (hz : z.natAbs < 4294967296 ^ m) (w : World) {t : ByteArray} (ht : t = decZ z) : Calls Tryz.prog 12 #[.string t] w (GotZ w z 0) := by
  subst ht
  have h := wParse (decZ z) z.natAbs 0 w (by
    unfold decZ
    have := dlen_le hz
    split
    · rw [ByteArray.size_append, decS_size]; show 1 + _ ≤ _; omega
    · rw [decS_size]; omega) (fun w => by rw [(minus_dec z).2]; exact parse_dec hm hz w)
  rw [(minus_dec z).1, zOf_dec] at h
  exact h

end Go.Proofs.YtaekgomplkkocabGreatDoor

namespace Go.Proofs.YtaekgomplkkocabGreatDoor
open Go.RowKit
set_option linter.unusedVariables false

theorem low_idem {N : Int} {D : Nat} (h : Nat.gcd N.natAbs D = 1) : lowN N D = N ∧ lowD N D = D := by
  unfold lowN lowD
  rw [h, Nat.div_one, Nat.div_one]
  exact ⟨Int.sign_mul_natAbs N, rfl⟩
theorem no_slash_nat (x : Nat) : (47 : UInt8) ∉ (decS x).data.toList := by
  intro h
  have h2 : (((47 : UInt8).toNat : Nat) : Int) ∈ nums (decS x) := List.mem_map.2 ⟨47, h, rfl⟩
  rw [decS_nums] at h2
  have := digs_bytes _ _ _ h2
  have e : (47 : UInt8).toNat = 47 := rfl
  omega
theorem no_slash (z : Int) : (47 : UInt8) ∉ (decZ z).data.toList := by
  unfold decZ
  split
  · intro h
    rw [ByteArray.data_append, Array.toList_append, List.mem_append] at h
    rcases h with h | h
    · simp at h
    · exact no_slash_nat _ h
  · exact no_slash_nat _
set_option maxRecDepth 100000 in
set_option maxHeartbeats 1000000 in
theorem qParse (s : ByteArray) (N : Int) (D : Nat) (w : World) (hs : s = qText N D) (hN : N.natAbs < 4294967296 ^ 6) (hD : D < 4294967296 ^ 6) (d0 : 0 < D) (g0 : Nat.gcd N.natAbs D = 1) : Calls Tryz.prog 4 #[.string s] w (GotMk w N D 0) := by
  have HN : Hid _ := hN
  have HD : Hid _ := hD
  by_cases h1 : D = 1
  · have ht : s = decZ N := by rw [hs]; unfold qText; rw [if_pos h1]
    have HT : Hid _ := ht
    have HI : Hid (Lib.indexByte s.data.toList 47 = -1) := by unfold Hid; rw [ht]; exact idx_none _ (no_slash N)
    have HE : Hid (D = 1) := h1
    clear hs ht h1 hN hD d0 g0
    obtain ⟨W, hW, bW, x_z, sW⟩ := bs_3 w (.bool false) (.slice none 0 0) (.slice none 0 0) 27
    have zbW := bW.size
    have BB := bW
    go_enter Tryz.func4, Tryz.ntmps4
    go_wp2_with (go_at_call 11; fail)
    rw [← hW]
    clear hW
    refine (cutNo s W HI.out).mono ?_
    rintro e w0 ⟨rfl, hw⟩
    subst hw
    go_wp2_with (go_at_call 12; fail)
    refine (wParse_dec N (by decide) HN.out w0 HT.out).mono ?_
    rintro e w1 ⟨n1, a1, l1, c1, rfl, h1, f1, bw1⟩
    have zbw1 := bw1.size
    replace BB := also BB bw1
    replace x_z := x_z.on bw1
    obtain ⟨V1, hV1, bV1, x_r, sV1⟩ := bs_2 w1 (.bool n1) (.slice a1 l1 c1) 25
    have zbV1 := bV1.size
    replace BB := also BB bV1
    replace x_z := x_z.on bV1
    replace h1 := h1.below bV1
    go_wp2
    rw [← hV1]
    clear hV1
    have dd1 : Below V1.heap.size V1 V1.drew := (Below.refl _ _).drew
    have zdd1 := dd1.size
    replace BB := also BB dd1
    replace x_z := x_z.on dd1
    replace h1 := h1.below dd1
    replace x_r := x_r.on dd1
    refine wp_region_held_drew (S := (fun w' => w'.cell? ⟨w1.heap.size, 0, none⟩ = some (.bool n1) ∧ w'.cell? ⟨w1.heap.size, 1, none⟩ = some (.slice a1 l1 c1) ∧ Below w.heap.size w w')) (by kernel_rfl) ?_ (fun hHeld => ?_)
    · first | exact ⟨x_r.c0, x_r.c1, BB⟩ | exact ⟨cell_on bw2 hHeld.1, cell_on bw2 hHeld.2.1, also hHeld.2.2 bw2⟩ | exact ⟨cell_put3 hHeld.1 (by omega) _ _ _, cell_put3 hHeld.2.1 (by omega) _ _ _, below_put3 hHeld.2.2 (by omega) _ _ _⟩
    refine take_yes (i := 0) (v := ?vp0) rfl (by kernel_rfl) (by kernel_rfl) (by kernel_rfl) (fun _ _ _ h => h) (by rfl) (by assumption) ?hyp0 ?restp0
    case hyp0 => (intro w hSw; (try dsimp only at hSw); first | (go_simp; done) | (go_simp; with_reducible rfl))
    simp only [Act.put, List.setIfInBounds_toArray, List.set_cons_zero, List.set_cons_succ]
    refine take_call (i := 1) rfl (by kernel_rfl) (fun Kc hK => ?_)
    go_simp
    (go_at_call 14; refine (fOf 1 (by decide) rfl _).mono ?_; rintro e w2 ⟨a2, l2, c2, rfl, h2, f2, bw2⟩)
    refine hK.out _ _ ?_ (fun hHeld => ?_)
    · first | exact ⟨x_r.c0, x_r.c1, BB⟩ | exact ⟨cell_on bw2 hHeld.1, cell_on bw2 hHeld.2.1, also hHeld.2.2 bw2⟩ | exact ⟨cell_put3 hHeld.1 (by omega) _ _ _, cell_put3 hHeld.2.1 (by omega) _ _ _, below_put3 hHeld.2.2 (by omega) _ _ _⟩
    clear hK Kc
    have zbw2 := bw2.size
    replace BB := also BB bw2
    replace x_z := x_z.on bw2
    replace h1 := h1.below bw2
    replace x_r := x_r.on bw2
    refine take_yes (i := 2) (v := ?vp2) rfl (by kernel_rfl) (by kernel_rfl) (by kernel_rfl) (fun _ _ _ h => h) (by rfl) (by assumption) ?hyp2 ?restp2
    case hyp2 => (intro w hSw; (try dsimp only at hSw); first | (go_simp; done) | (go_simp; with_reducible rfl))
    simp only [Act.put, List.setIfInBounds_toArray, List.set_cons_zero, List.set_cons_succ]
    have ⟨x_z_0, x_z_1, x_z_2, x_z_3, x_z_4, x_z_5⟩ := x_z
    refine take_call (i := 3) rfl (by kernel_rfl) (fun Kc hK => ?_)
    go_simp
    refine hK.out _ _ ?_ (fun hHeld => ?_)
    · first | exact ⟨x_r.c0, x_r.c1, BB⟩ | exact ⟨cell_on bw2 hHeld.1, cell_on bw2 hHeld.2.1, also hHeld.2.2 bw2⟩ | exact ⟨cell_put3 hHeld.1 (by omega) _ _ _, cell_put3 hHeld.2.1 (by omega) _ _ _, below_put3 hHeld.2.2 (by omega) _ _ _⟩
    clear hK Kc
    refine take_yes (i := 4) (v := ?vp4) rfl (by kernel_rfl) (by kernel_rfl) (by kernel_rfl) (fun _ _ _ h => h) (by rfl) (by assumption) ?hyp4 ?restp4
    case hyp4 => (intro w hSw; (try dsimp only at hSw); first | (go_simp; done) | (go_simp; with_reducible rfl))
    simp only [Act.put, List.setIfInBounds_toArray, List.set_cons_zero, List.set_cons_succ]
    refine wpAnyH_done (by kernel_rfl) ?_ _
    go_wp2
    exact bodyPost_ret (v := .tuple #[.agg #[.bool n1, .slice a1 l1 c1, .slice a2 l2 c2], .int .i64 0]) (by simp [results, Tryz.results4, go_sem, *]) rfl (endMk _ (by omega) BB ⟨h1, by rw [HE.out]; exact h2⟩ (f1.mono (by omega)) (f2.mono (by omega)) _ _ _)
  · obtain ⟨t1, ht1⟩ : ∃ t1, t1 = decZ N := ⟨_, rfl⟩
    obtain ⟨t2, ht2⟩ : ∃ t2, t2 = decS D := ⟨_, rfl⟩
    have hc : s = (t1 ++ ⟨#[47]⟩) ++ t2 := by rw [hs, ht1, ht2]; unfold qText; rw [if_neg h1]
    have HC : Hid _ := hc
    have HI : Hid (Lib.indexByte s.data.toList 47 = (t1.size : Int)) := by
      unfold Hid
      rw [hc, ByteArray.data_append, ByteArray.data_append, Array.toList_append, Array.toList_append, List.append_assoc]
      exact idx_at _ _ (by rw [ht1]; exact no_slash N)
    have HZ : Hid (s.size ≤ 9223372036854775807) := by
      unfold Hid
      have q1 := decZ_size hN
      have q2 := decS_sz hD
      rw [hc, ByteArray.size_append, ByteArray.size_append, ht1, ht2]
      show _ + 1 + _ ≤ _
      omega
    have HS : Hid (s = qText (lowN (pN N D) (pD D)) (lowD (pN N D) (pD D))) := by
      unfold Hid
      rw [show pN N D = N from if_neg (by omega), show pD D = D from if_neg (by omega), (low_idem g0).1, (low_idem g0).2, hs]
    have HT1 : Hid _ := ht1
    have HP : Hid (∀ w, Calls Tryz.prog 15 #[.string t2] w (GotP w D 0)) := by unfold Hid; rw [ht2]; exact fun w => parse_dec (by decide) hD w
    clear hs hc ht1 ht2 hN hD d0 g0 h1
    obtain ⟨W, hW, bW, x_z, sW⟩ := bs_3 w (.bool false) (.slice none 0 0) (.slice none 0 0) 27
    have zbW := bW.size
    have BB := bW
    go_enter Tryz.func4, Tryz.ntmps4
    go_wp2_with (go_at_call 11; fail)
    rw [← hW]
    clear hW
    refine (cutYes s t1 t2 W HC.out HI.out HZ.out).mono ?_
    rintro e w0 ⟨rfl, bw0⟩
    have zbw0 := bw0.size
    replace BB := also BB bw0
    replace x_z := x_z.on bw0
    go_wp2_with (go_at_call 12; fail)
    refine (wParse_dec N (by decide) HN.out w0 HT1.out).mono ?_
    rintro e w1 ⟨n1, a1, l1, c1, rfl, h1, f1, bw1⟩
    have zbw1 := bw1.size
    replace BB := also BB bw1
    replace x_z := x_z.on bw1
    obtain ⟨V1, hV1, bV1, x_r, sV1⟩ := bs_2 w1 (.bool n1) (.slice a1 l1 c1) 25
    have zbV1 := bV1.size
    replace BB := also BB bV1
    replace x_z := x_z.on bV1
    replace h1 := h1.below bV1
    go_wp2_with (go_at_call 15; fail)
    rw [← hV1]
    clear hV1
    refine (HP.out V1).mono ?_
    rintro e w2 ⟨d2, m2, k2, rfl, h2, f2, bw2⟩
    have zbw2 := bw2.size
    replace BB := also BB bw2
    replace x_z := x_z.on bw2
    replace h1 := h1.below bw2
    replace x_r := x_r.on bw2
    have ⟨x_r_0, x_r_1, x_r_2, x_r_3⟩ := x_r
    have hq : QN w2 n1 a1 l1 c1 d2 m2 k2 N D := ⟨h1, h2⟩
    clear h1 h2
    obtain ⟨V2, hV2, bV2, x_a, sV2⟩ := bs_3 w2 (.bool n1) (.slice a1 l1 c1) (.slice d2 m2 k2) 27
    have zbV2 := bV2.size
    replace BB := also BB bV2
    replace x_z := x_z.on bV2
    replace x_r := x_r.on bV2
    replace hq := hq.below bV2
    go_wp2_with (go_at_call 16; fail)
    rw [← hV2]
    clear hV2
    refine (qShow n1 a1 l1 c1 d2 m2 k2 N D 6 V2 (hq.qi 6 (by decide) (by decide) HN.out HD.out) HS.out).mono ?_
    rintro e w3 ⟨rfl, bw3⟩
    have zbw3 := bw3.size
    replace BB := also BB bw3
    replace x_z := x_z.on bw3
    replace x_r := x_r.on bw3
    replace hq := hq.below bw3
    replace x_a := x_a.on bw3
    have ⟨x_a_0, x_a_1, x_a_2, x_a_3, x_a_4, x_a_5⟩ := x_a
    have ⟨x_z_0, x_z_1, x_z_2, x_z_3, x_z_4, x_z_5⟩ := x_z
    go_wp2
    exact bodyPost_ret (v := .tuple #[.agg #[.bool n1, .slice a1 l1 c1, .slice d2 m2 k2], .int .i64 0]) (by simp [results, Tryz.results4, go_sem, *]) rfl (endMk _ (by omega) BB hq (f1.mono (by omega)) (f2.mono (by omega)) _ _ _)
end Go.Proofs.YtaekgomplkkocabGreatDoor
