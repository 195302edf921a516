/-
  TieBest: which of any points goes with an edge, and that there is one, if one lies to its left.
-/
import Derived.Test.YtnemailhijkemaaChecked
import Derived.Test.YtnemailhijkemaaRows
import Derived.Test.YtnemailhijkemaaP16
import Derived.Test.YtnemailhijkemaaP15
import Derived.Deep.RegionHeld3
import Derived.ProofKit
import Derived.OpenShut
import Derived.Lib.SmallJoins
namespace Go.Proofs.Ytnemailhijkemaa
open Go.RowKit
set_option linter.unusedVariables false

namespace tbest
open Go.ChangeShapes Go.WideShapes Go.ChangeAt Go.Joins
theorem any_step {a b d : Pt} {L : List Pt} {k : Nat} {q : Bool} (h : L[k]? = some d) (hq : q = (L.take k).any (leftQ a b)) : (q || leftQ a b d) = (L.take (k + 1)).any (leftQ a b) := by
  rw [List.take_add_one, h, List.any_append, hq]; simp
theorem any_yes {a b d : Pt} {L : List Pt} {k : Nat} (h : L[k]? = some d) (hq : true = (L.take k).any (leftQ a b)) : true = (L.take (k + 1)).any (leftQ a b) := by rw [← any_step h hq]; rfl
theorem any_no {a b d : Pt} {L : List Pt} {k : Nat} {v : Bool} (h : L[k]? = some d) (hq : false = (L.take k).any (leftQ a b)) (hv : v = leftQ a b d) : v = (L.take (k + 1)).any (leftQ a b) := by rw [← any_step h hq, hv]; rfl
theorem any_all {a b : Pt} {L : List Pt} {n : Nat} {q : Bool} {z : Int} (hn : L.length = n) (hq : q = (L.take n).any (leftQ a b)) (hz : z = rbQ a b L) : q = decide (0 ≤ z) := by
  rw [hq, ← hn, List.take_length, hz, (best_same a b L).2]
theorem best_len {a b : Pt} {L : List Pt} {n : Nat} (hn : L.length = n) : rbQ a b L = bstQ a b L n := by rw [← hn, (best_same a b L).1]
theorem take_of {L : List Pt} {m j : Nat} {p : Pt} (h : (L.take m)[j]? = some p) : L[j]? = some p := by
  rw [List.getElem?_take] at h
  split at h
  · exact h
  · cases h
set_option maxRecDepth 100000 in
set_option maxHeartbeats 20000000 in
theorem walk (a1 a2 : Int) (ha1_1 : -9223372036854775808 ≤ a1) (ha1_2 : a1 ≤ 9223372036854775807) (ha2_1 : -9223372036854775808 ≤ a2) (ha2_2 : a2 ≤ 9223372036854775807) (b1 b2 : Int) (hb1_1 : -9223372036854775808 ≤ b1) (hb1_2 : b1 ≤ 9223372036854775807) (hb2_1 : -9223372036854775808 ≤ b2) (hb2_2 : b2 ≤ 9223372036854775807) (s0 : Option Addr) (n0 cap : Nat) (L0 : List Pt) (w : World) (hL0 : PSl w s0 n0 cap L0) (hc : cap ≤ maxLen) (hR0 : ∀ (j : Nat) (x y : Int), L0[j]? = some (x, y) → R2 (x, y)) :
    Calls Try.prog 7 #[.agg #[.int .i64 a1, .int .i64 a2], .agg #[.int .i64 b1, .int .i64 b2], .slice s0 n0 cap] w fun e w' => e = .returned (.bool true) ∧ Below w.heap.size w w' := by
  have Ra : Hid (R2 (a1, a2)) := ⟨⟨ha1_1, ha1_2⟩, ⟨ha2_1, ha2_2⟩⟩
  have Rb : Hid (R2 (b1, b2)) := ⟨⟨hb1_1, hb1_2⟩, ⟨hb2_1, hb2_2⟩⟩
  clear ha1_1 ha1_2 ha2_1 ha2_2 hb1_1 hb1_2 hb2_1 hb2_2
  by_cases hbig : 12 < n0
  · skip
    obtain ⟨b, o, _, _, rfl, _, _, _⟩ := hL0.at (k := 0) (by omega)
    have hL := hL0.take (m := 12) (by decide) (by omega)
    have hc12 : 12 ≤ cap := by have := hL0.room; omega
    have hb1 : (12 : Int) < (n0 : Int) := by omega
    have RL : Hid (∀ (j : Nat) (x y : Int), (L0.take 12)[j]? = some (x, y) → R2 (x, y)) := fun j x y h => hR0 j x y (take_of h)
    generalize L0.take 12 = L at hL RL
    have hN : 12 ≤ 12 := Nat.le_refl _
    have hN6 : Hid (12 ≤ 1000000) := by unfold Hid; omega
    have HN : Hid (L.length = 12) := hL.len
    have HN12 : Hid _ := hN
    clear hL0 hR0 hbig hN hc
    obtain ⟨z, hz⟩ : ∃ z, z = rbQ (a1, a2) (b1, b2) L := ⟨_, rfl⟩
    have Z1 : Hid (z = bstQ (a1, a2) (b1, b2) L 12) := by unfold Hid; rw [hz]; exact best_len HN.out
    have Z2 : Hid _ := hz
    clear hz
    obtain ⟨W, hW, bW, x_a, x_b, sW⟩ := bs_22 w (.int .i64 a1) (.int .i64 a2) (.int .i64 b1) (.int .i64 b2) 23 23
    have zbW := bW.size
    have BB := bW
    have hLW := hL.below bW
    clear hL
    obtain ⟨a3, c3, w3, hr3, p3, b3⟩ := append_pts_run W 32 (some ⟨b, o, none⟩) 12 cap L hLW hN6.out
    have eW : W.heap.size = w.heap.size + 1 + 1 := by rw [hW]; simp
    rw [eW] at hr3
    have HW : Hid _ := hW
    clear hW
    go_enter Try.func7, Try.ntmps7
    go_wp2_with (at_builtin; rw [← HW.out]; refine Go.Lib.wpList_append_run _ rfl (.tmp 15) (.tmp 16) 32 32 rfl _ _ rfl rfl _ _ hr3 ?_)
    clear hr3 HW
    have zb3 := b3.size
    replace BB := also BB b3
    replace x_a := x_a.on b3
    replace x_b := x_b.on b3
    obtain ⟨a4, c4, w4, hr4, p4, b4⟩ := append_pts_run w3.drew 32 a3 12 c3 L (p3.below (Below.refl _ _).drew) hN6.out
    have p3k := p3
    have dd1 : Below w3.heap.size w3 w3.drew := (Below.refl _ _).drew
    have zdd1 := dd1.size
    replace BB := also BB dd1
    replace x_a := x_a.on dd1
    replace x_b := x_b.on dd1
    have b4k := b4
    refine wp_region_held_drew (S := (fun w' => w'.cell? ⟨w.heap.size, 0, none⟩ = some (.int .i64 a1) ∧ w'.cell? ⟨w.heap.size, 1, none⟩ = some (.int .i64 a2) ∧ w'.cell? ⟨w.heap.size + 1, 0, none⟩ = some (.int .i64 b1) ∧ w'.cell? ⟨w.heap.size + 1, 1, none⟩ = some (.int .i64 b2) ∧ Below w.heap.size w w')) (by kernel_rfl) ?_ (fun hHeld => ?_)
    · exact ⟨x_a.c0, x_a.c1, x_b.c0, x_b.c1, BB⟩
    refine take_yes (i := 0) (v := ?vr120) rfl (by kernel_rfl) (by kernel_rfl) (by kernel_rfl) (fun _ _ _ h => h) (by rfl) (by assumption) ?hyr120 ?restr120
    case hyr120 => (intro w hSw; (try dsimp only at hSw); first | (go_simp; done) | (go_simp; with_reducible rfl))
    simp only [Act.put, List.setIfInBounds_toArray, List.set_cons_zero, List.set_cons_succ]
    refine take_yes (i := 1) (v := ?vr121) rfl (by kernel_rfl) (by kernel_rfl) (by kernel_rfl) (fun _ _ _ h => h) (by rfl) (by assumption) ?hyr121 ?restr121
    case hyr121 => (intro w hSw; (try dsimp only at hSw); first | (go_simp; done) | (go_simp; with_reducible rfl))
    simp only [Act.put, List.setIfInBounds_toArray, List.set_cons_zero, List.set_cons_succ]
    refine take_yes (i := 3) (v := ?vr123) rfl (by kernel_rfl) (by kernel_rfl) (by kernel_rfl) (fun _ _ _ h => h) (by rfl) (by assumption) ?hyr123 ?restr123
    case hyr123 => (intro w hSw; (try dsimp only at hSw); first | (go_simp; done) | (go_simp; with_reducible rfl))
    simp only [Act.put, List.setIfInBounds_toArray, List.set_cons_zero, List.set_cons_succ]
    refine take_call (i := 2) rfl (by kernel_rfl) (fun Kc hK => ?_)
    go_simp
    refine hK.out _ _ ⟨cell_on ((Below.refl _ _).alloc (Nat.le_refl _) _) hHeld.1, cell_on ((Below.refl _ _).alloc (Nat.le_refl _) _) hHeld.2.1, cell_on ((Below.refl _ _).alloc (Nat.le_refl _) _) hHeld.2.2.1, cell_on ((Below.refl _ _).alloc (Nat.le_refl _) _) hHeld.2.2.2.1, also hHeld.2.2.2.2 ((Below.refl _ _).alloc (Nat.le_refl _) _)⟩ (fun hHeld => ?_)
    clear hK Kc
    refine take_call (i := 4) rfl (by kernel_rfl) (fun Kc hK => ?_)
    refine step_append_run rfl (.tmp 20) (.tmp 21) 32 rfl _ _ _ _ rfl rfl hr4 ?_
    refine hK.out _ _ ⟨x_a.c0 |> cell_on b4, x_a.c1 |> cell_on b4, x_b.c0 |> cell_on b4, x_b.c1 |> cell_on b4, also BB b4⟩ (fun hHeld => ?_)
    clear hK Kc hr4
    have zb4 := b4.size
    replace BB := also BB b4
    replace x_a := x_a.on b4
    replace x_b := x_b.on b4
    simp only [Act.put, List.setIfInBounds_toArray, List.set_cons_zero, List.set_cons_succ]
    refine take_call (i := 5) rfl (by kernel_rfl) (fun Kc hK => ?_)
    go_simp
    (go_at_call 14; refine (tBest a1 a2 b1 b2 a4 12 c4 L _ p4 hN6.out Z1.out).mono ?_; rintro e w5 ⟨rfl, b5⟩)
    refine hK.out _ _ ⟨cell_on b5 x_a.c0, cell_on b5 x_a.c1, cell_on b5 x_b.c0, cell_on b5 x_b.c1, also BB b5⟩ (fun hHeld => ?_)
    clear hK Kc
    have zb5 := b5.size
    replace BB := also BB b5
    replace x_a := x_a.on b5
    replace x_b := x_b.on b5
    refine take_yes (i := 6) (v := ?vr126) rfl (by kernel_rfl) (by kernel_rfl) (by kernel_rfl) (fun _ _ _ h => h) (by rfl) (by assumption) ?hyr126 ?restr126
    case hyr126 => (intro w hSw; (try dsimp only at hSw); first | (go_simp; done) | (go_simp; with_reducible rfl))
    simp only [Act.put, List.setIfInBounds_toArray, List.set_cons_zero, List.set_cons_succ]
    refine wpAnyH_done (by kernel_rfl) ?_ _
    have p5 : PSl w5 a3 12 c3 L := ((p3k.below (Below.refl _ _).drew).below b4k).below b5
    clear p3k p3 p4 b4k hHeld
    go_wp2
    go_loopw [8, 9] (fun qv kv wr => ∃ (k : Nat) (q : Bool), k ≤ 12 ∧ kv = .int .i64 (k : Int) ∧ qv = .bool q ∧ Hid (q = (L.take k).any (leftQ (a1, a2) (b1, b2))) ∧ Bx wr w.heap.size (.int .i64 a1) (.int .i64 a2) ∧ Bx wr (w.heap.size + 1) (.int .i64 b1) (.int .i64 b2) ∧ Below w.heap.size w wr ∧ PSl wr a3 12 c3 L) (fun _ kv _ => 12 - (intOf kv).toNat)
    case atStart => exact ⟨0, false, Nat.zero_le _, rfl, rfl, (by unfold Hid; simp), x_a, x_b, BB, p5⟩
    case round =>
      clear x_a x_b BB p5
      obtain ⟨k, q, hk, rfl, rfl, hq, x_a, x_b, BB, pk⟩ := hrel
      by_cases hlt : k < 12
      · obtain ⟨bl, ofs, u, v, rfl, _, huv, hpc⟩ := pk.at hlt
        have x_e := hpc k u v huv
        have hlt' : (k : Int) < (12 : Int) := by omega
        have HUV : Hid _ := huv
        have RU : Hid (R2 (u, v)) := RL.out _ _ _ huv
        have zb := bx_lt x_b
        clear huv hpc
        cases q
        · skip
          obtain ⟨g, hg⟩ : ∃ g, g = leftQ (a1, a2) (b1, b2) (u, v) := ⟨_, rfl⟩
          have G : Hid _ := hg
          clear hg
          go_wp2
          have dd1 : Below wr.heap.size wr wr.drew := (Below.refl _ _).drew
          have zdd1 := dd1.size
          replace x_a := x_a.on dd1
          replace x_b := x_b.on dd1
          replace x_e := x_e.on dd1
          replace BB := also BB dd1
          replace pk := pk.below dd1
          refine wp_region_held_drew (S := (fun w' => w'.cell? ⟨w.heap.size, 0, none⟩ = some (.int .i64 a1) ∧ w'.cell? ⟨w.heap.size, 1, none⟩ = some (.int .i64 a2) ∧ w'.cell? ⟨w.heap.size + 1, 0, none⟩ = some (.int .i64 b1) ∧ w'.cell? ⟨w.heap.size + 1, 1, none⟩ = some (.int .i64 b2) ∧ w'.cell? ⟨bl, ofs + k * 2, none⟩ = some (.int .i64 u) ∧ w'.cell? ⟨bl, ofs + k * 2 + 1, none⟩ = some (.int .i64 v) ∧ Below w.heap.size w w')) (by kernel_rfl) ?_ (fun hHeld => ?_)
          · exact ⟨x_a.c0, x_a.c1, x_b.c0, x_b.c1, x_e.c0, x_e.c1, BB⟩
          refine take_yes (i := 0) (v := ?vf120) rfl (by kernel_rfl) (by kernel_rfl) (by kernel_rfl) (fun _ _ _ h => h) (by rfl) (by assumption) ?hyf120 ?restf120
          case hyf120 => (intro w hSw; (try dsimp only at hSw); first | (go_simp; done) | (go_simp; with_reducible rfl))
          simp only [Act.put, List.setIfInBounds_toArray, List.set_cons_zero, List.set_cons_succ]
          refine take_yes (i := 1) (v := ?vf121) rfl (by kernel_rfl) (by kernel_rfl) (by kernel_rfl) (fun _ _ _ h => h) (by rfl) (by assumption) ?hyf121 ?restf121
          case hyf121 => (intro w hSw; (try dsimp only at hSw); first | (go_simp; done) | (go_simp; with_reducible rfl))
          simp only [Act.put, List.setIfInBounds_toArray, List.set_cons_zero, List.set_cons_succ]
          refine take_yes (i := 2) (v := ?vf122) rfl (by kernel_rfl) (by kernel_rfl) (by kernel_rfl) (fun _ _ _ h => h) (by rfl) (by assumption) ?hyf122 ?restf122
          case hyf122 => (intro w hSw; (try dsimp only at hSw); first | (go_simp; done) | (go_simp; with_reducible rfl))
          simp only [Act.put, List.setIfInBounds_toArray, List.set_cons_zero, List.set_cons_succ]
          refine take_yes (i := 3) (v := ?vf123) rfl (by kernel_rfl) (by kernel_rfl) (by kernel_rfl) (fun _ _ _ h => h) (by rfl) (by assumption) ?hyf123 ?restf123
          case hyf123 => (intro w hSw; (try dsimp only at hSw); first | (go_simp; done) | (go_simp; with_reducible rfl))
          simp only [Act.put, List.setIfInBounds_toArray, List.set_cons_zero, List.set_cons_succ]
          refine take_yes (i := 4) (v := ?vf124) rfl (by kernel_rfl) (by kernel_rfl) (by kernel_rfl) (fun _ _ _ h => h) (by rfl) (by assumption) ?hyf124 ?restf124
          case hyf124 => (intro w hSw; (try dsimp only at hSw); first | (go_simp; done) | (go_simp; with_reducible rfl))
          simp only [Act.put, List.setIfInBounds_toArray, List.set_cons_zero, List.set_cons_succ]
          refine take_yes (i := 5) (v := ?vf125) rfl (by kernel_rfl) (by kernel_rfl) (by kernel_rfl) (fun _ _ _ h => h) (by rfl) (by assumption) ?hyf125 ?restf125
          case hyf125 => (intro w hSw; (try dsimp only at hSw); first | (go_simp; done) | (go_simp; with_reducible rfl))
          simp only [Act.put, List.setIfInBounds_toArray, List.set_cons_zero, List.set_cons_succ]
          refine take_yes (i := 6) (v := ?vf126) rfl (by kernel_rfl) (by kernel_rfl) (by kernel_rfl) (fun _ _ _ h => h) (by rfl) (by assumption) ?hyf126 ?restf126
          case hyf126 => (intro w hSw; (try dsimp only at hSw); first | (go_simp; done) | (go_simp; with_reducible rfl))
          simp only [Act.put, List.setIfInBounds_toArray, List.set_cons_zero, List.set_cons_succ]
          refine take_yes (i := 7) (v := ?vf127) rfl (by kernel_rfl) (by kernel_rfl) (by kernel_rfl) (fun _ _ _ h => h) (by rfl) (by assumption) ?hyf127 ?restf127
          case hyf127 => (intro w hSw; (try dsimp only at hSw); first | (go_simp; done) | (go_simp; with_reducible rfl))
          simp only [Act.put, List.setIfInBounds_toArray, List.set_cons_zero, List.set_cons_succ]
          refine take_call (i := 8) rfl (by kernel_rfl) (fun Kc hK => ?_)
          go_simp
          (go_at_call 15; refine (rtLeft a1 a2 b1 b2 u v _ Ra Rb RU G.out).mono ?_; rintro e v1 ⟨rfl, bv1⟩)
          refine hK.out _ _ ?_ (fun hHeld => ?_)
          · exact ⟨cell_on bv1 hHeld.1, cell_on bv1 hHeld.2.1, cell_on bv1 hHeld.2.2.1, cell_on bv1 hHeld.2.2.2.1, cell_on bv1 hHeld.2.2.2.2.1, cell_on bv1 hHeld.2.2.2.2.2.1, also hHeld.2.2.2.2.2.2 bv1⟩
          clear hK Kc
          have zbv1 := bv1.size
          replace x_a := x_a.on bv1
          replace x_b := x_b.on bv1
          replace x_e := x_e.on bv1
          replace BB := also BB bv1
          replace pk := pk.below bv1
          refine take_yes (i := 9) (v := ?vf129) rfl (by kernel_rfl) (by kernel_rfl) (by kernel_rfl) (fun _ _ _ h => h) (by rfl) (by assumption) ?hyf129 ?restf129
          case hyf129 => (intro w hSw; (try dsimp only at hSw); first | (go_simp; done) | (go_simp; with_reducible rfl))
          simp only [Act.put, List.setIfInBounds_toArray, List.set_cons_zero, List.set_cons_succ]
          refine take_yes (i := 10) (v := ?vf1210) rfl (by kernel_rfl) (by kernel_rfl) (by kernel_rfl) (fun _ _ _ h => h) (by rfl) (by assumption) ?hyf1210 ?restf1210
          case hyf1210 => (intro w hSw; (try dsimp only at hSw); first | (go_simp; done) | (go_simp; with_reducible rfl))
          simp only [Act.put, List.setIfInBounds_toArray, List.set_cons_zero, List.set_cons_succ]
          refine wpAnyH_done (by kernel_rfl) ?_ _
          go_wp2
          go_roundw
          case rel => exact ⟨k + 1, _, hlt, val_next k, rfl, any_no HUV.out hq.out G.out, x_a, x_b, BB, pk⟩
          case measure => exact meas_next (n := 12) hlt
        · skip
          obtain ⟨g, hg⟩ : ∃ g, g = leftQ (a1, a2) (b1, b2) (u, v) := ⟨_, rfl⟩
          have G : Hid _ := hg
          clear hg
          go_wp2
          have dd1 : Below wr.heap.size wr wr.drew := (Below.refl _ _).drew
          have zdd1 := dd1.size
          replace x_a := x_a.on dd1
          replace x_b := x_b.on dd1
          replace x_e := x_e.on dd1
          replace BB := also BB dd1
          replace pk := pk.below dd1
          refine wp_region_held_drew (S := (fun w' => w'.cell? ⟨w.heap.size, 0, none⟩ = some (.int .i64 a1) ∧ w'.cell? ⟨w.heap.size, 1, none⟩ = some (.int .i64 a2) ∧ w'.cell? ⟨w.heap.size + 1, 0, none⟩ = some (.int .i64 b1) ∧ w'.cell? ⟨w.heap.size + 1, 1, none⟩ = some (.int .i64 b2) ∧ w'.cell? ⟨bl, ofs + k * 2, none⟩ = some (.int .i64 u) ∧ w'.cell? ⟨bl, ofs + k * 2 + 1, none⟩ = some (.int .i64 v) ∧ Below w.heap.size w w')) (by kernel_rfl) ?_ (fun hHeld => ?_)
          · exact ⟨x_a.c0, x_a.c1, x_b.c0, x_b.c1, x_e.c0, x_e.c1, BB⟩
          refine take_yes (i := 0) (v := ?vt120) rfl (by kernel_rfl) (by kernel_rfl) (by kernel_rfl) (fun _ _ _ h => h) (by rfl) (by assumption) ?hyt120 ?restt120
          case hyt120 => (intro w hSw; (try dsimp only at hSw); first | (go_simp; done) | (go_simp; with_reducible rfl))
          simp only [Act.put, List.setIfInBounds_toArray, List.set_cons_zero, List.set_cons_succ]
          refine take_yes (i := 1) (v := ?vt121) rfl (by kernel_rfl) (by kernel_rfl) (by kernel_rfl) (fun _ _ _ h => h) (by rfl) (by assumption) ?hyt121 ?restt121
          case hyt121 => (intro w hSw; (try dsimp only at hSw); first | (go_simp; done) | (go_simp; with_reducible rfl))
          simp only [Act.put, List.setIfInBounds_toArray, List.set_cons_zero, List.set_cons_succ]
          refine take_no (i := 2) rfl (by kernel_rfl) (by kernel_rfl) (by kernel_rfl) (fun _ _ _ h => h) (by rfl) (by assumption) ?_
          simp only [Act.put, List.setIfInBounds_toArray, List.set_cons_zero, List.set_cons_succ]
          refine take_no (i := 3) rfl (by kernel_rfl) (by kernel_rfl) (by kernel_rfl) (fun _ _ _ h => h) (by rfl) (by assumption) ?_
          simp only [Act.put, List.setIfInBounds_toArray, List.set_cons_zero, List.set_cons_succ]
          refine take_no (i := 4) rfl (by kernel_rfl) (by kernel_rfl) (by kernel_rfl) (fun _ _ _ h => h) (by rfl) (by assumption) ?_
          simp only [Act.put, List.setIfInBounds_toArray, List.set_cons_zero, List.set_cons_succ]
          refine take_no (i := 5) rfl (by kernel_rfl) (by kernel_rfl) (by kernel_rfl) (fun _ _ _ h => h) (by rfl) (by assumption) ?_
          simp only [Act.put, List.setIfInBounds_toArray, List.set_cons_zero, List.set_cons_succ]
          refine take_no (i := 6) rfl (by kernel_rfl) (by kernel_rfl) (by kernel_rfl) (fun _ _ _ h => h) (by rfl) (by assumption) ?_
          simp only [Act.put, List.setIfInBounds_toArray, List.set_cons_zero, List.set_cons_succ]
          refine take_no (i := 7) rfl (by kernel_rfl) (by kernel_rfl) (by kernel_rfl) (fun _ _ _ h => h) (by rfl) (by assumption) ?_
          simp only [Act.put, List.setIfInBounds_toArray, List.set_cons_zero, List.set_cons_succ]
          refine take_no (i := 8) rfl (by kernel_rfl) (by kernel_rfl) (by kernel_rfl) (fun _ _ _ h => h) (by rfl) (by assumption) ?_
          simp only [Act.put, List.setIfInBounds_toArray, List.set_cons_zero, List.set_cons_succ]
          refine take_yes (i := 9) (v := ?vt129) rfl (by kernel_rfl) (by kernel_rfl) (by kernel_rfl) (fun _ _ _ h => h) (by rfl) (by assumption) ?hyt129 ?restt129
          case hyt129 => (intro w hSw; (try dsimp only at hSw); first | (go_simp; done) | (go_simp; with_reducible rfl))
          simp only [Act.put, List.setIfInBounds_toArray, List.set_cons_zero, List.set_cons_succ]
          refine take_yes (i := 10) (v := ?vt1210) rfl (by kernel_rfl) (by kernel_rfl) (by kernel_rfl) (fun _ _ _ h => h) (by rfl) (by assumption) ?hyt1210 ?restt1210
          case hyt1210 => (intro w hSw; (try dsimp only at hSw); first | (go_simp; done) | (go_simp; with_reducible rfl))
          simp only [Act.put, List.setIfInBounds_toArray, List.set_cons_zero, List.set_cons_succ]
          refine wpAnyH_done (by kernel_rfl) ?_ _
          go_wp2
          go_roundw
          case rel => exact ⟨k + 1, _, hlt, val_next k, rfl, any_yes HUV.out hq.out, x_a, x_b, BB, pk⟩
          case measure => exact meas_next (n := 12) hlt
      · obtain rfl : k = 12 := by omega
        have hq' := any_all HN.out hq.out Z2.out
        by_cases h0 : 0 ≤ z
        · skip
          obtain rfl : q = true := by rw [hq']; exact decide_eq_true h0
          clear hq'
          have ⟨x_a_0, x_a_1, x_a_2, x_a_3⟩ := x_a
          have ⟨x_b_0, x_b_1, x_b_2, x_b_3⟩ := x_b
          go_wp2_with (go_at_call 16; fail)
          refine (rtBest a1 a2 b1 b2 a3 12 c3 L wr pk hN6.out Ra Rb RL.out Z2.out).mono ?_
          rintro e v1 ⟨rfl, bv1⟩
          clear x_a_0 x_a_1 x_a_2 x_a_3 x_b_0 x_b_1 x_b_2 x_b_3
          have zbv1 := bv1.size
          replace x_a := x_a.on bv1
          replace x_b := x_b.on bv1
          replace BB := also BB bv1
          go_wp2_with (go_at_call 10; fail)
          refine (lives8_any v1).mono ?_
          rintro e v2 ⟨rfl, bv2⟩
          have zbv2 := bv2.size
          replace x_a := x_a.on bv2
          replace x_b := x_b.on bv2
          replace BB := also BB bv2
          go_wp2
          go_ret
          exact ⟨rfl, BB⟩
        · skip
          obtain rfl : q = false := by rw [hq']; exact decide_eq_false h0
          clear hq'
          have ⟨x_a_0, x_a_1, x_a_2, x_a_3⟩ := x_a
          have ⟨x_b_0, x_b_1, x_b_2, x_b_3⟩ := x_b
          go_wp2_with (go_at_call 16; fail)
          refine (rtBest a1 a2 b1 b2 a3 12 c3 L wr pk hN6.out Ra Rb RL.out Z2.out).mono ?_
          rintro e v1 ⟨rfl, bv1⟩
          clear x_a_0 x_a_1 x_a_2 x_a_3 x_b_0 x_b_1 x_b_2 x_b_3
          have zbv1 := bv1.size
          replace x_a := x_a.on bv1
          replace x_b := x_b.on bv1
          replace BB := also BB bv1
          go_wp2_with (go_at_call 10; fail)
          refine (lives8_any v1).mono ?_
          rintro e v2 ⟨rfl, bv2⟩
          have zbv2 := bv2.size
          replace x_a := x_a.on bv2
          replace x_b := x_b.on bv2
          replace BB := also BB bv2
          go_wp2
          go_ret
          exact ⟨by show Ending.returned (Value.bool (!decide (0 ≤ z))) = _; rw [decide_eq_false (Int.not_le.2 h0)]; rfl, BB⟩
  · skip
    have hL := hL0
    have RL : Hid _ := hR0
    generalize L0 = L at hL RL
    have hN : n0 ≤ 12 := by omega
    have hb1 : ¬ (12 : Int) < (n0 : Int) := by omega
    have hN6 : Hid (n0 ≤ 1000000) := by unfold Hid; omega
    have HN : Hid (L.length = n0) := hL.len
    have HN12 : Hid _ := hN
    clear hL0 hR0 hbig hN hc
    obtain ⟨z, hz⟩ : ∃ z, z = rbQ (a1, a2) (b1, b2) L := ⟨_, rfl⟩
    have Z1 : Hid (z = bstQ (a1, a2) (b1, b2) L n0) := by unfold Hid; rw [hz]; exact best_len HN.out
    have Z2 : Hid _ := hz
    clear hz
    obtain ⟨W, hW, bW, x_a, x_b, sW⟩ := bs_22 w (.int .i64 a1) (.int .i64 a2) (.int .i64 b1) (.int .i64 b2) 23 23
    have zbW := bW.size
    have BB := bW
    have hLW := hL.below bW
    clear hL
    obtain ⟨a3, c3, w3, hr3, p3, b3⟩ := append_pts_run W 32 s0 n0 cap L hLW hN6.out
    have eW : W.heap.size = w.heap.size + 1 + 1 := by rw [hW]; simp
    rw [eW] at hr3
    have HW : Hid _ := hW
    clear hW
    go_enter Try.func7, Try.ntmps7
    go_wp2_with (at_builtin; rw [← HW.out]; refine Go.Lib.wpList_append_run _ rfl (.tmp 15) (.tmp 16) 32 32 rfl _ _ rfl rfl _ _ hr3 ?_)
    clear hr3 HW
    have zb3 := b3.size
    replace BB := also BB b3
    replace x_a := x_a.on b3
    replace x_b := x_b.on b3
    obtain ⟨a4, c4, w4, hr4, p4, b4⟩ := append_pts_run w3.drew 32 a3 n0 c3 L (p3.below (Below.refl _ _).drew) hN6.out
    have p3k := p3
    have dd1 : Below w3.heap.size w3 w3.drew := (Below.refl _ _).drew
    have zdd1 := dd1.size
    replace BB := also BB dd1
    replace x_a := x_a.on dd1
    replace x_b := x_b.on dd1
    have b4k := b4
    refine wp_region_held_drew (S := (fun w' => w'.cell? ⟨w.heap.size, 0, none⟩ = some (.int .i64 a1) ∧ w'.cell? ⟨w.heap.size, 1, none⟩ = some (.int .i64 a2) ∧ w'.cell? ⟨w.heap.size + 1, 0, none⟩ = some (.int .i64 b1) ∧ w'.cell? ⟨w.heap.size + 1, 1, none⟩ = some (.int .i64 b2) ∧ Below w.heap.size w w')) (by kernel_rfl) ?_ (fun hHeld => ?_)
    · exact ⟨x_a.c0, x_a.c1, x_b.c0, x_b.c1, BB⟩
    refine take_yes (i := 0) (v := ?vrn00) rfl (by kernel_rfl) (by kernel_rfl) (by kernel_rfl) (fun _ _ _ h => h) (by rfl) (by assumption) ?hyrn00 ?restrn00
    case hyrn00 => (intro w hSw; (try dsimp only at hSw); first | (go_simp; done) | (go_simp; with_reducible rfl))
    simp only [Act.put, List.setIfInBounds_toArray, List.set_cons_zero, List.set_cons_succ]
    refine take_yes (i := 1) (v := ?vrn01) rfl (by kernel_rfl) (by kernel_rfl) (by kernel_rfl) (fun _ _ _ h => h) (by rfl) (by assumption) ?hyrn01 ?restrn01
    case hyrn01 => (intro w hSw; (try dsimp only at hSw); first | (go_simp; done) | (go_simp; with_reducible rfl))
    simp only [Act.put, List.setIfInBounds_toArray, List.set_cons_zero, List.set_cons_succ]
    refine take_yes (i := 3) (v := ?vrn03) rfl (by kernel_rfl) (by kernel_rfl) (by kernel_rfl) (fun _ _ _ h => h) (by rfl) (by assumption) ?hyrn03 ?restrn03
    case hyrn03 => (intro w hSw; (try dsimp only at hSw); first | (go_simp; done) | (go_simp; with_reducible rfl))
    simp only [Act.put, List.setIfInBounds_toArray, List.set_cons_zero, List.set_cons_succ]
    refine take_call (i := 2) rfl (by kernel_rfl) (fun Kc hK => ?_)
    go_simp
    refine hK.out _ _ ⟨cell_on ((Below.refl _ _).alloc (Nat.le_refl _) _) hHeld.1, cell_on ((Below.refl _ _).alloc (Nat.le_refl _) _) hHeld.2.1, cell_on ((Below.refl _ _).alloc (Nat.le_refl _) _) hHeld.2.2.1, cell_on ((Below.refl _ _).alloc (Nat.le_refl _) _) hHeld.2.2.2.1, also hHeld.2.2.2.2 ((Below.refl _ _).alloc (Nat.le_refl _) _)⟩ (fun hHeld => ?_)
    clear hK Kc
    refine take_call (i := 4) rfl (by kernel_rfl) (fun Kc hK => ?_)
    refine step_append_run rfl (.tmp 20) (.tmp 21) 32 rfl _ _ _ _ rfl rfl hr4 ?_
    refine hK.out _ _ ⟨x_a.c0 |> cell_on b4, x_a.c1 |> cell_on b4, x_b.c0 |> cell_on b4, x_b.c1 |> cell_on b4, also BB b4⟩ (fun hHeld => ?_)
    clear hK Kc hr4
    have zb4 := b4.size
    replace BB := also BB b4
    replace x_a := x_a.on b4
    replace x_b := x_b.on b4
    simp only [Act.put, List.setIfInBounds_toArray, List.set_cons_zero, List.set_cons_succ]
    refine take_call (i := 5) rfl (by kernel_rfl) (fun Kc hK => ?_)
    go_simp
    (go_at_call 14; refine (tBest a1 a2 b1 b2 a4 n0 c4 L _ p4 hN6.out Z1.out).mono ?_; rintro e w5 ⟨rfl, b5⟩)
    refine hK.out _ _ ⟨cell_on b5 x_a.c0, cell_on b5 x_a.c1, cell_on b5 x_b.c0, cell_on b5 x_b.c1, also BB b5⟩ (fun hHeld => ?_)
    clear hK Kc
    have zb5 := b5.size
    replace BB := also BB b5
    replace x_a := x_a.on b5
    replace x_b := x_b.on b5
    refine take_yes (i := 6) (v := ?vrn06) rfl (by kernel_rfl) (by kernel_rfl) (by kernel_rfl) (fun _ _ _ h => h) (by rfl) (by assumption) ?hyrn06 ?restrn06
    case hyrn06 => (intro w hSw; (try dsimp only at hSw); first | (go_simp; done) | (go_simp; with_reducible rfl))
    simp only [Act.put, List.setIfInBounds_toArray, List.set_cons_zero, List.set_cons_succ]
    refine wpAnyH_done (by kernel_rfl) ?_ _
    have p5 : PSl w5 a3 n0 c3 L := ((p3k.below (Below.refl _ _).drew).below b4k).below b5
    clear p3k p3 p4 b4k hHeld
    go_wp2
    go_loopw [8, 9] (fun qv kv wr => ∃ (k : Nat) (q : Bool), k ≤ n0 ∧ kv = .int .i64 (k : Int) ∧ qv = .bool q ∧ Hid (q = (L.take k).any (leftQ (a1, a2) (b1, b2))) ∧ Bx wr w.heap.size (.int .i64 a1) (.int .i64 a2) ∧ Bx wr (w.heap.size + 1) (.int .i64 b1) (.int .i64 b2) ∧ Below w.heap.size w wr ∧ PSl wr a3 n0 c3 L) (fun _ kv _ => n0 - (intOf kv).toNat)
    case atStart => exact ⟨0, false, Nat.zero_le _, rfl, rfl, (by unfold Hid; simp), x_a, x_b, BB, p5⟩
    case round =>
      clear x_a x_b BB p5
      obtain ⟨k, q, hk, rfl, rfl, hq, x_a, x_b, BB, pk⟩ := hrel
      by_cases hlt : k < n0
      · obtain ⟨bl, ofs, u, v, rfl, _, huv, hpc⟩ := pk.at hlt
        have x_e := hpc k u v huv
        have hlt' : (k : Int) < (n0 : Int) := by omega
        have HUV : Hid _ := huv
        have RU : Hid (R2 (u, v)) := RL.out _ _ _ huv
        have zb := bx_lt x_b
        clear huv hpc
        cases q
        · skip
          obtain ⟨g, hg⟩ : ∃ g, g = leftQ (a1, a2) (b1, b2) (u, v) := ⟨_, rfl⟩
          have G : Hid _ := hg
          clear hg
          go_wp2
          have dd1 : Below wr.heap.size wr wr.drew := (Below.refl _ _).drew
          have zdd1 := dd1.size
          replace x_a := x_a.on dd1
          replace x_b := x_b.on dd1
          replace x_e := x_e.on dd1
          replace BB := also BB dd1
          replace pk := pk.below dd1
          refine wp_region_held_drew (S := (fun w' => w'.cell? ⟨w.heap.size, 0, none⟩ = some (.int .i64 a1) ∧ w'.cell? ⟨w.heap.size, 1, none⟩ = some (.int .i64 a2) ∧ w'.cell? ⟨w.heap.size + 1, 0, none⟩ = some (.int .i64 b1) ∧ w'.cell? ⟨w.heap.size + 1, 1, none⟩ = some (.int .i64 b2) ∧ w'.cell? ⟨bl, ofs + k * 2, none⟩ = some (.int .i64 u) ∧ w'.cell? ⟨bl, ofs + k * 2 + 1, none⟩ = some (.int .i64 v) ∧ Below w.heap.size w w')) (by kernel_rfl) ?_ (fun hHeld => ?_)
          · exact ⟨x_a.c0, x_a.c1, x_b.c0, x_b.c1, x_e.c0, x_e.c1, BB⟩
          refine take_yes (i := 0) (v := ?vfn00) rfl (by kernel_rfl) (by kernel_rfl) (by kernel_rfl) (fun _ _ _ h => h) (by rfl) (by assumption) ?hyfn00 ?restfn00
          case hyfn00 => (intro w hSw; (try dsimp only at hSw); first | (go_simp; done) | (go_simp; with_reducible rfl))
          simp only [Act.put, List.setIfInBounds_toArray, List.set_cons_zero, List.set_cons_succ]
          refine take_yes (i := 1) (v := ?vfn01) rfl (by kernel_rfl) (by kernel_rfl) (by kernel_rfl) (fun _ _ _ h => h) (by rfl) (by assumption) ?hyfn01 ?restfn01
          case hyfn01 => (intro w hSw; (try dsimp only at hSw); first | (go_simp; done) | (go_simp; with_reducible rfl))
          simp only [Act.put, List.setIfInBounds_toArray, List.set_cons_zero, List.set_cons_succ]
          refine take_yes (i := 2) (v := ?vfn02) rfl (by kernel_rfl) (by kernel_rfl) (by kernel_rfl) (fun _ _ _ h => h) (by rfl) (by assumption) ?hyfn02 ?restfn02
          case hyfn02 => (intro w hSw; (try dsimp only at hSw); first | (go_simp; done) | (go_simp; with_reducible rfl))
          simp only [Act.put, List.setIfInBounds_toArray, List.set_cons_zero, List.set_cons_succ]
          refine take_yes (i := 3) (v := ?vfn03) rfl (by kernel_rfl) (by kernel_rfl) (by kernel_rfl) (fun _ _ _ h => h) (by rfl) (by assumption) ?hyfn03 ?restfn03
          case hyfn03 => (intro w hSw; (try dsimp only at hSw); first | (go_simp; done) | (go_simp; with_reducible rfl))
          simp only [Act.put, List.setIfInBounds_toArray, List.set_cons_zero, List.set_cons_succ]
          refine take_yes (i := 4) (v := ?vfn04) rfl (by kernel_rfl) (by kernel_rfl) (by kernel_rfl) (fun _ _ _ h => h) (by rfl) (by assumption) ?hyfn04 ?restfn04
          case hyfn04 => (intro w hSw; (try dsimp only at hSw); first | (go_simp; done) | (go_simp; with_reducible rfl))
          simp only [Act.put, List.setIfInBounds_toArray, List.set_cons_zero, List.set_cons_succ]
          refine take_yes (i := 5) (v := ?vfn05) rfl (by kernel_rfl) (by kernel_rfl) (by kernel_rfl) (fun _ _ _ h => h) (by rfl) (by assumption) ?hyfn05 ?restfn05
          case hyfn05 => (intro w hSw; (try dsimp only at hSw); first | (go_simp; done) | (go_simp; with_reducible rfl))
          simp only [Act.put, List.setIfInBounds_toArray, List.set_cons_zero, List.set_cons_succ]
          refine take_yes (i := 6) (v := ?vfn06) rfl (by kernel_rfl) (by kernel_rfl) (by kernel_rfl) (fun _ _ _ h => h) (by rfl) (by assumption) ?hyfn06 ?restfn06
          case hyfn06 => (intro w hSw; (try dsimp only at hSw); first | (go_simp; done) | (go_simp; with_reducible rfl))
          simp only [Act.put, List.setIfInBounds_toArray, List.set_cons_zero, List.set_cons_succ]
          refine take_yes (i := 7) (v := ?vfn07) rfl (by kernel_rfl) (by kernel_rfl) (by kernel_rfl) (fun _ _ _ h => h) (by rfl) (by assumption) ?hyfn07 ?restfn07
          case hyfn07 => (intro w hSw; (try dsimp only at hSw); first | (go_simp; done) | (go_simp; with_reducible rfl))
          simp only [Act.put, List.setIfInBounds_toArray, List.set_cons_zero, List.set_cons_succ]
          refine take_call (i := 8) rfl (by kernel_rfl) (fun Kc hK => ?_)
          go_simp
          (go_at_call 15; refine (rtLeft a1 a2 b1 b2 u v _ Ra Rb RU G.out).mono ?_; rintro e v1 ⟨rfl, bv1⟩)
          refine hK.out _ _ ?_ (fun hHeld => ?_)
          · exact ⟨cell_on bv1 hHeld.1, cell_on bv1 hHeld.2.1, cell_on bv1 hHeld.2.2.1, cell_on bv1 hHeld.2.2.2.1, cell_on bv1 hHeld.2.2.2.2.1, cell_on bv1 hHeld.2.2.2.2.2.1, also hHeld.2.2.2.2.2.2 bv1⟩
          clear hK Kc
          have zbv1 := bv1.size
          replace x_a := x_a.on bv1
          replace x_b := x_b.on bv1
          replace x_e := x_e.on bv1
          replace BB := also BB bv1
          replace pk := pk.below bv1
          refine take_yes (i := 9) (v := ?vfn09) rfl (by kernel_rfl) (by kernel_rfl) (by kernel_rfl) (fun _ _ _ h => h) (by rfl) (by assumption) ?hyfn09 ?restfn09
          case hyfn09 => (intro w hSw; (try dsimp only at hSw); first | (go_simp; done) | (go_simp; with_reducible rfl))
          simp only [Act.put, List.setIfInBounds_toArray, List.set_cons_zero, List.set_cons_succ]
          refine take_yes (i := 10) (v := ?vfn010) rfl (by kernel_rfl) (by kernel_rfl) (by kernel_rfl) (fun _ _ _ h => h) (by rfl) (by assumption) ?hyfn010 ?restfn010
          case hyfn010 => (intro w hSw; (try dsimp only at hSw); first | (go_simp; done) | (go_simp; with_reducible rfl))
          simp only [Act.put, List.setIfInBounds_toArray, List.set_cons_zero, List.set_cons_succ]
          refine wpAnyH_done (by kernel_rfl) ?_ _
          go_wp2
          go_roundw
          case rel => exact ⟨k + 1, _, hlt, val_next k, rfl, any_no HUV.out hq.out G.out, x_a, x_b, BB, pk⟩
          case measure => exact meas_next (n := n0) hlt
        · skip
          obtain ⟨g, hg⟩ : ∃ g, g = leftQ (a1, a2) (b1, b2) (u, v) := ⟨_, rfl⟩
          have G : Hid _ := hg
          clear hg
          go_wp2
          have dd1 : Below wr.heap.size wr wr.drew := (Below.refl _ _).drew
          have zdd1 := dd1.size
          replace x_a := x_a.on dd1
          replace x_b := x_b.on dd1
          replace x_e := x_e.on dd1
          replace BB := also BB dd1
          replace pk := pk.below dd1
          refine wp_region_held_drew (S := (fun w' => w'.cell? ⟨w.heap.size, 0, none⟩ = some (.int .i64 a1) ∧ w'.cell? ⟨w.heap.size, 1, none⟩ = some (.int .i64 a2) ∧ w'.cell? ⟨w.heap.size + 1, 0, none⟩ = some (.int .i64 b1) ∧ w'.cell? ⟨w.heap.size + 1, 1, none⟩ = some (.int .i64 b2) ∧ w'.cell? ⟨bl, ofs + k * 2, none⟩ = some (.int .i64 u) ∧ w'.cell? ⟨bl, ofs + k * 2 + 1, none⟩ = some (.int .i64 v) ∧ Below w.heap.size w w')) (by kernel_rfl) ?_ (fun hHeld => ?_)
          · exact ⟨x_a.c0, x_a.c1, x_b.c0, x_b.c1, x_e.c0, x_e.c1, BB⟩
          refine take_yes (i := 0) (v := ?vtn00) rfl (by kernel_rfl) (by kernel_rfl) (by kernel_rfl) (fun _ _ _ h => h) (by rfl) (by assumption) ?hytn00 ?resttn00
          case hytn00 => (intro w hSw; (try dsimp only at hSw); first | (go_simp; done) | (go_simp; with_reducible rfl))
          simp only [Act.put, List.setIfInBounds_toArray, List.set_cons_zero, List.set_cons_succ]
          refine take_yes (i := 1) (v := ?vtn01) rfl (by kernel_rfl) (by kernel_rfl) (by kernel_rfl) (fun _ _ _ h => h) (by rfl) (by assumption) ?hytn01 ?resttn01
          case hytn01 => (intro w hSw; (try dsimp only at hSw); first | (go_simp; done) | (go_simp; with_reducible rfl))
          simp only [Act.put, List.setIfInBounds_toArray, List.set_cons_zero, List.set_cons_succ]
          refine take_no (i := 2) rfl (by kernel_rfl) (by kernel_rfl) (by kernel_rfl) (fun _ _ _ h => h) (by rfl) (by assumption) ?_
          simp only [Act.put, List.setIfInBounds_toArray, List.set_cons_zero, List.set_cons_succ]
          refine take_no (i := 3) rfl (by kernel_rfl) (by kernel_rfl) (by kernel_rfl) (fun _ _ _ h => h) (by rfl) (by assumption) ?_
          simp only [Act.put, List.setIfInBounds_toArray, List.set_cons_zero, List.set_cons_succ]
          refine take_no (i := 4) rfl (by kernel_rfl) (by kernel_rfl) (by kernel_rfl) (fun _ _ _ h => h) (by rfl) (by assumption) ?_
          simp only [Act.put, List.setIfInBounds_toArray, List.set_cons_zero, List.set_cons_succ]
          refine take_no (i := 5) rfl (by kernel_rfl) (by kernel_rfl) (by kernel_rfl) (fun _ _ _ h => h) (by rfl) (by assumption) ?_
          simp only [Act.put, List.setIfInBounds_toArray, List.set_cons_zero, List.set_cons_succ]
          refine take_no (i := 6) rfl (by kernel_rfl) (by kernel_rfl) (by kernel_rfl) (fun _ _ _ h => h) (by rfl) (by assumption) ?_
          simp only [Act.put, List.setIfInBounds_toArray, List.set_cons_zero, List.set_cons_succ]
          refine take_no (i := 7) rfl (by kernel_rfl) (by kernel_rfl) (by kernel_rfl) (fun _ _ _ h => h) (by rfl) (by assumption) ?_
          simp only [Act.put, List.setIfInBounds_toArray, List.set_cons_zero, List.set_cons_succ]
          refine take_no (i := 8) rfl (by kernel_rfl) (by kernel_rfl) (by kernel_rfl) (fun _ _ _ h => h) (by rfl) (by assumption) ?_
          simp only [Act.put, List.setIfInBounds_toArray, List.set_cons_zero, List.set_cons_succ]
          refine take_yes (i := 9) (v := ?vtn09) rfl (by kernel_rfl) (by kernel_rfl) (by kernel_rfl) (fun _ _ _ h => h) (by rfl) (by assumption) ?hytn09 ?resttn09
          case hytn09 => (intro w hSw; (try dsimp only at hSw); first | (go_simp; done) | (go_simp; with_reducible rfl))
          simp only [Act.put, List.setIfInBounds_toArray, List.set_cons_zero, List.set_cons_succ]
          refine take_yes (i := 10) (v := ?vtn010) rfl (by kernel_rfl) (by kernel_rfl) (by kernel_rfl) (fun _ _ _ h => h) (by rfl) (by assumption) ?hytn010 ?resttn010
          case hytn010 => (intro w hSw; (try dsimp only at hSw); first | (go_simp; done) | (go_simp; with_reducible rfl))
          simp only [Act.put, List.setIfInBounds_toArray, List.set_cons_zero, List.set_cons_succ]
          refine wpAnyH_done (by kernel_rfl) ?_ _
          go_wp2
          go_roundw
          case rel => exact ⟨k + 1, _, hlt, val_next k, rfl, any_yes HUV.out hq.out, x_a, x_b, BB, pk⟩
          case measure => exact meas_next (n := n0) hlt
      · obtain rfl : k = n0 := by omega
        have hq' := any_all HN.out hq.out Z2.out
        by_cases h0 : 0 ≤ z
        · skip
          obtain rfl : q = true := by rw [hq']; exact decide_eq_true h0
          clear hq'
          have ⟨x_a_0, x_a_1, x_a_2, x_a_3⟩ := x_a
          have ⟨x_b_0, x_b_1, x_b_2, x_b_3⟩ := x_b
          go_wp2_with (go_at_call 16; fail)
          refine (rtBest a1 a2 b1 b2 a3 k c3 L wr pk hN6.out Ra Rb RL.out Z2.out).mono ?_
          rintro e v1 ⟨rfl, bv1⟩
          clear x_a_0 x_a_1 x_a_2 x_a_3 x_b_0 x_b_1 x_b_2 x_b_3
          have zbv1 := bv1.size
          replace x_a := x_a.on bv1
          replace x_b := x_b.on bv1
          replace BB := also BB bv1
          go_wp2_with (go_at_call 10; fail)
          refine (lives8_any v1).mono ?_
          rintro e v2 ⟨rfl, bv2⟩
          have zbv2 := bv2.size
          replace x_a := x_a.on bv2
          replace x_b := x_b.on bv2
          replace BB := also BB bv2
          go_wp2
          go_ret
          exact ⟨rfl, BB⟩
        · skip
          obtain rfl : q = false := by rw [hq']; exact decide_eq_false h0
          clear hq'
          have ⟨x_a_0, x_a_1, x_a_2, x_a_3⟩ := x_a
          have ⟨x_b_0, x_b_1, x_b_2, x_b_3⟩ := x_b
          go_wp2_with (go_at_call 16; fail)
          refine (rtBest a1 a2 b1 b2 a3 k c3 L wr pk hN6.out Ra Rb RL.out Z2.out).mono ?_
          rintro e v1 ⟨rfl, bv1⟩
          clear x_a_0 x_a_1 x_a_2 x_a_3 x_b_0 x_b_1 x_b_2 x_b_3
          have zbv1 := bv1.size
          replace x_a := x_a.on bv1
          replace x_b := x_b.on bv1
          replace BB := also BB bv1
          go_wp2_with (go_at_call 10; fail)
          refine (lives8_any v1).mono ?_
          rintro e v2 ⟨rfl, bv2⟩
          have zbv2 := bv2.size
          replace x_a := x_a.on bv2
          replace x_b := x_b.on bv2
          replace BB := also BB bv2
          go_wp2
          go_ret
          exact ⟨by show Ending.returned (Value.bool (!decide (0 ≤ z))) = _; rw [decide_eq_false (Int.not_le.2 h0)]; rfl, BB⟩
theorem own : ownKnob Try.prog.godebug = none := by kernel_rfl
theorem cells_pt : Try.prog.cellsOf 23 = 2 := by kernel_rfl
theorem reads_pt {H : Type} (enc : TypeId × Value → H) (W : World) (bs : Nat) (sp : Nat → Bool) (hd : Bool) {a b : Int} (wa : (Lit.int .i64 a).wf = true) (wb : (Lit.int .i64 b).wf = true) : DataW.Trod enc Try.prog W bs sp hd 23 (.agg #[.int .i64 a, .int .i64 b]) (.agg [.lit (.int .i64 a), .lit (.int .i64 b)]) [] :=
  shut_agg2 (y0 := (.lit (.int .i64 a), [])) (y1 := (.lit (.int .i64 b), [])) Try.underlying23 (by kernel_rfl) cells_pt ⟨1, by simp [DataW.trod, Try.underlying2, wa]⟩ ⟨1, by simp [DataW.trod, Try.underlying2, wb]⟩
set_option maxRecDepth 100000 in
theorem lifted (os : Os) (started : os.Started) (H : Type) (enc : TypeId × Value → H) :
    ReturnsInHanded {} Try.checked os 7 .any (Rows.tieBestSpec.pre6 enc Try.prog Try.f7 Rows.tieBestRow.domain false) (Rows.tieBestSpec.post enc Try.prog Try.f7 false true false false) := by
  refine returnsInHanded_of_change (C := Try.checked) own started (by kernel_rfl) Try.func7
    (ChangeSpec.witness6 (enc := enc) (C := Try.checked) false ⟨#[], #[.agg #[.int .i64 0, .int .i64 0], .agg #[.int .i64 0, .int .i64 0], .slice none 0 0], []⟩ 8 (by kernel_rfl) (by kernel_rfl) (by kernel_rfl) (by kernel_rfl)) ?_
  intro W base args ds gs before hval0 hW hcnd _
  have hval : ∀ (j : Nat) t v, Try.f7.params[j]? = some t → args[j]? = some v → Value.okWide Try.prog W .any base t v := hval0
  have hW' := hW
  obtain ⟨p, q, hA0, hV, rfl, hfz, hnd⟩ := hW
  have hA : DataW.TrodAll enc Try.prog W 0 (fun _ => true) true Try.f7.params.toList args.toList ds p := hA0
  rw [Try.params7] at hA hval
  obtain ⟨v0, vs0, d0, ds0, p0, q0, hargs, rfl, rfl, h0, r0⟩ := trodAll_cons hA
  obtain ⟨v1, vs1, d1, ds1, p1, q1, rfl, rfl, rfl, h1, r1⟩ := trodAll_cons r0
  obtain ⟨v2, vs2, d2, ds2, p2, q2, rfl, rfl, rfl, h2, r2⟩ := trodAll_cons r1
  obtain ⟨rfl, rfl, rfl⟩ := trodAll_nil r2
  obtain rfl : args = #[v0, v1, v2] := by cases args; simp_all
  obtain ⟨rfl, rfl⟩ := trodVars_none hV
  have hlt : ∀ x ∈ p0 ++ p1 ++ p2, x.block < W.heap.size := fun x hx => by simpa using hW'.lt x (by simpa using hx)
  obtain ⟨x0, y0, g0, k0, m0, rfl, rfl, rfl, hx0, hy0⟩ := open_agg2 Try.underlying23 (by kernel_rfl) cells_pt (hval 0 23 v0 rfl rfl) h0
  obtain ⟨a0, ex0, rfl, wa0⟩ := DataW.trod_int Try.underlying2 hx0
  obtain ⟨b0, ey0, rfl, wb0⟩ := DataW.trod_int Try.underlying2 hy0
  simp at ex0 ey0
  subst ex0 ey0
  obtain ⟨x1, y1, g1, k1, m1, rfl, rfl, rfl, hx1, hy1⟩ := open_agg2 Try.underlying23 (by kernel_rfl) cells_pt (hval 1 23 v1 rfl rfl) h1
  obtain ⟨a1, ex1, rfl, wa1⟩ := DataW.trod_int Try.underlying2 hx1
  obtain ⟨b1, ey1, rfl, wb1⟩ := DataW.trod_int Try.underlying2 hy1
  simp at ex1 ey1
  subst ex1 ey1
  obtain ⟨a2, l2, c2, rfl⟩ := okWide_slice Try.underlying32 (hval 2 32 v2 rfl rfl)
  have h2k := h2
  obtain ⟨f2, hf2⟩ := h2
  obtain ⟨L2, hL2, hc2, hR2⟩ := pts_view hf2 (fun b o h => hfz b o (by simp [h])) (fun x hx => hlt x (by simp [hx]))
  clear hA0 hval0
  have hwalk := walk a0 b0 (bd_i64 wa0).1 (bd_i64 wa0).2 (bd_i64 wb0).1 (bd_i64 wb0).2 a1 b1 (bd_i64 wa1).1 (bd_i64 wa1).2 (bd_i64 wb1).1 (bd_i64 wb1).2 a2 l2 c2 L2 W hL2 hc2 hR2
  refine hwalk.mono fun e W' ⟨he, bel⟩ => ?_
  subst he
  exact ⟨_, rfl, _, _, _, [], _, [], hW', trodAll_mk1 (shut_bool Try.underlying4 _), (trodAll_cons_mk (reads_pt enc _ _ _ _ wa0 wb0) (trodAll_cons_mk (reads_pt enc _ _ _ _ wa1 wb1) (trodAll_cons_mk (Below.trod laidOutP (by kernel_rfl) (of_decide_eq_true (by kernel_rfl)) h2k bel (fun x hx => hlt x (by simp [hx]))) trodAll_mk0))), rfl, bel.frame _, fun h => by cases h⟩

/-- The statement. -/
theorem proved : Rows.TieBestSaid :=
  OpenClaim.holds_of_wide 7 Try.f7 rfl rfl rfl rfl rfl rfl rfl ⟨rfl, rfl, rfl, rfl, rfl⟩ rfl rfl rfl rfl rfl (by kernel_rfl) Try.func7 (by kernel_rfl)
    (of_decide_eq_true (by kernel_rfl)) (by unfold Func.isWrapper; first | (rw [if_pos (by decide +kernel)]; kernel_rfl) | (rw [if_neg (by decide +kernel)]; exact ⟨rfl, rfl⟩))
    (fun os started H enc _ => lifted os started H enc)
#print axioms proved
end tbest
end Go.Proofs.Ytnemailhijkemaa
