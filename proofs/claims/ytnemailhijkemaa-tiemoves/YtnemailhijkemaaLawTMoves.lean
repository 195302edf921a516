/-
  TieMoves: it stays when all points are moved alike.
-/
import Derived.Test.YtnemailhijkemaaChecked
import Derived.Test.YtnemailhijkemaaRows
import Derived.Test.YtnemailhijkemaaP15
import Derived.Test.YtnemailhijkemaaP16
import Derived.Test.YtnemailhijkemaaP4
import Derived.Deep.RegionHeld3
import Derived.ProofKit
import Derived.OpenShut
import Derived.Lib.SmallJoins
namespace Go.Proofs.Ytnemailhijkemaa
open Go.RowKit
set_option linter.unusedVariables false

namespace tmoves
open Go.ChangeShapes Go.WideShapes Go.ChangeAt Go.Joins
/-- The first k points moved, the others as they were. -/
def mixL (s : Pt) (k : Nat) (L : List Pt) : List Pt := (L.take k).map (mvQ s) ++ L.drop k
theorem mix_length (s : Pt) (k : Nat) (L : List Pt) : (mixL s k L).length = L.length := by unfold mixL; simp; omega
theorem mix_zero (s : Pt) (L : List Pt) : mixL s 0 L = L := by unfold mixL; simp
theorem mix_at {s p : Pt} {k : Nat} {L : List Pt} (h : L[k]? = some p) : (mixL s k L)[k]? = some p := by
  have hk := (List.getElem?_eq_some_iff.1 h).1
  unfold mixL
  rw [List.getElem?_append_right (by simp; omega)]
  simp only [List.length_map, List.length_take, List.getElem?_drop]
  rw [show k + (k - min k L.length) = k by omega]
  exact h
theorem mix_set {s p : Pt} {k : Nat} {L : List Pt} (h : L[k]? = some p) : (mixL s k L).set k (mvQ s p) = mixL s (k + 1) L := by
  obtain ⟨hk, e⟩ := List.getElem?_eq_some_iff.1 h
  unfold mixL
  rw [List.set_append_right _ _ (by simp; omega), List.take_add_one, h, List.drop_eq_getElem_cons hk, e]
  simp only [List.length_map, List.length_take]
  rw [show k - min k L.length = 0 by omega]
  simp
theorem pcells_set : ∀ (L : List Pt) (k : Nat) (p : Pt), ((pcells L).set (k * 2) (.int .i64 p.1)).set (k * 2 + 1) (.int .i64 p.2) = pcells (L.set k p)
  | [], k, p => by simp [pcells]
  | q :: l, 0, p => by simp [pcells]
  | q :: l, k + 1, p => by
    rw [show (k + 1) * 2 = k * 2 + 1 + 1 by omega]
    simp only [pcells, List.set_cons_succ]
    rw [pcells_set l k p]
/-- The first k points can be, and can be moved. -/
def AllMv (s : Pt) (L : List Pt) (k : Nat) : Prop := ∀ j p, j < k → L[j]? = some p → canC p.1 p.2 = true ∧ canC (mvQ s p).1 (mvQ s p).2 = true
theorem allMv_next {s p : Pt} {L : List Pt} {k : Nat} (h : AllMv s L k) (hp : L[k]? = some p) (h1 : canC p.1 p.2 = true) (h2 : canC (mvQ s p).1 (mvQ s p).2 = true) : AllMv s L (k + 1) := by
  intro j q hj hq
  rcases Nat.lt_or_ge j k with g | g
  · exact h j q g hq
  · obtain rfl : j = k := by omega
    rw [hp] at hq
    obtain rfl := Option.some.inj hq
    exact ⟨h1, h2⟩
theorem val_next (k : Nat) : Value.int .i64 ((k : Int) + 1) = Value.int .i64 ((k + 1 : Nat) : Int) := by simp
theorem meas4 {k : Nat} (h : k < 4) : 4 - (intOf (Value.int .i64 ((k : Int) + 1))).toNat < 4 - (intOf (Value.int .i64 (k : Int))).toNat := by simp [intOf]; omega
set_option maxRecDepth 100000 in
set_option maxHeartbeats 20000000 in
theorem walk (a1 a2 : Int) (ha1_1 : -9223372036854775808 ≤ a1) (ha1_2 : a1 ≤ 9223372036854775807) (ha2_1 : -9223372036854775808 ≤ a2) (ha2_2 : a2 ≤ 9223372036854775807) (b1 b2 : Int) (hb1_1 : -9223372036854775808 ≤ b1) (hb1_2 : b1 ≤ 9223372036854775807) (hb2_1 : -9223372036854775808 ≤ b2) (hb2_2 : b2 ≤ 9223372036854775807) (c1 c2 : Int) (hc1_1 : -9223372036854775808 ≤ c1) (hc1_2 : c1 ≤ 9223372036854775807) (hc2_1 : -9223372036854775808 ≤ c2) (hc2_2 : c2 ≤ 9223372036854775807) (d1 d2 : Int) (hd1_1 : -9223372036854775808 ≤ d1) (hd1_2 : d1 ≤ 9223372036854775807) (hd2_1 : -9223372036854775808 ≤ d2) (hd2_2 : d2 ≤ 9223372036854775807) (s1 s2 : Int) (hs1_1 : -9223372036854775808 ≤ s1) (hs1_2 : s1 ≤ 9223372036854775807) (hs2_1 : -9223372036854775808 ≤ s2) (hs2_2 : s2 ≤ 9223372036854775807) (w : World) :
    Calls Try.prog 6 #[.agg #[.int .i64 a1, .int .i64 a2, .int .i64 b1, .int .i64 b2, .int .i64 c1, .int .i64 c2], .agg #[.int .i64 d1, .int .i64 d2], .agg #[.int .i64 s1, .int .i64 s2]] w fun e w' => e = .returned (.bool true) ∧ Below w.heap.size w w' := by
  have Ra : Hid (R2 (a1, a2)) := ⟨⟨ha1_1, ha1_2⟩, ⟨ha2_1, ha2_2⟩⟩
  have Rb : Hid (R2 (b1, b2)) := ⟨⟨hb1_1, hb1_2⟩, ⟨hb2_1, hb2_2⟩⟩
  have Rc : Hid (R2 (c1, c2)) := ⟨⟨hc1_1, hc1_2⟩, ⟨hc2_1, hc2_2⟩⟩
  have Rd : Hid (R2 (d1, d2)) := ⟨⟨hd1_1, hd1_2⟩, ⟨hd2_1, hd2_2⟩⟩
  have Rs : Hid (R2 (s1, s2)) := ⟨⟨hs1_1, hs1_2⟩, ⟨hs2_1, hs2_2⟩⟩
  clear ha1_1 ha1_2 ha2_1 ha2_2 hb1_1 hb1_2 hb2_1 hb2_2 hc1_1 hc1_2 hc2_1 hc2_2 hd1_1 hd1_2 hd2_1 hd2_2 hs1_1 hs1_2 hs2_1 hs2_2
  have RL : Hid (∀ (j : Nat) (x y : Int), [(a1, a2), (b1, b2), (c1, c2), (d1, d2)][j]? = some (x, y) → R2 (x, y)) := by
    intro j x y h
    match j, h with
    | 0, h => cases h; exact Ra.out
    | 1, h => cases h; exact Rb.out
    | 2, h => cases h; exact Rc.out
    | 3, h => cases h; exact Rd.out
    | k + 4, h => simp at h
  obtain ⟨W, hW, bW, x_t, x_d, x_s, x_l, sW⟩ := bs_6228 w (.int .i64 a1) (.int .i64 a2) (.int .i64 b1) (.int .i64 b2) (.int .i64 c1) (.int .i64 c2) (.int .i64 d1) (.int .i64 d2) (.int .i64 s1) (.int .i64 s2) (.int .i64 a1) (.int .i64 a2) (.int .i64 b1) (.int .i64 b2) (.int .i64 c1) (.int .i64 c2) (.int .i64 d1) (.int .i64 d2) 24 23 23 29
  have zbW := bW.size
  have BB := bW
  go_enter Try.func6, Try.ntmps6
  go_wp2
  rw [← hW]
  clear hW
  have hrow : Row W (w.heap.size + 1 + 1 + 1) (pcells (mixL (s1, s2) 0 [(a1, a2), (b1, b2), (c1, c2), (d1, d2)])) := by rw [mix_zero]; exact row_b8 x_l
  obtain ⟨LL, hLL⟩ : ∃ LL : List Pt, LL = [(a1, a2), (b1, b2), (c1, c2), (d1, d2)] := ⟨_, rfl⟩
  rw [← hLL] at hrow RL
  have HLL : Hid _ := hLL
  have HN : Hid (LL.length = 4) := by rw [hLL]; rfl
  clear hLL x_l
  go_loopw [8] (fun iv wr => ∃ k : Nat, k ≤ 4 ∧ iv = .int .i64 (k : Int) ∧ Hid (AllMv (s1, s2) LL k) ∧ Row wr (w.heap.size + 1 + 1 + 1) (pcells (mixL (s1, s2) k LL)) ∧ B6 wr w.heap.size (.int .i64 a1) (.int .i64 a2) (.int .i64 b1) (.int .i64 b2) (.int .i64 c1) (.int .i64 c2) ∧ Bx wr (w.heap.size + 1) (.int .i64 d1) (.int .i64 d2) ∧ Bx wr (w.heap.size + 1 + 1) (.int .i64 s1) (.int .i64 s2) ∧ Below w.heap.size w wr) (fun iv _ => 4 - (intOf iv).toNat)
  case atStart => exact ⟨0, by omega, rfl, fun j p h _ => absurd h (Nat.not_lt_zero j), hrow, x_t, x_d, x_s, BB⟩
  case round =>
    clear hrow x_t x_d x_s BB
    obtain ⟨k, hk, rfl, hall, hrow, x_t, x_d, x_s, BB⟩ := hrel
    by_cases hlt : k < 4
    · obtain ⟨x, y, hxy⟩ : ∃ x y, LL[k]? = some (x, y) := ⟨_, _, List.getElem?_eq_getElem (by rw [HN.out]; exact hlt)⟩
      have RX : Hid (R2 (x, y)) := RL.out _ _ _ hxy
      have HXY : Hid _ := hxy
      have hm := mix_at (s := (s1, s2)) hxy
      have hlen : (pcells (mixL (s1, s2) k LL)).length = 8 := by rw [pcells_length, mix_length, HN.out]
      have HLN : Hid _ := hlen
      obtain ⟨c1', c2'⟩ := pcells_at _ k x y hm
      have x_e : Pc wr (w.heap.size + 1 + 1 + 1) (k * 2) (.int .i64 x) (.int .i64 y) := ⟨hrow.cell _ _ c1', hrow.cell _ _ c2', hrow.free (k * 2) (by omega), hrow.free (k * 2 + 1) (by omega)⟩
      have hlt4 : (k : Int) < 4 := by omega
      have zs := bx_lt x_s
      have zl : w.heap.size + 1 + 1 + 1 < wr.heap.size := cell_lt x_e.c0
      clear hxy hm hlen c1' c2'
      cases hx : canC x y
      · skip
        have ⟨x_e_0, x_e_1, x_e_2, x_e_3⟩ := x_e
        have ⟨x_s_0, x_s_1, x_s_2, x_s_3⟩ := x_s
        have HX : Hid _ := hx
        go_wp2_with (go_at_call 13; fail)
        refine (rlCan x y wr (r2x RX.out) (r2y RX.out) hx.symm).mono ?_
        rintro e w1 ⟨rfl, bw1⟩
        clear x_e_0 x_e_1 x_e_2 x_e_3 x_s_0 x_s_1 x_s_2 x_s_3
        have zbw1 := bw1.size
        replace x_t := x_t.on bw1
        replace x_d := x_d.on bw1
        replace x_s := x_s.on bw1
        replace x_e := x_e.on bw1
        replace BB := also BB bw1
        have ⟨x_e_0, x_e_1, x_e_2, x_e_3⟩ := x_e
        have ⟨x_s_0, x_s_1, x_s_2, x_s_3⟩ := x_s
        go_wp2_with (go_at_call 10; fail)
        refine (lives8_any w1).mono ?_
        rintro e w3 ⟨rfl, bw3⟩
        clear x_e_0 x_e_1 x_e_2 x_e_3 x_s_0 x_s_1 x_s_2 x_s_3
        have zbw3 := bw3.size
        replace x_t := x_t.on bw3
        replace x_d := x_d.on bw3
        replace x_s := x_s.on bw3
        replace x_e := x_e.on bw3
        replace BB := also BB bw3
        go_wp2
        go_ret
        exact ⟨rfl, BB⟩
      · cases hs : canC s1 s2
        · skip
          have ⟨x_e_0, x_e_1, x_e_2, x_e_3⟩ := x_e
          have ⟨x_s_0, x_s_1, x_s_2, x_s_3⟩ := x_s
          have HX : Hid _ := hx
          go_wp2_with (go_at_call 13; fail)
          refine (rlCan x y wr (r2x RX.out) (r2y RX.out) hx.symm).mono ?_
          rintro e w1 ⟨rfl, bw1⟩
          clear x_e_0 x_e_1 x_e_2 x_e_3 x_s_0 x_s_1 x_s_2 x_s_3
          have zbw1 := bw1.size
          replace x_t := x_t.on bw1
          replace x_d := x_d.on bw1
          replace x_s := x_s.on bw1
          replace x_e := x_e.on bw1
          replace BB := also BB bw1
          have ⟨x_e_0, x_e_1, x_e_2, x_e_3⟩ := x_e
          have ⟨x_s_0, x_s_1, x_s_2, x_s_3⟩ := x_s
          go_wp2_with (go_at_call 13; fail)
          refine (rlCan s1 s2 w1 (r2x Rs.out) (r2y Rs.out) hs.symm).mono ?_
          rintro e w2 ⟨rfl, bw2⟩
          clear x_e_0 x_e_1 x_e_2 x_e_3 x_s_0 x_s_1 x_s_2 x_s_3
          have zbw2 := bw2.size
          replace x_t := x_t.on bw2
          replace x_d := x_d.on bw2
          replace x_s := x_s.on bw2
          replace x_e := x_e.on bw2
          replace BB := also BB bw2
          have ⟨x_e_0, x_e_1, x_e_2, x_e_3⟩ := x_e
          have ⟨x_s_0, x_s_1, x_s_2, x_s_3⟩ := x_s
          go_wp2_with (go_at_call 10; fail)
          refine (lives8_any w2).mono ?_
          rintro e w3 ⟨rfl, bw3⟩
          clear x_e_0 x_e_1 x_e_2 x_e_3 x_s_0 x_s_1 x_s_2 x_s_3
          have zbw3 := bw3.size
          replace x_t := x_t.on bw3
          replace x_d := x_d.on bw3
          replace x_s := x_s.on bw3
          replace x_e := x_e.on bw3
          replace BB := also BB bw3
          go_wp2
          go_ret
          exact ⟨rfl, BB⟩
        · cases hm : canC (x + s1) (y + s2)
          · skip
            obtain ⟨u, hu⟩ : ∃ z, z = x + s1 := ⟨_, rfl⟩
            have ru := inC_true.1 (canC_true.1 hx).1
            have qu := inC_true.1 (canC_true.1 hs).1
            have wu : wrap64 (x + s1) = u := by rw [hu]; exact wrap_in (by omega) (by omega)
            have vu : IntKind.i64.wrap (x + s1) = u := (wrap_i64 _).trans wu
            have Ru : R64 u := ⟨by omega, by omega⟩
            clear ru qu
            rw [← hu] at hm
            have Eu : Hid _ := hu
            clear hu
            obtain ⟨v, hv⟩ : ∃ z, z = y + s2 := ⟨_, rfl⟩
            have rv := inC_true.1 (canC_true.1 hx).2
            have qv := inC_true.1 (canC_true.1 hs).2
            have wv : wrap64 (y + s2) = v := by rw [hv]; exact wrap_in (by omega) (by omega)
            have vv : IntKind.i64.wrap (y + s2) = v := (wrap_i64 _).trans wv
            have Rv : R64 v := ⟨by omega, by omega⟩
            clear rv qv
            rw [← hv] at hm
            have Ev : Hid _ := hv
            clear hv
            have RU : Hid (R2 (u, v)) := ⟨Ru, Rv⟩
            clear Ru Rv
            have HM : Hid _ := hm.symm
            clear hm
            have ⟨x_e_0, x_e_1, x_e_2, x_e_3⟩ := x_e
            have ⟨x_s_0, x_s_1, x_s_2, x_s_3⟩ := x_s
            have HX : Hid _ := hx
            go_wp2_with (go_at_call 13; fail)
            refine (rlCan x y wr (r2x RX.out) (r2y RX.out) hx.symm).mono ?_
            rintro e w1 ⟨rfl, bw1⟩
            clear x_e_0 x_e_1 x_e_2 x_e_3 x_s_0 x_s_1 x_s_2 x_s_3
            have zbw1 := bw1.size
            replace x_t := x_t.on bw1
            replace x_d := x_d.on bw1
            replace x_s := x_s.on bw1
            replace x_e := x_e.on bw1
            replace BB := also BB bw1
            have ⟨x_e_0, x_e_1, x_e_2, x_e_3⟩ := x_e
            have ⟨x_s_0, x_s_1, x_s_2, x_s_3⟩ := x_s
            go_wp2_with (go_at_call 13; fail)
            refine (rlCan s1 s2 w1 (r2x Rs.out) (r2y Rs.out) hs.symm).mono ?_
            rintro e w2 ⟨rfl, bw2⟩
            clear x_e_0 x_e_1 x_e_2 x_e_3 x_s_0 x_s_1 x_s_2 x_s_3
            have zbw2 := bw2.size
            replace x_t := x_t.on bw2
            replace x_d := x_d.on bw2
            replace x_s := x_s.on bw2
            replace x_e := x_e.on bw2
            replace BB := also BB bw2
            have ⟨x_e_0, x_e_1, x_e_2, x_e_3⟩ := x_e
            have ⟨x_s_0, x_s_1, x_s_2, x_s_3⟩ := x_s
            replace hrow := (hrow.below bw1 zl).below bw2 (Nat.lt_of_lt_of_le zl zbw1)
            clear x_e_0 x_e_1 x_e_2 x_e_3 x_s_0 x_s_1 x_s_2 x_s_3
            have y_t := x_t
            have y_d := x_d
            have y_s := x_s
            have y_e := x_e
            have B2 := BB
            go_wp2
            have dd1 : Below w2.heap.size w2 w2.drew := (Below.refl _ _).drew
            have zdd1 := dd1.size
            replace x_t := x_t.on dd1
            replace x_d := x_d.on dd1
            replace x_s := x_s.on dd1
            replace x_e := x_e.on dd1
            replace BB := also BB dd1
            refine regionL 17 (S := (fun w' => w'.cell? ⟨w.heap.size + 1 + 1 + 1, k * 2, none⟩ = some (.int .i64 x) ∧ w'.cell? ⟨w.heap.size + 1 + 1 + 1, k * 2 + 1, none⟩ = some (.int .i64 y) ∧ w'.cell? ⟨w.heap.size + 1 + 1, 0, none⟩ = some (.int .i64 s1) ∧ w'.cell? ⟨w.heap.size + 1 + 1, 1, none⟩ = some (.int .i64 s2) ∧ Below w.heap.size w w')) (by kernel_rfl) ?_ (fun hHeld => ?_)
            · exact ⟨x_e.c0, x_e.c1, x_s.c0, x_s.c1, BB⟩
            refine takeL_yes (i := 0) (v := ?vs20) rfl (by kernel_rfl) (by kernel_rfl) (by kernel_rfl) (by kernel_rfl) (by decide) (fun _ _ _ h => h) (by rfl) (by assumption) ?hys20 ?rests20
            case hys20 => (intro w hSw; (try dsimp only at hSw); first | (go_simp; done) | (go_simp; with_reducible rfl))
            simp only [Act.put, List.setIfInBounds_toArray, List.set_cons_zero, List.set_cons_succ]
            refine takeL_yes (i := 1) (v := ?vs21) rfl (by kernel_rfl) (by kernel_rfl) (by kernel_rfl) (by kernel_rfl) (by decide) (fun _ _ _ h => h) (by rfl) (by assumption) ?hys21 ?rests21
            case hys21 => (intro w hSw; (try dsimp only at hSw); first | (go_simp; done) | (go_simp; with_reducible rfl))
            simp only [Act.put, List.setIfInBounds_toArray, List.set_cons_zero, List.set_cons_succ]
            refine takeL_yes (i := 2) (v := ?vs22) rfl (by kernel_rfl) (by kernel_rfl) (by kernel_rfl) (by kernel_rfl) (by decide) (fun _ _ _ h => h) (by rfl) (by assumption) ?hys22 ?rests22
            case hys22 => (intro w hSw; (try dsimp only at hSw); first | (go_simp; done) | (go_simp; with_reducible rfl))
            simp only [Act.put, List.setIfInBounds_toArray, List.set_cons_zero, List.set_cons_succ]
            refine takeL_yes (i := 3) (v := ?vs23) rfl (by kernel_rfl) (by kernel_rfl) (by kernel_rfl) (by kernel_rfl) (by decide) (fun _ _ _ h => h) (by rfl) (by assumption) ?hys23 ?rests23
            case hys23 => (intro w hSw; (try dsimp only at hSw); first | (go_simp; done) | (go_simp; with_reducible rfl))
            simp only [Act.put, List.setIfInBounds_toArray, List.set_cons_zero, List.set_cons_succ]
            refine takeL_yes (i := 4) (v := ?vs24) rfl (by kernel_rfl) (by kernel_rfl) (by kernel_rfl) (by kernel_rfl) (by decide) (fun _ _ _ h => h) (by rfl) (by assumption) ?hys24 ?rests24
            case hys24 => (intro w hSw; (try dsimp only at hSw); first | (go_simp; done) | (go_simp; with_reducible rfl))
            simp only [Act.put, List.setIfInBounds_toArray, List.set_cons_zero, List.set_cons_succ]
            refine takeL_yes (i := 5) (v := ?vs25) rfl (by kernel_rfl) (by kernel_rfl) (by kernel_rfl) (by kernel_rfl) (by decide) (fun _ _ _ h => h) (by rfl) (by assumption) ?hys25 ?rests25
            case hys25 => (intro w hSw; (try dsimp only at hSw); first | (go_simp; done) | (go_simp; with_reducible rfl))
            simp only [Act.put, List.setIfInBounds_toArray, List.set_cons_zero, List.set_cons_succ]
            refine takeL_yes (i := 6) (v := ?vs26) rfl (by kernel_rfl) (by kernel_rfl) (by kernel_rfl) (by kernel_rfl) (by decide) (fun _ _ _ h => h) (by rfl) (by assumption) ?hys26 ?rests26
            case hys26 => (intro w hSw; (try dsimp only at hSw); first | (go_simp; done) | (go_simp; with_reducible rfl))
            simp only [Act.put, List.setIfInBounds_toArray, List.set_cons_zero, List.set_cons_succ]
            refine takeL_yes (i := 7) (v := ?vs27) rfl (by kernel_rfl) (by kernel_rfl) (by kernel_rfl) (by kernel_rfl) (by decide) (fun _ _ _ h => h) (by rfl) (by assumption) ?hys27 ?rests27
            case hys27 => (intro w hSw; (try dsimp only at hSw); first | (go_simp; done) | (go_simp; with_reducible rfl))
            simp only [Act.put, List.setIfInBounds_toArray, List.set_cons_zero, List.set_cons_succ]
            refine takeL_yes (i := 8) (v := ?vs28) rfl (by kernel_rfl) (by kernel_rfl) (by kernel_rfl) (by kernel_rfl) (by decide) (fun _ _ _ h => h) (by rfl) (by assumption) ?hys28 ?rests28
            case hys28 => (intro w hSw; (try dsimp only at hSw); first | (go_simp; done) | (go_simp; with_reducible rfl))
            simp only [Act.put, List.setIfInBounds_toArray, List.set_cons_zero, List.set_cons_succ]
            refine takeL_yes (i := 9) (v := ?vs29) rfl (by kernel_rfl) (by kernel_rfl) (by kernel_rfl) (by kernel_rfl) (by decide) (fun _ _ _ h => h) (by rfl) (by assumption) ?hys29 ?rests29
            case hys29 => (intro w hSw; (try dsimp only at hSw); first | (go_simp; done) | (go_simp; with_reducible rfl))
            simp only [Act.put, List.setIfInBounds_toArray, List.set_cons_zero, List.set_cons_succ]
            refine takeL_yes (i := 10) (v := ?vs210) rfl (by kernel_rfl) (by kernel_rfl) (by kernel_rfl) (by kernel_rfl) (by decide) (fun _ _ _ h => h) (by rfl) (by assumption) ?hys210 ?rests210
            case hys210 => (intro w hSw; (try dsimp only at hSw); first | (go_simp; done) | (go_simp; with_reducible rfl))
            simp only [Act.put, List.setIfInBounds_toArray, List.set_cons_zero, List.set_cons_succ]
            refine takeL_yes (i := 11) (v := ?vs211) rfl (by kernel_rfl) (by kernel_rfl) (by kernel_rfl) (by kernel_rfl) (by decide) (fun _ _ _ h => h) (by rfl) (by assumption) ?hys211 ?rests211
            case hys211 => (intro w hSw; (try dsimp only at hSw); first | (go_simp; done) | (go_simp; with_reducible rfl))
            simp only [Act.put, List.setIfInBounds_toArray, List.set_cons_zero, List.set_cons_succ]
            refine takeL_yes (i := 12) (v := ?vs212) rfl (by kernel_rfl) (by kernel_rfl) (by kernel_rfl) (by kernel_rfl) (by decide) (fun _ _ _ h => h) (by rfl) (by assumption) ?hys212 ?rests212
            case hys212 => (intro w hSw; (try dsimp only at hSw); first | (go_simp; done) | (go_simp; with_reducible rfl))
            simp only [Act.put, List.setIfInBounds_toArray, List.set_cons_zero, List.set_cons_succ]
            refine takeL_yes (i := 13) (v := ?vs213) rfl (by kernel_rfl) (by kernel_rfl) (by kernel_rfl) (by kernel_rfl) (by decide) (fun _ _ _ h => h) (by rfl) (by assumption) ?hys213 ?rests213
            case hys213 => (intro w hSw; (try dsimp only at hSw); first | (go_simp; done) | (go_simp; with_reducible rfl))
            simp only [Act.put, List.setIfInBounds_toArray, List.set_cons_zero, List.set_cons_succ]
            refine takeL_yes (i := 14) (v := ?vs214) rfl (by kernel_rfl) (by kernel_rfl) (by kernel_rfl) (by kernel_rfl) (by decide) (fun _ _ _ h => h) (by rfl) (by assumption) ?hys214 ?rests214
            case hys214 => (intro w hSw; (try dsimp only at hSw); first | (go_simp; done) | (go_simp; with_reducible rfl))
            simp only [Act.put, List.setIfInBounds_toArray, List.set_cons_zero, List.set_cons_succ]
            refine takeL_yes (i := 15) (v := ?vs215) rfl (by kernel_rfl) (by kernel_rfl) (by kernel_rfl) (by kernel_rfl) (by decide) (fun _ _ _ h => h) (by rfl) (by assumption) ?hys215 ?rests215
            case hys215 => (intro w hSw; (try dsimp only at hSw); first | (go_simp; done) | (go_simp; with_reducible rfl))
            simp only [Act.put, List.setIfInBounds_toArray, List.set_cons_zero, List.set_cons_succ]
            refine takeL_yes (i := 16) (v := ?vs216) rfl (by kernel_rfl) (by kernel_rfl) (by kernel_rfl) (by kernel_rfl) (by decide) (fun _ _ _ h => h) (by rfl) (by assumption) ?hys216 ?rests216
            case hys216 => (intro w hSw; (try dsimp only at hSw); first | (go_simp; done) | (go_simp; with_reducible rfl))
            simp only [Act.put, List.setIfInBounds_toArray, List.set_cons_zero, List.set_cons_succ]
            have x_e_0 : w2.cell? ⟨w.heap.size + 1 + 1 + 1, k * 2, none⟩ = some (.int .i64 x) := x_e.c0
            have x_e_1 : w2.cell? ⟨w.heap.size + 1 + 1 + 1, k * 2 + 1, none⟩ = some (.int .i64 y) := x_e.c1
            have x_e_2 : w2.frozen? ⟨w.heap.size + 1 + 1 + 1, k * 2, none⟩ = false := x_e.f0
            have x_e_3 : w2.frozen? ⟨w.heap.size + 1 + 1 + 1, k * 2 + 1, none⟩ = false := x_e.f1
            refine takeL_last rfl (by kernel_rfl) (fun Kc hK => ?_)
            go_simp
            refine hK.out _ _ ?_
            clear hK Kc
            refine anyL_done (by kernel_rfl) ?_ _
            obtain ⟨Z, hZ⟩ : ∃ Z, Z = ((w2.setCell ⟨w.heap.size + 1 + 1 + 1, k * 2, none⟩ (.int .i64 u)).setCell ⟨w.heap.size + 1 + 1 + 1, k * 2 + 1, none⟩ (.int .i64 v)).drew := ⟨_, rfl⟩
            have hrowZ : Row Z (w.heap.size + 1 + 1 + 1) (pcells (mixL (s1, s2) (k + 1) LL)) := by
              have h := (hrow.set (k * 2) (.int .i64 u) (by rw [HLN.out]; omega)).set (k * 2 + 1) (.int .i64 v) (by rw [List.length_set, HLN.out]; omega)
              rw [hZ, ← mix_set HXY.out, ← pcells_set]
              rw [show (mvQ (s1, s2) (x, y)).1 = u from Eu.out.symm, show (mvQ (s1, s2) (x, y)).2 = v from Ev.out.symm]
              exact h.drew
            replace x_t : B6 Z (w.heap.size) (.int .i64 a1) (.int .i64 a2) (.int .i64 b1) (.int .i64 b2) (.int .i64 c1) (.int .i64 c2) := by rw [hZ]; exact ((y_t.put (by omega)).put (by omega)).drew
            replace x_d : Bx Z (w.heap.size + 1) (.int .i64 d1) (.int .i64 d2) := by rw [hZ]; exact ((y_d.put (by omega)).put (by omega)).drew
            replace x_s : Bx Z (w.heap.size + 1 + 1) (.int .i64 s1) (.int .i64 s2) := by rw [hZ]; exact ((y_s.put (by omega)).put (by omega)).drew
            have zZ : w.heap.size + 1 + 1 + 1 < Z.heap.size := by rw [hZ]; show _ < (World.setCell _ _ _).heap.size; simp only [World.size_setCell]; exact cell_lt y_e.c0
            replace BB : Below w.heap.size w Z := by rw [hZ]; exact ((B2.setCell (by show w.heap.size ≤ w.heap.size + 1 + 1 + 1; omega) _).setCell (by show w.heap.size ≤ w.heap.size + 1 + 1 + 1; omega) _).drew
            clear y_t y_d y_s y_e B2
            have hme := mix_at (s := (s1, s2)) HXY.out
            have x_z : Pc Z (w.heap.size + 1 + 1 + 1) (k * 2) (.int .i64 u) (.int .i64 v) := by
              have hq : (mixL (s1, s2) (k + 1) LL)[k]? = some (u, v) := by
                rw [← mix_set HXY.out, List.getElem?_set_self (by rw [mix_length, HN.out]; exact hlt)]
                rw [show mvQ (s1, s2) (x, y) = (u, v) from Prod.ext Eu.out.symm Ev.out.symm]
              obtain ⟨d1', d2'⟩ := pcells_at _ k u v hq
              have hl : (pcells (mixL (s1, s2) (k + 1) LL)).length = 8 := by rw [pcells_length, mix_length, HN.out]
              exact ⟨hrowZ.cell _ _ d1', hrowZ.cell _ _ d2', hrowZ.free (k * 2) (by omega), hrowZ.free (k * 2 + 1) (by omega)⟩
            rw [← hZ]
            clear hZ hrow x_e hme
            have ⟨x_z_0, x_z_1, x_z_2, x_z_3⟩ := x_z
            go_wp2_with (go_at_call 13; fail)
            refine (rlCan u v Z (r2x RU.out) (r2y RU.out) HM.out).mono ?_
            rintro e w4 ⟨rfl, bw4⟩
            clear x_z_0 x_z_1 x_z_2 x_z_3
            have zbw4 := bw4.size
            replace x_t := x_t.on bw4
            replace x_d := x_d.on bw4
            replace x_s := x_s.on bw4
            replace BB := also BB bw4
            replace x_z := x_z.on bw4
            go_wp2_with (go_at_call 10; fail)
            refine (lives8_any w4).mono ?_
            rintro e w5 ⟨rfl, bw5⟩
            have zbw5 := bw5.size
            replace x_t := x_t.on bw5
            replace x_d := x_d.on bw5
            replace x_s := x_s.on bw5
            replace BB := also BB bw5
            replace x_z := x_z.on bw5
            go_wp2
            go_ret
            exact ⟨rfl, BB⟩
          · skip
            obtain ⟨u, hu⟩ : ∃ z, z = x + s1 := ⟨_, rfl⟩
            have ru := inC_true.1 (canC_true.1 hx).1
            have qu := inC_true.1 (canC_true.1 hs).1
            have wu : wrap64 (x + s1) = u := by rw [hu]; exact wrap_in (by omega) (by omega)
            have vu : IntKind.i64.wrap (x + s1) = u := (wrap_i64 _).trans wu
            have Ru : R64 u := ⟨by omega, by omega⟩
            clear ru qu
            rw [← hu] at hm
            have Eu : Hid _ := hu
            clear hu
            obtain ⟨v, hv⟩ : ∃ z, z = y + s2 := ⟨_, rfl⟩
            have rv := inC_true.1 (canC_true.1 hx).2
            have qv := inC_true.1 (canC_true.1 hs).2
            have wv : wrap64 (y + s2) = v := by rw [hv]; exact wrap_in (by omega) (by omega)
            have vv : IntKind.i64.wrap (y + s2) = v := (wrap_i64 _).trans wv
            have Rv : R64 v := ⟨by omega, by omega⟩
            clear rv qv
            rw [← hv] at hm
            have Ev : Hid _ := hv
            clear hv
            have RU : Hid (R2 (u, v)) := ⟨Ru, Rv⟩
            clear Ru Rv
            have HM : Hid _ := hm.symm
            clear hm
            have ⟨x_e_0, x_e_1, x_e_2, x_e_3⟩ := x_e
            have ⟨x_s_0, x_s_1, x_s_2, x_s_3⟩ := x_s
            have HX : Hid _ := hx
            go_wp2_with (go_at_call 13; fail)
            refine (rlCan x y wr (r2x RX.out) (r2y RX.out) hx.symm).mono ?_
            rintro e w1 ⟨rfl, bw1⟩
            clear x_e_0 x_e_1 x_e_2 x_e_3 x_s_0 x_s_1 x_s_2 x_s_3
            have zbw1 := bw1.size
            replace x_t := x_t.on bw1
            replace x_d := x_d.on bw1
            replace x_s := x_s.on bw1
            replace x_e := x_e.on bw1
            replace BB := also BB bw1
            have ⟨x_e_0, x_e_1, x_e_2, x_e_3⟩ := x_e
            have ⟨x_s_0, x_s_1, x_s_2, x_s_3⟩ := x_s
            go_wp2_with (go_at_call 13; fail)
            refine (rlCan s1 s2 w1 (r2x Rs.out) (r2y Rs.out) hs.symm).mono ?_
            rintro e w2 ⟨rfl, bw2⟩
            clear x_e_0 x_e_1 x_e_2 x_e_3 x_s_0 x_s_1 x_s_2 x_s_3
            have zbw2 := bw2.size
            replace x_t := x_t.on bw2
            replace x_d := x_d.on bw2
            replace x_s := x_s.on bw2
            replace x_e := x_e.on bw2
            replace BB := also BB bw2
            have ⟨x_e_0, x_e_1, x_e_2, x_e_3⟩ := x_e
            have ⟨x_s_0, x_s_1, x_s_2, x_s_3⟩ := x_s
            replace hrow := (hrow.below bw1 zl).below bw2 (Nat.lt_of_lt_of_le zl zbw1)
            clear x_e_0 x_e_1 x_e_2 x_e_3 x_s_0 x_s_1 x_s_2 x_s_3
            have y_t := x_t
            have y_d := x_d
            have y_s := x_s
            have y_e := x_e
            have B2 := BB
            go_wp2
            have dd1 : Below w2.heap.size w2 w2.drew := (Below.refl _ _).drew
            have zdd1 := dd1.size
            replace x_t := x_t.on dd1
            replace x_d := x_d.on dd1
            replace x_s := x_s.on dd1
            replace x_e := x_e.on dd1
            replace BB := also BB dd1
            refine regionL 17 (S := (fun w' => w'.cell? ⟨w.heap.size + 1 + 1 + 1, k * 2, none⟩ = some (.int .i64 x) ∧ w'.cell? ⟨w.heap.size + 1 + 1 + 1, k * 2 + 1, none⟩ = some (.int .i64 y) ∧ w'.cell? ⟨w.heap.size + 1 + 1, 0, none⟩ = some (.int .i64 s1) ∧ w'.cell? ⟨w.heap.size + 1 + 1, 1, none⟩ = some (.int .i64 s2) ∧ Below w.heap.size w w')) (by kernel_rfl) ?_ (fun hHeld => ?_)
            · exact ⟨x_e.c0, x_e.c1, x_s.c0, x_s.c1, BB⟩
            refine takeL_yes (i := 0) (v := ?vs30) rfl (by kernel_rfl) (by kernel_rfl) (by kernel_rfl) (by kernel_rfl) (by decide) (fun _ _ _ h => h) (by rfl) (by assumption) ?hys30 ?rests30
            case hys30 => (intro w hSw; (try dsimp only at hSw); first | (go_simp; done) | (go_simp; with_reducible rfl))
            simp only [Act.put, List.setIfInBounds_toArray, List.set_cons_zero, List.set_cons_succ]
            refine takeL_yes (i := 1) (v := ?vs31) rfl (by kernel_rfl) (by kernel_rfl) (by kernel_rfl) (by kernel_rfl) (by decide) (fun _ _ _ h => h) (by rfl) (by assumption) ?hys31 ?rests31
            case hys31 => (intro w hSw; (try dsimp only at hSw); first | (go_simp; done) | (go_simp; with_reducible rfl))
            simp only [Act.put, List.setIfInBounds_toArray, List.set_cons_zero, List.set_cons_succ]
            refine takeL_yes (i := 2) (v := ?vs32) rfl (by kernel_rfl) (by kernel_rfl) (by kernel_rfl) (by kernel_rfl) (by decide) (fun _ _ _ h => h) (by rfl) (by assumption) ?hys32 ?rests32
            case hys32 => (intro w hSw; (try dsimp only at hSw); first | (go_simp; done) | (go_simp; with_reducible rfl))
            simp only [Act.put, List.setIfInBounds_toArray, List.set_cons_zero, List.set_cons_succ]
            refine takeL_yes (i := 3) (v := ?vs33) rfl (by kernel_rfl) (by kernel_rfl) (by kernel_rfl) (by kernel_rfl) (by decide) (fun _ _ _ h => h) (by rfl) (by assumption) ?hys33 ?rests33
            case hys33 => (intro w hSw; (try dsimp only at hSw); first | (go_simp; done) | (go_simp; with_reducible rfl))
            simp only [Act.put, List.setIfInBounds_toArray, List.set_cons_zero, List.set_cons_succ]
            refine takeL_yes (i := 4) (v := ?vs34) rfl (by kernel_rfl) (by kernel_rfl) (by kernel_rfl) (by kernel_rfl) (by decide) (fun _ _ _ h => h) (by rfl) (by assumption) ?hys34 ?rests34
            case hys34 => (intro w hSw; (try dsimp only at hSw); first | (go_simp; done) | (go_simp; with_reducible rfl))
            simp only [Act.put, List.setIfInBounds_toArray, List.set_cons_zero, List.set_cons_succ]
            refine takeL_yes (i := 5) (v := ?vs35) rfl (by kernel_rfl) (by kernel_rfl) (by kernel_rfl) (by kernel_rfl) (by decide) (fun _ _ _ h => h) (by rfl) (by assumption) ?hys35 ?rests35
            case hys35 => (intro w hSw; (try dsimp only at hSw); first | (go_simp; done) | (go_simp; with_reducible rfl))
            simp only [Act.put, List.setIfInBounds_toArray, List.set_cons_zero, List.set_cons_succ]
            refine takeL_yes (i := 6) (v := ?vs36) rfl (by kernel_rfl) (by kernel_rfl) (by kernel_rfl) (by kernel_rfl) (by decide) (fun _ _ _ h => h) (by rfl) (by assumption) ?hys36 ?rests36
            case hys36 => (intro w hSw; (try dsimp only at hSw); first | (go_simp; done) | (go_simp; with_reducible rfl))
            simp only [Act.put, List.setIfInBounds_toArray, List.set_cons_zero, List.set_cons_succ]
            refine takeL_yes (i := 7) (v := ?vs37) rfl (by kernel_rfl) (by kernel_rfl) (by kernel_rfl) (by kernel_rfl) (by decide) (fun _ _ _ h => h) (by rfl) (by assumption) ?hys37 ?rests37
            case hys37 => (intro w hSw; (try dsimp only at hSw); first | (go_simp; done) | (go_simp; with_reducible rfl))
            simp only [Act.put, List.setIfInBounds_toArray, List.set_cons_zero, List.set_cons_succ]
            refine takeL_yes (i := 8) (v := ?vs38) rfl (by kernel_rfl) (by kernel_rfl) (by kernel_rfl) (by kernel_rfl) (by decide) (fun _ _ _ h => h) (by rfl) (by assumption) ?hys38 ?rests38
            case hys38 => (intro w hSw; (try dsimp only at hSw); first | (go_simp; done) | (go_simp; with_reducible rfl))
            simp only [Act.put, List.setIfInBounds_toArray, List.set_cons_zero, List.set_cons_succ]
            refine takeL_yes (i := 9) (v := ?vs39) rfl (by kernel_rfl) (by kernel_rfl) (by kernel_rfl) (by kernel_rfl) (by decide) (fun _ _ _ h => h) (by rfl) (by assumption) ?hys39 ?rests39
            case hys39 => (intro w hSw; (try dsimp only at hSw); first | (go_simp; done) | (go_simp; with_reducible rfl))
            simp only [Act.put, List.setIfInBounds_toArray, List.set_cons_zero, List.set_cons_succ]
            refine takeL_yes (i := 10) (v := ?vs310) rfl (by kernel_rfl) (by kernel_rfl) (by kernel_rfl) (by kernel_rfl) (by decide) (fun _ _ _ h => h) (by rfl) (by assumption) ?hys310 ?rests310
            case hys310 => (intro w hSw; (try dsimp only at hSw); first | (go_simp; done) | (go_simp; with_reducible rfl))
            simp only [Act.put, List.setIfInBounds_toArray, List.set_cons_zero, List.set_cons_succ]
            refine takeL_yes (i := 11) (v := ?vs311) rfl (by kernel_rfl) (by kernel_rfl) (by kernel_rfl) (by kernel_rfl) (by decide) (fun _ _ _ h => h) (by rfl) (by assumption) ?hys311 ?rests311
            case hys311 => (intro w hSw; (try dsimp only at hSw); first | (go_simp; done) | (go_simp; with_reducible rfl))
            simp only [Act.put, List.setIfInBounds_toArray, List.set_cons_zero, List.set_cons_succ]
            refine takeL_yes (i := 12) (v := ?vs312) rfl (by kernel_rfl) (by kernel_rfl) (by kernel_rfl) (by kernel_rfl) (by decide) (fun _ _ _ h => h) (by rfl) (by assumption) ?hys312 ?rests312
            case hys312 => (intro w hSw; (try dsimp only at hSw); first | (go_simp; done) | (go_simp; with_reducible rfl))
            simp only [Act.put, List.setIfInBounds_toArray, List.set_cons_zero, List.set_cons_succ]
            refine takeL_yes (i := 13) (v := ?vs313) rfl (by kernel_rfl) (by kernel_rfl) (by kernel_rfl) (by kernel_rfl) (by decide) (fun _ _ _ h => h) (by rfl) (by assumption) ?hys313 ?rests313
            case hys313 => (intro w hSw; (try dsimp only at hSw); first | (go_simp; done) | (go_simp; with_reducible rfl))
            simp only [Act.put, List.setIfInBounds_toArray, List.set_cons_zero, List.set_cons_succ]
            refine takeL_yes (i := 14) (v := ?vs314) rfl (by kernel_rfl) (by kernel_rfl) (by kernel_rfl) (by kernel_rfl) (by decide) (fun _ _ _ h => h) (by rfl) (by assumption) ?hys314 ?rests314
            case hys314 => (intro w hSw; (try dsimp only at hSw); first | (go_simp; done) | (go_simp; with_reducible rfl))
            simp only [Act.put, List.setIfInBounds_toArray, List.set_cons_zero, List.set_cons_succ]
            refine takeL_yes (i := 15) (v := ?vs315) rfl (by kernel_rfl) (by kernel_rfl) (by kernel_rfl) (by kernel_rfl) (by decide) (fun _ _ _ h => h) (by rfl) (by assumption) ?hys315 ?rests315
            case hys315 => (intro w hSw; (try dsimp only at hSw); first | (go_simp; done) | (go_simp; with_reducible rfl))
            simp only [Act.put, List.setIfInBounds_toArray, List.set_cons_zero, List.set_cons_succ]
            refine takeL_yes (i := 16) (v := ?vs316) rfl (by kernel_rfl) (by kernel_rfl) (by kernel_rfl) (by kernel_rfl) (by decide) (fun _ _ _ h => h) (by rfl) (by assumption) ?hys316 ?rests316
            case hys316 => (intro w hSw; (try dsimp only at hSw); first | (go_simp; done) | (go_simp; with_reducible rfl))
            simp only [Act.put, List.setIfInBounds_toArray, List.set_cons_zero, List.set_cons_succ]
            have x_e_0 : w2.cell? ⟨w.heap.size + 1 + 1 + 1, k * 2, none⟩ = some (.int .i64 x) := x_e.c0
            have x_e_1 : w2.cell? ⟨w.heap.size + 1 + 1 + 1, k * 2 + 1, none⟩ = some (.int .i64 y) := x_e.c1
            have x_e_2 : w2.frozen? ⟨w.heap.size + 1 + 1 + 1, k * 2, none⟩ = false := x_e.f0
            have x_e_3 : w2.frozen? ⟨w.heap.size + 1 + 1 + 1, k * 2 + 1, none⟩ = false := x_e.f1
            refine takeL_last rfl (by kernel_rfl) (fun Kc hK => ?_)
            go_simp
            refine hK.out _ _ ?_
            clear hK Kc
            refine anyL_done (by kernel_rfl) ?_ _
            obtain ⟨Z, hZ⟩ : ∃ Z, Z = ((w2.setCell ⟨w.heap.size + 1 + 1 + 1, k * 2, none⟩ (.int .i64 u)).setCell ⟨w.heap.size + 1 + 1 + 1, k * 2 + 1, none⟩ (.int .i64 v)).drew := ⟨_, rfl⟩
            have hrowZ : Row Z (w.heap.size + 1 + 1 + 1) (pcells (mixL (s1, s2) (k + 1) LL)) := by
              have h := (hrow.set (k * 2) (.int .i64 u) (by rw [HLN.out]; omega)).set (k * 2 + 1) (.int .i64 v) (by rw [List.length_set, HLN.out]; omega)
              rw [hZ, ← mix_set HXY.out, ← pcells_set]
              rw [show (mvQ (s1, s2) (x, y)).1 = u from Eu.out.symm, show (mvQ (s1, s2) (x, y)).2 = v from Ev.out.symm]
              exact h.drew
            replace x_t : B6 Z (w.heap.size) (.int .i64 a1) (.int .i64 a2) (.int .i64 b1) (.int .i64 b2) (.int .i64 c1) (.int .i64 c2) := by rw [hZ]; exact ((y_t.put (by omega)).put (by omega)).drew
            replace x_d : Bx Z (w.heap.size + 1) (.int .i64 d1) (.int .i64 d2) := by rw [hZ]; exact ((y_d.put (by omega)).put (by omega)).drew
            replace x_s : Bx Z (w.heap.size + 1 + 1) (.int .i64 s1) (.int .i64 s2) := by rw [hZ]; exact ((y_s.put (by omega)).put (by omega)).drew
            have zZ : w.heap.size + 1 + 1 + 1 < Z.heap.size := by rw [hZ]; show _ < (World.setCell _ _ _).heap.size; simp only [World.size_setCell]; exact cell_lt y_e.c0
            replace BB : Below w.heap.size w Z := by rw [hZ]; exact ((B2.setCell (by show w.heap.size ≤ w.heap.size + 1 + 1 + 1; omega) _).setCell (by show w.heap.size ≤ w.heap.size + 1 + 1 + 1; omega) _).drew
            clear y_t y_d y_s y_e B2
            have hme := mix_at (s := (s1, s2)) HXY.out
            have x_z : Pc Z (w.heap.size + 1 + 1 + 1) (k * 2) (.int .i64 u) (.int .i64 v) := by
              have hq : (mixL (s1, s2) (k + 1) LL)[k]? = some (u, v) := by
                rw [← mix_set HXY.out, List.getElem?_set_self (by rw [mix_length, HN.out]; exact hlt)]
                rw [show mvQ (s1, s2) (x, y) = (u, v) from Prod.ext Eu.out.symm Ev.out.symm]
              obtain ⟨d1', d2'⟩ := pcells_at _ k u v hq
              have hl : (pcells (mixL (s1, s2) (k + 1) LL)).length = 8 := by rw [pcells_length, mix_length, HN.out]
              exact ⟨hrowZ.cell _ _ d1', hrowZ.cell _ _ d2', hrowZ.free (k * 2) (by omega), hrowZ.free (k * 2 + 1) (by omega)⟩
            rw [← hZ]
            clear hZ hrow x_e hme
            have ⟨x_z_0, x_z_1, x_z_2, x_z_3⟩ := x_z
            go_wp2_with (go_at_call 13; fail)
            refine (rlCan u v Z (r2x RU.out) (r2y RU.out) HM.out).mono ?_
            rintro e w4 ⟨rfl, bw4⟩
            clear x_z_0 x_z_1 x_z_2 x_z_3
            have zbw4 := bw4.size
            replace x_t := x_t.on bw4
            replace x_d := x_d.on bw4
            replace x_s := x_s.on bw4
            replace BB := also BB bw4
            replace x_z := x_z.on bw4
            have hrow4 := hrowZ.below bw4 zZ
            have HAL : Hid (AllMv (s1, s2) LL (k + 1)) := allMv_next hall.out HXY.out HX.out (by rw [show (mvQ (s1, s2) (x, y)).1 = u from Eu.out.symm, show (mvQ (s1, s2) (x, y)).2 = v from Ev.out.symm]; exact HM.out.symm)
            clear hrowZ
            go_wp2
            go_roundw
            case rel => exact ⟨k + 1, hlt, val_next k, HAL, hrow4, x_t, x_d, x_s, BB⟩
            case measure => exact meas4 hlt
    · obtain rfl : k = 4 := by omega
      have hL := HLL.out
      subst hL
      have x_l : B8 wr (w.heap.size + 1 + 1 + 1) (.int .i64 (a1 + s1)) (.int .i64 (a2 + s2)) (.int .i64 (b1 + s1)) (.int .i64 (b2 + s2)) (.int .i64 (c1 + s1)) (.int .i64 (c2 + s2)) (.int .i64 (d1 + s1)) (.int .i64 (d2 + s2)) := b8_row hrow
      clear hrow
      have ma := hall.out 0 (a1, a2) (by decide) rfl
      have mb := hall.out 1 (b1, b2) (by decide) rfl
      have mc := hall.out 2 (c1, c2) (by decide) rfl
      have md := hall.out 3 (d1, d2) (by decide) rfl
      obtain ⟨n, hn⟩ : ∃ n, n = cfQ (a1, a2) (b1, b2) (c1, c2) (d1, d2) := ⟨_, rfl⟩
      have HM : Hid (n = cfQ (a1 + s1, a2 + s2) (b1 + s1, b2 + s2) (c1 + s1, c2 + s2) (d1 + s1, d2 + s2)) := by unfold Hid; rw [hn]; exact (cf_mv (s := (s1, s2)) ma.1 mb.1 mc.1 md.1 ma.2 mb.2 mc.2 md.2).symm
      have HN' : Hid _ := hn
      clear hn ma mb mc md
      have zs := bx_lt x_s
      go_wp2
      have dd1 : Below wr.heap.size wr wr.drew := (Below.refl _ _).drew
      have zdd1 := dd1.size
      replace x_t := x_t.on dd1
      replace x_d := x_d.on dd1
      replace x_s := x_s.on dd1
      replace x_l := x_l.on dd1
      replace BB := also BB dd1
      refine wp_region_held_drew (S := (fun w' => w'.cell? ⟨w.heap.size + 1 + 1 + 1, 0, none⟩ = some (.int .i64 (a1 + s1)) ∧ w'.cell? ⟨w.heap.size + 1 + 1 + 1, 1, none⟩ = some (.int .i64 (a2 + s2)) ∧ w'.cell? ⟨w.heap.size + 1 + 1 + 1, 2, none⟩ = some (.int .i64 (b1 + s1)) ∧ w'.cell? ⟨w.heap.size + 1 + 1 + 1, 3, none⟩ = some (.int .i64 (b2 + s2)) ∧ w'.cell? ⟨w.heap.size + 1 + 1 + 1, 4, none⟩ = some (.int .i64 (c1 + s1)) ∧ w'.cell? ⟨w.heap.size + 1 + 1 + 1, 5, none⟩ = some (.int .i64 (c2 + s2)) ∧ w'.cell? ⟨w.heap.size + 1 + 1 + 1, 6, none⟩ = some (.int .i64 (d1 + s1)) ∧ w'.cell? ⟨w.heap.size + 1 + 1 + 1, 7, none⟩ = some (.int .i64 (d2 + s2)) ∧ w'.cell? ⟨w.heap.size, 0, none⟩ = some (.int .i64 a1) ∧ w'.cell? ⟨w.heap.size, 1, none⟩ = some (.int .i64 a2) ∧ w'.cell? ⟨w.heap.size, 2, none⟩ = some (.int .i64 b1) ∧ w'.cell? ⟨w.heap.size, 3, none⟩ = some (.int .i64 b2) ∧ w'.cell? ⟨w.heap.size, 4, none⟩ = some (.int .i64 c1) ∧ w'.cell? ⟨w.heap.size, 5, none⟩ = some (.int .i64 c2) ∧ w'.cell? ⟨w.heap.size + 1, 0, none⟩ = some (.int .i64 d1) ∧ w'.cell? ⟨w.heap.size + 1, 1, none⟩ = some (.int .i64 d2) ∧ Below w.heap.size w w')) (by kernel_rfl) ?_ (fun hHeld => ?_)
      · exact ⟨x_l.c0, x_l.c1, x_l.c2, x_l.c3, x_l.c4, x_l.c5, x_l.c6, x_l.c7, x_t.c0, x_t.c1, x_t.c2, x_t.c3, x_t.c4, x_t.c5, x_d.c0, x_d.c1, BB⟩
      refine take_yes (i := 0) (v := ?vz0) rfl (by kernel_rfl) (by kernel_rfl) (by kernel_rfl) (fun _ _ _ h => h) (by rfl) (by assumption) ?hyz0 ?restz0
      case hyz0 => (intro w hSw; (try dsimp only at hSw); first | (go_simp; done) | (go_simp; with_reducible rfl))
      simp only [Act.put, List.setIfInBounds_toArray, List.set_cons_zero, List.set_cons_succ]
      refine take_yes (i := 1) (v := ?vz1) rfl (by kernel_rfl) (by kernel_rfl) (by kernel_rfl) (fun _ _ _ h => h) (by rfl) (by assumption) ?hyz1 ?restz1
      case hyz1 => (intro w hSw; (try dsimp only at hSw); first | (go_simp; done) | (go_simp; with_reducible rfl))
      simp only [Act.put, List.setIfInBounds_toArray, List.set_cons_zero, List.set_cons_succ]
      refine take_yes (i := 2) (v := ?vz2) rfl (by kernel_rfl) (by kernel_rfl) (by kernel_rfl) (fun _ _ _ h => h) (by rfl) (by assumption) ?hyz2 ?restz2
      case hyz2 => (intro w hSw; (try dsimp only at hSw); first | (go_simp; done) | (go_simp; with_reducible rfl))
      simp only [Act.put, List.setIfInBounds_toArray, List.set_cons_zero, List.set_cons_succ]
      refine take_yes (i := 3) (v := ?vz3) rfl (by kernel_rfl) (by kernel_rfl) (by kernel_rfl) (fun _ _ _ h => h) (by rfl) (by assumption) ?hyz3 ?restz3
      case hyz3 => (intro w hSw; (try dsimp only at hSw); first | (go_simp; done) | (go_simp; with_reducible rfl))
      simp only [Act.put, List.setIfInBounds_toArray, List.set_cons_zero, List.set_cons_succ]
      refine take_yes (i := 4) (v := ?vz4) rfl (by kernel_rfl) (by kernel_rfl) (by kernel_rfl) (fun _ _ _ h => h) (by rfl) (by assumption) ?hyz4 ?restz4
      case hyz4 => (intro w hSw; (try dsimp only at hSw); first | (go_simp; done) | (go_simp; with_reducible rfl))
      simp only [Act.put, List.setIfInBounds_toArray, List.set_cons_zero, List.set_cons_succ]
      refine take_yes (i := 5) (v := ?vz5) rfl (by kernel_rfl) (by kernel_rfl) (by kernel_rfl) (fun _ _ _ h => h) (by rfl) (by assumption) ?hyz5 ?restz5
      case hyz5 => (intro w hSw; (try dsimp only at hSw); first | (go_simp; done) | (go_simp; with_reducible rfl))
      simp only [Act.put, List.setIfInBounds_toArray, List.set_cons_zero, List.set_cons_succ]
      refine take_yes (i := 6) (v := ?vz6) rfl (by kernel_rfl) (by kernel_rfl) (by kernel_rfl) (fun _ _ _ h => h) (by rfl) (by assumption) ?hyz6 ?restz6
      case hyz6 => (intro w hSw; (try dsimp only at hSw); first | (go_simp; done) | (go_simp; with_reducible rfl))
      simp only [Act.put, List.setIfInBounds_toArray, List.set_cons_zero, List.set_cons_succ]
      refine take_yes (i := 7) (v := ?vz7) rfl (by kernel_rfl) (by kernel_rfl) (by kernel_rfl) (fun _ _ _ h => h) (by rfl) (by assumption) ?hyz7 ?restz7
      case hyz7 => (intro w hSw; (try dsimp only at hSw); first | (go_simp; done) | (go_simp; with_reducible rfl))
      simp only [Act.put, List.setIfInBounds_toArray, List.set_cons_zero, List.set_cons_succ]
      refine take_yes (i := 9) (v := ?vz9) rfl (by kernel_rfl) (by kernel_rfl) (by kernel_rfl) (fun _ _ _ h => h) (by rfl) (by assumption) ?hyz9 ?restz9
      case hyz9 => (intro w hSw; (try dsimp only at hSw); first | (go_simp; done) | (go_simp; with_reducible rfl))
      simp only [Act.put, List.setIfInBounds_toArray, List.set_cons_zero, List.set_cons_succ]
      refine take_yes (i := 10) (v := ?vz10) rfl (by kernel_rfl) (by kernel_rfl) (by kernel_rfl) (fun _ _ _ h => h) (by rfl) (by assumption) ?hyz10 ?restz10
      case hyz10 => (intro w hSw; (try dsimp only at hSw); first | (go_simp; done) | (go_simp; with_reducible rfl))
      simp only [Act.put, List.setIfInBounds_toArray, List.set_cons_zero, List.set_cons_succ]
      refine take_yes (i := 11) (v := ?vz11) rfl (by kernel_rfl) (by kernel_rfl) (by kernel_rfl) (fun _ _ _ h => h) (by rfl) (by assumption) ?hyz11 ?restz11
      case hyz11 => (intro w hSw; (try dsimp only at hSw); first | (go_simp; done) | (go_simp; with_reducible rfl))
      simp only [Act.put, List.setIfInBounds_toArray, List.set_cons_zero, List.set_cons_succ]
      refine take_yes (i := 12) (v := ?vz12) rfl (by kernel_rfl) (by kernel_rfl) (by kernel_rfl) (fun _ _ _ h => h) (by rfl) (by assumption) ?hyz12 ?restz12
      case hyz12 => (intro w hSw; (try dsimp only at hSw); first | (go_simp; done) | (go_simp; with_reducible rfl))
      simp only [Act.put, List.setIfInBounds_toArray, List.set_cons_zero, List.set_cons_succ]
      refine take_yes (i := 13) (v := ?vz13) rfl (by kernel_rfl) (by kernel_rfl) (by kernel_rfl) (fun _ _ _ h => h) (by rfl) (by assumption) ?hyz13 ?restz13
      case hyz13 => (intro w hSw; (try dsimp only at hSw); first | (go_simp; done) | (go_simp; with_reducible rfl))
      simp only [Act.put, List.setIfInBounds_toArray, List.set_cons_zero, List.set_cons_succ]
      refine take_yes (i := 14) (v := ?vz14) rfl (by kernel_rfl) (by kernel_rfl) (by kernel_rfl) (fun _ _ _ h => h) (by rfl) (by assumption) ?hyz14 ?restz14
      case hyz14 => (intro w hSw; (try dsimp only at hSw); first | (go_simp; done) | (go_simp; with_reducible rfl))
      simp only [Act.put, List.setIfInBounds_toArray, List.set_cons_zero, List.set_cons_succ]
      refine take_yes (i := 15) (v := ?vz15) rfl (by kernel_rfl) (by kernel_rfl) (by kernel_rfl) (fun _ _ _ h => h) (by rfl) (by assumption) ?hyz15 ?restz15
      case hyz15 => (intro w hSw; (try dsimp only at hSw); first | (go_simp; done) | (go_simp; with_reducible rfl))
      simp only [Act.put, List.setIfInBounds_toArray, List.set_cons_zero, List.set_cons_succ]
      refine take_call (i := 8) rfl (by kernel_rfl) (fun Kc hK => ?_)
      go_simp
      (go_at_call 8; refine (tConflict (a1 + s1) (a2 + s2) (b1 + s1) (b2 + s2) (c1 + s1) (c2 + s2) (d1 + s1) (d2 + s2) _ HM.out).mono ?_; rintro e v1 ⟨rfl, bv1⟩)
      refine hK.out _ _ ?_ (fun hHeld => ?_)
      · exact ⟨cell_on bv1 hHeld.1, cell_on bv1 hHeld.2.1, cell_on bv1 hHeld.2.2.1, cell_on bv1 hHeld.2.2.2.1, cell_on bv1 hHeld.2.2.2.2.1, cell_on bv1 hHeld.2.2.2.2.2.1, cell_on bv1 hHeld.2.2.2.2.2.2.1, cell_on bv1 hHeld.2.2.2.2.2.2.2.1, cell_on bv1 hHeld.2.2.2.2.2.2.2.2.1, cell_on bv1 hHeld.2.2.2.2.2.2.2.2.2.1, cell_on bv1 hHeld.2.2.2.2.2.2.2.2.2.2.1, cell_on bv1 hHeld.2.2.2.2.2.2.2.2.2.2.2.1, cell_on bv1 hHeld.2.2.2.2.2.2.2.2.2.2.2.2.1, cell_on bv1 hHeld.2.2.2.2.2.2.2.2.2.2.2.2.2.1, cell_on bv1 hHeld.2.2.2.2.2.2.2.2.2.2.2.2.2.2.1, cell_on bv1 hHeld.2.2.2.2.2.2.2.2.2.2.2.2.2.2.2.1, also hHeld.2.2.2.2.2.2.2.2.2.2.2.2.2.2.2.2 bv1⟩
      clear hK Kc
      have zbv1 := bv1.size
      replace x_t := x_t.on bv1
      replace x_d := x_d.on bv1
      replace x_s := x_s.on bv1
      replace x_l := x_l.on bv1
      replace BB := also BB bv1
      refine take_call (i := 16) rfl (by kernel_rfl) (fun Kc hK => ?_)
      go_simp
      (go_at_call 8; refine (tConflict a1 a2 b1 b2 c1 c2 d1 d2 _ HN'.out).mono ?_; rintro e v2 ⟨rfl, bv2⟩)
      refine hK.out _ _ ?_ (fun hHeld => ?_)
      · exact ⟨cell_on bv2 hHeld.1, cell_on bv2 hHeld.2.1, cell_on bv2 hHeld.2.2.1, cell_on bv2 hHeld.2.2.2.1, cell_on bv2 hHeld.2.2.2.2.1, cell_on bv2 hHeld.2.2.2.2.2.1, cell_on bv2 hHeld.2.2.2.2.2.2.1, cell_on bv2 hHeld.2.2.2.2.2.2.2.1, cell_on bv2 hHeld.2.2.2.2.2.2.2.2.1, cell_on bv2 hHeld.2.2.2.2.2.2.2.2.2.1, cell_on bv2 hHeld.2.2.2.2.2.2.2.2.2.2.1, cell_on bv2 hHeld.2.2.2.2.2.2.2.2.2.2.2.1, cell_on bv2 hHeld.2.2.2.2.2.2.2.2.2.2.2.2.1, cell_on bv2 hHeld.2.2.2.2.2.2.2.2.2.2.2.2.2.1, cell_on bv2 hHeld.2.2.2.2.2.2.2.2.2.2.2.2.2.2.1, cell_on bv2 hHeld.2.2.2.2.2.2.2.2.2.2.2.2.2.2.2.1, also hHeld.2.2.2.2.2.2.2.2.2.2.2.2.2.2.2.2 bv2⟩
      clear hK Kc
      have zbv2 := bv2.size
      replace x_t := x_t.on bv2
      replace x_d := x_d.on bv2
      replace x_s := x_s.on bv2
      replace x_l := x_l.on bv2
      replace BB := also BB bv2
      refine take_yes (i := 17) (v := ?vz17) rfl (by kernel_rfl) (by kernel_rfl) (by kernel_rfl) (fun _ _ _ h => h) (by rfl) (by assumption) ?hyz17 ?restz17
      case hyz17 => (intro w hSw; (try dsimp only at hSw); first | (go_simp; done) | (go_simp; with_reducible rfl))
      simp only [Act.put, List.setIfInBounds_toArray, List.set_cons_zero, List.set_cons_succ]
      refine take_yes (i := 18) (v := ?vz18) rfl (by kernel_rfl) (by kernel_rfl) (by kernel_rfl) (fun _ _ _ h => h) (by rfl) (by assumption) ?hyz18 ?restz18
      case hyz18 => (intro w hSw; (try dsimp only at hSw); first | (go_simp; done) | (go_simp; with_reducible rfl))
      simp only [Act.put, List.setIfInBounds_toArray, List.set_cons_zero, List.set_cons_succ]
      refine take_call (i := 19) rfl (by kernel_rfl) (fun Kc hK => ?_)
      go_simp
      (go_at_call 10; refine (lives8_any _).mono ?_; rintro e v3 ⟨rfl, bv3⟩)
      refine hK.out _ _ ?_ (fun hHeld => ?_)
      · exact ⟨cell_on bv3 hHeld.1, cell_on bv3 hHeld.2.1, cell_on bv3 hHeld.2.2.1, cell_on bv3 hHeld.2.2.2.1, cell_on bv3 hHeld.2.2.2.2.1, cell_on bv3 hHeld.2.2.2.2.2.1, cell_on bv3 hHeld.2.2.2.2.2.2.1, cell_on bv3 hHeld.2.2.2.2.2.2.2.1, cell_on bv3 hHeld.2.2.2.2.2.2.2.2.1, cell_on bv3 hHeld.2.2.2.2.2.2.2.2.2.1, cell_on bv3 hHeld.2.2.2.2.2.2.2.2.2.2.1, cell_on bv3 hHeld.2.2.2.2.2.2.2.2.2.2.2.1, cell_on bv3 hHeld.2.2.2.2.2.2.2.2.2.2.2.2.1, cell_on bv3 hHeld.2.2.2.2.2.2.2.2.2.2.2.2.2.1, cell_on bv3 hHeld.2.2.2.2.2.2.2.2.2.2.2.2.2.2.1, cell_on bv3 hHeld.2.2.2.2.2.2.2.2.2.2.2.2.2.2.2.1, also hHeld.2.2.2.2.2.2.2.2.2.2.2.2.2.2.2.2 bv3⟩
      clear hK Kc
      have zbv3 := bv3.size
      replace x_t := x_t.on bv3
      replace x_d := x_d.on bv3
      replace x_s := x_s.on bv3
      replace x_l := x_l.on bv3
      replace BB := also BB bv3
      refine take_yes (i := 20) (v := ?vz20) rfl (by kernel_rfl) (by kernel_rfl) (by kernel_rfl) (fun _ _ _ h => h) (by rfl) (by assumption) ?hyz20 ?restz20
      case hyz20 => (intro w hSw; (try dsimp only at hSw); first | (go_simp; done) | (go_simp; with_reducible rfl))
      simp only [Act.put, List.setIfInBounds_toArray, List.set_cons_zero, List.set_cons_succ]
      refine take_yes (i := 21) (v := ?vz21) rfl (by kernel_rfl) (by kernel_rfl) (by kernel_rfl) (fun _ _ _ h => h) (by rfl) (by assumption) ?hyz21 ?restz21
      case hyz21 => (intro w hSw; (try dsimp only at hSw); first | (go_simp; done) | (go_simp; with_reducible rfl))
      simp only [Act.put, List.setIfInBounds_toArray, List.set_cons_zero, List.set_cons_succ]
      refine wpAnyH_done (by kernel_rfl) ?_ _
      go_wp2
      go_ret
      exact ⟨rfl, BB⟩
theorem own : ownKnob Try.prog.godebug = none := by kernel_rfl
theorem cells_pt : Try.prog.cellsOf 23 = 2 := by kernel_rfl
theorem reads_pt {H : Type} (enc : TypeId × Value → H) (W : World) (bs : Nat) (sp : Nat → Bool) (hd : Bool) {a b : Int} (wa : (Lit.int .i64 a).wf = true) (wb : (Lit.int .i64 b).wf = true) : DataW.Trod enc Try.prog W bs sp hd 23 (.agg #[.int .i64 a, .int .i64 b]) (.agg [.lit (.int .i64 a), .lit (.int .i64 b)]) [] :=
  shut_agg2 (y0 := (.lit (.int .i64 a), [])) (y1 := (.lit (.int .i64 b), [])) Try.underlying23 (by kernel_rfl) cells_pt ⟨1, by simp [DataW.trod, Try.underlying2, wa]⟩ ⟨1, by simp [DataW.trod, Try.underlying2, wb]⟩
set_option maxRecDepth 100000 in
theorem lifted (os : Os) (started : os.Started) (H : Type) (enc : TypeId × Value → H) :
    ReturnsInHanded {} Try.checked os 6 .any (Rows.tieMovesSpec.pre6 enc Try.prog Try.f6 Rows.tieMovesRow.domain false) (Rows.tieMovesSpec.post enc Try.prog Try.f6 false true false false) := by
  refine returnsInHanded_of_change (C := Try.checked) own started (by kernel_rfl) Try.func6
    (ChangeSpec.witness6 (enc := enc) (C := Try.checked) false ⟨#[], #[.agg #[.int .i64 0, .int .i64 0, .int .i64 0, .int .i64 0, .int .i64 0, .int .i64 0], .agg #[.int .i64 0, .int .i64 0], .agg #[.int .i64 0, .int .i64 0]], []⟩ 8 (by kernel_rfl) (by kernel_rfl) (by kernel_rfl) (by kernel_rfl)) ?_
  intro W base args ds gs before hval0 hW hcnd _
  have hval : ∀ (j : Nat) t v, Try.f6.params[j]? = some t → args[j]? = some v → Value.okWide Try.prog W .any base t v := hval0
  have hW' := hW
  obtain ⟨p, q, hA0, hV, rfl, hfz, hnd⟩ := hW
  have hA : DataW.TrodAll enc Try.prog W 0 (fun _ => true) true Try.f6.params.toList args.toList ds p := hA0
  rw [Try.params6] at hA hval
  obtain ⟨v0, vs0, d0, ds0, p0, q0, hargs, rfl, rfl, h0, r0⟩ := trodAll_cons hA
  obtain ⟨v1, vs1, d1, ds1, p1, q1, rfl, rfl, rfl, h1, r1⟩ := trodAll_cons r0
  obtain ⟨v2, vs2, d2, ds2, p2, q2, rfl, rfl, rfl, h2, r2⟩ := trodAll_cons r1
  obtain ⟨rfl, rfl, rfl⟩ := trodAll_nil r2
  obtain rfl : args = #[v0, v1, v2] := by cases args; simp_all
  obtain ⟨rfl, rfl⟩ := trodVars_none hV
  obtain ⟨a0_0, a0_1, a0_2, a0_3, a0_4, a0_5, rfl, rfl, rfl, w0_0, w0_1, w0_2, w0_3, w0_4, w0_5⟩ := open_pt3 (hval 0 24 v0 rfl rfl) h0
  obtain ⟨x1, y1, g1, k1, m1, rfl, rfl, rfl, hx1, hy1⟩ := open_agg2 Try.underlying23 (by kernel_rfl) cells_pt (hval 1 23 v1 rfl rfl) h1
  obtain ⟨a1, ex1, rfl, wa1⟩ := DataW.trod_int Try.underlying2 hx1
  obtain ⟨b1, ey1, rfl, wb1⟩ := DataW.trod_int Try.underlying2 hy1
  simp at ex1 ey1
  subst ex1 ey1
  obtain ⟨x2, y2, g2, k2, m2, rfl, rfl, rfl, hx2, hy2⟩ := open_agg2 Try.underlying23 (by kernel_rfl) cells_pt (hval 2 23 v2 rfl rfl) h2
  obtain ⟨a2, ex2, rfl, wa2⟩ := DataW.trod_int Try.underlying2 hx2
  obtain ⟨b2, ey2, rfl, wb2⟩ := DataW.trod_int Try.underlying2 hy2
  simp at ex2 ey2
  subst ex2 ey2
  clear hA0 hval0
  have hwalk := walk a0_0 a0_1 (bd_i64 w0_0).1 (bd_i64 w0_0).2 (bd_i64 w0_1).1 (bd_i64 w0_1).2 a0_2 a0_3 (bd_i64 w0_2).1 (bd_i64 w0_2).2 (bd_i64 w0_3).1 (bd_i64 w0_3).2 a0_4 a0_5 (bd_i64 w0_4).1 (bd_i64 w0_4).2 (bd_i64 w0_5).1 (bd_i64 w0_5).2 a1 b1 (bd_i64 wa1).1 (bd_i64 wa1).2 (bd_i64 wb1).1 (bd_i64 wb1).2 a2 b2 (bd_i64 wa2).1 (bd_i64 wa2).2 (bd_i64 wb2).1 (bd_i64 wb2).2 W
  refine hwalk.mono fun e W' ⟨he, bel⟩ => ?_
  subst he
  exact ⟨_, rfl, _, _, _, [], _, [], hW', trodAll_mk1 (shut_bool Try.underlying4 _), (trodAll_cons_mk (shut_pt3 w0_0 w0_1 w0_2 w0_3 w0_4 w0_5) (trodAll_cons_mk (reads_pt enc _ _ _ _ wa1 wb1) (trodAll_cons_mk (reads_pt enc _ _ _ _ wa2 wb2) trodAll_mk0))), rfl, bel.frame _, fun h => by cases h⟩

/-- The statement. -/
theorem proved : Rows.TieMovesSaid :=
  OpenClaim.holds_of_wide 6 Try.f6 rfl rfl rfl rfl rfl rfl rfl ⟨rfl, rfl, rfl, rfl, rfl⟩ rfl rfl rfl rfl rfl (by kernel_rfl) Try.func6 (by kernel_rfl)
    (of_decide_eq_true (by kernel_rfl)) (by unfold Func.isWrapper; first | (rw [if_pos (by decide +kernel)]; kernel_rfl) | (rw [if_neg (by decide +kernel)]; exact ⟨rfl, rfl⟩))
    (fun os started H enc _ => lifted os started H enc)
#print axioms proved
end tmoves
end Go.Proofs.Ytnemailhijkemaa
