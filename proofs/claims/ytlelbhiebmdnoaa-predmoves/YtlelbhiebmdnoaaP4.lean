
/-
  Joined texts, part 4:
  What package pred's can, area2, dist2, turn, Area2, Orient and Dist2 answer.
  What package pred's turn, Area2, Orient and Dist2 answer.
  A region whose order is open, with calls and blocks that are made at any time: what holds while some are done, kept by an invariant (no order is written out). It imports nothing of the program.
  What zelligeref03's Cmp, Add and Sub answer.
  What zelligeref03's Mul answers.
  What zelligeref03 answers, with letters for the lengths.
  What zelligeref03 answers, with letters for the lengths, apart from all that was there before.
-/
import Derived.Test.YtlelbhiebmdnoaaP3
import Derived.Test.YtlelbhiebmdnoaaP1
import Derived.Test.YtlelbhiebmdnoaaP2
namespace Go.Proofs.Ytlelbhiebmdnoaa
open Go.RowKit
set_option linter.unusedVariables false

/-- The cells of points, one behind the other. -/
def pcells : List (Int × Int) → List Value
  | [] => []
  | p :: l => .int .i64 p.1 :: .int .i64 p.2 :: pcells l
theorem pcells_at : ∀ (L : List (Int × Int)) (k : Nat) (x y : Int), L[k]? = some (x, y) → (pcells L)[k * 2]? = some (.int .i64 x) ∧ (pcells L)[k * 2 + 1]? = some (.int .i64 y)
  | [], k, x, y, h => by simp at h
  | p :: l, 0, x, y, h => by simp at h; subst h; exact ⟨rfl, rfl⟩
  | p :: l, k + 1, x, y, h => by
    have h' : l[k]? = some (x, y) := by simpa using h
    have := pcells_at l k x y h'
    have e1 : (k + 1) * 2 = k * 2 + 1 + 1 := by omega
    rw [e1]
    exact ⟨this.1, this.2⟩
/-- Whether all points can be. -/
def canAll (L : List (Int × Int)) : Bool := L.all fun p => canC p.1 p.2
theorem canAll_cons (p : Int × Int) (L : List (Int × Int)) : canAll (p :: L) = (canC p.1 p.2 && canAll L) := rfl
theorem canAll_drop {L : List (Int × Int)} {k : Nat} {x y : Int} (h : L[k]? = some (x, y)) : canAll (L.drop k) = (canC x y && canAll (L.drop (k + 1))) := by
  obtain ⟨hk, he⟩ := List.getElem?_eq_some_iff.1 h
  rw [List.drop_eq_getElem_cons hk, he]
  rfl
theorem lw_sign (x : Int) : lw.cmpI x 0 = x.sign := cmp_sign x
set_option maxRecDepth 100000 in
theorem pcan (L : List (Int × Int)) (n b : Nat) (w : World) (hn : n = L.length) (hs : n ≤ 1000) (hr : Row w b (pcells L)) (hb : b < w.heap.size) {r : Bool} (hres : r = canAll L) : Calls Try.prog 26 #[.slice (some ⟨b, 0, none⟩) n n] w fun e w' => e = .returned (.bool r) ∧ Below w.heap.size w w' := by
  subst hn
  have HR : Hid _ := hres
  clear hres
  go_enter Try.func26, Try.ntmps26
  go_wp2
  go_loopw [7] (fun i wr => ∃ k : Nat, k ≤ L.length ∧ i = .int .i64 (k : Int) ∧ canAll L = canAll (L.drop k) ∧ Below w.heap.size w wr) (fun i _ => L.length - (intOf i).toNat)
  case atStart => exact ⟨0, by omega, rfl, rfl, Below.refl _ _⟩
  case round =>
    obtain ⟨k, hk, rfl, hd, bel⟩ := hrel
    by_cases hlt : k < L.length
    · obtain ⟨x, y, hxy⟩ : ∃ x y, L[k]? = some (x, y) := ⟨L[k].1, L[k].2, by rw [List.getElem?_eq_getElem hlt]⟩
      obtain ⟨c1, c2⟩ := pcells_at L k x y hxy
      have hr' := hr.below bel hb
      have q1 := hr'.cell _ _ c1
      have q2 := hr'.cell _ _ c2
      rw [canAll_drop hxy] at hd
      have HD : Hid _ := hd
      clear hr hr' hxy c1 c2 hd
      obtain ⟨V, hV, bV, x_p, sV⟩ := bs_2 wr (.int .i64 x) (.int .i64 y) 23
      cases hc : canC x y
      · go_wp2_with (go_at_call 49; fail)
        rw [← hV]
        clear hV
        refine (lCan x y V hc.symm).mono ?_
        rintro e w1 ⟨rfl, b1⟩
        go_wp2
        go_ret
        exact ⟨by rw [HR.out, HD.out, hc]; rfl, also (also bel bV) b1⟩
      · go_wp2_with (go_at_call 49; fail)
        rw [← hV]
        clear hV
        refine (lCan x y V hc.symm).mono ?_
        rintro e w1 ⟨rfl, b1⟩
        have hw : wrap64 ((k : Int) + 1) = (k : Int) + 1 := wrap_in (by omega) (by omega)
        go_wp2
        go_roundw
        case rel => exact ⟨k + 1, by omega, by simp, by rw [HD.out, hc]; rfl, also (also bel bV) b1⟩
        case measure => simp [intOf]; omega
    · obtain rfl : k = L.length := by omega
      go_wp2
      go_ret
      exact ⟨by rw [HR.out, hd, List.drop_length]; rfl, bel⟩
theorem can3 {a1 a2 b1 b2 c1 c2 : Int} : canAll [(a1, a2), (b1, b2), (c1, c2)] = true ↔ (canC a1 a2 = true ∧ canC b1 b2 = true ∧ canC c1 c2 = true) := by simp [canAll]
theorem can2 {a1 a2 b1 b2 : Int} : canAll [(a1, a2), (b1, b2)] = true ↔ (canC a1 a2 = true ∧ canC b1 b2 = true) := by simp [canAll]
theorem can4 {a1 a2 b1 b2 c1 c2 d1 d2 : Int} : canAll [(a1, a2), (b1, b2), (c1, c2), (d1, d2)] = true ↔ (canC a1 a2 = true ∧ canC b1 b2 = true ∧ canC c1 c2 = true ∧ canC d1 d2 = true) := by simp [canAll]
/-- Differences of points that can be. -/
theorem can_sub {x y : Int} (hx : inC x = true) (hy : inC y = true) : wrap64 (x - y) = x - y ∧ -9223372036854775808 ≤ x - y ∧ x - y ≤ 9223372036854775807 := by
  have h := can_diff hx hy
  exact ⟨wrap_in (by omega) (by omega), by omega, by omega⟩
/-- Twice the area, the square of the distance, as they are told: nought, if a point can't be. -/
def arP (a1 a2 b1 b2 c1 c2 : Int) : Int := if canAll [(a1, a2), (b1, b2), (c1, c2)] then areaP a1 a2 b1 b2 c1 c2 else 0
def diP (a1 a2 b1 b2 : Int) : Int := if canAll [(a1, a2), (b1, b2)] then distP a1 a2 b1 b2 else 0
theorem area_wide {a1 a2 b1 b2 c1 c2 : Int} (ha : canC a1 a2 = true) (hb : canC b1 b2 = true) (hc : canC c1 c2 = true) : -10000000000000000000000000 ≤ areaP a1 a2 b1 b2 c1 c2 ∧ areaP a1 a2 b1 b2 c1 c2 ≤ 10000000000000000000000000 := by
  have h := area_abs (D := 2199023255552) (can_diff (canC_true.1 hb).1 (canC_true.1 ha).1) (can_diff (canC_true.1 hb).2 (canC_true.1 ha).2) (can_diff (canC_true.1 hc).1 (canC_true.1 ha).1) (can_diff (canC_true.1 hc).2 (canC_true.1 ha).2)
  omega
theorem dist_wide {a1 a2 b1 b2 : Int} (ha : canC a1 a2 = true) (hb : canC b1 b2 = true) : 0 ≤ distP a1 a2 b1 b2 ∧ distP a1 a2 b1 b2 ≤ 10000000000000000000000000 := by
  have h := dist_abs (D := 2199023255552) (can_diff (canC_true.1 hb).1 (canC_true.1 ha).1) (can_diff (canC_true.1 hb).2 (canC_true.1 ha).2)
  have := dist_nonneg a1 a2 b1 b2
  omega
theorem ar_wide (a1 a2 b1 b2 c1 c2 : Int) : -10000000000000000000000000 ≤ arP a1 a2 b1 b2 c1 c2 ∧ arP a1 a2 b1 b2 c1 c2 ≤ 10000000000000000000000000 := by
  unfold arP
  cases h : canAll [(a1, a2), (b1, b2), (c1, c2)]
  · exact ⟨by simp, by simp⟩
  · obtain ⟨h1, h2, h3⟩ := can3.1 h
    exact area_wide h1 h2 h3
set_option maxRecDepth 100000 in
set_option maxHeartbeats 4000000 in
theorem parea (a1 a2 b1 b2 c1 c2 : Int) (w : World) (ha : canC a1 a2 = true) (hb : canC b1 b2 = true) (hc : canC c1 c2 = true) {u v : Int} (hu : u = lw.hi (areaP a1 a2 b1 b2 c1 c2)) (hv : v = lw.lo (areaP a1 a2 b1 b2 c1 c2)) :
    Calls Try.prog 27 #[.agg #[.int .i64 a1, .int .i64 a2], .agg #[.int .i64 b1, .int .i64 b2], .agg #[.int .i64 c1, .int .i64 c2]] w fun e w' => e = .returned (.agg #[.int .i64 u, .int .u64 v]) ∧ Below w.heap.size w w' := by
  obtain ⟨x, hx⟩ : ∃ x, x = b1 - a1 := ⟨_, rfl⟩
  have c_x := can_sub (canC_true.1 hb).1 (canC_true.1 ha).1
  rw [← hx] at c_x
  have w_x : wrap64 (b1 - a1) = x := by rw [← hx]; exact c_x.1
  have v_x : IntKind.i64.wrap (b1 - a1) = x := (wrap_i64 _).trans w_x
  have R_x : Hid _ := c_x.2
  have E_x : Hid _ := hx
  clear c_x hx
  obtain ⟨y, hy⟩ : ∃ y, y = c2 - a2 := ⟨_, rfl⟩
  have c_y := can_sub (canC_true.1 hc).2 (canC_true.1 ha).2
  rw [← hy] at c_y
  have w_y : wrap64 (c2 - a2) = y := by rw [← hy]; exact c_y.1
  have v_y : IntKind.i64.wrap (c2 - a2) = y := (wrap_i64 _).trans w_y
  have R_y : Hid _ := c_y.2
  have E_y : Hid _ := hy
  clear c_y hy
  obtain ⟨z, hz⟩ : ∃ z, z = b2 - a2 := ⟨_, rfl⟩
  have c_z := can_sub (canC_true.1 hb).2 (canC_true.1 ha).2
  rw [← hz] at c_z
  have w_z : wrap64 (b2 - a2) = z := by rw [← hz]; exact c_z.1
  have v_z : IntKind.i64.wrap (b2 - a2) = z := (wrap_i64 _).trans w_z
  have R_z : Hid _ := c_z.2
  have E_z : Hid _ := hz
  clear c_z hz
  obtain ⟨t, ht⟩ : ∃ t, t = c1 - a1 := ⟨_, rfl⟩
  have c_t := can_sub (canC_true.1 hc).1 (canC_true.1 ha).1
  rw [← ht] at c_t
  have w_t : wrap64 (c1 - a1) = t := by rw [← ht]; exact c_t.1
  have v_t : IntKind.i64.wrap (c1 - a1) = t := (wrap_i64 _).trans w_t
  have R_t : Hid _ := c_t.2
  have E_t : Hid _ := ht
  clear c_t ht
  have HU : Hid (u = lw.hi (x * y - z * t)) := by unfold Hid; rw [hu, E_x.out, E_y.out, E_z.out, E_t.out]; rfl
  have HV : Hid (v = lw.lo (x * y - z * t)) := by unfold Hid; rw [hv, E_x.out, E_y.out, E_z.out, E_t.out]; rfl
  clear hu hv ha hb hc
  obtain ⟨W, hW, bW, x_a, x_b, x_c, x_r, sW⟩ := bs_2222 w (.int .i64 a1) (.int .i64 a2) (.int .i64 b1) (.int .i64 b2) (.int .i64 c1) (.int .i64 c2) (.int .i64 0) (.int .u64 0) 23 23 23 31
  have zbW := bW.size
  have BB := bW
  go_enter Try.func27, Try.ntmps27
  go_wp2
  rw [← hW]
  clear hW
  have dd1 : Below W.heap.size W W.drew := (Below.refl _ _).drew
  have zdd1 := dd1.size
  replace BB := also BB dd1
  replace x_a := x_a.on dd1
  replace x_b := x_b.on dd1
  replace x_c := x_c.on dd1
  replace x_r := x_r.on dd1
  refine wp_region_held_drew (S := (fun w' => w'.cell? ⟨w.heap.size, 0, none⟩ = some (.int .i64 a1) ∧ w'.cell? ⟨w.heap.size, 1, none⟩ = some (.int .i64 a2) ∧ w'.cell? ⟨w.heap.size + 1, 0, none⟩ = some (.int .i64 b1) ∧ w'.cell? ⟨w.heap.size + 1, 1, none⟩ = some (.int .i64 b2) ∧ w'.cell? ⟨w.heap.size + 1 + 1, 0, none⟩ = some (.int .i64 c1) ∧ w'.cell? ⟨w.heap.size + 1 + 1, 1, none⟩ = some (.int .i64 c2) ∧ Below w.heap.size w w')) (by kernel_rfl) ?_ (fun hHeld => ?_)
  · first | exact ⟨x_a.c0, x_a.c1, x_b.c0, x_b.c1, x_c.c0, x_c.c1, BB⟩ | exact ⟨cell_on bw3 hHeld.1, cell_on bw3 hHeld.2.1, cell_on bw3 hHeld.2.2.1, cell_on bw3 hHeld.2.2.2.1, cell_on bw3 hHeld.2.2.2.2.1, cell_on bw3 hHeld.2.2.2.2.2.1, also hHeld.2.2.2.2.2.2 bw3⟩ | exact ⟨cell_on bw2 hHeld.1, cell_on bw2 hHeld.2.1, cell_on bw2 hHeld.2.2.1, cell_on bw2 hHeld.2.2.2.1, cell_on bw2 hHeld.2.2.2.2.1, cell_on bw2 hHeld.2.2.2.2.2.1, also hHeld.2.2.2.2.2.2 bw2⟩ | exact ⟨cell_on bw1 hHeld.1, cell_on bw1 hHeld.2.1, cell_on bw1 hHeld.2.2.1, cell_on bw1 hHeld.2.2.2.1, cell_on bw1 hHeld.2.2.2.2.1, cell_on bw1 hHeld.2.2.2.2.2.1, also hHeld.2.2.2.2.2.2 bw1⟩ | exact ⟨cell_put2 hHeld.1 (by omega) _ _, cell_put2 hHeld.2.1 (by omega) _ _, cell_put2 hHeld.2.2.1 (by omega) _ _, cell_put2 hHeld.2.2.2.1 (by omega) _ _, cell_put2 hHeld.2.2.2.2.1 (by omega) _ _, cell_put2 hHeld.2.2.2.2.2.1 (by omega) _ _, below_put2 hHeld.2.2.2.2.2.2 (by omega) _ _⟩
  refine take_yes (i := 0) (v := ?vs0) rfl (by kernel_rfl) (by kernel_rfl) (by kernel_rfl) (fun _ _ _ h => h) (by rfl) (by assumption) ?hys0 ?rests0
  case hys0 => (intro w hSw; (try dsimp only at hSw); first | (go_simp; done) | (go_simp; with_reducible rfl))
  simp only [Act.put, List.setIfInBounds_toArray, List.set_cons_zero, List.set_cons_succ]
  refine take_yes (i := 1) (v := ?vs1) rfl (by kernel_rfl) (by kernel_rfl) (by kernel_rfl) (fun _ _ _ h => h) (by rfl) (by assumption) ?hys1 ?rests1
  case hys1 => (intro w hSw; (try dsimp only at hSw); first | (go_simp; done) | (go_simp; with_reducible rfl))
  simp only [Act.put, List.setIfInBounds_toArray, List.set_cons_zero, List.set_cons_succ]
  refine take_yes (i := 2) (v := ?vs2) rfl (by kernel_rfl) (by kernel_rfl) (by kernel_rfl) (fun _ _ _ h => h) (by rfl) (by assumption) ?hys2 ?rests2
  case hys2 => (intro w hSw; (try dsimp only at hSw); first | (go_simp; done) | (go_simp; with_reducible rfl))
  simp only [Act.put, List.setIfInBounds_toArray, List.set_cons_zero, List.set_cons_succ]
  refine take_yes (i := 3) (v := ?vs3) rfl (by kernel_rfl) (by kernel_rfl) (by kernel_rfl) (fun _ _ _ h => h) (by rfl) (by assumption) ?hys3 ?rests3
  case hys3 => (intro w hSw; (try dsimp only at hSw); first | (go_simp; done) | (go_simp; with_reducible rfl))
  simp only [Act.put, List.setIfInBounds_toArray, List.set_cons_zero, List.set_cons_succ]
  refine take_yes (i := 4) (v := ?vs4) rfl (by kernel_rfl) (by kernel_rfl) (by kernel_rfl) (fun _ _ _ h => h) (by rfl) (by assumption) ?hys4 ?rests4
  case hys4 => (intro w hSw; (try dsimp only at hSw); first | (go_simp; done) | (go_simp; with_reducible rfl))
  simp only [Act.put, List.setIfInBounds_toArray, List.set_cons_zero, List.set_cons_succ]
  refine take_yes (i := 5) (v := ?vs5) rfl (by kernel_rfl) (by kernel_rfl) (by kernel_rfl) (fun _ _ _ h => h) (by rfl) (by assumption) ?hys5 ?rests5
  case hys5 => (intro w hSw; (try dsimp only at hSw); first | (go_simp; done) | (go_simp; with_reducible rfl))
  simp only [Act.put, List.setIfInBounds_toArray, List.set_cons_zero, List.set_cons_succ]
  refine take_yes (i := 6) (v := ?vs6) rfl (by kernel_rfl) (by kernel_rfl) (by kernel_rfl) (fun _ _ _ h => h) (by rfl) (by assumption) ?hys6 ?rests6
  case hys6 => (intro w hSw; (try dsimp only at hSw); first | (go_simp; done) | (go_simp; with_reducible rfl))
  simp only [Act.put, List.setIfInBounds_toArray, List.set_cons_zero, List.set_cons_succ]
  refine take_yes (i := 7) (v := ?vs7) rfl (by kernel_rfl) (by kernel_rfl) (by kernel_rfl) (fun _ _ _ h => h) (by rfl) (by assumption) ?hys7 ?rests7
  case hys7 => (intro w hSw; (try dsimp only at hSw); first | (go_simp; done) | (go_simp; with_reducible rfl))
  simp only [Act.put, List.setIfInBounds_toArray, List.set_cons_zero, List.set_cons_succ]
  refine take_yes (i := 8) (v := ?vs8) rfl (by kernel_rfl) (by kernel_rfl) (by kernel_rfl) (fun _ _ _ h => h) (by rfl) (by assumption) ?hys8 ?rests8
  case hys8 => (intro w hSw; (try dsimp only at hSw); first | (go_simp; done) | (go_simp; with_reducible rfl))
  simp only [Act.put, List.setIfInBounds_toArray, List.set_cons_zero, List.set_cons_succ]
  refine take_yes (i := 9) (v := ?vs9) rfl (by kernel_rfl) (by kernel_rfl) (by kernel_rfl) (fun _ _ _ h => h) (by rfl) (by assumption) ?hys9 ?rests9
  case hys9 => (intro w hSw; (try dsimp only at hSw); first | (go_simp; done) | (go_simp; with_reducible rfl))
  simp only [Act.put, List.setIfInBounds_toArray, List.set_cons_zero, List.set_cons_succ]
  refine take_yes (i := 11) (v := ?vs11) rfl (by kernel_rfl) (by kernel_rfl) (by kernel_rfl) (fun _ _ _ h => h) (by rfl) (by assumption) ?hys11 ?rests11
  case hys11 => (intro w hSw; (try dsimp only at hSw); first | (go_simp; done) | (go_simp; with_reducible rfl))
  simp only [Act.put, List.setIfInBounds_toArray, List.set_cons_zero, List.set_cons_succ]
  refine take_yes (i := 12) (v := ?vs12) rfl (by kernel_rfl) (by kernel_rfl) (by kernel_rfl) (fun _ _ _ h => h) (by rfl) (by assumption) ?hys12 ?rests12
  case hys12 => (intro w hSw; (try dsimp only at hSw); first | (go_simp; done) | (go_simp; with_reducible rfl))
  simp only [Act.put, List.setIfInBounds_toArray, List.set_cons_zero, List.set_cons_succ]
  refine take_yes (i := 13) (v := ?vs13) rfl (by kernel_rfl) (by kernel_rfl) (by kernel_rfl) (fun _ _ _ h => h) (by rfl) (by assumption) ?hys13 ?rests13
  case hys13 => (intro w hSw; (try dsimp only at hSw); first | (go_simp; done) | (go_simp; with_reducible rfl))
  simp only [Act.put, List.setIfInBounds_toArray, List.set_cons_zero, List.set_cons_succ]
  refine take_yes (i := 14) (v := ?vs14) rfl (by kernel_rfl) (by kernel_rfl) (by kernel_rfl) (fun _ _ _ h => h) (by rfl) (by assumption) ?hys14 ?rests14
  case hys14 => (intro w hSw; (try dsimp only at hSw); first | (go_simp; done) | (go_simp; with_reducible rfl))
  simp only [Act.put, List.setIfInBounds_toArray, List.set_cons_zero, List.set_cons_succ]
  refine take_yes (i := 15) (v := ?vs15) rfl (by kernel_rfl) (by kernel_rfl) (by kernel_rfl) (fun _ _ _ h => h) (by rfl) (by assumption) ?hys15 ?rests15
  case hys15 => (intro w hSw; (try dsimp only at hSw); first | (go_simp; done) | (go_simp; with_reducible rfl))
  simp only [Act.put, List.setIfInBounds_toArray, List.set_cons_zero, List.set_cons_succ]
  refine take_yes (i := 16) (v := ?vs16) rfl (by kernel_rfl) (by kernel_rfl) (by kernel_rfl) (fun _ _ _ h => h) (by rfl) (by assumption) ?hys16 ?rests16
  case hys16 => (intro w hSw; (try dsimp only at hSw); first | (go_simp; done) | (go_simp; with_reducible rfl))
  simp only [Act.put, List.setIfInBounds_toArray, List.set_cons_zero, List.set_cons_succ]
  refine take_yes (i := 17) (v := ?vs17) rfl (by kernel_rfl) (by kernel_rfl) (by kernel_rfl) (fun _ _ _ h => h) (by rfl) (by assumption) ?hys17 ?rests17
  case hys17 => (intro w hSw; (try dsimp only at hSw); first | (go_simp; done) | (go_simp; with_reducible rfl))
  simp only [Act.put, List.setIfInBounds_toArray, List.set_cons_zero, List.set_cons_succ]
  refine take_yes (i := 18) (v := ?vs18) rfl (by kernel_rfl) (by kernel_rfl) (by kernel_rfl) (fun _ _ _ h => h) (by rfl) (by assumption) ?hys18 ?rests18
  case hys18 => (intro w hSw; (try dsimp only at hSw); first | (go_simp; done) | (go_simp; with_reducible rfl))
  simp only [Act.put, List.setIfInBounds_toArray, List.set_cons_zero, List.set_cons_succ]
  refine take_yes (i := 19) (v := ?vs19) rfl (by kernel_rfl) (by kernel_rfl) (by kernel_rfl) (fun _ _ _ h => h) (by rfl) (by assumption) ?hys19 ?rests19
  case hys19 => (intro w hSw; (try dsimp only at hSw); first | (go_simp; done) | (go_simp; with_reducible rfl))
  simp only [Act.put, List.setIfInBounds_toArray, List.set_cons_zero, List.set_cons_succ]
  refine take_yes (i := 20) (v := ?vs20) rfl (by kernel_rfl) (by kernel_rfl) (by kernel_rfl) (fun _ _ _ h => h) (by rfl) (by assumption) ?hys20 ?rests20
  case hys20 => (intro w hSw; (try dsimp only at hSw); first | (go_simp; done) | (go_simp; with_reducible rfl))
  simp only [Act.put, List.setIfInBounds_toArray, List.set_cons_zero, List.set_cons_succ]
  refine take_call (i := 10) rfl (by kernel_rfl) (fun Kc hK => ?_)
  go_simp
  (go_at_call 51; refine (lw.mul_any x y R_x.out.1 R_x.out.2 R_y.out.1 R_y.out.2 _).mono ?_; rintro e w1 ⟨rfl, bw1⟩)
  refine hK.out _ _ ?_ (fun hHeld => ?_)
  · first | exact ⟨x_a.c0, x_a.c1, x_b.c0, x_b.c1, x_c.c0, x_c.c1, BB⟩ | exact ⟨cell_on bw3 hHeld.1, cell_on bw3 hHeld.2.1, cell_on bw3 hHeld.2.2.1, cell_on bw3 hHeld.2.2.2.1, cell_on bw3 hHeld.2.2.2.2.1, cell_on bw3 hHeld.2.2.2.2.2.1, also hHeld.2.2.2.2.2.2 bw3⟩ | exact ⟨cell_on bw2 hHeld.1, cell_on bw2 hHeld.2.1, cell_on bw2 hHeld.2.2.1, cell_on bw2 hHeld.2.2.2.1, cell_on bw2 hHeld.2.2.2.2.1, cell_on bw2 hHeld.2.2.2.2.2.1, also hHeld.2.2.2.2.2.2 bw2⟩ | exact ⟨cell_on bw1 hHeld.1, cell_on bw1 hHeld.2.1, cell_on bw1 hHeld.2.2.1, cell_on bw1 hHeld.2.2.2.1, cell_on bw1 hHeld.2.2.2.2.1, cell_on bw1 hHeld.2.2.2.2.2.1, also hHeld.2.2.2.2.2.2 bw1⟩ | exact ⟨cell_put2 hHeld.1 (by omega) _ _, cell_put2 hHeld.2.1 (by omega) _ _, cell_put2 hHeld.2.2.1 (by omega) _ _, cell_put2 hHeld.2.2.2.1 (by omega) _ _, cell_put2 hHeld.2.2.2.2.1 (by omega) _ _, cell_put2 hHeld.2.2.2.2.2.1 (by omega) _ _, below_put2 hHeld.2.2.2.2.2.2 (by omega) _ _⟩
  clear hK Kc
  have zbw1 := bw1.size
  replace BB := also BB bw1
  replace x_a := x_a.on bw1
  replace x_b := x_b.on bw1
  replace x_c := x_c.on bw1
  replace x_r := x_r.on bw1
  refine take_call (i := 21) rfl (by kernel_rfl) (fun Kc hK => ?_)
  go_simp
  (go_at_call 51; refine (lw.mul_any z t R_z.out.1 R_z.out.2 R_t.out.1 R_t.out.2 _).mono ?_; rintro e w2 ⟨rfl, bw2⟩)
  refine hK.out _ _ ?_ (fun hHeld => ?_)
  · first | exact ⟨x_a.c0, x_a.c1, x_b.c0, x_b.c1, x_c.c0, x_c.c1, BB⟩ | exact ⟨cell_on bw3 hHeld.1, cell_on bw3 hHeld.2.1, cell_on bw3 hHeld.2.2.1, cell_on bw3 hHeld.2.2.2.1, cell_on bw3 hHeld.2.2.2.2.1, cell_on bw3 hHeld.2.2.2.2.2.1, also hHeld.2.2.2.2.2.2 bw3⟩ | exact ⟨cell_on bw2 hHeld.1, cell_on bw2 hHeld.2.1, cell_on bw2 hHeld.2.2.1, cell_on bw2 hHeld.2.2.2.1, cell_on bw2 hHeld.2.2.2.2.1, cell_on bw2 hHeld.2.2.2.2.2.1, also hHeld.2.2.2.2.2.2 bw2⟩ | exact ⟨cell_on bw1 hHeld.1, cell_on bw1 hHeld.2.1, cell_on bw1 hHeld.2.2.1, cell_on bw1 hHeld.2.2.2.1, cell_on bw1 hHeld.2.2.2.2.1, cell_on bw1 hHeld.2.2.2.2.2.1, also hHeld.2.2.2.2.2.2 bw1⟩ | exact ⟨cell_put2 hHeld.1 (by omega) _ _, cell_put2 hHeld.2.1 (by omega) _ _, cell_put2 hHeld.2.2.1 (by omega) _ _, cell_put2 hHeld.2.2.2.1 (by omega) _ _, cell_put2 hHeld.2.2.2.2.1 (by omega) _ _, cell_put2 hHeld.2.2.2.2.2.1 (by omega) _ _, below_put2 hHeld.2.2.2.2.2.2 (by omega) _ _⟩
  clear hK Kc
  have zbw2 := bw2.size
  replace BB := also BB bw2
  replace x_a := x_a.on bw2
  replace x_b := x_b.on bw2
  replace x_c := x_c.on bw2
  replace x_r := x_r.on bw2
  refine take_call (i := 22) rfl (by kernel_rfl) (fun Kc hK => ?_)
  go_simp
  (go_at_call 50; refine (lw.sub_any (x * y) (z * t) rfl rfl rfl rfl _).mono ?_; rintro e w3 ⟨rfl, bw3⟩)
  refine hK.out _ _ ?_ (fun hHeld => ?_)
  · first | exact ⟨x_a.c0, x_a.c1, x_b.c0, x_b.c1, x_c.c0, x_c.c1, BB⟩ | exact ⟨cell_on bw3 hHeld.1, cell_on bw3 hHeld.2.1, cell_on bw3 hHeld.2.2.1, cell_on bw3 hHeld.2.2.2.1, cell_on bw3 hHeld.2.2.2.2.1, cell_on bw3 hHeld.2.2.2.2.2.1, also hHeld.2.2.2.2.2.2 bw3⟩ | exact ⟨cell_on bw2 hHeld.1, cell_on bw2 hHeld.2.1, cell_on bw2 hHeld.2.2.1, cell_on bw2 hHeld.2.2.2.1, cell_on bw2 hHeld.2.2.2.2.1, cell_on bw2 hHeld.2.2.2.2.2.1, also hHeld.2.2.2.2.2.2 bw2⟩ | exact ⟨cell_on bw1 hHeld.1, cell_on bw1 hHeld.2.1, cell_on bw1 hHeld.2.2.1, cell_on bw1 hHeld.2.2.2.1, cell_on bw1 hHeld.2.2.2.2.1, cell_on bw1 hHeld.2.2.2.2.2.1, also hHeld.2.2.2.2.2.2 bw1⟩ | exact ⟨cell_put2 hHeld.1 (by omega) _ _, cell_put2 hHeld.2.1 (by omega) _ _, cell_put2 hHeld.2.2.1 (by omega) _ _, cell_put2 hHeld.2.2.2.1 (by omega) _ _, cell_put2 hHeld.2.2.2.2.1 (by omega) _ _, cell_put2 hHeld.2.2.2.2.2.1 (by omega) _ _, below_put2 hHeld.2.2.2.2.2.2 (by omega) _ _⟩
  clear hK Kc
  have zbw3 := bw3.size
  replace BB := also BB bw3
  replace x_a := x_a.on bw3
  replace x_b := x_b.on bw3
  replace x_c := x_c.on bw3
  replace x_r := x_r.on bw3
  have ⟨x_r_0, x_r_1, x_r_2, x_r_3⟩ := x_r
  refine take_call (i := 23) rfl (by kernel_rfl) (fun Kc hK => ?_)
  go_simp
  refine hK.out _ _ ?_ (fun hHeld => ?_)
  · first | exact ⟨x_a.c0, x_a.c1, x_b.c0, x_b.c1, x_c.c0, x_c.c1, BB⟩ | exact ⟨cell_on bw3 hHeld.1, cell_on bw3 hHeld.2.1, cell_on bw3 hHeld.2.2.1, cell_on bw3 hHeld.2.2.2.1, cell_on bw3 hHeld.2.2.2.2.1, cell_on bw3 hHeld.2.2.2.2.2.1, also hHeld.2.2.2.2.2.2 bw3⟩ | exact ⟨cell_on bw2 hHeld.1, cell_on bw2 hHeld.2.1, cell_on bw2 hHeld.2.2.1, cell_on bw2 hHeld.2.2.2.1, cell_on bw2 hHeld.2.2.2.2.1, cell_on bw2 hHeld.2.2.2.2.2.1, also hHeld.2.2.2.2.2.2 bw2⟩ | exact ⟨cell_on bw1 hHeld.1, cell_on bw1 hHeld.2.1, cell_on bw1 hHeld.2.2.1, cell_on bw1 hHeld.2.2.2.1, cell_on bw1 hHeld.2.2.2.2.1, cell_on bw1 hHeld.2.2.2.2.2.1, also hHeld.2.2.2.2.2.2 bw1⟩ | exact ⟨cell_put2 hHeld.1 (by omega) _ _, cell_put2 hHeld.2.1 (by omega) _ _, cell_put2 hHeld.2.2.1 (by omega) _ _, cell_put2 hHeld.2.2.2.1 (by omega) _ _, cell_put2 hHeld.2.2.2.2.1 (by omega) _ _, cell_put2 hHeld.2.2.2.2.2.1 (by omega) _ _, below_put2 hHeld.2.2.2.2.2.2 (by omega) _ _⟩
  clear hK Kc
  refine wpAnyH_done (by kernel_rfl) ?_ _
  go_wp2
  exact bodyPost_ret (v := .agg #[.int .i64 (lw.hi (x * y - z * t)), .int .u64 (lw.lo (x * y - z * t))]) (by simp [results, Try.results27, go_sem, *]) rfl (⟨by rw [HU.out, HV.out], below_put2 BB (by omega) _ _⟩)
set_option maxRecDepth 100000 in
set_option maxHeartbeats 4000000 in
theorem pdist (a1 a2 b1 b2 : Int) (w : World) (ha : canC a1 a2 = true) (hb : canC b1 b2 = true) {u v : Int} (hu : u = lw.hi (distP a1 a2 b1 b2)) (hv : v = lw.lo (distP a1 a2 b1 b2)) :
    Calls Try.prog 29 #[.agg #[.int .i64 a1, .int .i64 a2], .agg #[.int .i64 b1, .int .i64 b2]] w fun e w' => e = .returned (.agg #[.int .i64 u, .int .u64 v]) ∧ Below w.heap.size w w' := by
  obtain ⟨x, hx⟩ : ∃ x, x = b1 - a1 := ⟨_, rfl⟩
  have c_x := can_sub (canC_true.1 hb).1 (canC_true.1 ha).1
  rw [← hx] at c_x
  have w_x : wrap64 (b1 - a1) = x := by rw [← hx]; exact c_x.1
  have v_x : IntKind.i64.wrap (b1 - a1) = x := (wrap_i64 _).trans w_x
  have R_x : Hid _ := c_x.2
  have E_x : Hid _ := hx
  clear c_x hx
  obtain ⟨y, hy⟩ : ∃ y, y = b2 - a2 := ⟨_, rfl⟩
  have c_y := can_sub (canC_true.1 hb).2 (canC_true.1 ha).2
  rw [← hy] at c_y
  have w_y : wrap64 (b2 - a2) = y := by rw [← hy]; exact c_y.1
  have v_y : IntKind.i64.wrap (b2 - a2) = y := (wrap_i64 _).trans w_y
  have R_y : Hid _ := c_y.2
  have E_y : Hid _ := hy
  clear c_y hy
  have HU : Hid (u = lw.hi (x * x + y * y)) := by unfold Hid; rw [hu, E_x.out, E_y.out]; rfl
  have HV : Hid (v = lw.lo (x * x + y * y)) := by unfold Hid; rw [hv, E_x.out, E_y.out]; rfl
  clear hu hv ha hb
  obtain ⟨W, hW, bW, x_a, x_b, x_r, sW⟩ := bs_222 w (.int .i64 a1) (.int .i64 a2) (.int .i64 b1) (.int .i64 b2) (.int .i64 0) (.int .u64 0) 23 23 31
  have zbW := bW.size
  have BB := bW
  go_enter Try.func29, Try.ntmps29
  go_wp2
  rw [← hW]
  clear hW
  have dd1 : Below W.heap.size W W.drew := (Below.refl _ _).drew
  have zdd1 := dd1.size
  replace BB := also BB dd1
  replace x_a := x_a.on dd1
  replace x_b := x_b.on dd1
  replace x_r := x_r.on dd1
  refine wp_region_held_drew (S := (fun w' => w'.cell? ⟨w.heap.size, 0, none⟩ = some (.int .i64 a1) ∧ w'.cell? ⟨w.heap.size, 1, none⟩ = some (.int .i64 a2) ∧ w'.cell? ⟨w.heap.size + 1, 0, none⟩ = some (.int .i64 b1) ∧ w'.cell? ⟨w.heap.size + 1, 1, none⟩ = some (.int .i64 b2) ∧ Below w.heap.size w w')) (by kernel_rfl) ?_ (fun hHeld => ?_)
  · first | exact ⟨x_a.c0, x_a.c1, x_b.c0, x_b.c1, BB⟩
  refine take_yes (i := 0) (v := ?vs0) rfl (by kernel_rfl) (by kernel_rfl) (by kernel_rfl) (fun _ _ _ h => h) (by rfl) (by assumption) ?hys0 ?rests0
  case hys0 => (intro w hSw; (try dsimp only at hSw); first | (go_simp; done) | (go_simp; with_reducible rfl))
  simp only [Act.put, List.setIfInBounds_toArray, List.set_cons_zero, List.set_cons_succ]
  refine take_yes (i := 1) (v := ?vs1) rfl (by kernel_rfl) (by kernel_rfl) (by kernel_rfl) (fun _ _ _ h => h) (by rfl) (by assumption) ?hys1 ?rests1
  case hys1 => (intro w hSw; (try dsimp only at hSw); first | (go_simp; done) | (go_simp; with_reducible rfl))
  simp only [Act.put, List.setIfInBounds_toArray, List.set_cons_zero, List.set_cons_succ]
  refine take_yes (i := 2) (v := ?vs2) rfl (by kernel_rfl) (by kernel_rfl) (by kernel_rfl) (fun _ _ _ h => h) (by rfl) (by assumption) ?hys2 ?rests2
  case hys2 => (intro w hSw; (try dsimp only at hSw); first | (go_simp; done) | (go_simp; with_reducible rfl))
  simp only [Act.put, List.setIfInBounds_toArray, List.set_cons_zero, List.set_cons_succ]
  refine take_yes (i := 3) (v := ?vs3) rfl (by kernel_rfl) (by kernel_rfl) (by kernel_rfl) (fun _ _ _ h => h) (by rfl) (by assumption) ?hys3 ?rests3
  case hys3 => (intro w hSw; (try dsimp only at hSw); first | (go_simp; done) | (go_simp; with_reducible rfl))
  simp only [Act.put, List.setIfInBounds_toArray, List.set_cons_zero, List.set_cons_succ]
  refine take_yes (i := 4) (v := ?vs4) rfl (by kernel_rfl) (by kernel_rfl) (by kernel_rfl) (fun _ _ _ h => h) (by rfl) (by assumption) ?hys4 ?rests4
  case hys4 => (intro w hSw; (try dsimp only at hSw); first | (go_simp; done) | (go_simp; with_reducible rfl))
  simp only [Act.put, List.setIfInBounds_toArray, List.set_cons_zero, List.set_cons_succ]
  refine take_yes (i := 5) (v := ?vs5) rfl (by kernel_rfl) (by kernel_rfl) (by kernel_rfl) (fun _ _ _ h => h) (by rfl) (by assumption) ?hys5 ?rests5
  case hys5 => (intro w hSw; (try dsimp only at hSw); first | (go_simp; done) | (go_simp; with_reducible rfl))
  simp only [Act.put, List.setIfInBounds_toArray, List.set_cons_zero, List.set_cons_succ]
  refine take_yes (i := 6) (v := ?vs6) rfl (by kernel_rfl) (by kernel_rfl) (by kernel_rfl) (fun _ _ _ h => h) (by rfl) (by assumption) ?hys6 ?rests6
  case hys6 => (intro w hSw; (try dsimp only at hSw); first | (go_simp; done) | (go_simp; with_reducible rfl))
  simp only [Act.put, List.setIfInBounds_toArray, List.set_cons_zero, List.set_cons_succ]
  refine take_yes (i := 7) (v := ?vs7) rfl (by kernel_rfl) (by kernel_rfl) (by kernel_rfl) (fun _ _ _ h => h) (by rfl) (by assumption) ?hys7 ?rests7
  case hys7 => (intro w hSw; (try dsimp only at hSw); first | (go_simp; done) | (go_simp; with_reducible rfl))
  simp only [Act.put, List.setIfInBounds_toArray, List.set_cons_zero, List.set_cons_succ]
  refine take_yes (i := 8) (v := ?vs8) rfl (by kernel_rfl) (by kernel_rfl) (by kernel_rfl) (fun _ _ _ h => h) (by rfl) (by assumption) ?hys8 ?rests8
  case hys8 => (intro w hSw; (try dsimp only at hSw); first | (go_simp; done) | (go_simp; with_reducible rfl))
  simp only [Act.put, List.setIfInBounds_toArray, List.set_cons_zero, List.set_cons_succ]
  refine take_yes (i := 9) (v := ?vs9) rfl (by kernel_rfl) (by kernel_rfl) (by kernel_rfl) (fun _ _ _ h => h) (by rfl) (by assumption) ?hys9 ?rests9
  case hys9 => (intro w hSw; (try dsimp only at hSw); first | (go_simp; done) | (go_simp; with_reducible rfl))
  simp only [Act.put, List.setIfInBounds_toArray, List.set_cons_zero, List.set_cons_succ]
  refine take_yes (i := 10) (v := ?vs10) rfl (by kernel_rfl) (by kernel_rfl) (by kernel_rfl) (fun _ _ _ h => h) (by rfl) (by assumption) ?hys10 ?rests10
  case hys10 => (intro w hSw; (try dsimp only at hSw); first | (go_simp; done) | (go_simp; with_reducible rfl))
  simp only [Act.put, List.setIfInBounds_toArray, List.set_cons_zero, List.set_cons_succ]
  refine take_yes (i := 11) (v := ?vs11) rfl (by kernel_rfl) (by kernel_rfl) (by kernel_rfl) (fun _ _ _ h => h) (by rfl) (by assumption) ?hys11 ?rests11
  case hys11 => (intro w hSw; (try dsimp only at hSw); first | (go_simp; done) | (go_simp; with_reducible rfl))
  simp only [Act.put, List.setIfInBounds_toArray, List.set_cons_zero, List.set_cons_succ]
  refine wpAnyH_done (by kernel_rfl) ?_ _
  go_wp2_with (go_at_call 51; fail)
  refine (lw.mul_any x x R_x.out.1 R_x.out.2 R_x.out.1 R_x.out.2 _).mono ?_
  rintro e w1 ⟨rfl, bw1⟩
  have zbw1 := bw1.size
  replace BB := also BB bw1
  replace x_a := x_a.on bw1
  replace x_b := x_b.on bw1
  replace x_r := x_r.on bw1
  go_wp2_with (go_at_call 51; fail)
  refine (lw.mul_any y y R_y.out.1 R_y.out.2 R_y.out.1 R_y.out.2 _).mono ?_
  rintro e w2 ⟨rfl, bw2⟩
  have zbw2 := bw2.size
  replace BB := also BB bw2
  replace x_a := x_a.on bw2
  replace x_b := x_b.on bw2
  replace x_r := x_r.on bw2
  go_wp2_with (go_at_call 53; fail)
  refine (lw.add_any (x * x) (y * y) rfl rfl rfl rfl _).mono ?_
  rintro e w3 ⟨rfl, bw3⟩
  have zbw3 := bw3.size
  replace BB := also BB bw3
  replace x_a := x_a.on bw3
  replace x_b := x_b.on bw3
  replace x_r := x_r.on bw3
  have ⟨x_r_0, x_r_1, x_r_2, x_r_3⟩ := x_r
  go_wp2
  exact bodyPost_ret (v := .agg #[.int .i64 (lw.hi (x * x + y * y)), .int .u64 (lw.lo (x * x + y * y))]) (by simp [results, Try.results29, go_sem, *]) rfl (⟨by rw [HU.out, HV.out], below_put2 BB (by omega) _ _⟩)
end Go.Proofs.Ytlelbhiebmdnoaa

namespace Go.Proofs.Ytlelbhiebmdnoaa
open Go.RowKit
set_option linter.unusedVariables false

set_option maxRecDepth 100000 in
set_option maxHeartbeats 4000000 in
theorem pArea (a1 a2 b1 b2 c1 c2 : Int) (w : World) {u v : Int} (hu : u = lw.hi (arP a1 a2 b1 b2 c1 c2)) (hv : v = lw.lo (arP a1 a2 b1 b2 c1 c2)) :
    Calls Try.prog 9 #[.agg #[.int .i64 a1, .int .i64 a2], .agg #[.int .i64 b1, .int .i64 b2], .agg #[.int .i64 c1, .int .i64 c2]] w fun e w' => e = .returned (.agg #[.int .i64 u, .int .u64 v]) ∧ Below w.heap.size w w' := by
  cases hq : canAll [(a1, a2), (b1, b2), (c1, c2)]
  · skip
    obtain rfl : u = 0 := by rw [hu]; unfold arP; rw [hq]; rfl
    obtain rfl : v = 0 := by rw [hv]; unfold arP; rw [hq]; rfl
    clear hu hv
    have HQ : Hid _ := hq
    clear hq
    obtain ⟨W, hW, bW, x_a, x_b, x_c, x_r, sW⟩ := bs_2222 w (.int .i64 a1) (.int .i64 a2) (.int .i64 b1) (.int .i64 b2) (.int .i64 c1) (.int .i64 c2) (.int .i64 0) (.int .u64 0) 23 23 23 31
    have zbW := bW.size
    have BB := bW
    go_enter Try.func9, Try.ntmps9
    go_wp2_with (go_at_call 26; fail)
    have eV : W.heap.size = w.heap.size + 1 + 1 + 1 + 1 := by rw [hW]; simp
    rw [← hW]
    clear hW
    obtain ⟨V, hV⟩ : ∃ V, V = (W.alloc (.cells #[.int .i64 a1, .int .i64 a2, .int .i64 b1, .int .i64 b2, .int .i64 c1, .int .i64 c2] 23)) := ⟨_, rfl⟩
    rw [← hV]
    have bV : Below W.heap.size W V := by rw [hV]; exact (Below.refl _ _).alloc (Nat.le_refl _) _
    have rV : Row V W.heap.size [.int .i64 a1, .int .i64 a2, .int .i64 b1, .int .i64 b2, .int .i64 c1, .int .i64 c2] := by rw [hV]; exact Row.new _ _ _
    have lV : W.heap.size < V.heap.size := by rw [hV]; simp
    clear hV
    rw [eV] at rV lV
    have zbV := bV.size
    replace BB := also BB bV
    replace x_a := x_a.on bV
    replace x_b := x_b.on bV
    replace x_c := x_c.on bV
    replace x_r := x_r.on bV
    refine (pcan [(a1, a2), (b1, b2), (c1, c2)] 3 _ V rfl (by decide) rV lV HQ.out.symm).mono ?_
    rintro e w1 ⟨rfl, bw1⟩
    have zbw1 := bw1.size
    replace BB := also BB bw1
    replace x_a := x_a.on bw1
    replace x_b := x_b.on bw1
    replace x_c := x_c.on bw1
    replace x_r := x_r.on bw1
    have ⟨x_a_0, x_a_1, x_a_2, x_a_3⟩ := x_a
    have ⟨x_b_0, x_b_1, x_b_2, x_b_3⟩ := x_b
    have ⟨x_c_0, x_c_1, x_c_2, x_c_3⟩ := x_c
    have ⟨x_r_0, x_r_1, x_r_2, x_r_3⟩ := x_r
    go_wp2
    exact bodyPost_ret (v := .agg #[.int .i64 0, .int .u64 0]) (by simp [results, Try.results9, go_sem, *]) rfl (⟨rfl, below_put2 BB (by omega) _ _⟩)
  · skip
    obtain ⟨ha, hb, hc⟩ := can3.1 hq
    have HU : Hid (u = lw.hi (areaP a1 a2 b1 b2 c1 c2)) := by unfold Hid; rw [hu]; unfold arP; rw [hq]; rfl
    have HV : Hid (v = lw.lo (areaP a1 a2 b1 b2 c1 c2)) := by unfold Hid; rw [hv]; unfold arP; rw [hq]; rfl
    clear hu hv
    have HQ : Hid _ := hq
    clear hq
    obtain ⟨W, hW, bW, x_a, x_b, x_c, x_r, sW⟩ := bs_2222 w (.int .i64 a1) (.int .i64 a2) (.int .i64 b1) (.int .i64 b2) (.int .i64 c1) (.int .i64 c2) (.int .i64 0) (.int .u64 0) 23 23 23 31
    have zbW := bW.size
    have BB := bW
    go_enter Try.func9, Try.ntmps9
    go_wp2_with (go_at_call 26; fail)
    have eV : W.heap.size = w.heap.size + 1 + 1 + 1 + 1 := by rw [hW]; simp
    rw [← hW]
    clear hW
    obtain ⟨V, hV⟩ : ∃ V, V = (W.alloc (.cells #[.int .i64 a1, .int .i64 a2, .int .i64 b1, .int .i64 b2, .int .i64 c1, .int .i64 c2] 23)) := ⟨_, rfl⟩
    rw [← hV]
    have bV : Below W.heap.size W V := by rw [hV]; exact (Below.refl _ _).alloc (Nat.le_refl _) _
    have rV : Row V W.heap.size [.int .i64 a1, .int .i64 a2, .int .i64 b1, .int .i64 b2, .int .i64 c1, .int .i64 c2] := by rw [hV]; exact Row.new _ _ _
    have lV : W.heap.size < V.heap.size := by rw [hV]; simp
    clear hV
    rw [eV] at rV lV
    have zbV := bV.size
    replace BB := also BB bV
    replace x_a := x_a.on bV
    replace x_b := x_b.on bV
    replace x_c := x_c.on bV
    replace x_r := x_r.on bV
    refine (pcan [(a1, a2), (b1, b2), (c1, c2)] 3 _ V rfl (by decide) rV lV HQ.out.symm).mono ?_
    rintro e w1 ⟨rfl, bw1⟩
    have zbw1 := bw1.size
    replace BB := also BB bw1
    replace x_a := x_a.on bw1
    replace x_b := x_b.on bw1
    replace x_c := x_c.on bw1
    replace x_r := x_r.on bw1
    have ⟨x_a_0, x_a_1, x_a_2, x_a_3⟩ := x_a
    have ⟨x_b_0, x_b_1, x_b_2, x_b_3⟩ := x_b
    have ⟨x_c_0, x_c_1, x_c_2, x_c_3⟩ := x_c
    have ⟨x_r_0, x_r_1, x_r_2, x_r_3⟩ := x_r
    go_wp2_with (go_at_call 27; fail)
    refine (parea a1 a2 b1 b2 c1 c2 w1 ha hb hc HU.out HV.out).mono ?_
    rintro e w2 ⟨rfl, bw2⟩
    clear x_a_0 x_a_1 x_a_2 x_a_3 x_b_0 x_b_1 x_b_2 x_b_3 x_c_0 x_c_1 x_c_2 x_c_3 x_r_0 x_r_1 x_r_2 x_r_3
    have zbw2 := bw2.size
    replace BB := also BB bw2
    replace x_a := x_a.on bw2
    replace x_b := x_b.on bw2
    replace x_c := x_c.on bw2
    replace x_r := x_r.on bw2
    have ⟨x_r_0, x_r_1, x_r_2, x_r_3⟩ := x_r
    go_wp2
    exact bodyPost_ret (v := .agg #[.int .i64 u, .int .u64 v]) (by simp [results, Try.results9, go_sem, *]) rfl (⟨rfl, below_put2 BB (by omega) _ _⟩)
set_option maxRecDepth 100000 in
set_option maxHeartbeats 4000000 in
theorem pDist (a1 a2 b1 b2 : Int) (w : World) {u v : Int} (hu : u = lw.hi (diP a1 a2 b1 b2)) (hv : v = lw.lo (diP a1 a2 b1 b2)) :
    Calls Try.prog 11 #[.agg #[.int .i64 a1, .int .i64 a2], .agg #[.int .i64 b1, .int .i64 b2]] w fun e w' => e = .returned (.agg #[.int .i64 u, .int .u64 v]) ∧ Below w.heap.size w w' := by
  cases hq : canAll [(a1, a2), (b1, b2)]
  · skip
    obtain rfl : u = 0 := by rw [hu]; unfold diP; rw [hq]; rfl
    obtain rfl : v = 0 := by rw [hv]; unfold diP; rw [hq]; rfl
    clear hu hv
    have HQ : Hid _ := hq
    clear hq
    obtain ⟨W, hW, bW, x_a, x_b, x_r, sW⟩ := bs_222 w (.int .i64 a1) (.int .i64 a2) (.int .i64 b1) (.int .i64 b2) (.int .i64 0) (.int .u64 0) 23 23 31
    have zbW := bW.size
    have BB := bW
    go_enter Try.func11, Try.ntmps11
    go_wp2_with (go_at_call 26; fail)
    have eV : W.heap.size = w.heap.size + 1 + 1 + 1 := by rw [hW]; simp
    rw [← hW]
    clear hW
    obtain ⟨V, hV⟩ : ∃ V, V = (W.alloc (.cells #[.int .i64 a1, .int .i64 a2, .int .i64 b1, .int .i64 b2] 23)) := ⟨_, rfl⟩
    rw [← hV]
    have bV : Below W.heap.size W V := by rw [hV]; exact (Below.refl _ _).alloc (Nat.le_refl _) _
    have rV : Row V W.heap.size [.int .i64 a1, .int .i64 a2, .int .i64 b1, .int .i64 b2] := by rw [hV]; exact Row.new _ _ _
    have lV : W.heap.size < V.heap.size := by rw [hV]; simp
    clear hV
    rw [eV] at rV lV
    have zbV := bV.size
    replace BB := also BB bV
    replace x_a := x_a.on bV
    replace x_b := x_b.on bV
    replace x_r := x_r.on bV
    refine (pcan [(a1, a2), (b1, b2)] 2 _ V rfl (by decide) rV lV HQ.out.symm).mono ?_
    rintro e w1 ⟨rfl, bw1⟩
    have zbw1 := bw1.size
    replace BB := also BB bw1
    replace x_a := x_a.on bw1
    replace x_b := x_b.on bw1
    replace x_r := x_r.on bw1
    have ⟨x_a_0, x_a_1, x_a_2, x_a_3⟩ := x_a
    have ⟨x_b_0, x_b_1, x_b_2, x_b_3⟩ := x_b
    have ⟨x_r_0, x_r_1, x_r_2, x_r_3⟩ := x_r
    go_wp2
    exact bodyPost_ret (v := .agg #[.int .i64 0, .int .u64 0]) (by simp [results, Try.results11, go_sem, *]) rfl (⟨rfl, below_put2 BB (by omega) _ _⟩)
  · skip
    obtain ⟨ha, hb⟩ := can2.1 hq
    have HU : Hid (u = lw.hi (distP a1 a2 b1 b2)) := by unfold Hid; rw [hu]; unfold diP; rw [hq]; rfl
    have HV : Hid (v = lw.lo (distP a1 a2 b1 b2)) := by unfold Hid; rw [hv]; unfold diP; rw [hq]; rfl
    clear hu hv
    have HQ : Hid _ := hq
    clear hq
    obtain ⟨W, hW, bW, x_a, x_b, x_r, sW⟩ := bs_222 w (.int .i64 a1) (.int .i64 a2) (.int .i64 b1) (.int .i64 b2) (.int .i64 0) (.int .u64 0) 23 23 31
    have zbW := bW.size
    have BB := bW
    go_enter Try.func11, Try.ntmps11
    go_wp2_with (go_at_call 26; fail)
    have eV : W.heap.size = w.heap.size + 1 + 1 + 1 := by rw [hW]; simp
    rw [← hW]
    clear hW
    obtain ⟨V, hV⟩ : ∃ V, V = (W.alloc (.cells #[.int .i64 a1, .int .i64 a2, .int .i64 b1, .int .i64 b2] 23)) := ⟨_, rfl⟩
    rw [← hV]
    have bV : Below W.heap.size W V := by rw [hV]; exact (Below.refl _ _).alloc (Nat.le_refl _) _
    have rV : Row V W.heap.size [.int .i64 a1, .int .i64 a2, .int .i64 b1, .int .i64 b2] := by rw [hV]; exact Row.new _ _ _
    have lV : W.heap.size < V.heap.size := by rw [hV]; simp
    clear hV
    rw [eV] at rV lV
    have zbV := bV.size
    replace BB := also BB bV
    replace x_a := x_a.on bV
    replace x_b := x_b.on bV
    replace x_r := x_r.on bV
    refine (pcan [(a1, a2), (b1, b2)] 2 _ V rfl (by decide) rV lV HQ.out.symm).mono ?_
    rintro e w1 ⟨rfl, bw1⟩
    have zbw1 := bw1.size
    replace BB := also BB bw1
    replace x_a := x_a.on bw1
    replace x_b := x_b.on bw1
    replace x_r := x_r.on bw1
    have ⟨x_a_0, x_a_1, x_a_2, x_a_3⟩ := x_a
    have ⟨x_b_0, x_b_1, x_b_2, x_b_3⟩ := x_b
    have ⟨x_r_0, x_r_1, x_r_2, x_r_3⟩ := x_r
    go_wp2_with (go_at_call 29; fail)
    refine (pdist a1 a2 b1 b2 w1 ha hb HU.out HV.out).mono ?_
    rintro e w2 ⟨rfl, bw2⟩
    clear x_a_0 x_a_1 x_a_2 x_a_3 x_b_0 x_b_1 x_b_2 x_b_3 x_r_0 x_r_1 x_r_2 x_r_3
    have zbw2 := bw2.size
    replace BB := also BB bw2
    replace x_a := x_a.on bw2
    replace x_b := x_b.on bw2
    replace x_r := x_r.on bw2
    have ⟨x_r_0, x_r_1, x_r_2, x_r_3⟩ := x_r
    go_wp2
    exact bodyPost_ret (v := .agg #[.int .i64 u, .int .u64 v]) (by simp [results, Try.results11, go_sem, *]) rfl (⟨rfl, below_put2 BB (by omega) _ _⟩)
set_option maxRecDepth 100000 in
set_option maxHeartbeats 4000000 in
theorem pturn (a1 a2 b1 b2 c1 c2 : Int) (w : World) (ha : canC a1 a2 = true) (hb : canC b1 b2 = true) (hc : canC c1 c2 = true) {g : Int} (hg : g = (areaP a1 a2 b1 b2 c1 c2).sign) :
    Calls Try.prog 42 #[.agg #[.int .i64 a1, .int .i64 a2], .agg #[.int .i64 b1, .int .i64 b2], .agg #[.int .i64 c1, .int .i64 c2]] w fun e w' => e = .returned (.int .i64 g) ∧ Below w.heap.size w w' := by
  have hw := area_wide ha hb hc
  have HW : Hid (-170141183460469231731687303715884105728 ≤ areaP a1 a2 b1 b2 c1 c2 ∧ areaP a1 a2 b1 b2 c1 c2 < 170141183460469231731687303715884105728) := ⟨by omega, by omega⟩
  clear hw
  rw [← lw_sign] at hg
  have HG : Hid _ := hg
  clear hg
  obtain ⟨u, hu⟩ : ∃ u, u = lw.hi (areaP a1 a2 b1 b2 c1 c2) := ⟨_, rfl⟩
  obtain ⟨v, hv⟩ : ∃ v, v = lw.lo (areaP a1 a2 b1 b2 c1 c2) := ⟨_, rfl⟩
  have HU : Hid _ := hu
  have HV : Hid _ := hv
  clear hu hv
  obtain ⟨W, hW, bW, x_a, x_b, x_c, sW⟩ := bs_222 w (.int .i64 a1) (.int .i64 a2) (.int .i64 b1) (.int .i64 b2) (.int .i64 c1) (.int .i64 c2) 23 23 23
  have zbW := bW.size
  have BB := bW
  go_enter Try.func42, Try.ntmps42
  go_wp2_with (go_at_call 27; fail)
  rw [← hW]
  clear hW
  refine (parea a1 a2 b1 b2 c1 c2 W ha hb hc HU.out HV.out).mono ?_
  rintro e w1 ⟨rfl, bw1⟩
  have zbw1 := bw1.size
  replace BB := also BB bw1
  replace x_a := x_a.on bw1
  replace x_b := x_b.on bw1
  replace x_c := x_c.on bw1
  go_wp2_with (go_at_call 28; fail)
  refine (lw.sign_any (areaP a1 a2 b1 b2 c1 c2) HU.out HV.out HW.out.1 HW.out.2 w1).mono ?_
  rintro e w2 ⟨rfl, bw2⟩
  have zbw2 := bw2.size
  replace BB := also BB bw2
  replace x_a := x_a.on bw2
  replace x_b := x_b.on bw2
  replace x_c := x_c.on bw2
  go_wp2
  go_ret
  exact ⟨by rw [HG.out]; rfl, BB⟩
set_option maxRecDepth 100000 in
set_option maxHeartbeats 4000000 in
theorem pOrient (a1 a2 b1 b2 c1 c2 : Int) (w : World) {g : Int} (hg : g = (arP a1 a2 b1 b2 c1 c2).sign) :
    Calls Try.prog 10 #[.agg #[.int .i64 a1, .int .i64 a2], .agg #[.int .i64 b1, .int .i64 b2], .agg #[.int .i64 c1, .int .i64 c2]] w fun e w' => e = .returned (.int .i64 g) ∧ Below w.heap.size w w' := by
  have hw := ar_wide a1 a2 b1 b2 c1 c2
  have HW : Hid (-170141183460469231731687303715884105728 ≤ arP a1 a2 b1 b2 c1 c2 ∧ arP a1 a2 b1 b2 c1 c2 < 170141183460469231731687303715884105728) := ⟨by omega, by omega⟩
  clear hw
  rw [← lw_sign] at hg
  have HG : Hid _ := hg
  clear hg
  obtain ⟨u, hu⟩ : ∃ u, u = lw.hi (arP a1 a2 b1 b2 c1 c2) := ⟨_, rfl⟩
  obtain ⟨v, hv⟩ : ∃ v, v = lw.lo (arP a1 a2 b1 b2 c1 c2) := ⟨_, rfl⟩
  have HU : Hid _ := hu
  have HV : Hid _ := hv
  clear hu hv
  obtain ⟨W, hW, bW, x_a, x_b, x_c, sW⟩ := bs_222 w (.int .i64 a1) (.int .i64 a2) (.int .i64 b1) (.int .i64 b2) (.int .i64 c1) (.int .i64 c2) 23 23 23
  have zbW := bW.size
  have BB := bW
  go_enter Try.func10, Try.ntmps10
  go_wp2_with (go_at_call 9; fail)
  rw [← hW]
  clear hW
  refine (pArea a1 a2 b1 b2 c1 c2 W HU.out HV.out).mono ?_
  rintro e w1 ⟨rfl, bw1⟩
  have zbw1 := bw1.size
  replace BB := also BB bw1
  replace x_a := x_a.on bw1
  replace x_b := x_b.on bw1
  replace x_c := x_c.on bw1
  go_wp2_with (go_at_call 28; fail)
  refine (lw.sign_any (arP a1 a2 b1 b2 c1 c2) HU.out HV.out HW.out.1 HW.out.2 w1).mono ?_
  rintro e w2 ⟨rfl, bw2⟩
  have zbw2 := bw2.size
  replace BB := also BB bw2
  replace x_a := x_a.on bw2
  replace x_b := x_b.on bw2
  replace x_c := x_c.on bw2
  go_wp2
  go_ret
  exact ⟨by rw [HG.out]; rfl, BB⟩
end Go.Proofs.Ytlelbhiebmdnoaa

namespace Go.Proofs.Ytlelbhiebmdnoaa
open Go.RowKit
set_option linter.unusedVariables false

/-- A function, changed at one place. -/
def upd {α : Type} (f : Nat → α) (i : Nat) (x : α) : Nat → α := fun j => if j = i then x else f j
theorem upd_same {α : Type} (f : Nat → α) (i : Nat) (x : α) : upd f i x i = x := by unfold upd; rw [if_pos rfl]
theorem upd_other {α : Type} (f : Nat → α) (i j : Nat) (x : α) (h : j ≠ i) : upd f i x j = f j := by unfold upd; rw [if_neg h]
/-- What is told of a result x (number j): R: what holds of it in the memory; A: which blocks it is apart from. R stays where old blocks stay, and a result is apart from blocks to come. -/
def GoodSp (Sp : Nat → Value → (World → Prop) → (Nat → Prop) → Prop) : Prop := ∀ j x R A, Sp j x R A → (∀ w w', R w → Below w.heap.size w w' → R w') ∧ ∀ w k, R w → w.heap.size ≤ k → A k
def nb (x : Bool) : Nat := match x with | true => 0 | false => 1
/-- b: which calls are done; e: which blocks are made, p: where; u, R, A: what a call told; v: the blocks' pointers. -/
structure Mk (U : World) (Z : Nat → List Value) (Sp : Nat → Value → (World → Prop) → (Nat → Prop) → Prop) (b e : Nat → Bool) (p : Nat → Nat) (R : Nat → World → Prop) (A : Nat → Nat → Prop) (u v : Nat → Value) (w : World) : Prop where
  spec : ∀ j, b j = true → Sp j (u j) (R j) (A j)
  res : ∀ j, b j = true → R j w
  ptr : ∀ i, e i = true → v i = .pointer (some ⟨p i, 0, none⟩)
  blk : ∀ i, e i = true → Row w (p i) (Z i)
  old : ∀ i, e i = true → U.heap.size ≤ p i
  lt : ∀ i, e i = true → p i < w.heap.size
  ne : ∀ i j, e i = true → e j = true → i ≠ j → p i ≠ p j
  ap : ∀ i j, e i = true → b j = true → A j (p i)
  bel : Below U.heap.size U w
variable {U : World} {Z : Nat → List Value} {Sp : Nat → Value → (World → Prop) → (Nat → Prop) → Prop} {b e : Nat → Bool} {p : Nat → Nat} {R : Nat → World → Prop} {A : Nat → Nat → Prop} {u v : Nat → Value} {w w' : World}
theorem Mk.start (U : World) (Z : Nat → List Value) (Sp : Nat → Value → (World → Prop) → (Nat → Prop) → Prop) {w : World} (h : Below U.heap.size U w) : Mk U Z Sp (fun _ => false) (fun _ => false) (fun _ => 0) (fun _ _ => True) (fun _ _ => True) (fun _ => undef) (fun _ => undef) w :=
  ⟨fun _ h => Bool.noConfusion h, fun _ h => Bool.noConfusion h, fun _ h => Bool.noConfusion h, fun _ h => Bool.noConfusion h, fun _ h => Bool.noConfusion h, fun _ h => Bool.noConfusion h, fun _ _ h => Bool.noConfusion h, fun _ _ h => Bool.noConfusion h, h⟩
theorem Mk.call (h : Mk U Z Sp b e p R A u v w) (hG : GoodSp Sp) (j : Nat) (hb : Below w.heap.size w w') (x : Value) (R' : World → Prop) (A' : Nat → Prop) (hs : Sp j x R' A') (hR : R' w') (hin : ∀ i, e i = true → A' (p i)) :
    Mk U Z Sp (upd b j true) e p (upd R j R') (upd A j A') (upd u j x) v w' := by
  refine ⟨fun i hi => ?_, fun i hi => ?_, h.ptr, fun i hi => (h.blk i hi).below hb (h.lt i hi), h.old, fun i hi => Nat.lt_of_lt_of_le (h.lt i hi) hb.size, h.ne, fun i k hi hk => ?_, also h.bel hb⟩
  · by_cases q : i = j
    · subst q; simp only [upd_same]; exact hs
    · rw [upd_other _ _ _ _ q] at hi; simp only [upd_other _ _ _ _ q]; exact h.spec i hi
  · by_cases q : i = j
    · subst q; simp only [upd_same]; exact hR
    · rw [upd_other _ _ _ _ q] at hi; simp only [upd_other _ _ _ _ q]; exact (hG _ _ _ _ (h.spec i hi)).1 _ _ (h.res i hi) hb
  · by_cases q : k = j
    · subst q; simp only [upd_same]; exact hin i hi
    · rw [upd_other _ _ _ _ q] at hk; simp only [upd_other _ _ _ _ q]; exact h.ap i k hi hk
theorem Mk.alloc (h : Mk U Z Sp b e p R A u v w) (hG : GoodSp Sp) (i : Nat) (t : TypeId) (hi : e i = false) :
    Mk U Z Sp b (upd e i true) (upd p i w.heap.size) R A u (upd v i (.pointer (some ⟨w.heap.size, 0, none⟩))) (w.alloc (.cells (Z i).toArray t)) := by
  have hb : Below w.heap.size w (w.alloc (.cells (Z i).toArray t)) := (Below.refl _ _).alloc (Nat.le_refl _) _
  refine ⟨h.spec, fun j hj => (hG _ _ _ _ (h.spec j hj)).1 _ _ (h.res j hj) hb, fun k hk => ?_, fun k hk => ?_, fun k hk => ?_, fun k hk => ?_, fun k m hk hm hne => ?_, fun k j hk hj => ?_, also h.bel hb⟩
  · by_cases q : k = i
    · subst q; simp only [upd_same]
    · rw [upd_other _ _ _ _ q] at hk; simp only [upd_other _ _ _ _ q]; exact h.ptr k hk
  · by_cases q : k = i
    · subst q; simp only [upd_same]; exact Row.new _ _ _
    · rw [upd_other _ _ _ _ q] at hk; simp only [upd_other _ _ _ _ q]; exact (h.blk k hk).below hb (h.lt k hk)
  · by_cases q : k = i
    · subst q; simp only [upd_same]; exact h.bel.size
    · rw [upd_other _ _ _ _ q] at hk; simp only [upd_other _ _ _ _ q]; exact h.old k hk
  · by_cases q : k = i
    · subst q; simp only [upd_same]; simp
    · rw [upd_other _ _ _ _ q] at hk; simp only [upd_other _ _ _ _ q]; exact Nat.lt_of_lt_of_le (h.lt k hk) hb.size
  · by_cases q : k = i
    · subst q
      rw [upd_other _ _ _ _ (fun x => hne x.symm)] at hm
      simp only [upd_same, upd_other _ _ _ _ (fun x => hne x.symm)]
      exact Nat.ne_of_gt (h.lt m hm)
    · rw [upd_other _ _ _ _ q] at hk
      by_cases q2 : m = i
      · subst q2; simp only [upd_same, upd_other _ _ _ _ q]; exact Nat.ne_of_lt (h.lt k hk)
      · rw [upd_other _ _ _ _ q2] at hm; simp only [upd_other _ _ _ _ q, upd_other _ _ _ _ q2]; exact h.ne k m hk hm hne
  · by_cases q : k = i
    · subst q; simp only [upd_same]; exact (hG _ _ _ _ (h.spec j hj)).2 _ _ (h.res j hj) (Nat.le_refl _)
    · rw [upd_other _ _ _ _ q] at hk; simp only [upd_other _ _ _ _ q]; exact h.ap k j hk hj
theorem bx_row {w : World} {k : Nat} {x y : Value} (h : Row w k [x, y]) : Bx w k x y := ⟨(h 0 x rfl).1, (h 1 y rfl).1, (h 0 x rfl).2, (h 1 y rfl).2⟩
variable {P : Program} {md : Region.Mode} {Q : Exit → Act → World → Prop} {S : World → Prop}
theorem ready_at {l : List Oper} {L : Array Bool} {i : Nat} (hi : i ∈ Region.ready md l.toArray L) : i < l.length ∧ L.getD i true = false ∧ ∀ o, l[i]? = some o → ∀ (k : Nat) x, o.after[k]? = some x → Region.binds md x = true → L.getD x.on false = true := by
  unfold Region.ready at hi
  rw [List.mem_filter, List.mem_range, Bool.and_eq_true_iff] at hi
  obtain ⟨h1, h2, h3⟩ := hi
  refine ⟨by simpa using h1, by simpa using h2, fun o ho k x hx hb => ?_⟩
  have ho' : l.toArray[i]? = some o := by simpa using ho
  rw [ho'] at h3
  simp only [Option.map_some, Option.getD_some] at h3
  obtain ⟨hk, rfl⟩ := Array.getElem?_eq_some_iff.1 hx
  have := Array.all_eq_true.1 h3 k hk
  rw [hb] at this
  simpa using this
theorem ready_ne {l : List Oper} {L : Array Bool} {i : Nat} (hi : i < l.length) (h : (!L.getD i true && ((l.toArray[i]?).map (·.after.all fun e => !Region.binds md e || L.getD e.on false)).getD false) = true) : Region.ready md l.toArray L ≠ [] := by
  intro e
  have : i ∈ Region.ready md l.toArray L := by
    unfold Region.ready
    rw [List.mem_filter, List.mem_range]
    exact ⟨by simpa using hi, h⟩
  rw [e] at this
  cases this
/-- By an invariant through a part of the region: at each state either the rest goes by itself, or some operation is ready and each one that is leads on. -/
theorem phase {l : List Oper} (Inv : Nat → Array Bool → Act → World → Prop)
    (hstep : ∀ f L a w, Inv f L a w → wpAnyH P md l.toArray Q S f L a w ∨ ∃ g, f = g + 1 ∧ Region.ready md l.toArray L ≠ [] ∧ ∀ i ∈ Region.ready md l.toArray L, ∃ o, l[i]? = some o ∧ ∀ K' : Act → World → Prop, Shut (∀ a w, S w → Inv g (L.setIfInBounds i true) a w → K' a w) → if Region.wanted o (yielded l.toArray a.tmps) = true then Oper.wp P o a w K' Q else K' (a.put o.dst undef) w) :
    ∀ f L a w, Inv f L a w → wpAnyH P md l.toArray Q S f L a w := by
  intro f
  induction f with
  | zero =>
    intro L a w h
    rcases hstep 0 L a w h with h | ⟨g, hg, _⟩
    · exact h
    · omega
  | succ f ih =>
    intro L a w h
    rcases hstep (f + 1) L a w h with h | ⟨g, hg, hne, hall⟩
    · exact h
    · obtain rfl : f = g := by omega
      refine ⟨fun e => absurd e hne, fun i hi => ?_⟩
      obtain ⟨o, ho, ho2⟩ := hall i hi
      exact wpOp_step (by simpa using ho) (fun K' hK => ho2 K' (fun a w hS hI => hK a w ⟨hS, ih _ a w hI⟩))
end Go.Proofs.Ytlelbhiebmdnoaa

namespace Go.Proofs.Ytlelbhiebmdnoaa
open Go.RowKit
set_option linter.unusedVariables false

theorem hf_top_eq {u v m k : Nat} (hk : k ≤ m) (hu : u < 65536 ^ m) (hv : v < 65536 ^ m) (h : ∀ j, k ≤ j → j < m → hf.dg (u : Int) j = hf.dg (v : Int) j) : u / 65536 ^ k = v / 65536 ^ k := by
  have hlt : ∀ x : Nat, x < 65536 ^ m → x / 65536 ^ k < 65536 ^ (m - k) := fun x hx => by
    refine Nat.div_lt_of_lt_mul ?_
    rw [← Nat.pow_add, show k + (m - k) = m by omega]
    exact hx
  refine hf.eq_of_dcells (m - k) _ _ (hlt u hu) (hlt v hv) fun j hj => ?_
  rw [Int.natCast_ediv, Int.natCast_ediv, hf.pow_cast, hf.dg_div, hf.dg_div]
  exact h _ (by omega) (by omega)
theorem cmpI_lt {x y : Int} (h : x < y) : cmpI x y = -1 := by unfold cmpI; rw [if_pos h]
theorem cmpI_gt {x y : Int} (h : y < x) : cmpI x y = 1 := by unfold cmpI; rw [if_neg (by omega), if_pos h]

set_option maxRecDepth 100000 in
set_option maxHeartbeats 1000000 in
theorem rcmp_any (a b : Option Addr) (ca cb u v : Nat) (w : World) (ha : Sl w a (hf.nlen u) ca (hf.dcells (hf.nlen u) (u : Int))) (hb : Sl w b (hf.nlen v) cb (hf.dcells (hf.nlen v) (v : Int))) :
    Calls Try.prog 57 #[.slice a (hf.nlen u) ca, .slice b (hf.nlen v) cb] w fun e w' => e = .returned (.int .i64 (cmpI u v)) ∧ Below w.heap.size w w' := by
  have k1 := ha.big
  have k2 := ha.room
  have k3 := hb.big
  have k4 := hb.room
  unfold maxLen at k1 k3
  rcases Nat.lt_trichotomy (hf.nlen u) (hf.nlen v) with h | h | h
  · have HC : Hid (cmpI u v = -1) := cmpI_lt (by have := hf.lt_of_nlen h; omega)
    go_enter Try.func57, Try.ntmps57
    go_wp2
    go_ret
    exact ⟨by rw [HC.out]; rfl, (by first | exact Below.refl _ _ | exact below_drewN (Below.refl _ _) _ | exact below_drewN (below_drewN (Below.refl _ _) _) _ | exact below_drewN (below_drewN (below_drewN (Below.refl _ _) _) _) _)⟩
  · obtain ⟨m, hm⟩ : ∃ m, hf.nlen u = m := ⟨_, rfl⟩
    have hv := hf.nlen_lt v
    have hu := hf.nlen_lt u
    rw [← h] at hb hv k4 ⊢
    rw [hm] at ha hb hu hv k2 k4 ⊢
    have HU : Hid _ := hu
    have HV : Hid _ := hv
    clear hm hu hv h
    go_enter Try.func57, Try.ntmps57
    go_wp2
    go_loopw [5] (fun i wr => ∃ r : Nat, r ≤ m ∧ i = .int .i64 ((r : Int) - 1) ∧ Hid (∀ j, r ≤ j → j < m → hf.dg (u : Int) j = hf.dg (v : Int) j) ∧ ∃ n, wr = w.drewN n) (fun i _ => (intOf i + 1).toNat)
    case atStart => exact ⟨m, Nat.le_refl _, rfl, fun j h1 h2 => absurd h1 (by omega), 0, rfl⟩
    case round =>
      obtain ⟨r, hr, rfl, HR, n, rfl⟩ := hrel
      rcases r with _ | q
      · have HE : Hid (cmpI u v = 0) := by
          obtain rfl : u = v := hf.eq_of_dcells m u v HU.out HV.out (fun j hj => HR.out j (Nat.zero_le _) hj)
          exact cmpI_self _
        go_wp2
        go_ret
        exact ⟨by rw [HE.out]; rfl, (by first | exact Below.refl _ _ | exact below_drewN (Below.refl _ _) _ | exact below_drewN (below_drewN (Below.refl _ _) _) _ | exact below_drewN (below_drewN (below_drewN (Below.refl _ _) _) _) _)⟩
      · obtain ⟨ba, oa, rfl, hba, hsa⟩ := ha.at (by omega)
        obtain ⟨bb, ob, rfl, hbb, hsb⟩ := hb.at (by omega)
        have c1 : w.cell? ⟨ba, oa + q, none⟩ = some (.int .i64 (hf.dg u q)) := hsa.cell q _ (hf.dcells_at _ _ _ (by omega))
        have c2 : w.cell? ⟨bb, ob + q, none⟩ = some (.int .i64 (hf.dg v q)) := hsb.cell q _ (hf.dcells_at _ _ _ (by omega))
        have HT : Hid (u / 65536 ^ (q + 1) = v / 65536 ^ (q + 1)) := hf_top_eq (by omega) HU.out HV.out HR.out
        have e1 : ((q + 1 : Nat) : Int) - 1 = (q : Int) := by omega
        obtain ⟨X, hX⟩ : ∃ X, hf.dg (u : Int) q = X := ⟨_, rfl⟩
        obtain ⟨Y, hY⟩ : ∃ Y, hf.dg (v : Int) q = Y := ⟨_, rfl⟩
        rcases Int.lt_trichotomy X Y with l | l | l
        · have HC : Hid (cmpI u v = -1) := cmpI_lt (by have := hf.lt_of_top HT.out (by rw [hX, hY]; exact l); omega)
          rw [hX] at c1
          rw [hY] at c2
          clear hX hY
          go_wp2
          go_quiet (fail)
          go_wp2
          go_ret
          exact ⟨by rw [HC.out]; rfl, (by first | exact Below.refl _ _ | exact below_drewN (Below.refl _ _) _ | exact below_drewN (below_drewN (Below.refl _ _) _) _ | exact below_drewN (below_drewN (below_drewN (Below.refl _ _) _) _) _)⟩
        · have HQ : Hid (∀ j, q ≤ j → j < m → hf.dg (u : Int) j = hf.dg (v : Int) j) := fun j h1 h2 => by
            rcases Nat.lt_or_ge q j with h3 | h3
            · exact HR.out j h3 h2
            · obtain rfl : j = q := by omega
              rw [hX, hY, l]
          have l1 : ¬ X < Y := by omega
          have l2 : ¬ Y < X := by omega
          rw [hX] at c1
          rw [hY] at c2
          clear hX hY l
          go_wp2
          go_quiet (fail)
          go_wp2
          go_quiet (fail)
          go_wp2
          go_roundw
          case rel => exact ⟨q, by omega, by go_num, HQ.out, _, rfl⟩
          case measure => simp [intOf]
        · have HC : Hid (cmpI u v = 1) := cmpI_gt (by have := hf.lt_of_top HT.out.symm (by rw [hX, hY]; exact l); omega)
          have l1 : ¬ X < Y := by omega
          rw [hX] at c1
          rw [hY] at c2
          clear hX hY
          go_wp2
          go_quiet (fail)
          go_wp2
          go_quiet (fail)
          go_wp2
          go_ret
          exact ⟨by rw [HC.out]; rfl, (by first | exact Below.refl _ _ | exact below_drewN (Below.refl _ _) _ | exact below_drewN (below_drewN (Below.refl _ _) _) _ | exact below_drewN (below_drewN (below_drewN (Below.refl _ _) _) _) _)⟩
  · have HC : Hid (cmpI u v = 1) := cmpI_gt (by have := hf.lt_of_nlen h; omega)
    have h' : ¬ (hf.nlen u : Int) < hf.nlen v := by omega
    go_enter Try.func57, Try.ntmps57
    go_wp2
    go_ret
    exact ⟨by rw [HC.out]; rfl, (by first | exact Below.refl _ _ | exact below_drewN (Below.refl _ _) _ | exact below_drewN (below_drewN (Below.refl _ _) _) _ | exact below_drewN (below_drewN (below_drewN (Below.refl _ _) _) _) _)⟩

/-- One digit more behind those that one has. -/
theorem push_next {w wr w2 w4 : World} {k cap cap' g' : Nat} {a : Option Addr} {V x : Int} (hx : x = hf.dg V k) (hown : Own wr w.heap.size 3 a k cap (hf.dcells k V)) (hbel : Below w.heap.size w wr)
    (h4 : w4.ownsRow w.heap.size 3 1 (.slice (some ⟨g', 0, none⟩) (k + 1) cap') (k + 1) (hf.dcells k V ++ [.int .i64 x]))
    (h2 : Below wr.heap.size wr w2) (hgr : w2.grownBy w4 (Value.slice a k cap).ownBlock) : Own w4 w.heap.size 3 (some ⟨g', 0, none⟩) (k + 1) cap' (hf.dcells (k + 1) V) ∧ Below w.heap.size w w4 := by
  have hs := hbel.size
  refine ⟨?_, (hbel.trans (h2.mono hs)).grown hgr (by have := h2.size; omega) (fun k' hk' => (World.ownsRow.lt hown k' hk').1)⟩
  rw [hf.dcells_succ, ← hx]
  exact h4
/-- What holds at the head of each round of the sum's loop. -/
def RAddRel (w : World) (u v l : Nat) (o c i : Value) (wr : World) : Prop := ∃ (k cap : Nat) (ao : Option Addr), k ≤ l ∧ i = .int .i64 (k : Int) ∧ c = .int .i64 (hf.carry u v k) ∧ o = .slice ao k cap ∧ Own wr w.heap.size 3 ao k cap (hf.dcells k ((u : Int) + v)) ∧ Below w.heap.size w wr
theorem radd_next {w wr w2 w4 : World} {u v l k cap cap' g' : Nat} {ao : Option Addr} {x : Int} (hk : k < l) (hx : x = hf.carry u v k + hf.dg u k + hf.dg v k) (hown : Own wr w.heap.size 3 ao k cap (hf.dcells k ((u : Int) + v))) (hbel : Below w.heap.size w wr)
    (h4 : w4.ownsRow w.heap.size 3 1 (.slice (some ⟨g', 0, none⟩) (k + 1) cap') (k + 1) (hf.dcells k ((u : Int) + v) ++ [.int .i64 (x % 65536)]))
    (h2 : Below wr.heap.size wr w2) (hgr : w2.grownBy w4 (Value.slice ao k cap).ownBlock) : RAddRel w u v l (.slice (some ⟨g', 0, none⟩) (k + 1) cap') (.int .i64 (x / 65536)) (.int .i64 ((k : Int) + 1)) w4 := by
  obtain ⟨h5, h6⟩ := push_next (x := x % 65536) (by rw [hx, hf.add_digit]) hown hbel h4 h2 hgr
  exact ⟨k + 1, cap', _, hk, by simp, by rw [hf.carry_succ, hx], rfl, h5, h6⟩

set_option maxRecDepth 100000 in
set_option maxHeartbeats 2000000 in
theorem radd_any (a b : Option Addr) (ca cb u v : Nat) (w : World) (ha : Sl w a (hf.nlen u) ca (hf.dcells (hf.nlen u) (u : Int))) (hb : Sl w b (hf.nlen v) cb (hf.dcells (hf.nlen v) (v : Int))) (hlu : hf.nlen u ≤ 1000000000) (hlv : hf.nlen v ≤ 1000000000) :
    Calls Try.prog 56 #[.slice a (hf.nlen u) ca, .slice b (hf.nlen v) cb] w fun e w' => ∃ a' cap', e = .returned (.slice a' (hf.nlen (u + v)) cap') ∧ Own w' w.heap.size 3 a' (hf.nlen (u + v)) cap' (hf.dcells (hf.nlen (u + v)) ((u + v : Nat) : Int)) ∧ Below w.heap.size w w' := by
  obtain ⟨i0, hi0, hz0, hz1, hz2⟩ := info_parts infoInt
  have hown0 := own_empty w w.heap.size 3 (Nat.le_refl _)
  have hu := hf.nlen_lt u
  have hv := hf.nlen_lt v
  obtain ⟨lu, hlu'⟩ : ∃ l, hf.nlen u = l := ⟨_, rfl⟩
  obtain ⟨lv, hlv'⟩ : ∃ l, hf.nlen v = l := ⟨_, rfl⟩
  rw [hlu'] at ha hlu hu ⊢
  rw [hlv'] at hb hlv hv ⊢
  obtain ⟨L, hL1, hL2, hL3⟩ : ∃ L, lu ≤ L ∧ lv ≤ L ∧ (L ≤ lu ∨ L ≤ lv) := ⟨max lu lv, by omega, by omega, by omega⟩
  have HU : Hid (∀ k, lu ≤ k → hf.dg (u : Int) k = 0) := fun k hk => hf.dg_over (Nat.lt_of_lt_of_le hu (Nat.pow_le_pow_right (by decide) hk))
  have HV : Hid (∀ k, lv ≤ k → hf.dg (v : Int) k = 0) := fun k hk => hf.dg_over (Nat.lt_of_lt_of_le hv (Nat.pow_le_pow_right (by decide) hk))
  have HS : Hid (u + v < 65536 ^ (L + 1)) := by
    have h1 := Nat.pow_le_pow_right (n := 65536) (by decide) hL1
    have h2 := Nat.pow_le_pow_right (n := 65536) (by decide) hL2
    unfold Hid
    rw [Nat.pow_succ]; omega
  have HE : Hid ((u : Int) + v = ((u + v : Nat) : Int)) := by unfold Hid; omega
  clear hu hv hlu' hlv'
  go_enter Try.func56, Try.ntmps56
  go_wp2
  go_loopw [5, 6, 7] (fun o c i wr => RAddRel w u v L o c i wr) (fun _ _ i _ => L - (intOf i).toNat)
  case atStart => exact ⟨0, 0, _, by omega, rfl, by rw [hf.carry_zero], rfl, hown0, (Below.refl _ _).alloc (Nat.le_refl _) _⟩
  case round =>
    clear hown0
    obtain ⟨k, cap, ao, hk, rfl, rfl, rfl, hown, hbel⟩ := hrel
    have hsz := hbel.size
    obtain ⟨f0, f1⟩ := hf.carry_range u v k
    obtain ⟨d0, d1⟩ := hf.dg_range u k
    obtain ⟨e0, e1⟩ := hf.dg_range v k
    obtain ⟨C, hC⟩ : ∃ C, hf.carry (u : Int) v k = C := ⟨_, rfl⟩
    obtain ⟨X, hX⟩ : ∃ X, hf.dg (u : Int) k = X := ⟨_, rfl⟩
    obtain ⟨Y, hY⟩ : ∃ Y, hf.dg (v : Int) k = Y := ⟨_, rfl⟩
    rw [hC] at f0 f1
    rw [hX] at d0 d1
    rw [hY] at e0 e1
    by_cases h1 : k < lu
    · obtain ⟨ba, oa, rfl, hba, hsa⟩ := ha.at (by omega)
      have r1 := ha.room
      have c1 : wr.cell? ⟨ba, oa + k, none⟩ = some (.int .i64 X) := (hbel.cell (p := ⟨ba, oa + k, none⟩) hba).trans (by rw [← hX]; exact hsa.cell k _ (hf.dcells_at _ _ _ h1))
      by_cases h2 : k < lv
      · obtain ⟨bb, ob, rfl, hbb, hsb⟩ := hb.at (by omega)
        have r2 := hb.room
        have c2 : wr.cell? ⟨bb, ob + k, none⟩ = some (.int .i64 Y) := (hbel.cell (p := ⟨bb, ob + k, none⟩) hbb).trans (by rw [← hY]; exact hsb.cell k _ (hf.dcells_at _ _ _ h2))
        have HN : Hid _ := fun w2 w4 g' cap' => radd_next (l := L) (x := C + X + Y) (w2 := w2) (w4 := w4) (g' := g') (cap' := cap') (by omega) (by rw [hC, hX, hY]) hown hbel
        rw [hC]
        clear hC hX hY
        go_wp2_with (at_builtin; refine wpList_append_lies _ rfl (.tmp 41) (.tmp 44) 24 rfl w.heap.size 3 i0 (.int .i64 0) 1 8 Try.underlying24 hi0 hz0 hz1 hz2 rfl (by decide) (.slice ao k cap) (k) (hf.dcells k ((u : Int) + v)) rfl (World.ownsRow.alloc hown _) ⟨wr.heap.size, 0, none⟩ 1 1 [.int .i64 ((C + X + Y) % 65536)] rfl rfl (cell_one_new _ _ _) (ints_oneCell .i64 [(C + X + Y) % 65536]) (by decide) (by unfold maxLen; omega) (by omega) (by simp; omega) _ rfl ?_; intro g' cap' w4 hown4 hgrow4 hat4 hlt4)
        go_roundw
        case rel => exact HN.out _ w4 g' cap' hown4 ((Below.refl _ _).alloc (Nat.le_refl _) _) hgrow4
        case measure => simp [intOf]; omega
      · have HN : Hid _ := fun w2 w4 g' cap' => radd_next (l := L) (x := C + X) (w2 := w2) (w4 := w4) (g' := g') (cap' := cap') (by omega) (by rw [hC, hX, HV.out k (by omega)]; omega) hown hbel
        have h2' : ¬ (k : Int) < lv := by omega
        rw [hC]
        clear hC hX hY
        go_wp2_with (at_builtin; refine wpList_append_lies _ rfl (.tmp 41) (.tmp 44) 24 rfl w.heap.size 3 i0 (.int .i64 0) 1 8 Try.underlying24 hi0 hz0 hz1 hz2 rfl (by decide) (.slice ao k cap) (k) (hf.dcells k ((u : Int) + v)) rfl (World.ownsRow.alloc hown _) ⟨wr.heap.size, 0, none⟩ 1 1 [.int .i64 ((C + X) % 65536)] rfl rfl (cell_one_new _ _ _) (ints_oneCell .i64 [(C + X) % 65536]) (by decide) (by unfold maxLen; omega) (by omega) (by simp; omega) _ rfl ?_; intro g' cap' w4 hown4 hgrow4 hat4 hlt4)
        go_roundw
        case rel => exact HN.out _ w4 g' cap' hown4 ((Below.refl _ _).alloc (Nat.le_refl _) _) hgrow4
        case measure => simp [intOf]; omega
    · by_cases h2 : k < lv
      · obtain ⟨bb, ob, rfl, hbb, hsb⟩ := hb.at (by omega)
        have r2 := hb.room
        have c2 : wr.cell? ⟨bb, ob + k, none⟩ = some (.int .i64 Y) := (hbel.cell (p := ⟨bb, ob + k, none⟩) hbb).trans (by rw [← hY]; exact hsb.cell k _ (hf.dcells_at _ _ _ h2))
        have HN : Hid _ := fun w2 w4 g' cap' => radd_next (l := L) (x := C + Y) (w2 := w2) (w4 := w4) (g' := g') (cap' := cap') (by omega) (by rw [hC, hY, HU.out k (by omega)]; omega) hown hbel
        have h1' : ¬ (k : Int) < lu := by omega
        rw [hC]
        clear hC hX hY
        go_wp2_with (at_builtin; refine wpList_append_lies _ rfl (.tmp 41) (.tmp 44) 24 rfl w.heap.size 3 i0 (.int .i64 0) 1 8 Try.underlying24 hi0 hz0 hz1 hz2 rfl (by decide) (.slice ao k cap) (k) (hf.dcells k ((u : Int) + v)) rfl (World.ownsRow.alloc hown _) ⟨wr.heap.size, 0, none⟩ 1 1 [.int .i64 ((C + Y) % 65536)] rfl rfl (cell_one_new _ _ _) (ints_oneCell .i64 [(C + Y) % 65536]) (by decide) (by unfold maxLen; omega) (by omega) (by simp; omega) _ rfl ?_; intro g' cap' w4 hown4 hgrow4 hat4 hlt4)
        go_roundw
        case rel => exact HN.out _ w4 g' cap' hown4 ((Below.refl _ _).alloc (Nat.le_refl _) _) hgrow4
        case measure => simp [intOf]; omega
      · obtain rfl : k = L := by omega
        have HC2 : Hid (C = hf.dg ((u : Int) + v) k) := by
          have h := hf.add_digit u v k
          rw [hC, hX, hY] at h
          have hx0 := HU.out k (by omega)
          have hy0 := HV.out k (by omega)
          rw [hX] at hx0
          rw [hY] at hy0
          unfold Hid
          omega
        have h1' : ¬ (k : Int) < lu := by omega
        have h2' : ¬ (k : Int) < lv := by omega
        have HN : Hid _ := fun w2 w4 g' cap' => push_next (x := C) (w2 := w2) (w4 := w4) (g' := g') (cap' := cap') HC2.out hown hbel
        rw [hC]
        clear hC hX hY
        go_wp2_with (first
          | (at_builtin; refine wpList_append_lies _ rfl (.tmp 48) (.tmp 50) 24 rfl w.heap.size 3 i0 (.int .i64 0) 1 8 Try.underlying24 hi0 hz0 hz1 hz2 rfl (by decide) (.slice ao k cap) (k) (hf.dcells k ((u : Int) + v)) rfl (World.ownsRow.alloc hown _) ⟨wr.heap.size, 0, none⟩ 1 1 [.int .i64 (C)] rfl rfl (cell_one_new _ _ _) (ints_oneCell .i64 [C]) (by decide) (by unfold maxLen; omega) (by omega) (by simp; omega) _ rfl ?_; intro g' cap' w4 hown4 hgrow4 hat4 hlt4)
          | (go_at_call 47; have hnx := HN.out _ w4 g' cap' hown4 ((Below.refl _ _).alloc (Nat.le_refl _) _) hgrow4; rw [HE.out] at hnx; refine (rtrim_own _ _ _ (u + v) _ _ hnx.1 HS.out).mono ?_; rintro e w' ⟨rfl, hw, hown5⟩; subst hw))
        go_ret
        exact ⟨_, cap', rfl, hown5, hnx.2⟩

/-- What holds at the head of each round of the difference's loop. -/
def RSubRel (w : World) (u v l : Nat) (o c i : Value) (wr : World) : Prop := ∃ (k cap : Nat) (ao : Option Addr), k ≤ l ∧ i = .int .i64 (k : Int) ∧ c = .int .i64 (hf.bw u v k) ∧ o = .slice ao k cap ∧ Own wr w.heap.size 3 ao k cap (hf.dcells k ((u : Int) - v)) ∧ Below w.heap.size w wr
theorem rsub_next {w wr w2 w4 : World} {u v l k cap cap' g' : Nat} {ao : Option Addr} {x c : Int} (hk : k < l) (hx : (x = hf.dg u k - hf.dg v k - hf.bw u v k ∧ 0 ≤ x ∧ c = 0) ∨ (x = hf.dg u k - hf.dg v k - hf.bw u v k + 65536 ∧ x < 65536 ∧ c = 1)) (hown : Own wr w.heap.size 3 ao k cap (hf.dcells k ((u : Int) - v))) (hbel : Below w.heap.size w wr)
    (h4 : w4.ownsRow w.heap.size 3 1 (.slice (some ⟨g', 0, none⟩) (k + 1) cap') (k + 1) (hf.dcells k ((u : Int) - v) ++ [.int .i64 x]))
    (h2 : Below wr.heap.size wr w2) (hgr : w2.grownBy w4 (Value.slice ao k cap).ownBlock) : RSubRel w u v l (.slice (some ⟨g', 0, none⟩) (k + 1) cap') (.int .i64 c) (.int .i64 ((k : Int) + 1)) w4 := by
  have d := hf.dg_range u k
  have e := hf.dg_range v k
  have f := hf.bw_range u v k
  have hd := hf.sub_digit u v k
  have hb := hf.bw_succ u v k
  obtain ⟨h5, h6⟩ := push_next (x := x) (by rw [← hd]; omega) hown hbel h4 h2 hgr
  refine ⟨k + 1, cap', _, hk, by simp, ?_, rfl, h5, h6⟩
  rw [← hb]
  unfold hf.bor
  rcases hx with ⟨h, h0, rfl⟩ | ⟨h, h0, rfl⟩
  · rw [if_neg (by omega)]
  · rw [if_pos (by omega)]
set_option maxRecDepth 100000 in
set_option maxHeartbeats 2000000 in
theorem rsub_any (a b : Option Addr) (ca cb u v : Nat) (w : World) (ha : Sl w a (hf.nlen u) ca (hf.dcells (hf.nlen u) (u : Int))) (hb : Sl w b (hf.nlen v) cb (hf.dcells (hf.nlen v) (v : Int))) (hlu : hf.nlen u ≤ 1000000000) (hlv : hf.nlen v ≤ 1000000000) (hle : v ≤ u) :
    Calls Try.prog 58 #[.slice a (hf.nlen u) ca, .slice b (hf.nlen v) cb] w fun e w' => ∃ a' cap', e = .returned (.slice a' (hf.nlen (u - v)) cap') ∧ Own w' w.heap.size 3 a' (hf.nlen (u - v)) cap' (hf.dcells (hf.nlen (u - v)) ((u - v : Nat) : Int)) ∧ Below w.heap.size w w' := by
  obtain ⟨i0, hi0, hz0, hz1, hz2⟩ := info_parts infoInt
  have hown0 := own_empty w w.heap.size 3 (Nat.le_refl _)
  have hu := hf.nlen_lt u
  have hv := hf.nlen_lt v
  obtain ⟨lu, hlu'⟩ : ∃ l, hf.nlen u = l := ⟨_, rfl⟩
  obtain ⟨lv, hlv'⟩ : ∃ l, hf.nlen v = l := ⟨_, rfl⟩
  rw [hlu'] at ha hlu hu ⊢
  rw [hlv'] at hb hlv hv ⊢
  have HV : Hid (∀ k, lv ≤ k → hf.dg (v : Int) k = 0) := fun k hk => hf.dg_over (Nat.lt_of_lt_of_le hv (Nat.pow_le_pow_right (by decide) hk))
  have HS : Hid (u - v < 65536 ^ lu) := by unfold Hid; omega
  have HE : Hid ((u : Int) - v = ((u - v : Nat) : Int)) := by unfold Hid; omega
  clear hu hv hlu' hlv' hle
  go_enter Try.func58, Try.ntmps58
  go_wp2
  go_loopw [5, 6, 7] (fun o c i wr => RSubRel w u v lu o c i wr) (fun _ _ i _ => lu - (intOf i).toNat)
  case atStart => exact ⟨0, 0, _, by omega, rfl, by rw [hf.bw_zero], rfl, hown0, (Below.refl _ _).alloc (Nat.le_refl _) _⟩
  case round =>
    clear hown0
    obtain ⟨k, cap, ao, hk, rfl, rfl, rfl, hown, hbel⟩ := hrel
    have hsz := hbel.size
    obtain ⟨f0, f1⟩ := hf.bw_range u v k
    obtain ⟨d0, d1⟩ := hf.dg_range u k
    obtain ⟨e0, e1⟩ := hf.dg_range v k
    obtain ⟨C, hC⟩ : ∃ C, hf.bw (u : Int) v k = C := ⟨_, rfl⟩
    obtain ⟨X, hX⟩ : ∃ X, hf.dg (u : Int) k = X := ⟨_, rfl⟩
    obtain ⟨Y, hY⟩ : ∃ Y, hf.dg (v : Int) k = Y := ⟨_, rfl⟩
    rw [hC] at f0 f1
    rw [hX] at d0 d1
    rw [hY] at e0 e1
    by_cases h1 : k < lu
    · obtain ⟨ba, oa, rfl, hba, hsa⟩ := ha.at (by omega)
      have r1 := ha.room
      have c1 : wr.cell? ⟨ba, oa + k, none⟩ = some (.int .i64 X) := (hbel.cell (p := ⟨ba, oa + k, none⟩) hba).trans (by rw [← hX]; exact hsa.cell k _ (hf.dcells_at _ _ _ h1))
      by_cases h2 : k < lv
      · obtain ⟨bb, ob, rfl, hbb, hsb⟩ := hb.at (by omega)
        have r2 := hb.room
        have c2 : wr.cell? ⟨bb, ob + k, none⟩ = some (.int .i64 Y) := (hbel.cell (p := ⟨bb, ob + k, none⟩) hbb).trans (by rw [← hY]; exact hsb.cell k _ (hf.dcells_at _ _ _ h2))
        by_cases hn : X - C - Y < 0
        · have HN : Hid _ := fun w2 w4 g' cap' => rsub_next (l := lu) (c := 1) (x := X - C - Y + 65536) (w2 := w2) (w4 := w4) (g' := g') (cap' := cap') (by omega) (Or.inr ⟨by rw [hC, hX, hY]; omega, by omega, rfl⟩) hown hbel
          rw [hC]
          clear hC hX hY
          go_wp2_with (at_builtin; refine wpList_append_lies _ rfl (.tmp 36) (.tmp 38) 24 rfl w.heap.size 3 i0 (.int .i64 0) 1 8 Try.underlying24 hi0 hz0 hz1 hz2 rfl (by decide) (.slice ao k cap) (k) (hf.dcells k ((u : Int) - v)) rfl (World.ownsRow.alloc hown _) ⟨wr.heap.size, 0, none⟩ 1 1 [.int .i64 (X - C - Y + 65536)] rfl rfl (cell_one_new _ _ _) (ints_oneCell .i64 [X - C - Y + 65536]) (by decide) (by unfold maxLen; omega) (by omega) (by simp; omega) _ rfl ?_; intro g' cap' w4 hown4 hgrow4 hat4 hlt4)
          go_roundw
          case rel => exact HN.out _ w4 g' cap' hown4 ((Below.refl _ _).alloc (Nat.le_refl _) _) hgrow4
          case measure => simp [intOf]; omega
        · have HN : Hid _ := fun w2 w4 g' cap' => rsub_next (l := lu) (c := 0) (x := X - C - Y) (w2 := w2) (w4 := w4) (g' := g') (cap' := cap') (by omega) (Or.inl ⟨by rw [hC, hX, hY]; omega, by omega, rfl⟩) hown hbel
          rw [hC]
          clear hC hX hY
          go_wp2_with (at_builtin; refine wpList_append_lies _ rfl (.tmp 36) (.tmp 38) 24 rfl w.heap.size 3 i0 (.int .i64 0) 1 8 Try.underlying24 hi0 hz0 hz1 hz2 rfl (by decide) (.slice ao k cap) (k) (hf.dcells k ((u : Int) - v)) rfl (World.ownsRow.alloc hown _) ⟨wr.heap.size, 0, none⟩ 1 1 [.int .i64 (X - C - Y)] rfl rfl (cell_one_new _ _ _) (ints_oneCell .i64 [X - C - Y]) (by decide) (by unfold maxLen; omega) (by omega) (by simp; omega) _ rfl ?_; intro g' cap' w4 hown4 hgrow4 hat4 hlt4)
          go_roundw
          case rel => exact HN.out _ w4 g' cap' hown4 ((Below.refl _ _).alloc (Nat.le_refl _) _) hgrow4
          case measure => simp [intOf]; omega
      · have h2' : ¬ (k : Int) < lv := by omega
        have hY0 := HV.out k (by omega)
        by_cases hn : X - C < 0
        · have HN : Hid _ := fun w2 w4 g' cap' => rsub_next (l := lu) (c := 1) (x := X - C + 65536) (w2 := w2) (w4 := w4) (g' := g') (cap' := cap') (by omega) (Or.inr ⟨by rw [hC, hX, hY0]; omega, by omega, rfl⟩) hown hbel
          rw [hC]
          clear hC hX hY hY0
          go_wp2_with (at_builtin; refine wpList_append_lies _ rfl (.tmp 36) (.tmp 38) 24 rfl w.heap.size 3 i0 (.int .i64 0) 1 8 Try.underlying24 hi0 hz0 hz1 hz2 rfl (by decide) (.slice ao k cap) (k) (hf.dcells k ((u : Int) - v)) rfl (World.ownsRow.alloc hown _) ⟨wr.heap.size, 0, none⟩ 1 1 [.int .i64 (X - C + 65536)] rfl rfl (cell_one_new _ _ _) (ints_oneCell .i64 [X - C + 65536]) (by decide) (by unfold maxLen; omega) (by omega) (by simp; omega) _ rfl ?_; intro g' cap' w4 hown4 hgrow4 hat4 hlt4)
          go_roundw
          case rel => exact HN.out _ w4 g' cap' hown4 ((Below.refl _ _).alloc (Nat.le_refl _) _) hgrow4
          case measure => simp [intOf]; omega
        · have HN : Hid _ := fun w2 w4 g' cap' => rsub_next (l := lu) (c := 0) (x := X - C) (w2 := w2) (w4 := w4) (g' := g') (cap' := cap') (by omega) (Or.inl ⟨by rw [hC, hX, hY0]; omega, by omega, rfl⟩) hown hbel
          rw [hC]
          clear hC hX hY hY0
          go_wp2_with (at_builtin; refine wpList_append_lies _ rfl (.tmp 36) (.tmp 38) 24 rfl w.heap.size 3 i0 (.int .i64 0) 1 8 Try.underlying24 hi0 hz0 hz1 hz2 rfl (by decide) (.slice ao k cap) (k) (hf.dcells k ((u : Int) - v)) rfl (World.ownsRow.alloc hown _) ⟨wr.heap.size, 0, none⟩ 1 1 [.int .i64 (X - C)] rfl rfl (cell_one_new _ _ _) (ints_oneCell .i64 [X - C]) (by decide) (by unfold maxLen; omega) (by omega) (by simp; omega) _ rfl ?_; intro g' cap' w4 hown4 hgrow4 hat4 hlt4)
          go_roundw
          case rel => exact HN.out _ w4 g' cap' hown4 ((Below.refl _ _).alloc (Nat.le_refl _) _) hgrow4
          case measure => simp [intOf]; omega
    · obtain rfl : k = lu := by omega
      rw [HE.out] at hown
      clear hC hX hY
      go_wp2_with (go_at_call 47; refine (rtrim_own _ _ _ (u - v) _ _ hown HS.out).mono ?_; rintro e w' ⟨rfl, hw, hown5⟩; subst hw)
      go_ret
      exact ⟨_, cap, rfl, hown5, hbel⟩
end Go.Proofs.Ytlelbhiebmdnoaa

namespace Go.Proofs.Ytlelbhiebmdnoaa
open Go.RowKit
set_option linter.unusedVariables false

/-- What holds at the head of each round of the inner loop. -/
def RMulIn (w : World) (b N lv i : Nat) (O x v : Int) (c kv : Value) (wr : World) : Prop := ∃ k : Nat, k ≤ lv ∧ kv = .int .i64 (k : Int) ∧ c = .int .i64 (hf.cy O x v i k) ∧ Own wr w.heap.size 3 (some ⟨b, 0, none⟩) N N (hf.mix N (i + k) (O + x * 65536 ^ i * v) O) ∧ Below w.heap.size w wr
theorem rmul_next {w wr : World} {b N lv i k n : Nat} {O x v t : Int} (hk : k < lv) (hN : i + lv ≤ N) (ht : t = hf.cy O x v i k + hf.dg O (i + k) + x * hf.dg v k) (hown : Own wr w.heap.size 3 (some ⟨b, 0, none⟩) N N (hf.mix N (i + k) (O + x * 65536 ^ i * v) O)) (hbel : Below w.heap.size w wr) :
    RMulIn w b N lv i O x v (.int .i64 (t / 65536)) (.int .i64 ((k : Int) + 1)) ((wr.drewN n).setCell ⟨b, i + k, none⟩ (.int .i64 (t % 65536))) := by
  have hown' : Own (wr.drewN n) w.heap.size 3 (some ⟨b, 0, none⟩) N N (hf.mix N (i + k) (O + x * 65536 ^ i * v) O) := hown
  refine ⟨k + 1, hk, by simp, by rw [ht, hf.cy_succ], ?_, (below_drewN hbel n).setCell (seg_of_own hown).2.2 _⟩
  rw [ht, hf.mul_digit, ← Nat.add_assoc, ← hf.mix_set]
  exact Own.set hown' _ (by omega)
/-- What holds at the head of each round of the outer loop. -/
def RMulOut (w : World) (b lu lv u v : Nat) (iv : Value) (wr : World) : Prop := ∃ i : Nat, i ≤ lu ∧ iv = .int .i64 (i : Int) ∧ Own wr w.heap.size 3 (some ⟨b, 0, none⟩) (lu + lv) (lu + lv) (hf.dcells (lu + lv) ((u % 65536 ^ i * v : Nat) : Int)) ∧ Below w.heap.size w wr
theorem hpart_lt {u v k lb : Nat} (hv : v < 65536 ^ lb) : u % 65536 ^ k * v < 65536 ^ (k + lb) := by
  rw [Nat.pow_add]
  exact Nat.mul_lt_mul_of_lt_of_le (Nat.mod_lt _ (hf.pow_nat k)) (Nat.le_of_lt hv) (hf.pow_nat lb)
theorem hpart_next (u v k : Nat) : ((u % 65536 ^ k * v : Nat) : Int) + hf.dg u k * 65536 ^ k * v = ((u % 65536 ^ (k + 1) * v : Nat) : Int) := by
  rw [Int.natCast_mul, Int.natCast_mul, Int.natCast_emod, Int.natCast_emod, hf.pow_cast, hf.pow_cast]
  exact hf.mul_next u v k
theorem rmul_last {w wr : World} {b lu lv u v i : Nat} {c O X : Int} (hO : O = ((u % 65536 ^ i * v : Nat) : Int)) (hX : X = hf.dg (u : Int) i) (hi : i < lu) (hv : v < 65536 ^ lv) (hc : c = hf.cy O X v i lv)
    (hown : Own wr w.heap.size 3 (some ⟨b, 0, none⟩) (lu + lv) (lu + lv) (hf.mix (lu + lv) (i + lv) (O + X * 65536 ^ i * v) O)) (hbel : Below w.heap.size w wr) :
    RMulOut w b lu lv u v (.int .i64 ((i : Int) + 1)) (wr.setCell ⟨b, i + lv, none⟩ (.int .i64 c)) := by
  subst hO hX
  refine ⟨i + 1, hi, by simp, ?_, hbel.setCell (seg_of_own hown).2.2 _⟩
  have hd := hf.mul_digit ((u % 65536 ^ i * v : Nat) : Int) (hf.dg u i) v i lv
  have h0 : hf.dg ((u % 65536 ^ i * v : Nat) : Int) (i + lv) = 0 := hf.dg_over (hpart_lt hv)
  have h1 : hf.dg (v : Int) lv = 0 := hf.dg_over hv
  have hr := hf.cy_range ((u % 65536 ^ i * v : Nat) : Int) (hf.dg u i) v i lv (hf.dg_range u i).1 (hf.dg_range u i).2
  rw [h0, h1, ← hc, Int.mul_zero] at hd
  rw [← hc] at hr
  have hc2 : c = hf.dg (((u % 65536 ^ i * v : Nat) : Int) + hf.dg u i * 65536 ^ i * v) (i + lv) := by rw [← hd]; omega
  have := Own.set hown (i := i + lv) (.int .i64 c) (by omega)
  rw [hc2, hf.mix_set] at this
  rw [hc2]
  have e : hf.mix (lu + lv) (i + lv + 1) (((u % 65536 ^ i * v : Nat) : Int) + hf.dg u i * 65536 ^ i * v) ((u % 65536 ^ i * v : Nat) : Int) = hf.dcells (lu + lv) ((u % 65536 ^ (i + 1) * v : Nat) : Int) := by
    rw [← hpart_next, ← hf.mix_full (lu + lv) (((u % 65536 ^ i * v : Nat) : Int) + hf.dg u i * 65536 ^ i * v) ((u % 65536 ^ i * v : Nat) : Int)]
    refine hf.fill_congr fun j hj => ?_
    by_cases h : j < i + lv + 1
    · simp [h, hj]
    · have z1 : hf.dg ((u % 65536 ^ i * v : Nat) : Int) j = 0 := hf.dg_over (Nat.lt_of_lt_of_le (hpart_lt hv) (Nat.pow_le_pow_right (by decide) (by omega)))
      have z2 : hf.dg (((u % 65536 ^ i * v : Nat) : Int) + hf.dg u i * 65536 ^ i * v) j = 0 := by
        rw [hpart_next]
        exact hf.dg_over (Nat.lt_of_lt_of_le (hpart_lt hv) (Nat.pow_le_pow_right (by decide) (by omega)))
      rw [z1, z2]; simp
  rw [← e]
  exact this

set_option maxRecDepth 100000 in
set_option maxHeartbeats 2000000 in
theorem rmul_any (a b : Option Addr) (ca cb u v : Nat) (w : World) (ha : Sl w a (hf.nlen u) ca (hf.dcells (hf.nlen u) (u : Int))) (hb : Sl w b (hf.nlen v) cb (hf.dcells (hf.nlen v) (v : Int))) (hlu : hf.nlen u ≤ 1000000000) (hlv : hf.nlen v ≤ 1000000000) :
    Calls Try.prog 59 #[.slice a (hf.nlen u) ca, .slice b (hf.nlen v) cb] w fun e w' => ∃ a' cap', e = .returned (.slice a' (hf.nlen (u * v)) cap') ∧ Own w' w.heap.size 3 a' (hf.nlen (u * v)) cap' (hf.dcells (hf.nlen (u * v)) ((u * v : Nat) : Int)) ∧ Below w.heap.size w w' := by
  obtain ⟨i0, hi0, hz0, hz1, hz2⟩ := info_parts infoInt
  have hu := hf.nlen_lt u
  have hv := hf.nlen_lt v
  obtain ⟨lu, hlu'⟩ : ∃ l, hf.nlen u = l := ⟨_, rfl⟩
  obtain ⟨lv, hlv'⟩ : ∃ l, hf.nlen v = l := ⟨_, rfl⟩
  rw [hlu'] at ha hlu hu ⊢
  rw [hlv'] at hb hlv hv ⊢
  have HM : Hid (u % 65536 ^ lu = u) := Nat.mod_eq_of_lt hu
  have HV : Hid _ := hv
  have HS : Hid (u * v < 65536 ^ (lu + lv)) := by have := hpart_lt (u := u) (k := lu) hv; rwa [HM.out] at this
  have hz0' : hf.dcells (lu + lv) 0 = List.replicate (lu + lv) (.int .i64 0) := hf.dcells_zero _
  have HZ : Hid _ := hz0'
  have hmax : lu + lv ≤ maxLen := by unfold maxLen; omega
  clear hu hv hlu' hlv' hz0'
  go_enter Try.func59, Try.ntmps59
  go_wp2_with (at_make; refine make_any _ rfl (.tmp 13) (.tmp 13) 24 rfl w.heap.size 3 i0 (.int .i64 0) Try.underlying24 hi0 hz0 hz1 rfl .i64 .i64 _ _ (lu + lv) rfl rfl (by simp) (by simp) (by rw [hz2]; omega) (by omega) (Nat.le_refl _) ?_; intro w1 hown hbel)
  rw [← HZ.out] at hown
  go_loopw [6] (fun iv wr => RMulOut w w.heap.size lu lv u v iv wr) (fun iv _ => lu - (intOf iv).toNat)
  case atStart => exact ⟨0, by omega, rfl, by rw [Nat.pow_zero, Nat.mod_one, Nat.zero_mul]; exact hown, hbel⟩
  case round =>
    clear hown hbel
    obtain ⟨i, hi, rfl, hown, hbel⟩ := hrel
    by_cases hlt : i < lu
    · obtain ⟨ba, oa, rfl, hba, hsa⟩ := ha.at (by omega)
      have r1 := ha.room
      obtain ⟨X, hX⟩ : ∃ X, X = hf.dg (u : Int) i := ⟨_, rfl⟩
      obtain ⟨O, hO⟩ : ∃ O, O = ((u % 65536 ^ i * v : Nat) : Int) := ⟨_, rfl⟩
      obtain ⟨x0, x1⟩ := hf.dg_range u i
      have c0 : w.cell? ⟨ba, oa + i, none⟩ = some (.int .i64 X) := by rw [hX]; exact hsa.cell i _ (hf.dcells_at _ _ _ hlt)
      rw [← hX] at x0 x1
      have HI : Hid (RMulIn w w.heap.size (lu + lv) lv i O X v (.int .i64 0) (.int .i64 0) wr) := ⟨0, by omega, rfl, by rw [hf.cy_zero], by rw [Nat.add_zero, hf.mix_start, hO]; exact hown, hbel⟩
      have HL : Hid _ := fun (wr : World) (c : Int) => rmul_last (w := w) (wr := wr) (b := w.heap.size) (c := c) hO hX hlt HV.out
      clear hown hbel hX hO
      go_wp2
      go_loopw [7, 8] (fun c kv wr => RMulIn w w.heap.size (lu + lv) lv i O X v c kv wr) (fun _ kv _ => lv - (intOf kv).toNat)
      case atStart => exact HI.out
      case round =>
        obtain ⟨k, hk, rfl, rfl, hown, hbel⟩ := hrel
        obtain ⟨f0, f1⟩ := hf.cy_range O X v i k x0 x1
        by_cases hlk : k < lv
        · obtain ⟨bb, ob, rfl, hbb, hsb⟩ := hb.at (by omega)
          have r2 := hb.room
          have c1 : wr.cell? ⟨ba, oa + i, none⟩ = some (.int .i64 X) := (hbel.cell (p := ⟨ba, oa + i, none⟩) hba).trans c0
          have c2 : wr.cell? ⟨bb, ob + k, none⟩ = some (.int .i64 (hf.dg v k)) := (hbel.cell (p := ⟨bb, ob + k, none⟩) hbb).trans (hsb.cell k _ (hf.dcells_at _ _ _ hlk))
          have c3 : wr.cell? ⟨w.heap.size, i + k, none⟩ = some (.int .i64 (hf.dg O (i + k))) := Own.cell hown _ _ (hf.mix_at _ _ _ _ _ (by omega) (Nat.le_refl _))
          have c4 : wr.frozen? ⟨w.heap.size, i + k, none⟩ = false := Own.free hown _ (by omega)
          obtain ⟨d0, d1⟩ := hf.dg_range v k
          obtain ⟨e0, e1⟩ := hf.dg_range O (i + k)
          have HN : Hid _ := fun n => rmul_next (n := n) hlk (by omega) rfl hown hbel
          obtain ⟨C, hC⟩ : ∃ C, hf.cy O X v i k = C := ⟨_, rfl⟩
          obtain ⟨Y, hY⟩ : ∃ Y, hf.dg (v : Int) k = Y := ⟨_, rfl⟩
          obtain ⟨D, hD⟩ : ∃ D, hf.dg O (i + k) = D := ⟨_, rfl⟩
          rw [hC] at f0 f1 HN ⊢
          rw [hY] at c2 d0 d1 HN
          rw [hD] at c3 e0 e1 HN
          have m0 : 0 ≤ X * Y := Int.mul_nonneg x0 d0
          have m1 : X * Y ≤ 4294836225 := by have := Int.mul_le_mul (show X ≤ 65535 by omega) (show Y ≤ 65535 by omega) d0 (by decide); omega
          clear hown hC hY hD
          go_wp2
          go_quiet (fail)
          go_wp2
          go_roundw
          case rel => exact HN.out _
          case measure => simp [intOf]; omega
        · obtain rfl : k = lv := by omega
          have c3 : wr.cell? ⟨w.heap.size, i + k, none⟩ = some (.int .i64 (hf.dg O (i + k))) := Own.cell hown _ _ (hf.mix_at _ _ _ _ _ (by omega) (Nat.le_refl _))
          have c4 : wr.frozen? ⟨w.heap.size, i + k, none⟩ = false := Own.free hown _ (by omega)
          have HN : Hid _ := HL.out wr _ rfl hown hbel
          clear hown
          go_wp2
          go_roundw
          case rel => exact HN.out
          case measure => simp [intOf]; omega
    · obtain rfl : i = lu := by omega
      rw [HM.out] at hown
      go_wp2_with (go_at_call 47; refine (rtrim_own _ _ _ (u * v) _ _ hown HS.out).mono ?_; rintro e w' ⟨rfl, hw, hown5⟩; subst hw)
      go_ret
      exact ⟨_, _, rfl, hown5, hbel⟩
end Go.Proofs.Ytlelbhiebmdnoaa

namespace Go.Proofs.Ytlelbhiebmdnoaa
open Go.RowKit
set_option linter.unusedVariables false

/-- The slice is the digits of the number u. -/
structure HD (w : World) (a : Option Addr) (l c u : Nat) : Prop where
  sl : Sl w a l c (hf.dcells l (u : Int))
  len : l = hf.nlen u
theorem HD.below {w w' : World} {a : Option Addr} {l c u : Nat} (h : HD w a l c u) (hb : Below w.heap.size w w') : HD w' a l c u := ⟨h.sl.below hb, h.len⟩
theorem hd_nil (w : World) : HD w none 0 0 0 := ⟨sl_nil w, hf.nlen_zero.symm⟩
theorem hfew {u K : Nat} (hu : u < 4294967296 ^ K) (hK : K ≤ 500000) : hf.nlen u ≤ 1000000 := by
  have : hf.nlen u ≤ 2 * K := hf.nlen_le (by rw [pow_halves]; exact hu)
  omega
theorem hCmp (a b : Option Addr) (la lb ca cb u v : Nat) (w : World) (ha : HD w a la ca u) (hb : HD w b lb cb v) {c : Int} (hc : c = cmpI u v) : Calls Try.prog 57 #[.slice a la ca, .slice b lb cb] w fun e w' => e = .returned (.int .i64 c) ∧ Below w.heap.size w w' := by
  obtain ⟨ha, rfl⟩ := ha
  obtain ⟨hb, rfl⟩ := hb
  subst hc
  exact rcmp_any a b ca cb u v w ha hb
end Go.Proofs.Ytlelbhiebmdnoaa

namespace Go.Proofs.Ytlelbhiebmdnoaa
open Go.RowKit
set_option linter.unusedVariables false

theorem HD.put {w : World} {a : Option Addr} {l c u b : Nat} (h : HD w a l c u) (hn : NA b a l) (i : Nat) (v : Value) : HD (w.setCell ⟨b, i, none⟩ v) a l c u := ⟨h.sl.put hn i v, h.len⟩
def GotHF (w : World) (u : Nat) (e : Ending) (w' : World) : Prop := ∃ a l c, e = .returned (.slice a l c) ∧ HD w' a l c u ∧ Far w.heap.size a l ∧ Below w.heap.size w w'
theorem gotHF {w w' : World} {u : Nat} {e : Ending} (h : ∃ a' cap', e = .returned (.slice a' (hf.nlen u) cap') ∧ Own w' w.heap.size 3 a' (hf.nlen u) cap' (hf.dcells (hf.nlen u) (u : Int)) ∧ Below w.heap.size w w') : GotHF w u e w' := by
  obtain ⟨a, c, he, ho, hb⟩ := h
  exact ⟨a, _, c, he, ⟨Own.sl ho, rfl⟩, Own.far ho, hb⟩
theorem hfOf (a : Option Addr) (l c u : Nat) (w : World) (h : NI w a l c u) : Calls Try.prog 54 #[.slice a l c] w (GotHF w u) :=
  (rof_any a l c u w h.sl h.lt (by have := h.few; omega)).mono fun _ _ h => gotHF h
theorem hfAdd (a b : Option Addr) (la lb ca cb u v : Nat) (w : World) (ha : HD w a la ca u) (hb : HD w b lb cb v) (fu : hf.nlen u ≤ 1000000) (fv : hf.nlen v ≤ 1000000) : Calls Try.prog 56 #[.slice a la ca, .slice b lb cb] w (GotHF w (u + v)) := by
  obtain ⟨ha, rfl⟩ := ha
  obtain ⟨hb, rfl⟩ := hb
  exact (radd_any a b ca cb u v w ha hb (by omega) (by omega)).mono fun _ _ h => gotHF h
theorem hfSub (a b : Option Addr) (la lb ca cb u v : Nat) (w : World) (ha : HD w a la ca u) (hb : HD w b lb cb v) (fu : hf.nlen u ≤ 1000000) (fv : hf.nlen v ≤ 1000000) (hle : v ≤ u) : Calls Try.prog 58 #[.slice a la ca, .slice b lb cb] w (GotHF w (u - v)) := by
  obtain ⟨ha, rfl⟩ := ha
  obtain ⟨hb, rfl⟩ := hb
  exact (rsub_any a b ca cb u v w ha hb (by omega) (by omega) hle).mono fun _ _ h => gotHF h
theorem hfMul (a b : Option Addr) (la lb ca cb u v : Nat) (w : World) (ha : HD w a la ca u) (hb : HD w b lb cb v) (fu : hf.nlen u ≤ 1000000) (fv : hf.nlen v ≤ 1000000) : Calls Try.prog 59 #[.slice a la ca, .slice b lb cb] w (GotHF w (u * v)) := by
  obtain ⟨ha, rfl⟩ := ha
  obtain ⟨hb, rfl⟩ := hb
  exact (rmul_any a b ca cb u v w ha hb (by omega) (by omega)).mono fun _ _ h => gotHF h
end Go.Proofs.Ytlelbhiebmdnoaa
