/-
  Joined texts, part 7:
  Layer 13's hole: fill, Fill.
  Layer 13's hole: Fill; the law's lives, and zelligeref13's Same at lists that are one.
-/
import Derived.Test.YtkmgndaholglhaaP6
import Derived.ChangeKeysEq
namespace Go.Proofs.Ytkmgndaholglhaa
open Go.RowKit
set_option linter.unusedVariables false

/-- Which of the others goes with the edge from the first place to the second one. -/
def bestB (L : List Pt) (P : List Nat) : Int := bstQ (ptAt L (P.getD 0 0)) (ptAt L (P.getD 1 0)) ((P.drop 2).map (ptAt L)) (P.length - 2)
theorem bestB_in (L : List Pt) : InB (bestB L) := by
  intro P h
  unfold bestB
  rcases bst_range (ptAt L (P.getD 0 0)) (ptAt L (P.getD 1 0)) ((P.drop 2).map (ptAt L)) (P.length - 2) with k | k <;> omega
def t3C (t : T3) : List Value := [.int .i64 (t.1 : Int), .int .i64 (t.2.1 : Int), .int .i64 (t.2.2 : Int)]
theorem t3C_len (t : T3) : (t3C t).length = 3 := rfl
theorem t3C_one (t : T3) : ∀ u ∈ t3C t, u.oneCell' = true := by intro u hu; simp [t3C] at hu; rcases hu with rfl | rfl | rfl <;> rfl
theorem info3 : (Try.prog.info? 37).map (fun i => (i.zero, i.size, i.bytes)) = some (some (.agg #[.int .i64 0, .int .i64 0, .int .i64 0]), 3, 24) := by kernel_rfl
theorem Slot.eq {b o k : Nat} (h : Slot (some ⟨b, o, none⟩) k) : k = b := by obtain ⟨q, e⟩ := h; cases e; rfl
/-- What fill tells. -/
def FillTold (base : Nat) (d : List T3) (r : Option (List T3)) (a : Option Addr) (m c : Nat) (q : Bool) (w' : World) : Prop := match r with
  | some T => q = true ∧ m = d.length + T.length ∧ OwnS w' base 37 3 a m c (flat t3C (d ++ T))
  | none => q = false ∧ a = none ∧ m = 0 ∧ c = 0
structure FillPost (base : Nat) (d : List T3) (r : Option (List T3)) (da : Option Addr) (w : World) (e : Ending) (w' : World) : Prop where
  ex : ∃ (a : Option Addr) (m c : Nat) (q : Bool), e = .returned (.tuple #[.slice a m c, .bool q]) ∧ FillTold base d r a m c q w' ∧ (∀ k, Slot a k → Slot da k ∨ w.heap.size ≤ k)
  kp : Keep (Slot da) w w'
theorem mem_cutA {P : List Nat} {c j : Nat} (h : j ∈ cutA P c) : j ∈ P := List.mem_of_mem_drop (List.mem_of_mem_take h)
theorem mem_cutB {P : List Nat} {c j : Nat} (h : j ∈ cutB P c) : j ∈ P := by
  rcases List.mem_append.1 h with h | h
  · exact List.mem_of_mem_drop h
  · exact List.mem_of_mem_take h
theorem getD_nat {P : List Nat} {k x : Nat} (h : P[k]? = some x) : P.getD k 0 = x := by rw [List.getD, h]; rfl
theorem Sl.part {w : World} {b o n cap : Nat} {xs : List Value} (h : Sl w (some ⟨b, o, none⟩) n cap xs) {i j : Nat} (hij : i ≤ j) (hj : j ≤ n) : Sl w (some ⟨b, o + i, none⟩) (j - i) (cap - i) ((xs.drop i).take (j - i)) := by
  have hl := h.len
  have hr := h.room
  have hb := h.big
  refine ⟨by rw [List.length_take, List.length_drop]; omega, by omega, by omega, (by intro e; cases e), ?_⟩
  rcases Nat.eq_zero_or_pos n with e | e
  · exact Or.inl (by omega)
  · obtain ⟨b', o', e1, h1, h2⟩ := h.at e
    cases e1
    exact Or.inr ⟨b, o + i, rfl, h1, (h2.drop i).take _⟩
theorem bestB_of {L : List Pt} {P : List Nat} {n x0 x1 : Nat} {a1 a2 b1 b2 : Int} (hn : P.length = n) (h0 : P[0]? = some x0) (h1 : P[1]? = some x1) (e0 : ptAt L x0 = (a1, a2)) (e1 : ptAt L x1 = (b1, b2)) : bestB L P = bstQ (a1, a2) (b1, b2) ((P.drop 2).map (ptAt L)) (n - 2) := by
  unfold bestB; rw [getD_nat h0, getD_nat h1, e0, e1, hn]
theorem best_lt {L : List Pt} {P : List Nat} {n cc : Nat} (hlen : P.length = n) (h3 : 3 ≤ n) (hr : (cc : Int) = bestB L P) : cc + 2 < n := by
  have h := bestB_in L P (by omega)
  generalize bestB L P = z at h hr
  omega
theorem step_of {L : List Pt} {P : List Nat} {n cc c2 x0 x1 x2 : Nat} (hlen : P.length = n) (h3 : 3 ≤ n) (hr : (cc : Int) = bestB L P) (h0 : P[0]? = some x0) (h1 : P[1]? = some x1) (hc2 : c2 = cc + 2) (hx2 : P[c2]? = some x2) : fillP (bestB L) P = joinF (x0, x1, x2) (fillP (bestB L) (cutA P c2)) (fillP (bestB L) (cutB P c2)) := by
  rw [fill_step (bestB_in L) (by omega) hr.symm, getD_nat h0, getD_nat h1, ← hc2, getD_nat hx2]
theorem flat_t3 (d : List T3) (t : T3) : flat t3C (d ++ [t]) = flat t3C d ++ t3C t := by rw [flat_append]; simp [flat]
set_option maxRecDepth 100000 in
set_option maxHeartbeats 8000000 in
theorem hFillR (la : Option Addr) (nl lc : Nat) (L : List Pt) (hnl : nl ≤ 1000) : ∀ (mm : Nat) (P : List Nat) (pa : Option Addr) (n pc : Nat) (d : List T3) (da : Option Addr) (dn dc base : Nat) (w : World), n ≤ mm → PSl w la nl lc L → Sl w pa n pc (natC P) → OwnS w base 37 3 da dn dc (flat t3C d) → dn = d.length → base ≤ w.heap.size → (∀ k, Slot da k → ¬ Slot la k ∧ ¬ Slot pa k) → (∀ j ∈ P, j < nl) → d.length + n ≤ 1000 →
    Calls Try.prog 9 #[.slice la nl lc, .slice pa n pc, .slice da dn dc] w (FillPost base d (fillP (bestB L) P) da w) := by
  obtain ⟨i0, hi0, hz0, hz1, hz2⟩ := info_of info3
  intro mm
  induction mm with
  | zero =>
    intro P pa n pc d da dn dc base w hm hL hP hD hdn hbs hap hb hbig
    have hlen : P.length = n := by rw [← natC_len]; exact hP.len
    have h3 : (n : Int) < 3 := by omega
    have RES : Hid (FillPost base d (fillP (bestB L) P) da w (.returned (.tuple #[.slice da dn dc, .bool true])) w) := by
      refine ⟨⟨da, dn, dc, true, rfl, ?_, fun k hk => Or.inl hk⟩, Keep.refl _ _⟩
      rw [fill_few (by omega)]
      exact ⟨rfl, by rw [hdn]; rfl, by rw [List.append_nil]; exact hD⟩
    clear hL hP hD hap hb
    go_enter Try.func9, Try.ntmps9
    go_wp2
    exact bodyPost_ret (v := .tuple #[.slice da dn dc, .bool true]) (by simp [results, Try.results9, go_sem]) rfl RES.out
  | succ mm ih =>
    intro P pa n pc d da dn dc base w hm hL hP hD hdn hbs hap hb hbig
    have hlen : P.length = n := by rw [← natC_len]; exact hP.len
    by_cases h3 : n < 3
    · have h3' : (n : Int) < 3 := by omega
      have RES : Hid (FillPost base d (fillP (bestB L) P) da w (.returned (.tuple #[.slice da dn dc, .bool true])) w) := by
        refine ⟨⟨da, dn, dc, true, rfl, ?_, fun k hk => Or.inl hk⟩, Keep.refl _ _⟩
        rw [fill_few (by omega)]
        exact ⟨rfl, by rw [hdn]; rfl, by rw [List.append_nil]; exact hD⟩
      clear hL hP hD hap hb ih
      go_enter Try.func9, Try.ntmps9
      go_wp2
      exact bodyPost_ret (v := .tuple #[.slice da dn dc, .bool true]) (by simp [results, Try.results9, go_sem]) rfl RES.out
    · have h3' : ¬ (n : Int) < 3 := by omega
      have d3 : decide ((n : Int) < 3) = false := decide_eq_false h3'
      have IH : Hid _ := ih
      have HL : Hid _ := hL
      have HB : Hid _ := hb
      have HD : Hid (OwnS w base 37 3 da dn dc (flat t3C d)) := hD
      have HAP : Hid _ := hap
      have hroom := hP.room
      have hbigc := hP.big
      obtain ⟨pb, po, rfl, hpb, sg⟩ := hP.at (by omega)
      have HP : Hid _ := hP
      obtain ⟨x0, hx0⟩ : ∃ x, P[0]? = some x := ⟨P[0]'(by omega), List.getElem?_eq_getElem _⟩
      obtain ⟨x1, hx1⟩ : ∃ x, P[1]? = some x := ⟨P[1]'(by omega), List.getElem?_eq_getElem _⟩
      have p0 : w.cell? ⟨pb, po, none⟩ = some (.int .i64 (x0 : Int)) := sg.cell 0 _ (natC_at hx0)
      have p1 : w.cell? ⟨pb, po + 1, none⟩ = some (.int .i64 (x1 : Int)) := sg.cell 1 _ (natC_at hx1)
      have l0 := hb x0 (List.mem_of_getElem? hx0)
      have l1 := hb x1 (List.mem_of_getElem? hx1)
      have l0' : (x0 : Int) < (nl : Int) := by omega
      have l1' : (x1 : Int) < (nl : Int) := by omega
      obtain ⟨lb, lo, a1, a2, rfl, hlb, hxy0, hpc⟩ := hL.at l0
      obtain ⟨_, _, b1, b2, e9, _, hxy1, _⟩ := hL.at l1
      cases e9
      have hroom2 := hL.room
      have u0 := (hpc x0 a1 a2 hxy0).c0
      have u1 := (hpc x0 a1 a2 hxy0).c1
      have u2 := (hpc x1 b1 b2 hxy1).c0
      have u3 := (hpc x1 b1 b2 hxy1).c1
      have HX0 : Hid _ := hx0
      have HX1 : Hid _ := hx1
      obtain ⟨r, hr⟩ : ∃ r, r = bestB L P := ⟨_, rfl⟩
      have HR : Hid _ := hr
      have HR2 : Hid (r = bstQ (a1, a2) (b1, b2) ((P.drop 2).map (ptAt L)) (n - 2)) := by unfold Hid; rw [hr]; exact bestB_of hlen hx0 hx1 (ptAt_of hxy0) (ptAt_of hxy1)
      have C11 : Hid (∀ w', Below w.heap.size w w' → Calls Try.prog 12 #[.slice (some ⟨lb, lo, none⟩) nl lc, .slice (some ⟨pb, po + 2, none⟩) (n - 2) (pc - 2)] w' fun e w'' => ∃ a, e = .returned (.slice a (n - 2) (n - 2)) ∧ PSl w'' a (n - 2) (n - 2) ((P.drop 2).map (ptAt L)) ∧ Below w'.heap.size w' w'') := by
        intro w' hbw
        refine hPointsAt _ nl lc L _ (n - 2) (pc - 2) (P.drop 2) w' (HL.out.below hbw) ?_ (by omega) (fun j hj => HB.out j (List.mem_of_mem_drop hj)) hnl
        have := (HP.out.below hbw).part (i := 2) (j := n) (by omega) (Nat.le_refl _)
        rwa [← natC_drop, List.take_of_length_le (by rw [natC_len, List.length_drop]; omega)] at this
      have nn : ¬ (pc = 2) := by omega
      have HDN : Hid _ := hdn
      have n2 : (2 : Int) ≤ (n : Int) := by omega
      have nz0 : 0 < n := by omega
      have nz1 : 1 < n := by omega
      have nz2 : 2 ≤ n := by omega
      have nzi1 : (1 : Int) < (n : Int) := by omega
      clear hL hP hb hD hap ih sg hpc hx0 hx1 hxy0 hxy1 hr hdn
      go_enter Try.func9, Try.ntmps9
      go_wp2
      have HSr : Hid (∀ w', Below (w.heap.size) w w' → (fun w' => w'.cell? ⟨pb, po, none⟩ = some (.int .i64 (x0 : Int)) ∧ w'.cell? ⟨pb, po + 1, none⟩ = some (.int .i64 (x1 : Int)) ∧ Below (w.heap.size) w w') w') := by
        unfold Hid
        intro w' hb
        exact ⟨(hb.cell (p := ⟨pb, po, none⟩) hpb).trans p0, (hb.cell (p := ⟨pb, po + 1, none⟩) hpb).trans p1, hb⟩
      refine wp_region_held_drew (S := fun w' => w'.cell? ⟨pb, po, none⟩ = some (.int .i64 (x0 : Int)) ∧ w'.cell? ⟨pb, po + 1, none⟩ = some (.int .i64 (x1 : Int)) ∧ Below (w.heap.size) w w') (by kernel_rfl) ?_ (fun hHeld => ?_)
      · exact HSr.out _ ((Below.refl _ _).drew)
      refine ty (i := 0) (v := ?vr0) rfl ?hyr0 ?_
      case hyr0 => (intro w hSw; (try dsimp only at hSw); go_simp <;> with_reducible rfl)
      simp only [Act.put, ps1, ps2, ps3]
      refine ty (i := 1) (v := ?vr1) rfl ?hyr1 ?_
      case hyr1 => (intro w hSw; (try dsimp only at hSw); go_simp <;> with_reducible rfl)
      simp only [Act.put, ps1, ps2, ps3]
      refine ty (i := 2) (v := ?vr2) rfl ?hyr2 ?_
      case hyr2 => (intro w hSw; (try dsimp only at hSw); go_simp <;> with_reducible rfl)
      simp only [Act.put, ps1, ps2, ps3]
      refine ty (i := 3) (v := ?vr3) rfl ?hyr3 ?_
      case hyr3 => (intro w hSw; (try dsimp only at hSw); go_simp <;> with_reducible rfl)
      simp only [Act.put, ps1, ps2, ps3]
      refine ty (i := 4) (v := ?vr4) rfl ?hyr4 ?_
      case hyr4 => (intro w hSw; (try dsimp only at hSw); go_simp <;> with_reducible rfl)
      simp only [Act.put, ps1, ps2, ps3]
      refine ty (i := 5) (v := ?vr5) rfl ?hyr5 ?_
      case hyr5 => (intro w hSw; (try dsimp only at hSw); go_simp <;> with_reducible rfl)
      simp only [Act.put, ps1, ps2, ps3]
      refine ty (i := 6) (v := ?vr6) rfl ?hyr6 ?_
      case hyr6 => (intro w hSw; (try dsimp only at hSw); go_simp <;> with_reducible rfl)
      simp only [Act.put, ps1, ps2, ps3]
      refine ty (i := 7) (v := ?vr7) rfl ?hyr7 ?_
      case hyr7 => (intro w hSw; (try dsimp only at hSw); go_simp <;> with_reducible rfl)
      simp only [Act.put, ps1, ps2, ps3]
      refine wpAnyH_done (by kernel_rfl) ?_ _
      have b3 := hHeld.2.2
      clear hHeld HSr p0 p1
      go_wp2
      have HSs : Hid (∀ w', Below (w.drew.heap.size) w.drew w' → (fun w' => w'.cell? ⟨lb, lo + x0 * 2, none⟩ = some (.int .i64 a1) ∧ w'.cell? ⟨lb, lo + x0 * 2 + 1, none⟩ = some (.int .i64 a2) ∧ w'.cell? ⟨lb, lo + x1 * 2, none⟩ = some (.int .i64 b1) ∧ w'.cell? ⟨lb, lo + x1 * 2 + 1, none⟩ = some (.int .i64 b2) ∧ Below (w.drew.heap.size) w.drew w') w') := by
        unfold Hid
        intro w' hb
        exact ⟨(hb.cell (p := ⟨lb, lo + x0 * 2, none⟩) (Nat.lt_of_lt_of_le hlb b3.size)).trans (b3.cell (p := ⟨lb, lo + x0 * 2, none⟩) hlb |>.trans u0), (hb.cell (p := ⟨lb, lo + x0 * 2 + 1, none⟩) (Nat.lt_of_lt_of_le hlb b3.size)).trans (b3.cell (p := ⟨lb, lo + x0 * 2 + 1, none⟩) hlb |>.trans u1), (hb.cell (p := ⟨lb, lo + x1 * 2, none⟩) (Nat.lt_of_lt_of_le hlb b3.size)).trans (b3.cell (p := ⟨lb, lo + x1 * 2, none⟩) hlb |>.trans u2), (hb.cell (p := ⟨lb, lo + x1 * 2 + 1, none⟩) (Nat.lt_of_lt_of_le hlb b3.size)).trans (b3.cell (p := ⟨lb, lo + x1 * 2 + 1, none⟩) hlb |>.trans u3), hb⟩
      refine wp_region_held_drew (S := fun w' => w'.cell? ⟨lb, lo + x0 * 2, none⟩ = some (.int .i64 a1) ∧ w'.cell? ⟨lb, lo + x0 * 2 + 1, none⟩ = some (.int .i64 a2) ∧ w'.cell? ⟨lb, lo + x1 * 2, none⟩ = some (.int .i64 b1) ∧ w'.cell? ⟨lb, lo + x1 * 2 + 1, none⟩ = some (.int .i64 b2) ∧ Below (w.drew.heap.size) w.drew w') (by kernel_rfl) ?_ (fun hHeld => ?_)
      · exact HSs.out _ ((Below.refl _ _).drew)
      refine ty (i := 0) (v := ?vs0) rfl ?hys0 ?_
      case hys0 => (intro w hSw; (try dsimp only at hSw); go_simp <;> with_reducible rfl)
      simp only [Act.put, ps1, ps2, ps3]
      refine ty (i := 1) (v := ?vs1) rfl ?hys1 ?_
      case hys1 => (intro w hSw; (try dsimp only at hSw); go_simp <;> with_reducible rfl)
      simp only [Act.put, ps1, ps2, ps3]
      refine ty (i := 2) (v := ?vs2) rfl ?hys2 ?_
      case hys2 => (intro w hSw; (try dsimp only at hSw); go_simp <;> with_reducible rfl)
      simp only [Act.put, ps1, ps2, ps3]
      refine ty (i := 3) (v := ?vs3) rfl ?hys3 ?_
      case hys3 => (intro w hSw; (try dsimp only at hSw); go_simp <;> with_reducible rfl)
      simp only [Act.put, ps1, ps2, ps3]
      refine ty (i := 4) (v := ?vs4) rfl ?hys4 ?_
      case hys4 => (intro w hSw; (try dsimp only at hSw); go_simp <;> with_reducible rfl)
      simp only [Act.put, ps1, ps2, ps3]
      refine ty (i := 5) (v := ?vs5) rfl ?hys5 ?_
      case hys5 => (intro w hSw; (try dsimp only at hSw); go_simp <;> with_reducible rfl)
      simp only [Act.put, ps1, ps2, ps3]
      refine ty (i := 6) (v := ?vs6) rfl ?hys6 ?_
      case hys6 => (intro w hSw; (try dsimp only at hSw); go_simp <;> with_reducible rfl)
      simp only [Act.put, ps1, ps2, ps3]
      refine ty (i := 7) (v := ?vs7) rfl ?hys7 ?_
      case hys7 => (intro w hSw; (try dsimp only at hSw); go_simp <;> with_reducible rfl)
      simp only [Act.put, ps1, ps2, ps3]
      refine ty (i := 8) (v := ?vs8) rfl ?hys8 ?_
      case hys8 => (intro w hSw; (try dsimp only at hSw); go_simp <;> with_reducible rfl)
      simp only [Act.put, ps1, ps2, ps3]
      refine ty (i := 9) (v := ?vs9) rfl ?hys9 ?_
      case hys9 => (intro w hSw; (try dsimp only at hSw); go_simp <;> with_reducible rfl)
      simp only [Act.put, ps1, ps2, ps3]
      refine ty (i := 10) (v := ?vs10) rfl ?hys10 ?_
      case hys10 => (intro w hSw; (try dsimp only at hSw); go_simp <;> with_reducible rfl)
      simp only [Act.put, ps1, ps2, ps3]
      refine take_call (i := 11) rfl (by kernel_rfl) (fun Kc hK => ?_)
      go_simp
      (go_at_call 12; refine Calls.mono (C11.out _ (also b3 hHeld.2.2.2.2)) ?_; rintro e w4 ⟨pa4, rfl, ps4, bo4⟩)
      refine hK.out _ _ ?_ (fun hHeld => ?_)
      · exact HSs.out _ (hHeld.2.2.2.2.trans (bo4.mono hHeld.2.2.2.2.size))
      clear hK Kc
      refine take_call (i := 12) rfl (by kernel_rfl) (fun Kc hK => ?_)
      go_simp
      (go_at_call 11; refine Calls.mono (tBest a1 a2 b1 b2 pa4 (n - 2) (n - 2) _ _ ps4 (by omega) HR2.out) ?_; rintro e w5 ⟨rfl, bo5⟩)
      refine hK.out _ _ ?_ (fun hHeld => ?_)
      · exact HSs.out _ (hHeld.2.2.2.2.trans (bo5.mono hHeld.2.2.2.2.size))
      clear hK Kc
      refine ty (i := 13) (v := ?vs13) rfl ?hys13 ?_
      case hys13 => (intro w hSw; (try dsimp only at hSw); go_simp <;> with_reducible rfl)
      simp only [Act.put, ps1, ps2, ps3]
      refine wpAnyH_done (by kernel_rfl) ?_ _
      have b5 : Below w.heap.size w w5 := also b3 hHeld.2.2.2.2
      clear hHeld HSs ps4 bo4 bo5 u0 u1 u2 u3 b3 C11 HR2
      by_cases hr0 : r < 0
      · have RES : Hid (FillPost base d (fillP (bestB L) P) da w (.returned (.tuple #[.slice none 0 0, .bool false])) w5) := by
          refine ⟨⟨none, 0, 0, false, rfl, ?_, fun k hk => by obtain ⟨o, e⟩ := hk; cases e⟩, Keep.of b5⟩
          rw [fill_no (by omega) (by rw [← HR.out]; exact hr0)]
          exact ⟨rfl, rfl, rfl, rfl⟩
        go_wp2
        exact bodyPost_ret (v := .tuple #[.slice none 0 0, .bool false]) (by simp [results, Try.results9, go_sem]) rfl RES.out
      obtain ⟨cc, rfl⟩ : ∃ cc : Nat, r = (cc : Int) := ⟨r.toNat, by omega⟩
      have hcc : cc + 2 < n := best_lt hlen (by omega) HR.out
      have l2 : (cc : Int) + 2 < (n : Int) := by omega
      have l3 : (cc : Int) + 2 + 1 ≤ (n : Int) := by omega
      have l2' : cc + 2 < n := by omega
      have l1n : (1 : Int) ≤ (n : Int) := by omega
      obtain ⟨x2, hx2⟩ : ∃ x, P[(cc + 2)]? = some x := ⟨P[(cc + 2)]'(by omega), List.getElem?_eq_getElem _⟩
      obtain ⟨_, _, e8, _, sg5⟩ := (HP.out.below b5).at (by omega)
      cases e8
      have p2 : w5.cell? ⟨pb, po + (cc + 2), none⟩ = some (.int .i64 (x2 : Int)) := sg5.cell (cc + 2) _ (natC_at hx2)
      have ow5 := HD.out.below b5
      have b6' : Below w5.heap.size w5 (w5.alloc (.cells #[.int .i64 (x0 : Int), .int .i64 (x1 : Int), .int .i64 (x2 : Int)] 37)) := (Below.refl _ _).alloc (Nat.le_refl _) _
      have owX := ow5.below b6'
      have NW := news_new w5 (t3C (x0, x1, x2)) 37
      have z5 := b5.size
      have STEP : Hid (fillP (bestB L) P = joinF (x0, x1, x2) (fillP (bestB L) (cutA P (cc + 2))) (fillP (bestB L) (cutB P (cc + 2)))) := step_of hlen (by omega) HR.out HX0.out HX1.out rfl hx2
      have LENA : Hid ((cutA P (cc + 2)).length = (cc + 2)) := cutA_len (by omega)
      have LENB : Hid ((cutB P (cc + 2)).length = n - (cc + 2) + 1) := by unfold Hid; rw [cutB_len (by omega), hlen]
      clear hx2 sg5
      have A1 : dn + 1 ≤ maxLen := by have := HDN.out; unfold maxLen; omega
      have A2 : (dn + 1) * 24 ≤ 140737488355328 := by have := HDN.out; omega
      have A3 : base ≤ (w5.alloc (.cells #[.int .i64 (x0 : Int), .int .i64 (x1 : Int), .int .i64 (x2 : Int)] 37)).heap.size := by simp; omega
      go_wp2_with (at_builtin; go_loud (refine app_atS _ rfl _ _ 23 rfl base 37 i0 _ 3 24 Try.underlying23 hi0 hz0 hz1 hz2 rfl (by decide) da dn dc _ rfl owX ⟨w5.heap.size, 0, none⟩ 1 1 (t3C (x0, x1, x2)) rfl rfl NW (t3C_one _) A1 A2 A3 ?_; intro a6 c6 w6 h6 g6 s6))
      have K6 : Keep (Slot da) w w6 := Keep.grown (Keep.of (also b5 b6')) g6 (fun k e => Or.inl (owX.slot e))
      rw [← flat_t3] at h6
      have s6' : ∀ k, Slot a6 k → Slot da k ∨ w.heap.size ≤ k := fun k hk => (s6 k hk).imp id (fun h => by simp at h; omega)
      have z6 := K6.size
      have ap6 : ∀ k, Slot a6 k → k ≠ lb ∧ k ≠ pb := by
        intro k hk
        rcases s6' k hk with q | q
        · have := HAP.out k q
          exact ⟨fun e => this.1 ⟨lo, by rw [e]⟩, fun e => this.2 ⟨po, by rw [e]⟩⟩
        · omega
      have HK6 : Hid _ := K6
      have HS6 : Hid _ := s6'
      have PL6 : Hid (PSl w6 (some ⟨lb, lo, none⟩) nl lc L) := HL.out.keep K6 (fun k hs hF => (HAP.out k hF).1 hs)
      have PP6 : Hid (Sl w6 (some ⟨pb, po, none⟩) n pc (natC P)) := HP.out.keep K6 (fun k hs hF => (HAP.out k hF).2 hs)
      have CR1 : Hid (Calls Try.prog 9 #[.slice (some ⟨lb, lo, none⟩) nl lc, .slice (some ⟨pb, po + 1, none⟩) (cc + 2) (pc - 1), .slice a6 (dn + 1) c6] w6 (FillPost base (d ++ [(x0, x1, x2)]) (fillP (bestB L) (cutA P (cc + 2))) a6 w6)) := by
        refine IH.out (cutA P (cc + 2)) _ (cc + 2) (pc - 1) _ a6 (dn + 1) c6 base w6 (by omega) PL6.out ?_ h6 (by rw [List.length_append, HDN.out]; rfl) (by omega) (fun k hk => ?_) (fun j hj => HB.out j (mem_cutA hj)) (by rw [List.length_append]; show d.length + 1 + _ ≤ _; omega)
        · have := PP6.out.part (i := 1) (j := cc + 3) (by omega) (by omega)
          rw [← natC_drop, ← natC_take] at this
          exact this
        · have := ap6 k hk
          exact ⟨fun h => this.1 (Slot.eq h), fun h => this.2 (Slot.eq h)⟩
      clear owX NW h6 g6 s6 s6' b6' ow5 p2 K6 b5
      go_wp2_with (go_at_call 9; fail)
      refine Calls.mono CR1.out ?_
      rintro e w7 ⟨⟨a7, m7, c7, q7, rfl, told7, s7⟩, k7⟩
      have K7 : Keep (Slot da) w w7 := HK6.out.trans k7 (fun i hi => HS6.out i hi)
      have S7 : ∀ k, Slot a7 k → Slot da k ∨ w.heap.size ≤ k := fun k hk => by
        rcases s7 k hk with q | q
        · exact HS6.out k q
        · exact Or.inr (by omega)
      have HK7 : Hid _ := K7
      have HS7 : Hid _ := S7
      have HT7 : Hid _ := told7
      have z7 := K7.size
      clear CR1 told7 s7 k7
      cases q7 with
      | false =>
        have RES : Hid (FillPost base d (fillP (bestB L) P) da w (.returned (.tuple #[.slice none 0 0, .bool false])) w7) := by
          refine ⟨⟨none, 0, 0, false, rfl, ?_, fun k hk => by obtain ⟨o, e⟩ := hk; cases e⟩, K7⟩
          have t7 := HT7.out
          rw [STEP.out]
          cases e1 : fillP (bestB L) (cutA P (cc + 2)) with
          | none => exact ⟨rfl, rfl, rfl, rfl⟩
          | some T => rw [e1] at t7; exact absurd t7.1 (by simp)
        clear K7 S7
        go_wp2
        exact bodyPost_ret (v := .tuple #[.slice none 0 0, .bool false]) (by simp [results, Try.results9, go_sem]) rfl RES.out
      | true =>
        obtain ⟨T1, hT1⟩ : ∃ T, fillP (bestB L) (cutA P (cc + 2)) = some T := by
          have t7 := HT7.out
          cases e1 : fillP (bestB L) (cutA P (cc + 2)) with
          | none => rw [e1] at t7; exact absurd t7.1 (by simp)
          | some T => exact ⟨T, rfl⟩
        have t7 := HT7.out
        rw [hT1] at t7
        obtain ⟨_, hm7, ow7⟩ := t7
        have lT := fill_len (bestB_in L) _ _ T1 (Nat.le_refl _) (by rw [LENA.out]; omega) hT1
        rw [LENA.out] at lT
        have HT1 : Hid _ := hT1
        have HM7 : Hid _ := hm7
        have HOW7 : Hid (OwnS w7 base 37 3 a7 m7 c7 (flat t3C (d ++ [(x0, x1, x2)] ++ T1))) := ow7
        have PL7 : Hid (PSl w7 (some ⟨lb, lo, none⟩) nl lc L) := HL.out.keep K7 (fun k hs hF => (HAP.out k hF).1 hs)
        have PP7 : Hid (Sl w7 (some ⟨pb, po, none⟩) n pc (natC P)) := HP.out.keep K7 (fun k hs hF => (HAP.out k hF).2 hs)
        have ap7 : ∀ k, Slot a7 k → k ≠ lb ∧ k ≠ pb := by
          intro k hk
          rcases S7 k hk with q | q
          · have := HAP.out k q
            exact ⟨fun e => this.1 ⟨lo, by rw [e]⟩, fun e => this.2 ⟨po, by rw [e]⟩⟩
          · omega
        have HA7 : Hid _ := ap7
        have CC : Hid (∀ (w' : World) (b : Nat), Below w7.heap.size w7 w' → Row w' b [.slice (some ⟨pb, po + (cc + 2), none⟩) (n - (cc + 2)) (pc - (cc + 2)), .slice (some ⟨pb, po, none⟩) 1 pc] → b < w'.heap.size → Calls Try.prog 13 #[.slice (some ⟨b, 0, none⟩) 2 2] w' fun e w'' => ∃ (a : Option Addr) (c : Nat), e = .returned (.slice a (n - (cc + 2) + 1) c) ∧ Own w'' w'.heap.size 3 a (n - (cc + 2) + 1) c (natC (cutB P (cc + 2))) ∧ Below w'.heap.size w' w'') := by
          intro w' b hb hr hlt
          have S1 := PP7.out.below hb
          refine hConcat b _ _ (n - (cc + 2)) (pc - (cc + 2)) 1 pc (P.drop (cc + 2)) (P.take 1) w' hr hlt ?_ ?_ (by omega) (by omega)
          · have := S1.part (i := (cc + 2)) (j := n) (by omega) (Nat.le_refl _)
            rwa [← natC_drop, List.take_of_length_le (by rw [natC_len, List.length_drop]; omega)] at this
          · have := S1.take (m := 1) (by omega)
            rwa [← natC_take] at this
        have CR2 : Hid (∀ (w8 : World) (a8 : Option Addr) (c8 : Nat), Below w7.heap.size w7 w8 → Own w8 (w7.heap.size + 1) 3 a8 (n - (cc + 2) + 1) c8 (natC (cutB P (cc + 2))) → Calls Try.prog 9 #[.slice (some ⟨lb, lo, none⟩) nl lc, .slice a8 (n - (cc + 2) + 1) c8, .slice a7 m7 c7] w8 (FillPost base (d ++ [(x0, x1, x2)] ++ T1) (fillP (bestB L) (cutB P (cc + 2))) a7 w8)) := by
          intro w8 a8 c8 hb8 ow8
          have z8 := hb8.size
          refine IH.out (cutB P (cc + 2)) _ _ c8 _ a7 m7 c7 base w8 (by omega) (PL7.out.below hb8) ow8.sl (HOW7.out.below hb8) (by rw [HM7.out, List.length_append (bs := T1)]) (by omega) (fun k hk => ?_) (fun j hj => HB.out j (mem_cutB hj)) ?_
          · have := HA7.out k hk
            refine ⟨fun h => this.1 (Slot.eq h), fun h => ?_⟩
            have q1 := (ow8.lt h).2
            have q2 := (HOW7.out.lt hk).1
            omega
          · rw [List.length_append, List.length_append, lT]
            show d.length + 1 + _ + _ ≤ _
            omega
        clear K7 S7 hT1 hm7 ow7 HT7 ap7
        have tn : ((cc : Int) + 2).toNat = cc + 2 := by omega
        have t0 : (0 : Int) ≤ (cc : Int) + 2 := by omega
        have t1 : (cc : Int) + 2 ≤ (n : Int) := by omega
        have tp : ¬ pc = cc + 2 := by omega
        have tq : (1 : Int) ≤ (pc : Int) := by omega
        go_wp2

        have HSt : Hid (∀ w', Keep (Slot a7) w7 w' → (fun w' => True ∧ Keep (Slot a7) w7 w') w') := by
          unfold Hid
          intro w' hb
          exact ⟨trivial, hb⟩
        refine wp_region_held_drew (S := fun w' => True ∧ Keep (Slot a7) w7 w') (by kernel_rfl) ?_ (fun hHeld => ?_)
        · exact HSt.out _ ((Keep.refl _ _).drew)
        refine ty (i := 0) (v := ?vt0) rfl ?hyt0 ?_
        case hyt0 => (intro w hSw; (try dsimp only at hSw); go_simp <;> with_reducible rfl)
        simp only [Act.put, ps1, ps2, ps3]
        refine ty (i := 1) (v := ?vt1) rfl ?hyt1 ?_
        case hyt1 => (intro w hSw; (try dsimp only at hSw); go_simp <;> with_reducible rfl)
        simp only [Act.put, ps1, ps2, ps3]
        refine ty (i := 2) (v := ?vt2) rfl ?hyt2 ?_
        case hyt2 => (intro w hSw; (try dsimp only at hSw); go_simp <;> with_reducible rfl)
        simp only [Act.put, ps1, ps2, ps3]
        refine ty (i := 3) (v := ?vt3) rfl ?hyt3 ?_
        case hyt3 => (intro w hSw; (try dsimp only at hSw); go_simp <;> with_reducible rfl)
        simp only [Act.put, ps1, ps2, ps3]
        refine ty (i := 4) (v := ?vt4) rfl ?hyt4 ?_
        case hyt4 => (intro w hSw; (try dsimp only at hSw); go_simp <;> with_reducible rfl)
        simp only [Act.put, ps1, ps2, ps3]
        refine ty (i := 5) (v := ?vt5) rfl ?hyt5 ?_
        case hyt5 => (intro w hSw; (try dsimp only at hSw); go_simp <;> with_reducible rfl)
        simp only [Act.put, ps1, ps2, ps3]
        refine ty (i := 8) (v := ?vt8) rfl ?hyt8 ?_
        case hyt8 => (intro w hSw; (try dsimp only at hSw); go_simp <;> with_reducible rfl)
        simp only [Act.put, ps1, ps2, ps3]
        refine take_call (i := 6) rfl (by kernel_rfl) (fun Kc hK => ?_)
        go_simp
        refine hK.out _ _ ?_ (fun hHeld => ?_)
        · exact HSt.out _ (hHeld.2.alloc _)
        clear hK Kc
        refine take_call (i := 7) rfl (by kernel_rfl) (fun Kc hK => ?_)
        go_simp
        (go_at_call 13; refine Calls.mono (CC.out _ _ (((Below.refl _ _).drew).alloc (by simp) _) (Row.new _ _ _) (by simp)) ?_; rintro e w8 ⟨a8, c8, rfl, ow8, bo8⟩)
        refine hK.out _ _ ?_ (fun hHeld => ?_)
        · exact HSt.out _ (hHeld.2.to bo8)
        clear hK Kc
        refine take_call (i := 9) rfl (by kernel_rfl) (fun Kc hK => ?_)
        go_simp
        (go_at_call 9; refine Calls.mono (CR2.out w8 a8 c8 (also (((Below.refl _ _).drew).alloc (by simp) _) bo8) (by simpa using ow8)) ?_; rintro e w9 ⟨⟨a9, m9, c9, q9, rfl, told9, s9⟩, k9⟩)
        refine hK.out _ _ ?_ (fun hHeld => ?_)
        · exact HSt.out _ (hHeld.2.trans k9 (fun i g => Or.inl g))
        clear hK Kc
        refine ty (i := 10) (v := ?vt10) rfl ?hyt10 ?_
        case hyt10 => (intro w hSw; (try dsimp only at hSw); go_simp <;> with_reducible rfl)
        simp only [Act.put, ps1, ps2, ps3]
        refine ty (i := 11) (v := ?vt11) rfl ?hyt11 ?_
        case hyt11 => (intro w hSw; (try dsimp only at hSw); go_simp <;> with_reducible rfl)
        simp only [Act.put, ps1, ps2, ps3]
        refine ty (i := 12) (v := ?vt12) rfl ?hyt12 ?_
        case hyt12 => (intro w hSw; (try dsimp only at hSw); go_simp <;> with_reducible rfl)
        simp only [Act.put, ps1, ps2, ps3]
        refine ty (i := 13) (v := ?vt13) rfl ?hyt13 ?_
        case hyt13 => (intro w hSw; (try dsimp only at hSw); go_simp <;> with_reducible rfl)
        simp only [Act.put, ps1, ps2, ps3]
        refine wpAnyH_done (by kernel_rfl) ?_ _
        have kf := hHeld.2
        have RES : Hid (FillPost base d (fillP (bestB L) P) da w (.returned (.tuple #[.slice a9 m9 c9, .bool q9])) w9) := by
          refine ⟨⟨a9, m9, c9, q9, rfl, ?_, fun k hk => ?_⟩, HK7.out.trans kf (fun i g => HS7.out i g)⟩
          · rw [STEP.out, HT1.out]
            cases e2 : fillP (bestB L) (cutB P (cc + 2)) with
            | none => rw [e2] at told9; exact told9
            | some T2 =>
              rw [e2] at told9
              obtain ⟨t1, t2, t3⟩ := told9
              refine ⟨t1, ?_, ?_⟩
              · rw [t2]; simp only [List.length_append, List.length_cons, List.length_nil]; omega
              · have e : d ++ (x0, x1, x2) :: (T1 ++ T2) = d ++ [(x0, x1, x2)] ++ T1 ++ T2 := by simp
                show OwnS w9 base 37 3 a9 m9 c9 (flat t3C (d ++ (x0, x1, x2) :: (T1 ++ T2)))
                rw [e]; exact t3
          · rcases s9 k hk with q | q
            · exact HS7.out k q
            · have := kf.size
              have := bo8.size
              simp at this
              exact Or.inr (by omega)
        clear hHeld HSt told9 s9 k9 kf CC CR2
        go_wp2
        exact bodyPost_ret (v := .tuple #[.slice a9 m9 c9, .bool q9]) (by simp [results, Try.results9, go_sem]) rfl RES.out
end Go.Proofs.Ytkmgndaholglhaa

namespace Go.Proofs.Ytkmgndaholglhaa
open Go.RowKit
set_option linter.unusedVariables false

/-- How a hole is filled. -/
def fillTop (L : List Pt) : Option (List T3) := if L.length < 3 ∨ 500 < L.length then none else fillP (bestB L) (List.range L.length)
structure FillRes (L : List Pt) (w : World) (e : Ending) (w' : World) : Prop where
  ex : ∃ (a : Option Addr) (m c : Nat) (q : Bool), e = .returned (.tuple #[.slice a m c, .bool q]) ∧ FillTold w.heap.size [] (fillTop L) a m c q w'
  be : Below w.heap.size w w'
theorem take_set1 {xs : List Value} {k n : Nat} {a : Value} (hl : xs.length = n) (hk : k < n) : (xs.set k a).take (k + 1) = xs.take k ++ [a] := by
  rw [List.take_add_one, List.getElem?_set_self (by omega), List.take_set_of_le (Nat.le_refl _)]; rfl
theorem eq_3h (a b c a' b' c' : Int) (w : World) : (Op.equalIn 10000 37 (.agg #[.int .i64 a, .int .i64 b, .int .i64 c]) (.agg #[.int .i64 a', .int .i64 b', .int .i64 c'])).run Try.prog w = .ok (a == a' && (b == b' && c == c')) w := by
  obtain ⟨i, hi⟩ := Option.isSome_iff_exists.1 (show (Try.prog.info? 3).isSome = true by kernel_rfl)
  have hc : Try.prog.cellsOf 3 = 1 := by kernel_rfl
  rw [run_equalIn_array w 9999 _ _ Try.underlying37 hi, hc]
  simp [Op.eqItems, List.range, List.range.loop, go_sem, Try.underlying3]
  by_cases e0 : a = a' <;> by_cases e1 : b = b' <;> by_cases e2 : c = c' <;> simp [e0, e1, e2]
/-- An element of a slice. -/
theorem OwnS.elH {α : Type} {f : α → List Value} {s : Nat} (hf : ∀ x, (f x).length = s) {w : World} {base : Nat} {T : TypeId} {a : Option Addr} {n cap : Nat} {L : List α} (h : OwnS w base T s a n cap (flat f L)) (hn : n = L.length) {k : Nat} {x : α} (hk : L[k]? = some x) :
    ∃ b, a = some ⟨b, 0, none⟩ ∧ b < w.heap.size ∧ base ≤ b ∧ n ≤ cap ∧ ∀ j u, (f x)[j]? = some u → w.cell? ⟨b, k * s + j, none⟩ = some u := by
  have hl := (List.getElem?_eq_some_iff.1 hk).1
  obtain ⟨b, e, h1, h2, sg⟩ := h.at (by omega)
  refine ⟨b, e, h1, h2, h.room.1, fun j u hu => ?_⟩
  have := sg.cell (k * s + j) u (flat_at hf hk hu)
  rwa [Nat.zero_add] at this
set_option maxRecDepth 100000 in
set_option maxHeartbeats 4000000 in
theorem hFillTop (la : Option Addr) (nl lc : Nat) (L : List Pt) (w : World) (hL : PSl w la nl lc L) (hnl : nl ≤ 100000) :
    Calls Try.prog 5 #[.slice la nl lc] w (FillRes L w) := by
  have hlen := hL.len
  by_cases h3 : nl < 3
  · have h3' : (nl : Int) < 3 := by omega
    have RES : Hid (FillTold w.heap.size [] (fillTop L) none 0 0 false w) := by
      unfold Hid fillTop; rw [if_pos (Or.inl (by omega))]; exact ⟨rfl, rfl, rfl, rfl⟩
    clear hL
    go_enter Try.func5, Try.ntmps5
    go_wp2
    exact bodyPost_ret (v := .tuple #[.slice none 0 0, .bool false]) (by simp [results, Try.results5, go_sem]) rfl ⟨⟨none, 0, 0, false, rfl, RES.out⟩, Below.refl _ _⟩
  have h3' : ¬ (nl : Int) < 3 := by omega
  have d3 : decide ((nl : Int) < 3) = false := decide_eq_false h3'
  by_cases h5 : 500 < nl
  · have h5' : (nl : Int) > 500 := by omega
    have RES : Hid (FillTold w.heap.size [] (fillTop L) none 0 0 false w) := by
      unfold Hid fillTop; rw [if_pos (Or.inr (by omega))]; exact ⟨rfl, rfl, rfl, rfl⟩
    clear hL
    go_enter Try.func5, Try.ntmps5
    go_wp2
    exact bodyPost_ret (v := .tuple #[.slice none 0 0, .bool false]) (by simp [results, Try.results5, go_sem]) rfl ⟨⟨none, 0, 0, false, rfl, RES.out⟩, Below.refl _ _⟩
  have h5' : ¬ (nl : Int) > 500 := by omega
  obtain ⟨i0, hi0, hz0, hz1, hz2⟩ := info_of infoI
  obtain ⟨i3, ki0, kz0, kz1, kz2⟩ := info_of info3
  have HL : Hid _ := hL
  obtain ⟨lb, lo, _, _, rfl, hlb, _, _⟩ := hL.at (k := 0) (by omega)
  have TOP : Hid (fillTop L = fillP (bestB L) (List.range nl)) := by unfold Hid fillTop; rw [if_neg (by omega), hlen]
  obtain ⟨q, hq⟩ : ∃ q, q = nl - 2 := ⟨_, rfl⟩
  have HQ : Hid ((nl : Int) - 2 = (q : Int)) := by unfold Hid; omega
  have hqb : q ≤ 1000 := by omega
  clear hq
  clear hL
  go_enter Try.func5, Try.ntmps5
  go_wp2_with (at_make; go_loud (refine wpList_make_full _ rfl _ _ 33 rfl w.heap.size 3 i0 _ 1 Try.underlying33 hi0 hz0 hz1 _ _ _ _ nl rfl rfl rfl rfl (by rw [hz2]; omega) (by unfold maxLen; omega) (Nat.le_refl _) ?_; intro w1 ow1 gr1))
  have b1 : Below w.heap.size w w1 := Below.to gr1
  clear gr1
  go_wp2
  go_loopw [19] (fun i wr => ∃ (k : Nat) (xs : List Value), k ≤ nl ∧ i = .int .i64 (k : Int) ∧ OwnS wr w.heap.size 3 1 (some ⟨w.heap.size, 0, none⟩) nl nl xs ∧ Hid (xs.take k = natC (List.range k)) ∧ Below w.heap.size w wr ∧ w.heap.size < wr.heap.size) (fun i _ => nl - (Go.RowKit.intOf i).toNat)
  case atStart => exact ⟨0, _, by omega, rfl, ow1, rfl, b1, (OwnS.lt ow1 ⟨0, rfl⟩).1⟩
  case round =>
    clear ow1 b1
    obtain ⟨k, xs, hk, rfl, ow, HX, be, zz⟩ := hrel
    by_cases hlt : k < nl
    · have hlt' : (k : Int) < (nl : Int) := by omega
      have hlx := ow.len
      have g0 := ow.cell (by omega) (List.getElem?_eq_getElem (show k < xs.length by omega))
      have g00 := g0.1
      have g01 := g0.2
      have ow2 := OwnS.set (j := k) ow (.int .i64 (k : Int))
      have be2 : Below w.heap.size w (wr.setCell ⟨w.heap.size, k, none⟩ (.int .i64 (k : Int))) := be.setCell (by simp) _
      have HX2 : Hid ((xs.set k (.int .i64 (k : Int))).take (k + 1) = natC (List.range (k + 1))) := by
        unfold Hid
        rw [take_set1 (n := nl) (by omega) hlt, HX.out, List.range_succ, natC_app]
        rfl
      clear ow be g0 HX
      go_wp2
      go_roundw
      case rel => exact ⟨k + 1, _, by omega, by simp, ow2, HX2.out, be2, by simp; omega⟩
      case measure => simp [Go.RowKit.intOf]; omega
    · obtain rfl : nl = k := by omega
      have hx := HX.out
      rw [List.take_of_length_le (by rw [ow.len]; omega)] at hx
      rw [hx] at ow
      have zr := be.size
      clear HX hx
      go_wp2_with (at_make; go_loud (refine wpList_make_own _ rfl _ _ 23 rfl wr.heap.size 37 i3 _ 3 Try.underlying23 ki0 kz0 kz1 _ _ _ q rfl rfl HQ.out (by rw [kz2]; omega) (by unfold maxLen; omega) (Nat.le_refl _) ?_; intro w2 ow2 gr2))
      have b2 : Below wr.heap.size wr w2 := Below.to gr2
      obtain ⟨a2, c2, e2, ow3⟩ := OwnS.form ow2
      cases e2
      have z2 := b2.size
      have CF : Hid (Calls Try.prog 9 #[.slice (some ⟨lb, lo, none⟩) nl lc, .slice (some ⟨w.heap.size, 0, none⟩) nl nl, .slice (some ⟨wr.heap.size, 0, none⟩) 0 q] w2 (FillPost w.heap.size [] (fillP (bestB L) (List.range nl)) (some ⟨wr.heap.size, 0, none⟩) w2)) := by
        refine hFillR _ nl lc L (by omega) nl (List.range nl) _ nl nl [] _ 0 q w.heap.size w2 (Nat.le_refl _) ((HL.out.below be).below b2) (Own.sl (OwnS.below ow b2)) (ow3.mono (by omega)) rfl (by omega) (fun k hk => ?_) (fun j hj => List.mem_range.1 hj) (by show 0 + nl ≤ 1000; omega)
        have e := Slot.eq hk
        exact ⟨fun h => by have := Slot.eq h; omega, fun h => by have := Slot.eq h; omega⟩
      have be2 : Below w.heap.size w w2 := also be b2
      clear ow2 gr2 ow3 ow
      go_wp2_with (go_at_call 9; fail)
      refine Calls.mono CF.out ?_
      rintro e w3 ⟨⟨a, m, c, r, rfl, told, _⟩, kp⟩
      have be3 : Below w.heap.size w w3 := be2.trans (kp.below (by omega) (fun k hk => by have := Slot.eq hk; omega))
      have RES : Hid (FillTold w.heap.size [] (fillTop L) a m c r w3) := by unfold Hid; rw [TOP.out]; exact told
      clear CF told kp
      go_wp2
      exact bodyPost_ret (v := .tuple #[.slice a m c, .bool r]) (by simp [results, Try.results5, go_sem]) rfl ⟨⟨a, m, c, r, rfl, RES.out⟩, be3⟩
set_option maxRecDepth 100000 in
set_option maxHeartbeats 4000000 in
theorem rhSame (a b : Option Addr) (ba bb n ca cb : Nat) (D : List T3) (w : World) (ha : OwnS w ba 37 3 a n ca (flat t3C D)) (hb : OwnS w bb 37 3 b n cb (flat t3C D)) (hn : n = D.length) (hD : n ≤ 1000000) :
    Calls Try.prog 7 #[.slice a n ca, .slice b n cb] w fun e w' => e = .returned (.bool true) ∧ Below w.heap.size w w' := by
  have HA : Hid _ := ha
  have HB : Hid _ := hb
  have HN : Hid _ := hn
  clear ha hb hn
  go_enter Try.func7, Try.ntmps7
  go_wp2
  go_loopw [5] (fun i wr => ∃ k : Nat, k ≤ n ∧ i = .int .i64 (k : Int) ∧ Below w.heap.size w wr) (fun i _ => n - (Go.RowKit.intOf i).toNat)
  case atStart => exact ⟨0, by omega, rfl, Below.refl _ _⟩
  case round =>
    obtain ⟨k, hk, rfl, be⟩ := hrel
    by_cases hlt : k < n
    · have hlt' : (k : Int) < (n : Int) := by omega
      obtain ⟨t, ht⟩ : ∃ t, D[k]? = some t := ⟨D[k]'(by rw [← HN.out]; exact hlt), List.getElem?_eq_getElem _⟩
      obtain ⟨ga, rfl, hla, _, hca, HE⟩ := OwnS.elH t3C_len (OwnS.below HA.out be) HN.out ht
      obtain ⟨gb, rfl, hlb, _, hcb, HE2⟩ := OwnS.elH t3C_len (OwnS.below HB.out be) HN.out ht
      have c0 : wr.cell? ⟨ga, k * 3, none⟩ = some (.int .i64 (t.1 : Int)) := HE 0 _ rfl
      have d0 : wr.cell? ⟨gb, k * 3, none⟩ = some (.int .i64 (t.1 : Int)) := HE2 0 _ rfl
      have c1 : wr.cell? ⟨ga, k * 3 + 1, none⟩ = some (.int .i64 (t.2.1 : Int)) := HE 1 _ rfl
      have d1 : wr.cell? ⟨gb, k * 3 + 1, none⟩ = some (.int .i64 (t.2.1 : Int)) := HE2 1 _ rfl
      have c2 : wr.cell? ⟨ga, k * 3 + 2, none⟩ = some (.int .i64 (t.2.2 : Int)) := HE 2 _ rfl
      have d2 : wr.cell? ⟨gb, k * 3 + 2, none⟩ = some (.int .i64 (t.2.2 : Int)) := HE2 2 _ rfl
      have heq : ∀ w', (Op.equalIn 10000 37 (.agg #[.int .i64 (t.1 : Int), .int .i64 (t.2.1 : Int), .int .i64 (t.2.2 : Int)]) (.agg #[.int .i64 (t.1 : Int), .int .i64 (t.2.1 : Int), .int .i64 (t.2.2 : Int)])).run Try.prog w' = .ok true w' := fun w' => by rw [eq_3h]; simp
      clear HE HE2 ht
      go_wp2
      have HSs : Hid (∀ w', Below (wr.heap.size) wr w' → (fun w' => w'.cell? ⟨ga, k * 3, none⟩ = some (.int .i64 (t.1 : Int)) ∧ w'.cell? ⟨ga, k * 3 + 1, none⟩ = some (.int .i64 (t.2.1 : Int)) ∧ w'.cell? ⟨ga, k * 3 + 2, none⟩ = some (.int .i64 (t.2.2 : Int)) ∧ w'.cell? ⟨gb, k * 3, none⟩ = some (.int .i64 (t.1 : Int)) ∧ w'.cell? ⟨gb, k * 3 + 1, none⟩ = some (.int .i64 (t.2.1 : Int)) ∧ w'.cell? ⟨gb, k * 3 + 2, none⟩ = some (.int .i64 (t.2.2 : Int)) ∧ Below (wr.heap.size) wr w') w') := by
        unfold Hid
        intro w' hb
        exact ⟨(hb.cell (p := ⟨ga, k * 3, none⟩) hla).trans c0, (hb.cell (p := ⟨ga, k * 3 + 1, none⟩) hla).trans c1, (hb.cell (p := ⟨ga, k * 3 + 2, none⟩) hla).trans c2, (hb.cell (p := ⟨gb, k * 3, none⟩) hlb).trans d0, (hb.cell (p := ⟨gb, k * 3 + 1, none⟩) hlb).trans d1, (hb.cell (p := ⟨gb, k * 3 + 2, none⟩) hlb).trans d2, hb⟩
      refine wp_region_held_drew (S := fun w' => w'.cell? ⟨ga, k * 3, none⟩ = some (.int .i64 (t.1 : Int)) ∧ w'.cell? ⟨ga, k * 3 + 1, none⟩ = some (.int .i64 (t.2.1 : Int)) ∧ w'.cell? ⟨ga, k * 3 + 2, none⟩ = some (.int .i64 (t.2.2 : Int)) ∧ w'.cell? ⟨gb, k * 3, none⟩ = some (.int .i64 (t.1 : Int)) ∧ w'.cell? ⟨gb, k * 3 + 1, none⟩ = some (.int .i64 (t.2.1 : Int)) ∧ w'.cell? ⟨gb, k * 3 + 2, none⟩ = some (.int .i64 (t.2.2 : Int)) ∧ Below (wr.heap.size) wr w') (by kernel_rfl) ?_ (fun hHeld => ?_)
      · exact HSs.out _ ((Below.refl _ _).drew)
      refine ty (i := 0) (v := ?vs0) rfl ?hys0 ?_
      case hys0 => (intro w hSw; (try dsimp only at hSw); go_simp <;> with_reducible rfl)
      simp only [Act.put, ps1, ps2, ps3]
      refine ty (i := 1) (v := ?vs1) rfl ?hys1 ?_
      case hys1 => (intro w hSw; (try dsimp only at hSw); go_simp <;> with_reducible rfl)
      simp only [Act.put, ps1, ps2, ps3]
      refine ty (i := 2) (v := ?vs2) rfl ?hys2 ?_
      case hys2 => (intro w hSw; (try dsimp only at hSw); go_simp <;> with_reducible rfl)
      simp only [Act.put, ps1, ps2, ps3]
      refine ty (i := 3) (v := ?vs3) rfl ?hys3 ?_
      case hys3 => (intro w hSw; (try dsimp only at hSw); go_simp <;> with_reducible rfl)
      simp only [Act.put, ps1, ps2, ps3]
      refine ty (i := 4) (v := ?vs4) rfl ?hys4 ?_
      case hys4 => (intro w hSw; (try dsimp only at hSw); go_simp <;> with_reducible rfl)
      simp only [Act.put, ps1, ps2, ps3]
      refine ty (i := 5) (v := ?vs5) rfl ?hys5 ?_
      case hys5 => (intro w hSw; (try dsimp only at hSw); go_simp <;> with_reducible rfl)
      simp only [Act.put, ps1, ps2, ps3]
      refine ty (i := 6) (v := ?vs6) rfl ?hys6 ?_
      case hys6 => (intro w hSw; (try dsimp only at hSw); go_simp <;> with_reducible rfl)
      simp only [Act.put, ps1, ps2, ps3]
      refine ty (i := 7) (v := ?vs7) rfl ?hys7 ?_
      case hys7 => (intro w hSw; (try dsimp only at hSw); go_simp <;> with_reducible rfl)
      simp only [Act.put, ps1, ps2, ps3]
      refine ty (i := 8) (v := ?vs8) rfl ?hys8 ?_
      case hys8 => (intro w hSw; (try dsimp only at hSw); go_simp <;> with_reducible rfl)
      simp only [Act.put, ps1, ps2, ps3]
      refine wpAnyH_done (by kernel_rfl) ?_ _
      have b2 := hHeld.2.2.2.2.2.2
      have be2 : Below w.heap.size w wr.drew := be.trans (b2.mono be.size)
      clear hHeld HSs
      go_wp2
      go_roundw
      case rel => exact ⟨k + 1, by omega, by simp, be2⟩
      case measure => simp [Go.RowKit.intOf]; omega
    · obtain rfl : n = k := by omega
      go_wp2
      go_ret
      exact ⟨rfl, be⟩
theorem live_fill : fillTop [(0, 0), (2, 0), (2, 2), (0, 2)] = some [(0, 1, 3), (1, 2, 3)] := by decide
set_option maxRecDepth 100000 in
set_option maxHeartbeats 4000000 in
theorem hLives (w : World) : Calls Try.prog 8 #[] w fun e w' => e = .returned (.bool true) ∧ Below w.heap.size w w' := by
  obtain ⟨W, hW⟩ : ∃ W, W = w.alloc (.cells #[.int .i64 0, .int .i64 0, .int .i64 2, .int .i64 0, .int .i64 2, .int .i64 2, .int .i64 0, .int .i64 2] 31) := ⟨_, rfl⟩
  have bW : Below w.heap.size w W := by rw [hW]; exact (Below.refl _ _).alloc (Nat.le_refl _) _
  have zW : W.heap.size = w.heap.size + 1 := by rw [hW]; simp
  have RW : Row W w.heap.size (pcells [(0, 0), (2, 0), (2, 2), (0, 2)]) := by rw [hW]; exact Row.new w _ _
  have PS : PSl W (some ⟨w.heap.size, 0, none⟩) 4 4 [(0, 0), (2, 0), (2, 2), (0, 2)] := ⟨rfl, Nat.le_refl _, (by intro e; cases e), Or.inr ⟨_, 0, rfl, by omega, RW.seg⟩⟩
  have CF : Hid _ := hFillTop _ 4 4 _ W PS (by omega)
  have HW : w.alloc (.cells #[.int .i64 0, .int .i64 0, .int .i64 2, .int .i64 0, .int .i64 2, .int .i64 2, .int .i64 0, .int .i64 2] 31) = W := hW.symm
  clear RW PS hW
  go_enter Try.func8, Try.ntmps8
  go_wp2_with (go_at_call 5; fail)
  refine Calls.mono CF.out ?_
  rintro e w2 ⟨⟨a, m, c, q, rfl, told⟩, b2⟩
  rw [live_fill] at told
  obtain ⟨rfl, rfl, ow⟩ := told
  have z2 := b2.size
  obtain ⟨V, hV⟩ : ∃ V, V = w2.alloc (.cells #[.int .i64 0, .int .i64 1, .int .i64 3, .int .i64 1, .int .i64 2, .int .i64 3] 37) := ⟨_, rfl⟩
  have bV : Below w2.heap.size w2 V := by rw [hV]; exact (Below.refl _ _).alloc (Nat.le_refl _) _
  have owV : OwnS V w2.heap.size 37 3 (some ⟨w2.heap.size, 0, none⟩) 2 2 (flat t3C [(0, 1, 3), (1, 2, 3)]) := by rw [hV]; exact World.ownsRow_lit w2 #[.int .i64 0, .int .i64 1, .int .i64 3, .int .i64 1, .int .i64 2, .int .i64 3] 2 (Nat.le_refl _) (by decide) rfl
  have CS : Hid (Calls Try.prog 7 #[.slice a 2 c, .slice (some ⟨w2.heap.size, 0, none⟩) 2 2] V fun e w' => e = .returned (.bool true) ∧ Below V.heap.size V w') := rhSame a _ _ _ 2 c 2 [(0, 1, 3), (1, 2, 3)] V (ow.below bV) owV rfl (by omega)
  have HV : w2.alloc (.cells #[.int .i64 0, .int .i64 1, .int .i64 3, .int .i64 1, .int .i64 2, .int .i64 3] 37) = V := hV.symm
  have b0V : Below w.heap.size w V := also (also bW b2) bV
  clear CF ow owV hV HW
  go_wp2_with (go_at_call 7; fail)
  refine Calls.mono CS.out ?_
  rintro e w3 ⟨rfl, b3⟩
  clear CS
  go_wp2
  go_ret
  exact ⟨rfl, also b0V b3⟩
end Go.Proofs.Ytkmgndaholglhaa
