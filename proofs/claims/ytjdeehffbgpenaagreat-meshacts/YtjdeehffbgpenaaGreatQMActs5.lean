/-
  Joined texts of this law, part 5:
  What zelligeref11's Check answers.
  MeshActs, over what the program's mesh must do.
-/
import Derived.Test.YtjdeehffbgpenaaGreatQMActs4
namespace Go.Proofs.YtjdeehffbgpenaaGreat
open Go.RowKit
set_option linter.unusedVariables false

/-- The areas of the first faces. -/
def areas (S : Ms) (k : Nat) : Int := ((S.C.take k).map fun c => areaT S c.t).sum
theorem areas_next {S : Ms} {k : Nat} {c : Ce} (h : S.C[k]? = some c) : areas S (k + 1) = areas S k + areaT S c.t := by unfold areas; rw [take_at h]; simp
def crossAll (S : Ms) (c : Ce) : Bool := (List.range 3).all fun k => (crossed S c.no (k : Int)).isSome
theorem crossAll_of {S : Ms} {c : Ce} (h : ∀ j : Nat, j < 3 → (crossed S c.no (j : Int)).isSome = true) : crossAll S c = true := by
  unfold crossAll
  rw [List.all_eq_true]
  intro x hx
  exact h x (List.mem_range.1 hx)
theorem crossAll_not {S : Ms} {c : Ce} {j : Nat} (hj : j < 3) (h : crossed S c.no (j : Int) = none) : crossAll S c = false := by
  unfold crossAll
  rw [List.all_eq_false]
  exact ⟨j, List.mem_range.2 hj, by rw [h]; simp⟩
theorem whole_cross {S : Ms} {c : Ce} (hc : c ∈ S.C) (h : crossAll S c = false) : whole S = false := by
  unfold whole
  rw [List.all_eq_false.2 ⟨c, hc, by unfold crossAll at h; simpa using h⟩]
  rfl
theorem whole_vert {S : Ms} {a : Vt} (ha : a ∈ S.V) (h : around S.C a.no = []) : whole S = false := by
  unfold whole
  rw [show (S.V.all fun a => !(around S.C a.no).isEmpty) = false from List.all_eq_false.2 ⟨a, ha, by simp [h]⟩]
  simp
theorem whole_is {S : Ms} (hc : ∀ c ∈ S.C, crossAll S c = true) (hv : ∀ a ∈ S.V, around S.C a.no ≠ []) : whole S = decide (areas S S.C.length = 2 * (S.n * S.n)) := by
  unfold whole areas
  rw [List.take_length]
  rw [show (S.C.all fun c => (List.range 3).all fun k => (crossed S c.no (k : Int)).isSome) = true from List.all_eq_true.2 (fun c h => hc c h)]
  rw [show (S.V.all fun a => !(around S.C a.no).isEmpty) = true from List.all_eq_true.2 (fun a h => by simp [hv a h])]
  rfl
theorem areas_bound {S : Ms} (hok : ∀ c ∈ S.C, ∀ i, i < 3 → plOk S c.t i = true) : ∀ k, k ≤ 1000 → k ≤ S.C.length → (areas S k).natAbs ≤ k * 10000000000000000000000000 := by
  intro k
  induction k with
  | zero => intro _ _; simp [areas]
  | succ k ih =>
    intro h1 h2
    obtain ⟨c, hc⟩ : ∃ c, S.C[k]? = some c := ⟨S.C[k], List.getElem?_eq_getElem (by omega)⟩
    have hm := hok c (List.mem_of_getElem? hc)
    have hw := area_wide (plOk_can (hm 0 (by omega))) (plOk_can (hm 1 (by omega))) (plOk_can (hm 2 (by omega)))
    have hi := ih (by omega) (by omega)
    rw [areas_next hc]
    unfold areaT
    omega
/-- The sum so far, in its box. -/
structure SumBox (w : World) (b : Nat) (z : Int) (s : Int) (d : Option Addr) (l c : Nat) : Prop where
  row : Row w b [.int .i64 s, .slice d l c]
  rn : RN w s d l c z
  na : NA b d l
theorem SumBox.below {w w' : World} {b : Nat} {z s : Int} {d : Option Addr} {l c : Nat} (h : SumBox w b z s d l c) (hb : Below w.heap.size w w') : SumBox w' b z s d l c := ⟨h.row.below hb h.row.lt, h.rn.below hb, h.na⟩

set_option maxRecDepth 100000 in
set_option maxHeartbeats 8000000 in
theorem mrCheck (p : Nat) (S : Ms) (w : World) (h : MeLook p S w) (hV : S.V.length ≤ 1000) (hC : S.C.length ≤ 1000) (hn : In64 S.n) (hvs : ∀ v ∈ S.V, Vt64 v) (hct : ∀ c ∈ S.C, Tr64 c.t) (hco : ∀ c ∈ S.C, offB c.t) (hiv : ∀ c ∈ S.C, ∀ i, i < 3 → isV S (c.t.v i) = true) (hok : ∀ c ∈ S.C, ∀ i, i < 3 → plOk S c.t i = true) {r : Int} (hr : r = if whole S = true then 0 else 6) :
    Calls Tryz.prog 12 #[ptR p] w fun e w' => e = .returned (.int .i64 r) ∧ Below w.heap.size w w' := by
  have HL : Hid _ := h
  have HR : Hid _ := hr
  clear h hr
  obtain ⟨W0, hW0⟩ : ∃ W, W = w.alloc (.cells ([.int .i64 0, .slice none 0 0] : List Value).toArray 95) := ⟨_, rfl⟩
  have B0 : Below w.heap.size w W0 := by rw [hW0]; exact (Below.refl _ _).alloc (Nat.le_refl _) _
  have z0 : W0.heap.size = w.heap.size + 1 := by rw [hW0]; simp
  have X0 : SumBox W0 w.heap.size 0 0 none 0 0 := ⟨by rw [hW0]; exact Row.new w _ _, rn_zero _ 0, Or.inl rfl⟩
  have hW0' : Hid (w.alloc (.cells #[.int .i64 0, .slice none 0 0] 95) = W0) := hW0.symm
  clear hW0
  go_enter Tryz.func12, Tryz.ntmps12
  go_wp2
  rw [hW0'.out]
  clear hW0'
  go_loopw [4] (fun q wr => ∃ k : Nat, k ≤ S.C.length ∧ q = .int .i64 (k : Int) ∧ (∀ c ∈ S.C.take k, crossAll S c = true) ∧ (∃ s d l c, SumBox wr w.heap.size (areas S k) s d l c) ∧ Below w.heap.size w wr) (fun q _ => S.C.length - (RowKit.intOf q).toNat)
  case atStart => exact ⟨0, by omega, rfl, (fun c hc => by simp at hc), ⟨0, none, 0, 0, X0⟩, B0⟩
  case round =>
    clear X0
    obtain ⟨k, hk, rfl, hcr, ⟨s, d, l, cc, hsum⟩, bel⟩ := hrel
    have zr := bel.size
    have HCR : Hid _ := hcr
    clear hcr
    obtain ⟨nn, hnn⟩ : ∃ nn, nn = S.C.length := ⟨_, rfl⟩
    have HNN : Hid _ := hnn
    by_cases hlt : k < S.C.length
    · obtain ⟨c, hx⟩ : ∃ c, S.C[k]? = some c := ⟨S.C[k], List.getElem?_eq_getElem hlt⟩
      have hcm := List.mem_of_getElem? hx
      have HX : Hid _ := hx
      obtain ⟨y1, y2, ya, yca, yb, ycb, hrow⟩ := (HL.out.below bel).row
      have m2 := hrow.cell 4 _ rfl
      rw [← hnn] at m2 hlt
      obtain ⟨g8, cp8, x4, x5, x6, hrow8w, hc8, hbw8, H8w⟩ := HL.out.face hx
      have hpw := hrow8w.lt
      have mw := hrow8w.cell 4 _ rfl
      rw [← hnn] at mw hc8
      have HK0 : Hid (w.cell? ⟨g8, k * 10, none⟩ = some (.int .i64 c.no)) := H8w 0 _ rfl
      have H8 : Hid _ := H8w
      have HMW : Hid _ := mw
      have CT := hct c hcm
      have IV := hiv c hcm
      have OK := hok c hcm
      clear hrow hx hk hnn H8w mw hrow8w
      go_wp2
      go_loopw [5] (fun q wr' => ∃ j : Nat, j ≤ 3 ∧ q = .int .i64 (j : Int) ∧ (∀ j' : Nat, j' < j → (crossed S c.no (j' : Int)).isSome = true) ∧ SumBox wr' w.heap.size (areas S k) s d l cc ∧ Below w.heap.size w wr') (fun q _ => 3 - (RowKit.intOf q).toNat)
      case atStart => exact ⟨0, by omega, rfl, (fun j' h => by omega), hsum, bel⟩
      case round =>
        clear hsum m2 zr bel
        obtain ⟨j, hj, rfl, hno, hsum, BR⟩ := hrel
        have HNo : Hid _ := hno
        have zr := BR.size
        clear hno
        have m := (BR.cell (p := ⟨p, 4, none⟩) hpw).trans HMW.out
        have k0 := (BR.cell (p := ⟨g8, k * 10, none⟩) hbw8).trans HK0.out
        by_cases hj3 : j < 3
        · cases hcc : crossed S c.no (j : Int) with
          | none =>
            obtain rfl : r = 6 := by rw [HR.out, whole_cross hcm (crossAll_not hj3 hcc)]; rfl
            have HCC : Hid _ := hcc
            clear hcc
            go_wp2_with (go_at_call 25; fail)
            refine (mrAcross p S c.no (j : Int) wr (HL.out.below BR) hC hco).mono ?_
            rintro e w9 ⟨he, b9⟩
            rw [HCC.out] at he
            obtain rfl : e = _ := he
            have z9 := b9.size
            go_wp2
            go_ret
            exact ⟨rfl, (BR.trans (b9.mono (by omega))).alloc (by omega) _⟩
          | some tr =>
            obtain ⟨t1, c1, k1⟩ := tr
            have HCC : Hid _ := hcc
            clear hcc
            go_wp2_with (go_at_call 25; fail)
            refine (mrAcross p S c.no (j : Int) wr (HL.out.below BR) hC hco).mono ?_
            rintro e w9 ⟨he, b9⟩
            rw [HCC.out] at he
            obtain rfl : e = _ := he
            have z9 := b9.size
            go_wp2
            go_roundw
            case rel => exact ⟨j + 1, by omega, by simp, (fun j' h' => if e : j' = j then by rw [e, HCC.out]; rfl else HNo.out j' (by omega)), (hsum.below b9).below ((Below.refl _ _).alloc (Nat.le_refl _) _), (BR.trans (b9.mono (by omega))).alloc (by omega) _⟩
            case measure => simp [RowKit.intOf]; omega
        · obtain rfl : j = 3 := by omega
          have HCA : Hid (crossAll S c = true) := crossAll_of HNo.out
          have k1 := (BR.cell (p := ⟨g8, k * 10 + 1, none⟩) hbw8).trans (H8.out 1 _ rfl)
          have k2 := (BR.cell (p := ⟨g8, k * 10 + 2, none⟩) hbw8).trans (H8.out 2 _ rfl)
          have k3 := (BR.cell (p := ⟨g8, k * 10 + 3, none⟩) hbw8).trans (H8.out 3 _ rfl)
          have k4 := (BR.cell (p := ⟨g8, k * 10 + 4, none⟩) hbw8).trans (H8.out 4 _ rfl)
          have k5 := (BR.cell (p := ⟨g8, k * 10 + 5, none⟩) hbw8).trans (H8.out 5 _ rfl)
          have k6 := (BR.cell (p := ⟨g8, k * 10 + 6, none⟩) hbw8).trans (H8.out 6 _ rfl)
          have k7 := (BR.cell (p := ⟨g8, k * 10 + 7, none⟩) hbw8).trans (H8.out 7 _ rfl)
          have k8 := (BR.cell (p := ⟨g8, k * 10 + 8, none⟩) hbw8).trans (H8.out 8 _ rfl)
          have k9 := (BR.cell (p := ⟨g8, k * 10 + 9, none⟩) hbw8).trans (H8.out 9 _ rfl)
          obtain ⟨W3, hW3⟩ : ∃ W, W = wr.alloc (.cells (trC c.t).toArray 51) := ⟨_, rfl⟩
          have B3 : Below wr.heap.size wr W3 := by rw [hW3]; exact (Below.refl _ _).alloc (Nat.le_refl _) _
          have z3 : W3.heap.size = wr.heap.size + 1 := by rw [hW3]; simp
          have T3 : Row W3 wr.heap.size (trC c.t) := by rw [hW3]; exact Row.new wr _ _
          have hW3' : wr.alloc (.cells #[.int .i64 c.t.v0, .int .i64 c.t.v1, .int .i64 c.t.v2, .int .i64 c.t.x0, .int .i64 c.t.y0, .int .i64 c.t.x1, .int .i64 c.t.y1, .int .i64 c.t.x2, .int .i64 c.t.y2] 51) = W3 := hW3.symm
          have X3 := hsum.below B3
          have L3 : Hid _ := (HL.out.below BR).below B3
          have D3 : Below w.heap.size w W3 := BR.trans (B3.mono (by omega))
          have t3_0 := T3.cell 0 _ rfl
          have t3_1 := T3.cell 1 _ rfl
          have t3_2 := T3.cell 2 _ rfl
          have t3_3 := T3.cell 3 _ rfl
          have t3_4 := T3.cell 4 _ rfl
          have t3_5 := T3.cell 5 _ rfl
          have t3_6 := T3.cell 6 _ rfl
          have t3_7 := T3.cell 7 _ rfl
          have t3_8 := T3.cell 8 _ rfl
          clear hW3 HNo
          go_wp2_with (go_at_call 23; fail)
          clear hW3' m k0 k1 k2 k3 k4 k5 k6 k7 k8 k9
          obtain ⟨X0, HX0⟩ : ∃ X, Hid (X = plX S c.t 0) := ⟨_, rfl⟩
          obtain ⟨Y0, HY0⟩ : ∃ X, Hid (X = plY S c.t 0) := ⟨_, rfl⟩
          refine (mrPlace p S c.t 0 W3 (by decide) L3.out hV hn hvs CT (IV 0 (by decide)) (ok := true) (X := X0) (Y := Y0) (OK 0 (by decide)).symm HX0.out HY0.out).mono ?_
          rintro e w4 ⟨rfl, b4⟩
          have z4 := b4.size
          obtain ⟨u4, hu4⟩ : ∃ u, u = w4.alloc (.cells ([.int .i64 X0, .int .i64 Y0] : List Value).toArray 41) := ⟨_, rfl⟩
          have d4 : Below w4.heap.size w4 u4 := by rw [hu4]; exact (Below.refl _ _).alloc (Nat.le_refl _) _
          have y4 : u4.heap.size = w4.heap.size + 1 := by rw [hu4]; simp
          have P0 : Row u4 w4.heap.size [.int .i64 X0, .int .i64 Y0] := by rw [hu4]; exact Row.new w4 _ _
          have hv4 : w4.alloc (.cells #[.int .i64 X0, .int .i64 Y0] 41) = u4 := hu4.symm
          have L4 : Hid _ := (L3.out.below b4).below d4
          have T4 := (T3.below b4 (by omega)).below d4 (by omega)
          have X4_ := (X3.below b4).below d4
          have D4 : Below w.heap.size w u4 := (D3.trans (b4.mono (by omega))).trans (d4.mono (by omega))
          clear t3_0 t3_1 t3_2 t3_3 t3_4 t3_5 t3_6 t3_7 t3_8 hu4
          have t4_0 := T4.cell 0 _ rfl
          have t4_1 := T4.cell 1 _ rfl
          have t4_2 := T4.cell 2 _ rfl
          have t4_3 := T4.cell 3 _ rfl
          have t4_4 := T4.cell 4 _ rfl
          have t4_5 := T4.cell 5 _ rfl
          have t4_6 := T4.cell 6 _ rfl
          have t4_7 := T4.cell 7 _ rfl
          have t4_8 := T4.cell 8 _ rfl
          go_wp2_with (go_at_call 23; fail)
          obtain ⟨X1, HX1⟩ : ∃ X, Hid (X = plX S c.t 1) := ⟨_, rfl⟩
          obtain ⟨Y1, HY1⟩ : ∃ X, Hid (X = plY S c.t 1) := ⟨_, rfl⟩
          refine (mrPlace p S c.t 1 u4 (by decide) L4.out hV hn hvs CT (IV 1 (by decide)) (ok := true) (X := X1) (Y := Y1) (OK 1 (by decide)).symm HX1.out HY1.out).mono ?_
          rintro e w5 ⟨rfl, b5⟩
          have z5 := b5.size
          obtain ⟨u5, hu5⟩ : ∃ u, u = w5.alloc (.cells ([.int .i64 X1, .int .i64 Y1] : List Value).toArray 41) := ⟨_, rfl⟩
          have d5 : Below w5.heap.size w5 u5 := by rw [hu5]; exact (Below.refl _ _).alloc (Nat.le_refl _) _
          have y5 : u5.heap.size = w5.heap.size + 1 := by rw [hu5]; simp
          have P1 : Row u5 w5.heap.size [.int .i64 X1, .int .i64 Y1] := by rw [hu5]; exact Row.new w5 _ _
          have hv5 : w5.alloc (.cells #[.int .i64 X1, .int .i64 Y1] 41) = u5 := hu5.symm
          have L5 : Hid _ := (L4.out.below b5).below d5
          have T5 := (T4.below b5 (by omega)).below d5 (by omega)
          have X5_ := (X4_.below b5).below d5
          have D5 : Below w.heap.size w u5 := (D4.trans (b5.mono (by omega))).trans (d5.mono (by omega))
          have P0 := (P0.below b5 (by omega)).below d5 (by omega)
          clear t4_0 t4_1 t4_2 t4_3 t4_4 t4_5 t4_6 t4_7 t4_8 hu5 hv4
          have t5_0 := T5.cell 0 _ rfl
          have t5_1 := T5.cell 1 _ rfl
          have t5_2 := T5.cell 2 _ rfl
          have t5_3 := T5.cell 3 _ rfl
          have t5_4 := T5.cell 4 _ rfl
          have t5_5 := T5.cell 5 _ rfl
          have t5_6 := T5.cell 6 _ rfl
          have t5_7 := T5.cell 7 _ rfl
          have t5_8 := T5.cell 8 _ rfl
          go_wp2_with (go_at_call 23; fail)
          obtain ⟨X2, HX2⟩ : ∃ X, Hid (X = plX S c.t 2) := ⟨_, rfl⟩
          obtain ⟨Y2, HY2⟩ : ∃ X, Hid (X = plY S c.t 2) := ⟨_, rfl⟩
          refine (mrPlace p S c.t 2 u5 (by decide) L5.out hV hn hvs CT (IV 2 (by decide)) (ok := true) (X := X2) (Y := Y2) (OK 2 (by decide)).symm HX2.out HY2.out).mono ?_
          rintro e w6 ⟨rfl, b6⟩
          have z6 := b6.size
          obtain ⟨u6, hu6⟩ : ∃ u, u = w6.alloc (.cells ([.int .i64 X2, .int .i64 Y2] : List Value).toArray 41) := ⟨_, rfl⟩
          have d6 : Below w6.heap.size w6 u6 := by rw [hu6]; exact (Below.refl _ _).alloc (Nat.le_refl _) _
          have y6 : u6.heap.size = w6.heap.size + 1 := by rw [hu6]; simp
          have P2 : Row u6 w6.heap.size [.int .i64 X2, .int .i64 Y2] := by rw [hu6]; exact Row.new w6 _ _
          have hv6 : w6.alloc (.cells #[.int .i64 X2, .int .i64 Y2] 41) = u6 := hu6.symm
          have L6 : Hid _ := (L5.out.below b6).below d6
          have T6 := (T5.below b6 (by omega)).below d6 (by omega)
          have X6_ := (X5_.below b6).below d6
          have D6 : Below w.heap.size w u6 := (D5.trans (b6.mono (by omega))).trans (d6.mono (by omega))
          have P0 := (P0.below b6 (by omega)).below d6 (by omega)
          have P1 := (P1.below b6 (by omega)).below d6 (by omega)
          clear t5_0 t5_1 t5_2 t5_3 t5_4 t5_5 t5_6 t5_7 t5_8 hu6 hv5
          obtain ⟨z, hz⟩ : ∃ z, z = areaP X0 Y0 X1 Y1 X2 Y2 := ⟨_, rfl⟩
          have hz' : z = areaT S c.t := by rw [hz, HX0.out, HY0.out, HX1.out, HY1.out, HX2.out, HY2.out]; rfl
          have HZ : Hid _ := hz
          have kl : k < S.C.length := by rw [← HNN.out]; exact hlt
          have HZS : Hid (areas S (k + 1) = areas S k + z) := by unfold Hid; rw [areas_next HX.out, hz']
          have ab1 := areas_bound hok k (by omega) (by omega)
          have ab2 := areas_bound hok (k + 1) (by omega) (by omega)
          have F1 : Hid (hf.nlen (areas S k).natAbs ≤ 1000000) := few_num (by omega)
          have F2 : Hid (hf.nlen z.natAbs ≤ 1000000) := few_num (by have := HZS.out; omega)
          have ca : Hid (canC X0 Y0 = true) := by unfold Hid; rw [HX0.out, HY0.out]; exact plOk_can (OK 0 (by decide))
          have cb : Hid (canC X1 Y1 = true) := by unfold Hid; rw [HX1.out, HY1.out]; exact plOk_can (OK 1 (by decide))
          have cd : Hid (canC X2 Y2 = true) := by unfold Hid; rw [HX2.out, HY2.out]; exact plOk_can (OK 2 (by decide))
          have p00 := P0.cell 0 _ rfl
          have p01 := P0.cell 1 _ rfl
          have p10 := P1.cell 0 _ rfl
          have p11 := P1.cell 1 _ rfl
          have p20 := P2.cell 0 _ rfl
          have p21 := P2.cell 1 _ rfl
          have q0 := X6_.row.cell 0 _ rfl
          have q1 := X6_.row.cell 1 _ rfl
          have hBl : w.heap.size < u6.heap.size := by omega
          have h4l : w4.heap.size < u6.heap.size := by omega
          have h5l : w5.heap.size < u6.heap.size := by omega
          have h6l : w6.heap.size < u6.heap.size := by omega
          have Xd := X6_.below ((Below.refl u6.heap.size u6).drew)
          clear hz hz' ab1 ab2
          go_wp2
          clear hv6
          refine regionL 6 (S := fun w' => w'.cell? ⟨w.heap.size, 0, none⟩ = some (.int .i64 s) ∧ w'.cell? ⟨w.heap.size, 1, none⟩ = some (.slice d l cc) ∧ w'.cell? ⟨w4.heap.size, 0, none⟩ = some (.int .i64 X0) ∧ w'.cell? ⟨w4.heap.size, 1, none⟩ = some (.int .i64 Y0) ∧ w'.cell? ⟨w5.heap.size, 0, none⟩ = some (.int .i64 X1) ∧ w'.cell? ⟨w5.heap.size, 1, none⟩ = some (.int .i64 Y1) ∧ w'.cell? ⟨w6.heap.size, 0, none⟩ = some (.int .i64 X2) ∧ w'.cell? ⟨w6.heap.size, 1, none⟩ = some (.int .i64 Y2)) (by kernel_rfl) ?_ (fun hHeld => ?_)
          · exact ⟨q0, q1, p00, p01, p10, p11, p20, p21⟩
          refine tyL (i := 0) (v := ?vcs0) rfl ?hycs0 ?_
          case hycs0 => (intro w hSw; (try dsimp only at hSw); go_simp <;> with_reducible rfl)
          simp only [Act.put, ps1, ps2, ps3]
          refine tyL (i := 1) (v := ?vcs1) rfl ?hycs1 ?_
          case hycs1 => (intro w hSw; (try dsimp only at hSw); go_simp <;> with_reducible rfl)
          simp only [Act.put, ps1, ps2, ps3]
          refine tyL (i := 2) (v := ?vcs2) rfl ?hycs2 ?_
          case hycs2 => (intro w hSw; (try dsimp only at hSw); go_simp <;> with_reducible rfl)
          simp only [Act.put, ps1, ps2, ps3]
          refine tyL (i := 3) (v := ?vcs3) rfl ?hycs3 ?_
          case hycs3 => (intro w hSw; (try dsimp only at hSw); go_simp <;> with_reducible rfl)
          simp only [Act.put, ps1, ps2, ps3]
          refine takeL_call (i := 4) rfl (by kernel_rfl) (fun Kc hK => ?_)
          go_simp
          (go_at_call 39; refine (rpArea X0 Y0 X1 Y1 X2 Y2 u6.drew ca.out cb.out cd.out HZ.out).mono ?_; rintro e w7 ⟨s1, d1, l1, c1, rfl, r1, na1, b7⟩)
          refine hK.out _ _ ?_ (fun hHeld => ?_)
          · exact ⟨(b7.cell (p := ⟨w.heap.size, 0, none⟩) hBl).trans q0, (b7.cell (p := ⟨w.heap.size, 1, none⟩) hBl).trans q1, (b7.cell (p := ⟨w4.heap.size, 0, none⟩) h4l).trans p00, (b7.cell (p := ⟨w4.heap.size, 1, none⟩) h4l).trans p01, (b7.cell (p := ⟨w5.heap.size, 0, none⟩) h5l).trans p10, (b7.cell (p := ⟨w5.heap.size, 1, none⟩) h5l).trans p11, (b7.cell (p := ⟨w6.heap.size, 0, none⟩) h6l).trans p20, (b7.cell (p := ⟨w6.heap.size, 1, none⟩) h6l).trans p21⟩
          clear hK Kc
          refine takeL_call (i := 5) rfl (by kernel_rfl) (fun Kc hK => ?_)
          go_simp
          (go_at_call 38; refine (rwAdd s s1 d d1 l cc l1 c1 (areas S k) z (areas S (k + 1)) w7 (Xd.rn.below b7) r1 F1.out F2.out HZS.out).mono ?_; rintro e w8 ⟨s2, d2, l2, c2, rfl, r2, na2, b8⟩)
          refine hK.out _ _ ?_ (fun hHeld => ?_)
          · exact ⟨(b8.cell (p := ⟨w.heap.size, 0, none⟩) (Nat.lt_of_lt_of_le hBl b7.size)).trans ((b7.cell (p := ⟨w.heap.size, 0, none⟩) hBl).trans q0), (b8.cell (p := ⟨w.heap.size, 1, none⟩) (Nat.lt_of_lt_of_le hBl b7.size)).trans ((b7.cell (p := ⟨w.heap.size, 1, none⟩) hBl).trans q1), (b8.cell (p := ⟨w4.heap.size, 0, none⟩) (Nat.lt_of_lt_of_le h4l b7.size)).trans ((b7.cell (p := ⟨w4.heap.size, 0, none⟩) h4l).trans p00), (b8.cell (p := ⟨w4.heap.size, 1, none⟩) (Nat.lt_of_lt_of_le h4l b7.size)).trans ((b7.cell (p := ⟨w4.heap.size, 1, none⟩) h4l).trans p01), (b8.cell (p := ⟨w5.heap.size, 0, none⟩) (Nat.lt_of_lt_of_le h5l b7.size)).trans ((b7.cell (p := ⟨w5.heap.size, 0, none⟩) h5l).trans p10), (b8.cell (p := ⟨w5.heap.size, 1, none⟩) (Nat.lt_of_lt_of_le h5l b7.size)).trans ((b7.cell (p := ⟨w5.heap.size, 1, none⟩) h5l).trans p11), (b8.cell (p := ⟨w6.heap.size, 0, none⟩) (Nat.lt_of_lt_of_le h6l b7.size)).trans ((b7.cell (p := ⟨w6.heap.size, 0, none⟩) h6l).trans p20), (b8.cell (p := ⟨w6.heap.size, 1, none⟩) (Nat.lt_of_lt_of_le h6l b7.size)).trans ((b7.cell (p := ⟨w6.heap.size, 1, none⟩) h6l).trans p21)⟩
          clear hK Kc
          have Xr := (X6_.row.drew.below b7 hBl).below b8 (Nat.lt_of_lt_of_le hBl b7.size)
          have e0 := Xr.cell 0 _ rfl
          have e1 := Xr.cell 1 _ rfl
          have f0 := Xr.free 0 (by simp)
          have f1 := Xr.free 1 (by simp)
          refine takeL_last rfl (by kernel_rfl) (fun Kc hK => ?_)
          go_simp
          refine hK.out _ _ ?_
          clear hK Kc
          refine anyL_done (by kernel_rfl) ?_ _
          have nB : NA w.heap.size d2 l2 := na2 _ (Nat.lt_of_lt_of_le hBl b7.size) ⟨X6_.na, na1 _ hBl trivial⟩
          have Xn : SumBox ((w8.setCell ⟨w.heap.size, 0, none⟩ (.int .i64 s2)).setCell ⟨w.heap.size, 1, none⟩ (.slice d2 l2 c2)) w.heap.size (areas S (k + 1)) s2 d2 l2 c2 := ⟨(Xr.set 0 (.int .i64 s2) (by simp)).set 1 (.slice d2 l2 c2) (by simp), r2.put2 nB _ _, nB⟩
          have z7 := b7.size
          have z8 := b8.size
          have Bn : Below w.heap.size w w8 := (D6.drew.trans (b7.mono (by simp; omega))).trans (b8.mono (by have : u6.drew.heap.size = u6.heap.size := rfl; omega))
          go_wp2
          go_roundw
          case rel => exact ⟨k + 1, by omega, by simp, (fun c' hc' => by rw [take_at HX.out] at hc'; rcases List.mem_append.1 hc' with h' | h'; exact HCR.out c' h'; simp at h'; subst h'; exact HCA.out), ⟨s2, d2, l2, c2, Xn⟩, below_put2 Bn (Nat.le_refl _) _ _⟩
          case measure => have := HNN.out; simp [RowKit.intOf]; omega
    · obtain rfl : k = S.C.length := by omega
      rw [List.take_length] at HCR
      obtain ⟨y1, y2, ya, yca, yb, ycb, hrow⟩ := (HL.out.below bel).row
      have m2 := hrow.cell 4 _ rfl
      rw [← hnn] at m2 ⊢
      have HSB : Hid _ := hsum
      clear hrow hlt hk hsum hnn
      go_wp2
      clear m2
      go_loopw [17] (fun q wr' => ∃ k : Nat, k ≤ S.V.length ∧ q = .int .i64 (k : Int) ∧ (∀ a ∈ S.V.take k, around S.C a.no ≠ []) ∧ SumBox wr' w.heap.size (areas S S.C.length) s d l cc ∧ Below w.heap.size w wr') (fun q _ => S.V.length - (RowKit.intOf q).toNat)
      case atStart => exact ⟨0, by omega, rfl, (fun a h => by simp at h), HSB.out, bel⟩
      case round =>
        clear HSB zr bel
        obtain ⟨k, hk, rfl, hav, hsum, BR⟩ := hrel
        have HAV : Hid _ := hav
        have zr := BR.size
        clear hav
        obtain ⟨nv, hnv⟩ : ∃ nv, nv = S.V.length := ⟨_, rfl⟩
        have HNV : Hid _ := hnv
        by_cases hlt : k < S.V.length
        · obtain ⟨v, hx⟩ : ∃ v, S.V[k]? = some v := ⟨S.V[k], List.getElem?_eq_getElem hlt⟩
          have hvm := List.mem_of_getElem? hx
          have HX : Hid _ := hx
          obtain ⟨g8, cp8, x4, x5, x6, hrow8, hc8, hbw8, H0, _⟩ := HL.out.vert hx
          have hpw := hrow8.lt
          have m := (BR.cell (p := ⟨p, 3, none⟩) hpw).trans (hrow8.cell 3 _ rfl)
          have k0 := (BR.cell (p := ⟨g8, k * 4, none⟩) hbw8).trans H0
          rw [← hnv] at m hc8 hlt
          have hVn : nv ≤ 1000 := by omega
          clear hrow8 hx hk hnv H0
          by_cases hne : around S.C v.no = []
          · obtain rfl : r = 6 := by rw [HR.out, whole_vert hvm hne]; rfl
            have e0 : (around S.C v.no).length = 0 := by rw [hne]; rfl
            clear hne
            go_wp2_with (go_at_call 22; fail)
            refine (mrAround p S v.no wr (HL.out.below BR) hC rfl).mono ?_
            rintro e w9 ⟨a2, c2, rfl, o2, b9⟩
            go_wp2
            go_ret
            exact ⟨rfl, BR.trans (b9.mono (by omega))⟩
          · have HNE : Hid _ := hne
            have hne1 : ¬ (around S.C v.no).length = 0 := by simpa using hne
            have e0 : (((around S.C v.no).length : Int) == 0) = false := by simpa using hne
            have e1 : ((around S.C v.no).length == 0) = false := by simpa using hne
            have hne2 : ¬ ((around S.C v.no).length : Int) = 0 := by omega
            go_wp2_with (go_at_call 22; fail)
            refine (mrAround p S v.no wr (HL.out.below BR) hC rfl).mono ?_
            rintro e w9 ⟨a2, c2, rfl, o2, b9⟩
            go_wp2
            go_roundw
            case rel => exact ⟨k + 1, by have := HNV.out; omega, by simp, (fun a' ha' => by rw [take_at HX.out] at ha'; rcases List.mem_append.1 ha' with h' | h'; exact HAV.out a' h'; simp at h'; subst h'; exact HNE.out), hsum.below b9, BR.trans (b9.mono (by omega))⟩
            case measure => have := HNV.out; simp [RowKit.intOf]; omega
        · obtain rfl : k = S.V.length := by omega
          rw [List.take_length] at HAV
          have hwh := whole_is HCR.out HAV.out
          obtain ⟨y1, y2, ya, yca, yb, ycb, hrow⟩ := (HL.out.below BR).row
          have m := hrow.cell 3 _ rfl
          have m0 := hrow.cell 0 _ rfl
          have hpl := hrow.lt
          rw [← hnv] at m ⊢
          obtain ⟨sd, hsdn⟩ : ∃ sd, sd = S.n := ⟨_, rfl⟩
          rw [← hsdn] at m0 hn hwh
          have q0 := hsum.row.cell 0 _ rfl
          have q1 := hsum.row.cell 1 _ rfl
          have hBl := hsum.row.lt
          obtain ⟨g, hg⟩ : ∃ g, g = (areas S S.C.length - 2 * (sd * sd)).sign := ⟨_, rfl⟩
          have HG : Hid _ := hg
          have ab := areas_bound hok S.C.length hC (Nat.le_refl _)
          have F1 : Hid (hf.nlen (areas S S.C.length).natAbs ≤ 1000000) := few_num (by omega)
          have F2 : Hid (hf.nlen (2 : Int).natAbs ≤ 1000000) := few_num (by decide)
          have F3 : Hid (hf.nlen sd.natAbs ≤ 1000000) := few_i64 hn
          have sq : (sd * sd).natAbs ≤ 9223372036854775808 * 9223372036854775808 := by rw [Int.natAbs_mul]; exact Nat.mul_le_mul (by omega) (by omega)
          have F4 : Hid (hf.nlen (sd * sd).natAbs ≤ 1000000) := few_num (by omega)
          have F5 : Hid (hf.nlen (2 * (sd * sd)).natAbs ≤ 1000000) := few_num (by have e2 : (2 * (sd * sd)).natAbs = 2 * (sd * sd).natAbs := Int.natAbs_mul 2 (sd * sd); omega)
          have hsd := hsum.below ((Below.refl wr.heap.size wr).drew)
          have hn1 := hn.1
          have hn2 := hn.2
          have hg0 : r = if g = 0 then 0 else 6 := by
            rw [HR.out, hwh, hg]
            by_cases e : areas S S.C.length = 2 * (sd * sd)
            · simp [e]
            · rw [if_neg (by simpa using e), if_neg (by rw [Int.sign_eq_zero_iff_zero]; omega)]
          have HG0 : Hid _ := hg0
          clear hwh hrow hsdn hg hg0 ab sq hk hlt hnv hn
          go_wp2
          by_cases hgz : g = 0
          · have hgb : (g == 0) = true := by simpa using hgz
            obtain rfl : r = 0 := by rw [HG0.out, if_pos hgz]
            have HZ : Hid _ := hgz
            clear hgz
            refine wp_region_held_drew (S := fun w' => w'.cell? ⟨w.heap.size, 0, none⟩ = some (.int .i64 s) ∧ w'.cell? ⟨w.heap.size, 1, none⟩ = some (.slice d l cc) ∧ w'.cell? ⟨p, 0, none⟩ = some (.int .i64 sd)) (by kernel_rfl) ?_ (fun hHeld => ?_)
            · exact ⟨q0, q1, m0⟩
            refine ty (i := 0) (v := ?vcey0) rfl ?hycey0 ?_
            case hycey0 => (intro w hSw; (try dsimp only at hSw); go_simp <;> with_reducible rfl)
            simp only [Act.put, ps1, ps2, ps3]
            refine ty (i := 2) (v := ?vcey2) rfl ?hycey2 ?_
            case hycey2 => (intro w hSw; (try dsimp only at hSw); go_simp <;> with_reducible rfl)
            simp only [Act.put, ps1, ps2, ps3]
            refine ty (i := 3) (v := ?vcey3) rfl ?hycey3 ?_
            case hycey3 => (intro w hSw; (try dsimp only at hSw); go_simp <;> with_reducible rfl)
            simp only [Act.put, ps1, ps2, ps3]
            refine ty (i := 4) (v := ?vcey4) rfl ?hycey4 ?_
            case hycey4 => (intro w hSw; (try dsimp only at hSw); go_simp <;> with_reducible rfl)
            simp only [Act.put, ps1, ps2, ps3]
            refine ty (i := 5) (v := ?vcey5) rfl ?hycey5 ?_
            case hycey5 => (intro w hSw; (try dsimp only at hSw); go_simp <;> with_reducible rfl)
            simp only [Act.put, ps1, ps2, ps3]
            refine ty (i := 7) (v := ?vcey7) rfl ?hycey7 ?_
            case hycey7 => (intro w hSw; (try dsimp only at hSw); go_simp <;> with_reducible rfl)
            simp only [Act.put, ps1, ps2, ps3]
            refine ty (i := 8) (v := ?vcey8) rfl ?hycey8 ?_
            case hycey8 => (intro w hSw; (try dsimp only at hSw); go_simp <;> with_reducible rfl)
            simp only [Act.put, ps1, ps2, ps3]
            refine ty (i := 9) (v := ?vcey9) rfl ?hycey9 ?_
            case hycey9 => (intro w hSw; (try dsimp only at hSw); go_simp <;> with_reducible rfl)
            simp only [Act.put, ps1, ps2, ps3]
            refine ty (i := 10) (v := ?vcey10) rfl ?hycey10 ?_
            case hycey10 => (intro w hSw; (try dsimp only at hSw); go_simp <;> with_reducible rfl)
            simp only [Act.put, ps1, ps2, ps3]
            refine take_call (i := 1) rfl (by kernel_rfl) (fun Kc hK => ?_)
            go_simp
            (go_at_call 42; refine (rwLong 2 wr.drew (by decide) (by decide)).mono ?_; rintro e v1 ⟨s1, d1, l1, c1, rfl, r1, na1, e1⟩)
            refine hK.out _ _ ?_ (fun hHeld => ?_)
            · exact ⟨(e1.cell (p := ⟨w.heap.size, 0, none⟩) hBl).trans (q0), (e1.cell (p := ⟨w.heap.size, 1, none⟩) hBl).trans (q1), (e1.cell (p := ⟨p, 0, none⟩) hpl).trans (m0)⟩
            clear hK Kc
            refine take_call (i := 6) rfl (by kernel_rfl) (fun Kc hK => ?_)
            go_simp
            (go_at_call 42; refine (rwLong sd v1 hn1 hn2).mono ?_; rintro e v2 ⟨s2, d2, l2, c2, rfl, r2, na2, e2⟩)
            refine hK.out _ _ ?_ (fun hHeld => ?_)
            · exact ⟨(e2.cell (p := ⟨w.heap.size, 0, none⟩) (Nat.lt_of_lt_of_le hBl e1.size)).trans ((e1.cell (p := ⟨w.heap.size, 0, none⟩) hBl).trans (q0)), (e2.cell (p := ⟨w.heap.size, 1, none⟩) (Nat.lt_of_lt_of_le hBl e1.size)).trans ((e1.cell (p := ⟨w.heap.size, 1, none⟩) hBl).trans (q1)), (e2.cell (p := ⟨p, 0, none⟩) (Nat.lt_of_lt_of_le hpl e1.size)).trans ((e1.cell (p := ⟨p, 0, none⟩) hpl).trans (m0))⟩
            clear hK Kc
            refine take_call (i := 11) rfl (by kernel_rfl) (fun Kc hK => ?_)
            go_simp
            (go_at_call 42; refine (rwLong sd v2 hn1 hn2).mono ?_; rintro e v3 ⟨s3, d3, l3, c3, rfl, r3, na3, e3⟩)
            refine hK.out _ _ ?_ (fun hHeld => ?_)
            · exact ⟨(e3.cell (p := ⟨w.heap.size, 0, none⟩) (Nat.lt_of_lt_of_le (Nat.lt_of_lt_of_le hBl e1.size) e2.size)).trans ((e2.cell (p := ⟨w.heap.size, 0, none⟩) (Nat.lt_of_lt_of_le hBl e1.size)).trans ((e1.cell (p := ⟨w.heap.size, 0, none⟩) hBl).trans (q0))), (e3.cell (p := ⟨w.heap.size, 1, none⟩) (Nat.lt_of_lt_of_le (Nat.lt_of_lt_of_le hBl e1.size) e2.size)).trans ((e2.cell (p := ⟨w.heap.size, 1, none⟩) (Nat.lt_of_lt_of_le hBl e1.size)).trans ((e1.cell (p := ⟨w.heap.size, 1, none⟩) hBl).trans (q1))), (e3.cell (p := ⟨p, 0, none⟩) (Nat.lt_of_lt_of_le (Nat.lt_of_lt_of_le hpl e1.size) e2.size)).trans ((e2.cell (p := ⟨p, 0, none⟩) (Nat.lt_of_lt_of_le hpl e1.size)).trans ((e1.cell (p := ⟨p, 0, none⟩) hpl).trans (m0)))⟩
            clear hK Kc
            refine take_call (i := 12) rfl (by kernel_rfl) (fun Kc hK => ?_)
            go_simp
            (go_at_call 41; refine (rwMul s2 s3 d2 d3 l2 c2 l3 c3 sd sd (sd * sd) v3 (r2.below e3) r3 F3.out F3.out rfl).mono ?_; rintro e v4 ⟨s4, d4, l4, c4, rfl, r4, na4, e4⟩)
            refine hK.out _ _ ?_ (fun hHeld => ?_)
            · exact ⟨(e4.cell (p := ⟨w.heap.size, 0, none⟩) (Nat.lt_of_lt_of_le (Nat.lt_of_lt_of_le (Nat.lt_of_lt_of_le hBl e1.size) e2.size) e3.size)).trans ((e3.cell (p := ⟨w.heap.size, 0, none⟩) (Nat.lt_of_lt_of_le (Nat.lt_of_lt_of_le hBl e1.size) e2.size)).trans ((e2.cell (p := ⟨w.heap.size, 0, none⟩) (Nat.lt_of_lt_of_le hBl e1.size)).trans ((e1.cell (p := ⟨w.heap.size, 0, none⟩) hBl).trans (q0)))), (e4.cell (p := ⟨w.heap.size, 1, none⟩) (Nat.lt_of_lt_of_le (Nat.lt_of_lt_of_le (Nat.lt_of_lt_of_le hBl e1.size) e2.size) e3.size)).trans ((e3.cell (p := ⟨w.heap.size, 1, none⟩) (Nat.lt_of_lt_of_le (Nat.lt_of_lt_of_le hBl e1.size) e2.size)).trans ((e2.cell (p := ⟨w.heap.size, 1, none⟩) (Nat.lt_of_lt_of_le hBl e1.size)).trans ((e1.cell (p := ⟨w.heap.size, 1, none⟩) hBl).trans (q1)))), (e4.cell (p := ⟨p, 0, none⟩) (Nat.lt_of_lt_of_le (Nat.lt_of_lt_of_le (Nat.lt_of_lt_of_le hpl e1.size) e2.size) e3.size)).trans ((e3.cell (p := ⟨p, 0, none⟩) (Nat.lt_of_lt_of_le (Nat.lt_of_lt_of_le hpl e1.size) e2.size)).trans ((e2.cell (p := ⟨p, 0, none⟩) (Nat.lt_of_lt_of_le hpl e1.size)).trans ((e1.cell (p := ⟨p, 0, none⟩) hpl).trans (m0))))⟩
            clear hK Kc
            refine take_call (i := 13) rfl (by kernel_rfl) (fun Kc hK => ?_)
            go_simp
            (go_at_call 41; refine (rwMul s1 s4 d1 d4 l1 c1 l4 c4 2 (sd * sd) (2 * (sd * sd)) v4 (((r1.below e2).below e3).below e4) r4 F2.out F4.out rfl).mono ?_; rintro e v5 ⟨s5, d5, l5, c5, rfl, r5, na5, e5⟩)
            refine hK.out _ _ ?_ (fun hHeld => ?_)
            · exact ⟨(e5.cell (p := ⟨w.heap.size, 0, none⟩) (Nat.lt_of_lt_of_le (Nat.lt_of_lt_of_le (Nat.lt_of_lt_of_le (Nat.lt_of_lt_of_le hBl e1.size) e2.size) e3.size) e4.size)).trans ((e4.cell (p := ⟨w.heap.size, 0, none⟩) (Nat.lt_of_lt_of_le (Nat.lt_of_lt_of_le (Nat.lt_of_lt_of_le hBl e1.size) e2.size) e3.size)).trans ((e3.cell (p := ⟨w.heap.size, 0, none⟩) (Nat.lt_of_lt_of_le (Nat.lt_of_lt_of_le hBl e1.size) e2.size)).trans ((e2.cell (p := ⟨w.heap.size, 0, none⟩) (Nat.lt_of_lt_of_le hBl e1.size)).trans ((e1.cell (p := ⟨w.heap.size, 0, none⟩) hBl).trans (q0))))), (e5.cell (p := ⟨w.heap.size, 1, none⟩) (Nat.lt_of_lt_of_le (Nat.lt_of_lt_of_le (Nat.lt_of_lt_of_le (Nat.lt_of_lt_of_le hBl e1.size) e2.size) e3.size) e4.size)).trans ((e4.cell (p := ⟨w.heap.size, 1, none⟩) (Nat.lt_of_lt_of_le (Nat.lt_of_lt_of_le (Nat.lt_of_lt_of_le hBl e1.size) e2.size) e3.size)).trans ((e3.cell (p := ⟨w.heap.size, 1, none⟩) (Nat.lt_of_lt_of_le (Nat.lt_of_lt_of_le hBl e1.size) e2.size)).trans ((e2.cell (p := ⟨w.heap.size, 1, none⟩) (Nat.lt_of_lt_of_le hBl e1.size)).trans ((e1.cell (p := ⟨w.heap.size, 1, none⟩) hBl).trans (q1))))), (e5.cell (p := ⟨p, 0, none⟩) (Nat.lt_of_lt_of_le (Nat.lt_of_lt_of_le (Nat.lt_of_lt_of_le (Nat.lt_of_lt_of_le hpl e1.size) e2.size) e3.size) e4.size)).trans ((e4.cell (p := ⟨p, 0, none⟩) (Nat.lt_of_lt_of_le (Nat.lt_of_lt_of_le (Nat.lt_of_lt_of_le hpl e1.size) e2.size) e3.size)).trans ((e3.cell (p := ⟨p, 0, none⟩) (Nat.lt_of_lt_of_le (Nat.lt_of_lt_of_le hpl e1.size) e2.size)).trans ((e2.cell (p := ⟨p, 0, none⟩) (Nat.lt_of_lt_of_le hpl e1.size)).trans ((e1.cell (p := ⟨p, 0, none⟩) hpl).trans (m0)))))⟩
            clear hK Kc
            refine take_call (i := 14) rfl (by kernel_rfl) (fun Kc hK => ?_)
            go_simp
            (go_at_call 40; refine (rwCmp s s5 d d5 l cc l5 c5 (areas S S.C.length) (2 * (sd * sd)) v5 (((((hsd.rn.below e1).below e2).below e3).below e4).below e5) r5 F1.out F5.out HG.out).mono ?_; rintro e v6 ⟨rfl, e6⟩)
            refine hK.out _ _ ?_ (fun hHeld => ?_)
            · exact ⟨(e6.cell (p := ⟨w.heap.size, 0, none⟩) (Nat.lt_of_lt_of_le (Nat.lt_of_lt_of_le (Nat.lt_of_lt_of_le (Nat.lt_of_lt_of_le (Nat.lt_of_lt_of_le hBl e1.size) e2.size) e3.size) e4.size) e5.size)).trans ((e5.cell (p := ⟨w.heap.size, 0, none⟩) (Nat.lt_of_lt_of_le (Nat.lt_of_lt_of_le (Nat.lt_of_lt_of_le (Nat.lt_of_lt_of_le hBl e1.size) e2.size) e3.size) e4.size)).trans ((e4.cell (p := ⟨w.heap.size, 0, none⟩) (Nat.lt_of_lt_of_le (Nat.lt_of_lt_of_le (Nat.lt_of_lt_of_le hBl e1.size) e2.size) e3.size)).trans ((e3.cell (p := ⟨w.heap.size, 0, none⟩) (Nat.lt_of_lt_of_le (Nat.lt_of_lt_of_le hBl e1.size) e2.size)).trans ((e2.cell (p := ⟨w.heap.size, 0, none⟩) (Nat.lt_of_lt_of_le hBl e1.size)).trans ((e1.cell (p := ⟨w.heap.size, 0, none⟩) hBl).trans (q0)))))), (e6.cell (p := ⟨w.heap.size, 1, none⟩) (Nat.lt_of_lt_of_le (Nat.lt_of_lt_of_le (Nat.lt_of_lt_of_le (Nat.lt_of_lt_of_le (Nat.lt_of_lt_of_le hBl e1.size) e2.size) e3.size) e4.size) e5.size)).trans ((e5.cell (p := ⟨w.heap.size, 1, none⟩) (Nat.lt_of_lt_of_le (Nat.lt_of_lt_of_le (Nat.lt_of_lt_of_le (Nat.lt_of_lt_of_le hBl e1.size) e2.size) e3.size) e4.size)).trans ((e4.cell (p := ⟨w.heap.size, 1, none⟩) (Nat.lt_of_lt_of_le (Nat.lt_of_lt_of_le (Nat.lt_of_lt_of_le hBl e1.size) e2.size) e3.size)).trans ((e3.cell (p := ⟨w.heap.size, 1, none⟩) (Nat.lt_of_lt_of_le (Nat.lt_of_lt_of_le hBl e1.size) e2.size)).trans ((e2.cell (p := ⟨w.heap.size, 1, none⟩) (Nat.lt_of_lt_of_le hBl e1.size)).trans ((e1.cell (p := ⟨w.heap.size, 1, none⟩) hBl).trans (q1)))))), (e6.cell (p := ⟨p, 0, none⟩) (Nat.lt_of_lt_of_le (Nat.lt_of_lt_of_le (Nat.lt_of_lt_of_le (Nat.lt_of_lt_of_le (Nat.lt_of_lt_of_le hpl e1.size) e2.size) e3.size) e4.size) e5.size)).trans ((e5.cell (p := ⟨p, 0, none⟩) (Nat.lt_of_lt_of_le (Nat.lt_of_lt_of_le (Nat.lt_of_lt_of_le (Nat.lt_of_lt_of_le hpl e1.size) e2.size) e3.size) e4.size)).trans ((e4.cell (p := ⟨p, 0, none⟩) (Nat.lt_of_lt_of_le (Nat.lt_of_lt_of_le (Nat.lt_of_lt_of_le hpl e1.size) e2.size) e3.size)).trans ((e3.cell (p := ⟨p, 0, none⟩) (Nat.lt_of_lt_of_le (Nat.lt_of_lt_of_le hpl e1.size) e2.size)).trans ((e2.cell (p := ⟨p, 0, none⟩) (Nat.lt_of_lt_of_le hpl e1.size)).trans ((e1.cell (p := ⟨p, 0, none⟩) hpl).trans (m0))))))⟩
            clear hK Kc
            refine ty (i := 15) (v := ?vcey15) rfl ?hycey15 ?_
            case hycey15 => (intro w hSw; (try dsimp only at hSw); go_simp <;> with_reducible rfl)
            simp only [Act.put, ps1, ps2, ps3]
            refine wpAnyH_done (by kernel_rfl) ?_ _
            go_wp2
            go_ret
            exact ⟨rfl, (((((BR.drew.trans (e1.mono (by simp; omega))).trans (e2.mono (by have := e1.size; simp at this; omega))).trans (e3.mono (by have := e1.size; have := e2.size; simp at *; omega))).trans (e4.mono (by have := e1.size; have := e2.size; have := e3.size; simp at *; omega))).trans (e5.mono (by have := e1.size; have := e2.size; have := e3.size; have := e4.size; simp at *; omega))).trans (e6.mono (by have := e1.size; have := e2.size; have := e3.size; have := e4.size; have := e5.size; simp at *; omega))⟩
          · have hgb : (g == 0) = false := by simpa using hgz
            obtain rfl : r = 6 := by rw [HG0.out, if_neg hgz]
            refine wp_region_held_drew (S := fun w' => w'.cell? ⟨w.heap.size, 0, none⟩ = some (.int .i64 s) ∧ w'.cell? ⟨w.heap.size, 1, none⟩ = some (.slice d l cc) ∧ w'.cell? ⟨p, 0, none⟩ = some (.int .i64 sd)) (by kernel_rfl) ?_ (fun hHeld => ?_)
            · exact ⟨q0, q1, m0⟩
            refine ty (i := 0) (v := ?vcen0) rfl ?hycen0 ?_
            case hycen0 => (intro w hSw; (try dsimp only at hSw); go_simp <;> with_reducible rfl)
            simp only [Act.put, ps1, ps2, ps3]
            refine ty (i := 2) (v := ?vcen2) rfl ?hycen2 ?_
            case hycen2 => (intro w hSw; (try dsimp only at hSw); go_simp <;> with_reducible rfl)
            simp only [Act.put, ps1, ps2, ps3]
            refine ty (i := 3) (v := ?vcen3) rfl ?hycen3 ?_
            case hycen3 => (intro w hSw; (try dsimp only at hSw); go_simp <;> with_reducible rfl)
            simp only [Act.put, ps1, ps2, ps3]
            refine ty (i := 4) (v := ?vcen4) rfl ?hycen4 ?_
            case hycen4 => (intro w hSw; (try dsimp only at hSw); go_simp <;> with_reducible rfl)
            simp only [Act.put, ps1, ps2, ps3]
            refine ty (i := 5) (v := ?vcen5) rfl ?hycen5 ?_
            case hycen5 => (intro w hSw; (try dsimp only at hSw); go_simp <;> with_reducible rfl)
            simp only [Act.put, ps1, ps2, ps3]
            refine ty (i := 7) (v := ?vcen7) rfl ?hycen7 ?_
            case hycen7 => (intro w hSw; (try dsimp only at hSw); go_simp <;> with_reducible rfl)
            simp only [Act.put, ps1, ps2, ps3]
            refine ty (i := 8) (v := ?vcen8) rfl ?hycen8 ?_
            case hycen8 => (intro w hSw; (try dsimp only at hSw); go_simp <;> with_reducible rfl)
            simp only [Act.put, ps1, ps2, ps3]
            refine ty (i := 9) (v := ?vcen9) rfl ?hycen9 ?_
            case hycen9 => (intro w hSw; (try dsimp only at hSw); go_simp <;> with_reducible rfl)
            simp only [Act.put, ps1, ps2, ps3]
            refine ty (i := 10) (v := ?vcen10) rfl ?hycen10 ?_
            case hycen10 => (intro w hSw; (try dsimp only at hSw); go_simp <;> with_reducible rfl)
            simp only [Act.put, ps1, ps2, ps3]
            refine take_call (i := 1) rfl (by kernel_rfl) (fun Kc hK => ?_)
            go_simp
            (go_at_call 42; refine (rwLong 2 wr.drew (by decide) (by decide)).mono ?_; rintro e v1 ⟨s1, d1, l1, c1, rfl, r1, na1, e1⟩)
            refine hK.out _ _ ?_ (fun hHeld => ?_)
            · exact ⟨(e1.cell (p := ⟨w.heap.size, 0, none⟩) hBl).trans (q0), (e1.cell (p := ⟨w.heap.size, 1, none⟩) hBl).trans (q1), (e1.cell (p := ⟨p, 0, none⟩) hpl).trans (m0)⟩
            clear hK Kc
            refine take_call (i := 6) rfl (by kernel_rfl) (fun Kc hK => ?_)
            go_simp
            (go_at_call 42; refine (rwLong sd v1 hn1 hn2).mono ?_; rintro e v2 ⟨s2, d2, l2, c2, rfl, r2, na2, e2⟩)
            refine hK.out _ _ ?_ (fun hHeld => ?_)
            · exact ⟨(e2.cell (p := ⟨w.heap.size, 0, none⟩) (Nat.lt_of_lt_of_le hBl e1.size)).trans ((e1.cell (p := ⟨w.heap.size, 0, none⟩) hBl).trans (q0)), (e2.cell (p := ⟨w.heap.size, 1, none⟩) (Nat.lt_of_lt_of_le hBl e1.size)).trans ((e1.cell (p := ⟨w.heap.size, 1, none⟩) hBl).trans (q1)), (e2.cell (p := ⟨p, 0, none⟩) (Nat.lt_of_lt_of_le hpl e1.size)).trans ((e1.cell (p := ⟨p, 0, none⟩) hpl).trans (m0))⟩
            clear hK Kc
            refine take_call (i := 11) rfl (by kernel_rfl) (fun Kc hK => ?_)
            go_simp
            (go_at_call 42; refine (rwLong sd v2 hn1 hn2).mono ?_; rintro e v3 ⟨s3, d3, l3, c3, rfl, r3, na3, e3⟩)
            refine hK.out _ _ ?_ (fun hHeld => ?_)
            · exact ⟨(e3.cell (p := ⟨w.heap.size, 0, none⟩) (Nat.lt_of_lt_of_le (Nat.lt_of_lt_of_le hBl e1.size) e2.size)).trans ((e2.cell (p := ⟨w.heap.size, 0, none⟩) (Nat.lt_of_lt_of_le hBl e1.size)).trans ((e1.cell (p := ⟨w.heap.size, 0, none⟩) hBl).trans (q0))), (e3.cell (p := ⟨w.heap.size, 1, none⟩) (Nat.lt_of_lt_of_le (Nat.lt_of_lt_of_le hBl e1.size) e2.size)).trans ((e2.cell (p := ⟨w.heap.size, 1, none⟩) (Nat.lt_of_lt_of_le hBl e1.size)).trans ((e1.cell (p := ⟨w.heap.size, 1, none⟩) hBl).trans (q1))), (e3.cell (p := ⟨p, 0, none⟩) (Nat.lt_of_lt_of_le (Nat.lt_of_lt_of_le hpl e1.size) e2.size)).trans ((e2.cell (p := ⟨p, 0, none⟩) (Nat.lt_of_lt_of_le hpl e1.size)).trans ((e1.cell (p := ⟨p, 0, none⟩) hpl).trans (m0)))⟩
            clear hK Kc
            refine take_call (i := 12) rfl (by kernel_rfl) (fun Kc hK => ?_)
            go_simp
            (go_at_call 41; refine (rwMul s2 s3 d2 d3 l2 c2 l3 c3 sd sd (sd * sd) v3 (r2.below e3) r3 F3.out F3.out rfl).mono ?_; rintro e v4 ⟨s4, d4, l4, c4, rfl, r4, na4, e4⟩)
            refine hK.out _ _ ?_ (fun hHeld => ?_)
            · exact ⟨(e4.cell (p := ⟨w.heap.size, 0, none⟩) (Nat.lt_of_lt_of_le (Nat.lt_of_lt_of_le (Nat.lt_of_lt_of_le hBl e1.size) e2.size) e3.size)).trans ((e3.cell (p := ⟨w.heap.size, 0, none⟩) (Nat.lt_of_lt_of_le (Nat.lt_of_lt_of_le hBl e1.size) e2.size)).trans ((e2.cell (p := ⟨w.heap.size, 0, none⟩) (Nat.lt_of_lt_of_le hBl e1.size)).trans ((e1.cell (p := ⟨w.heap.size, 0, none⟩) hBl).trans (q0)))), (e4.cell (p := ⟨w.heap.size, 1, none⟩) (Nat.lt_of_lt_of_le (Nat.lt_of_lt_of_le (Nat.lt_of_lt_of_le hBl e1.size) e2.size) e3.size)).trans ((e3.cell (p := ⟨w.heap.size, 1, none⟩) (Nat.lt_of_lt_of_le (Nat.lt_of_lt_of_le hBl e1.size) e2.size)).trans ((e2.cell (p := ⟨w.heap.size, 1, none⟩) (Nat.lt_of_lt_of_le hBl e1.size)).trans ((e1.cell (p := ⟨w.heap.size, 1, none⟩) hBl).trans (q1)))), (e4.cell (p := ⟨p, 0, none⟩) (Nat.lt_of_lt_of_le (Nat.lt_of_lt_of_le (Nat.lt_of_lt_of_le hpl e1.size) e2.size) e3.size)).trans ((e3.cell (p := ⟨p, 0, none⟩) (Nat.lt_of_lt_of_le (Nat.lt_of_lt_of_le hpl e1.size) e2.size)).trans ((e2.cell (p := ⟨p, 0, none⟩) (Nat.lt_of_lt_of_le hpl e1.size)).trans ((e1.cell (p := ⟨p, 0, none⟩) hpl).trans (m0))))⟩
            clear hK Kc
            refine take_call (i := 13) rfl (by kernel_rfl) (fun Kc hK => ?_)
            go_simp
            (go_at_call 41; refine (rwMul s1 s4 d1 d4 l1 c1 l4 c4 2 (sd * sd) (2 * (sd * sd)) v4 (((r1.below e2).below e3).below e4) r4 F2.out F4.out rfl).mono ?_; rintro e v5 ⟨s5, d5, l5, c5, rfl, r5, na5, e5⟩)
            refine hK.out _ _ ?_ (fun hHeld => ?_)
            · exact ⟨(e5.cell (p := ⟨w.heap.size, 0, none⟩) (Nat.lt_of_lt_of_le (Nat.lt_of_lt_of_le (Nat.lt_of_lt_of_le (Nat.lt_of_lt_of_le hBl e1.size) e2.size) e3.size) e4.size)).trans ((e4.cell (p := ⟨w.heap.size, 0, none⟩) (Nat.lt_of_lt_of_le (Nat.lt_of_lt_of_le (Nat.lt_of_lt_of_le hBl e1.size) e2.size) e3.size)).trans ((e3.cell (p := ⟨w.heap.size, 0, none⟩) (Nat.lt_of_lt_of_le (Nat.lt_of_lt_of_le hBl e1.size) e2.size)).trans ((e2.cell (p := ⟨w.heap.size, 0, none⟩) (Nat.lt_of_lt_of_le hBl e1.size)).trans ((e1.cell (p := ⟨w.heap.size, 0, none⟩) hBl).trans (q0))))), (e5.cell (p := ⟨w.heap.size, 1, none⟩) (Nat.lt_of_lt_of_le (Nat.lt_of_lt_of_le (Nat.lt_of_lt_of_le (Nat.lt_of_lt_of_le hBl e1.size) e2.size) e3.size) e4.size)).trans ((e4.cell (p := ⟨w.heap.size, 1, none⟩) (Nat.lt_of_lt_of_le (Nat.lt_of_lt_of_le (Nat.lt_of_lt_of_le hBl e1.size) e2.size) e3.size)).trans ((e3.cell (p := ⟨w.heap.size, 1, none⟩) (Nat.lt_of_lt_of_le (Nat.lt_of_lt_of_le hBl e1.size) e2.size)).trans ((e2.cell (p := ⟨w.heap.size, 1, none⟩) (Nat.lt_of_lt_of_le hBl e1.size)).trans ((e1.cell (p := ⟨w.heap.size, 1, none⟩) hBl).trans (q1))))), (e5.cell (p := ⟨p, 0, none⟩) (Nat.lt_of_lt_of_le (Nat.lt_of_lt_of_le (Nat.lt_of_lt_of_le (Nat.lt_of_lt_of_le hpl e1.size) e2.size) e3.size) e4.size)).trans ((e4.cell (p := ⟨p, 0, none⟩) (Nat.lt_of_lt_of_le (Nat.lt_of_lt_of_le (Nat.lt_of_lt_of_le hpl e1.size) e2.size) e3.size)).trans ((e3.cell (p := ⟨p, 0, none⟩) (Nat.lt_of_lt_of_le (Nat.lt_of_lt_of_le hpl e1.size) e2.size)).trans ((e2.cell (p := ⟨p, 0, none⟩) (Nat.lt_of_lt_of_le hpl e1.size)).trans ((e1.cell (p := ⟨p, 0, none⟩) hpl).trans (m0)))))⟩
            clear hK Kc
            refine take_call (i := 14) rfl (by kernel_rfl) (fun Kc hK => ?_)
            go_simp
            (go_at_call 40; refine (rwCmp s s5 d d5 l cc l5 c5 (areas S S.C.length) (2 * (sd * sd)) v5 (((((hsd.rn.below e1).below e2).below e3).below e4).below e5) r5 F1.out F5.out HG.out).mono ?_; rintro e v6 ⟨rfl, e6⟩)
            refine hK.out _ _ ?_ (fun hHeld => ?_)
            · exact ⟨(e6.cell (p := ⟨w.heap.size, 0, none⟩) (Nat.lt_of_lt_of_le (Nat.lt_of_lt_of_le (Nat.lt_of_lt_of_le (Nat.lt_of_lt_of_le (Nat.lt_of_lt_of_le hBl e1.size) e2.size) e3.size) e4.size) e5.size)).trans ((e5.cell (p := ⟨w.heap.size, 0, none⟩) (Nat.lt_of_lt_of_le (Nat.lt_of_lt_of_le (Nat.lt_of_lt_of_le (Nat.lt_of_lt_of_le hBl e1.size) e2.size) e3.size) e4.size)).trans ((e4.cell (p := ⟨w.heap.size, 0, none⟩) (Nat.lt_of_lt_of_le (Nat.lt_of_lt_of_le (Nat.lt_of_lt_of_le hBl e1.size) e2.size) e3.size)).trans ((e3.cell (p := ⟨w.heap.size, 0, none⟩) (Nat.lt_of_lt_of_le (Nat.lt_of_lt_of_le hBl e1.size) e2.size)).trans ((e2.cell (p := ⟨w.heap.size, 0, none⟩) (Nat.lt_of_lt_of_le hBl e1.size)).trans ((e1.cell (p := ⟨w.heap.size, 0, none⟩) hBl).trans (q0)))))), (e6.cell (p := ⟨w.heap.size, 1, none⟩) (Nat.lt_of_lt_of_le (Nat.lt_of_lt_of_le (Nat.lt_of_lt_of_le (Nat.lt_of_lt_of_le (Nat.lt_of_lt_of_le hBl e1.size) e2.size) e3.size) e4.size) e5.size)).trans ((e5.cell (p := ⟨w.heap.size, 1, none⟩) (Nat.lt_of_lt_of_le (Nat.lt_of_lt_of_le (Nat.lt_of_lt_of_le (Nat.lt_of_lt_of_le hBl e1.size) e2.size) e3.size) e4.size)).trans ((e4.cell (p := ⟨w.heap.size, 1, none⟩) (Nat.lt_of_lt_of_le (Nat.lt_of_lt_of_le (Nat.lt_of_lt_of_le hBl e1.size) e2.size) e3.size)).trans ((e3.cell (p := ⟨w.heap.size, 1, none⟩) (Nat.lt_of_lt_of_le (Nat.lt_of_lt_of_le hBl e1.size) e2.size)).trans ((e2.cell (p := ⟨w.heap.size, 1, none⟩) (Nat.lt_of_lt_of_le hBl e1.size)).trans ((e1.cell (p := ⟨w.heap.size, 1, none⟩) hBl).trans (q1)))))), (e6.cell (p := ⟨p, 0, none⟩) (Nat.lt_of_lt_of_le (Nat.lt_of_lt_of_le (Nat.lt_of_lt_of_le (Nat.lt_of_lt_of_le (Nat.lt_of_lt_of_le hpl e1.size) e2.size) e3.size) e4.size) e5.size)).trans ((e5.cell (p := ⟨p, 0, none⟩) (Nat.lt_of_lt_of_le (Nat.lt_of_lt_of_le (Nat.lt_of_lt_of_le (Nat.lt_of_lt_of_le hpl e1.size) e2.size) e3.size) e4.size)).trans ((e4.cell (p := ⟨p, 0, none⟩) (Nat.lt_of_lt_of_le (Nat.lt_of_lt_of_le (Nat.lt_of_lt_of_le hpl e1.size) e2.size) e3.size)).trans ((e3.cell (p := ⟨p, 0, none⟩) (Nat.lt_of_lt_of_le (Nat.lt_of_lt_of_le hpl e1.size) e2.size)).trans ((e2.cell (p := ⟨p, 0, none⟩) (Nat.lt_of_lt_of_le hpl e1.size)).trans ((e1.cell (p := ⟨p, 0, none⟩) hpl).trans (m0))))))⟩
            clear hK Kc
            refine ty (i := 15) (v := ?vcen15) rfl ?hycen15 ?_
            case hycen15 => (intro w hSw; (try dsimp only at hSw); go_simp <;> with_reducible rfl)
            simp only [Act.put, ps1, ps2, ps3]
            refine wpAnyH_done (by kernel_rfl) ?_ _
            go_wp2
            go_ret
            exact ⟨rfl, (((((BR.drew.trans (e1.mono (by simp; omega))).trans (e2.mono (by have := e1.size; simp at this; omega))).trans (e3.mono (by have := e1.size; have := e2.size; simp at *; omega))).trans (e4.mono (by have := e1.size; have := e2.size; have := e3.size; simp at *; omega))).trans (e5.mono (by have := e1.size; have := e2.size; have := e3.size; have := e4.size; simp at *; omega))).trans (e6.mono (by have := e1.size; have := e2.size; have := e3.size; have := e4.size; have := e5.size; simp at *; omega))⟩
end Go.Proofs.YtjdeehffbgpenaaGreat

namespace Go.Proofs.YtjdeehffbgpenaaGreat
open Go.RowKit
set_option linter.unusedVariables false

theorem mrCheck_ok (base p : Nat) (S : Ms) (m : Nat) (F : Nat → Prop) (w : World) (h : MeR base p S F w) (hk : MsOk S m) (hm : m ≤ 1000) {r : Int} (hr : r = if whole S = true then 0 else 6) : Calls Tryz.prog 12 #[ptR p] w fun e w' => e = .returned (.int .i64 r) ∧ Below w.heap.size w w' := by
  obtain ⟨lv, lc, _⟩ := hk.lens
  exact mrCheck p S w h.look (by omega) (by omega) (n64_of hk) (vt64_of hk hm) (tr64_of hk) (offB_of hk) hk.fi hk.fo hr
set_option maxRecDepth 100000 in
set_option maxHeartbeats 1000000 in
theorem meacts_of {MP : MeShape} (H : MeSpec MP) (side : Int) (a : Option Addr) (n c : Nat) (L : List Act) (w : World) (hL : ActsAt w a n c L) :
    Calls Tryz.prog 3 #[.int .i64 side, .slice a n c] w fun e w' => e = .returned (.bool true) ∧ Below w.heap.size w w' := by
  have HH : Hid _ := H
  have HL : Hid _ := hL
  clear H hL
  go_enter Tryz.func3, Tryz.ntmps3
  go_wp2_with (go_at_call 6; fail)
  obtain ⟨g, hg⟩ : ∃ g, g = goodN side := ⟨_, rfl⟩
  have HG : Hid _ := hg
  clear hg
  refine (good_of side w HG.out).mono ?_
  rintro e w1 ⟨rfl, b1⟩
  have z1 := b1.size
  go_wp2_with (go_at_call 7; fail)
  refine (plays_of HH.out g (HG.out ▸ goodN_ok side) a n c L w1 (HL.out.below b1)).mono ?_
  rintro e w2 ⟨pm, px, S, rfl, hb, hn, b2⟩
  have z2 := b2.size
  obtain ⟨⟨Fm, Fx, h1, h2, hd⟩, hk⟩ := hb
  have H1 : Hid _ := h1
  have H2 : Hid _ := h2
  have HK : Hid _ := hk
  have HSN : Hid _ := hn
  clear h1 h2 hk hd hn
  go_wp2_with (go_at_call 9; fail)
  refine (HH.out.dump w1.heap.size pm S 40 Fm w2 H1.out HK.out (by decide)).mono ?_
  rintro e w3 ⟨a3, ca3, b3, cb3, rfl, d3, b3'⟩
  have z3 := b3'.size
  have D3 : Hid _ := d3
  clear d3
  go_wp2_with (go_at_call 10; fail)
  refine (mrDump px S w3 (H2.out.look.below b3')).mono ?_
  rintro e w4 ⟨a4, ca4, b4, cb4, rfl, d4, b4'⟩
  have z4 := b4'.size
  have D4 : Hid _ := d4
  clear d4
  go_wp2_with (go_at_call 8; fail)
  obtain ⟨lv, lc, _⟩ := HK.out.lens
  refine (mrSame S.n S.V S.C a3 b3 ca3 cb3 a4 b4 ca4 cb4 w4 (D3.out.below b4') D4.out (by omega) (by omega)).mono ?_
  rintro e w5 ⟨rfl, b5⟩
  have z5 := b5.size
  obtain ⟨r, hr⟩ : ∃ r : Int, r = if whole S = true then 0 else 6 := ⟨_, rfl⟩
  have HR : Hid _ := hr
  clear hr
  go_wp2_with (go_at_call 11; fail)
  refine (HH.out.check w1.heap.size pm S 40 Fm w5 (HH.out.below (HH.out.below (HH.out.below H1.out b3') b4') b5) HK.out (by decide) r HR.out).mono ?_
  rintro e w6 ⟨rfl, b6⟩
  have z6 := b6.size
  go_wp2_with (go_at_call 12; fail)
  refine (mrCheck_ok w1.heap.size px S 40 Fx w6 ((((H2.out.below b3').below b4').below b5).below b6) HK.out (by decide) HR.out).mono ?_
  rintro e w7 ⟨rfl, b7⟩
  have z7 := b7.size
  go_wp2_with (go_at_call 13; fail)
  refine (HH.out.side w1.heap.size pm S 40 Fm w7 (HH.out.below (HH.out.below (HH.out.below (HH.out.below (HH.out.below H1.out b3') b4') b5) b6) b7) HK.out (by decide)).mono ?_
  rintro e w8 ⟨rfl, b8⟩
  have z8 := b8.size
  rw [HSN.out]
  go_wp2_with (go_at_call 14; fail)
  refine (lives11_of HH.out w8).mono ?_
  rintro e w9 ⟨rfl, b9⟩
  go_wp2
  go_ret
  exact ⟨rfl, (((((((b1.trans (b2.mono z1)).trans (b3'.mono (by omega))).trans (b4'.mono (by omega))).trans (b5.mono (by omega))).trans (b6.mono (by omega))).trans (b7.mono (by omega))).trans (b8.mono (by omega))).trans (b9.mono (by omega))⟩
end Go.Proofs.YtjdeehffbgpenaaGreat
