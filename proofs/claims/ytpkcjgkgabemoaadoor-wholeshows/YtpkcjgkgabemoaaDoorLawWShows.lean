/-
  WholeShows: any whole number's digits, and that it is read as the number.
-/
import Derived.Test.YtpkcjgkgabemoaaDoorP6
namespace Go.Proofs.YtpkcjgkgabemoaaDoor
open Go.RowKit
set_option linter.unusedVariables false

theorem dec_shows (x : Nat) : showsB (nums (decS x)) = true := by
  rw [decS_nums]
  obtain ⟨h1, h2, h3⟩ := isDec_dlen x
  refine shows_yes (by rw [digs_length]; omega) ?_ ?_
  · rintro ⟨ha, hb⟩
    rw [digs_length] at ha
    have h4 := h3.resolve_left (by omega)
    obtain ⟨k, hk⟩ : ∃ k, dlen x = k + 1 := ⟨dlen x - 1, by omega⟩
    rw [hk] at hb h2 h4
    rw [digs, List.head?_cons] at hb
    have h5 : 1 ≤ x / 10 ^ k := (Nat.one_le_div_iff (Nat.pow_pos (by decide))).2 (by simpa using h4)
    have h6 : x / 10 ^ k < 10 := by rw [Nat.pow_succ] at h2; exact Nat.div_lt_of_lt_mul h2
    rw [Nat.mod_eq_of_lt h6] at hb
    simp only [Option.some.injEq] at hb
    omega
  · intro k c hk
    exact digs_bytes _ _ c (List.mem_of_getElem? hk)
theorem dec_back (x : Nat) : rdN (nums (decS x)) = x := by
  rw [decS_nums, rdN_digs, Nat.mod_eq_of_lt (isDec_dlen x).2.1]
theorem parse_dec {x m : Nat} (hm : m ≤ 16) (hx : x < 4294967296 ^ m) (w : World) : Calls Tryd.prog 65 #[.string (decS x)] w (GotP w x 0) := by
  have h := parse_num (decS x) w (dec_shows x) (by rw [decS_size]; have := dlen_le hx; omega)
  rw [dec_back] at h
  refine h.mono ?_
  rintro e w' ⟨a, cap, rfl, ho, hb⟩
  exact ⟨a, _, cap, rfl, ⟨Own.sl ho, rfl⟩, Own.far ho, hb⟩
theorem dec_pos (x : Nat) : 0 < (decS x).size := by rw [decS_size]; have := (isDec_dlen x).1; omega
theorem minus_nat (x : Nat) : minus? (decS x) = false := by
  unfold minus?
  rw [dif_pos (dec_pos x)]
  have h := nums_at (decS x) 0 (dec_pos x)
  rw [decS_nums] at h
  have := digs_bytes _ _ _ (List.mem_of_getElem? h)
  simp
  omega
theorem minus_neg (t : ByteArray) : minus? (⟨#[45]⟩ ++ t) = true ∧ behind (⟨#[45]⟩ ++ t) = t := by
  have h1 : minus? (⟨#[45]⟩ ++ t) = true := by
    unfold minus?
    rw [dif_pos (by rw [ByteArray.size_append]; show 0 < 1 + t.size; omega)]
    obtain ⟨⟨l⟩⟩ := t
    rfl
  refine ⟨h1, ?_⟩
  unfold behind
  rw [h1]
  obtain ⟨⟨l⟩⟩ := t
  apply ByteArray.ext
  simp [ByteArray.data_extract, ByteArray.size_append]
  exact List.take_of_length_le (by show l.length ≤ 1 + l.length - 1; omega)
theorem minus_dec (z : Int) : minus? (decZ z) = decide (z < 0) ∧ behind (decZ z) = decS z.natAbs := by
  unfold decZ
  by_cases h : z < 0
  · rw [if_pos h]
    obtain ⟨h1, h2⟩ := minus_neg (decS z.natAbs)
    exact ⟨by rw [h1]; simp [h], h2⟩
  · rw [if_neg h]
    refine ⟨by rw [minus_nat]; simp [h], ?_⟩
    unfold behind
    rw [minus_nat]
    rfl
theorem zOf_dec (z : Int) : zOf (decide (z < 0)) z.natAbs 0 = (z, 0) := by
  unfold zOf
  rw [if_neg (by simp)]
  by_cases h : z < 0
  · rw [if_neg (by omega)]
    simp [sgz, h]
    omega
  · rw [if_neg (by simp [h])]
    simp [sgz, h]
    omega
/-- A number's text is read as the number. -/
theorem wParse_dec (z : Int) {m : Nat} (hm : m ≤ 16) (hz : z.natAbs < 4294967296 ^ m) (w : World) {t : ByteArray} (ht : t = decZ z) : Calls Tryd.prog 35 #[.string t] w (GotZ w z 0) := by
  subst ht
  have h := wParse (decZ z) z.natAbs 0 w (by
    unfold decZ
    have := dlen_le hz
    split
    · rw [ByteArray.size_append, decS_size]; show 1 + _ ≤ _; omega
    · rw [decS_size]; omega) (fun w => by rw [(minus_dec z).2]; exact parse_dec hm hz w)
  rw [(minus_dec z).1, zOf_dec] at h
  exact h

theorem keepD2 {p q : Nat} {v1 v2 v3 v4 : Value} {w0 w w' : World} (h : w.cell? ⟨p, 0, none⟩ = some v1 ∧ w.cell? ⟨p, 1, none⟩ = some v2 ∧ w.cell? ⟨q, 0, none⟩ = some v3 ∧ w.cell? ⟨q, 1, none⟩ = some v4 ∧ Below w0.heap.size w0 w) (hb : Below w.heap.size w w') : w'.cell? ⟨p, 0, none⟩ = some v1 ∧ w'.cell? ⟨p, 1, none⟩ = some v2 ∧ w'.cell? ⟨q, 0, none⟩ = some v3 ∧ w'.cell? ⟨q, 1, none⟩ = some v4 ∧ Below w0.heap.size w0 w' :=
  ⟨cell_on hb h.1, cell_on hb h.2.1, cell_on hb h.2.2.1, cell_on hb h.2.2.2.1, also h.2.2.2.2 hb⟩
namespace wshows
open Go.ChangeShapes Go.WideShapes Go.ChangeAt
set_option maxRecDepth 100000 in
set_option maxHeartbeats 4000000 in
theorem walk (n : Bool) (a : Option Addr) (la ca u : Nat) (w : World) (ha : Sl w a la ca (wd.dcells la (u : Int))) (hu : u < 4294967296 ^ la) :
    Calls Tryd.prog 7 #[.agg #[.bool n, .slice a la ca]] w fun e w' => e = .returned (.bool true) ∧ Below w.heap.size w w' := by
  have B0 : Below w.heap.size w (w.alloc (.cells #[.bool n, .slice a la ca] 25)) := (Below.refl _ _).alloc (Nat.le_refl _) _
  have x0 := bx_new w (.bool n) (.slice a la ca) 25
  go_enter Tryd.func7, Tryd.ntmps7
  go_wp2_with (go_at_call 9; fail)
  refine (short4_any n a la ca u _ (ha.below B0) hu).mono ?_
  rintro e w1 ⟨a1, m1, c1, x1, rfl, hm1, n1, f1, b1⟩
  have hsz : w.heap.size < (w.alloc (.cells #[.bool n, .slice a la ca] 25)).heap.size := by simp
  have na := f1 _ hsz
  have wa0 := (wi_of (n := n) n1).put2 na (.bool n) (.slice a1 m1 c1)
  have x2 : Bx ((w1.setCell ⟨w.heap.size, 0, none⟩ (.bool n)).setCell ⟨w.heap.size, 1, none⟩ (.slice a1 m1 c1)) w.heap.size (.bool n) (.slice a1 m1 c1) := (x0.on b1).set
  have B2 := below_put2 (also B0 b1) (Nat.le_refl _) (.bool n) (.slice a1 m1 c1)
  obtain ⟨k0, k1, k2, k3⟩ := x0.on b1
  have fX0 : (sgz n x1).natAbs < 4294967296 ^ 16 := sgz_lt n1.lt hm1
  obtain ⟨X, hX⟩ : ∃ X, X = sgz n x1 := ⟨_, rfl⟩
  rw [← hX] at wa0 fX0
  have FX : hf.nlen X.natAbs ≤ 1000000 := hfew fX0 (by decide)
  obtain ⟨t, ht⟩ : ∃ t, t = decZ X := ⟨_, rfl⟩
  have HT : Hid _ := ht
  clear ht hX x0 B0 na hsz ha hu
  obtain ⟨i0, i1, i2, i3⟩ := x2
  have x2 : Bx _ _ _ _ := ⟨i0, i1, i2, i3⟩
  go_wp2_with (go_at_call 34; fail)
  refine (wShow n a1 m1 c1 X _ wa0 HT.out).mono ?_
  rintro e w3 ⟨rfl, b3⟩
  go_wp2_with (go_at_call 35; fail)
  refine (wParse_dec X (Nat.le_refl _) fX0 _ HT.out).mono ?_
  rintro e w4 ⟨n4, a4, l4, c4, rfl, h4, f4, b4⟩
  have y4 := bx_new w4 (.bool n4) (.slice a4 l4 c4) 25
  have d4 : Below w4.heap.size w4 (w4.alloc (.cells #[.bool n4, .slice a4 l4 c4] 25)) := (Below.refl _ _).alloc (Nat.le_refl _) _
  have ya := ((x2.on b3).on b4).on d4
  have wa := ((wa0.below b3).below b4).below d4
  have wb := h4.below d4
  have B4 := also (also (also B2 b3) b4) d4
  clear i0 i1 i2 i3 k0 k1 k2 k3 x2 wa0 B2 b3 b4 h4 f4 n1 f1 b1
  go_wp2
  generalize w4.alloc (.cells #[.bool n4, .slice a4 l4 c4] 25) = W at y4 ya wa wb B4 d4 ⊢
  generalize w4.heap.size = p at y4 ⊢
  refine wp_region_held_drew (S := (fun w' => w'.cell? ⟨w.heap.size, 0, none⟩ = some (.bool n) ∧ w'.cell? ⟨w.heap.size, 1, none⟩ = some (.slice a1 m1 c1) ∧ w'.cell? ⟨p, 0, none⟩ = some (.bool n4) ∧ w'.cell? ⟨p, 1, none⟩ = some (.slice a4 l4 c4) ∧ Below W.heap.size W w')) (by kernel_rfl) ?_ (fun hHeld => ?_)
  · first | exact keepD2 hHeld bb | exact ⟨ya.c0, ya.c1, y4.c0, y4.c1, (Below.refl _ _).drew⟩
  refine take_yes (i := 0) (v := ?vh0) rfl (by kernel_rfl) (by kernel_rfl) (by kernel_rfl) (fun _ _ _ h => h) (by rfl) (by assumption) ?hyh0 ?resth0
  case hyh0 => (intro w hSw; (try dsimp only at hSw); first | (go_simp; done) | (go_simp; with_reducible rfl))
  simp only [Act.put, List.setIfInBounds_toArray, List.set_cons_zero, List.set_cons_succ]
  refine take_yes (i := 1) (v := ?vh1) rfl (by kernel_rfl) (by kernel_rfl) (by kernel_rfl) (fun _ _ _ h => h) (by rfl) (by assumption) ?hyh1 ?resth1
  case hyh1 => (intro w hSw; (try dsimp only at hSw); first | (go_simp; done) | (go_simp; with_reducible rfl))
  simp only [Act.put, List.setIfInBounds_toArray, List.set_cons_zero, List.set_cons_succ]
  refine take_call (i := 2) rfl (by kernel_rfl) (fun K hK => ?_)
  go_simp
  (go_at_call 10; refine (rwOf n a1 m1 c1 X _ (wa.below hHeld.2.2.2.2)).mono ?_; rintro e w10 ⟨s10, d10, l10, c10, rfl, h10, f10, bb⟩)
  refine hK.out _ _ ?_ (fun hHeld => ?_)
  · first | exact keepD2 hHeld bb | exact ⟨ya.c0, ya.c1, y4.c0, y4.c1, (Below.refl _ _).drew⟩
  clear hK K
  refine take_call (i := 3) rfl (by kernel_rfl) (fun K hK => ?_)
  go_simp
  (go_at_call 36; refine (rwShow s10 d10 l10 c10 X _ h10 FX HT.out).mono ?_; rintro e w11 ⟨rfl, bb⟩)
  refine hK.out _ _ ?_ (fun hHeld => ?_)
  · first | exact keepD2 hHeld bb | exact ⟨ya.c0, ya.c1, y4.c0, y4.c1, (Below.refl _ _).drew⟩
  clear hK K
  refine take_yes (i := 4) (v := ?vh4) rfl (by kernel_rfl) (by kernel_rfl) (by kernel_rfl) (fun _ _ _ h => h) (by rfl) (by assumption) ?hyh4 ?resth4
  case hyh4 => (intro w hSw; (try dsimp only at hSw); first | (go_simp; done) | (go_simp; with_reducible rfl))
  simp only [Act.put, List.setIfInBounds_toArray, List.set_cons_zero, List.set_cons_succ]
  refine take_yes (i := 5) (v := ?vh5) rfl (by kernel_rfl) (by kernel_rfl) (by kernel_rfl) (fun _ _ _ h => h) (by rfl) (by assumption) ?hyh5 ?resth5
  case hyh5 => (intro w hSw; (try dsimp only at hSw); first | (go_simp; done) | (go_simp; with_reducible rfl))
  simp only [Act.put, List.setIfInBounds_toArray, List.set_cons_zero, List.set_cons_succ]
  refine take_yes (i := 6) (v := ?vh6) rfl (by kernel_rfl) (by kernel_rfl) (by kernel_rfl) (fun _ _ _ h => h) (by rfl) (by assumption) ?hyh6 ?resth6
  case hyh6 => (intro w hSw; (try dsimp only at hSw); first | (go_simp; done) | (go_simp; with_reducible rfl))
  simp only [Act.put, List.setIfInBounds_toArray, List.set_cons_zero, List.set_cons_succ]
  refine take_yes (i := 7) (v := ?vh7) rfl (by kernel_rfl) (by kernel_rfl) (by kernel_rfl) (fun _ _ _ h => h) (by rfl) (by assumption) ?hyh7 ?resth7
  case hyh7 => (intro w hSw; (try dsimp only at hSw); first | (go_simp; done) | (go_simp; with_reducible rfl))
  simp only [Act.put, List.setIfInBounds_toArray, List.set_cons_zero, List.set_cons_succ]
  refine take_call (i := 8) rfl (by kernel_rfl) (fun K hK => ?_)
  go_simp
  (go_at_call 10; refine (rwOf n a1 m1 c1 X _ (wa.below hHeld.2.2.2.2)).mono ?_; rintro e w12 ⟨s12, d12, l12, c12, rfl, h12, f12, bb⟩)
  refine hK.out _ _ ?_ (fun hHeld => ?_)
  · first | exact keepD2 hHeld bb | exact ⟨ya.c0, ya.c1, y4.c0, y4.c1, (Below.refl _ _).drew⟩
  clear hK K
  refine take_call (i := 9) rfl (by kernel_rfl) (fun K hK => ?_)
  go_simp
  (go_at_call 11; refine (rwSame n4 s12 a4 d12 l4 c4 l12 c12 X _ (wb.below hHeld.2.2.2.2) h12 FX).mono ?_; rintro e w13 ⟨rfl, bb⟩)
  refine hK.out _ _ ?_ (fun hHeld => ?_)
  · first | exact keepD2 hHeld bb | exact ⟨ya.c0, ya.c1, y4.c0, y4.c1, (Below.refl _ _).drew⟩
  clear hK K
  refine take_yes (i := 10) (v := ?vh10) rfl (by kernel_rfl) (by kernel_rfl) (by kernel_rfl) (fun _ _ _ h => h) (by rfl) (by assumption) ?hyh10 ?resth10
  case hyh10 => (intro w hSw; (try dsimp only at hSw); first | (go_simp; done) | (go_simp; with_reducible rfl))
  simp only [Act.put, List.setIfInBounds_toArray, List.set_cons_zero, List.set_cons_succ]
  refine take_yes (i := 11) (v := ?vh11) rfl (by kernel_rfl) (by kernel_rfl) (by kernel_rfl) (fun _ _ _ h => h) (by rfl) (by assumption) ?hyh11 ?resth11
  case hyh11 => (intro w hSw; (try dsimp only at hSw); first | (go_simp; done) | (go_simp; with_reducible rfl))
  simp only [Act.put, List.setIfInBounds_toArray, List.set_cons_zero, List.set_cons_succ]
  refine take_yes (i := 12) (v := ?vh12) rfl (by kernel_rfl) (by kernel_rfl) (by kernel_rfl) (fun _ _ _ h => h) (by rfl) (by assumption) ?hyh12 ?resth12
  case hyh12 => (intro w hSw; (try dsimp only at hSw); first | (go_simp; done) | (go_simp; with_reducible rfl))
  simp only [Act.put, List.setIfInBounds_toArray, List.set_cons_zero, List.set_cons_succ]
  refine take_yes (i := 13) (v := ?vh13) rfl (by kernel_rfl) (by kernel_rfl) (by kernel_rfl) (fun _ _ _ h => h) (by rfl) (by assumption) ?hyh13 ?resth13
  case hyh13 => (intro w hSw; (try dsimp only at hSw); first | (go_simp; done) | (go_simp; with_reducible rfl))
  simp only [Act.put, List.setIfInBounds_toArray, List.set_cons_zero, List.set_cons_succ]
  refine take_yes (i := 14) (v := ?vh14) rfl (by kernel_rfl) (by kernel_rfl) (by kernel_rfl) (fun _ _ _ h => h) (by rfl) (by assumption) ?hyh14 ?resth14
  case hyh14 => (intro w hSw; (try dsimp only at hSw); first | (go_simp; done) | (go_simp; with_reducible rfl))
  simp only [Act.put, List.setIfInBounds_toArray, List.set_cons_zero, List.set_cons_succ]
  refine take_yes (i := 15) (v := ?vh15) rfl (by kernel_rfl) (by kernel_rfl) (by kernel_rfl) (fun _ _ _ h => h) (by rfl) (by assumption) ?hyh15 ?resth15
  case hyh15 => (intro w hSw; (try dsimp only at hSw); first | (go_simp; done) | (go_simp; with_reducible rfl))
  simp only [Act.put, List.setIfInBounds_toArray, List.set_cons_zero, List.set_cons_succ]
  refine take_call (i := 16) rfl (by kernel_rfl) (fun K hK => ?_)
  go_simp
  (go_at_call 21; refine (lives4_any _).mono ?_; rintro e w14 ⟨rfl, bb⟩)
  refine hK.out _ _ ?_ (fun hHeld => ?_)
  · first | exact keepD2 hHeld bb | exact ⟨ya.c0, ya.c1, y4.c0, y4.c1, (Below.refl _ _).drew⟩
  clear hK K
  refine take_yes (i := 17) (v := ?vh17) rfl (by kernel_rfl) (by kernel_rfl) (by kernel_rfl) (fun _ _ _ h => h) (by rfl) (by assumption) ?hyh17 ?resth17
  case hyh17 => (intro w hSw; (try dsimp only at hSw); first | (go_simp; done) | (go_simp; with_reducible rfl))
  simp only [Act.put, List.setIfInBounds_toArray, List.set_cons_zero, List.set_cons_succ]
  refine take_yes (i := 18) (v := ?vh18) rfl (by kernel_rfl) (by kernel_rfl) (by kernel_rfl) (fun _ _ _ h => h) (by rfl) (by assumption) ?hyh18 ?resth18
  case hyh18 => (intro w hSw; (try dsimp only at hSw); first | (go_simp; done) | (go_simp; with_reducible rfl))
  simp only [Act.put, List.setIfInBounds_toArray, List.set_cons_zero, List.set_cons_succ]
  refine wpAnyH_done (by kernel_rfl) ?_ _
  go_wp2
  go_ret
  exact ⟨rfl, also B4 hHeld.2.2.2.2⟩
theorem own : ownKnob Tryd.prog.godebug = none := by kernel_rfl
set_option maxRecDepth 100000 in
theorem lifted (os : Os) (started : os.Started) (H : Type) (enc : TypeId × Value → H) :
    ReturnsInHanded {} Tryd.checked os 7 .any (fun w args => (Rows.wholeShowsSpec.pre enc Tryd.prog Tryd.f7 [] false w args ∧ laidMetH Tryd.prog Rows.wholeShowsRow.laid w) ∧ sizedMet enc Tryd.prog Tryd.f7 (OpenSpec.ofChange Rows.wholeShowsSpec) false w args)
      (Rows.wholeShowsSpec.post enc Tryd.prog Tryd.f7 false true false false) := by
  refine returnsInHanded_of_change_and (C := Tryd.checked) (X := fun w _ => laidMetH Tryd.prog Rows.wholeShowsRow.laid w) (fun _ _ _ hh h => h.of_heap hh) own started (by kernel_rfl) Tryd.func7
    (ChangeSpec.witness_shaped (enc := enc) (C := Tryd.checked) (os := os) (X := fun w _ => laidMetH Tryd.prog Rows.wholeShowsRow.laid w) false (World.laidAll Tryd.prog os Rows.wholeShowsRow.laid) #[.agg #[.bool false, .slice none 0 0]] 8 (World.laidAll_os _ _ _)
      (World.shaped_of_ZipB (by kernel_rfl) (by kernel_rfl)) (by kernel_rfl) (by kernel_rfl) (by kernel_rfl)
      (by rw [MakeChecks.laidMetH_plain _ _ _ (by kernel_rfl)]; exact laidMet_laidAll _ (by kernel_rfl) (by kernel_rfl))) ?_
  intro W base args ds gs before hval0 hW _ _ hL _
  have hval : ∀ (j : Nat) t v, Tryd.f7.params[j]? = some t → args[j]? = some v → Value.okWide Tryd.prog W .any base t v := hval0
  have hW' := hW
  obtain ⟨p, q, hA0, hV, rfl, hfz, hnd⟩ := hW
  have hA : DataW.TrodAll enc Tryd.prog W 0 (fun _ => true) true Tryd.f7.params.toList args.toList ds p := hA0
  rw [Tryd.params7] at hA hval
  obtain ⟨v0, vs0, d0, ds0, p0, q0, hargs, rfl, rfl, h0, r0⟩ := trodAll_cons hA
  obtain ⟨rfl, rfl, rfl⟩ := trodAll_nil r0
  obtain rfl : args = #[v0] := by cases args; simp_all
  obtain ⟨rfl, rfl⟩ := trodVars_none hV
  have hlt : ∀ x ∈ p0, x.block < W.heap.size := fun x hx => by simpa using hW'.lt x (by simpa using hx)
  have h0k := h0
  obtain ⟨n0, a0, l0, c0, u0, rfl, hu0, hs0⟩ := int_view (hval 0 25 v0 rfl rfl) h0 (fun b o h => hfz b o (by simp [h])) (fun x hx => hlt x (by simp [hx]))
  clear hA0 hval0
  refine (walk n0 a0 l0 c0 u0 W hs0 hu0).mono fun e W' ⟨he, bel⟩ => ?_
  subst he
  exact ⟨_, rfl, _, _, _, [], _, [], hW', trodAll_mk1 (shut_bool Tryd.underlying4 _), (trodAll_cons_mk (Below.trod laidOutAll (by kernel_rfl) (of_decide_eq_true (by kernel_rfl)) h0k bel (fun x hx => hlt x (by simp [hx]))) trodAll_mk0), rfl, bel.frame _, fun h => by cases h⟩

theorem said : Rows.WholeShowsSaid :=
  OpenClaim.holds_of_wide 7 Tryd.f7 rfl rfl rfl rfl rfl rfl rfl ⟨rfl, rfl, rfl, rfl, rfl⟩ rfl rfl rfl rfl rfl (by kernel_rfl) Tryd.func7 (by kernel_rfl)
    (of_decide_eq_true (by kernel_rfl)) (by unfold Func.isWrapper; first | (rw [if_pos (by decide +kernel)]; kernel_rfl) | (rw [if_neg (by decide +kernel)]; exact ⟨rfl, rfl⟩))
    (fun os started H enc _ => lifted os started H enc)
/-- The program's own looks are off, and no parameter wants a stand-in: what the card asks. -/
theorem plain (f : FuncId) (fn : Func) (hf : Tryd.pinned.checked.prog.funcNamed "zellige/zelligelaw04.WholeShows" = some f) (hfn : Tryd.pinned.checked.prog.funcs[f]? = some fn) :
    false = Tryd.pinned.checked.prog.looks [] ∧ ∀ (j : Nat) t, fn.params[j]? = some t → Tryd.pinned.checked.prog.wantsStandIn t = false := by
  obtain rfl : f = 7 := Option.some.inj ((show Tryd.prog.funcNamed "zellige/zelligelaw04.WholeShows" = some 7 by kernel_rfl).symm.trans hf) |>.symm
  obtain rfl : fn = Tryd.f7 := (Option.some.inj (Tryd.func7.symm.trans hfn)).symm
  refine ⟨by kernel_rfl, fun j t ht => ?_⟩
  rw [Tryd.params7] at ht
  have hm : t ∈ [25] := by simpa using Array.mem_of_getElem? ht
  have hall : ([25].all fun u => !Tryd.prog.wantsStandIn u) = true := by kernel_rfl
  exact (show Tryd.prog.wantsStandIn t = false by simpa using List.all_eq_true.1 hall t hm)
/-- The statement: the card. -/
theorem proved : Rows.WholeShowsCardSaid :=
  Claim7.holds_tied_plain_at .later [] _ _ _ _ said (fun _ h => by cases h) (by kernel_rfl) (fun _ h => by cases h) wholeShows_row_tie rfl ⟨rfl, rfl⟩ (by kernel_rfl) rfl plain (by kernel_rfl)
#print axioms proved
end wshows
end Go.Proofs.YtpkcjgkgabemoaaDoor
