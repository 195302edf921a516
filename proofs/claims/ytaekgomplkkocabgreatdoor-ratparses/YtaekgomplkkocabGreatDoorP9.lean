/-
  Joined texts, part 9:
  Texts that are read: which number a text is of, on both sides, and that a number's text is the only one.
  What package rat's Parse answers at any text.
  What the law's whole1 answers.
  The walk of RatParses, a case a theorem, where the text is cut.
-/
import Derived.Test.YtaekgomplkkocabGreatDoorP8
import Derived.Test.YtaekgomplkkocabGreatDoorP7
import Derived.Test.YtaekgomplkkocabGreatDoorP6
namespace Go.Proofs.YtaekgomplkkocabGreatDoor
open Go.RowKit
set_option linter.unusedVariables false

/-- The number and the error of a text of digits. -/
def pz (u : ByteArray) : Nat × Int := if showsB (nums u) = true then (rdN (nums u), 0) else (0, 4)
def GotHPF (w : World) (N : Nat) (E : Int) (e : Ending) (w' : World) : Prop := ∃ a l c, e = .returned (.tuple #[.slice a l c, .int .i64 E]) ∧ HD w' a l c N ∧ Far w.heap.size a l ∧ Below w.heap.size w w'
theorem nParseZ (u : ByteArray) (hs : u.size ≤ 300) (w : World) : Calls Tryz.prog 15 #[.string u] w (GotP w (pz u).1 (pz u).2) := by
  unfold pz
  rcases hsh : showsB (nums u) with _ | _
  · rw [if_neg (by simp)]
    refine (parse_form u w (by omega) hsh).mono ?_
    rintro e w' ⟨rfl, hw⟩
    exact ⟨none, 0, 0, rfl, nd_nil _, far_nil _ _, hw ▸ Below.refl _ _⟩
  · rw [if_pos rfl]
    refine (parse_num u w hsh (by omega)).mono ?_
    rintro e w' ⟨a, cap, rfl, ho, hb⟩
    exact ⟨a, _, cap, rfl, ⟨Own.sl ho, rfl⟩, Own.far ho, hb⟩
theorem hParseZ (u : ByteArray) (hs : u.size ≤ 300) (w : World) : Calls Tryz.prog 6 #[.string u] w (GotHPF w (pz u).1 (pz u).2) := by
  unfold pz
  rcases hsh : showsB (nums u) with _ | _
  · rw [if_neg (by simp)]
    refine (rparse_form u w (by omega) hsh).mono ?_
    rintro e w' ⟨a, rfl, hb⟩
    exact ⟨a, 0, 0, rfl, ⟨sl_none _ _, hf.nlen_zero.symm⟩, far_nil _ _, hb⟩
  · rw [if_pos rfl]
    refine (rparse_num u w hsh (by omega)).mono ?_
    rintro e w' ⟨a, cap, rfl, ho, hb⟩
    exact ⟨a, _, cap, rfl, ⟨Own.sl ho, rfl⟩, Own.far ho, hb⟩
theorem shows_dig {u : ByteArray} (h : showsB (nums u) = true) : nums u ≠ [] ∧ ¬ (1 < (nums u).length ∧ (nums u).head? = some 48) ∧ ∀ c ∈ nums u, 48 ≤ c ∧ c ≤ 57 := by
  unfold showsB at h
  exact of_decide_eq_true h
theorem pz_lt (u : ByteArray) (hs : u.size ≤ 200) : (pz u).1 < 4294967296 ^ 21 := by
  unfold pz
  split
  · rename_i h
    have h1 := rdN_lt u.size _ (nums_length u) (shows_dig h).2.2
    exact Nat.lt_of_lt_of_le h1 (Nat.le_trans (Nat.pow_le_pow_right (by decide) hs) (by decide +kernel))
  · exact Nat.pow_pos (by decide)
theorem digs_rdN : ∀ (n : Nat) (l : List Int), l.length = n → (∀ c ∈ l, 48 ≤ c ∧ c ≤ 57) → digs n (rdN l) = l
  | 0, l, h, _ => by rw [List.length_eq_zero_iff.1 h]; rfl
  | n + 1, l, h, hd => by
    have hne : l ≠ [] := fun e => by rw [e] at h; simp at h
    have e := List.dropLast_concat_getLast hne
    have hd2 := hd
    rw [← e] at hd ⊢
    rw [rdN_snoc, digs_snoc]
    have h1 := digs_rdN n l.dropLast (by rw [List.length_dropLast]; omega) (fun c hc => hd c (List.mem_append_left _ hc))
    have h2 := hd (l.getLast hne) (List.mem_append_right _ (List.mem_singleton.2 rfl))
    have h3 : (10 * rdN l.dropLast + (l.getLast hne - 48).toNat) / 10 = rdN l.dropLast := by omega
    have h4 : ((48 + ((10 * rdN l.dropLast + (l.getLast hne - 48).toNat) % 10 : Nat) : Int)) = l.getLast hne := by omega
    rw [h3, h4, h1]
theorem rdN_ge : ∀ (n : Nat) (l : List Int), l.length = n + 1 → (∀ c ∈ l, 48 ≤ c ∧ c ≤ 57) → l.head? ≠ some 48 → 10 ^ n ≤ rdN l
  | 0, l, h, hd, hh => by
    obtain ⟨c, rfl⟩ := List.length_eq_one_iff.1 h
    have := hd c (List.mem_singleton.2 rfl)
    have h5 : c ≠ 48 := fun e => hh (by rw [e]; rfl)
    simp [rdN]
    omega
  | n + 1, l, h, hd, hh => by
    have hne : l ≠ [] := fun e => by rw [e] at h; simp at h
    have e := List.dropLast_concat_getLast hne
    have hl : l.dropLast.length = n + 1 := by rw [List.length_dropLast]; omega
    have hh2 : l.dropLast.head? ≠ some 48 := by
      intro q
      refine hh ?_
      rw [← e, List.head?_append, q]
      rfl
    rw [← e] at hd
    have h1 := rdN_ge n l.dropLast hl (fun c hc => hd c (List.mem_append_left _ hc)) hh2
    rw [← e, rdN_snoc, Nat.pow_succ]
    omega
theorem nums_inj {s t : ByteArray} (h : nums s = nums t) : s = t := by
  apply ByteArray.ext
  apply Array.toList_inj.1
  unfold nums at h
  refine (List.map_inj_right (f := fun b : UInt8 => (b.toNat : Int)) ?_).1 h
  intro a b e
  exact UInt8.toNat_inj.1 (by have e' : (a.toNat : Int) = b.toNat := e; omega)
/-- A text of digits is its number's text. -/
theorem dec_of {u : ByteArray} (h : showsB (nums u) = true) : decS (rdN (nums u)) = u := by
  obtain ⟨h1, h2, h3⟩ := shows_dig h
  apply nums_inj
  rw [decS_nums]
  have hl : 1 ≤ (nums u).length := by
    rcases e : nums u with _ | ⟨c, l⟩
    · exact absurd e h1
    · simp
  have hdec : IsDec (rdN (nums u)) (nums u).length := by
    refine ⟨hl, rdN_lt _ _ rfl h3, ?_⟩
    by_cases q : (nums u).length = 1
    · exact Or.inl q
    · right
      exact rdN_ge _ _ (by omega) h3 (fun e => h2 ⟨by omega, e⟩)
  rw [dlen_eq hdec]
  exact digs_rdN _ _ rfl h3
theorem pz_dec {u : ByteArray} (h : (pz u).2 = 0) : u = decS (pz u).1 := by
  unfold pz at h ⊢
  by_cases q : showsB (nums u) = true
  · rw [if_pos q]; exact (dec_of q).symm
  · rw [if_neg q] at h; simp at h
theorem decS_inj {x y : Nat} (h : decS x = decS y) : x = y := by
  rw [← dec_back x, ← dec_back y, h]
theorem minus_split {t : ByteArray} (h : minus? t = true) : t = ⟨#[45]⟩ ++ behind t := by
  unfold behind
  rw [if_pos h]
  unfold minus? at h
  split at h
  · rename_i h0
    obtain ⟨⟨l⟩⟩ := t
    cases l with
    | nil => simp [ByteArray.size] at h0
    | cons c l =>
      have hc : c = 45 := by
        have h' : ((c.toNat : Int) == 45) = true := h
        have h2 : (c.toNat : Int) = 45 := by simpa using h'
        exact UInt8.toNat_inj.1 (by show c.toNat = 45; omega)
      subst hc
      apply ByteArray.ext
      simp [ByteArray.data_extract, ByteArray.size]
  · simp at h
/-- A whole number's text is its own. -/
theorem whole_dec {t : ByteArray} {z : Int} (h : zOf (minus? t) (pz (behind t)).1 (pz (behind t)).2 = (z, 0)) : t = decZ z := by
  unfold zOf at h
  by_cases hE : (pz (behind t)).2 = 0
  · have hb := pz_dec hE
    rw [if_neg (by omega)] at h
    generalize (pz (behind t)).1 = N at h hb
    rcases hm : minus? t with _ | _
    · rw [hm, if_neg (by simp)] at h
      simp only [sgz, Prod.mk.injEq, and_true] at h
      have hbt : behind t = t := by unfold behind; rw [hm]; rfl
      rw [hbt] at hb
      unfold decZ
      rw [if_neg (by simp at h; omega), show z.natAbs = N by simp at h; omega]
      exact hb
    · rw [hm] at h
      by_cases hN : N = 0
      · rw [if_pos ⟨rfl, hN⟩] at h; simp at h
      · rw [if_neg (fun q => hN q.2)] at h
        simp only [sgz, Prod.mk.injEq, and_true, if_true] at h
        unfold decZ
        rw [if_pos (by omega), show z.natAbs = N by omega, ← hb]
        exact minus_split hm
  · rw [if_pos hE] at h
    simp only [Prod.mk.injEq] at h
    exact absurd h.2 hE
theorem decZ_inj {x y : Int} (h : decZ x = decZ y) : x = y := by
  have h1 := minus_dec x
  have h2 := minus_dec y
  rw [h] at h1
  have e1 : decide (x < 0) = decide (y < 0) := by rw [← h1.1, ← h2.1]
  have e2 : x.natAbs = y.natAbs := decS_inj (by rw [← h1.2, ← h2.2])
  have e3 : x < 0 ↔ y < 0 := by simpa using e1
  omega
theorem split_one {l1 l2 r1 r2 : List UInt8} (h : l1 ++ 47 :: l2 = r1 ++ 47 :: r2) (n1 : 47 ∉ l1) (n2 : 47 ∉ r1) : l1 = r1 ∧ l2 = r2 := by
  have a1 := idx_at l1 l2 n1
  have a2 := idx_at r1 r2 n2
  rw [h, a2] at a1
  have hl : l1.length = r1.length := by omega
  have := List.append_inj h hl
  exact ⟨this.1, by simpa using this.2⟩
/-- Where a text that is cut is a fraction's, its parts are the fraction's. -/
theorem text_parts {z N : Int} {D E : Nat} (h : qText N E = (decZ z ++ ⟨#[47]⟩) ++ decS D) : N = z ∧ E = D := by
  unfold qText at h
  have hr : ((decZ z ++ ⟨#[47]⟩) ++ decS D).data.toList = (decZ z).data.toList ++ 47 :: (decS D).data.toList := by simp [ByteArray.data_append]
  split at h
  · exfalso
    have h2 := congrArg (fun b : ByteArray => b.data.toList) h
    rw [hr] at h2
    refine no_slash N ?_
    rw [h2]
    simp
  · have h2 := congrArg (fun b : ByteArray => b.data.toList) h
    rw [hr] at h2
    have hl : ((decZ N ++ ⟨#[47]⟩) ++ decS E).data.toList = (decZ N).data.toList ++ 47 :: (decS E).data.toList := by simp [ByteArray.data_append]
    rw [hl] at h2
    obtain ⟨q1, q2⟩ := split_one h2 (no_slash N) (no_slash z)
    exact ⟨decZ_inj (ByteArray.ext (Array.toList_inj.1 q1)), decS_inj (ByteArray.ext (Array.toList_inj.1 q2))⟩
theorem slash_split (u : ByteArray) : (47 : UInt8) ∉ u.data.toList ∨ ∃ t1 t2 : ByteArray, u = (t1 ++ ⟨#[47]⟩) ++ t2 ∧ (47 : UInt8) ∉ t1.data.toList := by
  by_cases h : (47 : UInt8) ∈ u.data.toList
  · right
    obtain ⟨l1, l2, e, hn⟩ := List.eq_append_cons_of_mem h
    refine ⟨⟨⟨l1⟩⟩, ⟨⟨l2⟩⟩, ?_, hn⟩
    apply ByteArray.ext
    apply Array.toList_inj.1
    rw [e]
    simp [ByteArray.data_append]
  · exact Or.inl h
theorem zOf_lt (b : Bool) {N : Nat} (E : Int) {K : Nat} (h : N < 4294967296 ^ K) : (zOf b N E).1.natAbs < 4294967296 ^ K := by
  unfold zOf
  split
  · exact Nat.pow_pos (by decide)
  · split
    · exact Nat.pow_pos (by decide)
    · show (sgz b N).natAbs < _
      rw [sgz_abs]; exact h
end Go.Proofs.YtaekgomplkkocabGreatDoor

namespace Go.Proofs.YtaekgomplkkocabGreatDoor
open Go.RowKit
set_option linter.unusedVariables false

/-- A text that is cut. -/
def CutAt (s t1 t2 : ByteArray) (f : Bool) : Prop := ∀ w, Calls Tryz.prog 11 #[.string s, .string ⟨#[47]⟩] w fun e w' => e = .returned (.tuple #[.string t1, .string t2, .bool f]) ∧ Below w.heap.size w w'
def WReads (t : ByteArray) (z E : Int) : Prop := ∀ w, Calls Tryz.prog 12 #[.string t] w (GotZ w z E)
def NReads (t : ByteArray) (N : Nat) (E : Int) : Prop := ∀ w, Calls Tryz.prog 15 #[.string t] w (GotP w N E)
theorem cutAt_no {s : ByteArray} (h : (47 : UInt8) ∉ s.data.toList) : CutAt s s ⟨#[]⟩ false := fun w => (cutNo s w (idx_none _ h)).mono fun e w' h => ⟨h.1, by rw [h.2]; exact Below.refl _ _⟩
theorem cutAt_yes {t1 t2 : ByteArray} (h : (47 : UInt8) ∉ t1.data.toList) (hz : ((t1 ++ ⟨#[47]⟩) ++ t2).size ≤ 9223372036854775807) : CutAt ((t1 ++ ⟨#[47]⟩) ++ t2) t1 t2 true := fun w => cutYes _ t1 t2 w rfl (by
  have e : ((t1 ++ ⟨#[47]⟩) ++ t2).data.toList = t1.data.toList ++ 47 :: t2.data.toList := by simp [ByteArray.data_append]
  rw [e]
  exact idx_at _ _ h) hz
set_option maxRecDepth 100000 in
set_option maxHeartbeats 1000000 in
theorem qpErr1 (s t1 t2 : ByteArray) (z E : Int) (N : Nat) (w : World) (f : Bool) (hc : CutAt s t1 t2 f) (hw : WReads t1 z E) (h0 : E ≠ 0) : Calls Tryz.prog 4 #[.string s] w (GotMk w 0 1 E) := by
  have HC_ : Hid _ := hc
  clear hc
  have HW_ : Hid _ := hw
  clear hw
  obtain ⟨W, hW, bW, x_z, sW⟩ := bs_3 w (.bool false) (.slice none 0 0) (.slice none 0 0) 27
  have zbW := bW.size
  have BB := bW
  go_enter Tryz.func4, Tryz.ntmps4
  go_wp2_with (go_at_call 11; fail)
  rw [← hW]
  clear hW
  refine (HC_.out W).mono ?_
  rintro e w0 ⟨rfl, bw0⟩
  have zbw0 := bw0.size
  replace BB := also BB bw0
  replace x_z := x_z.on bw0
  go_wp2_with (go_at_call 12; fail)
  refine (HW_.out w0).mono ?_
  rintro e w1 ⟨n1, a1, l1, c1, rfl, h1, f1, bw1⟩
  have zbw1 := bw1.size
  replace BB := also BB bw1
  replace x_z := x_z.on bw1
  obtain ⟨V1, hV1, bV1, x_r, sV1⟩ := bs_2 w1 (.bool n1) (.slice a1 l1 c1) 25
  have zbV1 := bV1.size
  replace BB := also BB bV1
  replace x_z := x_z.on bV1
  replace h1 := h1.below bV1
  go_wp2_with (go_at_call 13; fail)
  rw [← hV1]
  clear hV1
  refine (qOf 0 V1 (by decide) (by decide)).mono ?_
  rintro e w3 ⟨n3, a3, l3, c3, d3, m3, k3, rfl, h3, f3, g3, bw3⟩
  have zbw3 := bw3.size
  replace BB := also BB bw3
  replace x_z := x_z.on bw3
  replace h1 := h1.below bw3
  replace x_r := x_r.on bw3
  have ⟨x_z_0, x_z_1, x_z_2, x_z_3, x_z_4, x_z_5⟩ := x_z
  go_wp2
  exact bodyPost_ret (v := .tuple #[.agg #[.bool n3, .slice a3 l3 c3, .slice d3 m3 k3], .int .i64 E]) (by simp [results, Tryz.results4, go_sem, *]) rfl (endMk _ (by omega) BB h3 (f3.mono (by omega)) (g3.mono (by omega)) _ _ _)
set_option maxRecDepth 100000 in
set_option maxHeartbeats 1000000 in
theorem qpNo (s t1 t2 : ByteArray) (z E : Int) (N : Nat) (w : World) (hc : CutAt s t1 t2 false) (hw : WReads t1 z 0) : Calls Tryz.prog 4 #[.string s] w (GotMk w z 1 0) := by
  have HC_ : Hid _ := hc
  clear hc
  have HW_ : Hid _ := hw
  clear hw
  obtain ⟨W, hW, bW, x_z, sW⟩ := bs_3 w (.bool false) (.slice none 0 0) (.slice none 0 0) 27
  have zbW := bW.size
  have BB := bW
  go_enter Tryz.func4, Tryz.ntmps4
  go_wp2_with (go_at_call 11; fail)
  rw [← hW]
  clear hW
  refine (HC_.out W).mono ?_
  rintro e w0 ⟨rfl, bw0⟩
  have zbw0 := bw0.size
  replace BB := also BB bw0
  replace x_z := x_z.on bw0
  go_wp2_with (go_at_call 12; fail)
  refine (HW_.out w0).mono ?_
  rintro e w1 ⟨n1, a1, l1, c1, rfl, h1, f1, bw1⟩
  have zbw1 := bw1.size
  replace BB := also BB bw1
  replace x_z := x_z.on bw1
  obtain ⟨V1, hV1, bV1, x_r, sV1⟩ := bs_2 w1 (.bool n1) (.slice a1 l1 c1) 25
  have zbV1 := bV1.size
  replace BB := also BB bV1
  replace x_z := x_z.on bV1
  replace h1 := h1.below bV1
  go_wp2
  rw [← hV1]
  clear hV1
  have dd1 : Below V1.heap.size V1 V1.drew := (Below.refl _ _).drew
  have zdd1 := dd1.size
  replace BB := also BB dd1
  replace x_z := x_z.on dd1
  replace h1 := h1.below dd1
  replace x_r := x_r.on dd1
  refine wp_region_held_drew (S := (fun w' => w'.cell? ⟨w1.heap.size, 0, none⟩ = some (.bool n1) ∧ w'.cell? ⟨w1.heap.size, 1, none⟩ = some (.slice a1 l1 c1) ∧ Below w.heap.size w w')) (by kernel_rfl) ?_ (fun hHeld => ?_)
  · first | exact ⟨x_r.c0, x_r.c1, BB⟩ | exact ⟨cell_on bw2 hHeld.1, cell_on bw2 hHeld.2.1, also hHeld.2.2 bw2⟩ | exact ⟨cell_put3 hHeld.1 (by omega) _ _ _, cell_put3 hHeld.2.1 (by omega) _ _ _, below_put3 hHeld.2.2 (by omega) _ _ _⟩
  refine take_yes (i := 0) (v := ?vp0) rfl (by kernel_rfl) (by kernel_rfl) (by kernel_rfl) (fun _ _ _ h => h) (by rfl) (by assumption) ?hyp0 ?restp0
  case hyp0 => (intro w hSw; (try dsimp only at hSw); first | (go_simp; done) | (go_simp; with_reducible rfl))
  simp only [Act.put, List.setIfInBounds_toArray, List.set_cons_zero, List.set_cons_succ]
  refine take_call (i := 1) rfl (by kernel_rfl) (fun Kc hK => ?_)
  go_simp
  (go_at_call 14; refine (fOf 1 (by decide) rfl _).mono ?_; rintro e w2 ⟨a2, l2, c2, rfl, h2, f2, bw2⟩)
  refine hK.out _ _ ?_ (fun hHeld => ?_)
  · first | exact ⟨x_r.c0, x_r.c1, BB⟩ | exact ⟨cell_on bw2 hHeld.1, cell_on bw2 hHeld.2.1, also hHeld.2.2 bw2⟩ | exact ⟨cell_put3 hHeld.1 (by omega) _ _ _, cell_put3 hHeld.2.1 (by omega) _ _ _, below_put3 hHeld.2.2 (by omega) _ _ _⟩
  clear hK Kc
  have zbw2 := bw2.size
  replace BB := also BB bw2
  replace x_z := x_z.on bw2
  replace h1 := h1.below bw2
  replace x_r := x_r.on bw2
  refine take_yes (i := 2) (v := ?vp2) rfl (by kernel_rfl) (by kernel_rfl) (by kernel_rfl) (fun _ _ _ h => h) (by rfl) (by assumption) ?hyp2 ?restp2
  case hyp2 => (intro w hSw; (try dsimp only at hSw); first | (go_simp; done) | (go_simp; with_reducible rfl))
  simp only [Act.put, List.setIfInBounds_toArray, List.set_cons_zero, List.set_cons_succ]
  have ⟨x_z_0, x_z_1, x_z_2, x_z_3, x_z_4, x_z_5⟩ := x_z
  refine take_call (i := 3) rfl (by kernel_rfl) (fun Kc hK => ?_)
  go_simp
  refine hK.out _ _ ?_ (fun hHeld => ?_)
  · first | exact ⟨x_r.c0, x_r.c1, BB⟩ | exact ⟨cell_on bw2 hHeld.1, cell_on bw2 hHeld.2.1, also hHeld.2.2 bw2⟩ | exact ⟨cell_put3 hHeld.1 (by omega) _ _ _, cell_put3 hHeld.2.1 (by omega) _ _ _, below_put3 hHeld.2.2 (by omega) _ _ _⟩
  clear hK Kc
  refine take_yes (i := 4) (v := ?vp4) rfl (by kernel_rfl) (by kernel_rfl) (by kernel_rfl) (fun _ _ _ h => h) (by rfl) (by assumption) ?hyp4 ?restp4
  case hyp4 => (intro w hSw; (try dsimp only at hSw); first | (go_simp; done) | (go_simp; with_reducible rfl))
  simp only [Act.put, List.setIfInBounds_toArray, List.set_cons_zero, List.set_cons_succ]
  refine wpAnyH_done (by kernel_rfl) ?_ _
  go_wp2
  exact bodyPost_ret (v := .tuple #[.agg #[.bool n1, .slice a1 l1 c1, .slice a2 l2 c2], .int .i64 0]) (by simp [results, Tryz.results4, go_sem, *]) rfl (endMk _ (by omega) BB ⟨h1, h2⟩ (f1.mono (by omega)) (f2.mono (by omega)) _ _ _)
set_option maxRecDepth 100000 in
set_option maxHeartbeats 1000000 in
theorem qpErr2 (s t1 t2 : ByteArray) (z E : Int) (N : Nat) (w : World) (hc : CutAt s t1 t2 true) (hw : WReads t1 z 0) (hn : NReads t2 N E) (h0 : E ≠ 0) : Calls Tryz.prog 4 #[.string s] w (GotMk w 0 1 E) := by
  have HC_ : Hid _ := hc
  clear hc
  have HW_ : Hid _ := hw
  clear hw
  have HN_ : Hid _ := hn
  clear hn
  obtain ⟨W, hW, bW, x_z, sW⟩ := bs_3 w (.bool false) (.slice none 0 0) (.slice none 0 0) 27
  have zbW := bW.size
  have BB := bW
  go_enter Tryz.func4, Tryz.ntmps4
  go_wp2_with (go_at_call 11; fail)
  rw [← hW]
  clear hW
  refine (HC_.out W).mono ?_
  rintro e w0 ⟨rfl, bw0⟩
  have zbw0 := bw0.size
  replace BB := also BB bw0
  replace x_z := x_z.on bw0
  go_wp2_with (go_at_call 12; fail)
  refine (HW_.out w0).mono ?_
  rintro e w1 ⟨n1, a1, l1, c1, rfl, h1, f1, bw1⟩
  have zbw1 := bw1.size
  replace BB := also BB bw1
  replace x_z := x_z.on bw1
  obtain ⟨V1, hV1, bV1, x_r, sV1⟩ := bs_2 w1 (.bool n1) (.slice a1 l1 c1) 25
  have zbV1 := bV1.size
  replace BB := also BB bV1
  replace x_z := x_z.on bV1
  replace h1 := h1.below bV1
  go_wp2_with (go_at_call 15; fail)
  rw [← hV1]
  clear hV1
  refine (HN_.out V1).mono ?_
  rintro e w2 ⟨d2, m2, k2, rfl, h2, f2, bw2⟩
  have zbw2 := bw2.size
  replace BB := also BB bw2
  replace x_z := x_z.on bw2
  replace h1 := h1.below bw2
  replace x_r := x_r.on bw2
  have ⟨x_r_0, x_r_1, x_r_2, x_r_3⟩ := x_r
  go_wp2_with (go_at_call 13; fail)
  refine (qOf 0 w2 (by decide) (by decide)).mono ?_
  rintro e w3 ⟨n3, a3, l3, c3, d3, m3, k3, rfl, h3, f3, g3, bw3⟩
  clear x_r_0 x_r_1 x_r_2 x_r_3
  have zbw3 := bw3.size
  replace BB := also BB bw3
  replace x_z := x_z.on bw3
  replace h1 := h1.below bw3
  replace x_r := x_r.on bw3
  replace h2 := h2.below bw3
  have ⟨x_z_0, x_z_1, x_z_2, x_z_3, x_z_4, x_z_5⟩ := x_z
  go_wp2
  exact bodyPost_ret (v := .tuple #[.agg #[.bool n3, .slice a3 l3 c3, .slice d3 m3 k3], .int .i64 E]) (by simp [results, Tryz.results4, go_sem, *]) rfl (endMk _ (by omega) BB h3 (f3.mono (by omega)) (g3.mono (by omega)) _ _ _)
set_option maxRecDepth 100000 in
set_option maxHeartbeats 1000000 in
theorem qpForm (s t1 t2 : ByteArray) (z E : Int) (N : Nat) (w : World) (hc : CutAt s t1 t2 true) (hw : WReads t1 z 0) (hn : NReads t2 N 0) (hz : z.natAbs < 4294967296 ^ 21) (hN : N < 4294967296 ^ 21) (hq : qText (lowN (pN z N) (pD N)) (lowD (pN z N) (pD N)) ≠ s) : Calls Tryz.prog 4 #[.string s] w (GotMk w 0 1 4) := by
  have HC_ : Hid _ := hc
  clear hc
  have HW_ : Hid _ := hw
  clear hw
  have HN__ : Hid _ := hn
  clear hn
  have HZ_ : Hid _ := hz
  clear hz
  have HNN : Hid _ := hN
  clear hN
  obtain ⟨s', hs'⟩ : ∃ s', s' = qText (lowN (pN z N) (pD N)) (lowD (pN z N) (pD N)) := ⟨_, rfl⟩
  rw [← hs'] at hq
  have HS : Hid _ := hs'
  have hq1 : ¬ s'.toList = s.toList := fun e => hq (ByteArray.ext (Array.toList_inj.1 (by rw [← Lib.toList_data, ← Lib.toList_data]; exact e)))
  have hq2 : (s'.toList == s.toList) = false := by simpa using hq1
  clear hs'
  obtain ⟨W, hW, bW, x_z, sW⟩ := bs_3 w (.bool false) (.slice none 0 0) (.slice none 0 0) 27
  have zbW := bW.size
  have BB := bW
  go_enter Tryz.func4, Tryz.ntmps4
  go_wp2_with (go_at_call 11; fail)
  rw [← hW]
  clear hW
  refine (HC_.out W).mono ?_
  rintro e w0 ⟨rfl, bw0⟩
  have zbw0 := bw0.size
  replace BB := also BB bw0
  replace x_z := x_z.on bw0
  go_wp2_with (go_at_call 12; fail)
  refine (HW_.out w0).mono ?_
  rintro e w1 ⟨n1, a1, l1, c1, rfl, h1, f1, bw1⟩
  have zbw1 := bw1.size
  replace BB := also BB bw1
  replace x_z := x_z.on bw1
  obtain ⟨V1, hV1, bV1, x_r, sV1⟩ := bs_2 w1 (.bool n1) (.slice a1 l1 c1) 25
  have zbV1 := bV1.size
  replace BB := also BB bV1
  replace x_z := x_z.on bV1
  replace h1 := h1.below bV1
  go_wp2_with (go_at_call 15; fail)
  rw [← hV1]
  clear hV1
  refine (HN__.out V1).mono ?_
  rintro e w2 ⟨d2, m2, k2, rfl, h2, f2, bw2⟩
  have zbw2 := bw2.size
  replace BB := also BB bw2
  replace x_z := x_z.on bw2
  replace h1 := h1.below bw2
  replace x_r := x_r.on bw2
  have ⟨x_r_0, x_r_1, x_r_2, x_r_3⟩ := x_r
  have hq2 : QN w2 n1 a1 l1 c1 d2 m2 k2 z N := ⟨h1, h2⟩
  clear h1 h2
  obtain ⟨V2, hV2, bV2, x_a, sV2⟩ := bs_3 w2 (.bool n1) (.slice a1 l1 c1) (.slice d2 m2 k2) 27
  have zbV2 := bV2.size
  replace BB := also BB bV2
  replace x_z := x_z.on bV2
  replace x_r := x_r.on bV2
  replace hq2 := hq2.below bV2
  go_wp2_with (go_at_call 16; fail)
  rw [← hV2]
  clear hV2
  refine (qShow n1 a1 l1 c1 d2 m2 k2 z N 21 V2 (hq2.qi 21 (by decide) (by decide) HZ_.out HNN.out) HS.out).mono ?_
  rintro e w3 ⟨rfl, bw3⟩
  have zbw3 := bw3.size
  replace BB := also BB bw3
  replace x_z := x_z.on bw3
  replace x_r := x_r.on bw3
  replace hq2 := hq2.below bw3
  replace x_a := x_a.on bw3
  go_wp2_with (go_at_call 13; fail)
  refine (qOf 0 w3 (by decide) (by decide)).mono ?_
  rintro e w4 ⟨n3, a3, l3, c3, d3, m3, k3, rfl, h3, f3, g3, bw4⟩
  have zbw4 := bw4.size
  replace BB := also BB bw4
  replace x_z := x_z.on bw4
  replace x_r := x_r.on bw4
  replace hq2 := hq2.below bw4
  replace x_a := x_a.on bw4
  have ⟨x_z_0, x_z_1, x_z_2, x_z_3, x_z_4, x_z_5⟩ := x_z
  go_wp2
  exact bodyPost_ret (v := .tuple #[.agg #[.bool n3, .slice a3 l3 c3, .slice d3 m3 k3], .int .i64 4]) (by simp [results, Tryz.results4, go_sem, *]) rfl (endMk _ (by omega) BB h3 (f3.mono (by omega)) (g3.mono (by omega)) _ _ _)
set_option maxRecDepth 100000 in
set_option maxHeartbeats 1000000 in
theorem qpYes (s t1 t2 : ByteArray) (z E : Int) (N : Nat) (w : World) (hc : CutAt s t1 t2 true) (hw : WReads t1 z 0) (hn : NReads t2 N 0) (hz : z.natAbs < 4294967296 ^ 21) (hN : N < 4294967296 ^ 21) (hq : qText (lowN (pN z N) (pD N)) (lowD (pN z N) (pD N)) = s) : Calls Tryz.prog 4 #[.string s] w (GotMk w z N 0) := by
  have HC_ : Hid _ := hc
  clear hc
  have HW_ : Hid _ := hw
  clear hw
  have HN__ : Hid _ := hn
  clear hn
  have HZ_ : Hid _ := hz
  clear hz
  have HNN : Hid _ := hN
  clear hN
  have HS : Hid _ := hq.symm
  clear hq
  obtain ⟨W, hW, bW, x_z, sW⟩ := bs_3 w (.bool false) (.slice none 0 0) (.slice none 0 0) 27
  have zbW := bW.size
  have BB := bW
  go_enter Tryz.func4, Tryz.ntmps4
  go_wp2_with (go_at_call 11; fail)
  rw [← hW]
  clear hW
  refine (HC_.out W).mono ?_
  rintro e w0 ⟨rfl, bw0⟩
  have zbw0 := bw0.size
  replace BB := also BB bw0
  replace x_z := x_z.on bw0
  go_wp2_with (go_at_call 12; fail)
  refine (HW_.out w0).mono ?_
  rintro e w1 ⟨n1, a1, l1, c1, rfl, h1, f1, bw1⟩
  have zbw1 := bw1.size
  replace BB := also BB bw1
  replace x_z := x_z.on bw1
  obtain ⟨V1, hV1, bV1, x_r, sV1⟩ := bs_2 w1 (.bool n1) (.slice a1 l1 c1) 25
  have zbV1 := bV1.size
  replace BB := also BB bV1
  replace x_z := x_z.on bV1
  replace h1 := h1.below bV1
  go_wp2_with (go_at_call 15; fail)
  rw [← hV1]
  clear hV1
  refine (HN__.out V1).mono ?_
  rintro e w2 ⟨d2, m2, k2, rfl, h2, f2, bw2⟩
  have zbw2 := bw2.size
  replace BB := also BB bw2
  replace x_z := x_z.on bw2
  replace h1 := h1.below bw2
  replace x_r := x_r.on bw2
  have ⟨x_r_0, x_r_1, x_r_2, x_r_3⟩ := x_r
  have hq2 : QN w2 n1 a1 l1 c1 d2 m2 k2 z N := ⟨h1, h2⟩
  clear h1 h2
  obtain ⟨V2, hV2, bV2, x_a, sV2⟩ := bs_3 w2 (.bool n1) (.slice a1 l1 c1) (.slice d2 m2 k2) 27
  have zbV2 := bV2.size
  replace BB := also BB bV2
  replace x_z := x_z.on bV2
  replace x_r := x_r.on bV2
  replace hq2 := hq2.below bV2
  go_wp2_with (go_at_call 16; fail)
  rw [← hV2]
  clear hV2
  refine (qShow n1 a1 l1 c1 d2 m2 k2 z N 21 V2 (hq2.qi 21 (by decide) (by decide) HZ_.out HNN.out) HS.out).mono ?_
  rintro e w3 ⟨rfl, bw3⟩
  have zbw3 := bw3.size
  replace BB := also BB bw3
  replace x_z := x_z.on bw3
  replace x_r := x_r.on bw3
  replace hq2 := hq2.below bw3
  replace x_a := x_a.on bw3
  have ⟨x_a_0, x_a_1, x_a_2, x_a_3, x_a_4, x_a_5⟩ := x_a
  have ⟨x_z_0, x_z_1, x_z_2, x_z_3, x_z_4, x_z_5⟩ := x_z
  go_wp2
  exact bodyPost_ret (v := .tuple #[.agg #[.bool n1, .slice a1 l1 c1, .slice d2 m2 k2], .int .i64 0]) (by simp [results, Tryz.results4, go_sem, *]) rfl (endMk _ (by omega) BB hq2 (f1.mono (by omega)) (f2.mono (by omega)) _ _ _)
end Go.Proofs.YtaekgomplkkocabGreatDoor

namespace Go.Proofs.YtaekgomplkkocabGreatDoor
open Go.RowKit
set_option linter.unusedVariables false

/-- A whole number and an error, as the reference reads them. -/
def GotW1 (w : World) (z E : Int) (e : Ending) (w' : World) : Prop := ∃ (s : Int) (d : Option Addr) (l c : Nat), e = .returned (.tuple #[.agg #[.int .i64 s, .slice d l c], .int .i64 E]) ∧ RN w' s d l c z ∧ Below w.heap.size w w'
theorem endW1 {w w2 : World} {s : Int} {d : Option Addr} {l c : Nat} {z E : Int} (b : Nat) (hb : w.heap.size ≤ b) (B : Below w.heap.size w w2) (h : RN w2 s d l c z) (hn : NA b d l) (u v : Value) :
    GotW1 w z E (.returned (.tuple #[.agg #[.int .i64 s, .slice d l c], .int .i64 E])) ((w2.setCell ⟨b, 0, none⟩ u).setCell ⟨b, 1, none⟩ v) := ⟨s, d, l, c, rfl, h.put2 hn u v, below_put2 B hb u v⟩
set_option maxRecDepth 100000 in
set_option maxHeartbeats 4000000 in
theorem whole1_any (t t' : ByteArray) (b : Bool) (N : Nat) (E : Int) (w : World) (hs : t.size ≤ 200) (hb : b = minus? t) (ht : t' = behind t) (hp : ∀ w, Calls Tryz.prog 6 #[.string t'] w (GotHPF w N E)) :
    Calls Tryz.prog 5 #[.string t] w (GotW1 w (zOf b N E).1 (zOf b N E).2) := by
  have HP : Hid _ := hp
  have hc1 : ∀ h0 : 0 < t.size, minus? t = ((t[0].toNat : Int) == 45) := fun h0 => by unfold minus?; rw [dif_pos h0]
  have hc0 : t.size = 0 → minus? t = false := fun h0 => by unfold minus?; rw [dif_neg (by omega)]
  have hbt : minus? t = true → behind t = t.extract 1 t.size := fun h => by unfold behind; rw [h]; rfl
  have hbf : minus? t = false → behind t = t := fun h => by unfold behind; rw [h]; rfl
  clear hp
  rcases Nat.eq_zero_or_pos t.size with h0 | h0
  · have hm := hc0 h0
    obtain rfl : b = false := by rw [hb, hm]
    obtain rfl : t' = t := by rw [ht, hbf hm]
    have h0' : ¬ (0 : Int) < t'.size := by omega
    clear hc1 hc0 hbt hbf hb ht
    by_cases hE : E ≠ 0
    · skip
      have HZ : Hid (zOf false N E = (0, E)) := by unfold Hid zOf; rw [if_pos hE]
      rw [HZ.out]
      clear HZ
      dsimp only
      obtain ⟨W, hW, bW, x_z, sW⟩ := bs_2 w (.int .i64 0) (.slice none 0 0) 34
      have zbW := bW.size
      have BB := bW
      go_enter Tryz.func5, Tryz.ntmps5
      go_wp2_with (go_at_call 6; fail)
      rw [← hW]
      clear hW
      refine (HP.out W).mono ?_
      rintro e w1 ⟨d, l, c, rfl, h1, f1, bw1⟩
      have zbw1 := bw1.size
      replace BB := also BB bw1
      replace x_z := x_z.on bw1
      have ⟨x_z_0, x_z_1, x_z_2, x_z_3⟩ := x_z
      go_wp2
      exact bodyPost_ret (v := .tuple #[.agg #[.int .i64 0, .slice none 0 0], .int .i64 E]) (by simp [results, Tryz.results5, go_sem, *]) rfl (endW1 _ (by omega) BB (rn_zero _ 0) (Or.inl rfl) _ _)
    · obtain rfl : E = 0 := by omega
      by_cases hN : N = 0
      · skip
        have HZ : Hid (zOf false N 0 = (0, 0)) := by unfold Hid zOf; rw [if_neg (by simp), if_neg (by simp), hN]; rfl
        rw [HZ.out]
        clear HZ
        dsimp only
        subst hN
        obtain ⟨W, hW, bW, x_z, sW⟩ := bs_2 w (.int .i64 0) (.slice none 0 0) 34
        have zbW := bW.size
        have BB := bW
        go_enter Tryz.func5, Tryz.ntmps5
        go_wp2_with (go_at_call 6; fail)
        rw [← hW]
        clear hW
        refine (HP.out W).mono ?_
        rintro e w1 ⟨d, l, c, rfl, h1, f1, bw1⟩
        have zbw1 := bw1.size
        replace BB := also BB bw1
        replace x_z := x_z.on bw1
        obtain rfl : l = 0 := h1.pos.2 rfl
        have ⟨x_z_0, x_z_1, x_z_2, x_z_3⟩ := x_z
        go_wp2
        exact bodyPost_ret (v := .tuple #[.agg #[.int .i64 0, .slice none 0 0], .int .i64 0]) (by simp [results, Tryz.results5, go_sem, *]) rfl (endW1 _ (by omega) BB (rn_zero _ 0) (Or.inl rfl) _ _)
      · skip
        have HZ : Hid (zOf false N 0 = (sgz false N, 0)) := by unfold Hid zOf; rw [if_neg (by simp), if_neg (fun q => hN q.2)]
        rw [HZ.out]
        clear HZ
        dsimp only
        obtain ⟨W, hW, bW, x_z, sW⟩ := bs_2 w (.int .i64 0) (.slice none 0 0) 34
        have zbW := bW.size
        have BB := bW
        go_enter Tryz.func5, Tryz.ntmps5
        go_wp2_with (go_at_call 6; fail)
        rw [← hW]
        clear hW
        refine (HP.out W).mono ?_
        rintro e w1 ⟨d, l, c, rfl, h1, f1, bw1⟩
        have zbw1 := bw1.size
        replace BB := also BB bw1
        replace x_z := x_z.on bw1
        have hl : ¬ (l : Int) = 0 := by have := h1.pos; omega
        have hl2 : ¬ l = 0 := by have := h1.pos; omega
        have ⟨x_z_0, x_z_1, x_z_2, x_z_3⟩ := x_z
        go_wp2
        have hr : RN w1 (1) d l c (sgz false N) := ⟨by rw [sgz_abs]; exact h1, (sign_pos (by simp [sgz]; omega)).symm⟩
        exact bodyPost_ret (v := .tuple #[.agg #[.int .i64 (1), .slice d l c], .int .i64 0]) (by simp [results, Tryz.results5, go_sem, *]) rfl (endW1 _ (by omega) BB hr (f1 _ (by omega)) _ _)
  · have hm := hc1 h0
    have h0' : (0 : Int) < t.size := by omega
    rcases hq : ((t[0].toNat : Int) == 45) with _ | _
    · rw [hq] at hm
      obtain rfl : b = false := by rw [hb, hm]
      obtain rfl : t' = t := by rw [ht, hbf hm]
      have hq2 : ¬ (t'[0].toNat : Int) = 45 := by simpa using hq
      clear hc1 hc0 hbt hbf hb ht hm
      by_cases hE : E ≠ 0
      · skip
        have HZ : Hid (zOf false N E = (0, E)) := by unfold Hid zOf; rw [if_pos hE]
        rw [HZ.out]
        clear HZ
        dsimp only
        obtain ⟨W, hW, bW, x_z, sW⟩ := bs_2 w (.int .i64 0) (.slice none 0 0) 34
        have zbW := bW.size
        have BB := bW
        go_enter Tryz.func5, Tryz.ntmps5
        go_wp2_with (go_at_call 6; fail)
        rw [← hW]
        clear hW
        refine (HP.out W).mono ?_
        rintro e w1 ⟨d, l, c, rfl, h1, f1, bw1⟩
        have zbw1 := bw1.size
        replace BB := also BB bw1
        replace x_z := x_z.on bw1
        have ⟨x_z_0, x_z_1, x_z_2, x_z_3⟩ := x_z
        go_wp2
        exact bodyPost_ret (v := .tuple #[.agg #[.int .i64 0, .slice none 0 0], .int .i64 E]) (by simp [results, Tryz.results5, go_sem, *]) rfl (endW1 _ (by omega) BB (rn_zero _ 0) (Or.inl rfl) _ _)
      · obtain rfl : E = 0 := by omega
        by_cases hN : N = 0
        · skip
          have HZ : Hid (zOf false N 0 = (0, 0)) := by unfold Hid zOf; rw [if_neg (by simp), if_neg (by simp), hN]; rfl
          rw [HZ.out]
          clear HZ
          dsimp only
          subst hN
          obtain ⟨W, hW, bW, x_z, sW⟩ := bs_2 w (.int .i64 0) (.slice none 0 0) 34
          have zbW := bW.size
          have BB := bW
          go_enter Tryz.func5, Tryz.ntmps5
          go_wp2_with (go_at_call 6; fail)
          rw [← hW]
          clear hW
          refine (HP.out W).mono ?_
          rintro e w1 ⟨d, l, c, rfl, h1, f1, bw1⟩
          have zbw1 := bw1.size
          replace BB := also BB bw1
          replace x_z := x_z.on bw1
          obtain rfl : l = 0 := h1.pos.2 rfl
          have ⟨x_z_0, x_z_1, x_z_2, x_z_3⟩ := x_z
          go_wp2
          exact bodyPost_ret (v := .tuple #[.agg #[.int .i64 0, .slice none 0 0], .int .i64 0]) (by simp [results, Tryz.results5, go_sem, *]) rfl (endW1 _ (by omega) BB (rn_zero _ 0) (Or.inl rfl) _ _)
        · skip
          have HZ : Hid (zOf false N 0 = (sgz false N, 0)) := by unfold Hid zOf; rw [if_neg (by simp), if_neg (fun q => hN q.2)]
          rw [HZ.out]
          clear HZ
          dsimp only
          obtain ⟨W, hW, bW, x_z, sW⟩ := bs_2 w (.int .i64 0) (.slice none 0 0) 34
          have zbW := bW.size
          have BB := bW
          go_enter Tryz.func5, Tryz.ntmps5
          go_wp2_with (go_at_call 6; fail)
          rw [← hW]
          clear hW
          refine (HP.out W).mono ?_
          rintro e w1 ⟨d, l, c, rfl, h1, f1, bw1⟩
          have zbw1 := bw1.size
          replace BB := also BB bw1
          replace x_z := x_z.on bw1
          have hl : ¬ (l : Int) = 0 := by have := h1.pos; omega
          have hl2 : ¬ l = 0 := by have := h1.pos; omega
          have ⟨x_z_0, x_z_1, x_z_2, x_z_3⟩ := x_z
          go_wp2
          have hr : RN w1 (1) d l c (sgz false N) := ⟨by rw [sgz_abs]; exact h1, (sign_pos (by simp [sgz]; omega)).symm⟩
          exact bodyPost_ret (v := .tuple #[.agg #[.int .i64 (1), .slice d l c], .int .i64 0]) (by simp [results, Tryz.results5, go_sem, *]) rfl (endW1 _ (by omega) BB hr (f1 _ (by omega)) _ _)
    · rw [hq] at hm
      obtain rfl : b = true := by rw [hb, hm]
      have HT : Hid (t' = t.extract 1 t.size) := by unfold Hid; rw [ht, hbt hm]
      have hq2 : (t[0].toNat : Int) = 45 := by simpa using hq
      have h1' : (1 : Int) ≤ t.size := by omega
      clear hc1 hc0 hbt hbf hb ht hm
      by_cases hE : E ≠ 0
      · skip
        have HZ : Hid (zOf true N E = (0, E)) := by unfold Hid zOf; rw [if_pos hE]
        rw [HZ.out]
        clear HZ
        dsimp only
        obtain ⟨W, hW, bW, x_z, sW⟩ := bs_2 w (.int .i64 0) (.slice none 0 0) 34
        have zbW := bW.size
        have BB := bW
        go_enter Tryz.func5, Tryz.ntmps5
        go_wp2_with (go_at_call 6; fail)
        rw [← hW]
        clear hW
        rw [← HT.out]
        refine (HP.out W).mono ?_
        rintro e w1 ⟨d, l, c, rfl, h1, f1, bw1⟩
        have zbw1 := bw1.size
        replace BB := also BB bw1
        replace x_z := x_z.on bw1
        have ⟨x_z_0, x_z_1, x_z_2, x_z_3⟩ := x_z
        go_wp2
        exact bodyPost_ret (v := .tuple #[.agg #[.int .i64 0, .slice none 0 0], .int .i64 E]) (by simp [results, Tryz.results5, go_sem, *]) rfl (endW1 _ (by omega) BB (rn_zero _ 0) (Or.inl rfl) _ _)
      · obtain rfl : E = 0 := by omega
        by_cases hN : N = 0
        · skip
          have HZ : Hid (zOf true N 0 = (0, 4)) := by unfold Hid zOf; rw [if_neg (by simp), if_pos ⟨rfl, hN⟩]
          rw [HZ.out]
          clear HZ
          dsimp only
          subst hN
          obtain ⟨W, hW, bW, x_z, sW⟩ := bs_2 w (.int .i64 0) (.slice none 0 0) 34
          have zbW := bW.size
          have BB := bW
          go_enter Tryz.func5, Tryz.ntmps5
          go_wp2_with (go_at_call 6; fail)
          rw [← hW]
          clear hW
          rw [← HT.out]
          refine (HP.out W).mono ?_
          rintro e w1 ⟨d, l, c, rfl, h1, f1, bw1⟩
          have zbw1 := bw1.size
          replace BB := also BB bw1
          replace x_z := x_z.on bw1
          obtain rfl : l = 0 := h1.pos.2 rfl
          have ⟨x_z_0, x_z_1, x_z_2, x_z_3⟩ := x_z
          go_wp2
          exact bodyPost_ret (v := .tuple #[.agg #[.int .i64 0, .slice none 0 0], .int .i64 4]) (by simp [results, Tryz.results5, go_sem, *]) rfl (endW1 _ (by omega) BB (rn_zero _ 0) (Or.inl rfl) _ _)
        · skip
          have HZ : Hid (zOf true N 0 = (sgz true N, 0)) := by unfold Hid zOf; rw [if_neg (by simp), if_neg (fun q => hN q.2)]
          rw [HZ.out]
          clear HZ
          dsimp only
          obtain ⟨W, hW, bW, x_z, sW⟩ := bs_2 w (.int .i64 0) (.slice none 0 0) 34
          have zbW := bW.size
          have BB := bW
          go_enter Tryz.func5, Tryz.ntmps5
          go_wp2_with (go_at_call 6; fail)
          rw [← hW]
          clear hW
          rw [← HT.out]
          refine (HP.out W).mono ?_
          rintro e w1 ⟨d, l, c, rfl, h1, f1, bw1⟩
          have zbw1 := bw1.size
          replace BB := also BB bw1
          replace x_z := x_z.on bw1
          have hl : ¬ (l : Int) = 0 := by have := h1.pos; omega
          have hl2 : ¬ l = 0 := by have := h1.pos; omega
          have ⟨x_z_0, x_z_1, x_z_2, x_z_3⟩ := x_z
          go_wp2
          have hr : RN w1 (-1) d l c (sgz true N) := ⟨by rw [sgz_abs]; exact h1, (sign_neg (by simp [sgz]; omega)).symm⟩
          exact bodyPost_ret (v := .tuple #[.agg #[.int .i64 (-1), .slice d l c], .int .i64 0]) (by simp [results, Tryz.results5, go_sem, *]) rfl (endW1 _ (by omega) BB hr (f1 _ (by omega)) _ _)
end Go.Proofs.YtaekgomplkkocabGreatDoor

namespace Go.Proofs.YtaekgomplkkocabGreatDoor
open Go.RowKit
set_option linter.unusedVariables false

namespace prsc
theorem low_by_one (x : Int) : x = lowN x 1 ∧ 1 = lowD x 1 := by
  unfold lowN lowD
  rw [Nat.gcd_one_right, Nat.div_one, Nat.div_one]
  exact ⟨(Int.sign_mul_natAbs x).symm, rfl⟩
theorem hd_one (w : World) : HD (w.alloc (.cells #[.int .i64 1] 3)) (some ⟨w.heap.size, 0, none⟩) 1 1 1 := by
  have e : hf.dcells 1 ((1 : Nat) : Int) = [.int .i64 1] := by simp [hf.dcells, hf.dg]
  refine ⟨?_, (hf.nlen_eq ⟨by decide, Or.inr (by decide)⟩).symm⟩
  rw [e]
  exact new_one w 1 3
set_option maxRecDepth 100000 in
set_option maxHeartbeats 10000000 in
theorem cAn (s : ByteArray) (u t1 t2 : ByteArray) (T : Nat) (z Ez : Int) (w : World) (hpa : ∀ w, Calls Tryz.prog 4 #[.string u] w (GotMk w 0 1 Ez)) (hw1 : ∀ w, Calls Tryz.prog 5 #[.string u] w (GotW1 w z Ez)) (hl : 200 < s.size) (hu : u = s.extract 0 200) (hne : ∀ k (hk : k < u.size), k < T → ¬ (u[k].toNat : Int) = 47) (hT : T = u.size) (hsz : u.size ≤ 200) (hE : Ez ≠ 0) :
    Calls Tryz.prog 3 #[.string s] w fun e w' => e = .returned (.bool true) ∧ Below w.heap.size w w' := by
  have HPA : Hid _ := hpa
  clear hpa
  have HW1 : Hid _ := hw1
  clear hw1
  have HNE : Hid _ := hne
  clear hne
  have HU : Hid _ := hu
  clear hu
  have hl' : (200 : Int) < (s.size : Int) := by omega
  have hl2 : (200 : Int) ≤ (s.size : Int) := by omega
  have BB := Below.refl w.heap.size w
  go_enter Tryz.func3, Tryz.ntmps3
  go_wp2_with (go_at_call 4; fail)
  rw [← HU.out]
  refine (HPA.out w).mono ?_
  rintro e w1 ⟨n1, a1, l1, c1, d1, m1, k1, rfl, h1, f1, g1, bw1⟩
  have zbw1 := bw1.size
  replace BB := also BB bw1
  obtain ⟨V1, hV1, bV1, x_a, sV1⟩ := bs_3 w1 (.bool n1) (.slice a1 l1 c1) (.slice d1 m1 k1) 27
  have zbV1 := bV1.size
  replace BB := also BB bV1
  replace h1 := h1.below bV1
  go_wp2
  rw [← hV1]
  clear hV1
  go_loopw [5] (fun i wr => ∃ k : Nat, k ≤ T ∧ i = .int .i64 (k : Int) ∧ V1 = wr) (fun i _ => T - (intOf i).toNat)
  case atStart => exact ⟨0, Nat.zero_le _, rfl, rfl⟩
  case round =>
    obtain ⟨k, hk, rfl, hwr⟩ := hrel
    subst hwr
    rcases Nat.lt_or_eq_of_le hk with hlt | hkT
    · have hk2 : k < u.size := by omega
      have hc := HNE.out k hk2 hlt
      have hcb : ((u[k].toNat : Int) == 47) = false := by simpa using hc
      have i1 : (k : Int) < u.size := by omega
      have i0 : (0 : Int) ≤ k := by omega
      go_wp2
      go_roundw
      case rel => exact ⟨k + 1, hlt, by simp, by first | rfl | trivial⟩
      case measure => simp [intOf]; omega
    · subst hkT
      have i1 : ¬ (k : Int) < u.size := by omega
      have i0 : (0 : Int) ≤ k := by omega
      have i2 : (k : Int) ≤ u.size := by omega
      go_wp2_with (go_at_call 5; fail)
      refine (HW1.out V1).mono ?_
      rintro e w2 ⟨s2, d2, l2, c2, rfl, r2, bw2⟩
      have zbw2 := bw2.size
      replace BB := also BB bw2
      replace h1 := h1.below bw2
      replace x_a := x_a.on bw2
      obtain ⟨Vn, hVn, bVn, x_n, sVn⟩ := bs_2 w2 (.int .i64 s2) (.slice d2 l2 c2) 34
      have zbVn := bVn.size
      replace BB := also BB bVn
      replace h1 := h1.below bVn
      replace x_a := x_a.on bVn
      replace r2 := r2.below bVn
      obtain ⟨Vd, hVd⟩ : ∃ Vd, Vd = Vn.alloc (.cells #[.int .i64 1] 3) := ⟨_, rfl⟩
      have bVd : Below Vn.heap.size Vn Vd := by rw [hVd]; exact (Below.refl _ _).alloc (Nat.le_refl _) _
      have hd1 : HD Vd (some ⟨w2.heap.size + 1, 0, none⟩) 1 1 1 := by rw [hVd, show w2.heap.size + 1 = Vn.heap.size by rw [hVn]; simp]; exact hd_one Vn
      have zbVd := bVd.size
      replace BB := also BB bVd
      replace h1 := h1.below bVd
      replace x_a := x_a.on bVd
      replace r2 := r2.below bVd
      replace x_n := x_n.on bVd
      go_wp2_with (go_at_call 7; fail)
      rw [← hVn, ← hVd]
      clear hVn hVd
      refine (rqLong 0 Vd (by decide) (by decide)).mono ?_
      rintro e w4 ⟨s4, d4, l4, c4, t4, g4, h4, k4, rfl, x4, r4, bw4⟩
      have zbw4 := bw4.size
      replace BB := also BB bw4
      replace h1 := h1.below bw4
      replace x_a := x_a.on bw4
      replace r2 := r2.below bw4
      replace x_n := x_n.on bw4
      replace hd1 := hd1.below bw4
      obtain ⟨Vr, hVr, bVr, x_r, sVr⟩ := bs_4 w4 (.int .i64 s4) (.slice d4 l4 c4) (.int .i64 t4) (.slice g4 h4 k4) 40
      have zbVr := bVr.size
      replace BB := also BB bVr
      replace h1 := h1.below bVr
      replace x_a := x_a.on bVr
      replace r2 := r2.below bVr
      replace x_n := x_n.on bVr
      replace hd1 := hd1.below bVr
      replace x4 := x4.below bVr
      go_wp2
      rw [← hVr]
      clear hVr
      have dd1 : Below Vr.heap.size Vr Vr.drew := (Below.refl _ _).drew
      have zdd1 := dd1.size
      replace BB := also BB dd1
      replace h1 := h1.below dd1
      replace x_a := x_a.on dd1
      replace r2 := r2.below dd1
      replace x_n := x_n.on dd1
      replace hd1 := hd1.below dd1
      replace x4 := x4.below dd1
      replace x_r := x_r.on dd1
      refine wp_region_held_drew (S := (fun w' => w'.cell? ⟨w1.heap.size, 0, none⟩ = some (.bool n1) ∧ w'.cell? ⟨w1.heap.size, 1, none⟩ = some (.slice a1 l1 c1) ∧ w'.cell? ⟨w1.heap.size, 2, none⟩ = some (.slice d1 m1 k1) ∧ Below w.heap.size w w')) (by kernel_rfl) ?_ (fun hHeld => ?_)
      · first | exact ⟨x_a.c0, x_a.c1, x_a.c2, BB⟩ | exact ⟨cell_on bw8 hHeld.1, cell_on bw8 hHeld.2.1, cell_on bw8 hHeld.2.2.1, also hHeld.2.2.2 bw8⟩ | exact ⟨cell_on bw7 hHeld.1, cell_on bw7 hHeld.2.1, cell_on bw7 hHeld.2.2.1, also hHeld.2.2.2 bw7⟩ | exact ⟨cell_on bw6 hHeld.1, cell_on bw6 hHeld.2.1, cell_on bw6 hHeld.2.2.1, also hHeld.2.2.2 bw6⟩
      refine take_yes (i := 0) (v := ?vv0) rfl (by kernel_rfl) (by kernel_rfl) (by kernel_rfl) (fun _ _ _ h => h) (by rfl) (by assumption) ?hyv0 ?restv0
      case hyv0 => (intro w hSw; (try dsimp only at hSw); first | (go_simp; done) | (go_simp; with_reducible rfl))
      simp only [Act.put, List.setIfInBounds_toArray, List.set_cons_zero, List.set_cons_succ]
      refine take_call (i := 1) rfl (by kernel_rfl) (fun Kc hK => ?_)
      go_simp
      (go_at_call 7; refine (rqLong 0 _ (by decide) (by decide)).mono ?_; rintro e w6 ⟨s6, d6, l6, c6, t6, g6, h6, k6, rfl, x6, r6, bw6⟩)
      refine hK.out _ _ ?_ (fun hHeld => ?_)
      · first | exact ⟨x_a.c0, x_a.c1, x_a.c2, BB⟩ | exact ⟨cell_on bw8 hHeld.1, cell_on bw8 hHeld.2.1, cell_on bw8 hHeld.2.2.1, also hHeld.2.2.2 bw8⟩ | exact ⟨cell_on bw7 hHeld.1, cell_on bw7 hHeld.2.1, cell_on bw7 hHeld.2.2.1, also hHeld.2.2.2 bw7⟩ | exact ⟨cell_on bw6 hHeld.1, cell_on bw6 hHeld.2.1, cell_on bw6 hHeld.2.2.1, also hHeld.2.2.2 bw6⟩
      clear hK Kc
      have zbw6 := bw6.size
      replace BB := also BB bw6
      replace h1 := h1.below bw6
      replace x_a := x_a.on bw6
      replace r2 := r2.below bw6
      replace x_n := x_n.on bw6
      replace hd1 := hd1.below bw6
      replace x4 := x4.below bw6
      replace x_r := x_r.on bw6
      refine take_call (i := 2) rfl (by kernel_rfl) (fun Kc hK => ?_)
      go_simp
      (go_at_call 9; refine (rqSame n1 a1 l1 c1 d1 m1 k1 0 1 s6 d6 l6 c6 t6 g6 h6 k6 0 1 2 _ h1 x6 rfl rfl).mono ?_; rintro e w7 ⟨rfl, bw7⟩)
      refine hK.out _ _ ?_ (fun hHeld => ?_)
      · first | exact ⟨x_a.c0, x_a.c1, x_a.c2, BB⟩ | exact ⟨cell_on bw8 hHeld.1, cell_on bw8 hHeld.2.1, cell_on bw8 hHeld.2.2.1, also hHeld.2.2.2 bw8⟩ | exact ⟨cell_on bw7 hHeld.1, cell_on bw7 hHeld.2.1, cell_on bw7 hHeld.2.2.1, also hHeld.2.2.2 bw7⟩ | exact ⟨cell_on bw6 hHeld.1, cell_on bw6 hHeld.2.1, cell_on bw6 hHeld.2.2.1, also hHeld.2.2.2 bw6⟩
      clear hK Kc
      have zbw7 := bw7.size
      replace BB := also BB bw7
      replace h1 := h1.below bw7
      replace x_a := x_a.on bw7
      replace r2 := r2.below bw7
      replace x_n := x_n.on bw7
      replace hd1 := hd1.below bw7
      replace x4 := x4.below bw7
      replace x_r := x_r.on bw7
      replace x6 := x6.below bw7
      refine take_yes (i := 3) (v := ?vv3) rfl (by kernel_rfl) (by kernel_rfl) (by kernel_rfl) (fun _ _ _ h => h) (by rfl) (by assumption) ?hyv3 ?restv3
      case hyv3 => (intro w hSw; (try dsimp only at hSw); first | (go_simp; done) | (go_simp; with_reducible rfl))
      simp only [Act.put, List.setIfInBounds_toArray, List.set_cons_zero, List.set_cons_succ]
      refine take_yes (i := 4) (v := ?vv4) rfl (by kernel_rfl) (by kernel_rfl) (by kernel_rfl) (fun _ _ _ h => h) (by rfl) (by assumption) ?hyv4 ?restv4
      case hyv4 => (intro w hSw; (try dsimp only at hSw); first | (go_simp; done) | (go_simp; with_reducible rfl))
      simp only [Act.put, List.setIfInBounds_toArray, List.set_cons_zero, List.set_cons_succ]
      refine take_yes (i := 5) (v := ?vv5) rfl (by kernel_rfl) (by kernel_rfl) (by kernel_rfl) (fun _ _ _ h => h) (by rfl) (by assumption) ?hyv5 ?restv5
      case hyv5 => (intro w hSw; (try dsimp only at hSw); first | (go_simp; done) | (go_simp; with_reducible rfl))
      simp only [Act.put, List.setIfInBounds_toArray, List.set_cons_zero, List.set_cons_succ]
      refine take_yes (i := 6) (v := ?vv6) rfl (by kernel_rfl) (by kernel_rfl) (by kernel_rfl) (fun _ _ _ h => h) (by rfl) (by assumption) ?hyv6 ?restv6
      case hyv6 => (intro w hSw; (try dsimp only at hSw); first | (go_simp; done) | (go_simp; with_reducible rfl))
      simp only [Act.put, List.setIfInBounds_toArray, List.set_cons_zero, List.set_cons_succ]
      refine take_yes (i := 7) (v := ?vv7) rfl (by kernel_rfl) (by kernel_rfl) (by kernel_rfl) (fun _ _ _ h => h) (by rfl) (by assumption) ?hyv7 ?restv7
      case hyv7 => (intro w hSw; (try dsimp only at hSw); first | (go_simp; done) | (go_simp; with_reducible rfl))
      simp only [Act.put, List.setIfInBounds_toArray, List.set_cons_zero, List.set_cons_succ]
      refine take_yes (i := 8) (v := ?vv8) rfl (by kernel_rfl) (by kernel_rfl) (by kernel_rfl) (fun _ _ _ h => h) (by rfl) (by assumption) ?hyv8 ?restv8
      case hyv8 => (intro w hSw; (try dsimp only at hSw); first | (go_simp; done) | (go_simp; with_reducible rfl))
      simp only [Act.put, List.setIfInBounds_toArray, List.set_cons_zero, List.set_cons_succ]
      refine take_call (i := 9) rfl (by kernel_rfl) (fun Kc hK => ?_)
      go_simp
      (go_at_call 10; refine (lives5_any _).mono ?_; rintro e w8 ⟨rfl, bw8⟩)
      refine hK.out _ _ ?_ (fun hHeld => ?_)
      · first | exact ⟨x_a.c0, x_a.c1, x_a.c2, BB⟩ | exact ⟨cell_on bw8 hHeld.1, cell_on bw8 hHeld.2.1, cell_on bw8 hHeld.2.2.1, also hHeld.2.2.2 bw8⟩ | exact ⟨cell_on bw7 hHeld.1, cell_on bw7 hHeld.2.1, cell_on bw7 hHeld.2.2.1, also hHeld.2.2.2 bw7⟩ | exact ⟨cell_on bw6 hHeld.1, cell_on bw6 hHeld.2.1, cell_on bw6 hHeld.2.2.1, also hHeld.2.2.2 bw6⟩
      clear hK Kc
      have zbw8 := bw8.size
      replace BB := also BB bw8
      replace h1 := h1.below bw8
      replace x_a := x_a.on bw8
      replace r2 := r2.below bw8
      replace x_n := x_n.on bw8
      replace hd1 := hd1.below bw8
      replace x4 := x4.below bw8
      replace x_r := x_r.on bw8
      replace x6 := x6.below bw8
      refine take_yes (i := 10) (v := ?vv10) rfl (by kernel_rfl) (by kernel_rfl) (by kernel_rfl) (fun _ _ _ h => h) (by rfl) (by assumption) ?hyv10 ?restv10
      case hyv10 => (intro w hSw; (try dsimp only at hSw); first | (go_simp; done) | (go_simp; with_reducible rfl))
      simp only [Act.put, List.setIfInBounds_toArray, List.set_cons_zero, List.set_cons_succ]
      refine take_yes (i := 11) (v := ?vv11) rfl (by kernel_rfl) (by kernel_rfl) (by kernel_rfl) (fun _ _ _ h => h) (by rfl) (by assumption) ?hyv11 ?restv11
      case hyv11 => (intro w hSw; (try dsimp only at hSw); first | (go_simp; done) | (go_simp; with_reducible rfl))
      simp only [Act.put, List.setIfInBounds_toArray, List.set_cons_zero, List.set_cons_succ]
      refine wpAnyH_done (by kernel_rfl) ?_ _
      go_wp2
      go_ret
      exact ⟨rfl, BB⟩
set_option maxRecDepth 100000 in
set_option maxHeartbeats 10000000 in
theorem cAy (s : ByteArray) (u t1 t2 : ByteArray) (T : Nat) (z Ez : Int) (w : World) (hpa : ∀ w, Calls Tryz.prog 4 #[.string u] w (GotMk w 0 1 Ez)) (hw1 : ∀ w, Calls Tryz.prog 5 #[.string t1] w (GotW1 w z Ez)) (hl : 200 < s.size) (hu : u = s.extract 0 200) (he1 : u.extract 0 T = t1) (hne : ∀ k (hk : k < u.size), k < T → ¬ (u[k].toNat : Int) = 47) (he2 : u.extract (T + 1) u.size = t2) (hT : T < u.size) (hch : ∀ hk : T < u.size, (u[T].toNat : Int) = 47) (hsz : u.size ≤ 200) (hE : Ez ≠ 0) :
    Calls Tryz.prog 3 #[.string s] w fun e w' => e = .returned (.bool true) ∧ Below w.heap.size w w' := by
  have HPA : Hid _ := hpa
  clear hpa
  have HW1 : Hid _ := hw1
  clear hw1
  have HNE : Hid _ := hne
  clear hne
  have HE1 : Hid _ := he1
  clear he1
  have HE2 : Hid _ := he2
  clear he2
  have HCH : Hid _ := hch
  clear hch
  have HU : Hid _ := hu
  clear hu
  have hl' : (200 : Int) < (s.size : Int) := by omega
  have hl2 : (200 : Int) ≤ (s.size : Int) := by omega
  have BB := Below.refl w.heap.size w
  go_enter Tryz.func3, Tryz.ntmps3
  go_wp2_with (go_at_call 4; fail)
  rw [← HU.out]
  refine (HPA.out w).mono ?_
  rintro e w1 ⟨n1, a1, l1, c1, d1, m1, k1, rfl, h1, f1, g1, bw1⟩
  have zbw1 := bw1.size
  replace BB := also BB bw1
  obtain ⟨V1, hV1, bV1, x_a, sV1⟩ := bs_3 w1 (.bool n1) (.slice a1 l1 c1) (.slice d1 m1 k1) 27
  have zbV1 := bV1.size
  replace BB := also BB bV1
  replace h1 := h1.below bV1
  go_wp2
  rw [← hV1]
  clear hV1
  go_loopw [5] (fun i wr => ∃ k : Nat, k ≤ T ∧ i = .int .i64 (k : Int) ∧ V1 = wr) (fun i _ => T - (intOf i).toNat)
  case atStart => exact ⟨0, Nat.zero_le _, rfl, rfl⟩
  case round =>
    obtain ⟨k, hk, rfl, hwr⟩ := hrel
    subst hwr
    rcases Nat.lt_or_eq_of_le hk with hlt | hkT
    · have hk2 : k < u.size := by omega
      have hc := HNE.out k hk2 hlt
      have hcb : ((u[k].toNat : Int) == 47) = false := by simpa using hc
      have i1 : (k : Int) < u.size := by omega
      have i0 : (0 : Int) ≤ k := by omega
      go_wp2
      go_roundw
      case rel => exact ⟨k + 1, hlt, by simp, by first | rfl | trivial⟩
      case measure => simp [intOf]; omega
    · subst hkT
      have hcx := HCH.out hT
      have hcb : ((u[k].toNat : Int) == 47) = true := by simpa using hcx
      have i1 : (k : Int) < u.size := by omega
      have i3 : (k : Int) + 1 ≤ u.size := by omega
      have i4 : wrap64 ((k : Int) + 1) = (k : Int) + 1 := by unfold wrap64; omega
      have i0 : (0 : Int) ≤ k := by omega
      have i2 : (k : Int) ≤ u.size := by omega
      go_wp2_with (go_at_call 5; fail)
      rw [HE1.out]
      refine (HW1.out V1).mono ?_
      rintro e w2 ⟨s2, d2, l2, c2, rfl, r2, bw2⟩
      have zbw2 := bw2.size
      replace BB := also BB bw2
      replace h1 := h1.below bw2
      replace x_a := x_a.on bw2
      obtain ⟨Vn, hVn, bVn, x_n, sVn⟩ := bs_2 w2 (.int .i64 s2) (.slice d2 l2 c2) 34
      have zbVn := bVn.size
      replace BB := also BB bVn
      replace h1 := h1.below bVn
      replace x_a := x_a.on bVn
      replace r2 := r2.below bVn
      obtain ⟨Vd, hVd⟩ : ∃ Vd, Vd = Vn.alloc (.cells #[.int .i64 1] 3) := ⟨_, rfl⟩
      have bVd : Below Vn.heap.size Vn Vd := by rw [hVd]; exact (Below.refl _ _).alloc (Nat.le_refl _) _
      have hd1 : HD Vd (some ⟨w2.heap.size + 1, 0, none⟩) 1 1 1 := by rw [hVd, show w2.heap.size + 1 = Vn.heap.size by rw [hVn]; simp]; exact hd_one Vn
      have zbVd := bVd.size
      replace BB := also BB bVd
      replace h1 := h1.below bVd
      replace x_a := x_a.on bVd
      replace r2 := r2.below bVd
      replace x_n := x_n.on bVd
      go_wp2_with (go_at_call 7; fail)
      rw [← hVn, ← hVd]
      clear hVn hVd
      refine (rqLong 0 Vd (by decide) (by decide)).mono ?_
      rintro e w4 ⟨s4, d4, l4, c4, t4, g4, h4, k4, rfl, x4, r4, bw4⟩
      have zbw4 := bw4.size
      replace BB := also BB bw4
      replace h1 := h1.below bw4
      replace x_a := x_a.on bw4
      replace r2 := r2.below bw4
      replace x_n := x_n.on bw4
      replace hd1 := hd1.below bw4
      obtain ⟨Vr, hVr, bVr, x_r, sVr⟩ := bs_4 w4 (.int .i64 s4) (.slice d4 l4 c4) (.int .i64 t4) (.slice g4 h4 k4) 40
      have zbVr := bVr.size
      replace BB := also BB bVr
      replace h1 := h1.below bVr
      replace x_a := x_a.on bVr
      replace r2 := r2.below bVr
      replace x_n := x_n.on bVr
      replace hd1 := hd1.below bVr
      replace x4 := x4.below bVr
      go_wp2
      rw [← hVr]
      clear hVr
      have dd1 : Below Vr.heap.size Vr Vr.drew := (Below.refl _ _).drew
      have zdd1 := dd1.size
      replace BB := also BB dd1
      replace h1 := h1.below dd1
      replace x_a := x_a.on dd1
      replace r2 := r2.below dd1
      replace x_n := x_n.on dd1
      replace hd1 := hd1.below dd1
      replace x4 := x4.below dd1
      replace x_r := x_r.on dd1
      refine wp_region_held_drew (S := (fun w' => w'.cell? ⟨w1.heap.size, 0, none⟩ = some (.bool n1) ∧ w'.cell? ⟨w1.heap.size, 1, none⟩ = some (.slice a1 l1 c1) ∧ w'.cell? ⟨w1.heap.size, 2, none⟩ = some (.slice d1 m1 k1) ∧ Below w.heap.size w w')) (by kernel_rfl) ?_ (fun hHeld => ?_)
      · first | exact ⟨x_a.c0, x_a.c1, x_a.c2, BB⟩ | exact ⟨cell_on bw8 hHeld.1, cell_on bw8 hHeld.2.1, cell_on bw8 hHeld.2.2.1, also hHeld.2.2.2 bw8⟩ | exact ⟨cell_on bw7 hHeld.1, cell_on bw7 hHeld.2.1, cell_on bw7 hHeld.2.2.1, also hHeld.2.2.2 bw7⟩ | exact ⟨cell_on bw6 hHeld.1, cell_on bw6 hHeld.2.1, cell_on bw6 hHeld.2.2.1, also hHeld.2.2.2 bw6⟩
      refine take_yes (i := 0) (v := ?vv0) rfl (by kernel_rfl) (by kernel_rfl) (by kernel_rfl) (fun _ _ _ h => h) (by rfl) (by assumption) ?hyv0 ?restv0
      case hyv0 => (intro w hSw; (try dsimp only at hSw); first | (go_simp; done) | (go_simp; with_reducible rfl))
      simp only [Act.put, List.setIfInBounds_toArray, List.set_cons_zero, List.set_cons_succ]
      refine take_call (i := 1) rfl (by kernel_rfl) (fun Kc hK => ?_)
      go_simp
      (go_at_call 7; refine (rqLong 0 _ (by decide) (by decide)).mono ?_; rintro e w6 ⟨s6, d6, l6, c6, t6, g6, h6, k6, rfl, x6, r6, bw6⟩)
      refine hK.out _ _ ?_ (fun hHeld => ?_)
      · first | exact ⟨x_a.c0, x_a.c1, x_a.c2, BB⟩ | exact ⟨cell_on bw8 hHeld.1, cell_on bw8 hHeld.2.1, cell_on bw8 hHeld.2.2.1, also hHeld.2.2.2 bw8⟩ | exact ⟨cell_on bw7 hHeld.1, cell_on bw7 hHeld.2.1, cell_on bw7 hHeld.2.2.1, also hHeld.2.2.2 bw7⟩ | exact ⟨cell_on bw6 hHeld.1, cell_on bw6 hHeld.2.1, cell_on bw6 hHeld.2.2.1, also hHeld.2.2.2 bw6⟩
      clear hK Kc
      have zbw6 := bw6.size
      replace BB := also BB bw6
      replace h1 := h1.below bw6
      replace x_a := x_a.on bw6
      replace r2 := r2.below bw6
      replace x_n := x_n.on bw6
      replace hd1 := hd1.below bw6
      replace x4 := x4.below bw6
      replace x_r := x_r.on bw6
      refine take_call (i := 2) rfl (by kernel_rfl) (fun Kc hK => ?_)
      go_simp
      (go_at_call 9; refine (rqSame n1 a1 l1 c1 d1 m1 k1 0 1 s6 d6 l6 c6 t6 g6 h6 k6 0 1 2 _ h1 x6 rfl rfl).mono ?_; rintro e w7 ⟨rfl, bw7⟩)
      refine hK.out _ _ ?_ (fun hHeld => ?_)
      · first | exact ⟨x_a.c0, x_a.c1, x_a.c2, BB⟩ | exact ⟨cell_on bw8 hHeld.1, cell_on bw8 hHeld.2.1, cell_on bw8 hHeld.2.2.1, also hHeld.2.2.2 bw8⟩ | exact ⟨cell_on bw7 hHeld.1, cell_on bw7 hHeld.2.1, cell_on bw7 hHeld.2.2.1, also hHeld.2.2.2 bw7⟩ | exact ⟨cell_on bw6 hHeld.1, cell_on bw6 hHeld.2.1, cell_on bw6 hHeld.2.2.1, also hHeld.2.2.2 bw6⟩
      clear hK Kc
      have zbw7 := bw7.size
      replace BB := also BB bw7
      replace h1 := h1.below bw7
      replace x_a := x_a.on bw7
      replace r2 := r2.below bw7
      replace x_n := x_n.on bw7
      replace hd1 := hd1.below bw7
      replace x4 := x4.below bw7
      replace x_r := x_r.on bw7
      replace x6 := x6.below bw7
      refine take_yes (i := 3) (v := ?vv3) rfl (by kernel_rfl) (by kernel_rfl) (by kernel_rfl) (fun _ _ _ h => h) (by rfl) (by assumption) ?hyv3 ?restv3
      case hyv3 => (intro w hSw; (try dsimp only at hSw); first | (go_simp; done) | (go_simp; with_reducible rfl))
      simp only [Act.put, List.setIfInBounds_toArray, List.set_cons_zero, List.set_cons_succ]
      refine take_yes (i := 4) (v := ?vv4) rfl (by kernel_rfl) (by kernel_rfl) (by kernel_rfl) (fun _ _ _ h => h) (by rfl) (by assumption) ?hyv4 ?restv4
      case hyv4 => (intro w hSw; (try dsimp only at hSw); first | (go_simp; done) | (go_simp; with_reducible rfl))
      simp only [Act.put, List.setIfInBounds_toArray, List.set_cons_zero, List.set_cons_succ]
      refine take_yes (i := 5) (v := ?vv5) rfl (by kernel_rfl) (by kernel_rfl) (by kernel_rfl) (fun _ _ _ h => h) (by rfl) (by assumption) ?hyv5 ?restv5
      case hyv5 => (intro w hSw; (try dsimp only at hSw); first | (go_simp; done) | (go_simp; with_reducible rfl))
      simp only [Act.put, List.setIfInBounds_toArray, List.set_cons_zero, List.set_cons_succ]
      refine take_yes (i := 6) (v := ?vv6) rfl (by kernel_rfl) (by kernel_rfl) (by kernel_rfl) (fun _ _ _ h => h) (by rfl) (by assumption) ?hyv6 ?restv6
      case hyv6 => (intro w hSw; (try dsimp only at hSw); first | (go_simp; done) | (go_simp; with_reducible rfl))
      simp only [Act.put, List.setIfInBounds_toArray, List.set_cons_zero, List.set_cons_succ]
      refine take_yes (i := 7) (v := ?vv7) rfl (by kernel_rfl) (by kernel_rfl) (by kernel_rfl) (fun _ _ _ h => h) (by rfl) (by assumption) ?hyv7 ?restv7
      case hyv7 => (intro w hSw; (try dsimp only at hSw); first | (go_simp; done) | (go_simp; with_reducible rfl))
      simp only [Act.put, List.setIfInBounds_toArray, List.set_cons_zero, List.set_cons_succ]
      refine take_yes (i := 8) (v := ?vv8) rfl (by kernel_rfl) (by kernel_rfl) (by kernel_rfl) (fun _ _ _ h => h) (by rfl) (by assumption) ?hyv8 ?restv8
      case hyv8 => (intro w hSw; (try dsimp only at hSw); first | (go_simp; done) | (go_simp; with_reducible rfl))
      simp only [Act.put, List.setIfInBounds_toArray, List.set_cons_zero, List.set_cons_succ]
      refine take_call (i := 9) rfl (by kernel_rfl) (fun Kc hK => ?_)
      go_simp
      (go_at_call 10; refine (lives5_any _).mono ?_; rintro e w8 ⟨rfl, bw8⟩)
      refine hK.out _ _ ?_ (fun hHeld => ?_)
      · first | exact ⟨x_a.c0, x_a.c1, x_a.c2, BB⟩ | exact ⟨cell_on bw8 hHeld.1, cell_on bw8 hHeld.2.1, cell_on bw8 hHeld.2.2.1, also hHeld.2.2.2 bw8⟩ | exact ⟨cell_on bw7 hHeld.1, cell_on bw7 hHeld.2.1, cell_on bw7 hHeld.2.2.1, also hHeld.2.2.2 bw7⟩ | exact ⟨cell_on bw6 hHeld.1, cell_on bw6 hHeld.2.1, cell_on bw6 hHeld.2.2.1, also hHeld.2.2.2 bw6⟩
      clear hK Kc
      have zbw8 := bw8.size
      replace BB := also BB bw8
      replace h1 := h1.below bw8
      replace x_a := x_a.on bw8
      replace r2 := r2.below bw8
      replace x_n := x_n.on bw8
      replace hd1 := hd1.below bw8
      replace x4 := x4.below bw8
      replace x_r := x_r.on bw8
      replace x6 := x6.below bw8
      refine take_yes (i := 10) (v := ?vv10) rfl (by kernel_rfl) (by kernel_rfl) (by kernel_rfl) (fun _ _ _ h => h) (by rfl) (by assumption) ?hyv10 ?restv10
      case hyv10 => (intro w hSw; (try dsimp only at hSw); first | (go_simp; done) | (go_simp; with_reducible rfl))
      simp only [Act.put, List.setIfInBounds_toArray, List.set_cons_zero, List.set_cons_succ]
      refine take_yes (i := 11) (v := ?vv11) rfl (by kernel_rfl) (by kernel_rfl) (by kernel_rfl) (fun _ _ _ h => h) (by rfl) (by assumption) ?hyv11 ?restv11
      case hyv11 => (intro w hSw; (try dsimp only at hSw); first | (go_simp; done) | (go_simp; with_reducible rfl))
      simp only [Act.put, List.setIfInBounds_toArray, List.set_cons_zero, List.set_cons_succ]
      refine wpAnyH_done (by kernel_rfl) ?_ _
      go_wp2
      go_ret
      exact ⟨rfl, BB⟩
set_option maxRecDepth 100000 in
set_option maxHeartbeats 10000000 in
theorem cB (s : ByteArray) (u t1 t2 : ByteArray) (T : Nat) (z : Int) (w : World) (hpa : ∀ w, Calls Tryz.prog 4 #[.string u] w (GotMk w z 1 0)) (hw1 : ∀ w, Calls Tryz.prog 5 #[.string u] w (GotW1 w z 0)) (hl : 200 < s.size) (hu : u = s.extract 0 200) (hne : ∀ k (hk : k < u.size), k < T → ¬ (u[k].toNat : Int) = 47) (hT : T = u.size) (hsz : u.size ≤ 200) (hz : z.natAbs < 4294967296 ^ 21) (hS : u = qText (lowN z 1) (lowD z 1)) :
    Calls Tryz.prog 3 #[.string s] w fun e w' => e = .returned (.bool true) ∧ Below w.heap.size w w' := by
  have HPA : Hid _ := hpa
  clear hpa
  have HW1 : Hid _ := hw1
  clear hw1
  have HNE : Hid _ := hne
  clear hne
  have HU : Hid _ := hu
  clear hu
  have HZ : Hid _ := hz
  clear hz
  have HS : Hid _ := hS
  clear hS
  have hl' : (200 : Int) < (s.size : Int) := by omega
  have hl2 : (200 : Int) ≤ (s.size : Int) := by omega
  have BB := Below.refl w.heap.size w
  go_enter Tryz.func3, Tryz.ntmps3
  go_wp2_with (go_at_call 4; fail)
  rw [← HU.out]
  refine (HPA.out w).mono ?_
  rintro e w1 ⟨n1, a1, l1, c1, d1, m1, k1, rfl, h1, f1, g1, bw1⟩
  have zbw1 := bw1.size
  replace BB := also BB bw1
  obtain ⟨V1, hV1, bV1, x_a, sV1⟩ := bs_3 w1 (.bool n1) (.slice a1 l1 c1) (.slice d1 m1 k1) 27
  have zbV1 := bV1.size
  replace BB := also BB bV1
  replace h1 := h1.below bV1
  go_wp2
  rw [← hV1]
  clear hV1
  go_loopw [5] (fun i wr => ∃ k : Nat, k ≤ T ∧ i = .int .i64 (k : Int) ∧ V1 = wr) (fun i _ => T - (intOf i).toNat)
  case atStart => exact ⟨0, Nat.zero_le _, rfl, rfl⟩
  case round =>
    obtain ⟨k, hk, rfl, hwr⟩ := hrel
    subst hwr
    rcases Nat.lt_or_eq_of_le hk with hlt | hkT
    · have hk2 : k < u.size := by omega
      have hc := HNE.out k hk2 hlt
      have hcb : ((u[k].toNat : Int) == 47) = false := by simpa using hc
      have i1 : (k : Int) < u.size := by omega
      have i0 : (0 : Int) ≤ k := by omega
      go_wp2
      go_roundw
      case rel => exact ⟨k + 1, hlt, by simp, by first | rfl | trivial⟩
      case measure => simp [intOf]; omega
    · subst hkT
      have i1 : ¬ (k : Int) < u.size := by omega
      have i0 : (0 : Int) ≤ k := by omega
      have i2 : (k : Int) ≤ u.size := by omega
      go_wp2_with (go_at_call 5; fail)
      refine (HW1.out V1).mono ?_
      rintro e w2 ⟨s2, d2, l2, c2, rfl, r2, bw2⟩
      have zbw2 := bw2.size
      replace BB := also BB bw2
      replace h1 := h1.below bw2
      replace x_a := x_a.on bw2
      obtain ⟨Vn, hVn, bVn, x_n, sVn⟩ := bs_2 w2 (.int .i64 s2) (.slice d2 l2 c2) 34
      have zbVn := bVn.size
      replace BB := also BB bVn
      replace h1 := h1.below bVn
      replace x_a := x_a.on bVn
      replace r2 := r2.below bVn
      obtain ⟨Vd, hVd⟩ : ∃ Vd, Vd = Vn.alloc (.cells #[.int .i64 1] 3) := ⟨_, rfl⟩
      have bVd : Below Vn.heap.size Vn Vd := by rw [hVd]; exact (Below.refl _ _).alloc (Nat.le_refl _) _
      have hd1 : HD Vd (some ⟨w2.heap.size + 1, 0, none⟩) 1 1 1 := by rw [hVd, show w2.heap.size + 1 = Vn.heap.size by rw [hVn]; simp]; exact hd_one Vn
      have zbVd := bVd.size
      replace BB := also BB bVd
      replace h1 := h1.below bVd
      replace x_a := x_a.on bVd
      replace r2 := r2.below bVd
      replace x_n := x_n.on bVd
      go_wp2_with (go_at_call 7; fail)
      rw [← hVn, ← hVd]
      clear hVn hVd
      refine (rqLong 0 Vd (by decide) (by decide)).mono ?_
      rintro e w4 ⟨s4, d4, l4, c4, t4, g4, h4, k4, rfl, x4, r4, bw4⟩
      have zbw4 := bw4.size
      replace BB := also BB bw4
      replace h1 := h1.below bw4
      replace x_a := x_a.on bw4
      replace r2 := r2.below bw4
      replace x_n := x_n.on bw4
      replace hd1 := hd1.below bw4
      have hx5 : RQ w4 21 s2 d2 l2 c2 1 (some ⟨w2.heap.size + 1, 0, none⟩) 1 1 z 1 := ⟨r2, rn_nat hd1 (by decide), by decide, HZ.out, by decide +kernel, by decide⟩
      have bt : Below w4.heap.size w4 (w4.alloc (.cells #[.int .i64 s4, .slice d4 l4 c4, .int .i64 t4, .slice g4 h4 k4] 40)) := (Below.refl _ _).alloc (Nat.le_refl _) _
      have ⟨tn0, tn1, tn2, tn3⟩ := x_n.on bt
      obtain ⟨Vr, hVr, bVr, x_r, sVr⟩ := bs_4 w4 (.int .i64 s2) (.slice d2 l2 c2) (.int .i64 1) (.slice (some ⟨w2.heap.size + 1, 0, none⟩) 1 1) 40
      have zbVr := bVr.size
      replace BB := also BB bVr
      replace h1 := h1.below bVr
      replace x_a := x_a.on bVr
      replace r2 := r2.below bVr
      replace x_n := x_n.on bVr
      replace hd1 := hd1.below bVr
      replace x4 := x4.below bVr
      replace hx5 := hx5.below bVr
      go_wp2_with (go_at_call 8; fail)
      rw [← hVr]
      clear hVr
      refine (rqShow s2 d2 l2 c2 1 (some ⟨w2.heap.size + 1, 0, none⟩) 1 1 z 1 21 Vr hx5 HS.out).mono ?_
      rintro e w5 ⟨rfl, bw5⟩
      have zbw5 := bw5.size
      replace BB := also BB bw5
      replace h1 := h1.below bw5
      replace x_a := x_a.on bw5
      replace r2 := r2.below bw5
      replace x_n := x_n.on bw5
      replace hd1 := hd1.below bw5
      replace x4 := x4.below bw5
      replace hx5 := hx5.below bw5
      replace x_r := x_r.on bw5
      have ⟨x_a_0, x_a_1, x_a_2, x_a_3, x_a_4, x_a_5⟩ := x_a
      have ⟨x_r_0, x_r_1, x_r_2, x_r_3, x_r_4, x_r_5, x_r_6, x_r_7⟩ := x_r
      go_wp2_with (go_at_call 9; fail)
      refine (rqSame n1 a1 l1 c1 d1 m1 k1 z 1 s2 d2 l2 c2 1 (some ⟨w2.heap.size + 1, 0, none⟩) 1 1 z 1 21 w5 h1 hx5 (low_by_one z).1 (low_by_one z).2).mono ?_
      rintro e w6 ⟨rfl, bw6⟩
      clear x_a_0 x_a_1 x_a_2 x_a_3 x_a_4 x_a_5 x_r_0 x_r_1 x_r_2 x_r_3 x_r_4 x_r_5 x_r_6 x_r_7
      have zbw6 := bw6.size
      replace BB := also BB bw6
      replace h1 := h1.below bw6
      replace x_a := x_a.on bw6
      replace r2 := r2.below bw6
      replace x_n := x_n.on bw6
      replace hd1 := hd1.below bw6
      replace x4 := x4.below bw6
      replace hx5 := hx5.below bw6
      replace x_r := x_r.on bw6
      go_wp2_with (go_at_call 10; fail)
      refine (lives5_any w6).mono ?_
      rintro e w7 ⟨rfl, bw7⟩
      have zbw7 := bw7.size
      replace BB := also BB bw7
      replace h1 := h1.below bw7
      replace x_a := x_a.on bw7
      replace r2 := r2.below bw7
      replace x_n := x_n.on bw7
      replace hd1 := hd1.below bw7
      replace x4 := x4.below bw7
      replace hx5 := hx5.below bw7
      replace x_r := x_r.on bw7
      go_wp2
      go_ret
      exact ⟨rfl, BB⟩
set_option maxRecDepth 100000 in
set_option maxHeartbeats 10000000 in
theorem cC (s : ByteArray) (u t1 t2 : ByteArray) (T : Nat) (z E2 : Int) (N2 : Nat) (w : World) (hpa : ∀ w, Calls Tryz.prog 4 #[.string u] w (GotMk w 0 1 E2)) (hw1 : ∀ w, Calls Tryz.prog 5 #[.string t1] w (GotW1 w z 0)) (hl : 200 < s.size) (hu : u = s.extract 0 200) (he1 : u.extract 0 T = t1) (hne : ∀ k (hk : k < u.size), k < T → ¬ (u[k].toNat : Int) = 47) (he2 : u.extract (T + 1) u.size = t2) (hT : T < u.size) (hch : ∀ hk : T < u.size, (u[T].toNat : Int) = 47) (hsz : u.size ≤ 200) (hp2 : ∀ w, Calls Tryz.prog 6 #[.string t2] w (GotHPF w N2 E2)) (hE : E2 ≠ 0) :
    Calls Tryz.prog 3 #[.string s] w fun e w' => e = .returned (.bool true) ∧ Below w.heap.size w w' := by
  have HPA : Hid _ := hpa
  clear hpa
  have HW1 : Hid _ := hw1
  clear hw1
  have HNE : Hid _ := hne
  clear hne
  have HE1 : Hid _ := he1
  clear he1
  have HE2 : Hid _ := he2
  clear he2
  have HCH : Hid _ := hch
  clear hch
  have HU : Hid _ := hu
  clear hu
  have HP2 : Hid _ := hp2
  clear hp2
  have hl' : (200 : Int) < (s.size : Int) := by omega
  have hl2 : (200 : Int) ≤ (s.size : Int) := by omega
  have BB := Below.refl w.heap.size w
  go_enter Tryz.func3, Tryz.ntmps3
  go_wp2_with (go_at_call 4; fail)
  rw [← HU.out]
  refine (HPA.out w).mono ?_
  rintro e w1 ⟨n1, a1, l1, c1, d1, m1, k1, rfl, h1, f1, g1, bw1⟩
  have zbw1 := bw1.size
  replace BB := also BB bw1
  obtain ⟨V1, hV1, bV1, x_a, sV1⟩ := bs_3 w1 (.bool n1) (.slice a1 l1 c1) (.slice d1 m1 k1) 27
  have zbV1 := bV1.size
  replace BB := also BB bV1
  replace h1 := h1.below bV1
  go_wp2
  rw [← hV1]
  clear hV1
  go_loopw [5] (fun i wr => ∃ k : Nat, k ≤ T ∧ i = .int .i64 (k : Int) ∧ V1 = wr) (fun i _ => T - (intOf i).toNat)
  case atStart => exact ⟨0, Nat.zero_le _, rfl, rfl⟩
  case round =>
    obtain ⟨k, hk, rfl, hwr⟩ := hrel
    subst hwr
    rcases Nat.lt_or_eq_of_le hk with hlt | hkT
    · have hk2 : k < u.size := by omega
      have hc := HNE.out k hk2 hlt
      have hcb : ((u[k].toNat : Int) == 47) = false := by simpa using hc
      have i1 : (k : Int) < u.size := by omega
      have i0 : (0 : Int) ≤ k := by omega
      go_wp2
      go_roundw
      case rel => exact ⟨k + 1, hlt, by simp, by first | rfl | trivial⟩
      case measure => simp [intOf]; omega
    · subst hkT
      have hcx := HCH.out hT
      have hcb : ((u[k].toNat : Int) == 47) = true := by simpa using hcx
      have i1 : (k : Int) < u.size := by omega
      have i3 : (k : Int) + 1 ≤ u.size := by omega
      have i4 : wrap64 ((k : Int) + 1) = (k : Int) + 1 := by unfold wrap64; omega
      have i0 : (0 : Int) ≤ k := by omega
      have i2 : (k : Int) ≤ u.size := by omega
      go_wp2_with (go_at_call 5; fail)
      rw [HE1.out]
      refine (HW1.out V1).mono ?_
      rintro e w2 ⟨s2, d2, l2, c2, rfl, r2, bw2⟩
      have zbw2 := bw2.size
      replace BB := also BB bw2
      replace h1 := h1.below bw2
      replace x_a := x_a.on bw2
      obtain ⟨Vn, hVn, bVn, x_n, sVn⟩ := bs_2 w2 (.int .i64 s2) (.slice d2 l2 c2) 34
      have zbVn := bVn.size
      replace BB := also BB bVn
      replace h1 := h1.below bVn
      replace x_a := x_a.on bVn
      replace r2 := r2.below bVn
      obtain ⟨Vd, hVd⟩ : ∃ Vd, Vd = Vn.alloc (.cells #[.int .i64 1] 3) := ⟨_, rfl⟩
      have bVd : Below Vn.heap.size Vn Vd := by rw [hVd]; exact (Below.refl _ _).alloc (Nat.le_refl _) _
      have hd1 : HD Vd (some ⟨w2.heap.size + 1, 0, none⟩) 1 1 1 := by rw [hVd, show w2.heap.size + 1 = Vn.heap.size by rw [hVn]; simp]; exact hd_one Vn
      have zbVd := bVd.size
      replace BB := also BB bVd
      replace h1 := h1.below bVd
      replace x_a := x_a.on bVd
      replace r2 := r2.below bVd
      replace x_n := x_n.on bVd
      go_wp2_with (go_at_call 6; fail)
      rw [← hVn, ← hVd]
      clear hVn hVd
      rw [HE2.out]
      refine (HP2.out Vd).mono ?_
      rintro e w3 ⟨d3, l3, c3, rfl, h3, f3, bw3⟩
      have zbw3 := bw3.size
      replace BB := also BB bw3
      replace h1 := h1.below bw3
      replace x_a := x_a.on bw3
      replace r2 := r2.below bw3
      replace x_n := x_n.on bw3
      replace hd1 := hd1.below bw3
      go_wp2_with (go_at_call 7; fail)
      refine (rqLong 0 w3 (by decide) (by decide)).mono ?_
      rintro e w4 ⟨s4, d4, l4, c4, t4, g4, h4, k4, rfl, x4, r4, bw4⟩
      have zbw4 := bw4.size
      replace BB := also BB bw4
      replace h1 := h1.below bw4
      replace x_a := x_a.on bw4
      replace r2 := r2.below bw4
      replace x_n := x_n.on bw4
      replace hd1 := hd1.below bw4
      replace h3 := h3.below bw4
      obtain ⟨Vr, hVr, bVr, x_r, sVr⟩ := bs_4 w4 (.int .i64 s4) (.slice d4 l4 c4) (.int .i64 t4) (.slice g4 h4 k4) 40
      have zbVr := bVr.size
      replace BB := also BB bVr
      replace h1 := h1.below bVr
      replace x_a := x_a.on bVr
      replace r2 := r2.below bVr
      replace x_n := x_n.on bVr
      replace hd1 := hd1.below bVr
      replace h3 := h3.below bVr
      replace x4 := x4.below bVr
      go_wp2
      rw [← hVr]
      clear hVr
      have dd1 : Below Vr.heap.size Vr Vr.drew := (Below.refl _ _).drew
      have zdd1 := dd1.size
      replace BB := also BB dd1
      replace h1 := h1.below dd1
      replace x_a := x_a.on dd1
      replace r2 := r2.below dd1
      replace x_n := x_n.on dd1
      replace hd1 := hd1.below dd1
      replace h3 := h3.below dd1
      replace x4 := x4.below dd1
      replace x_r := x_r.on dd1
      refine wp_region_held_drew (S := (fun w' => w'.cell? ⟨w1.heap.size, 0, none⟩ = some (.bool n1) ∧ w'.cell? ⟨w1.heap.size, 1, none⟩ = some (.slice a1 l1 c1) ∧ w'.cell? ⟨w1.heap.size, 2, none⟩ = some (.slice d1 m1 k1) ∧ Below w.heap.size w w')) (by kernel_rfl) ?_ (fun hHeld => ?_)
      · first | exact ⟨x_a.c0, x_a.c1, x_a.c2, BB⟩ | exact ⟨cell_on bw8 hHeld.1, cell_on bw8 hHeld.2.1, cell_on bw8 hHeld.2.2.1, also hHeld.2.2.2 bw8⟩ | exact ⟨cell_on bw7 hHeld.1, cell_on bw7 hHeld.2.1, cell_on bw7 hHeld.2.2.1, also hHeld.2.2.2 bw7⟩ | exact ⟨cell_on bw6 hHeld.1, cell_on bw6 hHeld.2.1, cell_on bw6 hHeld.2.2.1, also hHeld.2.2.2 bw6⟩
      refine take_yes (i := 0) (v := ?vv0) rfl (by kernel_rfl) (by kernel_rfl) (by kernel_rfl) (fun _ _ _ h => h) (by rfl) (by assumption) ?hyv0 ?restv0
      case hyv0 => (intro w hSw; (try dsimp only at hSw); first | (go_simp; done) | (go_simp; with_reducible rfl))
      simp only [Act.put, List.setIfInBounds_toArray, List.set_cons_zero, List.set_cons_succ]
      refine take_call (i := 1) rfl (by kernel_rfl) (fun Kc hK => ?_)
      go_simp
      (go_at_call 7; refine (rqLong 0 _ (by decide) (by decide)).mono ?_; rintro e w6 ⟨s6, d6, l6, c6, t6, g6, h6, k6, rfl, x6, r6, bw6⟩)
      refine hK.out _ _ ?_ (fun hHeld => ?_)
      · first | exact ⟨x_a.c0, x_a.c1, x_a.c2, BB⟩ | exact ⟨cell_on bw8 hHeld.1, cell_on bw8 hHeld.2.1, cell_on bw8 hHeld.2.2.1, also hHeld.2.2.2 bw8⟩ | exact ⟨cell_on bw7 hHeld.1, cell_on bw7 hHeld.2.1, cell_on bw7 hHeld.2.2.1, also hHeld.2.2.2 bw7⟩ | exact ⟨cell_on bw6 hHeld.1, cell_on bw6 hHeld.2.1, cell_on bw6 hHeld.2.2.1, also hHeld.2.2.2 bw6⟩
      clear hK Kc
      have zbw6 := bw6.size
      replace BB := also BB bw6
      replace h1 := h1.below bw6
      replace x_a := x_a.on bw6
      replace r2 := r2.below bw6
      replace x_n := x_n.on bw6
      replace hd1 := hd1.below bw6
      replace h3 := h3.below bw6
      replace x4 := x4.below bw6
      replace x_r := x_r.on bw6
      refine take_call (i := 2) rfl (by kernel_rfl) (fun Kc hK => ?_)
      go_simp
      (go_at_call 9; refine (rqSame n1 a1 l1 c1 d1 m1 k1 0 1 s6 d6 l6 c6 t6 g6 h6 k6 0 1 2 _ h1 x6 rfl rfl).mono ?_; rintro e w7 ⟨rfl, bw7⟩)
      refine hK.out _ _ ?_ (fun hHeld => ?_)
      · first | exact ⟨x_a.c0, x_a.c1, x_a.c2, BB⟩ | exact ⟨cell_on bw8 hHeld.1, cell_on bw8 hHeld.2.1, cell_on bw8 hHeld.2.2.1, also hHeld.2.2.2 bw8⟩ | exact ⟨cell_on bw7 hHeld.1, cell_on bw7 hHeld.2.1, cell_on bw7 hHeld.2.2.1, also hHeld.2.2.2 bw7⟩ | exact ⟨cell_on bw6 hHeld.1, cell_on bw6 hHeld.2.1, cell_on bw6 hHeld.2.2.1, also hHeld.2.2.2 bw6⟩
      clear hK Kc
      have zbw7 := bw7.size
      replace BB := also BB bw7
      replace h1 := h1.below bw7
      replace x_a := x_a.on bw7
      replace r2 := r2.below bw7
      replace x_n := x_n.on bw7
      replace hd1 := hd1.below bw7
      replace h3 := h3.below bw7
      replace x4 := x4.below bw7
      replace x_r := x_r.on bw7
      replace x6 := x6.below bw7
      refine take_yes (i := 3) (v := ?vv3) rfl (by kernel_rfl) (by kernel_rfl) (by kernel_rfl) (fun _ _ _ h => h) (by rfl) (by assumption) ?hyv3 ?restv3
      case hyv3 => (intro w hSw; (try dsimp only at hSw); first | (go_simp; done) | (go_simp; with_reducible rfl))
      simp only [Act.put, List.setIfInBounds_toArray, List.set_cons_zero, List.set_cons_succ]
      refine take_yes (i := 4) (v := ?vv4) rfl (by kernel_rfl) (by kernel_rfl) (by kernel_rfl) (fun _ _ _ h => h) (by rfl) (by assumption) ?hyv4 ?restv4
      case hyv4 => (intro w hSw; (try dsimp only at hSw); first | (go_simp; done) | (go_simp; with_reducible rfl))
      simp only [Act.put, List.setIfInBounds_toArray, List.set_cons_zero, List.set_cons_succ]
      refine take_yes (i := 5) (v := ?vv5) rfl (by kernel_rfl) (by kernel_rfl) (by kernel_rfl) (fun _ _ _ h => h) (by rfl) (by assumption) ?hyv5 ?restv5
      case hyv5 => (intro w hSw; (try dsimp only at hSw); first | (go_simp; done) | (go_simp; with_reducible rfl))
      simp only [Act.put, List.setIfInBounds_toArray, List.set_cons_zero, List.set_cons_succ]
      refine take_yes (i := 6) (v := ?vv6) rfl (by kernel_rfl) (by kernel_rfl) (by kernel_rfl) (fun _ _ _ h => h) (by rfl) (by assumption) ?hyv6 ?restv6
      case hyv6 => (intro w hSw; (try dsimp only at hSw); first | (go_simp; done) | (go_simp; with_reducible rfl))
      simp only [Act.put, List.setIfInBounds_toArray, List.set_cons_zero, List.set_cons_succ]
      refine take_yes (i := 7) (v := ?vv7) rfl (by kernel_rfl) (by kernel_rfl) (by kernel_rfl) (fun _ _ _ h => h) (by rfl) (by assumption) ?hyv7 ?restv7
      case hyv7 => (intro w hSw; (try dsimp only at hSw); first | (go_simp; done) | (go_simp; with_reducible rfl))
      simp only [Act.put, List.setIfInBounds_toArray, List.set_cons_zero, List.set_cons_succ]
      refine take_yes (i := 8) (v := ?vv8) rfl (by kernel_rfl) (by kernel_rfl) (by kernel_rfl) (fun _ _ _ h => h) (by rfl) (by assumption) ?hyv8 ?restv8
      case hyv8 => (intro w hSw; (try dsimp only at hSw); first | (go_simp; done) | (go_simp; with_reducible rfl))
      simp only [Act.put, List.setIfInBounds_toArray, List.set_cons_zero, List.set_cons_succ]
      refine take_call (i := 9) rfl (by kernel_rfl) (fun Kc hK => ?_)
      go_simp
      (go_at_call 10; refine (lives5_any _).mono ?_; rintro e w8 ⟨rfl, bw8⟩)
      refine hK.out _ _ ?_ (fun hHeld => ?_)
      · first | exact ⟨x_a.c0, x_a.c1, x_a.c2, BB⟩ | exact ⟨cell_on bw8 hHeld.1, cell_on bw8 hHeld.2.1, cell_on bw8 hHeld.2.2.1, also hHeld.2.2.2 bw8⟩ | exact ⟨cell_on bw7 hHeld.1, cell_on bw7 hHeld.2.1, cell_on bw7 hHeld.2.2.1, also hHeld.2.2.2 bw7⟩ | exact ⟨cell_on bw6 hHeld.1, cell_on bw6 hHeld.2.1, cell_on bw6 hHeld.2.2.1, also hHeld.2.2.2 bw6⟩
      clear hK Kc
      have zbw8 := bw8.size
      replace BB := also BB bw8
      replace h1 := h1.below bw8
      replace x_a := x_a.on bw8
      replace r2 := r2.below bw8
      replace x_n := x_n.on bw8
      replace hd1 := hd1.below bw8
      replace h3 := h3.below bw8
      replace x4 := x4.below bw8
      replace x_r := x_r.on bw8
      replace x6 := x6.below bw8
      refine take_yes (i := 10) (v := ?vv10) rfl (by kernel_rfl) (by kernel_rfl) (by kernel_rfl) (fun _ _ _ h => h) (by rfl) (by assumption) ?hyv10 ?restv10
      case hyv10 => (intro w hSw; (try dsimp only at hSw); first | (go_simp; done) | (go_simp; with_reducible rfl))
      simp only [Act.put, List.setIfInBounds_toArray, List.set_cons_zero, List.set_cons_succ]
      refine take_yes (i := 11) (v := ?vv11) rfl (by kernel_rfl) (by kernel_rfl) (by kernel_rfl) (fun _ _ _ h => h) (by rfl) (by assumption) ?hyv11 ?restv11
      case hyv11 => (intro w hSw; (try dsimp only at hSw); first | (go_simp; done) | (go_simp; with_reducible rfl))
      simp only [Act.put, List.setIfInBounds_toArray, List.set_cons_zero, List.set_cons_succ]
      refine wpAnyH_done (by kernel_rfl) ?_ _
      go_wp2
      go_ret
      exact ⟨rfl, BB⟩
set_option maxRecDepth 100000 in
set_option maxHeartbeats 10000000 in
theorem cD (s : ByteArray) (u t1 t2 : ByteArray) (T : Nat) (z : Int) (w : World) (hpa : ∀ w, Calls Tryz.prog 4 #[.string u] w (GotMk w 0 1 4)) (hw1 : ∀ w, Calls Tryz.prog 5 #[.string t1] w (GotW1 w z 0)) (hl : 200 < s.size) (hu : u = s.extract 0 200) (he1 : u.extract 0 T = t1) (hne : ∀ k (hk : k < u.size), k < T → ¬ (u[k].toNat : Int) = 47) (he2 : u.extract (T + 1) u.size = t2) (hT : T < u.size) (hch : ∀ hk : T < u.size, (u[T].toNat : Int) = 47) (hsz : u.size ≤ 200) (hp2 : ∀ w, Calls Tryz.prog 6 #[.string t2] w (GotHPF w 0 0)) (hq : qText (lowN 0 1) (lowD 0 1) ≠ u) :
    Calls Tryz.prog 3 #[.string s] w fun e w' => e = .returned (.bool true) ∧ Below w.heap.size w w' := by
  have HPA : Hid _ := hpa
  clear hpa
  have HW1 : Hid _ := hw1
  clear hw1
  have HNE : Hid _ := hne
  clear hne
  have HE1 : Hid _ := he1
  clear he1
  have HE2 : Hid _ := he2
  clear he2
  have HCH : Hid _ := hch
  clear hch
  have HU : Hid _ := hu
  clear hu
  have HP2 : Hid _ := hp2
  clear hp2
  obtain ⟨s', hs'⟩ : ∃ s', s' = qText (lowN 0 1) (lowD 0 1) := ⟨_, rfl⟩
  rw [← hs'] at hq
  have HS : Hid _ := hs'
  have hq1 : ¬ s'.toList = u.toList := fun e => hq (ByteArray.ext (Array.toList_inj.1 (by rw [← Lib.toList_data, ← Lib.toList_data]; exact e)))
  have hq2 : (s'.toList == u.toList) = false := by simpa using hq1
  clear hs'
  have hl' : (200 : Int) < (s.size : Int) := by omega
  have hl2 : (200 : Int) ≤ (s.size : Int) := by omega
  have BB := Below.refl w.heap.size w
  go_enter Tryz.func3, Tryz.ntmps3
  go_wp2_with (go_at_call 4; fail)
  rw [← HU.out]
  refine (HPA.out w).mono ?_
  rintro e w1 ⟨n1, a1, l1, c1, d1, m1, k1, rfl, h1, f1, g1, bw1⟩
  have zbw1 := bw1.size
  replace BB := also BB bw1
  obtain ⟨V1, hV1, bV1, x_a, sV1⟩ := bs_3 w1 (.bool n1) (.slice a1 l1 c1) (.slice d1 m1 k1) 27
  have zbV1 := bV1.size
  replace BB := also BB bV1
  replace h1 := h1.below bV1
  go_wp2
  rw [← hV1]
  clear hV1
  go_loopw [5] (fun i wr => ∃ k : Nat, k ≤ T ∧ i = .int .i64 (k : Int) ∧ V1 = wr) (fun i _ => T - (intOf i).toNat)
  case atStart => exact ⟨0, Nat.zero_le _, rfl, rfl⟩
  case round =>
    obtain ⟨k, hk, rfl, hwr⟩ := hrel
    subst hwr
    rcases Nat.lt_or_eq_of_le hk with hlt | hkT
    · have hk2 : k < u.size := by omega
      have hc := HNE.out k hk2 hlt
      have hcb : ((u[k].toNat : Int) == 47) = false := by simpa using hc
      have i1 : (k : Int) < u.size := by omega
      have i0 : (0 : Int) ≤ k := by omega
      go_wp2
      go_roundw
      case rel => exact ⟨k + 1, hlt, by simp, by first | rfl | trivial⟩
      case measure => simp [intOf]; omega
    · subst hkT
      have hcx := HCH.out hT
      have hcb : ((u[k].toNat : Int) == 47) = true := by simpa using hcx
      have i1 : (k : Int) < u.size := by omega
      have i3 : (k : Int) + 1 ≤ u.size := by omega
      have i4 : wrap64 ((k : Int) + 1) = (k : Int) + 1 := by unfold wrap64; omega
      have i0 : (0 : Int) ≤ k := by omega
      have i2 : (k : Int) ≤ u.size := by omega
      go_wp2_with (go_at_call 5; fail)
      rw [HE1.out]
      refine (HW1.out V1).mono ?_
      rintro e w2 ⟨s2, d2, l2, c2, rfl, r2, bw2⟩
      have zbw2 := bw2.size
      replace BB := also BB bw2
      replace h1 := h1.below bw2
      replace x_a := x_a.on bw2
      obtain ⟨Vn, hVn, bVn, x_n, sVn⟩ := bs_2 w2 (.int .i64 s2) (.slice d2 l2 c2) 34
      have zbVn := bVn.size
      replace BB := also BB bVn
      replace h1 := h1.below bVn
      replace x_a := x_a.on bVn
      replace r2 := r2.below bVn
      obtain ⟨Vd, hVd⟩ : ∃ Vd, Vd = Vn.alloc (.cells #[.int .i64 1] 3) := ⟨_, rfl⟩
      have bVd : Below Vn.heap.size Vn Vd := by rw [hVd]; exact (Below.refl _ _).alloc (Nat.le_refl _) _
      have hd1 : HD Vd (some ⟨w2.heap.size + 1, 0, none⟩) 1 1 1 := by rw [hVd, show w2.heap.size + 1 = Vn.heap.size by rw [hVn]; simp]; exact hd_one Vn
      have zbVd := bVd.size
      replace BB := also BB bVd
      replace h1 := h1.below bVd
      replace x_a := x_a.on bVd
      replace r2 := r2.below bVd
      replace x_n := x_n.on bVd
      go_wp2_with (go_at_call 6; fail)
      rw [← hVn, ← hVd]
      clear hVn hVd
      rw [HE2.out]
      refine (HP2.out Vd).mono ?_
      rintro e w3 ⟨d3, l3, c3, rfl, h3, f3, bw3⟩
      have zbw3 := bw3.size
      replace BB := also BB bw3
      replace h1 := h1.below bw3
      replace x_a := x_a.on bw3
      replace r2 := r2.below bw3
      replace x_n := x_n.on bw3
      replace hd1 := hd1.below bw3
      obtain rfl : l3 = 0 := h3.pos.2 rfl
      go_wp2_with (go_at_call 7; fail)
      refine (rqLong 0 w3 (by decide) (by decide)).mono ?_
      rintro e w4 ⟨s4, d4, l4, c4, t4, g4, h4, k4, rfl, x4, r4, bw4⟩
      have zbw4 := bw4.size
      replace BB := also BB bw4
      replace h1 := h1.below bw4
      replace x_a := x_a.on bw4
      replace r2 := r2.below bw4
      replace x_n := x_n.on bw4
      replace hd1 := hd1.below bw4
      replace h3 := h3.below bw4
      obtain ⟨Vr, hVr, bVr, x_r, sVr⟩ := bs_4 w4 (.int .i64 s4) (.slice d4 l4 c4) (.int .i64 t4) (.slice g4 h4 k4) 40
      have zbVr := bVr.size
      replace BB := also BB bVr
      replace h1 := h1.below bVr
      replace x_a := x_a.on bVr
      replace r2 := r2.below bVr
      replace x_n := x_n.on bVr
      replace hd1 := hd1.below bVr
      replace h3 := h3.below bVr
      replace x4 := x4.below bVr
      go_wp2_with (go_at_call 8; fail)
      rw [← hVr]
      clear hVr
      refine (rqShow s4 d4 l4 c4 t4 g4 h4 k4 0 1 2 Vr x4 HS.out).mono ?_
      rintro e w5 ⟨rfl, bw5⟩
      have zbw5 := bw5.size
      replace BB := also BB bw5
      replace h1 := h1.below bw5
      replace x_a := x_a.on bw5
      replace r2 := r2.below bw5
      replace x_n := x_n.on bw5
      replace hd1 := hd1.below bw5
      replace h3 := h3.below bw5
      replace x4 := x4.below bw5
      replace x_r := x_r.on bw5
      have ⟨x_a_0, x_a_1, x_a_2, x_a_3, x_a_4, x_a_5⟩ := x_a
      have ⟨x_r_0, x_r_1, x_r_2, x_r_3, x_r_4, x_r_5, x_r_6, x_r_7⟩ := x_r
      go_wp2
      have dd1 : Below w5.heap.size w5 w5.drew := (Below.refl _ _).drew
      clear x_a_0 x_a_1 x_a_2 x_a_3 x_a_4 x_a_5 x_r_0 x_r_1 x_r_2 x_r_3 x_r_4 x_r_5 x_r_6 x_r_7
      have zdd1 := dd1.size
      replace BB := also BB dd1
      replace h1 := h1.below dd1
      replace x_a := x_a.on dd1
      replace r2 := r2.below dd1
      replace x_n := x_n.on dd1
      replace hd1 := hd1.below dd1
      replace h3 := h3.below dd1
      replace x4 := x4.below dd1
      replace x_r := x_r.on dd1
      refine wp_region_held_drew (S := (fun w' => w'.cell? ⟨w1.heap.size, 0, none⟩ = some (.bool n1) ∧ w'.cell? ⟨w1.heap.size, 1, none⟩ = some (.slice a1 l1 c1) ∧ w'.cell? ⟨w1.heap.size, 2, none⟩ = some (.slice d1 m1 k1) ∧ Below w.heap.size w w')) (by kernel_rfl) ?_ (fun hHeld => ?_)
      · first | exact ⟨x_a.c0, x_a.c1, x_a.c2, BB⟩ | exact ⟨cell_on bw8 hHeld.1, cell_on bw8 hHeld.2.1, cell_on bw8 hHeld.2.2.1, also hHeld.2.2.2 bw8⟩ | exact ⟨cell_on bw7 hHeld.1, cell_on bw7 hHeld.2.1, cell_on bw7 hHeld.2.2.1, also hHeld.2.2.2 bw7⟩ | exact ⟨cell_on bw6 hHeld.1, cell_on bw6 hHeld.2.1, cell_on bw6 hHeld.2.2.1, also hHeld.2.2.2 bw6⟩
      refine take_yes (i := 0) (v := ?vv0) rfl (by kernel_rfl) (by kernel_rfl) (by kernel_rfl) (fun _ _ _ h => h) (by rfl) (by assumption) ?hyv0 ?restv0
      case hyv0 => (intro w hSw; (try dsimp only at hSw); first | (go_simp; done) | (go_simp; with_reducible rfl))
      simp only [Act.put, List.setIfInBounds_toArray, List.set_cons_zero, List.set_cons_succ]
      refine take_call (i := 1) rfl (by kernel_rfl) (fun Kc hK => ?_)
      go_simp
      (go_at_call 7; refine (rqLong 0 _ (by decide) (by decide)).mono ?_; rintro e w6 ⟨s6, d6, l6, c6, t6, g6, h6, k6, rfl, x6, r6, bw6⟩)
      refine hK.out _ _ ?_ (fun hHeld => ?_)
      · first | exact ⟨x_a.c0, x_a.c1, x_a.c2, BB⟩ | exact ⟨cell_on bw8 hHeld.1, cell_on bw8 hHeld.2.1, cell_on bw8 hHeld.2.2.1, also hHeld.2.2.2 bw8⟩ | exact ⟨cell_on bw7 hHeld.1, cell_on bw7 hHeld.2.1, cell_on bw7 hHeld.2.2.1, also hHeld.2.2.2 bw7⟩ | exact ⟨cell_on bw6 hHeld.1, cell_on bw6 hHeld.2.1, cell_on bw6 hHeld.2.2.1, also hHeld.2.2.2 bw6⟩
      clear hK Kc
      have zbw6 := bw6.size
      replace BB := also BB bw6
      replace h1 := h1.below bw6
      replace x_a := x_a.on bw6
      replace r2 := r2.below bw6
      replace x_n := x_n.on bw6
      replace hd1 := hd1.below bw6
      replace h3 := h3.below bw6
      replace x4 := x4.below bw6
      replace x_r := x_r.on bw6
      refine take_call (i := 2) rfl (by kernel_rfl) (fun Kc hK => ?_)
      go_simp
      (go_at_call 9; refine (rqSame n1 a1 l1 c1 d1 m1 k1 0 1 s6 d6 l6 c6 t6 g6 h6 k6 0 1 2 _ h1 x6 rfl rfl).mono ?_; rintro e w7 ⟨rfl, bw7⟩)
      refine hK.out _ _ ?_ (fun hHeld => ?_)
      · first | exact ⟨x_a.c0, x_a.c1, x_a.c2, BB⟩ | exact ⟨cell_on bw8 hHeld.1, cell_on bw8 hHeld.2.1, cell_on bw8 hHeld.2.2.1, also hHeld.2.2.2 bw8⟩ | exact ⟨cell_on bw7 hHeld.1, cell_on bw7 hHeld.2.1, cell_on bw7 hHeld.2.2.1, also hHeld.2.2.2 bw7⟩ | exact ⟨cell_on bw6 hHeld.1, cell_on bw6 hHeld.2.1, cell_on bw6 hHeld.2.2.1, also hHeld.2.2.2 bw6⟩
      clear hK Kc
      have zbw7 := bw7.size
      replace BB := also BB bw7
      replace h1 := h1.below bw7
      replace x_a := x_a.on bw7
      replace r2 := r2.below bw7
      replace x_n := x_n.on bw7
      replace hd1 := hd1.below bw7
      replace h3 := h3.below bw7
      replace x4 := x4.below bw7
      replace x_r := x_r.on bw7
      replace x6 := x6.below bw7
      refine take_yes (i := 3) (v := ?vv3) rfl (by kernel_rfl) (by kernel_rfl) (by kernel_rfl) (fun _ _ _ h => h) (by rfl) (by assumption) ?hyv3 ?restv3
      case hyv3 => (intro w hSw; (try dsimp only at hSw); first | (go_simp; done) | (go_simp; with_reducible rfl))
      simp only [Act.put, List.setIfInBounds_toArray, List.set_cons_zero, List.set_cons_succ]
      refine take_yes (i := 4) (v := ?vv4) rfl (by kernel_rfl) (by kernel_rfl) (by kernel_rfl) (fun _ _ _ h => h) (by rfl) (by assumption) ?hyv4 ?restv4
      case hyv4 => (intro w hSw; (try dsimp only at hSw); first | (go_simp; done) | (go_simp; with_reducible rfl))
      simp only [Act.put, List.setIfInBounds_toArray, List.set_cons_zero, List.set_cons_succ]
      refine take_yes (i := 5) (v := ?vv5) rfl (by kernel_rfl) (by kernel_rfl) (by kernel_rfl) (fun _ _ _ h => h) (by rfl) (by assumption) ?hyv5 ?restv5
      case hyv5 => (intro w hSw; (try dsimp only at hSw); first | (go_simp; done) | (go_simp; with_reducible rfl))
      simp only [Act.put, List.setIfInBounds_toArray, List.set_cons_zero, List.set_cons_succ]
      refine take_yes (i := 6) (v := ?vv6) rfl (by kernel_rfl) (by kernel_rfl) (by kernel_rfl) (fun _ _ _ h => h) (by rfl) (by assumption) ?hyv6 ?restv6
      case hyv6 => (intro w hSw; (try dsimp only at hSw); first | (go_simp; done) | (go_simp; with_reducible rfl))
      simp only [Act.put, List.setIfInBounds_toArray, List.set_cons_zero, List.set_cons_succ]
      refine take_yes (i := 7) (v := ?vv7) rfl (by kernel_rfl) (by kernel_rfl) (by kernel_rfl) (fun _ _ _ h => h) (by rfl) (by assumption) ?hyv7 ?restv7
      case hyv7 => (intro w hSw; (try dsimp only at hSw); first | (go_simp; done) | (go_simp; with_reducible rfl))
      simp only [Act.put, List.setIfInBounds_toArray, List.set_cons_zero, List.set_cons_succ]
      refine take_yes (i := 8) (v := ?vv8) rfl (by kernel_rfl) (by kernel_rfl) (by kernel_rfl) (fun _ _ _ h => h) (by rfl) (by assumption) ?hyv8 ?restv8
      case hyv8 => (intro w hSw; (try dsimp only at hSw); first | (go_simp; done) | (go_simp; with_reducible rfl))
      simp only [Act.put, List.setIfInBounds_toArray, List.set_cons_zero, List.set_cons_succ]
      refine take_call (i := 9) rfl (by kernel_rfl) (fun Kc hK => ?_)
      go_simp
      (go_at_call 10; refine (lives5_any _).mono ?_; rintro e w8 ⟨rfl, bw8⟩)
      refine hK.out _ _ ?_ (fun hHeld => ?_)
      · first | exact ⟨x_a.c0, x_a.c1, x_a.c2, BB⟩ | exact ⟨cell_on bw8 hHeld.1, cell_on bw8 hHeld.2.1, cell_on bw8 hHeld.2.2.1, also hHeld.2.2.2 bw8⟩ | exact ⟨cell_on bw7 hHeld.1, cell_on bw7 hHeld.2.1, cell_on bw7 hHeld.2.2.1, also hHeld.2.2.2 bw7⟩ | exact ⟨cell_on bw6 hHeld.1, cell_on bw6 hHeld.2.1, cell_on bw6 hHeld.2.2.1, also hHeld.2.2.2 bw6⟩
      clear hK Kc
      have zbw8 := bw8.size
      replace BB := also BB bw8
      replace h1 := h1.below bw8
      replace x_a := x_a.on bw8
      replace r2 := r2.below bw8
      replace x_n := x_n.on bw8
      replace hd1 := hd1.below bw8
      replace h3 := h3.below bw8
      replace x4 := x4.below bw8
      replace x_r := x_r.on bw8
      replace x6 := x6.below bw8
      refine take_yes (i := 10) (v := ?vv10) rfl (by kernel_rfl) (by kernel_rfl) (by kernel_rfl) (fun _ _ _ h => h) (by rfl) (by assumption) ?hyv10 ?restv10
      case hyv10 => (intro w hSw; (try dsimp only at hSw); first | (go_simp; done) | (go_simp; with_reducible rfl))
      simp only [Act.put, List.setIfInBounds_toArray, List.set_cons_zero, List.set_cons_succ]
      refine take_yes (i := 11) (v := ?vv11) rfl (by kernel_rfl) (by kernel_rfl) (by kernel_rfl) (fun _ _ _ h => h) (by rfl) (by assumption) ?hyv11 ?restv11
      case hyv11 => (intro w hSw; (try dsimp only at hSw); first | (go_simp; done) | (go_simp; with_reducible rfl))
      simp only [Act.put, List.setIfInBounds_toArray, List.set_cons_zero, List.set_cons_succ]
      refine wpAnyH_done (by kernel_rfl) ?_ _
      go_wp2
      go_ret
      exact ⟨rfl, BB⟩
set_option maxRecDepth 100000 in
set_option maxHeartbeats 10000000 in
theorem cE (s : ByteArray) (u t1 t2 : ByteArray) (T : Nat) (z : Int) (N2 : Nat) (w : World) (hpa : ∀ w, Calls Tryz.prog 4 #[.string u] w (GotMk w 0 1 4)) (hw1 : ∀ w, Calls Tryz.prog 5 #[.string t1] w (GotW1 w z 0)) (hl : 200 < s.size) (hu : u = s.extract 0 200) (he1 : u.extract 0 T = t1) (hne : ∀ k (hk : k < u.size), k < T → ¬ (u[k].toNat : Int) = 47) (he2 : u.extract (T + 1) u.size = t2) (hT : T < u.size) (hch : ∀ hk : T < u.size, (u[T].toNat : Int) = 47) (hsz : u.size ≤ 200) (hp2 : ∀ w, Calls Tryz.prog 6 #[.string t2] w (GotHPF w N2 0)) (hz : z.natAbs < 4294967296 ^ 21) (hN : N2 < 4294967296 ^ 21) (hN0 : 0 < N2) (hq : qText (lowN z N2) (lowD z N2) ≠ u) :
    Calls Tryz.prog 3 #[.string s] w fun e w' => e = .returned (.bool true) ∧ Below w.heap.size w w' := by
  have HPA : Hid _ := hpa
  clear hpa
  have HW1 : Hid _ := hw1
  clear hw1
  have HNE : Hid _ := hne
  clear hne
  have HE1 : Hid _ := he1
  clear he1
  have HE2 : Hid _ := he2
  clear he2
  have HCH : Hid _ := hch
  clear hch
  have HU : Hid _ := hu
  clear hu
  have HP2 : Hid _ := hp2
  clear hp2
  have HZ : Hid _ := hz
  clear hz
  have HN : Hid _ := hN
  clear hN
  obtain ⟨s', hs'⟩ : ∃ s', s' = qText (lowN z N2) (lowD z N2) := ⟨_, rfl⟩
  rw [← hs'] at hq
  have HS : Hid _ := hs'
  have hq1 : ¬ s'.toList = u.toList := fun e => hq (ByteArray.ext (Array.toList_inj.1 (by rw [← Lib.toList_data, ← Lib.toList_data]; exact e)))
  have hq2 : (s'.toList == u.toList) = false := by simpa using hq1
  clear hs'
  have hl' : (200 : Int) < (s.size : Int) := by omega
  have hl2 : (200 : Int) ≤ (s.size : Int) := by omega
  have BB := Below.refl w.heap.size w
  go_enter Tryz.func3, Tryz.ntmps3
  go_wp2_with (go_at_call 4; fail)
  rw [← HU.out]
  refine (HPA.out w).mono ?_
  rintro e w1 ⟨n1, a1, l1, c1, d1, m1, k1, rfl, h1, f1, g1, bw1⟩
  have zbw1 := bw1.size
  replace BB := also BB bw1
  obtain ⟨V1, hV1, bV1, x_a, sV1⟩ := bs_3 w1 (.bool n1) (.slice a1 l1 c1) (.slice d1 m1 k1) 27
  have zbV1 := bV1.size
  replace BB := also BB bV1
  replace h1 := h1.below bV1
  go_wp2
  rw [← hV1]
  clear hV1
  go_loopw [5] (fun i wr => ∃ k : Nat, k ≤ T ∧ i = .int .i64 (k : Int) ∧ V1 = wr) (fun i _ => T - (intOf i).toNat)
  case atStart => exact ⟨0, Nat.zero_le _, rfl, rfl⟩
  case round =>
    obtain ⟨k, hk, rfl, hwr⟩ := hrel
    subst hwr
    rcases Nat.lt_or_eq_of_le hk with hlt | hkT
    · have hk2 : k < u.size := by omega
      have hc := HNE.out k hk2 hlt
      have hcb : ((u[k].toNat : Int) == 47) = false := by simpa using hc
      have i1 : (k : Int) < u.size := by omega
      have i0 : (0 : Int) ≤ k := by omega
      go_wp2
      go_roundw
      case rel => exact ⟨k + 1, hlt, by simp, by first | rfl | trivial⟩
      case measure => simp [intOf]; omega
    · subst hkT
      have hcx := HCH.out hT
      have hcb : ((u[k].toNat : Int) == 47) = true := by simpa using hcx
      have i1 : (k : Int) < u.size := by omega
      have i3 : (k : Int) + 1 ≤ u.size := by omega
      have i4 : wrap64 ((k : Int) + 1) = (k : Int) + 1 := by unfold wrap64; omega
      have i0 : (0 : Int) ≤ k := by omega
      have i2 : (k : Int) ≤ u.size := by omega
      go_wp2_with (go_at_call 5; fail)
      rw [HE1.out]
      refine (HW1.out V1).mono ?_
      rintro e w2 ⟨s2, d2, l2, c2, rfl, r2, bw2⟩
      have zbw2 := bw2.size
      replace BB := also BB bw2
      replace h1 := h1.below bw2
      replace x_a := x_a.on bw2
      obtain ⟨Vn, hVn, bVn, x_n, sVn⟩ := bs_2 w2 (.int .i64 s2) (.slice d2 l2 c2) 34
      have zbVn := bVn.size
      replace BB := also BB bVn
      replace h1 := h1.below bVn
      replace x_a := x_a.on bVn
      replace r2 := r2.below bVn
      obtain ⟨Vd, hVd⟩ : ∃ Vd, Vd = Vn.alloc (.cells #[.int .i64 1] 3) := ⟨_, rfl⟩
      have bVd : Below Vn.heap.size Vn Vd := by rw [hVd]; exact (Below.refl _ _).alloc (Nat.le_refl _) _
      have hd1 : HD Vd (some ⟨w2.heap.size + 1, 0, none⟩) 1 1 1 := by rw [hVd, show w2.heap.size + 1 = Vn.heap.size by rw [hVn]; simp]; exact hd_one Vn
      have zbVd := bVd.size
      replace BB := also BB bVd
      replace h1 := h1.below bVd
      replace x_a := x_a.on bVd
      replace r2 := r2.below bVd
      replace x_n := x_n.on bVd
      go_wp2_with (go_at_call 6; fail)
      rw [← hVn, ← hVd]
      clear hVn hVd
      rw [HE2.out]
      refine (HP2.out Vd).mono ?_
      rintro e w3 ⟨d3, l3, c3, rfl, h3, f3, bw3⟩
      have zbw3 := bw3.size
      replace BB := also BB bw3
      replace h1 := h1.below bw3
      replace x_a := x_a.on bw3
      replace r2 := r2.below bw3
      replace x_n := x_n.on bw3
      replace hd1 := hd1.below bw3
      have hl3 : (0 : Int) < l3 := by have := h3.pos; omega
      go_wp2_with (go_at_call 7; fail)
      refine (rqLong 0 w3 (by decide) (by decide)).mono ?_
      rintro e w4 ⟨s4, d4, l4, c4, t4, g4, h4, k4, rfl, x4, r4, bw4⟩
      have zbw4 := bw4.size
      replace BB := also BB bw4
      replace h1 := h1.below bw4
      replace x_a := x_a.on bw4
      replace r2 := r2.below bw4
      replace x_n := x_n.on bw4
      replace hd1 := hd1.below bw4
      replace h3 := h3.below bw4
      have hx5 : RQ w4 21 s2 d2 l2 c2 1 d3 l3 c3 z N2 := ⟨r2, rn_nat h3 hN0, hN0, HZ.out, HN.out, by decide⟩
      have bt : Below w4.heap.size w4 (w4.alloc (.cells #[.int .i64 s4, .slice d4 l4 c4, .int .i64 t4, .slice g4 h4 k4] 40)) := (Below.refl _ _).alloc (Nat.le_refl _) _
      have ⟨tn0, tn1, tn2, tn3⟩ := x_n.on bt
      obtain ⟨Vr, hVr, bVr, x_r, sVr⟩ := bs_4 w4 (.int .i64 s2) (.slice d2 l2 c2) (.int .i64 1) (.slice d3 l3 c3) 40
      have zbVr := bVr.size
      replace BB := also BB bVr
      replace h1 := h1.below bVr
      replace x_a := x_a.on bVr
      replace r2 := r2.below bVr
      replace x_n := x_n.on bVr
      replace hd1 := hd1.below bVr
      replace h3 := h3.below bVr
      replace x4 := x4.below bVr
      replace hx5 := hx5.below bVr
      go_wp2_with (go_at_call 8; fail)
      rw [← hVr]
      clear hVr
      refine (rqShow s2 d2 l2 c2 1 d3 l3 c3 z N2 21 Vr hx5 HS.out).mono ?_
      rintro e w5 ⟨rfl, bw5⟩
      have zbw5 := bw5.size
      replace BB := also BB bw5
      replace h1 := h1.below bw5
      replace x_a := x_a.on bw5
      replace r2 := r2.below bw5
      replace x_n := x_n.on bw5
      replace hd1 := hd1.below bw5
      replace h3 := h3.below bw5
      replace x4 := x4.below bw5
      replace hx5 := hx5.below bw5
      replace x_r := x_r.on bw5
      have ⟨x_a_0, x_a_1, x_a_2, x_a_3, x_a_4, x_a_5⟩ := x_a
      have ⟨x_r_0, x_r_1, x_r_2, x_r_3, x_r_4, x_r_5, x_r_6, x_r_7⟩ := x_r
      go_wp2
      have dd1 : Below w5.heap.size w5 w5.drew := (Below.refl _ _).drew
      clear x_a_0 x_a_1 x_a_2 x_a_3 x_a_4 x_a_5 x_r_0 x_r_1 x_r_2 x_r_3 x_r_4 x_r_5 x_r_6 x_r_7
      have zdd1 := dd1.size
      replace BB := also BB dd1
      replace h1 := h1.below dd1
      replace x_a := x_a.on dd1
      replace r2 := r2.below dd1
      replace x_n := x_n.on dd1
      replace hd1 := hd1.below dd1
      replace h3 := h3.below dd1
      replace x4 := x4.below dd1
      replace hx5 := hx5.below dd1
      replace x_r := x_r.on dd1
      refine wp_region_held_drew (S := (fun w' => w'.cell? ⟨w1.heap.size, 0, none⟩ = some (.bool n1) ∧ w'.cell? ⟨w1.heap.size, 1, none⟩ = some (.slice a1 l1 c1) ∧ w'.cell? ⟨w1.heap.size, 2, none⟩ = some (.slice d1 m1 k1) ∧ Below w.heap.size w w')) (by kernel_rfl) ?_ (fun hHeld => ?_)
      · first | exact ⟨x_a.c0, x_a.c1, x_a.c2, BB⟩ | exact ⟨cell_on bw8 hHeld.1, cell_on bw8 hHeld.2.1, cell_on bw8 hHeld.2.2.1, also hHeld.2.2.2 bw8⟩ | exact ⟨cell_on bw7 hHeld.1, cell_on bw7 hHeld.2.1, cell_on bw7 hHeld.2.2.1, also hHeld.2.2.2 bw7⟩ | exact ⟨cell_on bw6 hHeld.1, cell_on bw6 hHeld.2.1, cell_on bw6 hHeld.2.2.1, also hHeld.2.2.2 bw6⟩
      refine take_yes (i := 0) (v := ?vv0) rfl (by kernel_rfl) (by kernel_rfl) (by kernel_rfl) (fun _ _ _ h => h) (by rfl) (by assumption) ?hyv0 ?restv0
      case hyv0 => (intro w hSw; (try dsimp only at hSw); first | (go_simp; done) | (go_simp; with_reducible rfl))
      simp only [Act.put, List.setIfInBounds_toArray, List.set_cons_zero, List.set_cons_succ]
      refine take_call (i := 1) rfl (by kernel_rfl) (fun Kc hK => ?_)
      go_simp
      (go_at_call 7; refine (rqLong 0 _ (by decide) (by decide)).mono ?_; rintro e w6 ⟨s6, d6, l6, c6, t6, g6, h6, k6, rfl, x6, r6, bw6⟩)
      refine hK.out _ _ ?_ (fun hHeld => ?_)
      · first | exact ⟨x_a.c0, x_a.c1, x_a.c2, BB⟩ | exact ⟨cell_on bw8 hHeld.1, cell_on bw8 hHeld.2.1, cell_on bw8 hHeld.2.2.1, also hHeld.2.2.2 bw8⟩ | exact ⟨cell_on bw7 hHeld.1, cell_on bw7 hHeld.2.1, cell_on bw7 hHeld.2.2.1, also hHeld.2.2.2 bw7⟩ | exact ⟨cell_on bw6 hHeld.1, cell_on bw6 hHeld.2.1, cell_on bw6 hHeld.2.2.1, also hHeld.2.2.2 bw6⟩
      clear hK Kc
      have zbw6 := bw6.size
      replace BB := also BB bw6
      replace h1 := h1.below bw6
      replace x_a := x_a.on bw6
      replace r2 := r2.below bw6
      replace x_n := x_n.on bw6
      replace hd1 := hd1.below bw6
      replace h3 := h3.below bw6
      replace x4 := x4.below bw6
      replace hx5 := hx5.below bw6
      replace x_r := x_r.on bw6
      refine take_call (i := 2) rfl (by kernel_rfl) (fun Kc hK => ?_)
      go_simp
      (go_at_call 9; refine (rqSame n1 a1 l1 c1 d1 m1 k1 0 1 s6 d6 l6 c6 t6 g6 h6 k6 0 1 2 _ h1 x6 rfl rfl).mono ?_; rintro e w7 ⟨rfl, bw7⟩)
      refine hK.out _ _ ?_ (fun hHeld => ?_)
      · first | exact ⟨x_a.c0, x_a.c1, x_a.c2, BB⟩ | exact ⟨cell_on bw8 hHeld.1, cell_on bw8 hHeld.2.1, cell_on bw8 hHeld.2.2.1, also hHeld.2.2.2 bw8⟩ | exact ⟨cell_on bw7 hHeld.1, cell_on bw7 hHeld.2.1, cell_on bw7 hHeld.2.2.1, also hHeld.2.2.2 bw7⟩ | exact ⟨cell_on bw6 hHeld.1, cell_on bw6 hHeld.2.1, cell_on bw6 hHeld.2.2.1, also hHeld.2.2.2 bw6⟩
      clear hK Kc
      have zbw7 := bw7.size
      replace BB := also BB bw7
      replace h1 := h1.below bw7
      replace x_a := x_a.on bw7
      replace r2 := r2.below bw7
      replace x_n := x_n.on bw7
      replace hd1 := hd1.below bw7
      replace h3 := h3.below bw7
      replace x4 := x4.below bw7
      replace hx5 := hx5.below bw7
      replace x_r := x_r.on bw7
      replace x6 := x6.below bw7
      refine take_yes (i := 3) (v := ?vv3) rfl (by kernel_rfl) (by kernel_rfl) (by kernel_rfl) (fun _ _ _ h => h) (by rfl) (by assumption) ?hyv3 ?restv3
      case hyv3 => (intro w hSw; (try dsimp only at hSw); first | (go_simp; done) | (go_simp; with_reducible rfl))
      simp only [Act.put, List.setIfInBounds_toArray, List.set_cons_zero, List.set_cons_succ]
      refine take_yes (i := 4) (v := ?vv4) rfl (by kernel_rfl) (by kernel_rfl) (by kernel_rfl) (fun _ _ _ h => h) (by rfl) (by assumption) ?hyv4 ?restv4
      case hyv4 => (intro w hSw; (try dsimp only at hSw); first | (go_simp; done) | (go_simp; with_reducible rfl))
      simp only [Act.put, List.setIfInBounds_toArray, List.set_cons_zero, List.set_cons_succ]
      refine take_yes (i := 5) (v := ?vv5) rfl (by kernel_rfl) (by kernel_rfl) (by kernel_rfl) (fun _ _ _ h => h) (by rfl) (by assumption) ?hyv5 ?restv5
      case hyv5 => (intro w hSw; (try dsimp only at hSw); first | (go_simp; done) | (go_simp; with_reducible rfl))
      simp only [Act.put, List.setIfInBounds_toArray, List.set_cons_zero, List.set_cons_succ]
      refine take_yes (i := 6) (v := ?vv6) rfl (by kernel_rfl) (by kernel_rfl) (by kernel_rfl) (fun _ _ _ h => h) (by rfl) (by assumption) ?hyv6 ?restv6
      case hyv6 => (intro w hSw; (try dsimp only at hSw); first | (go_simp; done) | (go_simp; with_reducible rfl))
      simp only [Act.put, List.setIfInBounds_toArray, List.set_cons_zero, List.set_cons_succ]
      refine take_yes (i := 7) (v := ?vv7) rfl (by kernel_rfl) (by kernel_rfl) (by kernel_rfl) (fun _ _ _ h => h) (by rfl) (by assumption) ?hyv7 ?restv7
      case hyv7 => (intro w hSw; (try dsimp only at hSw); first | (go_simp; done) | (go_simp; with_reducible rfl))
      simp only [Act.put, List.setIfInBounds_toArray, List.set_cons_zero, List.set_cons_succ]
      refine take_yes (i := 8) (v := ?vv8) rfl (by kernel_rfl) (by kernel_rfl) (by kernel_rfl) (fun _ _ _ h => h) (by rfl) (by assumption) ?hyv8 ?restv8
      case hyv8 => (intro w hSw; (try dsimp only at hSw); first | (go_simp; done) | (go_simp; with_reducible rfl))
      simp only [Act.put, List.setIfInBounds_toArray, List.set_cons_zero, List.set_cons_succ]
      refine take_call (i := 9) rfl (by kernel_rfl) (fun Kc hK => ?_)
      go_simp
      (go_at_call 10; refine (lives5_any _).mono ?_; rintro e w8 ⟨rfl, bw8⟩)
      refine hK.out _ _ ?_ (fun hHeld => ?_)
      · first | exact ⟨x_a.c0, x_a.c1, x_a.c2, BB⟩ | exact ⟨cell_on bw8 hHeld.1, cell_on bw8 hHeld.2.1, cell_on bw8 hHeld.2.2.1, also hHeld.2.2.2 bw8⟩ | exact ⟨cell_on bw7 hHeld.1, cell_on bw7 hHeld.2.1, cell_on bw7 hHeld.2.2.1, also hHeld.2.2.2 bw7⟩ | exact ⟨cell_on bw6 hHeld.1, cell_on bw6 hHeld.2.1, cell_on bw6 hHeld.2.2.1, also hHeld.2.2.2 bw6⟩
      clear hK Kc
      have zbw8 := bw8.size
      replace BB := also BB bw8
      replace h1 := h1.below bw8
      replace x_a := x_a.on bw8
      replace r2 := r2.below bw8
      replace x_n := x_n.on bw8
      replace hd1 := hd1.below bw8
      replace h3 := h3.below bw8
      replace x4 := x4.below bw8
      replace hx5 := hx5.below bw8
      replace x_r := x_r.on bw8
      replace x6 := x6.below bw8
      refine take_yes (i := 10) (v := ?vv10) rfl (by kernel_rfl) (by kernel_rfl) (by kernel_rfl) (fun _ _ _ h => h) (by rfl) (by assumption) ?hyv10 ?restv10
      case hyv10 => (intro w hSw; (try dsimp only at hSw); first | (go_simp; done) | (go_simp; with_reducible rfl))
      simp only [Act.put, List.setIfInBounds_toArray, List.set_cons_zero, List.set_cons_succ]
      refine take_yes (i := 11) (v := ?vv11) rfl (by kernel_rfl) (by kernel_rfl) (by kernel_rfl) (fun _ _ _ h => h) (by rfl) (by assumption) ?hyv11 ?restv11
      case hyv11 => (intro w hSw; (try dsimp only at hSw); first | (go_simp; done) | (go_simp; with_reducible rfl))
      simp only [Act.put, List.setIfInBounds_toArray, List.set_cons_zero, List.set_cons_succ]
      refine wpAnyH_done (by kernel_rfl) ?_ _
      go_wp2
      go_ret
      exact ⟨rfl, BB⟩
set_option maxRecDepth 100000 in
set_option maxHeartbeats 10000000 in
theorem cF (s : ByteArray) (u t1 t2 : ByteArray) (T : Nat) (z : Int) (N2 : Nat) (w : World) (hpa : ∀ w, Calls Tryz.prog 4 #[.string u] w (GotMk w z N2 0)) (hw1 : ∀ w, Calls Tryz.prog 5 #[.string t1] w (GotW1 w z 0)) (hl : 200 < s.size) (hu : u = s.extract 0 200) (he1 : u.extract 0 T = t1) (hne : ∀ k (hk : k < u.size), k < T → ¬ (u[k].toNat : Int) = 47) (he2 : u.extract (T + 1) u.size = t2) (hT : T < u.size) (hch : ∀ hk : T < u.size, (u[T].toNat : Int) = 47) (hsz : u.size ≤ 200) (hp2 : ∀ w, Calls Tryz.prog 6 #[.string t2] w (GotHPF w N2 0)) (hz : z.natAbs < 4294967296 ^ 21) (hN : N2 < 4294967296 ^ 21) (hN0 : 0 < N2) (hS : u = qText (lowN z N2) (lowD z N2)) (hL1 : z = lowN z N2) (hL2 : N2 = lowD z N2) :
    Calls Tryz.prog 3 #[.string s] w fun e w' => e = .returned (.bool true) ∧ Below w.heap.size w w' := by
  have HPA : Hid _ := hpa
  clear hpa
  have HW1 : Hid _ := hw1
  clear hw1
  have HNE : Hid _ := hne
  clear hne
  have HE1 : Hid _ := he1
  clear he1
  have HE2 : Hid _ := he2
  clear he2
  have HCH : Hid _ := hch
  clear hch
  have HU : Hid _ := hu
  clear hu
  have HP2 : Hid _ := hp2
  clear hp2
  have HZ : Hid _ := hz
  clear hz
  have HN : Hid _ := hN
  clear hN
  have HS : Hid _ := hS
  clear hS
  have HL1 : Hid _ := hL1
  clear hL1
  have HL2 : Hid _ := hL2
  clear hL2
  have hl' : (200 : Int) < (s.size : Int) := by omega
  have hl2 : (200 : Int) ≤ (s.size : Int) := by omega
  have BB := Below.refl w.heap.size w
  go_enter Tryz.func3, Tryz.ntmps3
  go_wp2_with (go_at_call 4; fail)
  rw [← HU.out]
  refine (HPA.out w).mono ?_
  rintro e w1 ⟨n1, a1, l1, c1, d1, m1, k1, rfl, h1, f1, g1, bw1⟩
  have zbw1 := bw1.size
  replace BB := also BB bw1
  obtain ⟨V1, hV1, bV1, x_a, sV1⟩ := bs_3 w1 (.bool n1) (.slice a1 l1 c1) (.slice d1 m1 k1) 27
  have zbV1 := bV1.size
  replace BB := also BB bV1
  replace h1 := h1.below bV1
  go_wp2
  rw [← hV1]
  clear hV1
  go_loopw [5] (fun i wr => ∃ k : Nat, k ≤ T ∧ i = .int .i64 (k : Int) ∧ V1 = wr) (fun i _ => T - (intOf i).toNat)
  case atStart => exact ⟨0, Nat.zero_le _, rfl, rfl⟩
  case round =>
    obtain ⟨k, hk, rfl, hwr⟩ := hrel
    subst hwr
    rcases Nat.lt_or_eq_of_le hk with hlt | hkT
    · have hk2 : k < u.size := by omega
      have hc := HNE.out k hk2 hlt
      have hcb : ((u[k].toNat : Int) == 47) = false := by simpa using hc
      have i1 : (k : Int) < u.size := by omega
      have i0 : (0 : Int) ≤ k := by omega
      go_wp2
      go_roundw
      case rel => exact ⟨k + 1, hlt, by simp, by first | rfl | trivial⟩
      case measure => simp [intOf]; omega
    · subst hkT
      have hcx := HCH.out hT
      have hcb : ((u[k].toNat : Int) == 47) = true := by simpa using hcx
      have i1 : (k : Int) < u.size := by omega
      have i3 : (k : Int) + 1 ≤ u.size := by omega
      have i4 : wrap64 ((k : Int) + 1) = (k : Int) + 1 := by unfold wrap64; omega
      have i0 : (0 : Int) ≤ k := by omega
      have i2 : (k : Int) ≤ u.size := by omega
      go_wp2_with (go_at_call 5; fail)
      rw [HE1.out]
      refine (HW1.out V1).mono ?_
      rintro e w2 ⟨s2, d2, l2, c2, rfl, r2, bw2⟩
      have zbw2 := bw2.size
      replace BB := also BB bw2
      replace h1 := h1.below bw2
      replace x_a := x_a.on bw2
      obtain ⟨Vn, hVn, bVn, x_n, sVn⟩ := bs_2 w2 (.int .i64 s2) (.slice d2 l2 c2) 34
      have zbVn := bVn.size
      replace BB := also BB bVn
      replace h1 := h1.below bVn
      replace x_a := x_a.on bVn
      replace r2 := r2.below bVn
      obtain ⟨Vd, hVd⟩ : ∃ Vd, Vd = Vn.alloc (.cells #[.int .i64 1] 3) := ⟨_, rfl⟩
      have bVd : Below Vn.heap.size Vn Vd := by rw [hVd]; exact (Below.refl _ _).alloc (Nat.le_refl _) _
      have hd1 : HD Vd (some ⟨w2.heap.size + 1, 0, none⟩) 1 1 1 := by rw [hVd, show w2.heap.size + 1 = Vn.heap.size by rw [hVn]; simp]; exact hd_one Vn
      have zbVd := bVd.size
      replace BB := also BB bVd
      replace h1 := h1.below bVd
      replace x_a := x_a.on bVd
      replace r2 := r2.below bVd
      replace x_n := x_n.on bVd
      go_wp2_with (go_at_call 6; fail)
      rw [← hVn, ← hVd]
      clear hVn hVd
      rw [HE2.out]
      refine (HP2.out Vd).mono ?_
      rintro e w3 ⟨d3, l3, c3, rfl, h3, f3, bw3⟩
      have zbw3 := bw3.size
      replace BB := also BB bw3
      replace h1 := h1.below bw3
      replace x_a := x_a.on bw3
      replace r2 := r2.below bw3
      replace x_n := x_n.on bw3
      replace hd1 := hd1.below bw3
      have hl3 : (0 : Int) < l3 := by have := h3.pos; omega
      go_wp2_with (go_at_call 7; fail)
      refine (rqLong 0 w3 (by decide) (by decide)).mono ?_
      rintro e w4 ⟨s4, d4, l4, c4, t4, g4, h4, k4, rfl, x4, r4, bw4⟩
      have zbw4 := bw4.size
      replace BB := also BB bw4
      replace h1 := h1.below bw4
      replace x_a := x_a.on bw4
      replace r2 := r2.below bw4
      replace x_n := x_n.on bw4
      replace hd1 := hd1.below bw4
      replace h3 := h3.below bw4
      have hx5 : RQ w4 21 s2 d2 l2 c2 1 d3 l3 c3 z N2 := ⟨r2, rn_nat h3 hN0, hN0, HZ.out, HN.out, by decide⟩
      have bt : Below w4.heap.size w4 (w4.alloc (.cells #[.int .i64 s4, .slice d4 l4 c4, .int .i64 t4, .slice g4 h4 k4] 40)) := (Below.refl _ _).alloc (Nat.le_refl _) _
      have ⟨tn0, tn1, tn2, tn3⟩ := x_n.on bt
      obtain ⟨Vr, hVr, bVr, x_r, sVr⟩ := bs_4 w4 (.int .i64 s2) (.slice d2 l2 c2) (.int .i64 1) (.slice d3 l3 c3) 40
      have zbVr := bVr.size
      replace BB := also BB bVr
      replace h1 := h1.below bVr
      replace x_a := x_a.on bVr
      replace r2 := r2.below bVr
      replace x_n := x_n.on bVr
      replace hd1 := hd1.below bVr
      replace h3 := h3.below bVr
      replace x4 := x4.below bVr
      replace hx5 := hx5.below bVr
      go_wp2_with (go_at_call 8; fail)
      rw [← hVr]
      clear hVr
      refine (rqShow s2 d2 l2 c2 1 d3 l3 c3 z N2 21 Vr hx5 HS.out).mono ?_
      rintro e w5 ⟨rfl, bw5⟩
      have zbw5 := bw5.size
      replace BB := also BB bw5
      replace h1 := h1.below bw5
      replace x_a := x_a.on bw5
      replace r2 := r2.below bw5
      replace x_n := x_n.on bw5
      replace hd1 := hd1.below bw5
      replace h3 := h3.below bw5
      replace x4 := x4.below bw5
      replace hx5 := hx5.below bw5
      replace x_r := x_r.on bw5
      have ⟨x_a_0, x_a_1, x_a_2, x_a_3, x_a_4, x_a_5⟩ := x_a
      have ⟨x_r_0, x_r_1, x_r_2, x_r_3, x_r_4, x_r_5, x_r_6, x_r_7⟩ := x_r
      go_wp2_with (go_at_call 9; fail)
      refine (rqSame n1 a1 l1 c1 d1 m1 k1 z N2 s2 d2 l2 c2 1 d3 l3 c3 z N2 21 w5 h1 hx5 HL1.out HL2.out).mono ?_
      rintro e w6 ⟨rfl, bw6⟩
      clear x_a_0 x_a_1 x_a_2 x_a_3 x_a_4 x_a_5 x_r_0 x_r_1 x_r_2 x_r_3 x_r_4 x_r_5 x_r_6 x_r_7
      have zbw6 := bw6.size
      replace BB := also BB bw6
      replace h1 := h1.below bw6
      replace x_a := x_a.on bw6
      replace r2 := r2.below bw6
      replace x_n := x_n.on bw6
      replace hd1 := hd1.below bw6
      replace h3 := h3.below bw6
      replace x4 := x4.below bw6
      replace hx5 := hx5.below bw6
      replace x_r := x_r.on bw6
      go_wp2_with (go_at_call 10; fail)
      refine (lives5_any w6).mono ?_
      rintro e w7 ⟨rfl, bw7⟩
      have zbw7 := bw7.size
      replace BB := also BB bw7
      replace h1 := h1.below bw7
      replace x_a := x_a.on bw7
      replace r2 := r2.below bw7
      replace x_n := x_n.on bw7
      replace hd1 := hd1.below bw7
      replace h3 := h3.below bw7
      replace x4 := x4.below bw7
      replace hx5 := hx5.below bw7
      replace x_r := x_r.on bw7
      go_wp2
      go_ret
      exact ⟨rfl, BB⟩
end prsc
end Go.Proofs.YtaekgomplkkocabGreatDoor
