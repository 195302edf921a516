/-
  zelligeref01.Parse, walked.
-/
import Derived.Test.YtjkbmpcchlfglaaRefH
namespace Go.Proofs.Ytjkbmpcchlfglaa
open Go.RowKit
set_option linter.unusedVariables false

/-- What Parse answers: whether the text is the text of the number that was read, and, if it is, that number's digits. -/
def ParPost (s : ByteArray) (w : World) (e : Ending) (w' : World) : Prop := ∃ (b : Nat) (ok : Bool), e = .returned (.tuple #[.slice (some ⟨b, 0, none⟩) 16 16, .bool ok]) ∧ (ok = true ↔ showS (canon (readI s)) = s) ∧ (ok = true → Row w' b (dcells 16 (readI s)) ∧ b < w'.heap.size) ∧ Below w.heap.size w w'
theorem bool_iff (a b : ByteArray) : (a.toList == b.toList) = true ↔ a = b := by
  rw [ByteArray.toList_eq, ByteArray.toList_eq]
  constructor
  · intro h; exact bytes_eq (by simpa using h)
  · rintro rfl; simp
theorem parStartA (w : World) (s : ByteArray) (f : Nat) (t : TypeId) (hf : f ≤ s.size) : ParRel w s f (w.heap.size + 1) (.slice (some ⟨w.heap.size, 0, none⟩) 16 16) (.int .i64 (f : Int))
    (((w.alloc (.cells #[.int .i64 0, .int .i64 0, .int .i64 0, .int .i64 0, .int .i64 0, .int .i64 0, .int .i64 0, .int .i64 0, .int .i64 0, .int .i64 0, .int .i64 0, .int .i64 0, .int .i64 0, .int .i64 0, .int .i64 0, .int .i64 0] t)).alloc (.cells #[.int .i64 10, .int .i64 0, .int .i64 0, .int .i64 0, .int .i64 0, .int .i64 0, .int .i64 0, .int .i64 0, .int .i64 0, .int .i64 0, .int .i64 0, .int .i64 0, .int .i64 0, .int .i64 0, .int .i64 0, .int .i64 0] t)).drew) := by
  have h2 := Row.new (w.alloc (.cells (dcells 16 0).toArray t)) (dcells 16 10) t
  rw [World.size_alloc] at h2
  have h1 := (Row.new w (dcells 16 0) t).alloc (.cells (dcells 16 10).toArray t) (by rw [World.size_alloc]; omega)
  rw [zero16, small16 10 (by decide) (by decide)] at h1 h2
  refine ⟨f, w.heap.size, 0, Nat.le_refl _, hf, rfl, rfl, by simp [rd], ?_, ?_, (((Below.refl _ _).alloc (Nat.le_refl _) _).alloc (by simp) _).drew, by simp; omega, by simp⟩
  · rw [zero16]; exact h1.drew
  · rw [small16 10 (by decide) (by decide)]; exact h2.drew
theorem parStartB (w : World) (s : ByteArray) (f : Nat) (t : TypeId) (hf : f ≤ s.size) : ParRel w s f w.heap.size (.slice (some ⟨w.heap.size + 1, 0, none⟩) 16 16) (.int .i64 (f : Int))
    (((w.alloc (.cells #[.int .i64 10, .int .i64 0, .int .i64 0, .int .i64 0, .int .i64 0, .int .i64 0, .int .i64 0, .int .i64 0, .int .i64 0, .int .i64 0, .int .i64 0, .int .i64 0, .int .i64 0, .int .i64 0, .int .i64 0, .int .i64 0] t)).alloc (.cells #[.int .i64 0, .int .i64 0, .int .i64 0, .int .i64 0, .int .i64 0, .int .i64 0, .int .i64 0, .int .i64 0, .int .i64 0, .int .i64 0, .int .i64 0, .int .i64 0, .int .i64 0, .int .i64 0, .int .i64 0, .int .i64 0] t)).drew) := by
  have h2 := Row.new (w.alloc (.cells (dcells 16 10).toArray t)) (dcells 16 0) t
  rw [World.size_alloc] at h2
  have h1 := (Row.new w (dcells 16 10) t).alloc (.cells (dcells 16 0).toArray t) (by rw [World.size_alloc]; omega)
  rw [zero16, small16 10 (by decide) (by decide)] at h1 h2
  refine ⟨f, w.heap.size + 1, 0, Nat.le_refl _, hf, rfl, rfl, by simp [rd], ?_, ?_, (((Below.refl _ _).alloc (Nat.le_refl _) _).alloc (by simp) _).drew, by simp, by simp; omega⟩
  · rw [zero16]; exact h2.drew
  · rw [small16 10 (by decide) (by decide)]; exact h1.drew
set_option maxHeartbeats 2000000 in
theorem rparse_empty (s : ByteArray) (w : World) (hs : s.size ≤ 48) (hz : s.size = 0) (hm : ¬ (nums s).head? = some 45) :
    Calls Try.prog 28 #[.string s, .int .i64 16] w fun e w' => ParPost s w e w' := by
  have HM : Hid _ := hm
  have HF : Hid (fromOf s = 0) := by unfold Hid fromOf; rw [if_neg HM.out]
  have hdz : ¬ (0 : Int) < (s.size : Int) := by omega
  have hl48 : ¬ (48 : Int) < (s.size : Int) := by omega
  have hmk := make16
  clear hm
  go_enter Try.func28, Try.ntmps28
  go_wp2
  go_region
  · go_wp2
    clear hmk
    go_loopw [6, 9] (fun l i wr => ParRel w s 0 (w.heap.size + 1) l i wr) (fun _ i _ => s.size - (intOf i).toNat)
    case atStart => exact parStartA w s 0 3 (by omega)
    case round =>
      obtain ⟨j, bl, v, hf, hj, rfl, rfl, hv0, hrow, hten, hbr, hbl, hbt⟩ := hrel
      have HV : Hid (v = rd (((nums s).drop 0).take (j - 0)) 0) := hv0
      clear hv0
      by_cases hlt : j < s.size
      · exfalso; omega
      · obtain rfl : j = s.size := by omega
        have EZ : Hid (readI s = v) := by
          unfold Hid
          rw [readI_from, HF.out, if_neg HM.out, HV.out, List.take_of_length_le (by rw [List.length_drop, nums_length]; omega)]
        obtain ⟨c0, c1⟩ := canon_range (v)
        clear HV
        go_wp2_with (first
          | (go_at_call 27; refine (rshow_any (canon v) bl _ (by rw [dcells_canon]; exact hrow) hbl c0 c1).mono ?_; rintro e w2 ⟨rfl, hb2⟩))
        go_ret2
        exact ⟨bl, _, rfl, by rw [EZ.out]; exact bool_iff _ _, fun _ => ⟨by rw [EZ.out]; exact hrow.below hb2 hbl, Nat.lt_of_lt_of_le hbl hb2.size⟩, hbr.trans (hb2.mono hbr.size)⟩
  · go_wp2
    clear hmk
    go_loopw [6, 9] (fun l i wr => ParRel w s 0 w.heap.size l i wr) (fun _ i _ => s.size - (intOf i).toNat)
    case atStart => exact parStartB w s 0 3 (by omega)
    case round =>
      obtain ⟨j, bl, v, hf, hj, rfl, rfl, hv0, hrow, hten, hbr, hbl, hbt⟩ := hrel
      have HV : Hid (v = rd (((nums s).drop 0).take (j - 0)) 0) := hv0
      clear hv0
      by_cases hlt : j < s.size
      · exfalso; omega
      · obtain rfl : j = s.size := by omega
        have EZ : Hid (readI s = v) := by
          unfold Hid
          rw [readI_from, HF.out, if_neg HM.out, HV.out, List.take_of_length_le (by rw [List.length_drop, nums_length]; omega)]
        obtain ⟨c0, c1⟩ := canon_range (v)
        clear HV
        go_wp2_with (first
          | (go_at_call 27; refine (rshow_any (canon v) bl _ (by rw [dcells_canon]; exact hrow) hbl c0 c1).mono ?_; rintro e w2 ⟨rfl, hb2⟩))
        go_ret2
        exact ⟨bl, _, rfl, by rw [EZ.out]; exact bool_iff _ _, fun _ => ⟨by rw [EZ.out]; exact hrow.below hb2 hbl, Nat.lt_of_lt_of_le hbl hb2.size⟩, hbr.trans (hb2.mono hbr.size)⟩
set_option maxHeartbeats 2000000 in
theorem rparse_plain (s : ByteArray) (w : World) (hs : s.size ≤ 48) (h0 : 0 < s.size) (h45 : ((s[0].toNat : Int) == 45) = false) (hm : ¬ (nums s).head? = some 45) :
    Calls Try.prog 28 #[.string s, .int .i64 16] w fun e w' => ParPost s w e w' := by
  have HM : Hid _ := hm
  have HF : Hid (fromOf s = 0) := by unfold Hid fromOf; rw [if_neg HM.out]
  have hdz : (0 : Int) < (s.size : Int) := by omega
  have hl48 : ¬ (48 : Int) < (s.size : Int) := by omega
  have hmk := make16
  clear hm
  go_enter Try.func28, Try.ntmps28
  go_wp2
  go_region
  · go_wp2
    clear hmk
    go_loopw [6, 9] (fun l i wr => ParRel w s 0 (w.heap.size + 1) l i wr) (fun _ i _ => s.size - (intOf i).toNat)
    case atStart => exact parStartA w s 0 3 (by omega)
    case round =>
      obtain ⟨j, bl, v, hf, hj, rfl, rfl, hv0, hrow, hten, hbr, hbl, hbt⟩ := hrel
      have HV : Hid (v = rd (((nums s).drop 0).take (j - 0)) 0) := hv0
      clear hv0
      by_cases hlt : j < s.size
      · have hl : (j : Int) < (s.size : Int) := by omega
        by_cases hd1 : (s[j].toNat : Int) < 48
        · have HN : Hid (showS (canon (readI s)) ≠ s) := not_show s _ j hlt (by rw [HF.out]; exact hf) (Or.inl hd1)
          go_wp2
          go_ret2
          exact ⟨bl, false, rfl, by simpa using HN.out, fun h => by simp at h, hbr⟩
        · by_cases hd2 : 57 < (s[j].toNat : Int)
          · have HN : Hid (showS (canon (readI s)) ≠ s) := not_show s _ j hlt (by rw [HF.out]; exact hf) (Or.inr hd2)
            go_wp2
            go_ret2
            exact ⟨bl, false, rfl, by simpa using HN.out, fun h => by simp at h, hbr⟩
          · have hmk := make16
            have g1 : 48 ≤ (s[j].toNat : Int) := by omega
            have g2 : (s[j].toNat : Int) ≤ 57 := by omega
            have hD : ∀ t, Row (wr.alloc (.cells #[.int .i64 ((s[j].toNat : Int) - 48), .int .i64 0, .int .i64 0, .int .i64 0, .int .i64 0, .int .i64 0, .int .i64 0, .int .i64 0, .int .i64 0, .int .i64 0, .int .i64 0, .int .i64 0, .int .i64 0, .int .i64 0, .int .i64 0, .int .i64 0] t)) wr.heap.size (dcells 16 ((s[j].toNat : Int) - 48)) := fun t => by
              have h := Row.new wr (dcells 16 ((s[j].toNat : Int) - 48)) t
              rw [small16 _ (by omega) (by omega)] at h ⊢
              exact h
            go_wp2_with (first
              | (go_at_call 19; refine (rmul_any v 10 bl (w.heap.size + 1) _ (hrow.alloc _ hbl) (hten.alloc _ hbt) (by simp; omega) (by simp; omega)).mono ?_; rintro e w1 ⟨b1, rfl, m1⟩)
              | (go_at_call 12; refine (radd_any (v * 10) ((s[j].toNat : Int) - 48) b1 wr.heap.size _ m1.row ((hD _).below m1.below (by simp)) m1.size (Nat.lt_of_lt_of_le (by simp) m1.below.size)).mono ?_; rintro e w2 ⟨b2, rfl, m2⟩))
            go_roundw
            case rel => exact parRel_next w wr w1 w2 s 0 (w.heap.size + 1) j b1 b2 v _ hf hlt HV.out g1 g2 hten hbr hbt m1 m2
            case measure => simp [intOf]; omega
      · obtain rfl : j = s.size := by omega
        have EZ : Hid (readI s = v) := by
          unfold Hid
          rw [readI_from, HF.out, if_neg HM.out, HV.out, List.take_of_length_le (by rw [List.length_drop, nums_length]; omega)]
        obtain ⟨c0, c1⟩ := canon_range (v)
        clear HV
        go_wp2_with (first
          | (go_at_call 27; refine (rshow_any (canon v) bl _ (by rw [dcells_canon]; exact hrow) hbl c0 c1).mono ?_; rintro e w2 ⟨rfl, hb2⟩))
        go_ret2
        exact ⟨bl, _, rfl, by rw [EZ.out]; exact bool_iff _ _, fun _ => ⟨by rw [EZ.out]; exact hrow.below hb2 hbl, Nat.lt_of_lt_of_le hbl hb2.size⟩, hbr.trans (hb2.mono hbr.size)⟩
  · go_wp2
    clear hmk
    go_loopw [6, 9] (fun l i wr => ParRel w s 0 w.heap.size l i wr) (fun _ i _ => s.size - (intOf i).toNat)
    case atStart => exact parStartB w s 0 3 (by omega)
    case round =>
      obtain ⟨j, bl, v, hf, hj, rfl, rfl, hv0, hrow, hten, hbr, hbl, hbt⟩ := hrel
      have HV : Hid (v = rd (((nums s).drop 0).take (j - 0)) 0) := hv0
      clear hv0
      by_cases hlt : j < s.size
      · have hl : (j : Int) < (s.size : Int) := by omega
        by_cases hd1 : (s[j].toNat : Int) < 48
        · have HN : Hid (showS (canon (readI s)) ≠ s) := not_show s _ j hlt (by rw [HF.out]; exact hf) (Or.inl hd1)
          go_wp2
          go_ret2
          exact ⟨bl, false, rfl, by simpa using HN.out, fun h => by simp at h, hbr⟩
        · by_cases hd2 : 57 < (s[j].toNat : Int)
          · have HN : Hid (showS (canon (readI s)) ≠ s) := not_show s _ j hlt (by rw [HF.out]; exact hf) (Or.inr hd2)
            go_wp2
            go_ret2
            exact ⟨bl, false, rfl, by simpa using HN.out, fun h => by simp at h, hbr⟩
          · have hmk := make16
            have g1 : 48 ≤ (s[j].toNat : Int) := by omega
            have g2 : (s[j].toNat : Int) ≤ 57 := by omega
            have hD : ∀ t, Row (wr.alloc (.cells #[.int .i64 ((s[j].toNat : Int) - 48), .int .i64 0, .int .i64 0, .int .i64 0, .int .i64 0, .int .i64 0, .int .i64 0, .int .i64 0, .int .i64 0, .int .i64 0, .int .i64 0, .int .i64 0, .int .i64 0, .int .i64 0, .int .i64 0, .int .i64 0] t)) wr.heap.size (dcells 16 ((s[j].toNat : Int) - 48)) := fun t => by
              have h := Row.new wr (dcells 16 ((s[j].toNat : Int) - 48)) t
              rw [small16 _ (by omega) (by omega)] at h ⊢
              exact h
            go_wp2_with (first
              | (go_at_call 19; refine (rmul_any v 10 bl w.heap.size _ (hrow.alloc _ hbl) (hten.alloc _ hbt) (by simp; omega) (by simp; omega)).mono ?_; rintro e w1 ⟨b1, rfl, m1⟩)
              | (go_at_call 12; refine (radd_any (v * 10) ((s[j].toNat : Int) - 48) b1 wr.heap.size _ m1.row ((hD _).below m1.below (by simp)) m1.size (Nat.lt_of_lt_of_le (by simp) m1.below.size)).mono ?_; rintro e w2 ⟨b2, rfl, m2⟩))
            go_roundw
            case rel => exact parRel_next w wr w1 w2 s 0 w.heap.size j b1 b2 v _ hf hlt HV.out g1 g2 hten hbr hbt m1 m2
            case measure => simp [intOf]; omega
      · obtain rfl : j = s.size := by omega
        have EZ : Hid (readI s = v) := by
          unfold Hid
          rw [readI_from, HF.out, if_neg HM.out, HV.out, List.take_of_length_le (by rw [List.length_drop, nums_length]; omega)]
        obtain ⟨c0, c1⟩ := canon_range (v)
        clear HV
        go_wp2_with (first
          | (go_at_call 27; refine (rshow_any (canon v) bl _ (by rw [dcells_canon]; exact hrow) hbl c0 c1).mono ?_; rintro e w2 ⟨rfl, hb2⟩))
        go_ret2
        exact ⟨bl, _, rfl, by rw [EZ.out]; exact bool_iff _ _, fun _ => ⟨by rw [EZ.out]; exact hrow.below hb2 hbl, Nat.lt_of_lt_of_le hbl hb2.size⟩, hbr.trans (hb2.mono hbr.size)⟩
set_option maxHeartbeats 2000000 in
theorem rparse_minus (s : ByteArray) (w : World) (hs : s.size ≤ 48) (h0 : 0 < s.size) (h45 : ((s[0].toNat : Int) == 45) = true) (hm : (nums s).head? = some 45) :
    Calls Try.prog 28 #[.string s, .int .i64 16] w fun e w' => ParPost s w e w' := by
  have HM : Hid _ := hm
  have HF : Hid (fromOf s = 1) := by unfold Hid fromOf; rw [if_pos HM.out]
  have hdz : (0 : Int) < (s.size : Int) := by omega
  have hl48 : ¬ (48 : Int) < (s.size : Int) := by omega
  have hmk := make16
  clear hm
  go_enter Try.func28, Try.ntmps28
  go_wp2
  go_region
  · go_wp2
    clear hmk
    go_loopw [6, 9] (fun l i wr => ParRel w s 1 (w.heap.size + 1) l i wr) (fun _ i _ => s.size - (intOf i).toNat)
    case atStart => exact parStartA w s 1 3 (by omega)
    case round =>
      obtain ⟨j, bl, v, hf, hj, rfl, rfl, hv0, hrow, hten, hbr, hbl, hbt⟩ := hrel
      have HV : Hid (v = rd (((nums s).drop 1).take (j - 1)) 0) := hv0
      clear hv0
      by_cases hlt : j < s.size
      · have hl : (j : Int) < (s.size : Int) := by omega
        by_cases hd1 : (s[j].toNat : Int) < 48
        · have HN : Hid (showS (canon (readI s)) ≠ s) := not_show s _ j hlt (by rw [HF.out]; exact hf) (Or.inl hd1)
          go_wp2
          go_ret2
          exact ⟨bl, false, rfl, by simpa using HN.out, fun h => by simp at h, hbr⟩
        · by_cases hd2 : 57 < (s[j].toNat : Int)
          · have HN : Hid (showS (canon (readI s)) ≠ s) := not_show s _ j hlt (by rw [HF.out]; exact hf) (Or.inr hd2)
            go_wp2
            go_ret2
            exact ⟨bl, false, rfl, by simpa using HN.out, fun h => by simp at h, hbr⟩
          · have hmk := make16
            have g1 : 48 ≤ (s[j].toNat : Int) := by omega
            have g2 : (s[j].toNat : Int) ≤ 57 := by omega
            have hD : ∀ t, Row (wr.alloc (.cells #[.int .i64 ((s[j].toNat : Int) - 48), .int .i64 0, .int .i64 0, .int .i64 0, .int .i64 0, .int .i64 0, .int .i64 0, .int .i64 0, .int .i64 0, .int .i64 0, .int .i64 0, .int .i64 0, .int .i64 0, .int .i64 0, .int .i64 0, .int .i64 0] t)) wr.heap.size (dcells 16 ((s[j].toNat : Int) - 48)) := fun t => by
              have h := Row.new wr (dcells 16 ((s[j].toNat : Int) - 48)) t
              rw [small16 _ (by omega) (by omega)] at h ⊢
              exact h
            go_wp2_with (first
              | (go_at_call 19; refine (rmul_any v 10 bl (w.heap.size + 1) _ (hrow.alloc _ hbl) (hten.alloc _ hbt) (by simp; omega) (by simp; omega)).mono ?_; rintro e w1 ⟨b1, rfl, m1⟩)
              | (go_at_call 12; refine (radd_any (v * 10) ((s[j].toNat : Int) - 48) b1 wr.heap.size _ m1.row ((hD _).below m1.below (by simp)) m1.size (Nat.lt_of_lt_of_le (by simp) m1.below.size)).mono ?_; rintro e w2 ⟨b2, rfl, m2⟩))
            go_roundw
            case rel => exact parRel_next w wr w1 w2 s 1 (w.heap.size + 1) j b1 b2 v _ hf hlt HV.out g1 g2 hten hbr hbt m1 m2
            case measure => simp [intOf]; omega
      · obtain rfl : j = s.size := by omega
        have EZ : Hid (readI s = -v) := by
          unfold Hid
          rw [readI_from, HF.out, if_pos HM.out, HV.out, List.take_of_length_le (by rw [List.length_drop, nums_length]; omega)]
        obtain ⟨c0, c1⟩ := canon_range (-v)
        clear HV
        go_wp2_with (first
          | (go_at_call 14; refine (rneg_any v bl _ hrow hbl).mono ?_; rintro e w1 ⟨bn, rfl, hm⟩)
          | (go_at_call 27; refine (rshow_any (canon (-v)) bn _ (by rw [dcells_canon]; exact hm.row) hm.size c0 c1).mono ?_; rintro e w2 ⟨rfl, hb2⟩))
        go_ret2
        exact ⟨bn, _, rfl, by rw [EZ.out]; exact bool_iff _ _, fun _ => ⟨by rw [EZ.out]; exact hm.row.below hb2 hm.size, Nat.lt_of_lt_of_le hm.size hb2.size⟩, (hbr.trans (hm.below.mono hbr.size)).trans (hb2.mono (Nat.le_trans hbr.size hm.below.size))⟩
  · go_wp2
    clear hmk
    go_loopw [6, 9] (fun l i wr => ParRel w s 1 w.heap.size l i wr) (fun _ i _ => s.size - (intOf i).toNat)
    case atStart => exact parStartB w s 1 3 (by omega)
    case round =>
      obtain ⟨j, bl, v, hf, hj, rfl, rfl, hv0, hrow, hten, hbr, hbl, hbt⟩ := hrel
      have HV : Hid (v = rd (((nums s).drop 1).take (j - 1)) 0) := hv0
      clear hv0
      by_cases hlt : j < s.size
      · have hl : (j : Int) < (s.size : Int) := by omega
        by_cases hd1 : (s[j].toNat : Int) < 48
        · have HN : Hid (showS (canon (readI s)) ≠ s) := not_show s _ j hlt (by rw [HF.out]; exact hf) (Or.inl hd1)
          go_wp2
          go_ret2
          exact ⟨bl, false, rfl, by simpa using HN.out, fun h => by simp at h, hbr⟩
        · by_cases hd2 : 57 < (s[j].toNat : Int)
          · have HN : Hid (showS (canon (readI s)) ≠ s) := not_show s _ j hlt (by rw [HF.out]; exact hf) (Or.inr hd2)
            go_wp2
            go_ret2
            exact ⟨bl, false, rfl, by simpa using HN.out, fun h => by simp at h, hbr⟩
          · have hmk := make16
            have g1 : 48 ≤ (s[j].toNat : Int) := by omega
            have g2 : (s[j].toNat : Int) ≤ 57 := by omega
            have hD : ∀ t, Row (wr.alloc (.cells #[.int .i64 ((s[j].toNat : Int) - 48), .int .i64 0, .int .i64 0, .int .i64 0, .int .i64 0, .int .i64 0, .int .i64 0, .int .i64 0, .int .i64 0, .int .i64 0, .int .i64 0, .int .i64 0, .int .i64 0, .int .i64 0, .int .i64 0, .int .i64 0] t)) wr.heap.size (dcells 16 ((s[j].toNat : Int) - 48)) := fun t => by
              have h := Row.new wr (dcells 16 ((s[j].toNat : Int) - 48)) t
              rw [small16 _ (by omega) (by omega)] at h ⊢
              exact h
            go_wp2_with (first
              | (go_at_call 19; refine (rmul_any v 10 bl w.heap.size _ (hrow.alloc _ hbl) (hten.alloc _ hbt) (by simp; omega) (by simp; omega)).mono ?_; rintro e w1 ⟨b1, rfl, m1⟩)
              | (go_at_call 12; refine (radd_any (v * 10) ((s[j].toNat : Int) - 48) b1 wr.heap.size _ m1.row ((hD _).below m1.below (by simp)) m1.size (Nat.lt_of_lt_of_le (by simp) m1.below.size)).mono ?_; rintro e w2 ⟨b2, rfl, m2⟩))
            go_roundw
            case rel => exact parRel_next w wr w1 w2 s 1 w.heap.size j b1 b2 v _ hf hlt HV.out g1 g2 hten hbr hbt m1 m2
            case measure => simp [intOf]; omega
      · obtain rfl : j = s.size := by omega
        have EZ : Hid (readI s = -v) := by
          unfold Hid
          rw [readI_from, HF.out, if_pos HM.out, HV.out, List.take_of_length_le (by rw [List.length_drop, nums_length]; omega)]
        obtain ⟨c0, c1⟩ := canon_range (-v)
        clear HV
        go_wp2_with (first
          | (go_at_call 14; refine (rneg_any v bl _ hrow hbl).mono ?_; rintro e w1 ⟨bn, rfl, hm⟩)
          | (go_at_call 27; refine (rshow_any (canon (-v)) bn _ (by rw [dcells_canon]; exact hm.row) hm.size c0 c1).mono ?_; rintro e w2 ⟨rfl, hb2⟩))
        go_ret2
        exact ⟨bn, _, rfl, by rw [EZ.out]; exact bool_iff _ _, fun _ => ⟨by rw [EZ.out]; exact hm.row.below hb2 hm.size, Nat.lt_of_lt_of_le hm.size hb2.size⟩, (hbr.trans (hm.below.mono hbr.size)).trans (hb2.mono (Nat.le_trans hbr.size hm.below.size))⟩
end Go.Proofs.Ytjkbmpcchlfglaa
