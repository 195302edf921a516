/-
  What nat's Cmp answers where both numbers have the same length.
-/
import Derived.Test.YteoepelmapjhcaaDoorCmpA
namespace Go.Proofs.YteoepelmapjhcaaDoor
open Go.RowKit Go.Shelf
set_option linter.unusedVariables false
attribute [local go_sem] Oper.semAt_some

theorem cmp_words {u v : Nat} {k : Nat} (h : u / 4294967296 ^ (k + 1) = v / 4294967296 ^ (k + 1)) (hne : wd.dg (u : Int) k ≠ wd.dg (v : Int) k) : cmpI (wd.dg (u : Int) k) (wd.dg (v : Int) k) = cmpI u v := by
  unfold cmpI
  rcases Int.lt_or_gt_of_ne hne with l | l
  · have := wd.lt_of_top h l
    rw [if_pos l, if_pos (by omega)]
  · have := wd.lt_of_top h.symm l
    rw [if_neg (by omega), if_pos l, if_neg (by omega), if_pos (by omega)]
theorem cmpI_self (x : Int) : cmpI x x = 0 := by unfold cmpI; simp

set_option maxRecDepth 100000 in
set_option maxHeartbeats 4000000 in
theorem cmp_eq (a b : Option Addr) (la lb ca cb u v p : Nat) (w : World) (ha : Sl w a la ca (wd.dcells la (u : Int))) (hu : u < 4294967296 ^ la) (hb : Sl w b lb cb (wd.dcells lb (v : Int))) (hv : v < 4294967296 ^ lb) (h1 : Hid (wd.nlen u = p + 1)) (h2 : Hid (wd.nlen v = p + 1)) :
    Calls Tryd.prog 24 #[.slice a la ca, .slice b lb cb] w fun e w' => e = .returned (.int .i64 (cmpI u v)) ∧ Below w.heap.size w w' := by
  have HU : Hid (u < 4294967296 ^ (p + 1)) := by have := wd.nlen_lt u; rwa [h1.out] at this
  have HV : Hid (v < 4294967296 ^ (p + 1)) := by have := wd.nlen_lt v; rwa [h2.out] at this
  refine callsIn_wide.1 (callsIn_of_wp_marks (F := Fence.wide) (n := 4) Tryd.func24 rfl trivial ?_ rfl)
  simp only [Tryd.ntmps24, List.size_toArray, List.length_cons, List.length_nil, Nat.reduceAdd, Nat.reduceSub, Array.replicate_succ, Array.replicate_zero, List.push_toArray, List.append_toArray, List.nil_append, List.cons_append]
  refine wpIn_wide.2 ?_
  have hB0 : Below w.heap.size w ((w.alloc (.cells #[.slice b lb cb] 23)).alloc (.cells #[.int .i64 0] 3)) := ((Below.refl _ _).alloc (Nat.le_refl _) _).alloc (by simp) _
  go_wp2
  refine wp_region_noPanic ?_
  go_region_with (first
    | (go_at_call_of 34 [Value.slice a la ca]; refine (strip_len (p + 1) a la ca u _ (ha.below (by first | exact hB0 | exact hB0.drew | exact hB0.drew.drew)) hu h1.out).mono ?_; rintro e w' ⟨a1, ca1, rfl, hw, hcut1⟩; subst hw)
    | (go_at_call 34; refine (strip_len (p + 1) b lb cb v _ (hb.below (by first | exact hB0 | exact hB0.drew | exact hB0.drew.drew)) hv h2.out).mono ?_; rintro e w' ⟨b1, cb1, rfl, hw, hcut2⟩; subst hw))
  all_goals
    refine NoPanic.normal ?_
    go_wp2_with (go_at_call 48; refine (callsIn_wide.1 (backward_in Fence.wide 3 trivial rfl _ _ _ _)).mono ?_; rintro e w' ⟨rfl, hw⟩; have hw := hw.symm; subst hw)
    have hs1 := hcut1.sl ha
    have hs2 := hcut2.sl hb
    obtain ⟨ba, oa, rfl, hba, hsa⟩ := hs1.at (by omega)
    obtain ⟨bb, ob, rfl, hbb, hsb⟩ := hs2.at (by omega)
    have k1 := hs1.room
    have k2 := hs1.big
    have k3 := hs2.room
    have k4 := hs2.big
    unfold maxLen at k2 k4
    clear hs1 hs2 hcut1 hcut2
    have hB1 : Below w.heap.size w ((((w.alloc (.cells #[.slice (some ⟨bb, ob, none⟩) (p + 1) cb1] 23)).alloc (.cells #[.int .i64 0] 3)).alloc (.cells #[.slice (some ⟨ba, oa, none⟩) (p + 1) ca1] 23)).drew) := ((((Below.refl _ _).alloc (Nat.le_refl _) _).alloc (by simp) _).alloc (by simp; omega) _).drew
    have bB : Boxed ((((w.alloc (.cells #[.slice (some ⟨bb, ob, none⟩) (p + 1) cb1] 23)).alloc (.cells #[.int .i64 0] 3)).alloc (.cells #[.slice (some ⟨ba, oa, none⟩) (p + 1) ca1] 23)).drew) w.heap.size 23 (.slice (some ⟨bb, ob, none⟩) (p + 1) cb1) :=
      ((Boxed.new w 23 (.slice (some ⟨bb, ob, none⟩) (p + 1) cb1)).alloc (.cells #[.int .i64 0] 3)).alloc (.cells #[.slice (some ⟨ba, oa, none⟩) (p + 1) ca1] 23)
    have bR : Boxed ((((w.alloc (.cells #[.slice (some ⟨bb, ob, none⟩) (p + 1) cb1] 23)).alloc (.cells #[.int .i64 0] 3)).alloc (.cells #[.slice (some ⟨ba, oa, none⟩) (p + 1) ca1] 23)).drew) (w.heap.size + 1) 3 (.int .i64 0) := by
      have := (Boxed.new (w.alloc (.cells #[.slice (some ⟨bb, ob, none⟩) (p + 1) cb1] 23)) 3 (.int .i64 0)).alloc (.cells #[.slice (some ⟨ba, oa, none⟩) (p + 1) ca1] 23)
      rw [World.size_alloc] at this
      exact this
    have bA : Boxed ((((w.alloc (.cells #[.slice (some ⟨bb, ob, none⟩) (p + 1) cb1] 23)).alloc (.cells #[.int .i64 0] 3)).alloc (.cells #[.slice (some ⟨ba, oa, none⟩) (p + 1) ca1] 23)).drew) (w.heap.size + 1 + 1) 23 (.slice (some ⟨ba, oa, none⟩) (p + 1) ca1) := by
      have := Boxed.new ((w.alloc (.cells #[.slice (some ⟨bb, ob, none⟩) (p + 1) cb1] 23)).alloc (.cells #[.int .i64 0] 3)) 23 (.slice (some ⟨ba, oa, none⟩) (p + 1) ca1)
      rw [World.size_alloc, World.size_alloc] at this
      exact this
    refine (wpIn_wide (n := 4)).1 ?_
    refine wpIn_rangeFunc_ownG (α := Fin (p + 1)) rfl (by decide) (gf := 63) (lb := #[.pointer (some ⟨w.heap.size + 1 + 1, 0, none⟩)]) rfl trivial (enters_of Tryd.func63 (by kernel_rfl) rfl)
      (backward_stops Fence.wide 3 trivial rfl (by decide) (w.heap.size + 1 + 1) (w.heap.size + 1 + 1 + 1) p ca1 u _ _ (by simp) (by simp) (by omega) bA.cell ba oa rfl (by omega) k1 (by omega) (hsa.below hB1 hba)) belowK_t (belowK_b (by simp)) (Below.refl _ _) (fun _ => rfl)
      (fun pre W => (W.cell? ⟨w.heap.size, 0, none⟩ = some (.slice (some ⟨bb, ob, none⟩) (p + 1) cb1) ∧ W.cell? ⟨w.heap.size + 1, 0, none⟩ = some (.int .i64 0) ∧ W.frozen? ⟨w.heap.size + 1, 0, none⟩ = false ∧ ∀ x ∈ pre, wd.dg (u : Int) x.1 = wd.dg (v : Int) x.1) ∧ Below w.heap.size w W)
      (fun c pre W => (c = .ret ∧ ∃ ini last, pre = ini ++ [last] ∧ (∀ x ∈ ini, wd.dg (u : Int) x.1 = wd.dg (v : Int) x.1) ∧ wd.dg (u : Int) last.1 ≠ wd.dg (v : Int) last.1 ∧ W.cell? ⟨w.heap.size + 1, 0, none⟩ = some (.int .i64 (cmpI (wd.dg (u : Int) last.1) (wd.dg (v : Int) last.1)))) ∧ Below w.heap.size w W)
      (OwnFrom.and (Own.from (fun s A B row hs hg hr => ⟨cell_kept hs.1 hg hr, cell_kept hs.2.1 hg hr, (frozen_kept hs.2.1 hg hr).trans hs.2.2.1, hs.2.2.2⟩) _) (ownFrom_below (Nat.le_refl _) (by simp; omega)))
      (fun c => OwnFrom.and (Own.from (fun s A B row hs hg hr => by obtain ⟨hc, ini, last, e1, e2, e3, e4⟩ := hs; exact ⟨hc, ini, last, e1, e2, e3, cell_kept e4 hg hr⟩) _) (ownFrom_below (Nat.le_refl _) (by simp; omega)))
      ⟨⟨bB.cell, bR.cell, bR.frozen, by simp⟩, hB1⟩
      (fun x => { tmps := #[.slice (some ⟨ba, oa, none⟩) (p + 1) ca1, .slice b lb cb, undef, .pointer (some ⟨w.heap.size, 0, none⟩), .pointer (some ⟨w.heap.size + 1, 0, none⟩), .int .i64 ((x.1 : Nat) : Int), .int .u32 (wd.dg u x.1), .slice a la ca,
        .slice (some ⟨ba, oa, none⟩) (p + 1) ca1, .slice b lb cb, .slice (some ⟨bb, ob, none⟩) (p + 1) cb1, .slice (some ⟨ba, oa, none⟩) (p + 1) ca1, .int .i64 ((p : Int) + 1), .slice (some ⟨bb, ob, none⟩) (p + 1) cb1, .int .i64 ((p : Int) + 1), .bool false, undef, undef, undef, undef, undef,
        .slice (some ⟨ba, oa, none⟩) (p + 1) ca1, .func (.func 63) #[] #[.pointer (some ⟨w.heap.size + 1 + 1, 0, none⟩)], .int .i64 ((x.1 : Nat) : Int), .int .u32 (wd.dg u x.1), undef, undef, undef, undef, undef, undef, undef, undef, undef, undef, undef, undef], defers := [] }) ?assign ?body ?done ?stop
    case assign =>
      intro l x W K hK
      gi_wp2
      exact hK
    case body =>
      rintro l pre x W ⟨⟨hcb, hcr, hfr, hp⟩, hB⟩ _
      have hx := x.2
      have c1 : W.cell? ⟨bb, ob + x.1, none⟩ = some (.int .u32 (wd.dg v x.1)) := (hB.cell (p := ⟨bb, ob + x.1, none⟩) hbb).trans (hsb.cell x.1 _ (wd.dcells_at _ _ _ hx))
      by_cases hd : wd.dg (u : Int) x.1 = wd.dg (v : Int) x.1
      · have hd' : (wd.dg (u : Int) x.1 != wd.dg (v : Int) x.1) = false := by rw [hd]; simp
        have HD : Hid _ := hd
        clear hd
        gi_wp2
        exact ⟨KeepsFrom.refl _ _, Below.refl _ _, ⟨hcb, hcr, hfr, fun y hy => (List.mem_append.1 hy).elim (hp y) (fun e => by simp at e; subst e; exact HD.out)⟩, hB⟩
      · have hd' : (wd.dg (u : Int) x.1 != wd.dg (v : Int) x.1) = true := by simpa using hd
        have HD : Hid _ := hd
        clear hd
        gi_wp2_with (refine ⟨trivial, ?_⟩; gi_at_call 49; refine (CallsIn.inRound l (callsIn_wide.2 (cmpWord_any _ _ _))).mono ?_; rintro e w' ⟨rfl, hw⟩; subst hw)
        exact ⟨(KeepsOthers.setCell _ _ _).from _, ⟨rfl, pre, x, rfl, hp, HD.out, World.cell?_setCell_same' _ _ _ (by rw [hcr]; rfl)⟩, hB.setCell (p := ⟨w.heap.size + 1, 0, none⟩) (by simp) _⟩
    case done =>
      rintro D ys W hD rfl ⟨⟨_, hcr, hfr, hp⟩, hB⟩ hK
      have huv : Hid (0 = cmpI (u : Int) v) := by
        obtain rfl : u = v := wd.eq_of_dcells (p + 1) u v HU.out HV.out (fun j hj => hp ⟨j, hj⟩ ((dn_mem p 0 ⟨j, hj⟩).2 (Nat.zero_le _)))
        exact (cmpI_self _).symm
      clear hp
      go_wp2
      have hK' := (KeepsOthers.setCell W ⟨w.heap.size + 1, 0, none⟩ (.int .i64 0)).same D _ hK rfl
      refine ⟨by simp, .inl ⟨_, _, rfl, run_takeDeferred hK', ?_⟩⟩
      have hc5 := cell_kept (World.cell?_setCell_same' W ⟨w.heap.size + 1, 0, none⟩ (.int .i64 0) (by rw [hcr]; rfl)) (grownBy_putObj' _ D (.deferred none)) (fun r e => by cases e; exact ⟨_, hK', rfl⟩)
      refine ⟨.int .i64 0, ?_, by rw [← huv.out], (hB.setCell (p := ⟨w.heap.size + 1, 0, none⟩) (by simp) _).trans (belowK_b (w := w) (Nat.le_refl _) _ D _ _ (by simp at hD; omega) hK' rfl rfl)⟩
      simp [results, Tryd.results24, go_sem, hc5]
    case stop =>
      rintro D c pre W hD ⟨r, hr, rfl⟩ ⟨⟨rfl, ini, last, e1, e2, e3, hcr⟩, hB⟩ hK
      have huv : Hid (cmpI (wd.dg (u : Int) last.1) (wd.dg (v : Int) last.1) = cmpI (u : Int) v) := by
        rw [dn_next p r (by omega)] at e1
        obtain ⟨rfl, e5⟩ := List.append_inj' e1 rfl
        obtain rfl : (⟨r, by omega⟩ : Fin (p + 1)) = last := by simpa using e5
        refine cmp_words (top_eq (by omega) HU.out HV.out fun j h1 h2 => e2 ⟨j, h2⟩ ((dn_mem p (r + 1) ⟨j, h2⟩).2 h1)) e3
      clear e1 e2 e3
      refine wpIn_wide.2 ?_
      go_wp2
      refine ⟨by simp, .inl ⟨_, _, rfl, run_takeDeferred hK, ?_⟩⟩
      have hc5 := cell_kept hcr (grownBy_putObj' _ D (.deferred none)) (fun r e => by cases e; exact ⟨_, hK, rfl⟩)
      refine ⟨.int .i64 (cmpI (wd.dg (u : Int) last.1) (wd.dg (v : Int) last.1)), ?_, by rw [← huv.out], hB.trans (belowK_b (w := w) (Nat.le_refl _) W D _ _ (by simp at hD; omega) hK rfl rfl)⟩
      simp [results, Tryd.results24, go_sem, hc5]

theorem cmp_any (a b : Option Addr) (la lb ca cb u v : Nat) (w : World) (ha : Sl w a la ca (wd.dcells la (u : Int))) (hu : u < 4294967296 ^ la) (hb : Sl w b lb cb (wd.dcells lb (v : Int))) (hv : v < 4294967296 ^ lb) :
    Calls Tryd.prog 24 #[.slice a la ca, .slice b lb cb] w fun e w' => e = .returned (.int .i64 (cmpI u v)) ∧ Below w.heap.size w w' := by
  by_cases h : wd.nlen u = wd.nlen v
  · rcases hp : wd.nlen u with _ | p
    · have e1 := wd.nlen_eq_zero.1 hp
      have e2 := wd.nlen_eq_zero.1 (h.symm.trans hp)
      exact cmp_zero a b la lb ca cb u v w ha hu hb hv hp (h.symm.trans hp) (by unfold Hid; rw [e1, e2, cmpI_self])
    · exact cmp_eq a b la lb ca cb u v p w ha hu hb hv hp (h.symm.trans hp)
  · refine cmp_ne a b la lb ca cb u v _ _ w ha hu hb hv rfl rfl h ?_
    unfold Hid cmpI
    rcases Nat.lt_or_gt_of_ne h with l | l
    · have := wd.lt_of_nlen l
      rw [if_pos (by omega), if_pos (by omega)]
    · have := wd.lt_of_nlen l
      rw [if_neg (by omega), if_pos (by omega), if_neg (by omega), if_pos (by omega)]
end Go.Proofs.YteoepelmapjhcaaDoor
