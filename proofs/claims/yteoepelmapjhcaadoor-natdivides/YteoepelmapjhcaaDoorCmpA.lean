/-
  What nat's Cmp answers.
-/
import Derived.Test.YteoepelmapjhcaaDoorBackA
import Derived.Test.YteoepelmapjhcaaDoorNatC
import Derived.Test.YteoepelmapjhcaaDoorHeld
namespace Go.Proofs.YteoepelmapjhcaaDoor
open Go.RowKit Go.Shelf
set_option linter.unusedVariables false
attribute [local go_sem] Oper.semAt_some

/-- -1, 0 or 1. -/
def cmpI (x y : Int) : Int := if x < y then -1 else if y < x then 1 else 0
theorem cmpInt_any (x y : Int) (w : World) :
    Calls Tryd.prog 47 #[.int .i64 x, .int .i64 y] w fun e w' => e = .returned (.int .i64 (cmpI x y)) ∧ w = w' := by
  unfold cmpI
  go_enter Tryd.func47, Tryd.ntmps47
  go_wp2
  all_goals (go_ret; exact ⟨rfl, rfl⟩)
theorem cmpWord_any (x y : Int) (w : World) :
    Calls Tryd.prog 49 #[.int .u32 x, .int .u32 y] w fun e w' => e = .returned (.int .i64 (cmpI x y)) ∧ w = w' := by
  unfold cmpI
  go_enter Tryd.func49, Tryd.ntmps49
  go_wp2
  all_goals (go_ret; exact ⟨rfl, rfl⟩)
/-- Equal from place k on. -/
theorem top_eq {u v m k : Nat} (hk : k ≤ m) (hu : u < 4294967296 ^ m) (hv : v < 4294967296 ^ m) (h : ∀ j, k ≤ j → j < m → wd.dg (u : Int) j = wd.dg (v : Int) j) : u / 4294967296 ^ k = v / 4294967296 ^ k := by
  have hlt : ∀ x : Nat, x < 4294967296 ^ m → x / 4294967296 ^ k < 4294967296 ^ (m - k) := fun x hx => by
    refine Nat.div_lt_of_lt_mul ?_
    rw [← Nat.pow_add, show k + (m - k) = m by omega]
    exact hx
  refine wd.eq_of_dcells (m - k) _ _ (hlt u hu) (hlt v hv) fun j hj => ?_
  rw [Int.natCast_ediv, Int.natCast_ediv, wd.pow_cast, wd.dg_div, wd.dg_div]
  exact h _ (by omega) (by omega)

theorem strip_len (m : Nat) (a : Option Addr) (l cap u : Nat) (w : World) (hs : Sl w a l cap (wd.dcells l (u : Int))) (hu : u < 4294967296 ^ l) (hm : wd.nlen u = m) :
    Calls Tryd.prog 34 #[.slice a l cap] w fun e w' => ∃ a' cap', e = .returned (.slice a' m cap') ∧ w = w' ∧ Cut a l cap a' m cap' := by
  subst hm
  exact strip_any a l cap u w hs hu
set_option maxRecDepth 100000 in
set_option maxHeartbeats 2000000 in
theorem cmp_ne (a b : Option Addr) (la lb ca cb u v m1 m2 : Nat) (w : World) (ha : Sl w a la ca (wd.dcells la (u : Int))) (hu : u < 4294967296 ^ la) (hb : Sl w b lb cb (wd.dcells lb (v : Int))) (hv : v < 4294967296 ^ lb) (h1 : Hid (wd.nlen u = m1)) (h2 : Hid (wd.nlen v = m2)) (hne : m1 ≠ m2) (HC : Hid (cmpI (m1 : Int) m2 = cmpI u v)) :
    Calls Tryd.prog 24 #[.slice a la ca, .slice b lb cb] w fun e w' => e = .returned (.int .i64 (cmpI u v)) ∧ Below w.heap.size w w' := by
  refine callsIn_wide.1 (callsIn_of_wp_marks (F := Fence.wide) (n := 4) Tryd.func24 rfl trivial ?_ rfl)
  simp only [Tryd.ntmps24, List.size_toArray, List.length_cons, List.length_nil, Nat.reduceAdd, Nat.reduceSub, Array.replicate_succ, Array.replicate_zero, List.push_toArray, List.append_toArray, List.nil_append, List.cons_append]
  refine wpIn_wide.2 ?_
  have hB0 : Below w.heap.size w ((w.alloc (.cells #[.slice b lb cb] 23)).alloc (.cells #[.int .i64 0] 3)) := ((Below.refl _ _).alloc (Nat.le_refl _) _).alloc (by simp) _
  go_wp2
  refine wp_region_noPanic ?_
  go_region_with (first
    | (go_at_call_of 34 [Value.slice a la ca]; refine (strip_len m1 a la ca u _ (ha.below (by first | exact hB0 | exact hB0.drew | exact hB0.drew.drew)) hu h1.out).mono ?_; rintro e w' ⟨a1, ca1, rfl, hw, hcut1⟩; subst hw)
    | (go_at_call 34; refine (strip_len m2 b lb cb v _ (hb.below (by first | exact hB0 | exact hB0.drew | exact hB0.drew.drew)) hv h2.out).mono ?_; rintro e w' ⟨b1, cb1, rfl, hw, hcut2⟩; subst hw))
  all_goals
    refine NoPanic.normal ?_
    go_wp2_with (go_at_call 47; refine (cmpInt_any _ _ _).mono ?_; rintro e w' ⟨rfl, hw⟩; subst hw)
    refine ⟨.int .i64 (cmpI m1 m2), by simp [results, Tryd.results24, go_sem], by rw [HC.out], ?_⟩
    exact (((Below.refl _ _).alloc (Nat.le_refl _) _).alloc (by simp) _).drew

set_option maxRecDepth 100000 in
set_option maxHeartbeats 2000000 in
theorem cmp_zero (a b : Option Addr) (la lb ca cb u v : Nat) (w : World) (ha : Sl w a la ca (wd.dcells la (u : Int))) (hu : u < 4294967296 ^ la) (hb : Sl w b lb cb (wd.dcells lb (v : Int))) (hv : v < 4294967296 ^ lb) (h1 : Hid (wd.nlen u = 0)) (h2 : Hid (wd.nlen v = 0)) (HC : Hid (0 = cmpI u v)) :
    Calls Tryd.prog 24 #[.slice a la ca, .slice b lb cb] w fun e w' => e = .returned (.int .i64 (cmpI u v)) ∧ Below w.heap.size w w' := by
  refine callsIn_wide.1 (callsIn_of_wp_marks (F := Fence.wide) (n := 4) Tryd.func24 rfl trivial ?_ rfl)
  simp only [Tryd.ntmps24, List.size_toArray, List.length_cons, List.length_nil, Nat.reduceAdd, Nat.reduceSub, Array.replicate_succ, Array.replicate_zero, List.push_toArray, List.append_toArray, List.nil_append, List.cons_append]
  refine wpIn_wide.2 ?_
  have hB0 : Below w.heap.size w ((w.alloc (.cells #[.slice b lb cb] 23)).alloc (.cells #[.int .i64 0] 3)) := ((Below.refl _ _).alloc (Nat.le_refl _) _).alloc (by simp) _
  go_wp2
  refine wp_region_noPanic ?_
  go_region_with (first
    | (go_at_call_of 34 [Value.slice a la ca]; refine (strip_len 0 a la ca u _ (ha.below (by first | exact hB0 | exact hB0.drew | exact hB0.drew.drew)) hu h1.out).mono ?_; rintro e w' ⟨a1, ca1, rfl, hw, hcut1⟩; subst hw)
    | (go_at_call 34; refine (strip_len 0 b lb cb v _ (hb.below (by first | exact hB0 | exact hB0.drew | exact hB0.drew.drew)) hv h2.out).mono ?_; rintro e w' ⟨b1, cb1, rfl, hw, hcut2⟩; subst hw))
  all_goals
    refine NoPanic.normal ?_
    go_wp2_with (go_at_call 48; refine (callsIn_wide.1 (backward_in Fence.wide 3 trivial rfl _ _ _ _)).mono ?_; rintro e w' ⟨rfl, hw⟩; have hw := hw.symm; subst hw)
    have hB1 : Below w.heap.size w ((((w.alloc (.cells #[.slice b1 0 cb1] 23)).alloc (.cells #[.int .i64 0] 3)).alloc (.cells #[.slice a1 0 ca1] 23)).drew) := ((((Below.refl _ _).alloc (Nat.le_refl _) _).alloc (by simp) _).alloc (by simp; omega) _).drew
    have bR : Boxed ((((w.alloc (.cells #[.slice b1 0 cb1] 23)).alloc (.cells #[.int .i64 0] 3)).alloc (.cells #[.slice a1 0 ca1] 23)).drew) (w.heap.size + 1) 3 (.int .i64 0) := by
      have := (Boxed.new (w.alloc (.cells #[.slice b1 0 cb1] 23)) 3 (.int .i64 0)).alloc (.cells #[.slice a1 0 ca1] 23)
      rw [World.size_alloc] at this
      exact this
    have bA : Boxed ((((w.alloc (.cells #[.slice b1 0 cb1] 23)).alloc (.cells #[.int .i64 0] 3)).alloc (.cells #[.slice a1 0 ca1] 23)).drew) (w.heap.size + 1 + 1) 23 (.slice a1 0 ca1) := by
      have := Boxed.new ((w.alloc (.cells #[.slice b1 0 cb1] 23)).alloc (.cells #[.int .i64 0] 3)) 23 (.slice a1 0 ca1)
      rw [World.size_alloc, World.size_alloc] at this
      exact this
    refine (wpIn_wide (n := 4)).1 ?_
    refine wpIn_rangeFunc_ownG (α := Empty) rfl (by decide) (gf := 63) (lb := #[.pointer (some ⟨w.heap.size + 1 + 1, 0, none⟩)]) rfl trivial (enters_of Tryd.func63 (by kernel_rfl) rfl)
      (backward_nil_stops Fence.wide 3 trivial rfl (w.heap.size + 1 + 1) w.heap.size ca1 a1 _ (by simp) bA.cell (fun x => x.elim)) belowK_t (belowK_b (by simp; omega)) (Below.refl _ _) (fun x => x.elim)
      (fun _ W => (W.cell? ⟨w.heap.size + 1, 0, none⟩ = some (.int .i64 0) ∧ W.frozen? ⟨w.heap.size + 1, 0, none⟩ = false) ∧ Below w.heap.size w W)
      (fun _ _ _ => False)
      (OwnFrom.and (Own.from (fun s A B row hs hg hr => ⟨cell_kept hs.1 hg hr, (frozen_kept hs.1 hg hr).trans hs.2⟩) _) (ownFrom_below (Nat.le_refl _) (by simp; omega)))
      (fun _ _ _ _ _ hs _ _ => hs)
      ⟨⟨bR.cell, bR.frozen⟩, hB1⟩
      (fun x => x.elim) ?assign ?body ?done ?stop
    case assign => intro l x; exact x.elim
    case body => intro l pre x; exact x.elim
    case done =>
      rintro D ys W hD rfl ⟨⟨hcr, hfr⟩, hB⟩ hK
      go_wp2
      have hK' := (KeepsOthers.setCell W ⟨w.heap.size + 1, 0, none⟩ (.int .i64 0)).same D _ hK rfl
      refine ⟨by simp, .inl ⟨_, _, rfl, run_takeDeferred hK', ?_⟩⟩
      have hc5 := cell_kept (World.cell?_setCell_same' W ⟨w.heap.size + 1, 0, none⟩ (.int .i64 0) (by rw [hcr]; rfl)) (grownBy_putObj' _ D (.deferred none)) (fun r e => by cases e; exact ⟨_, hK', rfl⟩)
      refine ⟨.int .i64 0, ?_, by rw [← HC.out], (hB.setCell (p := ⟨w.heap.size + 1, 0, none⟩) (by simp) _).trans (belowK_b (w := w) (Nat.le_refl _) _ D _ _ (by simp at hD; omega) hK' rfl rfl)⟩
      simp [results, Tryd.results24, go_sem, hc5]
    case stop =>
      rintro D c pre W _ _ h _
      exact h.elim
end Go.Proofs.YteoepelmapjhcaaDoor
