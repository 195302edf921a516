/-
  Joined texts, part 10:
  The landed mesh's Check.
  slices.Sorted(maps.Keys(m)) at a map[int]struct{}: the library's contracts laid over this dump (their tables: the kit's own laying command, printed plain, numbers turned into names), and what they tell together.
  The landed mesh's Around: the keys of a vertex's map of faces, sorted.
  The landed mesh does what a mesh must do.
-/
import Derived.Test.YtjdeehffbgpenaaP9
import Derived.Test.YtjdeehffbgpenaaP4
import Derived.Shelf.SlIterI.Nil
import Derived.Shelf.SortM.Plain
import Derived.Shelf.SortM.SortNone
import Derived.Ground.GgzProg
import Derived.Ground.SlgmProg
import Derived.Shelf.AbstractIn
import Derived.Test.YtjdeehffbgpenaaP3
namespace Go.Proofs.Ytjdeehffbgpenaa
open Go.RowKit Go.Maps
set_option linter.unusedVariables false

theorem crossed_at {S : Ms} {m : Nat} (hk : MsOk S m) {c : Ce} (hc : c ∈ S.C) (i : Int) : (crossed S c.no i).isSome = (acr c.t (nx (corner i)) S.C).isSome := by
  unfold crossed
  rw [m_faceOf_at hk hc]
  show (match acr c.t (nx (corner i)) S.C with | none => none | some r => some (c.t, r) : Option (Tr × Ce × Nat)).isSome = _
  cases acr c.t (nx (corner i)) S.C <;> rfl
theorem closed_eq {S : Ms} {m : Nat} (hk : MsOk S m) : (S.C.all fun c => (List.range 3).all fun k => (crossed S c.no (k : Int)).isSome) = closedB S := by
  unfold closedB
  rw [Bool.eq_iff_iff, List.all_eq_true, List.all_eq_true]
  refine forall_congr' fun c => forall_congr' fun hc => ?_
  rw [List.all_eq_true, List.all_eq_true]
  have e : ∀ k : Nat, k < 3 → corner (k : Int) = k := fun k hk => by unfold corner; omega
  constructor
  · intro h k hk3
    have hk3 := List.mem_range.1 hk3
    have h1 := h ((k + 2) % 3) (List.mem_range.2 (by omega))
    rw [crossed_at hk hc, e _ (by omega)] at h1
    rw [show nx ((k + 2) % 3) = k by unfold nx; omega] at h1
    exact h1
  · intro h k hk3
    have hk3 := List.mem_range.1 hk3
    rw [crossed_at hk hc, e _ hk3]
    exact h (nx k) (List.mem_range.2 (nx_lt k))
theorem whole_eq {S : Ms} {m : Nat} (hk : MsOk S m) : whole S = (closedB S && (usesB S && decide (sumK S S.C.length = 2 * (S.n * S.n)))) := by
  unfold whole
  rw [closed_eq hk]
  unfold usesB sumK
  rw [List.take_length]
theorem mCheck0 (w : World) : Calls Try.prog 17 #[.pointer none] w fun e w' => e = .returned (.int .i64 1) ∧ Below w.heap.size w w' := by
  go_enter Try.func17, Try.ntmps17
  go_wp2
  go_ret
  exact ⟨rfl, Below.refl _ _⟩

set_option maxRecDepth 100000 in
set_option maxHeartbeats 1000000 in
theorem mCheck (base p : Nat) (X : Mx) (S : Ms) (m : Nat) (F : Nat → Prop) (w : World) (h : MeI base p X F w) (hS : MeOk X S) (hk : MsOk S m) (hm : m ≤ 1000) {r : Int} (hr : r = if whole S = true then 0 else 6) :
    Calls Try.prog 17 #[ptR p] w fun e w' => e = .returned (.int .i64 r) ∧ Below w.heap.size w w' := by
  rw [whole_eq hk] at hr
  have q0 := h.row.cell 0 _ rfl
  have lp := h.row.lt
  have hn1 := hk.n1
  rw [← hS.n] at hn1 hr
  have HI : Hid _ := h
  have HS : Hid _ := hS
  have HK : Hid _ := hk
  have HR : Hid _ := hr
  obtain ⟨n, hn⟩ : ∃ n, n = X.n := ⟨_, rfl⟩
  rw [← hn] at q0 hn1 HR
  obtain ⟨n1, n2⟩ := hn1
  obtain ⟨cl, HCL⟩ : ∃ b, Hid (b = closedB S) := ⟨_, rfl⟩
  obtain ⟨us, HUS⟩ : ∃ b, Hid (b = usesB S) := ⟨_, rfl⟩
  clear h hS hk hr hn
  cases cl with
  | false =>
    obtain rfl : r = 6 := by rw [HR.out, ← HCL.out]; rfl
    go_enter Try.func17, Try.ntmps17
    go_wp2
    have HSk0 : Hid (∀ w', Below (w.heap.size) w w' → (fun w' => w'.cell? ⟨p, 0, none⟩ = some (.int .i64 n) ∧ Below (w.heap.size) w w') w') := by
      unfold Hid
      intro w' hb
      exact ⟨(hb.cell (p := ⟨p, 0, none⟩) lp).trans q0, hb⟩
    refine wp_region_held_drew (S := fun w' => w'.cell? ⟨p, 0, none⟩ = some (.int .i64 n) ∧ Below (w.heap.size) w w') (by kernel_rfl) ?_ (fun hHeld => ?_)
    · exact HSk0.out _ ((Below.refl _ _).drew)
    refine take_yes (i := 0) (v := ?vk00) rfl (by kernel_rfl) (by kernel_rfl) (by kernel_rfl) (fun _ _ _ h => h) (by rfl) (by assumption) ?hyk00 ?restk00
    case hyk00 => (intro w hSw; (try dsimp only at hSw); first | (go_simp; done) | (go_simp; with_reducible rfl))
    simp only [Act.put, List.setIfInBounds_toArray, List.set_cons_zero, List.set_cons_succ]
    refine take_call (i := 1) rfl (by kernel_rfl) (fun Kc hK => ?_)
    go_simp
    (go_at_call 43; refine (mClosed base p X S m F _ (HI.out.below (Below.refl _ _).drew) HS.out HK.out hm HCL.out).mono ?_; rintro e w1 ⟨rfl, b1⟩)
    refine hK.out _ _ ?_ (fun hHeld => ?_)
    · exact HSk0.out _ (hHeld.2.trans (b1.mono hHeld.2.size))
    clear hK Kc
    refine take_yes (i := 2) (v := ?vk02) rfl (by kernel_rfl) (by kernel_rfl) (by kernel_rfl) (fun _ _ _ h => h) (by rfl) (by assumption) ?hyk02 ?restk02
    case hyk02 => (intro w hSw; (try dsimp only at hSw); first | (go_simp; done) | (go_simp; with_reducible rfl))
    simp only [Act.put, List.setIfInBounds_toArray, List.set_cons_zero, List.set_cons_succ]
    refine take_yes (i := 3) (v := ?vk03) rfl (by kernel_rfl) (by kernel_rfl) (by kernel_rfl) (fun _ _ _ h => h) (by rfl) (by assumption) ?hyk03 ?restk03
    case hyk03 => (intro w hSw; (try dsimp only at hSw); first | (go_simp; done) | (go_simp; with_reducible rfl))
    simp only [Act.put, List.setIfInBounds_toArray, List.set_cons_zero, List.set_cons_succ]
    refine take_no (i := 4) rfl (by kernel_rfl) (by kernel_rfl) (by kernel_rfl) (fun _ _ _ h => h) (by rfl) (by assumption) ?_
    simp only [Act.put, List.setIfInBounds_toArray, List.set_cons_zero, List.set_cons_succ]
    refine take_no (i := 5) rfl (by kernel_rfl) (by kernel_rfl) (by kernel_rfl) (fun _ _ _ h => h) (by rfl) (by assumption) ?_
    simp only [Act.put, List.setIfInBounds_toArray, List.set_cons_zero, List.set_cons_succ]
    refine take_no (i := 6) rfl (by kernel_rfl) (by kernel_rfl) (by kernel_rfl) (fun _ _ _ h => h) (by rfl) (by assumption) ?_
    simp only [Act.put, List.setIfInBounds_toArray, List.set_cons_zero, List.set_cons_succ]
    refine take_yes (i := 7) (v := ?vk07) rfl (by kernel_rfl) (by kernel_rfl) (by kernel_rfl) (fun _ _ _ h => h) (by rfl) (by assumption) ?hyk07 ?restk07
    case hyk07 => (intro w hSw; (try dsimp only at hSw); first | (go_simp; done) | (go_simp; with_reducible rfl))
    simp only [Act.put, List.setIfInBounds_toArray, List.set_cons_zero, List.set_cons_succ]
    refine take_yes (i := 8) (v := ?vk08) rfl (by kernel_rfl) (by kernel_rfl) (by kernel_rfl) (fun _ _ _ h => h) (by rfl) (by assumption) ?hyk08 ?restk08
    case hyk08 => (intro w hSw; (try dsimp only at hSw); first | (go_simp; done) | (go_simp; with_reducible rfl))
    simp only [Act.put, List.setIfInBounds_toArray, List.set_cons_zero, List.set_cons_succ]
    refine take_no (i := 9) rfl (by kernel_rfl) (by kernel_rfl) (by kernel_rfl) (fun _ _ _ h => h) (by rfl) (by assumption) ?_
    simp only [Act.put, List.setIfInBounds_toArray, List.set_cons_zero, List.set_cons_succ]
    refine take_no (i := 10) rfl (by kernel_rfl) (by kernel_rfl) (by kernel_rfl) (fun _ _ _ h => h) (by rfl) (by assumption) ?_
    simp only [Act.put, List.setIfInBounds_toArray, List.set_cons_zero, List.set_cons_succ]
    refine take_no (i := 11) rfl (by kernel_rfl) (by kernel_rfl) (by kernel_rfl) (fun _ _ _ h => h) (by rfl) (by assumption) ?_
    simp only [Act.put, List.setIfInBounds_toArray, List.set_cons_zero, List.set_cons_succ]
    refine take_no (i := 12) rfl (by kernel_rfl) (by kernel_rfl) (by kernel_rfl) (fun _ _ _ h => h) (by rfl) (by assumption) ?_
    simp only [Act.put, List.setIfInBounds_toArray, List.set_cons_zero, List.set_cons_succ]
    refine take_no (i := 13) rfl (by kernel_rfl) (by kernel_rfl) (by kernel_rfl) (fun _ _ _ h => h) (by rfl) (by assumption) ?_
    simp only [Act.put, List.setIfInBounds_toArray, List.set_cons_zero, List.set_cons_succ]
    refine take_no (i := 14) rfl (by kernel_rfl) (by kernel_rfl) (by kernel_rfl) (fun _ _ _ h => h) (by rfl) (by assumption) ?_
    simp only [Act.put, List.setIfInBounds_toArray, List.set_cons_zero, List.set_cons_succ]
    refine take_no (i := 15) rfl (by kernel_rfl) (by kernel_rfl) (by kernel_rfl) (fun _ _ _ h => h) (by rfl) (by assumption) ?_
    simp only [Act.put, List.setIfInBounds_toArray, List.set_cons_zero, List.set_cons_succ]
    refine take_no (i := 16) rfl (by kernel_rfl) (by kernel_rfl) (by kernel_rfl) (fun _ _ _ h => h) (by rfl) (by assumption) ?_
    simp only [Act.put, List.setIfInBounds_toArray, List.set_cons_zero, List.set_cons_succ]
    refine take_no (i := 17) rfl (by kernel_rfl) (by kernel_rfl) (by kernel_rfl) (fun _ _ _ h => h) (by rfl) (by assumption) ?_
    simp only [Act.put, List.setIfInBounds_toArray, List.set_cons_zero, List.set_cons_succ]
    refine take_no (i := 18) rfl (by kernel_rfl) (by kernel_rfl) (by kernel_rfl) (fun _ _ _ h => h) (by rfl) (by assumption) ?_
    simp only [Act.put, List.setIfInBounds_toArray, List.set_cons_zero, List.set_cons_succ]
    refine take_no (i := 19) rfl (by kernel_rfl) (by kernel_rfl) (by kernel_rfl) (fun _ _ _ h => h) (by rfl) (by assumption) ?_
    simp only [Act.put, List.setIfInBounds_toArray, List.set_cons_zero, List.set_cons_succ]
    refine take_no (i := 20) rfl (by kernel_rfl) (by kernel_rfl) (by kernel_rfl) (fun _ _ _ h => h) (by rfl) (by assumption) ?_
    simp only [Act.put, List.setIfInBounds_toArray, List.set_cons_zero, List.set_cons_succ]
    refine take_no (i := 21) rfl (by kernel_rfl) (by kernel_rfl) (by kernel_rfl) (fun _ _ _ h => h) (by rfl) (by assumption) ?_
    simp only [Act.put, List.setIfInBounds_toArray, List.set_cons_zero, List.set_cons_succ]
    refine take_no (i := 22) rfl (by kernel_rfl) (by kernel_rfl) (by kernel_rfl) (fun _ _ _ h => h) (by rfl) (by assumption) ?_
    simp only [Act.put, List.setIfInBounds_toArray, List.set_cons_zero, List.set_cons_succ]
    refine take_yes (i := 23) (v := ?vk023) rfl (by kernel_rfl) (by kernel_rfl) (by kernel_rfl) (fun _ _ _ h => h) (by rfl) (by assumption) ?hyk023 ?restk023
    case hyk023 => (intro w hSw; (try dsimp only at hSw); first | (go_simp; done) | (go_simp; with_reducible rfl))
    simp only [Act.put, List.setIfInBounds_toArray, List.set_cons_zero, List.set_cons_succ]
    refine wpAnyH_done (by kernel_rfl) ?_ _
    have BF := hHeld.2
    go_wp2
    go_ret
    exact ⟨rfl, BF⟩
  | true =>
    cases us with
    | false =>
      obtain rfl : r = 6 := by rw [HR.out, ← HCL.out, ← HUS.out]; rfl
      go_enter Try.func17, Try.ntmps17
      go_wp2
      have HSk1 : Hid (∀ w', Below (w.heap.size) w w' → (fun w' => w'.cell? ⟨p, 0, none⟩ = some (.int .i64 n) ∧ Below (w.heap.size) w w') w') := by
        unfold Hid
        intro w' hb
        exact ⟨(hb.cell (p := ⟨p, 0, none⟩) lp).trans q0, hb⟩
      refine wp_region_held_drew (S := fun w' => w'.cell? ⟨p, 0, none⟩ = some (.int .i64 n) ∧ Below (w.heap.size) w w') (by kernel_rfl) ?_ (fun hHeld => ?_)
      · exact HSk1.out _ ((Below.refl _ _).drew)
      refine take_yes (i := 0) (v := ?vk10) rfl (by kernel_rfl) (by kernel_rfl) (by kernel_rfl) (fun _ _ _ h => h) (by rfl) (by assumption) ?hyk10 ?restk10
      case hyk10 => (intro w hSw; (try dsimp only at hSw); first | (go_simp; done) | (go_simp; with_reducible rfl))
      simp only [Act.put, List.setIfInBounds_toArray, List.set_cons_zero, List.set_cons_succ]
      refine take_call (i := 1) rfl (by kernel_rfl) (fun Kc hK => ?_)
      go_simp
      (go_at_call 43; refine (mClosed base p X S m F _ (HI.out.below (Below.refl _ _).drew) HS.out HK.out hm HCL.out).mono ?_; rintro e w1 ⟨rfl, b1⟩)
      refine hK.out _ _ ?_ (fun hHeld => ?_)
      · exact HSk1.out _ (hHeld.2.trans (b1.mono hHeld.2.size))
      clear hK Kc
      refine take_yes (i := 2) (v := ?vk12) rfl (by kernel_rfl) (by kernel_rfl) (by kernel_rfl) (fun _ _ _ h => h) (by rfl) (by assumption) ?hyk12 ?restk12
      case hyk12 => (intro w hSw; (try dsimp only at hSw); first | (go_simp; done) | (go_simp; with_reducible rfl))
      simp only [Act.put, List.setIfInBounds_toArray, List.set_cons_zero, List.set_cons_succ]
      refine take_yes (i := 3) (v := ?vk13) rfl (by kernel_rfl) (by kernel_rfl) (by kernel_rfl) (fun _ _ _ h => h) (by rfl) (by assumption) ?hyk13 ?restk13
      case hyk13 => (intro w hSw; (try dsimp only at hSw); first | (go_simp; done) | (go_simp; with_reducible rfl))
      simp only [Act.put, List.setIfInBounds_toArray, List.set_cons_zero, List.set_cons_succ]
      refine take_yes (i := 4) (v := ?vk14) rfl (by kernel_rfl) (by kernel_rfl) (by kernel_rfl) (fun _ _ _ h => h) (by rfl) (by assumption) ?hyk14 ?restk14
      case hyk14 => (intro w hSw; (try dsimp only at hSw); first | (go_simp; done) | (go_simp; with_reducible rfl))
      simp only [Act.put, List.setIfInBounds_toArray, List.set_cons_zero, List.set_cons_succ]
      refine take_call (i := 5) rfl (by kernel_rfl) (fun Kc hK => ?_)
      go_simp
      (go_at_call 44; refine (mUses base p X S m F _ (HI.out.below hHeld.2) HS.out HK.out hm HUS.out).mono ?_; rintro e w2 ⟨rfl, b2⟩)
      refine hK.out _ _ ?_ (fun hHeld => ?_)
      · exact HSk1.out _ (hHeld.2.trans (b2.mono hHeld.2.size))
      clear hK Kc
      refine take_yes (i := 6) (v := ?vk16) rfl (by kernel_rfl) (by kernel_rfl) (by kernel_rfl) (fun _ _ _ h => h) (by rfl) (by assumption) ?hyk16 ?restk16
      case hyk16 => (intro w hSw; (try dsimp only at hSw); first | (go_simp; done) | (go_simp; with_reducible rfl))
      simp only [Act.put, List.setIfInBounds_toArray, List.set_cons_zero, List.set_cons_succ]
      refine take_yes (i := 7) (v := ?vk17) rfl (by kernel_rfl) (by kernel_rfl) (by kernel_rfl) (fun _ _ _ h => h) (by rfl) (by assumption) ?hyk17 ?restk17
      case hyk17 => (intro w hSw; (try dsimp only at hSw); first | (go_simp; done) | (go_simp; with_reducible rfl))
      simp only [Act.put, List.setIfInBounds_toArray, List.set_cons_zero, List.set_cons_succ]
      refine take_yes (i := 8) (v := ?vk18) rfl (by kernel_rfl) (by kernel_rfl) (by kernel_rfl) (fun _ _ _ h => h) (by rfl) (by assumption) ?hyk18 ?restk18
      case hyk18 => (intro w hSw; (try dsimp only at hSw); first | (go_simp; done) | (go_simp; with_reducible rfl))
      simp only [Act.put, List.setIfInBounds_toArray, List.set_cons_zero, List.set_cons_succ]
      refine take_no (i := 9) rfl (by kernel_rfl) (by kernel_rfl) (by kernel_rfl) (fun _ _ _ h => h) (by rfl) (by assumption) ?_
      simp only [Act.put, List.setIfInBounds_toArray, List.set_cons_zero, List.set_cons_succ]
      refine take_no (i := 10) rfl (by kernel_rfl) (by kernel_rfl) (by kernel_rfl) (fun _ _ _ h => h) (by rfl) (by assumption) ?_
      simp only [Act.put, List.setIfInBounds_toArray, List.set_cons_zero, List.set_cons_succ]
      refine take_no (i := 11) rfl (by kernel_rfl) (by kernel_rfl) (by kernel_rfl) (fun _ _ _ h => h) (by rfl) (by assumption) ?_
      simp only [Act.put, List.setIfInBounds_toArray, List.set_cons_zero, List.set_cons_succ]
      refine take_no (i := 12) rfl (by kernel_rfl) (by kernel_rfl) (by kernel_rfl) (fun _ _ _ h => h) (by rfl) (by assumption) ?_
      simp only [Act.put, List.setIfInBounds_toArray, List.set_cons_zero, List.set_cons_succ]
      refine take_no (i := 13) rfl (by kernel_rfl) (by kernel_rfl) (by kernel_rfl) (fun _ _ _ h => h) (by rfl) (by assumption) ?_
      simp only [Act.put, List.setIfInBounds_toArray, List.set_cons_zero, List.set_cons_succ]
      refine take_no (i := 14) rfl (by kernel_rfl) (by kernel_rfl) (by kernel_rfl) (fun _ _ _ h => h) (by rfl) (by assumption) ?_
      simp only [Act.put, List.setIfInBounds_toArray, List.set_cons_zero, List.set_cons_succ]
      refine take_no (i := 15) rfl (by kernel_rfl) (by kernel_rfl) (by kernel_rfl) (fun _ _ _ h => h) (by rfl) (by assumption) ?_
      simp only [Act.put, List.setIfInBounds_toArray, List.set_cons_zero, List.set_cons_succ]
      refine take_no (i := 16) rfl (by kernel_rfl) (by kernel_rfl) (by kernel_rfl) (fun _ _ _ h => h) (by rfl) (by assumption) ?_
      simp only [Act.put, List.setIfInBounds_toArray, List.set_cons_zero, List.set_cons_succ]
      refine take_no (i := 17) rfl (by kernel_rfl) (by kernel_rfl) (by kernel_rfl) (fun _ _ _ h => h) (by rfl) (by assumption) ?_
      simp only [Act.put, List.setIfInBounds_toArray, List.set_cons_zero, List.set_cons_succ]
      refine take_no (i := 18) rfl (by kernel_rfl) (by kernel_rfl) (by kernel_rfl) (fun _ _ _ h => h) (by rfl) (by assumption) ?_
      simp only [Act.put, List.setIfInBounds_toArray, List.set_cons_zero, List.set_cons_succ]
      refine take_no (i := 19) rfl (by kernel_rfl) (by kernel_rfl) (by kernel_rfl) (fun _ _ _ h => h) (by rfl) (by assumption) ?_
      simp only [Act.put, List.setIfInBounds_toArray, List.set_cons_zero, List.set_cons_succ]
      refine take_no (i := 20) rfl (by kernel_rfl) (by kernel_rfl) (by kernel_rfl) (fun _ _ _ h => h) (by rfl) (by assumption) ?_
      simp only [Act.put, List.setIfInBounds_toArray, List.set_cons_zero, List.set_cons_succ]
      refine take_no (i := 21) rfl (by kernel_rfl) (by kernel_rfl) (by kernel_rfl) (fun _ _ _ h => h) (by rfl) (by assumption) ?_
      simp only [Act.put, List.setIfInBounds_toArray, List.set_cons_zero, List.set_cons_succ]
      refine take_no (i := 22) rfl (by kernel_rfl) (by kernel_rfl) (by kernel_rfl) (fun _ _ _ h => h) (by rfl) (by assumption) ?_
      simp only [Act.put, List.setIfInBounds_toArray, List.set_cons_zero, List.set_cons_succ]
      refine take_yes (i := 23) (v := ?vk123) rfl (by kernel_rfl) (by kernel_rfl) (by kernel_rfl) (fun _ _ _ h => h) (by rfl) (by assumption) ?hyk123 ?restk123
      case hyk123 => (intro w hSw; (try dsimp only at hSw); first | (go_simp; done) | (go_simp; with_reducible rfl))
      simp only [Act.put, List.setIfInBounds_toArray, List.set_cons_zero, List.set_cons_succ]
      refine wpAnyH_done (by kernel_rfl) ?_ _
      have BF := hHeld.2
      go_wp2
      go_ret
      exact ⟨rfl, BF⟩
    | true =>
      obtain ⟨ah, HAH⟩ : ∃ s, Hid (s = lw.hi (sumK S S.C.length)) := ⟨_, rfl⟩
      obtain ⟨al, HAL⟩ : ∃ s, Hid (s = lw.lo (sumK S S.C.length)) := ⟨_, rfl⟩
      obtain ⟨n22, HN2⟩ : ∃ s, Hid (s = 2 * n) := ⟨_, rfl⟩
      have hw2 : IntKind.i64.wrap (2 * n) = n22 := by rw [wrap_i64, HN2.out]; unfold wrap64; omega
      obtain ⟨bh, HBH⟩ : ∃ s, Hid (s = lw.hi (n22 * n)) := ⟨_, rfl⟩
      obtain ⟨bl, HBL⟩ : ∃ s, Hid (s = lw.lo (n22 * n)) := ⟨_, rfl⟩
      have HMU : Hid (∀ w', Calls Try.prog 47 #[.int .i64 n22, .int .i64 n] w' fun e w'' => e = .returned (.agg #[.int .i64 bh, .int .u64 bl]) ∧ Below w'.heap.size w' w'') := by
        unfold Hid
        intro w'
        have e2 := HN2.out
        rw [HBH.out, HBL.out]
        exact lw.mul_any n22 n (by omega) (by omega) (by omega) (by omega) w'
      have HPR : Hid (n22 * n = 2 * (n * n)) := by unfold Hid; rw [HN2.out, Int.mul_assoc]
      obtain ⟨g, HG⟩ : ∃ s, Hid (s = lw.cmpI (sumK S S.C.length) (n22 * n)) := ⟨_, rfl⟩
      have HCM : Hid (∀ w', Calls Try.prog 45 #[.agg #[.int .i64 ah, .int .u64 al], .agg #[.int .i64 bh, .int .u64 bl]] w' fun e w'' => e = .returned (.int .i64 g) ∧ Below w'.heap.size w' w'') := by
        unfold Hid
        intro w'
        have hs := sumK_bound HK.out S.C.length
        have hl := HK.out.lens.2.1
        have hq : 0 ≤ n * n ∧ n * n ≤ 17179869184 * 17179869184 := ⟨Int.mul_nonneg (by omega) (by omega), Int.mul_le_mul n2 n2 (by omega) (by decide)⟩
        rw [HG.out]
        exact lw.cmp_any (sumK S S.C.length) (n22 * n) HAH.out HAL.out HBH.out HBL.out (by omega) (by omega) (by rw [HPR.out]; omega) (by rw [HPR.out]; omega) w'
      have HRG : Hid (r = if g = 0 then 0 else 6) := by
        unfold Hid
        rw [HR.out, ← HCL.out, ← HUS.out, ← HPR.out, HG.out]
        unfold lw.cmpI
        by_cases e : sumK S S.C.length = n22 * n
        · rw [e]
          simp
        · rcases Int.lt_or_gt_of_ne e with e1 | e1
          · simp [e, e1]
          · have e2 : ¬ sumK S S.C.length < n22 * n := by omega
            have e3 : n22 * n < sumK S S.C.length := e1
            simp [e, e2, e3]
      obtain ⟨q, hq, hqb⟩ : ∃ q : Bool, (g != 0) = q ∧ r = if q then 6 else 0 := by
        refine ⟨_, rfl, ?_⟩
        rw [HRG.out]
        by_cases e : g = 0
        · simp [e]
        · simp [e]
      have HQB : Hid _ := hqb
      clear hqb
      go_enter Try.func17, Try.ntmps17
      go_wp2
      have HSk2 : Hid (∀ w', Below (w.heap.size) w w' → (fun w' => w'.cell? ⟨p, 0, none⟩ = some (.int .i64 n) ∧ Below (w.heap.size) w w') w') := by
        unfold Hid
        intro w' hb
        exact ⟨(hb.cell (p := ⟨p, 0, none⟩) lp).trans q0, hb⟩
      refine wp_region_held_drew (S := fun w' => w'.cell? ⟨p, 0, none⟩ = some (.int .i64 n) ∧ Below (w.heap.size) w w') (by kernel_rfl) ?_ (fun hHeld => ?_)
      · exact HSk2.out _ ((Below.refl _ _).drew)
      refine take_yes (i := 0) (v := ?vk20) rfl (by kernel_rfl) (by kernel_rfl) (by kernel_rfl) (fun _ _ _ h => h) (by rfl) (by assumption) ?hyk20 ?restk20
      case hyk20 => (intro w hSw; (try dsimp only at hSw); first | (go_simp; done) | (go_simp; with_reducible rfl))
      simp only [Act.put, List.setIfInBounds_toArray, List.set_cons_zero, List.set_cons_succ]
      refine take_call (i := 1) rfl (by kernel_rfl) (fun Kc hK => ?_)
      go_simp
      (go_at_call 43; refine (mClosed base p X S m F _ (HI.out.below (Below.refl _ _).drew) HS.out HK.out hm HCL.out).mono ?_; rintro e w1 ⟨rfl, b1⟩)
      refine hK.out _ _ ?_ (fun hHeld => ?_)
      · exact HSk2.out _ (hHeld.2.trans (b1.mono hHeld.2.size))
      clear hK Kc
      refine take_yes (i := 2) (v := ?vk22) rfl (by kernel_rfl) (by kernel_rfl) (by kernel_rfl) (fun _ _ _ h => h) (by rfl) (by assumption) ?hyk22 ?restk22
      case hyk22 => (intro w hSw; (try dsimp only at hSw); first | (go_simp; done) | (go_simp; with_reducible rfl))
      simp only [Act.put, List.setIfInBounds_toArray, List.set_cons_zero, List.set_cons_succ]
      refine take_yes (i := 3) (v := ?vk23) rfl (by kernel_rfl) (by kernel_rfl) (by kernel_rfl) (fun _ _ _ h => h) (by rfl) (by assumption) ?hyk23 ?restk23
      case hyk23 => (intro w hSw; (try dsimp only at hSw); first | (go_simp; done) | (go_simp; with_reducible rfl))
      simp only [Act.put, List.setIfInBounds_toArray, List.set_cons_zero, List.set_cons_succ]
      refine take_yes (i := 4) (v := ?vk24) rfl (by kernel_rfl) (by kernel_rfl) (by kernel_rfl) (fun _ _ _ h => h) (by rfl) (by assumption) ?hyk24 ?restk24
      case hyk24 => (intro w hSw; (try dsimp only at hSw); first | (go_simp; done) | (go_simp; with_reducible rfl))
      simp only [Act.put, List.setIfInBounds_toArray, List.set_cons_zero, List.set_cons_succ]
      refine take_call (i := 5) rfl (by kernel_rfl) (fun Kc hK => ?_)
      go_simp
      (go_at_call 44; refine (mUses base p X S m F _ (HI.out.below hHeld.2) HS.out HK.out hm HUS.out).mono ?_; rintro e w2 ⟨rfl, b2⟩)
      refine hK.out _ _ ?_ (fun hHeld => ?_)
      · exact HSk2.out _ (hHeld.2.trans (b2.mono hHeld.2.size))
      clear hK Kc
      refine take_yes (i := 6) (v := ?vk26) rfl (by kernel_rfl) (by kernel_rfl) (by kernel_rfl) (fun _ _ _ h => h) (by rfl) (by assumption) ?hyk26 ?restk26
      case hyk26 => (intro w hSw; (try dsimp only at hSw); first | (go_simp; done) | (go_simp; with_reducible rfl))
      simp only [Act.put, List.setIfInBounds_toArray, List.set_cons_zero, List.set_cons_succ]
      refine take_yes (i := 7) (v := ?vk27) rfl (by kernel_rfl) (by kernel_rfl) (by kernel_rfl) (fun _ _ _ h => h) (by rfl) (by assumption) ?hyk27 ?restk27
      case hyk27 => (intro w hSw; (try dsimp only at hSw); first | (go_simp; done) | (go_simp; with_reducible rfl))
      simp only [Act.put, List.setIfInBounds_toArray, List.set_cons_zero, List.set_cons_succ]
      refine take_yes (i := 8) (v := ?vk28) rfl (by kernel_rfl) (by kernel_rfl) (by kernel_rfl) (fun _ _ _ h => h) (by rfl) (by assumption) ?hyk28 ?restk28
      case hyk28 => (intro w hSw; (try dsimp only at hSw); first | (go_simp; done) | (go_simp; with_reducible rfl))
      simp only [Act.put, List.setIfInBounds_toArray, List.set_cons_zero, List.set_cons_succ]
      refine take_yes (i := 9) (v := ?vk29) rfl (by kernel_rfl) (by kernel_rfl) (by kernel_rfl) (fun _ _ _ h => h) (by rfl) (by assumption) ?hyk29 ?restk29
      case hyk29 => (intro w hSw; (try dsimp only at hSw); first | (go_simp; done) | (go_simp; with_reducible rfl))
      simp only [Act.put, List.setIfInBounds_toArray, List.set_cons_zero, List.set_cons_succ]
      refine take_yes (i := 11) (v := ?vk211) rfl (by kernel_rfl) (by kernel_rfl) (by kernel_rfl) (fun _ _ _ h => h) (by rfl) (by assumption) ?hyk211 ?restk211
      case hyk211 => (intro w hSw; (try dsimp only at hSw); first | (go_simp; done) | (go_simp; with_reducible rfl))
      simp only [Act.put, List.setIfInBounds_toArray, List.set_cons_zero, List.set_cons_succ]
      refine take_yes (i := 12) (v := ?vk212) rfl (by kernel_rfl) (by kernel_rfl) (by kernel_rfl) (fun _ _ _ h => h) (by rfl) (by assumption) ?hyk212 ?restk212
      case hyk212 => (intro w hSw; (try dsimp only at hSw); first | (go_simp; done) | (go_simp; with_reducible rfl))
      simp only [Act.put, List.setIfInBounds_toArray, List.set_cons_zero, List.set_cons_succ]
      refine take_yes (i := 13) (v := ?vk213) rfl (by kernel_rfl) (by kernel_rfl) (by kernel_rfl) (fun _ _ _ h => h) (by rfl) (by assumption) ?hyk213 ?restk213
      case hyk213 => (intro w hSw; (try dsimp only at hSw); first | (go_simp; done) | (go_simp; with_reducible rfl))
      simp only [Act.put, List.setIfInBounds_toArray, List.set_cons_zero, List.set_cons_succ]
      refine take_yes (i := 14) (v := ?vk214) rfl (by kernel_rfl) (by kernel_rfl) (by kernel_rfl) (fun _ _ _ h => h) (by rfl) (by assumption) ?hyk214 ?restk214
      case hyk214 => (intro w hSw; (try dsimp only at hSw); first | (go_simp; done) | (go_simp; with_reducible rfl))
      simp only [Act.put, List.setIfInBounds_toArray, List.set_cons_zero, List.set_cons_succ]
      refine take_yes (i := 15) (v := ?vk215) rfl (by kernel_rfl) (by kernel_rfl) (by kernel_rfl) (fun _ _ _ h => h) (by rfl) (by assumption) ?hyk215 ?restk215
      case hyk215 => (intro w hSw; (try dsimp only at hSw); first | (go_simp; done) | (go_simp; with_reducible rfl))
      simp only [Act.put, List.setIfInBounds_toArray, List.set_cons_zero, List.set_cons_succ]
      refine take_yes (i := 16) (v := ?vk216) rfl (by kernel_rfl) (by kernel_rfl) (by kernel_rfl) (fun _ _ _ h => h) (by rfl) (by assumption) ?hyk216 ?restk216
      case hyk216 => (intro w hSw; (try dsimp only at hSw); first | (go_simp; done) | (go_simp; with_reducible rfl))
      simp only [Act.put, List.setIfInBounds_toArray, List.set_cons_zero, List.set_cons_succ]
      refine take_yes (i := 17) (v := ?vk217) rfl (by kernel_rfl) (by kernel_rfl) (by kernel_rfl) (fun _ _ _ h => h) (by rfl) (by assumption) ?hyk217 ?restk217
      case hyk217 => (intro w hSw; (try dsimp only at hSw); first | (go_simp; done) | (go_simp; with_reducible rfl))
      simp only [Act.put, List.setIfInBounds_toArray, List.set_cons_zero, List.set_cons_succ]
      refine take_yes (i := 18) (v := ?vk218) rfl (by kernel_rfl) (by kernel_rfl) (by kernel_rfl) (fun _ _ _ h => h) (by rfl) (by assumption) ?hyk218 ?restk218
      case hyk218 => (intro w hSw; (try dsimp only at hSw); first | (go_simp; done) | (go_simp; with_reducible rfl))
      simp only [Act.put, List.setIfInBounds_toArray, List.set_cons_zero, List.set_cons_succ]
      refine take_yes (i := 19) (v := ?vk219) rfl (by kernel_rfl) (by kernel_rfl) (by kernel_rfl) (fun _ _ _ h => h) (by rfl) (by assumption) ?hyk219 ?restk219
      case hyk219 => (intro w hSw; (try dsimp only at hSw); first | (go_simp; done) | (go_simp; with_reducible rfl))
      simp only [Act.put, List.setIfInBounds_toArray, List.set_cons_zero, List.set_cons_succ]
      refine take_call (i := 10) rfl (by kernel_rfl) (fun Kc hK => ?_)
      go_simp
      (go_at_call 46; refine (mArea base p X S m F _ (HI.out.below hHeld.2) HS.out HK.out hm HAH.out HAL.out).mono ?_; rintro e w3 ⟨rfl, b3⟩)
      refine hK.out _ _ ?_ (fun hHeld => ?_)
      · exact HSk2.out _ (hHeld.2.trans (b3.mono hHeld.2.size))
      clear hK Kc
      refine take_call (i := 20) rfl (by kernel_rfl) (fun Kc hK => ?_)
      go_simp
      (go_at_call 47; refine (HMU.out _).mono ?_; rintro e w4 ⟨rfl, b4⟩)
      refine hK.out _ _ ?_ (fun hHeld => ?_)
      · exact HSk2.out _ (hHeld.2.trans (b4.mono hHeld.2.size))
      clear hK Kc
      refine take_call (i := 21) rfl (by kernel_rfl) (fun Kc hK => ?_)
      go_simp
      (go_at_call 45; refine (HCM.out _).mono ?_; rintro e w5 ⟨rfl, b5⟩)
      refine hK.out _ _ ?_ (fun hHeld => ?_)
      · exact HSk2.out _ (hHeld.2.trans (b5.mono hHeld.2.size))
      clear hK Kc
      refine take_yes (i := 22) (v := ?vk222) rfl (by kernel_rfl) (by kernel_rfl) (by kernel_rfl) (fun _ _ _ h => h) (by rfl) (by assumption) ?hyk222 ?restk222
      case hyk222 => (intro w hSw; (try dsimp only at hSw); first | (go_simp; done) | (go_simp; with_reducible rfl))
      simp only [Act.put, List.setIfInBounds_toArray, List.set_cons_zero, List.set_cons_succ]
      refine take_yes (i := 23) (v := ?vk223) rfl (by kernel_rfl) (by kernel_rfl) (by kernel_rfl) (fun _ _ _ h => h) (by rfl) (by assumption) ?hyk223 ?restk223
      case hyk223 => (intro w hSw; (try dsimp only at hSw); first | (go_simp; done) | (go_simp; with_reducible rfl))
      simp only [Act.put, List.setIfInBounds_toArray, List.set_cons_zero, List.set_cons_succ]
      refine wpAnyH_done (by kernel_rfl) ?_ _
      have BF := hHeld.2
      cases q with
      | true =>
        obtain rfl : r = 6 := HQB.out
        go_wp2
        go_ret
        exact ⟨rfl, BF⟩
      | false =>
        obtain rfl : r = 0 := HQB.out
        go_wp2
        go_ret
        exact ⟨rfl, BF⟩
end Go.Proofs.Ytjdeehffbgpenaa

namespace Go.Proofs.Ytjdeehffbgpenaa
open Go.RowKit Go.Maps Go.Sort Go.Shelf
set_option linter.unusedVariables false

def keysAR : Ren where
  f := fun | 7 => 42 | 10 => 57 | n => n
  t := fun | 23 => 66 | 26 => 3 | 3 => 87 | 28 => 95 | 0 => 0 | 27 => 94 | 33 => 53 | 4 => 4 | n => n
  g := fun n => n
theorem keysA : SlLaysZI.n7 Try.prog keysAR where
  mixed := by kernel_rfl
  f7 := ⟨Try.f42.name, by decide, Try.func42.trans (congrArg some (by kernel_rfl))⟩
  f10 := ⟨Try.f57.name, by decide, Try.func57.trans (congrArg some (by kernel_rfl))⟩
  t0 := Try.underlying0
  a0 := Try.isAgg0
  z0 := Try.sizeOf0
  v0 := Try.zeroValue0
  t4 := Try.underlying4
  a4 := Try.isAgg4
  z4 := Try.sizeOf4
  v4 := Try.zeroValue4
  t23 := Try.underlying66
  a23 := Try.isAgg66
  z23 := Try.sizeOf66
  v23 := Try.zeroValue66
  t26 := Try.underlying3
  a26 := Try.isAgg3
  z26 := Try.sizeOf3
  v26 := Try.zeroValue3
  t27 := Try.underlying94
  a27 := Try.isAgg94
  z27 := Try.sizeOf94
  v27 := Try.zeroValue94
  t28 := Try.underlying95
  a28 := Try.isAgg95
  z28 := Try.sizeOf95
  v28 := Try.zeroValue95
  t33 := Try.underlying53
  a33 := Try.isAgg53
  z33 := Try.sizeOf53
  v33 := Try.zeroValue53
def sortedAR : Ren where
  f := fun | 6 => 41 | 8 => 55 | 9 => 56 | 11 => 68 | 13 => 70 | 12 => 69 | 23 => 86 | 24 => 87 | 14 => 77 | 15 => 78 | 16 => 79 | 17 => 80 | 18 => 81 | 19 => 82 | 20 => 83 | 21 => 84 | 22 => 85 | 25 => 89 | 26 => 90 | 27 => 91 | 28 => 92 | 29 => 93 | 30 => 94 | 31 => 96 | n => n
  t := fun | 26 => 3 | 28 => 95 | 24 => 54 | 0 => 0 | 3 => 3 | 37 => 129 | 48 => 143 | 50 => 98 | 4 => 4 | 40 => 135 | 39 => 134 | 45 => 140 | 5 => 5 | 9 => 9 | 51 => 146 | 55 => 150 | 57 => 152 | 58 => 153 | 33 => 53 | n => n
  g := fun n => n
theorem sortedA : SlLaysZI.n6 Try.prog sortedAR where
  mixed := by kernel_rfl
  f6 := ⟨Try.f41.name, by decide, Try.func41.trans (congrArg some (by kernel_rfl))⟩
  f8 := ⟨Try.f55.name, by decide, Try.func55.trans (congrArg some (by kernel_rfl))⟩
  f11 := ⟨Try.f68.name, by decide, Try.func68.trans (congrArg some (by kernel_rfl))⟩
  t0 := Try.underlying0
  a0 := Try.isAgg0
  z0 := Try.sizeOf0
  v0 := Try.zeroValue0
  t24 := Try.underlying54
  a24 := Try.isAgg54
  z24 := Try.sizeOf54
  v24 := Try.zeroValue54
  t26 := Try.underlying3
  a26 := Try.isAgg3
  z26 := Try.sizeOf3
  v26 := Try.zeroValue3
  t28 := Try.underlying95
  a28 := Try.isAgg95
  z28 := Try.sizeOf95
  v28 := Try.zeroValue95
  i26 := by kernel_rfl
def sortAR : Ren where
  f := fun | 5 => 56 | 8 => 70 | 7 => 69 | 19 => 86 | 20 => 87 | 10 => 77 | 11 => 78 | 12 => 79 | 13 => 80 | 14 => 81 | 15 => 82 | 16 => 83 | 17 => 84 | 18 => 85 | 30 => 89 | 31 => 90 | 32 => 91 | 33 => 92 | 34 => 93 | 35 => 94 | 40 => 96 | n => n
  t := fun | 23 => 54 | 25 => 3 | 3 => 3 | 32 => 129 | 22 => 54 | 0 => 0 | 44 => 143 | 46 => 98 | 4 => 4 | 36 => 135 | 35 => 134 | 41 => 140 | 5 => 5 | 9 => 9 | 53 => 146 | 57 => 150 | 63 => 152 | 64 => 153 | n => n
  g := fun n => n
theorem sortA : SlLaysM.n5 Try.prog sortAR where
  mixed := by kernel_rfl
  f5 := ⟨Try.f56.name, by decide, Try.func56.trans (congrArg some (by kernel_rfl))⟩
  f7 := ⟨Try.f69.name, by decide, Try.func69.trans (congrArg some (by kernel_rfl))⟩
  f8 := Try.func70.trans (congrArg some (by kernel_rfl))
  f10 := ⟨Try.f77.name, by decide, Try.func77.trans (congrArg some (by kernel_rfl))⟩
  f11 := ⟨Try.f78.name, by decide, Try.func78.trans (congrArg some (by kernel_rfl))⟩
  f12 := ⟨Try.f79.name, by decide, Try.func79.trans (congrArg some (by kernel_rfl))⟩
  f13 := ⟨Try.f80.name, by decide, Try.func80.trans (congrArg some (by kernel_rfl))⟩
  f14 := ⟨Try.f81.name, by decide, Try.func81.trans (congrArg some (by kernel_rfl))⟩
  f15 := ⟨Try.f82.name, by decide, Try.func82.trans (congrArg some (by kernel_rfl))⟩
  f16 := ⟨Try.f83.name, by decide, Try.func83.trans (congrArg some (by kernel_rfl))⟩
  f17 := ⟨Try.f84.name, by decide, Try.func84.trans (congrArg some (by kernel_rfl))⟩
  f18 := ⟨Try.f85.name, by decide, Try.func85.trans (congrArg some (by kernel_rfl))⟩
  f19 := Try.func86.trans (congrArg some (by kernel_rfl))
  f20 := Try.func87.trans (congrArg some (by kernel_rfl))
  f30 := ⟨Try.f89.name, by decide, Try.func89.trans (congrArg some (by kernel_rfl))⟩
  f31 := Try.func90.trans (congrArg some (by kernel_rfl))
  f32 := Try.func91.trans (congrArg some (by kernel_rfl))
  f33 := ⟨Try.f92.name, by decide, Try.func92.trans (congrArg some (by kernel_rfl))⟩
  f34 := ⟨Try.f93.name, by decide, Try.func93.trans (congrArg some (by kernel_rfl))⟩
  f35 := ⟨Try.f94.name, by decide, Try.func94.trans (congrArg some (by kernel_rfl))⟩
  f40 := ⟨Try.f96.name, by decide, Try.func96.trans (congrArg some (by kernel_rfl))⟩
  t0 := Try.underlying0
  a0 := Try.isAgg0
  z0 := Try.sizeOf0
  v0 := Try.zeroValue0
  t3 := Try.underlying3
  a3 := Try.isAgg3
  z3 := Try.sizeOf3
  v3 := Try.zeroValue3
  t4 := Try.underlying4
  a4 := Try.isAgg4
  z4 := Try.sizeOf4
  v4 := Try.zeroValue4
  t5 := Try.underlying5
  a5 := Try.isAgg5
  z5 := Try.sizeOf5
  v5 := Try.zeroValue5
  t9 := Try.underlying9
  a9 := Try.isAgg9
  z9 := Try.sizeOf9
  v9 := Try.zeroValue9
  t22 := Try.underlying54
  a22 := Try.isAgg54
  z22 := Try.sizeOf54
  v22 := Try.zeroValue54
  t23 := Try.underlying54
  a23 := Try.isAgg54
  z23 := Try.sizeOf54
  v23 := Try.zeroValue54
  t25 := Try.underlying3
  a25 := Try.isAgg3
  z25 := Try.sizeOf3
  v25 := Try.zeroValue3
  t32 := Try.underlying129
  a32 := Try.isAgg129
  z32 := Try.sizeOf129
  v32 := Try.zeroValue129
  t35 := Try.underlying134
  a35 := Try.isAgg134
  z35 := Try.sizeOf134
  v35 := Try.zeroValue134
  t36 := Try.underlying135
  a36 := Try.isAgg135
  z36 := Try.sizeOf135
  v36 := Try.zeroValue135
  t41 := Try.underlying140
  a41 := Try.isAgg140
  z41 := Try.sizeOf140
  v41 := Try.zeroValue140
  t44 := Try.underlying143
  a44 := Try.isAgg143
  z44 := Try.sizeOf143
  v44 := Try.zeroValue143
  t46 := Try.underlying98
  a46 := Try.isAgg98
  z46 := Try.sizeOf98
  v46 := Try.zeroValue98
  t53 := Try.underlying146
  a53 := Try.isAgg146
  z53 := Try.sizeOf146
  v53 := Try.zeroValue146
  t57 := Try.underlying150
  a57 := Try.isAgg150
  z57 := Try.sizeOf150
  v57 := Try.zeroValue150
  t63 := Try.underlying152
  a63 := Try.isAgg152
  z63 := Try.sizeOf152
  v63 := Try.zeroValue152
  t64 := Try.underlying153
  a64 := Try.isAgg153
  z64 := Try.sizeOf153
  v64 := Try.zeroValue153
theorem sortsI (m : Nat) : AnyZI.SortsIn Try.prog sortedAR Fence.wide m :=
  ⟨fun blk off cap ss W hH hblk hsz => callsIn_wide.2 (AnyM.slices_Sort_int sortA blk off cap ss W hH hblk hsz),
   fun p cap W => callsIn_wide.2 (AnyM.slices_Sort_int_none sortA p cap W)⟩
/-- The iterator over a map's keys, as a value. -/
abbrev itV (b : Nat) : Value := .func (.func 57) #[] #[.pointer (some ⟨b, 0, none⟩)]
theorem keysC (mb : Option Nat) (W : World) : Calls Try.prog 42 #[.map mb] W fun e w' => e = .returned (itV W.heap.size) ∧ w' = W.alloc (.cells #[.map mb] 66) := by
  have cK : CallsIn Fence.wide 5 Try.prog 42 #[.map mb] W fun e w' => e = .returned (itV W.heap.size) ∧ w' = W.alloc (.cells #[.map mb] 66) := AnyZI.keys_in keysA Fence.wide 5 trivial rfl mb W
  exact (callsIn_wide (n := 5)).1 cK
theorem sortedC {H : Type} (b nn : Nat) (D0 : DataW H) (R : Value → Option (DataW H × List MemPlace)) (w : World) (hown : w.ownsMap Try.prog 3 R b nn D0) (hmax : Maps.size D0 ≤ maxLen) (hbytes : Maps.size D0 * 8 ≤ 140737488355328) :
    Calls Try.prog 41 #[itV w.heap.size] (w.alloc (.cells #[.map (some b)] 66)) fun e w' => ∃ (v : Value) (ss : List Int), e = .returned v ∧ ss.Perm (intKeys D0) ∧
      w'.ownsRow w.heap.size 3 1 v ss.length ((ss.mergeSort (fun x y => decide (x ≤ y))).map encZ) ∧ (v = .slice none 0 0 ↔ ss = []) ∧ Below w.heap.size w w' := by
  have hbl := hown.lt
  have hseq : SeqGives Fence.wide 2 Try.prog 57 #[.pointer (some ⟨w.heap.size, 0, none⟩)] encZ (fun ss => ss.Perm (intKeys D0)) (Maps.size D0) (w.alloc (.cells #[.map (some b)] 66)) :=
    AnyZI.keys_gives (ρ := keysAR) { keysA with } Fence.wide _ trivial rfl (by omega) w.heap.size b nn D0 _ (by simp) (by simp) (by
      obtain ⟨es, clock, hb, Ft, hs, hD⟩ := hown
      exact ⟨es, clock, (Below.heap_alloc _ _ b hbl).trans hb, Ft, hs, hD⟩)
  have cS := AnyZI.sorted_in sortedA Fence.wide 5 trivial trivial trivial trivial rfl (by omega) (sortsI _) (enters_of Try.func56 (by kernel_rfl) rfl) 57 #[.pointer (some ⟨w.heap.size, 0, none⟩)] trivial (enters_of Try.func57 (by kernel_rfl) rfl) _ _ hmax hbytes _ hseq
  change CallsIn _ _ Try.prog 41 _ _ _ at cS
  refine ((callsIn_wide (n := 5)).1 cS).mono ?_
  rintro e w' ⟨v, ss, rfl, hS, hrow, hnil, hb⟩
  exact ⟨v, ss, rfl, hS, ownsRow_base_a hrow (by simp), hnil, ((Below.refl _ w).alloc (Nat.le_refl _) _).trans (hb.mono (by simp))⟩
end Go.Proofs.Ytjdeehffbgpenaa

namespace Go.Proofs.Ytjdeehffbgpenaa
open Go.RowKit Go.Maps Go.Sort
set_option linter.unusedVariables false

theorem around_sorted {S : Ms} {m : Nat} (hk : MsOk S m) (v : Int) : (around S.C v).Pairwise (· < ·) := by
  unfold around
  rw [List.pairwise_map]
  exact hk.fs.filter _
theorem merge_around {S : Ms} {m : Nat} (hk : MsOk S m) (v : Int) {ss : List Int} (h : ss.Perm (around S.C v)) : ss.mergeSort (fun x y => decide (x ≤ y)) = around S.C v := by
  rw [mergeSort_of_perm_i h]
  exact List.mergeSort_of_pairwise ((around_sorted hk v).imp (fun {a b} h => by simp only [decide_eq_true_eq]; omega))
theorem keys_perm {w : World} {b n : Nat} {D : DataW Value} {g : Int → Option Value} (hown : w.ownsMap Try.prog 3 rV b n D) (hg : ∀ a kl, keyOf Try.prog 3 (.int .i64 a) = some kl → Maps.has D kl = (g a).isSome) {L : List Int} (hn : L.Nodup) (h64 : ∀ x ∈ L, I64 x) (hL : ∀ x, g x ≠ none ↔ x ∈ L) : L.Perm (intKeys D) := by
  refine CollectedI.perm (left := fun _ => false) ⟨hn, fun x => ?_⟩ hown (int_keyed Try.underlying3) Try.underlying3 (fun _ => rfl)
  constructor
  · intro hx
    refine ⟨?_, rfl⟩
    rw [hg x _ (intKey (h64 x hx))]
    cases e : g x with
    | none => exact absurd e ((hL x).2 hx)
    | some u => rfl
  · rintro ⟨h1, _⟩
    obtain ⟨es, rfl, hko⟩ := hown.keysOf
    have h1' := h1
    rw [has_eq, List.any_eq_true] at h1
    obtain ⟨q, hq, hs⟩ := h1
    obtain ⟨u, hu⟩ := hko q hq
    obtain ⟨y, rfl, hy, _⟩ := Maps.keyOf_i64 Try.underlying3 hu
    rw [hy] at hs
    have e : y = x := by simpa [Lit.sameKey] using hs
    subst e
    have h2 := hg y _ hu
    rw [hy, h1'] at h2
    refine (hL y).1 (fun e => ?_)
    rw [e] at h2
    cases h2
theorem gotL_nil (w w' : World) (h : Below w.heap.size w w') : GotL w [] (.returned (.slice none 0 0)) w' := ⟨none, 0, rfl, own_none _ _ _, h⟩
theorem mAround0 (v : Int) (w : World) : Calls Try.prog 16 #[.pointer none, .int .i64 v] w (GotL w []) := by
  go_enter Try.func16, Try.ntmps16
  go_wp2_with (go_at_call 29; fail)
  refine (mHasV0 v w).mono ?_
  rintro e w1 ⟨rfl, b1⟩
  go_wp2
  go_ret
  exact gotL_nil _ _ b1
/-- Of a vertex that is not. -/
theorem around_no {S : Ms} {m : Nat} (hk : MsOk S m) {v : Int} (h : isV S v = false) : around S.C v = [] := by
  refine List.eq_nil_iff_forall_not_mem.2 (fun x hx => ?_)
  obtain ⟨c, hc, _, j, hj, e⟩ := around_iff.1 hx
  have := hk.fi c hc j hj
  rw [e, h] at this
  cases this
set_option maxRecDepth 100000 in
theorem mAround (base p : Nat) (X : Mx) (S : Ms) (m : Nat) (F : Nat → Prop) (w : World) (h : MeI base p X F w) (hS : MeOk X S) (hk : MsOk S m) (hm : m ≤ 1000) (v : Int) (hv : In64 v) {M : List Int} (hM : M = around S.C v) :
    Calls Try.prog 16 #[ptR p, .int .i64 v] w (GotL w M) := by
  have hT : X.av.T ≤ 1000 := by rw [hS.av]; have := hk.vt; omega
  have HI : Hid _ := h
  have HD : Hid (isV S v = decide (v ∈ X.av.L)) := isV_dec hS hk v
  cases hb : isV S v with
  | false =>
    rw [hb] at HD
    have hM0 : M = [] := hM.trans (around_no hk hb)
    subst hM0
    clear h hS hk hM
    go_enter Try.func16, Try.ntmps16
    go_wp2_with (go_at_call 29; fail)
    refine (mHasV base p X F w HI.out hT v hv HD.out).mono ?_
    rintro e w1 ⟨rfl, b1⟩
    go_wp2
    go_ret
    exact gotL_nil _ _ b1
  | true =>
    rw [hb] at HD
    obtain ⟨a, ha, rfl⟩ := isV_iff.1 hb
    obtain ⟨g, k, hXa, hg, hak, hkn, hcap, hc⟩ := h.vcell hS hk ha
    have q3 := h.row.cell 3 _ rfl
    rw [hXa] at q3
    have u4 := (hc 4 _ rfl).1
    have lp := h.row.lt
    have HF : Hid _ := h.fcs a.no ((hS.Lv _).2 hb)
    have HG : Hid (∀ f, X.gf a.no f ≠ none ↔ f ∈ around S.C a.no) := hS.gf a ha
    have HK : Hid _ := hk
    have HM : Hid _ := hM
    have h64 : Hid (∀ x ∈ around S.C a.no, I64 x ∧ x ∈ S.C.map Ce.no) := by
      intro x hx
      obtain ⟨c, hc, rfl, _⟩ := around_iff.1 hx
      have := hk.fmem hc
      have := hk.ft
      exact ⟨⟨by omega, by omega⟩, List.mem_map.2 ⟨c, hc, rfl⟩⟩
    have hCl : Hid (S.C.length ≤ 1000) := by
      have h1 := hk.fp.length_eq
      have h2 := hk.ft
      have h3 := nodup_sub (l := S.C.map Ce.no) (m := (List.range S.af.T).map fun k : Nat => (k : Int)) (List.pairwise_map.2 (hk.fs.imp (fun {a b} h => by omega))) (by
        intro x hx
        obtain ⟨c, hc, rfl⟩ := List.mem_map.1 hx
        have := (hk.fmem hc).2
        exact List.mem_map.2 ⟨c.no.toNat, List.mem_range.2 (by omega), by omega⟩)
      simp only [List.length_map, List.length_range] at h3
      unfold Hid
      omega
    obtain ⟨mb, hmb⟩ : ∃ v, v = X.M a.no := ⟨_, rfl⟩
    rw [← hmb] at u4 HF
    obtain ⟨nv, hnv⟩ : ∃ v, v = X.nv := ⟨_, rfl⟩
    obtain ⟨ca, hca⟩ : ∃ v, v = X.ca := ⟨_, rfl⟩
    rw [← hnv, ← hca] at q3
    rw [← hnv] at hkn
    have hlt : (k : Int) < (nv : Int) := by omega
    have HAK : Hid _ := hak
    have hv' : In64 (k : Int) := hak ▸ hv
    rw [hak]
    rw [hak] at HD
    clear h hS hk hM hc hXa hnv hca hmb ha hb hcap hak hv
    go_enter Try.func16, Try.ntmps16
    go_wp2_with (go_at_call 29; fail)
    refine (mHasV base p X F w HI.out hT (k : Int) hv' HD.out).mono ?_
    rintro e w1 ⟨rfl, b1⟩
    replace q3 := (b1.cell (p := ⟨p, 3, none⟩) lp).trans q3
    replace u4 := (b1.cell (p := ⟨g, k * 5 + 4, none⟩) hg).trans u4
    go_wp2_with (go_at_call 42; refine (keysC (some mb) w1).mono ?_; rintro e w2 ⟨rfl, rfl⟩; fail)
    refine (keysC (some mb) w1).mono ?_
    rintro e w2 ⟨rfl, rfl⟩
    go_wp2_with (go_at_call 41; fail)
    obtain ⟨D, n, hown, hgD⟩ := (MapL.below HF.out b1).ex
    have hsz := (MapL.bound intL hown hgD (S.C.map Ce.no) (fun x _ hne => (h64.out x ((HG.out x).1 hne)).2)).2
    rw [List.length_map] at hsz
    have hper := keys_perm hown (fun a kl ha => has_lk (hgD a kl ha)) ((around_sorted HK.out a.no).imp (fun {a b} h => by omega)) (fun x hx => (h64.out x hx).1) HG.out
    refine (sortedC mb n D rV w1 hown (by have := hCl.out; unfold maxLen; omega) (by have := hCl.out; omega)).mono ?_
    rintro e w3 ⟨v, ss, rfl, hss, hrow, hnil, b3⟩
    go_wp2
    go_ret
    have hp2 : ss.Perm (around S.C a.no) := hss.trans hper.symm
    rw [merge_around HK.out a.no hp2, hp2.length_eq, ← HM.out] at hrow
    obtain ⟨a', c', rfl, hO⟩ := OwnS.form hrow
    exact ⟨a', c', rfl, ownsRow_base_a hO b1.size, b1.trans (b3.mono b1.size)⟩
end Go.Proofs.Ytjdeehffbgpenaa

namespace Go.Proofs.Ytjdeehffbgpenaa
open Go.RowKit Go.Maps
set_option linter.unusedVariables false

theorem faceOf_zero {S : Ms} {f : Int} (h : isF S f = false) : faceOf S f = trZero := by
  unfold faceOf
  rw [m_faceOf_no h]
theorem crossed_no {S : Ms} {f i : Int} (h : isF S f = false) : crossed S f i = none := by
  unfold crossed
  rw [m_faceOf_no h]
def NoN (W : World) (i : Nat) (w' : World) : Prop := Below W.heap.size W w'
def NoJ (W : World) (i : Nat) (w' : World) : Prop := i = 0 ∧ Below W.heap.size W w'
set_option maxRecDepth 100000 in
set_option maxHeartbeats 1000000 in
theorem mAddF_nil (t : Tr) (w : World) : Calls Try.prog 9 #[.pointer none, trV t] w fun e w' => e = .returned (.tuple #[.int .i64 (-1), .int .i64 1]) ∧ Below w.heap.size w w' := by
  obtain ⟨W, hW⟩ : ∃ W, W = (w.alloc (.cells #[.pointer none] 22)).alloc (.cells (trC t).toArray 42) := ⟨_, rfl⟩
  have BW : Below w.heap.size w W := by rw [hW]; exact ((Below.refl _ _).alloc (Nat.le_refl _) _).alloc (by simp) _
  have zW : W.heap.size = w.heap.size + 2 := by rw [hW]; simp
  have R1 : Row W w.heap.size [.pointer none] := by rw [hW]; exact (Row.new w [.pointer none] _).alloc _ (by simp)
  have R2 : Row W (w.heap.size + 1) (trC t) := by rw [hW]; have := Row.new (w.alloc (.cells #[.pointer none] 22)) (trC t) 42; simpa using this
  have hW' : (w.alloc (.cells #[.pointer none] 22)).alloc (.cells #[.int .i64 t.v0, .int .i64 t.v1, .int .i64 t.v2, .int .i64 t.x0, .int .i64 t.y0, .int .i64 t.x1, .int .i64 t.y1, .int .i64 t.x2, .int .i64 t.y2] 42) = W := hW.symm
  have HE1 : Hid (Calls Try.prog 27 #[.func (.func 28) #[] #[ptR w.heap.size, ptR (w.heap.size + 1)]] W (EveryPost (NoJ W) (NoN W))) := by
    refine mEvery _ _ (enters_of Try.func28 (by kernel_rfl) rfl) _ _ W ⟨rfl, Below.refl _ _⟩ ?_
    rintro i w1 hi ⟨o1, b1⟩
    have hz1 := b1.size
    refine (mAsk1 (.pointer none) t i w.heap.size (w.heap.size + 1) w1 hi (R1.below b1 (by omega)) (R2.below b1 (by omega)) (r := false) ?_).mono ?_
    · intro w' hb'
      exact mHasV0 _ w'
    · rintro e w2 ⟨rfl, b2⟩
      exact Or.inr ⟨rfl, b1.trans (b2.mono b1.size)⟩
  clear hW zW
  go_enter Try.func9, Try.ntmps9
  go_wp2_with (go_at_call 27; fail)
  refine (Calls.mono HE1.out) ?_
  clear HE1
  rintro e w1 (⟨rfl, h3, _⟩ | ⟨rfl, i, hi, b1⟩)
  · omega
  · have b1 : Below W.heap.size W w1 := b1
    have B1 : Below w.heap.size w w1 := BW.trans (b1.mono BW.size)
    clear hW'
    go_wp2
    exact bodyPost_ret (v := .tuple #[.int .i64 (-1), .int .i64 1]) (by simp [results, Try.results9, go_sem]) rfl ⟨rfl, B1⟩
theorem meNone : MeNone where
  new n w _ h := mNew0 n w h
  side := mSide0
  addV := mAddV_nil
  dropV := mDropV_nil
  vert := mVert0
  addF := mAddF_nil
  dropF v w := mDropF0 _ v w (mFace0 v w)
  face v w := (mFace0 v w).mono (by rintro e w' ⟨rfl, b⟩; exact ⟨⟨trZero, rfl⟩, b⟩)
  corner f i w := (mCorner0 _ f i w (fun w' _ => mFace0 f w')).mono (by rintro e w' ⟨rfl, b⟩; exact ⟨⟨0, 0, rfl⟩, b⟩)
  across f i w := (mAcross0 _ f i w (fun w' _ => mFace0 f w')).mono (by rintro e w' ⟨rfl, b⟩; exact ⟨⟨0, 0, 0, rfl⟩, b⟩)
  around := mAround0
  dump w := (mDump0 w).mono (by rintro e w' ⟨rfl, b⟩; exact ⟨⟨none, 0, 0, none, 0, 0, rfl⟩, b⟩)
  check := mCheck0
theorem noFace {base p : Nat} {X : Mx} {S : Ms} {m : Nat} {F : Nat → Prop} {w : World} (h : MeI base p X F w) (hS : MeOk X S) (hk : MsOk S m) (hm : m ≤ 1000) {f : Int} (hf : In64 f) (hn : isF S f = false) : ∀ w', Below w.heap.size w w' → Calls Try.prog 11 #[ptR p, .int .i64 f] w' fun e w'' => e = .returned (.tuple #[trV trZero, .bool false]) ∧ Below w'.heap.size w' w'' :=
  fun w' hb => mFaceL base p X S m F w' (h.below hb) hS hk hm f hf (faceOf_zero hn).symm hn.symm
theorem tr64v {t : Tr} (h : Tr64 t) {i : Nat} (hi : i < 3) : In64 (t.v i) := h.v i
theorem meSpec : MeSpec MeP where
  keep := MeP.keep
  ft := MeP.ft
  new base n w hb hn := mNew base n w hb hn
  side base p S m F w h hk hm := by
    obtain ⟨X, hX, hS⟩ := h.ex
    rw [← hS.n]
    exact mSide base p X F w hX
  addV0 base p S m F w h hk hm x y id _ _ _ hq := by
    obtain ⟨X, hX, hS⟩ := h.ex
    refine (mAddV0 base p X F w hX x y id ?_).mono ?_
    · rw [hS.n]
      intro hh
      have : inSq S x y = true := decide_eq_true ⟨hh.1.1, hh.1.2, hh.2.1, hh.2.2⟩
      rw [hq] at this
      cases this
    · rintro e w' ⟨rfl, b⟩
      exact ⟨rfl, h.left b⟩
  addV base p S m F w h hk hm x y id _ _ _ hq := by
    obtain ⟨X, hX, hS⟩ := h.ex
    exact mAddV base p X S m F w hX hS hk hm x y id hq
  dropV0 base p S m F w h hk hm v hv hno := by
    obtain ⟨X, hX, hS⟩ := h.ex
    refine (mDropV0 base p X S m F w hX hS hk hm v hv hno).mono ?_
    rintro e w' ⟨rfl, b⟩
    exact ⟨rfl, h.left b⟩
  dropV base p S m F w h hk hm v i a hv ha hav har := by
    obtain ⟨X, hX, hS⟩ := h.ex
    subst hav
    exact mDropV base p X S m F w hX hS hk hm i a ha har
  vert base p S m F w h hk hm v hv := by
    obtain ⟨X, hX, hS⟩ := h.ex
    exact mVert base p X S m F w hX hS hk hm v hv
  addF0 base p S m F w h hk hm t e0 ht he hne := by
    obtain ⟨X, hX, hS⟩ := h.ex
    subst he
    refine (mAddF base p X S m F w hX hS hk hm t ?_).mono ?_
    · exact fun i hi => tr64v ht hi
    · rintro e w' (⟨_, rfl, b⟩ | ⟨h0, _⟩)
      · exact ⟨rfl, h.left b⟩
      · exact absurd h0 hne
  addF base p S m F w h hk hm t ht h0 := by
    obtain ⟨X, hX, hS⟩ := h.ex
    refine (mAddF base p X S m F w hX hS hk hm t ?_).mono ?_
    · exact fun i hi => tr64v ht hi
    · rintro e w' (⟨hne, _⟩ | ⟨_, rfl, b⟩)
      · exact absurd h0 hne
      · exact ⟨rfl, b⟩
  dropF0 base p S m F w h hk hm f hf hn := by
    obtain ⟨X, hX, hS⟩ := h.ex
    refine (mDropF0 (ptR p) f w (noFace hX hS hk hm hf hn w (Below.refl _ _))).mono ?_
    rintro e w' ⟨rfl, b⟩
    exact ⟨rfl, h.left b⟩
  dropF base p S m F w h hk hm f i c hf hc hcf := by
    obtain ⟨X, hX, hS⟩ := h.ex
    subst hcf
    exact mDropF base p X S m F w hX hS hk hm i c hc
  face base p S m F w h hk hm f hf := by
    obtain ⟨X, hX, hS⟩ := h.ex
    exact mFace base p X S m F w hX hS hk hm f hf
  corner0 base p S m F w h hk hm f i hf hi hn := by
    obtain ⟨X, hX, hS⟩ := h.ex
    exact mCorner0 (ptR p) f i w (noFace hX hS hk hm hf hn)
  corner base p S m F w h hk hm f i hf hi hb := by
    obtain ⟨X, hX, hS⟩ := h.ex
    exact mCorner base p X S m F w hX hS hk hm f i hf hi hb
  across base p S m F w h hk hm f i hf hi := by
    obtain ⟨X, hX, hS⟩ := h.ex
    cases hb : isF S f with
    | true => exact mAcross base p X S m F w hX hS hk hm f i hf hi hb
    | false =>
      rw [crossed_no hb]
      exact mAcross0 (ptR p) f i w (noFace hX hS hk hm hf hb)
  around base p S m F w h hk hm v hv M hM := by
    obtain ⟨X, hX, hS⟩ := h.ex
    exact mAround base p X S m F w hX hS hk hm v hv hM
  dump base p S m F w h hk hm := by
    obtain ⟨X, hX, hS⟩ := h.ex
    exact mDump base p X S m F w hX hS hk hm
  check base p S m F w h hk hm r hr := by
    obtain ⟨X, hX, hS⟩ := h.ex
    exact mCheck base p X S m F w hX hS hk hm hr
end Go.Proofs.Ytjdeehffbgpenaa
