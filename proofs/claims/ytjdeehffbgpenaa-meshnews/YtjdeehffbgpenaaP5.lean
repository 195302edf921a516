/-
  Joined texts, part 5:
  The landed mesh's small functions: third, canCoord, hasVert, edgeFrom, turned.
  The landed mesh's hasEdge, place.
  The landed mesh's every: what is asked of each corner, by whatever function.
  What package pred's turn, Area2, Orient and Dist2 answer.
  The landed mesh's functions that ask of each corner: AddFace's two, places' one; places, turnsLeft.
-/
import Derived.Test.YtjdeehffbgpenaaP4
import Derived.Test.YtjdeehffbgpenaaP2
import Derived.Test.YtjdeehffbgpenaaP3
import Derived.Shelf.Abstract
namespace Go.Proofs.Ytjdeehffbgpenaa
open Go.RowKit Go.Maps
set_option linter.unusedVariables false

theorem third_eq {i r : Int} (hr : r = i % 3) : (i.tmod 3 + 3).tmod 3 = r := by
  have h1 : (-3 : Int) < i.tmod 3 := by have := Int.lt_tmod_of_pos i (show (0 : Int) < 3 by decide); omega
  rw [Int.tmod_eq_emod_of_nonneg (by omega)]
  have h2 := Int.tmod_add_mul_tdiv i 3
  omega
theorem mThird (i : Int) (w : World) {r : Int} (hr : r = i % 3) : Calls Try.prog 37 #[.int .i64 i] w fun e w' => e = .returned (.int .i64 r) ∧ Below w.heap.size w w' := by
  have h1 : (-3 : Int) < i.tmod 3 := by have := Int.lt_tmod_of_pos i (show (0 : Int) < 3 by decide); omega
  have h2 : i.tmod 3 < 3 := Int.tmod_lt_of_pos i (by decide)
  have h3 := third_eq hr
  obtain ⟨q, hq⟩ : ∃ q, q = i.tmod 3 := ⟨_, rfl⟩
  rw [← hq] at h1 h2 h3
  have HR : Hid _ := hr
  have hq' : i.tmod 3 = q := hq.symm
  clear hr hq
  go_enter Try.func37, Try.ntmps37
  go_wp2
  go_ret
  exact ⟨rfl, Below.refl _ _⟩
theorem mCan (base p : Nat) (X : Mx) (F : Nat → Prop) (w : World) (h : MeI base p X F w) (c : Int) {r : Bool} (hr : r = decide (0 ≤ c ∧ c < X.n)) : Calls Try.prog 23 #[ptR p, .int .i64 c] w fun e w' => e = .returned (.bool r) ∧ Below w.heap.size w w' := by
  have q0 := h.row.cell 0 _ rfl
  obtain ⟨n, hn⟩ : ∃ n, n = X.n := ⟨_, rfl⟩
  rw [← hn] at q0 hr
  have HR : Hid _ := hr
  clear h hr hn
  by_cases h0 : 0 ≤ c
  · by_cases h1 : c < n
    · obtain rfl : r = true := HR.out.trans (decide_eq_true ⟨h0, h1⟩)
      go_enter Try.func23, Try.ntmps23
      go_wp2
      go_ret
      exact ⟨rfl, Below.refl _ _⟩
    · obtain rfl : r = false := HR.out.trans (decide_eq_false (fun e => h1 e.2))
      go_enter Try.func23, Try.ntmps23
      go_wp2
      go_ret
      exact ⟨rfl, Below.refl _ _⟩
  · obtain rfl : r = false := HR.out.trans (decide_eq_false (fun e => h0 e.1))
    go_enter Try.func23, Try.ntmps23
    go_wp2
    go_ret
    exact ⟨rfl, Below.refl _ _⟩
theorem mHasV (base p : Nat) (X : Mx) (F : Nat → Prop) (w : World) (h : MeI base p X F w) (hT : X.av.T ≤ 1000) (v : Int) (hv : In64 v) {r : Bool} (hr : r = decide (v ∈ X.av.L)) : Calls Try.prog 29 #[ptR p, .int .i64 v] w fun e w' => e = .returned (.bool r) ∧ Below w.heap.size w w' := by
  have q1 := h.row.cell 1 _ rfl
  have HA : Hid _ := h.arv
  have HR : Hid _ := hr
  obtain ⟨pv, hpv⟩ : ∃ pv, pv = X.pv := ⟨_, rfl⟩
  rw [← hpv] at q1 HA
  clear h hr hpv
  go_enter Try.func29, Try.ntmps29
  go_wp2_with (go_at_call 35; fail)
  refine (arLive HA.out hT v hv HR.out).mono ?_
  rintro e w1 ⟨rfl, b1⟩
  go_wp2
  go_ret
  exact ⟨rfl, b1⟩
theorem mHasV0 (v : Int) (w : World) : Calls Try.prog 29 #[.pointer none, .int .i64 v] w fun e w' => e = .returned (.bool false) ∧ Below w.heap.size w w' := by
  go_enter Try.func29, Try.ntmps29
  go_wp2
  go_ret
  exact ⟨rfl, Below.refl _ _⟩
/-- The edge as it is reckoned in 64 bits. -/
def egW (t : Tr) (i : Nat) : Eg := ⟨t.v i, t.v (nx i), wrap64 (t.x (nx i) - t.x i), wrap64 (t.y (nx i) - t.y i)⟩
def egT (e : Eg) : Eg := ⟨e.t, e.f, wrap64 (0 - e.x), wrap64 (0 - e.y)⟩
theorem trC_v (t : Tr) {j : Nat} (hj : j < 3) : (trC t)[j]? = some (.int .i64 (t.v j)) := by
  rcases (by omega : j = 0 ∨ j = 1 ∨ j = 2) with rfl | rfl | rfl <;> rfl
theorem trC_x (t : Tr) {j : Nat} (hj : j < 3) : (trC t)[3 + j * 2]? = some (.int .i64 (t.x j)) := by
  rcases (by omega : j = 0 ∨ j = 1 ∨ j = 2) with rfl | rfl | rfl <;> rfl
theorem trC_y (t : Tr) {j : Nat} (hj : j < 3) : (trC t)[3 + j * 2 + 1]? = some (.int .i64 (t.y j)) := by
  rcases (by omega : j = 0 ∨ j = 1 ∨ j = 2) with rfl | rfl | rfl <;> rfl

set_option maxRecDepth 100000 in
theorem mEdge (t : Tr) (i : Nat) (w : World) (hi : i < 3) : Calls Try.prog 33 #[trV t, .int .i64 (i : Int)] w fun e w' => e = .returned (egV (egW t i)) ∧ Below w.heap.size w w' := by
  obtain ⟨W, hW⟩ : ∃ W, W = (w.alloc (.cells (trC t).toArray 42)).alloc (.cells #[.int .i64 0, .int .i64 0, .int .i64 0, .int .i64 0] 82) := ⟨_, rfl⟩
  have BW : Below w.heap.size w W := by rw [hW]; exact ((Below.refl _ _).alloc (Nat.le_refl _) _).alloc (by simp) _
  have zW : W.heap.size = w.heap.size + 2 := by rw [hW]; simp
  have R0 : Row W w.heap.size (trC t) := by rw [hW]; exact (Row.new w _ _).alloc _ (by simp)
  have R1 : Row W (w.heap.size + 1) [.int .i64 0, .int .i64 0, .int .i64 0, .int .i64 0] := by rw [hW]; have := Row.new (w.alloc (.cells (trC t).toArray 42)) [.int .i64 0, .int .i64 0, .int .i64 0, .int .i64 0] 82; simpa using this
  have hW' : (w.alloc (.cells #[.int .i64 t.v0, .int .i64 t.v1, .int .i64 t.v2, .int .i64 t.x0, .int .i64 t.y0, .int .i64 t.x1, .int .i64 t.y1, .int .i64 t.x2, .int .i64 t.y2] 42)).alloc (.cells #[.int .i64 0, .int .i64 0, .int .i64 0, .int .i64 0] 82) = W := hW.symm
  obtain ⟨k, hk⟩ : ∃ k, k = nx i := ⟨_, rfl⟩
  have hk3 : k < 3 := by rw [hk]; unfold nx; omega
  have HK : Hid ((k : Int) = ((i : Int) + 1) % 3) := by unfold Hid; rw [hk]; unfold nx; omega
  have HE : Hid (egW t i = ⟨t.v i, t.v k, wrap64 (t.x k - t.x i), wrap64 (t.y k - t.y i)⟩) := by unfold Hid; rw [hk]; rfl
  clear hW hk
  go_enter Try.func33, Try.ntmps33
  go_wp2_with (go_at_call 37; fail)
  refine (mThird ((i : Int) + 1) W HK.out).mono ?_
  rintro e w1 ⟨rfl, b1⟩
  clear hW'
  have z1 := b1.size
  have B1 : Below w.heap.size w w1 := BW.trans (b1.mono (by omega))
  replace R0 := R0.below b1 (by omega)
  replace R1 := R1.below b1 (by omega)
  have ci := R0.cell i _ (trC_v t hi)
  have ck := R0.cell k _ (trC_v t hk3)
  have xi := R0.cell (3 + i * 2) _ (trC_x t hi)
  have yi := R0.cell (3 + i * 2 + 1) _ (trC_y t hi)
  have xk := R0.cell (3 + k * 2) _ (trC_x t hk3)
  have yk := R0.cell (3 + k * 2 + 1) _ (trC_y t hk3)
  obtain ⟨vi, hvi⟩ : ∃ v, v = t.v i := ⟨_, rfl⟩
  obtain ⟨vk, hvk⟩ : ∃ v, v = t.v k := ⟨_, rfl⟩
  obtain ⟨a, ha⟩ : ∃ v, v = t.x i := ⟨_, rfl⟩
  obtain ⟨b, hb⟩ : ∃ v, v = t.y i := ⟨_, rfl⟩
  obtain ⟨c, hc⟩ : ∃ v, v = t.x k := ⟨_, rfl⟩
  obtain ⟨d, hd⟩ : ∃ v, v = t.y k := ⟨_, rfl⟩
  rw [← hvi] at ci
  rw [← hvk] at ck
  rw [← ha] at xi
  rw [← hb] at yi
  rw [← hc] at xk
  rw [← hd] at yk
  obtain ⟨u, HU⟩ : ∃ u, Hid (u = wrap64 (c - a)) := ⟨_, rfl⟩
  obtain ⟨v, HV⟩ : ∃ v, Hid (v = wrap64 (d - b)) := ⟨_, rfl⟩
  have HE2 : Hid (egW t i = ⟨vi, vk, u, v⟩) := by unfold Hid; rw [HE.out, HU.out, HV.out, hvi, hvk, ha, hb, hc, hd]
  clear hvi hvk ha hb hc hd HE
  have hi' : (i : Int) < 3 := by omega
  have hk' : (k : Int) < 3 := by omega
  go_wp2
  refine regionL 18 (S := fun w' => w'.cell? ⟨w.heap.size, i, none⟩ = some (.int .i64 vi) ∧ w'.cell? ⟨w.heap.size, k, none⟩ = some (.int .i64 vk) ∧ w'.cell? ⟨w.heap.size, 3 + i * 2, none⟩ = some (.int .i64 a) ∧ w'.cell? ⟨w.heap.size, 3 + i * 2 + 1, none⟩ = some (.int .i64 b) ∧ w'.cell? ⟨w.heap.size, 3 + k * 2, none⟩ = some (.int .i64 c) ∧ w'.cell? ⟨w.heap.size, 3 + k * 2 + 1, none⟩ = some (.int .i64 d)) (by kernel_rfl) ?_ (fun hHeld => ?_)
  · exact ⟨ci, ck, xi, yi, xk, yk⟩
  refine takeL_yes (i := 0) (v := ?vef0) rfl (by kernel_rfl) (by kernel_rfl) (by kernel_rfl) (by kernel_rfl) (by decide) (fun _ _ _ h => h) (by rfl) (by assumption) ?hyef0 ?restef0
  case hyef0 => (intro w hSw; (try dsimp only at hSw); first | (go_simp; done) | (go_simp; with_reducible rfl))
  simp only [Act.put, List.setIfInBounds_toArray, List.set_cons_zero, List.set_cons_succ]
  refine takeL_yes (i := 1) (v := ?vef1) rfl (by kernel_rfl) (by kernel_rfl) (by kernel_rfl) (by kernel_rfl) (by decide) (fun _ _ _ h => h) (by rfl) (by assumption) ?hyef1 ?restef1
  case hyef1 => (intro w hSw; (try dsimp only at hSw); first | (go_simp; done) | (go_simp; with_reducible rfl))
  simp only [Act.put, List.setIfInBounds_toArray, List.set_cons_zero, List.set_cons_succ]
  refine takeL_yes (i := 2) (v := ?vef2) rfl (by kernel_rfl) (by kernel_rfl) (by kernel_rfl) (by kernel_rfl) (by decide) (fun _ _ _ h => h) (by rfl) (by assumption) ?hyef2 ?restef2
  case hyef2 => (intro w hSw; (try dsimp only at hSw); first | (go_simp; done) | (go_simp; with_reducible rfl))
  simp only [Act.put, List.setIfInBounds_toArray, List.set_cons_zero, List.set_cons_succ]
  refine takeL_yes (i := 3) (v := ?vef3) rfl (by kernel_rfl) (by kernel_rfl) (by kernel_rfl) (by kernel_rfl) (by decide) (fun _ _ _ h => h) (by rfl) (by assumption) ?hyef3 ?restef3
  case hyef3 => (intro w hSw; (try dsimp only at hSw); first | (go_simp; done) | (go_simp; with_reducible rfl))
  simp only [Act.put, List.setIfInBounds_toArray, List.set_cons_zero, List.set_cons_succ]
  refine takeL_yes (i := 4) (v := ?vef4) rfl (by kernel_rfl) (by kernel_rfl) (by kernel_rfl) (by kernel_rfl) (by decide) (fun _ _ _ h => h) (by rfl) (by assumption) ?hyef4 ?restef4
  case hyef4 => (intro w hSw; (try dsimp only at hSw); first | (go_simp; done) | (go_simp; with_reducible rfl))
  simp only [Act.put, List.setIfInBounds_toArray, List.set_cons_zero, List.set_cons_succ]
  refine takeL_yes (i := 5) (v := ?vef5) rfl (by kernel_rfl) (by kernel_rfl) (by kernel_rfl) (by kernel_rfl) (by decide) (fun _ _ _ h => h) (by rfl) (by assumption) ?hyef5 ?restef5
  case hyef5 => (intro w hSw; (try dsimp only at hSw); first | (go_simp; done) | (go_simp; with_reducible rfl))
  simp only [Act.put, List.setIfInBounds_toArray, List.set_cons_zero, List.set_cons_succ]
  refine takeL_yes (i := 6) (v := ?vef6) rfl (by kernel_rfl) (by kernel_rfl) (by kernel_rfl) (by kernel_rfl) (by decide) (fun _ _ _ h => h) (by rfl) (by assumption) ?hyef6 ?restef6
  case hyef6 => (intro w hSw; (try dsimp only at hSw); first | (go_simp; done) | (go_simp; with_reducible rfl))
  simp only [Act.put, List.setIfInBounds_toArray, List.set_cons_zero, List.set_cons_succ]
  refine takeL_yes (i := 7) (v := ?vef7) rfl (by kernel_rfl) (by kernel_rfl) (by kernel_rfl) (by kernel_rfl) (by decide) (fun _ _ _ h => h) (by rfl) (by assumption) ?hyef7 ?restef7
  case hyef7 => (intro w hSw; (try dsimp only at hSw); first | (go_simp; done) | (go_simp; with_reducible rfl))
  simp only [Act.put, List.setIfInBounds_toArray, List.set_cons_zero, List.set_cons_succ]
  refine takeL_yes (i := 8) (v := ?vef8) rfl (by kernel_rfl) (by kernel_rfl) (by kernel_rfl) (by kernel_rfl) (by decide) (fun _ _ _ h => h) (by rfl) (by assumption) ?hyef8 ?restef8
  case hyef8 => (intro w hSw; (try dsimp only at hSw); first | (go_simp; done) | (go_simp; with_reducible rfl))
  simp only [Act.put, List.setIfInBounds_toArray, List.set_cons_zero, List.set_cons_succ]
  refine takeL_yes (i := 9) (v := ?vef9) rfl (by kernel_rfl) (by kernel_rfl) (by kernel_rfl) (by kernel_rfl) (by decide) (fun _ _ _ h => h) (by rfl) (by assumption) ?hyef9 ?restef9
  case hyef9 => (intro w hSw; (try dsimp only at hSw); first | (go_simp; done) | (go_simp; with_reducible rfl))
  simp only [Act.put, List.setIfInBounds_toArray, List.set_cons_zero, List.set_cons_succ]
  refine takeL_yes (i := 10) (v := ?vef10) rfl (by kernel_rfl) (by kernel_rfl) (by kernel_rfl) (by kernel_rfl) (by decide) (fun _ _ _ h => h) (by rfl) (by assumption) ?hyef10 ?restef10
  case hyef10 => (intro w hSw; (try dsimp only at hSw); first | (go_simp; done) | (go_simp; with_reducible rfl))
  simp only [Act.put, List.setIfInBounds_toArray, List.set_cons_zero, List.set_cons_succ]
  refine takeL_yes (i := 11) (v := ?vef11) rfl (by kernel_rfl) (by kernel_rfl) (by kernel_rfl) (by kernel_rfl) (by decide) (fun _ _ _ h => h) (by rfl) (by assumption) ?hyef11 ?restef11
  case hyef11 => (intro w hSw; (try dsimp only at hSw); first | (go_simp; done) | (go_simp; with_reducible rfl))
  simp only [Act.put, List.setIfInBounds_toArray, List.set_cons_zero, List.set_cons_succ]
  refine takeL_yes (i := 12) (v := ?vef12) rfl (by kernel_rfl) (by kernel_rfl) (by kernel_rfl) (by kernel_rfl) (by decide) (fun _ _ _ h => h) (by rfl) (by assumption) ?hyef12 ?restef12
  case hyef12 => (intro w hSw; (try dsimp only at hSw); first | (go_simp; done) | (go_simp; with_reducible rfl))
  simp only [Act.put, List.setIfInBounds_toArray, List.set_cons_zero, List.set_cons_succ]
  refine takeL_yes (i := 13) (v := ?vef13) rfl (by kernel_rfl) (by kernel_rfl) (by kernel_rfl) (by kernel_rfl) (by decide) (fun _ _ _ h => h) (by rfl) (by assumption) ?hyef13 ?restef13
  case hyef13 => (intro w hSw; (try dsimp only at hSw); first | (go_simp; done) | (go_simp; with_reducible rfl))
  simp only [Act.put, List.setIfInBounds_toArray, List.set_cons_zero, List.set_cons_succ]
  refine takeL_yes (i := 14) (v := ?vef14) rfl (by kernel_rfl) (by kernel_rfl) (by kernel_rfl) (by kernel_rfl) (by decide) (fun _ _ _ h => h) (by rfl) (by assumption) ?hyef14 ?restef14
  case hyef14 => (intro w hSw; (try dsimp only at hSw); first | (go_simp; done) | (go_simp; with_reducible rfl))
  simp only [Act.put, List.setIfInBounds_toArray, List.set_cons_zero, List.set_cons_succ]
  refine takeL_yes (i := 15) (v := ?vef15) rfl (by kernel_rfl) (by kernel_rfl) (by kernel_rfl) (by kernel_rfl) (by decide) (fun _ _ _ h => h) (by rfl) (by assumption) ?hyef15 ?restef15
  case hyef15 => (intro w hSw; (try dsimp only at hSw); first | (go_simp; done) | (go_simp; with_reducible rfl))
  simp only [Act.put, List.setIfInBounds_toArray, List.set_cons_zero, List.set_cons_succ]
  refine takeL_call (i := 16) rfl (by kernel_rfl) (fun Kc hK => ?_)
  go_simp
  (go_at_call 39; refine (lLess c d a b _ HU.out HV.out).mono ?_; rintro e w2 ⟨rfl, b2⟩)
  refine hK.out _ _ ?_ (fun hHeld => ?_)
  · exact ⟨(b2.cell (p := ⟨w.heap.size, i, none⟩) (by simp; omega)).trans ci, (b2.cell (p := ⟨w.heap.size, k, none⟩) (by simp; omega)).trans ck, (b2.cell (p := ⟨w.heap.size, 3 + i * 2, none⟩) (by simp; omega)).trans xi, (b2.cell (p := ⟨w.heap.size, 3 + i * 2 + 1, none⟩) (by simp; omega)).trans yi, (b2.cell (p := ⟨w.heap.size, 3 + k * 2, none⟩) (by simp; omega)).trans xk, (b2.cell (p := ⟨w.heap.size, 3 + k * 2 + 1, none⟩) (by simp; omega)).trans yk⟩
  clear hK Kc
  refine takeL_yes (i := 17) (v := ?vef17) rfl (by kernel_rfl) (by kernel_rfl) (by kernel_rfl) (by kernel_rfl) (by decide) (fun _ _ _ h => h) (by rfl) (by assumption) ?hyef17 ?restef17
  case hyef17 => (intro w hSw; (try dsimp only at hSw); first | (go_simp; done) | (go_simp; with_reducible rfl))
  simp only [Act.put, List.setIfInBounds_toArray, List.set_cons_zero, List.set_cons_succ]
  have z2 : w1.heap.size ≤ w2.heap.size := b2.size
  replace R1 := (show Row w1.drew (w.heap.size + 1) [.int .i64 0, .int .i64 0, .int .i64 0, .int .i64 0] from R1).below b2 (by simp; omega)
  have f0 := R1.free 0 (by simp)
  have f1 := R1.free 1 (by simp)
  have f2 := R1.free 2 (by simp)
  have f3 := R1.free 3 (by simp)
  have g0 := R1.cell 0 _ rfl
  have g1 := R1.cell 1 _ rfl
  have g2 := R1.cell 2 _ rfl
  have g3 := R1.cell 3 _ rfl
  refine takeL_last rfl (by kernel_rfl) (fun Kc hK => ?_)
  go_simp
  refine hK.out _ _ ?_
  clear hK Kc
  refine anyL_done (by kernel_rfl) ?_ _
  have R2 := (((R1.set 0 (.int .i64 vi) (by simp)).set 1 (.int .i64 vk) (by simp)).set 2 (.int .i64 u) (by simp)).set 3 (.int .i64 v) (by simp)
  have h0 := R2.cell 0 _ rfl
  have h1 := R2.cell 1 _ rfl
  have h2 := R2.cell 2 _ rfl
  have h3 := R2.cell 3 _ rfl
  have B2 : Below w.heap.size w w2 := B1.trans ((⟨b2.os, b2.tape, b2.output, b2.size, b2.block⟩ : Below w1.heap.size w1 w2).mono (by omega))
  have BF : Below w.heap.size w ((((w2.setCell ⟨w.heap.size + 1, 0, none⟩ (.int .i64 vi)).setCell ⟨w.heap.size + 1, 1, none⟩ (.int .i64 vk)).setCell ⟨w.heap.size + 1, 2, none⟩ (.int .i64 u)).setCell ⟨w.heap.size + 1, 3, none⟩ (.int .i64 v)) := (((B2.setCell (by simp) _).setCell (by simp) _).setCell (by simp) _).setCell (by simp) _
  go_wp2
  refine bodyPost_ret (v := .agg #[.int .i64 vi, .int .i64 vk, .int .i64 u, .int .i64 v]) (by simp [results, Try.results33, go_sem, *]) rfl ?_
  rw [HE2.out]
  exact ⟨rfl, BF⟩
set_option maxRecDepth 100000 in
theorem mTurned (f t x y : Int) (w : World) : Calls Try.prog 38 #[egV ⟨f, t, x, y⟩] w fun e w' => e = .returned (egV (egT ⟨f, t, x, y⟩)) ∧ Below w.heap.size w w' := by
  obtain ⟨W, hW⟩ : ∃ W, W = (w.alloc (.cells #[.int .i64 f, .int .i64 t, .int .i64 x, .int .i64 y] 82)).alloc (.cells #[.int .i64 0, .int .i64 0, .int .i64 0, .int .i64 0] 82) := ⟨_, rfl⟩
  have BW : Below w.heap.size w W := by rw [hW]; exact ((Below.refl _ _).alloc (Nat.le_refl _) _).alloc (by simp) _
  have zW : W.heap.size = w.heap.size + 2 := by rw [hW]; simp
  have R0 : Row W w.heap.size [.int .i64 f, .int .i64 t, .int .i64 x, .int .i64 y] := by rw [hW]; exact (Row.new w [.int .i64 f, .int .i64 t, .int .i64 x, .int .i64 y] _).alloc _ (by simp)
  have R1 : Row W (w.heap.size + 1) [.int .i64 0, .int .i64 0, .int .i64 0, .int .i64 0] := by rw [hW]; have := Row.new (w.alloc (.cells #[.int .i64 f, .int .i64 t, .int .i64 x, .int .i64 y] 82)) [.int .i64 0, .int .i64 0, .int .i64 0, .int .i64 0] 82; simpa using this
  have hW' := hW.symm
  obtain ⟨u, HU⟩ : ∃ u, Hid (u = wrap64 (0 - x)) := ⟨_, rfl⟩
  obtain ⟨v, HV⟩ : ∃ v, Hid (v = wrap64 (0 - y)) := ⟨_, rfl⟩
  have HE2 : Hid (egT ⟨f, t, x, y⟩ = ⟨t, f, u, v⟩) := by unfold Hid; rw [HU.out, HV.out]; rfl
  have c0 := R0.cell 0 _ rfl
  have c1 := R0.cell 1 _ rfl
  have c2 := R0.cell 2 _ rfl
  have c3 := R0.cell 3 _ rfl
  clear hW
  go_enter Try.func38, Try.ntmps38
  go_wp2
  clear hW'
  refine regionL 9 (S := fun w' => w'.cell? ⟨w.heap.size, 0, none⟩ = some (.int .i64 f) ∧ w'.cell? ⟨w.heap.size, 1, none⟩ = some (.int .i64 t) ∧ w'.cell? ⟨w.heap.size, 2, none⟩ = some (.int .i64 x) ∧ w'.cell? ⟨w.heap.size, 3, none⟩ = some (.int .i64 y)) (by kernel_rfl) ?_ (fun hHeld => ?_)
  · exact ⟨c0, c1, c2, c3⟩
  refine takeL_yes (i := 0) (v := ?vtu0) rfl (by kernel_rfl) (by kernel_rfl) (by kernel_rfl) (by kernel_rfl) (by decide) (fun _ _ _ h => h) (by rfl) (by assumption) ?hytu0 ?resttu0
  case hytu0 => (intro w hSw; (try dsimp only at hSw); first | (go_simp; done) | (go_simp; with_reducible rfl))
  simp only [Act.put, List.setIfInBounds_toArray, List.set_cons_zero, List.set_cons_succ]
  refine takeL_yes (i := 1) (v := ?vtu1) rfl (by kernel_rfl) (by kernel_rfl) (by kernel_rfl) (by kernel_rfl) (by decide) (fun _ _ _ h => h) (by rfl) (by assumption) ?hytu1 ?resttu1
  case hytu1 => (intro w hSw; (try dsimp only at hSw); first | (go_simp; done) | (go_simp; with_reducible rfl))
  simp only [Act.put, List.setIfInBounds_toArray, List.set_cons_zero, List.set_cons_succ]
  refine takeL_yes (i := 2) (v := ?vtu2) rfl (by kernel_rfl) (by kernel_rfl) (by kernel_rfl) (by kernel_rfl) (by decide) (fun _ _ _ h => h) (by rfl) (by assumption) ?hytu2 ?resttu2
  case hytu2 => (intro w hSw; (try dsimp only at hSw); first | (go_simp; done) | (go_simp; with_reducible rfl))
  simp only [Act.put, List.setIfInBounds_toArray, List.set_cons_zero, List.set_cons_succ]
  refine takeL_yes (i := 3) (v := ?vtu3) rfl (by kernel_rfl) (by kernel_rfl) (by kernel_rfl) (by kernel_rfl) (by decide) (fun _ _ _ h => h) (by rfl) (by assumption) ?hytu3 ?resttu3
  case hytu3 => (intro w hSw; (try dsimp only at hSw); first | (go_simp; done) | (go_simp; with_reducible rfl))
  simp only [Act.put, List.setIfInBounds_toArray, List.set_cons_zero, List.set_cons_succ]
  refine takeL_yes (i := 4) (v := ?vtu4) rfl (by kernel_rfl) (by kernel_rfl) (by kernel_rfl) (by kernel_rfl) (by decide) (fun _ _ _ h => h) (by rfl) (by assumption) ?hytu4 ?resttu4
  case hytu4 => (intro w hSw; (try dsimp only at hSw); first | (go_simp; done) | (go_simp; with_reducible rfl))
  simp only [Act.put, List.setIfInBounds_toArray, List.set_cons_zero, List.set_cons_succ]
  refine takeL_yes (i := 5) (v := ?vtu5) rfl (by kernel_rfl) (by kernel_rfl) (by kernel_rfl) (by kernel_rfl) (by decide) (fun _ _ _ h => h) (by rfl) (by assumption) ?hytu5 ?resttu5
  case hytu5 => (intro w hSw; (try dsimp only at hSw); first | (go_simp; done) | (go_simp; with_reducible rfl))
  simp only [Act.put, List.setIfInBounds_toArray, List.set_cons_zero, List.set_cons_succ]
  refine takeL_yes (i := 6) (v := ?vtu6) rfl (by kernel_rfl) (by kernel_rfl) (by kernel_rfl) (by kernel_rfl) (by decide) (fun _ _ _ h => h) (by rfl) (by assumption) ?hytu6 ?resttu6
  case hytu6 => (intro w hSw; (try dsimp only at hSw); first | (go_simp; done) | (go_simp; with_reducible rfl))
  simp only [Act.put, List.setIfInBounds_toArray, List.set_cons_zero, List.set_cons_succ]
  refine takeL_call (i := 7) rfl (by kernel_rfl) (fun Kc hK => ?_)
  go_simp
  (go_at_call 39; refine (lLess 0 0 x y _ HU.out HV.out).mono ?_; rintro e w2 ⟨rfl, b2⟩)
  refine hK.out _ _ ?_ (fun hHeld => ?_)
  · exact ⟨(b2.cell (p := ⟨w.heap.size, 0, none⟩) (by simp; omega)).trans c0, (b2.cell (p := ⟨w.heap.size, 1, none⟩) (by simp; omega)).trans c1, (b2.cell (p := ⟨w.heap.size, 2, none⟩) (by simp; omega)).trans c2, (b2.cell (p := ⟨w.heap.size, 3, none⟩) (by simp; omega)).trans c3⟩
  clear hK Kc
  refine takeL_yes (i := 8) (v := ?vtu8) rfl (by kernel_rfl) (by kernel_rfl) (by kernel_rfl) (by kernel_rfl) (by decide) (fun _ _ _ h => h) (by rfl) (by assumption) ?hytu8 ?resttu8
  case hytu8 => (intro w hSw; (try dsimp only at hSw); first | (go_simp; done) | (go_simp; with_reducible rfl))
  simp only [Act.put, List.setIfInBounds_toArray, List.set_cons_zero, List.set_cons_succ]
  have z2 : W.heap.size ≤ w2.heap.size := b2.size
  replace R1 := (show Row W.drew (w.heap.size + 1) [.int .i64 0, .int .i64 0, .int .i64 0, .int .i64 0] from R1).below b2 (by simp; omega)
  have f0 := R1.free 0 (by simp)
  have f1 := R1.free 1 (by simp)
  have f2 := R1.free 2 (by simp)
  have f3 := R1.free 3 (by simp)
  have g0 := R1.cell 0 _ rfl
  have g1 := R1.cell 1 _ rfl
  have g2 := R1.cell 2 _ rfl
  have g3 := R1.cell 3 _ rfl
  refine takeL_last rfl (by kernel_rfl) (fun Kc hK => ?_)
  go_simp
  refine hK.out _ _ ?_
  clear hK Kc
  refine anyL_done (by kernel_rfl) ?_ _
  have R2 := (((R1.set 0 (.int .i64 t) (by simp)).set 1 (.int .i64 f) (by simp)).set 2 (.int .i64 u) (by simp)).set 3 (.int .i64 v) (by simp)
  have h0 := R2.cell 0 _ rfl
  have h1 := R2.cell 1 _ rfl
  have h2 := R2.cell 2 _ rfl
  have h3 := R2.cell 3 _ rfl
  have B2 : Below w.heap.size w w2 := BW.trans ((⟨b2.os, b2.tape, b2.output, b2.size, b2.block⟩ : Below W.heap.size W w2).mono (by omega))
  have BF : Below w.heap.size w ((((w2.setCell ⟨w.heap.size + 1, 0, none⟩ (.int .i64 t)).setCell ⟨w.heap.size + 1, 1, none⟩ (.int .i64 f)).setCell ⟨w.heap.size + 1, 2, none⟩ (.int .i64 u)).setCell ⟨w.heap.size + 1, 3, none⟩ (.int .i64 v)) := (((B2.setCell (by simp) _).setCell (by simp) _).setCell (by simp) _).setCell (by simp) _
  go_wp2
  refine bodyPost_ret (v := .agg #[.int .i64 t, .int .i64 f, .int .i64 u, .int .i64 v]) (by simp [results, Try.results38, go_sem, *]) rfl ?_
  rw [HE2.out]
  exact ⟨rfl, BF⟩
end Go.Proofs.Ytjdeehffbgpenaa

namespace Go.Proofs.Ytjdeehffbgpenaa
open Go.RowKit Go.Maps
set_option linter.unusedVariables false

theorem zeroStart (w : World) : (zeroValue 86).run Try.prog w = .ok (.agg #[.int .i64 0, .int .i64 0]) w := by kernel_rfl
/-- All that the edges tell is a face and a corner. -/
def Starts (g : Eg → Option Value) : Prop := ∀ e v, g e = some v → ∃ f i : Int, v = stV f i
theorem Starts.get {g : Eg → Option Value} (h : Starts g) (e : Eg) : ∃ f i : Int, (g e).getD (.agg #[.int .i64 0, .int .i64 0]) = stV f i ∧ ((g e).isSome = true → g e = some (stV f i)) := by
  cases hg : g e with
  | none => exact ⟨0, 0, rfl, fun h => by cases h⟩
  | some v =>
    obtain ⟨f, i, rfl⟩ := h e v hg
    exact ⟨f, i, rfl, fun _ => rfl⟩

set_option maxRecDepth 100000 in
theorem mHasE (base p : Nat) (X : Mx) (F : Nat → Prop) (w : World) (h : MeI base p X F w) (hst : Starts X.ge) (f t x y : Int) (he : Eg.ok ⟨f, t, x, y⟩) {r : Bool} (hr : r = (X.ge ⟨f, t, x, y⟩).isSome) : Calls Try.prog 32 #[ptR p, egV ⟨f, t, x, y⟩] w fun e w' => e = .returned (.bool r) ∧ Below w.heap.size w w' := by
  obtain ⟨kl, hkl⟩ := egKey he
  obtain ⟨sf, si, hs, _⟩ := hst.get ⟨f, t, x, y⟩
  have hpl := h.row.lt
  have LK : ∀ w', Below w.heap.size w w' → (Instr.lookup 60 (.map (some X.be)) (.agg #[.int .i64 f, .int .i64 t, .int .i64 x, .int .i64 y]) true).run Try.prog w' = .ok (.tuple #[.agg #[.int .i64 sf, .int .i64 si], .bool r]) w' := by
    intro w' hb
    have := (h.below hb).edg.look egL Try.underlying60 hkl (zeroStart w')
    rw [hs, ← hr] at this
    exact this
  obtain ⟨W, hW⟩ : ∃ W, W = w.alloc (.cells #[.int .i64 f, .int .i64 t, .int .i64 x, .int .i64 y] 82) := ⟨_, rfl⟩
  have BW : Below w.heap.size w W := by rw [hW]; exact (Below.refl _ _).alloc (Nat.le_refl _) _
  have zW : W.heap.size = w.heap.size + 1 := by rw [hW]; simp
  have R0 : Row W w.heap.size [.int .i64 f, .int .i64 t, .int .i64 x, .int .i64 y] := by rw [hW]; exact Row.new w [.int .i64 f, .int .i64 t, .int .i64 x, .int .i64 y] _
  have q5 := (h.below BW).row.cell 5 _ rfl
  have hW' := hW.symm
  obtain ⟨be, hbe⟩ : ∃ be, be = X.be := ⟨_, rfl⟩
  rw [← hbe] at q5 LK
  have HL : Hid _ := LK
  have c0 := R0.cell 0 _ rfl
  have c1 := R0.cell 1 _ rfl
  have c2 := R0.cell 2 _ rfl
  have c3 := R0.cell 3 _ rfl
  have lA : w.heap.size < W.heap.size := by omega
  have lp : p < W.heap.size := by omega
  clear hW hbe hkl h hst he hr hs LK
  go_enter Try.func32, Try.ntmps32
  go_wp2
  clear hW'
  have HShe : Hid (∀ w', Below (W.heap.size) W w' → (fun w' => w'.cell? ⟨w.heap.size, 0, none⟩ = some (.int .i64 f) ∧ w'.cell? ⟨w.heap.size, 1, none⟩ = some (.int .i64 t) ∧ w'.cell? ⟨w.heap.size, 2, none⟩ = some (.int .i64 x) ∧ w'.cell? ⟨w.heap.size, 3, none⟩ = some (.int .i64 y) ∧ w'.cell? ⟨p, 5, none⟩ = some (.map (some be)) ∧ (Instr.lookup 60 (.map (some be)) (.agg #[.int .i64 f, .int .i64 t, .int .i64 x, .int .i64 y]) true).run Try.prog w' = .ok (.tuple #[.agg #[.int .i64 sf, .int .i64 si], .bool r]) w' ∧ Below (W.heap.size) W w') w') := by
    unfold Hid
    intro w' hb
    exact ⟨(hb.cell (p := ⟨w.heap.size, 0, none⟩) lA).trans c0, (hb.cell (p := ⟨w.heap.size, 1, none⟩) lA).trans c1, (hb.cell (p := ⟨w.heap.size, 2, none⟩) lA).trans c2, (hb.cell (p := ⟨w.heap.size, 3, none⟩) lA).trans c3, (hb.cell (p := ⟨p, 5, none⟩) lp).trans q5, HL.out _ (BW.trans (hb.mono (by omega))), hb⟩
  refine wp_region_held_drew (S := fun w' => w'.cell? ⟨w.heap.size, 0, none⟩ = some (.int .i64 f) ∧ w'.cell? ⟨w.heap.size, 1, none⟩ = some (.int .i64 t) ∧ w'.cell? ⟨w.heap.size, 2, none⟩ = some (.int .i64 x) ∧ w'.cell? ⟨w.heap.size, 3, none⟩ = some (.int .i64 y) ∧ w'.cell? ⟨p, 5, none⟩ = some (.map (some be)) ∧ (Instr.lookup 60 (.map (some be)) (.agg #[.int .i64 f, .int .i64 t, .int .i64 x, .int .i64 y]) true).run Try.prog w' = .ok (.tuple #[.agg #[.int .i64 sf, .int .i64 si], .bool r]) w' ∧ Below (W.heap.size) W w') (by kernel_rfl) ?_ (fun hHeld => ?_)
  · exact HShe.out _ ((Below.refl _ _).drew)
  refine take_yes (i := 0) (v := ?vhe0) rfl (by kernel_rfl) (by kernel_rfl) (by kernel_rfl) (fun _ _ _ h => h) (by rfl) (by assumption) ?hyhe0 ?resthe0
  case hyhe0 => (intro w hSw; (try dsimp only at hSw); first | (go_simp; done) | (go_simp; with_reducible rfl))
  simp only [Act.put, List.setIfInBounds_toArray, List.set_cons_zero, List.set_cons_succ]
  refine take_yes (i := 1) (v := ?vhe1) rfl (by kernel_rfl) (by kernel_rfl) (by kernel_rfl) (fun _ _ _ h => h) (by rfl) (by assumption) ?hyhe1 ?resthe1
  case hyhe1 => (intro w hSw; (try dsimp only at hSw); first | (go_simp; done) | (go_simp; with_reducible rfl))
  simp only [Act.put, List.setIfInBounds_toArray, List.set_cons_zero, List.set_cons_succ]
  refine take_yes (i := 2) (v := ?vhe2) rfl (by kernel_rfl) (by kernel_rfl) (by kernel_rfl) (fun _ _ _ h => h) (by rfl) (by assumption) ?hyhe2 ?resthe2
  case hyhe2 => (intro w hSw; (try dsimp only at hSw); first | (go_simp; done) | (go_simp; with_reducible rfl))
  simp only [Act.put, List.setIfInBounds_toArray, List.set_cons_zero, List.set_cons_succ]
  refine take_yes (i := 3) (v := ?vhe3) rfl (by kernel_rfl) (by kernel_rfl) (by kernel_rfl) (fun _ _ _ h => h) (by rfl) (by assumption) ?hyhe3 ?resthe3
  case hyhe3 => (intro w hSw; (try dsimp only at hSw); first | (go_simp; done) | (go_simp; with_reducible rfl))
  simp only [Act.put, List.setIfInBounds_toArray, List.set_cons_zero, List.set_cons_succ]
  refine take_yes (i := 4) (v := ?vhe4) rfl (by kernel_rfl) (by kernel_rfl) (by kernel_rfl) (fun _ _ _ h => h) (by rfl) (by assumption) ?hyhe4 ?resthe4
  case hyhe4 => (intro w hSw; (try dsimp only at hSw); first | (go_simp; done) | (go_simp; with_reducible rfl))
  simp only [Act.put, List.setIfInBounds_toArray, List.set_cons_zero, List.set_cons_succ]
  refine take_yes (i := 5) (v := ?vhe5) rfl (by kernel_rfl) (by kernel_rfl) (by kernel_rfl) (fun _ _ _ h => h) (by rfl) (by assumption) ?hyhe5 ?resthe5
  case hyhe5 => (intro w hSw; (try dsimp only at hSw); first | (go_simp; done) | (go_simp; with_reducible rfl))
  simp only [Act.put, List.setIfInBounds_toArray, List.set_cons_zero, List.set_cons_succ]
  refine take_yes (i := 6) (v := ?vhe6) rfl (by kernel_rfl) (by kernel_rfl) (by kernel_rfl) (fun _ _ _ h => h) (by rfl) (by assumption) ?hyhe6 ?resthe6
  case hyhe6 => (intro w hSw; (try dsimp only at hSw); first | (go_simp; done) | (go_simp; with_reducible rfl))
  simp only [Act.put, List.setIfInBounds_toArray, List.set_cons_zero, List.set_cons_succ]
  refine take_yes (i := 7) (v := ?vhe7) rfl (by kernel_rfl) (by kernel_rfl) (by kernel_rfl) (fun _ _ _ h => h) (by rfl) (by assumption) ?hyhe7 ?resthe7
  case hyhe7 => (intro w hSw; (try dsimp only at hSw); first | (go_simp; done) | (go_simp; with_reducible rfl))
  simp only [Act.put, List.setIfInBounds_toArray, List.set_cons_zero, List.set_cons_succ]
  refine take_yes (i := 8) (v := ?vhe8) rfl (by kernel_rfl) (by kernel_rfl) (by kernel_rfl) (fun _ _ _ h => h) (by rfl) (by assumption) ?hyhe8 ?resthe8
  case hyhe8 => (intro w hSw; (try dsimp only at hSw); first | (go_simp; done) | (go_simp; with_reducible rfl))
  simp only [Act.put, List.setIfInBounds_toArray, List.set_cons_zero, List.set_cons_succ]
  refine take_call (i := 9) rfl (by kernel_rfl) (fun Kc hK => ?_)
  go_simp
  refine hK.out _ _ ?_ (fun hHeld => ?_)
  · exact HShe.out _ (hHeld.2.2.2.2.2.2.alloc hHeld.2.2.2.2.2.2.size _)
  clear hK Kc
  refine take_call (i := 10) rfl (by kernel_rfl) (fun Kc hK => ?_)
  go_simp
  refine hK.out _ _ ?_ (fun hHeld => ?_)
  · exact HShe.out _ (((Below.refl _ _).alloc (Nat.le_refl _) _).drew)
  clear hK Kc
  refine take_yes (i := 11) (v := ?vhe11) rfl (by kernel_rfl) (by kernel_rfl) (by kernel_rfl) (fun _ _ _ h => h) (by rfl) (by assumption) ?hyhe11 ?resthe11
  case hyhe11 => (intro w hSw; (try dsimp only at hSw); first | (go_simp; done) | (go_simp; with_reducible rfl))
  simp only [Act.put, List.setIfInBounds_toArray, List.set_cons_zero, List.set_cons_succ]
  refine wpAnyH_done (by kernel_rfl) ?_ _
  have BF := hHeld.2.2.2.2.2.2
  go_wp2
  go_ret
  exact ⟨rfl, BW.trans (BF.mono (by omega))⟩
/-- A vertex's cells, where its number says. -/
theorem MeI.vcell {base p : Nat} {X : Mx} {F : Nat → Prop} {w : World} {S : Ms} {m : Nat} (h : MeI base p X F w) (hS : MeOk X S) (hk : MsOk S m) {a : Vt} (ha : a ∈ S.V) : ∃ (g k : Nat), X.a = some ⟨g, 0, none⟩ ∧ g < w.heap.size ∧ a.no = (k : Int) ∧ k < X.nv ∧ X.nv ≤ X.ca ∧ ∀ j u, (vxC a (X.M a.no))[j]? = some u → w.cell? ⟨g, k * 5 + j, none⟩ = some u ∧ w.frozen? ⟨g, k * 5 + j, none⟩ = false := by
  obtain ⟨_, h0, h1⟩ := hk.vmem ha
  have hnv : a.no.toNat < X.nv := by rw [hS.nv]; omega
  obtain ⟨g, hg, hlt, _, hseg⟩ := h.own.at (by omega)
  refine ⟨g, a.no.toNat, hg, hlt, by omega, hnv, h.own.room.1, fun j u hu => ?_⟩
  have := hseg _ u (hS.vs a ha j u hu)
  rw [Nat.zero_add] at this
  exact this
/-- A face's cells, where its number says. -/
theorem MeI.fcell {base p : Nat} {X : Mx} {F : Nat → Prop} {w : World} {S : Ms} {m : Nat} (h : MeI base p X F w) (hS : MeOk X S) (hk : MsOk S m) {c : Ce} (hc : c ∈ S.C) : ∃ (g k : Nat), X.b = some ⟨g, 0, none⟩ ∧ g < w.heap.size ∧ c.no = (k : Int) ∧ k < X.nf ∧ X.nf ≤ X.cb ∧ ∀ j u, (trC c.t)[j]? = some u → w.cell? ⟨g, k * 9 + j, none⟩ = some u ∧ w.frozen? ⟨g, k * 9 + j, none⟩ = false := by
  obtain ⟨_, h0, h1⟩ := hk.fmem hc
  have hnv : c.no.toNat < X.nf := by rw [hS.nf]; omega
  obtain ⟨g, hg, hlt, _, hseg⟩ := h.onf.at (by omega)
  refine ⟨g, c.no.toNat, hg, hlt, by omega, hnv, h.onf.room.1, fun j u hu => ?_⟩
  have := hseg _ u (hS.fs c hc j u hu)
  rw [Nat.zero_add] at this
  exact this
set_option maxRecDepth 100000 in
theorem mPlace (base p : Nat) (X : Mx) (S : Ms) (m : Nat) (F : Nat → Prop) (w : World) (h : MeI base p X F w) (hS : MeOk X S) (hk : MsOk S m) (t : Tr) (i : Nat) (hi : i < 3) (hv : isV S (t.v i) = true) :
    Calls Try.prog 36 #[ptR p, trV t, .int .i64 (i : Int)] w fun e w' => e = .returned (.tuple #[.agg #[.int .i64 (plX S t i), .int .i64 (plY S t i)], .bool (plOk S t i)]) ∧ Below w.heap.size w w' := by
  obtain ⟨a, ha, hav⟩ := isV_iff.1 hv
  obtain ⟨g, k, hXa, hg, hak, hkn, hcap, hc⟩ := h.vcell hS hk ha
  have hpos := pos_of hk.vs ha
  rw [hav] at hpos
  obtain ⟨b, hb⟩ : ∃ b, b = plOk S t i := ⟨_, rfl⟩
  obtain ⟨u, hu⟩ : ∃ u, u = plX S t i := ⟨_, rfl⟩
  obtain ⟨v, hv'⟩ : ∃ v, v = plY S t i := ⟨_, rfl⟩
  rw [← hb, ← hu, ← hv']
  have HB : Hid (b = atC a.x a.y (t.x i) (t.y i) X.n) := by unfold Hid; rw [hb]; unfold plOk; rw [hpos, hS.n]
  have HU : Hid (u = if b then a.x + t.x i * X.n else 0) := by unfold Hid; rw [hu, hb]; unfold plX; rw [hpos, hS.n]
  have HV : Hid (v = if b then a.y + t.y i * X.n else 0) := by unfold Hid; rw [hv', hb]; unfold plY; rw [hpos, hS.n]
  have hpl := h.row.lt
  obtain ⟨W, hW⟩ : ∃ W, W = (w.alloc (.cells (trC t).toArray 42)).alloc (.cells #[.int .i64 0, .int .i64 0] 32) := ⟨_, rfl⟩
  have BW : Below w.heap.size w W := by rw [hW]; exact ((Below.refl _ _).alloc (Nat.le_refl _) _).alloc (by simp) _
  have zW : W.heap.size = w.heap.size + 2 := by rw [hW]; simp
  have R0 : Row W w.heap.size (trC t) := by rw [hW]; exact (Row.new w _ _).alloc _ (by simp)
  have R1 : Row W (w.heap.size + 1) [.int .i64 0, .int .i64 0] := by rw [hW]; have := Row.new (w.alloc (.cells (trC t).toArray 42)) [.int .i64 0, .int .i64 0] 32; simpa using this
  have hW' : (w.alloc (.cells #[.int .i64 t.v0, .int .i64 t.v1, .int .i64 t.v2, .int .i64 t.x0, .int .i64 t.y0, .int .i64 t.x1, .int .i64 t.y1, .int .i64 t.x2, .int .i64 t.y2] 42)).alloc (.cells #[.int .i64 0, .int .i64 0] 32) = W := hW.symm
  have q0 := (h.below BW).row.cell 0 _ rfl
  have q3 := (h.below BW).row.cell 3 _ rfl
  have ci := R0.cell i _ (trC_v t hi)
  have xi := R0.cell (3 + i * 2) _ (trC_x t hi)
  have yi := R0.cell (3 + i * 2 + 1) _ (trC_y t hi)
  rw [← hav, hak] at ci
  rw [hXa] at q3
  have v1 := (BW.cell (p := ⟨g, k * 5 + 1, none⟩) hg).trans (hc 1 _ rfl).1
  have v2 := (BW.cell (p := ⟨g, k * 5 + 2, none⟩) hg).trans (hc 2 _ rfl).1
  obtain ⟨ax, hax⟩ : ∃ v, v = a.x := ⟨_, rfl⟩
  obtain ⟨ay, hay⟩ : ∃ v, v = a.y := ⟨_, rfl⟩
  obtain ⟨tx, htx⟩ : ∃ v, v = t.x i := ⟨_, rfl⟩
  obtain ⟨ty, hty⟩ : ∃ v, v = t.y i := ⟨_, rfl⟩
  obtain ⟨n, hn⟩ : ∃ v, v = X.n := ⟨_, rfl⟩
  obtain ⟨nv, hnv⟩ : ∃ v, v = X.nv := ⟨_, rfl⟩
  obtain ⟨ca, hca⟩ : ∃ v, v = X.ca := ⟨_, rfl⟩
  rw [← hax] at v1
  rw [← hay] at v2
  rw [← htx] at xi
  rw [← hty] at yi
  rw [← hn] at q0
  rw [← hnv, ← hca] at q3
  rw [← hnv] at hkn
  rw [← hax, ← hay, ← htx, ← hty, ← hn] at HB
  rw [← hax, ← htx, ← hn] at HU
  rw [← hay, ← hty, ← hn] at HV
  have hi' : (i : Int) < 3 := by omega
  have hk' : (k : Int) < (nv : Int) := by omega
  have lA : w.heap.size < w.heap.size + 1 := by omega
  have lp : p < w.heap.size + 1 := by omega
  have lg : g < w.heap.size + 1 := by omega
  clear hW h hS hk hv ha hav hXa hak hcap hc hpos hb hu hv' hax hay htx hty hn hnv hca
  go_enter Try.func36, Try.ntmps36
  go_wp2
  clear hW'
  have HSpl : Hid (∀ w', Below (w.heap.size + 1) W w' → (fun w' => w'.cell? ⟨w.heap.size, i, none⟩ = some (.int .i64 (k : Int)) ∧ w'.cell? ⟨w.heap.size, 3 + i * 2, none⟩ = some (.int .i64 tx) ∧ w'.cell? ⟨w.heap.size, 3 + i * 2 + 1, none⟩ = some (.int .i64 ty) ∧ w'.cell? ⟨p, 0, none⟩ = some (.int .i64 n) ∧ w'.cell? ⟨p, 3, none⟩ = some (.slice (some ⟨g, 0, none⟩) nv ca) ∧ w'.cell? ⟨g, k * 5 + 1, none⟩ = some (.int .i64 ax) ∧ w'.cell? ⟨g, k * 5 + 2, none⟩ = some (.int .i64 ay) ∧ Below (w.heap.size + 1) W w') w') := by
    unfold Hid
    intro w' hb
    exact ⟨(hb.cell (p := ⟨w.heap.size, i, none⟩) lA).trans ci, (hb.cell (p := ⟨w.heap.size, 3 + i * 2, none⟩) lA).trans xi, (hb.cell (p := ⟨w.heap.size, 3 + i * 2 + 1, none⟩) lA).trans yi, (hb.cell (p := ⟨p, 0, none⟩) lp).trans q0, (hb.cell (p := ⟨p, 3, none⟩) lp).trans q3, (hb.cell (p := ⟨g, k * 5 + 1, none⟩) lg).trans v1, (hb.cell (p := ⟨g, k * 5 + 2, none⟩) lg).trans v2, hb⟩
  refine wp_region_held_drew (S := fun w' => w'.cell? ⟨w.heap.size, i, none⟩ = some (.int .i64 (k : Int)) ∧ w'.cell? ⟨w.heap.size, 3 + i * 2, none⟩ = some (.int .i64 tx) ∧ w'.cell? ⟨w.heap.size, 3 + i * 2 + 1, none⟩ = some (.int .i64 ty) ∧ w'.cell? ⟨p, 0, none⟩ = some (.int .i64 n) ∧ w'.cell? ⟨p, 3, none⟩ = some (.slice (some ⟨g, 0, none⟩) nv ca) ∧ w'.cell? ⟨g, k * 5 + 1, none⟩ = some (.int .i64 ax) ∧ w'.cell? ⟨g, k * 5 + 2, none⟩ = some (.int .i64 ay) ∧ Below (w.heap.size + 1) W w') (by kernel_rfl) ?_ (fun hHeld => ?_)
  · exact HSpl.out _ ((Below.refl _ _).drew)
  refine take_yes (i := 0) (v := ?vpl0) rfl (by kernel_rfl) (by kernel_rfl) (by kernel_rfl) (fun _ _ _ h => h) (by rfl) (by assumption) ?hypl0 ?restpl0
  case hypl0 => (intro w hSw; (try dsimp only at hSw); first | (go_simp; done) | (go_simp; with_reducible rfl))
  simp only [Act.put, List.setIfInBounds_toArray, List.set_cons_zero, List.set_cons_succ]
  refine take_yes (i := 1) (v := ?vpl1) rfl (by kernel_rfl) (by kernel_rfl) (by kernel_rfl) (fun _ _ _ h => h) (by rfl) (by assumption) ?hypl1 ?restpl1
  case hypl1 => (intro w hSw; (try dsimp only at hSw); first | (go_simp; done) | (go_simp; with_reducible rfl))
  simp only [Act.put, List.setIfInBounds_toArray, List.set_cons_zero, List.set_cons_succ]
  refine take_yes (i := 2) (v := ?vpl2) rfl (by kernel_rfl) (by kernel_rfl) (by kernel_rfl) (fun _ _ _ h => h) (by rfl) (by assumption) ?hypl2 ?restpl2
  case hypl2 => (intro w hSw; (try dsimp only at hSw); first | (go_simp; done) | (go_simp; with_reducible rfl))
  simp only [Act.put, List.setIfInBounds_toArray, List.set_cons_zero, List.set_cons_succ]
  refine take_yes (i := 3) (v := ?vpl3) rfl (by kernel_rfl) (by kernel_rfl) (by kernel_rfl) (fun _ _ _ h => h) (by rfl) (by assumption) ?hypl3 ?restpl3
  case hypl3 => (intro w hSw; (try dsimp only at hSw); first | (go_simp; done) | (go_simp; with_reducible rfl))
  simp only [Act.put, List.setIfInBounds_toArray, List.set_cons_zero, List.set_cons_succ]
  refine take_yes (i := 4) (v := ?vpl4) rfl (by kernel_rfl) (by kernel_rfl) (by kernel_rfl) (fun _ _ _ h => h) (by rfl) (by assumption) ?hypl4 ?restpl4
  case hypl4 => (intro w hSw; (try dsimp only at hSw); first | (go_simp; done) | (go_simp; with_reducible rfl))
  simp only [Act.put, List.setIfInBounds_toArray, List.set_cons_zero, List.set_cons_succ]
  refine take_yes (i := 5) (v := ?vpl5) rfl (by kernel_rfl) (by kernel_rfl) (by kernel_rfl) (fun _ _ _ h => h) (by rfl) (by assumption) ?hypl5 ?restpl5
  case hypl5 => (intro w hSw; (try dsimp only at hSw); first | (go_simp; done) | (go_simp; with_reducible rfl))
  simp only [Act.put, List.setIfInBounds_toArray, List.set_cons_zero, List.set_cons_succ]
  refine take_yes (i := 6) (v := ?vpl6) rfl (by kernel_rfl) (by kernel_rfl) (by kernel_rfl) (fun _ _ _ h => h) (by rfl) (by assumption) ?hypl6 ?restpl6
  case hypl6 => (intro w hSw; (try dsimp only at hSw); first | (go_simp; done) | (go_simp; with_reducible rfl))
  simp only [Act.put, List.setIfInBounds_toArray, List.set_cons_zero, List.set_cons_succ]
  refine take_yes (i := 7) (v := ?vpl7) rfl (by kernel_rfl) (by kernel_rfl) (by kernel_rfl) (fun _ _ _ h => h) (by rfl) (by assumption) ?hypl7 ?restpl7
  case hypl7 => (intro w hSw; (try dsimp only at hSw); first | (go_simp; done) | (go_simp; with_reducible rfl))
  simp only [Act.put, List.setIfInBounds_toArray, List.set_cons_zero, List.set_cons_succ]
  refine take_yes (i := 8) (v := ?vpl8) rfl (by kernel_rfl) (by kernel_rfl) (by kernel_rfl) (fun _ _ _ h => h) (by rfl) (by assumption) ?hypl8 ?restpl8
  case hypl8 => (intro w hSw; (try dsimp only at hSw); first | (go_simp; done) | (go_simp; with_reducible rfl))
  simp only [Act.put, List.setIfInBounds_toArray, List.set_cons_zero, List.set_cons_succ]
  refine take_yes (i := 9) (v := ?vpl9) rfl (by kernel_rfl) (by kernel_rfl) (by kernel_rfl) (fun _ _ _ h => h) (by rfl) (by assumption) ?hypl9 ?restpl9
  case hypl9 => (intro w hSw; (try dsimp only at hSw); first | (go_simp; done) | (go_simp; with_reducible rfl))
  simp only [Act.put, List.setIfInBounds_toArray, List.set_cons_zero, List.set_cons_succ]
  refine take_yes (i := 10) (v := ?vpl10) rfl (by kernel_rfl) (by kernel_rfl) (by kernel_rfl) (fun _ _ _ h => h) (by rfl) (by assumption) ?hypl10 ?restpl10
  case hypl10 => (intro w hSw; (try dsimp only at hSw); first | (go_simp; done) | (go_simp; with_reducible rfl))
  simp only [Act.put, List.setIfInBounds_toArray, List.set_cons_zero, List.set_cons_succ]
  refine take_yes (i := 11) (v := ?vpl11) rfl (by kernel_rfl) (by kernel_rfl) (by kernel_rfl) (fun _ _ _ h => h) (by rfl) (by assumption) ?hypl11 ?restpl11
  case hypl11 => (intro w hSw; (try dsimp only at hSw); first | (go_simp; done) | (go_simp; with_reducible rfl))
  simp only [Act.put, List.setIfInBounds_toArray, List.set_cons_zero, List.set_cons_succ]
  refine take_yes (i := 12) (v := ?vpl12) rfl (by kernel_rfl) (by kernel_rfl) (by kernel_rfl) (fun _ _ _ h => h) (by rfl) (by assumption) ?hypl12 ?restpl12
  case hypl12 => (intro w hSw; (try dsimp only at hSw); first | (go_simp; done) | (go_simp; with_reducible rfl))
  simp only [Act.put, List.setIfInBounds_toArray, List.set_cons_zero, List.set_cons_succ]
  refine take_yes (i := 13) (v := ?vpl13) rfl (by kernel_rfl) (by kernel_rfl) (by kernel_rfl) (fun _ _ _ h => h) (by rfl) (by assumption) ?hypl13 ?restpl13
  case hypl13 => (intro w hSw; (try dsimp only at hSw); first | (go_simp; done) | (go_simp; with_reducible rfl))
  simp only [Act.put, List.setIfInBounds_toArray, List.set_cons_zero, List.set_cons_succ]
  refine take_yes (i := 14) (v := ?vpl14) rfl (by kernel_rfl) (by kernel_rfl) (by kernel_rfl) (fun _ _ _ h => h) (by rfl) (by assumption) ?hypl14 ?restpl14
  case hypl14 => (intro w hSw; (try dsimp only at hSw); first | (go_simp; done) | (go_simp; with_reducible rfl))
  simp only [Act.put, List.setIfInBounds_toArray, List.set_cons_zero, List.set_cons_succ]
  refine take_yes (i := 15) (v := ?vpl15) rfl (by kernel_rfl) (by kernel_rfl) (by kernel_rfl) (fun _ _ _ h => h) (by rfl) (by assumption) ?hypl15 ?restpl15
  case hypl15 => (intro w hSw; (try dsimp only at hSw); first | (go_simp; done) | (go_simp; with_reducible rfl))
  simp only [Act.put, List.setIfInBounds_toArray, List.set_cons_zero, List.set_cons_succ]
  refine take_yes (i := 16) (v := ?vpl16) rfl (by kernel_rfl) (by kernel_rfl) (by kernel_rfl) (fun _ _ _ h => h) (by rfl) (by assumption) ?hypl16 ?restpl16
  case hypl16 => (intro w hSw; (try dsimp only at hSw); first | (go_simp; done) | (go_simp; with_reducible rfl))
  simp only [Act.put, List.setIfInBounds_toArray, List.set_cons_zero, List.set_cons_succ]
  refine take_yes (i := 17) (v := ?vpl17) rfl (by kernel_rfl) (by kernel_rfl) (by kernel_rfl) (fun _ _ _ h => h) (by rfl) (by assumption) ?hypl17 ?restpl17
  case hypl17 => (intro w hSw; (try dsimp only at hSw); first | (go_simp; done) | (go_simp; with_reducible rfl))
  simp only [Act.put, List.setIfInBounds_toArray, List.set_cons_zero, List.set_cons_succ]
  refine take_yes (i := 18) (v := ?vpl18) rfl (by kernel_rfl) (by kernel_rfl) (by kernel_rfl) (fun _ _ _ h => h) (by rfl) (by assumption) ?hypl18 ?restpl18
  case hypl18 => (intro w hSw; (try dsimp only at hSw); first | (go_simp; done) | (go_simp; with_reducible rfl))
  simp only [Act.put, List.setIfInBounds_toArray, List.set_cons_zero, List.set_cons_succ]
  refine take_yes (i := 19) (v := ?vpl19) rfl (by kernel_rfl) (by kernel_rfl) (by kernel_rfl) (fun _ _ _ h => h) (by rfl) (by assumption) ?hypl19 ?restpl19
  case hypl19 => (intro w hSw; (try dsimp only at hSw); first | (go_simp; done) | (go_simp; with_reducible rfl))
  simp only [Act.put, List.setIfInBounds_toArray, List.set_cons_zero, List.set_cons_succ]
  refine take_call (i := 20) rfl (by kernel_rfl) (fun Kc hK => ?_)
  go_simp
  (go_at_call 54; refine (lAt ax ay tx ty n _ HB.out HU.out HV.out).mono ?_; rintro e w2 ⟨rfl, b2⟩)
  refine hK.out _ _ ?_ (fun hHeld => ?_)
  · exact HSpl.out _ (hHeld.2.2.2.2.2.2.2.trans (b2.mono (Nat.le_trans (by omega) hHeld.2.2.2.2.2.2.2.size)))
  clear hK Kc
  refine take_yes (i := 21) (v := ?vpl21) rfl (by kernel_rfl) (by kernel_rfl) (by kernel_rfl) (fun _ _ _ h => h) (by rfl) (by assumption) ?hypl21 ?restpl21
  case hypl21 => (intro w hSw; (try dsimp only at hSw); first | (go_simp; done) | (go_simp; with_reducible rfl))
  simp only [Act.put, List.setIfInBounds_toArray, List.set_cons_zero, List.set_cons_succ]
  refine take_yes (i := 22) (v := ?vpl22) rfl (by kernel_rfl) (by kernel_rfl) (by kernel_rfl) (fun _ _ _ h => h) (by rfl) (by assumption) ?hypl22 ?restpl22
  case hypl22 => (intro w hSw; (try dsimp only at hSw); first | (go_simp; done) | (go_simp; with_reducible rfl))
  simp only [Act.put, List.setIfInBounds_toArray, List.set_cons_zero, List.set_cons_succ]
  have z2 : W.heap.size ≤ w2.heap.size := b2.size
  replace R1 := (show Row W.drew (w.heap.size + 1) [.int .i64 0, .int .i64 0] from R1).below b2 (by simp; omega)
  have f0 := R1.free 0 (by simp)
  have f1 := R1.free 1 (by simp)
  have g0 := R1.cell 0 _ rfl
  have g1 := R1.cell 1 _ rfl
  refine take_call (i := 23) rfl (by kernel_rfl) (fun Kc hK => ?_)
  go_simp
  refine hK.out _ _ ?_ (fun hHeld => ?_)
  · exact HSpl.out _ (((hHeld.2.2.2.2.2.2.2.setCell (by simp; try omega) _).setCell (by simp; try omega) _))
  clear hK Kc
  refine take_yes (i := 24) (v := ?vpl24) rfl (by kernel_rfl) (by kernel_rfl) (by kernel_rfl) (fun _ _ _ h => h) (by rfl) (by assumption) ?hypl24 ?restpl24
  case hypl24 => (intro w hSw; (try dsimp only at hSw); first | (go_simp; done) | (go_simp; with_reducible rfl))
  simp only [Act.put, List.setIfInBounds_toArray, List.set_cons_zero, List.set_cons_succ]
  refine wpAnyH_done (by kernel_rfl) ?_ _
  have BF := hHeld.2.2.2.2.2.2.2
  have R2 := (R1.set 0 (.int .i64 u) (by simp)).set 1 (.int .i64 v) (by simp)
  have h0 := R2.cell 0 _ rfl
  have h1 := R2.cell 1 _ rfl
  go_wp2
  refine bodyPost_ret (v := .tuple #[.agg #[.int .i64 u, .int .i64 v], .bool b]) (by simp [results, Try.results36, go_sem, *]) rfl ?_
  exact ⟨rfl, BW.trans (BF.mono (by omega))⟩
end Go.Proofs.Ytjdeehffbgpenaa

namespace Go.Proofs.Ytjdeehffbgpenaa
open Go.RowKit Go.Maps
set_option linter.unusedVariables false

def iv : Value → Int
  | .int _ q => q
  | _ => 0
def EveryPost (J N : Nat → World → Prop) (e : Ending) (w' : World) : Prop := (e = .returned (.bool true) ∧ J 3 w') ∨ (e = .returned (.bool false) ∧ ∃ i, i < 3 ∧ N i w')
def AskPost (J N : Nat → World → Prop) (i : Nat) (e : Ending) (w' : World) : Prop := (e = .returned (.bool true) ∧ J (i + 1) w') ∨ (e = .returned (.bool false) ∧ N i w')
set_option maxRecDepth 100000 in
theorem mEvery (g : Nat) (cb : Array Value) (eg : ∀ args w, (callFunc g args).run Try.prog w = .ok (.enter g args) w) (J N : Nat → World → Prop) (w : World) (h0 : J 0 w)
    (hq : ∀ i w, i < 3 → J i w → Calls Try.prog g (#[.int .i64 (i : Int)] ++ cb) w (AskPost J N i)) : Calls Try.prog 27 #[.func (.func g) #[] cb] w (EveryPost J N) := by
  have HQ : Hid _ := hq
  clear hq
  go_enter Try.func27, Try.ntmps27
  go_wp2
  go_loopw [4] (fun i wr => ∃ k : Nat, k ≤ 3 ∧ i = .int .i64 (k : Int) ∧ J k wr) (fun i _ => 3 - (iv i).toNat)
  case atStart => exact ⟨0, by omega, rfl, h0⟩
  case round =>
    obtain ⟨k, hk, rfl, hJ⟩ := hrel
    by_cases hlt : k < 3
    · have hlt' : (k : Int) < 3 := by omega
      go_wp2_with (go_at_fn g; refine (HQ.out k _ hlt hJ).mono ?_; rintro e w1 (⟨rfl, hj⟩ | ⟨rfl, hn⟩))
      · go_wp2
        go_roundw
        case rel => exact ⟨k + 1, by omega, by simp, hj⟩
        case measure => simp [iv]; omega
      · go_wp2
        go_ret
        exact Or.inr ⟨rfl, k, hlt, hn⟩
    · obtain rfl : k = 3 := by omega
      go_wp2
      go_ret
      exact Or.inl ⟨rfl, hJ⟩
end Go.Proofs.Ytjdeehffbgpenaa

namespace Go.Proofs.Ytjdeehffbgpenaa
open Go.RowKit
set_option linter.unusedVariables false

set_option maxRecDepth 100000 in
set_option maxHeartbeats 4000000 in
theorem pArea (a1 a2 b1 b2 c1 c2 : Int) (w : World) {u v : Int} (hu : u = lw.hi (arP a1 a2 b1 b2 c1 c2)) (hv : v = lw.lo (arP a1 a2 b1 b2 c1 c2)) :
    Calls Try.prog 61 #[.agg #[.int .i64 a1, .int .i64 a2], .agg #[.int .i64 b1, .int .i64 b2], .agg #[.int .i64 c1, .int .i64 c2]] w fun e w' => e = .returned (.agg #[.int .i64 u, .int .u64 v]) ∧ Below w.heap.size w w' := by
  cases hq : canAll [(a1, a2), (b1, b2), (c1, c2)]
  · skip
    obtain rfl : u = 0 := by rw [hu]; unfold arP; rw [hq]; rfl
    obtain rfl : v = 0 := by rw [hv]; unfold arP; rw [hq]; rfl
    clear hu hv
    have HQ : Hid _ := hq
    clear hq
    obtain ⟨W, hW, bW, x_a, x_b, x_c, x_r, sW⟩ := bs_2222 w (.int .i64 a1) (.int .i64 a2) (.int .i64 b1) (.int .i64 b2) (.int .i64 c1) (.int .i64 c2) (.int .i64 0) (.int .u64 0) 32 32 32 100
    have zbW := bW.size
    have BB := bW
    go_enter Try.func61, Try.ntmps61
    go_wp2_with (go_at_call 74; fail)
    have eV : W.heap.size = w.heap.size + 1 + 1 + 1 + 1 := by rw [hW]; simp
    rw [← hW]
    clear hW
    obtain ⟨V, hV⟩ : ∃ V, V = (W.alloc (.cells #[.int .i64 a1, .int .i64 a2, .int .i64 b1, .int .i64 b2, .int .i64 c1, .int .i64 c2] 32)) := ⟨_, rfl⟩
    rw [← hV]
    have bV : Below W.heap.size W V := by rw [hV]; exact (Below.refl _ _).alloc (Nat.le_refl _) _
    have rV : Row V W.heap.size [.int .i64 a1, .int .i64 a2, .int .i64 b1, .int .i64 b2, .int .i64 c1, .int .i64 c2] := by rw [hV]; exact Row.new _ _ _
    have lV : W.heap.size < V.heap.size := by rw [hV]; simp
    clear hV
    rw [eV] at rV lV
    have zbV := bV.size
    replace BB := also BB bV
    replace x_a := x_a.on bV
    replace x_b := x_b.on bV
    replace x_c := x_c.on bV
    replace x_r := x_r.on bV
    refine (pcan [(a1, a2), (b1, b2), (c1, c2)] 3 _ V rfl (by decide) rV lV HQ.out.symm).mono ?_
    rintro e w1 ⟨rfl, bw1⟩
    have zbw1 := bw1.size
    replace BB := also BB bw1
    replace x_a := x_a.on bw1
    replace x_b := x_b.on bw1
    replace x_c := x_c.on bw1
    replace x_r := x_r.on bw1
    have ⟨x_a_0, x_a_1, x_a_2, x_a_3⟩ := x_a
    have ⟨x_b_0, x_b_1, x_b_2, x_b_3⟩ := x_b
    have ⟨x_c_0, x_c_1, x_c_2, x_c_3⟩ := x_c
    have ⟨x_r_0, x_r_1, x_r_2, x_r_3⟩ := x_r
    go_wp2
    exact bodyPost_ret (v := .agg #[.int .i64 0, .int .u64 0]) (by simp [results, Try.results61, go_sem, *]) rfl (⟨rfl, below_put2 BB (by omega) _ _⟩)
  · skip
    obtain ⟨ha, hb, hc⟩ := can3.1 hq
    have HU : Hid (u = lw.hi (areaP a1 a2 b1 b2 c1 c2)) := by unfold Hid; rw [hu]; unfold arP; rw [hq]; rfl
    have HV : Hid (v = lw.lo (areaP a1 a2 b1 b2 c1 c2)) := by unfold Hid; rw [hv]; unfold arP; rw [hq]; rfl
    clear hu hv
    have HQ : Hid _ := hq
    clear hq
    obtain ⟨W, hW, bW, x_a, x_b, x_c, x_r, sW⟩ := bs_2222 w (.int .i64 a1) (.int .i64 a2) (.int .i64 b1) (.int .i64 b2) (.int .i64 c1) (.int .i64 c2) (.int .i64 0) (.int .u64 0) 32 32 32 100
    have zbW := bW.size
    have BB := bW
    go_enter Try.func61, Try.ntmps61
    go_wp2_with (go_at_call 74; fail)
    have eV : W.heap.size = w.heap.size + 1 + 1 + 1 + 1 := by rw [hW]; simp
    rw [← hW]
    clear hW
    obtain ⟨V, hV⟩ : ∃ V, V = (W.alloc (.cells #[.int .i64 a1, .int .i64 a2, .int .i64 b1, .int .i64 b2, .int .i64 c1, .int .i64 c2] 32)) := ⟨_, rfl⟩
    rw [← hV]
    have bV : Below W.heap.size W V := by rw [hV]; exact (Below.refl _ _).alloc (Nat.le_refl _) _
    have rV : Row V W.heap.size [.int .i64 a1, .int .i64 a2, .int .i64 b1, .int .i64 b2, .int .i64 c1, .int .i64 c2] := by rw [hV]; exact Row.new _ _ _
    have lV : W.heap.size < V.heap.size := by rw [hV]; simp
    clear hV
    rw [eV] at rV lV
    have zbV := bV.size
    replace BB := also BB bV
    replace x_a := x_a.on bV
    replace x_b := x_b.on bV
    replace x_c := x_c.on bV
    replace x_r := x_r.on bV
    refine (pcan [(a1, a2), (b1, b2), (c1, c2)] 3 _ V rfl (by decide) rV lV HQ.out.symm).mono ?_
    rintro e w1 ⟨rfl, bw1⟩
    have zbw1 := bw1.size
    replace BB := also BB bw1
    replace x_a := x_a.on bw1
    replace x_b := x_b.on bw1
    replace x_c := x_c.on bw1
    replace x_r := x_r.on bw1
    have ⟨x_a_0, x_a_1, x_a_2, x_a_3⟩ := x_a
    have ⟨x_b_0, x_b_1, x_b_2, x_b_3⟩ := x_b
    have ⟨x_c_0, x_c_1, x_c_2, x_c_3⟩ := x_c
    have ⟨x_r_0, x_r_1, x_r_2, x_r_3⟩ := x_r
    go_wp2_with (go_at_call 75; fail)
    refine (parea a1 a2 b1 b2 c1 c2 w1 ha hb hc HU.out HV.out).mono ?_
    rintro e w2 ⟨rfl, bw2⟩
    clear x_a_0 x_a_1 x_a_2 x_a_3 x_b_0 x_b_1 x_b_2 x_b_3 x_c_0 x_c_1 x_c_2 x_c_3 x_r_0 x_r_1 x_r_2 x_r_3
    have zbw2 := bw2.size
    replace BB := also BB bw2
    replace x_a := x_a.on bw2
    replace x_b := x_b.on bw2
    replace x_c := x_c.on bw2
    replace x_r := x_r.on bw2
    have ⟨x_r_0, x_r_1, x_r_2, x_r_3⟩ := x_r
    go_wp2
    exact bodyPost_ret (v := .agg #[.int .i64 u, .int .u64 v]) (by simp [results, Try.results61, go_sem, *]) rfl (⟨rfl, below_put2 BB (by omega) _ _⟩)
set_option maxRecDepth 100000 in
set_option maxHeartbeats 4000000 in
theorem pOrient (a1 a2 b1 b2 c1 c2 : Int) (w : World) {g : Int} (hg : g = (arP a1 a2 b1 b2 c1 c2).sign) :
    Calls Try.prog 52 #[.agg #[.int .i64 a1, .int .i64 a2], .agg #[.int .i64 b1, .int .i64 b2], .agg #[.int .i64 c1, .int .i64 c2]] w fun e w' => e = .returned (.int .i64 g) ∧ Below w.heap.size w w' := by
  have hw := ar_wide a1 a2 b1 b2 c1 c2
  have HW : Hid (-170141183460469231731687303715884105728 ≤ arP a1 a2 b1 b2 c1 c2 ∧ arP a1 a2 b1 b2 c1 c2 < 170141183460469231731687303715884105728) := ⟨by omega, by omega⟩
  clear hw
  rw [← lw_sign] at hg
  have HG : Hid _ := hg
  clear hg
  obtain ⟨u, hu⟩ : ∃ u, u = lw.hi (arP a1 a2 b1 b2 c1 c2) := ⟨_, rfl⟩
  obtain ⟨v, hv⟩ : ∃ v, v = lw.lo (arP a1 a2 b1 b2 c1 c2) := ⟨_, rfl⟩
  have HU : Hid _ := hu
  have HV : Hid _ := hv
  clear hu hv
  obtain ⟨W, hW, bW, x_a, x_b, x_c, sW⟩ := bs_222 w (.int .i64 a1) (.int .i64 a2) (.int .i64 b1) (.int .i64 b2) (.int .i64 c1) (.int .i64 c2) 32 32 32
  have zbW := bW.size
  have BB := bW
  go_enter Try.func52, Try.ntmps52
  go_wp2_with (go_at_call 61; fail)
  rw [← hW]
  clear hW
  refine (pArea a1 a2 b1 b2 c1 c2 W HU.out HV.out).mono ?_
  rintro e w1 ⟨rfl, bw1⟩
  have zbw1 := bw1.size
  replace BB := also BB bw1
  replace x_a := x_a.on bw1
  replace x_b := x_b.on bw1
  replace x_c := x_c.on bw1
  go_wp2_with (go_at_call 64; fail)
  refine (lw.sign_any (arP a1 a2 b1 b2 c1 c2) HU.out HV.out HW.out.1 HW.out.2 w1).mono ?_
  rintro e w2 ⟨rfl, bw2⟩
  have zbw2 := bw2.size
  replace BB := also BB bw2
  replace x_a := x_a.on bw2
  replace x_b := x_b.on bw2
  replace x_c := x_c.on bw2
  go_wp2
  go_ret
  exact ⟨by rw [HG.out]; rfl, BB⟩
end Go.Proofs.Ytjdeehffbgpenaa

namespace Go.Proofs.Ytjdeehffbgpenaa
open Go.RowKit Go.Maps
set_option linter.unusedVariables false

set_option maxRecDepth 100000 in
theorem mAsk1 (pp : Value) (t : Tr) (i B1 B2 : Nat) (w : World) (hi : i < 3) (R1 : Row w B1 [pp]) (R2 : Row w B2 (trC t)) {r : Bool} (hv : ∀ w', Below w.heap.size w w' → Calls Try.prog 29 #[pp, .int .i64 (t.v i)] w' fun e w'' => e = .returned (.bool r) ∧ Below w'.heap.size w' w'') :
    Calls Try.prog 28 #[.int .i64 (i : Int), ptR B1, ptR B2] w fun e w' => e = .returned (.bool r) ∧ Below w.heap.size w w' := by
  have HV : Hid _ := hv
  have l1 := R1.lt
  have l2 := Row.lt (xs := (trC t).tail) R2
  have c1 := R1.cell 0 _ rfl
  have c2 := R2.cell i _ (trC_v t hi)
  obtain ⟨vi, hvi⟩ : ∃ v, v = t.v i := ⟨_, rfl⟩
  rw [← hvi] at c2 HV
  have hi' : (i : Int) < 3 := by omega
  clear hv hvi R1 R2
  go_enter Try.func28, Try.ntmps28
  go_wp2
  have HSk1 : Hid (∀ w', Below (w.heap.size) w w' → (fun w' => w'.cell? ⟨B1, 0, none⟩ = some (pp) ∧ w'.cell? ⟨B2, i, none⟩ = some (.int .i64 vi) ∧ Below (w.heap.size) w w') w') := by
    unfold Hid
    intro w' hb
    exact ⟨(hb.cell (p := ⟨B1, 0, none⟩) l1).trans c1, (hb.cell (p := ⟨B2, i, none⟩) l2).trans c2, hb⟩
  refine wp_region_held_drew (S := fun w' => w'.cell? ⟨B1, 0, none⟩ = some (pp) ∧ w'.cell? ⟨B2, i, none⟩ = some (.int .i64 vi) ∧ Below (w.heap.size) w w') (by kernel_rfl) ?_ (fun hHeld => ?_)
  · exact HSk1.out _ ((Below.refl _ _).drew)
  refine take_yes (i := 0) (v := ?vk10) rfl (by kernel_rfl) (by kernel_rfl) (by kernel_rfl) (fun _ _ _ h => h) (by rfl) (by assumption) ?hyk10 ?restk10
  case hyk10 => (intro w hSw; (try dsimp only at hSw); first | (go_simp; done) | (go_simp; with_reducible rfl))
  simp only [Act.put, List.setIfInBounds_toArray, List.set_cons_zero, List.set_cons_succ]
  refine take_yes (i := 1) (v := ?vk11) rfl (by kernel_rfl) (by kernel_rfl) (by kernel_rfl) (fun _ _ _ h => h) (by rfl) (by assumption) ?hyk11 ?restk11
  case hyk11 => (intro w hSw; (try dsimp only at hSw); first | (go_simp; done) | (go_simp; with_reducible rfl))
  simp only [Act.put, List.setIfInBounds_toArray, List.set_cons_zero, List.set_cons_succ]
  refine take_yes (i := 2) (v := ?vk12) rfl (by kernel_rfl) (by kernel_rfl) (by kernel_rfl) (fun _ _ _ h => h) (by rfl) (by assumption) ?hyk12 ?restk12
  case hyk12 => (intro w hSw; (try dsimp only at hSw); first | (go_simp; done) | (go_simp; with_reducible rfl))
  simp only [Act.put, List.setIfInBounds_toArray, List.set_cons_zero, List.set_cons_succ]
  refine take_yes (i := 3) (v := ?vk13) rfl (by kernel_rfl) (by kernel_rfl) (by kernel_rfl) (fun _ _ _ h => h) (by rfl) (by assumption) ?hyk13 ?restk13
  case hyk13 => (intro w hSw; (try dsimp only at hSw); first | (go_simp; done) | (go_simp; with_reducible rfl))
  simp only [Act.put, List.setIfInBounds_toArray, List.set_cons_zero, List.set_cons_succ]
  refine take_yes (i := 4) (v := ?vk14) rfl (by kernel_rfl) (by kernel_rfl) (by kernel_rfl) (fun _ _ _ h => h) (by rfl) (by assumption) ?hyk14 ?restk14
  case hyk14 => (intro w hSw; (try dsimp only at hSw); first | (go_simp; done) | (go_simp; with_reducible rfl))
  simp only [Act.put, List.setIfInBounds_toArray, List.set_cons_zero, List.set_cons_succ]
  refine take_call (i := 5) rfl (by kernel_rfl) (fun Kc hK => ?_)
  go_simp
  (go_at_call 29; refine (HV.out _ (Below.refl _ _).drew).mono ?_; rintro e w1 ⟨rfl, b1⟩)
  refine hK.out _ _ ?_ (fun hHeld => ?_)
  · exact HSk1.out _ (hHeld.2.2.trans (b1.mono hHeld.2.2.size))
  clear hK Kc
  refine take_yes (i := 6) (v := ?vk16) rfl (by kernel_rfl) (by kernel_rfl) (by kernel_rfl) (fun _ _ _ h => h) (by rfl) (by assumption) ?hyk16 ?restk16
  case hyk16 => (intro w hSw; (try dsimp only at hSw); first | (go_simp; done) | (go_simp; with_reducible rfl))
  simp only [Act.put, List.setIfInBounds_toArray, List.set_cons_zero, List.set_cons_succ]
  refine wpAnyH_done (by kernel_rfl) ?_ _
  have BF := hHeld.2.2
  go_wp2
  go_ret
  exact ⟨rfl, BF⟩
set_option maxRecDepth 100000 in
theorem mAsk2 (base p : Nat) (X : Mx) (F : Nat → Prop) (w : World) (h : MeI base p X F w) (hst : Starts X.ge) (t : Tr) (i B1 B2 : Nat) (hi : i < 3) (he : (egW t i).ok) (R1 : Row w B1 [ptR p]) (R2 : Row w B2 (trC t)) {r : Bool} (hr : r = !(X.ge (egW t i)).isSome) :
    Calls Try.prog 31 #[.int .i64 (i : Int), ptR B1, ptR B2] w fun e w' => e = .returned (.bool r) ∧ Below w.heap.size w w' := by
  have l1 := R1.lt
  have l2 := Row.lt (xs := (trC t).tail) R2
  have c1 := R1.cell 0 _ rfl
  have d0 := R2.cell 0 _ rfl
  have d1 := R2.cell 1 _ rfl
  have d2 := R2.cell 2 _ rfl
  have d3 := R2.cell 3 _ rfl
  have d4 := R2.cell 4 _ rfl
  have d5 := R2.cell 5 _ rfl
  have d6 := R2.cell 6 _ rfl
  have d7 := R2.cell 7 _ rfl
  have d8 := R2.cell 8 _ rfl
  have HE : Hid _ := he
  have HM : Hid _ := h
  have HST : Hid _ := hst
  obtain ⟨s, HS, rfl⟩ : ∃ s, Hid (s = (X.ge (egW t i)).isSome) ∧ r = !s := ⟨_, rfl, hr⟩
  clear h hst he hr R1 R2
  go_enter Try.func31, Try.ntmps31
  go_wp2
  have HSk2 : Hid (∀ w', Below (w.heap.size) w w' → (fun w' => w'.cell? ⟨B1, 0, none⟩ = some (ptR p) ∧ w'.cell? ⟨B2, 0, none⟩ = some (.int .i64 t.v0) ∧ w'.cell? ⟨B2, 1, none⟩ = some (.int .i64 t.v1) ∧ w'.cell? ⟨B2, 2, none⟩ = some (.int .i64 t.v2) ∧ w'.cell? ⟨B2, 3, none⟩ = some (.int .i64 t.x0) ∧ w'.cell? ⟨B2, 4, none⟩ = some (.int .i64 t.y0) ∧ w'.cell? ⟨B2, 5, none⟩ = some (.int .i64 t.x1) ∧ w'.cell? ⟨B2, 6, none⟩ = some (.int .i64 t.y1) ∧ w'.cell? ⟨B2, 7, none⟩ = some (.int .i64 t.x2) ∧ w'.cell? ⟨B2, 8, none⟩ = some (.int .i64 t.y2) ∧ Below (w.heap.size) w w') w') := by
    unfold Hid
    intro w' hb
    exact ⟨(hb.cell (p := ⟨B1, 0, none⟩) l1).trans c1, (hb.cell (p := ⟨B2, 0, none⟩) l2).trans d0, (hb.cell (p := ⟨B2, 1, none⟩) l2).trans d1, (hb.cell (p := ⟨B2, 2, none⟩) l2).trans d2, (hb.cell (p := ⟨B2, 3, none⟩) l2).trans d3, (hb.cell (p := ⟨B2, 4, none⟩) l2).trans d4, (hb.cell (p := ⟨B2, 5, none⟩) l2).trans d5, (hb.cell (p := ⟨B2, 6, none⟩) l2).trans d6, (hb.cell (p := ⟨B2, 7, none⟩) l2).trans d7, (hb.cell (p := ⟨B2, 8, none⟩) l2).trans d8, hb⟩
  refine wp_region_held_drew (S := fun w' => w'.cell? ⟨B1, 0, none⟩ = some (ptR p) ∧ w'.cell? ⟨B2, 0, none⟩ = some (.int .i64 t.v0) ∧ w'.cell? ⟨B2, 1, none⟩ = some (.int .i64 t.v1) ∧ w'.cell? ⟨B2, 2, none⟩ = some (.int .i64 t.v2) ∧ w'.cell? ⟨B2, 3, none⟩ = some (.int .i64 t.x0) ∧ w'.cell? ⟨B2, 4, none⟩ = some (.int .i64 t.y0) ∧ w'.cell? ⟨B2, 5, none⟩ = some (.int .i64 t.x1) ∧ w'.cell? ⟨B2, 6, none⟩ = some (.int .i64 t.y1) ∧ w'.cell? ⟨B2, 7, none⟩ = some (.int .i64 t.x2) ∧ w'.cell? ⟨B2, 8, none⟩ = some (.int .i64 t.y2) ∧ Below (w.heap.size) w w') (by kernel_rfl) ?_ (fun hHeld => ?_)
  · exact HSk2.out _ ((Below.refl _ _).drew)
  refine take_yes (i := 0) (v := ?vk20) rfl (by kernel_rfl) (by kernel_rfl) (by kernel_rfl) (fun _ _ _ h => h) (by rfl) (by assumption) ?hyk20 ?restk20
  case hyk20 => (intro w hSw; (try dsimp only at hSw); first | (go_simp; done) | (go_simp; with_reducible rfl))
  simp only [Act.put, List.setIfInBounds_toArray, List.set_cons_zero, List.set_cons_succ]
  refine take_yes (i := 1) (v := ?vk21) rfl (by kernel_rfl) (by kernel_rfl) (by kernel_rfl) (fun _ _ _ h => h) (by rfl) (by assumption) ?hyk21 ?restk21
  case hyk21 => (intro w hSw; (try dsimp only at hSw); first | (go_simp; done) | (go_simp; with_reducible rfl))
  simp only [Act.put, List.setIfInBounds_toArray, List.set_cons_zero, List.set_cons_succ]
  refine take_yes (i := 2) (v := ?vk22) rfl (by kernel_rfl) (by kernel_rfl) (by kernel_rfl) (fun _ _ _ h => h) (by rfl) (by assumption) ?hyk22 ?restk22
  case hyk22 => (intro w hSw; (try dsimp only at hSw); first | (go_simp; done) | (go_simp; with_reducible rfl))
  simp only [Act.put, List.setIfInBounds_toArray, List.set_cons_zero, List.set_cons_succ]
  refine take_call (i := 3) rfl (by kernel_rfl) (fun Kc hK => ?_)
  go_simp
  (go_at_call 33; refine (mEdge t i _ hi).mono ?_; rintro e w1 ⟨rfl, b1⟩)
  refine hK.out _ _ ?_ (fun hHeld => ?_)
  · exact HSk2.out _ (hHeld.2.2.2.2.2.2.2.2.2.2.trans (b1.mono hHeld.2.2.2.2.2.2.2.2.2.2.size))
  clear hK Kc
  refine take_call (i := 4) rfl (by kernel_rfl) (fun Kc hK => ?_)
  go_simp
  (go_at_call 32; refine (mHasE base p X F w1 (HM.out.below hHeld.2.2.2.2.2.2.2.2.2.2) HST.out _ _ _ _ HE.out HS.out).mono ?_; rintro e w2 ⟨rfl, b2⟩)
  refine hK.out _ _ ?_ (fun hHeld => ?_)
  · exact HSk2.out _ (hHeld.2.2.2.2.2.2.2.2.2.2.trans (b2.mono hHeld.2.2.2.2.2.2.2.2.2.2.size))
  clear hK Kc
  refine take_yes (i := 5) (v := ?vk25) rfl (by kernel_rfl) (by kernel_rfl) (by kernel_rfl) (fun _ _ _ h => h) (by rfl) (by assumption) ?hyk25 ?restk25
  case hyk25 => (intro w hSw; (try dsimp only at hSw); first | (go_simp; done) | (go_simp; with_reducible rfl))
  simp only [Act.put, List.setIfInBounds_toArray, List.set_cons_zero, List.set_cons_succ]
  refine take_yes (i := 6) (v := ?vk26) rfl (by kernel_rfl) (by kernel_rfl) (by kernel_rfl) (fun _ _ _ h => h) (by rfl) (by assumption) ?hyk26 ?restk26
  case hyk26 => (intro w hSw; (try dsimp only at hSw); first | (go_simp; done) | (go_simp; with_reducible rfl))
  simp only [Act.put, List.setIfInBounds_toArray, List.set_cons_zero, List.set_cons_succ]
  refine wpAnyH_done (by kernel_rfl) ?_ _
  have BF := hHeld.2.2.2.2.2.2.2.2.2.2
  go_wp2
  go_ret
  exact ⟨rfl, BF⟩
/-- The corners' places so far. -/
def plL (S : Ms) (t : Tr) : Nat → List Value
  | 0 => [.int .i64 0, .int .i64 0, .int .i64 0, .int .i64 0, .int .i64 0, .int .i64 0]
  | i + 1 => ((plL S t i).set (i * 2) (.int .i64 (plX S t i))).set (i * 2 + 1) (.int .i64 (plY S t i))
theorem plL_len (S : Ms) (t : Tr) (i : Nat) : (plL S t i).length = 6 := by
  induction i with
  | zero => rfl
  | succ i ih => simp [plL, ih]
theorem mPlaceL (base p : Nat) (X : Mx) (S : Ms) (m : Nat) (F : Nat → Prop) (w : World) (h : MeI base p X F w) (hS : MeOk X S) (hk : MsOk S m) (t : Tr) (i : Nat) (hi : i < 3) (hv : isV S (t.v i) = true) {b : Bool} {u v : Int} (hb : b = plOk S t i) (hu : u = plX S t i) (hv' : v = plY S t i) :
    Calls Try.prog 36 #[ptR p, trV t, .int .i64 (i : Int)] w fun e w' => e = .returned (.tuple #[.agg #[.int .i64 u, .int .i64 v], .bool b]) ∧ Below w.heap.size w w' := by
  subst hb hu hv'
  exact mPlace base p X S m F w h hS hk t i hi hv
set_option maxRecDepth 100000 in
theorem mAsk3 (base p : Nat) (X : Mx) (S : Ms) (m : Nat) (F : Nat → Prop) (w : World) (h : MeI base p X F w) (hS : MeOk X S) (hk : MsOk S m) (t : Tr) (i B1 B2 B3 : Nat) (hi : i < 3) (hv : isV S (t.v i) = true) (R1 : Row w B1 [ptR p]) (R2 : Row w B2 (trC t)) (L : List Value) (hL : L.length = 6) (R3 : Row w B3 L) :
    Calls Try.prog 63 #[.int .i64 (i : Int), ptR B1, ptR B2, ptR B3] w fun e w' => e = .returned (.bool (plOk S t i)) ∧ Row w' B3 ((L.set (i * 2) (.int .i64 (plX S t i))).set (i * 2 + 1) (.int .i64 (plY S t i))) ∧ Keep (fun k => k = B3) w w' := by
  have l3 : B3 < w.heap.size := by
    match L, hL with
    | x :: xs, _ => exact R3.lt
  have c1 := R1.cell 0 _ rfl
  have d0 := R2.cell 0 _ rfl
  have d1 := R2.cell 1 _ rfl
  have d2 := R2.cell 2 _ rfl
  have d3 := R2.cell 3 _ rfl
  have d4 := R2.cell 4 _ rfl
  have d5 := R2.cell 5 _ rfl
  have d6 := R2.cell 6 _ rfl
  have d7 := R2.cell 7 _ rfl
  have d8 := R2.cell 8 _ rfl
  have hi' : (i : Int) < 3 := by omega
  obtain ⟨b, hb⟩ : ∃ b, b = plOk S t i := ⟨_, rfl⟩
  obtain ⟨u, hu⟩ : ∃ u, u = plX S t i := ⟨_, rfl⟩
  obtain ⟨v, hv'⟩ : ∃ v, v = plY S t i := ⟨_, rfl⟩
  rw [← hb, ← hu, ← hv']
  have HC : Hid _ := mPlaceL base p X S m F w h hS hk t i hi hv hb hu hv'
  clear h hS hk hv R1 R2 hb hu hv'
  go_enter Try.func63, Try.ntmps63
  go_wp2_with (go_at_call 36; fail)
  refine (Calls.mono HC.out) ?_
  rintro e w1 ⟨rfl, b1⟩
  obtain ⟨W, hW⟩ : ∃ W, W = w1.alloc (.cells #[.int .i64 u, .int .i64 v] 32) := ⟨_, rfl⟩
  have bW : Below w.heap.size w W := by rw [hW]; exact b1.alloc b1.size _
  have RP : Row W w1.heap.size [.int .i64 u, .int .i64 v] := by rw [hW]; exact Row.new w1 _ _
  have hW' := hW.symm
  have R3' := R3.below bW l3
  have g0 := R3'.cell (i * 2) _ (List.getElem?_eq_getElem (by omega))
  have g1 := R3'.cell (i * 2 + 1) _ (List.getElem?_eq_getElem (by omega))
  have f0 := R3'.free (i * 2) (by omega)
  have f1 := R3'.free (i * 2 + 1) (by omega)
  have p0 := RP.cell 0 _ rfl
  have p1 := RP.cell 1 _ rfl
  clear hW c1 d0 d1 d2 d3 d4 d5 d6 d7 d8 R3
  go_wp2
  go_ret
  exact ⟨rfl, (R3'.set (i * 2) _ (by omega)).set (i * 2 + 1) _ (by simp; omega), ((Keep.of (F := fun k => k = B3) bW).set (Or.inl rfl) _).set (Or.inl rfl) _⟩
def PlacesPost (S : Ms) (t : Tr) (w : World) (e : Ending) (w' : World) : Prop := ∃ c0 c1 c2 c3 c4 c5 : Int, ∃ r : Bool, e = .returned (.tuple #[.agg #[.int .i64 c0, .int .i64 c1, .int .i64 c2, .int .i64 c3, .int .i64 c4, .int .i64 c5], .bool r]) ∧ r = (plOk S t 0 && (plOk S t 1 && plOk S t 2)) ∧ (r = true → c0 = plX S t 0 ∧ c1 = plY S t 0 ∧ c2 = plX S t 1 ∧ c3 = plY S t 1 ∧ c4 = plX S t 2 ∧ c5 = plY S t 2) ∧ Below w.heap.size w w'
abbrev six (c0 c1 c2 c3 c4 c5 : Int) : List Value := [.int .i64 c0, .int .i64 c1, .int .i64 c2, .int .i64 c3, .int .i64 c4, .int .i64 c5]
def PlJ (S : Ms) (t : Tr) (B : Nat) (W : World) (i : Nat) (w' : World) : Prop := Keep (fun k => k = B) W w' ∧ Row w' B (plL S t i) ∧ ∀ j, j < i → plOk S t j = true
def PlN (S : Ms) (t : Tr) (B : Nat) (W : World) (i : Nat) (w' : World) : Prop := Keep (fun k => k = B) W w' ∧ Row w' B (plL S t (i + 1)) ∧ (∀ j, j < i → plOk S t j = true) ∧ plOk S t i = false
theorem pl_end {S : Ms} {t : Tr} {B : Nat} {W : World} {e : Ending} {w' : World} (h : EveryPost (PlJ S t B W) (PlN S t B W) e w') : ∃ c0 c1 c2 c3 c4 c5 : Int, ∃ r : Bool, e = .returned (.bool r) ∧ r = (plOk S t 0 && (plOk S t 1 && plOk S t 2)) ∧ (r = true → c0 = plX S t 0 ∧ c1 = plY S t 0 ∧ c2 = plX S t 1 ∧ c3 = plY S t 1 ∧ c4 = plX S t 2 ∧ c5 = plY S t 2) ∧ Keep (fun k => k = B) W w' ∧ Row w' B (six c0 c1 c2 c3 c4 c5) := by
  rcases h with ⟨rfl, hk, hr, ho⟩ | ⟨rfl, i, hi, hk, hr, ho, hn⟩
  · exact ⟨_, _, _, _, _, _, true, rfl, by rw [ho 0 (by omega), ho 1 (by omega), ho 2 (by omega)]; rfl, fun _ => ⟨rfl, rfl, rfl, rfl, rfl, rfl⟩, hk, hr⟩
  · rcases (by omega : i = 0 ∨ i = 1 ∨ i = 2) with rfl | rfl | rfl
    · exact ⟨_, _, _, _, _, _, false, rfl, by rw [hn]; rfl, (fun h => by cases h), hk, hr⟩
    · exact ⟨_, _, _, _, _, _, false, rfl, by rw [hn]; cases plOk S t 0 <;> rfl, (fun h => by cases h), hk, hr⟩
    · exact ⟨_, _, _, _, _, _, false, rfl, by rw [hn]; cases plOk S t 0 <;> cases plOk S t 1 <;> rfl, (fun h => by cases h), hk, hr⟩
set_option maxRecDepth 100000 in
theorem mPlaces (base p : Nat) (X : Mx) (S : Ms) (m : Nat) (F : Nat → Prop) (w : World) (h : MeI base p X F w) (hS : MeOk X S) (hk : MsOk S m) (t : Tr) (hv : ∀ i, i < 3 → isV S (t.v i) = true) :
    Calls Try.prog 51 #[ptR p, trV t] w (PlacesPost S t w) := by
  obtain ⟨W, hW⟩ : ∃ W, W = (((w.alloc (.cells #[ptR p] 22)).alloc (.cells (trC t).toArray 42)).alloc (.cells #[.int .i64 0, .int .i64 0, .int .i64 0, .int .i64 0, .int .i64 0, .int .i64 0] 108)).alloc (.cells #[.int .i64 0, .int .i64 0, .int .i64 0, .int .i64 0, .int .i64 0, .int .i64 0] 108) := ⟨_, rfl⟩
  have e1 : (w.alloc (.cells #[ptR p] 22)).heap.size = w.heap.size + 1 := by simp
  have e2 : ((w.alloc (.cells #[ptR p] 22)).alloc (.cells (trC t).toArray 42)).heap.size = w.heap.size + 2 := by simp
  have e3 : (((w.alloc (.cells #[ptR p] 22)).alloc (.cells (trC t).toArray 42)).alloc (.cells #[.int .i64 0, .int .i64 0, .int .i64 0, .int .i64 0, .int .i64 0, .int .i64 0] 108)).heap.size = w.heap.size + 3 := by simp
  have BW : Below w.heap.size w W := by rw [hW]; exact ((((Below.refl _ _).alloc (Nat.le_refl _) _).alloc (by simp) _).alloc (by simp; omega) _).alloc (by simp; omega) _
  have zW : W.heap.size = w.heap.size + 4 := by rw [hW]; simp
  have R1 : Row W w.heap.size [ptR p] := by rw [hW]; exact (((Row.new w [ptR p] _).alloc _ (by simp)).alloc _ (by simp; omega)).alloc _ (by simp; omega)
  have R2 : Row W (w.heap.size + 1) (trC t) := by rw [hW]; have := ((Row.new (w.alloc (.cells #[ptR p] 22)) (trC t) 42).alloc (.cells #[.int .i64 0, .int .i64 0, .int .i64 0, .int .i64 0, .int .i64 0, .int .i64 0] 108) (by simp)).alloc (.cells #[.int .i64 0, .int .i64 0, .int .i64 0, .int .i64 0, .int .i64 0, .int .i64 0] 108) (by simp); rw [e1] at this; exact this
  have R4 : Row W (w.heap.size + 2) (six 0 0 0 0 0 0) := by rw [hW]; have := (Row.new ((w.alloc (.cells #[ptR p] 22)).alloc (.cells (trC t).toArray 42)) (six 0 0 0 0 0 0) 108).alloc (.cells #[.int .i64 0, .int .i64 0, .int .i64 0, .int .i64 0, .int .i64 0, .int .i64 0] 108) (by simp); rw [e2] at this; exact this
  have R3 : Row W (w.heap.size + 3) (plL S t 0) := by rw [hW]; have := Row.new (((w.alloc (.cells #[ptR p] 22)).alloc (.cells (trC t).toArray 42)).alloc (.cells #[.int .i64 0, .int .i64 0, .int .i64 0, .int .i64 0, .int .i64 0, .int .i64 0] 108)) (plL S t 0) 108; rw [e3] at this; exact this
  have hW' : (((w.alloc (.cells #[ptR p] 22)).alloc (.cells #[.int .i64 t.v0, .int .i64 t.v1, .int .i64 t.v2, .int .i64 t.x0, .int .i64 t.y0, .int .i64 t.x1, .int .i64 t.y1, .int .i64 t.x2, .int .i64 t.y2] 42)).alloc (.cells #[.int .i64 0, .int .i64 0, .int .i64 0, .int .i64 0, .int .i64 0, .int .i64 0] 108)).alloc (.cells #[.int .i64 0, .int .i64 0, .int .i64 0, .int .i64 0, .int .i64 0, .int .i64 0] 108) = W := hW.symm
  clear hW e1 e2 e3
  have hne : ∀ k, F k → ¬ k = w.heap.size + 3 := fun k f e => by have := (h.ft k f).2; omega
  have HE : Hid (Calls Try.prog 27 #[.func (.func 63) #[] #[ptR w.heap.size, ptR (w.heap.size + 1), ptR (w.heap.size + 3)]] W (EveryPost (PlJ S t (w.heap.size + 3) W) (PlN S t (w.heap.size + 3) W))) := by
    refine mEvery _ _ (enters_of Try.func63 (by kernel_rfl) rfl) _ _ W ⟨Keep.refl _ _, R3, fun j hj => by omega⟩ ?_
    rintro i w1 hi ⟨k1, r1, o1⟩
    refine (mAsk3 base p X S m F w1 ((h.below BW).keep k1 hne) hS hk t i w.heap.size (w.heap.size + 1) (w.heap.size + 3) hi (hv i hi) (R1.keep k1 (by omega) (by omega)) (R2.keep k1 (by omega) (by omega)) _ (plL_len S t i) r1).mono ?_
    rintro e w2 ⟨rfl, r2, k2⟩
    have k3 : Keep (fun k => k = w.heap.size + 3) W w2 := k1.trans k2 (fun k e => Or.inl e)
    cases hb : plOk S t i with
    | true => exact Or.inl ⟨rfl, k3, r2, fun j hj => if e : j = i then by rw [e]; exact hb else o1 j (by omega)⟩
    | false => exact Or.inr ⟨rfl, k3, r2, o1, hb⟩
  clear h hS hk hv hne R1 R2 R3
  go_enter Try.func51, Try.ntmps51
  go_wp2_with (go_at_call 27; fail)
  refine (Calls.mono HE.out) ?_
  intro e w1 hp
  obtain ⟨c0, c1, c2, c3, c4, c5, r, rfl, hr, hc, k1, r1⟩ := pl_end hp
  have HR : Hid _ := hr
  have HC : Hid _ := hc
  have z1 := k1.size
  have b1 : Below w.heap.size w w1 := BW.trans (k1.below (by omega) (fun k e => by omega))
  have R5 := R4.keep k1 (by omega) (by omega)
  clear hW' hp hr hc HE
  have q0 := r1.cell 0 _ rfl
  have q1 := r1.cell 1 _ rfl
  have q2 := r1.cell 2 _ rfl
  have q3 := r1.cell 3 _ rfl
  have q4 := r1.cell 4 _ rfl
  have q5 := r1.cell 5 _ rfl
  have f0 := R5.free 0 (by simp)
  have f1 := R5.free 1 (by simp)
  have f2 := R5.free 2 (by simp)
  have f3 := R5.free 3 (by simp)
  have f4 := R5.free 4 (by simp)
  have f5 := R5.free 5 (by simp)
  have g0 := R5.cell 0 _ rfl
  have g1 := R5.cell 1 _ rfl
  have g2 := R5.cell 2 _ rfl
  have g3 := R5.cell 3 _ rfl
  have g4 := R5.cell 4 _ rfl
  have g5 := R5.cell 5 _ rfl
  go_wp2
  have R6 := (((((R5.set 0 (.int .i64 c0) (by simp)).set 1 (.int .i64 c1) (by simp)).set 2 (.int .i64 c2) (by simp)).set 3 (.int .i64 c3) (by simp)).set 4 (.int .i64 c4) (by simp)).set 5 (.int .i64 c5) (by simp)
  have h0 := R6.cell 0 _ rfl
  have h1 := R6.cell 1 _ rfl
  have h2 := R6.cell 2 _ rfl
  have h3 := R6.cell 3 _ rfl
  have h4 := R6.cell 4 _ rfl
  have h5 := R6.cell 5 _ rfl
  refine bodyPost_ret (v := .tuple #[.agg #[.int .i64 c0, .int .i64 c1, .int .i64 c2, .int .i64 c3, .int .i64 c4, .int .i64 c5], .bool r]) (by simp [results, Try.results51, go_sem, *]) rfl ?_
  have hs2 : w.heap.size ≤ w.heap.size + 1 + 1 := by omega
  exact ⟨c0, c1, c2, c3, c4, c5, r, rfl, HR.out, HC.out, (((((b1.setCell hs2 _).setCell hs2 _).setCell hs2 _).setCell hs2 _).setCell hs2 _).setCell hs2 _⟩
theorem pl_can {S : Ms} {t : Tr} {i : Nat} (h : plOk S t i = true) : canC (plX S t i) (plY S t i) = true := by
  unfold plX plY
  rw [h]
  unfold plOk atC at h
  simp only [Bool.and_eq_true] at h
  simp only [if_true]
  unfold canC
  rw [h.2.2.1, h.2.2.2]
  rfl
theorem pl_area {S : Ms} {t : Tr} (h0 : plOk S t 0 = true) (h1 : plOk S t 1 = true) (h2 : plOk S t 2 = true) : arP (plX S t 0) (plY S t 0) (plX S t 1) (plY S t 1) (plX S t 2) (plY S t 2) = areaT S t := by
  unfold arP areaT
  have : canAll [(plX S t 0, plY S t 0), (plX S t 1, plY S t 1), (plX S t 2, plY S t 2)] = true := by
    simp [canAll, pl_can h0, pl_can h1, pl_can h2]
  rw [this]
  rfl
def tlB (S : Ms) (t : Tr) : Bool := (plOk S t 0 && (plOk S t 1 && plOk S t 2)) && decide ((areaT S t).sign = 1)
set_option maxRecDepth 100000 in
theorem mTurns (base p : Nat) (X : Mx) (S : Ms) (m : Nat) (F : Nat → Prop) (w : World) (h : MeI base p X F w) (hS : MeOk X S) (hk : MsOk S m) (t : Tr) (hv : ∀ i, i < 3 → isV S (t.v i) = true) {r : Bool} (hr : r = tlB S t) :
    Calls Try.prog 30 #[ptR p, trV t] w fun e w' => e = .returned (.bool r) ∧ Below w.heap.size w w' := by
  obtain ⟨W, hW⟩ : ∃ W, W = w.alloc (.cells (trC t).toArray 42) := ⟨_, rfl⟩
  have BW : Below w.heap.size w W := by rw [hW]; exact (Below.refl _ _).alloc (Nat.le_refl _) _
  have zW : W.heap.size = w.heap.size + 1 := by rw [hW]; simp
  have hW' : w.alloc (.cells #[.int .i64 t.v0, .int .i64 t.v1, .int .i64 t.v2, .int .i64 t.x0, .int .i64 t.y0, .int .i64 t.x1, .int .i64 t.y1, .int .i64 t.x2, .int .i64 t.y2] 42) = W := hW.symm
  have HP : Hid _ := mPlaces base p X S m F W (h.below BW) hS hk t hv
  have R0 : Row W w.heap.size (trC t) := by rw [hW]; exact Row.new w (trC t) _
  have c0 := R0.cell 0 _ rfl
  have c1 := R0.cell 1 _ rfl
  have c2 := R0.cell 2 _ rfl
  have c3 := R0.cell 3 _ rfl
  have c4 := R0.cell 4 _ rfl
  have c5 := R0.cell 5 _ rfl
  have c6 := R0.cell 6 _ rfl
  have c7 := R0.cell 7 _ rfl
  have c8 := R0.cell 8 _ rfl
  have HR : Hid _ := hr
  clear hW h hS hk hv hr
  go_enter Try.func30, Try.ntmps30
  go_wp2_with (go_at_call 51; fail)
  refine (Calls.mono HP.out) ?_
  clear c0 c1 c2 c3 c4 c5 c6 c7 c8
  rintro e w1 ⟨c0, c1, c2, c3, c4, c5, s, rfl, hs, hc, b1⟩
  have B1 : Below w.heap.size w w1 := BW.trans (b1.mono (by omega))
  clear hW' HP
  cases s with
  | false =>
    obtain rfl : r = false := by rw [HR.out]; unfold tlB; rw [← hs]; rfl
    clear hs hc
    obtain ⟨W2, hW2⟩ : ∃ W2, w1.alloc (.cells #[.int .i64 c0, .int .i64 c1, .int .i64 c2, .int .i64 c3, .int .i64 c4, .int .i64 c5] 108) = W2 := ⟨_, rfl⟩
    have B2 : Below w.heap.size w W2 := by rw [← hW2]; exact B1.alloc B1.size _
    go_wp2
    go_ret
    exact ⟨rfl, B2⟩
  | true =>
    obtain ⟨rfl, rfl, rfl, rfl, rfl, rfl⟩ := hc rfl
    have ho : plOk S t 0 = true ∧ plOk S t 1 = true ∧ plOk S t 2 = true := by simpa using hs.symm
    obtain ⟨g, HG⟩ : ∃ g, Hid (g = (arP (plX S t 0) (plY S t 0) (plX S t 1) (plY S t 1) (plX S t 2) (plY S t 2)).sign) := ⟨_, rfl⟩
    have HR2 : Hid (r = decide (g = 1)) := by unfold Hid; rw [HR.out, HG.out, pl_area ho.1 ho.2.1 ho.2.2]; unfold tlB; rw [← hs]; rfl
    clear hs hc ho HR
    generalize plX S t 0 = X0 at HG ⊢
    generalize plX S t 1 = X1 at HG ⊢
    generalize plX S t 2 = X2 at HG ⊢
    generalize plY S t 0 = Y0 at HG ⊢
    generalize plY S t 1 = Y1 at HG ⊢
    generalize plY S t 2 = Y2 at HG ⊢
    obtain ⟨W2, hW2⟩ : ∃ W2, w1.alloc (.cells #[.int .i64 X0, .int .i64 Y0, .int .i64 X1, .int .i64 Y1, .int .i64 X2, .int .i64 Y2] 108) = W2 := ⟨_, rfl⟩
    have B2 : Below w.heap.size w W2 := by rw [← hW2]; exact B1.alloc B1.size _
    have R2 : Row W2 w1.heap.size (six X0 Y0 X1 Y1 X2 Y2) := by rw [← hW2]; exact Row.new w1 (six X0 Y0 X1 Y1 X2 Y2) _
    have q0 := R2.cell 0 _ rfl
    have q1 := R2.cell 1 _ rfl
    have q2 := R2.cell 2 _ rfl
    have q3 := R2.cell 3 _ rfl
    have q4 := R2.cell 4 _ rfl
    have q5 := R2.cell 5 _ rfl
    go_wp2_with (go_at_call 52; fail)
    refine (pOrient X0 Y0 X1 Y1 X2 Y2 _ HG.out).mono ?_
    rintro e w2 ⟨rfl, b2⟩
    have B3 : Below w.heap.size w w2 := B2.trans (b2.mono B2.size)
    clear q0 q1 q2 q3 q4 q5 hW2
    by_cases hg : g = 1
    · subst hg
      obtain rfl : r = true := HR2.out.trans (decide_eq_true rfl)
      go_wp2
      go_ret
      exact ⟨rfl, B3⟩
    · obtain rfl : r = false := HR2.out.trans (decide_eq_false hg)
      have hg' : (g == 1) = false := by simpa using hg
      go_wp2
      go_ret
      exact ⟨rfl, B3⟩
end Go.Proofs.Ytjdeehffbgpenaa
