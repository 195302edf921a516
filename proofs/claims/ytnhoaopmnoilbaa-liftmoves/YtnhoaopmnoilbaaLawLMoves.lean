/-
  LiftMoves: any point so many sides off, or that there is none, and which points can be.
-/
import Derived.Test.YtnhoaopmnoilbaaChecked
import Derived.Test.YtnhoaopmnoilbaaRows
import Derived.Test.YtnhoaopmnoilbaaP3
import Derived.Test.YtnhoaopmnoilbaaP6
import Derived.Deep.RegionHeld3
import Derived.ProofKit
import Derived.OpenShut
import Derived.Lib.SmallJoins
namespace Go.Proofs.Ytnhoaopmnoilbaa
open Go.RowKit
set_option linter.unusedVariables false

namespace lmoves
open Go.ChangeShapes Go.WideShapes Go.ChangeAt Go.Joins
set_option maxRecDepth 100000 in
set_option maxHeartbeats 8000000 in
theorem walk (x y : Int) (hx1 : -9223372036854775808 ≤ x) (hx2 : x ≤ 9223372036854775807) (hy1 : -9223372036854775808 ≤ y) (hy2 : y ≤ 9223372036854775807) (i k : Int) (hi1 : -9223372036854775808 ≤ i) (hi2 : i ≤ 9223372036854775807) (hk1 : -9223372036854775808 ≤ k) (hk2 : k ≤ 9223372036854775807) (s : Int) (hs1 : -9223372036854775808 ≤ s) (hs2 : s ≤ 9223372036854775807) (w : World) :
    Calls Try.prog 3 #[.agg #[.int .i64 x, .int .i64 y], .agg #[.int .i64 i, .int .i64 k], .int .i64 s] w fun e w' => e = .returned (.bool true) ∧ Below w.heap.size w w' := by
  have Bx : Hid (-9223372036854775808 ≤ x ∧ x ≤ 9223372036854775807) := ⟨hx1, hx2⟩
  have By : Hid (-9223372036854775808 ≤ y ∧ y ≤ 9223372036854775807) := ⟨hy1, hy2⟩
  have Bi : Hid (-9223372036854775808 ≤ i ∧ i ≤ 9223372036854775807) := ⟨hi1, hi2⟩
  have Bk : Hid (-9223372036854775808 ≤ k ∧ k ≤ 9223372036854775807) := ⟨hk1, hk2⟩
  have Bs : Hid (-9223372036854775808 ≤ s ∧ s ≤ 9223372036854775807) := ⟨hs1, hs2⟩
  clear hx1 hx2 hy1 hy2 hi1 hi2 hk1 hk2 hs1 hs2
  obtain ⟨b, hb⟩ : ∃ b, b = atC x y i k s := ⟨_, rfl⟩
  obtain ⟨u, hu⟩ : ∃ u : Int, u = if b then x + i * s else 0 := ⟨_, rfl⟩
  obtain ⟨v, hv⟩ : ∃ v : Int, v = if b then y + k * s else 0 := ⟨_, rfl⟩
  obtain ⟨cn, hcn⟩ : ∃ cn, cn = canC x y := ⟨_, rfl⟩
  have Hb : Hid _ := hb
  have Hu : Hid _ := hu
  have Hv : Hid _ := hv
  have Hcn : Hid _ := hcn
  clear hb hu hv hcn
  obtain ⟨W, hW, bW, x_p, x_o, sW⟩ := bs_22 w (.int .i64 x) (.int .i64 y) (.int .i64 i) (.int .i64 k) 23 25
  have zbW := bW.size
  have BB := bW
  go_enter Try.func3, Try.ntmps3
  go_wp2_with (go_at_call 8; fail)
  rw [← hW]
  clear hW
  refine (lAt x y i k s W Hb.out Hu.out Hv.out).mono ?_
  rintro e w1 ⟨rfl, bw1⟩
  have zbw1 := bw1.size
  replace BB := also BB bw1
  replace x_p := x_p.on bw1
  replace x_o := x_o.on bw1
  obtain ⟨V1, hV1, bV1, x_q, sV1⟩ := bs_2 w1 (.int .i64 u) (.int .i64 v) 23
  have zbV1 := bV1.size
  replace BB := also BB bV1
  replace x_p := x_p.on bV1
  replace x_o := x_o.on bV1
  have st_p_0 : (w1.alloc (.cells #[.int .i64 u, .int .i64 v] 23)).cell? ⟨w.heap.size, 0, none⟩ = some (.int .i64 x) := by rw [← hV1]; exact x_p.c0
  have st_p_1 : (w1.alloc (.cells #[.int .i64 u, .int .i64 v] 23)).cell? ⟨w.heap.size, 1, none⟩ = some (.int .i64 y) := by rw [← hV1]; exact x_p.c1
  have sf_p_0 : (w1.alloc (.cells #[.int .i64 u, .int .i64 v] 23)).frozen? ⟨w.heap.size, 0, none⟩ = false := by rw [← hV1]; exact x_p.f0
  have sf_p_1 : (w1.alloc (.cells #[.int .i64 u, .int .i64 v] 23)).frozen? ⟨w.heap.size, 1, none⟩ = false := by rw [← hV1]; exact x_p.f1
  have st_o_0 : (w1.alloc (.cells #[.int .i64 u, .int .i64 v] 23)).cell? ⟨w.heap.size + 1, 0, none⟩ = some (.int .i64 i) := by rw [← hV1]; exact x_o.c0
  have st_o_1 : (w1.alloc (.cells #[.int .i64 u, .int .i64 v] 23)).cell? ⟨w.heap.size + 1, 1, none⟩ = some (.int .i64 k) := by rw [← hV1]; exact x_o.c1
  have sf_o_0 : (w1.alloc (.cells #[.int .i64 u, .int .i64 v] 23)).frozen? ⟨w.heap.size + 1, 0, none⟩ = false := by rw [← hV1]; exact x_o.f0
  have sf_o_1 : (w1.alloc (.cells #[.int .i64 u, .int .i64 v] 23)).frozen? ⟨w.heap.size + 1, 1, none⟩ = false := by rw [← hV1]; exact x_o.f1
  go_wp2_with (go_at_call 9; fail)
  rw [← hV1]
  clear hV1 st_p_0 st_p_1 sf_p_0 sf_p_1 st_o_0 st_o_1 sf_o_0 sf_o_1
  refine (rlAt x y i k s V1 Bx By Bi Bk Bs Hb.out Hu.out Hv.out).mono ?_
  rintro e w2 ⟨rfl, bw2⟩
  have zbw2 := bw2.size
  replace BB := also BB bw2
  replace x_p := x_p.on bw2
  replace x_o := x_o.on bw2
  replace x_q := x_q.on bw2
  obtain ⟨V2, hV2, bV2, x_r, sV2⟩ := bs_2 w2 (.int .i64 u) (.int .i64 v) 23
  have zbV2 := bV2.size
  replace BB := also BB bV2
  replace x_p := x_p.on bV2
  replace x_o := x_o.on bV2
  replace x_q := x_q.on bV2
  go_wp2
  rw [← hV2]
  clear hV2
  have dd1 : Below V2.heap.size V2 V2.drew := (Below.refl _ _).drew
  have zdd1 := dd1.size
  replace BB := also BB dd1
  replace x_p := x_p.on dd1
  replace x_o := x_o.on dd1
  replace x_q := x_q.on dd1
  replace x_r := x_r.on dd1
  refine wp_region_held_drew (S := (fun w' => w'.cell? ⟨w.heap.size, 0, none⟩ = some (.int .i64 x) ∧ w'.cell? ⟨w.heap.size, 1, none⟩ = some (.int .i64 y) ∧ w'.cell? ⟨w1.heap.size, 0, none⟩ = some (.int .i64 u) ∧ w'.cell? ⟨w1.heap.size, 1, none⟩ = some (.int .i64 v) ∧ w'.cell? ⟨w2.heap.size, 0, none⟩ = some (.int .i64 u) ∧ w'.cell? ⟨w2.heap.size, 1, none⟩ = some (.int .i64 v) ∧ Below w.heap.size w w')) (by kernel_rfl) ?_ (fun hHeld => ?_)
  · first | exact ⟨x_p.c0, x_p.c1, x_q.c0, x_q.c1, x_r.c0, x_r.c1, BB⟩ | exact ⟨cell_on bw5 hHeld.1, cell_on bw5 hHeld.2.1, cell_on bw5 hHeld.2.2.1, cell_on bw5 hHeld.2.2.2.1, cell_on bw5 hHeld.2.2.2.2.1, cell_on bw5 hHeld.2.2.2.2.2.1, also hHeld.2.2.2.2.2.2 bw5⟩ | exact ⟨cell_on bw4 hHeld.1, cell_on bw4 hHeld.2.1, cell_on bw4 hHeld.2.2.1, cell_on bw4 hHeld.2.2.2.1, cell_on bw4 hHeld.2.2.2.2.1, cell_on bw4 hHeld.2.2.2.2.2.1, also hHeld.2.2.2.2.2.2 bw4⟩ | exact ⟨cell_on bw3 hHeld.1, cell_on bw3 hHeld.2.1, cell_on bw3 hHeld.2.2.1, cell_on bw3 hHeld.2.2.2.1, cell_on bw3 hHeld.2.2.2.2.1, cell_on bw3 hHeld.2.2.2.2.2.1, also hHeld.2.2.2.2.2.2 bw3⟩
  refine take_yes (i := 0) (v := ?vv0) rfl (by kernel_rfl) (by kernel_rfl) (by kernel_rfl) (fun _ _ _ h => h) (by rfl) (by assumption) ?hyv0 ?restv0
  case hyv0 => (intro w hSw; (try dsimp only at hSw); first | (go_simp; done) | (go_simp; with_reducible rfl))
  simp only [Act.put, List.setIfInBounds_toArray, List.set_cons_zero, List.set_cons_succ]
  refine take_yes (i := 1) (v := ?vv1) rfl (by kernel_rfl) (by kernel_rfl) (by kernel_rfl) (fun _ _ _ h => h) (by rfl) (by assumption) ?hyv1 ?restv1
  case hyv1 => (intro w hSw; (try dsimp only at hSw); first | (go_simp; done) | (go_simp; with_reducible rfl))
  simp only [Act.put, List.setIfInBounds_toArray, List.set_cons_zero, List.set_cons_succ]
  refine take_yes (i := 2) (v := ?vv2) rfl (by kernel_rfl) (by kernel_rfl) (by kernel_rfl) (fun _ _ _ h => h) (by rfl) (by assumption) ?hyv2 ?restv2
  case hyv2 => (intro w hSw; (try dsimp only at hSw); first | (go_simp; done) | (go_simp; with_reducible rfl))
  simp only [Act.put, List.setIfInBounds_toArray, List.set_cons_zero, List.set_cons_succ]
  refine take_yes (i := 3) (v := ?vv3) rfl (by kernel_rfl) (by kernel_rfl) (by kernel_rfl) (fun _ _ _ h => h) (by rfl) (by assumption) ?hyv3 ?restv3
  case hyv3 => (intro w hSw; (try dsimp only at hSw); first | (go_simp; done) | (go_simp; with_reducible rfl))
  simp only [Act.put, List.setIfInBounds_toArray, List.set_cons_zero, List.set_cons_succ]
  refine take_yes (i := 4) (v := ?vv4) rfl (by kernel_rfl) (by kernel_rfl) (by kernel_rfl) (fun _ _ _ h => h) (by rfl) (by assumption) ?hyv4 ?restv4
  case hyv4 => (intro w hSw; (try dsimp only at hSw); first | (go_simp; done) | (go_simp; with_reducible rfl))
  simp only [Act.put, List.setIfInBounds_toArray, List.set_cons_zero, List.set_cons_succ]
  refine take_yes (i := 5) (v := ?vv5) rfl (by kernel_rfl) (by kernel_rfl) (by kernel_rfl) (fun _ _ _ h => h) (by rfl) (by assumption) ?hyv5 ?restv5
  case hyv5 => (intro w hSw; (try dsimp only at hSw); first | (go_simp; done) | (go_simp; with_reducible rfl))
  simp only [Act.put, List.setIfInBounds_toArray, List.set_cons_zero, List.set_cons_succ]
  refine take_yes (i := 6) (v := ?vv6) rfl (by kernel_rfl) (by kernel_rfl) (by kernel_rfl) (fun _ _ _ h => h) (by rfl) (by assumption) ?hyv6 ?restv6
  case hyv6 => (intro w hSw; (try dsimp only at hSw); first | (go_simp; done) | (go_simp; with_reducible rfl))
  simp only [Act.put, List.setIfInBounds_toArray, List.set_cons_zero, List.set_cons_succ]
  refine take_yes (i := 7) (v := ?vv7) rfl (by kernel_rfl) (by kernel_rfl) (by kernel_rfl) (fun _ _ _ h => h) (by rfl) (by assumption) ?hyv7 ?restv7
  case hyv7 => (intro w hSw; (try dsimp only at hSw); first | (go_simp; done) | (go_simp; with_reducible rfl))
  simp only [Act.put, List.setIfInBounds_toArray, List.set_cons_zero, List.set_cons_succ]
  refine take_yes (i := 8) (v := ?vv8) rfl (by kernel_rfl) (by kernel_rfl) (by kernel_rfl) (fun _ _ _ h => h) (by rfl) (by assumption) ?hyv8 ?restv8
  case hyv8 => (intro w hSw; (try dsimp only at hSw); first | (go_simp; done) | (go_simp; with_reducible rfl))
  simp only [Act.put, List.setIfInBounds_toArray, List.set_cons_zero, List.set_cons_succ]
  refine take_yes (i := 9) (v := ?vv9) rfl (by kernel_rfl) (by kernel_rfl) (by kernel_rfl) (fun _ _ _ h => h) (by rfl) (by assumption) ?hyv9 ?restv9
  case hyv9 => (intro w hSw; (try dsimp only at hSw); first | (go_simp; done) | (go_simp; with_reducible rfl))
  simp only [Act.put, List.setIfInBounds_toArray, List.set_cons_zero, List.set_cons_succ]
  refine take_yes (i := 11) (v := ?vv11) rfl (by kernel_rfl) (by kernel_rfl) (by kernel_rfl) (fun _ _ _ h => h) (by rfl) (by assumption) ?hyv11 ?restv11
  case hyv11 => (intro w hSw; (try dsimp only at hSw); first | (go_simp; done) | (go_simp; with_reducible rfl))
  simp only [Act.put, List.setIfInBounds_toArray, List.set_cons_zero, List.set_cons_succ]
  refine take_call (i := 10) rfl (by kernel_rfl) (fun Kc hK => ?_)
  go_simp
  (go_at_call 10; refine (lCan x y _ Hcn.out).mono ?_; rintro e w3 ⟨rfl, bw3⟩)
  refine hK.out _ _ ?_ (fun hHeld => ?_)
  · first | exact ⟨x_p.c0, x_p.c1, x_q.c0, x_q.c1, x_r.c0, x_r.c1, BB⟩ | exact ⟨cell_on bw5 hHeld.1, cell_on bw5 hHeld.2.1, cell_on bw5 hHeld.2.2.1, cell_on bw5 hHeld.2.2.2.1, cell_on bw5 hHeld.2.2.2.2.1, cell_on bw5 hHeld.2.2.2.2.2.1, also hHeld.2.2.2.2.2.2 bw5⟩ | exact ⟨cell_on bw4 hHeld.1, cell_on bw4 hHeld.2.1, cell_on bw4 hHeld.2.2.1, cell_on bw4 hHeld.2.2.2.1, cell_on bw4 hHeld.2.2.2.2.1, cell_on bw4 hHeld.2.2.2.2.2.1, also hHeld.2.2.2.2.2.2 bw4⟩ | exact ⟨cell_on bw3 hHeld.1, cell_on bw3 hHeld.2.1, cell_on bw3 hHeld.2.2.1, cell_on bw3 hHeld.2.2.2.1, cell_on bw3 hHeld.2.2.2.2.1, cell_on bw3 hHeld.2.2.2.2.2.1, also hHeld.2.2.2.2.2.2 bw3⟩
  clear hK Kc
  have zbw3 := bw3.size
  replace BB := also BB bw3
  replace x_p := x_p.on bw3
  replace x_o := x_o.on bw3
  replace x_q := x_q.on bw3
  replace x_r := x_r.on bw3
  refine take_call (i := 12) rfl (by kernel_rfl) (fun Kc hK => ?_)
  go_simp
  (go_at_call 11; refine (rlCan x y _ Bx.out By.out Hcn.out).mono ?_; rintro e w4 ⟨rfl, bw4⟩)
  refine hK.out _ _ ?_ (fun hHeld => ?_)
  · first | exact ⟨x_p.c0, x_p.c1, x_q.c0, x_q.c1, x_r.c0, x_r.c1, BB⟩ | exact ⟨cell_on bw5 hHeld.1, cell_on bw5 hHeld.2.1, cell_on bw5 hHeld.2.2.1, cell_on bw5 hHeld.2.2.2.1, cell_on bw5 hHeld.2.2.2.2.1, cell_on bw5 hHeld.2.2.2.2.2.1, also hHeld.2.2.2.2.2.2 bw5⟩ | exact ⟨cell_on bw4 hHeld.1, cell_on bw4 hHeld.2.1, cell_on bw4 hHeld.2.2.1, cell_on bw4 hHeld.2.2.2.1, cell_on bw4 hHeld.2.2.2.2.1, cell_on bw4 hHeld.2.2.2.2.2.1, also hHeld.2.2.2.2.2.2 bw4⟩ | exact ⟨cell_on bw3 hHeld.1, cell_on bw3 hHeld.2.1, cell_on bw3 hHeld.2.2.1, cell_on bw3 hHeld.2.2.2.1, cell_on bw3 hHeld.2.2.2.2.1, cell_on bw3 hHeld.2.2.2.2.2.1, also hHeld.2.2.2.2.2.2 bw3⟩
  clear hK Kc
  have zbw4 := bw4.size
  replace BB := also BB bw4
  replace x_p := x_p.on bw4
  replace x_o := x_o.on bw4
  replace x_q := x_q.on bw4
  replace x_r := x_r.on bw4
  refine take_yes (i := 13) (v := ?vv13) rfl (by kernel_rfl) (by kernel_rfl) (by kernel_rfl) (fun _ _ _ h => h) (by rfl) (by assumption) ?hyv13 ?restv13
  case hyv13 => (intro w hSw; (try dsimp only at hSw); first | (go_simp; done) | (go_simp; with_reducible rfl))
  simp only [Act.put, List.setIfInBounds_toArray, List.set_cons_zero, List.set_cons_succ]
  refine take_yes (i := 14) (v := ?vv14) rfl (by kernel_rfl) (by kernel_rfl) (by kernel_rfl) (fun _ _ _ h => h) (by rfl) (by assumption) ?hyv14 ?restv14
  case hyv14 => (intro w hSw; (try dsimp only at hSw); first | (go_simp; done) | (go_simp; with_reducible rfl))
  simp only [Act.put, List.setIfInBounds_toArray, List.set_cons_zero, List.set_cons_succ]
  refine take_yes (i := 15) (v := ?vv15) rfl (by kernel_rfl) (by kernel_rfl) (by kernel_rfl) (fun _ _ _ h => h) (by rfl) (by assumption) ?hyv15 ?restv15
  case hyv15 => (intro w hSw; (try dsimp only at hSw); first | (go_simp; done) | (go_simp; with_reducible rfl))
  simp only [Act.put, List.setIfInBounds_toArray, List.set_cons_zero, List.set_cons_succ]
  refine take_call (i := 16) rfl (by kernel_rfl) (fun Kc hK => ?_)
  go_simp
  (go_at_call 12; refine (lives6_any _).mono ?_; rintro e w5 ⟨rfl, bw5⟩)
  refine hK.out _ _ ?_ (fun hHeld => ?_)
  · first | exact ⟨x_p.c0, x_p.c1, x_q.c0, x_q.c1, x_r.c0, x_r.c1, BB⟩ | exact ⟨cell_on bw5 hHeld.1, cell_on bw5 hHeld.2.1, cell_on bw5 hHeld.2.2.1, cell_on bw5 hHeld.2.2.2.1, cell_on bw5 hHeld.2.2.2.2.1, cell_on bw5 hHeld.2.2.2.2.2.1, also hHeld.2.2.2.2.2.2 bw5⟩ | exact ⟨cell_on bw4 hHeld.1, cell_on bw4 hHeld.2.1, cell_on bw4 hHeld.2.2.1, cell_on bw4 hHeld.2.2.2.1, cell_on bw4 hHeld.2.2.2.2.1, cell_on bw4 hHeld.2.2.2.2.2.1, also hHeld.2.2.2.2.2.2 bw4⟩ | exact ⟨cell_on bw3 hHeld.1, cell_on bw3 hHeld.2.1, cell_on bw3 hHeld.2.2.1, cell_on bw3 hHeld.2.2.2.1, cell_on bw3 hHeld.2.2.2.2.1, cell_on bw3 hHeld.2.2.2.2.2.1, also hHeld.2.2.2.2.2.2 bw3⟩
  clear hK Kc
  have zbw5 := bw5.size
  replace BB := also BB bw5
  replace x_p := x_p.on bw5
  replace x_o := x_o.on bw5
  replace x_q := x_q.on bw5
  replace x_r := x_r.on bw5
  refine take_yes (i := 17) (v := ?vv17) rfl (by kernel_rfl) (by kernel_rfl) (by kernel_rfl) (fun _ _ _ h => h) (by rfl) (by assumption) ?hyv17 ?restv17
  case hyv17 => (intro w hSw; (try dsimp only at hSw); first | (go_simp; done) | (go_simp; with_reducible rfl))
  simp only [Act.put, List.setIfInBounds_toArray, List.set_cons_zero, List.set_cons_succ]
  refine take_yes (i := 18) (v := ?vv18) rfl (by kernel_rfl) (by kernel_rfl) (by kernel_rfl) (fun _ _ _ h => h) (by rfl) (by assumption) ?hyv18 ?restv18
  case hyv18 => (intro w hSw; (try dsimp only at hSw); first | (go_simp; done) | (go_simp; with_reducible rfl))
  simp only [Act.put, List.setIfInBounds_toArray, List.set_cons_zero, List.set_cons_succ]
  refine wpAnyH_done (by kernel_rfl) ?_ _
  go_wp2
  go_ret
  exact ⟨rfl, BB⟩
theorem own : ownKnob Try.prog.godebug = none := by kernel_rfl
theorem cells_pt : Try.prog.cellsOf 23 = 2 := by kernel_rfl
theorem reads_pt {H : Type} (enc : TypeId × Value → H) (W : World) (bs : Nat) (sp : Nat → Bool) (hd : Bool) {a b : Int} (wa : (Lit.int .i64 a).wf = true) (wb : (Lit.int .i64 b).wf = true) : DataW.Trod enc Try.prog W bs sp hd 23 (.agg #[.int .i64 a, .int .i64 b]) (.agg [.lit (.int .i64 a), .lit (.int .i64 b)]) [] :=
  shut_agg2 (y0 := (.lit (.int .i64 a), [])) (y1 := (.lit (.int .i64 b), [])) Try.underlying23 (by kernel_rfl) cells_pt ⟨1, by simp [DataW.trod, Try.underlying2, wa]⟩ ⟨1, by simp [DataW.trod, Try.underlying2, wb]⟩
theorem cells_off : Try.prog.cellsOf 25 = 2 := by kernel_rfl
theorem reads_off {H : Type} (enc : TypeId × Value → H) (W : World) (bs : Nat) (sp : Nat → Bool) (hd : Bool) {a b : Int} (wa : (Lit.int .i64 a).wf = true) (wb : (Lit.int .i64 b).wf = true) : DataW.Trod enc Try.prog W bs sp hd 25 (.agg #[.int .i64 a, .int .i64 b]) (.agg [.lit (.int .i64 a), .lit (.int .i64 b)]) [] :=
  shut_agg2 (y0 := (.lit (.int .i64 a), [])) (y1 := (.lit (.int .i64 b), [])) Try.underlying25 (by kernel_rfl) cells_off ⟨1, by simp [DataW.trod, Try.underlying3, wa]⟩ ⟨1, by simp [DataW.trod, Try.underlying3, wb]⟩
set_option maxRecDepth 100000 in
theorem lifted (os : Os) (started : os.Started) (H : Type) (enc : TypeId × Value → H) :
    ReturnsInHanded {} Try.checked os 3 .any (Rows.liftMovesSpec.pre6 enc Try.prog Try.f3 Rows.liftMovesRow.domain false) (Rows.liftMovesSpec.post enc Try.prog Try.f3 false true false false) := by
  refine returnsInHanded_of_change (C := Try.checked) own started (by kernel_rfl) Try.func3
    (ChangeSpec.witness6 (enc := enc) (C := Try.checked) false ⟨#[], #[.agg #[.int .i64 0, .int .i64 0], .agg #[.int .i64 0, .int .i64 0], .int .i64 0], []⟩ 8 (by kernel_rfl) (by kernel_rfl) (by kernel_rfl) (by kernel_rfl)) ?_
  intro W base args ds gs before hval0 hW hcnd _
  have hval : ∀ (j : Nat) t v, Try.f3.params[j]? = some t → args[j]? = some v → Value.okWide Try.prog W .any base t v := hval0
  have hW' := hW
  obtain ⟨p, q, hA0, hV, rfl, hfz, hnd⟩ := hW
  have hA : DataW.TrodAll enc Try.prog W 0 (fun _ => true) true Try.f3.params.toList args.toList ds p := hA0
  rw [Try.params3] at hA hval
  obtain ⟨v0, vs0, d0, ds0, p0, q0, hargs, rfl, rfl, h0, r0⟩ := trodAll_cons hA
  obtain ⟨v1, vs1, d1, ds1, p1, q1, rfl, rfl, rfl, h1, r1⟩ := trodAll_cons r0
  obtain ⟨v2, vs2, d2, ds2, p2, q2, rfl, rfl, rfl, h2, r2⟩ := trodAll_cons r1
  obtain ⟨rfl, rfl, rfl⟩ := trodAll_nil r2
  obtain rfl : args = #[v0, v1, v2] := by cases args; simp_all
  obtain ⟨rfl, rfl⟩ := trodVars_none hV
  obtain ⟨x0, y0, g0, k0, m0, rfl, rfl, rfl, hx0, hy0⟩ := open_agg2 Try.underlying23 (by kernel_rfl) cells_pt (hval 0 23 v0 rfl rfl) h0
  obtain ⟨a0, ex0, rfl, wa0⟩ := DataW.trod_int Try.underlying2 hx0
  obtain ⟨b0, ey0, rfl, wb0⟩ := DataW.trod_int Try.underlying2 hy0
  simp at ex0 ey0
  subst ex0 ey0
  obtain ⟨x1, y1, g1, k1, m1, rfl, rfl, rfl, hx1, hy1⟩ := open_agg2 Try.underlying25 (by kernel_rfl) cells_off (hval 1 25 v1 rfl rfl) h1
  obtain ⟨a1, ex1, rfl, wa1⟩ := DataW.trod_int Try.underlying3 hx1
  obtain ⟨b1, ey1, rfl, wb1⟩ := DataW.trod_int Try.underlying3 hy1
  simp at ex1 ey1
  subst ex1 ey1
  obtain ⟨a2, rfl, rfl, rfl, w2⟩ := open_int Try.underlying2 (hval 2 2 v2 rfl rfl) h2
  clear hA0 hval0
  have hwalk := walk a0 b0 (bd_i64 wa0).1 (bd_i64 wa0).2 (bd_i64 wb0).1 (bd_i64 wb0).2 a1 b1 (bd_i64 wa1).1 (bd_i64 wa1).2 (bd_i64 wb1).1 (bd_i64 wb1).2 a2 (bd_i64 w2).1 (bd_i64 w2).2 W
  refine hwalk.mono fun e W' ⟨he, bel⟩ => ?_
  subst he
  exact ⟨_, rfl, _, _, _, [], _, [], hW', trodAll_mk1 (shut_bool Try.underlying4 _), (trodAll_cons_mk (reads_pt enc _ _ _ _ wa0 wb0) (trodAll_cons_mk (reads_off enc _ _ _ _ wa1 wb1) (trodAll_cons_mk (shut_int Try.underlying2 w2) trodAll_mk0))), rfl, bel.frame _, fun h => by cases h⟩

/-- The statement. -/
theorem proved : Rows.LiftMovesSaid :=
  OpenClaim.holds_of_wide 3 Try.f3 rfl rfl rfl rfl rfl rfl rfl ⟨rfl, rfl, rfl, rfl, rfl⟩ rfl rfl rfl rfl rfl (by kernel_rfl) Try.func3 (by kernel_rfl)
    (of_decide_eq_true (by kernel_rfl)) (by unfold Func.isWrapper; first | (rw [if_pos (by decide +kernel)]; kernel_rfl) | (rw [if_neg (by decide +kernel)]; exact ⟨rfl, rfl⟩))
    (fun os started H enc _ => lifted os started H enc)
#print axioms proved
end lmoves
end Go.Proofs.Ytnhoaopmnoilbaa
