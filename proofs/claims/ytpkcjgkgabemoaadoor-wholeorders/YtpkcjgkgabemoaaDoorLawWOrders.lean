/-
  WholeOrders: which of any two whole numbers is greater, which sign one has, and whether it has 64 bits.
-/
import Derived.Test.YtpkcjgkgabemoaaDoorP5
import Derived.Test.YtpkcjgkgabemoaaDoorP6
namespace Go.Proofs.YtpkcjgkgabemoaaDoor
open Go.RowKit
set_option linter.unusedVariables false

namespace worders
open Go.ChangeShapes Go.WideShapes Go.ChangeAt
set_option maxRecDepth 100000 in
set_option maxHeartbeats 10000000 in
theorem walk (n : Bool) (a : Option Addr) (la ca u : Nat) (m : Bool) (b : Option Addr) (lb cb v : Nat) (w : World) (ha : Sl w a la ca (wd.dcells la (u : Int))) (hu : u < 4294967296 ^ la) (hb : Sl w b lb cb (wd.dcells lb (v : Int))) (hv : v < 4294967296 ^ lb) :
    Calls Tryd.prog 5 #[.agg #[.bool n, .slice a la ca], .agg #[.bool m, .slice b lb cb]] w fun e w' => e = .returned (.bool true) ∧ Below w.heap.size w w' := by
  obtain ⟨B0, xa, xb, hs⟩ := box1 w (.bool n) (.slice a la ca) (.bool m) (.slice b lb cb) 25 25
  replace B0 := B0.drew
  replace xa := xa.drew
  replace xb := xb.drew
  have sa := ha.below B0
  have sb := hb.below B0
  obtain ⟨k0, k1, k2, k3⟩ := xa
  obtain ⟨j0, j1, j2, j3⟩ := xb
  have xa : Bx _ _ _ _ := ⟨k0, k1, k2, k3⟩
  have xb : Bx _ _ _ _ := ⟨j0, j1, j2, j3⟩
  go_enter Tryd.func5, Tryd.ntmps5
  go_wp2
  refine wp_mono (Q := CutTwo w n m (fun p q => ⟨#[.agg #[.bool n, .slice a la ca], .agg #[.bool m, .slice b lb cb], .pointer (some ⟨w.heap.size, 0, none⟩), .pointer (some ⟨w.heap.size + 1, 0, none⟩), .bool false, undef, undef, undef, undef, undef, undef, .agg #[.bool n, .slice a la ca], p, .agg #[.bool m, .slice b lb cb], q, undef, undef, undef, undef, undef, undef, undef, undef, undef, undef, undef, undef, undef, undef, undef, undef, undef, undef, undef, undef, undef, undef, undef, undef, undef, undef, undef, undef, undef, undef, undef, undef, undef, undef, undef, undef, undef, undef, undef, undef, undef], []⟩)) ?_ ?_
  · go_region_with (first
      | (go_at_call_of 9 [Value.agg #[Value.bool n, Value.slice a la ca]]; refine (short4_any n a la ca u _ sa hu).mono ?_; rintro e w1 ⟨a1, m1, c1, x1, rfl, hm1, h1, f1, b1⟩; obtain ⟨k0, k1, k2, k3⟩ := xa.on b1; obtain ⟨j0, j1, j2, j3⟩ := xb.on b1)
      | (go_at_call 9; refine (short4_any m b lb cb v _ (sb.below b1) hv).mono ?_; rintro e w2 ⟨a2, m2, c2, x2, rfl, hm2, h2, f2, b2⟩; obtain ⟨k0, k1, k2, k3⟩ := (xa.on b1).on b2; obtain ⟨j0, j1, j2, j3⟩ := (xb.on b1).on b2))
    all_goals exact cutTwo hm1 hm2 (h1.below b2) h2 ((xa.on b1).on b2) ((xb.on b1).on b2) (also (also B0 b1) b2) (f1.mono (by simp)) (f2.mono (by have := b1.size; simp at this; omega))
  rintro e act wr ⟨rfl, a1, m1, c1, x1, a2, m2, c2, x2, rfl, hm1, hm2, n1, n2, ya, yb, B1⟩
  dsimp only
  clear xa xb sa sb hs B0 k0 k1 k2 k3 j0 j1 j2 j3 ha hu hb hv
  go_wp2
  refine wp_mono (Q := RefTwo w wr n m a1 m1 c1 x1 a2 m2 c2 x2 (fun p q x y => ⟨#[.agg #[.bool n, .slice a la ca], .agg #[.bool m, .slice b lb cb], .pointer (some ⟨w.heap.size, 0, none⟩), .pointer (some ⟨w.heap.size + 1, 0, none⟩), .bool false, p, q, undef, undef, undef, undef, .agg #[.bool n, .slice a la ca], .agg #[.bool n, .slice a1 m1 c1], .agg #[.bool m, .slice b lb cb], .agg #[.bool m, .slice a2 m2 c2], .agg #[.bool n, .slice a1 m1 c1], x, .agg #[.bool m, .slice a2 m2 c2], y, undef, undef, undef, undef, undef, undef, undef, undef, undef, undef, undef, undef, undef, undef, undef, undef, undef, undef, undef, undef, undef, undef, undef, undef, undef, undef, undef, undef, undef, undef, undef, undef, undef, undef, undef, undef, undef], []⟩)) ?_ ?_
  · refine wp_region_held_drew (S := (fun w' => w'.cell? ⟨w.heap.size, 0, none⟩ = some (.bool n) ∧ w'.cell? ⟨w.heap.size, 1, none⟩ = some (.slice a1 m1 c1) ∧ w'.cell? ⟨w.heap.size + 1, 0, none⟩ = some (.bool m) ∧ w'.cell? ⟨w.heap.size + 1, 1, none⟩ = some (.slice a2 m2 c2) ∧ Below w.heap.size w w')) (by kernel_rfl) ?_ (fun hHeld => ?_)
    · exact ⟨ya.c0, ya.c1, yb.c0, yb.c1, B1.drew⟩
    refine take_yes (i := 0) (v := ?vq0) rfl (by kernel_rfl) (by kernel_rfl) (by kernel_rfl) (fun _ _ _ h => Exit.noConfusion h.1) (by rfl) (by assumption) ?hyq0 ?restq0
    case hyq0 => (intro w hSw; (try dsimp only at hSw); first | (go_simp; done) | (go_simp; with_reducible rfl))
    simp only [Act.put, List.setIfInBounds_toArray, List.set_cons_zero, List.set_cons_succ]
    refine take_yes (i := 2) (v := ?vq2) rfl (by kernel_rfl) (by kernel_rfl) (by kernel_rfl) (fun _ _ _ h => Exit.noConfusion h.1) (by rfl) (by assumption) ?hyq2 ?restq2
    case hyq2 => (intro w hSw; (try dsimp only at hSw); first | (go_simp; done) | (go_simp; with_reducible rfl))
    simp only [Act.put, List.setIfInBounds_toArray, List.set_cons_zero, List.set_cons_succ]
    have b0 : Below wr.heap.size wr wr.drew := (Below.refl _ _).drew
    generalize wr.drew = W at b0 hHeld ⊢
    have B9 := Below.refl wr.heap.size wr
    have B9 := also B9 b0
    have n1 := n1.below b0; have n2 := n2.below b0; have ya := ya.on b0; have yb := yb.on b0; have B1 := also B1 b0
    have hsz : w.heap.size + 1 < W.heap.size := bx_lt yb
    refine wpAnyH_ready (rs := [1, 4, 5]) (by kernel_rfl) (by simp) (AllReadyH.cons (i := 1) rfl (fun K hK => ?_) (AllReadyH.cons (i := 4) rfl (fun K hK => ?_) (AllReadyH.cons (i := 5) rfl (fun K hK => ?_) AllReadyH.nil)))
    · skip
      go_simp
      (go_at_call 10; refine (rwOf n a1 m1 c1 (sgz n x1) _ (wi_of n1)).mono ?_; rintro e W1 ⟨s, d, l, c, rfl, hx, fx, eW1⟩)
      refine hK.out _ _ (keepB2 hHeld eW1) (fun hHeld => ?_)
      clear hK K
      have B9 := also B9 eW1
      have n1 := n1.below eW1; have n2 := n2.below eW1; have ya := ya.on eW1; have yb := yb.on eW1; have B1 := also B1 eW1
      refine wpAnyH_ready (rs := [3, 4, 5]) (by kernel_rfl) (by simp) (AllReadyH.cons (i := 3) rfl (fun K hK => ?_) (AllReadyH.cons (i := 4) rfl (fun K hK => ?_) (AllReadyH.cons (i := 5) rfl (fun K hK => ?_) AllReadyH.nil)))
      · skip
        go_simp
        (go_at_call 10; refine (rwOf m a2 m2 c2 (sgz m x2) _ (wi_of n2)).mono ?_; rintro e W13 ⟨t, g, h, k, rfl, hy, fy, eW13⟩)
        refine hK.out _ _ (keepB2 hHeld eW13) (fun hHeld => ?_)
        clear hK K
        have B9 := also B9 eW13
        have n1 := n1.below eW13; have n2 := n2.below eW13; have ya := ya.on eW13; have yb := yb.on eW13; have B1 := also B1 eW13
        have hx := hx.below eW13
        refine wpAnyH_ready (rs := [4, 5]) (by kernel_rfl) (by simp) (AllReadyH.cons (i := 4) rfl (fun K hK => ?_) (AllReadyH.cons (i := 5) rfl (fun K hK => ?_) AllReadyH.nil))
        · skip
          go_simp
          refine hK.out _ _ (keepB2 hHeld ((Below.refl _ _).alloc (Nat.le_refl _) _)) (fun hHeld => ?_)
          clear hK K
          have zp := bx_new W13 (.int .i64 0) (.slice none 0 0) 30
          have eW134 : Below W13.heap.size W13 (W13.alloc (.cells #[.int .i64 0, .slice none 0 0] 30)) := (Below.refl _ _).alloc (Nat.le_refl _) _
          have lp : W13.heap.size < (W13.alloc (.cells #[.int .i64 0, .slice none 0 0] 30)).heap.size := by simp
          have gp : w.heap.size + 1 < W13.heap.size := bx_lt yb; have vp : wr.heap.size ≤ W13.heap.size := B9.size
          have ap : NA W13.heap.size a1 m1 := n1.sl.na (Nat.le_refl _); have bp : NA W13.heap.size a2 m2 := n2.sl.na (Nat.le_refl _)
          have xp : NA W13.heap.size d l := hx.hd.sl.na (Nat.le_refl _)
          have yp : NA W13.heap.size g h := hy.hd.sl.na (Nat.le_refl _)
          generalize W13.alloc (.cells #[.int .i64 0, .slice none 0 0] 30) = W134 at zp eW134 lp hHeld ⊢
          have B9 := also B9 eW134
          have n1 := n1.below eW134; have n2 := n2.below eW134; have ya := ya.on eW134; have yb := yb.on eW134; have B1 := also B1 eW134
          have hx := hx.below eW134
          have hy := hy.below eW134
          generalize W13.heap.size = p at zp lp gp vp ap bp xp yp  ⊢
          refine take_call (i := 5) rfl (by kernel_rfl) (fun K hK => ?_)
          go_simp
          refine hK.out _ _ (keepB2 hHeld ((Below.refl _ _).alloc (Nat.le_refl _) _)) (fun hHeld => ?_)
          clear hK K
          have zq := bx_new W134 (.int .i64 0) (.slice none 0 0) 30
          have eW1345 : Below W134.heap.size W134 (W134.alloc (.cells #[.int .i64 0, .slice none 0 0] 30)) := (Below.refl _ _).alloc (Nat.le_refl _) _
          have lq : W134.heap.size < (W134.alloc (.cells #[.int .i64 0, .slice none 0 0] 30)).heap.size := by simp
          have gq : w.heap.size + 1 < W134.heap.size := bx_lt yb; have vq : wr.heap.size ≤ W134.heap.size := B9.size
          have aq : NA W134.heap.size a1 m1 := n1.sl.na (Nat.le_refl _); have bq : NA W134.heap.size a2 m2 := n2.sl.na (Nat.le_refl _)
          have xq : NA W134.heap.size d l := hx.hd.sl.na (Nat.le_refl _)
          have yq : NA W134.heap.size g h := hy.hd.sl.na (Nat.le_refl _)
          have pq : p ≠ W134.heap.size := Nat.ne_of_lt lp
          generalize W134.alloc (.cells #[.int .i64 0, .slice none 0 0] 30) = W1345 at zq eW1345 lq hHeld ⊢
          have B9 := also B9 eW1345
          have n1 := n1.below eW1345; have n2 := n2.below eW1345; have ya := ya.on eW1345; have yb := yb.on eW1345; have B1 := also B1 eW1345
          have hx := hx.below eW1345
          have hy := hy.below eW1345
          have zp := zp.on eW1345; have lp := Nat.lt_of_lt_of_le lp eW1345.size
          generalize W134.heap.size = q at zq lq gq vq aq bq xq yq pq ⊢
          obtain ⟨k0, k1, k2, k3⟩ := zp
          have zp : Bx _ _ _ _ := ⟨k0, k1, k2, k3⟩
          refine take_call (i := 6) rfl (by kernel_rfl) (fun K hK => ?_)
          go_simp
          refine hK.out _ _ ?_ (fun hHeld => ?_)
          · exact keepS2 hHeld gp (by omega) _ _
          clear hK K
          obtain ⟨j0, j1, j2, j3⟩ : Bx ((W1345.setCell ⟨p, 0, none⟩ (.int .i64 s)).setCell ⟨p, 1, none⟩ (.slice d l c)) q (.int .i64 0) (.slice none 0 0) := (zq.put pq).put pq
          refine take_call (i := 7) rfl (by kernel_rfl) (fun K hK => ?_)
          go_simp
          refine hK.out _ _ ?_ (fun hHeld => ?_)
          · exact keepS2 hHeld gq (by omega) _ _
          clear hK K
          refine wpAnyH_done (by kernel_rfl) ?_ _
          exact refTwo n1 n2 hx hy ya yb zp zq B1 B9 vp vq gp gq pq xp xq yp yq ap aq bp bq
        · skip
          go_simp
          refine hK.out _ _ (keepB2 hHeld ((Below.refl _ _).alloc (Nat.le_refl _) _)) (fun hHeld => ?_)
          clear hK K
          have zq := bx_new W13 (.int .i64 0) (.slice none 0 0) 30
          have eW135 : Below W13.heap.size W13 (W13.alloc (.cells #[.int .i64 0, .slice none 0 0] 30)) := (Below.refl _ _).alloc (Nat.le_refl _) _
          have lq : W13.heap.size < (W13.alloc (.cells #[.int .i64 0, .slice none 0 0] 30)).heap.size := by simp
          have gq : w.heap.size + 1 < W13.heap.size := bx_lt yb; have vq : wr.heap.size ≤ W13.heap.size := B9.size
          have aq : NA W13.heap.size a1 m1 := n1.sl.na (Nat.le_refl _); have bq : NA W13.heap.size a2 m2 := n2.sl.na (Nat.le_refl _)
          have xq : NA W13.heap.size d l := hx.hd.sl.na (Nat.le_refl _)
          have yq : NA W13.heap.size g h := hy.hd.sl.na (Nat.le_refl _)
          generalize W13.alloc (.cells #[.int .i64 0, .slice none 0 0] 30) = W135 at zq eW135 lq hHeld ⊢
          have B9 := also B9 eW135
          have n1 := n1.below eW135; have n2 := n2.below eW135; have ya := ya.on eW135; have yb := yb.on eW135; have B1 := also B1 eW135
          have hx := hx.below eW135
          have hy := hy.below eW135
          generalize W13.heap.size = q at zq lq gq vq aq bq xq yq  ⊢
          refine take_call (i := 4) rfl (by kernel_rfl) (fun K hK => ?_)
          go_simp
          refine hK.out _ _ (keepB2 hHeld ((Below.refl _ _).alloc (Nat.le_refl _) _)) (fun hHeld => ?_)
          clear hK K
          have zp := bx_new W135 (.int .i64 0) (.slice none 0 0) 30
          have eW1354 : Below W135.heap.size W135 (W135.alloc (.cells #[.int .i64 0, .slice none 0 0] 30)) := (Below.refl _ _).alloc (Nat.le_refl _) _
          have lp : W135.heap.size < (W135.alloc (.cells #[.int .i64 0, .slice none 0 0] 30)).heap.size := by simp
          have gp : w.heap.size + 1 < W135.heap.size := bx_lt yb; have vp : wr.heap.size ≤ W135.heap.size := B9.size
          have ap : NA W135.heap.size a1 m1 := n1.sl.na (Nat.le_refl _); have bp : NA W135.heap.size a2 m2 := n2.sl.na (Nat.le_refl _)
          have xp : NA W135.heap.size d l := hx.hd.sl.na (Nat.le_refl _)
          have yp : NA W135.heap.size g h := hy.hd.sl.na (Nat.le_refl _)
          have pq : W135.heap.size ≠ q := Nat.ne_of_gt lq
          generalize W135.alloc (.cells #[.int .i64 0, .slice none 0 0] 30) = W1354 at zp eW1354 lp hHeld ⊢
          have B9 := also B9 eW1354
          have n1 := n1.below eW1354; have n2 := n2.below eW1354; have ya := ya.on eW1354; have yb := yb.on eW1354; have B1 := also B1 eW1354
          have hx := hx.below eW1354
          have hy := hy.below eW1354
          have zq := zq.on eW1354; have lq := Nat.lt_of_lt_of_le lq eW1354.size
          generalize W135.heap.size = p at zp lp gp vp ap bp xp yp pq ⊢
          obtain ⟨k0, k1, k2, k3⟩ := zp
          have zp : Bx _ _ _ _ := ⟨k0, k1, k2, k3⟩
          refine take_call (i := 6) rfl (by kernel_rfl) (fun K hK => ?_)
          go_simp
          refine hK.out _ _ ?_ (fun hHeld => ?_)
          · exact keepS2 hHeld gp (by omega) _ _
          clear hK K
          obtain ⟨j0, j1, j2, j3⟩ : Bx ((W1354.setCell ⟨p, 0, none⟩ (.int .i64 s)).setCell ⟨p, 1, none⟩ (.slice d l c)) q (.int .i64 0) (.slice none 0 0) := (zq.put pq).put pq
          refine take_call (i := 7) rfl (by kernel_rfl) (fun K hK => ?_)
          go_simp
          refine hK.out _ _ ?_ (fun hHeld => ?_)
          · exact keepS2 hHeld gq (by omega) _ _
          clear hK K
          refine wpAnyH_done (by kernel_rfl) ?_ _
          exact refTwo n1 n2 hx hy ya yb zp zq B1 B9 vp vq gp gq pq xp xq yp yq ap aq bp bq
      · skip
        go_simp
        refine hK.out _ _ (keepB2 hHeld ((Below.refl _ _).alloc (Nat.le_refl _) _)) (fun hHeld => ?_)
        clear hK K
        have zp := bx_new W1 (.int .i64 0) (.slice none 0 0) 30
        have eW14 : Below W1.heap.size W1 (W1.alloc (.cells #[.int .i64 0, .slice none 0 0] 30)) := (Below.refl _ _).alloc (Nat.le_refl _) _
        have lp : W1.heap.size < (W1.alloc (.cells #[.int .i64 0, .slice none 0 0] 30)).heap.size := by simp
        have gp : w.heap.size + 1 < W1.heap.size := bx_lt yb; have vp : wr.heap.size ≤ W1.heap.size := B9.size
        have ap : NA W1.heap.size a1 m1 := n1.sl.na (Nat.le_refl _); have bp : NA W1.heap.size a2 m2 := n2.sl.na (Nat.le_refl _)
        have xp : NA W1.heap.size d l := hx.hd.sl.na (Nat.le_refl _)
        generalize W1.alloc (.cells #[.int .i64 0, .slice none 0 0] 30) = W14 at zp eW14 lp hHeld ⊢
        have B9 := also B9 eW14
        have n1 := n1.below eW14; have n2 := n2.below eW14; have ya := ya.on eW14; have yb := yb.on eW14; have B1 := also B1 eW14
        have hx := hx.below eW14
        generalize W1.heap.size = p at zp lp gp vp ap bp xp   ⊢
        refine wpAnyH_ready (rs := [3, 5]) (by kernel_rfl) (by simp) (AllReadyH.cons (i := 3) rfl (fun K hK => ?_) (AllReadyH.cons (i := 5) rfl (fun K hK => ?_) AllReadyH.nil))
        · skip
          go_simp
          (go_at_call 10; refine (rwOf m a2 m2 c2 (sgz m x2) _ (wi_of n2)).mono ?_; rintro e W143 ⟨t, g, h, k, rfl, hy, fy, eW143⟩)
          have yp : NA p g h := fy p lp trivial
          refine hK.out _ _ (keepB2 hHeld eW143) (fun hHeld => ?_)
          clear hK K
          have B9 := also B9 eW143
          have n1 := n1.below eW143; have n2 := n2.below eW143; have ya := ya.on eW143; have yb := yb.on eW143; have B1 := also B1 eW143
          have hx := hx.below eW143
          have zp := zp.on eW143; have lp := Nat.lt_of_lt_of_le lp eW143.size
          refine take_call (i := 5) rfl (by kernel_rfl) (fun K hK => ?_)
          go_simp
          refine hK.out _ _ (keepB2 hHeld ((Below.refl _ _).alloc (Nat.le_refl _) _)) (fun hHeld => ?_)
          clear hK K
          have zq := bx_new W143 (.int .i64 0) (.slice none 0 0) 30
          have eW1435 : Below W143.heap.size W143 (W143.alloc (.cells #[.int .i64 0, .slice none 0 0] 30)) := (Below.refl _ _).alloc (Nat.le_refl _) _
          have lq : W143.heap.size < (W143.alloc (.cells #[.int .i64 0, .slice none 0 0] 30)).heap.size := by simp
          have gq : w.heap.size + 1 < W143.heap.size := bx_lt yb; have vq : wr.heap.size ≤ W143.heap.size := B9.size
          have aq : NA W143.heap.size a1 m1 := n1.sl.na (Nat.le_refl _); have bq : NA W143.heap.size a2 m2 := n2.sl.na (Nat.le_refl _)
          have xq : NA W143.heap.size d l := hx.hd.sl.na (Nat.le_refl _)
          have yq : NA W143.heap.size g h := hy.hd.sl.na (Nat.le_refl _)
          have pq : p ≠ W143.heap.size := Nat.ne_of_lt lp
          generalize W143.alloc (.cells #[.int .i64 0, .slice none 0 0] 30) = W1435 at zq eW1435 lq hHeld ⊢
          have B9 := also B9 eW1435
          have n1 := n1.below eW1435; have n2 := n2.below eW1435; have ya := ya.on eW1435; have yb := yb.on eW1435; have B1 := also B1 eW1435
          have hx := hx.below eW1435
          have hy := hy.below eW1435
          have zp := zp.on eW1435; have lp := Nat.lt_of_lt_of_le lp eW1435.size
          generalize W143.heap.size = q at zq lq gq vq aq bq xq yq pq ⊢
          obtain ⟨k0, k1, k2, k3⟩ := zp
          have zp : Bx _ _ _ _ := ⟨k0, k1, k2, k3⟩
          refine take_call (i := 6) rfl (by kernel_rfl) (fun K hK => ?_)
          go_simp
          refine hK.out _ _ ?_ (fun hHeld => ?_)
          · exact keepS2 hHeld gp (by omega) _ _
          clear hK K
          obtain ⟨j0, j1, j2, j3⟩ : Bx ((W1435.setCell ⟨p, 0, none⟩ (.int .i64 s)).setCell ⟨p, 1, none⟩ (.slice d l c)) q (.int .i64 0) (.slice none 0 0) := (zq.put pq).put pq
          refine take_call (i := 7) rfl (by kernel_rfl) (fun K hK => ?_)
          go_simp
          refine hK.out _ _ ?_ (fun hHeld => ?_)
          · exact keepS2 hHeld gq (by omega) _ _
          clear hK K
          refine wpAnyH_done (by kernel_rfl) ?_ _
          exact refTwo n1 n2 hx hy ya yb zp zq B1 B9 vp vq gp gq pq xp xq yp yq ap aq bp bq
        · skip
          go_simp
          refine hK.out _ _ (keepB2 hHeld ((Below.refl _ _).alloc (Nat.le_refl _) _)) (fun hHeld => ?_)
          clear hK K
          have zq := bx_new W14 (.int .i64 0) (.slice none 0 0) 30
          have eW145 : Below W14.heap.size W14 (W14.alloc (.cells #[.int .i64 0, .slice none 0 0] 30)) := (Below.refl _ _).alloc (Nat.le_refl _) _
          have lq : W14.heap.size < (W14.alloc (.cells #[.int .i64 0, .slice none 0 0] 30)).heap.size := by simp
          have gq : w.heap.size + 1 < W14.heap.size := bx_lt yb; have vq : wr.heap.size ≤ W14.heap.size := B9.size
          have aq : NA W14.heap.size a1 m1 := n1.sl.na (Nat.le_refl _); have bq : NA W14.heap.size a2 m2 := n2.sl.na (Nat.le_refl _)
          have xq : NA W14.heap.size d l := hx.hd.sl.na (Nat.le_refl _)
          have pq : p ≠ W14.heap.size := Nat.ne_of_lt lp
          generalize W14.alloc (.cells #[.int .i64 0, .slice none 0 0] 30) = W145 at zq eW145 lq hHeld ⊢
          have B9 := also B9 eW145
          have n1 := n1.below eW145; have n2 := n2.below eW145; have ya := ya.on eW145; have yb := yb.on eW145; have B1 := also B1 eW145
          have hx := hx.below eW145
          have zp := zp.on eW145; have lp := Nat.lt_of_lt_of_le lp eW145.size
          generalize W14.heap.size = q at zq lq gq vq aq bq xq  pq ⊢
          refine take_call (i := 3) rfl (by kernel_rfl) (fun K hK => ?_)
          go_simp
          (go_at_call 10; refine (rwOf m a2 m2 c2 (sgz m x2) _ (wi_of n2)).mono ?_; rintro e W1453 ⟨t, g, h, k, rfl, hy, fy, eW1453⟩)
          have yp : NA p g h := fy p lp trivial
          have yq : NA q g h := fy q lq trivial
          refine hK.out _ _ (keepB2 hHeld eW1453) (fun hHeld => ?_)
          clear hK K
          have B9 := also B9 eW1453
          have n1 := n1.below eW1453; have n2 := n2.below eW1453; have ya := ya.on eW1453; have yb := yb.on eW1453; have B1 := also B1 eW1453
          have hx := hx.below eW1453
          have zp := zp.on eW1453; have lp := Nat.lt_of_lt_of_le lp eW1453.size
          have zq := zq.on eW1453; have lq := Nat.lt_of_lt_of_le lq eW1453.size
          obtain ⟨k0, k1, k2, k3⟩ := zp
          have zp : Bx _ _ _ _ := ⟨k0, k1, k2, k3⟩
          refine take_call (i := 6) rfl (by kernel_rfl) (fun K hK => ?_)
          go_simp
          refine hK.out _ _ ?_ (fun hHeld => ?_)
          · exact keepS2 hHeld gp (by omega) _ _
          clear hK K
          obtain ⟨j0, j1, j2, j3⟩ : Bx ((W1453.setCell ⟨p, 0, none⟩ (.int .i64 s)).setCell ⟨p, 1, none⟩ (.slice d l c)) q (.int .i64 0) (.slice none 0 0) := (zq.put pq).put pq
          refine take_call (i := 7) rfl (by kernel_rfl) (fun K hK => ?_)
          go_simp
          refine hK.out _ _ ?_ (fun hHeld => ?_)
          · exact keepS2 hHeld gq (by omega) _ _
          clear hK K
          refine wpAnyH_done (by kernel_rfl) ?_ _
          exact refTwo n1 n2 hx hy ya yb zp zq B1 B9 vp vq gp gq pq xp xq yp yq ap aq bp bq
      · skip
        go_simp
        refine hK.out _ _ (keepB2 hHeld ((Below.refl _ _).alloc (Nat.le_refl _) _)) (fun hHeld => ?_)
        clear hK K
        have zq := bx_new W1 (.int .i64 0) (.slice none 0 0) 30
        have eW15 : Below W1.heap.size W1 (W1.alloc (.cells #[.int .i64 0, .slice none 0 0] 30)) := (Below.refl _ _).alloc (Nat.le_refl _) _
        have lq : W1.heap.size < (W1.alloc (.cells #[.int .i64 0, .slice none 0 0] 30)).heap.size := by simp
        have gq : w.heap.size + 1 < W1.heap.size := bx_lt yb; have vq : wr.heap.size ≤ W1.heap.size := B9.size
        have aq : NA W1.heap.size a1 m1 := n1.sl.na (Nat.le_refl _); have bq : NA W1.heap.size a2 m2 := n2.sl.na (Nat.le_refl _)
        have xq : NA W1.heap.size d l := hx.hd.sl.na (Nat.le_refl _)
        generalize W1.alloc (.cells #[.int .i64 0, .slice none 0 0] 30) = W15 at zq eW15 lq hHeld ⊢
        have B9 := also B9 eW15
        have n1 := n1.below eW15; have n2 := n2.below eW15; have ya := ya.on eW15; have yb := yb.on eW15; have B1 := also B1 eW15
        have hx := hx.below eW15
        generalize W1.heap.size = q at zq lq gq vq aq bq xq   ⊢
        refine wpAnyH_ready (rs := [3, 4]) (by kernel_rfl) (by simp) (AllReadyH.cons (i := 3) rfl (fun K hK => ?_) (AllReadyH.cons (i := 4) rfl (fun K hK => ?_) AllReadyH.nil))
        · skip
          go_simp
          (go_at_call 10; refine (rwOf m a2 m2 c2 (sgz m x2) _ (wi_of n2)).mono ?_; rintro e W153 ⟨t, g, h, k, rfl, hy, fy, eW153⟩)
          have yq : NA q g h := fy q lq trivial
          refine hK.out _ _ (keepB2 hHeld eW153) (fun hHeld => ?_)
          clear hK K
          have B9 := also B9 eW153
          have n1 := n1.below eW153; have n2 := n2.below eW153; have ya := ya.on eW153; have yb := yb.on eW153; have B1 := also B1 eW153
          have hx := hx.below eW153
          have zq := zq.on eW153; have lq := Nat.lt_of_lt_of_le lq eW153.size
          refine take_call (i := 4) rfl (by kernel_rfl) (fun K hK => ?_)
          go_simp
          refine hK.out _ _ (keepB2 hHeld ((Below.refl _ _).alloc (Nat.le_refl _) _)) (fun hHeld => ?_)
          clear hK K
          have zp := bx_new W153 (.int .i64 0) (.slice none 0 0) 30
          have eW1534 : Below W153.heap.size W153 (W153.alloc (.cells #[.int .i64 0, .slice none 0 0] 30)) := (Below.refl _ _).alloc (Nat.le_refl _) _
          have lp : W153.heap.size < (W153.alloc (.cells #[.int .i64 0, .slice none 0 0] 30)).heap.size := by simp
          have gp : w.heap.size + 1 < W153.heap.size := bx_lt yb; have vp : wr.heap.size ≤ W153.heap.size := B9.size
          have ap : NA W153.heap.size a1 m1 := n1.sl.na (Nat.le_refl _); have bp : NA W153.heap.size a2 m2 := n2.sl.na (Nat.le_refl _)
          have xp : NA W153.heap.size d l := hx.hd.sl.na (Nat.le_refl _)
          have yp : NA W153.heap.size g h := hy.hd.sl.na (Nat.le_refl _)
          have pq : W153.heap.size ≠ q := Nat.ne_of_gt lq
          generalize W153.alloc (.cells #[.int .i64 0, .slice none 0 0] 30) = W1534 at zp eW1534 lp hHeld ⊢
          have B9 := also B9 eW1534
          have n1 := n1.below eW1534; have n2 := n2.below eW1534; have ya := ya.on eW1534; have yb := yb.on eW1534; have B1 := also B1 eW1534
          have hx := hx.below eW1534
          have hy := hy.below eW1534
          have zq := zq.on eW1534; have lq := Nat.lt_of_lt_of_le lq eW1534.size
          generalize W153.heap.size = p at zp lp gp vp ap bp xp yp pq ⊢
          obtain ⟨k0, k1, k2, k3⟩ := zp
          have zp : Bx _ _ _ _ := ⟨k0, k1, k2, k3⟩
          refine take_call (i := 6) rfl (by kernel_rfl) (fun K hK => ?_)
          go_simp
          refine hK.out _ _ ?_ (fun hHeld => ?_)
          · exact keepS2 hHeld gp (by omega) _ _
          clear hK K
          obtain ⟨j0, j1, j2, j3⟩ : Bx ((W1534.setCell ⟨p, 0, none⟩ (.int .i64 s)).setCell ⟨p, 1, none⟩ (.slice d l c)) q (.int .i64 0) (.slice none 0 0) := (zq.put pq).put pq
          refine take_call (i := 7) rfl (by kernel_rfl) (fun K hK => ?_)
          go_simp
          refine hK.out _ _ ?_ (fun hHeld => ?_)
          · exact keepS2 hHeld gq (by omega) _ _
          clear hK K
          refine wpAnyH_done (by kernel_rfl) ?_ _
          exact refTwo n1 n2 hx hy ya yb zp zq B1 B9 vp vq gp gq pq xp xq yp yq ap aq bp bq
        · skip
          go_simp
          refine hK.out _ _ (keepB2 hHeld ((Below.refl _ _).alloc (Nat.le_refl _) _)) (fun hHeld => ?_)
          clear hK K
          have zp := bx_new W15 (.int .i64 0) (.slice none 0 0) 30
          have eW154 : Below W15.heap.size W15 (W15.alloc (.cells #[.int .i64 0, .slice none 0 0] 30)) := (Below.refl _ _).alloc (Nat.le_refl _) _
          have lp : W15.heap.size < (W15.alloc (.cells #[.int .i64 0, .slice none 0 0] 30)).heap.size := by simp
          have gp : w.heap.size + 1 < W15.heap.size := bx_lt yb; have vp : wr.heap.size ≤ W15.heap.size := B9.size
          have ap : NA W15.heap.size a1 m1 := n1.sl.na (Nat.le_refl _); have bp : NA W15.heap.size a2 m2 := n2.sl.na (Nat.le_refl _)
          have xp : NA W15.heap.size d l := hx.hd.sl.na (Nat.le_refl _)
          have pq : W15.heap.size ≠ q := Nat.ne_of_gt lq
          generalize W15.alloc (.cells #[.int .i64 0, .slice none 0 0] 30) = W154 at zp eW154 lp hHeld ⊢
          have B9 := also B9 eW154
          have n1 := n1.below eW154; have n2 := n2.below eW154; have ya := ya.on eW154; have yb := yb.on eW154; have B1 := also B1 eW154
          have hx := hx.below eW154
          have zq := zq.on eW154; have lq := Nat.lt_of_lt_of_le lq eW154.size
          generalize W15.heap.size = p at zp lp gp vp ap bp xp  pq ⊢
          refine take_call (i := 3) rfl (by kernel_rfl) (fun K hK => ?_)
          go_simp
          (go_at_call 10; refine (rwOf m a2 m2 c2 (sgz m x2) _ (wi_of n2)).mono ?_; rintro e W1543 ⟨t, g, h, k, rfl, hy, fy, eW1543⟩)
          have yp : NA p g h := fy p lp trivial
          have yq : NA q g h := fy q lq trivial
          refine hK.out _ _ (keepB2 hHeld eW1543) (fun hHeld => ?_)
          clear hK K
          have B9 := also B9 eW1543
          have n1 := n1.below eW1543; have n2 := n2.below eW1543; have ya := ya.on eW1543; have yb := yb.on eW1543; have B1 := also B1 eW1543
          have hx := hx.below eW1543
          have zp := zp.on eW1543; have lp := Nat.lt_of_lt_of_le lp eW1543.size
          have zq := zq.on eW1543; have lq := Nat.lt_of_lt_of_le lq eW1543.size
          obtain ⟨k0, k1, k2, k3⟩ := zp
          have zp : Bx _ _ _ _ := ⟨k0, k1, k2, k3⟩
          refine take_call (i := 6) rfl (by kernel_rfl) (fun K hK => ?_)
          go_simp
          refine hK.out _ _ ?_ (fun hHeld => ?_)
          · exact keepS2 hHeld gp (by omega) _ _
          clear hK K
          obtain ⟨j0, j1, j2, j3⟩ : Bx ((W1543.setCell ⟨p, 0, none⟩ (.int .i64 s)).setCell ⟨p, 1, none⟩ (.slice d l c)) q (.int .i64 0) (.slice none 0 0) := (zq.put pq).put pq
          refine take_call (i := 7) rfl (by kernel_rfl) (fun K hK => ?_)
          go_simp
          refine hK.out _ _ ?_ (fun hHeld => ?_)
          · exact keepS2 hHeld gq (by omega) _ _
          clear hK K
          refine wpAnyH_done (by kernel_rfl) ?_ _
          exact refTwo n1 n2 hx hy ya yb zp zq B1 B9 vp vq gp gq pq xp xq yp yq ap aq bp bq
    · skip
      go_simp
      refine hK.out _ _ (keepB2 hHeld ((Below.refl _ _).alloc (Nat.le_refl _) _)) (fun hHeld => ?_)
      clear hK K
      have zp := bx_new W (.int .i64 0) (.slice none 0 0) 30
      have eW4 : Below W.heap.size W (W.alloc (.cells #[.int .i64 0, .slice none 0 0] 30)) := (Below.refl _ _).alloc (Nat.le_refl _) _
      have lp : W.heap.size < (W.alloc (.cells #[.int .i64 0, .slice none 0 0] 30)).heap.size := by simp
      have gp : w.heap.size + 1 < W.heap.size := bx_lt yb; have vp : wr.heap.size ≤ W.heap.size := B9.size
      have ap : NA W.heap.size a1 m1 := n1.sl.na (Nat.le_refl _); have bp : NA W.heap.size a2 m2 := n2.sl.na (Nat.le_refl _)
      generalize W.alloc (.cells #[.int .i64 0, .slice none 0 0] 30) = W4 at zp eW4 lp hHeld ⊢
      have B9 := also B9 eW4
      have n1 := n1.below eW4; have n2 := n2.below eW4; have ya := ya.on eW4; have yb := yb.on eW4; have B1 := also B1 eW4
      generalize W.heap.size = p at zp lp gp vp ap bp    ⊢
      refine wpAnyH_ready (rs := [1, 5]) (by kernel_rfl) (by simp) (AllReadyH.cons (i := 1) rfl (fun K hK => ?_) (AllReadyH.cons (i := 5) rfl (fun K hK => ?_) AllReadyH.nil))
      · skip
        go_simp
        (go_at_call 10; refine (rwOf n a1 m1 c1 (sgz n x1) _ (wi_of n1)).mono ?_; rintro e W41 ⟨s, d, l, c, rfl, hx, fx, eW41⟩)
        have xp : NA p d l := fx p lp trivial
        refine hK.out _ _ (keepB2 hHeld eW41) (fun hHeld => ?_)
        clear hK K
        have B9 := also B9 eW41
        have n1 := n1.below eW41; have n2 := n2.below eW41; have ya := ya.on eW41; have yb := yb.on eW41; have B1 := also B1 eW41
        have zp := zp.on eW41; have lp := Nat.lt_of_lt_of_le lp eW41.size
        refine wpAnyH_ready (rs := [3, 5]) (by kernel_rfl) (by simp) (AllReadyH.cons (i := 3) rfl (fun K hK => ?_) (AllReadyH.cons (i := 5) rfl (fun K hK => ?_) AllReadyH.nil))
        · skip
          go_simp
          (go_at_call 10; refine (rwOf m a2 m2 c2 (sgz m x2) _ (wi_of n2)).mono ?_; rintro e W413 ⟨t, g, h, k, rfl, hy, fy, eW413⟩)
          have yp : NA p g h := fy p lp trivial
          refine hK.out _ _ (keepB2 hHeld eW413) (fun hHeld => ?_)
          clear hK K
          have B9 := also B9 eW413
          have n1 := n1.below eW413; have n2 := n2.below eW413; have ya := ya.on eW413; have yb := yb.on eW413; have B1 := also B1 eW413
          have hx := hx.below eW413
          have zp := zp.on eW413; have lp := Nat.lt_of_lt_of_le lp eW413.size
          refine take_call (i := 5) rfl (by kernel_rfl) (fun K hK => ?_)
          go_simp
          refine hK.out _ _ (keepB2 hHeld ((Below.refl _ _).alloc (Nat.le_refl _) _)) (fun hHeld => ?_)
          clear hK K
          have zq := bx_new W413 (.int .i64 0) (.slice none 0 0) 30
          have eW4135 : Below W413.heap.size W413 (W413.alloc (.cells #[.int .i64 0, .slice none 0 0] 30)) := (Below.refl _ _).alloc (Nat.le_refl _) _
          have lq : W413.heap.size < (W413.alloc (.cells #[.int .i64 0, .slice none 0 0] 30)).heap.size := by simp
          have gq : w.heap.size + 1 < W413.heap.size := bx_lt yb; have vq : wr.heap.size ≤ W413.heap.size := B9.size
          have aq : NA W413.heap.size a1 m1 := n1.sl.na (Nat.le_refl _); have bq : NA W413.heap.size a2 m2 := n2.sl.na (Nat.le_refl _)
          have xq : NA W413.heap.size d l := hx.hd.sl.na (Nat.le_refl _)
          have yq : NA W413.heap.size g h := hy.hd.sl.na (Nat.le_refl _)
          have pq : p ≠ W413.heap.size := Nat.ne_of_lt lp
          generalize W413.alloc (.cells #[.int .i64 0, .slice none 0 0] 30) = W4135 at zq eW4135 lq hHeld ⊢
          have B9 := also B9 eW4135
          have n1 := n1.below eW4135; have n2 := n2.below eW4135; have ya := ya.on eW4135; have yb := yb.on eW4135; have B1 := also B1 eW4135
          have hx := hx.below eW4135
          have hy := hy.below eW4135
          have zp := zp.on eW4135; have lp := Nat.lt_of_lt_of_le lp eW4135.size
          generalize W413.heap.size = q at zq lq gq vq aq bq xq yq pq ⊢
          obtain ⟨k0, k1, k2, k3⟩ := zp
          have zp : Bx _ _ _ _ := ⟨k0, k1, k2, k3⟩
          refine take_call (i := 6) rfl (by kernel_rfl) (fun K hK => ?_)
          go_simp
          refine hK.out _ _ ?_ (fun hHeld => ?_)
          · exact keepS2 hHeld gp (by omega) _ _
          clear hK K
          obtain ⟨j0, j1, j2, j3⟩ : Bx ((W4135.setCell ⟨p, 0, none⟩ (.int .i64 s)).setCell ⟨p, 1, none⟩ (.slice d l c)) q (.int .i64 0) (.slice none 0 0) := (zq.put pq).put pq
          refine take_call (i := 7) rfl (by kernel_rfl) (fun K hK => ?_)
          go_simp
          refine hK.out _ _ ?_ (fun hHeld => ?_)
          · exact keepS2 hHeld gq (by omega) _ _
          clear hK K
          refine wpAnyH_done (by kernel_rfl) ?_ _
          exact refTwo n1 n2 hx hy ya yb zp zq B1 B9 vp vq gp gq pq xp xq yp yq ap aq bp bq
        · skip
          go_simp
          refine hK.out _ _ (keepB2 hHeld ((Below.refl _ _).alloc (Nat.le_refl _) _)) (fun hHeld => ?_)
          clear hK K
          have zq := bx_new W41 (.int .i64 0) (.slice none 0 0) 30
          have eW415 : Below W41.heap.size W41 (W41.alloc (.cells #[.int .i64 0, .slice none 0 0] 30)) := (Below.refl _ _).alloc (Nat.le_refl _) _
          have lq : W41.heap.size < (W41.alloc (.cells #[.int .i64 0, .slice none 0 0] 30)).heap.size := by simp
          have gq : w.heap.size + 1 < W41.heap.size := bx_lt yb; have vq : wr.heap.size ≤ W41.heap.size := B9.size
          have aq : NA W41.heap.size a1 m1 := n1.sl.na (Nat.le_refl _); have bq : NA W41.heap.size a2 m2 := n2.sl.na (Nat.le_refl _)
          have xq : NA W41.heap.size d l := hx.hd.sl.na (Nat.le_refl _)
          have pq : p ≠ W41.heap.size := Nat.ne_of_lt lp
          generalize W41.alloc (.cells #[.int .i64 0, .slice none 0 0] 30) = W415 at zq eW415 lq hHeld ⊢
          have B9 := also B9 eW415
          have n1 := n1.below eW415; have n2 := n2.below eW415; have ya := ya.on eW415; have yb := yb.on eW415; have B1 := also B1 eW415
          have hx := hx.below eW415
          have zp := zp.on eW415; have lp := Nat.lt_of_lt_of_le lp eW415.size
          generalize W41.heap.size = q at zq lq gq vq aq bq xq  pq ⊢
          refine take_call (i := 3) rfl (by kernel_rfl) (fun K hK => ?_)
          go_simp
          (go_at_call 10; refine (rwOf m a2 m2 c2 (sgz m x2) _ (wi_of n2)).mono ?_; rintro e W4153 ⟨t, g, h, k, rfl, hy, fy, eW4153⟩)
          have yp : NA p g h := fy p lp trivial
          have yq : NA q g h := fy q lq trivial
          refine hK.out _ _ (keepB2 hHeld eW4153) (fun hHeld => ?_)
          clear hK K
          have B9 := also B9 eW4153
          have n1 := n1.below eW4153; have n2 := n2.below eW4153; have ya := ya.on eW4153; have yb := yb.on eW4153; have B1 := also B1 eW4153
          have hx := hx.below eW4153
          have zp := zp.on eW4153; have lp := Nat.lt_of_lt_of_le lp eW4153.size
          have zq := zq.on eW4153; have lq := Nat.lt_of_lt_of_le lq eW4153.size
          obtain ⟨k0, k1, k2, k3⟩ := zp
          have zp : Bx _ _ _ _ := ⟨k0, k1, k2, k3⟩
          refine take_call (i := 6) rfl (by kernel_rfl) (fun K hK => ?_)
          go_simp
          refine hK.out _ _ ?_ (fun hHeld => ?_)
          · exact keepS2 hHeld gp (by omega) _ _
          clear hK K
          obtain ⟨j0, j1, j2, j3⟩ : Bx ((W4153.setCell ⟨p, 0, none⟩ (.int .i64 s)).setCell ⟨p, 1, none⟩ (.slice d l c)) q (.int .i64 0) (.slice none 0 0) := (zq.put pq).put pq
          refine take_call (i := 7) rfl (by kernel_rfl) (fun K hK => ?_)
          go_simp
          refine hK.out _ _ ?_ (fun hHeld => ?_)
          · exact keepS2 hHeld gq (by omega) _ _
          clear hK K
          refine wpAnyH_done (by kernel_rfl) ?_ _
          exact refTwo n1 n2 hx hy ya yb zp zq B1 B9 vp vq gp gq pq xp xq yp yq ap aq bp bq
      · skip
        go_simp
        refine hK.out _ _ (keepB2 hHeld ((Below.refl _ _).alloc (Nat.le_refl _) _)) (fun hHeld => ?_)
        clear hK K
        have zq := bx_new W4 (.int .i64 0) (.slice none 0 0) 30
        have eW45 : Below W4.heap.size W4 (W4.alloc (.cells #[.int .i64 0, .slice none 0 0] 30)) := (Below.refl _ _).alloc (Nat.le_refl _) _
        have lq : W4.heap.size < (W4.alloc (.cells #[.int .i64 0, .slice none 0 0] 30)).heap.size := by simp
        have gq : w.heap.size + 1 < W4.heap.size := bx_lt yb; have vq : wr.heap.size ≤ W4.heap.size := B9.size
        have aq : NA W4.heap.size a1 m1 := n1.sl.na (Nat.le_refl _); have bq : NA W4.heap.size a2 m2 := n2.sl.na (Nat.le_refl _)
        have pq : p ≠ W4.heap.size := Nat.ne_of_lt lp
        generalize W4.alloc (.cells #[.int .i64 0, .slice none 0 0] 30) = W45 at zq eW45 lq hHeld ⊢
        have B9 := also B9 eW45
        have n1 := n1.below eW45; have n2 := n2.below eW45; have ya := ya.on eW45; have yb := yb.on eW45; have B1 := also B1 eW45
        have zp := zp.on eW45; have lp := Nat.lt_of_lt_of_le lp eW45.size
        generalize W4.heap.size = q at zq lq gq vq aq bq   pq ⊢
        refine take_call (i := 1) rfl (by kernel_rfl) (fun K hK => ?_)
        go_simp
        (go_at_call 10; refine (rwOf n a1 m1 c1 (sgz n x1) _ (wi_of n1)).mono ?_; rintro e W451 ⟨s, d, l, c, rfl, hx, fx, eW451⟩)
        have xp : NA p d l := fx p lp trivial
        have xq : NA q d l := fx q lq trivial
        refine hK.out _ _ (keepB2 hHeld eW451) (fun hHeld => ?_)
        clear hK K
        have B9 := also B9 eW451
        have n1 := n1.below eW451; have n2 := n2.below eW451; have ya := ya.on eW451; have yb := yb.on eW451; have B1 := also B1 eW451
        have zp := zp.on eW451; have lp := Nat.lt_of_lt_of_le lp eW451.size
        have zq := zq.on eW451; have lq := Nat.lt_of_lt_of_le lq eW451.size
        refine take_call (i := 3) rfl (by kernel_rfl) (fun K hK => ?_)
        go_simp
        (go_at_call 10; refine (rwOf m a2 m2 c2 (sgz m x2) _ (wi_of n2)).mono ?_; rintro e W4513 ⟨t, g, h, k, rfl, hy, fy, eW4513⟩)
        have yp : NA p g h := fy p lp trivial
        have yq : NA q g h := fy q lq trivial
        refine hK.out _ _ (keepB2 hHeld eW4513) (fun hHeld => ?_)
        clear hK K
        have B9 := also B9 eW4513
        have n1 := n1.below eW4513; have n2 := n2.below eW4513; have ya := ya.on eW4513; have yb := yb.on eW4513; have B1 := also B1 eW4513
        have hx := hx.below eW4513
        have zp := zp.on eW4513; have lp := Nat.lt_of_lt_of_le lp eW4513.size
        have zq := zq.on eW4513; have lq := Nat.lt_of_lt_of_le lq eW4513.size
        obtain ⟨k0, k1, k2, k3⟩ := zp
        have zp : Bx _ _ _ _ := ⟨k0, k1, k2, k3⟩
        refine take_call (i := 6) rfl (by kernel_rfl) (fun K hK => ?_)
        go_simp
        refine hK.out _ _ ?_ (fun hHeld => ?_)
        · exact keepS2 hHeld gp (by omega) _ _
        clear hK K
        obtain ⟨j0, j1, j2, j3⟩ : Bx ((W4513.setCell ⟨p, 0, none⟩ (.int .i64 s)).setCell ⟨p, 1, none⟩ (.slice d l c)) q (.int .i64 0) (.slice none 0 0) := (zq.put pq).put pq
        refine take_call (i := 7) rfl (by kernel_rfl) (fun K hK => ?_)
        go_simp
        refine hK.out _ _ ?_ (fun hHeld => ?_)
        · exact keepS2 hHeld gq (by omega) _ _
        clear hK K
        refine wpAnyH_done (by kernel_rfl) ?_ _
        exact refTwo n1 n2 hx hy ya yb zp zq B1 B9 vp vq gp gq pq xp xq yp yq ap aq bp bq
    · skip
      go_simp
      refine hK.out _ _ (keepB2 hHeld ((Below.refl _ _).alloc (Nat.le_refl _) _)) (fun hHeld => ?_)
      clear hK K
      have zq := bx_new W (.int .i64 0) (.slice none 0 0) 30
      have eW5 : Below W.heap.size W (W.alloc (.cells #[.int .i64 0, .slice none 0 0] 30)) := (Below.refl _ _).alloc (Nat.le_refl _) _
      have lq : W.heap.size < (W.alloc (.cells #[.int .i64 0, .slice none 0 0] 30)).heap.size := by simp
      have gq : w.heap.size + 1 < W.heap.size := bx_lt yb; have vq : wr.heap.size ≤ W.heap.size := B9.size
      have aq : NA W.heap.size a1 m1 := n1.sl.na (Nat.le_refl _); have bq : NA W.heap.size a2 m2 := n2.sl.na (Nat.le_refl _)
      generalize W.alloc (.cells #[.int .i64 0, .slice none 0 0] 30) = W5 at zq eW5 lq hHeld ⊢
      have B9 := also B9 eW5
      have n1 := n1.below eW5; have n2 := n2.below eW5; have ya := ya.on eW5; have yb := yb.on eW5; have B1 := also B1 eW5
      generalize W.heap.size = q at zq lq gq vq aq bq    ⊢
      refine wpAnyH_ready (rs := [1, 4]) (by kernel_rfl) (by simp) (AllReadyH.cons (i := 1) rfl (fun K hK => ?_) (AllReadyH.cons (i := 4) rfl (fun K hK => ?_) AllReadyH.nil))
      · skip
        go_simp
        (go_at_call 10; refine (rwOf n a1 m1 c1 (sgz n x1) _ (wi_of n1)).mono ?_; rintro e W51 ⟨s, d, l, c, rfl, hx, fx, eW51⟩)
        have xq : NA q d l := fx q lq trivial
        refine hK.out _ _ (keepB2 hHeld eW51) (fun hHeld => ?_)
        clear hK K
        have B9 := also B9 eW51
        have n1 := n1.below eW51; have n2 := n2.below eW51; have ya := ya.on eW51; have yb := yb.on eW51; have B1 := also B1 eW51
        have zq := zq.on eW51; have lq := Nat.lt_of_lt_of_le lq eW51.size
        refine wpAnyH_ready (rs := [3, 4]) (by kernel_rfl) (by simp) (AllReadyH.cons (i := 3) rfl (fun K hK => ?_) (AllReadyH.cons (i := 4) rfl (fun K hK => ?_) AllReadyH.nil))
        · skip
          go_simp
          (go_at_call 10; refine (rwOf m a2 m2 c2 (sgz m x2) _ (wi_of n2)).mono ?_; rintro e W513 ⟨t, g, h, k, rfl, hy, fy, eW513⟩)
          have yq : NA q g h := fy q lq trivial
          refine hK.out _ _ (keepB2 hHeld eW513) (fun hHeld => ?_)
          clear hK K
          have B9 := also B9 eW513
          have n1 := n1.below eW513; have n2 := n2.below eW513; have ya := ya.on eW513; have yb := yb.on eW513; have B1 := also B1 eW513
          have hx := hx.below eW513
          have zq := zq.on eW513; have lq := Nat.lt_of_lt_of_le lq eW513.size
          refine take_call (i := 4) rfl (by kernel_rfl) (fun K hK => ?_)
          go_simp
          refine hK.out _ _ (keepB2 hHeld ((Below.refl _ _).alloc (Nat.le_refl _) _)) (fun hHeld => ?_)
          clear hK K
          have zp := bx_new W513 (.int .i64 0) (.slice none 0 0) 30
          have eW5134 : Below W513.heap.size W513 (W513.alloc (.cells #[.int .i64 0, .slice none 0 0] 30)) := (Below.refl _ _).alloc (Nat.le_refl _) _
          have lp : W513.heap.size < (W513.alloc (.cells #[.int .i64 0, .slice none 0 0] 30)).heap.size := by simp
          have gp : w.heap.size + 1 < W513.heap.size := bx_lt yb; have vp : wr.heap.size ≤ W513.heap.size := B9.size
          have ap : NA W513.heap.size a1 m1 := n1.sl.na (Nat.le_refl _); have bp : NA W513.heap.size a2 m2 := n2.sl.na (Nat.le_refl _)
          have xp : NA W513.heap.size d l := hx.hd.sl.na (Nat.le_refl _)
          have yp : NA W513.heap.size g h := hy.hd.sl.na (Nat.le_refl _)
          have pq : W513.heap.size ≠ q := Nat.ne_of_gt lq
          generalize W513.alloc (.cells #[.int .i64 0, .slice none 0 0] 30) = W5134 at zp eW5134 lp hHeld ⊢
          have B9 := also B9 eW5134
          have n1 := n1.below eW5134; have n2 := n2.below eW5134; have ya := ya.on eW5134; have yb := yb.on eW5134; have B1 := also B1 eW5134
          have hx := hx.below eW5134
          have hy := hy.below eW5134
          have zq := zq.on eW5134; have lq := Nat.lt_of_lt_of_le lq eW5134.size
          generalize W513.heap.size = p at zp lp gp vp ap bp xp yp pq ⊢
          obtain ⟨k0, k1, k2, k3⟩ := zp
          have zp : Bx _ _ _ _ := ⟨k0, k1, k2, k3⟩
          refine take_call (i := 6) rfl (by kernel_rfl) (fun K hK => ?_)
          go_simp
          refine hK.out _ _ ?_ (fun hHeld => ?_)
          · exact keepS2 hHeld gp (by omega) _ _
          clear hK K
          obtain ⟨j0, j1, j2, j3⟩ : Bx ((W5134.setCell ⟨p, 0, none⟩ (.int .i64 s)).setCell ⟨p, 1, none⟩ (.slice d l c)) q (.int .i64 0) (.slice none 0 0) := (zq.put pq).put pq
          refine take_call (i := 7) rfl (by kernel_rfl) (fun K hK => ?_)
          go_simp
          refine hK.out _ _ ?_ (fun hHeld => ?_)
          · exact keepS2 hHeld gq (by omega) _ _
          clear hK K
          refine wpAnyH_done (by kernel_rfl) ?_ _
          exact refTwo n1 n2 hx hy ya yb zp zq B1 B9 vp vq gp gq pq xp xq yp yq ap aq bp bq
        · skip
          go_simp
          refine hK.out _ _ (keepB2 hHeld ((Below.refl _ _).alloc (Nat.le_refl _) _)) (fun hHeld => ?_)
          clear hK K
          have zp := bx_new W51 (.int .i64 0) (.slice none 0 0) 30
          have eW514 : Below W51.heap.size W51 (W51.alloc (.cells #[.int .i64 0, .slice none 0 0] 30)) := (Below.refl _ _).alloc (Nat.le_refl _) _
          have lp : W51.heap.size < (W51.alloc (.cells #[.int .i64 0, .slice none 0 0] 30)).heap.size := by simp
          have gp : w.heap.size + 1 < W51.heap.size := bx_lt yb; have vp : wr.heap.size ≤ W51.heap.size := B9.size
          have ap : NA W51.heap.size a1 m1 := n1.sl.na (Nat.le_refl _); have bp : NA W51.heap.size a2 m2 := n2.sl.na (Nat.le_refl _)
          have xp : NA W51.heap.size d l := hx.hd.sl.na (Nat.le_refl _)
          have pq : W51.heap.size ≠ q := Nat.ne_of_gt lq
          generalize W51.alloc (.cells #[.int .i64 0, .slice none 0 0] 30) = W514 at zp eW514 lp hHeld ⊢
          have B9 := also B9 eW514
          have n1 := n1.below eW514; have n2 := n2.below eW514; have ya := ya.on eW514; have yb := yb.on eW514; have B1 := also B1 eW514
          have hx := hx.below eW514
          have zq := zq.on eW514; have lq := Nat.lt_of_lt_of_le lq eW514.size
          generalize W51.heap.size = p at zp lp gp vp ap bp xp  pq ⊢
          refine take_call (i := 3) rfl (by kernel_rfl) (fun K hK => ?_)
          go_simp
          (go_at_call 10; refine (rwOf m a2 m2 c2 (sgz m x2) _ (wi_of n2)).mono ?_; rintro e W5143 ⟨t, g, h, k, rfl, hy, fy, eW5143⟩)
          have yp : NA p g h := fy p lp trivial
          have yq : NA q g h := fy q lq trivial
          refine hK.out _ _ (keepB2 hHeld eW5143) (fun hHeld => ?_)
          clear hK K
          have B9 := also B9 eW5143
          have n1 := n1.below eW5143; have n2 := n2.below eW5143; have ya := ya.on eW5143; have yb := yb.on eW5143; have B1 := also B1 eW5143
          have hx := hx.below eW5143
          have zp := zp.on eW5143; have lp := Nat.lt_of_lt_of_le lp eW5143.size
          have zq := zq.on eW5143; have lq := Nat.lt_of_lt_of_le lq eW5143.size
          obtain ⟨k0, k1, k2, k3⟩ := zp
          have zp : Bx _ _ _ _ := ⟨k0, k1, k2, k3⟩
          refine take_call (i := 6) rfl (by kernel_rfl) (fun K hK => ?_)
          go_simp
          refine hK.out _ _ ?_ (fun hHeld => ?_)
          · exact keepS2 hHeld gp (by omega) _ _
          clear hK K
          obtain ⟨j0, j1, j2, j3⟩ : Bx ((W5143.setCell ⟨p, 0, none⟩ (.int .i64 s)).setCell ⟨p, 1, none⟩ (.slice d l c)) q (.int .i64 0) (.slice none 0 0) := (zq.put pq).put pq
          refine take_call (i := 7) rfl (by kernel_rfl) (fun K hK => ?_)
          go_simp
          refine hK.out _ _ ?_ (fun hHeld => ?_)
          · exact keepS2 hHeld gq (by omega) _ _
          clear hK K
          refine wpAnyH_done (by kernel_rfl) ?_ _
          exact refTwo n1 n2 hx hy ya yb zp zq B1 B9 vp vq gp gq pq xp xq yp yq ap aq bp bq
      · skip
        go_simp
        refine hK.out _ _ (keepB2 hHeld ((Below.refl _ _).alloc (Nat.le_refl _) _)) (fun hHeld => ?_)
        clear hK K
        have zp := bx_new W5 (.int .i64 0) (.slice none 0 0) 30
        have eW54 : Below W5.heap.size W5 (W5.alloc (.cells #[.int .i64 0, .slice none 0 0] 30)) := (Below.refl _ _).alloc (Nat.le_refl _) _
        have lp : W5.heap.size < (W5.alloc (.cells #[.int .i64 0, .slice none 0 0] 30)).heap.size := by simp
        have gp : w.heap.size + 1 < W5.heap.size := bx_lt yb; have vp : wr.heap.size ≤ W5.heap.size := B9.size
        have ap : NA W5.heap.size a1 m1 := n1.sl.na (Nat.le_refl _); have bp : NA W5.heap.size a2 m2 := n2.sl.na (Nat.le_refl _)
        have pq : W5.heap.size ≠ q := Nat.ne_of_gt lq
        generalize W5.alloc (.cells #[.int .i64 0, .slice none 0 0] 30) = W54 at zp eW54 lp hHeld ⊢
        have B9 := also B9 eW54
        have n1 := n1.below eW54; have n2 := n2.below eW54; have ya := ya.on eW54; have yb := yb.on eW54; have B1 := also B1 eW54
        have zq := zq.on eW54; have lq := Nat.lt_of_lt_of_le lq eW54.size
        generalize W5.heap.size = p at zp lp gp vp ap bp   pq ⊢
        refine take_call (i := 1) rfl (by kernel_rfl) (fun K hK => ?_)
        go_simp
        (go_at_call 10; refine (rwOf n a1 m1 c1 (sgz n x1) _ (wi_of n1)).mono ?_; rintro e W541 ⟨s, d, l, c, rfl, hx, fx, eW541⟩)
        have xp : NA p d l := fx p lp trivial
        have xq : NA q d l := fx q lq trivial
        refine hK.out _ _ (keepB2 hHeld eW541) (fun hHeld => ?_)
        clear hK K
        have B9 := also B9 eW541
        have n1 := n1.below eW541; have n2 := n2.below eW541; have ya := ya.on eW541; have yb := yb.on eW541; have B1 := also B1 eW541
        have zp := zp.on eW541; have lp := Nat.lt_of_lt_of_le lp eW541.size
        have zq := zq.on eW541; have lq := Nat.lt_of_lt_of_le lq eW541.size
        refine take_call (i := 3) rfl (by kernel_rfl) (fun K hK => ?_)
        go_simp
        (go_at_call 10; refine (rwOf m a2 m2 c2 (sgz m x2) _ (wi_of n2)).mono ?_; rintro e W5413 ⟨t, g, h, k, rfl, hy, fy, eW5413⟩)
        have yp : NA p g h := fy p lp trivial
        have yq : NA q g h := fy q lq trivial
        refine hK.out _ _ (keepB2 hHeld eW5413) (fun hHeld => ?_)
        clear hK K
        have B9 := also B9 eW5413
        have n1 := n1.below eW5413; have n2 := n2.below eW5413; have ya := ya.on eW5413; have yb := yb.on eW5413; have B1 := also B1 eW5413
        have hx := hx.below eW5413
        have zp := zp.on eW5413; have lp := Nat.lt_of_lt_of_le lp eW5413.size
        have zq := zq.on eW5413; have lq := Nat.lt_of_lt_of_le lq eW5413.size
        obtain ⟨k0, k1, k2, k3⟩ := zp
        have zp : Bx _ _ _ _ := ⟨k0, k1, k2, k3⟩
        refine take_call (i := 6) rfl (by kernel_rfl) (fun K hK => ?_)
        go_simp
        refine hK.out _ _ ?_ (fun hHeld => ?_)
        · exact keepS2 hHeld gp (by omega) _ _
        clear hK K
        obtain ⟨j0, j1, j2, j3⟩ : Bx ((W5413.setCell ⟨p, 0, none⟩ (.int .i64 s)).setCell ⟨p, 1, none⟩ (.slice d l c)) q (.int .i64 0) (.slice none 0 0) := (zq.put pq).put pq
        refine take_call (i := 7) rfl (by kernel_rfl) (fun K hK => ?_)
        go_simp
        refine hK.out _ _ ?_ (fun hHeld => ?_)
        · exact keepS2 hHeld gq (by omega) _ _
        clear hK K
        refine wpAnyH_done (by kernel_rfl) ?_ _
        exact refTwo n1 n2 hx hy ya yb zp zq B1 B9 vp vq gp gq pq xp xq yp yq ap aq bp bq
  rintro e act wr2 ⟨rfl, p, q, s, d, l, c, t, g, h, k, rfl, n1, n2, hx, hy, ya, yb, yp, yq, B1, B9⟩
  dsimp only
  have fX0 : (sgz n x1).natAbs < 4294967296 ^ 16 := sgz_lt n1.lt hm1
  have fY0 : (sgz m x2).natAbs < 4294967296 ^ 16 := sgz_lt n2.lt hm2
  have wa := wi_of (n := n) n1
  have wb := wi_of (n := m) n2
  obtain ⟨X, hX⟩ : ∃ X, X = sgz n x1 := ⟨_, rfl⟩
  obtain ⟨Y, hY⟩ : ∃ Y, Y = sgz m x2 := ⟨_, rfl⟩
  rw [← hX] at fX0 wa hx
  rw [← hY] at fY0 wb hy
  have FX : hf.nlen X.natAbs ≤ 1000000 := hfew fX0 (by decide)
  have FY : hf.nlen Y.natAbs ≤ 1000000 := hfew fY0 (by decide)
  clear hX hY
  obtain ⟨vv, hvv⟩ : ∃ vv, vv = smV X := ⟨_, rfl⟩
  obtain ⟨ok, hok⟩ : ∃ ok, ok = smOk X := ⟨_, rfl⟩
  obtain ⟨gg, hgg⟩ : ∃ gg, gg = (X - Y).sign := ⟨_, rfl⟩
  have HV : Hid _ := hvv
  have HO : Hid _ := hok
  have HG : Hid _ := hgg
  have HSX : Hid _ := hx.sg
  clear n1 n2 hvv hok hgg
  obtain ⟨k0, k1, k2, k3⟩ := ya
  have ya : Bx _ _ _ _ := ⟨k0, k1, k2, k3⟩
  go_wp2_with (go_at_call 26; fail)
  refine (wSmall n a1 m1 c1 X _ wa HV.out HO.out).mono ?_
  rintro e w10 ⟨rfl, b10⟩
  obtain ⟨j0, j1, j2, j3⟩ := yp.on b10
  go_wp2_with (go_at_call 27; fail)
  refine (rwSmall s d l c X _ (hx.below b10) FX HV.out HO.out).mono ?_
  rintro e w11 ⟨rfl, b11⟩
  replace ya := (ya.on b10).on b11
  replace yb := (yb.on b10).on b11
  replace yp := (yp.on b10).on b11
  replace yq := (yq.on b10).on b11
  replace wa := (wa.below b10).below b11
  replace wb := (wb.below b10).below b11
  replace hx := (hx.below b10).below b11
  replace hy := (hy.below b10).below b11
  replace B1 := also (also B1 b10) b11
  clear k0 k1 k2 k3 j0 j1 j2 j3 b10 b11 B9
  go_wp2
  refine wp_region_held_drew (S := (fun w' => w'.cell? ⟨w.heap.size, 0, none⟩ = some (.bool n) ∧ w'.cell? ⟨w.heap.size, 1, none⟩ = some (.slice a1 m1 c1) ∧ w'.cell? ⟨w.heap.size + 1, 0, none⟩ = some (.bool m) ∧ w'.cell? ⟨w.heap.size + 1, 1, none⟩ = some (.slice a2 m2 c2) ∧ w'.cell? ⟨p, 0, none⟩ = some (.int .i64 s) ∧ w'.cell? ⟨p, 1, none⟩ = some (.slice d l c) ∧ w'.cell? ⟨q, 0, none⟩ = some (.int .i64 t) ∧ w'.cell? ⟨q, 1, none⟩ = some (.slice g h k) ∧ Below w11.heap.size w11 w')) (by kernel_rfl) ?_ (fun hHeld => ?_)
  · first | exact keepC4 hHeld bb | exact ⟨ya.c0, ya.c1, yb.c0, yb.c1, yp.c0, yp.c1, yq.c0, yq.c1, (Below.refl _ _).drew⟩
  refine take_yes (i := 0) (v := ?vz0) rfl (by kernel_rfl) (by kernel_rfl) (by kernel_rfl) (fun _ _ _ h => h) (by rfl) (by assumption) ?hyz0 ?restz0
  case hyz0 => (intro w hSw; (try dsimp only at hSw); first | (go_simp; done) | (go_simp; with_reducible rfl))
  simp only [Act.put, List.setIfInBounds_toArray, List.set_cons_zero, List.set_cons_succ]
  refine take_yes (i := 1) (v := ?vz1) rfl (by kernel_rfl) (by kernel_rfl) (by kernel_rfl) (fun _ _ _ h => h) (by rfl) (by assumption) ?hyz1 ?restz1
  case hyz1 => (intro w hSw; (try dsimp only at hSw); first | (go_simp; done) | (go_simp; with_reducible rfl))
  simp only [Act.put, List.setIfInBounds_toArray, List.set_cons_zero, List.set_cons_succ]
  refine take_yes (i := 3) (v := ?vz3) rfl (by kernel_rfl) (by kernel_rfl) (by kernel_rfl) (fun _ _ _ h => h) (by rfl) (by assumption) ?hyz3 ?restz3
  case hyz3 => (intro w hSw; (try dsimp only at hSw); first | (go_simp; done) | (go_simp; with_reducible rfl))
  simp only [Act.put, List.setIfInBounds_toArray, List.set_cons_zero, List.set_cons_succ]
  refine take_yes (i := 4) (v := ?vz4) rfl (by kernel_rfl) (by kernel_rfl) (by kernel_rfl) (fun _ _ _ h => h) (by rfl) (by assumption) ?hyz4 ?restz4
  case hyz4 => (intro w hSw; (try dsimp only at hSw); first | (go_simp; done) | (go_simp; with_reducible rfl))
  simp only [Act.put, List.setIfInBounds_toArray, List.set_cons_zero, List.set_cons_succ]
  refine take_call (i := 2) rfl (by kernel_rfl) (fun K hK => ?_)
  go_simp
  (go_at_call 28; refine (wCmp n m a1 a2 m1 m2 c1 c2 X Y _ (wa.below hHeld.2.2.2.2.2.2.2.2) (wb.below hHeld.2.2.2.2.2.2.2.2) HG.out).mono ?_; rintro e w20 ⟨rfl, bb⟩)
  refine hK.out _ _ ?_ (fun hHeld => ?_)
  · first | exact keepC4 hHeld bb | exact ⟨ya.c0, ya.c1, yb.c0, yb.c1, yp.c0, yp.c1, yq.c0, yq.c1, (Below.refl _ _).drew⟩
  clear hK K
  refine take_call (i := 5) rfl (by kernel_rfl) (fun K hK => ?_)
  go_simp
  (go_at_call 29; refine (rwCmp s t d g l c h k X Y _ (hx.below hHeld.2.2.2.2.2.2.2.2) (hy.below hHeld.2.2.2.2.2.2.2.2) FX FY HG.out).mono ?_; rintro e w21 ⟨rfl, bb⟩)
  refine hK.out _ _ ?_ (fun hHeld => ?_)
  · first | exact keepC4 hHeld bb | exact ⟨ya.c0, ya.c1, yb.c0, yb.c1, yp.c0, yp.c1, yq.c0, yq.c1, (Below.refl _ _).drew⟩
  clear hK K
  refine take_yes (i := 6) (v := ?vz6) rfl (by kernel_rfl) (by kernel_rfl) (by kernel_rfl) (fun _ _ _ h => h) (by rfl) (by assumption) ?hyz6 ?restz6
  case hyz6 => (intro w hSw; (try dsimp only at hSw); first | (go_simp; done) | (go_simp; with_reducible rfl))
  simp only [Act.put, List.setIfInBounds_toArray, List.set_cons_zero, List.set_cons_succ]
  refine take_yes (i := 7) (v := ?vz7) rfl (by kernel_rfl) (by kernel_rfl) (by kernel_rfl) (fun _ _ _ h => h) (by rfl) (by assumption) ?hyz7 ?restz7
  case hyz7 => (intro w hSw; (try dsimp only at hSw); first | (go_simp; done) | (go_simp; with_reducible rfl))
  simp only [Act.put, List.setIfInBounds_toArray, List.set_cons_zero, List.set_cons_succ]
  refine take_yes (i := 8) (v := ?vz8) rfl (by kernel_rfl) (by kernel_rfl) (by kernel_rfl) (fun _ _ _ h => h) (by rfl) (by assumption) ?hyz8 ?restz8
  case hyz8 => (intro w hSw; (try dsimp only at hSw); first | (go_simp; done) | (go_simp; with_reducible rfl))
  simp only [Act.put, List.setIfInBounds_toArray, List.set_cons_zero, List.set_cons_succ]
  refine take_yes (i := 10) (v := ?vz10) rfl (by kernel_rfl) (by kernel_rfl) (by kernel_rfl) (fun _ _ _ h => h) (by rfl) (by assumption) ?hyz10 ?restz10
  case hyz10 => (intro w hSw; (try dsimp only at hSw); first | (go_simp; done) | (go_simp; with_reducible rfl))
  simp only [Act.put, List.setIfInBounds_toArray, List.set_cons_zero, List.set_cons_succ]
  refine take_yes (i := 11) (v := ?vz11) rfl (by kernel_rfl) (by kernel_rfl) (by kernel_rfl) (fun _ _ _ h => h) (by rfl) (by assumption) ?hyz11 ?restz11
  case hyz11 => (intro w hSw; (try dsimp only at hSw); first | (go_simp; done) | (go_simp; with_reducible rfl))
  simp only [Act.put, List.setIfInBounds_toArray, List.set_cons_zero, List.set_cons_succ]
  refine take_call (i := 9) rfl (by kernel_rfl) (fun K hK => ?_)
  go_simp
  (go_at_call 24; refine (wSign n a1 m1 c1 X _ (wa.below hHeld.2.2.2.2.2.2.2.2) HSX.out).mono ?_; rintro e w22 ⟨rfl, bb⟩)
  refine hK.out _ _ ?_ (fun hHeld => ?_)
  · first | exact keepC4 hHeld bb | exact ⟨ya.c0, ya.c1, yb.c0, yb.c1, yp.c0, yp.c1, yq.c0, yq.c1, (Below.refl _ _).drew⟩
  clear hK K
  refine take_yes (i := 12) (v := ?vz12) rfl (by kernel_rfl) (by kernel_rfl) (by kernel_rfl) (fun _ _ _ h => h) (by rfl) (by assumption) ?hyz12 ?restz12
  case hyz12 => (intro w hSw; (try dsimp only at hSw); first | (go_simp; done) | (go_simp; with_reducible rfl))
  simp only [Act.put, List.setIfInBounds_toArray, List.set_cons_zero, List.set_cons_succ]
  refine take_yes (i := 13) (v := ?vz13) rfl (by kernel_rfl) (by kernel_rfl) (by kernel_rfl) (fun _ _ _ h => h) (by rfl) (by assumption) ?hyz13 ?restz13
  case hyz13 => (intro w hSw; (try dsimp only at hSw); first | (go_simp; done) | (go_simp; with_reducible rfl))
  simp only [Act.put, List.setIfInBounds_toArray, List.set_cons_zero, List.set_cons_succ]
  refine take_yes (i := 14) (v := ?vz14) rfl (by kernel_rfl) (by kernel_rfl) (by kernel_rfl) (fun _ _ _ h => h) (by rfl) (by assumption) ?hyz14 ?restz14
  case hyz14 => (intro w hSw; (try dsimp only at hSw); first | (go_simp; done) | (go_simp; with_reducible rfl))
  simp only [Act.put, List.setIfInBounds_toArray, List.set_cons_zero, List.set_cons_succ]
  refine take_yes (i := 15) (v := ?vz15) rfl (by kernel_rfl) (by kernel_rfl) (by kernel_rfl) (fun _ _ _ h => h) (by rfl) (by assumption) ?hyz15 ?restz15
  case hyz15 => (intro w hSw; (try dsimp only at hSw); first | (go_simp; done) | (go_simp; with_reducible rfl))
  simp only [Act.put, List.setIfInBounds_toArray, List.set_cons_zero, List.set_cons_succ]
  refine take_yes (i := 16) (v := ?vz16) rfl (by kernel_rfl) (by kernel_rfl) (by kernel_rfl) (fun _ _ _ h => h) (by rfl) (by assumption) ?hyz16 ?restz16
  case hyz16 => (intro w hSw; (try dsimp only at hSw); first | (go_simp; done) | (go_simp; with_reducible rfl))
  simp only [Act.put, List.setIfInBounds_toArray, List.set_cons_zero, List.set_cons_succ]
  refine take_yes (i := 17) (v := ?vz17) rfl (by kernel_rfl) (by kernel_rfl) (by kernel_rfl) (fun _ _ _ h => h) (by rfl) (by assumption) ?hyz17 ?restz17
  case hyz17 => (intro w hSw; (try dsimp only at hSw); first | (go_simp; done) | (go_simp; with_reducible rfl))
  simp only [Act.put, List.setIfInBounds_toArray, List.set_cons_zero, List.set_cons_succ]
  refine take_yes (i := 18) (v := ?vz18) rfl (by kernel_rfl) (by kernel_rfl) (by kernel_rfl) (fun _ _ _ h => h) (by rfl) (by assumption) ?hyz18 ?restz18
  case hyz18 => (intro w hSw; (try dsimp only at hSw); first | (go_simp; done) | (go_simp; with_reducible rfl))
  simp only [Act.put, List.setIfInBounds_toArray, List.set_cons_zero, List.set_cons_succ]
  refine take_yes (i := 19) (v := ?vz19) rfl (by kernel_rfl) (by kernel_rfl) (by kernel_rfl) (fun _ _ _ h => h) (by rfl) (by assumption) ?hyz19 ?restz19
  case hyz19 => (intro w hSw; (try dsimp only at hSw); first | (go_simp; done) | (go_simp; with_reducible rfl))
  simp only [Act.put, List.setIfInBounds_toArray, List.set_cons_zero, List.set_cons_succ]
  refine take_yes (i := 20) (v := ?vz20) rfl (by kernel_rfl) (by kernel_rfl) (by kernel_rfl) (fun _ _ _ h => h) (by rfl) (by assumption) ?hyz20 ?restz20
  case hyz20 => (intro w hSw; (try dsimp only at hSw); first | (go_simp; done) | (go_simp; with_reducible rfl))
  simp only [Act.put, List.setIfInBounds_toArray, List.set_cons_zero, List.set_cons_succ]
  refine take_yes (i := 21) (v := ?vz21) rfl (by kernel_rfl) (by kernel_rfl) (by kernel_rfl) (fun _ _ _ h => h) (by rfl) (by assumption) ?hyz21 ?restz21
  case hyz21 => (intro w hSw; (try dsimp only at hSw); first | (go_simp; done) | (go_simp; with_reducible rfl))
  simp only [Act.put, List.setIfInBounds_toArray, List.set_cons_zero, List.set_cons_succ]
  refine take_yes (i := 22) (v := ?vz22) rfl (by kernel_rfl) (by kernel_rfl) (by kernel_rfl) (fun _ _ _ h => h) (by rfl) (by assumption) ?hyz22 ?restz22
  case hyz22 => (intro w hSw; (try dsimp only at hSw); first | (go_simp; done) | (go_simp; with_reducible rfl))
  simp only [Act.put, List.setIfInBounds_toArray, List.set_cons_zero, List.set_cons_succ]
  refine take_yes (i := 23) (v := ?vz23) rfl (by kernel_rfl) (by kernel_rfl) (by kernel_rfl) (fun _ _ _ h => h) (by rfl) (by assumption) ?hyz23 ?restz23
  case hyz23 => (intro w hSw; (try dsimp only at hSw); first | (go_simp; done) | (go_simp; with_reducible rfl))
  simp only [Act.put, List.setIfInBounds_toArray, List.set_cons_zero, List.set_cons_succ]
  refine take_yes (i := 24) (v := ?vz24) rfl (by kernel_rfl) (by kernel_rfl) (by kernel_rfl) (fun _ _ _ h => h) (by rfl) (by assumption) ?hyz24 ?restz24
  case hyz24 => (intro w hSw; (try dsimp only at hSw); first | (go_simp; done) | (go_simp; with_reducible rfl))
  simp only [Act.put, List.setIfInBounds_toArray, List.set_cons_zero, List.set_cons_succ]
  refine take_call (i := 25) rfl (by kernel_rfl) (fun K hK => ?_)
  go_simp
  (go_at_call 21; refine (lives4_any _).mono ?_; rintro e w23 ⟨rfl, bb⟩)
  refine hK.out _ _ ?_ (fun hHeld => ?_)
  · first | exact keepC4 hHeld bb | exact ⟨ya.c0, ya.c1, yb.c0, yb.c1, yp.c0, yp.c1, yq.c0, yq.c1, (Below.refl _ _).drew⟩
  clear hK K
  refine take_yes (i := 26) (v := ?vz26) rfl (by kernel_rfl) (by kernel_rfl) (by kernel_rfl) (fun _ _ _ h => h) (by rfl) (by assumption) ?hyz26 ?restz26
  case hyz26 => (intro w hSw; (try dsimp only at hSw); first | (go_simp; done) | (go_simp; with_reducible rfl))
  simp only [Act.put, List.setIfInBounds_toArray, List.set_cons_zero, List.set_cons_succ]
  refine take_yes (i := 27) (v := ?vz27) rfl (by kernel_rfl) (by kernel_rfl) (by kernel_rfl) (fun _ _ _ h => h) (by rfl) (by assumption) ?hyz27 ?restz27
  case hyz27 => (intro w hSw; (try dsimp only at hSw); first | (go_simp; done) | (go_simp; with_reducible rfl))
  simp only [Act.put, List.setIfInBounds_toArray, List.set_cons_zero, List.set_cons_succ]
  refine wpAnyH_done (by kernel_rfl) ?_ _
  go_wp2
  go_ret
  exact ⟨rfl, also B1 hHeld.2.2.2.2.2.2.2.2⟩
theorem own : ownKnob Tryd.prog.godebug = none := by kernel_rfl
set_option maxRecDepth 100000 in
theorem lifted (os : Os) (started : os.Started) (H : Type) (enc : TypeId × Value → H) :
    ReturnsInHanded {} Tryd.checked os 5 .any (fun w args => (Rows.wholeOrdersSpec.pre enc Tryd.prog Tryd.f5 [] false w args ∧ laidMetH Tryd.prog Rows.wholeOrdersRow.laid w) ∧ sizedMet enc Tryd.prog Tryd.f5 (OpenSpec.ofChange Rows.wholeOrdersSpec) false w args)
      (Rows.wholeOrdersSpec.post enc Tryd.prog Tryd.f5 false true false false) := by
  refine returnsInHanded_of_change_and (C := Tryd.checked) (X := fun w _ => laidMetH Tryd.prog Rows.wholeOrdersRow.laid w) (fun _ _ _ hh h => h.of_heap hh) own started (by kernel_rfl) Tryd.func5
    (ChangeSpec.witness_shaped (enc := enc) (C := Tryd.checked) (os := os) (X := fun w _ => laidMetH Tryd.prog Rows.wholeOrdersRow.laid w) false (World.laidAll Tryd.prog os Rows.wholeOrdersRow.laid) #[.agg #[.bool false, .slice none 0 0], .agg #[.bool false, .slice none 0 0]] 8 (World.laidAll_os _ _ _)
      (World.shaped_of_ZipB (by kernel_rfl) (by kernel_rfl)) (by kernel_rfl) (by kernel_rfl) (by kernel_rfl)
      (by rw [MakeChecks.laidMetH_plain _ _ _ (by kernel_rfl)]; exact laidMet_laidAll _ (by kernel_rfl) (by kernel_rfl))) ?_
  intro W base args ds gs before hval0 hW _ _ hL _
  have hval : ∀ (j : Nat) t v, Tryd.f5.params[j]? = some t → args[j]? = some v → Value.okWide Tryd.prog W .any base t v := hval0
  have hW' := hW
  obtain ⟨p, q, hA0, hV, rfl, hfz, hnd⟩ := hW
  have hA : DataW.TrodAll enc Tryd.prog W 0 (fun _ => true) true Tryd.f5.params.toList args.toList ds p := hA0
  rw [Tryd.params5] at hA hval
  obtain ⟨v0, vs0, d0, ds0, p0, q0, hargs, rfl, rfl, h0, r0⟩ := trodAll_cons hA
  obtain ⟨v1, vs1, d1, ds1, p1, q1, rfl, rfl, rfl, h1, r1⟩ := trodAll_cons r0
  obtain ⟨rfl, rfl, rfl⟩ := trodAll_nil r1
  obtain rfl : args = #[v0, v1] := by cases args; simp_all
  obtain ⟨rfl, rfl⟩ := trodVars_none hV
  have hlt : ∀ x ∈ p0 ++ p1, x.block < W.heap.size := fun x hx => by simpa using hW'.lt x (by simpa using hx)
  have h0k := h0
  obtain ⟨n0, a0, l0, c0, u0, rfl, hu0, hs0⟩ := int_view (hval 0 25 v0 rfl rfl) h0 (fun b o h => hfz b o (by simp [h])) (fun x hx => hlt x (by simp [hx]))
  have h1k := h1
  obtain ⟨n1, a1, l1, c1, u1, rfl, hu1, hs1⟩ := int_view (hval 1 25 v1 rfl rfl) h1 (fun b o h => hfz b o (by simp [h])) (fun x hx => hlt x (by simp [hx]))
  clear hA0 hval0
  refine (walk n0 a0 l0 c0 u0 n1 a1 l1 c1 u1 W hs0 hu0 hs1 hu1).mono fun e W' ⟨he, bel⟩ => ?_
  subst he
  exact ⟨_, rfl, _, _, _, [], _, [], hW', trodAll_mk1 (shut_bool Tryd.underlying4 _), (trodAll_cons_mk (Below.trod laidOutAll (by kernel_rfl) (of_decide_eq_true (by kernel_rfl)) h0k bel (fun x hx => hlt x (by simp [hx]))) (trodAll_cons_mk (Below.trod laidOutAll (by kernel_rfl) (of_decide_eq_true (by kernel_rfl)) h1k bel (fun x hx => hlt x (by simp [hx]))) trodAll_mk0)), rfl, bel.frame _, fun h => by cases h⟩

theorem said : Rows.WholeOrdersSaid :=
  OpenClaim.holds_of_wide 5 Tryd.f5 rfl rfl rfl rfl rfl rfl rfl ⟨rfl, rfl, rfl, rfl, rfl⟩ rfl rfl rfl rfl rfl (by kernel_rfl) Tryd.func5 (by kernel_rfl)
    (of_decide_eq_true (by kernel_rfl)) (by unfold Func.isWrapper; first | (rw [if_pos (by decide +kernel)]; kernel_rfl) | (rw [if_neg (by decide +kernel)]; exact ⟨rfl, rfl⟩))
    (fun os started H enc _ => lifted os started H enc)
/-- The program's own looks are off, and no parameter wants a stand-in: what the card asks. -/
theorem plain (f : FuncId) (fn : Func) (hf : Tryd.pinned.checked.prog.funcNamed "zellige/zelligelaw04.WholeOrders" = some f) (hfn : Tryd.pinned.checked.prog.funcs[f]? = some fn) :
    false = Tryd.pinned.checked.prog.looks [] ∧ ∀ (j : Nat) t, fn.params[j]? = some t → Tryd.pinned.checked.prog.wantsStandIn t = false := by
  obtain rfl : f = 5 := Option.some.inj ((show Tryd.prog.funcNamed "zellige/zelligelaw04.WholeOrders" = some 5 by kernel_rfl).symm.trans hf) |>.symm
  obtain rfl : fn = Tryd.f5 := (Option.some.inj (Tryd.func5.symm.trans hfn)).symm
  refine ⟨by kernel_rfl, fun j t ht => ?_⟩
  rw [Tryd.params5] at ht
  have hm : t ∈ [25, 25] := by simpa using Array.mem_of_getElem? ht
  have hall : ([25, 25].all fun u => !Tryd.prog.wantsStandIn u) = true := by kernel_rfl
  exact (show Tryd.prog.wantsStandIn t = false by simpa using List.all_eq_true.1 hall t hm)
/-- The statement: the card. -/
theorem proved : Rows.WholeOrdersCardSaid :=
  Claim7.holds_tied_plain_at .later [] _ _ _ _ said (fun _ h => by cases h) (by kernel_rfl) (fun _ h => by cases h) wholeOrders_row_tie rfl ⟨rfl, rfl⟩ (by kernel_rfl) rfl plain (by kernel_rfl)
#print axioms proved
end worders
end Go.Proofs.YtpkcjgkgabemoaaDoor
