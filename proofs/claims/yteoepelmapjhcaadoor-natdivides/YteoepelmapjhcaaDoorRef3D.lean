/-
  What zelligeref03's Cmp, Add and Sub answer.
-/
import Derived.Test.YteoepelmapjhcaaDoorRef3C
import Derived.Test.YteoepelmapjhcaaDoorCmpB
namespace Go.Proofs.YteoepelmapjhcaaDoor
open Go.RowKit
set_option linter.unusedVariables false

theorem hf_top_eq {u v m k : Nat} (hk : k ≤ m) (hu : u < 65536 ^ m) (hv : v < 65536 ^ m) (h : ∀ j, k ≤ j → j < m → hf.dg (u : Int) j = hf.dg (v : Int) j) : u / 65536 ^ k = v / 65536 ^ k := by
  have hlt : ∀ x : Nat, x < 65536 ^ m → x / 65536 ^ k < 65536 ^ (m - k) := fun x hx => by
    refine Nat.div_lt_of_lt_mul ?_
    rw [← Nat.pow_add, show k + (m - k) = m by omega]
    exact hx
  refine hf.eq_of_dcells (m - k) _ _ (hlt u hu) (hlt v hv) fun j hj => ?_
  rw [Int.natCast_ediv, Int.natCast_ediv, hf.pow_cast, hf.dg_div, hf.dg_div]
  exact h _ (by omega) (by omega)
theorem cmpI_lt {x y : Int} (h : x < y) : cmpI x y = -1 := by unfold cmpI; rw [if_pos h]
theorem cmpI_gt {x y : Int} (h : y < x) : cmpI x y = 1 := by unfold cmpI; rw [if_neg (by omega), if_pos h]

set_option maxRecDepth 100000 in
set_option maxHeartbeats 1000000 in
theorem rcmp_any (a b : Option Addr) (ca cb u v : Nat) (w : World) (ha : Sl w a (hf.nlen u) ca (hf.dcells (hf.nlen u) (u : Int))) (hb : Sl w b (hf.nlen v) cb (hf.dcells (hf.nlen v) (v : Int))) :
    Calls Tryd.prog 12 #[.slice a (hf.nlen u) ca, .slice b (hf.nlen v) cb] w fun e w' => e = .returned (.int .i64 (cmpI u v)) ∧ Below w.heap.size w w' := by
  have k1 := ha.big
  have k2 := ha.room
  have k3 := hb.big
  have k4 := hb.room
  unfold maxLen at k1 k3
  rcases Nat.lt_trichotomy (hf.nlen u) (hf.nlen v) with h | h | h
  · have HC : Hid (cmpI u v = -1) := cmpI_lt (by have := hf.lt_of_nlen h; omega)
    go_enter Tryd.func12, Tryd.ntmps12
    go_wp2
    go_ret
    exact ⟨by rw [HC.out]; rfl, (by first | exact Below.refl _ _ | exact below_drewN (Below.refl _ _) _ | exact below_drewN (below_drewN (Below.refl _ _) _) _ | exact below_drewN (below_drewN (below_drewN (Below.refl _ _) _) _) _)⟩
  · obtain ⟨m, hm⟩ : ∃ m, hf.nlen u = m := ⟨_, rfl⟩
    have hv := hf.nlen_lt v
    have hu := hf.nlen_lt u
    rw [← h] at hb hv k4 ⊢
    rw [hm] at ha hb hu hv k2 k4 ⊢
    have HU : Hid _ := hu
    have HV : Hid _ := hv
    clear hm hu hv h
    go_enter Tryd.func12, Tryd.ntmps12
    go_wp2
    go_loopw [5] (fun i wr => ∃ r : Nat, r ≤ m ∧ i = .int .i64 ((r : Int) - 1) ∧ Hid (∀ j, r ≤ j → j < m → hf.dg (u : Int) j = hf.dg (v : Int) j) ∧ ∃ n, wr = w.drewN n) (fun i _ => (intOf i + 1).toNat)
    case atStart => exact ⟨m, Nat.le_refl _, rfl, fun j h1 h2 => absurd h1 (by omega), 0, rfl⟩
    case round =>
      obtain ⟨r, hr, rfl, HR, n, rfl⟩ := hrel
      rcases r with _ | q
      · have HE : Hid (cmpI u v = 0) := by
          obtain rfl : u = v := hf.eq_of_dcells m u v HU.out HV.out (fun j hj => HR.out j (Nat.zero_le _) hj)
          exact cmpI_self _
        go_wp2
        go_ret
        exact ⟨by rw [HE.out]; rfl, (by first | exact Below.refl _ _ | exact below_drewN (Below.refl _ _) _ | exact below_drewN (below_drewN (Below.refl _ _) _) _ | exact below_drewN (below_drewN (below_drewN (Below.refl _ _) _) _) _)⟩
      · obtain ⟨ba, oa, rfl, hba, hsa⟩ := ha.at (by omega)
        obtain ⟨bb, ob, rfl, hbb, hsb⟩ := hb.at (by omega)
        have c1 : w.cell? ⟨ba, oa + q, none⟩ = some (.int .i64 (hf.dg u q)) := hsa.cell q _ (hf.dcells_at _ _ _ (by omega))
        have c2 : w.cell? ⟨bb, ob + q, none⟩ = some (.int .i64 (hf.dg v q)) := hsb.cell q _ (hf.dcells_at _ _ _ (by omega))
        have HT : Hid (u / 65536 ^ (q + 1) = v / 65536 ^ (q + 1)) := hf_top_eq (by omega) HU.out HV.out HR.out
        have e1 : ((q + 1 : Nat) : Int) - 1 = (q : Int) := by omega
        obtain ⟨X, hX⟩ : ∃ X, hf.dg (u : Int) q = X := ⟨_, rfl⟩
        obtain ⟨Y, hY⟩ : ∃ Y, hf.dg (v : Int) q = Y := ⟨_, rfl⟩
        rcases Int.lt_trichotomy X Y with l | l | l
        · have HC : Hid (cmpI u v = -1) := cmpI_lt (by have := hf.lt_of_top HT.out (by rw [hX, hY]; exact l); omega)
          rw [hX] at c1
          rw [hY] at c2
          clear hX hY
          go_wp2
          go_quiet (fail)
          go_wp2
          go_ret
          exact ⟨by rw [HC.out]; rfl, (by first | exact Below.refl _ _ | exact below_drewN (Below.refl _ _) _ | exact below_drewN (below_drewN (Below.refl _ _) _) _ | exact below_drewN (below_drewN (below_drewN (Below.refl _ _) _) _) _)⟩
        · have HQ : Hid (∀ j, q ≤ j → j < m → hf.dg (u : Int) j = hf.dg (v : Int) j) := fun j h1 h2 => by
            rcases Nat.lt_or_ge q j with h3 | h3
            · exact HR.out j h3 h2
            · obtain rfl : j = q := by omega
              rw [hX, hY, l]
          have l1 : ¬ X < Y := by omega
          have l2 : ¬ Y < X := by omega
          rw [hX] at c1
          rw [hY] at c2
          clear hX hY l
          go_wp2
          go_quiet (fail)
          go_wp2
          go_quiet (fail)
          go_wp2
          go_roundw
          case rel => exact ⟨q, by omega, by go_num, HQ.out, _, rfl⟩
          case measure => simp [intOf]
        · have HC : Hid (cmpI u v = 1) := cmpI_gt (by have := hf.lt_of_top HT.out.symm (by rw [hX, hY]; exact l); omega)
          have l1 : ¬ X < Y := by omega
          rw [hX] at c1
          rw [hY] at c2
          clear hX hY
          go_wp2
          go_quiet (fail)
          go_wp2
          go_quiet (fail)
          go_wp2
          go_ret
          exact ⟨by rw [HC.out]; rfl, (by first | exact Below.refl _ _ | exact below_drewN (Below.refl _ _) _ | exact below_drewN (below_drewN (Below.refl _ _) _) _ | exact below_drewN (below_drewN (below_drewN (Below.refl _ _) _) _) _)⟩
  · have HC : Hid (cmpI u v = 1) := cmpI_gt (by have := hf.lt_of_nlen h; omega)
    have h' : ¬ (hf.nlen u : Int) < hf.nlen v := by omega
    go_enter Tryd.func12, Tryd.ntmps12
    go_wp2
    go_ret
    exact ⟨by rw [HC.out]; rfl, (by first | exact Below.refl _ _ | exact below_drewN (Below.refl _ _) _ | exact below_drewN (below_drewN (Below.refl _ _) _) _ | exact below_drewN (below_drewN (below_drewN (Below.refl _ _) _) _) _)⟩

/-- One digit more behind those that one has. -/
theorem push_next {w wr w2 w4 : World} {k cap cap' g' : Nat} {a : Option Addr} {V x : Int} (hx : x = hf.dg V k) (hown : Own wr w.heap.size 3 a k cap (hf.dcells k V)) (hbel : Below w.heap.size w wr)
    (h4 : w4.ownsRow w.heap.size 3 1 (.slice (some ⟨g', 0, none⟩) (k + 1) cap') (k + 1) (hf.dcells k V ++ [.int .i64 x]))
    (h2 : Below wr.heap.size wr w2) (hgr : w2.grownBy w4 (Value.slice a k cap).ownBlock) : Own w4 w.heap.size 3 (some ⟨g', 0, none⟩) (k + 1) cap' (hf.dcells (k + 1) V) ∧ Below w.heap.size w w4 := by
  have hs := hbel.size
  refine ⟨?_, (hbel.trans (h2.mono hs)).grown hgr (by have := h2.size; omega) (fun k' hk' => (World.ownsRow.lt hown k' hk').1)⟩
  rw [hf.dcells_succ, ← hx]
  exact h4
/-- What holds at the head of each round of the sum's loop. -/
def RAddRel (w : World) (u v l : Nat) (o c i : Value) (wr : World) : Prop := ∃ (k cap : Nat) (ao : Option Addr), k ≤ l ∧ i = .int .i64 (k : Int) ∧ c = .int .i64 (hf.carry u v k) ∧ o = .slice ao k cap ∧ Own wr w.heap.size 3 ao k cap (hf.dcells k ((u : Int) + v)) ∧ Below w.heap.size w wr
theorem radd_next {w wr w2 w4 : World} {u v l k cap cap' g' : Nat} {ao : Option Addr} {x : Int} (hk : k < l) (hx : x = hf.carry u v k + hf.dg u k + hf.dg v k) (hown : Own wr w.heap.size 3 ao k cap (hf.dcells k ((u : Int) + v))) (hbel : Below w.heap.size w wr)
    (h4 : w4.ownsRow w.heap.size 3 1 (.slice (some ⟨g', 0, none⟩) (k + 1) cap') (k + 1) (hf.dcells k ((u : Int) + v) ++ [.int .i64 (x % 65536)]))
    (h2 : Below wr.heap.size wr w2) (hgr : w2.grownBy w4 (Value.slice ao k cap).ownBlock) : RAddRel w u v l (.slice (some ⟨g', 0, none⟩) (k + 1) cap') (.int .i64 (x / 65536)) (.int .i64 ((k : Int) + 1)) w4 := by
  obtain ⟨h5, h6⟩ := push_next (x := x % 65536) (by rw [hx, hf.add_digit]) hown hbel h4 h2 hgr
  exact ⟨k + 1, cap', _, hk, by simp, by rw [hf.carry_succ, hx], rfl, h5, h6⟩

set_option maxRecDepth 100000 in
set_option maxHeartbeats 2000000 in
theorem radd_any (a b : Option Addr) (ca cb u v : Nat) (w : World) (ha : Sl w a (hf.nlen u) ca (hf.dcells (hf.nlen u) (u : Int))) (hb : Sl w b (hf.nlen v) cb (hf.dcells (hf.nlen v) (v : Int))) (hlu : hf.nlen u ≤ 1000000000) (hlv : hf.nlen v ≤ 1000000000) :
    Calls Tryd.prog 15 #[.slice a (hf.nlen u) ca, .slice b (hf.nlen v) cb] w fun e w' => ∃ a' cap', e = .returned (.slice a' (hf.nlen (u + v)) cap') ∧ Own w' w.heap.size 3 a' (hf.nlen (u + v)) cap' (hf.dcells (hf.nlen (u + v)) ((u + v : Nat) : Int)) ∧ Below w.heap.size w w' := by
  obtain ⟨i0, hi0, hz0, hz1, hz2⟩ := info_parts infoInt
  have hown0 := own_empty w w.heap.size 3 (Nat.le_refl _)
  have hu := hf.nlen_lt u
  have hv := hf.nlen_lt v
  obtain ⟨lu, hlu'⟩ : ∃ l, hf.nlen u = l := ⟨_, rfl⟩
  obtain ⟨lv, hlv'⟩ : ∃ l, hf.nlen v = l := ⟨_, rfl⟩
  rw [hlu'] at ha hlu hu ⊢
  rw [hlv'] at hb hlv hv ⊢
  obtain ⟨L, hL1, hL2, hL3⟩ : ∃ L, lu ≤ L ∧ lv ≤ L ∧ (L ≤ lu ∨ L ≤ lv) := ⟨max lu lv, by omega, by omega, by omega⟩
  have HU : Hid (∀ k, lu ≤ k → hf.dg (u : Int) k = 0) := fun k hk => hf.dg_over (Nat.lt_of_lt_of_le hu (Nat.pow_le_pow_right (by decide) hk))
  have HV : Hid (∀ k, lv ≤ k → hf.dg (v : Int) k = 0) := fun k hk => hf.dg_over (Nat.lt_of_lt_of_le hv (Nat.pow_le_pow_right (by decide) hk))
  have HS : Hid (u + v < 65536 ^ (L + 1)) := by
    have h1 := Nat.pow_le_pow_right (n := 65536) (by decide) hL1
    have h2 := Nat.pow_le_pow_right (n := 65536) (by decide) hL2
    unfold Hid
    rw [Nat.pow_succ]; omega
  have HE : Hid ((u : Int) + v = ((u + v : Nat) : Int)) := by unfold Hid; omega
  clear hu hv hlu' hlv'
  go_enter Tryd.func15, Tryd.ntmps15
  go_wp2
  go_loopw [5, 6, 7] (fun o c i wr => RAddRel w u v L o c i wr) (fun _ _ i _ => L - (intOf i).toNat)
  case atStart => exact ⟨0, 0, _, by omega, rfl, by rw [hf.carry_zero], rfl, hown0, (Below.refl _ _).alloc (Nat.le_refl _) _⟩
  case round =>
    clear hown0
    obtain ⟨k, cap, ao, hk, rfl, rfl, rfl, hown, hbel⟩ := hrel
    have hsz := hbel.size
    obtain ⟨f0, f1⟩ := hf.carry_range u v k
    obtain ⟨d0, d1⟩ := hf.dg_range u k
    obtain ⟨e0, e1⟩ := hf.dg_range v k
    obtain ⟨C, hC⟩ : ∃ C, hf.carry (u : Int) v k = C := ⟨_, rfl⟩
    obtain ⟨X, hX⟩ : ∃ X, hf.dg (u : Int) k = X := ⟨_, rfl⟩
    obtain ⟨Y, hY⟩ : ∃ Y, hf.dg (v : Int) k = Y := ⟨_, rfl⟩
    rw [hC] at f0 f1
    rw [hX] at d0 d1
    rw [hY] at e0 e1
    by_cases h1 : k < lu
    · obtain ⟨ba, oa, rfl, hba, hsa⟩ := ha.at (by omega)
      have r1 := ha.room
      have c1 : wr.cell? ⟨ba, oa + k, none⟩ = some (.int .i64 X) := (hbel.cell (p := ⟨ba, oa + k, none⟩) hba).trans (by rw [← hX]; exact hsa.cell k _ (hf.dcells_at _ _ _ h1))
      by_cases h2 : k < lv
      · obtain ⟨bb, ob, rfl, hbb, hsb⟩ := hb.at (by omega)
        have r2 := hb.room
        have c2 : wr.cell? ⟨bb, ob + k, none⟩ = some (.int .i64 Y) := (hbel.cell (p := ⟨bb, ob + k, none⟩) hbb).trans (by rw [← hY]; exact hsb.cell k _ (hf.dcells_at _ _ _ h2))
        have HN : Hid _ := fun w2 w4 g' cap' => radd_next (l := L) (x := C + X + Y) (w2 := w2) (w4 := w4) (g' := g') (cap' := cap') (by omega) (by rw [hC, hX, hY]) hown hbel
        rw [hC]
        clear hC hX hY
        go_wp2_with (at_builtin; refine wpList_append_lies _ rfl (.tmp 41) (.tmp 44) 25 rfl w.heap.size 3 i0 (.int .i64 0) 1 8 Tryd.underlying25 hi0 hz0 hz1 hz2 rfl (by decide) (.slice ao k cap) (k) (hf.dcells k ((u : Int) + v)) rfl (World.ownsRow.alloc hown _) ⟨wr.heap.size, 0, none⟩ 1 1 [.int .i64 ((C + X + Y) % 65536)] rfl rfl (cell_one_new _ _ _) (ints_oneCell .i64 [(C + X + Y) % 65536]) (by decide) (by unfold maxLen; omega) (by omega) (by simp; omega) _ rfl ?_; intro g' cap' w4 hown4 hgrow4 hat4 hlt4)
        go_roundw
        case rel => exact HN.out _ w4 g' cap' hown4 ((Below.refl _ _).alloc (Nat.le_refl _) _) hgrow4
        case measure => simp [intOf]; omega
      · have HN : Hid _ := fun w2 w4 g' cap' => radd_next (l := L) (x := C + X) (w2 := w2) (w4 := w4) (g' := g') (cap' := cap') (by omega) (by rw [hC, hX, HV.out k (by omega)]; omega) hown hbel
        have h2' : ¬ (k : Int) < lv := by omega
        rw [hC]
        clear hC hX hY
        go_wp2_with (at_builtin; refine wpList_append_lies _ rfl (.tmp 41) (.tmp 44) 25 rfl w.heap.size 3 i0 (.int .i64 0) 1 8 Tryd.underlying25 hi0 hz0 hz1 hz2 rfl (by decide) (.slice ao k cap) (k) (hf.dcells k ((u : Int) + v)) rfl (World.ownsRow.alloc hown _) ⟨wr.heap.size, 0, none⟩ 1 1 [.int .i64 ((C + X) % 65536)] rfl rfl (cell_one_new _ _ _) (ints_oneCell .i64 [(C + X) % 65536]) (by decide) (by unfold maxLen; omega) (by omega) (by simp; omega) _ rfl ?_; intro g' cap' w4 hown4 hgrow4 hat4 hlt4)
        go_roundw
        case rel => exact HN.out _ w4 g' cap' hown4 ((Below.refl _ _).alloc (Nat.le_refl _) _) hgrow4
        case measure => simp [intOf]; omega
    · by_cases h2 : k < lv
      · obtain ⟨bb, ob, rfl, hbb, hsb⟩ := hb.at (by omega)
        have r2 := hb.room
        have c2 : wr.cell? ⟨bb, ob + k, none⟩ = some (.int .i64 Y) := (hbel.cell (p := ⟨bb, ob + k, none⟩) hbb).trans (by rw [← hY]; exact hsb.cell k _ (hf.dcells_at _ _ _ h2))
        have HN : Hid _ := fun w2 w4 g' cap' => radd_next (l := L) (x := C + Y) (w2 := w2) (w4 := w4) (g' := g') (cap' := cap') (by omega) (by rw [hC, hY, HU.out k (by omega)]; omega) hown hbel
        have h1' : ¬ (k : Int) < lu := by omega
        rw [hC]
        clear hC hX hY
        go_wp2_with (at_builtin; refine wpList_append_lies _ rfl (.tmp 41) (.tmp 44) 25 rfl w.heap.size 3 i0 (.int .i64 0) 1 8 Tryd.underlying25 hi0 hz0 hz1 hz2 rfl (by decide) (.slice ao k cap) (k) (hf.dcells k ((u : Int) + v)) rfl (World.ownsRow.alloc hown _) ⟨wr.heap.size, 0, none⟩ 1 1 [.int .i64 ((C + Y) % 65536)] rfl rfl (cell_one_new _ _ _) (ints_oneCell .i64 [(C + Y) % 65536]) (by decide) (by unfold maxLen; omega) (by omega) (by simp; omega) _ rfl ?_; intro g' cap' w4 hown4 hgrow4 hat4 hlt4)
        go_roundw
        case rel => exact HN.out _ w4 g' cap' hown4 ((Below.refl _ _).alloc (Nat.le_refl _) _) hgrow4
        case measure => simp [intOf]; omega
      · obtain rfl : k = L := by omega
        have HC2 : Hid (C = hf.dg ((u : Int) + v) k) := by
          have h := hf.add_digit u v k
          rw [hC, hX, hY] at h
          have hx0 := HU.out k (by omega)
          have hy0 := HV.out k (by omega)
          rw [hX] at hx0
          rw [hY] at hy0
          unfold Hid
          omega
        have h1' : ¬ (k : Int) < lu := by omega
        have h2' : ¬ (k : Int) < lv := by omega
        have HN : Hid _ := fun w2 w4 g' cap' => push_next (x := C) (w2 := w2) (w4 := w4) (g' := g') (cap' := cap') HC2.out hown hbel
        rw [hC]
        clear hC hX hY
        go_wp2_with (first
          | (at_builtin; refine wpList_append_lies _ rfl (.tmp 48) (.tmp 50) 25 rfl w.heap.size 3 i0 (.int .i64 0) 1 8 Tryd.underlying25 hi0 hz0 hz1 hz2 rfl (by decide) (.slice ao k cap) (k) (hf.dcells k ((u : Int) + v)) rfl (World.ownsRow.alloc hown _) ⟨wr.heap.size, 0, none⟩ 1 1 [.int .i64 (C)] rfl rfl (cell_one_new _ _ _) (ints_oneCell .i64 [C]) (by decide) (by unfold maxLen; omega) (by omega) (by simp; omega) _ rfl ?_; intro g' cap' w4 hown4 hgrow4 hat4 hlt4)
          | (go_at_call 33; have hnx := HN.out _ w4 g' cap' hown4 ((Below.refl _ _).alloc (Nat.le_refl _) _) hgrow4; rw [HE.out] at hnx; refine (rtrim_own _ _ _ (u + v) _ _ hnx.1 HS.out).mono ?_; rintro e w' ⟨rfl, hw, hown5⟩; subst hw))
        go_ret
        exact ⟨_, cap', rfl, hown5, hnx.2⟩

/-- What holds at the head of each round of the difference's loop. -/
def RSubRel (w : World) (u v l : Nat) (o c i : Value) (wr : World) : Prop := ∃ (k cap : Nat) (ao : Option Addr), k ≤ l ∧ i = .int .i64 (k : Int) ∧ c = .int .i64 (hf.bw u v k) ∧ o = .slice ao k cap ∧ Own wr w.heap.size 3 ao k cap (hf.dcells k ((u : Int) - v)) ∧ Below w.heap.size w wr
theorem rsub_next {w wr w2 w4 : World} {u v l k cap cap' g' : Nat} {ao : Option Addr} {x c : Int} (hk : k < l) (hx : (x = hf.dg u k - hf.dg v k - hf.bw u v k ∧ 0 ≤ x ∧ c = 0) ∨ (x = hf.dg u k - hf.dg v k - hf.bw u v k + 65536 ∧ x < 65536 ∧ c = 1)) (hown : Own wr w.heap.size 3 ao k cap (hf.dcells k ((u : Int) - v))) (hbel : Below w.heap.size w wr)
    (h4 : w4.ownsRow w.heap.size 3 1 (.slice (some ⟨g', 0, none⟩) (k + 1) cap') (k + 1) (hf.dcells k ((u : Int) - v) ++ [.int .i64 x]))
    (h2 : Below wr.heap.size wr w2) (hgr : w2.grownBy w4 (Value.slice ao k cap).ownBlock) : RSubRel w u v l (.slice (some ⟨g', 0, none⟩) (k + 1) cap') (.int .i64 c) (.int .i64 ((k : Int) + 1)) w4 := by
  have d := hf.dg_range u k
  have e := hf.dg_range v k
  have f := hf.bw_range u v k
  have hd := hf.sub_digit u v k
  have hb := hf.bw_succ u v k
  obtain ⟨h5, h6⟩ := push_next (x := x) (by rw [← hd]; omega) hown hbel h4 h2 hgr
  refine ⟨k + 1, cap', _, hk, by simp, ?_, rfl, h5, h6⟩
  rw [← hb]
  unfold hf.bor
  rcases hx with ⟨h, h0, rfl⟩ | ⟨h, h0, rfl⟩
  · rw [if_neg (by omega)]
  · rw [if_pos (by omega)]
set_option maxRecDepth 100000 in
set_option maxHeartbeats 2000000 in
theorem rsub_any (a b : Option Addr) (ca cb u v : Nat) (w : World) (ha : Sl w a (hf.nlen u) ca (hf.dcells (hf.nlen u) (u : Int))) (hb : Sl w b (hf.nlen v) cb (hf.dcells (hf.nlen v) (v : Int))) (hlu : hf.nlen u ≤ 1000000000) (hlv : hf.nlen v ≤ 1000000000) (hle : v ≤ u) :
    Calls Tryd.prog 18 #[.slice a (hf.nlen u) ca, .slice b (hf.nlen v) cb] w fun e w' => ∃ a' cap', e = .returned (.slice a' (hf.nlen (u - v)) cap') ∧ Own w' w.heap.size 3 a' (hf.nlen (u - v)) cap' (hf.dcells (hf.nlen (u - v)) ((u - v : Nat) : Int)) ∧ Below w.heap.size w w' := by
  obtain ⟨i0, hi0, hz0, hz1, hz2⟩ := info_parts infoInt
  have hown0 := own_empty w w.heap.size 3 (Nat.le_refl _)
  have hu := hf.nlen_lt u
  have hv := hf.nlen_lt v
  obtain ⟨lu, hlu'⟩ : ∃ l, hf.nlen u = l := ⟨_, rfl⟩
  obtain ⟨lv, hlv'⟩ : ∃ l, hf.nlen v = l := ⟨_, rfl⟩
  rw [hlu'] at ha hlu hu ⊢
  rw [hlv'] at hb hlv hv ⊢
  have HV : Hid (∀ k, lv ≤ k → hf.dg (v : Int) k = 0) := fun k hk => hf.dg_over (Nat.lt_of_lt_of_le hv (Nat.pow_le_pow_right (by decide) hk))
  have HS : Hid (u - v < 65536 ^ lu) := by unfold Hid; omega
  have HE : Hid ((u : Int) - v = ((u - v : Nat) : Int)) := by unfold Hid; omega
  clear hu hv hlu' hlv' hle
  go_enter Tryd.func18, Tryd.ntmps18
  go_wp2
  go_loopw [5, 6, 7] (fun o c i wr => RSubRel w u v lu o c i wr) (fun _ _ i _ => lu - (intOf i).toNat)
  case atStart => exact ⟨0, 0, _, by omega, rfl, by rw [hf.bw_zero], rfl, hown0, (Below.refl _ _).alloc (Nat.le_refl _) _⟩
  case round =>
    clear hown0
    obtain ⟨k, cap, ao, hk, rfl, rfl, rfl, hown, hbel⟩ := hrel
    have hsz := hbel.size
    obtain ⟨f0, f1⟩ := hf.bw_range u v k
    obtain ⟨d0, d1⟩ := hf.dg_range u k
    obtain ⟨e0, e1⟩ := hf.dg_range v k
    obtain ⟨C, hC⟩ : ∃ C, hf.bw (u : Int) v k = C := ⟨_, rfl⟩
    obtain ⟨X, hX⟩ : ∃ X, hf.dg (u : Int) k = X := ⟨_, rfl⟩
    obtain ⟨Y, hY⟩ : ∃ Y, hf.dg (v : Int) k = Y := ⟨_, rfl⟩
    rw [hC] at f0 f1
    rw [hX] at d0 d1
    rw [hY] at e0 e1
    by_cases h1 : k < lu
    · obtain ⟨ba, oa, rfl, hba, hsa⟩ := ha.at (by omega)
      have r1 := ha.room
      have c1 : wr.cell? ⟨ba, oa + k, none⟩ = some (.int .i64 X) := (hbel.cell (p := ⟨ba, oa + k, none⟩) hba).trans (by rw [← hX]; exact hsa.cell k _ (hf.dcells_at _ _ _ h1))
      by_cases h2 : k < lv
      · obtain ⟨bb, ob, rfl, hbb, hsb⟩ := hb.at (by omega)
        have r2 := hb.room
        have c2 : wr.cell? ⟨bb, ob + k, none⟩ = some (.int .i64 Y) := (hbel.cell (p := ⟨bb, ob + k, none⟩) hbb).trans (by rw [← hY]; exact hsb.cell k _ (hf.dcells_at _ _ _ h2))
        by_cases hn : X - C - Y < 0
        · have HN : Hid _ := fun w2 w4 g' cap' => rsub_next (l := lu) (c := 1) (x := X - C - Y + 65536) (w2 := w2) (w4 := w4) (g' := g') (cap' := cap') (by omega) (Or.inr ⟨by rw [hC, hX, hY]; omega, by omega, rfl⟩) hown hbel
          rw [hC]
          clear hC hX hY
          go_wp2_with (at_builtin; refine wpList_append_lies _ rfl (.tmp 36) (.tmp 38) 25 rfl w.heap.size 3 i0 (.int .i64 0) 1 8 Tryd.underlying25 hi0 hz0 hz1 hz2 rfl (by decide) (.slice ao k cap) (k) (hf.dcells k ((u : Int) - v)) rfl (World.ownsRow.alloc hown _) ⟨wr.heap.size, 0, none⟩ 1 1 [.int .i64 (X - C - Y + 65536)] rfl rfl (cell_one_new _ _ _) (ints_oneCell .i64 [X - C - Y + 65536]) (by decide) (by unfold maxLen; omega) (by omega) (by simp; omega) _ rfl ?_; intro g' cap' w4 hown4 hgrow4 hat4 hlt4)
          go_roundw
          case rel => exact HN.out _ w4 g' cap' hown4 ((Below.refl _ _).alloc (Nat.le_refl _) _) hgrow4
          case measure => simp [intOf]; omega
        · have HN : Hid _ := fun w2 w4 g' cap' => rsub_next (l := lu) (c := 0) (x := X - C - Y) (w2 := w2) (w4 := w4) (g' := g') (cap' := cap') (by omega) (Or.inl ⟨by rw [hC, hX, hY]; omega, by omega, rfl⟩) hown hbel
          rw [hC]
          clear hC hX hY
          go_wp2_with (at_builtin; refine wpList_append_lies _ rfl (.tmp 36) (.tmp 38) 25 rfl w.heap.size 3 i0 (.int .i64 0) 1 8 Tryd.underlying25 hi0 hz0 hz1 hz2 rfl (by decide) (.slice ao k cap) (k) (hf.dcells k ((u : Int) - v)) rfl (World.ownsRow.alloc hown _) ⟨wr.heap.size, 0, none⟩ 1 1 [.int .i64 (X - C - Y)] rfl rfl (cell_one_new _ _ _) (ints_oneCell .i64 [X - C - Y]) (by decide) (by unfold maxLen; omega) (by omega) (by simp; omega) _ rfl ?_; intro g' cap' w4 hown4 hgrow4 hat4 hlt4)
          go_roundw
          case rel => exact HN.out _ w4 g' cap' hown4 ((Below.refl _ _).alloc (Nat.le_refl _) _) hgrow4
          case measure => simp [intOf]; omega
      · have h2' : ¬ (k : Int) < lv := by omega
        have hY0 := HV.out k (by omega)
        by_cases hn : X - C < 0
        · have HN : Hid _ := fun w2 w4 g' cap' => rsub_next (l := lu) (c := 1) (x := X - C + 65536) (w2 := w2) (w4 := w4) (g' := g') (cap' := cap') (by omega) (Or.inr ⟨by rw [hC, hX, hY0]; omega, by omega, rfl⟩) hown hbel
          rw [hC]
          clear hC hX hY hY0
          go_wp2_with (at_builtin; refine wpList_append_lies _ rfl (.tmp 36) (.tmp 38) 25 rfl w.heap.size 3 i0 (.int .i64 0) 1 8 Tryd.underlying25 hi0 hz0 hz1 hz2 rfl (by decide) (.slice ao k cap) (k) (hf.dcells k ((u : Int) - v)) rfl (World.ownsRow.alloc hown _) ⟨wr.heap.size, 0, none⟩ 1 1 [.int .i64 (X - C + 65536)] rfl rfl (cell_one_new _ _ _) (ints_oneCell .i64 [X - C + 65536]) (by decide) (by unfold maxLen; omega) (by omega) (by simp; omega) _ rfl ?_; intro g' cap' w4 hown4 hgrow4 hat4 hlt4)
          go_roundw
          case rel => exact HN.out _ w4 g' cap' hown4 ((Below.refl _ _).alloc (Nat.le_refl _) _) hgrow4
          case measure => simp [intOf]; omega
        · have HN : Hid _ := fun w2 w4 g' cap' => rsub_next (l := lu) (c := 0) (x := X - C) (w2 := w2) (w4 := w4) (g' := g') (cap' := cap') (by omega) (Or.inl ⟨by rw [hC, hX, hY0]; omega, by omega, rfl⟩) hown hbel
          rw [hC]
          clear hC hX hY hY0
          go_wp2_with (at_builtin; refine wpList_append_lies _ rfl (.tmp 36) (.tmp 38) 25 rfl w.heap.size 3 i0 (.int .i64 0) 1 8 Tryd.underlying25 hi0 hz0 hz1 hz2 rfl (by decide) (.slice ao k cap) (k) (hf.dcells k ((u : Int) - v)) rfl (World.ownsRow.alloc hown _) ⟨wr.heap.size, 0, none⟩ 1 1 [.int .i64 (X - C)] rfl rfl (cell_one_new _ _ _) (ints_oneCell .i64 [X - C]) (by decide) (by unfold maxLen; omega) (by omega) (by simp; omega) _ rfl ?_; intro g' cap' w4 hown4 hgrow4 hat4 hlt4)
          go_roundw
          case rel => exact HN.out _ w4 g' cap' hown4 ((Below.refl _ _).alloc (Nat.le_refl _) _) hgrow4
          case measure => simp [intOf]; omega
    · obtain rfl : k = lu := by omega
      rw [HE.out] at hown
      clear hC hX hY
      go_wp2_with (go_at_call 33; refine (rtrim_own _ _ _ (u - v) _ _ hown HS.out).mono ?_; rintro e w' ⟨rfl, hw, hown5⟩; subst hw)
      go_ret
      exact ⟨_, cap, rfl, hown5, hbel⟩
end Go.Proofs.YteoepelmapjhcaaDoor
