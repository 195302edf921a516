/-
  Joined texts, part 3:
  What zelligeref03's Cmp, Add and Sub answer.
  What zelligeref03's Mul answers.
  The laws' own cut of a number: some number of twenty words at most, in memory of its own.
  Decimal digits of numbers of any length, and bytes of texts as numbers. It imports nothing of the program.
  What nat's divideByWord answers.
  Numbers as digits to the base 1000000000: which digits a sum, a difference, a product has. It imports nothing of the program.
  How many digits a number needs, to the base 1000000000, and its digits without noughts at the end. It imports nothing of the program.
  What nat's piecesOf answers.
  strings.TrimLeft at the cutset "0".
  What nat's Show answers.
-/
import Derived.Test.YtjdphcdpgjdmkaaDoorP2
import Derived.WalkKit
import Derived.Laws.BytesArg
import Derived.Test.YtjdphcdpgjdmkaaDoorP1
import Derived.Deep.AppendLies
import Derived.Lib.IndexBytes
namespace Go.Proofs.YtjdphcdpgjdmkaaDoor
open Go.RowKit
set_option linter.unusedVariables false

theorem hf_top_eq {u v m k : Nat} (hk : k ≤ m) (hu : u < 65536 ^ m) (hv : v < 65536 ^ m) (h : ∀ j, k ≤ j → j < m → hf.dg (u : Int) j = hf.dg (v : Int) j) : u / 65536 ^ k = v / 65536 ^ k := by
  have hlt : ∀ x : Nat, x < 65536 ^ m → x / 65536 ^ k < 65536 ^ (m - k) := fun x hx => by
    refine Nat.div_lt_of_lt_mul ?_
    rw [← Nat.pow_add, show k + (m - k) = m by omega]
    exact hx
  refine hf.eq_of_dcells (m - k) _ _ (hlt u hu) (hlt v hv) fun j hj => ?_
  rw [Int.natCast_ediv, Int.natCast_ediv, hf.pow_cast, hf.dg_div, hf.dg_div]
  exact h _ (by omega) (by omega)
theorem cmpI_lt {x y : Int} (h : x < y) : cmpI x y = -1 := by unfold cmpI; rw [if_pos h]
theorem cmpI_gt {x y : Int} (h : y < x) : cmpI x y = 1 := by unfold cmpI; rw [if_neg (by omega), if_pos h]

set_option maxRecDepth 100000 in
set_option maxHeartbeats 1000000 in
theorem rcmp_any (a b : Option Addr) (ca cb u v : Nat) (w : World) (ha : Sl w a (hf.nlen u) ca (hf.dcells (hf.nlen u) (u : Int))) (hb : Sl w b (hf.nlen v) cb (hf.dcells (hf.nlen v) (v : Int))) :
    Calls Tryd.prog 22 #[.slice a (hf.nlen u) ca, .slice b (hf.nlen v) cb] w fun e w' => e = .returned (.int .i64 (cmpI u v)) ∧ Below w.heap.size w w' := by
  have k1 := ha.big
  have k2 := ha.room
  have k3 := hb.big
  have k4 := hb.room
  unfold maxLen at k1 k3
  rcases Nat.lt_trichotomy (hf.nlen u) (hf.nlen v) with h | h | h
  · have HC : Hid (cmpI u v = -1) := cmpI_lt (by have := hf.lt_of_nlen h; omega)
    go_enter Tryd.func22, Tryd.ntmps22
    go_wp2
    go_ret
    exact ⟨by rw [HC.out]; rfl, (by first | exact Below.refl _ _ | exact below_drewN (Below.refl _ _) _ | exact below_drewN (below_drewN (Below.refl _ _) _) _ | exact below_drewN (below_drewN (below_drewN (Below.refl _ _) _) _) _)⟩
  · obtain ⟨m, hm⟩ : ∃ m, hf.nlen u = m := ⟨_, rfl⟩
    have hv := hf.nlen_lt v
    have hu := hf.nlen_lt u
    rw [← h] at hb hv k4 ⊢
    rw [hm] at ha hb hu hv k2 k4 ⊢
    have HU : Hid _ := hu
    have HV : Hid _ := hv
    clear hm hu hv h
    go_enter Tryd.func22, Tryd.ntmps22
    go_wp2
    go_loopw [5] (fun i wr => ∃ r : Nat, r ≤ m ∧ i = .int .i64 ((r : Int) - 1) ∧ Hid (∀ j, r ≤ j → j < m → hf.dg (u : Int) j = hf.dg (v : Int) j) ∧ ∃ n, wr = w.drewN n) (fun i _ => (intOf i + 1).toNat)
    case atStart => exact ⟨m, Nat.le_refl _, rfl, fun j h1 h2 => absurd h1 (by omega), 0, rfl⟩
    case round =>
      obtain ⟨r, hr, rfl, HR, n, rfl⟩ := hrel
      rcases r with _ | q
      · have HE : Hid (cmpI u v = 0) := by
          obtain rfl : u = v := hf.eq_of_dcells m u v HU.out HV.out (fun j hj => HR.out j (Nat.zero_le _) hj)
          exact cmpI_self _
        go_wp2
        go_ret
        exact ⟨by rw [HE.out]; rfl, (by first | exact Below.refl _ _ | exact below_drewN (Below.refl _ _) _ | exact below_drewN (below_drewN (Below.refl _ _) _) _ | exact below_drewN (below_drewN (below_drewN (Below.refl _ _) _) _) _)⟩
      · obtain ⟨ba, oa, rfl, hba, hsa⟩ := ha.at (by omega)
        obtain ⟨bb, ob, rfl, hbb, hsb⟩ := hb.at (by omega)
        have c1 : w.cell? ⟨ba, oa + q, none⟩ = some (.int .i64 (hf.dg u q)) := hsa.cell q _ (hf.dcells_at _ _ _ (by omega))
        have c2 : w.cell? ⟨bb, ob + q, none⟩ = some (.int .i64 (hf.dg v q)) := hsb.cell q _ (hf.dcells_at _ _ _ (by omega))
        have HT : Hid (u / 65536 ^ (q + 1) = v / 65536 ^ (q + 1)) := hf_top_eq (by omega) HU.out HV.out HR.out
        have e1 : ((q + 1 : Nat) : Int) - 1 = (q : Int) := by omega
        obtain ⟨X, hX⟩ : ∃ X, hf.dg (u : Int) q = X := ⟨_, rfl⟩
        obtain ⟨Y, hY⟩ : ∃ Y, hf.dg (v : Int) q = Y := ⟨_, rfl⟩
        rcases Int.lt_trichotomy X Y with l | l | l
        · have HC : Hid (cmpI u v = -1) := cmpI_lt (by have := hf.lt_of_top HT.out (by rw [hX, hY]; exact l); omega)
          rw [hX] at c1
          rw [hY] at c2
          clear hX hY
          go_wp2
          go_quiet (fail)
          go_wp2
          go_ret
          exact ⟨by rw [HC.out]; rfl, (by first | exact Below.refl _ _ | exact below_drewN (Below.refl _ _) _ | exact below_drewN (below_drewN (Below.refl _ _) _) _ | exact below_drewN (below_drewN (below_drewN (Below.refl _ _) _) _) _)⟩
        · have HQ : Hid (∀ j, q ≤ j → j < m → hf.dg (u : Int) j = hf.dg (v : Int) j) := fun j h1 h2 => by
            rcases Nat.lt_or_ge q j with h3 | h3
            · exact HR.out j h3 h2
            · obtain rfl : j = q := by omega
              rw [hX, hY, l]
          have l1 : ¬ X < Y := by omega
          have l2 : ¬ Y < X := by omega
          rw [hX] at c1
          rw [hY] at c2
          clear hX hY l
          go_wp2
          go_quiet (fail)
          go_wp2
          go_quiet (fail)
          go_wp2
          go_roundw
          case rel => exact ⟨q, by omega, by go_num, HQ.out, _, rfl⟩
          case measure => simp [intOf]
        · have HC : Hid (cmpI u v = 1) := cmpI_gt (by have := hf.lt_of_top HT.out.symm (by rw [hX, hY]; exact l); omega)
          have l1 : ¬ X < Y := by omega
          rw [hX] at c1
          rw [hY] at c2
          clear hX hY
          go_wp2
          go_quiet (fail)
          go_wp2
          go_quiet (fail)
          go_wp2
          go_ret
          exact ⟨by rw [HC.out]; rfl, (by first | exact Below.refl _ _ | exact below_drewN (Below.refl _ _) _ | exact below_drewN (below_drewN (Below.refl _ _) _) _ | exact below_drewN (below_drewN (below_drewN (Below.refl _ _) _) _) _)⟩
  · have HC : Hid (cmpI u v = 1) := cmpI_gt (by have := hf.lt_of_nlen h; omega)
    have h' : ¬ (hf.nlen u : Int) < hf.nlen v := by omega
    go_enter Tryd.func22, Tryd.ntmps22
    go_wp2
    go_ret
    exact ⟨by rw [HC.out]; rfl, (by first | exact Below.refl _ _ | exact below_drewN (Below.refl _ _) _ | exact below_drewN (below_drewN (Below.refl _ _) _) _ | exact below_drewN (below_drewN (below_drewN (Below.refl _ _) _) _) _)⟩

/-- One digit more behind those that one has. -/
theorem push_next {w wr w2 w4 : World} {k cap cap' g' : Nat} {a : Option Addr} {V x : Int} (hx : x = hf.dg V k) (hown : Own wr w.heap.size 3 a k cap (hf.dcells k V)) (hbel : Below w.heap.size w wr)
    (h4 : w4.ownsRow w.heap.size 3 1 (.slice (some ⟨g', 0, none⟩) (k + 1) cap') (k + 1) (hf.dcells k V ++ [.int .i64 x]))
    (h2 : Below wr.heap.size wr w2) (hgr : w2.grownBy w4 (Value.slice a k cap).ownBlock) : Own w4 w.heap.size 3 (some ⟨g', 0, none⟩) (k + 1) cap' (hf.dcells (k + 1) V) ∧ Below w.heap.size w w4 := by
  have hs := hbel.size
  refine ⟨?_, (hbel.trans (h2.mono hs)).grown hgr (by have := h2.size; omega) (fun k' hk' => (World.ownsRow.lt hown k' hk').1)⟩
  rw [hf.dcells_succ, ← hx]
  exact h4
/-- What holds at the head of each round of the sum's loop. -/
def RAddRel (w : World) (u v l : Nat) (o c i : Value) (wr : World) : Prop := ∃ (k cap : Nat) (ao : Option Addr), k ≤ l ∧ i = .int .i64 (k : Int) ∧ c = .int .i64 (hf.carry u v k) ∧ o = .slice ao k cap ∧ Own wr w.heap.size 3 ao k cap (hf.dcells k ((u : Int) + v)) ∧ Below w.heap.size w wr
theorem radd_next {w wr w2 w4 : World} {u v l k cap cap' g' : Nat} {ao : Option Addr} {x : Int} (hk : k < l) (hx : x = hf.carry u v k + hf.dg u k + hf.dg v k) (hown : Own wr w.heap.size 3 ao k cap (hf.dcells k ((u : Int) + v))) (hbel : Below w.heap.size w wr)
    (h4 : w4.ownsRow w.heap.size 3 1 (.slice (some ⟨g', 0, none⟩) (k + 1) cap') (k + 1) (hf.dcells k ((u : Int) + v) ++ [.int .i64 (x % 65536)]))
    (h2 : Below wr.heap.size wr w2) (hgr : w2.grownBy w4 (Value.slice ao k cap).ownBlock) : RAddRel w u v l (.slice (some ⟨g', 0, none⟩) (k + 1) cap') (.int .i64 (x / 65536)) (.int .i64 ((k : Int) + 1)) w4 := by
  obtain ⟨h5, h6⟩ := push_next (x := x % 65536) (by rw [hx, hf.add_digit]) hown hbel h4 h2 hgr
  exact ⟨k + 1, cap', _, hk, by simp, by rw [hf.carry_succ, hx], rfl, h5, h6⟩

set_option maxRecDepth 100000 in
set_option maxHeartbeats 2000000 in
theorem radd_any (a b : Option Addr) (ca cb u v : Nat) (w : World) (ha : Sl w a (hf.nlen u) ca (hf.dcells (hf.nlen u) (u : Int))) (hb : Sl w b (hf.nlen v) cb (hf.dcells (hf.nlen v) (v : Int))) (hlu : hf.nlen u ≤ 1000000000) (hlv : hf.nlen v ≤ 1000000000) :
    Calls Tryd.prog 24 #[.slice a (hf.nlen u) ca, .slice b (hf.nlen v) cb] w fun e w' => ∃ a' cap', e = .returned (.slice a' (hf.nlen (u + v)) cap') ∧ Own w' w.heap.size 3 a' (hf.nlen (u + v)) cap' (hf.dcells (hf.nlen (u + v)) ((u + v : Nat) : Int)) ∧ Below w.heap.size w w' := by
  obtain ⟨i0, hi0, hz0, hz1, hz2⟩ := info_parts infoInt
  have hown0 := own_empty w w.heap.size 3 (Nat.le_refl _)
  have hu := hf.nlen_lt u
  have hv := hf.nlen_lt v
  obtain ⟨lu, hlu'⟩ : ∃ l, hf.nlen u = l := ⟨_, rfl⟩
  obtain ⟨lv, hlv'⟩ : ∃ l, hf.nlen v = l := ⟨_, rfl⟩
  rw [hlu'] at ha hlu hu ⊢
  rw [hlv'] at hb hlv hv ⊢
  obtain ⟨L, hL1, hL2, hL3⟩ : ∃ L, lu ≤ L ∧ lv ≤ L ∧ (L ≤ lu ∨ L ≤ lv) := ⟨max lu lv, by omega, by omega, by omega⟩
  have HU : Hid (∀ k, lu ≤ k → hf.dg (u : Int) k = 0) := fun k hk => hf.dg_over (Nat.lt_of_lt_of_le hu (Nat.pow_le_pow_right (by decide) hk))
  have HV : Hid (∀ k, lv ≤ k → hf.dg (v : Int) k = 0) := fun k hk => hf.dg_over (Nat.lt_of_lt_of_le hv (Nat.pow_le_pow_right (by decide) hk))
  have HS : Hid (u + v < 65536 ^ (L + 1)) := by
    have h1 := Nat.pow_le_pow_right (n := 65536) (by decide) hL1
    have h2 := Nat.pow_le_pow_right (n := 65536) (by decide) hL2
    unfold Hid
    rw [Nat.pow_succ]; omega
  have HE : Hid ((u : Int) + v = ((u + v : Nat) : Int)) := by unfold Hid; omega
  clear hu hv hlu' hlv'
  go_enter Tryd.func24, Tryd.ntmps24
  go_wp2
  go_loopw [5, 6, 7] (fun o c i wr => RAddRel w u v L o c i wr) (fun _ _ i _ => L - (intOf i).toNat)
  case atStart => exact ⟨0, 0, _, by omega, rfl, by rw [hf.carry_zero], rfl, hown0, (Below.refl _ _).alloc (Nat.le_refl _) _⟩
  case round =>
    clear hown0
    obtain ⟨k, cap, ao, hk, rfl, rfl, rfl, hown, hbel⟩ := hrel
    have hsz := hbel.size
    obtain ⟨f0, f1⟩ := hf.carry_range u v k
    obtain ⟨d0, d1⟩ := hf.dg_range u k
    obtain ⟨e0, e1⟩ := hf.dg_range v k
    obtain ⟨C, hC⟩ : ∃ C, hf.carry (u : Int) v k = C := ⟨_, rfl⟩
    obtain ⟨X, hX⟩ : ∃ X, hf.dg (u : Int) k = X := ⟨_, rfl⟩
    obtain ⟨Y, hY⟩ : ∃ Y, hf.dg (v : Int) k = Y := ⟨_, rfl⟩
    rw [hC] at f0 f1
    rw [hX] at d0 d1
    rw [hY] at e0 e1
    by_cases h1 : k < lu
    · obtain ⟨ba, oa, rfl, hba, hsa⟩ := ha.at (by omega)
      have r1 := ha.room
      have c1 : wr.cell? ⟨ba, oa + k, none⟩ = some (.int .i64 X) := (hbel.cell (p := ⟨ba, oa + k, none⟩) hba).trans (by rw [← hX]; exact hsa.cell k _ (hf.dcells_at _ _ _ h1))
      by_cases h2 : k < lv
      · obtain ⟨bb, ob, rfl, hbb, hsb⟩ := hb.at (by omega)
        have r2 := hb.room
        have c2 : wr.cell? ⟨bb, ob + k, none⟩ = some (.int .i64 Y) := (hbel.cell (p := ⟨bb, ob + k, none⟩) hbb).trans (by rw [← hY]; exact hsb.cell k _ (hf.dcells_at _ _ _ h2))
        have HN : Hid _ := fun w2 w4 g' cap' => radd_next (l := L) (x := C + X + Y) (w2 := w2) (w4 := w4) (g' := g') (cap' := cap') (by omega) (by rw [hC, hX, hY]) hown hbel
        rw [hC]
        clear hC hX hY
        go_wp2_with (at_builtin; refine wpList_append_lies _ rfl (.tmp 41) (.tmp 44) 27 rfl w.heap.size 3 i0 (.int .i64 0) 1 8 Tryd.underlying27 hi0 hz0 hz1 hz2 rfl (by decide) (.slice ao k cap) (k) (hf.dcells k ((u : Int) + v)) rfl (World.ownsRow.alloc hown _) ⟨wr.heap.size, 0, none⟩ 1 1 [.int .i64 ((C + X + Y) % 65536)] rfl rfl (cell_one_new _ _ _) (ints_oneCell .i64 [(C + X + Y) % 65536]) (by decide) (by unfold maxLen; omega) (by omega) (by simp; omega) _ rfl ?_; intro g' cap' w4 hown4 hgrow4 hat4 hlt4)
        go_roundw
        case rel => exact HN.out _ w4 g' cap' hown4 ((Below.refl _ _).alloc (Nat.le_refl _) _) hgrow4
        case measure => simp [intOf]; omega
      · have HN : Hid _ := fun w2 w4 g' cap' => radd_next (l := L) (x := C + X) (w2 := w2) (w4 := w4) (g' := g') (cap' := cap') (by omega) (by rw [hC, hX, HV.out k (by omega)]; omega) hown hbel
        have h2' : ¬ (k : Int) < lv := by omega
        rw [hC]
        clear hC hX hY
        go_wp2_with (at_builtin; refine wpList_append_lies _ rfl (.tmp 41) (.tmp 44) 27 rfl w.heap.size 3 i0 (.int .i64 0) 1 8 Tryd.underlying27 hi0 hz0 hz1 hz2 rfl (by decide) (.slice ao k cap) (k) (hf.dcells k ((u : Int) + v)) rfl (World.ownsRow.alloc hown _) ⟨wr.heap.size, 0, none⟩ 1 1 [.int .i64 ((C + X) % 65536)] rfl rfl (cell_one_new _ _ _) (ints_oneCell .i64 [(C + X) % 65536]) (by decide) (by unfold maxLen; omega) (by omega) (by simp; omega) _ rfl ?_; intro g' cap' w4 hown4 hgrow4 hat4 hlt4)
        go_roundw
        case rel => exact HN.out _ w4 g' cap' hown4 ((Below.refl _ _).alloc (Nat.le_refl _) _) hgrow4
        case measure => simp [intOf]; omega
    · by_cases h2 : k < lv
      · obtain ⟨bb, ob, rfl, hbb, hsb⟩ := hb.at (by omega)
        have r2 := hb.room
        have c2 : wr.cell? ⟨bb, ob + k, none⟩ = some (.int .i64 Y) := (hbel.cell (p := ⟨bb, ob + k, none⟩) hbb).trans (by rw [← hY]; exact hsb.cell k _ (hf.dcells_at _ _ _ h2))
        have HN : Hid _ := fun w2 w4 g' cap' => radd_next (l := L) (x := C + Y) (w2 := w2) (w4 := w4) (g' := g') (cap' := cap') (by omega) (by rw [hC, hY, HU.out k (by omega)]; omega) hown hbel
        have h1' : ¬ (k : Int) < lu := by omega
        rw [hC]
        clear hC hX hY
        go_wp2_with (at_builtin; refine wpList_append_lies _ rfl (.tmp 41) (.tmp 44) 27 rfl w.heap.size 3 i0 (.int .i64 0) 1 8 Tryd.underlying27 hi0 hz0 hz1 hz2 rfl (by decide) (.slice ao k cap) (k) (hf.dcells k ((u : Int) + v)) rfl (World.ownsRow.alloc hown _) ⟨wr.heap.size, 0, none⟩ 1 1 [.int .i64 ((C + Y) % 65536)] rfl rfl (cell_one_new _ _ _) (ints_oneCell .i64 [(C + Y) % 65536]) (by decide) (by unfold maxLen; omega) (by omega) (by simp; omega) _ rfl ?_; intro g' cap' w4 hown4 hgrow4 hat4 hlt4)
        go_roundw
        case rel => exact HN.out _ w4 g' cap' hown4 ((Below.refl _ _).alloc (Nat.le_refl _) _) hgrow4
        case measure => simp [intOf]; omega
      · obtain rfl : k = L := by omega
        have HC2 : Hid (C = hf.dg ((u : Int) + v) k) := by
          have h := hf.add_digit u v k
          rw [hC, hX, hY] at h
          have hx0 := HU.out k (by omega)
          have hy0 := HV.out k (by omega)
          rw [hX] at hx0
          rw [hY] at hy0
          unfold Hid
          omega
        have h1' : ¬ (k : Int) < lu := by omega
        have h2' : ¬ (k : Int) < lv := by omega
        have HN : Hid _ := fun w2 w4 g' cap' => push_next (x := C) (w2 := w2) (w4 := w4) (g' := g') (cap' := cap') HC2.out hown hbel
        rw [hC]
        clear hC hX hY
        go_wp2_with (first
          | (at_builtin; refine wpList_append_lies _ rfl (.tmp 48) (.tmp 50) 27 rfl w.heap.size 3 i0 (.int .i64 0) 1 8 Tryd.underlying27 hi0 hz0 hz1 hz2 rfl (by decide) (.slice ao k cap) (k) (hf.dcells k ((u : Int) + v)) rfl (World.ownsRow.alloc hown _) ⟨wr.heap.size, 0, none⟩ 1 1 [.int .i64 (C)] rfl rfl (cell_one_new _ _ _) (ints_oneCell .i64 [C]) (by decide) (by unfold maxLen; omega) (by omega) (by simp; omega) _ rfl ?_; intro g' cap' w4 hown4 hgrow4 hat4 hlt4)
          | (go_at_call 26; have hnx := HN.out _ w4 g' cap' hown4 ((Below.refl _ _).alloc (Nat.le_refl _) _) hgrow4; rw [HE.out] at hnx; refine (rtrim_own _ _ _ (u + v) _ _ hnx.1 HS.out).mono ?_; rintro e w' ⟨rfl, hw, hown5⟩; subst hw))
        go_ret
        exact ⟨_, cap', rfl, hown5, hnx.2⟩

/-- What holds at the head of each round of the difference's loop. -/
def RSubRel (w : World) (u v l : Nat) (o c i : Value) (wr : World) : Prop := ∃ (k cap : Nat) (ao : Option Addr), k ≤ l ∧ i = .int .i64 (k : Int) ∧ c = .int .i64 (hf.bw u v k) ∧ o = .slice ao k cap ∧ Own wr w.heap.size 3 ao k cap (hf.dcells k ((u : Int) - v)) ∧ Below w.heap.size w wr
theorem rsub_next {w wr w2 w4 : World} {u v l k cap cap' g' : Nat} {ao : Option Addr} {x c : Int} (hk : k < l) (hx : (x = hf.dg u k - hf.dg v k - hf.bw u v k ∧ 0 ≤ x ∧ c = 0) ∨ (x = hf.dg u k - hf.dg v k - hf.bw u v k + 65536 ∧ x < 65536 ∧ c = 1)) (hown : Own wr w.heap.size 3 ao k cap (hf.dcells k ((u : Int) - v))) (hbel : Below w.heap.size w wr)
    (h4 : w4.ownsRow w.heap.size 3 1 (.slice (some ⟨g', 0, none⟩) (k + 1) cap') (k + 1) (hf.dcells k ((u : Int) - v) ++ [.int .i64 x]))
    (h2 : Below wr.heap.size wr w2) (hgr : w2.grownBy w4 (Value.slice ao k cap).ownBlock) : RSubRel w u v l (.slice (some ⟨g', 0, none⟩) (k + 1) cap') (.int .i64 c) (.int .i64 ((k : Int) + 1)) w4 := by
  have d := hf.dg_range u k
  have e := hf.dg_range v k
  have f := hf.bw_range u v k
  have hd := hf.sub_digit u v k
  have hb := hf.bw_succ u v k
  obtain ⟨h5, h6⟩ := push_next (x := x) (by rw [← hd]; omega) hown hbel h4 h2 hgr
  refine ⟨k + 1, cap', _, hk, by simp, ?_, rfl, h5, h6⟩
  rw [← hb]
  unfold hf.bor
  rcases hx with ⟨h, h0, rfl⟩ | ⟨h, h0, rfl⟩
  · rw [if_neg (by omega)]
  · rw [if_pos (by omega)]
set_option maxRecDepth 100000 in
set_option maxHeartbeats 2000000 in
theorem rsub_any (a b : Option Addr) (ca cb u v : Nat) (w : World) (ha : Sl w a (hf.nlen u) ca (hf.dcells (hf.nlen u) (u : Int))) (hb : Sl w b (hf.nlen v) cb (hf.dcells (hf.nlen v) (v : Int))) (hlu : hf.nlen u ≤ 1000000000) (hlv : hf.nlen v ≤ 1000000000) (hle : v ≤ u) :
    Calls Tryd.prog 23 #[.slice a (hf.nlen u) ca, .slice b (hf.nlen v) cb] w fun e w' => ∃ a' cap', e = .returned (.slice a' (hf.nlen (u - v)) cap') ∧ Own w' w.heap.size 3 a' (hf.nlen (u - v)) cap' (hf.dcells (hf.nlen (u - v)) ((u - v : Nat) : Int)) ∧ Below w.heap.size w w' := by
  obtain ⟨i0, hi0, hz0, hz1, hz2⟩ := info_parts infoInt
  have hown0 := own_empty w w.heap.size 3 (Nat.le_refl _)
  have hu := hf.nlen_lt u
  have hv := hf.nlen_lt v
  obtain ⟨lu, hlu'⟩ : ∃ l, hf.nlen u = l := ⟨_, rfl⟩
  obtain ⟨lv, hlv'⟩ : ∃ l, hf.nlen v = l := ⟨_, rfl⟩
  rw [hlu'] at ha hlu hu ⊢
  rw [hlv'] at hb hlv hv ⊢
  have HV : Hid (∀ k, lv ≤ k → hf.dg (v : Int) k = 0) := fun k hk => hf.dg_over (Nat.lt_of_lt_of_le hv (Nat.pow_le_pow_right (by decide) hk))
  have HS : Hid (u - v < 65536 ^ lu) := by unfold Hid; omega
  have HE : Hid ((u : Int) - v = ((u - v : Nat) : Int)) := by unfold Hid; omega
  clear hu hv hlu' hlv' hle
  go_enter Tryd.func23, Tryd.ntmps23
  go_wp2
  go_loopw [5, 6, 7] (fun o c i wr => RSubRel w u v lu o c i wr) (fun _ _ i _ => lu - (intOf i).toNat)
  case atStart => exact ⟨0, 0, _, by omega, rfl, by rw [hf.bw_zero], rfl, hown0, (Below.refl _ _).alloc (Nat.le_refl _) _⟩
  case round =>
    clear hown0
    obtain ⟨k, cap, ao, hk, rfl, rfl, rfl, hown, hbel⟩ := hrel
    have hsz := hbel.size
    obtain ⟨f0, f1⟩ := hf.bw_range u v k
    obtain ⟨d0, d1⟩ := hf.dg_range u k
    obtain ⟨e0, e1⟩ := hf.dg_range v k
    obtain ⟨C, hC⟩ : ∃ C, hf.bw (u : Int) v k = C := ⟨_, rfl⟩
    obtain ⟨X, hX⟩ : ∃ X, hf.dg (u : Int) k = X := ⟨_, rfl⟩
    obtain ⟨Y, hY⟩ : ∃ Y, hf.dg (v : Int) k = Y := ⟨_, rfl⟩
    rw [hC] at f0 f1
    rw [hX] at d0 d1
    rw [hY] at e0 e1
    by_cases h1 : k < lu
    · obtain ⟨ba, oa, rfl, hba, hsa⟩ := ha.at (by omega)
      have r1 := ha.room
      have c1 : wr.cell? ⟨ba, oa + k, none⟩ = some (.int .i64 X) := (hbel.cell (p := ⟨ba, oa + k, none⟩) hba).trans (by rw [← hX]; exact hsa.cell k _ (hf.dcells_at _ _ _ h1))
      by_cases h2 : k < lv
      · obtain ⟨bb, ob, rfl, hbb, hsb⟩ := hb.at (by omega)
        have r2 := hb.room
        have c2 : wr.cell? ⟨bb, ob + k, none⟩ = some (.int .i64 Y) := (hbel.cell (p := ⟨bb, ob + k, none⟩) hbb).trans (by rw [← hY]; exact hsb.cell k _ (hf.dcells_at _ _ _ h2))
        by_cases hn : X - C - Y < 0
        · have HN : Hid _ := fun w2 w4 g' cap' => rsub_next (l := lu) (c := 1) (x := X - C - Y + 65536) (w2 := w2) (w4 := w4) (g' := g') (cap' := cap') (by omega) (Or.inr ⟨by rw [hC, hX, hY]; omega, by omega, rfl⟩) hown hbel
          rw [hC]
          clear hC hX hY
          go_wp2_with (at_builtin; refine wpList_append_lies _ rfl (.tmp 36) (.tmp 38) 27 rfl w.heap.size 3 i0 (.int .i64 0) 1 8 Tryd.underlying27 hi0 hz0 hz1 hz2 rfl (by decide) (.slice ao k cap) (k) (hf.dcells k ((u : Int) - v)) rfl (World.ownsRow.alloc hown _) ⟨wr.heap.size, 0, none⟩ 1 1 [.int .i64 (X - C - Y + 65536)] rfl rfl (cell_one_new _ _ _) (ints_oneCell .i64 [X - C - Y + 65536]) (by decide) (by unfold maxLen; omega) (by omega) (by simp; omega) _ rfl ?_; intro g' cap' w4 hown4 hgrow4 hat4 hlt4)
          go_roundw
          case rel => exact HN.out _ w4 g' cap' hown4 ((Below.refl _ _).alloc (Nat.le_refl _) _) hgrow4
          case measure => simp [intOf]; omega
        · have HN : Hid _ := fun w2 w4 g' cap' => rsub_next (l := lu) (c := 0) (x := X - C - Y) (w2 := w2) (w4 := w4) (g' := g') (cap' := cap') (by omega) (Or.inl ⟨by rw [hC, hX, hY]; omega, by omega, rfl⟩) hown hbel
          rw [hC]
          clear hC hX hY
          go_wp2_with (at_builtin; refine wpList_append_lies _ rfl (.tmp 36) (.tmp 38) 27 rfl w.heap.size 3 i0 (.int .i64 0) 1 8 Tryd.underlying27 hi0 hz0 hz1 hz2 rfl (by decide) (.slice ao k cap) (k) (hf.dcells k ((u : Int) - v)) rfl (World.ownsRow.alloc hown _) ⟨wr.heap.size, 0, none⟩ 1 1 [.int .i64 (X - C - Y)] rfl rfl (cell_one_new _ _ _) (ints_oneCell .i64 [X - C - Y]) (by decide) (by unfold maxLen; omega) (by omega) (by simp; omega) _ rfl ?_; intro g' cap' w4 hown4 hgrow4 hat4 hlt4)
          go_roundw
          case rel => exact HN.out _ w4 g' cap' hown4 ((Below.refl _ _).alloc (Nat.le_refl _) _) hgrow4
          case measure => simp [intOf]; omega
      · have h2' : ¬ (k : Int) < lv := by omega
        have hY0 := HV.out k (by omega)
        by_cases hn : X - C < 0
        · have HN : Hid _ := fun w2 w4 g' cap' => rsub_next (l := lu) (c := 1) (x := X - C + 65536) (w2 := w2) (w4 := w4) (g' := g') (cap' := cap') (by omega) (Or.inr ⟨by rw [hC, hX, hY0]; omega, by omega, rfl⟩) hown hbel
          rw [hC]
          clear hC hX hY hY0
          go_wp2_with (at_builtin; refine wpList_append_lies _ rfl (.tmp 36) (.tmp 38) 27 rfl w.heap.size 3 i0 (.int .i64 0) 1 8 Tryd.underlying27 hi0 hz0 hz1 hz2 rfl (by decide) (.slice ao k cap) (k) (hf.dcells k ((u : Int) - v)) rfl (World.ownsRow.alloc hown _) ⟨wr.heap.size, 0, none⟩ 1 1 [.int .i64 (X - C + 65536)] rfl rfl (cell_one_new _ _ _) (ints_oneCell .i64 [X - C + 65536]) (by decide) (by unfold maxLen; omega) (by omega) (by simp; omega) _ rfl ?_; intro g' cap' w4 hown4 hgrow4 hat4 hlt4)
          go_roundw
          case rel => exact HN.out _ w4 g' cap' hown4 ((Below.refl _ _).alloc (Nat.le_refl _) _) hgrow4
          case measure => simp [intOf]; omega
        · have HN : Hid _ := fun w2 w4 g' cap' => rsub_next (l := lu) (c := 0) (x := X - C) (w2 := w2) (w4 := w4) (g' := g') (cap' := cap') (by omega) (Or.inl ⟨by rw [hC, hX, hY0]; omega, by omega, rfl⟩) hown hbel
          rw [hC]
          clear hC hX hY hY0
          go_wp2_with (at_builtin; refine wpList_append_lies _ rfl (.tmp 36) (.tmp 38) 27 rfl w.heap.size 3 i0 (.int .i64 0) 1 8 Tryd.underlying27 hi0 hz0 hz1 hz2 rfl (by decide) (.slice ao k cap) (k) (hf.dcells k ((u : Int) - v)) rfl (World.ownsRow.alloc hown _) ⟨wr.heap.size, 0, none⟩ 1 1 [.int .i64 (X - C)] rfl rfl (cell_one_new _ _ _) (ints_oneCell .i64 [X - C]) (by decide) (by unfold maxLen; omega) (by omega) (by simp; omega) _ rfl ?_; intro g' cap' w4 hown4 hgrow4 hat4 hlt4)
          go_roundw
          case rel => exact HN.out _ w4 g' cap' hown4 ((Below.refl _ _).alloc (Nat.le_refl _) _) hgrow4
          case measure => simp [intOf]; omega
    · obtain rfl : k = lu := by omega
      rw [HE.out] at hown
      clear hC hX hY
      go_wp2_with (go_at_call 26; refine (rtrim_own _ _ _ (u - v) _ _ hown HS.out).mono ?_; rintro e w' ⟨rfl, hw, hown5⟩; subst hw)
      go_ret
      exact ⟨_, cap, rfl, hown5, hbel⟩
end Go.Proofs.YtjdphcdpgjdmkaaDoor

namespace Go.Proofs.YtjdphcdpgjdmkaaDoor
open Go.RowKit
set_option linter.unusedVariables false

/-- What holds at the head of each round of the inner loop. -/
def RMulIn (w : World) (b N lv i : Nat) (O x v : Int) (c kv : Value) (wr : World) : Prop := ∃ k : Nat, k ≤ lv ∧ kv = .int .i64 (k : Int) ∧ c = .int .i64 (hf.cy O x v i k) ∧ Own wr w.heap.size 3 (some ⟨b, 0, none⟩) N N (hf.mix N (i + k) (O + x * 65536 ^ i * v) O) ∧ Below w.heap.size w wr
theorem rmul_next {w wr : World} {b N lv i k n : Nat} {O x v t : Int} (hk : k < lv) (hN : i + lv ≤ N) (ht : t = hf.cy O x v i k + hf.dg O (i + k) + x * hf.dg v k) (hown : Own wr w.heap.size 3 (some ⟨b, 0, none⟩) N N (hf.mix N (i + k) (O + x * 65536 ^ i * v) O)) (hbel : Below w.heap.size w wr) :
    RMulIn w b N lv i O x v (.int .i64 (t / 65536)) (.int .i64 ((k : Int) + 1)) ((wr.drewN n).setCell ⟨b, i + k, none⟩ (.int .i64 (t % 65536))) := by
  have hown' : Own (wr.drewN n) w.heap.size 3 (some ⟨b, 0, none⟩) N N (hf.mix N (i + k) (O + x * 65536 ^ i * v) O) := hown
  refine ⟨k + 1, hk, by simp, by rw [ht, hf.cy_succ], ?_, (below_drewN hbel n).setCell (seg_of_own hown).2.2 _⟩
  rw [ht, hf.mul_digit, ← Nat.add_assoc, ← hf.mix_set]
  exact Own.set hown' _ (by omega)
/-- What holds at the head of each round of the outer loop. -/
def RMulOut (w : World) (b lu lv u v : Nat) (iv : Value) (wr : World) : Prop := ∃ i : Nat, i ≤ lu ∧ iv = .int .i64 (i : Int) ∧ Own wr w.heap.size 3 (some ⟨b, 0, none⟩) (lu + lv) (lu + lv) (hf.dcells (lu + lv) ((u % 65536 ^ i * v : Nat) : Int)) ∧ Below w.heap.size w wr
theorem hpart_lt {u v k lb : Nat} (hv : v < 65536 ^ lb) : u % 65536 ^ k * v < 65536 ^ (k + lb) := by
  rw [Nat.pow_add]
  exact Nat.mul_lt_mul_of_lt_of_le (Nat.mod_lt _ (hf.pow_nat k)) (Nat.le_of_lt hv) (hf.pow_nat lb)
theorem hpart_next (u v k : Nat) : ((u % 65536 ^ k * v : Nat) : Int) + hf.dg u k * 65536 ^ k * v = ((u % 65536 ^ (k + 1) * v : Nat) : Int) := by
  rw [Int.natCast_mul, Int.natCast_mul, Int.natCast_emod, Int.natCast_emod, hf.pow_cast, hf.pow_cast]
  exact hf.mul_next u v k
theorem rmul_last {w wr : World} {b lu lv u v i : Nat} {c O X : Int} (hO : O = ((u % 65536 ^ i * v : Nat) : Int)) (hX : X = hf.dg (u : Int) i) (hi : i < lu) (hv : v < 65536 ^ lv) (hc : c = hf.cy O X v i lv)
    (hown : Own wr w.heap.size 3 (some ⟨b, 0, none⟩) (lu + lv) (lu + lv) (hf.mix (lu + lv) (i + lv) (O + X * 65536 ^ i * v) O)) (hbel : Below w.heap.size w wr) :
    RMulOut w b lu lv u v (.int .i64 ((i : Int) + 1)) (wr.setCell ⟨b, i + lv, none⟩ (.int .i64 c)) := by
  subst hO hX
  refine ⟨i + 1, hi, by simp, ?_, hbel.setCell (seg_of_own hown).2.2 _⟩
  have hd := hf.mul_digit ((u % 65536 ^ i * v : Nat) : Int) (hf.dg u i) v i lv
  have h0 : hf.dg ((u % 65536 ^ i * v : Nat) : Int) (i + lv) = 0 := hf.dg_over (hpart_lt hv)
  have h1 : hf.dg (v : Int) lv = 0 := hf.dg_over hv
  have hr := hf.cy_range ((u % 65536 ^ i * v : Nat) : Int) (hf.dg u i) v i lv (hf.dg_range u i).1 (hf.dg_range u i).2
  rw [h0, h1, ← hc, Int.mul_zero] at hd
  rw [← hc] at hr
  have hc2 : c = hf.dg (((u % 65536 ^ i * v : Nat) : Int) + hf.dg u i * 65536 ^ i * v) (i + lv) := by rw [← hd]; omega
  have := Own.set hown (i := i + lv) (.int .i64 c) (by omega)
  rw [hc2, hf.mix_set] at this
  rw [hc2]
  have e : hf.mix (lu + lv) (i + lv + 1) (((u % 65536 ^ i * v : Nat) : Int) + hf.dg u i * 65536 ^ i * v) ((u % 65536 ^ i * v : Nat) : Int) = hf.dcells (lu + lv) ((u % 65536 ^ (i + 1) * v : Nat) : Int) := by
    rw [← hpart_next, ← hf.mix_full (lu + lv) (((u % 65536 ^ i * v : Nat) : Int) + hf.dg u i * 65536 ^ i * v) ((u % 65536 ^ i * v : Nat) : Int)]
    refine hf.fill_congr fun j hj => ?_
    by_cases h : j < i + lv + 1
    · simp [h, hj]
    · have z1 : hf.dg ((u % 65536 ^ i * v : Nat) : Int) j = 0 := hf.dg_over (Nat.lt_of_lt_of_le (hpart_lt hv) (Nat.pow_le_pow_right (by decide) (by omega)))
      have z2 : hf.dg (((u % 65536 ^ i * v : Nat) : Int) + hf.dg u i * 65536 ^ i * v) j = 0 := by
        rw [hpart_next]
        exact hf.dg_over (Nat.lt_of_lt_of_le (hpart_lt hv) (Nat.pow_le_pow_right (by decide) (by omega)))
      rw [z1, z2]; simp
  rw [← e]
  exact this

set_option maxRecDepth 100000 in
set_option maxHeartbeats 2000000 in
theorem rmul_any (a b : Option Addr) (ca cb u v : Nat) (w : World) (ha : Sl w a (hf.nlen u) ca (hf.dcells (hf.nlen u) (u : Int))) (hb : Sl w b (hf.nlen v) cb (hf.dcells (hf.nlen v) (v : Int))) (hlu : hf.nlen u ≤ 1000000000) (hlv : hf.nlen v ≤ 1000000000) :
    Calls Tryd.prog 25 #[.slice a (hf.nlen u) ca, .slice b (hf.nlen v) cb] w fun e w' => ∃ a' cap', e = .returned (.slice a' (hf.nlen (u * v)) cap') ∧ Own w' w.heap.size 3 a' (hf.nlen (u * v)) cap' (hf.dcells (hf.nlen (u * v)) ((u * v : Nat) : Int)) ∧ Below w.heap.size w w' := by
  obtain ⟨i0, hi0, hz0, hz1, hz2⟩ := info_parts infoInt
  have hu := hf.nlen_lt u
  have hv := hf.nlen_lt v
  obtain ⟨lu, hlu'⟩ : ∃ l, hf.nlen u = l := ⟨_, rfl⟩
  obtain ⟨lv, hlv'⟩ : ∃ l, hf.nlen v = l := ⟨_, rfl⟩
  rw [hlu'] at ha hlu hu ⊢
  rw [hlv'] at hb hlv hv ⊢
  have HM : Hid (u % 65536 ^ lu = u) := Nat.mod_eq_of_lt hu
  have HV : Hid _ := hv
  have HS : Hid (u * v < 65536 ^ (lu + lv)) := by have := hpart_lt (u := u) (k := lu) hv; rwa [HM.out] at this
  have hz0' : hf.dcells (lu + lv) 0 = List.replicate (lu + lv) (.int .i64 0) := hf.dcells_zero _
  have HZ : Hid _ := hz0'
  have hmax : lu + lv ≤ maxLen := by unfold maxLen; omega
  clear hu hv hlu' hlv' hz0'
  go_enter Tryd.func25, Tryd.ntmps25
  go_wp2_with (at_make; refine make_any _ rfl (.tmp 13) (.tmp 13) 27 rfl w.heap.size 3 i0 (.int .i64 0) Tryd.underlying27 hi0 hz0 hz1 rfl .i64 .i64 _ _ (lu + lv) rfl rfl (by simp) (by simp) (by rw [hz2]; omega) (by omega) (Nat.le_refl _) ?_; intro w1 hown hbel)
  rw [← HZ.out] at hown
  go_loopw [6] (fun iv wr => RMulOut w w.heap.size lu lv u v iv wr) (fun iv _ => lu - (intOf iv).toNat)
  case atStart => exact ⟨0, by omega, rfl, by rw [Nat.pow_zero, Nat.mod_one, Nat.zero_mul]; exact hown, hbel⟩
  case round =>
    clear hown hbel
    obtain ⟨i, hi, rfl, hown, hbel⟩ := hrel
    by_cases hlt : i < lu
    · obtain ⟨ba, oa, rfl, hba, hsa⟩ := ha.at (by omega)
      have r1 := ha.room
      obtain ⟨X, hX⟩ : ∃ X, X = hf.dg (u : Int) i := ⟨_, rfl⟩
      obtain ⟨O, hO⟩ : ∃ O, O = ((u % 65536 ^ i * v : Nat) : Int) := ⟨_, rfl⟩
      obtain ⟨x0, x1⟩ := hf.dg_range u i
      have c0 : w.cell? ⟨ba, oa + i, none⟩ = some (.int .i64 X) := by rw [hX]; exact hsa.cell i _ (hf.dcells_at _ _ _ hlt)
      rw [← hX] at x0 x1
      have HI : Hid (RMulIn w w.heap.size (lu + lv) lv i O X v (.int .i64 0) (.int .i64 0) wr) := ⟨0, by omega, rfl, by rw [hf.cy_zero], by rw [Nat.add_zero, hf.mix_start, hO]; exact hown, hbel⟩
      have HL : Hid _ := fun (wr : World) (c : Int) => rmul_last (w := w) (wr := wr) (b := w.heap.size) (c := c) hO hX hlt HV.out
      clear hown hbel hX hO
      go_wp2
      go_loopw [7, 8] (fun c kv wr => RMulIn w w.heap.size (lu + lv) lv i O X v c kv wr) (fun _ kv _ => lv - (intOf kv).toNat)
      case atStart => exact HI.out
      case round =>
        obtain ⟨k, hk, rfl, rfl, hown, hbel⟩ := hrel
        obtain ⟨f0, f1⟩ := hf.cy_range O X v i k x0 x1
        by_cases hlk : k < lv
        · obtain ⟨bb, ob, rfl, hbb, hsb⟩ := hb.at (by omega)
          have r2 := hb.room
          have c1 : wr.cell? ⟨ba, oa + i, none⟩ = some (.int .i64 X) := (hbel.cell (p := ⟨ba, oa + i, none⟩) hba).trans c0
          have c2 : wr.cell? ⟨bb, ob + k, none⟩ = some (.int .i64 (hf.dg v k)) := (hbel.cell (p := ⟨bb, ob + k, none⟩) hbb).trans (hsb.cell k _ (hf.dcells_at _ _ _ hlk))
          have c3 : wr.cell? ⟨w.heap.size, i + k, none⟩ = some (.int .i64 (hf.dg O (i + k))) := Own.cell hown _ _ (hf.mix_at _ _ _ _ _ (by omega) (Nat.le_refl _))
          have c4 : wr.frozen? ⟨w.heap.size, i + k, none⟩ = false := Own.free hown _ (by omega)
          obtain ⟨d0, d1⟩ := hf.dg_range v k
          obtain ⟨e0, e1⟩ := hf.dg_range O (i + k)
          have HN : Hid _ := fun n => rmul_next (n := n) hlk (by omega) rfl hown hbel
          obtain ⟨C, hC⟩ : ∃ C, hf.cy O X v i k = C := ⟨_, rfl⟩
          obtain ⟨Y, hY⟩ : ∃ Y, hf.dg (v : Int) k = Y := ⟨_, rfl⟩
          obtain ⟨D, hD⟩ : ∃ D, hf.dg O (i + k) = D := ⟨_, rfl⟩
          rw [hC] at f0 f1 HN ⊢
          rw [hY] at c2 d0 d1 HN
          rw [hD] at c3 e0 e1 HN
          have m0 : 0 ≤ X * Y := Int.mul_nonneg x0 d0
          have m1 : X * Y ≤ 4294836225 := by have := Int.mul_le_mul (show X ≤ 65535 by omega) (show Y ≤ 65535 by omega) d0 (by decide); omega
          clear hown hC hY hD
          go_wp2
          go_quiet (fail)
          go_wp2
          go_roundw
          case rel => exact HN.out _
          case measure => simp [intOf]; omega
        · obtain rfl : k = lv := by omega
          have c3 : wr.cell? ⟨w.heap.size, i + k, none⟩ = some (.int .i64 (hf.dg O (i + k))) := Own.cell hown _ _ (hf.mix_at _ _ _ _ _ (by omega) (Nat.le_refl _))
          have c4 : wr.frozen? ⟨w.heap.size, i + k, none⟩ = false := Own.free hown _ (by omega)
          have HN : Hid _ := HL.out wr _ rfl hown hbel
          clear hown
          go_wp2
          go_roundw
          case rel => exact HN.out
          case measure => simp [intOf]; omega
    · obtain rfl : i = lu := by omega
      rw [HM.out] at hown
      go_wp2_with (go_at_call 26; refine (rtrim_own _ _ _ (u * v) _ _ hown HS.out).mono ?_; rintro e w' ⟨rfl, hw, hown5⟩; subst hw)
      go_ret
      exact ⟨_, _, rfl, hown5, hbel⟩
end Go.Proofs.YtjdphcdpgjdmkaaDoor

namespace Go.Proofs.YtjdphcdpgjdmkaaDoor
open Go.RowKit
set_option linter.unusedVariables false

/-- Some number of twenty words at most. -/
def Cutted (w : World) (e : Ending) (w' : World) : Prop := ∃ (a : Option Addr) (cap m u : Nat), e = .returned (.slice a m cap) ∧ m ≤ 20 ∧ u < 4294967296 ^ m ∧ Own w' w.heap.size 40 a m cap (wd.dcells m (u : Int)) ∧ Below w.heap.size w w'
set_option maxRecDepth 100000 in
set_option maxHeartbeats 1000000 in
theorem short_any (a : Option Addr) (l ca u : Nat) (w : World) (ha : Sl w a l ca (wd.dcells l (u : Int))) (hu : u < 4294967296 ^ l) :
    Calls Tryd.prog 5 #[.slice a l ca] w (Cutted w) := by
  obtain ⟨i0, hi0, hz0, hz1, hz2⟩ := info_parts infoWord
  have hown0 := own_empty w w.heap.size 40 (Nat.le_refl _)
  have hB0 : Below w.heap.size w (w.alloc (.cells #[] 40)) := (Below.refl _ _).alloc (Nat.le_refl _) _
  have k1 := ha.big
  have k2 := ha.room
  unfold maxLen at k1
  by_cases hl : 20 < l
  · obtain ⟨b, o, rfl, hb, hseg⟩ := ha.at (by omega)
    have h20 := ha.take (m := 20) (by omega)
    rw [wd.dcells_take _ _ _ (by omega)] at h20
    have e20 : wd.dcells 20 (u : Int) = wd.dcells 20 ((u % 4294967296 ^ 20 : Nat) : Int) := by
      refine wd.dcells_congr ((u / 4294967296 ^ 20 : Nat) : Int) ?_
      have := Nat.mod_add_div u (4294967296 ^ 20)
      rw [← wd.pow_cast]
      rw [← Int.natCast_mul, Nat.mul_comm]
      omega
    rw [e20] at h20
    have HM : Hid (u % 4294967296 ^ 20 < 4294967296 ^ 20) := Nat.mod_lt _ (by decide)
    obtain ⟨v, hv⟩ : ∃ v, u % 4294967296 ^ 20 = v := ⟨_, rfl⟩
    rw [hv] at h20 HM
    have h20' := h20.below hB0
    clear hv e20 hu
    go_enter Tryd.func5, Tryd.ntmps5
    go_wp2_with (at_builtin; refine append_any _ rfl (.tmp 8) (.tmp 9) 23 rfl w.heap.size 40 i0 (.int .u32 0) 4 Tryd.underlying23 hi0 hz0 hz1 hz2 rfl _ 0 0 [] rfl hown0 (some ⟨b, o, none⟩) 20 ca (wd.dcells 20 (v : Int)) rfl h20' (dcells_one _ _) (by decide) (by decide) (by simp) ?_; intro a2 cap2 w2 hown hgrow)
    go_ret
    exact ⟨a2, cap2, 20, v, rfl, by omega, HM.out, by simpa using hown, hB0.grown hgrow (by simp) (fun k' hk' => by simp [Value.ownBlock] at hk'; omega)⟩
  · have hl' : ¬ (20 : Int) < l := by omega
    have ha' := ha.below hB0
    have HU : Hid _ := hu
    clear hu
    go_enter Tryd.func5, Tryd.ntmps5
    go_wp2_with (at_builtin; refine append_any _ rfl (.tmp 8) (.tmp 9) 23 rfl w.heap.size 40 i0 (.int .u32 0) 4 Tryd.underlying23 hi0 hz0 hz1 hz2 rfl _ 0 0 [] rfl hown0 a l ca (wd.dcells l (u : Int)) rfl ha' (dcells_one _ _) (by unfold maxLen; omega) (by omega) (by simp) ?_; intro a2 cap2 w2 hown hgrow)
    go_ret
    exact ⟨a2, cap2, l, u, by first | rfl | simp, by omega, HU.out, by simpa using hown, hB0.grown hgrow (by simp) (fun k' hk' => by simp [Value.ownBlock] at hk'; omega)⟩
end Go.Proofs.YtjdphcdpgjdmkaaDoor

namespace Go.Proofs.YtjdphcdpgjdmkaaDoor

/-- A text's bytes, as numbers. -/
def nums (s : ByteArray) : List Int := s.data.toList.map fun b => (b.toNat : Int)
theorem nums_length (s : ByteArray) : (nums s).length = s.size := by unfold nums; rw [List.length_map]; rfl
theorem nums_range (s : ByteArray) : ∀ c ∈ nums s, 0 ≤ c ∧ c < 256 := by
  intro c hc
  unfold nums at hc
  rw [List.mem_map] at hc
  obtain ⟨b, _, rfl⟩ := hc
  have := b.toNat_lt
  omega
theorem nums_at (s : ByteArray) (k : Nat) (h : k < s.size) : (nums s)[k]? = some ((s[k]).toNat : Int) := by
  have hk : k < s.data.toList.length := by simpa using h
  unfold nums
  rw [List.getElem?_map, List.getElem?_eq_getElem hk]
  rfl
theorem nums_take (s : ByteArray) (k : Nat) (h : k < s.size) : (nums s).take (k + 1) = (nums s).take k ++ [((s[k]).toNat : Int)] := by
  rw [List.take_add_one, nums_at s k h]; rfl
theorem nums_drop (s : ByteArray) (k : Nat) (h : k < s.size) : (nums s).drop k = ((s[k]).toNat : Int) :: (nums s).drop (k + 1) := by
  have hk : k < (nums s).length := by rw [nums_length]; exact h
  rw [List.drop_eq_getElem_cons hk]
  congr 1
  have := nums_at s k h
  rw [List.getElem?_eq_getElem hk] at this
  simpa using this
theorem nums_tail (s : ByteArray) : nums (s.extract 1 s.size) = (nums s).drop 1 := by
  unfold nums
  rw [← List.map_drop]
  congr 1
  simp [ByteArray.data_extract]
  rw [List.take_of_length_le (by simp)]
theorem nums_cons (s : ByteArray) (h0 : 0 < s.size) : nums s = (s[0].toNat : Int) :: nums (s.extract 1 s.size) := by
  have := nums_drop s 0 h0
  rw [List.drop_zero] at this
  rw [nums_tail]
  exact this
theorem str_nums (s : ByteArray) : strOfNums (nums s) = s := by
  unfold nums strOfNums
  apply ByteArray.ext
  simp only [List.map_map]
  have : (fun b : UInt8 => UInt8.ofNat ((b.toNat : Int)).toNat) = id := by funext b; simp
  show (List.map ((fun n => UInt8.ofNat n.toNat) ∘ fun b => (b.toNat : Int)) s.data.toList).toArray = s.data
  rw [show ((fun n : Int => UInt8.ofNat n.toNat) ∘ fun b : UInt8 => (b.toNat : Int)) = id from this]
  simp
theorem nums_str (l : List Int) (h : ∀ c ∈ l, 0 ≤ c ∧ c < 256) : nums (strOfNums l) = l := by
  unfold nums strOfNums
  simp only [List.map_map]
  conv => rhs; rw [← List.map_id l]
  refine List.map_congr_left fun c hc => ?_
  obtain ⟨a, b⟩ := h c hc
  simp only [Function.comp_apply, id]
  rw [UInt8.toNat_ofNat']
  omega
theorem strOfNums_append (a b : List Int) : strOfNums a ++ strOfNums b = strOfNums (a ++ b) := by
  apply ByteArray.ext
  rw [ByteArray.data_append]
  simp [strOfNums]

/-- The last k decimal digits of m, as bytes, the highest first. -/
def digs : Nat → Nat → List Int
  | 0, _ => []
  | k + 1, m => (48 + (m / 10 ^ k % 10 : Nat) : Int) :: digs k m
theorem digs_length (k m : Nat) : (digs k m).length = k := by induction k with | zero => rfl | succ k ih => simp [digs, ih]
theorem digs_snoc (k m : Nat) : digs (k + 1) m = digs k (m / 10) ++ [(48 + (m % 10 : Nat) : Int)] := by
  induction k with
  | zero => simp [digs]
  | succ k ih => rw [digs, ih, digs, List.cons_append, Nat.div_div_eq_div_mul, Nat.pow_succ, Nat.mul_comm 10]
theorem digs_bytes (k m : Nat) : ∀ c ∈ digs k m, 48 ≤ c ∧ c ≤ 57 := by
  induction k with
  | zero => intro c hc; simp [digs] at hc
  | succ k ih =>
    intro c hc
    rw [digs, List.mem_cons] at hc
    rcases hc with rfl | hc
    · have := Nat.mod_lt (m / 10 ^ k) (show 0 < 10 by decide); omega
    · exact ih c hc
/-- m has k digits: nought has one. -/
def IsDec (m k : Nat) : Prop := 1 ≤ k ∧ m < 10 ^ k ∧ (k = 1 ∨ 10 ^ (k - 1) ≤ m)
theorem isDec_one {m k k' : Nat} (h : IsDec m k) (h' : IsDec m k') : k = k' := by
  obtain ⟨a, b, c⟩ := h
  obtain ⟨a', b', c'⟩ := h'
  rcases Nat.lt_trichotomy k k' with e | e | e
  · rcases c' with c' | c'
    · omega
    · have := Nat.pow_le_pow_right (n := 10) (by decide) (show k ≤ k' - 1 by omega)
      omega
  · exact e
  · rcases c with c | c
    · omega
    · have := Nat.pow_le_pow_right (n := 10) (by decide) (show k' ≤ k - 1 by omega)
      omega
def dlenF : Nat → Nat → Nat
  | 0, _ => 1
  | f + 1, m => if m < 10 then 1 else dlenF f (m / 10) + 1
/-- How many decimal digits m has. -/
def dlen (m : Nat) : Nat := dlenF m m
theorem isDec_dlenF : ∀ f m : Nat, m < 10 ^ (f + 1) → IsDec m (dlenF f m)
  | 0, m, h => ⟨Nat.le_refl _, h, Or.inl rfl⟩
  | f + 1, m, h => by
    unfold dlenF
    by_cases hm : m < 10
    · rw [if_pos hm]; exact ⟨Nat.le_refl _, hm, Or.inl rfl⟩
    · rw [if_neg hm]
      obtain ⟨a, b, c⟩ := isDec_dlenF f (m / 10) (by rw [Nat.pow_succ] at h; omega)
      refine ⟨by omega, ?_, Or.inr ?_⟩
      · rw [Nat.pow_succ]; omega
      · rcases c with c | c
        · rw [c]; simp; omega
        · have e : dlenF f (m / 10) + 1 - 1 = dlenF f (m / 10) - 1 + 1 := by omega
          rw [e, Nat.pow_succ]; omega
theorem isDec_dlen (m : Nat) : IsDec m (dlen m) := isDec_dlenF m m (Nat.lt_of_lt_of_le (Nat.lt_pow_self (by decide)) (Nat.pow_le_pow_right (by decide) (by omega)))
theorem dlen_eq {m k : Nat} (h : IsDec m k) : dlen m = k := isDec_one (isDec_dlen m) h
/-- The text of a number. -/
def decS (m : Nat) : ByteArray := strOfNums (digs (dlen m) m)
theorem decS_nums (m : Nat) : nums (decS m) = digs (dlen m) m := nums_str _ fun c hc => by have := digs_bytes _ _ c hc; omega
theorem decS_size (m : Nat) : (decS m).size = dlen m := by rw [← nums_length, decS_nums, digs_length]
/-- Noughts ahead are dropped. -/
theorem digs_zero (k m : Nat) (h : m < 10 ^ k) : digs (k + 1) m = 48 :: digs k m := by
  rw [digs, Nat.div_eq_of_lt h]; rfl
theorem digs_drop : ∀ (j k m : Nat), 0 < m → IsDec m k → (digs (k + j) m).dropWhile (· == 48) = digs k m
  | 0, k, m, hm, h => by
    rw [Nat.add_zero]
    obtain ⟨h1, h2, h3⟩ := h
    rcases k with _ | k
    · omega
    · rw [digs]
      have hl : 10 ^ k ≤ m := by
        rcases h3 with h3 | h3
        · have : k = 0 := by omega
          subst this; simp; omega
        · simpa using h3
      have h4 : 1 ≤ m / 10 ^ k := (Nat.one_le_div_iff (Nat.pow_pos (by decide))).2 hl
      have h5 : m / 10 ^ k < 10 := by rw [Nat.pow_succ] at h2; exact Nat.div_lt_of_lt_mul h2
      have h6 : ((48 + ((m / 10 ^ k % 10 : Nat) : Int)) == 48) = false := by
        rw [Nat.mod_eq_of_lt h5]
        generalize m / 10 ^ k = c at h4
        rw [beq_eq_false_iff_ne]
        omega
      rw [List.dropWhile_cons, h6]; simp
  | j + 1, k, m, hm, h => by
    have h2 := h.2.1
    have : m < 10 ^ (k + j) := Nat.lt_of_lt_of_le h2 (Nat.pow_le_pow_right (by decide) (by omega))
    rw [show k + (j + 1) = (k + j) + 1 by omega, digs_zero _ _ this, List.dropWhile_cons]
    simp only [beq_self_eq_true, if_true]
    exact digs_drop j k m hm h
end Go.Proofs.YtjdphcdpgjdmkaaDoor

namespace Go.Proofs.YtjdphcdpgjdmkaaDoor
open Go.RowKit
set_option linter.unusedVariables false

/-- Two words joined. -/
theorem join_bits (x y : Int) (hx : 0 ≤ x) (hx' : x < 4294967296) (hy : 0 ≤ y) (hy' : y < 4294967296) : bits BinOp.or IntKind.u64 (x * 4294967296) y = x * 4294967296 + y := by
  obtain ⟨X, rfl⟩ := Int.eq_ofNat_of_zero_le hx
  obtain ⟨Y, rfl⟩ := Int.eq_ofNat_of_zero_le hy
  rw [show (X : Int) * 4294967296 = ((X * 4294967296 : Nat) : Int) by omega, u64_or_nat _ _ (by omega) (by omega), nat_join 32 (X * 4294967296) Y (by omega) (by omega)]
  omega

/-- What holds at the head of each round. -/
def WordRel (w : World) (u : Nat) (d : Int) (b l cap base : Nat) (c i : Value) (wr : World) : Prop := ∃ r : Nat, r ≤ l ∧ i = .int .i64 ((r : Int) - 1) ∧ c = .int .u64 ((u : Int) / 4294967296 ^ r % d) ∧ Own wr base 40 (some ⟨b, 0, none⟩) l cap (wd.xim l r ((u : Int) / d) u) ∧ Wr w wr b 0 l
theorem word_next (w wr : World) (u : Nat) (d : Int) (b l cap base q : Nat) (hd : 0 < d) (hq : q < l) (hown : Own wr base 40 (some ⟨b, 0, none⟩) l cap (wd.xim l (q + 1) ((u : Int) / d) u)) (hw : Wr w wr b 0 l) :
    WordRel w u d b l cap base (.int .u64 (((u : Int) / 4294967296 ^ (q + 1) % d * 4294967296 + wd.dg u q) % d)) (.int .i64 ((q : Int) - 1)) (wr.setCell ⟨b, q, none⟩ (.int .u32 (((u : Int) / 4294967296 ^ (q + 1) % d * 4294967296 + wd.dg u q) / d))) := by
  refine ⟨q, by omega, rfl, by rw [(wd.long_div u d q hd).2], ?_, hw.set _ (Nat.zero_le _) hq⟩
  rw [wd.quot_digit _ _ _ hd, ← wd.xim_set]
  exact Own.set hown _ hq

set_option maxRecDepth 100000 in
set_option maxHeartbeats 1000000 in
theorem divWord_any (b l cap u base : Nat) (d : Int) (w : World) (hown : Own w base 40 (some ⟨b, 0, none⟩) l cap (wd.dcells l (u : Int))) (hu : u < 4294967296 ^ l) (hd : 0 < d) (hd' : d < 4294967296) :
    Calls Tryd.prog 33 #[.slice (some ⟨b, 0, none⟩) l cap, .int .u32 d] w fun e w' => e = .returned (.int .u32 ((u : Int) % d)) ∧ Own w' base 40 (some ⟨b, 0, none⟩) l cap (wd.dcells l ((u : Int) / d)) ∧ Wr w w' b 0 l := by
  have hcap := hown.sl.big
  have hroom := hown.sl.room
  unfold maxLen at hcap
  have HZ : Hid ((u : Int) / 4294967296 ^ l = 0) := Int.ediv_eq_zero_of_lt (by omega) (by rw [← wd.pow_cast]; omega)
  clear hu
  go_enter Tryd.func33, Tryd.ntmps33
  go_wp2
  go_loopw [5, 6] (fun c i wr => WordRel w u d b l cap base c i wr) (fun _ i _ => (intOf i + 1).toNat)
  case atStart => exact ⟨l, Nat.le_refl _, rfl, by rw [HZ.out]; simp, by rw [wd.xim_full]; exact hown, Wr.refl _ _ _ _⟩
  case round =>
    clear hown
    obtain ⟨r, hr, rfl, rfl, hown, hwr⟩ := hrel
    rcases r with _ | q
    · rw [wd.xim_zero] at hown
      have e0 : (u : Int) / 4294967296 ^ 0 = u := by simp
      have f0 : 0 ≤ (u : Int) % d := Int.emod_nonneg _ (by omega)
      have f1 : (u : Int) % d < 4294967296 := by have := Int.emod_lt_of_pos (u : Int) hd; omega
      rw [e0]
      go_wp2
      go_ret
      exact ⟨rfl, hown, hwr⟩
    · have c3 : wr.cell? ⟨b, q, none⟩ = some (.int .u32 (wd.dg u q)) := Own.cell hown q _ (wd.xim_at _ _ _ _ _ (by omega) (by omega))
      have c4 : wr.frozen? ⟨b, q, none⟩ = false := Own.free hown q (by omega)
      obtain ⟨d0, d1⟩ := wd.dg_range u q
      have HN : Hid _ := word_next w wr u d b l cap base q hd (by omega) hown hwr
      have r0 : 0 ≤ (u : Int) / 4294967296 ^ (q + 1) % d := Int.emod_nonneg _ (by omega)
      have r1 : (u : Int) / 4294967296 ^ (q + 1) % d < d := Int.emod_lt_of_pos _ hd
      obtain ⟨R, hR⟩ : ∃ R, (u : Int) / 4294967296 ^ (q + 1) % d = R := ⟨_, rfl⟩
      rw [hR] at r0 r1 HN ⊢
      clear hown hR
      have HB := join_bits R (wd.dg u q) r0 (by omega) d0 d1
      have q0 : 0 ≤ (R * 4294967296 + wd.dg u q) / d := Int.ediv_nonneg (by omega) (by omega)
      have q1 : (R * 4294967296 + wd.dg u q) / d < 4294967296 := Int.ediv_lt_of_lt_mul hd (by omega)
      have e1 : ((q + 1 : Nat) : Int) - 1 = (q : Int) := by omega
      go_wp2
      go_roundw
      case rel => exact HN.out
      case measure => simp [intOf]
end Go.Proofs.YtjdphcdpgjdmkaaDoor

namespace Go.Proofs.YtjdphcdpgjdmkaaDoor.pc
open Go.RowKit

/-- Digit i of v, to the base 1000000000 (of a number below nought: of v modulo as many digits as you like). -/
def dg (v : Int) (i : Nat) : Int := v / 1000000000 ^ i % 1000000000
theorem dg_range (v : Int) (i : Nat) : 0 ≤ dg v i ∧ dg v i < 1000000000 := by unfold dg; omega
theorem p256 (i : Nat) : (0 : Int) < 1000000000 ^ i := Int.pow_pos (by decide)
/-- n digits: at the places that p names those of u, at the others those of v. -/
def fill (n : Nat) (p : Nat → Bool) (u v : Int) : List Value := (List.range n).map fun j => .int .u32 (if p j then dg u j else dg v j)
def dcells (n : Nat) (v : Int) : List Value := (List.range n).map fun j => .int .u32 (dg v j)
def mix (n i : Nat) (u v : Int) : List Value := fill n (fun j => decide (j < i)) u v
theorem fill_length (n : Nat) (p : Nat → Bool) (u v : Int) : (fill n p u v).length = n := by simp [fill]
theorem mix_length (n i : Nat) (u v : Int) : (mix n i u v).length = n := fill_length _ _ _ _
theorem dcells_length (n : Nat) (v : Int) : (dcells n v).length = n := by simp [dcells]
theorem dcells_at (n : Nat) (v : Int) (i : Nat) (h : i < n) : (dcells n v)[i]? = some (.int .u32 (dg v i)) := by simp [dcells, h]
theorem fill_at (n : Nat) (p : Nat → Bool) (u v : Int) (i : Nat) (h : i < n) : (fill n p u v)[i]? = some (.int .u32 (if p i then dg u i else dg v i)) := by simp [fill, h]
theorem mix_at (n k : Nat) (u v : Int) (i : Nat) (h : i < n) (hk : k ≤ i) : (mix n k u v)[i]? = some (.int .u32 (dg v i)) := by
  rw [mix, fill_at _ _ _ _ _ h]; simp; omega
theorem fill_congr {n : Nat} {p q : Nat → Bool} {u v u' v' : Int} (h : ∀ j, j < n → (if p j then dg u j else dg v j) = (if q j then dg u' j else dg v' j)) : fill n p u v = fill n q u' v' := by
  unfold fill
  refine List.map_congr_left fun j hj => ?_
  rw [h j (by simpa using hj)]
theorem fill_set (n : Nat) (p : Nat → Bool) (u v : Int) (i : Nat) : (fill n p u v).set i (.int .u32 (dg u i)) = fill n (fun j => p j || j == i) u v := by
  refine List.ext_getElem? fun j => ?_
  rw [List.getElem?_set]
  by_cases e : i = j
  · subst e
    by_cases h : i < n
    · rw [if_pos rfl, if_pos (by rw [fill_length]; exact h), fill_at _ _ _ _ _ h]; simp
    · rw [if_pos rfl, if_neg (by rw [fill_length]; exact h), List.getElem?_eq_none (by rw [fill_length]; omega)]
  · by_cases h : j < n
    · rw [if_neg e, fill_at _ _ _ _ _ h, fill_at _ _ _ _ _ h]
      have e' : (j == i) = false := by simp; omega
      simp [e']
    · rw [if_neg e, List.getElem?_eq_none (by simp [fill_length]; omega), List.getElem?_eq_none (by simp [fill_length]; omega)]
theorem mix_set (n i : Nat) (u v : Int) : (mix n i u v).set i (.int .u32 (dg u i)) = mix n (i + 1) u v := by
  unfold mix
  rw [fill_set]
  refine fill_congr fun j _ => ?_
  have : (decide (j < i) || j == i) = decide (j < i + 1) := by rw [Bool.eq_iff_iff]; simp; omega
  rw [this]
theorem mix_zero (n : Nat) (u v : Int) : mix n 0 u v = dcells n v := by unfold mix fill dcells; simp
theorem mix_full (n : Nat) (u v : Int) : mix n n u v = dcells n u := by
  unfold mix fill dcells
  refine List.map_congr_left fun j hj => ?_
  have : j < n := by simpa using hj
  simp [this]
/-- The digits of two numbers that are the same modulo 1000000000^i are the same below place i. -/
theorem dg_congr {u v : Int} {i j : Nat} (t : Int) (h : u = v + t * 1000000000 ^ i) (hj : j < i) : dg u j = dg v j := by
  unfold dg
  obtain ⟨d, rfl⟩ : ∃ d, i = j + 1 + d := ⟨i - (j + 1), by omega⟩
  have e : t * (1000000000 : Int) ^ (j + 1 + d) = (1000000000 * (t * 1000000000 ^ d)) * 1000000000 ^ j := by
    rw [show j + 1 + d = d + 1 + j by omega, Int.pow_add, Int.pow_succ, ← Int.mul_assoc, ← Int.mul_assoc, Int.mul_comm (t * 1000000000 ^ d) 1000000000]
  rw [h, e, Int.add_mul_ediv_right _ _ (Int.ne_of_gt (p256 j))]
  omega
theorem dcells_congr {n : Nat} {u v : Int} (t : Int) (h : u = v + t * 1000000000 ^ n) : dcells n u = dcells n v := by
  unfold dcells
  refine List.map_congr_left fun j hj => ?_
  rw [dg_congr t h (by simpa using hj)]
/-- The carry into place i when x and y are added. -/
def carry (x y : Int) (i : Nat) : Int := (x % 1000000000 ^ i + y % 1000000000 ^ i) / 1000000000 ^ i
theorem carry_zero (x y : Int) : carry x y 0 = 0 := by simp [carry]
theorem emod_succ (x : Int) (i : Nat) : x % 1000000000 ^ (i + 1) = dg x i * 1000000000 ^ i + x % 1000000000 ^ i := by
  unfold dg
  have hp := p256 i
  have h1 := Int.mul_ediv_add_emod x (1000000000 ^ i)
  have h2 := Int.mul_ediv_add_emod (x / 1000000000 ^ i) 1000000000
  have b := Int.emod_nonneg x (Int.ne_of_gt hp)
  have b' := Int.emod_lt_of_pos x hp
  have c := Int.emod_nonneg (x / 1000000000 ^ i) (show (1000000000 : Int) ≠ 0 by decide)
  have c' := Int.emod_lt_of_pos (x / 1000000000 ^ i) (show (0 : Int) < 1000000000 by decide)
  have e : x = (x / 1000000000 ^ i % 1000000000 * 1000000000 ^ i + x % 1000000000 ^ i) + (x / 1000000000 ^ i / 1000000000) * 1000000000 ^ (i + 1) := by
    have : (x / 1000000000 ^ i / 1000000000) * (1000000000 : Int) ^ (i + 1) = (1000000000 * (x / 1000000000 ^ i / 1000000000)) * 1000000000 ^ i := by rw [Int.pow_succ, Int.mul_comm ((1000000000 : Int) ^ i) 1000000000, ← Int.mul_assoc, Int.mul_comm _ 1000000000]
    rw [this]
    have h3 : (1000000000 * (x / 1000000000 ^ i / 1000000000)) * (1000000000 : Int) ^ i + x / 1000000000 ^ i % 1000000000 * 1000000000 ^ i = x / 1000000000 ^ i * 1000000000 ^ i := by rw [← Int.add_mul, h2]
    have h4 : x / 1000000000 ^ i * (1000000000 : Int) ^ i = 1000000000 ^ i * (x / 1000000000 ^ i) := Int.mul_comm _ _
    omega
  have l0 : 0 ≤ x / 1000000000 ^ i % 1000000000 * 1000000000 ^ i + x % 1000000000 ^ i := Int.add_nonneg (Int.mul_nonneg c (Int.le_of_lt hp)) b
  have l1 : x / 1000000000 ^ i % 1000000000 * 1000000000 ^ i + x % 1000000000 ^ i < 1000000000 ^ (i + 1) := by
    have : x / 1000000000 ^ i % 1000000000 * (1000000000 : Int) ^ i ≤ 999999999 * 1000000000 ^ i := Int.mul_le_mul_of_nonneg_right (by omega) (Int.le_of_lt hp)
    rw [Int.pow_succ]
    omega
  have key : x % 1000000000 ^ (i + 1) = (x / 1000000000 ^ i % 1000000000 * 1000000000 ^ i + x % 1000000000 ^ i) % 1000000000 ^ (i + 1) := by
    have := congrArg (· % (1000000000 : Int) ^ (i + 1)) e
    simpa [Int.add_mul_emod_self_right] using this
  rw [key, Int.emod_eq_of_lt l0 l1]
theorem carry_sum (x y : Int) (i : Nat) : (x % 1000000000 ^ (i + 1) + y % 1000000000 ^ (i + 1)) / 1000000000 ^ i = carry x y i + dg x i + dg y i := by
  rw [emod_succ, emod_succ]
  unfold carry
  have e : dg x i * 1000000000 ^ i + x % 1000000000 ^ i + (dg y i * 1000000000 ^ i + y % 1000000000 ^ i) = (x % 1000000000 ^ i + y % 1000000000 ^ i) + (dg x i + dg y i) * 1000000000 ^ i := by rw [Int.add_mul]; omega
  rw [e, Int.add_mul_ediv_right _ _ (Int.ne_of_gt (p256 i))]
  omega
theorem carry_succ (x y : Int) (i : Nat) : carry x y (i + 1) = (carry x y i + dg x i + dg y i) / 1000000000 := by
  rw [← carry_sum]
  show (x % 1000000000 ^ (i + 1) + y % 1000000000 ^ (i + 1)) / 1000000000 ^ (i + 1) = _
  have hp := p256 i
  rw [Int.pow_succ, Int.ediv_ediv, if_neg (by omega)]
  omega
theorem add_digit (x y : Int) (i : Nat) : (carry x y i + dg x i + dg y i) % 1000000000 = dg (x + y) i := by
  unfold dg carry
  have hp := p256 i
  have h1 := Int.mul_ediv_add_emod x (1000000000 ^ i)
  have h2 := Int.mul_ediv_add_emod y (1000000000 ^ i)
  have e : x + y = (x % 1000000000 ^ i + y % 1000000000 ^ i) + (x / 1000000000 ^ i + y / 1000000000 ^ i) * 1000000000 ^ i := by
    have a1 : x / 1000000000 ^ i * (1000000000 : Int) ^ i = 1000000000 ^ i * (x / 1000000000 ^ i) := Int.mul_comm _ _
    have a2 : y / 1000000000 ^ i * (1000000000 : Int) ^ i = 1000000000 ^ i * (y / 1000000000 ^ i) := Int.mul_comm _ _
    rw [Int.add_mul]; omega
  have e2 : (x + y) / 1000000000 ^ i = (x % 1000000000 ^ i + y % 1000000000 ^ i) / 1000000000 ^ i + (x / 1000000000 ^ i + y / 1000000000 ^ i) := by
    conv => lhs; rw [e]
    exact Int.add_mul_ediv_right _ _ (Int.ne_of_gt hp)
  rw [e2]
  omega
theorem carry_range (x y : Int) (i : Nat) : 0 ≤ carry x y i ∧ carry x y i ≤ 1 := by
  unfold carry
  have hp := p256 i
  have a := Int.emod_nonneg x (Int.ne_of_gt hp)
  have a' := Int.emod_lt_of_pos x hp
  have b := Int.emod_nonneg y (Int.ne_of_gt hp)
  have b' := Int.emod_lt_of_pos y hp
  refine ⟨Int.ediv_nonneg (by omega) (by omega), ?_⟩
  have : (x % 1000000000 ^ i + y % 1000000000 ^ i) / 1000000000 ^ i < 2 := Int.ediv_lt_of_lt_mul hp (by omega)
  omega
theorem neg_digit (x : Int) (i : Nat) : 999999999 - dg x i = dg (-1 - x) i := by
  unfold dg
  have hp := p256 i
  have h1 := Int.mul_ediv_add_emod x (1000000000 ^ i)
  have a := Int.emod_nonneg x (Int.ne_of_gt hp)
  have a' := Int.emod_lt_of_pos x hp
  have e : -1 - x = (1000000000 ^ i - 1 - x % 1000000000 ^ i) + (-1 - x / 1000000000 ^ i) * 1000000000 ^ i := by
    have a1 : x / 1000000000 ^ i * (1000000000 : Int) ^ i = 1000000000 ^ i * (x / 1000000000 ^ i) := Int.mul_comm _ _
    rw [Int.sub_mul]; omega
  have e2 : (-1 - x) / 1000000000 ^ i = -1 - x / 1000000000 ^ i := by
    conv => lhs; rw [e]
    rw [Int.add_mul_ediv_right _ _ (Int.ne_of_gt hp), Int.ediv_eq_zero_of_lt (by omega) (by omega)]
    omega
  rw [e2]
  omega
end Go.Proofs.YtjdphcdpgjdmkaaDoor.pc

namespace Go.Proofs.YtjdphcdpgjdmkaaDoor.pc
open Go.RowKit
set_option linter.unusedVariables false

/-- v needs n digits: none for nought. -/
def IsLen (v n : Nat) : Prop := v < 1000000000 ^ n ∧ (n = 0 ∨ 1000000000 ^ (n - 1) ≤ v)
theorem isLen_one {v n m : Nat} (h : IsLen v n) (h' : IsLen v m) : n = m := by
  obtain ⟨a, b⟩ := h
  obtain ⟨a', b'⟩ := h'
  rcases Nat.lt_trichotomy n m with e | e | e
  · rcases b' with b' | b'
    · omega
    · have := Nat.pow_le_pow_right (n := 1000000000) (by decide) (show n ≤ m - 1 by omega)
      omega
  · exact e
  · rcases b with b | b
    · omega
    · have := Nat.pow_le_pow_right (n := 1000000000) (by decide) (show m ≤ n - 1 by omega)
      omega
/-- A number below 1000000000^n has a length of n at most, and is found by cutting noughts off the end. -/
theorem isLen_cut : ∀ (n v : Nat), v < 1000000000 ^ n → ∃ m, m ≤ n ∧ IsLen v m
  | 0, v, h => ⟨0, Nat.le_refl _, h, Or.inl rfl⟩
  | n + 1, v, h => by
    by_cases c : v < 1000000000 ^ n
    · obtain ⟨m, h1, h2⟩ := isLen_cut n v c
      exact ⟨m, by omega, h2⟩
    · exact ⟨n + 1, Nat.le_refl _, h, Or.inr (by simp; omega)⟩
theorem lt_pow_self (v : Nat) : v < 1000000000 ^ v := Nat.lt_pow_self (by decide)
theorem isLen_ex (v : Nat) : ∃ m, IsLen v m := by
  obtain ⟨m, _, h⟩ := isLen_cut v v (lt_pow_self v)
  exact ⟨m, h⟩
/-- How many digits v needs. -/
def nlen (v : Nat) : Nat := if h : v = 0 then 0 else nlen (v / 1000000000) + 1
  termination_by v
  decreasing_by exact Nat.div_lt_self (Nat.pos_of_ne_zero h) (by decide)
theorem nlen_is (v : Nat) : IsLen v (nlen v) := by
  induction v using Nat.strongRecOn with
  | ind v ih =>
    unfold nlen
    split
    · rename_i h
      rw [h]
      exact ⟨by decide, Or.inl rfl⟩
    · rename_i h
      obtain ⟨h1, h2⟩ := ih (v / 1000000000) (Nat.div_lt_self (Nat.pos_of_ne_zero h) (by decide))
      refine ⟨?_, Or.inr ?_⟩
      · rw [Nat.pow_succ]
        exact (Nat.div_lt_iff_lt_mul (by decide)).1 h1
      · rw [Nat.add_sub_cancel]
        rcases h2 with h2 | h2
        · rw [h2]
          exact Nat.pos_of_ne_zero h
        · rcases Nat.eq_zero_or_pos (nlen (v / 1000000000)) with h3 | h3
          · rw [h3]
            exact Nat.pos_of_ne_zero h
          · have h4 := (Nat.le_div_iff_mul_le (by decide)).1 h2
            rw [← Nat.pow_succ] at h4
            rwa [show (nlen (v / 1000000000) - 1).succ = nlen (v / 1000000000) by omega] at h4
theorem nlen_eq {v n : Nat} (h : IsLen v n) : nlen v = n := isLen_one (nlen_is v) h
theorem nlen_le {v n : Nat} (h : v < 1000000000 ^ n) : nlen v ≤ n := by
  obtain ⟨m, h1, h2⟩ := isLen_cut n v h
  rw [nlen_eq h2]; exact h1
theorem nlen_zero : nlen 0 = 0 := nlen_eq ⟨by decide, Or.inl rfl⟩
theorem nlen_lt (v : Nat) : v < 1000000000 ^ nlen v := (nlen_is v).1
theorem nlen_pos {v : Nat} (h : 0 < v) : 0 < nlen v := by
  rcases Nat.lt_or_ge 0 (nlen v) with l | l
  · exact l
  · have := nlen_lt v
    rw [show nlen v = 0 by omega] at this
    simp at this
    omega
/-- The longer number is the greater. -/
theorem lt_of_nlen {u v : Nat} (h : nlen u < nlen v) : u < v := by
  obtain ⟨_, b⟩ := nlen_is v
  rcases b with b | b
  · omega
  · have := nlen_lt u
    have := Nat.pow_le_pow_right (n := 1000000000) (by decide) (show nlen u ≤ nlen v - 1 by omega)
    omega
theorem pow_cast (k : Nat) : ((1000000000 ^ k : Nat) : Int) = (1000000000 : Int) ^ k := by rw [Int.natCast_pow]; rfl
theorem dg_nat (v k : Nat) : dg (v : Int) k = ((v / 1000000000 ^ k % 1000000000 : Nat) : Int) := by
  unfold dg
  rw [← pow_cast]
  omega
/-- The digit at a place that a number does not reach is nought; the highest one that it has is not. -/
theorem dg_over {v k : Nat} (h : v < 1000000000 ^ k) : dg (v : Int) k = 0 := by rw [dg_nat, Nat.div_eq_of_lt h]; rfl
theorem dg_top {v n : Nat} (h : IsLen v (n + 1)) : dg (v : Int) n ≠ 0 := by
  obtain ⟨a, b⟩ := h
  have b : 1000000000 ^ n ≤ v := by
    rcases b with b | b
    · omega
    · exact b
  rw [dg_nat]
  have h1 : 1 ≤ v / 1000000000 ^ n := (Nat.one_le_div_iff (Nat.pow_pos (by decide))).2 b
  have h2 : v / 1000000000 ^ n < 1000000000 := by
    rw [Nat.pow_succ] at a
    exact Nat.div_lt_of_lt_mul a
  rw [Nat.mod_eq_of_lt h2]
  omega
/-- One nought at the end cut off. -/
theorem lt_of_dg_zero {v n : Nat} (h : v < 1000000000 ^ (n + 1)) (z : dg (v : Int) n = 0) : v < 1000000000 ^ n := by
  rcases Nat.lt_or_ge v (1000000000 ^ n) with l | l
  · exact l
  · exact absurd z (dg_top ⟨h, Or.inr (by simpa using l)⟩)
/-- Two numbers of n digits with the same digits are the same. -/
theorem eq_of_dcells : ∀ (n : Nat) (u v : Nat), u < 1000000000 ^ n → v < 1000000000 ^ n → (∀ j, j < n → dg (u : Int) j = dg (v : Int) j) → u = v := by
  intro n
  induction n with
  | zero => intro u v hu hv _; simp at hu hv; omega
  | succ n ih =>
    intro u v hu hv h
    have e := ih (u % 1000000000 ^ n) (v % 1000000000 ^ n) (Nat.mod_lt _ (Nat.pow_pos (by decide))) (Nat.mod_lt _ (Nat.pow_pos (by decide))) (fun j hj => by
      have a : ∀ x : Nat, dg ((x % 1000000000 ^ n : Nat) : Int) j = dg (x : Int) j := fun x => by
        refine dg_congr (i := n) (-((x / 1000000000 ^ n : Nat) : Int)) ?_ hj
        have := Nat.mod_add_div x (1000000000 ^ n)
        rw [← pow_cast, Int.neg_mul, ← Int.natCast_mul, Nat.mul_comm (x / 1000000000 ^ n)]
        omega
      rw [a, a]
      exact h j (by omega))
    have t := h n (by omega)
    rw [dg_nat, dg_nat] at t
    have du : u / 1000000000 ^ n < 1000000000 := by rw [Nat.pow_succ] at hu; exact Nat.div_lt_of_lt_mul hu
    have dv : v / 1000000000 ^ n < 1000000000 := by rw [Nat.pow_succ] at hv; exact Nat.div_lt_of_lt_mul hv
    rw [Nat.mod_eq_of_lt du, Nat.mod_eq_of_lt dv] at t
    have t' : u / 1000000000 ^ n = v / 1000000000 ^ n := by omega
    have h1 := Nat.mod_add_div u (1000000000 ^ n)
    have h2 := Nat.mod_add_div v (1000000000 ^ n)
    rw [e, t'] at h1
    omega
end Go.Proofs.YtjdphcdpgjdmkaaDoor.pc

namespace Go.Proofs.YtjdphcdpgjdmkaaDoor
open Go.RowKit
set_option linter.unusedVariables false

/-- How long a slice is. -/
def slen : Value → Nat
  | .slice _ n _ => n
  | _ => 0
theorem pc_succ (t : Nat) (a : Int) : pc.dcells (t + 1) a = pc.dcells t a ++ [.int .u32 (pc.dg a t)] := by
  unfold pc.dcells; rw [List.range_succ, List.map_append]; rfl
theorem pc_small {u t l : Nat} (h : 1000000000 ^ t ≤ u) (hu : u < 4294967296 ^ l) : t ≤ 2 * l := by
  rcases Nat.lt_or_ge (2 * l) t with h1 | h1
  · have h2 : 4294967296 ^ l ≤ (1000000000 ^ 2) ^ l := Nat.pow_le_pow_left (by decide) l
    rw [← Nat.pow_mul] at h2
    have h3 := Nat.pow_le_pow_right (n := 1000000000) (by decide) (show 2 * l ≤ t by omega)
    omega
  · exact h1
/-- What holds at the head of each round. -/
def PieceRel (w : World) (u la : Nat) (pv rv : Value) (wr : World) : Prop := ∃ (t U : Nat) (ap ar : Option Addr) (cp cr : Nat), t ≤ 2 * la + 1 ∧ (t = 0 ∨ 1000000000 ^ (t - 1) ≤ u) ∧ Hid (U = u / 1000000000 ^ t) ∧ pv = .slice ap t cp ∧ rv = .slice ar (wd.nlen U) cr ∧
  Own wr w.heap.size 40 ap t cp (pc.dcells t (u : Int)) ∧ Own wr w.heap.size 40 ar (wd.nlen U) cr (wd.dcells (wd.nlen U) (U : Int)) ∧
  (∀ b, ar = some b → (Value.slice ap t cp).ownBlock ≠ some b.block) ∧ Below w.heap.size w wr
theorem piece_dg (u t : Nat) : ((u / 1000000000 ^ t : Nat) : Int) % 1000000000 = pc.dg (u : Int) t := by
  rw [pc.dg_nat]; omega
theorem piece_next (u t : Nat) : ((u / 1000000000 ^ t : Nat) : Int) / 1000000000 = ((u / 1000000000 ^ (t + 1) : Nat) : Int) := by
  rw [Nat.pow_succ, ← Nat.div_div_eq_div_mul]; omega
theorem next_le (u t : Nat) : u / 1000000000 ^ (t + 1) ≤ u / 1000000000 ^ t := by
  rw [Nat.pow_succ, ← Nat.div_div_eq_div_mul]; exact Nat.div_le_self _ _
/-- The round's end. -/
theorem pieceRel_next {w wr w2 w4 : World} {u la t g cp cr g' cap' cr' U U' : Nat} {r : Int} {ap ar' : Option Addr} {T : TypeId} (hU' : U' = u / 1000000000 ^ (t + 1)) (hr : r = pc.dg u t) (hle : 1000000000 ^ t ≤ u) (hu : u < 4294967296 ^ la) (hbel : Below w.heap.size w wr) (hg : g < wr.heap.size) (hg2 : w.heap.size ≤ g)
    (hownp : Own wr w.heap.size 40 ap t cp (pc.dcells t (u : Int))) (hne : ∀ b, some (⟨g, 0, none⟩ : Addr) = some b → (Value.slice ap t cp).ownBlock ≠ some b.block)
    (hwr : Wr wr w2 g 0 (wd.nlen U)) (hownr2 : Own w2 w.heap.size 40 (some ⟨g, 0, none⟩) (wd.nlen U) cr (wd.dcells (wd.nlen U) (U' : Int)))
    (h4 : w4.ownsRow w.heap.size 40 1 (.slice (some ⟨g', 0, none⟩) (t + 1) cap') (t + 1) (pc.dcells t (u : Int) ++ [.int .u32 r])) (hgr : (w2.alloc (.cells #[.int .u32 r] T)).grownBy w4 (Value.slice ap t cp).ownBlock)
    (hat : (Value.slice ap t cp).ownBlock = some g' ∨ g' = (w2.alloc (.cells #[.int .u32 r] T)).heap.size) :
    Own w4 w.heap.size 40 (some ⟨g, 0, none⟩) (wd.nlen U) cr (wd.dcells (wd.nlen U) (U' : Int)) ∧
    (∀ cut : Cut (some ⟨g, 0, none⟩) (wd.nlen U) cr ar' (wd.nlen U') cr', PieceRel w u la (.slice (some ⟨g', 0, none⟩) (t + 1) cap') (.slice ar' (wd.nlen U') cr') w4) := by
  subst hr
  have hne' := hne _ rfl
  have hsz := hwr.grown.size
  have hr4 : Own w4 w.heap.size 40 (some ⟨g, 0, none⟩) (wd.nlen U) cr (wd.dcells (wd.nlen U) (U' : Int)) :=
    World.ownsRow.kept (World.ownsRow.alloc hownr2 _) hgr (Or.inr fun e => hne' (by rw [← e]; rfl))
  refine ⟨hr4, fun cut => ⟨t + 1, U', _, ar', cap', cr', by have := pc_small hle hu; omega, Or.inr (by simpa using hle), hU', rfl, rfl, ?_, cut.own hr4, ?_, ?_⟩⟩
  · rw [pc_succ]; exact h4
  · intro b hb e
    simp only [Value.ownBlock, Option.some.injEq] at e
    rcases cut with ⟨_, h, _⟩ | ⟨_, _, h, _⟩
    · rw [h] at hb; cases hb
    · rw [h] at hb
      cases hb
      dsimp only at e
      rcases hat with hat | hat
      · exact hne' (by rw [hat, e])
      · rw [World.size_alloc] at hat; omega
  · have hb2 := hwr.after hbel hg2 (Nat.le_refl _)
    refine ((hb2.alloc hb2.size _).grown hgr ?_ ?_)
    · rw [World.size_alloc]; have := hb2.size; omega
    · intro k hk
      exact (World.ownsRow.lt hownp k hk).1

set_option maxRecDepth 100000 in
set_option maxHeartbeats 2000000 in
theorem pieces_any (a : Option Addr) (la ca u : Nat) (w : World) (ha : Sl w a la ca (wd.dcells la (u : Int))) (hu : u < 4294967296 ^ la) (hla : la ≤ 1000000000) :
    Calls Tryd.prog 41 #[.slice a la ca] w fun e w' => ∃ ap cp, e = .returned (.slice ap (pc.nlen u) cp) ∧ Own w' w.heap.size 40 ap (pc.nlen u) cp (pc.dcells (pc.nlen u) (u : Int)) ∧ Below w.heap.size w w' := by
  obtain ⟨i0, hi0, hz0, hz1, hz2⟩ := info_parts infoWord
  go_enter Tryd.func41, Tryd.ntmps41
  go_wp2_with (go_at_call 15; refine (trim_any a la ca u _ ha hu hla).mono ?_; rintro e w1 ⟨a1, ca1, rfl, hown, hbel⟩)
  go_loopw [3, 4] (fun pv rv wr => PieceRel w u la pv rv wr) (fun pv _ _ => 2 * la + 3 - slen pv)
  case atStart =>
    exact ⟨0, u, none, a1, 0, ca1, by omega, Or.inl rfl, by unfold Hid; rw [Nat.pow_zero, Nat.div_one], rfl, rfl, World.ownsRow_nil _ _ _ _, hown, fun b e h => (by cases h), hbel⟩
  case round =>
    clear hown hbel
    obtain ⟨t, U, ap, ar, cp, cr, ht, hl, HU, rfl, rfl, hownp, hownr, hne, hbel⟩ := hrel
    by_cases hz : wd.nlen U = 0
    · have h0 := wd.nlen_eq_zero.1 hz
      have HL : Hid (pc.nlen u = t) := by
        refine pc.nlen_eq ⟨?_, hl⟩
        have hU := HU.out
        rcases Nat.div_eq_zero_iff.1 (hU.symm.trans h0) with h | h
        · have := Nat.pow_pos (n := t) (show 0 < 1000000000 by decide); omega
        · exact h
      have hz' : ¬ (0 : Int) < (wd.nlen U : Int) := by omega
      clear h0 hz
      go_wp2
      go_ret
      exact ⟨ap, cp, by rw [HL.out]; rfl, by rw [HL.out]; exact hownp, hbel⟩
    · obtain ⟨g, rfl, hg, hg2, _⟩ := Own.at hownr (by omega)
      have hle : 1000000000 ^ t ≤ u := by
        rcases Nat.lt_or_ge u (1000000000 ^ t) with h | h
        · exact absurd (by rw [HU.out, Nat.div_eq_of_lt h, wd.nlen_zero]) hz
        · exact h
      have ht2 := pc_small hle hu
      have hz' : (0 : Int) < (wd.nlen U : Int) := by omega
      obtain ⟨U', hU'⟩ : ∃ U', U' = u / 1000000000 ^ (t + 1) := ⟨_, rfl⟩
      obtain ⟨r, hr⟩ : ∃ r, r = pc.dg (u : Int) t := ⟨_, rfl⟩
      have HNX : Hid _ := fun w2 w4 g' cap' ar' cr' => pieceRel_next (T := 40) (U := U) (w2 := w2) (w4 := w4) (g' := g') (cap' := cap') (ar' := ar') (cr' := cr') (cr := cr) hU' hr hle hu hbel hg hg2 hownp hne
      have hsz := hbel.size
      have HX : Hid (U' < 4294967296 ^ wd.nlen U) := Nat.lt_of_le_of_lt (by rw [HU.out, hU']; exact next_le u t) (wd.nlen_lt _)
      have HP : Hid _ := fun (w2 : World) (h : Wr wr w2 g 0 (wd.nlen U)) => h.own hownp (fun o e => by have := hne _ rfl; rw [e] at this; exact this rfl)
      obtain ⟨p0, p1⟩ := pc.dg_range u t
      rw [← hr] at p0 p1
      have E1 : Hid ((U : Int) % 1000000000 = r) := by unfold Hid; rw [HU.out, hr]; exact piece_dg u t
      have E2 : Hid ((U : Int) / 1000000000 = (U' : Int)) := by unfold Hid; rw [HU.out, hU']; exact piece_next u t
      clear hU' hr hne hle hl hz
      go_wp2_with (first
        | (go_at_call 33; refine (divWord_any g _ cr U w.heap.size 1000000000 _ hownr (wd.nlen_lt _) (by decide) (by decide)).mono ?_; rw [E1.out, E2.out]; rintro e w2 ⟨rfl, hownr2, hwr2⟩; have hownp2 := HP.out w2 hwr2; have hsz2 := hwr2.grown.size)
        | (at_builtin; refine wpList_append_lies _ rfl (.tmp 10) (.tmp 13) 22 rfl w.heap.size 40 i0 (.int .u32 0) 1 4 Tryd.underlying22 hi0 hz0 hz1 hz2 rfl (by decide) (.slice ap t cp) t (pc.dcells t (u : Int)) rfl (World.ownsRow.alloc hownp2 _) ⟨w2.heap.size, 0, none⟩ 1 1 [.int .u32 r] rfl rfl (cell_one_new _ _ _) (ints_oneCell .u32 [r]) (by decide) (by unfold maxLen; omega) (by omega) (by simp; omega) _ rfl ?_; intro g' cap' w4 hown4 hgrow4 hat4 hlt4; have hr4 := (HNX.out w2 w4 g' cap' none 0 hwr2 hownr2 hown4 hgrow4 hat4).1)
        | (go_at_call 29; refine (strip_any _ _ _ U' _ hr4.sl HX.out).mono ?_; rintro e w' ⟨a3, c3, rfl, hw, hcut3⟩; subst hw))
      go_roundw
      case rel => exact (HNX.out w2 w4 g' cap' a3 c3 hwr2 hownr2 hown4 hgrow4 hat4).2 hcut3
      case measure => simp only [slen]; omega
end Go.Proofs.YtjdphcdpgjdmkaaDoor

namespace Go.Proofs.YtjdphcdpgjdmkaaDoor
open Go.RowKit
set_option linter.unusedVariables false

/-- What holds at the head of each round. -/
def TrimRel (s : ByteArray) (v : Value) : Prop := ∃ t : ByteArray, t.size ≤ s.size ∧ (nums t).dropWhile (· == 48) = (nums s).dropWhile (· == 48) ∧ v = .string t
def strLen : Value → Nat
  | .string s => s.size
  | _ => 0
theorem strLen_str (s : ByteArray) : strLen (.string s) = s.size := rfl
theorem str_of_nums {t : ByteArray} {l : List Int} (h : nums t = l) : t = strOfNums l := by rw [← h, str_nums]
theorem size_tail (t : ByteArray) : (t.extract 1 t.size).size = t.size - 1 := by simp

set_option maxRecDepth 100000 in
set_option maxHeartbeats 1000000 in
theorem trimByte_any (s : ByteArray) (w : World) (hs : s.size ≤ 9223372036854775807) :
    Calls Tryd.prog 51 #[.string s, .int .u8 48] w fun e w' => e = .returned (.string (strOfNums ((nums s).dropWhile (· == 48)))) ∧ w = w' := by
  go_enter Tryd.func51, Tryd.ntmps51
  go_wp2
  go_loop [0] (fun v => TrimRel s v) (fun v => strLen v)
  case atStart => exact ⟨s, Nat.le_refl _, rfl, rfl⟩
  case round =>
    obtain ⟨t, ht, hd, rfl⟩ := hrel
    have HD : Hid _ := hd
    clear hd
    by_cases h0 : 0 < t.size
    · have hc := nums_cons t h0
      have HC : Hid _ := hc
      clear hc
      by_cases h48 : (t[0].toNat : Int) = 48
      · have h48' : ((t[0].toNat : Int) == 48) = true := by simpa using h48
        have HE : Hid ((nums (t.extract 1 t.size)).dropWhile (· == 48) = (nums s).dropWhile (· == 48)) := by
          have := HD.out
          rw [HC.out, List.dropWhile_cons, h48', if_pos rfl] at this
          exact this
        clear h48
        go_wp2
        go_round
        case rel => exact ⟨t.extract 1 t.size, by rw [size_tail]; omega, HE.out, rfl⟩
        case measure => rw [strLen_str, strLen_str, size_tail]; omega
      · have h48' : ((t[0].toNat : Int) == 48) = false := by simpa using h48
        have HE : Hid (nums t = (nums s).dropWhile (· == 48)) := by
          have := HD.out
          rw [HC.out, List.dropWhile_cons, h48', if_neg (by simp), ← HC.out] at this
          exact this
        clear h48
        go_wp2
        go_ret
        exact ⟨by rw [← HE.out, str_nums]; rfl, rfl⟩
    · have HE : Hid (nums t = (nums s).dropWhile (· == 48)) := by
        have h1 : nums t = [] := List.length_eq_zero_iff.1 (by rw [nums_length]; omega)
        have := HD.out
        rw [h1] at this
        unfold Hid
        rw [h1, ← this]; rfl
      go_wp2
      go_ret
      exact ⟨by rw [← HE.out, str_nums]; rfl, rfl⟩
set_option maxRecDepth 100000 in
set_option maxHeartbeats 1000000 in
theorem trimLeft_any (s : ByteArray) (w : World) (hs : s.size ≤ 9223372036854775807) (h0 : s.toList.isEmpty = false) :
    Calls Tryd.prog 42 #[.string s, .string ⟨#[48]⟩] w fun e w' => e = .returned (.string (strOfNums ((nums s).dropWhile (· == 48)))) ∧ w = w' := by
  go_enter Tryd.func42, Tryd.ntmps42
  go_wp2_with (go_at_call 51; refine (trimByte_any s _ hs).mono ?_; rintro e w' ⟨rfl, hw⟩; subst hw)
  go_ret
  exact ⟨rfl, rfl⟩
end Go.Proofs.YtjdphcdpgjdmkaaDoor

namespace Go.Proofs.YtjdphcdpgjdmkaaDoor
open Go.RowKit
set_option linter.unusedVariables false

/-- Bytes written from place p on, noughts ahead. -/
def cellsD (p : Nat) (l : List Int) : List Value := List.replicate p (.int .u8 0) ++ l.map (Value.int .u8)
theorem cellsD_length (p : Nat) (l : List Int) : (cellsD p l).length = p + l.length := by simp [cellsD]
theorem set_replicate {α : Type} (z d : α) (n : Nat) (l : List α) : (List.replicate (n + 1) z ++ l).set n d = List.replicate n z ++ d :: l := by
  rw [List.replicate_succ', List.append_assoc, List.set_append_right _ _ (by simp)]
  simp
theorem cellsD_set (p : Nat) (l : List Int) (d : Int) : (cellsD (p + 1) l).set p (.int .u8 d) = cellsD p (d :: l) := by
  unfold cellsD
  rw [set_replicate, List.map_cons]
theorem cellsD_at (p : Nat) (l : List Int) : (cellsD (p + 1) l)[p]? = some (.int .u8 0) := by
  unfold cellsD
  rw [List.getElem?_append_left (by simp), List.getElem?_replicate, if_pos (by omega)]
theorem infoByte : (Tryd.prog.info? 5).map (fun i => (i.zero, i.size, i.bytes)) = some (some (.int .u8 0), 1, 1) := by kernel_rfl
/-- The digit at a place, out of a piece. -/
theorem piece_digit (u j k : Nat) (hk : k < 9) : ((u / 1000000000 ^ j % 1000000000 / 10 ^ k : Nat) : Int) % 10 = ((u / 10 ^ (9 * j + k) % 10 : Nat) : Int) := by
  have e1 : (1000000000 : Nat) ^ j = 10 ^ (9 * j) := by rw [Nat.pow_mul]
  have e2 : u / 10 ^ (9 * j + k) = u / 10 ^ (9 * j) / 10 ^ k := by rw [Nat.pow_add, Nat.div_div_eq_div_mul]
  rw [e1, e2]
  generalize u / 10 ^ (9 * j) = x
  have h : (1000000000 : Nat) = 10 ^ k * (10 * 10 ^ (8 - k)) := by
    rw [← Nat.pow_succ', ← Nat.pow_add, show k + (8 - k + 1) = 9 by omega]
  have h2 : x % 1000000000 / 10 ^ k = x / 10 ^ k % (10 * 10 ^ (8 - k)) := by rw [h, Nat.mod_mul_right_div_self]
  rw [h2]
  have h3 := Nat.mod_mul_right_mod (x / 10 ^ k) 10 (10 ^ (8 - k))
  omega
/-- What holds at the head of each round of the inner loop. -/
def TextIn (w2 : World) (base u c j b : Nat) (ev xv iv : Value) (wr : World) : Prop := ∃ (k p : Nat) (X : Int), k ≤ 9 ∧ k + p + 9 * j = 9 * c ∧ iv = .int .i64 (k : Int) ∧ ev = .int .i64 (p : Int) ∧ xv = .int .u32 X ∧ Hid (X = ((u / 1000000000 ^ j % 1000000000 / 10 ^ k : Nat) : Int)) ∧ 0 ≤ X ∧ X < 4294967296 ∧
  Own wr base 5 (some ⟨b, 0, none⟩) (9 * c) (9 * c) (cellsD p (digs (9 * j + k) u)) ∧ Wr w2 wr b 0 (9 * c)
def TextOut (w2 : World) (base u c b : Nat) (ev iv : Value) (wr : World) : Prop := ∃ (j p : Nat), j ≤ c ∧ p + 9 * j = 9 * c ∧ iv = .int .i64 (j : Int) ∧ ev = .int .i64 (p : Int) ∧
  Own wr base 5 (some ⟨b, 0, none⟩) (9 * c) (9 * c) (cellsD p (digs (9 * j) u)) ∧ Wr w2 wr b 0 (9 * c)
theorem textIn_next {w2 wr : World} {base u c j b k p : Nat} {X : Int} (hk : k < 9) (hp : k + (p + 1) + 9 * j = 9 * c) (hX : Hid (X = ((u / 1000000000 ^ j % 1000000000 / 10 ^ k : Nat) : Int))) (h0 : 0 ≤ X) (h1 : X < 4294967296)
    (hown : Own wr base 5 (some ⟨b, 0, none⟩) (9 * c) (9 * c) (cellsD (p + 1) (digs (9 * j + k) u))) (hw : Wr w2 wr b 0 (9 * c)) :
    TextIn w2 base u c j b (.int .i64 (p : Int)) (.int .u32 (X / 10)) (.int .i64 ((k : Int) + 1)) (wr.setCell ⟨b, p, none⟩ (.int .u8 (48 + X % 10))) := by
  refine ⟨k + 1, p, X / 10, by omega, by omega, by simp, rfl, rfl, ?_, by omega, by omega, ?_, hw.set _ (Nat.zero_le _) (by omega)⟩
  · unfold Hid
    rw [hX.out, Nat.pow_succ, ← Nat.div_div_eq_div_mul]
    omega
  · have := Own.set hown (i := p) (.int .u8 (48 + X % 10)) (by omega)
    rw [cellsD_set, hX.out, piece_digit u j k hk, show (48 + ((u / 10 ^ (9 * j + k) % 10 : Nat) : Int)) :: digs (9 * j + k) u = digs (9 * j + (k + 1)) u from rfl] at this
    rw [hX.out, piece_digit u j k hk]
    exact this
theorem pc_piece (u j : Nat) : pc.dg (u : Int) j = ((u / 1000000000 ^ j % 1000000000 : Nat) : Int) := pc.dg_nat u j
theorem digs_text (u : Nat) (hu : 0 < u) : strOfNums ((nums (strOfNums (digs (9 * pc.nlen u) u))).dropWhile (· == 48)) = decS u := by
  rw [nums_str _ fun c hc => by have := digs_bytes _ _ c hc; omega]
  have h1 := isDec_dlen u
  have h2 : dlen u ≤ 9 * pc.nlen u := by
    have hl := pc.nlen_lt u
    have e : (1000000000 : Nat) ^ pc.nlen u = 10 ^ (9 * pc.nlen u) := by rw [Nat.pow_mul]
    rw [e] at hl
    rcases Nat.lt_or_ge (9 * pc.nlen u) (dlen u) with h | h
    · rcases h1.2.2 with h3 | h3
      · have := pc.nlen_pos hu; omega
      · have := Nat.pow_le_pow_right (n := 10) (by decide) (show 9 * pc.nlen u ≤ dlen u - 1 by omega)
        omega
    · exact h
  have := digs_drop (9 * pc.nlen u - dlen u) (dlen u) u hu h1
  rw [show dlen u + (9 * pc.nlen u - dlen u) = 9 * pc.nlen u by omega] at this
  rw [this]
  rfl
theorem pc_few {u l : Nat} (h : u < 4294967296 ^ l) : pc.nlen u ≤ 2 * l + 1 := by
  rcases (pc.nlen_is u).2 with h1 | h1
  · omega
  · have := pc_small h1 h; omega

set_option maxRecDepth 100000 in
set_option maxHeartbeats 2000000 in
theorem show_any (a : Option Addr) (la ca u : Nat) (w : World) (ha : Sl w a la ca (wd.dcells la (u : Int))) (hu : u < 4294967296 ^ la) (hla : la ≤ 1000000000) :
    Calls Tryd.prog 28 #[.slice a la ca] w fun e w' => e = .returned (.string (decS u)) ∧ Below w.heap.size w w' := by
  by_cases h0 : u = 0
  · subst h0
    have hz : pc.nlen 0 = 0 := pc.nlen_zero
    have HP : Hid _ := fun ap cp => (show Value.slice ap (pc.nlen 0) cp = Value.slice ap 0 cp by rw [hz])
    clear hz
    go_enter Tryd.func28, Tryd.ntmps28
    go_wp2_with (go_at_call 41; refine (pieces_any a la ca 0 _ ha hu hla).mono ?_; rintro e w1 ⟨ap, cp, rfl, hown, hbel⟩; rw [HP.out ap cp])
    go_ret
    exact ⟨rfl, hbel⟩
  · have hpos : 0 < u := by omega
    have hc1 := pc.nlen_pos hpos
    have hc2 := pc_few hu
    have HT : Hid _ := digs_text u hpos
    obtain ⟨i0, hi0, hz0, hz1, hz2⟩ := info_parts infoByte
    obtain ⟨c, hc⟩ : ∃ c, pc.nlen u = c := ⟨_, rfl⟩
    have HC : Hid _ := hc
    rw [hc] at hc1 hc2
    have HP : Hid _ := fun (w : World) (ha : Sl w a la ca (wd.dcells la (u : Int))) => pieces_any a la ca u w ha hu hla
    rw [hc] at HT
    have hmax : 9 * c ≤ maxLen := by unfold maxLen; omega
    clear hc h0
    go_enter Tryd.func28, Tryd.ntmps28
    go_wp2_with (first
      | (go_at_call 41; refine (HP.out _ ha).mono ?_; rw [HC.out]; rintro e w1 ⟨ap, cp, rfl, hownp, hbel⟩; have hsz := hbel.size)
      | (at_make; refine make_any _ rfl (.tmp 15) (.tmp 15) 68 rfl w.heap.size 5 i0 (.int .u8 0) Tryd.underlying68 hi0 hz0 hz1 rfl .i64 .i64 _ _ (9 * c) rfl rfl (by omega) (by omega) (by rw [hz2]; omega) (by omega) hsz ?_; intro w2 hown hbel2))
    have hb1 : Below w.heap.size w w2 := hbel.trans (hbel2.mono hsz)
    have hown0 : Own w2 w.heap.size 5 (some ⟨w1.heap.size, 0, none⟩) (9 * c) (9 * c) (cellsD (9 * c) (digs (9 * 0) u)) := by
      have : cellsD (9 * c) (digs (9 * 0) u) = List.replicate (9 * c) (.int .u8 0) := by simp [cellsD, digs]
      rw [this]; exact hown
    have hpSl : Sl w2 ap c cp (pc.dcells c (u : Int)) := (Own.sl hownp).below hbel2
    have hpne : ∀ o, ap ≠ some ⟨w1.heap.size, o, none⟩ := fun o e => by
      obtain ⟨b', e', hb', _, _⟩ := Own.at hownp hc1
      rw [e'] at e
      cases e
      omega
    clear hown hownp hbel hbel2
    go_loopw [5, 21] (fun ev iv wr => TextOut w2 w.heap.size u c w1.heap.size ev iv wr) (fun _ iv _ => c - (intOf iv).toNat)
    case atStart => exact ⟨0, 9 * c, by omega, by omega, rfl, by go_num, hown0, Wr.refl _ _ _ _⟩
    case round =>
      clear hown0
      obtain ⟨j, p, hj, hp, rfl, rfl, hown, hwr⟩ := hrel
      by_cases hlt : j < c
      · obtain ⟨bp, op, rfl, hbp, hsp⟩ := hpSl.at hc1
        have hroom := hpSl.room
        have hne : bp ≠ w1.heap.size := fun e => hpne op (by rw [e])
        have c1 : wr.cell? ⟨bp, op + j, none⟩ = some (.int .u32 (pc.dg u j)) := (hwr.seg hsp hbp hne).cell j _ (pc.dcells_at _ _ _ hlt)
        obtain ⟨X, hX⟩ : ∃ X, X = pc.dg (u : Int) j := ⟨_, rfl⟩
        obtain ⟨x0, x1⟩ := pc.dg_range u j
        rw [← hX] at c1 x0 x1
        have HX : Hid (X = ((u / 1000000000 ^ j % 1000000000 / 10 ^ 0 : Nat) : Int)) := by unfold Hid; rw [hX, pc_piece, Nat.pow_zero, Nat.div_one]
        have HI : Hid (TextIn w2 w.heap.size u c j w1.heap.size (.int .i64 (p : Int)) (.int .u32 X) (.int .i64 0) wr) := ⟨0, p, X, by omega, by omega, rfl, rfl, rfl, HX, x0, by omega, by rw [Nat.add_zero]; exact hown, hwr⟩
        clear hown hwr hX HX
        go_wp2
        go_loopw [5, 7, 25] (fun ev xv iv wr => TextIn w2 w.heap.size u c j w1.heap.size ev xv iv wr) (fun _ _ iv _ => 9 - (intOf iv).toNat)
        case atStart => exact HI.out
        case round =>
          obtain ⟨k, p', Y, hk, hp', rfl, rfl, rfl, HY, y0, y1, hown, hwr⟩ := hrel
          by_cases hk9 : k < 9
          · obtain ⟨p', rfl⟩ : ∃ q, p' = q + 1 := ⟨p' - 1, by omega⟩
            have c3 := Own.cell hown p' _ (cellsD_at p' _)
            have c4 := Own.free hown p' (by omega)
            have HN : Hid _ := textIn_next hk9 hp' HY y0 y1 hown hwr
            have e1 : ((p' + 1 : Nat) : Int) - 1 = (p' : Int) := by omega
            clear hown
            go_wp2
            go_roundw
            case rel => exact HN.out
            case measure => simp [intOf]; omega
          · obtain rfl : k = 9 := by omega
            have HO : Hid (TextOut w2 w.heap.size u c w1.heap.size (.int .i64 (p' : Int)) (.int .i64 ((j : Int) + 1)) wr) := ⟨j + 1, p', by omega, by omega, by simp, rfl, by rw [show 9 * (j + 1) = 9 * j + 9 by omega]; exact hown, hwr⟩
            clear hown
            go_wp2
            go_roundw
            case rel => exact HO.out
            case measure => simp [intOf]; omega
      · obtain rfl : j = c := by omega
        obtain rfl : p = 0 := by omega
        have hconv : (convert 68 9 (.slice (some ⟨w1.heap.size, 0, none⟩) (9 * j) (9 * j))).run Tryd.prog wr = .ok (.string (strOfNums (digs (9 * j) u))) wr := by
          refine run_convert_bytes_arg wr 68 5 Tryd.underlying68 Tryd.underlying5 w1.heap.size 0 (9 * j) (9 * j) _ (digs_length _ _) (fun i hi => ?_) 9 Tryd.underlying9
          rw [Nat.zero_add]
          refine Own.cell hown i _ ?_
          unfold cellsD
          rw [List.replicate_zero, List.nil_append, List.getElem?_map, List.getElem?_eq_getElem (by rw [digs_length]; exact hi), List.getD, List.getElem?_eq_getElem (by rw [digs_length]; exact hi)]
          rfl
        have hbel := hwr.after hb1 hsz (Nat.le_refl _)
        have hsize : (strOfNums (digs (9 * j) u)).size ≤ 9223372036854775807 := by rw [strOfNums_size, digs_length]; omega
        have hne0 : (strOfNums (digs (9 * j) u)).toList.isEmpty = false := by
          rw [ByteArray.toList_eq, List.isEmpty_eq_false_iff, ← List.length_pos_iff]
          show 0 < (strOfNums (digs (9 * j) u)).size
          rw [strOfNums_size, digs_length]; omega
        clear hown
        go_wp2_with (go_at_call 42; refine (trimLeft_any _ _ hsize hne0).mono ?_; rintro e w' ⟨rfl, hw⟩; subst hw)
        go_ret
        exact ⟨by rw [← HT.out]; rfl, hbel⟩
end Go.Proofs.YtjdphcdpgjdmkaaDoor
