/-
  Joined texts of this law, part 1:
  What zelligeref03's Nat and Same answer.
  What zelligeref03's Same answers of a number and its digits.
  Areas, squares of distances, the circle's determinant: how great they are, what becomes of them when points are put for one another or moved. It imports nothing of the program.
  Blocks of two to four cells, made one behind the other, and what they hold behind a store into another. It imports nothing of the program.
  What zelligeref03 answers, with letters for the lengths.
  What zelligeref04's Of, Same, make1, Neg, Add, Sub, Mul and Cmp answer.
  A region whose order is open and whose last operation writes what the others read: the condition S on the world is kept up to that operation, and not behind it. It imports nothing of the program.
  Blocks of six cells: what they hold. It imports nothing of the program.
  What package circum's narrow, crossed and squares answer.
  What package rat's alike, bothDens, Norm, Neg, Add, Sub and Mul answer.
  What package circum's fraction and halfway answer.
  The circle of three points: its center by the weights of the corners and by a determinant, and how great it is. It imports nothing of the program.
  What zelligeref05's Low and Same answer.
  What zelligeref05's Add and Sub answer.
  Mathematics of a field, by fractions in lowest terms: what was added, or multiplied, can be taken back, and a factor goes to each part of a sum.
  The circle of three points in lowest terms: the center, how far it is from the corners, and which circles are small. It imports nothing of the program but what fractions in lowest terms are.
  What circum's functions must answer: the laws of layer 9 are walked over this.
  What package circum's Center and Radius2 answer.
  CircumRadii's walk, of what circum's functions answer.
  A law's argument that is an array of three points: taken apart and put together again.
-/
import Derived.Test.YtcaihoomcdbfnaaGreatP14
import Derived.Deep.RegionHeld3
import Derived.Test.YtcaihoomcdbfnaaGreatChecked
import Derived.Laws.IdiomArrays
import Derived.ProofKit
import Derived.OpenShut
import Derived.Lib.SmallJoins
namespace Go.Proofs.YtcaihoomcdbfnaaGreat
open Go.RowKit
set_option linter.unusedVariables false

theorem wd_half (u : Nat) (k : Nat) : wd.dg (u : Int) k = hf.dg u (2 * k) + 65536 * hf.dg u (2 * k + 1) := by
  have h := halves u k
  omega
/-- How many words digits make. -/
theorem wd_of_hf (u : Nat) : wd.nlen u = (hf.nlen u + 1) / 2 := by
  refine wd.nlen_eq ⟨?_, ?_⟩
  · rw [← pow_halves]
    exact Nat.lt_of_lt_of_le (hf.nlen_lt u) (Nat.pow_le_pow_right (by decide) (by omega))
  · rcases (hf.nlen_is u).2 with h | h
    · exact Or.inl (by rw [h])
    · rcases Nat.eq_zero_or_pos (hf.nlen u) with h0 | h0
      · exact Or.inl (by rw [h0])
      · right
        rw [← pow_halves]
        exact Nat.le_trans (Nat.pow_le_pow_right (by decide) (by omega)) h
/-- What holds at the head of each round. -/
def NatRel (w : World) (u l : Nat) (v i : Value) (wr : World) : Prop := ∃ (k cap : Nat) (a : Option Addr), 2 * k ≤ l + 1 ∧ i = .int .i64 (2 * (k : Int)) ∧ v = .slice a k cap ∧ Own wr w.heap.size 115 a k cap (wd.dcells k (u : Int)) ∧ Below w.heap.size w wr
theorem natRel_next {w wr w2 w4 : World} {u l k cap cap' g' : Nat} {a : Option Addr} {x : Int} (hx : x = wd.dg u k) (hk : 2 * k < l) (hown : Own wr w.heap.size 115 a k cap (wd.dcells k (u : Int))) (hbel : Below w.heap.size w wr)
    (h4 : w4.ownsRow w.heap.size 115 1 (.slice (some ⟨g', 0, none⟩) (k + 1) cap') (k + 1) (wd.dcells k (u : Int) ++ [.int .u32 x]))
    (h2 : Below wr.heap.size wr w2) (hgr : w2.grownBy w4 (Value.slice a k cap).ownBlock) : NatRel w u l (.slice (some ⟨g', 0, none⟩) (k + 1) cap') (.int .i64 (2 * (k : Int) + 2)) w4 := by
  have hs := hbel.size
  refine ⟨k + 1, cap', _, by omega, by simp; omega, rfl, ?_, (hbel.trans (h2.mono hs)).grown hgr (by have := h2.size; omega) (fun k' hk' => (World.ownsRow.lt hown k' hk').1)⟩
  rw [wd.dcells_succ, ← hx]
  exact h4
set_option maxRecDepth 100000 in
set_option maxHeartbeats 1000000 in
theorem rnat_any (a : Option Addr) (ca u : Nat) (w : World) (ha : Sl w a (hf.nlen u) ca (hf.dcells (hf.nlen u) (u : Int))) (hl : hf.nlen u ≤ 1000000000) :
    Calls Tryz.prog 73 #[.slice a (hf.nlen u) ca] w fun e w' => ∃ a' cap', e = .returned (.slice a' (wd.nlen u) cap') ∧ Own w' w.heap.size 115 a' (wd.nlen u) cap' (wd.dcells (wd.nlen u) (u : Int)) ∧ Below w.heap.size w w' := by
  obtain ⟨i0, hi0, hz0, hz1, hz2⟩ := info_parts infoWord
  have hown0 := own_empty w w.heap.size 115 (Nat.le_refl _)
  obtain ⟨l, hl'⟩ : ∃ l, hf.nlen u = l := ⟨_, rfl⟩
  have HW : Hid (wd.nlen u = (l + 1) / 2) := by unfold Hid; rw [wd_of_hf, hl']
  have HT : Hid (u < 65536 ^ l) := by unfold Hid; rw [← hl']; exact hf.nlen_lt u
  rw [hl'] at ha hl ⊢
  clear hl'
  go_enter Tryz.func73, Tryz.ntmps73
  go_wp2
  go_loopw [3, 4] (fun v i wr => NatRel w u l v i wr) (fun _ i _ => l + 1 - (intOf i).toNat)
  case atStart => exact ⟨0, 0, _, by omega, rfl, rfl, hown0, (Below.refl _ _).alloc (Nat.le_refl _) _⟩
  case round =>
    clear hown0
    obtain ⟨k, cap, v, hk, rfl, rfl, hown, hbel⟩ := hrel
    have hsz := hbel.size
    by_cases hlt : 2 * k < l
    · obtain ⟨ba, oa, rfl, hba, hseg⟩ := ha.at (by omega)
      have hroom := ha.room
      have c1 : wr.cell? ⟨ba, oa + 2 * k, none⟩ = some (.int .i64 (hf.dg u (2 * k))) := (hbel.cell (p := ⟨ba, oa + 2 * k, none⟩) hba).trans (hseg.cell (2 * k) _ (hf.dcells_at _ _ _ hlt))
      obtain ⟨d0, d1⟩ := hf.dg_range u (2 * k)
      have hlt' : (2 * (k : Int)) < l := by omega
      by_cases hl2 : 2 * k + 1 < l
      · have hl2' : (2 * (k : Int)) + 1 < l := by omega
        have c2 : wr.cell? ⟨ba, oa + (2 * k + 1), none⟩ = some (.int .i64 (hf.dg u (2 * k + 1))) := (hbel.cell (p := ⟨ba, oa + (2 * k + 1), none⟩) hba).trans (hseg.cell (2 * k + 1) _ (hf.dcells_at _ _ _ hl2))
        obtain ⟨e0, e1⟩ := hf.dg_range u (2 * k + 1)
        have HN : Hid _ := fun w2 w4 g' cap' => natRel_next (x := hf.dg u (2 * k) + 65536 * hf.dg u (2 * k + 1)) (w2 := w2) (w4 := w4) (g' := g') (cap' := cap') (wd_half u k).symm hlt hown hbel
        go_wp2_with (at_builtin; refine wpList_append_lies _ rfl (.tmp 30) (.tmp 33) 25 rfl w.heap.size 115 i0 (.int .u32 0) 1 4 Tryz.underlying25 hi0 hz0 hz1 hz2 rfl (by decide) (.slice v k cap) k (wd.dcells k (u : Int)) rfl (World.ownsRow.alloc hown _) ⟨wr.heap.size, 0, none⟩ 1 1 [.int .u32 (hf.dg u (2 * k) + 65536 * hf.dg u (2 * k + 1))] rfl rfl (cell_one_new _ _ _) (ints_oneCell .u32 [hf.dg u (2 * k) + 65536 * hf.dg u (2 * k + 1)]) (by decide) (by unfold maxLen; omega) (by omega) (by simp; omega) _ rfl ?_; intro g' cap' w4 hown4 hgrow4 hat4 hlt4)
        go_roundw
        case rel => exact HN.out _ w4 g' cap' hown4 ((Below.refl _ _).alloc (Nat.le_refl _) _) hgrow4
        case measure => simp [intOf]; omega
      · have hl2' : ¬ (2 * (k : Int)) + 1 < l := by omega
        have HX : Hid (hf.dg (u : Int) (2 * k) = wd.dg u k) := by
          have : hf.dg (u : Int) (2 * k + 1) = 0 := hf.dg_over (Nat.lt_of_lt_of_le HT.out (Nat.pow_le_pow_right (by decide) (by omega)))
          have h := wd_half u k
          unfold Hid
          omega
        have HN : Hid _ := fun w2 w4 g' cap' => natRel_next (x := hf.dg u (2 * k)) (w2 := w2) (w4 := w4) (g' := g') (cap' := cap') HX.out hlt hown hbel
        go_wp2_with (at_builtin; refine wpList_append_lies _ rfl (.tmp 30) (.tmp 33) 25 rfl w.heap.size 115 i0 (.int .u32 0) 1 4 Tryz.underlying25 hi0 hz0 hz1 hz2 rfl (by decide) (.slice v k cap) k (wd.dcells k (u : Int)) rfl (World.ownsRow.alloc hown _) ⟨wr.heap.size, 0, none⟩ 1 1 [.int .u32 (hf.dg u (2 * k))] rfl rfl (cell_one_new _ _ _) (ints_oneCell .u32 [hf.dg u (2 * k)]) (by decide) (by unfold maxLen; omega) (by omega) (by simp; omega) _ rfl ?_; intro g' cap' w4 hown4 hgrow4 hat4 hlt4)
        go_roundw
        case rel => exact HN.out _ w4 g' cap' hown4 ((Below.refl _ _).alloc (Nat.le_refl _) _) hgrow4
        case measure => simp [intOf]; omega
    · have HE : Hid (wd.nlen u = k) := by unfold Hid; rw [HW.out]; omega
      have hlt' : ¬ (2 * (k : Int)) < l := by omega
      go_wp2
      go_ret
      rw [HE.out]
      exact ⟨v, cap, rfl, hown, hbel⟩
end Go.Proofs.YtcaihoomcdbfnaaGreat

namespace Go.Proofs.YtcaihoomcdbfnaaGreat
open Go.RowKit
set_option linter.unusedVariables false

set_option maxRecDepth 100000 in
set_option maxHeartbeats 1000000 in
theorem same_yes (a b : Option Addr) (ca cb u : Nat) (w : World) (ha : Sl w a (wd.nlen u) ca (wd.dcells (wd.nlen u) (u : Int))) (hb : Sl w b (hf.nlen u) cb (hf.dcells (hf.nlen u) (u : Int))) (hl : hf.nlen u ≤ 1000000000) :
    Calls Tryz.prog 36 #[.slice a (wd.nlen u) ca, .slice b (hf.nlen u) cb] w fun e w' => e = .returned (.bool true) ∧ Below w.heap.size w w' := by
  have hm : wd.nlen u ≤ 1000000000 := by have := wd_of_hf u; omega
  go_enter Tryz.func36, Tryz.ntmps36
  go_wp2_with (go_at_call 73; refine (rnat_any b cb u _ hb hl).mono ?_; rintro e w1 ⟨a1, c1, rfl, hown, hbel⟩)
  go_loopw [6] (fun i wr => ∃ k : Nat, k ≤ wd.nlen u ∧ i = .int .i64 (k : Int) ∧ ∃ n, wr = w1.drewN n) (fun i _ => wd.nlen u - (intOf i).toNat)
  case atStart => exact ⟨0, by omega, rfl, 0, rfl⟩
  case round =>
    obtain ⟨k, hk, rfl, n, rfl⟩ := hrel
    by_cases hlt : k < wd.nlen u
    · obtain ⟨ba, oa, rfl, hba, hseg⟩ := ha.at (by omega)
      have hroom := ha.room
      obtain ⟨g, rfl, hg, hg2, hsg⟩ := Own.at hown (by omega)
      have hroom2 := (Own.sl hown).room
      have q1 : w1.cell? ⟨ba, oa + k, none⟩ = some (.int .u32 (wd.dg u k)) := (hbel.cell (p := ⟨ba, oa + k, none⟩) hba).trans (hseg.cell k _ (wd.dcells_at _ _ _ hlt))
      have q2 : w1.cell? ⟨g, k, none⟩ = some (.int .u32 (wd.dg u k)) := Own.cell hown k _ (wd.dcells_at _ _ _ hlt)
      have hne : (wd.dg (u : Int) k != wd.dg (u : Int) k) = false := by simp
      go_wp2
      go_quiet (fail)
      go_wp2
      go_roundw
      case rel => exact ⟨k + 1, by omega, by simp, _, rfl⟩
      case measure => simp [intOf]; omega
    · go_wp2
      go_ret
      exact ⟨rfl, below_drewN hbel n⟩
end Go.Proofs.YtcaihoomcdbfnaaGreat

namespace Go.Proofs.YtcaihoomcdbfnaaGreat
open Go.RowKit
set_option linter.unusedVariables false

theorem area_moved (ax ay bx by' cx cy u v : Int) : areaP (ax + u) (ay + v) (bx + u) (by' + v) (cx + u) (cy + v) = areaP ax ay bx by' cx cy := by
  unfold areaP; rw [Int.add_sub_add_right, Int.add_sub_add_right, Int.add_sub_add_right, Int.add_sub_add_right]
theorem dist_moved (ax ay bx by' u v : Int) : distP (ax + u) (ay + v) (bx + u) (by' + v) = distP ax ay bx by' := by
  unfold distP; rw [Int.add_sub_add_right, Int.add_sub_add_right]
end Go.Proofs.YtcaihoomcdbfnaaGreat

namespace Go.Proofs.YtcaihoomcdbfnaaGreat
open Go.RowKit
set_option linter.unusedVariables false
theorem bs_444 (w : World) (x00 x01 x02 x03 x10 x11 x12 x13 x20 x21 x22 x23 : Value) (t0 t1 t2 : TypeId) : ∃ W, W = (((w.alloc (.cells #[x00, x01, x02, x03] t0)).alloc (.cells #[x10, x11, x12, x13] t1)).alloc (.cells #[x20, x21, x22, x23] t2)) ∧ Below w.heap.size w W ∧ B4 W (w.heap.size) x00 x01 x02 x03 ∧ B4 W (w.heap.size + 1) x10 x11 x12 x13 ∧ B4 W (w.heap.size + 1 + 1) x20 x21 x22 x23 ∧ w.heap.size + 1 + 1 < W.heap.size := by
  have e0 : Below w.heap.size w (w.alloc (.cells #[x00, x01, x02, x03] t0)) := (Below.refl _ _).alloc (Nat.le_refl _) _
  have h0 := b4_new w x00 x01 x02 x03 t0
  have e1 : Below (w.alloc (.cells #[x00, x01, x02, x03] t0)).heap.size (w.alloc (.cells #[x00, x01, x02, x03] t0)) ((w.alloc (.cells #[x00, x01, x02, x03] t0)).alloc (.cells #[x10, x11, x12, x13] t1)) := (Below.refl _ _).alloc (Nat.le_refl _) _
  have h1 := b4_new (w.alloc (.cells #[x00, x01, x02, x03] t0)) x10 x11 x12 x13 t1
  rw [World.size_alloc] at h1
  have e2 : Below ((w.alloc (.cells #[x00, x01, x02, x03] t0)).alloc (.cells #[x10, x11, x12, x13] t1)).heap.size ((w.alloc (.cells #[x00, x01, x02, x03] t0)).alloc (.cells #[x10, x11, x12, x13] t1)) (((w.alloc (.cells #[x00, x01, x02, x03] t0)).alloc (.cells #[x10, x11, x12, x13] t1)).alloc (.cells #[x20, x21, x22, x23] t2)) := (Below.refl _ _).alloc (Nat.le_refl _) _
  have h2 := b4_new ((w.alloc (.cells #[x00, x01, x02, x03] t0)).alloc (.cells #[x10, x11, x12, x13] t1)) x20 x21 x22 x23 t2
  rw [World.size_alloc, World.size_alloc] at h2
  exact ⟨_, rfl, also (also (e0) e1) e2, ((h0.on e1).on e2), (h1.on e2), h2, by simp⟩
end Go.Proofs.YtcaihoomcdbfnaaGreat

namespace Go.Proofs.YtcaihoomcdbfnaaGreat
open Go.RowKit
set_option linter.unusedVariables false

theorem hSame (a b : Option Addr) (la lb ca cb u : Nat) (w : World) (ha : Sl w a la ca (wd.dcells la (u : Int))) (ea : la = wd.nlen u) (hb : HD w b lb cb u) (fu : hf.nlen u ≤ 1000000) : Calls Tryz.prog 36 #[.slice a la ca, .slice b lb cb] w fun e w' => e = .returned (.bool true) ∧ Below w.heap.size w w' := by
  subst ea
  obtain ⟨hb, rfl⟩ := hb
  exact same_yes a b ca cb u w ha hb (by omega)
end Go.Proofs.YtcaihoomcdbfnaaGreat

namespace Go.Proofs.YtcaihoomcdbfnaaGreat
open Go.RowKit
set_option linter.unusedVariables false

set_option maxRecDepth 100000 in
set_option maxHeartbeats 1000000 in
theorem rwSame (n : Bool) (s : Int) (a d : Option Addr) (la ca l c : Nat) (z : Int) (w : World) (ha : WN w n a la ca z) (hd : RN w s d l c z) (fz : hf.nlen z.natAbs ≤ 1000000) :
    Calls Tryz.prog 35 #[.agg #[.bool n, .slice a la ca], .agg #[.int .i64 s, .slice d l c]] w fun e w' => e = .returned (.bool true) ∧ Below w.heap.size w w' := by
  obtain ⟨B0, xa, xd, hs⟩ := box1 w (.bool n) (.slice a la ca) (.int .i64 s) (.slice d l c) 27 39
  have na := ha.nd.below B0
  have nd := hd.hd.below B0
  have hn : n = decide (s < 0) := by
    rw [ha.sg, hd.sg]
    rcases sign_cases z with ⟨h, e⟩ | ⟨h, e⟩ | ⟨h, e⟩ <;> rw [e] <;> simp <;> omega
  by_cases h0 : s < 0
  · obtain rfl : n = true := by rw [hn]; simpa using h0
    clear hn
    go_enter Tryz.func35, Tryz.ntmps35
    go_wp2_with (go_at_call 36; fail)
    refine (hSame a d la l ca c _ _ na.sl na.len nd fz).mono ?_
    rintro e w1 ⟨rfl, b1⟩
    obtain ⟨k0, k1, k2, k3⟩ := xd.on b1
    obtain ⟨j0, j1, j2, j3⟩ := xa.on b1
    go_wp2
    go_ret
    exact ⟨rfl, also B0 b1⟩
  · obtain rfl : n = false := by rw [hn]; simpa using h0
    have h0' : decide (s < 0) = false := by simpa using h0
    clear hn
    go_enter Tryz.func35, Tryz.ntmps35
    go_wp2_with (go_at_call 36; fail)
    refine (hSame a d la l ca c _ _ na.sl na.len nd fz).mono ?_
    rintro e w1 ⟨rfl, b1⟩
    obtain ⟨k0, k1, k2, k3⟩ := xd.on b1
    obtain ⟨j0, j1, j2, j3⟩ := xa.on b1
    go_wp2
    go_ret
    exact ⟨rfl, also B0 b1⟩

end Go.Proofs.YtcaihoomcdbfnaaGreat

namespace Go.Proofs.YtcaihoomcdbfnaaGreat
variable {P : Program} {md : Region.Mode} {Q : Exit → Act → World → Prop} {S : World → Prop} {z : Nat}

/-- Whatever order is picked from here on; S holds behind every operation but the last one, number z. -/
def anyL (P : Program) (md : Region.Mode) (ops : Array Oper) (Q : Exit → Act → World → Prop) (S : World → Prop) (z : Nat) : Nat → Array Bool → Act → World → Prop
  | 0, L, a, w => Region.ready md ops L = [] ∧ Q .normal a w
  | f + 1, L, a, w => (Region.ready md ops L = [] → Q .normal a w) ∧ ∀ i ∈ Region.ready md ops L, wpOp P ops Q i (fun a' w' => (i ≠ z → S w') ∧ anyL P md ops Q S z f (L.setIfInBounds i true) a' w') a w
theorem anyL_any {ops : Array Oper} : ∀ (f : Nat) (L : Array Bool) (a : Act) (w : World), anyL P md ops Q S z f L a w → wpAny P md ops Q f L a w
  | 0, _, _, _, h => h
  | f + 1, _, _, _, h => ⟨h.1, fun i hi => wpOp_mono (fun a' w' h' => anyL_any f _ a' w' h'.2) (h.2 i hi)⟩
/-- An operation for which the last one waits, and which yields its value in every world that meets S, may be taken first. -/
theorem anyL_first {ops : Array Oper} {i : Nat} {oi : Oper} {v : Value} (hi : ops[i]? = some oi) (hs : Region.noSelect ops = true)
    (hz : ∀ oz, ops[z]? = some oz → ∃ e ∈ oz.after, Region.binds md e = true ∧ e.on = i) (hzi : i ≠ z) (hQ : ∀ c a w, Q (.panic c) (a.put oi.dst v) w → Q (.panic c) a w) :
    ∀ (f : Nat) (L : Array Bool) (a : Act) (w : World), Region.free md ops L i = true → i ∈ Region.ready md ops L → YieldsIf P ops S oi v a → S w →
      anyL P md ops Q S z f (L.setIfInBounds i true) (a.put oi.dst v) w → anyL P md ops Q S z (f + 1) L a w := by
  suffices H : ∀ (f : Nat) (L : Array Bool) (a : Act) (w : World),
      (∀ j oj, ops[j]? = some oj → j ≠ i → L.getD j true = false → (∀ e ∈ oj.after, Region.binds md e = true → e.on ≠ i) → oi.apart ops oj = true) →
      i ∈ Region.ready md ops L → YieldsIf P ops S oi v a → S w → anyL P md ops Q S z f (L.setIfInBounds i true) (a.put oi.dst v) w → anyL P md ops Q S z (f + 1) L a w from
    fun f L a w hf hr hy hS h => H f L a w (Region.free_spec hi hf) hr hy hS h
  have sel := Region.noSelect_spec hs
  intro f
  induction f with
  | zero =>
    intro L a w _ hr hy hS h
    refine ⟨fun e => absurd hr (by rw [e]; exact List.not_mem_nil), fun j hj => ?_⟩
    rcases Decidable.em (j = i) with rfl | hne
    · exact hy.wpOp hi hS ⟨fun _ => hS, h⟩
    · exact absurd (ready_mono hj hne) (by rw [h.1]; exact List.not_mem_nil)
  | succ f ih =>
    intro L a w hfree hr hy hS h
    refine ⟨fun e => absurd hr (by rw [e]; exact List.not_mem_nil), fun j hj => ?_⟩
    rcases Decidable.em (j = i) with rfl | hne
    · exact hy.wpOp hi hS ⟨fun _ => hS, h⟩
    obtain ⟨hun, oj, hoj, hall⟩ := mem_ready.1 hj
    have hi0 := (mem_ready.1 hr).1
    have hno : ∀ e ∈ oj.after, Region.binds md e = true → e.on ≠ i := by
      intro e he hb q
      have h1 := hall e he hb
      rw [q] at h1
      rcases Nat.lt_or_ge i L.size with g | g
      · simp [g] at hi0 h1
        rw [hi0] at h1
        cases h1
      · simp [Array.getElem?_eq_none g] at h1
    have hjz : j ≠ z := by
      rintro rfl
      obtain ⟨e, he, hb, q⟩ := hz oj hoj
      exact hno e he hb q
    have h2 := wpOp_putIf hoj (hfree j oj hoj hne hun hno) (fun cs b => sel i oi cs b hi) (fun cs b => sel j oj cs b hoj) hQ hy (h.2 j (ready_mono hj hne))
    refine wpOp_mono (fun a' w' h3 => ⟨h3.2.1, ih _ a' w' (fun k ok hk hki hku hkn => hfree k ok hk hki ?_ hkn) (ready_mono hr (Ne.symm hne)) h3.1 (h3.2.1 hjz) ?_⟩) h2
    · rcases Decidable.em (j = k) with rfl | q
      · exact hun
      · rwa [getD_set_ne true q] at hku
    · rw [Array.setIfInBounds_comm _ _ hne]
      exact h3.2.2
def waitsFor (md : Region.Mode) (ops : Array Oper) (z i : Nat) : Bool := ((ops[z]?).map fun o => o.after.any fun e => Region.binds md e && e.on == i).getD true
theorem waits_spec {ops : Array Oper} {i : Nat} (h : waitsFor md ops z i = true) : ∀ oz, ops[z]? = some oz → ∃ e ∈ oz.after, Region.binds md e = true ∧ e.on = i := by
  intro oz ho
  unfold waitsFor at h
  rw [ho] at h
  simp only [Option.map_some, Option.getD_some] at h
  obtain ⟨k, hk, hp⟩ := Array.any_eq_true.1 h
  rw [Bool.and_eq_true_iff] at hp
  exact ⟨_, Array.getElem_mem hk, hp.1, by simpa using hp.2⟩
theorem takeL_yes {l : List Oper} {i : Nat} {oi : Oper} {v : Value} {f : Nat} {L : Array Bool} {a : Act} {w : World} (hi : l[i]? = some oi)
    (hs : Region.noSelect l.toArray = true) (hf : Region.free md l.toArray L i = true) (hr : (Region.ready md l.toArray L).contains i = true) (hz : waitsFor md l.toArray z i = true) (hzi : i ≠ z)
    (hQ : ∀ c a w, Q (.panic c) (a.put oi.dst v) w → Q (.panic c) a w) (hw : Region.wanted oi (yielded l.toArray a.tmps) = true) (hS : S w)
    (hy : ∀ w, S w → (execOp a.eval oi).run P w = .ok (.value v) w)
    (h : anyL P md l.toArray Q S z f (L.setIfInBounds i true) (a.put oi.dst v) w) : anyL P md l.toArray Q S z (f + 1) L a w :=
  anyL_first (by simpa using hi) hs (waits_spec hz) hzi hQ f L a w hf (by simpa using hr) (Or.inl ⟨hw, hy⟩) hS h
theorem takeL_last {l : List Oper} {o : Oper} {f : Nat} {L : Array Bool} {a : Act} {w : World} (ho : l[z]? = some o) (hr : Region.ready md l.toArray L = [z])
    (h : ∀ K' : Act → World → Prop, Shut (∀ a w, anyL P md l.toArray Q S z f (L.setIfInBounds z true) a w → K' a w) → if Region.wanted o (yielded l.toArray a.tmps) = true then Oper.wp P o a w K' Q else K' (a.put o.dst undef) w) :
    anyL P md l.toArray Q S z (f + 1) L a w := by
  refine ⟨fun e => (by rw [hr] at e; cases e), fun j hj => ?_⟩
  rw [hr, List.mem_singleton] at hj
  subst hj
  exact wpOp_step (by simpa using ho) (fun K' hK => h K' (fun a w hW => hK a w ⟨fun q => absurd rfl q, hW⟩))
theorem anyL_done {l : List Oper} {L : Array Bool} {a : Act} {w : World} (hr : Region.ready md l.toArray L = []) (h : Q .normal a w) : ∀ f, anyL P md l.toArray Q S z f L a w
  | 0 => ⟨hr, h⟩
  | _ + 1 => ⟨fun _ => h, by rw [hr]; exact fun _ h => absurd h List.not_mem_nil⟩
theorem regionL {l : List Oper} (z : Nat) {id : Nat} {a : Act} {w : World} (hm : P.follows .mixedOrders = true) (hS : S w.drew)
    (h : S w.drew → anyL P .any l.toArray Q S z l.toArray.size (Array.replicate l.toArray.size false) a w.drew) : (Code.region id l.toArray true).wp P Q a w :=
  wp_region_any hm (anyL_any _ _ _ _ (h hS))
end Go.Proofs.YtcaihoomcdbfnaaGreat

namespace Go.Proofs.YtcaihoomcdbfnaaGreat
open Go.RowKit
set_option linter.unusedVariables false

theorem b6_lt {w : World} {b : Nat} {x0 x1 x2 x3 x4 x5 : Value} (h : B6 w b x0 x1 x2 x3 x4 x5) : b < w.heap.size := cell_lt h.c0
theorem bs_62 (w : World) (x00 x01 x02 x03 x04 x05 x10 x11 : Value) (t0 t1 : TypeId) : ∃ W, W = ((w.alloc (.cells #[x00, x01, x02, x03, x04, x05] t0)).alloc (.cells #[x10, x11] t1)) ∧ Below w.heap.size w W ∧ B6 W (w.heap.size) x00 x01 x02 x03 x04 x05 ∧ Bx W (w.heap.size + 1) x10 x11 ∧ w.heap.size + 1 < W.heap.size := by
  have e0 : Below w.heap.size w (w.alloc (.cells #[x00, x01, x02, x03, x04, x05] t0)) := (Below.refl _ _).alloc (Nat.le_refl _) _
  have h0 := b6_new w x00 x01 x02 x03 x04 x05 t0
  have e1 : Below (w.alloc (.cells #[x00, x01, x02, x03, x04, x05] t0)).heap.size (w.alloc (.cells #[x00, x01, x02, x03, x04, x05] t0)) ((w.alloc (.cells #[x00, x01, x02, x03, x04, x05] t0)).alloc (.cells #[x10, x11] t1)) := (Below.refl _ _).alloc (Nat.le_refl _) _
  have h1 := bx_new (w.alloc (.cells #[x00, x01, x02, x03, x04, x05] t0)) x10 x11 t1
  rw [World.size_alloc] at h1
  exact ⟨_, rfl, also (e0) e1, (h0.on e1), h1, by simp⟩
end Go.Proofs.YtcaihoomcdbfnaaGreat

namespace Go.Proofs.YtcaihoomcdbfnaaGreat
open Go.RowKit
set_option linter.unusedVariables false

theorem w256_128 {x : Int} (h : W128 x) : W256 x := by unfold W128 at h; unfold W256; omega
theorem xQof (a : Int) {ah al : Int} (hah : ah = lw.hi a) (hal : al = lw.lo a) (R : Hid (W128 a)) {q0 q1 q2 q3 : Int} (hq : lq.Wd a q0 q1 q2 q3) (w : World) :
    Calls Tryz.prog 57 #[.agg #[.int .i64 ah, .int .u64 al]] w fun e w' => e = .returned (.agg #[.int .u64 q0, .int .u64 q1, .int .u64 q2, .int .u64 q3]) ∧ Below w.heap.size w w' := by
  obtain ⟨rfl, rfl, rfl, rfl⟩ := hq
  exact lq.qof_any a hah hal R.out.1 R.out.2 w
end Go.Proofs.YtcaihoomcdbfnaaGreat

namespace Go.Proofs.YtcaihoomcdbfnaaGreat
open Go.RowKit
set_option linter.unusedVariables false

theorem abs_add' {X Y : Int} {K : Nat} (h1 : X.natAbs < 4294967296 ^ K) (h2 : Y.natAbs < 4294967296 ^ K) : (X + Y).natAbs < 4294967296 ^ (K + 1) := by
  have := Int.natAbs_add_le X Y
  rw [Nat.pow_succ]
  omega
theorem abs_mul' {X Y : Int} {K L : Nat} (h1 : X.natAbs < 4294967296 ^ K) (h2 : Y.natAbs < 4294967296 ^ L) : (X * Y).natAbs < 4294967296 ^ (K + L) := by
  rw [Int.natAbs_mul, Nat.pow_add]
  exact Nat.mul_lt_mul_of_lt_of_le h1 (Nat.le_of_lt h2) (Nat.pow_pos (by decide))
theorem nat_mul' {X Y : Nat} {K L : Nat} (h1 : X < 4294967296 ^ K) (h2 : Y < 4294967296 ^ L) : X * Y < 4294967296 ^ (K + L) := by
  rw [Nat.pow_add]
  exact Nat.mul_lt_mul_of_lt_of_le h1 (Nat.le_of_lt h2) (Nat.pow_pos (by decide))
end Go.Proofs.YtcaihoomcdbfnaaGreat

namespace Go.Proofs.YtcaihoomcdbfnaaGreat
open Go.RowKit
set_option linter.unusedVariables false

set_option maxRecDepth 100000 in
set_option maxHeartbeats 8000000 in
theorem cHalf (f p t : Int) {ph pl : Int} (hph : ph = lw.hi p) (hpl : pl = lw.lo p) {th tl : Int} (hth : th = lw.hi t) (htl : tl = lw.lo t) (Rf : Hid (R64 f)) (Rp : Hid (W128 p)) (Rt : Hid (W128 t)) (h0 : Hid (t ≠ 0)) (Rz : Hid (W256 (f * t + p))) {N : Int} {D : Nat} (hN : N = lowN ((f * t + p) * t.sign) t.natAbs) (hD : D = lowD ((f * t + p) * t.sign) t.natAbs) (w : World) :
    Calls Tryz.prog 25 #[.int .i64 f, .agg #[.int .i64 ph, .int .u64 pl], .agg #[.int .i64 th, .int .u64 tl]] w (GotQ w N D) := by
  have Hph : Hid _ := hph
  have Hpl : Hid _ := hpl
  have Hth : Hid _ := hth
  have Htl : Hid _ := htl
  have HN : Hid _ := hN
  have HD : Hid _ := hD
  clear hph hpl hth htl hN hD
  obtain ⟨fh, hfh⟩ : ∃ z, z = lw.hi (f) := ⟨_, rfl⟩
  obtain ⟨fl, hfl⟩ : ∃ z, z = lw.lo (f) := ⟨_, rfl⟩
  have Hfh : Hid _ := hfh
  have Hfl : Hid _ := hfl
  clear hfh hfl
  obtain ⟨m0, m1, m2, m3, hm⟩ : ∃ q0 q1 q2 q3, lq.Wd (f * t) q0 q1 q2 q3 := ⟨_, _, _, _, lq.wd_self _⟩
  have Hm : Hid _ := hm
  clear hm
  obtain ⟨n0, n1, n2, n3, hn⟩ : ∃ q0 q1 q2 q3, lq.Wd (p) q0 q1 q2 q3 := ⟨_, _, _, _, lq.wd_self _⟩
  have Hn : Hid _ := hn
  clear hn
  obtain ⟨y0, y1, y2, y3, hy⟩ : ∃ q0 q1 q2 q3, lq.Wd (t) q0 q1 q2 q3 := ⟨_, _, _, _, lq.wd_self _⟩
  have Hy : Hid _ := hy
  clear hy
  obtain ⟨z0, z1, z2, z3, hz⟩ : ∃ q0 q1 q2 q3, lq.Wd (f * t + p) q0 q1 q2 q3 := ⟨_, _, _, _, lq.wd_self _⟩
  have Hz : Hid _ := hz
  clear hz
  have Sf : Hid (W128 f) := w128_64 Rf
  have St : Hid (W256 t) := w256_128 Rt
  obtain ⟨W, hW, bW, x_p, x_t, x_r, sW⟩ := bs_223 w (.int .i64 ph) (.int .u64 pl) (.int .i64 th) (.int .u64 tl) (.bool false) (.slice none 0 0) (.slice none 0 0) 61 61 29
  have zbW := bW.size
  have BB := bW
  go_enter Tryz.func25, Tryz.ntmps25
  go_wp2
  rw [← hW]
  clear hW
  have dd1 : Below W.heap.size W W.drew := (Below.refl _ _).drew
  have zdd1 := dd1.size
  replace BB := also BB dd1
  replace x_p := x_p.on dd1
  replace x_t := x_t.on dd1
  replace x_r := x_r.on dd1
  refine wp_region_held_drew (S := (fun w' => w'.cell? ⟨w.heap.size, 0, none⟩ = some (.int .i64 ph) ∧ w'.cell? ⟨w.heap.size, 1, none⟩ = some (.int .u64 pl) ∧ w'.cell? ⟨w.heap.size + 1, 0, none⟩ = some (.int .i64 th) ∧ w'.cell? ⟨w.heap.size + 1, 1, none⟩ = some (.int .u64 tl) ∧ Below w.heap.size w w')) (by kernel_rfl) ?_ (fun hHeld => ?_)
  · exact ⟨x_p.c0, x_p.c1, x_t.c0, x_t.c1, BB⟩
  refine take_yes (i := 0) (v := ?vs0) rfl (by kernel_rfl) (by kernel_rfl) (by kernel_rfl) (fun _ _ _ h => h) (by rfl) (by assumption) ?hys0 ?rests0
  case hys0 => (intro w hSw; (try dsimp only at hSw); first | (go_simp; done) | (go_simp; with_reducible rfl))
  simp only [Act.put, List.setIfInBounds_toArray, List.set_cons_zero, List.set_cons_succ]
  refine take_yes (i := 2) (v := ?vs2) rfl (by kernel_rfl) (by kernel_rfl) (by kernel_rfl) (fun _ _ _ h => h) (by rfl) (by assumption) ?hys2 ?rests2
  case hys2 => (intro w hSw; (try dsimp only at hSw); first | (go_simp; done) | (go_simp; with_reducible rfl))
  simp only [Act.put, List.setIfInBounds_toArray, List.set_cons_zero, List.set_cons_succ]
  refine take_yes (i := 4) (v := ?vs4) rfl (by kernel_rfl) (by kernel_rfl) (by kernel_rfl) (fun _ _ _ h => h) (by rfl) (by assumption) ?hys4 ?rests4
  case hys4 => (intro w hSw; (try dsimp only at hSw); first | (go_simp; done) | (go_simp; with_reducible rfl))
  simp only [Act.put, List.setIfInBounds_toArray, List.set_cons_zero, List.set_cons_succ]
  refine take_yes (i := 7) (v := ?vs7) rfl (by kernel_rfl) (by kernel_rfl) (by kernel_rfl) (fun _ _ _ h => h) (by rfl) (by assumption) ?hys7 ?rests7
  case hys7 => (intro w hSw; (try dsimp only at hSw); first | (go_simp; done) | (go_simp; with_reducible rfl))
  simp only [Act.put, List.setIfInBounds_toArray, List.set_cons_zero, List.set_cons_succ]
  refine take_call (i := 1) rfl (by kernel_rfl) (fun Kc hK => ?_)
  go_simp
  (go_at_call 43; refine (xOf f Rf Hfh.out Hfl.out _).mono ?_; rintro e w1 ⟨rfl, bw1⟩)
  refine hK.out _ _ ?_ (fun hHeld => ?_)
  · exact ⟨cell_on bw1 hHeld.1, cell_on bw1 hHeld.2.1, cell_on bw1 hHeld.2.2.1, cell_on bw1 hHeld.2.2.2.1, also hHeld.2.2.2.2 bw1⟩
  clear hK Kc
  have zbw1 := bw1.size
  replace BB := also BB bw1
  replace x_p := x_p.on bw1
  replace x_t := x_t.on bw1
  replace x_r := x_r.on bw1
  refine take_call (i := 3) rfl (by kernel_rfl) (fun Kc hK => ?_)
  go_simp
  (go_at_call 34; refine (xMul f t Hfh.out Hfl.out Hth.out Htl.out Sf Rt Hm.out _).mono ?_; rintro e w2 ⟨rfl, bw2⟩)
  refine hK.out _ _ ?_ (fun hHeld => ?_)
  · exact ⟨cell_on bw2 hHeld.1, cell_on bw2 hHeld.2.1, cell_on bw2 hHeld.2.2.1, cell_on bw2 hHeld.2.2.2.1, also hHeld.2.2.2.2 bw2⟩
  clear hK Kc
  have zbw2 := bw2.size
  replace BB := also BB bw2
  replace x_p := x_p.on bw2
  replace x_t := x_t.on bw2
  replace x_r := x_r.on bw2
  refine take_call (i := 5) rfl (by kernel_rfl) (fun Kc hK => ?_)
  go_simp
  (go_at_call 57; refine (xQof p Hph.out Hpl.out Rp Hn.out _).mono ?_; rintro e w3 ⟨rfl, bw3⟩)
  refine hK.out _ _ ?_ (fun hHeld => ?_)
  · exact ⟨cell_on bw3 hHeld.1, cell_on bw3 hHeld.2.1, cell_on bw3 hHeld.2.2.1, cell_on bw3 hHeld.2.2.2.1, also hHeld.2.2.2.2 bw3⟩
  clear hK Kc
  have zbw3 := bw3.size
  replace BB := also BB bw3
  replace x_p := x_p.on bw3
  replace x_t := x_t.on bw3
  replace x_r := x_r.on bw3
  refine take_call (i := 6) rfl (by kernel_rfl) (fun Kc hK => ?_)
  go_simp
  (go_at_call 56; refine (xQadd _ _ Hm.out Hn.out Hz.out _).mono ?_; rintro e w4 ⟨rfl, bw4⟩)
  refine hK.out _ _ ?_ (fun hHeld => ?_)
  · exact ⟨cell_on bw4 hHeld.1, cell_on bw4 hHeld.2.1, cell_on bw4 hHeld.2.2.1, cell_on bw4 hHeld.2.2.2.1, also hHeld.2.2.2.2 bw4⟩
  clear hK Kc
  have zbw4 := bw4.size
  replace BB := also BB bw4
  replace x_p := x_p.on bw4
  replace x_t := x_t.on bw4
  replace x_r := x_r.on bw4
  refine take_call (i := 8) rfl (by kernel_rfl) (fun Kc hK => ?_)
  go_simp
  (go_at_call 57; refine (xQof t Hth.out Htl.out Rt Hy.out _).mono ?_; rintro e w5 ⟨rfl, bw5⟩)
  refine hK.out _ _ ?_ (fun hHeld => ?_)
  · exact ⟨cell_on bw5 hHeld.1, cell_on bw5 hHeld.2.1, cell_on bw5 hHeld.2.2.1, cell_on bw5 hHeld.2.2.2.1, also hHeld.2.2.2.2 bw5⟩
  clear hK Kc
  have zbw5 := bw5.size
  replace BB := also BB bw5
  replace x_p := x_p.on bw5
  replace x_t := x_t.on bw5
  replace x_r := x_r.on bw5
  refine take_call (i := 9) rfl (by kernel_rfl) (fun Kc hK => ?_)
  go_simp
  (go_at_call 32; refine (cFrac _ _ Hz.out Hy.out Rz St h0 HN.out HD.out _).mono ?_; rintro e w6 ⟨n3, a3, l3, c3, d3, m3, k3, rfl, h3, f3, g3, bw6⟩)
  refine hK.out _ _ ?_ (fun hHeld => ?_)
  · exact ⟨cell_on bw6 hHeld.1, cell_on bw6 hHeld.2.1, cell_on bw6 hHeld.2.2.1, cell_on bw6 hHeld.2.2.2.1, also hHeld.2.2.2.2 bw6⟩
  clear hK Kc
  have zbw6 := bw6.size
  replace BB := also BB bw6
  replace x_p := x_p.on bw6
  replace x_t := x_t.on bw6
  replace x_r := x_r.on bw6
  have ⟨x_r_0, x_r_1, x_r_2, x_r_3, x_r_4, x_r_5⟩ := x_r
  refine take_call (i := 10) rfl (by kernel_rfl) (fun Kc hK => ?_)
  go_simp
  refine hK.out _ _ ?_ (fun hHeld => ?_)
  · first | exact ⟨cell_put3 hHeld.1 (by omega) _ _ _, cell_put3 hHeld.2.1 (by omega) _ _ _, cell_put3 hHeld.2.2.1 (by omega) _ _ _, cell_put3 hHeld.2.2.2.1 (by omega) _ _ _, below_put3 hHeld.2.2.2.2 (by omega) _ _ _⟩ | exact ⟨x_p.c0, x_p.c1, x_t.c0, x_t.c1, BB⟩
  clear hK Kc
  refine wpAnyH_done (by kernel_rfl) ?_ _
  go_wp2
  exact bodyPost_ret (v := .agg #[.bool n3, .slice a3 l3 c3, .slice d3 m3 k3]) (by simp [results, Tryz.results25, go_sem, *]) rfl (endQ _ (by omega) BB h3 (f3.mono (by omega)) (g3.mono (by omega)) _ _ _)
end Go.Proofs.YtcaihoomcdbfnaaGreat

namespace Go.Proofs.YtcaihoomcdbfnaaGreat
open Go.RowKit
set_option linter.unusedVariables false

/-- Moved alike: the center is moved so, the circle is as great. -/
theorem cen_moved (a1 a2 b1 b2 c1 c2 s t : Int) : cenX (a1 + s) (a2 + t) (b1 + s) (b2 + t) (c1 + s) (c2 + t) = cenX a1 a2 b1 b2 c1 c2 + 2 * areaP a1 a2 b1 b2 c1 c2 * s ∧ cenY (a1 + s) (a2 + t) (b1 + s) (b2 + t) (c1 + s) (c2 + t) = cenY a1 a2 b1 b2 c1 c2 + 2 * areaP a1 a2 b1 b2 c1 c2 * t ∧ rad2 (a1 + s) (a2 + t) (b1 + s) (b2 + t) (c1 + s) (c2 + t) = rad2 a1 a2 b1 b2 c1 c2 := by
  have d1 : b1 + s - (a1 + s) = b1 - a1 := by omega
  have d2 : b2 + t - (a2 + t) = b2 - a2 := by omega
  have d3 : c1 + s - (a1 + s) = c1 - a1 := by omega
  have d4 : c2 + t - (a2 + t) = c2 - a2 := by omega
  unfold cenX cenY rad2
  rw [area_moved, dist_moved, dist_moved, dist_moved, d1, d2, d3, d4]
  generalize areaP a1 a2 b1 b2 c1 c2 = A
  exact ⟨by grind, by grind, rfl⟩
end Go.Proofs.YtcaihoomcdbfnaaGreat

namespace Go.Proofs.YtcaihoomcdbfnaaGreat
open Go.RowKit
set_option linter.unusedVariables false

set_option maxRecDepth 100000 in
set_option maxHeartbeats 1000000 in
theorem rqSame (n : Bool) (a : Option Addr) (la ca : Nat) (d : Option Addr) (ld cd : Nat) (za : Int) (Da : Nat) (s1 : Int) (d1 : Option Addr) (l1 c1 : Nat) (t1 : Int) (g1 : Option Addr) (h1 k1 : Nat) (N1 : Int) (D1 : Nat) (K : Nat) (w : World) (q : QN w n a la ca d ld cd za Da) (x : RQ w K s1 d1 l1 c1 t1 g1 h1 k1 N1 D1) (hN : za = lowN N1 D1) (hD : Da = lowD N1 D1) :
    Calls Tryz.prog 14 #[.agg #[.bool n, .slice a la ca, .slice d ld cd], .agg #[.int .i64 s1, .slice d1 l1 c1, .int .i64 t1, .slice g1 h1 k1]] w fun e w' => e = .returned (.bool true) ∧ Below w.heap.size w w' := by
  have HN : Hid _ := hN
  have HD : Hid _ := hD
  clear hN hD
  obtain ⟨W, hW, bW, x_a, x_b, sW⟩ := bs_34 w (.bool n) (.slice a la ca) (.slice d ld cd) (.int .i64 s1) (.slice d1 l1 c1) (.int .i64 t1) (.slice g1 h1 k1) 29 41
  have zbW := bW.size
  replace q := q.below bW
  replace x := x.below bW
  have BB := bW
  go_enter Tryz.func14, Tryz.ntmps14
  go_wp2_with (go_at_call 30; fail)
  rw [← hW]
  clear hW
  refine (rqLow s1 d1 l1 c1 t1 g1 h1 k1 N1 D1 K W x za Da HN.out HD.out).mono ?_
  rintro e w1 ⟨s2, d2, l2, c2, t2, g2, h2, k2, rfl, y, f2, bw1⟩
  have zbw1 := bw1.size
  replace q := q.below bw1
  replace x := x.below bw1
  replace BB := also BB bw1
  replace x_a := x_a.on bw1
  replace x_b := x_b.on bw1
  obtain ⟨V1, hV1, bV1, x_l, sV1⟩ := bs_4 w1 (.int .i64 s2) (.slice d2 l2 c2) (.int .i64 t2) (.slice g2 h2 k2) 41
  have zbV1 := bV1.size
  replace q := q.below bV1
  replace x := x.below bV1
  replace BB := also BB bV1
  replace x_a := x_a.on bV1
  replace x_b := x_b.on bV1
  replace y := y.below bV1
  have st_a_0 : (w1.alloc (.cells #[.int .i64 s2, .slice d2 l2 c2, .int .i64 t2, .slice g2 h2 k2] 41)).cell? ⟨w.heap.size, 0, none⟩ = some (.bool n) := by rw [← hV1]; exact x_a.c0
  have st_a_1 : (w1.alloc (.cells #[.int .i64 s2, .slice d2 l2 c2, .int .i64 t2, .slice g2 h2 k2] 41)).cell? ⟨w.heap.size, 1, none⟩ = some (.slice a la ca) := by rw [← hV1]; exact x_a.c1
  have st_a_2 : (w1.alloc (.cells #[.int .i64 s2, .slice d2 l2 c2, .int .i64 t2, .slice g2 h2 k2] 41)).cell? ⟨w.heap.size, 2, none⟩ = some (.slice d ld cd) := by rw [← hV1]; exact x_a.c2
  have sf_a_0 : (w1.alloc (.cells #[.int .i64 s2, .slice d2 l2 c2, .int .i64 t2, .slice g2 h2 k2] 41)).frozen? ⟨w.heap.size, 0, none⟩ = false := by rw [← hV1]; exact x_a.f0
  have sf_a_1 : (w1.alloc (.cells #[.int .i64 s2, .slice d2 l2 c2, .int .i64 t2, .slice g2 h2 k2] 41)).frozen? ⟨w.heap.size, 1, none⟩ = false := by rw [← hV1]; exact x_a.f1
  have sf_a_2 : (w1.alloc (.cells #[.int .i64 s2, .slice d2 l2 c2, .int .i64 t2, .slice g2 h2 k2] 41)).frozen? ⟨w.heap.size, 2, none⟩ = false := by rw [← hV1]; exact x_a.f2
  go_wp2_with (go_at_call 35; fail)
  rw [← hV1]
  clear hV1 st_a_0 st_a_1 st_a_2 sf_a_0 sf_a_1 sf_a_2
  refine (rwSame n s2 a d2 la ca l2 c2 za V1 q.wn y.rn y.fn).mono ?_
  rintro e w2 ⟨rfl, bw2⟩
  have zbw2 := bw2.size
  replace q := q.below bw2
  replace x := x.below bw2
  replace BB := also BB bw2
  replace x_a := x_a.on bw2
  replace x_b := x_b.on bw2
  replace y := y.below bw2
  replace x_l := x_l.on bw2
  have ⟨x_a_0, x_a_1, x_a_2, x_a_3, x_a_4, x_a_5⟩ := x_a
  have ⟨x_l_0, x_l_1, x_l_2, x_l_3, x_l_4, x_l_5, x_l_6, x_l_7⟩ := x_l
  go_wp2_with (go_at_call 36; fail)
  refine (hSame d g2 ld h2 cd k2 Da w2 q.nd.sl q.nd.len (by have := y.rd.hd; rwa [Int.natAbs_natCast] at this) (by have := y.fd; rwa [Int.natAbs_natCast] at this)).mono ?_
  rintro e w3 ⟨rfl, bw3⟩
  clear x_a_0 x_a_1 x_a_2 x_a_3 x_a_4 x_a_5 x_l_0 x_l_1 x_l_2 x_l_3 x_l_4 x_l_5 x_l_6 x_l_7
  have zbw3 := bw3.size
  replace q := q.below bw3
  replace x := x.below bw3
  replace BB := also BB bw3
  replace x_a := x_a.on bw3
  replace x_b := x_b.on bw3
  replace y := y.below bw3
  replace x_l := x_l.on bw3
  go_wp2
  go_ret
  exact ⟨rfl, BB⟩
end Go.Proofs.YtcaihoomcdbfnaaGreat

namespace Go.Proofs.YtcaihoomcdbfnaaGreat
open Go.RowKit
set_option linter.unusedVariables false

set_option maxRecDepth 100000 in
set_option maxHeartbeats 1000000 in
theorem rqAdd (s1 : Int) (d1 : Option Addr) (l1 c1 : Nat) (t1 : Int) (g1 : Option Addr) (h1 k1 : Nat) (N1 : Int) (D1 : Nat) (s2 : Int) (d2 : Option Addr) (l2 c2 : Nat) (t2 : Int) (g2 : Option Addr) (h2 k2 : Nat) (N2 : Int) (D2 : Nat) (K : Nat) (w : World) (x : RQ w K s1 d1 l1 c1 t1 g1 h1 k1 N1 D1) (y : RQ w K s2 d2 l2 c2 t2 g2 h2 k2 N2 D2) (kk : K + K + 1 ≤ 10000) (N : Int) (D : Nat) (hN : N = N1 * (D2 : Int) + N2 * (D1 : Int)) (hD : D = D1 * D2) :
    Calls Tryz.prog 21 #[.agg #[.int .i64 s1, .slice d1 l1 c1, .int .i64 t1, .slice g1 h1 k1], .agg #[.int .i64 s2, .slice d2 l2 c2, .int .i64 t2, .slice g2 h2 k2]] w (GotRQ w (fun _ => True) (K + K + 1) N D) := by
  have fx := x.fn
  have fy := y.fn
  have gx := x.fd
  have gy := y.fd
  have HS : Hid (N.natAbs < 4294967296 ^ (K + K + 1)) := by unfold Hid; rw [hN]; exact abs_add' (abs_mul' x.ns (by simpa using y.ds)) (abs_mul' y.ns (by simpa using x.ds))
  have HT : Hid (D < 4294967296 ^ (K + K + 1)) := by unfold Hid; rw [hD]; exact Nat.lt_of_lt_of_le (nat_mul' x.ds y.ds) (Nat.pow_le_pow_right (by decide) (by omega))
  have d0 : 0 < D := by rw [hD]; exact Nat.mul_pos x.dp y.dp
  have f1 : hf.nlen (N1 * (D2 : Int)).natAbs ≤ 1000000 := hfew (abs_mul' x.ns (by simpa using y.ds)) (by omega)
  have f2 : hf.nlen (N2 * (D1 : Int)).natAbs ≤ 1000000 := hfew (abs_mul' y.ns (by simpa using x.ds)) (by omega)
  have HN : Hid _ := hN
  have HD : Hid ((D : Int) = (D1 : Int) * (D2 : Int)) := by unfold Hid; rw [hD]; simp
  clear hN hD
  obtain ⟨W, hW, bW, x_a, x_b, x_z, sW⟩ := bs_444 w (.int .i64 s1) (.slice d1 l1 c1) (.int .i64 t1) (.slice g1 h1 k1) (.int .i64 s2) (.slice d2 l2 c2) (.int .i64 t2) (.slice g2 h2 k2) (.int .i64 0) (.slice none 0 0) (.int .i64 0) (.slice none 0 0) 41 41 41
  have zbW := bW.size
  replace x := x.below bW
  replace y := y.below bW
  have BB := bW
  go_enter Tryz.func21, Tryz.ntmps21
  go_wp2
  rw [← hW]
  clear hW
  have dd1 : Below W.heap.size W W.drew := (Below.refl _ _).drew
  have zdd1 := dd1.size
  replace x := x.below dd1
  replace y := y.below dd1
  replace BB := also BB dd1
  replace x_a := x_a.on dd1
  replace x_b := x_b.on dd1
  replace x_z := x_z.on dd1
  refine wp_region_held_drew (S := (fun w' => w'.cell? ⟨w.heap.size, 0, none⟩ = some (.int .i64 s1) ∧ w'.cell? ⟨w.heap.size, 1, none⟩ = some (.slice d1 l1 c1) ∧ w'.cell? ⟨w.heap.size, 2, none⟩ = some (.int .i64 t1) ∧ w'.cell? ⟨w.heap.size, 3, none⟩ = some (.slice g1 h1 k1) ∧ w'.cell? ⟨w.heap.size + 1, 0, none⟩ = some (.int .i64 s2) ∧ w'.cell? ⟨w.heap.size + 1, 1, none⟩ = some (.slice d2 l2 c2) ∧ w'.cell? ⟨w.heap.size + 1, 2, none⟩ = some (.int .i64 t2) ∧ w'.cell? ⟨w.heap.size + 1, 3, none⟩ = some (.slice g2 h2 k2) ∧ Below w.heap.size w w')) (by kernel_rfl) ?_ (fun hHeld => ?_)
  · first | exact ⟨x_a.c0, x_a.c1, x_a.c2, x_a.c3, x_b.c0, x_b.c1, x_b.c2, x_b.c3, BB⟩ | exact ⟨cell_on bw6 hHeld.1, cell_on bw6 hHeld.2.1, cell_on bw6 hHeld.2.2.1, cell_on bw6 hHeld.2.2.2.1, cell_on bw6 hHeld.2.2.2.2.1, cell_on bw6 hHeld.2.2.2.2.2.1, cell_on bw6 hHeld.2.2.2.2.2.2.1, cell_on bw6 hHeld.2.2.2.2.2.2.2.1, also hHeld.2.2.2.2.2.2.2.2 bw6⟩ | exact ⟨cell_on bw5 hHeld.1, cell_on bw5 hHeld.2.1, cell_on bw5 hHeld.2.2.1, cell_on bw5 hHeld.2.2.2.1, cell_on bw5 hHeld.2.2.2.2.1, cell_on bw5 hHeld.2.2.2.2.2.1, cell_on bw5 hHeld.2.2.2.2.2.2.1, cell_on bw5 hHeld.2.2.2.2.2.2.2.1, also hHeld.2.2.2.2.2.2.2.2 bw5⟩ | exact ⟨cell_on bw4 hHeld.1, cell_on bw4 hHeld.2.1, cell_on bw4 hHeld.2.2.1, cell_on bw4 hHeld.2.2.2.1, cell_on bw4 hHeld.2.2.2.2.1, cell_on bw4 hHeld.2.2.2.2.2.1, cell_on bw4 hHeld.2.2.2.2.2.2.1, cell_on bw4 hHeld.2.2.2.2.2.2.2.1, also hHeld.2.2.2.2.2.2.2.2 bw4⟩ | exact ⟨cell_on bw3 hHeld.1, cell_on bw3 hHeld.2.1, cell_on bw3 hHeld.2.2.1, cell_on bw3 hHeld.2.2.2.1, cell_on bw3 hHeld.2.2.2.2.1, cell_on bw3 hHeld.2.2.2.2.2.1, cell_on bw3 hHeld.2.2.2.2.2.2.1, cell_on bw3 hHeld.2.2.2.2.2.2.2.1, also hHeld.2.2.2.2.2.2.2.2 bw3⟩ | exact ⟨cell_put4 hHeld.1 (by omega) _ _ _ _, cell_put4 hHeld.2.1 (by omega) _ _ _ _, cell_put4 hHeld.2.2.1 (by omega) _ _ _ _, cell_put4 hHeld.2.2.2.1 (by omega) _ _ _ _, cell_put4 hHeld.2.2.2.2.1 (by omega) _ _ _ _, cell_put4 hHeld.2.2.2.2.2.1 (by omega) _ _ _ _, cell_put4 hHeld.2.2.2.2.2.2.1 (by omega) _ _ _ _, cell_put4 hHeld.2.2.2.2.2.2.2.1 (by omega) _ _ _ _, below_put4 hHeld.2.2.2.2.2.2.2.2 (by omega) _ _ _ _⟩
  refine take_yes (i := 0) (v := ?vr0) rfl (by kernel_rfl) (by kernel_rfl) (by kernel_rfl) (fun _ _ _ h => h) (by rfl) (by assumption) ?hyr0 ?restr0
  case hyr0 => (intro w hSw; (try dsimp only at hSw); first | (go_simp; done) | (go_simp; with_reducible rfl))
  simp only [Act.put, List.setIfInBounds_toArray, List.set_cons_zero, List.set_cons_succ]
  refine take_yes (i := 1) (v := ?vr1) rfl (by kernel_rfl) (by kernel_rfl) (by kernel_rfl) (fun _ _ _ h => h) (by rfl) (by assumption) ?hyr1 ?restr1
  case hyr1 => (intro w hSw; (try dsimp only at hSw); first | (go_simp; done) | (go_simp; with_reducible rfl))
  simp only [Act.put, List.setIfInBounds_toArray, List.set_cons_zero, List.set_cons_succ]
  refine take_yes (i := 2) (v := ?vr2) rfl (by kernel_rfl) (by kernel_rfl) (by kernel_rfl) (fun _ _ _ h => h) (by rfl) (by assumption) ?hyr2 ?restr2
  case hyr2 => (intro w hSw; (try dsimp only at hSw); first | (go_simp; done) | (go_simp; with_reducible rfl))
  simp only [Act.put, List.setIfInBounds_toArray, List.set_cons_zero, List.set_cons_succ]
  refine take_yes (i := 3) (v := ?vr3) rfl (by kernel_rfl) (by kernel_rfl) (by kernel_rfl) (fun _ _ _ h => h) (by rfl) (by assumption) ?hyr3 ?restr3
  case hyr3 => (intro w hSw; (try dsimp only at hSw); first | (go_simp; done) | (go_simp; with_reducible rfl))
  simp only [Act.put, List.setIfInBounds_toArray, List.set_cons_zero, List.set_cons_succ]
  refine take_yes (i := 5) (v := ?vr5) rfl (by kernel_rfl) (by kernel_rfl) (by kernel_rfl) (fun _ _ _ h => h) (by rfl) (by assumption) ?hyr5 ?restr5
  case hyr5 => (intro w hSw; (try dsimp only at hSw); first | (go_simp; done) | (go_simp; with_reducible rfl))
  simp only [Act.put, List.setIfInBounds_toArray, List.set_cons_zero, List.set_cons_succ]
  refine take_yes (i := 6) (v := ?vr6) rfl (by kernel_rfl) (by kernel_rfl) (by kernel_rfl) (fun _ _ _ h => h) (by rfl) (by assumption) ?hyr6 ?restr6
  case hyr6 => (intro w hSw; (try dsimp only at hSw); first | (go_simp; done) | (go_simp; with_reducible rfl))
  simp only [Act.put, List.setIfInBounds_toArray, List.set_cons_zero, List.set_cons_succ]
  refine take_yes (i := 7) (v := ?vr7) rfl (by kernel_rfl) (by kernel_rfl) (by kernel_rfl) (fun _ _ _ h => h) (by rfl) (by assumption) ?hyr7 ?restr7
  case hyr7 => (intro w hSw; (try dsimp only at hSw); first | (go_simp; done) | (go_simp; with_reducible rfl))
  simp only [Act.put, List.setIfInBounds_toArray, List.set_cons_zero, List.set_cons_succ]
  refine take_yes (i := 8) (v := ?vr8) rfl (by kernel_rfl) (by kernel_rfl) (by kernel_rfl) (fun _ _ _ h => h) (by rfl) (by assumption) ?hyr8 ?restr8
  case hyr8 => (intro w hSw; (try dsimp only at hSw); first | (go_simp; done) | (go_simp; with_reducible rfl))
  simp only [Act.put, List.setIfInBounds_toArray, List.set_cons_zero, List.set_cons_succ]
  refine take_yes (i := 11) (v := ?vr11) rfl (by kernel_rfl) (by kernel_rfl) (by kernel_rfl) (fun _ _ _ h => h) (by rfl) (by assumption) ?hyr11 ?restr11
  case hyr11 => (intro w hSw; (try dsimp only at hSw); first | (go_simp; done) | (go_simp; with_reducible rfl))
  simp only [Act.put, List.setIfInBounds_toArray, List.set_cons_zero, List.set_cons_succ]
  refine take_yes (i := 12) (v := ?vr12) rfl (by kernel_rfl) (by kernel_rfl) (by kernel_rfl) (fun _ _ _ h => h) (by rfl) (by assumption) ?hyr12 ?restr12
  case hyr12 => (intro w hSw; (try dsimp only at hSw); first | (go_simp; done) | (go_simp; with_reducible rfl))
  simp only [Act.put, List.setIfInBounds_toArray, List.set_cons_zero, List.set_cons_succ]
  refine take_yes (i := 13) (v := ?vr13) rfl (by kernel_rfl) (by kernel_rfl) (by kernel_rfl) (fun _ _ _ h => h) (by rfl) (by assumption) ?hyr13 ?restr13
  case hyr13 => (intro w hSw; (try dsimp only at hSw); first | (go_simp; done) | (go_simp; with_reducible rfl))
  simp only [Act.put, List.setIfInBounds_toArray, List.set_cons_zero, List.set_cons_succ]
  refine take_yes (i := 14) (v := ?vr14) rfl (by kernel_rfl) (by kernel_rfl) (by kernel_rfl) (fun _ _ _ h => h) (by rfl) (by assumption) ?hyr14 ?restr14
  case hyr14 => (intro w hSw; (try dsimp only at hSw); first | (go_simp; done) | (go_simp; with_reducible rfl))
  simp only [Act.put, List.setIfInBounds_toArray, List.set_cons_zero, List.set_cons_succ]
  refine take_call (i := 4) rfl (by kernel_rfl) (fun Kc hK => ?_)
  go_simp
  (go_at_call 48; refine (rwMul s1 t2 d1 g2 l1 c1 h2 k2 N1 D2 _ _ x.rn y.rd fx gy rfl).mono ?_; rintro e w3 ⟨s3, d3, l3, c3, rfl, q3, f3, bw3⟩)
  refine hK.out _ _ ?_ (fun hHeld => ?_)
  · first | exact ⟨x_a.c0, x_a.c1, x_a.c2, x_a.c3, x_b.c0, x_b.c1, x_b.c2, x_b.c3, BB⟩ | exact ⟨cell_on bw6 hHeld.1, cell_on bw6 hHeld.2.1, cell_on bw6 hHeld.2.2.1, cell_on bw6 hHeld.2.2.2.1, cell_on bw6 hHeld.2.2.2.2.1, cell_on bw6 hHeld.2.2.2.2.2.1, cell_on bw6 hHeld.2.2.2.2.2.2.1, cell_on bw6 hHeld.2.2.2.2.2.2.2.1, also hHeld.2.2.2.2.2.2.2.2 bw6⟩ | exact ⟨cell_on bw5 hHeld.1, cell_on bw5 hHeld.2.1, cell_on bw5 hHeld.2.2.1, cell_on bw5 hHeld.2.2.2.1, cell_on bw5 hHeld.2.2.2.2.1, cell_on bw5 hHeld.2.2.2.2.2.1, cell_on bw5 hHeld.2.2.2.2.2.2.1, cell_on bw5 hHeld.2.2.2.2.2.2.2.1, also hHeld.2.2.2.2.2.2.2.2 bw5⟩ | exact ⟨cell_on bw4 hHeld.1, cell_on bw4 hHeld.2.1, cell_on bw4 hHeld.2.2.1, cell_on bw4 hHeld.2.2.2.1, cell_on bw4 hHeld.2.2.2.2.1, cell_on bw4 hHeld.2.2.2.2.2.1, cell_on bw4 hHeld.2.2.2.2.2.2.1, cell_on bw4 hHeld.2.2.2.2.2.2.2.1, also hHeld.2.2.2.2.2.2.2.2 bw4⟩ | exact ⟨cell_on bw3 hHeld.1, cell_on bw3 hHeld.2.1, cell_on bw3 hHeld.2.2.1, cell_on bw3 hHeld.2.2.2.1, cell_on bw3 hHeld.2.2.2.2.1, cell_on bw3 hHeld.2.2.2.2.2.1, cell_on bw3 hHeld.2.2.2.2.2.2.1, cell_on bw3 hHeld.2.2.2.2.2.2.2.1, also hHeld.2.2.2.2.2.2.2.2 bw3⟩ | exact ⟨cell_put4 hHeld.1 (by omega) _ _ _ _, cell_put4 hHeld.2.1 (by omega) _ _ _ _, cell_put4 hHeld.2.2.1 (by omega) _ _ _ _, cell_put4 hHeld.2.2.2.1 (by omega) _ _ _ _, cell_put4 hHeld.2.2.2.2.1 (by omega) _ _ _ _, cell_put4 hHeld.2.2.2.2.2.1 (by omega) _ _ _ _, cell_put4 hHeld.2.2.2.2.2.2.1 (by omega) _ _ _ _, cell_put4 hHeld.2.2.2.2.2.2.2.1 (by omega) _ _ _ _, below_put4 hHeld.2.2.2.2.2.2.2.2 (by omega) _ _ _ _⟩
  clear hK Kc
  have zbw3 := bw3.size
  replace x := x.below bw3
  replace y := y.below bw3
  replace BB := also BB bw3
  replace x_a := x_a.on bw3
  replace x_b := x_b.on bw3
  replace x_z := x_z.on bw3
  refine take_call (i := 9) rfl (by kernel_rfl) (fun Kc hK => ?_)
  go_simp
  (go_at_call 48; refine (rwMul s2 t1 d2 g1 l2 c2 h1 k1 N2 D1 _ _ y.rn x.rd fy gx rfl).mono ?_; rintro e w4 ⟨s4, d4, l4, c4, rfl, q4, f4, bw4⟩)
  refine hK.out _ _ ?_ (fun hHeld => ?_)
  · first | exact ⟨x_a.c0, x_a.c1, x_a.c2, x_a.c3, x_b.c0, x_b.c1, x_b.c2, x_b.c3, BB⟩ | exact ⟨cell_on bw6 hHeld.1, cell_on bw6 hHeld.2.1, cell_on bw6 hHeld.2.2.1, cell_on bw6 hHeld.2.2.2.1, cell_on bw6 hHeld.2.2.2.2.1, cell_on bw6 hHeld.2.2.2.2.2.1, cell_on bw6 hHeld.2.2.2.2.2.2.1, cell_on bw6 hHeld.2.2.2.2.2.2.2.1, also hHeld.2.2.2.2.2.2.2.2 bw6⟩ | exact ⟨cell_on bw5 hHeld.1, cell_on bw5 hHeld.2.1, cell_on bw5 hHeld.2.2.1, cell_on bw5 hHeld.2.2.2.1, cell_on bw5 hHeld.2.2.2.2.1, cell_on bw5 hHeld.2.2.2.2.2.1, cell_on bw5 hHeld.2.2.2.2.2.2.1, cell_on bw5 hHeld.2.2.2.2.2.2.2.1, also hHeld.2.2.2.2.2.2.2.2 bw5⟩ | exact ⟨cell_on bw4 hHeld.1, cell_on bw4 hHeld.2.1, cell_on bw4 hHeld.2.2.1, cell_on bw4 hHeld.2.2.2.1, cell_on bw4 hHeld.2.2.2.2.1, cell_on bw4 hHeld.2.2.2.2.2.1, cell_on bw4 hHeld.2.2.2.2.2.2.1, cell_on bw4 hHeld.2.2.2.2.2.2.2.1, also hHeld.2.2.2.2.2.2.2.2 bw4⟩ | exact ⟨cell_on bw3 hHeld.1, cell_on bw3 hHeld.2.1, cell_on bw3 hHeld.2.2.1, cell_on bw3 hHeld.2.2.2.1, cell_on bw3 hHeld.2.2.2.2.1, cell_on bw3 hHeld.2.2.2.2.2.1, cell_on bw3 hHeld.2.2.2.2.2.2.1, cell_on bw3 hHeld.2.2.2.2.2.2.2.1, also hHeld.2.2.2.2.2.2.2.2 bw3⟩ | exact ⟨cell_put4 hHeld.1 (by omega) _ _ _ _, cell_put4 hHeld.2.1 (by omega) _ _ _ _, cell_put4 hHeld.2.2.1 (by omega) _ _ _ _, cell_put4 hHeld.2.2.2.1 (by omega) _ _ _ _, cell_put4 hHeld.2.2.2.2.1 (by omega) _ _ _ _, cell_put4 hHeld.2.2.2.2.2.1 (by omega) _ _ _ _, cell_put4 hHeld.2.2.2.2.2.2.1 (by omega) _ _ _ _, cell_put4 hHeld.2.2.2.2.2.2.2.1 (by omega) _ _ _ _, below_put4 hHeld.2.2.2.2.2.2.2.2 (by omega) _ _ _ _⟩
  clear hK Kc
  have zbw4 := bw4.size
  replace x := x.below bw4
  replace y := y.below bw4
  replace BB := also BB bw4
  replace x_a := x_a.on bw4
  replace x_b := x_b.on bw4
  replace x_z := x_z.on bw4
  replace q3 := q3.below bw4
  refine take_call (i := 10) rfl (by kernel_rfl) (fun Kc hK => ?_)
  go_simp
  (go_at_call 47; refine (rwAdd s3 s4 d3 d4 l3 c3 l4 c4 _ _ N _ q3 q4 f1 f2 HN.out).mono ?_; rintro e w5 ⟨s5, d5, l5, c5, rfl, q5, f5, bw5⟩)
  refine hK.out _ _ ?_ (fun hHeld => ?_)
  · first | exact ⟨x_a.c0, x_a.c1, x_a.c2, x_a.c3, x_b.c0, x_b.c1, x_b.c2, x_b.c3, BB⟩ | exact ⟨cell_on bw6 hHeld.1, cell_on bw6 hHeld.2.1, cell_on bw6 hHeld.2.2.1, cell_on bw6 hHeld.2.2.2.1, cell_on bw6 hHeld.2.2.2.2.1, cell_on bw6 hHeld.2.2.2.2.2.1, cell_on bw6 hHeld.2.2.2.2.2.2.1, cell_on bw6 hHeld.2.2.2.2.2.2.2.1, also hHeld.2.2.2.2.2.2.2.2 bw6⟩ | exact ⟨cell_on bw5 hHeld.1, cell_on bw5 hHeld.2.1, cell_on bw5 hHeld.2.2.1, cell_on bw5 hHeld.2.2.2.1, cell_on bw5 hHeld.2.2.2.2.1, cell_on bw5 hHeld.2.2.2.2.2.1, cell_on bw5 hHeld.2.2.2.2.2.2.1, cell_on bw5 hHeld.2.2.2.2.2.2.2.1, also hHeld.2.2.2.2.2.2.2.2 bw5⟩ | exact ⟨cell_on bw4 hHeld.1, cell_on bw4 hHeld.2.1, cell_on bw4 hHeld.2.2.1, cell_on bw4 hHeld.2.2.2.1, cell_on bw4 hHeld.2.2.2.2.1, cell_on bw4 hHeld.2.2.2.2.2.1, cell_on bw4 hHeld.2.2.2.2.2.2.1, cell_on bw4 hHeld.2.2.2.2.2.2.2.1, also hHeld.2.2.2.2.2.2.2.2 bw4⟩ | exact ⟨cell_on bw3 hHeld.1, cell_on bw3 hHeld.2.1, cell_on bw3 hHeld.2.2.1, cell_on bw3 hHeld.2.2.2.1, cell_on bw3 hHeld.2.2.2.2.1, cell_on bw3 hHeld.2.2.2.2.2.1, cell_on bw3 hHeld.2.2.2.2.2.2.1, cell_on bw3 hHeld.2.2.2.2.2.2.2.1, also hHeld.2.2.2.2.2.2.2.2 bw3⟩ | exact ⟨cell_put4 hHeld.1 (by omega) _ _ _ _, cell_put4 hHeld.2.1 (by omega) _ _ _ _, cell_put4 hHeld.2.2.1 (by omega) _ _ _ _, cell_put4 hHeld.2.2.2.1 (by omega) _ _ _ _, cell_put4 hHeld.2.2.2.2.1 (by omega) _ _ _ _, cell_put4 hHeld.2.2.2.2.2.1 (by omega) _ _ _ _, cell_put4 hHeld.2.2.2.2.2.2.1 (by omega) _ _ _ _, cell_put4 hHeld.2.2.2.2.2.2.2.1 (by omega) _ _ _ _, below_put4 hHeld.2.2.2.2.2.2.2.2 (by omega) _ _ _ _⟩
  clear hK Kc
  have zbw5 := bw5.size
  replace x := x.below bw5
  replace y := y.below bw5
  replace BB := also BB bw5
  replace x_a := x_a.on bw5
  replace x_b := x_b.on bw5
  replace x_z := x_z.on bw5
  replace q3 := q3.below bw5
  replace q4 := q4.below bw5
  refine take_call (i := 15) rfl (by kernel_rfl) (fun Kc hK => ?_)
  go_simp
  (go_at_call 48; refine (rwMul t1 t2 g1 g2 h1 k1 h2 k2 D1 D2 D _ x.rd y.rd gx gy HD.out).mono ?_; rintro e w6 ⟨s6, d6, l6, c6, rfl, q6, f6, bw6⟩)
  refine hK.out _ _ ?_ (fun hHeld => ?_)
  · first | exact ⟨x_a.c0, x_a.c1, x_a.c2, x_a.c3, x_b.c0, x_b.c1, x_b.c2, x_b.c3, BB⟩ | exact ⟨cell_on bw6 hHeld.1, cell_on bw6 hHeld.2.1, cell_on bw6 hHeld.2.2.1, cell_on bw6 hHeld.2.2.2.1, cell_on bw6 hHeld.2.2.2.2.1, cell_on bw6 hHeld.2.2.2.2.2.1, cell_on bw6 hHeld.2.2.2.2.2.2.1, cell_on bw6 hHeld.2.2.2.2.2.2.2.1, also hHeld.2.2.2.2.2.2.2.2 bw6⟩ | exact ⟨cell_on bw5 hHeld.1, cell_on bw5 hHeld.2.1, cell_on bw5 hHeld.2.2.1, cell_on bw5 hHeld.2.2.2.1, cell_on bw5 hHeld.2.2.2.2.1, cell_on bw5 hHeld.2.2.2.2.2.1, cell_on bw5 hHeld.2.2.2.2.2.2.1, cell_on bw5 hHeld.2.2.2.2.2.2.2.1, also hHeld.2.2.2.2.2.2.2.2 bw5⟩ | exact ⟨cell_on bw4 hHeld.1, cell_on bw4 hHeld.2.1, cell_on bw4 hHeld.2.2.1, cell_on bw4 hHeld.2.2.2.1, cell_on bw4 hHeld.2.2.2.2.1, cell_on bw4 hHeld.2.2.2.2.2.1, cell_on bw4 hHeld.2.2.2.2.2.2.1, cell_on bw4 hHeld.2.2.2.2.2.2.2.1, also hHeld.2.2.2.2.2.2.2.2 bw4⟩ | exact ⟨cell_on bw3 hHeld.1, cell_on bw3 hHeld.2.1, cell_on bw3 hHeld.2.2.1, cell_on bw3 hHeld.2.2.2.1, cell_on bw3 hHeld.2.2.2.2.1, cell_on bw3 hHeld.2.2.2.2.2.1, cell_on bw3 hHeld.2.2.2.2.2.2.1, cell_on bw3 hHeld.2.2.2.2.2.2.2.1, also hHeld.2.2.2.2.2.2.2.2 bw3⟩ | exact ⟨cell_put4 hHeld.1 (by omega) _ _ _ _, cell_put4 hHeld.2.1 (by omega) _ _ _ _, cell_put4 hHeld.2.2.1 (by omega) _ _ _ _, cell_put4 hHeld.2.2.2.1 (by omega) _ _ _ _, cell_put4 hHeld.2.2.2.2.1 (by omega) _ _ _ _, cell_put4 hHeld.2.2.2.2.2.1 (by omega) _ _ _ _, cell_put4 hHeld.2.2.2.2.2.2.1 (by omega) _ _ _ _, cell_put4 hHeld.2.2.2.2.2.2.2.1 (by omega) _ _ _ _, below_put4 hHeld.2.2.2.2.2.2.2.2 (by omega) _ _ _ _⟩
  clear hK Kc
  have zbw6 := bw6.size
  replace x := x.below bw6
  replace y := y.below bw6
  replace BB := also BB bw6
  replace x_a := x_a.on bw6
  replace x_b := x_b.on bw6
  replace x_z := x_z.on bw6
  replace q3 := q3.below bw6
  replace q4 := q4.below bw6
  replace q5 := q5.below bw6
  refine take_yes (i := 16) (v := ?vr16) rfl (by kernel_rfl) (by kernel_rfl) (by kernel_rfl) (fun _ _ _ h => h) (by rfl) (by assumption) ?hyr16 ?restr16
  case hyr16 => (intro w hSw; (try dsimp only at hSw); first | (go_simp; done) | (go_simp; with_reducible rfl))
  simp only [Act.put, List.setIfInBounds_toArray, List.set_cons_zero, List.set_cons_succ]
  have ⟨x_z_0, x_z_1, x_z_2, x_z_3, x_z_4, x_z_5, x_z_6, x_z_7⟩ := x_z
  refine take_call (i := 17) rfl (by kernel_rfl) (fun Kc hK => ?_)
  go_simp
  refine hK.out _ _ ?_ (fun hHeld => ?_)
  · first | exact ⟨x_a.c0, x_a.c1, x_a.c2, x_a.c3, x_b.c0, x_b.c1, x_b.c2, x_b.c3, BB⟩ | exact ⟨cell_on bw6 hHeld.1, cell_on bw6 hHeld.2.1, cell_on bw6 hHeld.2.2.1, cell_on bw6 hHeld.2.2.2.1, cell_on bw6 hHeld.2.2.2.2.1, cell_on bw6 hHeld.2.2.2.2.2.1, cell_on bw6 hHeld.2.2.2.2.2.2.1, cell_on bw6 hHeld.2.2.2.2.2.2.2.1, also hHeld.2.2.2.2.2.2.2.2 bw6⟩ | exact ⟨cell_on bw5 hHeld.1, cell_on bw5 hHeld.2.1, cell_on bw5 hHeld.2.2.1, cell_on bw5 hHeld.2.2.2.1, cell_on bw5 hHeld.2.2.2.2.1, cell_on bw5 hHeld.2.2.2.2.2.1, cell_on bw5 hHeld.2.2.2.2.2.2.1, cell_on bw5 hHeld.2.2.2.2.2.2.2.1, also hHeld.2.2.2.2.2.2.2.2 bw5⟩ | exact ⟨cell_on bw4 hHeld.1, cell_on bw4 hHeld.2.1, cell_on bw4 hHeld.2.2.1, cell_on bw4 hHeld.2.2.2.1, cell_on bw4 hHeld.2.2.2.2.1, cell_on bw4 hHeld.2.2.2.2.2.1, cell_on bw4 hHeld.2.2.2.2.2.2.1, cell_on bw4 hHeld.2.2.2.2.2.2.2.1, also hHeld.2.2.2.2.2.2.2.2 bw4⟩ | exact ⟨cell_on bw3 hHeld.1, cell_on bw3 hHeld.2.1, cell_on bw3 hHeld.2.2.1, cell_on bw3 hHeld.2.2.2.1, cell_on bw3 hHeld.2.2.2.2.1, cell_on bw3 hHeld.2.2.2.2.2.1, cell_on bw3 hHeld.2.2.2.2.2.2.1, cell_on bw3 hHeld.2.2.2.2.2.2.2.1, also hHeld.2.2.2.2.2.2.2.2 bw3⟩ | exact ⟨cell_put4 hHeld.1 (by omega) _ _ _ _, cell_put4 hHeld.2.1 (by omega) _ _ _ _, cell_put4 hHeld.2.2.1 (by omega) _ _ _ _, cell_put4 hHeld.2.2.2.1 (by omega) _ _ _ _, cell_put4 hHeld.2.2.2.2.1 (by omega) _ _ _ _, cell_put4 hHeld.2.2.2.2.2.1 (by omega) _ _ _ _, cell_put4 hHeld.2.2.2.2.2.2.1 (by omega) _ _ _ _, cell_put4 hHeld.2.2.2.2.2.2.2.1 (by omega) _ _ _ _, below_put4 hHeld.2.2.2.2.2.2.2.2 (by omega) _ _ _ _⟩
  clear hK Kc
  refine wpAnyH_done (by kernel_rfl) ?_ _
  go_wp2
  exact bodyPost_ret (v := .agg #[.int .i64 s5, .slice d5 l5 c5, .int .i64 s6, .slice d6 l6 c6]) (by simp [results, Tryz.results21, go_sem, *]) rfl (endRQ _ (by omega) BB ⟨q5, q6, d0, HS.out, HT.out, kk⟩ (f5 _ (by omega) ⟨f3 _ (by omega) trivial, f4 _ (by omega) trivial⟩) (f6 _ (by omega) trivial) (fun j hj _ => ⟨f5 j (by omega) ⟨f3 _ (by omega) trivial, f4 _ (by omega) trivial⟩, f6 j (by omega) trivial⟩) _ _ _ _)
end Go.Proofs.YtcaihoomcdbfnaaGreat

namespace Go.Proofs.YtcaihoomcdbfnaaGreat
set_option linter.unusedVariables false

theorem pN_pos {z : Int} {D : Nat} (h : 0 < D) : pN z D = z := if_neg (by omega)
theorem pD_eq {D : Nat} (h : 0 < D) : pD D = D := if_neg (by omega)
end Go.Proofs.YtcaihoomcdbfnaaGreat

namespace Go.Proofs.YtcaihoomcdbfnaaGreat
open Go.RowKit
set_option linter.unusedVariables false

/-- Moved alike: the center in lowest terms. -/
theorem cen_low_moved {a1 a2 b1 b2 c1 c2 s t : Int} (h0 : areaP a1 a2 b1 b2 c1 c2 ≠ 0) {N : Int} {D : Nat} (hN : N = lowN (cenX a1 a2 b1 b2 c1 c2 * (2 * areaP a1 a2 b1 b2 c1 c2).sign) (2 * areaP a1 a2 b1 b2 c1 c2).natAbs) (hD : D = lowD (cenX a1 a2 b1 b2 c1 c2 * (2 * areaP a1 a2 b1 b2 c1 c2).sign) (2 * areaP a1 a2 b1 b2 c1 c2).natAbs) :
    lowN (cenX (a1 + s) (a2 + t) (b1 + s) (b2 + t) (c1 + s) (c2 + t) * (2 * areaP (a1 + s) (a2 + t) (b1 + s) (b2 + t) (c1 + s) (c2 + t)).sign) (2 * areaP (a1 + s) (a2 + t) (b1 + s) (b2 + t) (c1 + s) (c2 + t)).natAbs = lowN (N * ((1 : Nat) : Int) + s * (D : Int)) (D * 1) ∧
    lowD (cenX (a1 + s) (a2 + t) (b1 + s) (b2 + t) (c1 + s) (c2 + t) * (2 * areaP (a1 + s) (a2 + t) (b1 + s) (b2 + t) (c1 + s) (c2 + t)).sign) (2 * areaP (a1 + s) (a2 + t) (b1 + s) (b2 + t) (c1 + s) (c2 + t)).natAbs = lowD (N * ((1 : Nat) : Int) + s * (D : Int)) (D * 1) := by
  rw [(cen_moved a1 a2 b1 b2 c1 c2 s t).1, area_moved]
  have hT : 2 * areaP a1 a2 b1 b2 c1 c2 ≠ 0 := by omega
  generalize 2 * areaP a1 a2 b1 b2 c1 c2 = T at *
  have ht : 0 < T.natAbs := by omega
  have hDp : 0 < D := by rw [hD]; exact lowD_pos ht
  have f : fe N D (cenX a1 a2 b1 b2 c1 c2 * T.sign) T.natAbs := by rw [hN, hD]; exact fe_low ht
  refine low_uniq ht (by omega) ?_
  unfold fe at *
  rw [abs_sgn] at *
  simp only [Nat.mul_one, Int.natCast_one, Int.mul_one]
  grind
end Go.Proofs.YtcaihoomcdbfnaaGreat

namespace Go.Proofs.YtcaihoomcdbfnaaGreat
open Go.RowKit
set_option linter.unusedVariables false

/-- A spot and whether there is one; a fraction and whether there is one. -/
def GotCen (w : World) (ok : Bool) (A1 : Int) (B1 : Nat) (A2 : Int) (B2 : Nat) (e : Ending) (w' : World) : Prop := ∃ (n1 : Bool) (a1 : Option Addr) (m1 e1 : Nat) (b1 : Option Addr) (o1 y1 : Nat) (n2 : Bool) (a2 : Option Addr) (m2 e2 : Nat) (b2 : Option Addr) (o2 y2 : Nat), e = .returned (.tuple #[.agg #[.bool n1, .slice a1 m1 e1, .slice b1 o1 y1, .bool n2, .slice a2 m2 e2, .slice b2 o2 y2], .bool ok]) ∧ QN w' n1 a1 m1 e1 b1 o1 y1 A1 B1 ∧ QN w' n2 a2 m2 e2 b2 o2 y2 A2 B2 ∧ Below w.heap.size w w'
def CenSpec : Prop := ∀ (a1 a2 b1 b2 c1 c2 : Int) (w : World), Hid (R2 (a1, a2)) → Hid (R2 (b1, b2)) → Hid (R2 (c1, c2)) → (hasP a1 a2 b1 b2 c1 c2 = true → ∀ A1 B1 A2 B2, A1 = lowN (cenX a1 a2 b1 b2 c1 c2 * (2 * areaP a1 a2 b1 b2 c1 c2).sign) (2 * areaP a1 a2 b1 b2 c1 c2).natAbs → B1 = lowD (cenX a1 a2 b1 b2 c1 c2 * (2 * areaP a1 a2 b1 b2 c1 c2).sign) (2 * areaP a1 a2 b1 b2 c1 c2).natAbs → A2 = lowN (cenY a1 a2 b1 b2 c1 c2 * (2 * areaP a1 a2 b1 b2 c1 c2).sign) (2 * areaP a1 a2 b1 b2 c1 c2).natAbs → B2 = lowD (cenY a1 a2 b1 b2 c1 c2 * (2 * areaP a1 a2 b1 b2 c1 c2).sign) (2 * areaP a1 a2 b1 b2 c1 c2).natAbs → Calls Tryz.prog 7 #[.agg #[.int .i64 a1, .int .i64 a2], .agg #[.int .i64 b1, .int .i64 b2], .agg #[.int .i64 c1, .int .i64 c2]] w (GotCen w true A1 B1 A2 B2)) ∧ (hasP a1 a2 b1 b2 c1 c2 = false → Calls Tryz.prog 7 #[.agg #[.int .i64 a1, .int .i64 a2], .agg #[.int .i64 b1, .int .i64 b2], .agg #[.int .i64 c1, .int .i64 c2]] w (GotCen w false 0 1 0 1))
end Go.Proofs.YtcaihoomcdbfnaaGreat

namespace Go.Proofs.YtcaihoomcdbfnaaGreat
open Go.RowKit
set_option linter.unusedVariables false

theorem QN.put6 {w : World} {n3 : Bool} {a3 : Option Addr} {l3 c3 : Nat} {d3 : Option Addr} {m3 k3 : Nat} {z : Int} {D b : Nat} (h : QN w n3 a3 l3 c3 d3 m3 k3 z D) (n1 : NA b a3 l3) (n2 : NA b d3 m3) (u0 u1 u2 u3 u4 u5 : Value) : QN ((((((w.setCell ⟨b, 0, none⟩ u0).setCell ⟨b, 1, none⟩ u1).setCell ⟨b, 2, none⟩ u2).setCell ⟨b, 3, none⟩ u3).setCell ⟨b, 4, none⟩ u4).setCell ⟨b, 5, none⟩ u5) n3 a3 l3 c3 d3 m3 k3 z D := ((((((h.put n1 n2 0 u0).put n1 n2 1 u1).put n1 n2 2 u2).put n1 n2 3 u3).put n1 n2 4 u4).put n1 n2 5 u5)
theorem endCen {w w2 : World} {n3 : Bool} {a3 : Option Addr} {l3 c3 : Nat} {d3 : Option Addr} {m3 k3 : Nat} {n4 : Bool} {a4 : Option Addr} {l4 c4 : Nat} {d4 : Option Addr} {m4 k4 : Nat} {A1 : Int} {B1 : Nat} {A2 : Int} {B2 : Nat} {ok : Bool} (b : Nat) (hb : w.heap.size ≤ b) (B : Below w.heap.size w w2) (h3 : QN w2 n3 a3 l3 c3 d3 m3 k3 A1 B1) (h4 : QN w2 n4 a4 l4 c4 d4 m4 k4 A2 B2) (f3 : NA b a3 l3) (g3 : NA b d3 m3) (f4 : NA b a4 l4) (g4 : NA b d4 m4) (u0 u1 u2 u3 u4 u5 : Value) :
    GotCen w ok A1 B1 A2 B2 (.returned (.tuple #[.agg #[.bool n3, .slice a3 l3 c3, .slice d3 m3 k3, .bool n4, .slice a4 l4 c4, .slice d4 m4 k4], .bool ok])) ((((((w2.setCell ⟨b, 0, none⟩ u0).setCell ⟨b, 1, none⟩ u1).setCell ⟨b, 2, none⟩ u2).setCell ⟨b, 3, none⟩ u3).setCell ⟨b, 4, none⟩ u4).setCell ⟨b, 5, none⟩ u5) :=
  ⟨n3, a3, l3, c3, d3, m3, k3, n4, a4, l4, c4, d4, m4, k4, rfl, h3.put6 f3 g3 u0 u1 u2 u3 u4 u5, h4.put6 f4 g4 u0 u1 u2 u3 u4 u5, below_put6 B hb u0 u1 u2 u3 u4 u5⟩
set_option maxRecDepth 100000 in
set_option maxHeartbeats 8000000 in
theorem cCenter0 (a1 a2 b1 b2 c1 c2 : Int) (w : World) (Ra : Hid (R2 (a1, a2))) (Rb : Hid (R2 (b1, b2))) (Rc : Hid (R2 (c1, c2))) (hh : hasP a1 a2 b1 b2 c1 c2 = false) :
    Calls Tryz.prog 7 #[.agg #[.int .i64 a1, .int .i64 a2], .agg #[.int .i64 b1, .int .i64 b2], .agg #[.int .i64 c1, .int .i64 c2]] w (GotCen w false 0 1 0 1) := by
  obtain ⟨W, hW, bW, x_a, x_b, x_c, x_r, sW⟩ := bs_2226 w (.int .i64 a1) (.int .i64 a2) (.int .i64 b1) (.int .i64 b2) (.int .i64 c1) (.int .i64 c2) (.bool false) (.slice none 0 0) (.slice none 0 0) (.bool false) (.slice none 0 0) (.slice none 0 0) 23 23 23 31
  have zbW := bW.size
  have BB := bW
  go_enter Tryz.func7, Tryz.ntmps7
  go_wp2_with (go_at_call 22; fail)
  rw [← hW]
  clear hW
  refine (cAbout0 a1 a2 b1 b2 c1 c2 hh W).mono ?_
  rintro e w1 ⟨rfl, bw1⟩
  have zbw1 := bw1.size
  replace BB := also BB bw1
  replace x_a := x_a.on bw1
  replace x_b := x_b.on bw1
  replace x_c := x_c.on bw1
  replace x_r := x_r.on bw1
  obtain ⟨V, hV, bV, x_s, sV⟩ := bs_6 w1 (.int .i64 0) (.int .u64 0) (.int .i64 0) (.int .u64 0) (.int .i64 0) (.int .u64 0) 63
  have zbV := bV.size
  replace BB := also BB bV
  replace x_a := x_a.on bV
  replace x_b := x_b.on bV
  replace x_c := x_c.on bV
  replace x_r := x_r.on bV
  go_wp2_with (go_at_call 23; fail)
  rw [← hV]
  clear hV
  refine (qOf 0 V (by decide) (by decide)).mono ?_
  rintro e w2 ⟨n3, a3, l3, c3, d3, m3, k3, rfl, h3, f3, g3, bw2⟩
  have zbw2 := bw2.size
  replace BB := also BB bw2
  replace x_a := x_a.on bw2
  replace x_b := x_b.on bw2
  replace x_c := x_c.on bw2
  replace x_r := x_r.on bw2
  replace x_s := x_s.on bw2
  go_wp2_with (go_at_call 23; fail)
  refine (qOf 0 w2 (by decide) (by decide)).mono ?_
  rintro e w3 ⟨n4, a4, l4, c4, d4, m4, k4, rfl, h4, f4, g4, bw3⟩
  have zbw3 := bw3.size
  replace BB := also BB bw3
  replace x_a := x_a.on bw3
  replace x_b := x_b.on bw3
  replace x_c := x_c.on bw3
  replace x_r := x_r.on bw3
  replace x_s := x_s.on bw3
  replace h3 := h3.below bw3
  have ⟨x_r_0, x_r_1, x_r_2, x_r_3, x_r_4, x_r_5, x_r_6, x_r_7, x_r_8, x_r_9, x_r_10, x_r_11⟩ := x_r
  go_wp2
  exact bodyPost_ret (v := .tuple #[.agg #[.bool n3, .slice a3 l3 c3, .slice d3 m3 k3, .bool n4, .slice a4 l4 c4, .slice d4 m4 k4], .bool false]) (by simp [results, Tryz.results7, go_sem, *]) rfl (endCen _ (by omega) BB h3 h4 (f3 _ (by omega)) (g3 _ (by omega)) (f4 _ (by omega)) (g4 _ (by omega)) _ _ _ _ _ _)
set_option maxRecDepth 100000 in
set_option maxHeartbeats 8000000 in
theorem cCenter (a1 a2 b1 b2 c1 c2 : Int) (w : World) (Ra : Hid (R2 (a1, a2))) (Rb : Hid (R2 (b1, b2))) (Rc : Hid (R2 (c1, c2))) (hh : hasP a1 a2 b1 b2 c1 c2 = true) (A1 : Int) (B1 : Nat) (A2 : Int) (B2 : Nat) (hA1 : A1 = lowN (cenX a1 a2 b1 b2 c1 c2 * (2 * areaP a1 a2 b1 b2 c1 c2).sign) (2 * areaP a1 a2 b1 b2 c1 c2).natAbs) (hB1 : B1 = lowD (cenX a1 a2 b1 b2 c1 c2 * (2 * areaP a1 a2 b1 b2 c1 c2).sign) (2 * areaP a1 a2 b1 b2 c1 c2).natAbs) (hA2 : A2 = lowN (cenY a1 a2 b1 b2 c1 c2 * (2 * areaP a1 a2 b1 b2 c1 c2).sign) (2 * areaP a1 a2 b1 b2 c1 c2).natAbs) (hB2 : B2 = lowD (cenY a1 a2 b1 b2 c1 c2 * (2 * areaP a1 a2 b1 b2 c1 c2).sign) (2 * areaP a1 a2 b1 b2 c1 c2).natAbs) :
    Calls Tryz.prog 7 #[.agg #[.int .i64 a1, .int .i64 a2], .agg #[.int .i64 b1, .int .i64 b2], .agg #[.int .i64 c1, .int .i64 c2]] w (GotCen w true A1 B1 A2 B2) := by
  obtain ⟨ha, hb, hc, h0⟩ := has_yes.1 hh
  have ko := off_small ha hb hc
  have ks := off_sum a1 a2 b1 b2 c1 c2
  have kr := rad_small ha hb hc
  have kw := area_wide ha hb hc
  obtain ⟨X, hX⟩ : ∃ z, z = offX (b1 - a1) (b2 - a2) (c1 - a1) (c2 - a2) := ⟨_, rfl⟩
  obtain ⟨Y, hY⟩ : ∃ z, z = offY (b1 - a1) (b2 - a2) (c1 - a1) (c2 - a2) := ⟨_, rfl⟩
  obtain ⟨G, hG⟩ : ∃ z, z = areaP a1 a2 b1 b2 c1 c2 := ⟨_, rfl⟩
  rw [← hX, ← hY] at ko ks
  rw [← hG] at h0 kw
  obtain ⟨rh, erh⟩ : ∃ z, z = lw.hi X := ⟨_, rfl⟩
  obtain ⟨rl, erl⟩ : ∃ z, z = lw.lo X := ⟨_, rfl⟩
  have Jrh : Hid (rh = lw.hi (offX (b1 - a1) (b2 - a2) (c1 - a1) (c2 - a2))) := by unfold Hid; rw [← hX]; exact erh
  have Hrh : Hid _ := erh
  clear erh
  have Jrl : Hid (rl = lw.lo (offX (b1 - a1) (b2 - a2) (c1 - a1) (c2 - a2))) := by unfold Hid; rw [← hX]; exact erl
  have Hrl : Hid _ := erl
  clear erl
  obtain ⟨sh, esh⟩ : ∃ z, z = lw.hi Y := ⟨_, rfl⟩
  obtain ⟨sl, esl⟩ : ∃ z, z = lw.lo Y := ⟨_, rfl⟩
  have Jsh : Hid (sh = lw.hi (offY (b1 - a1) (b2 - a2) (c1 - a1) (c2 - a2))) := by unfold Hid; rw [← hY]; exact esh
  have Hsh : Hid _ := esh
  clear esh
  have Jsl : Hid (sl = lw.lo (offY (b1 - a1) (b2 - a2) (c1 - a1) (c2 - a2))) := by unfold Hid; rw [← hY]; exact esl
  have Hsl : Hid _ := esl
  clear esl
  obtain ⟨ph, eph⟩ : ∃ z, z = lw.hi G := ⟨_, rfl⟩
  obtain ⟨pl, epl⟩ : ∃ z, z = lw.lo G := ⟨_, rfl⟩
  have Jph : Hid (ph = lw.hi (areaP a1 a2 b1 b2 c1 c2)) := by unfold Hid; rw [← hG]; exact eph
  have Hph : Hid _ := eph
  clear eph
  have Jpl : Hid (pl = lw.lo (areaP a1 a2 b1 b2 c1 c2)) := by unfold Hid; rw [← hG]; exact epl
  have Hpl : Hid _ := epl
  clear epl
  have RX : Hid (W128 X) := w128_abs (by omega)
  have RY : Hid (W128 Y) := w128_abs (by omega)
  have RG : Hid (W128 G) := ⟨by omega, by omega⟩
  have RT : Hid (W128 (G + G)) := ⟨by omega, by omega⟩
  have T0 : Hid (G + G ≠ 0) := by unfold Hid; omega
  obtain ⟨th, hth⟩ : ∃ z, z = lw.hi (G + G) := ⟨_, rfl⟩
  obtain ⟨tl, htl⟩ : ∃ z, z = lw.lo (G + G) := ⟨_, rfl⟩
  have Hth : Hid _ := hth
  have Htl : Hid _ := htl
  clear hth htl
  have e2 : 2 * areaP a1 a2 b1 b2 c1 c2 = G + G := by rw [← hG]; omega
  have j1 : cenX a1 a2 b1 b2 c1 c2 = a1 * (G + G) + X := by unfold cenX; rw [e2, ← hX, Int.mul_comm]
  rw [e2, j1] at hA1 hB1
  have L1 : Hid (R64 a1) := in_64 (canC_true.1 ha).1
  have M1 : Hid (W256 (a1 * (G + G) + X)) := by
    have k1 : a1.natAbs ≤ 10000000000000000000 := by have := L1.out; unfold R64 at this; omega
    have k2 : (G + G).natAbs ≤ 20000000000000000000000000 := by omega
    have k3 := prod_abs k1 k2
    unfold Hid W256
    omega
  have j2 : cenY a1 a2 b1 b2 c1 c2 = a2 * (G + G) + Y := by unfold cenY; rw [e2, ← hY, Int.mul_comm]
  rw [e2, j2] at hA2 hB2
  have L2 : Hid (R64 a2) := in_64 (canC_true.1 ha).2
  have M2 : Hid (W256 (a2 * (G + G) + Y)) := by
    have k1 : a2.natAbs ≤ 10000000000000000000 := by have := L2.out; unfold R64 at this; omega
    have k2 : (G + G).natAbs ≤ 20000000000000000000000000 := by omega
    have k3 := prod_abs k1 k2
    unfold Hid W256
    omega
  have HA1 : Hid _ := hA1
  have HB1 : Hid _ := hB1
  have HA2 : Hid _ := hA2
  have HB2 : Hid _ := hB2
  clear hA1 hB1 hA2 hB2
  clear e2 j1 j2 ko ks kr kw h0 hX hY hG ha hb hc
  obtain ⟨W, hW, bW, x_a, x_b, x_c, x_r, sW⟩ := bs_2226 w (.int .i64 a1) (.int .i64 a2) (.int .i64 b1) (.int .i64 b2) (.int .i64 c1) (.int .i64 c2) (.bool false) (.slice none 0 0) (.slice none 0 0) (.bool false) (.slice none 0 0) (.slice none 0 0) 23 23 23 31
  have zbW := bW.size
  have BB := bW
  go_enter Tryz.func7, Tryz.ntmps7
  go_wp2_with (go_at_call 22; fail)
  rw [← hW]
  clear hW
  refine (cAbout a1 a2 b1 b2 c1 c2 hh Jrh.out Jrl.out Jsh.out Jsl.out Jph.out Jpl.out W).mono ?_
  rintro e w1 ⟨rfl, bw1⟩
  have zbw1 := bw1.size
  replace BB := also BB bw1
  replace x_a := x_a.on bw1
  replace x_b := x_b.on bw1
  replace x_c := x_c.on bw1
  replace x_r := x_r.on bw1
  obtain ⟨V, hV, bV, x_s, sV⟩ := bs_6 w1 (.int .i64 rh) (.int .u64 rl) (.int .i64 sh) (.int .u64 sl) (.int .i64 ph) (.int .u64 pl) 63
  have zbV := bV.size
  replace BB := also BB bV
  replace x_a := x_a.on bV
  replace x_b := x_b.on bV
  replace x_c := x_c.on bV
  replace x_r := x_r.on bV
  go_wp2_with (go_at_call 24; fail)
  rw [← hV]
  clear hV
  refine (xAdd G G Hph.out Hpl.out Hph.out Hpl.out Hth.out Htl.out V).mono ?_
  rintro e w2 ⟨rfl, bw2⟩
  have zbw2 := bw2.size
  replace BB := also BB bw2
  replace x_a := x_a.on bw2
  replace x_b := x_b.on bw2
  replace x_c := x_c.on bw2
  replace x_r := x_r.on bw2
  replace x_s := x_s.on bw2
  obtain ⟨X1, hX1, bX1, x_t, sX1⟩ := bs_2 w2 (.int .i64 th) (.int .u64 tl) 61
  have zbX1 := bX1.size
  replace BB := also BB bX1
  replace x_a := x_a.on bX1
  replace x_b := x_b.on bX1
  replace x_c := x_c.on bX1
  replace x_r := x_r.on bX1
  replace x_s := x_s.on bX1
  go_wp2
  rw [← hX1]
  clear hX1
  have dd1 : Below X1.heap.size X1 X1.drew := (Below.refl _ _).drew
  have zdd1 := dd1.size
  replace BB := also BB dd1
  replace x_a := x_a.on dd1
  replace x_b := x_b.on dd1
  replace x_c := x_c.on dd1
  replace x_r := x_r.on dd1
  replace x_s := x_s.on dd1
  replace x_t := x_t.on dd1
  refine wp_region_held_drew (S := (fun w' => w'.cell? ⟨w.heap.size, 0, none⟩ = some (.int .i64 a1) ∧ w'.cell? ⟨w.heap.size, 1, none⟩ = some (.int .i64 a2) ∧ w'.cell? ⟨w1.heap.size, 0, none⟩ = some (.int .i64 rh) ∧ w'.cell? ⟨w1.heap.size, 1, none⟩ = some (.int .u64 rl) ∧ w'.cell? ⟨w1.heap.size, 2, none⟩ = some (.int .i64 sh) ∧ w'.cell? ⟨w1.heap.size, 3, none⟩ = some (.int .u64 sl) ∧ w'.cell? ⟨w1.heap.size, 4, none⟩ = some (.int .i64 ph) ∧ w'.cell? ⟨w1.heap.size, 5, none⟩ = some (.int .u64 pl) ∧ w'.cell? ⟨w2.heap.size, 0, none⟩ = some (.int .i64 th) ∧ w'.cell? ⟨w2.heap.size, 1, none⟩ = some (.int .u64 tl) ∧ Below w.heap.size w w')) (by kernel_rfl) ?_ (fun hHeld => ?_)
  · exact ⟨x_a.c0, x_a.c1, x_s.c0, x_s.c1, x_s.c2, x_s.c3, x_s.c4, x_s.c5, x_t.c0, x_t.c1, BB⟩
  refine take_yes (i := 0) (v := ?vs0) rfl (by kernel_rfl) (by kernel_rfl) (by kernel_rfl) (fun _ _ _ h => h) (by rfl) (by assumption) ?hys0 ?rests0
  case hys0 => (intro w hSw; (try dsimp only at hSw); first | (go_simp; done) | (go_simp; with_reducible rfl))
  simp only [Act.put, List.setIfInBounds_toArray, List.set_cons_zero, List.set_cons_succ]
  refine take_yes (i := 1) (v := ?vs1) rfl (by kernel_rfl) (by kernel_rfl) (by kernel_rfl) (fun _ _ _ h => h) (by rfl) (by assumption) ?hys1 ?rests1
  case hys1 => (intro w hSw; (try dsimp only at hSw); first | (go_simp; done) | (go_simp; with_reducible rfl))
  simp only [Act.put, List.setIfInBounds_toArray, List.set_cons_zero, List.set_cons_succ]
  refine take_yes (i := 2) (v := ?vs2) rfl (by kernel_rfl) (by kernel_rfl) (by kernel_rfl) (fun _ _ _ h => h) (by rfl) (by assumption) ?hys2 ?rests2
  case hys2 => (intro w hSw; (try dsimp only at hSw); first | (go_simp; done) | (go_simp; with_reducible rfl))
  simp only [Act.put, List.setIfInBounds_toArray, List.set_cons_zero, List.set_cons_succ]
  refine take_yes (i := 3) (v := ?vs3) rfl (by kernel_rfl) (by kernel_rfl) (by kernel_rfl) (fun _ _ _ h => h) (by rfl) (by assumption) ?hys3 ?rests3
  case hys3 => (intro w hSw; (try dsimp only at hSw); first | (go_simp; done) | (go_simp; with_reducible rfl))
  simp only [Act.put, List.setIfInBounds_toArray, List.set_cons_zero, List.set_cons_succ]
  refine take_yes (i := 4) (v := ?vs4) rfl (by kernel_rfl) (by kernel_rfl) (by kernel_rfl) (fun _ _ _ h => h) (by rfl) (by assumption) ?hys4 ?rests4
  case hys4 => (intro w hSw; (try dsimp only at hSw); first | (go_simp; done) | (go_simp; with_reducible rfl))
  simp only [Act.put, List.setIfInBounds_toArray, List.set_cons_zero, List.set_cons_succ]
  refine take_yes (i := 6) (v := ?vs6) rfl (by kernel_rfl) (by kernel_rfl) (by kernel_rfl) (fun _ _ _ h => h) (by rfl) (by assumption) ?hys6 ?rests6
  case hys6 => (intro w hSw; (try dsimp only at hSw); first | (go_simp; done) | (go_simp; with_reducible rfl))
  simp only [Act.put, List.setIfInBounds_toArray, List.set_cons_zero, List.set_cons_succ]
  refine take_yes (i := 7) (v := ?vs7) rfl (by kernel_rfl) (by kernel_rfl) (by kernel_rfl) (fun _ _ _ h => h) (by rfl) (by assumption) ?hys7 ?rests7
  case hys7 => (intro w hSw; (try dsimp only at hSw); first | (go_simp; done) | (go_simp; with_reducible rfl))
  simp only [Act.put, List.setIfInBounds_toArray, List.set_cons_zero, List.set_cons_succ]
  refine take_yes (i := 8) (v := ?vs8) rfl (by kernel_rfl) (by kernel_rfl) (by kernel_rfl) (fun _ _ _ h => h) (by rfl) (by assumption) ?hys8 ?rests8
  case hys8 => (intro w hSw; (try dsimp only at hSw); first | (go_simp; done) | (go_simp; with_reducible rfl))
  simp only [Act.put, List.setIfInBounds_toArray, List.set_cons_zero, List.set_cons_succ]
  refine take_yes (i := 9) (v := ?vs9) rfl (by kernel_rfl) (by kernel_rfl) (by kernel_rfl) (fun _ _ _ h => h) (by rfl) (by assumption) ?hys9 ?rests9
  case hys9 => (intro w hSw; (try dsimp only at hSw); first | (go_simp; done) | (go_simp; with_reducible rfl))
  simp only [Act.put, List.setIfInBounds_toArray, List.set_cons_zero, List.set_cons_succ]
  refine take_yes (i := 10) (v := ?vs10) rfl (by kernel_rfl) (by kernel_rfl) (by kernel_rfl) (fun _ _ _ h => h) (by rfl) (by assumption) ?hys10 ?rests10
  case hys10 => (intro w hSw; (try dsimp only at hSw); first | (go_simp; done) | (go_simp; with_reducible rfl))
  simp only [Act.put, List.setIfInBounds_toArray, List.set_cons_zero, List.set_cons_succ]
  refine take_call (i := 5) rfl (by kernel_rfl) (fun Kc hK => ?_)
  go_simp
  (go_at_call 25; refine (cHalf a1 X (G + G) Hrh.out Hrl.out Hth.out Htl.out L1 RX RT T0 M1 HA1.out HB1.out _).mono ?_; rintro e w3 ⟨n3, a3, l3, c3, d3, m3, k3, rfl, h3, f3, g3, bw3⟩)
  refine hK.out _ _ ?_ (fun hHeld => ?_)
  · exact ⟨cell_on bw3 hHeld.1, cell_on bw3 hHeld.2.1, cell_on bw3 hHeld.2.2.1, cell_on bw3 hHeld.2.2.2.1, cell_on bw3 hHeld.2.2.2.2.1, cell_on bw3 hHeld.2.2.2.2.2.1, cell_on bw3 hHeld.2.2.2.2.2.2.1, cell_on bw3 hHeld.2.2.2.2.2.2.2.1, cell_on bw3 hHeld.2.2.2.2.2.2.2.2.1, cell_on bw3 hHeld.2.2.2.2.2.2.2.2.2.1, also hHeld.2.2.2.2.2.2.2.2.2.2 bw3⟩
  clear hK Kc
  have zbw3 := bw3.size
  replace BB := also BB bw3
  replace x_a := x_a.on bw3
  replace x_b := x_b.on bw3
  replace x_c := x_c.on bw3
  replace x_r := x_r.on bw3
  replace x_s := x_s.on bw3
  replace x_t := x_t.on bw3
  refine take_call (i := 11) rfl (by kernel_rfl) (fun Kc hK => ?_)
  go_simp
  (go_at_call 25; refine (cHalf a2 Y (G + G) Hsh.out Hsl.out Hth.out Htl.out L2 RY RT T0 M2 HA2.out HB2.out _).mono ?_; rintro e w4 ⟨n4, a4, l4, c4, d4, m4, k4, rfl, h4, f4, g4, bw4⟩)
  refine hK.out _ _ ?_ (fun hHeld => ?_)
  · exact ⟨cell_on bw4 hHeld.1, cell_on bw4 hHeld.2.1, cell_on bw4 hHeld.2.2.1, cell_on bw4 hHeld.2.2.2.1, cell_on bw4 hHeld.2.2.2.2.1, cell_on bw4 hHeld.2.2.2.2.2.1, cell_on bw4 hHeld.2.2.2.2.2.2.1, cell_on bw4 hHeld.2.2.2.2.2.2.2.1, cell_on bw4 hHeld.2.2.2.2.2.2.2.2.1, cell_on bw4 hHeld.2.2.2.2.2.2.2.2.2.1, also hHeld.2.2.2.2.2.2.2.2.2.2 bw4⟩
  clear hK Kc
  have zbw4 := bw4.size
  replace BB := also BB bw4
  replace x_a := x_a.on bw4
  replace x_b := x_b.on bw4
  replace x_c := x_c.on bw4
  replace x_r := x_r.on bw4
  replace x_s := x_s.on bw4
  replace x_t := x_t.on bw4
  replace h3 := h3.below bw4
  refine take_yes (i := 12) (v := ?vs12) rfl (by kernel_rfl) (by kernel_rfl) (by kernel_rfl) (fun _ _ _ h => h) (by rfl) (by assumption) ?hys12 ?rests12
  case hys12 => (intro w hSw; (try dsimp only at hSw); first | (go_simp; done) | (go_simp; with_reducible rfl))
  simp only [Act.put, List.setIfInBounds_toArray, List.set_cons_zero, List.set_cons_succ]
  have ⟨x_r_0, x_r_1, x_r_2, x_r_3, x_r_4, x_r_5, x_r_6, x_r_7, x_r_8, x_r_9, x_r_10, x_r_11⟩ := x_r
  refine take_call (i := 13) rfl (by kernel_rfl) (fun Kc hK => ?_)
  go_simp
  refine hK.out _ _ ?_ (fun hHeld => ?_)
  · first | exact ⟨cell_put6 hHeld.1 (by omega) _ _ _ _ _ _, cell_put6 hHeld.2.1 (by omega) _ _ _ _ _ _, cell_put6 hHeld.2.2.1 (by omega) _ _ _ _ _ _, cell_put6 hHeld.2.2.2.1 (by omega) _ _ _ _ _ _, cell_put6 hHeld.2.2.2.2.1 (by omega) _ _ _ _ _ _, cell_put6 hHeld.2.2.2.2.2.1 (by omega) _ _ _ _ _ _, cell_put6 hHeld.2.2.2.2.2.2.1 (by omega) _ _ _ _ _ _, cell_put6 hHeld.2.2.2.2.2.2.2.1 (by omega) _ _ _ _ _ _, cell_put6 hHeld.2.2.2.2.2.2.2.2.1 (by omega) _ _ _ _ _ _, cell_put6 hHeld.2.2.2.2.2.2.2.2.2.1 (by omega) _ _ _ _ _ _, below_put6 hHeld.2.2.2.2.2.2.2.2.2.2 (by omega) _ _ _ _ _ _⟩ | exact ⟨x_a.c0, x_a.c1, x_s.c0, x_s.c1, x_s.c2, x_s.c3, x_s.c4, x_s.c5, x_t.c0, x_t.c1, BB⟩
  clear hK Kc
  refine take_yes (i := 14) (v := ?vs14) rfl (by kernel_rfl) (by kernel_rfl) (by kernel_rfl) (fun _ _ _ h => h) (by rfl) (by assumption) ?hys14 ?rests14
  case hys14 => (intro w hSw; (try dsimp only at hSw); first | (go_simp; done) | (go_simp; with_reducible rfl))
  simp only [Act.put, List.setIfInBounds_toArray, List.set_cons_zero, List.set_cons_succ]
  refine wpAnyH_done (by kernel_rfl) ?_ _
  go_wp2
  exact bodyPost_ret (v := .tuple #[.agg #[.bool n3, .slice a3 l3 c3, .slice d3 m3 k3, .bool n4, .slice a4 l4 c4, .slice d4 m4 k4], .bool true]) (by simp [results, Tryz.results7, go_sem, *]) rfl (endCen _ (by omega) BB h3 h4 (f3 _ (by omega)) (g3 _ (by omega)) (f4 _ (by omega)) (g4 _ (by omega)) _ _ _ _ _ _)
theorem cen : CenSpec := fun a1 a2 b1 b2 c1 c2 w Ra Rb Rc => ⟨fun hh A1 B1 A2 B2 h1 h2 h3 h4 => cCenter a1 a2 b1 b2 c1 c2 w Ra Rb Rc hh A1 B1 A2 B2 h1 h2 h3 h4, fun hh => cCenter0 a1 a2 b1 b2 c1 c2 w Ra Rb Rc hh⟩
end Go.Proofs.YtcaihoomcdbfnaaGreat

namespace Go.Proofs.YtcaihoomcdbfnaaGreat
open Go.RowKit
set_option linter.unusedVariables false

theorem mean_abs {x y z X Y Z : Int} (hx : x.natAbs ≤ 10000000000000) (hy : y.natAbs ≤ 10000000000000) (hz : z.natAbs ≤ 10000000000000) (hX : X.natAbs ≤ 1000000000000000000000000000000) (hY : Y.natAbs ≤ 1000000000000000000000000000000) (hZ : Z.natAbs ≤ 1000000000000000000000000000000) : (meanN x y z X Y Z).natAbs ≤ 90000000000000000000000000000000000000000000000000000000000000000000000000 ∧ (meanD X Y Z).natAbs ≤ 9000000000000000000000000000000000000000000000000000000000000 := by
  have kX : (Y + Z - X).natAbs ≤ 3000000000000000000000000000000 := by omega
  have kY : (Z + X - Y).natAbs ≤ 3000000000000000000000000000000 := by omega
  have kZ : (X + Y - Z).natAbs ≤ 3000000000000000000000000000000 := by omega
  have wX := prod_abs hX kX
  have wY := prod_abs hY kY
  have wZ := prod_abs hZ kZ
  have pX := prod_abs hx wX
  have pY := prod_abs hy wY
  have pZ := prod_abs hz wZ
  unfold meanN meanD wgt
  generalize X * (Y + Z - X) = U at *
  generalize Y * (Z + X - Y) = V at *
  generalize Z * (X + Y - Z) = T at *
  generalize x * U = p at *
  generalize y * V = q at *
  generalize z * T = r at *
  omega
theorem cen_size {a1 a2 b1 b2 c1 c2 : Int} (ha : canC a1 a2 = true) (hb : canC b1 b2 = true) (hc : canC c1 c2 = true) : (meanN a1 b1 c1 (distP b1 b2 c1 c2) (distP c1 c2 a1 a2) (distP a1 a2 b1 b2)).natAbs < 4294967296 ^ 10 ∧ (meanN a2 b2 c2 (distP b1 b2 c1 c2) (distP c1 c2 a1 a2) (distP a1 a2 b1 b2)).natAbs < 4294967296 ^ 10 ∧ (meanD (distP b1 b2 c1 c2) (distP c1 c2 a1 a2) (distP a1 a2 b1 b2)).natAbs < 4294967296 ^ 10 := by
  have w1 := dist_wide hb hc
  have w2 := dist_wide hc ha
  have w3 := dist_wide ha hb
  have i1 := inC_true.1 (canC_true.1 ha).1
  have i2 := inC_true.1 (canC_true.1 ha).2
  have i3 := inC_true.1 (canC_true.1 hb).1
  have i4 := inC_true.1 (canC_true.1 hb).2
  have i5 := inC_true.1 (canC_true.1 hc).1
  have i6 := inC_true.1 (canC_true.1 hc).2
  have m1 := mean_abs (x := a1) (y := b1) (z := c1) (X := distP b1 b2 c1 c2) (Y := distP c1 c2 a1 a2) (Z := distP a1 a2 b1 b2) (by omega) (by omega) (by omega) (by omega) (by omega) (by omega)
  have m2 := mean_abs (x := a2) (y := b2) (z := c2) (X := distP b1 b2 c1 c2) (Y := distP c1 c2 a1 a2) (Z := distP a1 a2 b1 b2) (by omega) (by omega) (by omega) (by omega) (by omega) (by omega)
  exact ⟨Nat.lt_of_le_of_lt m1.1 (by decide), Nat.lt_of_le_of_lt m2.1 (by decide), Nat.lt_of_le_of_lt m1.2 (by decide)⟩
theorem rqOfP (n : Bool) (a : Option Addr) (la ca : Nat) (d : Option Addr) (ld cd : Nat) (za : Int) (Da K : Nat) (w : World) (ha : QI w K n a la ca d ld cd za Da) (h : 0 < Da) : Calls Tryz.prog 16 #[.agg #[.bool n, .slice a la ca, .slice d ld cd]] w (GotRQ w (fun _ => True) K za Da) := by
  have := rqOf n a la ca d ld cd za Da K w ha
  rw [pN_pos h, pD_eq h] at this
  exact this
end Go.Proofs.YtcaihoomcdbfnaaGreat

namespace Go.Proofs.YtcaihoomcdbfnaaGreat
open Go.RowKit
open Go.ChangeShapes Go.WideShapes Go.ChangeAt Go.Joins
set_option linter.unusedVariables false
set_option linter.constructorNameAsVariable false

theorem list6 {cs : Array Value} (h : cs.size = 6) : ∃ c0 c1 c2 c3 c4 c5, cs = #[c0, c1, c2, c3, c4, c5] := by
  obtain ⟨l⟩ := cs
  match l, h with
  | [c0, c1, c2, c3, c4, c5], _ => exact ⟨c0, c1, c2, c3, c4, c5, rfl⟩
theorem cells3I : Tryz.prog.cellsOf 2 = 1 := by kernel_rfl
theorem cells3P : Tryz.prog.cellsOf 23 = 2 := by kernel_rfl
theorem cells3PP : Tryz.prog.cellsOf 53 = 6 := by kernel_rfl
theorem trod_p {H : Type} {enc : TypeId × Value → H} {W : World} {bs fuel : Nat} {sp : Nat → Bool} {hd : Bool} {c0 c1 : Value} {y : DataW H × List MemPlace} (h : DataW.trod enc Tryz.prog W bs sp hd fuel 23 [c0, c1] = some y) :
    ∃ a b : Int, c0 = .int .i64 a ∧ c1 = .int .i64 b ∧ y = (.agg [.lit (.int .i64 a), .lit (.int .i64 b)], []) ∧ (Lit.int .i64 a).wf = true ∧ (Lit.int .i64 b).wf = true := by
  obtain ⟨y0, y1, n, hx, _, h0, h1⟩ := trod_struct2 Tryz.underlying23 h
  have h0 : DataW.trod enc Tryz.prog W bs sp hd n 2 [c0] = some y0 := by simpa [cells3I] using h0
  have h1 : DataW.trod enc Tryz.prog W bs sp hd n 2 [c1] = some y1 := by simpa [cells3I] using h1
  obtain ⟨a, e0, rfl, w0⟩ := DataW.trod_int Tryz.underlying2 h0
  obtain ⟨b, e1, rfl, w1⟩ := DataW.trod_int Tryz.underlying2 h1
  simp at e0 e1 hx
  exact ⟨a, b, e0, e1, hx, w0, w1⟩
set_option maxRecDepth 100000 in
theorem open_pt3 {H : Type} {enc : TypeId × Value → H} {w W : World} {r : Reach} {b0 bs : Nat} {sp : Nat → Bool} {hd : Bool} {v : Value} {d : DataW H} {p : List MemPlace} (hv : Value.okWide Tryz.prog w r b0 53 v) (h : DataW.Trod enc Tryz.prog W bs sp hd 53 v d p) :
    ∃ a0 a1 a2 a3 a4 a5 : Int, v = .agg #[.int .i64 a0, .int .i64 a1, .int .i64 a2, .int .i64 a3, .int .i64 a4, .int .i64 a5] ∧ d = .agg [.agg [.lit (.int .i64 a0), .lit (.int .i64 a1)], .agg [.lit (.int .i64 a2), .lit (.int .i64 a3)], .agg [.lit (.int .i64 a4), .lit (.int .i64 a5)]] ∧ p = [] ∧ (Lit.int .i64 a0).wf = true ∧ (Lit.int .i64 a1).wf = true ∧ (Lit.int .i64 a2).wf = true ∧ (Lit.int .i64 a3).wf = true ∧ (Lit.int .i64 a4).wf = true ∧ (Lit.int .i64 a5).wf = true := by
  simp only [Value.okWide, Tryz.underlying53] at hv
  obtain ⟨cs, rfl, hsz, _⟩ := hv
  obtain ⟨c0, c1, c2, c3, c4, c5, rfl⟩ := list6 (hsz.trans cells3PP)
  obtain ⟨fuel, hf⟩ := h
  obtain ⟨xs, m, _, hx, _, hl, hi⟩ := DataW.trod_array Tryz.underlying53 hf
  obtain ⟨y0, y1, y2, rfl⟩ : ∃ y0 y1 y2, xs = [y0, y1, y2] := by
    match xs, hl with
    | [y0, y1, y2], _ => exact ⟨y0, y1, y2, rfl⟩
  have i0 := hi 0 (by decide)
  have i1 := hi 1 (by decide)
  have i2 := hi 2 (by decide)
  rw [cells3P] at i0 i1 i2
  simp [Value.cells] at i0 i1 i2
  obtain ⟨a0, a1, rfl, rfl, rfl, w0, w1⟩ := trod_p i0
  obtain ⟨a2, a3, rfl, rfl, rfl, w2, w3⟩ := trod_p i1
  obtain ⟨a4, a5, rfl, rfl, rfl, w4, w5⟩ := trod_p i2
  simp at hx
  exact ⟨a0, a1, a2, a3, a4, a5, rfl, hx.1, hx.2, w0, w1, w2, w3, w4, w5⟩
set_option maxRecDepth 100000 in
theorem shut_pt3 {H : Type} {enc : TypeId × Value → H} {W : World} {bs : Nat} {sp : Nat → Bool} {hd : Bool} {a0 a1 a2 a3 a4 a5 : Int} (w0 : (Lit.int .i64 a0).wf = true) (w1 : (Lit.int .i64 a1).wf = true) (w2 : (Lit.int .i64 a2).wf = true) (w3 : (Lit.int .i64 a3).wf = true) (w4 : (Lit.int .i64 a4).wf = true) (w5 : (Lit.int .i64 a5).wf = true) :
    DataW.Trod enc Tryz.prog W bs sp hd 53 (.agg #[.int .i64 a0, .int .i64 a1, .int .i64 a2, .int .i64 a3, .int .i64 a4, .int .i64 a5]) (.agg [.agg [.lit (.int .i64 a0), .lit (.int .i64 a1)], .agg [.lit (.int .i64 a2), .lit (.int .i64 a3)], .agg [.lit (.int .i64 a4), .lit (.int .i64 a5)]]) [] := by
  have r3 : List.range 3 = [0, 1, 2] := rfl
  exact ⟨3, by simp [DataW.trod, Tryz.underlying53, Tryz.underlying23, Tryz.underlying2, cells3I, cells3P, cells3PP, Value.cells, r3, w0, w1, w2, w3, w4, w5]⟩
end Go.Proofs.YtcaihoomcdbfnaaGreat
