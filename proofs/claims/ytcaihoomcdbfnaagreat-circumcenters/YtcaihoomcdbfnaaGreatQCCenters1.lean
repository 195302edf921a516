/-
  Joined texts of this law, part 1:
  What zelligeref03's Nat and Same answer.
  What zelligeref03's Same answers of a number and its digits.
  What zelligeref03 answers, with letters for the lengths.
  What zelligeref04's Of, Same, make1, Neg, Add, Sub, Mul and Cmp answer.
  What the calls of an open region may tell: a number of zelligeref04 (its digits lie in memory), or a value that is known.
  What zelligeref07's diff, Area and Dist answer.
  What package circum's narrow, crossed and squares answer.
  What package circum's fraction and halfway answer.
  What zelligeref05's Over, Mul, Div and Cmp answer.
-/
import Derived.Test.YtcaihoomcdbfnaaGreatP14
namespace Go.Proofs.YtcaihoomcdbfnaaGreat
open Go.RowKit
set_option linter.unusedVariables false

theorem wd_half (u : Nat) (k : Nat) : wd.dg (u : Int) k = hf.dg u (2 * k) + 65536 * hf.dg u (2 * k + 1) := by
  have h := halves u k
  omega
/-- How many words digits make. -/
theorem wd_of_hf (u : Nat) : wd.nlen u = (hf.nlen u + 1) / 2 := by
  refine wd.nlen_eq ⟨?_, ?_⟩
  · rw [← pow_halves]
    exact Nat.lt_of_lt_of_le (hf.nlen_lt u) (Nat.pow_le_pow_right (by decide) (by omega))
  · rcases (hf.nlen_is u).2 with h | h
    · exact Or.inl (by rw [h])
    · rcases Nat.eq_zero_or_pos (hf.nlen u) with h0 | h0
      · exact Or.inl (by rw [h0])
      · right
        rw [← pow_halves]
        exact Nat.le_trans (Nat.pow_le_pow_right (by decide) (by omega)) h
/-- What holds at the head of each round. -/
def NatRel (w : World) (u l : Nat) (v i : Value) (wr : World) : Prop := ∃ (k cap : Nat) (a : Option Addr), 2 * k ≤ l + 1 ∧ i = .int .i64 (2 * (k : Int)) ∧ v = .slice a k cap ∧ Own wr w.heap.size 115 a k cap (wd.dcells k (u : Int)) ∧ Below w.heap.size w wr
theorem natRel_next {w wr w2 w4 : World} {u l k cap cap' g' : Nat} {a : Option Addr} {x : Int} (hx : x = wd.dg u k) (hk : 2 * k < l) (hown : Own wr w.heap.size 115 a k cap (wd.dcells k (u : Int))) (hbel : Below w.heap.size w wr)
    (h4 : w4.ownsRow w.heap.size 115 1 (.slice (some ⟨g', 0, none⟩) (k + 1) cap') (k + 1) (wd.dcells k (u : Int) ++ [.int .u32 x]))
    (h2 : Below wr.heap.size wr w2) (hgr : w2.grownBy w4 (Value.slice a k cap).ownBlock) : NatRel w u l (.slice (some ⟨g', 0, none⟩) (k + 1) cap') (.int .i64 (2 * (k : Int) + 2)) w4 := by
  have hs := hbel.size
  refine ⟨k + 1, cap', _, by omega, by simp; omega, rfl, ?_, (hbel.trans (h2.mono hs)).grown hgr (by have := h2.size; omega) (fun k' hk' => (World.ownsRow.lt hown k' hk').1)⟩
  rw [wd.dcells_succ, ← hx]
  exact h4
set_option maxRecDepth 100000 in
set_option maxHeartbeats 1000000 in
theorem rnat_any (a : Option Addr) (ca u : Nat) (w : World) (ha : Sl w a (hf.nlen u) ca (hf.dcells (hf.nlen u) (u : Int))) (hl : hf.nlen u ≤ 1000000000) :
    Calls Tryz.prog 73 #[.slice a (hf.nlen u) ca] w fun e w' => ∃ a' cap', e = .returned (.slice a' (wd.nlen u) cap') ∧ Own w' w.heap.size 115 a' (wd.nlen u) cap' (wd.dcells (wd.nlen u) (u : Int)) ∧ Below w.heap.size w w' := by
  obtain ⟨i0, hi0, hz0, hz1, hz2⟩ := info_parts infoWord
  have hown0 := own_empty w w.heap.size 115 (Nat.le_refl _)
  obtain ⟨l, hl'⟩ : ∃ l, hf.nlen u = l := ⟨_, rfl⟩
  have HW : Hid (wd.nlen u = (l + 1) / 2) := by unfold Hid; rw [wd_of_hf, hl']
  have HT : Hid (u < 65536 ^ l) := by unfold Hid; rw [← hl']; exact hf.nlen_lt u
  rw [hl'] at ha hl ⊢
  clear hl'
  go_enter Tryz.func73, Tryz.ntmps73
  go_wp2
  go_loopw [3, 4] (fun v i wr => NatRel w u l v i wr) (fun _ i _ => l + 1 - (intOf i).toNat)
  case atStart => exact ⟨0, 0, _, by omega, rfl, rfl, hown0, (Below.refl _ _).alloc (Nat.le_refl _) _⟩
  case round =>
    clear hown0
    obtain ⟨k, cap, v, hk, rfl, rfl, hown, hbel⟩ := hrel
    have hsz := hbel.size
    by_cases hlt : 2 * k < l
    · obtain ⟨ba, oa, rfl, hba, hseg⟩ := ha.at (by omega)
      have hroom := ha.room
      have c1 : wr.cell? ⟨ba, oa + 2 * k, none⟩ = some (.int .i64 (hf.dg u (2 * k))) := (hbel.cell (p := ⟨ba, oa + 2 * k, none⟩) hba).trans (hseg.cell (2 * k) _ (hf.dcells_at _ _ _ hlt))
      obtain ⟨d0, d1⟩ := hf.dg_range u (2 * k)
      have hlt' : (2 * (k : Int)) < l := by omega
      by_cases hl2 : 2 * k + 1 < l
      · have hl2' : (2 * (k : Int)) + 1 < l := by omega
        have c2 : wr.cell? ⟨ba, oa + (2 * k + 1), none⟩ = some (.int .i64 (hf.dg u (2 * k + 1))) := (hbel.cell (p := ⟨ba, oa + (2 * k + 1), none⟩) hba).trans (hseg.cell (2 * k + 1) _ (hf.dcells_at _ _ _ hl2))
        obtain ⟨e0, e1⟩ := hf.dg_range u (2 * k + 1)
        have HN : Hid _ := fun w2 w4 g' cap' => natRel_next (x := hf.dg u (2 * k) + 65536 * hf.dg u (2 * k + 1)) (w2 := w2) (w4 := w4) (g' := g') (cap' := cap') (wd_half u k).symm hlt hown hbel
        go_wp2_with (at_builtin; refine wpList_append_lies _ rfl (.tmp 30) (.tmp 33) 25 rfl w.heap.size 115 i0 (.int .u32 0) 1 4 Tryz.underlying25 hi0 hz0 hz1 hz2 rfl (by decide) (.slice v k cap) k (wd.dcells k (u : Int)) rfl (World.ownsRow.alloc hown _) ⟨wr.heap.size, 0, none⟩ 1 1 [.int .u32 (hf.dg u (2 * k) + 65536 * hf.dg u (2 * k + 1))] rfl rfl (cell_one_new _ _ _) (ints_oneCell .u32 [hf.dg u (2 * k) + 65536 * hf.dg u (2 * k + 1)]) (by decide) (by unfold maxLen; omega) (by omega) (by simp; omega) _ rfl ?_; intro g' cap' w4 hown4 hgrow4 hat4 hlt4)
        go_roundw
        case rel => exact HN.out _ w4 g' cap' hown4 ((Below.refl _ _).alloc (Nat.le_refl _) _) hgrow4
        case measure => simp [intOf]; omega
      · have hl2' : ¬ (2 * (k : Int)) + 1 < l := by omega
        have HX : Hid (hf.dg (u : Int) (2 * k) = wd.dg u k) := by
          have : hf.dg (u : Int) (2 * k + 1) = 0 := hf.dg_over (Nat.lt_of_lt_of_le HT.out (Nat.pow_le_pow_right (by decide) (by omega)))
          have h := wd_half u k
          unfold Hid
          omega
        have HN : Hid _ := fun w2 w4 g' cap' => natRel_next (x := hf.dg u (2 * k)) (w2 := w2) (w4 := w4) (g' := g') (cap' := cap') HX.out hlt hown hbel
        go_wp2_with (at_builtin; refine wpList_append_lies _ rfl (.tmp 30) (.tmp 33) 25 rfl w.heap.size 115 i0 (.int .u32 0) 1 4 Tryz.underlying25 hi0 hz0 hz1 hz2 rfl (by decide) (.slice v k cap) k (wd.dcells k (u : Int)) rfl (World.ownsRow.alloc hown _) ⟨wr.heap.size, 0, none⟩ 1 1 [.int .u32 (hf.dg u (2 * k))] rfl rfl (cell_one_new _ _ _) (ints_oneCell .u32 [hf.dg u (2 * k)]) (by decide) (by unfold maxLen; omega) (by omega) (by simp; omega) _ rfl ?_; intro g' cap' w4 hown4 hgrow4 hat4 hlt4)
        go_roundw
        case rel => exact HN.out _ w4 g' cap' hown4 ((Below.refl _ _).alloc (Nat.le_refl _) _) hgrow4
        case measure => simp [intOf]; omega
    · have HE : Hid (wd.nlen u = k) := by unfold Hid; rw [HW.out]; omega
      have hlt' : ¬ (2 * (k : Int)) < l := by omega
      go_wp2
      go_ret
      rw [HE.out]
      exact ⟨v, cap, rfl, hown, hbel⟩
end Go.Proofs.YtcaihoomcdbfnaaGreat

namespace Go.Proofs.YtcaihoomcdbfnaaGreat
open Go.RowKit
set_option linter.unusedVariables false

set_option maxRecDepth 100000 in
set_option maxHeartbeats 1000000 in
theorem same_yes (a b : Option Addr) (ca cb u : Nat) (w : World) (ha : Sl w a (wd.nlen u) ca (wd.dcells (wd.nlen u) (u : Int))) (hb : Sl w b (hf.nlen u) cb (hf.dcells (hf.nlen u) (u : Int))) (hl : hf.nlen u ≤ 1000000000) :
    Calls Tryz.prog 36 #[.slice a (wd.nlen u) ca, .slice b (hf.nlen u) cb] w fun e w' => e = .returned (.bool true) ∧ Below w.heap.size w w' := by
  have hm : wd.nlen u ≤ 1000000000 := by have := wd_of_hf u; omega
  go_enter Tryz.func36, Tryz.ntmps36
  go_wp2_with (go_at_call 73; refine (rnat_any b cb u _ hb hl).mono ?_; rintro e w1 ⟨a1, c1, rfl, hown, hbel⟩)
  go_loopw [6] (fun i wr => ∃ k : Nat, k ≤ wd.nlen u ∧ i = .int .i64 (k : Int) ∧ ∃ n, wr = w1.drewN n) (fun i _ => wd.nlen u - (intOf i).toNat)
  case atStart => exact ⟨0, by omega, rfl, 0, rfl⟩
  case round =>
    obtain ⟨k, hk, rfl, n, rfl⟩ := hrel
    by_cases hlt : k < wd.nlen u
    · obtain ⟨ba, oa, rfl, hba, hseg⟩ := ha.at (by omega)
      have hroom := ha.room
      obtain ⟨g, rfl, hg, hg2, hsg⟩ := Own.at hown (by omega)
      have hroom2 := (Own.sl hown).room
      have q1 : w1.cell? ⟨ba, oa + k, none⟩ = some (.int .u32 (wd.dg u k)) := (hbel.cell (p := ⟨ba, oa + k, none⟩) hba).trans (hseg.cell k _ (wd.dcells_at _ _ _ hlt))
      have q2 : w1.cell? ⟨g, k, none⟩ = some (.int .u32 (wd.dg u k)) := Own.cell hown k _ (wd.dcells_at _ _ _ hlt)
      have hne : (wd.dg (u : Int) k != wd.dg (u : Int) k) = false := by simp
      go_wp2
      go_quiet (fail)
      go_wp2
      go_roundw
      case rel => exact ⟨k + 1, by omega, by simp, _, rfl⟩
      case measure => simp [intOf]; omega
    · go_wp2
      go_ret
      exact ⟨rfl, below_drewN hbel n⟩
end Go.Proofs.YtcaihoomcdbfnaaGreat

namespace Go.Proofs.YtcaihoomcdbfnaaGreat
open Go.RowKit
set_option linter.unusedVariables false

theorem hSame (a b : Option Addr) (la lb ca cb u : Nat) (w : World) (ha : Sl w a la ca (wd.dcells la (u : Int))) (ea : la = wd.nlen u) (hb : HD w b lb cb u) (fu : hf.nlen u ≤ 1000000) : Calls Tryz.prog 36 #[.slice a la ca, .slice b lb cb] w fun e w' => e = .returned (.bool true) ∧ Below w.heap.size w w' := by
  subst ea
  obtain ⟨hb, rfl⟩ := hb
  exact same_yes a b ca cb u w ha hb (by omega)
end Go.Proofs.YtcaihoomcdbfnaaGreat

namespace Go.Proofs.YtcaihoomcdbfnaaGreat
open Go.RowKit
set_option linter.unusedVariables false

set_option maxRecDepth 100000 in
set_option maxHeartbeats 1000000 in
theorem rwSame (n : Bool) (s : Int) (a d : Option Addr) (la ca l c : Nat) (z : Int) (w : World) (ha : WN w n a la ca z) (hd : RN w s d l c z) (fz : hf.nlen z.natAbs ≤ 1000000) :
    Calls Tryz.prog 35 #[.agg #[.bool n, .slice a la ca], .agg #[.int .i64 s, .slice d l c]] w fun e w' => e = .returned (.bool true) ∧ Below w.heap.size w w' := by
  obtain ⟨B0, xa, xd, hs⟩ := box1 w (.bool n) (.slice a la ca) (.int .i64 s) (.slice d l c) 27 39
  have na := ha.nd.below B0
  have nd := hd.hd.below B0
  have hn : n = decide (s < 0) := by
    rw [ha.sg, hd.sg]
    rcases sign_cases z with ⟨h, e⟩ | ⟨h, e⟩ | ⟨h, e⟩ <;> rw [e] <;> simp <;> omega
  by_cases h0 : s < 0
  · obtain rfl : n = true := by rw [hn]; simpa using h0
    clear hn
    go_enter Tryz.func35, Tryz.ntmps35
    go_wp2_with (go_at_call 36; fail)
    refine (hSame a d la l ca c _ _ na.sl na.len nd fz).mono ?_
    rintro e w1 ⟨rfl, b1⟩
    obtain ⟨k0, k1, k2, k3⟩ := xd.on b1
    obtain ⟨j0, j1, j2, j3⟩ := xa.on b1
    go_wp2
    go_ret
    exact ⟨rfl, also B0 b1⟩
  · obtain rfl : n = false := by rw [hn]; simpa using h0
    have h0' : decide (s < 0) = false := by simpa using h0
    clear hn
    go_enter Tryz.func35, Tryz.ntmps35
    go_wp2_with (go_at_call 36; fail)
    refine (hSame a d la l ca c _ _ na.sl na.len nd fz).mono ?_
    rintro e w1 ⟨rfl, b1⟩
    obtain ⟨k0, k1, k2, k3⟩ := xd.on b1
    obtain ⟨j0, j1, j2, j3⟩ := xa.on b1
    go_wp2
    go_ret
    exact ⟨rfl, also B0 b1⟩

end Go.Proofs.YtcaihoomcdbfnaaGreat

namespace Go.Proofs.YtcaihoomcdbfnaaGreat
open Go.RowKit
set_option linter.unusedVariables false

def RNIs (X : Int) (x : Value) (R : World → Prop) (A : Nat → Prop) : Prop := ∃ (s : Int) (d : Option Addr) (l c : Nat), x = .agg #[.int .i64 s, .slice d l c] ∧ R = (fun w => RN w s d l c X) ∧ A = fun k => NA k d l
theorem rnIs_good {X : Int} {x : Value} {R : World → Prop} {A : Nat → Prop} (h : RNIs X x R A) : (∀ w w', R w → Below w.heap.size w w' → R w') ∧ ∀ w k, R w → w.heap.size ≤ k → A k := by
  obtain ⟨s, d, l, c, rfl, rfl, rfl⟩ := h
  exact ⟨fun w w' h hb => h.below hb, fun w k h hk => RN.apart h hk⟩
/-- As RNIs; and it is apart from all blocks below B. -/
def RNOs (B : Nat) (X : Int) (x : Value) (R : World → Prop) (A : Nat → Prop) : Prop := ∃ (s : Int) (d : Option Addr) (l c : Nat), x = .agg #[.int .i64 s, .slice d l c] ∧ R = (fun w => RN w s d l c X ∧ ∀ k, k < B → NA k d l) ∧ A = fun k => NA k d l
theorem rnOs_good {B : Nat} {X : Int} {x : Value} {R : World → Prop} {A : Nat → Prop} (h : RNOs B X x R A) : (∀ w w', R w → Below w.heap.size w w' → R w') ∧ ∀ w k, R w → w.heap.size ≤ k → A k := by
  obtain ⟨s, d, l, c, rfl, rfl, rfl⟩ := h
  exact ⟨fun w w' h hb => ⟨h.1.below hb, h.2⟩, fun w k h hk => RN.apart h.1 hk⟩
end Go.Proofs.YtcaihoomcdbfnaaGreat

namespace Go.Proofs.YtcaihoomcdbfnaaGreat
open Go.RowKit
set_option linter.unusedVariables false

def SpD (x y : Int) : Nat → Value → (World → Prop) → (Nat → Prop) → Prop
  | 0 => RNIs x
  | 1 => RNIs y
  | _ => ValIs undef
theorem SpD_good (x y : Int) : GoodSp (SpD x y) := fun j x R A h => match j with
  | 0 => rnIs_good h
  | 1 => rnIs_good h
  | k + 2 => valIs_good h
def SpDZ : Nat → List Value
  | 0 => [.int .i64 0, .slice none 0 0]
  | 1 => [.int .i64 0, .slice none 0 0]
  | _ => []
theorem fuel_SpD_b0 {bD eD : Nat → Bool} {f : Nat} (hf : f = 2 + (nb (bD 0) + nb (bD 1) + nb (eD 0) + nb (eD 1))) (h : bD 0 = false) : f - 1 = 2 + (nb (upd bD 0 true 0) + nb (upd bD 0 true 1) + nb (eD 0) + nb (eD 1)) := by
  have h1 : nb (bD 0) = 1 := by rw [h]; rfl
  have h2 : nb (upd bD 0 true 0) = 0 := rfl
  have q1 : nb (upd bD 0 true 1) = nb (bD 1) := rfl
  omega
theorem fuel_SpD_b1 {bD eD : Nat → Bool} {f : Nat} (hf : f = 2 + (nb (bD 0) + nb (bD 1) + nb (eD 0) + nb (eD 1))) (h : bD 1 = false) : f - 1 = 2 + (nb (upd bD 1 true 0) + nb (upd bD 1 true 1) + nb (eD 0) + nb (eD 1)) := by
  have h1 : nb (bD 1) = 1 := by rw [h]; rfl
  have h2 : nb (upd bD 1 true 1) = 0 := rfl
  have q0 : nb (upd bD 1 true 0) = nb (bD 0) := rfl
  omega
theorem fuel_SpD_e0 {bD eD : Nat → Bool} {f : Nat} (hf : f = 2 + (nb (bD 0) + nb (bD 1) + nb (eD 0) + nb (eD 1))) (h : eD 0 = false) : f - 1 = 2 + (nb (bD 0) + nb (bD 1) + nb (upd eD 0 true 0) + nb (upd eD 0 true 1)) := by
  have h1 : nb (eD 0) = 1 := by rw [h]; rfl
  have h2 : nb (upd eD 0 true 0) = 0 := rfl
  have q1 : nb (upd eD 0 true 1) = nb (eD 1) := rfl
  omega
theorem fuel_SpD_e1 {bD eD : Nat → Bool} {f : Nat} (hf : f = 2 + (nb (bD 0) + nb (bD 1) + nb (eD 0) + nb (eD 1))) (h : eD 1 = false) : f - 1 = 2 + (nb (bD 0) + nb (bD 1) + nb (upd eD 1 true 0) + nb (upd eD 1 true 1)) := by
  have h1 : nb (eD 1) = 1 := by rw [h]; rfl
  have h2 : nb (upd eD 1 true 1) = 0 := rfl
  have q0 : nb (upd eD 1 true 0) = nb (eD 0) := rfl
  omega
set_option maxRecDepth 100000 in
set_option maxHeartbeats 4000000 in
theorem rpDist (a1 a2 b1 b2 : Int) (w : World) (ha : canC a1 a2 = true) (hb : canC b1 b2 = true) {z : Int} (hz : z = distP a1 a2 b1 b2) : Calls Tryz.prog 28 #[.agg #[.int .i64 a1, .int .i64 a2], .agg #[.int .i64 b1, .int .i64 b2]] w (GotR w (fun _ => True) z) := by
  have Ra1 : Hid _ := in_64 (canC_true.1 ha).1
  have Ra2 : Hid _ := in_64 (canC_true.1 ha).2
  have Rb1 : Hid _ := in_64 (canC_true.1 hb).1
  have Rb2 : Hid _ := in_64 (canC_true.1 hb).2
  have qx := can_diff (canC_true.1 hb).1 (canC_true.1 ha).1
  have qy := can_diff (canC_true.1 hb).2 (canC_true.1 ha).2
  obtain ⟨x, hx⟩ : ∃ z : Int, z = b1 - a1 := ⟨_, rfl⟩
  have Ex : Hid _ := hx
  obtain ⟨y, hy⟩ : ∃ z : Int, z = b2 - a2 := ⟨_, rfl⟩
  have Ey : Hid _ := hy
  obtain ⟨p, hp⟩ : ∃ z : Int, z = x * x := ⟨_, rfl⟩
  have Ep : Hid _ := hp
  obtain ⟨q, hq⟩ : ∃ z : Int, z = y * y := ⟨_, rfl⟩
  have Eq : Hid _ := hq
  have HZ : Hid (z = p + q) := by unfold Hid; rw [hz, hp, hq, hx, hy]; rfl
  rw [← hx] at qx
  have Fx : Hid _ := few_num (z := x) (by omega)
  rw [← hy] at qy
  have Fy : Hid _ := few_num (z := y) (by omega)
  have qp := prod_abs qx qx
  have qq := prod_abs qy qy
  rw [← hp] at qp
  rw [← hq] at qq
  have Fp : Hid _ := few_num (z := p) (by omega)
  have Fq : Hid _ := few_num (z := q) (by omega)
  clear hz hx hy hp hq qx qy qp qq ha hb
  obtain ⟨W, hW, bW, x_a, x_b, x_r, sW⟩ := bs_222 w (.int .i64 a1) (.int .i64 a2) (.int .i64 b1) (.int .i64 b2) (.int .i64 0) (.slice none 0 0) 23 23 39
  have zbW := bW.size
  have BB := bW
  go_enter Tryz.func28, Tryz.ntmps28
  go_wp2
  rw [← hW]
  clear hW
  obtain ⟨QQ, hQQ⟩ : ∃ QQ : Exit → Act → World → Prop, QQ = fun e act wr => e = .normal ∧ ∃ (pma0 : Nat) (pma1 : Nat) (s11 : Int) (d11 : Option Addr) (l11 c11 : Nat) (s12 : Int) (d12 : Option Addr) (l12 c12 : Nat), act = ⟨#[.agg #[.int .i64 a1, .int .i64 a2], .agg #[.int .i64 b1, .int .i64 b2], .pointer (some ⟨w.heap.size, 0, none⟩), .pointer (some ⟨w.heap.size + 1, 0, none⟩), .pointer (some ⟨w.heap.size + 1 + 1, 0, none⟩), .pointer (some ⟨pma0, 0, none⟩), .pointer (some ⟨pma1, 0, none⟩), .pointer (some ⟨w.heap.size, 0, none⟩), .int .i64 a1, .pointer (some ⟨w.heap.size + 1, 0, none⟩), .int .i64 b1, .agg #[.int .i64 s11, .slice d11 l11 c11], .pointer (some ⟨w.heap.size, 1, none⟩), .int .i64 a2, .pointer (some ⟨w.heap.size + 1, 1, none⟩), .int .i64 b2, .agg #[.int .i64 s12, .slice d12 l12 c12], undef, undef, undef, undef, undef, undef, undef], []⟩ ∧ RN wr s11 d11 l11 c11 x ∧ RN wr s12 d12 l12 c12 y ∧ Bx wr (w.heap.size) (.int .i64 a1) (.int .i64 a2) ∧ Bx wr (w.heap.size + 1) (.int .i64 b1) (.int .i64 b2) ∧ Bx wr (w.heap.size + 1 + 1) (.int .i64 0) (.slice none 0 0) ∧ Bx wr pma0 (.int .i64 s11) (.slice d11 l11 c11) ∧ Bx wr pma1 (.int .i64 s12) (.slice d12 l12 c12) ∧ Below w.heap.size w wr ∧ W.heap.size ≤ wr.heap.size ∧ (W.heap.size ≤ pma0 ∧ pma0 < wr.heap.size) ∧ (W.heap.size ≤ pma1 ∧ pma1 < wr.heap.size) := ⟨_, rfl⟩
  have HQQ : Hid _ := hQQ
  clear hQQ
  refine wp_mono (Q := QQ) ?_ ?_
  · refine wp_region_held_drew (S := (fun w' => w'.cell? ⟨w.heap.size, 0, none⟩ = some (.int .i64 a1) ∧ w'.cell? ⟨w.heap.size, 1, none⟩ = some (.int .i64 a2) ∧ w'.cell? ⟨w.heap.size + 1, 0, none⟩ = some (.int .i64 b1) ∧ w'.cell? ⟨w.heap.size + 1, 1, none⟩ = some (.int .i64 b2) ∧ Below w.heap.size w w')) (by kernel_rfl) ?_ (fun hHeld => ?_)
    · exact ⟨x_a.c0, x_a.c1, x_b.c0, x_b.c1, BB.drew⟩
    refine take_yes (i := 0) (v := ?vma0x1) rfl (by kernel_rfl) (by kernel_rfl) (by kernel_rfl) (fun _ _ _ h => by rw [HQQ.out] at h; exact Exit.noConfusion h.1) (by rfl) (by assumption) ?hyma0x1 ?restma0x1
    case hyma0x1 => (intro w hSw; (try dsimp only at hSw); first | (go_simp; done) | (go_simp; with_reducible rfl))
    simp only [Act.put, List.setIfInBounds_toArray, List.set_cons_zero, List.set_cons_succ]
    refine take_yes (i := 1) (v := ?vma1x2) rfl (by kernel_rfl) (by kernel_rfl) (by kernel_rfl) (fun _ _ _ h => by rw [HQQ.out] at h; exact Exit.noConfusion h.1) (by rfl) (by assumption) ?hyma1x2 ?restma1x2
    case hyma1x2 => (intro w hSw; (try dsimp only at hSw); first | (go_simp; done) | (go_simp; with_reducible rfl))
    simp only [Act.put, List.setIfInBounds_toArray, List.set_cons_zero, List.set_cons_succ]
    refine take_yes (i := 2) (v := ?vma2x3) rfl (by kernel_rfl) (by kernel_rfl) (by kernel_rfl) (fun _ _ _ h => by rw [HQQ.out] at h; exact Exit.noConfusion h.1) (by rfl) (by assumption) ?hyma2x3 ?restma2x3
    case hyma2x3 => (intro w hSw; (try dsimp only at hSw); first | (go_simp; done) | (go_simp; with_reducible rfl))
    simp only [Act.put, List.setIfInBounds_toArray, List.set_cons_zero, List.set_cons_succ]
    refine take_yes (i := 3) (v := ?vma3x4) rfl (by kernel_rfl) (by kernel_rfl) (by kernel_rfl) (fun _ _ _ h => by rw [HQQ.out] at h; exact Exit.noConfusion h.1) (by rfl) (by assumption) ?hyma3x4 ?restma3x4
    case hyma3x4 => (intro w hSw; (try dsimp only at hSw); first | (go_simp; done) | (go_simp; with_reducible rfl))
    simp only [Act.put, List.setIfInBounds_toArray, List.set_cons_zero, List.set_cons_succ]
    refine take_yes (i := 5) (v := ?vma5x5) rfl (by kernel_rfl) (by kernel_rfl) (by kernel_rfl) (fun _ _ _ h => by rw [HQQ.out] at h; exact Exit.noConfusion h.1) (by rfl) (by assumption) ?hyma5x5 ?restma5x5
    case hyma5x5 => (intro w hSw; (try dsimp only at hSw); first | (go_simp; done) | (go_simp; with_reducible rfl))
    simp only [Act.put, List.setIfInBounds_toArray, List.set_cons_zero, List.set_cons_succ]
    refine take_yes (i := 6) (v := ?vma6x6) rfl (by kernel_rfl) (by kernel_rfl) (by kernel_rfl) (fun _ _ _ h => by rw [HQQ.out] at h; exact Exit.noConfusion h.1) (by rfl) (by assumption) ?hyma6x6 ?restma6x6
    case hyma6x6 => (intro w hSw; (try dsimp only at hSw); first | (go_simp; done) | (go_simp; with_reducible rfl))
    simp only [Act.put, List.setIfInBounds_toArray, List.set_cons_zero, List.set_cons_succ]
    refine take_yes (i := 7) (v := ?vma7x7) rfl (by kernel_rfl) (by kernel_rfl) (by kernel_rfl) (fun _ _ _ h => by rw [HQQ.out] at h; exact Exit.noConfusion h.1) (by rfl) (by assumption) ?hyma7x7 ?restma7x7
    case hyma7x7 => (intro w hSw; (try dsimp only at hSw); first | (go_simp; done) | (go_simp; with_reducible rfl))
    simp only [Act.put, List.setIfInBounds_toArray, List.set_cons_zero, List.set_cons_succ]
    refine take_yes (i := 8) (v := ?vma8x8) rfl (by kernel_rfl) (by kernel_rfl) (by kernel_rfl) (fun _ _ _ h => by rw [HQQ.out] at h; exact Exit.noConfusion h.1) (by rfl) (by assumption) ?hyma8x8 ?restma8x8
    case hyma8x8 => (intro w hSw; (try dsimp only at hSw); first | (go_simp; done) | (go_simp; with_reducible rfl))
    simp only [Act.put, List.setIfInBounds_toArray, List.set_cons_zero, List.set_cons_succ]
    clear hHeld
    obtain ⟨INV, hINV⟩ : ∃ INV : Nat → Array Bool → Act → World → Prop, INV = fun f L act wr => ∃ (bD eD : Nat → Bool) (pD : Nat → Nat) (RD : Nat → World → Prop) (AD : Nat → Nat → Prop) (uD vD : Nat → Value), f = 2 + (nb (bD 0) + nb (bD 1) + nb (eD 0) + nb (eD 1)) ∧ L = #[true, true, true, true, bD 0, true, true, true, true, bD 1, eD 0, eD 1, false, false] ∧ act = ⟨#[.agg #[.int .i64 a1, .int .i64 a2], .agg #[.int .i64 b1, .int .i64 b2], .pointer (some ⟨w.heap.size, 0, none⟩), .pointer (some ⟨w.heap.size + 1, 0, none⟩), .pointer (some ⟨w.heap.size + 1 + 1, 0, none⟩), vD 0, vD 1, .pointer (some ⟨w.heap.size, 0, none⟩), .int .i64 a1, .pointer (some ⟨w.heap.size + 1, 0, none⟩), .int .i64 b1, uD 0, .pointer (some ⟨w.heap.size, 1, none⟩), .int .i64 a2, .pointer (some ⟨w.heap.size + 1, 1, none⟩), .int .i64 b2, uD 1, undef, undef, undef, undef, undef, undef, undef], []⟩ ∧ (bD 1 = true → bD 0 = true) ∧ Mk W SpDZ (SpD x y) bD eD pD RD AD uD vD wr := ⟨_, rfl⟩
    have HINV : Hid _ := hINV
    clear hINV
    refine phase INV ?stepma _ _ _ _ ?initma
    case initma => rw [HINV.out]; exact ⟨fun _ => false, fun _ => false, fun _ => 0, fun _ _ => True, fun _ _ => True, fun _ => undef, fun _ => undef, rfl, rfl, rfl, fun h => Bool.noConfusion h, Mk.start _ _ _ (Below.refl _ _).drew⟩
    intro f L act wr hinv
    rw [HINV.out] at hinv
    obtain ⟨bD, eD, pD, RD, AD, uD, vD, hf, rfl, rfl, ch0, hm⟩ := hinv
    by_cases hall : bD 1 = true ∧ eD 0 = true ∧ eD 1 = true
    · refine Or.inl ?_
      obtain ⟨hb1, he0, he1⟩ := hall
      have hb0 := ch0 hb1
      simp only [hb0, hb1, he0, he1, nb] at hf
      subst hf
      rw [hb0, hb1, he0, he1, hm.ptr 0 he0, hm.ptr 1 he1]
      obtain ⟨s11, d11, l11, c11, hu0, hR0, hA0⟩ : RNIs _ _ _ _ := hm.spec 0 hb0
      rw [hu0]
      have r11 : RN wr s11 d11 l11 c11 x := by have := hm.res 0 hb0; rw [hR0] at this; exact this
      have n_r11_0_pma0 : NA (pD 0) d11 l11 := by have := hm.ap 0 0 he0 hb0; rw [hA0] at this; exact this
      have n_r11_0_pma1 : NA (pD 1) d11 l11 := by have := hm.ap 1 0 he1 hb0; rw [hA0] at this; exact this
      obtain ⟨s12, d12, l12, c12, hu1, hR1, hA1⟩ : RNIs _ _ _ _ := hm.spec 1 hb1
      rw [hu1]
      have r12 : RN wr s12 d12 l12 c12 y := by have := hm.res 1 hb1; rw [hR1] at this; exact this
      have n_r12_0_pma0 : NA (pD 0) d12 l12 := by have := hm.ap 0 1 he0 hb1; rw [hA1] at this; exact this
      have n_r12_0_pma1 : NA (pD 1) d12 l12 := by have := hm.ap 1 1 he1 hb1; rw [hA1] at this; exact this
      have y_pma0 : Bx wr (pD 0) (.int .i64 0) (.slice none 0 0) := bx_row (hm.blk 0 he0)
      have gpma0 := hm.old 0 he0
      have ltpma0 := hm.lt 0 he0
      have y_pma1 : Bx wr (pD 1) (.int .i64 0) (.slice none 0 0) := bx_row (hm.blk 1 he1)
      have gpma1 := hm.old 1 he1
      have ltpma1 := hm.lt 1 he1
      have ne_0_1 : pD 0 ≠ pD 1 := hm.ne 0 1 he0 he1 (by decide)
      have BU := hm.bel
      replace x_a := x_a.on BU
      replace x_b := x_b.on BU
      replace x_r := x_r.on BU
      replace BB := also BB BU
      have hHeld : ((fun w' => w'.cell? ⟨w.heap.size, 0, none⟩ = some (.int .i64 a1) ∧ w'.cell? ⟨w.heap.size, 1, none⟩ = some (.int .i64 a2) ∧ w'.cell? ⟨w.heap.size + 1, 0, none⟩ = some (.int .i64 b1) ∧ w'.cell? ⟨w.heap.size + 1, 1, none⟩ = some (.int .i64 b2) ∧ Below w.heap.size w w')) wr := ⟨x_a.c0, x_a.c1, x_b.c0, x_b.c1, BB⟩
      clear hm HINV INV ch0
      generalize pD 0 = pma0 at *
      generalize pD 1 = pma1 at *
      dsimp only at hHeld
      have ⟨c_pma0_0, c_pma0_1, c_pma0_2, c_pma0_3⟩ : Bx wr pma0 (.int .i64 0) (.slice none 0 0) := y_pma0
      refine take_call (i := 12) rfl (by kernel_rfl) (fun Kc hK => ?_)
      go_simp
      refine hK.out _ _ ⟨cell_put2 hHeld.1 (by omega) _ _, cell_put2 hHeld.2.1 (by omega) _ _, cell_put2 hHeld.2.2.1 (by omega) _ _, cell_put2 hHeld.2.2.2.1 (by omega) _ _, below_put2 hHeld.2.2.2.2 (by omega) _ _⟩ (fun hHeld => ?_)
      clear hK Kc
      have ⟨c_pma1_0, c_pma1_1, c_pma1_2, c_pma1_3⟩ : Bx ((wr.setCell ⟨pma0, 0, none⟩ (.int .i64 s11)).setCell ⟨pma0, 1, none⟩ (.slice d11 l11 c11)) pma1 (.int .i64 0) (.slice none 0 0) := ((y_pma1.put ne_0_1).put ne_0_1)
      refine take_call (i := 13) rfl (by kernel_rfl) (fun Kc hK => ?_)
      go_simp
      refine hK.out _ _ ⟨cell_put2 hHeld.1 (by omega) _ _, cell_put2 hHeld.2.1 (by omega) _ _, cell_put2 hHeld.2.2.1 (by omega) _ _, cell_put2 hHeld.2.2.2.1 (by omega) _ _, below_put2 hHeld.2.2.2.2 (by omega) _ _⟩ (fun hHeld => ?_)
      clear hK Kc
      refine wpAnyH_done (by kernel_rfl) ?_ _
      rw [HQQ.out]
      exact ⟨rfl, pma0, pma1, s11, d11, l11, c11, s12, d12, l12, c12, rfl, ((((r11.put n_r11_0_pma0 0 _).put n_r11_0_pma0 1 _).put n_r11_0_pma1 0 _).put n_r11_0_pma1 1 _), ((((r12.put n_r12_0_pma0 0 _).put n_r12_0_pma0 1 _).put n_r12_0_pma1 0 _).put n_r12_0_pma1 1 _), ((((x_a.put (by omega)).put (by omega)).put (by omega)).put (by omega)), ((((x_b.put (by omega)).put (by omega)).put (by omega)).put (by omega)), ((((x_r.put (by omega)).put (by omega)).put (by omega)).put (by omega)), ((y_pma0.set.put (fun e => ne_0_1 e.symm)).put (fun e => ne_0_1 e.symm)), ((y_pma1.put ne_0_1).put ne_0_1).set, (below_put2 (below_put2 BB (by omega) _ _) (by omega) _ _), by have := BU.size; simp only [World.size_setCell]; omega, ⟨gpma0, by simp only [World.size_setCell]; omega⟩, ⟨gpma1, by simp only [World.size_setCell]; omega⟩⟩
    · refine Or.inr ⟨f - 1, by omega, ?nema, ?opsma⟩
      case nema =>
        cases he0 : eD 0
        · exact ready_ne (i := 10) (by decide) (by kernel_rfl)
        cases he1 : eD 1
        · exact ready_ne (i := 11) (by decide) (by kernel_rfl)
        cases hb0 : bD 0
        · exact ready_ne (i := 4) (by decide) (by kernel_rfl)
        cases hb1 : bD 1
        · exact ready_ne (i := 9) (by decide) (by kernel_rfl)
        exact absurd ⟨hb1, he0, he1⟩ hall
      case opsma =>
        intro i hi
        obtain ⟨hlt, hnot, hdep⟩ := ready_at hi
        replace hlt : i < 14 := hlt
        obtain rfl | rfl | rfl | rfl | rfl | rfl | rfl | rfl | rfl | rfl | rfl | rfl | rfl | rfl : i = 0 ∨ i = 1 ∨ i = 2 ∨ i = 3 ∨ i = 4 ∨ i = 5 ∨ i = 6 ∨ i = 7 ∨ i = 8 ∨ i = 9 ∨ i = 10 ∨ i = 11 ∨ i = 12 ∨ i = 13 := by omega
        · skip
          exact Bool.noConfusion (show true = false from hnot)
        · skip
          exact Bool.noConfusion (show true = false from hnot)
        · skip
          exact Bool.noConfusion (show true = false from hnot)
        · skip
          exact Bool.noConfusion (show true = false from hnot)
        · skip
          have hbj : bD 0 = false := hnot
          refine ⟨_, rfl, fun K' hK => ?_⟩
          go_simp
          (go_at_call 63; refine (rpDiff a1 b1 _ Ra1.out Rb1.out Ex.out).mono ?_; rintro e' X ⟨s11, d11, l11, c11, rfl, r11, f11, bX⟩)
          have hm' := hm.call (SpD_good x y) 0 bX (.agg #[.int .i64 s11, .slice d11 l11 c11]) (fun w => RN w s11 d11 l11 c11 x) (fun k => NA k d11 l11) ⟨_, _, _, _, rfl, rfl, rfl⟩ r11 (fun i hi => f11 (pD i) (hm.lt i hi) trivial)
          refine hK.out _ _ ⟨cell_on hm'.bel x_a.c0, cell_on hm'.bel x_a.c1, cell_on hm'.bel x_b.c0, cell_on hm'.bel x_b.c1, also BB hm'.bel⟩ ?_
          rw [HINV.out]
          exact ⟨upd bD 0 true, eD, pD, upd RD 0 (fun w => RN w s11 d11 l11 c11 x), upd AD 0 (fun k => NA k d11 l11), upd uD 0 (.agg #[.int .i64 s11, .slice d11 l11 c11]), vD, fuel_SpD_b0 hf hbj, rfl, rfl, fun _ => rfl, hm'⟩
        · skip
          exact Bool.noConfusion (show true = false from hnot)
        · skip
          exact Bool.noConfusion (show true = false from hnot)
        · skip
          exact Bool.noConfusion (show true = false from hnot)
        · skip
          exact Bool.noConfusion (show true = false from hnot)
        · skip
          have hbj : bD 1 = false := hnot
          have hprev : bD 0 = true := hdep _ rfl 2 _ rfl rfl
          refine ⟨_, rfl, fun K' hK => ?_⟩
          go_simp
          (go_at_call 63; refine (rpDiff a2 b2 _ Ra2.out Rb2.out Ey.out).mono ?_; rintro e' X ⟨s12, d12, l12, c12, rfl, r12, f12, bX⟩)
          have hm' := hm.call (SpD_good x y) 1 bX (.agg #[.int .i64 s12, .slice d12 l12 c12]) (fun w => RN w s12 d12 l12 c12 y) (fun k => NA k d12 l12) ⟨_, _, _, _, rfl, rfl, rfl⟩ r12 (fun i hi => f12 (pD i) (hm.lt i hi) trivial)
          refine hK.out _ _ ⟨cell_on hm'.bel x_a.c0, cell_on hm'.bel x_a.c1, cell_on hm'.bel x_b.c0, cell_on hm'.bel x_b.c1, also BB hm'.bel⟩ ?_
          rw [HINV.out]
          exact ⟨upd bD 1 true, eD, pD, upd RD 1 (fun w => RN w s12 d12 l12 c12 y), upd AD 1 (fun k => NA k d12 l12), upd uD 1 (.agg #[.int .i64 s12, .slice d12 l12 c12]), vD, fuel_SpD_b1 hf hbj, rfl, rfl, fun _ => hprev, hm'⟩
        · skip
          have hei : eD 0 = false := hnot
          refine ⟨_, rfl, fun K' hK => ?_⟩
          go_simp
          have hm' := hm.alloc (SpD_good x y) 0 39 hei
          refine hK.out _ _ ⟨cell_on hm'.bel x_a.c0, cell_on hm'.bel x_a.c1, cell_on hm'.bel x_b.c0, cell_on hm'.bel x_b.c1, also BB hm'.bel⟩ ?_
          rw [HINV.out]
          exact ⟨bD, upd eD 0 true, upd pD 0 wr.heap.size, RD, AD, uD, upd vD 0 (.pointer (some ⟨wr.heap.size, 0, none⟩)), fuel_SpD_e0 hf hei, rfl, rfl, ch0, hm'⟩
        · skip
          have hei : eD 1 = false := hnot
          refine ⟨_, rfl, fun K' hK => ?_⟩
          go_simp
          have hm' := hm.alloc (SpD_good x y) 1 39 hei
          refine hK.out _ _ ⟨cell_on hm'.bel x_a.c0, cell_on hm'.bel x_a.c1, cell_on hm'.bel x_b.c0, cell_on hm'.bel x_b.c1, also BB hm'.bel⟩ ?_
          rw [HINV.out]
          exact ⟨bD, upd eD 1 true, upd pD 1 wr.heap.size, RD, AD, uD, upd vD 1 (.pointer (some ⟨wr.heap.size, 0, none⟩)), fuel_SpD_e1 hf hei, rfl, rfl, ch0, hm'⟩
        · skip
          exact absurd ⟨hdep _ rfl 2 _ rfl rfl, hdep _ rfl 0 _ rfl rfl, hdep _ rfl 14 _ rfl rfl⟩ hall
        · skip
          exact Bool.noConfusion (show false = true from hdep _ rfl 2 _ rfl rfl)
  rw [HQQ.out]
  rintro e act Y1 ⟨rfl, pma0, pma1, s11, d11, l11, c11, s12, d12, l12, c12, rfl, r11, r12, x_a, x_b, x_r, x_X, x_Y, BB, z_Y1, z_Y1_pma0, z_Y1_pma1⟩
  clear HQQ QQ
  try dsimp only
  go_wp2
  have dd1 : Below Y1.heap.size Y1 Y1.drew := (Below.refl _ _).drew
  have zdd1 := dd1.size
  replace BB := also BB dd1
  replace x_a := x_a.on dd1
  replace x_b := x_b.on dd1
  replace x_r := x_r.on dd1
  replace r11 := r11.below dd1
  replace r12 := r12.below dd1
  replace x_X := x_X.on dd1
  replace x_Y := x_Y.on dd1
  refine wp_region_held_drew (S := (fun w' => w'.cell? ⟨pma0, 0, none⟩ = some (.int .i64 s11) ∧ w'.cell? ⟨pma0, 1, none⟩ = some (.slice d11 l11 c11) ∧ w'.cell? ⟨pma1, 0, none⟩ = some (.int .i64 s12) ∧ w'.cell? ⟨pma1, 1, none⟩ = some (.slice d12 l12 c12) ∧ Below w.heap.size w w')) (by kernel_rfl) ?_ (fun hHeld => ?_)
  · exact ⟨x_X.c0, x_X.c1, x_Y.c0, x_Y.c1, BB⟩
  refine take_yes (i := 0) (v := ?vs0) rfl (by kernel_rfl) (by kernel_rfl) (by kernel_rfl) (fun _ _ _ h => h) (by rfl) (by assumption) ?hys0 ?rests0
  case hys0 => (intro w hSw; (try dsimp only at hSw); first | (go_simp; done) | (go_simp; with_reducible rfl))
  simp only [Act.put, List.setIfInBounds_toArray, List.set_cons_zero, List.set_cons_succ]
  refine take_yes (i := 1) (v := ?vs1) rfl (by kernel_rfl) (by kernel_rfl) (by kernel_rfl) (fun _ _ _ h => h) (by rfl) (by assumption) ?hys1 ?rests1
  case hys1 => (intro w hSw; (try dsimp only at hSw); first | (go_simp; done) | (go_simp; with_reducible rfl))
  simp only [Act.put, List.setIfInBounds_toArray, List.set_cons_zero, List.set_cons_succ]
  refine take_yes (i := 3) (v := ?vs3) rfl (by kernel_rfl) (by kernel_rfl) (by kernel_rfl) (fun _ _ _ h => h) (by rfl) (by assumption) ?hys3 ?rests3
  case hys3 => (intro w hSw; (try dsimp only at hSw); first | (go_simp; done) | (go_simp; with_reducible rfl))
  simp only [Act.put, List.setIfInBounds_toArray, List.set_cons_zero, List.set_cons_succ]
  refine take_yes (i := 4) (v := ?vs4) rfl (by kernel_rfl) (by kernel_rfl) (by kernel_rfl) (fun _ _ _ h => h) (by rfl) (by assumption) ?hys4 ?rests4
  case hys4 => (intro w hSw; (try dsimp only at hSw); first | (go_simp; done) | (go_simp; with_reducible rfl))
  simp only [Act.put, List.setIfInBounds_toArray, List.set_cons_zero, List.set_cons_succ]
  refine take_call (i := 2) rfl (by kernel_rfl) (fun Kc hK => ?_)
  go_simp
  (go_at_call 48; refine (rwMul s11 s11 d11 d11 l11 c11 l11 c11 x x p _ r11 r11 Fx.out Fx.out Ep.out).mono ?_; rintro e w3 ⟨s13, d13, l13, c13, rfl, r13, f13, bw3⟩)
  refine hK.out _ _ ?_ (fun hHeld => ?_)
  · exact ⟨cell_on bw3 hHeld.1, cell_on bw3 hHeld.2.1, cell_on bw3 hHeld.2.2.1, cell_on bw3 hHeld.2.2.2.1, also hHeld.2.2.2.2 bw3⟩
  clear hK Kc
  have zbw3 := bw3.size
  replace BB := also BB bw3
  replace x_a := x_a.on bw3
  replace x_b := x_b.on bw3
  replace x_r := x_r.on bw3
  replace r11 := r11.below bw3
  replace r12 := r12.below bw3
  replace x_X := x_X.on bw3
  replace x_Y := x_Y.on bw3
  refine take_call (i := 5) rfl (by kernel_rfl) (fun Kc hK => ?_)
  go_simp
  (go_at_call 48; refine (rwMul s12 s12 d12 d12 l12 c12 l12 c12 y y q _ r12 r12 Fy.out Fy.out Eq.out).mono ?_; rintro e w4 ⟨s14, d14, l14, c14, rfl, r14, f14, bw4⟩)
  refine hK.out _ _ ?_ (fun hHeld => ?_)
  · exact ⟨cell_on bw4 hHeld.1, cell_on bw4 hHeld.2.1, cell_on bw4 hHeld.2.2.1, cell_on bw4 hHeld.2.2.2.1, also hHeld.2.2.2.2 bw4⟩
  clear hK Kc
  have zbw4 := bw4.size
  replace BB := also BB bw4
  replace x_a := x_a.on bw4
  replace x_b := x_b.on bw4
  replace x_r := x_r.on bw4
  replace r11 := r11.below bw4
  replace r12 := r12.below bw4
  replace x_X := x_X.on bw4
  replace x_Y := x_Y.on bw4
  replace r13 := r13.below bw4
  refine take_call (i := 6) rfl (by kernel_rfl) (fun Kc hK => ?_)
  go_simp
  (go_at_call 47; refine (rwAdd s13 s14 d13 d14 l13 c13 l14 c14 p q z _ r13 r14 Fp.out Fq.out HZ.out).mono ?_; rintro e w5 ⟨s15, d15, l15, c15, rfl, r15, f15, bw5⟩)
  refine hK.out _ _ ?_ (fun hHeld => ?_)
  · exact ⟨cell_on bw5 hHeld.1, cell_on bw5 hHeld.2.1, cell_on bw5 hHeld.2.2.1, cell_on bw5 hHeld.2.2.2.1, also hHeld.2.2.2.2 bw5⟩
  clear hK Kc
  have zbw5 := bw5.size
  replace BB := also BB bw5
  replace x_a := x_a.on bw5
  replace x_b := x_b.on bw5
  replace x_r := x_r.on bw5
  replace r11 := r11.below bw5
  replace r12 := r12.below bw5
  replace x_X := x_X.on bw5
  replace x_Y := x_Y.on bw5
  replace r13 := r13.below bw5
  replace r14 := r14.below bw5
  have ⟨x_r_0, x_r_1, x_r_2, x_r_3⟩ := x_r
  refine take_call (i := 7) rfl (by kernel_rfl) (fun Kc hK => ?_)
  go_simp
  refine hK.out _ _ ?_ (fun hHeld => ?_)
  · first | exact ⟨cell_put2 hHeld.1 (by omega) _ _, cell_put2 hHeld.2.1 (by omega) _ _, cell_put2 hHeld.2.2.1 (by omega) _ _, cell_put2 hHeld.2.2.2.1 (by omega) _ _, below_put2 hHeld.2.2.2.2 (by omega) _ _⟩ | exact ⟨x_X.c0, x_X.c1, x_Y.c0, x_Y.c1, BB⟩
  clear hK Kc
  refine wpAnyH_done (by kernel_rfl) ?_ _
  go_wp2
  exact bodyPost_ret (v := .agg #[.int .i64 s15, .slice d15 l15 c15]) (by simp [results, Tryz.results28, go_sem, *]) rfl (endR _ (by omega) BB r15 (f15 _ (by omega) ⟨f13 _ (by omega) trivial, f14 _ (by omega) trivial⟩) (fun j hj _ => f15 j (by omega) ⟨f13 j (by omega) trivial, f14 j (by omega) trivial⟩) _ _)
end Go.Proofs.YtcaihoomcdbfnaaGreat

namespace Go.Proofs.YtcaihoomcdbfnaaGreat
open Go.RowKit
set_option linter.unusedVariables false

theorem w256_128 {x : Int} (h : W128 x) : W256 x := by unfold W128 at h; unfold W256; omega
theorem xQof (a : Int) {ah al : Int} (hah : ah = lw.hi a) (hal : al = lw.lo a) (R : Hid (W128 a)) {q0 q1 q2 q3 : Int} (hq : lq.Wd a q0 q1 q2 q3) (w : World) :
    Calls Tryz.prog 57 #[.agg #[.int .i64 ah, .int .u64 al]] w fun e w' => e = .returned (.agg #[.int .u64 q0, .int .u64 q1, .int .u64 q2, .int .u64 q3]) ∧ Below w.heap.size w w' := by
  obtain ⟨rfl, rfl, rfl, rfl⟩ := hq
  exact lq.qof_any a hah hal R.out.1 R.out.2 w
end Go.Proofs.YtcaihoomcdbfnaaGreat

namespace Go.Proofs.YtcaihoomcdbfnaaGreat
open Go.RowKit
set_option linter.unusedVariables false

set_option maxRecDepth 100000 in
set_option maxHeartbeats 8000000 in
theorem cHalf (f p t : Int) {ph pl : Int} (hph : ph = lw.hi p) (hpl : pl = lw.lo p) {th tl : Int} (hth : th = lw.hi t) (htl : tl = lw.lo t) (Rf : Hid (R64 f)) (Rp : Hid (W128 p)) (Rt : Hid (W128 t)) (h0 : Hid (t ≠ 0)) (Rz : Hid (W256 (f * t + p))) {N : Int} {D : Nat} (hN : N = lowN ((f * t + p) * t.sign) t.natAbs) (hD : D = lowD ((f * t + p) * t.sign) t.natAbs) (w : World) :
    Calls Tryz.prog 25 #[.int .i64 f, .agg #[.int .i64 ph, .int .u64 pl], .agg #[.int .i64 th, .int .u64 tl]] w (GotQ w N D) := by
  have Hph : Hid _ := hph
  have Hpl : Hid _ := hpl
  have Hth : Hid _ := hth
  have Htl : Hid _ := htl
  have HN : Hid _ := hN
  have HD : Hid _ := hD
  clear hph hpl hth htl hN hD
  obtain ⟨fh, hfh⟩ : ∃ z, z = lw.hi (f) := ⟨_, rfl⟩
  obtain ⟨fl, hfl⟩ : ∃ z, z = lw.lo (f) := ⟨_, rfl⟩
  have Hfh : Hid _ := hfh
  have Hfl : Hid _ := hfl
  clear hfh hfl
  obtain ⟨m0, m1, m2, m3, hm⟩ : ∃ q0 q1 q2 q3, lq.Wd (f * t) q0 q1 q2 q3 := ⟨_, _, _, _, lq.wd_self _⟩
  have Hm : Hid _ := hm
  clear hm
  obtain ⟨n0, n1, n2, n3, hn⟩ : ∃ q0 q1 q2 q3, lq.Wd (p) q0 q1 q2 q3 := ⟨_, _, _, _, lq.wd_self _⟩
  have Hn : Hid _ := hn
  clear hn
  obtain ⟨y0, y1, y2, y3, hy⟩ : ∃ q0 q1 q2 q3, lq.Wd (t) q0 q1 q2 q3 := ⟨_, _, _, _, lq.wd_self _⟩
  have Hy : Hid _ := hy
  clear hy
  obtain ⟨z0, z1, z2, z3, hz⟩ : ∃ q0 q1 q2 q3, lq.Wd (f * t + p) q0 q1 q2 q3 := ⟨_, _, _, _, lq.wd_self _⟩
  have Hz : Hid _ := hz
  clear hz
  have Sf : Hid (W128 f) := w128_64 Rf
  have St : Hid (W256 t) := w256_128 Rt
  obtain ⟨W, hW, bW, x_p, x_t, x_r, sW⟩ := bs_223 w (.int .i64 ph) (.int .u64 pl) (.int .i64 th) (.int .u64 tl) (.bool false) (.slice none 0 0) (.slice none 0 0) 61 61 29
  have zbW := bW.size
  have BB := bW
  go_enter Tryz.func25, Tryz.ntmps25
  go_wp2
  rw [← hW]
  clear hW
  have dd1 : Below W.heap.size W W.drew := (Below.refl _ _).drew
  have zdd1 := dd1.size
  replace BB := also BB dd1
  replace x_p := x_p.on dd1
  replace x_t := x_t.on dd1
  replace x_r := x_r.on dd1
  refine wp_region_held_drew (S := (fun w' => w'.cell? ⟨w.heap.size, 0, none⟩ = some (.int .i64 ph) ∧ w'.cell? ⟨w.heap.size, 1, none⟩ = some (.int .u64 pl) ∧ w'.cell? ⟨w.heap.size + 1, 0, none⟩ = some (.int .i64 th) ∧ w'.cell? ⟨w.heap.size + 1, 1, none⟩ = some (.int .u64 tl) ∧ Below w.heap.size w w')) (by kernel_rfl) ?_ (fun hHeld => ?_)
  · exact ⟨x_p.c0, x_p.c1, x_t.c0, x_t.c1, BB⟩
  refine take_yes (i := 0) (v := ?vs0) rfl (by kernel_rfl) (by kernel_rfl) (by kernel_rfl) (fun _ _ _ h => h) (by rfl) (by assumption) ?hys0 ?rests0
  case hys0 => (intro w hSw; (try dsimp only at hSw); first | (go_simp; done) | (go_simp; with_reducible rfl))
  simp only [Act.put, List.setIfInBounds_toArray, List.set_cons_zero, List.set_cons_succ]
  refine take_yes (i := 2) (v := ?vs2) rfl (by kernel_rfl) (by kernel_rfl) (by kernel_rfl) (fun _ _ _ h => h) (by rfl) (by assumption) ?hys2 ?rests2
  case hys2 => (intro w hSw; (try dsimp only at hSw); first | (go_simp; done) | (go_simp; with_reducible rfl))
  simp only [Act.put, List.setIfInBounds_toArray, List.set_cons_zero, List.set_cons_succ]
  refine take_yes (i := 4) (v := ?vs4) rfl (by kernel_rfl) (by kernel_rfl) (by kernel_rfl) (fun _ _ _ h => h) (by rfl) (by assumption) ?hys4 ?rests4
  case hys4 => (intro w hSw; (try dsimp only at hSw); first | (go_simp; done) | (go_simp; with_reducible rfl))
  simp only [Act.put, List.setIfInBounds_toArray, List.set_cons_zero, List.set_cons_succ]
  refine take_yes (i := 7) (v := ?vs7) rfl (by kernel_rfl) (by kernel_rfl) (by kernel_rfl) (fun _ _ _ h => h) (by rfl) (by assumption) ?hys7 ?rests7
  case hys7 => (intro w hSw; (try dsimp only at hSw); first | (go_simp; done) | (go_simp; with_reducible rfl))
  simp only [Act.put, List.setIfInBounds_toArray, List.set_cons_zero, List.set_cons_succ]
  refine take_call (i := 1) rfl (by kernel_rfl) (fun Kc hK => ?_)
  go_simp
  (go_at_call 43; refine (xOf f Rf Hfh.out Hfl.out _).mono ?_; rintro e w1 ⟨rfl, bw1⟩)
  refine hK.out _ _ ?_ (fun hHeld => ?_)
  · exact ⟨cell_on bw1 hHeld.1, cell_on bw1 hHeld.2.1, cell_on bw1 hHeld.2.2.1, cell_on bw1 hHeld.2.2.2.1, also hHeld.2.2.2.2 bw1⟩
  clear hK Kc
  have zbw1 := bw1.size
  replace BB := also BB bw1
  replace x_p := x_p.on bw1
  replace x_t := x_t.on bw1
  replace x_r := x_r.on bw1
  refine take_call (i := 3) rfl (by kernel_rfl) (fun Kc hK => ?_)
  go_simp
  (go_at_call 34; refine (xMul f t Hfh.out Hfl.out Hth.out Htl.out Sf Rt Hm.out _).mono ?_; rintro e w2 ⟨rfl, bw2⟩)
  refine hK.out _ _ ?_ (fun hHeld => ?_)
  · exact ⟨cell_on bw2 hHeld.1, cell_on bw2 hHeld.2.1, cell_on bw2 hHeld.2.2.1, cell_on bw2 hHeld.2.2.2.1, also hHeld.2.2.2.2 bw2⟩
  clear hK Kc
  have zbw2 := bw2.size
  replace BB := also BB bw2
  replace x_p := x_p.on bw2
  replace x_t := x_t.on bw2
  replace x_r := x_r.on bw2
  refine take_call (i := 5) rfl (by kernel_rfl) (fun Kc hK => ?_)
  go_simp
  (go_at_call 57; refine (xQof p Hph.out Hpl.out Rp Hn.out _).mono ?_; rintro e w3 ⟨rfl, bw3⟩)
  refine hK.out _ _ ?_ (fun hHeld => ?_)
  · exact ⟨cell_on bw3 hHeld.1, cell_on bw3 hHeld.2.1, cell_on bw3 hHeld.2.2.1, cell_on bw3 hHeld.2.2.2.1, also hHeld.2.2.2.2 bw3⟩
  clear hK Kc
  have zbw3 := bw3.size
  replace BB := also BB bw3
  replace x_p := x_p.on bw3
  replace x_t := x_t.on bw3
  replace x_r := x_r.on bw3
  refine take_call (i := 6) rfl (by kernel_rfl) (fun Kc hK => ?_)
  go_simp
  (go_at_call 56; refine (xQadd _ _ Hm.out Hn.out Hz.out _).mono ?_; rintro e w4 ⟨rfl, bw4⟩)
  refine hK.out _ _ ?_ (fun hHeld => ?_)
  · exact ⟨cell_on bw4 hHeld.1, cell_on bw4 hHeld.2.1, cell_on bw4 hHeld.2.2.1, cell_on bw4 hHeld.2.2.2.1, also hHeld.2.2.2.2 bw4⟩
  clear hK Kc
  have zbw4 := bw4.size
  replace BB := also BB bw4
  replace x_p := x_p.on bw4
  replace x_t := x_t.on bw4
  replace x_r := x_r.on bw4
  refine take_call (i := 8) rfl (by kernel_rfl) (fun Kc hK => ?_)
  go_simp
  (go_at_call 57; refine (xQof t Hth.out Htl.out Rt Hy.out _).mono ?_; rintro e w5 ⟨rfl, bw5⟩)
  refine hK.out _ _ ?_ (fun hHeld => ?_)
  · exact ⟨cell_on bw5 hHeld.1, cell_on bw5 hHeld.2.1, cell_on bw5 hHeld.2.2.1, cell_on bw5 hHeld.2.2.2.1, also hHeld.2.2.2.2 bw5⟩
  clear hK Kc
  have zbw5 := bw5.size
  replace BB := also BB bw5
  replace x_p := x_p.on bw5
  replace x_t := x_t.on bw5
  replace x_r := x_r.on bw5
  refine take_call (i := 9) rfl (by kernel_rfl) (fun Kc hK => ?_)
  go_simp
  (go_at_call 32; refine (cFrac _ _ Hz.out Hy.out Rz St h0 HN.out HD.out _).mono ?_; rintro e w6 ⟨n3, a3, l3, c3, d3, m3, k3, rfl, h3, f3, g3, bw6⟩)
  refine hK.out _ _ ?_ (fun hHeld => ?_)
  · exact ⟨cell_on bw6 hHeld.1, cell_on bw6 hHeld.2.1, cell_on bw6 hHeld.2.2.1, cell_on bw6 hHeld.2.2.2.1, also hHeld.2.2.2.2 bw6⟩
  clear hK Kc
  have zbw6 := bw6.size
  replace BB := also BB bw6
  replace x_p := x_p.on bw6
  replace x_t := x_t.on bw6
  replace x_r := x_r.on bw6
  have ⟨x_r_0, x_r_1, x_r_2, x_r_3, x_r_4, x_r_5⟩ := x_r
  refine take_call (i := 10) rfl (by kernel_rfl) (fun Kc hK => ?_)
  go_simp
  refine hK.out _ _ ?_ (fun hHeld => ?_)
  · first | exact ⟨cell_put3 hHeld.1 (by omega) _ _ _, cell_put3 hHeld.2.1 (by omega) _ _ _, cell_put3 hHeld.2.2.1 (by omega) _ _ _, cell_put3 hHeld.2.2.2.1 (by omega) _ _ _, below_put3 hHeld.2.2.2.2 (by omega) _ _ _⟩ | exact ⟨x_p.c0, x_p.c1, x_t.c0, x_t.c1, BB⟩
  clear hK Kc
  refine wpAnyH_done (by kernel_rfl) ?_ _
  go_wp2
  exact bodyPost_ret (v := .agg #[.bool n3, .slice a3 l3 c3, .slice d3 m3 k3]) (by simp [results, Tryz.results25, go_sem, *]) rfl (endQ _ (by omega) BB h3 (f3.mono (by omega)) (g3.mono (by omega)) _ _ _)
end Go.Proofs.YtcaihoomcdbfnaaGreat

namespace Go.Proofs.YtcaihoomcdbfnaaGreat
open Go.RowKit
set_option linter.unusedVariables false

set_option maxRecDepth 100000 in
set_option maxHeartbeats 1000000 in
theorem rqOver (s1 : Int) (d1 : Option Addr) (l1 c1 : Nat) (t1 : Int) (g1 : Option Addr) (h1 k1 : Nat) (x y : Int) (K : Nat) (w : World) (hx : RN w s1 d1 l1 c1 x) (hy : RN w t1 g1 h1 k1 y) (h0 : y ≠ 0) (fx : x.natAbs < 4294967296 ^ K) (fy : y.natAbs < 4294967296 ^ K) (kk : K ≤ 10000) (N : Int) (D : Nat) (hN : N = x * y.sign) (hD : D = y.natAbs) :
    Calls Tryz.prog 67 #[.agg #[.int .i64 s1, .slice d1 l1 c1], .agg #[.int .i64 t1, .slice g1 h1 k1]] w (GotRQ w (fun j => NA j d1 l1 ∧ NA j g1 h1) K N D) := by
  have n1 : NA (w.heap.size + 1 + 1) d1 l1 := hx.hd.sl.na (by omega)
  have n2 : NA (w.heap.size + 1 + 1) g1 h1 := hy.hd.sl.na (by omega)
  have hs := hy.sg
  rcases sign_cases y with ⟨hy0, e⟩ | ⟨hy0, e⟩ | ⟨hy0, e⟩
  · obtain rfl : t1 = -1 := by rw [hs, e]
    have HN : Hid (N = -x) := by unfold Hid; rw [hN, e]; omega
    have HD : Hid ((D : Int) = -y) := by unfold Hid; omega
    have d0 : 0 < D := by omega
    have HS : Hid (N.natAbs < 4294967296 ^ K) := by unfold Hid; rw [HN.out, Int.natAbs_neg]; exact fx
    have HT : Hid (D < 4294967296 ^ K) := by unfold Hid; rw [hD]; exact fy
    clear hN hD hs e hy0 h0
    obtain ⟨W, hW, bW, x_a, x_b, x_z, sW⟩ := bs_224 w (.int .i64 s1) (.slice d1 l1 c1) (.int .i64 (-1)) (.slice g1 h1 k1) (.int .i64 0) (.slice none 0 0) (.int .i64 0) (.slice none 0 0) 39 39 41
    have zbW := bW.size
    replace hx := hx.below bW
    replace hy := hy.below bW
    have BB := bW
    go_enter Tryz.func67, Tryz.ntmps67
    go_wp2
    rw [← hW]
    clear hW
    have dd1 : Below W.heap.size W W.drew := (Below.refl _ _).drew
    have zdd1 := dd1.size
    replace hx := hx.below dd1
    replace hy := hy.below dd1
    replace BB := also BB dd1
    replace x_a := x_a.on dd1
    replace x_b := x_b.on dd1
    replace x_z := x_z.on dd1
    refine wp_region_held_drew (S := (fun w' => w'.cell? ⟨w.heap.size, 0, none⟩ = some (.int .i64 s1) ∧ w'.cell? ⟨w.heap.size, 1, none⟩ = some (.slice d1 l1 c1) ∧ w'.cell? ⟨w.heap.size + 1, 0, none⟩ = some (.int .i64 (-1)) ∧ w'.cell? ⟨w.heap.size + 1, 1, none⟩ = some (.slice g1 h1 k1) ∧ Below w.heap.size w w')) (by kernel_rfl) ?_ (fun hHeld => ?_)
    · first | exact ⟨x_a.c0, x_a.c1, x_b.c0, x_b.c1, BB⟩ | exact ⟨cell_on bw4 hHeld.1, cell_on bw4 hHeld.2.1, cell_on bw4 hHeld.2.2.1, cell_on bw4 hHeld.2.2.2.1, also hHeld.2.2.2.2 bw4⟩ | exact ⟨cell_on bw3 hHeld.1, cell_on bw3 hHeld.2.1, cell_on bw3 hHeld.2.2.1, cell_on bw3 hHeld.2.2.2.1, also hHeld.2.2.2.2 bw3⟩ | exact ⟨cell_put4 hHeld.1 (by omega) _ _ _ _, cell_put4 hHeld.2.1 (by omega) _ _ _ _, cell_put4 hHeld.2.2.1 (by omega) _ _ _ _, cell_put4 hHeld.2.2.2.1 (by omega) _ _ _ _, below_put4 hHeld.2.2.2.2 (by omega) _ _ _ _⟩
    refine take_yes (i := 0) (v := ?vr0) rfl (by kernel_rfl) (by kernel_rfl) (by kernel_rfl) (fun _ _ _ h => h) (by rfl) (by assumption) ?hyr0 ?restr0
    case hyr0 => (intro w hSw; (try dsimp only at hSw); first | (go_simp; done) | (go_simp; with_reducible rfl))
    simp only [Act.put, List.setIfInBounds_toArray, List.set_cons_zero, List.set_cons_succ]
    refine take_yes (i := 2) (v := ?vr2) rfl (by kernel_rfl) (by kernel_rfl) (by kernel_rfl) (fun _ _ _ h => h) (by rfl) (by assumption) ?hyr2 ?restr2
    case hyr2 => (intro w hSw; (try dsimp only at hSw); first | (go_simp; done) | (go_simp; with_reducible rfl))
    simp only [Act.put, List.setIfInBounds_toArray, List.set_cons_zero, List.set_cons_succ]
    refine take_call (i := 1) rfl (by kernel_rfl) (fun Kc hK => ?_)
    go_simp
    (go_at_call 91; refine (rwNeg s1 d1 l1 c1 x N _ hx HN.out).mono ?_; rintro e w3 ⟨s3, d3, l3, c3, rfl, h3, f3, bw3⟩)
    refine hK.out _ _ ?_ (fun hHeld => ?_)
    · first | exact ⟨x_a.c0, x_a.c1, x_b.c0, x_b.c1, BB⟩ | exact ⟨cell_on bw4 hHeld.1, cell_on bw4 hHeld.2.1, cell_on bw4 hHeld.2.2.1, cell_on bw4 hHeld.2.2.2.1, also hHeld.2.2.2.2 bw4⟩ | exact ⟨cell_on bw3 hHeld.1, cell_on bw3 hHeld.2.1, cell_on bw3 hHeld.2.2.1, cell_on bw3 hHeld.2.2.2.1, also hHeld.2.2.2.2 bw3⟩ | exact ⟨cell_put4 hHeld.1 (by omega) _ _ _ _, cell_put4 hHeld.2.1 (by omega) _ _ _ _, cell_put4 hHeld.2.2.1 (by omega) _ _ _ _, cell_put4 hHeld.2.2.2.1 (by omega) _ _ _ _, below_put4 hHeld.2.2.2.2 (by omega) _ _ _ _⟩
    clear hK Kc
    have zbw3 := bw3.size
    replace hx := hx.below bw3
    replace hy := hy.below bw3
    replace BB := also BB bw3
    replace x_a := x_a.on bw3
    replace x_b := x_b.on bw3
    replace x_z := x_z.on bw3
    refine take_call (i := 3) rfl (by kernel_rfl) (fun Kc hK => ?_)
    go_simp
    (go_at_call 91; refine (rwNeg (-1) g1 h1 k1 y D _ hy HD.out).mono ?_; rintro e w4 ⟨s4, d4, l4, c4, rfl, h4, f4, bw4⟩)
    refine hK.out _ _ ?_ (fun hHeld => ?_)
    · first | exact ⟨x_a.c0, x_a.c1, x_b.c0, x_b.c1, BB⟩ | exact ⟨cell_on bw4 hHeld.1, cell_on bw4 hHeld.2.1, cell_on bw4 hHeld.2.2.1, cell_on bw4 hHeld.2.2.2.1, also hHeld.2.2.2.2 bw4⟩ | exact ⟨cell_on bw3 hHeld.1, cell_on bw3 hHeld.2.1, cell_on bw3 hHeld.2.2.1, cell_on bw3 hHeld.2.2.2.1, also hHeld.2.2.2.2 bw3⟩ | exact ⟨cell_put4 hHeld.1 (by omega) _ _ _ _, cell_put4 hHeld.2.1 (by omega) _ _ _ _, cell_put4 hHeld.2.2.1 (by omega) _ _ _ _, cell_put4 hHeld.2.2.2.1 (by omega) _ _ _ _, below_put4 hHeld.2.2.2.2 (by omega) _ _ _ _⟩
    clear hK Kc
    have zbw4 := bw4.size
    replace hx := hx.below bw4
    replace hy := hy.below bw4
    replace BB := also BB bw4
    replace x_a := x_a.on bw4
    replace x_b := x_b.on bw4
    replace x_z := x_z.on bw4
    replace h3 := h3.below bw4
    refine take_yes (i := 4) (v := ?vr4) rfl (by kernel_rfl) (by kernel_rfl) (by kernel_rfl) (fun _ _ _ h => h) (by rfl) (by assumption) ?hyr4 ?restr4
    case hyr4 => (intro w hSw; (try dsimp only at hSw); first | (go_simp; done) | (go_simp; with_reducible rfl))
    simp only [Act.put, List.setIfInBounds_toArray, List.set_cons_zero, List.set_cons_succ]
    have ⟨x_z_0, x_z_1, x_z_2, x_z_3, x_z_4, x_z_5, x_z_6, x_z_7⟩ := x_z
    refine take_call (i := 5) rfl (by kernel_rfl) (fun Kc hK => ?_)
    go_simp
    refine hK.out _ _ ?_ (fun hHeld => ?_)
    · first | exact ⟨x_a.c0, x_a.c1, x_b.c0, x_b.c1, BB⟩ | exact ⟨cell_on bw4 hHeld.1, cell_on bw4 hHeld.2.1, cell_on bw4 hHeld.2.2.1, cell_on bw4 hHeld.2.2.2.1, also hHeld.2.2.2.2 bw4⟩ | exact ⟨cell_on bw3 hHeld.1, cell_on bw3 hHeld.2.1, cell_on bw3 hHeld.2.2.1, cell_on bw3 hHeld.2.2.2.1, also hHeld.2.2.2.2 bw3⟩ | exact ⟨cell_put4 hHeld.1 (by omega) _ _ _ _, cell_put4 hHeld.2.1 (by omega) _ _ _ _, cell_put4 hHeld.2.2.1 (by omega) _ _ _ _, cell_put4 hHeld.2.2.2.1 (by omega) _ _ _ _, below_put4 hHeld.2.2.2.2 (by omega) _ _ _ _⟩
    clear hK Kc
    refine wpAnyH_done (by kernel_rfl) ?_ _
    go_wp2
    exact bodyPost_ret (v := .agg #[.int .i64 s3, .slice d3 l3 c3, .int .i64 s4, .slice d4 l4 c4]) (by simp [results, Tryz.results67, go_sem, *]) rfl (endRQ _ (by omega) BB ⟨h3, h4, d0, HS.out, HT.out, kk⟩ (f3 _ (by omega) n1) (f4 _ (by omega) n2) (fun j hj q => ⟨f3 j (by omega) q.1, f4 j (by omega) q.2⟩) _ _ _ _)
  · exact absurd hy0 h0
  · obtain rfl : t1 = 1 := by rw [hs, e]
    have HN : Hid (N = x) := by unfold Hid; rw [hN, e]; omega
    have HD : Hid ((D : Int) = y) := by unfold Hid; omega
    have d0 : 0 < D := by omega
    have HS : Hid (N.natAbs < 4294967296 ^ K) := by unfold Hid; rw [HN.out]; exact fx
    have HT : Hid (D < 4294967296 ^ K) := by unfold Hid; rw [hD]; exact fy
    clear hN hD hs e hy0 h0
    have hx0 := hx
    have hy0' := hy
    obtain ⟨W, hW, bW, x_a, x_b, x_z, sW⟩ := bs_224 w (.int .i64 s1) (.slice d1 l1 c1) (.int .i64 1) (.slice g1 h1 k1) (.int .i64 0) (.slice none 0 0) (.int .i64 0) (.slice none 0 0) 39 39 41
    have zbW := bW.size
    replace hx := hx.below bW
    replace hy := hy.below bW
    have BB := bW
    go_enter Tryz.func67, Tryz.ntmps67
    go_wp2
    have B1 : Below w.heap.size w _ := (((Below.refl w.heap.size w).alloc (Nat.le_refl _) (.cells #[.int .i64 s1, .slice d1 l1 c1] 39)).alloc (by simp) (.cells #[.int .i64 1, .slice g1 h1 k1] 39)).alloc (by simp; omega) (.cells #[.int .i64 s1, .slice d1 l1 c1, .int .i64 1, .slice g1 h1 k1] 41)
    have X1 := hx0.below B1
    have Y1 := hy0'.below B1
    exact bodyPost_ret (v := .agg #[.int .i64 s1, .slice d1 l1 c1, .int .i64 1, .slice g1 h1 k1]) (by simp [results, Tryz.results67, go_sem, *]) rfl (⟨s1, d1, l1, c1, 1, g1, h1, k1, rfl, ⟨by rw [HN.out]; exact X1, by rw [HD.out]; exact Y1, d0, HS.out, HT.out, kk⟩, fun j hj q => q, B1⟩)
end Go.Proofs.YtcaihoomcdbfnaaGreat
