/-
  Joined texts of this law, part 1:
  What zelligeref03's Nat and Same answer.
  What zelligeref03's Same answers of a number and its digits.
  Blocks of two to four cells, made one behind the other, and what they hold behind a store into another. It imports nothing of the program.
  What zelligeref03 answers, with letters for the lengths.
  What zelligeref04's Of, Same, make1, Neg, Add, Sub, Mul and Cmp answer.
  What package circum's narrow, crossed and squares answer.
  What package rat's alike, bothDens, Norm, Neg, Add, Sub and Mul answer.
  What zelligeref05's functions answer: fractions as two whole numbers, the lower above nought.
  What the calls of an open region may tell, besides: a fraction of zelligeref05.
  What package circum's fraction and halfway answer.
  The circle of three points: its center by the weights of the corners and by a determinant, and how great it is. It imports nothing of the program.
  What zelligeref05's Over, Mul, Div and Cmp answer.
  What zelligeref05's Low and Same answer.
  Blocks of eight cells: what they hold. It imports nothing of the program.
  What zelligeref09's Center answers.
  What zelligeref05's Add and Sub answer.
-/
import Derived.Test.YtcaihoomcdbfnaaGreatP14
namespace Go.Proofs.YtcaihoomcdbfnaaGreat
open Go.RowKit
set_option linter.unusedVariables false

theorem wd_half (u : Nat) (k : Nat) : wd.dg (u : Int) k = hf.dg u (2 * k) + 65536 * hf.dg u (2 * k + 1) := by
  have h := halves u k
  omega
/-- How many words digits make. -/
theorem wd_of_hf (u : Nat) : wd.nlen u = (hf.nlen u + 1) / 2 := by
  refine wd.nlen_eq ⟨?_, ?_⟩
  · rw [← pow_halves]
    exact Nat.lt_of_lt_of_le (hf.nlen_lt u) (Nat.pow_le_pow_right (by decide) (by omega))
  · rcases (hf.nlen_is u).2 with h | h
    · exact Or.inl (by rw [h])
    · rcases Nat.eq_zero_or_pos (hf.nlen u) with h0 | h0
      · exact Or.inl (by rw [h0])
      · right
        rw [← pow_halves]
        exact Nat.le_trans (Nat.pow_le_pow_right (by decide) (by omega)) h
/-- What holds at the head of each round. -/
def NatRel (w : World) (u l : Nat) (v i : Value) (wr : World) : Prop := ∃ (k cap : Nat) (a : Option Addr), 2 * k ≤ l + 1 ∧ i = .int .i64 (2 * (k : Int)) ∧ v = .slice a k cap ∧ Own wr w.heap.size 115 a k cap (wd.dcells k (u : Int)) ∧ Below w.heap.size w wr
theorem natRel_next {w wr w2 w4 : World} {u l k cap cap' g' : Nat} {a : Option Addr} {x : Int} (hx : x = wd.dg u k) (hk : 2 * k < l) (hown : Own wr w.heap.size 115 a k cap (wd.dcells k (u : Int))) (hbel : Below w.heap.size w wr)
    (h4 : w4.ownsRow w.heap.size 115 1 (.slice (some ⟨g', 0, none⟩) (k + 1) cap') (k + 1) (wd.dcells k (u : Int) ++ [.int .u32 x]))
    (h2 : Below wr.heap.size wr w2) (hgr : w2.grownBy w4 (Value.slice a k cap).ownBlock) : NatRel w u l (.slice (some ⟨g', 0, none⟩) (k + 1) cap') (.int .i64 (2 * (k : Int) + 2)) w4 := by
  have hs := hbel.size
  refine ⟨k + 1, cap', _, by omega, by simp; omega, rfl, ?_, (hbel.trans (h2.mono hs)).grown hgr (by have := h2.size; omega) (fun k' hk' => (World.ownsRow.lt hown k' hk').1)⟩
  rw [wd.dcells_succ, ← hx]
  exact h4
set_option maxRecDepth 100000 in
set_option maxHeartbeats 1000000 in
theorem rnat_any (a : Option Addr) (ca u : Nat) (w : World) (ha : Sl w a (hf.nlen u) ca (hf.dcells (hf.nlen u) (u : Int))) (hl : hf.nlen u ≤ 1000000000) :
    Calls Tryz.prog 73 #[.slice a (hf.nlen u) ca] w fun e w' => ∃ a' cap', e = .returned (.slice a' (wd.nlen u) cap') ∧ Own w' w.heap.size 115 a' (wd.nlen u) cap' (wd.dcells (wd.nlen u) (u : Int)) ∧ Below w.heap.size w w' := by
  obtain ⟨i0, hi0, hz0, hz1, hz2⟩ := info_parts infoWord
  have hown0 := own_empty w w.heap.size 115 (Nat.le_refl _)
  obtain ⟨l, hl'⟩ : ∃ l, hf.nlen u = l := ⟨_, rfl⟩
  have HW : Hid (wd.nlen u = (l + 1) / 2) := by unfold Hid; rw [wd_of_hf, hl']
  have HT : Hid (u < 65536 ^ l) := by unfold Hid; rw [← hl']; exact hf.nlen_lt u
  rw [hl'] at ha hl ⊢
  clear hl'
  go_enter Tryz.func73, Tryz.ntmps73
  go_wp2
  go_loopw [3, 4] (fun v i wr => NatRel w u l v i wr) (fun _ i _ => l + 1 - (intOf i).toNat)
  case atStart => exact ⟨0, 0, _, by omega, rfl, rfl, hown0, (Below.refl _ _).alloc (Nat.le_refl _) _⟩
  case round =>
    clear hown0
    obtain ⟨k, cap, v, hk, rfl, rfl, hown, hbel⟩ := hrel
    have hsz := hbel.size
    by_cases hlt : 2 * k < l
    · obtain ⟨ba, oa, rfl, hba, hseg⟩ := ha.at (by omega)
      have hroom := ha.room
      have c1 : wr.cell? ⟨ba, oa + 2 * k, none⟩ = some (.int .i64 (hf.dg u (2 * k))) := (hbel.cell (p := ⟨ba, oa + 2 * k, none⟩) hba).trans (hseg.cell (2 * k) _ (hf.dcells_at _ _ _ hlt))
      obtain ⟨d0, d1⟩ := hf.dg_range u (2 * k)
      have hlt' : (2 * (k : Int)) < l := by omega
      by_cases hl2 : 2 * k + 1 < l
      · have hl2' : (2 * (k : Int)) + 1 < l := by omega
        have c2 : wr.cell? ⟨ba, oa + (2 * k + 1), none⟩ = some (.int .i64 (hf.dg u (2 * k + 1))) := (hbel.cell (p := ⟨ba, oa + (2 * k + 1), none⟩) hba).trans (hseg.cell (2 * k + 1) _ (hf.dcells_at _ _ _ hl2))
        obtain ⟨e0, e1⟩ := hf.dg_range u (2 * k + 1)
        have HN : Hid _ := fun w2 w4 g' cap' => natRel_next (x := hf.dg u (2 * k) + 65536 * hf.dg u (2 * k + 1)) (w2 := w2) (w4 := w4) (g' := g') (cap' := cap') (wd_half u k).symm hlt hown hbel
        go_wp2_with (at_builtin; refine wpList_append_lies _ rfl (.tmp 30) (.tmp 33) 25 rfl w.heap.size 115 i0 (.int .u32 0) 1 4 Tryz.underlying25 hi0 hz0 hz1 hz2 rfl (by decide) (.slice v k cap) k (wd.dcells k (u : Int)) rfl (World.ownsRow.alloc hown _) ⟨wr.heap.size, 0, none⟩ 1 1 [.int .u32 (hf.dg u (2 * k) + 65536 * hf.dg u (2 * k + 1))] rfl rfl (cell_one_new _ _ _) (ints_oneCell .u32 [hf.dg u (2 * k) + 65536 * hf.dg u (2 * k + 1)]) (by decide) (by unfold maxLen; omega) (by omega) (by simp; omega) _ rfl ?_; intro g' cap' w4 hown4 hgrow4 hat4 hlt4)
        go_roundw
        case rel => exact HN.out _ w4 g' cap' hown4 ((Below.refl _ _).alloc (Nat.le_refl _) _) hgrow4
        case measure => simp [intOf]; omega
      · have hl2' : ¬ (2 * (k : Int)) + 1 < l := by omega
        have HX : Hid (hf.dg (u : Int) (2 * k) = wd.dg u k) := by
          have : hf.dg (u : Int) (2 * k + 1) = 0 := hf.dg_over (Nat.lt_of_lt_of_le HT.out (Nat.pow_le_pow_right (by decide) (by omega)))
          have h := wd_half u k
          unfold Hid
          omega
        have HN : Hid _ := fun w2 w4 g' cap' => natRel_next (x := hf.dg u (2 * k)) (w2 := w2) (w4 := w4) (g' := g') (cap' := cap') HX.out hlt hown hbel
        go_wp2_with (at_builtin; refine wpList_append_lies _ rfl (.tmp 30) (.tmp 33) 25 rfl w.heap.size 115 i0 (.int .u32 0) 1 4 Tryz.underlying25 hi0 hz0 hz1 hz2 rfl (by decide) (.slice v k cap) k (wd.dcells k (u : Int)) rfl (World.ownsRow.alloc hown _) ⟨wr.heap.size, 0, none⟩ 1 1 [.int .u32 (hf.dg u (2 * k))] rfl rfl (cell_one_new _ _ _) (ints_oneCell .u32 [hf.dg u (2 * k)]) (by decide) (by unfold maxLen; omega) (by omega) (by simp; omega) _ rfl ?_; intro g' cap' w4 hown4 hgrow4 hat4 hlt4)
        go_roundw
        case rel => exact HN.out _ w4 g' cap' hown4 ((Below.refl _ _).alloc (Nat.le_refl _) _) hgrow4
        case measure => simp [intOf]; omega
    · have HE : Hid (wd.nlen u = k) := by unfold Hid; rw [HW.out]; omega
      have hlt' : ¬ (2 * (k : Int)) < l := by omega
      go_wp2
      go_ret
      rw [HE.out]
      exact ⟨v, cap, rfl, hown, hbel⟩
end Go.Proofs.YtcaihoomcdbfnaaGreat

namespace Go.Proofs.YtcaihoomcdbfnaaGreat
open Go.RowKit
set_option linter.unusedVariables false

set_option maxRecDepth 100000 in
set_option maxHeartbeats 1000000 in
theorem same_yes (a b : Option Addr) (ca cb u : Nat) (w : World) (ha : Sl w a (wd.nlen u) ca (wd.dcells (wd.nlen u) (u : Int))) (hb : Sl w b (hf.nlen u) cb (hf.dcells (hf.nlen u) (u : Int))) (hl : hf.nlen u ≤ 1000000000) :
    Calls Tryz.prog 36 #[.slice a (wd.nlen u) ca, .slice b (hf.nlen u) cb] w fun e w' => e = .returned (.bool true) ∧ Below w.heap.size w w' := by
  have hm : wd.nlen u ≤ 1000000000 := by have := wd_of_hf u; omega
  go_enter Tryz.func36, Tryz.ntmps36
  go_wp2_with (go_at_call 73; refine (rnat_any b cb u _ hb hl).mono ?_; rintro e w1 ⟨a1, c1, rfl, hown, hbel⟩)
  go_loopw [6] (fun i wr => ∃ k : Nat, k ≤ wd.nlen u ∧ i = .int .i64 (k : Int) ∧ ∃ n, wr = w1.drewN n) (fun i _ => wd.nlen u - (intOf i).toNat)
  case atStart => exact ⟨0, by omega, rfl, 0, rfl⟩
  case round =>
    obtain ⟨k, hk, rfl, n, rfl⟩ := hrel
    by_cases hlt : k < wd.nlen u
    · obtain ⟨ba, oa, rfl, hba, hseg⟩ := ha.at (by omega)
      have hroom := ha.room
      obtain ⟨g, rfl, hg, hg2, hsg⟩ := Own.at hown (by omega)
      have hroom2 := (Own.sl hown).room
      have q1 : w1.cell? ⟨ba, oa + k, none⟩ = some (.int .u32 (wd.dg u k)) := (hbel.cell (p := ⟨ba, oa + k, none⟩) hba).trans (hseg.cell k _ (wd.dcells_at _ _ _ hlt))
      have q2 : w1.cell? ⟨g, k, none⟩ = some (.int .u32 (wd.dg u k)) := Own.cell hown k _ (wd.dcells_at _ _ _ hlt)
      have hne : (wd.dg (u : Int) k != wd.dg (u : Int) k) = false := by simp
      go_wp2
      go_quiet (fail)
      go_wp2
      go_roundw
      case rel => exact ⟨k + 1, by omega, by simp, _, rfl⟩
      case measure => simp [intOf]; omega
    · go_wp2
      go_ret
      exact ⟨rfl, below_drewN hbel n⟩
end Go.Proofs.YtcaihoomcdbfnaaGreat

namespace Go.Proofs.YtcaihoomcdbfnaaGreat
open Go.RowKit
set_option linter.unusedVariables false
theorem bs_444 (w : World) (x00 x01 x02 x03 x10 x11 x12 x13 x20 x21 x22 x23 : Value) (t0 t1 t2 : TypeId) : ∃ W, W = (((w.alloc (.cells #[x00, x01, x02, x03] t0)).alloc (.cells #[x10, x11, x12, x13] t1)).alloc (.cells #[x20, x21, x22, x23] t2)) ∧ Below w.heap.size w W ∧ B4 W (w.heap.size) x00 x01 x02 x03 ∧ B4 W (w.heap.size + 1) x10 x11 x12 x13 ∧ B4 W (w.heap.size + 1 + 1) x20 x21 x22 x23 ∧ w.heap.size + 1 + 1 < W.heap.size := by
  have e0 : Below w.heap.size w (w.alloc (.cells #[x00, x01, x02, x03] t0)) := (Below.refl _ _).alloc (Nat.le_refl _) _
  have h0 := b4_new w x00 x01 x02 x03 t0
  have e1 : Below (w.alloc (.cells #[x00, x01, x02, x03] t0)).heap.size (w.alloc (.cells #[x00, x01, x02, x03] t0)) ((w.alloc (.cells #[x00, x01, x02, x03] t0)).alloc (.cells #[x10, x11, x12, x13] t1)) := (Below.refl _ _).alloc (Nat.le_refl _) _
  have h1 := b4_new (w.alloc (.cells #[x00, x01, x02, x03] t0)) x10 x11 x12 x13 t1
  rw [World.size_alloc] at h1
  have e2 : Below ((w.alloc (.cells #[x00, x01, x02, x03] t0)).alloc (.cells #[x10, x11, x12, x13] t1)).heap.size ((w.alloc (.cells #[x00, x01, x02, x03] t0)).alloc (.cells #[x10, x11, x12, x13] t1)) (((w.alloc (.cells #[x00, x01, x02, x03] t0)).alloc (.cells #[x10, x11, x12, x13] t1)).alloc (.cells #[x20, x21, x22, x23] t2)) := (Below.refl _ _).alloc (Nat.le_refl _) _
  have h2 := b4_new ((w.alloc (.cells #[x00, x01, x02, x03] t0)).alloc (.cells #[x10, x11, x12, x13] t1)) x20 x21 x22 x23 t2
  rw [World.size_alloc, World.size_alloc] at h2
  exact ⟨_, rfl, also (also (e0) e1) e2, ((h0.on e1).on e2), (h1.on e2), h2, by simp⟩
end Go.Proofs.YtcaihoomcdbfnaaGreat

namespace Go.Proofs.YtcaihoomcdbfnaaGreat
open Go.RowKit
set_option linter.unusedVariables false

theorem hSame (a b : Option Addr) (la lb ca cb u : Nat) (w : World) (ha : Sl w a la ca (wd.dcells la (u : Int))) (ea : la = wd.nlen u) (hb : HD w b lb cb u) (fu : hf.nlen u ≤ 1000000) : Calls Tryz.prog 36 #[.slice a la ca, .slice b lb cb] w fun e w' => e = .returned (.bool true) ∧ Below w.heap.size w w' := by
  subst ea
  obtain ⟨hb, rfl⟩ := hb
  exact same_yes a b ca cb u w ha hb (by omega)
end Go.Proofs.YtcaihoomcdbfnaaGreat

namespace Go.Proofs.YtcaihoomcdbfnaaGreat
open Go.RowKit
set_option linter.unusedVariables false

set_option maxRecDepth 100000 in
set_option maxHeartbeats 1000000 in
theorem rwSame (n : Bool) (s : Int) (a d : Option Addr) (la ca l c : Nat) (z : Int) (w : World) (ha : WN w n a la ca z) (hd : RN w s d l c z) (fz : hf.nlen z.natAbs ≤ 1000000) :
    Calls Tryz.prog 35 #[.agg #[.bool n, .slice a la ca], .agg #[.int .i64 s, .slice d l c]] w fun e w' => e = .returned (.bool true) ∧ Below w.heap.size w w' := by
  obtain ⟨B0, xa, xd, hs⟩ := box1 w (.bool n) (.slice a la ca) (.int .i64 s) (.slice d l c) 27 39
  have na := ha.nd.below B0
  have nd := hd.hd.below B0
  have hn : n = decide (s < 0) := by
    rw [ha.sg, hd.sg]
    rcases sign_cases z with ⟨h, e⟩ | ⟨h, e⟩ | ⟨h, e⟩ <;> rw [e] <;> simp <;> omega
  by_cases h0 : s < 0
  · obtain rfl : n = true := by rw [hn]; simpa using h0
    clear hn
    go_enter Tryz.func35, Tryz.ntmps35
    go_wp2_with (go_at_call 36; fail)
    refine (hSame a d la l ca c _ _ na.sl na.len nd fz).mono ?_
    rintro e w1 ⟨rfl, b1⟩
    obtain ⟨k0, k1, k2, k3⟩ := xd.on b1
    obtain ⟨j0, j1, j2, j3⟩ := xa.on b1
    go_wp2
    go_ret
    exact ⟨rfl, also B0 b1⟩
  · obtain rfl : n = false := by rw [hn]; simpa using h0
    have h0' : decide (s < 0) = false := by simpa using h0
    clear hn
    go_enter Tryz.func35, Tryz.ntmps35
    go_wp2_with (go_at_call 36; fail)
    refine (hSame a d la l ca c _ _ na.sl na.len nd fz).mono ?_
    rintro e w1 ⟨rfl, b1⟩
    obtain ⟨k0, k1, k2, k3⟩ := xd.on b1
    obtain ⟨j0, j1, j2, j3⟩ := xa.on b1
    go_wp2
    go_ret
    exact ⟨rfl, also B0 b1⟩

end Go.Proofs.YtcaihoomcdbfnaaGreat

namespace Go.Proofs.YtcaihoomcdbfnaaGreat
open Go.RowKit
set_option linter.unusedVariables false

theorem w256_128 {x : Int} (h : W128 x) : W256 x := by unfold W128 at h; unfold W256; omega
theorem xQof (a : Int) {ah al : Int} (hah : ah = lw.hi a) (hal : al = lw.lo a) (R : Hid (W128 a)) {q0 q1 q2 q3 : Int} (hq : lq.Wd a q0 q1 q2 q3) (w : World) :
    Calls Tryz.prog 57 #[.agg #[.int .i64 ah, .int .u64 al]] w fun e w' => e = .returned (.agg #[.int .u64 q0, .int .u64 q1, .int .u64 q2, .int .u64 q3]) ∧ Below w.heap.size w w' := by
  obtain ⟨rfl, rfl, rfl, rfl⟩ := hq
  exact lq.qof_any a hah hal R.out.1 R.out.2 w
end Go.Proofs.YtcaihoomcdbfnaaGreat

namespace Go.Proofs.YtcaihoomcdbfnaaGreat
open Go.RowKit
set_option linter.unusedVariables false

theorem abs_add' {X Y : Int} {K : Nat} (h1 : X.natAbs < 4294967296 ^ K) (h2 : Y.natAbs < 4294967296 ^ K) : (X + Y).natAbs < 4294967296 ^ (K + 1) := by
  have := Int.natAbs_add_le X Y
  rw [Nat.pow_succ]
  omega
theorem abs_mul' {X Y : Int} {K L : Nat} (h1 : X.natAbs < 4294967296 ^ K) (h2 : Y.natAbs < 4294967296 ^ L) : (X * Y).natAbs < 4294967296 ^ (K + L) := by
  rw [Int.natAbs_mul, Nat.pow_add]
  exact Nat.mul_lt_mul_of_lt_of_le h1 (Nat.le_of_lt h2) (Nat.pow_pos (by decide))
theorem nat_mul' {X Y : Nat} {K L : Nat} (h1 : X < 4294967296 ^ K) (h2 : Y < 4294967296 ^ L) : X * Y < 4294967296 ^ (K + L) := by
  rw [Nat.pow_add]
  exact Nat.mul_lt_mul_of_lt_of_le h1 (Nat.le_of_lt h2) (Nat.pow_pos (by decide))
end Go.Proofs.YtcaihoomcdbfnaaGreat

namespace Go.Proofs.YtcaihoomcdbfnaaGreat
open Go.RowKit
set_option linter.unusedVariables false

set_option maxRecDepth 100000 in
set_option maxHeartbeats 1000000 in
theorem rqNeg (s1 : Int) (d1 : Option Addr) (l1 c1 : Nat) (t1 : Int) (g1 : Option Addr) (h1 k1 : Nat) (N1 : Int) (D1 : Nat) (K : Nat) (w : World) (x : RQ w K s1 d1 l1 c1 t1 g1 h1 k1 N1 D1) (N : Int) (hN : N = -N1) :
    Calls Tryz.prog 75 #[.agg #[.int .i64 s1, .slice d1 l1 c1, .int .i64 t1, .slice g1 h1 k1]] w (GotRQ w (fun j => NA j d1 l1 ∧ NA j g1 h1) K N D1) := by
  have HN : Hid _ := hN
  have n1 : NA (w.heap.size + 1) d1 l1 := x.rn.hd.sl.na (by omega)
  have n2 : NA (w.heap.size + 1) g1 h1 := x.rd.hd.sl.na (by omega)
  have HS : Hid (N.natAbs < 4294967296 ^ K) := by unfold Hid; rw [hN, Int.natAbs_neg]; exact x.ns
  clear hN
  obtain ⟨W, hW, bW, x_a, x_z, sW⟩ := bs_44 w (.int .i64 s1) (.slice d1 l1 c1) (.int .i64 t1) (.slice g1 h1 k1) (.int .i64 0) (.slice none 0 0) (.int .i64 0) (.slice none 0 0) 41 41
  have zbW := bW.size
  replace x := x.below bW
  have BB := bW
  go_enter Tryz.func75, Tryz.ntmps75
  go_wp2
  rw [← hW]
  clear hW
  have dd1 : Below W.heap.size W W.drew := (Below.refl _ _).drew
  have zdd1 := dd1.size
  replace x := x.below dd1
  replace BB := also BB dd1
  replace x_a := x_a.on dd1
  replace x_z := x_z.on dd1
  refine wp_region_held_drew (S := (fun w' => w'.cell? ⟨w.heap.size, 0, none⟩ = some (.int .i64 s1) ∧ w'.cell? ⟨w.heap.size, 1, none⟩ = some (.slice d1 l1 c1) ∧ w'.cell? ⟨w.heap.size, 2, none⟩ = some (.int .i64 t1) ∧ w'.cell? ⟨w.heap.size, 3, none⟩ = some (.slice g1 h1 k1) ∧ Below w.heap.size w w')) (by kernel_rfl) ?_ (fun hHeld => ?_)
  · first | exact ⟨x_a.c0, x_a.c1, x_a.c2, x_a.c3, BB⟩ | exact ⟨cell_on bw3 hHeld.1, cell_on bw3 hHeld.2.1, cell_on bw3 hHeld.2.2.1, cell_on bw3 hHeld.2.2.2.1, also hHeld.2.2.2.2 bw3⟩ | exact ⟨cell_put4 hHeld.1 (by omega) _ _ _ _, cell_put4 hHeld.2.1 (by omega) _ _ _ _, cell_put4 hHeld.2.2.1 (by omega) _ _ _ _, cell_put4 hHeld.2.2.2.1 (by omega) _ _ _ _, below_put4 hHeld.2.2.2.2 (by omega) _ _ _ _⟩
  refine take_yes (i := 0) (v := ?vr0) rfl (by kernel_rfl) (by kernel_rfl) (by kernel_rfl) (fun _ _ _ h => h) (by rfl) (by assumption) ?hyr0 ?restr0
  case hyr0 => (intro w hSw; (try dsimp only at hSw); first | (go_simp; done) | (go_simp; with_reducible rfl))
  simp only [Act.put, List.setIfInBounds_toArray, List.set_cons_zero, List.set_cons_succ]
  refine take_yes (i := 1) (v := ?vr1) rfl (by kernel_rfl) (by kernel_rfl) (by kernel_rfl) (fun _ _ _ h => h) (by rfl) (by assumption) ?hyr1 ?restr1
  case hyr1 => (intro w hSw; (try dsimp only at hSw); first | (go_simp; done) | (go_simp; with_reducible rfl))
  simp only [Act.put, List.setIfInBounds_toArray, List.set_cons_zero, List.set_cons_succ]
  refine take_yes (i := 3) (v := ?vr3) rfl (by kernel_rfl) (by kernel_rfl) (by kernel_rfl) (fun _ _ _ h => h) (by rfl) (by assumption) ?hyr3 ?restr3
  case hyr3 => (intro w hSw; (try dsimp only at hSw); first | (go_simp; done) | (go_simp; with_reducible rfl))
  simp only [Act.put, List.setIfInBounds_toArray, List.set_cons_zero, List.set_cons_succ]
  refine take_yes (i := 4) (v := ?vr4) rfl (by kernel_rfl) (by kernel_rfl) (by kernel_rfl) (fun _ _ _ h => h) (by rfl) (by assumption) ?hyr4 ?restr4
  case hyr4 => (intro w hSw; (try dsimp only at hSw); first | (go_simp; done) | (go_simp; with_reducible rfl))
  simp only [Act.put, List.setIfInBounds_toArray, List.set_cons_zero, List.set_cons_succ]
  refine take_call (i := 2) rfl (by kernel_rfl) (fun Kc hK => ?_)
  go_simp
  (go_at_call 91; refine (rwNeg s1 d1 l1 c1 N1 N _ x.rn HN.out).mono ?_; rintro e w3 ⟨s3, d3, l3, c3, rfl, h3, f3, bw3⟩)
  refine hK.out _ _ ?_ (fun hHeld => ?_)
  · first | exact ⟨x_a.c0, x_a.c1, x_a.c2, x_a.c3, BB⟩ | exact ⟨cell_on bw3 hHeld.1, cell_on bw3 hHeld.2.1, cell_on bw3 hHeld.2.2.1, cell_on bw3 hHeld.2.2.2.1, also hHeld.2.2.2.2 bw3⟩ | exact ⟨cell_put4 hHeld.1 (by omega) _ _ _ _, cell_put4 hHeld.2.1 (by omega) _ _ _ _, cell_put4 hHeld.2.2.1 (by omega) _ _ _ _, cell_put4 hHeld.2.2.2.1 (by omega) _ _ _ _, below_put4 hHeld.2.2.2.2 (by omega) _ _ _ _⟩
  clear hK Kc
  have zbw3 := bw3.size
  replace x := x.below bw3
  replace BB := also BB bw3
  replace x_a := x_a.on bw3
  replace x_z := x_z.on bw3
  refine take_yes (i := 5) (v := ?vr5) rfl (by kernel_rfl) (by kernel_rfl) (by kernel_rfl) (fun _ _ _ h => h) (by rfl) (by assumption) ?hyr5 ?restr5
  case hyr5 => (intro w hSw; (try dsimp only at hSw); first | (go_simp; done) | (go_simp; with_reducible rfl))
  simp only [Act.put, List.setIfInBounds_toArray, List.set_cons_zero, List.set_cons_succ]
  have ⟨x_z_0, x_z_1, x_z_2, x_z_3, x_z_4, x_z_5, x_z_6, x_z_7⟩ := x_z
  refine take_call (i := 6) rfl (by kernel_rfl) (fun Kc hK => ?_)
  go_simp
  refine hK.out _ _ ?_ (fun hHeld => ?_)
  · first | exact ⟨x_a.c0, x_a.c1, x_a.c2, x_a.c3, BB⟩ | exact ⟨cell_on bw3 hHeld.1, cell_on bw3 hHeld.2.1, cell_on bw3 hHeld.2.2.1, cell_on bw3 hHeld.2.2.2.1, also hHeld.2.2.2.2 bw3⟩ | exact ⟨cell_put4 hHeld.1 (by omega) _ _ _ _, cell_put4 hHeld.2.1 (by omega) _ _ _ _, cell_put4 hHeld.2.2.1 (by omega) _ _ _ _, cell_put4 hHeld.2.2.2.1 (by omega) _ _ _ _, below_put4 hHeld.2.2.2.2 (by omega) _ _ _ _⟩
  clear hK Kc
  refine wpAnyH_done (by kernel_rfl) ?_ _
  go_wp2
  exact bodyPost_ret (v := .agg #[.int .i64 s3, .slice d3 l3 c3, .int .i64 t1, .slice g1 h1 k1]) (by simp [results, Tryz.results75, go_sem, *]) rfl (endRQ _ (by omega) BB ⟨h3, x.rd, x.dp, HS.out, x.ds, x.kk⟩ (f3 _ (by omega) n1) n2 (fun j hj q => ⟨f3 j (by omega) q.1, q.2⟩) _ _ _ _)
end Go.Proofs.YtcaihoomcdbfnaaGreat

namespace Go.Proofs.YtcaihoomcdbfnaaGreat
open Go.RowKit
set_option linter.unusedVariables false

def RQIs (K : Nat) (N : Int) (D : Nat) (x : Value) (R : World → Prop) (A : Nat → Prop) : Prop := ∃ (s : Int) (d : Option Addr) (l c : Nat) (t : Int) (g : Option Addr) (h k : Nat), x = .agg #[.int .i64 s, .slice d l c, .int .i64 t, .slice g h k] ∧ R = (fun w => RQ w K s d l c t g h k N D) ∧ A = fun j => NA j d l ∧ NA j g h
theorem rqIs_good {K : Nat} {N : Int} {D : Nat} {x : Value} {R : World → Prop} {A : Nat → Prop} (h : RQIs K N D x R A) : (∀ w w', R w → Below w.heap.size w w' → R w') ∧ ∀ w k, R w → w.heap.size ≤ k → A k := by
  obtain ⟨s, d, l, c, t, g, h, k, rfl, rfl, rfl⟩ := h
  exact ⟨fun w w' h hb => h.below hb, fun w k h hk => ⟨RN.apart h.rn hk, RN.apart h.rd hk⟩⟩
end Go.Proofs.YtcaihoomcdbfnaaGreat

namespace Go.Proofs.YtcaihoomcdbfnaaGreat
open Go.RowKit
set_option linter.unusedVariables false

set_option maxRecDepth 100000 in
set_option maxHeartbeats 8000000 in
theorem cHalf (f p t : Int) {ph pl : Int} (hph : ph = lw.hi p) (hpl : pl = lw.lo p) {th tl : Int} (hth : th = lw.hi t) (htl : tl = lw.lo t) (Rf : Hid (R64 f)) (Rp : Hid (W128 p)) (Rt : Hid (W128 t)) (h0 : Hid (t ≠ 0)) (Rz : Hid (W256 (f * t + p))) {N : Int} {D : Nat} (hN : N = lowN ((f * t + p) * t.sign) t.natAbs) (hD : D = lowD ((f * t + p) * t.sign) t.natAbs) (w : World) :
    Calls Tryz.prog 25 #[.int .i64 f, .agg #[.int .i64 ph, .int .u64 pl], .agg #[.int .i64 th, .int .u64 tl]] w (GotQ w N D) := by
  have Hph : Hid _ := hph
  have Hpl : Hid _ := hpl
  have Hth : Hid _ := hth
  have Htl : Hid _ := htl
  have HN : Hid _ := hN
  have HD : Hid _ := hD
  clear hph hpl hth htl hN hD
  obtain ⟨fh, hfh⟩ : ∃ z, z = lw.hi (f) := ⟨_, rfl⟩
  obtain ⟨fl, hfl⟩ : ∃ z, z = lw.lo (f) := ⟨_, rfl⟩
  have Hfh : Hid _ := hfh
  have Hfl : Hid _ := hfl
  clear hfh hfl
  obtain ⟨m0, m1, m2, m3, hm⟩ : ∃ q0 q1 q2 q3, lq.Wd (f * t) q0 q1 q2 q3 := ⟨_, _, _, _, lq.wd_self _⟩
  have Hm : Hid _ := hm
  clear hm
  obtain ⟨n0, n1, n2, n3, hn⟩ : ∃ q0 q1 q2 q3, lq.Wd (p) q0 q1 q2 q3 := ⟨_, _, _, _, lq.wd_self _⟩
  have Hn : Hid _ := hn
  clear hn
  obtain ⟨y0, y1, y2, y3, hy⟩ : ∃ q0 q1 q2 q3, lq.Wd (t) q0 q1 q2 q3 := ⟨_, _, _, _, lq.wd_self _⟩
  have Hy : Hid _ := hy
  clear hy
  obtain ⟨z0, z1, z2, z3, hz⟩ : ∃ q0 q1 q2 q3, lq.Wd (f * t + p) q0 q1 q2 q3 := ⟨_, _, _, _, lq.wd_self _⟩
  have Hz : Hid _ := hz
  clear hz
  have Sf : Hid (W128 f) := w128_64 Rf
  have St : Hid (W256 t) := w256_128 Rt
  obtain ⟨W, hW, bW, x_p, x_t, x_r, sW⟩ := bs_223 w (.int .i64 ph) (.int .u64 pl) (.int .i64 th) (.int .u64 tl) (.bool false) (.slice none 0 0) (.slice none 0 0) 61 61 29
  have zbW := bW.size
  have BB := bW
  go_enter Tryz.func25, Tryz.ntmps25
  go_wp2
  rw [← hW]
  clear hW
  have dd1 : Below W.heap.size W W.drew := (Below.refl _ _).drew
  have zdd1 := dd1.size
  replace BB := also BB dd1
  replace x_p := x_p.on dd1
  replace x_t := x_t.on dd1
  replace x_r := x_r.on dd1
  refine wp_region_held_drew (S := (fun w' => w'.cell? ⟨w.heap.size, 0, none⟩ = some (.int .i64 ph) ∧ w'.cell? ⟨w.heap.size, 1, none⟩ = some (.int .u64 pl) ∧ w'.cell? ⟨w.heap.size + 1, 0, none⟩ = some (.int .i64 th) ∧ w'.cell? ⟨w.heap.size + 1, 1, none⟩ = some (.int .u64 tl) ∧ Below w.heap.size w w')) (by kernel_rfl) ?_ (fun hHeld => ?_)
  · exact ⟨x_p.c0, x_p.c1, x_t.c0, x_t.c1, BB⟩
  refine take_yes (i := 0) (v := ?vs0) rfl (by kernel_rfl) (by kernel_rfl) (by kernel_rfl) (fun _ _ _ h => h) (by rfl) (by assumption) ?hys0 ?rests0
  case hys0 => (intro w hSw; (try dsimp only at hSw); first | (go_simp; done) | (go_simp; with_reducible rfl))
  simp only [Act.put, List.setIfInBounds_toArray, List.set_cons_zero, List.set_cons_succ]
  refine take_yes (i := 2) (v := ?vs2) rfl (by kernel_rfl) (by kernel_rfl) (by kernel_rfl) (fun _ _ _ h => h) (by rfl) (by assumption) ?hys2 ?rests2
  case hys2 => (intro w hSw; (try dsimp only at hSw); first | (go_simp; done) | (go_simp; with_reducible rfl))
  simp only [Act.put, List.setIfInBounds_toArray, List.set_cons_zero, List.set_cons_succ]
  refine take_yes (i := 4) (v := ?vs4) rfl (by kernel_rfl) (by kernel_rfl) (by kernel_rfl) (fun _ _ _ h => h) (by rfl) (by assumption) ?hys4 ?rests4
  case hys4 => (intro w hSw; (try dsimp only at hSw); first | (go_simp; done) | (go_simp; with_reducible rfl))
  simp only [Act.put, List.setIfInBounds_toArray, List.set_cons_zero, List.set_cons_succ]
  refine take_yes (i := 7) (v := ?vs7) rfl (by kernel_rfl) (by kernel_rfl) (by kernel_rfl) (fun _ _ _ h => h) (by rfl) (by assumption) ?hys7 ?rests7
  case hys7 => (intro w hSw; (try dsimp only at hSw); first | (go_simp; done) | (go_simp; with_reducible rfl))
  simp only [Act.put, List.setIfInBounds_toArray, List.set_cons_zero, List.set_cons_succ]
  refine take_call (i := 1) rfl (by kernel_rfl) (fun Kc hK => ?_)
  go_simp
  (go_at_call 43; refine (xOf f Rf Hfh.out Hfl.out _).mono ?_; rintro e w1 ⟨rfl, bw1⟩)
  refine hK.out _ _ ?_ (fun hHeld => ?_)
  · exact ⟨cell_on bw1 hHeld.1, cell_on bw1 hHeld.2.1, cell_on bw1 hHeld.2.2.1, cell_on bw1 hHeld.2.2.2.1, also hHeld.2.2.2.2 bw1⟩
  clear hK Kc
  have zbw1 := bw1.size
  replace BB := also BB bw1
  replace x_p := x_p.on bw1
  replace x_t := x_t.on bw1
  replace x_r := x_r.on bw1
  refine take_call (i := 3) rfl (by kernel_rfl) (fun Kc hK => ?_)
  go_simp
  (go_at_call 34; refine (xMul f t Hfh.out Hfl.out Hth.out Htl.out Sf Rt Hm.out _).mono ?_; rintro e w2 ⟨rfl, bw2⟩)
  refine hK.out _ _ ?_ (fun hHeld => ?_)
  · exact ⟨cell_on bw2 hHeld.1, cell_on bw2 hHeld.2.1, cell_on bw2 hHeld.2.2.1, cell_on bw2 hHeld.2.2.2.1, also hHeld.2.2.2.2 bw2⟩
  clear hK Kc
  have zbw2 := bw2.size
  replace BB := also BB bw2
  replace x_p := x_p.on bw2
  replace x_t := x_t.on bw2
  replace x_r := x_r.on bw2
  refine take_call (i := 5) rfl (by kernel_rfl) (fun Kc hK => ?_)
  go_simp
  (go_at_call 57; refine (xQof p Hph.out Hpl.out Rp Hn.out _).mono ?_; rintro e w3 ⟨rfl, bw3⟩)
  refine hK.out _ _ ?_ (fun hHeld => ?_)
  · exact ⟨cell_on bw3 hHeld.1, cell_on bw3 hHeld.2.1, cell_on bw3 hHeld.2.2.1, cell_on bw3 hHeld.2.2.2.1, also hHeld.2.2.2.2 bw3⟩
  clear hK Kc
  have zbw3 := bw3.size
  replace BB := also BB bw3
  replace x_p := x_p.on bw3
  replace x_t := x_t.on bw3
  replace x_r := x_r.on bw3
  refine take_call (i := 6) rfl (by kernel_rfl) (fun Kc hK => ?_)
  go_simp
  (go_at_call 56; refine (xQadd _ _ Hm.out Hn.out Hz.out _).mono ?_; rintro e w4 ⟨rfl, bw4⟩)
  refine hK.out _ _ ?_ (fun hHeld => ?_)
  · exact ⟨cell_on bw4 hHeld.1, cell_on bw4 hHeld.2.1, cell_on bw4 hHeld.2.2.1, cell_on bw4 hHeld.2.2.2.1, also hHeld.2.2.2.2 bw4⟩
  clear hK Kc
  have zbw4 := bw4.size
  replace BB := also BB bw4
  replace x_p := x_p.on bw4
  replace x_t := x_t.on bw4
  replace x_r := x_r.on bw4
  refine take_call (i := 8) rfl (by kernel_rfl) (fun Kc hK => ?_)
  go_simp
  (go_at_call 57; refine (xQof t Hth.out Htl.out Rt Hy.out _).mono ?_; rintro e w5 ⟨rfl, bw5⟩)
  refine hK.out _ _ ?_ (fun hHeld => ?_)
  · exact ⟨cell_on bw5 hHeld.1, cell_on bw5 hHeld.2.1, cell_on bw5 hHeld.2.2.1, cell_on bw5 hHeld.2.2.2.1, also hHeld.2.2.2.2 bw5⟩
  clear hK Kc
  have zbw5 := bw5.size
  replace BB := also BB bw5
  replace x_p := x_p.on bw5
  replace x_t := x_t.on bw5
  replace x_r := x_r.on bw5
  refine take_call (i := 9) rfl (by kernel_rfl) (fun Kc hK => ?_)
  go_simp
  (go_at_call 32; refine (cFrac _ _ Hz.out Hy.out Rz St h0 HN.out HD.out _).mono ?_; rintro e w6 ⟨n3, a3, l3, c3, d3, m3, k3, rfl, h3, f3, g3, bw6⟩)
  refine hK.out _ _ ?_ (fun hHeld => ?_)
  · exact ⟨cell_on bw6 hHeld.1, cell_on bw6 hHeld.2.1, cell_on bw6 hHeld.2.2.1, cell_on bw6 hHeld.2.2.2.1, also hHeld.2.2.2.2 bw6⟩
  clear hK Kc
  have zbw6 := bw6.size
  replace BB := also BB bw6
  replace x_p := x_p.on bw6
  replace x_t := x_t.on bw6
  replace x_r := x_r.on bw6
  have ⟨x_r_0, x_r_1, x_r_2, x_r_3, x_r_4, x_r_5⟩ := x_r
  refine take_call (i := 10) rfl (by kernel_rfl) (fun Kc hK => ?_)
  go_simp
  refine hK.out _ _ ?_ (fun hHeld => ?_)
  · first | exact ⟨cell_put3 hHeld.1 (by omega) _ _ _, cell_put3 hHeld.2.1 (by omega) _ _ _, cell_put3 hHeld.2.2.1 (by omega) _ _ _, cell_put3 hHeld.2.2.2.1 (by omega) _ _ _, below_put3 hHeld.2.2.2.2 (by omega) _ _ _⟩ | exact ⟨x_p.c0, x_p.c1, x_t.c0, x_t.c1, BB⟩
  clear hK Kc
  refine wpAnyH_done (by kernel_rfl) ?_ _
  go_wp2
  exact bodyPost_ret (v := .agg #[.bool n3, .slice a3 l3 c3, .slice d3 m3 k3]) (by simp [results, Tryz.results25, go_sem, *]) rfl (endQ _ (by omega) BB h3 (f3.mono (by omega)) (g3.mono (by omega)) _ _ _)
end Go.Proofs.YtcaihoomcdbfnaaGreat

namespace Go.Proofs.YtcaihoomcdbfnaaGreat
open Go.RowKit
set_option linter.unusedVariables false

theorem far_b (u v x y : Int) : (offX u v x y - 2 * (u * y - v * x) * u) * (offX u v x y - 2 * (u * y - v * x) * u) + (offY u v x y - 2 * (u * y - v * x) * v) * (offY u v x y - 2 * (u * y - v * x) * v) = (u * u + v * v) * (x * x + y * y) * ((x - u) * (x - u) + (y - v) * (y - v)) := by unfold offX offY; grind
theorem far_c (u v x y : Int) : (offX u v x y - 2 * (u * y - v * x) * x) * (offX u v x y - 2 * (u * y - v * x) * x) + (offY u v x y - 2 * (u * y - v * x) * y) * (offY u v x y - 2 * (u * y - v * x) * y) = (u * u + v * v) * (x * x + y * y) * ((x - u) * (x - u) + (y - v) * (y - v)) := by unfold offX offY; grind
/-- The center is as far from all three corners. -/
theorem cen_far_a (a1 a2 b1 b2 c1 c2 : Int) : (cenX a1 a2 b1 b2 c1 c2 - 2 * areaP a1 a2 b1 b2 c1 c2 * a1) * (cenX a1 a2 b1 b2 c1 c2 - 2 * areaP a1 a2 b1 b2 c1 c2 * a1) + (cenY a1 a2 b1 b2 c1 c2 - 2 * areaP a1 a2 b1 b2 c1 c2 * a2) * (cenY a1 a2 b1 b2 c1 c2 - 2 * areaP a1 a2 b1 b2 c1 c2 * a2) = rad2 a1 a2 b1 b2 c1 c2 := by
  obtain ⟨e1, e2, e3, e4⟩ := sides a1 a2 b1 b2 c1 c2
  have h := far_a (b1 - a1) (b2 - a2) (c1 - a1) (c2 - a2)
  rw [← e1, ← e2, ← e3] at h
  unfold cenX cenY rad2
  rw [← h]
  generalize offX (b1 - a1) (b2 - a2) (c1 - a1) (c2 - a2) = X
  generalize offY (b1 - a1) (b2 - a2) (c1 - a1) (c2 - a2) = Y
  generalize areaP a1 a2 b1 b2 c1 c2 = A
  grind
theorem cen_far_b (a1 a2 b1 b2 c1 c2 : Int) : (cenX a1 a2 b1 b2 c1 c2 - 2 * areaP a1 a2 b1 b2 c1 c2 * b1) * (cenX a1 a2 b1 b2 c1 c2 - 2 * areaP a1 a2 b1 b2 c1 c2 * b1) + (cenY a1 a2 b1 b2 c1 c2 - 2 * areaP a1 a2 b1 b2 c1 c2 * b2) * (cenY a1 a2 b1 b2 c1 c2 - 2 * areaP a1 a2 b1 b2 c1 c2 * b2) = rad2 a1 a2 b1 b2 c1 c2 := by
  obtain ⟨e1, e2, e3, e4⟩ := sides a1 a2 b1 b2 c1 c2
  have h := far_b (b1 - a1) (b2 - a2) (c1 - a1) (c2 - a2)
  rw [← e1, ← e2, ← e3, ← e4] at h
  unfold cenX cenY rad2
  rw [← h]
  generalize offX (b1 - a1) (b2 - a2) (c1 - a1) (c2 - a2) = X
  generalize offY (b1 - a1) (b2 - a2) (c1 - a1) (c2 - a2) = Y
  generalize areaP a1 a2 b1 b2 c1 c2 = A
  grind
theorem cen_far_c (a1 a2 b1 b2 c1 c2 : Int) : (cenX a1 a2 b1 b2 c1 c2 - 2 * areaP a1 a2 b1 b2 c1 c2 * c1) * (cenX a1 a2 b1 b2 c1 c2 - 2 * areaP a1 a2 b1 b2 c1 c2 * c1) + (cenY a1 a2 b1 b2 c1 c2 - 2 * areaP a1 a2 b1 b2 c1 c2 * c2) * (cenY a1 a2 b1 b2 c1 c2 - 2 * areaP a1 a2 b1 b2 c1 c2 * c2) = rad2 a1 a2 b1 b2 c1 c2 := by
  obtain ⟨e1, e2, e3, e4⟩ := sides a1 a2 b1 b2 c1 c2
  have h := far_c (b1 - a1) (b2 - a2) (c1 - a1) (c2 - a2)
  rw [← e1, ← e2, ← e3, ← e4] at h
  unfold cenX cenY rad2
  rw [← h]
  generalize offX (b1 - a1) (b2 - a2) (c1 - a1) (c2 - a2) = X
  generalize offY (b1 - a1) (b2 - a2) (c1 - a1) (c2 - a2) = Y
  generalize areaP a1 a2 b1 b2 c1 c2 = A
  grind
end Go.Proofs.YtcaihoomcdbfnaaGreat

namespace Go.Proofs.YtcaihoomcdbfnaaGreat
open Go.RowKit
set_option linter.unusedVariables false

set_option maxRecDepth 100000 in
set_option maxHeartbeats 1000000 in
theorem rqMul (s1 : Int) (d1 : Option Addr) (l1 c1 : Nat) (t1 : Int) (g1 : Option Addr) (h1 k1 : Nat) (N1 : Int) (D1 : Nat) (s2 : Int) (d2 : Option Addr) (l2 c2 : Nat) (t2 : Int) (g2 : Option Addr) (h2 k2 : Nat) (N2 : Int) (D2 : Nat) (K : Nat) (w : World) (x : RQ w K s1 d1 l1 c1 t1 g1 h1 k1 N1 D1) (y : RQ w K s2 d2 l2 c2 t2 g2 h2 k2 N2 D2) (kk : K + K ≤ 10000) (N : Int) (D : Nat) (hN : N = N1 * N2) (hD : D = D1 * D2) :
    Calls Tryz.prog 41 #[.agg #[.int .i64 s1, .slice d1 l1 c1, .int .i64 t1, .slice g1 h1 k1], .agg #[.int .i64 s2, .slice d2 l2 c2, .int .i64 t2, .slice g2 h2 k2]] w (GotRQ w (fun _ => True) (K + K) N D) := by
  have fx := x.fn
  have fy := y.fn
  have gx := x.fd
  have gy := y.fd
  have HS : Hid (N.natAbs < 4294967296 ^ (K + K)) := by unfold Hid; rw [hN]; exact abs_mul' x.ns y.ns
  have HT : Hid (D < 4294967296 ^ (K + K)) := by unfold Hid; rw [hD]; exact nat_mul' x.ds y.ds
  have d0 : 0 < D := by rw [hD]; exact Nat.mul_pos x.dp y.dp
  have HN : Hid _ := hN
  have HD : Hid ((D : Int) = (D1 : Int) * (D2 : Int)) := by unfold Hid; rw [hD]; simp
  clear hN hD
  obtain ⟨W, hW, bW, x_a, x_b, x_z, sW⟩ := bs_444 w (.int .i64 s1) (.slice d1 l1 c1) (.int .i64 t1) (.slice g1 h1 k1) (.int .i64 s2) (.slice d2 l2 c2) (.int .i64 t2) (.slice g2 h2 k2) (.int .i64 0) (.slice none 0 0) (.int .i64 0) (.slice none 0 0) 41 41 41
  have zbW := bW.size
  replace x := x.below bW
  replace y := y.below bW
  have BB := bW
  go_enter Tryz.func41, Tryz.ntmps41
  go_wp2
  rw [← hW]
  clear hW
  have dd1 : Below W.heap.size W W.drew := (Below.refl _ _).drew
  have zdd1 := dd1.size
  replace x := x.below dd1
  replace y := y.below dd1
  replace BB := also BB dd1
  replace x_a := x_a.on dd1
  replace x_b := x_b.on dd1
  replace x_z := x_z.on dd1
  refine wp_region_held_drew (S := (fun w' => w'.cell? ⟨w.heap.size, 0, none⟩ = some (.int .i64 s1) ∧ w'.cell? ⟨w.heap.size, 1, none⟩ = some (.slice d1 l1 c1) ∧ w'.cell? ⟨w.heap.size, 2, none⟩ = some (.int .i64 t1) ∧ w'.cell? ⟨w.heap.size, 3, none⟩ = some (.slice g1 h1 k1) ∧ w'.cell? ⟨w.heap.size + 1, 0, none⟩ = some (.int .i64 s2) ∧ w'.cell? ⟨w.heap.size + 1, 1, none⟩ = some (.slice d2 l2 c2) ∧ w'.cell? ⟨w.heap.size + 1, 2, none⟩ = some (.int .i64 t2) ∧ w'.cell? ⟨w.heap.size + 1, 3, none⟩ = some (.slice g2 h2 k2) ∧ Below w.heap.size w w')) (by kernel_rfl) ?_ (fun hHeld => ?_)
  · first | exact ⟨x_a.c0, x_a.c1, x_a.c2, x_a.c3, x_b.c0, x_b.c1, x_b.c2, x_b.c3, BB⟩ | exact ⟨cell_on bw6 hHeld.1, cell_on bw6 hHeld.2.1, cell_on bw6 hHeld.2.2.1, cell_on bw6 hHeld.2.2.2.1, cell_on bw6 hHeld.2.2.2.2.1, cell_on bw6 hHeld.2.2.2.2.2.1, cell_on bw6 hHeld.2.2.2.2.2.2.1, cell_on bw6 hHeld.2.2.2.2.2.2.2.1, also hHeld.2.2.2.2.2.2.2.2 bw6⟩ | exact ⟨cell_on bw3 hHeld.1, cell_on bw3 hHeld.2.1, cell_on bw3 hHeld.2.2.1, cell_on bw3 hHeld.2.2.2.1, cell_on bw3 hHeld.2.2.2.2.1, cell_on bw3 hHeld.2.2.2.2.2.1, cell_on bw3 hHeld.2.2.2.2.2.2.1, cell_on bw3 hHeld.2.2.2.2.2.2.2.1, also hHeld.2.2.2.2.2.2.2.2 bw3⟩ | exact ⟨cell_put4 hHeld.1 (by omega) _ _ _ _, cell_put4 hHeld.2.1 (by omega) _ _ _ _, cell_put4 hHeld.2.2.1 (by omega) _ _ _ _, cell_put4 hHeld.2.2.2.1 (by omega) _ _ _ _, cell_put4 hHeld.2.2.2.2.1 (by omega) _ _ _ _, cell_put4 hHeld.2.2.2.2.2.1 (by omega) _ _ _ _, cell_put4 hHeld.2.2.2.2.2.2.1 (by omega) _ _ _ _, cell_put4 hHeld.2.2.2.2.2.2.2.1 (by omega) _ _ _ _, below_put4 hHeld.2.2.2.2.2.2.2.2 (by omega) _ _ _ _⟩
  refine take_yes (i := 0) (v := ?vr0) rfl (by kernel_rfl) (by kernel_rfl) (by kernel_rfl) (fun _ _ _ h => h) (by rfl) (by assumption) ?hyr0 ?restr0
  case hyr0 => (intro w hSw; (try dsimp only at hSw); first | (go_simp; done) | (go_simp; with_reducible rfl))
  simp only [Act.put, List.setIfInBounds_toArray, List.set_cons_zero, List.set_cons_succ]
  refine take_yes (i := 1) (v := ?vr1) rfl (by kernel_rfl) (by kernel_rfl) (by kernel_rfl) (fun _ _ _ h => h) (by rfl) (by assumption) ?hyr1 ?restr1
  case hyr1 => (intro w hSw; (try dsimp only at hSw); first | (go_simp; done) | (go_simp; with_reducible rfl))
  simp only [Act.put, List.setIfInBounds_toArray, List.set_cons_zero, List.set_cons_succ]
  refine take_yes (i := 2) (v := ?vr2) rfl (by kernel_rfl) (by kernel_rfl) (by kernel_rfl) (fun _ _ _ h => h) (by rfl) (by assumption) ?hyr2 ?restr2
  case hyr2 => (intro w hSw; (try dsimp only at hSw); first | (go_simp; done) | (go_simp; with_reducible rfl))
  simp only [Act.put, List.setIfInBounds_toArray, List.set_cons_zero, List.set_cons_succ]
  refine take_yes (i := 3) (v := ?vr3) rfl (by kernel_rfl) (by kernel_rfl) (by kernel_rfl) (fun _ _ _ h => h) (by rfl) (by assumption) ?hyr3 ?restr3
  case hyr3 => (intro w hSw; (try dsimp only at hSw); first | (go_simp; done) | (go_simp; with_reducible rfl))
  simp only [Act.put, List.setIfInBounds_toArray, List.set_cons_zero, List.set_cons_succ]
  refine take_yes (i := 5) (v := ?vr5) rfl (by kernel_rfl) (by kernel_rfl) (by kernel_rfl) (fun _ _ _ h => h) (by rfl) (by assumption) ?hyr5 ?restr5
  case hyr5 => (intro w hSw; (try dsimp only at hSw); first | (go_simp; done) | (go_simp; with_reducible rfl))
  simp only [Act.put, List.setIfInBounds_toArray, List.set_cons_zero, List.set_cons_succ]
  refine take_yes (i := 6) (v := ?vr6) rfl (by kernel_rfl) (by kernel_rfl) (by kernel_rfl) (fun _ _ _ h => h) (by rfl) (by assumption) ?hyr6 ?restr6
  case hyr6 => (intro w hSw; (try dsimp only at hSw); first | (go_simp; done) | (go_simp; with_reducible rfl))
  simp only [Act.put, List.setIfInBounds_toArray, List.set_cons_zero, List.set_cons_succ]
  refine take_yes (i := 7) (v := ?vr7) rfl (by kernel_rfl) (by kernel_rfl) (by kernel_rfl) (fun _ _ _ h => h) (by rfl) (by assumption) ?hyr7 ?restr7
  case hyr7 => (intro w hSw; (try dsimp only at hSw); first | (go_simp; done) | (go_simp; with_reducible rfl))
  simp only [Act.put, List.setIfInBounds_toArray, List.set_cons_zero, List.set_cons_succ]
  refine take_yes (i := 8) (v := ?vr8) rfl (by kernel_rfl) (by kernel_rfl) (by kernel_rfl) (fun _ _ _ h => h) (by rfl) (by assumption) ?hyr8 ?restr8
  case hyr8 => (intro w hSw; (try dsimp only at hSw); first | (go_simp; done) | (go_simp; with_reducible rfl))
  simp only [Act.put, List.setIfInBounds_toArray, List.set_cons_zero, List.set_cons_succ]
  refine take_call (i := 4) rfl (by kernel_rfl) (fun Kc hK => ?_)
  go_simp
  (go_at_call 48; refine (rwMul s1 s2 d1 d2 l1 c1 l2 c2 N1 N2 N _ x.rn y.rn fx fy HN.out).mono ?_; rintro e w3 ⟨s3, d3, l3, c3, rfl, q3, f3, bw3⟩)
  refine hK.out _ _ ?_ (fun hHeld => ?_)
  · first | exact ⟨x_a.c0, x_a.c1, x_a.c2, x_a.c3, x_b.c0, x_b.c1, x_b.c2, x_b.c3, BB⟩ | exact ⟨cell_on bw6 hHeld.1, cell_on bw6 hHeld.2.1, cell_on bw6 hHeld.2.2.1, cell_on bw6 hHeld.2.2.2.1, cell_on bw6 hHeld.2.2.2.2.1, cell_on bw6 hHeld.2.2.2.2.2.1, cell_on bw6 hHeld.2.2.2.2.2.2.1, cell_on bw6 hHeld.2.2.2.2.2.2.2.1, also hHeld.2.2.2.2.2.2.2.2 bw6⟩ | exact ⟨cell_on bw3 hHeld.1, cell_on bw3 hHeld.2.1, cell_on bw3 hHeld.2.2.1, cell_on bw3 hHeld.2.2.2.1, cell_on bw3 hHeld.2.2.2.2.1, cell_on bw3 hHeld.2.2.2.2.2.1, cell_on bw3 hHeld.2.2.2.2.2.2.1, cell_on bw3 hHeld.2.2.2.2.2.2.2.1, also hHeld.2.2.2.2.2.2.2.2 bw3⟩ | exact ⟨cell_put4 hHeld.1 (by omega) _ _ _ _, cell_put4 hHeld.2.1 (by omega) _ _ _ _, cell_put4 hHeld.2.2.1 (by omega) _ _ _ _, cell_put4 hHeld.2.2.2.1 (by omega) _ _ _ _, cell_put4 hHeld.2.2.2.2.1 (by omega) _ _ _ _, cell_put4 hHeld.2.2.2.2.2.1 (by omega) _ _ _ _, cell_put4 hHeld.2.2.2.2.2.2.1 (by omega) _ _ _ _, cell_put4 hHeld.2.2.2.2.2.2.2.1 (by omega) _ _ _ _, below_put4 hHeld.2.2.2.2.2.2.2.2 (by omega) _ _ _ _⟩
  clear hK Kc
  have zbw3 := bw3.size
  replace x := x.below bw3
  replace y := y.below bw3
  replace BB := also BB bw3
  replace x_a := x_a.on bw3
  replace x_b := x_b.on bw3
  replace x_z := x_z.on bw3
  refine take_call (i := 9) rfl (by kernel_rfl) (fun Kc hK => ?_)
  go_simp
  (go_at_call 48; refine (rwMul t1 t2 g1 g2 h1 k1 h2 k2 D1 D2 D _ x.rd y.rd gx gy HD.out).mono ?_; rintro e w6 ⟨s6, d6, l6, c6, rfl, q6, f6, bw6⟩)
  refine hK.out _ _ ?_ (fun hHeld => ?_)
  · first | exact ⟨x_a.c0, x_a.c1, x_a.c2, x_a.c3, x_b.c0, x_b.c1, x_b.c2, x_b.c3, BB⟩ | exact ⟨cell_on bw6 hHeld.1, cell_on bw6 hHeld.2.1, cell_on bw6 hHeld.2.2.1, cell_on bw6 hHeld.2.2.2.1, cell_on bw6 hHeld.2.2.2.2.1, cell_on bw6 hHeld.2.2.2.2.2.1, cell_on bw6 hHeld.2.2.2.2.2.2.1, cell_on bw6 hHeld.2.2.2.2.2.2.2.1, also hHeld.2.2.2.2.2.2.2.2 bw6⟩ | exact ⟨cell_on bw3 hHeld.1, cell_on bw3 hHeld.2.1, cell_on bw3 hHeld.2.2.1, cell_on bw3 hHeld.2.2.2.1, cell_on bw3 hHeld.2.2.2.2.1, cell_on bw3 hHeld.2.2.2.2.2.1, cell_on bw3 hHeld.2.2.2.2.2.2.1, cell_on bw3 hHeld.2.2.2.2.2.2.2.1, also hHeld.2.2.2.2.2.2.2.2 bw3⟩ | exact ⟨cell_put4 hHeld.1 (by omega) _ _ _ _, cell_put4 hHeld.2.1 (by omega) _ _ _ _, cell_put4 hHeld.2.2.1 (by omega) _ _ _ _, cell_put4 hHeld.2.2.2.1 (by omega) _ _ _ _, cell_put4 hHeld.2.2.2.2.1 (by omega) _ _ _ _, cell_put4 hHeld.2.2.2.2.2.1 (by omega) _ _ _ _, cell_put4 hHeld.2.2.2.2.2.2.1 (by omega) _ _ _ _, cell_put4 hHeld.2.2.2.2.2.2.2.1 (by omega) _ _ _ _, below_put4 hHeld.2.2.2.2.2.2.2.2 (by omega) _ _ _ _⟩
  clear hK Kc
  have zbw6 := bw6.size
  replace x := x.below bw6
  replace y := y.below bw6
  replace BB := also BB bw6
  replace x_a := x_a.on bw6
  replace x_b := x_b.on bw6
  replace x_z := x_z.on bw6
  replace q3 := q3.below bw6
  refine take_yes (i := 10) (v := ?vr10) rfl (by kernel_rfl) (by kernel_rfl) (by kernel_rfl) (fun _ _ _ h => h) (by rfl) (by assumption) ?hyr10 ?restr10
  case hyr10 => (intro w hSw; (try dsimp only at hSw); first | (go_simp; done) | (go_simp; with_reducible rfl))
  simp only [Act.put, List.setIfInBounds_toArray, List.set_cons_zero, List.set_cons_succ]
  have ⟨x_z_0, x_z_1, x_z_2, x_z_3, x_z_4, x_z_5, x_z_6, x_z_7⟩ := x_z
  refine take_call (i := 11) rfl (by kernel_rfl) (fun Kc hK => ?_)
  go_simp
  refine hK.out _ _ ?_ (fun hHeld => ?_)
  · first | exact ⟨x_a.c0, x_a.c1, x_a.c2, x_a.c3, x_b.c0, x_b.c1, x_b.c2, x_b.c3, BB⟩ | exact ⟨cell_on bw6 hHeld.1, cell_on bw6 hHeld.2.1, cell_on bw6 hHeld.2.2.1, cell_on bw6 hHeld.2.2.2.1, cell_on bw6 hHeld.2.2.2.2.1, cell_on bw6 hHeld.2.2.2.2.2.1, cell_on bw6 hHeld.2.2.2.2.2.2.1, cell_on bw6 hHeld.2.2.2.2.2.2.2.1, also hHeld.2.2.2.2.2.2.2.2 bw6⟩ | exact ⟨cell_on bw3 hHeld.1, cell_on bw3 hHeld.2.1, cell_on bw3 hHeld.2.2.1, cell_on bw3 hHeld.2.2.2.1, cell_on bw3 hHeld.2.2.2.2.1, cell_on bw3 hHeld.2.2.2.2.2.1, cell_on bw3 hHeld.2.2.2.2.2.2.1, cell_on bw3 hHeld.2.2.2.2.2.2.2.1, also hHeld.2.2.2.2.2.2.2.2 bw3⟩ | exact ⟨cell_put4 hHeld.1 (by omega) _ _ _ _, cell_put4 hHeld.2.1 (by omega) _ _ _ _, cell_put4 hHeld.2.2.1 (by omega) _ _ _ _, cell_put4 hHeld.2.2.2.1 (by omega) _ _ _ _, cell_put4 hHeld.2.2.2.2.1 (by omega) _ _ _ _, cell_put4 hHeld.2.2.2.2.2.1 (by omega) _ _ _ _, cell_put4 hHeld.2.2.2.2.2.2.1 (by omega) _ _ _ _, cell_put4 hHeld.2.2.2.2.2.2.2.1 (by omega) _ _ _ _, below_put4 hHeld.2.2.2.2.2.2.2.2 (by omega) _ _ _ _⟩
  clear hK Kc
  refine wpAnyH_done (by kernel_rfl) ?_ _
  go_wp2
  exact bodyPost_ret (v := .agg #[.int .i64 s3, .slice d3 l3 c3, .int .i64 s6, .slice d6 l6 c6]) (by simp [results, Tryz.results41, go_sem, *]) rfl (endRQ _ (by omega) BB ⟨q3, q6, d0, HS.out, HT.out, kk⟩ (f3 _ (by omega) trivial) (f6 _ (by omega) trivial) (fun j hj _ => ⟨f3 j (by omega) trivial, f6 j (by omega) trivial⟩) _ _ _ _)
end Go.Proofs.YtcaihoomcdbfnaaGreat

namespace Go.Proofs.YtcaihoomcdbfnaaGreat
open Go.RowKit
set_option linter.unusedVariables false

set_option maxRecDepth 100000 in
set_option maxHeartbeats 1000000 in
theorem rqSame (n : Bool) (a : Option Addr) (la ca : Nat) (d : Option Addr) (ld cd : Nat) (za : Int) (Da : Nat) (s1 : Int) (d1 : Option Addr) (l1 c1 : Nat) (t1 : Int) (g1 : Option Addr) (h1 k1 : Nat) (N1 : Int) (D1 : Nat) (K : Nat) (w : World) (q : QN w n a la ca d ld cd za Da) (x : RQ w K s1 d1 l1 c1 t1 g1 h1 k1 N1 D1) (hN : za = lowN N1 D1) (hD : Da = lowD N1 D1) :
    Calls Tryz.prog 14 #[.agg #[.bool n, .slice a la ca, .slice d ld cd], .agg #[.int .i64 s1, .slice d1 l1 c1, .int .i64 t1, .slice g1 h1 k1]] w fun e w' => e = .returned (.bool true) ∧ Below w.heap.size w w' := by
  have HN : Hid _ := hN
  have HD : Hid _ := hD
  clear hN hD
  obtain ⟨W, hW, bW, x_a, x_b, sW⟩ := bs_34 w (.bool n) (.slice a la ca) (.slice d ld cd) (.int .i64 s1) (.slice d1 l1 c1) (.int .i64 t1) (.slice g1 h1 k1) 29 41
  have zbW := bW.size
  replace q := q.below bW
  replace x := x.below bW
  have BB := bW
  go_enter Tryz.func14, Tryz.ntmps14
  go_wp2_with (go_at_call 30; fail)
  rw [← hW]
  clear hW
  refine (rqLow s1 d1 l1 c1 t1 g1 h1 k1 N1 D1 K W x za Da HN.out HD.out).mono ?_
  rintro e w1 ⟨s2, d2, l2, c2, t2, g2, h2, k2, rfl, y, f2, bw1⟩
  have zbw1 := bw1.size
  replace q := q.below bw1
  replace x := x.below bw1
  replace BB := also BB bw1
  replace x_a := x_a.on bw1
  replace x_b := x_b.on bw1
  obtain ⟨V1, hV1, bV1, x_l, sV1⟩ := bs_4 w1 (.int .i64 s2) (.slice d2 l2 c2) (.int .i64 t2) (.slice g2 h2 k2) 41
  have zbV1 := bV1.size
  replace q := q.below bV1
  replace x := x.below bV1
  replace BB := also BB bV1
  replace x_a := x_a.on bV1
  replace x_b := x_b.on bV1
  replace y := y.below bV1
  have st_a_0 : (w1.alloc (.cells #[.int .i64 s2, .slice d2 l2 c2, .int .i64 t2, .slice g2 h2 k2] 41)).cell? ⟨w.heap.size, 0, none⟩ = some (.bool n) := by rw [← hV1]; exact x_a.c0
  have st_a_1 : (w1.alloc (.cells #[.int .i64 s2, .slice d2 l2 c2, .int .i64 t2, .slice g2 h2 k2] 41)).cell? ⟨w.heap.size, 1, none⟩ = some (.slice a la ca) := by rw [← hV1]; exact x_a.c1
  have st_a_2 : (w1.alloc (.cells #[.int .i64 s2, .slice d2 l2 c2, .int .i64 t2, .slice g2 h2 k2] 41)).cell? ⟨w.heap.size, 2, none⟩ = some (.slice d ld cd) := by rw [← hV1]; exact x_a.c2
  have sf_a_0 : (w1.alloc (.cells #[.int .i64 s2, .slice d2 l2 c2, .int .i64 t2, .slice g2 h2 k2] 41)).frozen? ⟨w.heap.size, 0, none⟩ = false := by rw [← hV1]; exact x_a.f0
  have sf_a_1 : (w1.alloc (.cells #[.int .i64 s2, .slice d2 l2 c2, .int .i64 t2, .slice g2 h2 k2] 41)).frozen? ⟨w.heap.size, 1, none⟩ = false := by rw [← hV1]; exact x_a.f1
  have sf_a_2 : (w1.alloc (.cells #[.int .i64 s2, .slice d2 l2 c2, .int .i64 t2, .slice g2 h2 k2] 41)).frozen? ⟨w.heap.size, 2, none⟩ = false := by rw [← hV1]; exact x_a.f2
  go_wp2_with (go_at_call 35; fail)
  rw [← hV1]
  clear hV1 st_a_0 st_a_1 st_a_2 sf_a_0 sf_a_1 sf_a_2
  refine (rwSame n s2 a d2 la ca l2 c2 za V1 q.wn y.rn y.fn).mono ?_
  rintro e w2 ⟨rfl, bw2⟩
  have zbw2 := bw2.size
  replace q := q.below bw2
  replace x := x.below bw2
  replace BB := also BB bw2
  replace x_a := x_a.on bw2
  replace x_b := x_b.on bw2
  replace y := y.below bw2
  replace x_l := x_l.on bw2
  have ⟨x_a_0, x_a_1, x_a_2, x_a_3, x_a_4, x_a_5⟩ := x_a
  have ⟨x_l_0, x_l_1, x_l_2, x_l_3, x_l_4, x_l_5, x_l_6, x_l_7⟩ := x_l
  go_wp2_with (go_at_call 36; fail)
  refine (hSame d g2 ld h2 cd k2 Da w2 q.nd.sl q.nd.len (by have := y.rd.hd; rwa [Int.natAbs_natCast] at this) (by have := y.fd; rwa [Int.natAbs_natCast] at this)).mono ?_
  rintro e w3 ⟨rfl, bw3⟩
  clear x_a_0 x_a_1 x_a_2 x_a_3 x_a_4 x_a_5 x_l_0 x_l_1 x_l_2 x_l_3 x_l_4 x_l_5 x_l_6 x_l_7
  have zbw3 := bw3.size
  replace q := q.below bw3
  replace x := x.below bw3
  replace BB := also BB bw3
  replace x_a := x_a.on bw3
  replace x_b := x_b.on bw3
  replace y := y.below bw3
  replace x_l := x_l.on bw3
  go_wp2
  go_ret
  exact ⟨rfl, BB⟩
end Go.Proofs.YtcaihoomcdbfnaaGreat

namespace Go.Proofs.YtcaihoomcdbfnaaGreat
open Go.RowKit
set_option linter.unusedVariables false

theorem b8_new (w : World) (x0 x1 x2 x3 x4 x5 x6 x7 : Value) (t : TypeId) : B8 (w.alloc (.cells #[x0, x1, x2, x3, x4, x5, x6, x7] t)) w.heap.size x0 x1 x2 x3 x4 x5 x6 x7 := by
  have h := Row.new w [x0, x1, x2, x3, x4, x5, x6, x7] t
  exact ⟨h.cell 0 _ rfl, h.cell 1 _ rfl, h.cell 2 _ rfl, h.cell 3 _ rfl, h.cell 4 _ rfl, h.cell 5 _ rfl, h.cell 6 _ rfl, h.cell 7 _ rfl, h.free 0 (by simp), h.free 1 (by simp), h.free 2 (by simp), h.free 3 (by simp), h.free 4 (by simp), h.free 5 (by simp), h.free 6 (by simp), h.free 7 (by simp)⟩
end Go.Proofs.YtcaihoomcdbfnaaGreat

namespace Go.Proofs.YtcaihoomcdbfnaaGreat
open Go.RowKit
set_option linter.unusedVariables false

theorem below_put8 {B b : Nat} {w w' : World} (h : Below B w w') (hb : B ≤ b) (u0 u1 u2 u3 u4 u5 u6 u7 : Value) : Below B w ((((((((w'.setCell ⟨b, 0, none⟩ u0).setCell ⟨b, 1, none⟩ u1).setCell ⟨b, 2, none⟩ u2).setCell ⟨b, 3, none⟩ u3).setCell ⟨b, 4, none⟩ u4).setCell ⟨b, 5, none⟩ u5).setCell ⟨b, 6, none⟩ u6).setCell ⟨b, 7, none⟩ u7) := ((((((((h.setCell hb u0).setCell hb u1).setCell hb u2).setCell hb u3).setCell hb u4).setCell hb u5).setCell hb u6).setCell hb u7)
theorem cell_put8 {w : World} {n k i : Nat} {x : Value} (h : w.cell? ⟨n, i, none⟩ = some x) (hk : n ≠ k) (u0 u1 u2 u3 u4 u5 u6 u7 : Value) : ((((((((w.setCell ⟨k, 0, none⟩ u0).setCell ⟨k, 1, none⟩ u1).setCell ⟨k, 2, none⟩ u2).setCell ⟨k, 3, none⟩ u3).setCell ⟨k, 4, none⟩ u4).setCell ⟨k, 5, none⟩ u5).setCell ⟨k, 6, none⟩ u6).setCell ⟨k, 7, none⟩ u7).cell? ⟨n, i, none⟩ = some x := (cell_put1 (cell_put1 (cell_put1 (cell_put1 (cell_put1 (cell_put1 (cell_put1 (cell_put1 h hk u0) hk u1) hk u2) hk u3) hk u4) hk u5) hk u6) hk u7)
end Go.Proofs.YtcaihoomcdbfnaaGreat

namespace Go.Proofs.YtcaihoomcdbfnaaGreat
open Go.RowKit
set_option linter.unusedVariables false

set_option maxRecDepth 100000 in
set_option maxHeartbeats 1000000 in
theorem rqAdd (s1 : Int) (d1 : Option Addr) (l1 c1 : Nat) (t1 : Int) (g1 : Option Addr) (h1 k1 : Nat) (N1 : Int) (D1 : Nat) (s2 : Int) (d2 : Option Addr) (l2 c2 : Nat) (t2 : Int) (g2 : Option Addr) (h2 k2 : Nat) (N2 : Int) (D2 : Nat) (K : Nat) (w : World) (x : RQ w K s1 d1 l1 c1 t1 g1 h1 k1 N1 D1) (y : RQ w K s2 d2 l2 c2 t2 g2 h2 k2 N2 D2) (kk : K + K + 1 ≤ 10000) (N : Int) (D : Nat) (hN : N = N1 * (D2 : Int) + N2 * (D1 : Int)) (hD : D = D1 * D2) :
    Calls Tryz.prog 21 #[.agg #[.int .i64 s1, .slice d1 l1 c1, .int .i64 t1, .slice g1 h1 k1], .agg #[.int .i64 s2, .slice d2 l2 c2, .int .i64 t2, .slice g2 h2 k2]] w (GotRQ w (fun _ => True) (K + K + 1) N D) := by
  have fx := x.fn
  have fy := y.fn
  have gx := x.fd
  have gy := y.fd
  have HS : Hid (N.natAbs < 4294967296 ^ (K + K + 1)) := by unfold Hid; rw [hN]; exact abs_add' (abs_mul' x.ns (by simpa using y.ds)) (abs_mul' y.ns (by simpa using x.ds))
  have HT : Hid (D < 4294967296 ^ (K + K + 1)) := by unfold Hid; rw [hD]; exact Nat.lt_of_lt_of_le (nat_mul' x.ds y.ds) (Nat.pow_le_pow_right (by decide) (by omega))
  have d0 : 0 < D := by rw [hD]; exact Nat.mul_pos x.dp y.dp
  have f1 : hf.nlen (N1 * (D2 : Int)).natAbs ≤ 1000000 := hfew (abs_mul' x.ns (by simpa using y.ds)) (by omega)
  have f2 : hf.nlen (N2 * (D1 : Int)).natAbs ≤ 1000000 := hfew (abs_mul' y.ns (by simpa using x.ds)) (by omega)
  have HN : Hid _ := hN
  have HD : Hid ((D : Int) = (D1 : Int) * (D2 : Int)) := by unfold Hid; rw [hD]; simp
  clear hN hD
  obtain ⟨W, hW, bW, x_a, x_b, x_z, sW⟩ := bs_444 w (.int .i64 s1) (.slice d1 l1 c1) (.int .i64 t1) (.slice g1 h1 k1) (.int .i64 s2) (.slice d2 l2 c2) (.int .i64 t2) (.slice g2 h2 k2) (.int .i64 0) (.slice none 0 0) (.int .i64 0) (.slice none 0 0) 41 41 41
  have zbW := bW.size
  replace x := x.below bW
  replace y := y.below bW
  have BB := bW
  go_enter Tryz.func21, Tryz.ntmps21
  go_wp2
  rw [← hW]
  clear hW
  have dd1 : Below W.heap.size W W.drew := (Below.refl _ _).drew
  have zdd1 := dd1.size
  replace x := x.below dd1
  replace y := y.below dd1
  replace BB := also BB dd1
  replace x_a := x_a.on dd1
  replace x_b := x_b.on dd1
  replace x_z := x_z.on dd1
  refine wp_region_held_drew (S := (fun w' => w'.cell? ⟨w.heap.size, 0, none⟩ = some (.int .i64 s1) ∧ w'.cell? ⟨w.heap.size, 1, none⟩ = some (.slice d1 l1 c1) ∧ w'.cell? ⟨w.heap.size, 2, none⟩ = some (.int .i64 t1) ∧ w'.cell? ⟨w.heap.size, 3, none⟩ = some (.slice g1 h1 k1) ∧ w'.cell? ⟨w.heap.size + 1, 0, none⟩ = some (.int .i64 s2) ∧ w'.cell? ⟨w.heap.size + 1, 1, none⟩ = some (.slice d2 l2 c2) ∧ w'.cell? ⟨w.heap.size + 1, 2, none⟩ = some (.int .i64 t2) ∧ w'.cell? ⟨w.heap.size + 1, 3, none⟩ = some (.slice g2 h2 k2) ∧ Below w.heap.size w w')) (by kernel_rfl) ?_ (fun hHeld => ?_)
  · first | exact ⟨x_a.c0, x_a.c1, x_a.c2, x_a.c3, x_b.c0, x_b.c1, x_b.c2, x_b.c3, BB⟩ | exact ⟨cell_on bw6 hHeld.1, cell_on bw6 hHeld.2.1, cell_on bw6 hHeld.2.2.1, cell_on bw6 hHeld.2.2.2.1, cell_on bw6 hHeld.2.2.2.2.1, cell_on bw6 hHeld.2.2.2.2.2.1, cell_on bw6 hHeld.2.2.2.2.2.2.1, cell_on bw6 hHeld.2.2.2.2.2.2.2.1, also hHeld.2.2.2.2.2.2.2.2 bw6⟩ | exact ⟨cell_on bw5 hHeld.1, cell_on bw5 hHeld.2.1, cell_on bw5 hHeld.2.2.1, cell_on bw5 hHeld.2.2.2.1, cell_on bw5 hHeld.2.2.2.2.1, cell_on bw5 hHeld.2.2.2.2.2.1, cell_on bw5 hHeld.2.2.2.2.2.2.1, cell_on bw5 hHeld.2.2.2.2.2.2.2.1, also hHeld.2.2.2.2.2.2.2.2 bw5⟩ | exact ⟨cell_on bw4 hHeld.1, cell_on bw4 hHeld.2.1, cell_on bw4 hHeld.2.2.1, cell_on bw4 hHeld.2.2.2.1, cell_on bw4 hHeld.2.2.2.2.1, cell_on bw4 hHeld.2.2.2.2.2.1, cell_on bw4 hHeld.2.2.2.2.2.2.1, cell_on bw4 hHeld.2.2.2.2.2.2.2.1, also hHeld.2.2.2.2.2.2.2.2 bw4⟩ | exact ⟨cell_on bw3 hHeld.1, cell_on bw3 hHeld.2.1, cell_on bw3 hHeld.2.2.1, cell_on bw3 hHeld.2.2.2.1, cell_on bw3 hHeld.2.2.2.2.1, cell_on bw3 hHeld.2.2.2.2.2.1, cell_on bw3 hHeld.2.2.2.2.2.2.1, cell_on bw3 hHeld.2.2.2.2.2.2.2.1, also hHeld.2.2.2.2.2.2.2.2 bw3⟩ | exact ⟨cell_put4 hHeld.1 (by omega) _ _ _ _, cell_put4 hHeld.2.1 (by omega) _ _ _ _, cell_put4 hHeld.2.2.1 (by omega) _ _ _ _, cell_put4 hHeld.2.2.2.1 (by omega) _ _ _ _, cell_put4 hHeld.2.2.2.2.1 (by omega) _ _ _ _, cell_put4 hHeld.2.2.2.2.2.1 (by omega) _ _ _ _, cell_put4 hHeld.2.2.2.2.2.2.1 (by omega) _ _ _ _, cell_put4 hHeld.2.2.2.2.2.2.2.1 (by omega) _ _ _ _, below_put4 hHeld.2.2.2.2.2.2.2.2 (by omega) _ _ _ _⟩
  refine take_yes (i := 0) (v := ?vr0) rfl (by kernel_rfl) (by kernel_rfl) (by kernel_rfl) (fun _ _ _ h => h) (by rfl) (by assumption) ?hyr0 ?restr0
  case hyr0 => (intro w hSw; (try dsimp only at hSw); first | (go_simp; done) | (go_simp; with_reducible rfl))
  simp only [Act.put, List.setIfInBounds_toArray, List.set_cons_zero, List.set_cons_succ]
  refine take_yes (i := 1) (v := ?vr1) rfl (by kernel_rfl) (by kernel_rfl) (by kernel_rfl) (fun _ _ _ h => h) (by rfl) (by assumption) ?hyr1 ?restr1
  case hyr1 => (intro w hSw; (try dsimp only at hSw); first | (go_simp; done) | (go_simp; with_reducible rfl))
  simp only [Act.put, List.setIfInBounds_toArray, List.set_cons_zero, List.set_cons_succ]
  refine take_yes (i := 2) (v := ?vr2) rfl (by kernel_rfl) (by kernel_rfl) (by kernel_rfl) (fun _ _ _ h => h) (by rfl) (by assumption) ?hyr2 ?restr2
  case hyr2 => (intro w hSw; (try dsimp only at hSw); first | (go_simp; done) | (go_simp; with_reducible rfl))
  simp only [Act.put, List.setIfInBounds_toArray, List.set_cons_zero, List.set_cons_succ]
  refine take_yes (i := 3) (v := ?vr3) rfl (by kernel_rfl) (by kernel_rfl) (by kernel_rfl) (fun _ _ _ h => h) (by rfl) (by assumption) ?hyr3 ?restr3
  case hyr3 => (intro w hSw; (try dsimp only at hSw); first | (go_simp; done) | (go_simp; with_reducible rfl))
  simp only [Act.put, List.setIfInBounds_toArray, List.set_cons_zero, List.set_cons_succ]
  refine take_yes (i := 5) (v := ?vr5) rfl (by kernel_rfl) (by kernel_rfl) (by kernel_rfl) (fun _ _ _ h => h) (by rfl) (by assumption) ?hyr5 ?restr5
  case hyr5 => (intro w hSw; (try dsimp only at hSw); first | (go_simp; done) | (go_simp; with_reducible rfl))
  simp only [Act.put, List.setIfInBounds_toArray, List.set_cons_zero, List.set_cons_succ]
  refine take_yes (i := 6) (v := ?vr6) rfl (by kernel_rfl) (by kernel_rfl) (by kernel_rfl) (fun _ _ _ h => h) (by rfl) (by assumption) ?hyr6 ?restr6
  case hyr6 => (intro w hSw; (try dsimp only at hSw); first | (go_simp; done) | (go_simp; with_reducible rfl))
  simp only [Act.put, List.setIfInBounds_toArray, List.set_cons_zero, List.set_cons_succ]
  refine take_yes (i := 7) (v := ?vr7) rfl (by kernel_rfl) (by kernel_rfl) (by kernel_rfl) (fun _ _ _ h => h) (by rfl) (by assumption) ?hyr7 ?restr7
  case hyr7 => (intro w hSw; (try dsimp only at hSw); first | (go_simp; done) | (go_simp; with_reducible rfl))
  simp only [Act.put, List.setIfInBounds_toArray, List.set_cons_zero, List.set_cons_succ]
  refine take_yes (i := 8) (v := ?vr8) rfl (by kernel_rfl) (by kernel_rfl) (by kernel_rfl) (fun _ _ _ h => h) (by rfl) (by assumption) ?hyr8 ?restr8
  case hyr8 => (intro w hSw; (try dsimp only at hSw); first | (go_simp; done) | (go_simp; with_reducible rfl))
  simp only [Act.put, List.setIfInBounds_toArray, List.set_cons_zero, List.set_cons_succ]
  refine take_yes (i := 11) (v := ?vr11) rfl (by kernel_rfl) (by kernel_rfl) (by kernel_rfl) (fun _ _ _ h => h) (by rfl) (by assumption) ?hyr11 ?restr11
  case hyr11 => (intro w hSw; (try dsimp only at hSw); first | (go_simp; done) | (go_simp; with_reducible rfl))
  simp only [Act.put, List.setIfInBounds_toArray, List.set_cons_zero, List.set_cons_succ]
  refine take_yes (i := 12) (v := ?vr12) rfl (by kernel_rfl) (by kernel_rfl) (by kernel_rfl) (fun _ _ _ h => h) (by rfl) (by assumption) ?hyr12 ?restr12
  case hyr12 => (intro w hSw; (try dsimp only at hSw); first | (go_simp; done) | (go_simp; with_reducible rfl))
  simp only [Act.put, List.setIfInBounds_toArray, List.set_cons_zero, List.set_cons_succ]
  refine take_yes (i := 13) (v := ?vr13) rfl (by kernel_rfl) (by kernel_rfl) (by kernel_rfl) (fun _ _ _ h => h) (by rfl) (by assumption) ?hyr13 ?restr13
  case hyr13 => (intro w hSw; (try dsimp only at hSw); first | (go_simp; done) | (go_simp; with_reducible rfl))
  simp only [Act.put, List.setIfInBounds_toArray, List.set_cons_zero, List.set_cons_succ]
  refine take_yes (i := 14) (v := ?vr14) rfl (by kernel_rfl) (by kernel_rfl) (by kernel_rfl) (fun _ _ _ h => h) (by rfl) (by assumption) ?hyr14 ?restr14
  case hyr14 => (intro w hSw; (try dsimp only at hSw); first | (go_simp; done) | (go_simp; with_reducible rfl))
  simp only [Act.put, List.setIfInBounds_toArray, List.set_cons_zero, List.set_cons_succ]
  refine take_call (i := 4) rfl (by kernel_rfl) (fun Kc hK => ?_)
  go_simp
  (go_at_call 48; refine (rwMul s1 t2 d1 g2 l1 c1 h2 k2 N1 D2 _ _ x.rn y.rd fx gy rfl).mono ?_; rintro e w3 ⟨s3, d3, l3, c3, rfl, q3, f3, bw3⟩)
  refine hK.out _ _ ?_ (fun hHeld => ?_)
  · first | exact ⟨x_a.c0, x_a.c1, x_a.c2, x_a.c3, x_b.c0, x_b.c1, x_b.c2, x_b.c3, BB⟩ | exact ⟨cell_on bw6 hHeld.1, cell_on bw6 hHeld.2.1, cell_on bw6 hHeld.2.2.1, cell_on bw6 hHeld.2.2.2.1, cell_on bw6 hHeld.2.2.2.2.1, cell_on bw6 hHeld.2.2.2.2.2.1, cell_on bw6 hHeld.2.2.2.2.2.2.1, cell_on bw6 hHeld.2.2.2.2.2.2.2.1, also hHeld.2.2.2.2.2.2.2.2 bw6⟩ | exact ⟨cell_on bw5 hHeld.1, cell_on bw5 hHeld.2.1, cell_on bw5 hHeld.2.2.1, cell_on bw5 hHeld.2.2.2.1, cell_on bw5 hHeld.2.2.2.2.1, cell_on bw5 hHeld.2.2.2.2.2.1, cell_on bw5 hHeld.2.2.2.2.2.2.1, cell_on bw5 hHeld.2.2.2.2.2.2.2.1, also hHeld.2.2.2.2.2.2.2.2 bw5⟩ | exact ⟨cell_on bw4 hHeld.1, cell_on bw4 hHeld.2.1, cell_on bw4 hHeld.2.2.1, cell_on bw4 hHeld.2.2.2.1, cell_on bw4 hHeld.2.2.2.2.1, cell_on bw4 hHeld.2.2.2.2.2.1, cell_on bw4 hHeld.2.2.2.2.2.2.1, cell_on bw4 hHeld.2.2.2.2.2.2.2.1, also hHeld.2.2.2.2.2.2.2.2 bw4⟩ | exact ⟨cell_on bw3 hHeld.1, cell_on bw3 hHeld.2.1, cell_on bw3 hHeld.2.2.1, cell_on bw3 hHeld.2.2.2.1, cell_on bw3 hHeld.2.2.2.2.1, cell_on bw3 hHeld.2.2.2.2.2.1, cell_on bw3 hHeld.2.2.2.2.2.2.1, cell_on bw3 hHeld.2.2.2.2.2.2.2.1, also hHeld.2.2.2.2.2.2.2.2 bw3⟩ | exact ⟨cell_put4 hHeld.1 (by omega) _ _ _ _, cell_put4 hHeld.2.1 (by omega) _ _ _ _, cell_put4 hHeld.2.2.1 (by omega) _ _ _ _, cell_put4 hHeld.2.2.2.1 (by omega) _ _ _ _, cell_put4 hHeld.2.2.2.2.1 (by omega) _ _ _ _, cell_put4 hHeld.2.2.2.2.2.1 (by omega) _ _ _ _, cell_put4 hHeld.2.2.2.2.2.2.1 (by omega) _ _ _ _, cell_put4 hHeld.2.2.2.2.2.2.2.1 (by omega) _ _ _ _, below_put4 hHeld.2.2.2.2.2.2.2.2 (by omega) _ _ _ _⟩
  clear hK Kc
  have zbw3 := bw3.size
  replace x := x.below bw3
  replace y := y.below bw3
  replace BB := also BB bw3
  replace x_a := x_a.on bw3
  replace x_b := x_b.on bw3
  replace x_z := x_z.on bw3
  refine take_call (i := 9) rfl (by kernel_rfl) (fun Kc hK => ?_)
  go_simp
  (go_at_call 48; refine (rwMul s2 t1 d2 g1 l2 c2 h1 k1 N2 D1 _ _ y.rn x.rd fy gx rfl).mono ?_; rintro e w4 ⟨s4, d4, l4, c4, rfl, q4, f4, bw4⟩)
  refine hK.out _ _ ?_ (fun hHeld => ?_)
  · first | exact ⟨x_a.c0, x_a.c1, x_a.c2, x_a.c3, x_b.c0, x_b.c1, x_b.c2, x_b.c3, BB⟩ | exact ⟨cell_on bw6 hHeld.1, cell_on bw6 hHeld.2.1, cell_on bw6 hHeld.2.2.1, cell_on bw6 hHeld.2.2.2.1, cell_on bw6 hHeld.2.2.2.2.1, cell_on bw6 hHeld.2.2.2.2.2.1, cell_on bw6 hHeld.2.2.2.2.2.2.1, cell_on bw6 hHeld.2.2.2.2.2.2.2.1, also hHeld.2.2.2.2.2.2.2.2 bw6⟩ | exact ⟨cell_on bw5 hHeld.1, cell_on bw5 hHeld.2.1, cell_on bw5 hHeld.2.2.1, cell_on bw5 hHeld.2.2.2.1, cell_on bw5 hHeld.2.2.2.2.1, cell_on bw5 hHeld.2.2.2.2.2.1, cell_on bw5 hHeld.2.2.2.2.2.2.1, cell_on bw5 hHeld.2.2.2.2.2.2.2.1, also hHeld.2.2.2.2.2.2.2.2 bw5⟩ | exact ⟨cell_on bw4 hHeld.1, cell_on bw4 hHeld.2.1, cell_on bw4 hHeld.2.2.1, cell_on bw4 hHeld.2.2.2.1, cell_on bw4 hHeld.2.2.2.2.1, cell_on bw4 hHeld.2.2.2.2.2.1, cell_on bw4 hHeld.2.2.2.2.2.2.1, cell_on bw4 hHeld.2.2.2.2.2.2.2.1, also hHeld.2.2.2.2.2.2.2.2 bw4⟩ | exact ⟨cell_on bw3 hHeld.1, cell_on bw3 hHeld.2.1, cell_on bw3 hHeld.2.2.1, cell_on bw3 hHeld.2.2.2.1, cell_on bw3 hHeld.2.2.2.2.1, cell_on bw3 hHeld.2.2.2.2.2.1, cell_on bw3 hHeld.2.2.2.2.2.2.1, cell_on bw3 hHeld.2.2.2.2.2.2.2.1, also hHeld.2.2.2.2.2.2.2.2 bw3⟩ | exact ⟨cell_put4 hHeld.1 (by omega) _ _ _ _, cell_put4 hHeld.2.1 (by omega) _ _ _ _, cell_put4 hHeld.2.2.1 (by omega) _ _ _ _, cell_put4 hHeld.2.2.2.1 (by omega) _ _ _ _, cell_put4 hHeld.2.2.2.2.1 (by omega) _ _ _ _, cell_put4 hHeld.2.2.2.2.2.1 (by omega) _ _ _ _, cell_put4 hHeld.2.2.2.2.2.2.1 (by omega) _ _ _ _, cell_put4 hHeld.2.2.2.2.2.2.2.1 (by omega) _ _ _ _, below_put4 hHeld.2.2.2.2.2.2.2.2 (by omega) _ _ _ _⟩
  clear hK Kc
  have zbw4 := bw4.size
  replace x := x.below bw4
  replace y := y.below bw4
  replace BB := also BB bw4
  replace x_a := x_a.on bw4
  replace x_b := x_b.on bw4
  replace x_z := x_z.on bw4
  replace q3 := q3.below bw4
  refine take_call (i := 10) rfl (by kernel_rfl) (fun Kc hK => ?_)
  go_simp
  (go_at_call 47; refine (rwAdd s3 s4 d3 d4 l3 c3 l4 c4 _ _ N _ q3 q4 f1 f2 HN.out).mono ?_; rintro e w5 ⟨s5, d5, l5, c5, rfl, q5, f5, bw5⟩)
  refine hK.out _ _ ?_ (fun hHeld => ?_)
  · first | exact ⟨x_a.c0, x_a.c1, x_a.c2, x_a.c3, x_b.c0, x_b.c1, x_b.c2, x_b.c3, BB⟩ | exact ⟨cell_on bw6 hHeld.1, cell_on bw6 hHeld.2.1, cell_on bw6 hHeld.2.2.1, cell_on bw6 hHeld.2.2.2.1, cell_on bw6 hHeld.2.2.2.2.1, cell_on bw6 hHeld.2.2.2.2.2.1, cell_on bw6 hHeld.2.2.2.2.2.2.1, cell_on bw6 hHeld.2.2.2.2.2.2.2.1, also hHeld.2.2.2.2.2.2.2.2 bw6⟩ | exact ⟨cell_on bw5 hHeld.1, cell_on bw5 hHeld.2.1, cell_on bw5 hHeld.2.2.1, cell_on bw5 hHeld.2.2.2.1, cell_on bw5 hHeld.2.2.2.2.1, cell_on bw5 hHeld.2.2.2.2.2.1, cell_on bw5 hHeld.2.2.2.2.2.2.1, cell_on bw5 hHeld.2.2.2.2.2.2.2.1, also hHeld.2.2.2.2.2.2.2.2 bw5⟩ | exact ⟨cell_on bw4 hHeld.1, cell_on bw4 hHeld.2.1, cell_on bw4 hHeld.2.2.1, cell_on bw4 hHeld.2.2.2.1, cell_on bw4 hHeld.2.2.2.2.1, cell_on bw4 hHeld.2.2.2.2.2.1, cell_on bw4 hHeld.2.2.2.2.2.2.1, cell_on bw4 hHeld.2.2.2.2.2.2.2.1, also hHeld.2.2.2.2.2.2.2.2 bw4⟩ | exact ⟨cell_on bw3 hHeld.1, cell_on bw3 hHeld.2.1, cell_on bw3 hHeld.2.2.1, cell_on bw3 hHeld.2.2.2.1, cell_on bw3 hHeld.2.2.2.2.1, cell_on bw3 hHeld.2.2.2.2.2.1, cell_on bw3 hHeld.2.2.2.2.2.2.1, cell_on bw3 hHeld.2.2.2.2.2.2.2.1, also hHeld.2.2.2.2.2.2.2.2 bw3⟩ | exact ⟨cell_put4 hHeld.1 (by omega) _ _ _ _, cell_put4 hHeld.2.1 (by omega) _ _ _ _, cell_put4 hHeld.2.2.1 (by omega) _ _ _ _, cell_put4 hHeld.2.2.2.1 (by omega) _ _ _ _, cell_put4 hHeld.2.2.2.2.1 (by omega) _ _ _ _, cell_put4 hHeld.2.2.2.2.2.1 (by omega) _ _ _ _, cell_put4 hHeld.2.2.2.2.2.2.1 (by omega) _ _ _ _, cell_put4 hHeld.2.2.2.2.2.2.2.1 (by omega) _ _ _ _, below_put4 hHeld.2.2.2.2.2.2.2.2 (by omega) _ _ _ _⟩
  clear hK Kc
  have zbw5 := bw5.size
  replace x := x.below bw5
  replace y := y.below bw5
  replace BB := also BB bw5
  replace x_a := x_a.on bw5
  replace x_b := x_b.on bw5
  replace x_z := x_z.on bw5
  replace q3 := q3.below bw5
  replace q4 := q4.below bw5
  refine take_call (i := 15) rfl (by kernel_rfl) (fun Kc hK => ?_)
  go_simp
  (go_at_call 48; refine (rwMul t1 t2 g1 g2 h1 k1 h2 k2 D1 D2 D _ x.rd y.rd gx gy HD.out).mono ?_; rintro e w6 ⟨s6, d6, l6, c6, rfl, q6, f6, bw6⟩)
  refine hK.out _ _ ?_ (fun hHeld => ?_)
  · first | exact ⟨x_a.c0, x_a.c1, x_a.c2, x_a.c3, x_b.c0, x_b.c1, x_b.c2, x_b.c3, BB⟩ | exact ⟨cell_on bw6 hHeld.1, cell_on bw6 hHeld.2.1, cell_on bw6 hHeld.2.2.1, cell_on bw6 hHeld.2.2.2.1, cell_on bw6 hHeld.2.2.2.2.1, cell_on bw6 hHeld.2.2.2.2.2.1, cell_on bw6 hHeld.2.2.2.2.2.2.1, cell_on bw6 hHeld.2.2.2.2.2.2.2.1, also hHeld.2.2.2.2.2.2.2.2 bw6⟩ | exact ⟨cell_on bw5 hHeld.1, cell_on bw5 hHeld.2.1, cell_on bw5 hHeld.2.2.1, cell_on bw5 hHeld.2.2.2.1, cell_on bw5 hHeld.2.2.2.2.1, cell_on bw5 hHeld.2.2.2.2.2.1, cell_on bw5 hHeld.2.2.2.2.2.2.1, cell_on bw5 hHeld.2.2.2.2.2.2.2.1, also hHeld.2.2.2.2.2.2.2.2 bw5⟩ | exact ⟨cell_on bw4 hHeld.1, cell_on bw4 hHeld.2.1, cell_on bw4 hHeld.2.2.1, cell_on bw4 hHeld.2.2.2.1, cell_on bw4 hHeld.2.2.2.2.1, cell_on bw4 hHeld.2.2.2.2.2.1, cell_on bw4 hHeld.2.2.2.2.2.2.1, cell_on bw4 hHeld.2.2.2.2.2.2.2.1, also hHeld.2.2.2.2.2.2.2.2 bw4⟩ | exact ⟨cell_on bw3 hHeld.1, cell_on bw3 hHeld.2.1, cell_on bw3 hHeld.2.2.1, cell_on bw3 hHeld.2.2.2.1, cell_on bw3 hHeld.2.2.2.2.1, cell_on bw3 hHeld.2.2.2.2.2.1, cell_on bw3 hHeld.2.2.2.2.2.2.1, cell_on bw3 hHeld.2.2.2.2.2.2.2.1, also hHeld.2.2.2.2.2.2.2.2 bw3⟩ | exact ⟨cell_put4 hHeld.1 (by omega) _ _ _ _, cell_put4 hHeld.2.1 (by omega) _ _ _ _, cell_put4 hHeld.2.2.1 (by omega) _ _ _ _, cell_put4 hHeld.2.2.2.1 (by omega) _ _ _ _, cell_put4 hHeld.2.2.2.2.1 (by omega) _ _ _ _, cell_put4 hHeld.2.2.2.2.2.1 (by omega) _ _ _ _, cell_put4 hHeld.2.2.2.2.2.2.1 (by omega) _ _ _ _, cell_put4 hHeld.2.2.2.2.2.2.2.1 (by omega) _ _ _ _, below_put4 hHeld.2.2.2.2.2.2.2.2 (by omega) _ _ _ _⟩
  clear hK Kc
  have zbw6 := bw6.size
  replace x := x.below bw6
  replace y := y.below bw6
  replace BB := also BB bw6
  replace x_a := x_a.on bw6
  replace x_b := x_b.on bw6
  replace x_z := x_z.on bw6
  replace q3 := q3.below bw6
  replace q4 := q4.below bw6
  replace q5 := q5.below bw6
  refine take_yes (i := 16) (v := ?vr16) rfl (by kernel_rfl) (by kernel_rfl) (by kernel_rfl) (fun _ _ _ h => h) (by rfl) (by assumption) ?hyr16 ?restr16
  case hyr16 => (intro w hSw; (try dsimp only at hSw); first | (go_simp; done) | (go_simp; with_reducible rfl))
  simp only [Act.put, List.setIfInBounds_toArray, List.set_cons_zero, List.set_cons_succ]
  have ⟨x_z_0, x_z_1, x_z_2, x_z_3, x_z_4, x_z_5, x_z_6, x_z_7⟩ := x_z
  refine take_call (i := 17) rfl (by kernel_rfl) (fun Kc hK => ?_)
  go_simp
  refine hK.out _ _ ?_ (fun hHeld => ?_)
  · first | exact ⟨x_a.c0, x_a.c1, x_a.c2, x_a.c3, x_b.c0, x_b.c1, x_b.c2, x_b.c3, BB⟩ | exact ⟨cell_on bw6 hHeld.1, cell_on bw6 hHeld.2.1, cell_on bw6 hHeld.2.2.1, cell_on bw6 hHeld.2.2.2.1, cell_on bw6 hHeld.2.2.2.2.1, cell_on bw6 hHeld.2.2.2.2.2.1, cell_on bw6 hHeld.2.2.2.2.2.2.1, cell_on bw6 hHeld.2.2.2.2.2.2.2.1, also hHeld.2.2.2.2.2.2.2.2 bw6⟩ | exact ⟨cell_on bw5 hHeld.1, cell_on bw5 hHeld.2.1, cell_on bw5 hHeld.2.2.1, cell_on bw5 hHeld.2.2.2.1, cell_on bw5 hHeld.2.2.2.2.1, cell_on bw5 hHeld.2.2.2.2.2.1, cell_on bw5 hHeld.2.2.2.2.2.2.1, cell_on bw5 hHeld.2.2.2.2.2.2.2.1, also hHeld.2.2.2.2.2.2.2.2 bw5⟩ | exact ⟨cell_on bw4 hHeld.1, cell_on bw4 hHeld.2.1, cell_on bw4 hHeld.2.2.1, cell_on bw4 hHeld.2.2.2.1, cell_on bw4 hHeld.2.2.2.2.1, cell_on bw4 hHeld.2.2.2.2.2.1, cell_on bw4 hHeld.2.2.2.2.2.2.1, cell_on bw4 hHeld.2.2.2.2.2.2.2.1, also hHeld.2.2.2.2.2.2.2.2 bw4⟩ | exact ⟨cell_on bw3 hHeld.1, cell_on bw3 hHeld.2.1, cell_on bw3 hHeld.2.2.1, cell_on bw3 hHeld.2.2.2.1, cell_on bw3 hHeld.2.2.2.2.1, cell_on bw3 hHeld.2.2.2.2.2.1, cell_on bw3 hHeld.2.2.2.2.2.2.1, cell_on bw3 hHeld.2.2.2.2.2.2.2.1, also hHeld.2.2.2.2.2.2.2.2 bw3⟩ | exact ⟨cell_put4 hHeld.1 (by omega) _ _ _ _, cell_put4 hHeld.2.1 (by omega) _ _ _ _, cell_put4 hHeld.2.2.1 (by omega) _ _ _ _, cell_put4 hHeld.2.2.2.1 (by omega) _ _ _ _, cell_put4 hHeld.2.2.2.2.1 (by omega) _ _ _ _, cell_put4 hHeld.2.2.2.2.2.1 (by omega) _ _ _ _, cell_put4 hHeld.2.2.2.2.2.2.1 (by omega) _ _ _ _, cell_put4 hHeld.2.2.2.2.2.2.2.1 (by omega) _ _ _ _, below_put4 hHeld.2.2.2.2.2.2.2.2 (by omega) _ _ _ _⟩
  clear hK Kc
  refine wpAnyH_done (by kernel_rfl) ?_ _
  go_wp2
  exact bodyPost_ret (v := .agg #[.int .i64 s5, .slice d5 l5 c5, .int .i64 s6, .slice d6 l6 c6]) (by simp [results, Tryz.results21, go_sem, *]) rfl (endRQ _ (by omega) BB ⟨q5, q6, d0, HS.out, HT.out, kk⟩ (f5 _ (by omega) ⟨f3 _ (by omega) trivial, f4 _ (by omega) trivial⟩) (f6 _ (by omega) trivial) (fun j hj _ => ⟨f5 j (by omega) ⟨f3 _ (by omega) trivial, f4 _ (by omega) trivial⟩, f6 j (by omega) trivial⟩) _ _ _ _)
set_option maxRecDepth 100000 in
set_option maxHeartbeats 1000000 in
theorem rqSub (s1 : Int) (d1 : Option Addr) (l1 c1 : Nat) (t1 : Int) (g1 : Option Addr) (h1 k1 : Nat) (N1 : Int) (D1 : Nat) (s2 : Int) (d2 : Option Addr) (l2 c2 : Nat) (t2 : Int) (g2 : Option Addr) (h2 k2 : Nat) (N2 : Int) (D2 : Nat) (K : Nat) (w : World) (x : RQ w K s1 d1 l1 c1 t1 g1 h1 k1 N1 D1) (y : RQ w K s2 d2 l2 c2 t2 g2 h2 k2 N2 D2) (kk : K + K + 1 ≤ 10000) (N : Int) (D : Nat) (hN : N = N1 * (D2 : Int) + -N2 * (D1 : Int)) (hD : D = D1 * D2) :
    Calls Tryz.prog 40 #[.agg #[.int .i64 s1, .slice d1 l1 c1, .int .i64 t1, .slice g1 h1 k1], .agg #[.int .i64 s2, .slice d2 l2 c2, .int .i64 t2, .slice g2 h2 k2]] w (GotRQ w (fun _ => True) (K + K + 1) N D) := by
  have HN : Hid _ := hN
  have HD : Hid _ := hD
  have n1 : NA (w.heap.size + 1 + 1) d2 l2 := y.rn.hd.sl.na (by omega)
  have n2 : NA (w.heap.size + 1 + 1) g2 h2 := y.rd.hd.sl.na (by omega)
  clear hN hD
  obtain ⟨W, hW, bW, x_a, x_b, x_z, sW⟩ := bs_444 w (.int .i64 s1) (.slice d1 l1 c1) (.int .i64 t1) (.slice g1 h1 k1) (.int .i64 s2) (.slice d2 l2 c2) (.int .i64 t2) (.slice g2 h2 k2) (.int .i64 0) (.slice none 0 0) (.int .i64 0) (.slice none 0 0) 41 41 41
  have zbW := bW.size
  replace x := x.below bW
  replace y := y.below bW
  have BB := bW
  go_enter Tryz.func40, Tryz.ntmps40
  go_wp2
  rw [← hW]
  clear hW
  have dd1 : Below W.heap.size W W.drew := (Below.refl _ _).drew
  have zdd1 := dd1.size
  replace x := x.below dd1
  replace y := y.below dd1
  replace BB := also BB dd1
  replace x_a := x_a.on dd1
  replace x_b := x_b.on dd1
  replace x_z := x_z.on dd1
  refine wp_region_held_drew (S := (fun w' => w'.cell? ⟨w.heap.size, 0, none⟩ = some (.int .i64 s1) ∧ w'.cell? ⟨w.heap.size, 1, none⟩ = some (.slice d1 l1 c1) ∧ w'.cell? ⟨w.heap.size, 2, none⟩ = some (.int .i64 t1) ∧ w'.cell? ⟨w.heap.size, 3, none⟩ = some (.slice g1 h1 k1) ∧ w'.cell? ⟨w.heap.size + 1, 0, none⟩ = some (.int .i64 s2) ∧ w'.cell? ⟨w.heap.size + 1, 1, none⟩ = some (.slice d2 l2 c2) ∧ w'.cell? ⟨w.heap.size + 1, 2, none⟩ = some (.int .i64 t2) ∧ w'.cell? ⟨w.heap.size + 1, 3, none⟩ = some (.slice g2 h2 k2) ∧ Below w.heap.size w w')) (by kernel_rfl) ?_ (fun hHeld => ?_)
  · first | exact ⟨x_a.c0, x_a.c1, x_a.c2, x_a.c3, x_b.c0, x_b.c1, x_b.c2, x_b.c3, BB⟩ | exact ⟨cell_on bw4 hHeld.1, cell_on bw4 hHeld.2.1, cell_on bw4 hHeld.2.2.1, cell_on bw4 hHeld.2.2.2.1, cell_on bw4 hHeld.2.2.2.2.1, cell_on bw4 hHeld.2.2.2.2.2.1, cell_on bw4 hHeld.2.2.2.2.2.2.1, cell_on bw4 hHeld.2.2.2.2.2.2.2.1, also hHeld.2.2.2.2.2.2.2.2 bw4⟩ | exact ⟨cell_on bw3 hHeld.1, cell_on bw3 hHeld.2.1, cell_on bw3 hHeld.2.2.1, cell_on bw3 hHeld.2.2.2.1, cell_on bw3 hHeld.2.2.2.2.1, cell_on bw3 hHeld.2.2.2.2.2.1, cell_on bw3 hHeld.2.2.2.2.2.2.1, cell_on bw3 hHeld.2.2.2.2.2.2.2.1, also hHeld.2.2.2.2.2.2.2.2 bw3⟩ | exact ⟨cell_put4 hHeld.1 (by omega) _ _ _ _, cell_put4 hHeld.2.1 (by omega) _ _ _ _, cell_put4 hHeld.2.2.1 (by omega) _ _ _ _, cell_put4 hHeld.2.2.2.1 (by omega) _ _ _ _, cell_put4 hHeld.2.2.2.2.1 (by omega) _ _ _ _, cell_put4 hHeld.2.2.2.2.2.1 (by omega) _ _ _ _, cell_put4 hHeld.2.2.2.2.2.2.1 (by omega) _ _ _ _, cell_put4 hHeld.2.2.2.2.2.2.2.1 (by omega) _ _ _ _, below_put4 hHeld.2.2.2.2.2.2.2.2 (by omega) _ _ _ _⟩
  refine take_yes (i := 0) (v := ?vr0) rfl (by kernel_rfl) (by kernel_rfl) (by kernel_rfl) (fun _ _ _ h => h) (by rfl) (by assumption) ?hyr0 ?restr0
  case hyr0 => (intro w hSw; (try dsimp only at hSw); first | (go_simp; done) | (go_simp; with_reducible rfl))
  simp only [Act.put, List.setIfInBounds_toArray, List.set_cons_zero, List.set_cons_succ]
  refine take_yes (i := 1) (v := ?vr1) rfl (by kernel_rfl) (by kernel_rfl) (by kernel_rfl) (fun _ _ _ h => h) (by rfl) (by assumption) ?hyr1 ?restr1
  case hyr1 => (intro w hSw; (try dsimp only at hSw); first | (go_simp; done) | (go_simp; with_reducible rfl))
  simp only [Act.put, List.setIfInBounds_toArray, List.set_cons_zero, List.set_cons_succ]
  refine take_call (i := 2) rfl (by kernel_rfl) (fun Kc hK => ?_)
  go_simp
  (go_at_call 75; refine (rqNeg s2 d2 l2 c2 t2 g2 h2 k2 N2 D2 K _ y (-N2) rfl).mono ?_; rintro e w3 ⟨s3, d3, l3, c3, t3, g3, h3, k3, rfl, q3, f3, bw3⟩)
  refine hK.out _ _ ?_ (fun hHeld => ?_)
  · first | exact ⟨x_a.c0, x_a.c1, x_a.c2, x_a.c3, x_b.c0, x_b.c1, x_b.c2, x_b.c3, BB⟩ | exact ⟨cell_on bw4 hHeld.1, cell_on bw4 hHeld.2.1, cell_on bw4 hHeld.2.2.1, cell_on bw4 hHeld.2.2.2.1, cell_on bw4 hHeld.2.2.2.2.1, cell_on bw4 hHeld.2.2.2.2.2.1, cell_on bw4 hHeld.2.2.2.2.2.2.1, cell_on bw4 hHeld.2.2.2.2.2.2.2.1, also hHeld.2.2.2.2.2.2.2.2 bw4⟩ | exact ⟨cell_on bw3 hHeld.1, cell_on bw3 hHeld.2.1, cell_on bw3 hHeld.2.2.1, cell_on bw3 hHeld.2.2.2.1, cell_on bw3 hHeld.2.2.2.2.1, cell_on bw3 hHeld.2.2.2.2.2.1, cell_on bw3 hHeld.2.2.2.2.2.2.1, cell_on bw3 hHeld.2.2.2.2.2.2.2.1, also hHeld.2.2.2.2.2.2.2.2 bw3⟩ | exact ⟨cell_put4 hHeld.1 (by omega) _ _ _ _, cell_put4 hHeld.2.1 (by omega) _ _ _ _, cell_put4 hHeld.2.2.1 (by omega) _ _ _ _, cell_put4 hHeld.2.2.2.1 (by omega) _ _ _ _, cell_put4 hHeld.2.2.2.2.1 (by omega) _ _ _ _, cell_put4 hHeld.2.2.2.2.2.1 (by omega) _ _ _ _, cell_put4 hHeld.2.2.2.2.2.2.1 (by omega) _ _ _ _, cell_put4 hHeld.2.2.2.2.2.2.2.1 (by omega) _ _ _ _, below_put4 hHeld.2.2.2.2.2.2.2.2 (by omega) _ _ _ _⟩
  clear hK Kc
  have zbw3 := bw3.size
  replace x := x.below bw3
  replace y := y.below bw3
  replace BB := also BB bw3
  replace x_a := x_a.on bw3
  replace x_b := x_b.on bw3
  replace x_z := x_z.on bw3
  refine take_call (i := 3) rfl (by kernel_rfl) (fun Kc hK => ?_)
  go_simp
  (go_at_call 21; refine (rqAdd s1 d1 l1 c1 t1 g1 h1 k1 N1 D1 s3 d3 l3 c3 t3 g3 h3 k3 (-N2) D2 K _ x q3 kk N D HN.out HD.out).mono ?_; rintro e w4 ⟨s4, d4, l4, c4, t4, g4, h4, k4, rfl, q4, f4, bw4⟩)
  refine hK.out _ _ ?_ (fun hHeld => ?_)
  · first | exact ⟨x_a.c0, x_a.c1, x_a.c2, x_a.c3, x_b.c0, x_b.c1, x_b.c2, x_b.c3, BB⟩ | exact ⟨cell_on bw4 hHeld.1, cell_on bw4 hHeld.2.1, cell_on bw4 hHeld.2.2.1, cell_on bw4 hHeld.2.2.2.1, cell_on bw4 hHeld.2.2.2.2.1, cell_on bw4 hHeld.2.2.2.2.2.1, cell_on bw4 hHeld.2.2.2.2.2.2.1, cell_on bw4 hHeld.2.2.2.2.2.2.2.1, also hHeld.2.2.2.2.2.2.2.2 bw4⟩ | exact ⟨cell_on bw3 hHeld.1, cell_on bw3 hHeld.2.1, cell_on bw3 hHeld.2.2.1, cell_on bw3 hHeld.2.2.2.1, cell_on bw3 hHeld.2.2.2.2.1, cell_on bw3 hHeld.2.2.2.2.2.1, cell_on bw3 hHeld.2.2.2.2.2.2.1, cell_on bw3 hHeld.2.2.2.2.2.2.2.1, also hHeld.2.2.2.2.2.2.2.2 bw3⟩ | exact ⟨cell_put4 hHeld.1 (by omega) _ _ _ _, cell_put4 hHeld.2.1 (by omega) _ _ _ _, cell_put4 hHeld.2.2.1 (by omega) _ _ _ _, cell_put4 hHeld.2.2.2.1 (by omega) _ _ _ _, cell_put4 hHeld.2.2.2.2.1 (by omega) _ _ _ _, cell_put4 hHeld.2.2.2.2.2.1 (by omega) _ _ _ _, cell_put4 hHeld.2.2.2.2.2.2.1 (by omega) _ _ _ _, cell_put4 hHeld.2.2.2.2.2.2.2.1 (by omega) _ _ _ _, below_put4 hHeld.2.2.2.2.2.2.2.2 (by omega) _ _ _ _⟩
  clear hK Kc
  have zbw4 := bw4.size
  replace x := x.below bw4
  replace y := y.below bw4
  replace BB := also BB bw4
  replace x_a := x_a.on bw4
  replace x_b := x_b.on bw4
  replace x_z := x_z.on bw4
  replace q3 := q3.below bw4
  have ⟨x_z_0, x_z_1, x_z_2, x_z_3, x_z_4, x_z_5, x_z_6, x_z_7⟩ := x_z
  refine take_call (i := 4) rfl (by kernel_rfl) (fun Kc hK => ?_)
  go_simp
  refine hK.out _ _ ?_ (fun hHeld => ?_)
  · first | exact ⟨x_a.c0, x_a.c1, x_a.c2, x_a.c3, x_b.c0, x_b.c1, x_b.c2, x_b.c3, BB⟩ | exact ⟨cell_on bw4 hHeld.1, cell_on bw4 hHeld.2.1, cell_on bw4 hHeld.2.2.1, cell_on bw4 hHeld.2.2.2.1, cell_on bw4 hHeld.2.2.2.2.1, cell_on bw4 hHeld.2.2.2.2.2.1, cell_on bw4 hHeld.2.2.2.2.2.2.1, cell_on bw4 hHeld.2.2.2.2.2.2.2.1, also hHeld.2.2.2.2.2.2.2.2 bw4⟩ | exact ⟨cell_on bw3 hHeld.1, cell_on bw3 hHeld.2.1, cell_on bw3 hHeld.2.2.1, cell_on bw3 hHeld.2.2.2.1, cell_on bw3 hHeld.2.2.2.2.1, cell_on bw3 hHeld.2.2.2.2.2.1, cell_on bw3 hHeld.2.2.2.2.2.2.1, cell_on bw3 hHeld.2.2.2.2.2.2.2.1, also hHeld.2.2.2.2.2.2.2.2 bw3⟩ | exact ⟨cell_put4 hHeld.1 (by omega) _ _ _ _, cell_put4 hHeld.2.1 (by omega) _ _ _ _, cell_put4 hHeld.2.2.1 (by omega) _ _ _ _, cell_put4 hHeld.2.2.2.1 (by omega) _ _ _ _, cell_put4 hHeld.2.2.2.2.1 (by omega) _ _ _ _, cell_put4 hHeld.2.2.2.2.2.1 (by omega) _ _ _ _, cell_put4 hHeld.2.2.2.2.2.2.1 (by omega) _ _ _ _, cell_put4 hHeld.2.2.2.2.2.2.2.1 (by omega) _ _ _ _, below_put4 hHeld.2.2.2.2.2.2.2.2 (by omega) _ _ _ _⟩
  clear hK Kc
  refine wpAnyH_done (by kernel_rfl) ?_ _
  go_wp2
  exact bodyPost_ret (v := .agg #[.int .i64 s4, .slice d4 l4 c4, .int .i64 t4, .slice g4 h4 k4]) (by simp [results, Tryz.results40, go_sem, *]) rfl (endRQ _ (by omega) BB q4 (f4 _ (by omega) trivial).1 (f4 _ (by omega) trivial).2 (fun j hj _ => f4 j (by omega) trivial) _ _ _ _)
end Go.Proofs.YtcaihoomcdbfnaaGreat
