/-
  Joined texts, part 5:
  What zelligeref03's Mul answers.
  What zelligeref03 answers, with letters for the lengths.
  What zelligeref03 answers, with letters for the lengths, apart from all that was there before.
  What zelligeref04's Of, Same, make1, Neg, Add, Sub, Mul and Cmp answer.
  What holds behind the laws' taking of both numbers' digits.
  What nat's isShow and withPiece answer.
  What nat's Parse answers.
  What package whole's Parse answers.
  What zelligeref03's Show answers.
  What zelligeref03's Parse answers.
  What zelligeref03's Parse answers where there is no number.
-/
import Derived.Test.YtpkcjgkgabemoaaDoorP4
import Derived.Test.YtpkcjgkgabemoaaDoorP2
import Derived.Test.YtpkcjgkgabemoaaDoorP3
namespace Go.Proofs.YtpkcjgkgabemoaaDoor
open Go.RowKit
set_option linter.unusedVariables false

/-- What holds at the head of each round of the inner loop. -/
def RMulIn (w : World) (b N lv i : Nat) (O x v : Int) (c kv : Value) (wr : World) : Prop := ∃ k : Nat, k ≤ lv ∧ kv = .int .i64 (k : Int) ∧ c = .int .i64 (hf.cy O x v i k) ∧ Own wr w.heap.size 3 (some ⟨b, 0, none⟩) N N (hf.mix N (i + k) (O + x * 65536 ^ i * v) O) ∧ Below w.heap.size w wr
theorem rmul_next {w wr : World} {b N lv i k n : Nat} {O x v t : Int} (hk : k < lv) (hN : i + lv ≤ N) (ht : t = hf.cy O x v i k + hf.dg O (i + k) + x * hf.dg v k) (hown : Own wr w.heap.size 3 (some ⟨b, 0, none⟩) N N (hf.mix N (i + k) (O + x * 65536 ^ i * v) O)) (hbel : Below w.heap.size w wr) :
    RMulIn w b N lv i O x v (.int .i64 (t / 65536)) (.int .i64 ((k : Int) + 1)) ((wr.drewN n).setCell ⟨b, i + k, none⟩ (.int .i64 (t % 65536))) := by
  have hown' : Own (wr.drewN n) w.heap.size 3 (some ⟨b, 0, none⟩) N N (hf.mix N (i + k) (O + x * 65536 ^ i * v) O) := hown
  refine ⟨k + 1, hk, by simp, by rw [ht, hf.cy_succ], ?_, (below_drewN hbel n).setCell (seg_of_own hown).2.2 _⟩
  rw [ht, hf.mul_digit, ← Nat.add_assoc, ← hf.mix_set]
  exact Own.set hown' _ (by omega)
/-- What holds at the head of each round of the outer loop. -/
def RMulOut (w : World) (b lu lv u v : Nat) (iv : Value) (wr : World) : Prop := ∃ i : Nat, i ≤ lu ∧ iv = .int .i64 (i : Int) ∧ Own wr w.heap.size 3 (some ⟨b, 0, none⟩) (lu + lv) (lu + lv) (hf.dcells (lu + lv) ((u % 65536 ^ i * v : Nat) : Int)) ∧ Below w.heap.size w wr
theorem hpart_lt {u v k lb : Nat} (hv : v < 65536 ^ lb) : u % 65536 ^ k * v < 65536 ^ (k + lb) := by
  rw [Nat.pow_add]
  exact Nat.mul_lt_mul_of_lt_of_le (Nat.mod_lt _ (hf.pow_nat k)) (Nat.le_of_lt hv) (hf.pow_nat lb)
theorem hpart_next (u v k : Nat) : ((u % 65536 ^ k * v : Nat) : Int) + hf.dg u k * 65536 ^ k * v = ((u % 65536 ^ (k + 1) * v : Nat) : Int) := by
  rw [Int.natCast_mul, Int.natCast_mul, Int.natCast_emod, Int.natCast_emod, hf.pow_cast, hf.pow_cast]
  exact hf.mul_next u v k
theorem rmul_last {w wr : World} {b lu lv u v i : Nat} {c O X : Int} (hO : O = ((u % 65536 ^ i * v : Nat) : Int)) (hX : X = hf.dg (u : Int) i) (hi : i < lu) (hv : v < 65536 ^ lv) (hc : c = hf.cy O X v i lv)
    (hown : Own wr w.heap.size 3 (some ⟨b, 0, none⟩) (lu + lv) (lu + lv) (hf.mix (lu + lv) (i + lv) (O + X * 65536 ^ i * v) O)) (hbel : Below w.heap.size w wr) :
    RMulOut w b lu lv u v (.int .i64 ((i : Int) + 1)) (wr.setCell ⟨b, i + lv, none⟩ (.int .i64 c)) := by
  subst hO hX
  refine ⟨i + 1, hi, by simp, ?_, hbel.setCell (seg_of_own hown).2.2 _⟩
  have hd := hf.mul_digit ((u % 65536 ^ i * v : Nat) : Int) (hf.dg u i) v i lv
  have h0 : hf.dg ((u % 65536 ^ i * v : Nat) : Int) (i + lv) = 0 := hf.dg_over (hpart_lt hv)
  have h1 : hf.dg (v : Int) lv = 0 := hf.dg_over hv
  have hr := hf.cy_range ((u % 65536 ^ i * v : Nat) : Int) (hf.dg u i) v i lv (hf.dg_range u i).1 (hf.dg_range u i).2
  rw [h0, h1, ← hc, Int.mul_zero] at hd
  rw [← hc] at hr
  have hc2 : c = hf.dg (((u % 65536 ^ i * v : Nat) : Int) + hf.dg u i * 65536 ^ i * v) (i + lv) := by rw [← hd]; omega
  have := Own.set hown (i := i + lv) (.int .i64 c) (by omega)
  rw [hc2, hf.mix_set] at this
  rw [hc2]
  have e : hf.mix (lu + lv) (i + lv + 1) (((u % 65536 ^ i * v : Nat) : Int) + hf.dg u i * 65536 ^ i * v) ((u % 65536 ^ i * v : Nat) : Int) = hf.dcells (lu + lv) ((u % 65536 ^ (i + 1) * v : Nat) : Int) := by
    rw [← hpart_next, ← hf.mix_full (lu + lv) (((u % 65536 ^ i * v : Nat) : Int) + hf.dg u i * 65536 ^ i * v) ((u % 65536 ^ i * v : Nat) : Int)]
    refine hf.fill_congr fun j hj => ?_
    by_cases h : j < i + lv + 1
    · simp [h, hj]
    · have z1 : hf.dg ((u % 65536 ^ i * v : Nat) : Int) j = 0 := hf.dg_over (Nat.lt_of_lt_of_le (hpart_lt hv) (Nat.pow_le_pow_right (by decide) (by omega)))
      have z2 : hf.dg (((u % 65536 ^ i * v : Nat) : Int) + hf.dg u i * 65536 ^ i * v) j = 0 := by
        rw [hpart_next]
        exact hf.dg_over (Nat.lt_of_lt_of_le (hpart_lt hv) (Nat.pow_le_pow_right (by decide) (by omega)))
      rw [z1, z2]; simp
  rw [← e]
  exact this

set_option maxRecDepth 100000 in
set_option maxHeartbeats 2000000 in
theorem rmul_any (a b : Option Addr) (ca cb u v : Nat) (w : World) (ha : Sl w a (hf.nlen u) ca (hf.dcells (hf.nlen u) (u : Int))) (hb : Sl w b (hf.nlen v) cb (hf.dcells (hf.nlen v) (v : Int))) (hlu : hf.nlen u ≤ 1000000000) (hlv : hf.nlen v ≤ 1000000000) :
    Calls Tryd.prog 46 #[.slice a (hf.nlen u) ca, .slice b (hf.nlen v) cb] w fun e w' => ∃ a' cap', e = .returned (.slice a' (hf.nlen (u * v)) cap') ∧ Own w' w.heap.size 3 a' (hf.nlen (u * v)) cap' (hf.dcells (hf.nlen (u * v)) ((u * v : Nat) : Int)) ∧ Below w.heap.size w w' := by
  obtain ⟨i0, hi0, hz0, hz1, hz2⟩ := info_parts infoInt
  have hu := hf.nlen_lt u
  have hv := hf.nlen_lt v
  obtain ⟨lu, hlu'⟩ : ∃ l, hf.nlen u = l := ⟨_, rfl⟩
  obtain ⟨lv, hlv'⟩ : ∃ l, hf.nlen v = l := ⟨_, rfl⟩
  rw [hlu'] at ha hlu hu ⊢
  rw [hlv'] at hb hlv hv ⊢
  have HM : Hid (u % 65536 ^ lu = u) := Nat.mod_eq_of_lt hu
  have HV : Hid _ := hv
  have HS : Hid (u * v < 65536 ^ (lu + lv)) := by have := hpart_lt (u := u) (k := lu) hv; rwa [HM.out] at this
  have hz0' : hf.dcells (lu + lv) 0 = List.replicate (lu + lv) (.int .i64 0) := hf.dcells_zero _
  have HZ : Hid _ := hz0'
  have hmax : lu + lv ≤ maxLen := by unfold maxLen; omega
  clear hu hv hlu' hlv' hz0'
  go_enter Tryd.func46, Tryd.ntmps46
  go_wp2_with (at_make; refine make_any _ rfl (.tmp 13) (.tmp 13) 27 rfl w.heap.size 3 i0 (.int .i64 0) Tryd.underlying27 hi0 hz0 hz1 rfl .i64 .i64 _ _ (lu + lv) rfl rfl (by simp) (by simp) (by rw [hz2]; omega) (by omega) (Nat.le_refl _) ?_; intro w1 hown hbel)
  rw [← HZ.out] at hown
  go_loopw [6] (fun iv wr => RMulOut w w.heap.size lu lv u v iv wr) (fun iv _ => lu - (intOf iv).toNat)
  case atStart => exact ⟨0, by omega, rfl, by rw [Nat.pow_zero, Nat.mod_one, Nat.zero_mul]; exact hown, hbel⟩
  case round =>
    clear hown hbel
    obtain ⟨i, hi, rfl, hown, hbel⟩ := hrel
    by_cases hlt : i < lu
    · obtain ⟨ba, oa, rfl, hba, hsa⟩ := ha.at (by omega)
      have r1 := ha.room
      obtain ⟨X, hX⟩ : ∃ X, X = hf.dg (u : Int) i := ⟨_, rfl⟩
      obtain ⟨O, hO⟩ : ∃ O, O = ((u % 65536 ^ i * v : Nat) : Int) := ⟨_, rfl⟩
      obtain ⟨x0, x1⟩ := hf.dg_range u i
      have c0 : w.cell? ⟨ba, oa + i, none⟩ = some (.int .i64 X) := by rw [hX]; exact hsa.cell i _ (hf.dcells_at _ _ _ hlt)
      rw [← hX] at x0 x1
      have HI : Hid (RMulIn w w.heap.size (lu + lv) lv i O X v (.int .i64 0) (.int .i64 0) wr) := ⟨0, by omega, rfl, by rw [hf.cy_zero], by rw [Nat.add_zero, hf.mix_start, hO]; exact hown, hbel⟩
      have HL : Hid _ := fun (wr : World) (c : Int) => rmul_last (w := w) (wr := wr) (b := w.heap.size) (c := c) hO hX hlt HV.out
      clear hown hbel hX hO
      go_wp2
      go_loopw [7, 8] (fun c kv wr => RMulIn w w.heap.size (lu + lv) lv i O X v c kv wr) (fun _ kv _ => lv - (intOf kv).toNat)
      case atStart => exact HI.out
      case round =>
        obtain ⟨k, hk, rfl, rfl, hown, hbel⟩ := hrel
        obtain ⟨f0, f1⟩ := hf.cy_range O X v i k x0 x1
        by_cases hlk : k < lv
        · obtain ⟨bb, ob, rfl, hbb, hsb⟩ := hb.at (by omega)
          have r2 := hb.room
          have c1 : wr.cell? ⟨ba, oa + i, none⟩ = some (.int .i64 X) := (hbel.cell (p := ⟨ba, oa + i, none⟩) hba).trans c0
          have c2 : wr.cell? ⟨bb, ob + k, none⟩ = some (.int .i64 (hf.dg v k)) := (hbel.cell (p := ⟨bb, ob + k, none⟩) hbb).trans (hsb.cell k _ (hf.dcells_at _ _ _ hlk))
          have c3 : wr.cell? ⟨w.heap.size, i + k, none⟩ = some (.int .i64 (hf.dg O (i + k))) := Own.cell hown _ _ (hf.mix_at _ _ _ _ _ (by omega) (Nat.le_refl _))
          have c4 : wr.frozen? ⟨w.heap.size, i + k, none⟩ = false := Own.free hown _ (by omega)
          obtain ⟨d0, d1⟩ := hf.dg_range v k
          obtain ⟨e0, e1⟩ := hf.dg_range O (i + k)
          have HN : Hid _ := fun n => rmul_next (n := n) hlk (by omega) rfl hown hbel
          obtain ⟨C, hC⟩ : ∃ C, hf.cy O X v i k = C := ⟨_, rfl⟩
          obtain ⟨Y, hY⟩ : ∃ Y, hf.dg (v : Int) k = Y := ⟨_, rfl⟩
          obtain ⟨D, hD⟩ : ∃ D, hf.dg O (i + k) = D := ⟨_, rfl⟩
          rw [hC] at f0 f1 HN ⊢
          rw [hY] at c2 d0 d1 HN
          rw [hD] at c3 e0 e1 HN
          have m0 : 0 ≤ X * Y := Int.mul_nonneg x0 d0
          have m1 : X * Y ≤ 4294836225 := by have := Int.mul_le_mul (show X ≤ 65535 by omega) (show Y ≤ 65535 by omega) d0 (by decide); omega
          clear hown hC hY hD
          go_wp2
          go_quiet (fail)
          go_wp2
          go_roundw
          case rel => exact HN.out _
          case measure => simp [intOf]; omega
        · obtain rfl : k = lv := by omega
          have c3 : wr.cell? ⟨w.heap.size, i + k, none⟩ = some (.int .i64 (hf.dg O (i + k))) := Own.cell hown _ _ (hf.mix_at _ _ _ _ _ (by omega) (Nat.le_refl _))
          have c4 : wr.frozen? ⟨w.heap.size, i + k, none⟩ = false := Own.free hown _ (by omega)
          have HN : Hid _ := HL.out wr _ rfl hown hbel
          clear hown
          go_wp2
          go_roundw
          case rel => exact HN.out
          case measure => simp [intOf]; omega
    · obtain rfl : i = lu := by omega
      rw [HM.out] at hown
      go_wp2_with (go_at_call 62; refine (rtrim_own _ _ _ (u * v) _ _ hown HS.out).mono ?_; rintro e w' ⟨rfl, hw, hown5⟩; subst hw)
      go_ret
      exact ⟨_, _, rfl, hown5, hbel⟩
end Go.Proofs.YtpkcjgkgabemoaaDoor

namespace Go.Proofs.YtpkcjgkgabemoaaDoor
open Go.RowKit
set_option linter.unusedVariables false

/-- The slice is the digits of the number u. -/
structure HD (w : World) (a : Option Addr) (l c u : Nat) : Prop where
  sl : Sl w a l c (hf.dcells l (u : Int))
  len : l = hf.nlen u
theorem HD.below {w w' : World} {a : Option Addr} {l c u : Nat} (h : HD w a l c u) (hb : Below w.heap.size w w') : HD w' a l c u := ⟨h.sl.below hb, h.len⟩
theorem hd_nil (w : World) : HD w none 0 0 0 := ⟨sl_nil w, hf.nlen_zero.symm⟩
def GotH (w : World) (u : Nat) (e : Ending) (w' : World) : Prop := ∃ a l c, e = .returned (.slice a l c) ∧ HD w' a l c u ∧ Below w.heap.size w w'
theorem gotH {w w' : World} {u : Nat} {e : Ending} (h : ∃ a' cap', e = .returned (.slice a' (hf.nlen u) cap') ∧ Own w' w.heap.size 3 a' (hf.nlen u) cap' (hf.dcells (hf.nlen u) (u : Int)) ∧ Below w.heap.size w w') : GotH w u e w' := by
  obtain ⟨a, c, he, ho, hb⟩ := h
  exact ⟨a, _, c, he, ⟨Own.sl ho, rfl⟩, hb⟩
theorem hfew {u K : Nat} (hu : u < 4294967296 ^ K) (hK : K ≤ 500000) : hf.nlen u ≤ 1000000 := by
  have : hf.nlen u ≤ 2 * K := hf.nlen_le (by rw [pow_halves]; exact hu)
  omega
theorem hOf (a : Option Addr) (l c u : Nat) (w : World) (hs : Sl w a l c (wd.dcells l (u : Int))) (hu : u < 4294967296 ^ l) (hl : l ≤ 1000000) : Calls Tryd.prog 39 #[.slice a l c] w (GotH w u) :=
  (rof_any a l c u w hs hu (by omega)).mono fun _ _ h => gotH h
theorem hCmp (a b : Option Addr) (la lb ca cb u v : Nat) (w : World) (ha : HD w a la ca u) (hb : HD w b lb cb v) {c : Int} (hc : c = cmpI u v) : Calls Tryd.prog 25 #[.slice a la ca, .slice b lb cb] w fun e w' => e = .returned (.int .i64 c) ∧ Below w.heap.size w w' := by
  obtain ⟨ha, rfl⟩ := ha
  obtain ⟨hb, rfl⟩ := hb
  subst hc
  exact rcmp_any a b ca cb u v w ha hb
theorem hAdd (a b : Option Addr) (la lb ca cb u v : Nat) (w : World) (ha : HD w a la ca u) (hb : HD w b lb cb v) (fu : hf.nlen u ≤ 1000000) (fv : hf.nlen v ≤ 1000000) : Calls Tryd.prog 41 #[.slice a la ca, .slice b lb cb] w (GotH w (u + v)) := by
  obtain ⟨ha, rfl⟩ := ha
  obtain ⟨hb, rfl⟩ := hb
  exact (radd_any a b ca cb u v w ha hb (by omega) (by omega)).mono fun _ _ h => gotH h
theorem hSub (a b : Option Addr) (la lb ca cb u v : Nat) (w : World) (ha : HD w a la ca u) (hb : HD w b lb cb v) (fu : hf.nlen u ≤ 1000000) (fv : hf.nlen v ≤ 1000000) (hle : v ≤ u) : Calls Tryd.prog 43 #[.slice a la ca, .slice b lb cb] w (GotH w (u - v)) := by
  obtain ⟨ha, rfl⟩ := ha
  obtain ⟨hb, rfl⟩ := hb
  exact (rsub_any a b ca cb u v w ha hb (by omega) (by omega) hle).mono fun _ _ h => gotH h
theorem hMul (a b : Option Addr) (la lb ca cb u v : Nat) (w : World) (ha : HD w a la ca u) (hb : HD w b lb cb v) (fu : hf.nlen u ≤ 1000000) (fv : hf.nlen v ≤ 1000000) : Calls Tryd.prog 46 #[.slice a la ca, .slice b lb cb] w (GotH w (u * v)) := by
  obtain ⟨ha, rfl⟩ := ha
  obtain ⟨hb, rfl⟩ := hb
  exact (rmul_any a b ca cb u v w ha hb (by omega) (by omega)).mono fun _ _ h => gotH h
theorem hSame (a b : Option Addr) (la lb ca cb u : Nat) (w : World) (ha : Sl w a la ca (wd.dcells la (u : Int))) (ea : la = wd.nlen u) (hb : HD w b lb cb u) (fu : hf.nlen u ≤ 1000000) : Calls Tryd.prog 38 #[.slice a la ca, .slice b lb cb] w fun e w' => e = .returned (.bool true) ∧ Below w.heap.size w w' := by
  subst ea
  obtain ⟨hb, rfl⟩ := hb
  exact same_yes a b ca cb u w ha hb (by omega)
end Go.Proofs.YtpkcjgkgabemoaaDoor

namespace Go.Proofs.YtpkcjgkgabemoaaDoor
open Go.RowKit
set_option linter.unusedVariables false

theorem HD.put {w : World} {a : Option Addr} {l c u b : Nat} (h : HD w a l c u) (hn : NA b a l) (i : Nat) (v : Value) : HD (w.setCell ⟨b, i, none⟩ v) a l c u := ⟨h.sl.put hn i v, h.len⟩
def GotHF (w : World) (u : Nat) (e : Ending) (w' : World) : Prop := ∃ a l c, e = .returned (.slice a l c) ∧ HD w' a l c u ∧ Far w.heap.size a l ∧ Below w.heap.size w w'
theorem gotHF {w w' : World} {u : Nat} {e : Ending} (h : ∃ a' cap', e = .returned (.slice a' (hf.nlen u) cap') ∧ Own w' w.heap.size 3 a' (hf.nlen u) cap' (hf.dcells (hf.nlen u) (u : Int)) ∧ Below w.heap.size w w') : GotHF w u e w' := by
  obtain ⟨a, c, he, ho, hb⟩ := h
  exact ⟨a, _, c, he, ⟨Own.sl ho, rfl⟩, Own.far ho, hb⟩
theorem hfOf (a : Option Addr) (l c u : Nat) (w : World) (h : NI w a l c u) : Calls Tryd.prog 39 #[.slice a l c] w (GotHF w u) :=
  (rof_any a l c u w h.sl h.lt (by have := h.few; omega)).mono fun _ _ h => gotHF h
theorem hfAdd (a b : Option Addr) (la lb ca cb u v : Nat) (w : World) (ha : HD w a la ca u) (hb : HD w b lb cb v) (fu : hf.nlen u ≤ 1000000) (fv : hf.nlen v ≤ 1000000) : Calls Tryd.prog 41 #[.slice a la ca, .slice b lb cb] w (GotHF w (u + v)) := by
  obtain ⟨ha, rfl⟩ := ha
  obtain ⟨hb, rfl⟩ := hb
  exact (radd_any a b ca cb u v w ha hb (by omega) (by omega)).mono fun _ _ h => gotHF h
theorem hfSub (a b : Option Addr) (la lb ca cb u v : Nat) (w : World) (ha : HD w a la ca u) (hb : HD w b lb cb v) (fu : hf.nlen u ≤ 1000000) (fv : hf.nlen v ≤ 1000000) (hle : v ≤ u) : Calls Tryd.prog 43 #[.slice a la ca, .slice b lb cb] w (GotHF w (u - v)) := by
  obtain ⟨ha, rfl⟩ := ha
  obtain ⟨hb, rfl⟩ := hb
  exact (rsub_any a b ca cb u v w ha hb (by omega) (by omega) hle).mono fun _ _ h => gotHF h
theorem hfMul (a b : Option Addr) (la lb ca cb u v : Nat) (w : World) (ha : HD w a la ca u) (hb : HD w b lb cb v) (fu : hf.nlen u ≤ 1000000) (fv : hf.nlen v ≤ 1000000) : Calls Tryd.prog 46 #[.slice a la ca, .slice b lb cb] w (GotHF w (u * v)) := by
  obtain ⟨ha, rfl⟩ := ha
  obtain ⟨hb, rfl⟩ := hb
  exact (rmul_any a b ca cb u v w ha hb (by omega) (by omega)).mono fun _ _ h => gotHF h
end Go.Proofs.YtpkcjgkgabemoaaDoor

namespace Go.Proofs.YtpkcjgkgabemoaaDoor
open Go.RowKit
set_option linter.unusedVariables false

/-- A whole number as a sign and digits. -/
structure RN (w : World) (s : Int) (d : Option Addr) (l c : Nat) (z : Int) : Prop where
  hd : HD w d l c z.natAbs
  sg : s = z.sign
theorem RN.below {w w' : World} {s : Int} {d : Option Addr} {l c : Nat} {z : Int} (h : RN w s d l c z) (hb : Below w.heap.size w w') : RN w' s d l c z := ⟨h.hd.below hb, h.sg⟩
theorem RN.put {w : World} {s : Int} {d : Option Addr} {l c b : Nat} {z : Int} (h : RN w s d l c z) (hn : NA b d l) (i : Nat) (v : Value) : RN (w.setCell ⟨b, i, none⟩ v) s d l c z := ⟨h.hd.put hn i v, h.sg⟩
theorem RN.put2 {w : World} {s : Int} {d : Option Addr} {l c b : Nat} {z : Int} (h : RN w s d l c z) (hn : NA b d l) (u v : Value) : RN ((w.setCell ⟨b, 0, none⟩ u).setCell ⟨b, 1, none⟩ v) s d l c z := (h.put hn 0 u).put hn 1 v
/-- What is told: apart from the blocks that were there before, as far as its arguments are so. -/
def GotR (w : World) (P : Nat → Prop) (z : Int) (e : Ending) (w' : World) : Prop := ∃ (s : Int) (d : Option Addr) (l c : Nat), e = .returned (.agg #[.int .i64 s, .slice d l c]) ∧ RN w' s d l c z ∧ (∀ k, k < w.heap.size → P k → NA k d l) ∧ Below w.heap.size w w'
theorem endR {w w2 : World} {s : Int} {d : Option Addr} {l c : Nat} {z : Int} {P : Nat → Prop} (k : Nat) (hk : w.heap.size ≤ k) (B : Below w.heap.size w w2) (h : RN w2 s d l c z) (hn : NA k d l) (hf : ∀ j, j < w.heap.size → P j → NA j d l) (u v : Value) :
    GotR w P z (.returned (.agg #[.int .i64 s, .slice d l c])) ((w2.setCell ⟨k, 0, none⟩ u).setCell ⟨k, 1, none⟩ v) :=
  ⟨s, d, l, c, rfl, h.put2 hn u v, hf, below_put2 B hk u v⟩
theorem rn_zero (w : World) (c : Nat) : RN w 0 none 0 0 0 := ⟨hd_nil w, rfl⟩
theorem HD.pos {w : World} {d : Option Addr} {l c u : Nat} (h : HD w d l c u) : l = 0 ↔ u = 0 := by
  rw [h.len]
  constructor
  · intro e
    rcases Nat.eq_zero_or_pos u with z | z
    · exact z
    · have := hf.nlen_pos z; omega
  · rintro rfl; exact hf.nlen_zero
theorem sign_pos {x : Int} (h : 0 < x) : x.sign = 1 := Int.sign_eq_one_of_pos h
theorem sign_neg {x : Int} (h : x < 0) : x.sign = -1 := Int.sign_eq_neg_one_of_neg h
theorem sign_nul {x : Int} : x.sign = 0 ↔ x = 0 := Int.sign_eq_zero_iff_zero
theorem sign_cases (x : Int) : (x < 0 ∧ x.sign = -1) ∨ (x = 0 ∧ x.sign = 0) ∨ (0 < x ∧ x.sign = 1) := by
  rcases Int.lt_trichotomy x 0 with h | h | h
  · exact Or.inl ⟨h, sign_neg h⟩
  · exact Or.inr (Or.inl ⟨h, sign_nul.2 h⟩)
  · exact Or.inr (Or.inr ⟨h, sign_pos h⟩)

set_option maxRecDepth 100000 in
set_option maxHeartbeats 1000000 in
theorem rwOf (n : Bool) (a : Option Addr) (la ca : Nat) (x : Int) (w : World) (ha : WI w n a la ca x) : Calls Tryd.prog 10 #[.agg #[.bool n, .slice a la ca]] w (GotR w (fun _ => True) x) := by
  obtain ⟨B0, xa, xz, hs⟩ := box1 w (.bool n) (.slice a la ca) (.int .i64 0) (.slice none 0 0) 25 30
  have na := ha.ni.below B0
  go_enter Tryd.func10, Tryd.ntmps10
  go_wp2_with (go_at_call 39; fail)
  refine (hfOf a la ca _ _ na).mono ?_
  rintro e w1 ⟨d, l, c, rfl, hd, fd, b1⟩
  obtain ⟨k0, k1, k2, k3⟩ := xz.on b1
  obtain ⟨j0, j1, j2, j3⟩ := xa.on b1
  by_cases hx : x = 0
  · obtain rfl : l = 0 := hd.pos.2 (by rw [hx]; rfl)
    go_wp2
    exact bodyPost_ret (v := .agg #[.int .i64 0, .slice none 0 0]) (by simp [results, Tryd.results10, go_sem, *]) rfl (endR _ (by omega) (also B0 b1) (by rw [hx]; exact rn_zero _ 0) (Or.inl rfl) (fun _ _ _ => Or.inl rfl) _ _)
  · have hl : ¬ (l : Int) = 0 := by have := hd.pos; omega
    cases n
    · have hp := ha.pos rfl
      have hr : RN w1 1 d l c x := ⟨hd, (sign_pos (by omega)).symm⟩
      go_wp2
      exact bodyPost_ret (v := .agg #[.int .i64 1, .slice d l c]) (by simp [results, Tryd.results10, go_sem, *]) rfl (endR _ (by omega) (also B0 b1) hr (fd _ hs) (fun k hk _ => fd k (by omega)) _ _)
    · have hp := ha.neg rfl
      have hr : RN w1 (-1) d l c x := ⟨hd, (sign_neg (by omega)).symm⟩
      go_wp2
      exact bodyPost_ret (v := .agg #[.int .i64 (-1), .slice d l c]) (by simp [results, Tryd.results10, go_sem, *]) rfl (endR _ (by omega) (also B0 b1) hr (fd _ hs) (fun k hk _ => fd k (by omega)) _ _)

set_option maxRecDepth 100000 in
set_option maxHeartbeats 1000000 in
theorem rwSame (n : Bool) (s : Int) (a d : Option Addr) (la ca l c : Nat) (z : Int) (w : World) (ha : WN w n a la ca z) (hd : RN w s d l c z) (fz : hf.nlen z.natAbs ≤ 1000000) :
    Calls Tryd.prog 11 #[.agg #[.bool n, .slice a la ca], .agg #[.int .i64 s, .slice d l c]] w fun e w' => e = .returned (.bool true) ∧ Below w.heap.size w w' := by
  obtain ⟨B0, xa, xd, hs⟩ := box1 w (.bool n) (.slice a la ca) (.int .i64 s) (.slice d l c) 25 30
  have na := ha.nd.below B0
  have nd := hd.hd.below B0
  have hn : n = decide (s < 0) := by
    rw [ha.sg, hd.sg]
    rcases sign_cases z with ⟨h, e⟩ | ⟨h, e⟩ | ⟨h, e⟩ <;> rw [e] <;> simp <;> omega
  by_cases h0 : s < 0
  · obtain rfl : n = true := by rw [hn]; simpa using h0
    clear hn
    go_enter Tryd.func11, Tryd.ntmps11
    go_wp2_with (go_at_call 38; fail)
    refine (hSame a d la l ca c _ _ na.sl na.len nd fz).mono ?_
    rintro e w1 ⟨rfl, b1⟩
    obtain ⟨k0, k1, k2, k3⟩ := xd.on b1
    obtain ⟨j0, j1, j2, j3⟩ := xa.on b1
    go_wp2
    go_ret
    exact ⟨rfl, also B0 b1⟩
  · obtain rfl : n = false := by rw [hn]; simpa using h0
    have h0' : decide (s < 0) = false := by simpa using h0
    clear hn
    go_enter Tryd.func11, Tryd.ntmps11
    go_wp2_with (go_at_call 38; fail)
    refine (hSame a d la l ca c _ _ na.sl na.len nd fz).mono ?_
    rintro e w1 ⟨rfl, b1⟩
    obtain ⟨k0, k1, k2, k3⟩ := xd.on b1
    obtain ⟨j0, j1, j2, j3⟩ := xa.on b1
    go_wp2
    go_ret
    exact ⟨rfl, also B0 b1⟩

set_option maxRecDepth 100000 in
set_option maxHeartbeats 1000000 in
theorem rwMake (s : Int) (d : Option Addr) (l c u : Nat) (z : Int) (w : World) (hd : HD w d l c u) (hu : u = z.natAbs) (hs : z ≠ 0 → s = z.sign) :
    Calls Tryd.prog 42 #[.int .i64 s, .slice d l c] w (GotR w (fun k => NA k d l) z) := by
  subst hu
  have B0 : Below w.heap.size w (w.alloc (.cells #[.int .i64 0, .slice none 0 0] 30)) := (Below.refl _ _).alloc (Nat.le_refl _) _
  have h0 := hd.below B0
  by_cases hz : z = 0
  · obtain rfl : l = 0 := hd.pos.2 (by rw [hz]; rfl)
    subst hz
    go_enter Tryd.func42, Tryd.ntmps42
    go_wp2
    exact bodyPost_ret (v := .agg #[.int .i64 0, .slice none 0 0]) (by simp [results, Tryd.results42, go_sem, *]) rfl ⟨0, none, 0, 0, rfl, rn_zero _ 0, fun _ _ _ => Or.inl rfl, (Below.refl _ _).alloc (Nat.le_refl _) _⟩
  · have hl : ¬ (l : Int) = 0 := by have := hd.pos; omega
    have hsz := hs hz
    go_enter Tryd.func42, Tryd.ntmps42
    have HS : Hid _ := hsz
    clear hs hsz
    go_wp2
    have B1 : Below w.heap.size w (w.alloc (.cells #[.int .i64 s, .slice d l c] 30)) := (Below.refl _ _).alloc (Nat.le_refl _) _
    exact bodyPost_ret (v := .agg #[.int .i64 s, .slice d l c]) (by simp [results, Tryd.results42, go_sem, *]) rfl ⟨s, d, l, c, rfl, ⟨hd.below B1, HS.out⟩, fun _ _ h => h, B1⟩

set_option maxRecDepth 100000 in
set_option maxHeartbeats 1000000 in
theorem rwNeg (s : Int) (d : Option Addr) (l c : Nat) (x z : Int) (w : World) (hd : RN w s d l c x) (hz : z = -x) :
    Calls Tryd.prog 19 #[.agg #[.int .i64 s, .slice d l c]] w (GotR w (fun k => NA k d l) z) := by
  have hs := hd.sg
  obtain ⟨t, ht⟩ : ∃ t, t = 0 - s := ⟨_, rfl⟩
  have hb : -1 ≤ s ∧ s ≤ 1 := by rcases sign_cases x with ⟨_, e⟩ | ⟨_, e⟩ | ⟨_, e⟩ <;> omega
  obtain ⟨hb1, hb2⟩ := hb
  have hh : HD w d l c z.natAbs := by rw [hz, Int.natAbs_neg]; exact hd.hd
  have HT : Hid (0 - s = z.sign) := by unfold Hid; rw [hz, Int.sign_neg, hs]; omega
  have B1 : Below w.heap.size w ((w.alloc (.cells #[.int .i64 s, .slice d l c] 30)).alloc (.cells #[.int .i64 (-s), .slice d l c] 30)) := ((Below.refl _ _).alloc (Nat.le_refl _) _).alloc (by simp) _
  clear ht hs
  go_enter Tryd.func19, Tryd.ntmps19
  go_wp2
  exact bodyPost_ret (v := .agg #[.int .i64 (-s), .slice d l c]) (by simp [results, Tryd.results19, go_sem, *]) rfl ⟨-s, d, l, c, rfl, ⟨hh.below B1, by have := HT.out; omega⟩, fun _ _ h => h, B1⟩

set_option maxRecDepth 100000 in
set_option maxHeartbeats 1000000 in
theorem rwAdd (s t : Int) (d e : Option Addr) (l c m k : Nat) (x y z : Int) (w : World) (hx : RN w s d l c x) (hy : RN w t e m k y) (fx : hf.nlen x.natAbs ≤ 1000000) (fy : hf.nlen y.natAbs ≤ 1000000) (hz : z = x + y) : Calls Tryd.prog 13 #[.agg #[.int .i64 s, .slice d l c], .agg #[.int .i64 t, .slice e m k]] w (GotR w (fun k' => NA k' d l ∧ NA k' e m) z) := by
  obtain ⟨B0, xa, xb, xz, hs⟩ := box2 w (.int .i64 s) (.slice d l c) (.int .i64 t) (.slice e m k) (.int .i64 0) (.slice none 0 0) 30 30 30
  have es := hx.sg
  have et := hy.sg
  by_cases h1 : x = 0
  · obtain rfl : s = 0 := by rw [es, h1]; rfl
    obtain rfl : z = y := by omega
    clear es et
    obtain ⟨k0, k1, k2, k3⟩ := xz
    go_enter Tryd.func13, Tryd.ntmps13
    go_wp2
    obtain ⟨B9, _, _, _, _⟩ := box2 w (.int .i64 0) (.slice d l c) (.int .i64 t) (.slice e m k) (.int .i64 t) (.slice e m k) 30 30 30
    exact bodyPost_ret (v := .agg #[.int .i64 t, .slice e m k]) (by simp [results, Tryd.results13, go_sem, *]) rfl ⟨t, e, m, k, rfl, hy.below B9, fun _ _ h => h.2, B9⟩
  have s0 : ¬ s = 0 := by rw [es, sign_nul]; exact h1
  by_cases h2 : y = 0
  · obtain rfl : t = 0 := by rw [et, h2]; rfl
    obtain rfl : z = x := by omega
    clear es et
    obtain ⟨k0, k1, k2, k3⟩ := xz
    go_enter Tryd.func13, Tryd.ntmps13
    go_wp2
    obtain ⟨B9, _, _, _, _⟩ := box2 w (.int .i64 s) (.slice d l c) (.int .i64 0) (.slice e m k) (.int .i64 s) (.slice d l c) 30 30 30
    exact bodyPost_ret (v := .agg #[.int .i64 s, .slice d l c]) (by simp [results, Tryd.results13, go_sem, *]) rfl ⟨s, d, l, c, rfl, hx.below B9, fun _ _ h => h.1, B9⟩
  have t0 : ¬ t = 0 := by rw [et, sign_nul]; exact h2
  by_cases h3 : s = t
  · have HU : Hid (x.natAbs + y.natAbs = z.natAbs) := by
      unfold Hid
      rcases sign_cases x with ⟨a, b⟩ | ⟨a, b⟩ | ⟨a, b⟩ <;> rcases sign_cases y with ⟨a', b'⟩ | ⟨a', b'⟩ | ⟨a', b'⟩ <;> omega
    have HS : Hid (s = z.sign) := by
      unfold Hid
      rcases sign_cases x with ⟨a, b⟩ | ⟨a, b⟩ | ⟨a, b⟩ <;> rcases sign_cases y with ⟨a', b'⟩ | ⟨a', b'⟩ | ⟨a', b'⟩ <;> rcases sign_cases z with ⟨a2, b2⟩ | ⟨a2, b2⟩ | ⟨a2, b2⟩ <;> omega
    clear es et hz
    subst h3
    replace B0 := B0.drew
    replace xa := xa.drew
    replace xb := xb.drew
    replace xz := xz.drew
    go_enter Tryd.func13, Tryd.ntmps13
    go_wp2
    refine wp_region_held_drew (S := (fun w' => w'.cell? ⟨w.heap.size, 0, none⟩ = some (.int .i64 s) ∧ w'.cell? ⟨w.heap.size, 1, none⟩ = some (.slice d l c) ∧ w'.cell? ⟨w.heap.size + 1, 0, none⟩ = some (.int .i64 s) ∧ w'.cell? ⟨w.heap.size + 1, 1, none⟩ = some (.slice e m k) ∧ Below w.heap.size w w')) (by kernel_rfl) ?_ (fun hHeld => ?_)
    · first | exact keepB2 hHeld b2 | exact keepB2 hHeld b1 | exact ⟨xa.c0, xa.c1, xb.c0, xb.c1, B0⟩ | exact keepS2 hHeld (by omega) (by omega) _ _
    refine take_yes (i := 0) (v := ?va0) rfl (by kernel_rfl) (by kernel_rfl) (by kernel_rfl) (fun _ _ _ h => h) (by rfl) (by assumption) ?hya0 ?resta0
    case hya0 => (intro w hSw; (try dsimp only at hSw); first | (go_simp; done) | (go_simp; with_reducible rfl))
    simp only [Act.put, List.setIfInBounds_toArray, List.set_cons_zero, List.set_cons_succ]
    refine take_yes (i := 1) (v := ?va1) rfl (by kernel_rfl) (by kernel_rfl) (by kernel_rfl) (fun _ _ _ h => h) (by rfl) (by assumption) ?hya1 ?resta1
    case hya1 => (intro w hSw; (try dsimp only at hSw); first | (go_simp; done) | (go_simp; with_reducible rfl))
    simp only [Act.put, List.setIfInBounds_toArray, List.set_cons_zero, List.set_cons_succ]
    refine take_yes (i := 2) (v := ?va2) rfl (by kernel_rfl) (by kernel_rfl) (by kernel_rfl) (fun _ _ _ h => h) (by rfl) (by assumption) ?hya2 ?resta2
    case hya2 => (intro w hSw; (try dsimp only at hSw); first | (go_simp; done) | (go_simp; with_reducible rfl))
    simp only [Act.put, List.setIfInBounds_toArray, List.set_cons_zero, List.set_cons_succ]
    refine take_yes (i := 3) (v := ?va3) rfl (by kernel_rfl) (by kernel_rfl) (by kernel_rfl) (fun _ _ _ h => h) (by rfl) (by assumption) ?hya3 ?resta3
    case hya3 => (intro w hSw; (try dsimp only at hSw); first | (go_simp; done) | (go_simp; with_reducible rfl))
    simp only [Act.put, List.setIfInBounds_toArray, List.set_cons_zero, List.set_cons_succ]
    refine take_yes (i := 4) (v := ?va4) rfl (by kernel_rfl) (by kernel_rfl) (by kernel_rfl) (fun _ _ _ h => h) (by rfl) (by assumption) ?hya4 ?resta4
    case hya4 => (intro w hSw; (try dsimp only at hSw); first | (go_simp; done) | (go_simp; with_reducible rfl))
    simp only [Act.put, List.setIfInBounds_toArray, List.set_cons_zero, List.set_cons_succ]
    refine take_yes (i := 5) (v := ?va5) rfl (by kernel_rfl) (by kernel_rfl) (by kernel_rfl) (fun _ _ _ h => h) (by rfl) (by assumption) ?hya5 ?resta5
    case hya5 => (intro w hSw; (try dsimp only at hSw); first | (go_simp; done) | (go_simp; with_reducible rfl))
    simp only [Act.put, List.setIfInBounds_toArray, List.set_cons_zero, List.set_cons_succ]
    refine take_call (i := 6) rfl (by kernel_rfl) (fun K hK => ?_)
    go_simp
    first
      | (go_at_call 41; refine (hfAdd d e l m c k _ _ _ (hx.hd.below hHeld.2.2.2.2) (hy.hd.below hHeld.2.2.2.2) fx fy).mono ?_; rintro e' w1 ⟨a1, l1, c1, rfl, h1, f1, b1⟩)
    refine hK.out _ _ ?_ (fun hHeld => ?_)
    · first | exact keepB2 hHeld b2 | exact keepB2 hHeld b1 | exact ⟨xa.c0, xa.c1, xb.c0, xb.c1, B0⟩ | exact keepS2 hHeld (by omega) (by omega) _ _
    clear hK K
    refine take_yes (i := 7) (v := ?va7) rfl (by kernel_rfl) (by kernel_rfl) (by kernel_rfl) (fun _ _ _ h => h) (by rfl) (by assumption) ?hya7 ?resta7
    case hya7 => (intro w hSw; (try dsimp only at hSw); first | (go_simp; done) | (go_simp; with_reducible rfl))
    simp only [Act.put, List.setIfInBounds_toArray, List.set_cons_zero, List.set_cons_succ]
    obtain ⟨k0, k1, k2, k3⟩ := xz.on b1
    refine take_call (i := 8) rfl (by kernel_rfl) (fun K hK => ?_)
    go_simp
    refine hK.out _ _ ?_ (fun hHeld => ?_)
    · first | exact keepB2 hHeld b2 | exact keepB2 hHeld b1 | exact ⟨xa.c0, xa.c1, xb.c0, xb.c1, B0⟩ | exact keepS2 hHeld (by omega) (by omega) _ _
    clear hK K
    refine wpAnyH_done (by kernel_rfl) ?_ _
    go_wp2
    rw [HU.out] at h1
    exact bodyPost_ret (v := .agg #[.int .i64 s, .slice a1 l1 c1]) (by simp [results, Tryd.results13, go_sem, *]) rfl (endR _ (by omega) (also B0 b1) ⟨h1, HS.out⟩ (f1 _ hs) (fun j hj _ => f1 j (Nat.lt_of_lt_of_le hj B0.size)) _ _)
  · have h3' : (s == t) = false := by simpa using h3
    have HC : ∃ c', c' = cmpI (x.natAbs : Int) y.natAbs := ⟨_, rfl⟩
    obtain ⟨g, hg⟩ := HC
    have HG : Hid _ := hg
    by_cases hle : y.natAbs ≤ x.natAbs
    · have g0 : 0 ≤ g := by rw [hg]; unfold cmpI; rw [if_neg (by omega)]; split <;> decide
      have HU : Hid (x.natAbs - y.natAbs = z.natAbs) := by
        unfold Hid
        rcases sign_cases x with ⟨a, b⟩ | ⟨a, b⟩ | ⟨a, b⟩ <;> rcases sign_cases y with ⟨a', b'⟩ | ⟨a', b'⟩ | ⟨a', b'⟩ <;> omega
      have HS : Hid (z ≠ 0 → s = z.sign) := fun hz0 => by
        rcases sign_cases x with ⟨a, b⟩ | ⟨a, b⟩ | ⟨a, b⟩ <;> rcases sign_cases y with ⟨a', b'⟩ | ⟨a', b'⟩ | ⟨a', b'⟩ <;> rcases sign_cases z with ⟨a2, b2⟩ | ⟨a2, b2⟩ | ⟨a2, b2⟩ <;> omega
      clear es et hz hg h3
      go_enter Tryd.func13, Tryd.ntmps13
      go_wp2_with (go_at_call 25; fail)
      refine (hCmp d e l m c k _ _ _ (hx.hd.below B0) (hy.hd.below B0) HG.out).mono ?_
      rintro e' w1 ⟨rfl, b1⟩
      replace B0 := (also B0 b1).drew
      replace xa := (xa.on b1).drew
      replace xb := (xb.on b1).drew
      replace xz := (xz.on b1).drew
      obtain ⟨k0, k1, k2, k3⟩ := xa
      obtain ⟨j0, j1, j2, j3⟩ := xb
      have xa : Bx _ _ _ _ := ⟨k0, k1, k2, k3⟩
      have xb : Bx _ _ _ _ := ⟨j0, j1, j2, j3⟩
      go_wp2
      refine wp_region_held_drew (S := (fun w' => w'.cell? ⟨w.heap.size, 0, none⟩ = some (.int .i64 s) ∧ w'.cell? ⟨w.heap.size, 1, none⟩ = some (.slice d l c) ∧ w'.cell? ⟨w.heap.size + 1, 0, none⟩ = some (.int .i64 t) ∧ w'.cell? ⟨w.heap.size + 1, 1, none⟩ = some (.slice e m k) ∧ Below w.heap.size w w')) (by kernel_rfl) ?_ (fun hHeld => ?_)
      · first | exact keepB2 hHeld b3 | exact keepB2 hHeld b2 | exact keepB2 hHeld b1 | exact ⟨xa.c0, xa.c1, xb.c0, xb.c1, B0⟩ | exact keepS2 hHeld (by omega) (by omega) _ _
      refine take_yes (i := 0) (v := ?vb0) rfl (by kernel_rfl) (by kernel_rfl) (by kernel_rfl) (fun _ _ _ h => h) (by rfl) (by assumption) ?hyb0 ?restb0
      case hyb0 => (intro w hSw; (try dsimp only at hSw); first | (go_simp; done) | (go_simp; with_reducible rfl))
      simp only [Act.put, List.setIfInBounds_toArray, List.set_cons_zero, List.set_cons_succ]
      refine take_yes (i := 1) (v := ?vb1) rfl (by kernel_rfl) (by kernel_rfl) (by kernel_rfl) (fun _ _ _ h => h) (by rfl) (by assumption) ?hyb1 ?restb1
      case hyb1 => (intro w hSw; (try dsimp only at hSw); first | (go_simp; done) | (go_simp; with_reducible rfl))
      simp only [Act.put, List.setIfInBounds_toArray, List.set_cons_zero, List.set_cons_succ]
      refine take_yes (i := 2) (v := ?vb2) rfl (by kernel_rfl) (by kernel_rfl) (by kernel_rfl) (fun _ _ _ h => h) (by rfl) (by assumption) ?hyb2 ?restb2
      case hyb2 => (intro w hSw; (try dsimp only at hSw); first | (go_simp; done) | (go_simp; with_reducible rfl))
      simp only [Act.put, List.setIfInBounds_toArray, List.set_cons_zero, List.set_cons_succ]
      refine take_yes (i := 3) (v := ?vb3) rfl (by kernel_rfl) (by kernel_rfl) (by kernel_rfl) (fun _ _ _ h => h) (by rfl) (by assumption) ?hyb3 ?restb3
      case hyb3 => (intro w hSw; (try dsimp only at hSw); first | (go_simp; done) | (go_simp; with_reducible rfl))
      simp only [Act.put, List.setIfInBounds_toArray, List.set_cons_zero, List.set_cons_succ]
      refine take_yes (i := 4) (v := ?vb4) rfl (by kernel_rfl) (by kernel_rfl) (by kernel_rfl) (fun _ _ _ h => h) (by rfl) (by assumption) ?hyb4 ?restb4
      case hyb4 => (intro w hSw; (try dsimp only at hSw); first | (go_simp; done) | (go_simp; with_reducible rfl))
      simp only [Act.put, List.setIfInBounds_toArray, List.set_cons_zero, List.set_cons_succ]
      refine take_yes (i := 5) (v := ?vb5) rfl (by kernel_rfl) (by kernel_rfl) (by kernel_rfl) (fun _ _ _ h => h) (by rfl) (by assumption) ?hyb5 ?restb5
      case hyb5 => (intro w hSw; (try dsimp only at hSw); first | (go_simp; done) | (go_simp; with_reducible rfl))
      simp only [Act.put, List.setIfInBounds_toArray, List.set_cons_zero, List.set_cons_succ]
      refine take_call (i := 6) rfl (by kernel_rfl) (fun K hK => ?_)
      go_simp
      first
      | (go_at_call 43; refine (hfSub d e l m c k _ _ _ (hx.hd.below hHeld.2.2.2.2) (hy.hd.below hHeld.2.2.2.2) fx fy hle).mono ?_; rintro e' w2 ⟨a1, l1, c1, rfl, h1, f1, b2⟩)
      | (go_at_call 42; refine (rwMake s a1 l1 c1 _ z _ h1 HU.out HS.out).mono ?_; rintro e' w3 ⟨s3, a3, l3, c3, rfl, h3, f3, b3⟩)
      refine hK.out _ _ ?_ (fun hHeld => ?_)
      · first | exact keepB2 hHeld b3 | exact keepB2 hHeld b2 | exact keepB2 hHeld b1 | exact ⟨xa.c0, xa.c1, xb.c0, xb.c1, B0⟩ | exact keepS2 hHeld (by omega) (by omega) _ _
      clear hK K
      refine take_call (i := 7) rfl (by kernel_rfl) (fun K hK => ?_)
      go_simp
      first
      | (go_at_call 43; refine (hfSub d e l m c k _ _ _ (hx.hd.below hHeld.2.2.2.2) (hy.hd.below hHeld.2.2.2.2) fx fy hle).mono ?_; rintro e' w2 ⟨a1, l1, c1, rfl, h1, f1, b2⟩)
      | (go_at_call 42; refine (rwMake s a1 l1 c1 _ z _ h1 HU.out HS.out).mono ?_; rintro e' w3 ⟨s3, a3, l3, c3, rfl, h3, f3, b3⟩)
      refine hK.out _ _ ?_ (fun hHeld => ?_)
      · first | exact keepB2 hHeld b3 | exact keepB2 hHeld b2 | exact keepB2 hHeld b1 | exact ⟨xa.c0, xa.c1, xb.c0, xb.c1, B0⟩ | exact keepS2 hHeld (by omega) (by omega) _ _
      clear hK K
      obtain ⟨k0, k1, k2, k3⟩ := (xz.on b2).on b3
      refine take_call (i := 8) rfl (by kernel_rfl) (fun K hK => ?_)
      go_simp
      refine hK.out _ _ ?_ (fun hHeld => ?_)
      · first | exact keepB2 hHeld b3 | exact keepB2 hHeld b2 | exact keepB2 hHeld b1 | exact ⟨xa.c0, xa.c1, xb.c0, xb.c1, B0⟩ | exact keepS2 hHeld (by omega) (by omega) _ _
      clear hK K
      refine wpAnyH_done (by kernel_rfl) ?_ _
      go_wp2
      exact bodyPost_ret (v := .agg #[.int .i64 s3, .slice a3 l3 c3]) (by simp [results, Tryd.results13, go_sem, *]) rfl (endR _ (by omega) (also (also B0 b2) b3) h3 (f3 _ (Nat.lt_of_lt_of_le (Nat.lt_of_lt_of_le hs b1.size) b2.size) (f1 _ (Nat.lt_of_lt_of_le hs b1.size))) (fun j hj _ => f3 j (Nat.lt_of_lt_of_le hj (Nat.le_trans B0.size b2.size)) (f1 j (Nat.lt_of_lt_of_le hj B0.size))) _ _)
    · have hlt : x.natAbs < y.natAbs := by omega
      replace hle : x.natAbs ≤ y.natAbs := by omega
      have g0 : ¬ 0 ≤ g := by rw [hg]; unfold cmpI; rw [if_pos (by omega)]; decide
      have HU : Hid (y.natAbs - x.natAbs = z.natAbs) := by
        unfold Hid
        rcases sign_cases x with ⟨a, b⟩ | ⟨a, b⟩ | ⟨a, b⟩ <;> rcases sign_cases y with ⟨a', b'⟩ | ⟨a', b'⟩ | ⟨a', b'⟩ <;> omega
      have HS : Hid (z ≠ 0 → t = z.sign) := fun hz0 => by
        rcases sign_cases x with ⟨a, b⟩ | ⟨a, b⟩ | ⟨a, b⟩ <;> rcases sign_cases y with ⟨a', b'⟩ | ⟨a', b'⟩ | ⟨a', b'⟩ <;> rcases sign_cases z with ⟨a2, b2⟩ | ⟨a2, b2⟩ | ⟨a2, b2⟩ <;> omega
      clear es et hz hg h3
      go_enter Tryd.func13, Tryd.ntmps13
      go_wp2_with (go_at_call 25; fail)
      refine (hCmp d e l m c k _ _ _ (hx.hd.below B0) (hy.hd.below B0) HG.out).mono ?_
      rintro e' w1 ⟨rfl, b1⟩
      replace B0 := (also B0 b1).drew
      replace xa := (xa.on b1).drew
      replace xb := (xb.on b1).drew
      replace xz := (xz.on b1).drew
      obtain ⟨k0, k1, k2, k3⟩ := xa
      obtain ⟨j0, j1, j2, j3⟩ := xb
      have xa : Bx _ _ _ _ := ⟨k0, k1, k2, k3⟩
      have xb : Bx _ _ _ _ := ⟨j0, j1, j2, j3⟩
      go_wp2
      refine wp_region_held_drew (S := (fun w' => w'.cell? ⟨w.heap.size, 0, none⟩ = some (.int .i64 s) ∧ w'.cell? ⟨w.heap.size, 1, none⟩ = some (.slice d l c) ∧ w'.cell? ⟨w.heap.size + 1, 0, none⟩ = some (.int .i64 t) ∧ w'.cell? ⟨w.heap.size + 1, 1, none⟩ = some (.slice e m k) ∧ Below w.heap.size w w')) (by kernel_rfl) ?_ (fun hHeld => ?_)
      · first | exact keepB2 hHeld b3 | exact keepB2 hHeld b2 | exact keepB2 hHeld b1 | exact ⟨xa.c0, xa.c1, xb.c0, xb.c1, B0⟩ | exact keepS2 hHeld (by omega) (by omega) _ _
      refine take_yes (i := 0) (v := ?vg0) rfl (by kernel_rfl) (by kernel_rfl) (by kernel_rfl) (fun _ _ _ h => h) (by rfl) (by assumption) ?hyg0 ?restg0
      case hyg0 => (intro w hSw; (try dsimp only at hSw); first | (go_simp; done) | (go_simp; with_reducible rfl))
      simp only [Act.put, List.setIfInBounds_toArray, List.set_cons_zero, List.set_cons_succ]
      refine take_yes (i := 1) (v := ?vg1) rfl (by kernel_rfl) (by kernel_rfl) (by kernel_rfl) (fun _ _ _ h => h) (by rfl) (by assumption) ?hyg1 ?restg1
      case hyg1 => (intro w hSw; (try dsimp only at hSw); first | (go_simp; done) | (go_simp; with_reducible rfl))
      simp only [Act.put, List.setIfInBounds_toArray, List.set_cons_zero, List.set_cons_succ]
      refine take_yes (i := 2) (v := ?vg2) rfl (by kernel_rfl) (by kernel_rfl) (by kernel_rfl) (fun _ _ _ h => h) (by rfl) (by assumption) ?hyg2 ?restg2
      case hyg2 => (intro w hSw; (try dsimp only at hSw); first | (go_simp; done) | (go_simp; with_reducible rfl))
      simp only [Act.put, List.setIfInBounds_toArray, List.set_cons_zero, List.set_cons_succ]
      refine take_yes (i := 3) (v := ?vg3) rfl (by kernel_rfl) (by kernel_rfl) (by kernel_rfl) (fun _ _ _ h => h) (by rfl) (by assumption) ?hyg3 ?restg3
      case hyg3 => (intro w hSw; (try dsimp only at hSw); first | (go_simp; done) | (go_simp; with_reducible rfl))
      simp only [Act.put, List.setIfInBounds_toArray, List.set_cons_zero, List.set_cons_succ]
      refine take_yes (i := 4) (v := ?vg4) rfl (by kernel_rfl) (by kernel_rfl) (by kernel_rfl) (fun _ _ _ h => h) (by rfl) (by assumption) ?hyg4 ?restg4
      case hyg4 => (intro w hSw; (try dsimp only at hSw); first | (go_simp; done) | (go_simp; with_reducible rfl))
      simp only [Act.put, List.setIfInBounds_toArray, List.set_cons_zero, List.set_cons_succ]
      refine take_yes (i := 5) (v := ?vg5) rfl (by kernel_rfl) (by kernel_rfl) (by kernel_rfl) (fun _ _ _ h => h) (by rfl) (by assumption) ?hyg5 ?restg5
      case hyg5 => (intro w hSw; (try dsimp only at hSw); first | (go_simp; done) | (go_simp; with_reducible rfl))
      simp only [Act.put, List.setIfInBounds_toArray, List.set_cons_zero, List.set_cons_succ]
      refine take_call (i := 6) rfl (by kernel_rfl) (fun K hK => ?_)
      go_simp
      first
      | (go_at_call 43; refine (hfSub e d m l k c _ _ _ (hy.hd.below hHeld.2.2.2.2) (hx.hd.below hHeld.2.2.2.2) fy fx hle).mono ?_; rintro e' w2 ⟨a1, l1, c1, rfl, h1, f1, b2⟩)
      | (go_at_call 42; refine (rwMake t a1 l1 c1 _ z _ h1 HU.out HS.out).mono ?_; rintro e' w3 ⟨s3, a3, l3, c3, rfl, h3, f3, b3⟩)
      refine hK.out _ _ ?_ (fun hHeld => ?_)
      · first | exact keepB2 hHeld b3 | exact keepB2 hHeld b2 | exact keepB2 hHeld b1 | exact ⟨xa.c0, xa.c1, xb.c0, xb.c1, B0⟩ | exact keepS2 hHeld (by omega) (by omega) _ _
      clear hK K
      refine take_call (i := 7) rfl (by kernel_rfl) (fun K hK => ?_)
      go_simp
      first
      | (go_at_call 43; refine (hfSub e d m l k c _ _ _ (hy.hd.below hHeld.2.2.2.2) (hx.hd.below hHeld.2.2.2.2) fy fx hle).mono ?_; rintro e' w2 ⟨a1, l1, c1, rfl, h1, f1, b2⟩)
      | (go_at_call 42; refine (rwMake t a1 l1 c1 _ z _ h1 HU.out HS.out).mono ?_; rintro e' w3 ⟨s3, a3, l3, c3, rfl, h3, f3, b3⟩)
      refine hK.out _ _ ?_ (fun hHeld => ?_)
      · first | exact keepB2 hHeld b3 | exact keepB2 hHeld b2 | exact keepB2 hHeld b1 | exact ⟨xa.c0, xa.c1, xb.c0, xb.c1, B0⟩ | exact keepS2 hHeld (by omega) (by omega) _ _
      clear hK K
      obtain ⟨k0, k1, k2, k3⟩ := (xz.on b2).on b3
      refine take_call (i := 8) rfl (by kernel_rfl) (fun K hK => ?_)
      go_simp
      refine hK.out _ _ ?_ (fun hHeld => ?_)
      · first | exact keepB2 hHeld b3 | exact keepB2 hHeld b2 | exact keepB2 hHeld b1 | exact ⟨xa.c0, xa.c1, xb.c0, xb.c1, B0⟩ | exact keepS2 hHeld (by omega) (by omega) _ _
      clear hK K
      refine wpAnyH_done (by kernel_rfl) ?_ _
      go_wp2
      exact bodyPost_ret (v := .agg #[.int .i64 s3, .slice a3 l3 c3]) (by simp [results, Tryd.results13, go_sem, *]) rfl (endR _ (by omega) (also (also B0 b2) b3) h3 (f3 _ (Nat.lt_of_lt_of_le (Nat.lt_of_lt_of_le hs b1.size) b2.size) (f1 _ (Nat.lt_of_lt_of_le hs b1.size))) (fun j hj _ => f3 j (Nat.lt_of_lt_of_le hj (Nat.le_trans B0.size b2.size)) (f1 j (Nat.lt_of_lt_of_le hj B0.size))) _ _)
set_option maxRecDepth 100000 in
set_option maxHeartbeats 1000000 in
theorem rwSub (s t : Int) (d e : Option Addr) (l c m k : Nat) (x y z : Int) (w : World) (hx : RN w s d l c x) (hy : RN w t e m k y) (fx : hf.nlen x.natAbs ≤ 1000000) (fy : hf.nlen y.natAbs ≤ 1000000) (hz : z = x - y) : Calls Tryd.prog 15 #[.agg #[.int .i64 s, .slice d l c], .agg #[.int .i64 t, .slice e m k]] w (GotR w (fun k' => NA k' d l ∧ NA k' e m) z) := by
  obtain ⟨B0, xa, xb, xz, hs⟩ := box2 w (.int .i64 s) (.slice d l c) (.int .i64 t) (.slice e m k) (.int .i64 0) (.slice none 0 0) 30 30 30
  have HZ : Hid (z = x + -y) := by unfold Hid; omega
  clear hz
  replace B0 := B0.drew
  replace xa := xa.drew
  replace xb := xb.drew
  replace xz := xz.drew
  go_enter Tryd.func15, Tryd.ntmps15
  go_wp2
  refine wp_region_held_drew (S := (fun w' => w'.cell? ⟨w.heap.size, 0, none⟩ = some (.int .i64 s) ∧ w'.cell? ⟨w.heap.size, 1, none⟩ = some (.slice d l c) ∧ w'.cell? ⟨w.heap.size + 1, 0, none⟩ = some (.int .i64 t) ∧ w'.cell? ⟨w.heap.size + 1, 1, none⟩ = some (.slice e m k) ∧ Below w.heap.size w w')) (by kernel_rfl) ?_ (fun hHeld => ?_)
  · first | exact keepB2 hHeld b2 | exact keepB2 hHeld b1 | exact ⟨xa.c0, xa.c1, xb.c0, xb.c1, B0⟩ | exact keepS2 hHeld (by omega) (by omega) _ _
  refine take_yes (i := 0) (v := ?vu0) rfl (by kernel_rfl) (by kernel_rfl) (by kernel_rfl) (fun _ _ _ h => h) (by rfl) (by assumption) ?hyu0 ?restu0
  case hyu0 => (intro w hSw; (try dsimp only at hSw); first | (go_simp; done) | (go_simp; with_reducible rfl))
  simp only [Act.put, List.setIfInBounds_toArray, List.set_cons_zero, List.set_cons_succ]
  refine take_yes (i := 1) (v := ?vu1) rfl (by kernel_rfl) (by kernel_rfl) (by kernel_rfl) (fun _ _ _ h => h) (by rfl) (by assumption) ?hyu1 ?restu1
  case hyu1 => (intro w hSw; (try dsimp only at hSw); first | (go_simp; done) | (go_simp; with_reducible rfl))
  simp only [Act.put, List.setIfInBounds_toArray, List.set_cons_zero, List.set_cons_succ]
  refine take_call (i := 2) rfl (by kernel_rfl) (fun K hK => ?_)
  go_simp
  first
      | (go_at_call 19; refine (rwNeg t e m k y (-y) _ (hy.below hHeld.2.2.2.2) rfl).mono ?_; rintro e' w1 ⟨s1, a1, l1, c1, rfl, h1, f1, b1⟩)
      | (go_at_call 13; refine (rwAdd s s1 d a1 l c l1 c1 x (-y) z _ (hx.below hHeld.2.2.2.2) h1 fx (by rw [Int.natAbs_neg]; exact fy) HZ.out).mono ?_; rintro e' w2 ⟨s2, a2, l2, c2, rfl, h2, f2, b2⟩)
  refine hK.out _ _ ?_ (fun hHeld => ?_)
  · first | exact keepB2 hHeld b2 | exact keepB2 hHeld b1 | exact ⟨xa.c0, xa.c1, xb.c0, xb.c1, B0⟩ | exact keepS2 hHeld (by omega) (by omega) _ _
  clear hK K
  refine take_call (i := 3) rfl (by kernel_rfl) (fun K hK => ?_)
  go_simp
  first
      | (go_at_call 19; refine (rwNeg t e m k y (-y) _ (hy.below hHeld.2.2.2.2) rfl).mono ?_; rintro e' w1 ⟨s1, a1, l1, c1, rfl, h1, f1, b1⟩)
      | (go_at_call 13; refine (rwAdd s s1 d a1 l c l1 c1 x (-y) z _ (hx.below hHeld.2.2.2.2) h1 fx (by rw [Int.natAbs_neg]; exact fy) HZ.out).mono ?_; rintro e' w2 ⟨s2, a2, l2, c2, rfl, h2, f2, b2⟩)
  refine hK.out _ _ ?_ (fun hHeld => ?_)
  · first | exact keepB2 hHeld b2 | exact keepB2 hHeld b1 | exact ⟨xa.c0, xa.c1, xb.c0, xb.c1, B0⟩ | exact keepS2 hHeld (by omega) (by omega) _ _
  clear hK K
  obtain ⟨k0, k1, k2, k3⟩ := (xz.on b1).on b2
  refine take_call (i := 4) rfl (by kernel_rfl) (fun K hK => ?_)
  go_simp
  refine hK.out _ _ ?_ (fun hHeld => ?_)
  · first | exact keepB2 hHeld b2 | exact keepB2 hHeld b1 | exact ⟨xa.c0, xa.c1, xb.c0, xb.c1, B0⟩ | exact keepS2 hHeld (by omega) (by omega) _ _
  clear hK K
  refine wpAnyH_done (by kernel_rfl) ?_ _
  go_wp2
  have nd : NA (w.heap.size + 1 + 1) d l := hx.hd.sl.na (by omega)
  have ne : NA (w.heap.size + 1 + 1) e m := hy.hd.sl.na (by omega)
  exact bodyPost_ret (v := .agg #[.int .i64 s2, .slice a2 l2 c2]) (by simp [results, Tryd.results15, go_sem, *]) rfl (endR _ (by omega) (also (also B0 b1) b2) h2 (f2 _ (Nat.lt_of_lt_of_le hs b1.size) ⟨nd, f1 _ hs ne⟩) (fun j hj hp => f2 j (Nat.lt_of_lt_of_le hj (Nat.le_trans B0.size b1.size)) ⟨hp.1, f1 j (Nat.lt_of_lt_of_le hj B0.size) hp.2⟩) _ _)
set_option maxRecDepth 100000 in
set_option maxHeartbeats 1000000 in
theorem rwMul (s t : Int) (d e : Option Addr) (l c m k : Nat) (x y z : Int) (w : World) (hx : RN w s d l c x) (hy : RN w t e m k y) (fx : hf.nlen x.natAbs ≤ 1000000) (fy : hf.nlen y.natAbs ≤ 1000000) (hz : z = x * y) : Calls Tryd.prog 17 #[.agg #[.int .i64 s, .slice d l c], .agg #[.int .i64 t, .slice e m k]] w (GotR w (fun _ => True) z) := by
  obtain ⟨B0, xa, xb, xz, hs⟩ := box2 w (.int .i64 s) (.slice d l c) (.int .i64 t) (.slice e m k) (.int .i64 0) (.slice none 0 0) 30 30 30
  have HU : Hid (x.natAbs * y.natAbs = z.natAbs) := by unfold Hid; rw [hz, Int.natAbs_mul]
  have HS : Hid (z ≠ 0 → s * t = z.sign) := fun _ => by rw [hz, Int.sign_mul, hx.sg, hy.sg]
  have es : -1 ≤ s ∧ s ≤ 1 := by rw [hx.sg]; rcases sign_cases x with ⟨_, e⟩ | ⟨_, e⟩ | ⟨_, e⟩ <;> omega
  have et : t = -1 ∨ t = 0 ∨ t = 1 := by rw [hy.sg]; rcases sign_cases y with ⟨_, e⟩ | ⟨_, e⟩ | ⟨_, e⟩ <;> omega
  have ew : IntKind.i64.wrap (s * t) = s * t := by
    rw [IntKind.wrap_i64]
    rcases et with e | e | e <;> rw [e] <;> omega
  have ew' : wrap64 (s * t) = s * t := by
    unfold wrap64
    rcases et with e | e | e <;> rw [e] <;> omega
  clear hz es et
  replace B0 := B0.drew
  replace xa := xa.drew
  replace xb := xb.drew
  replace xz := xz.drew
  go_enter Tryd.func17, Tryd.ntmps17
  go_wp2
  refine wp_region_held_drew (S := (fun w' => w'.cell? ⟨w.heap.size, 0, none⟩ = some (.int .i64 s) ∧ w'.cell? ⟨w.heap.size, 1, none⟩ = some (.slice d l c) ∧ w'.cell? ⟨w.heap.size + 1, 0, none⟩ = some (.int .i64 t) ∧ w'.cell? ⟨w.heap.size + 1, 1, none⟩ = some (.slice e m k) ∧ Below w.heap.size w w')) (by kernel_rfl) ?_ (fun hHeld => ?_)
  · first | exact keepB2 hHeld b2 | exact keepB2 hHeld b1 | exact ⟨xa.c0, xa.c1, xb.c0, xb.c1, B0⟩ | exact keepS2 hHeld (by omega) (by omega) _ _
  refine take_yes (i := 0) (v := ?vv0) rfl (by kernel_rfl) (by kernel_rfl) (by kernel_rfl) (fun _ _ _ h => h) (by rfl) (by assumption) ?hyv0 ?restv0
  case hyv0 => (intro w hSw; (try dsimp only at hSw); first | (go_simp; done) | (go_simp; with_reducible rfl))
  simp only [Act.put, List.setIfInBounds_toArray, List.set_cons_zero, List.set_cons_succ]
  refine take_yes (i := 1) (v := ?vv1) rfl (by kernel_rfl) (by kernel_rfl) (by kernel_rfl) (fun _ _ _ h => h) (by rfl) (by assumption) ?hyv1 ?restv1
  case hyv1 => (intro w hSw; (try dsimp only at hSw); first | (go_simp; done) | (go_simp; with_reducible rfl))
  simp only [Act.put, List.setIfInBounds_toArray, List.set_cons_zero, List.set_cons_succ]
  refine take_yes (i := 2) (v := ?vv2) rfl (by kernel_rfl) (by kernel_rfl) (by kernel_rfl) (fun _ _ _ h => h) (by rfl) (by assumption) ?hyv2 ?restv2
  case hyv2 => (intro w hSw; (try dsimp only at hSw); first | (go_simp; done) | (go_simp; with_reducible rfl))
  simp only [Act.put, List.setIfInBounds_toArray, List.set_cons_zero, List.set_cons_succ]
  refine take_yes (i := 3) (v := ?vv3) rfl (by kernel_rfl) (by kernel_rfl) (by kernel_rfl) (fun _ _ _ h => h) (by rfl) (by assumption) ?hyv3 ?restv3
  case hyv3 => (intro w hSw; (try dsimp only at hSw); first | (go_simp; done) | (go_simp; with_reducible rfl))
  simp only [Act.put, List.setIfInBounds_toArray, List.set_cons_zero, List.set_cons_succ]
  refine take_yes (i := 4) (v := ?vv4) rfl (by kernel_rfl) (by kernel_rfl) (by kernel_rfl) (fun _ _ _ h => h) (by rfl) (by assumption) ?hyv4 ?restv4
  case hyv4 => (intro w hSw; (try dsimp only at hSw); first | (go_simp; done) | (go_simp; with_reducible rfl))
  simp only [Act.put, List.setIfInBounds_toArray, List.set_cons_zero, List.set_cons_succ]
  refine take_yes (i := 5) (v := ?vv5) rfl (by kernel_rfl) (by kernel_rfl) (by kernel_rfl) (fun _ _ _ h => h) (by rfl) (by assumption) ?hyv5 ?restv5
  case hyv5 => (intro w hSw; (try dsimp only at hSw); first | (go_simp; done) | (go_simp; with_reducible rfl))
  simp only [Act.put, List.setIfInBounds_toArray, List.set_cons_zero, List.set_cons_succ]
  refine take_yes (i := 6) (v := ?vv6) rfl (by kernel_rfl) (by kernel_rfl) (by kernel_rfl) (fun _ _ _ h => h) (by rfl) (by assumption) ?hyv6 ?restv6
  case hyv6 => (intro w hSw; (try dsimp only at hSw); first | (go_simp; done) | (go_simp; with_reducible rfl))
  simp only [Act.put, List.setIfInBounds_toArray, List.set_cons_zero, List.set_cons_succ]
  refine take_yes (i := 7) (v := ?vv7) rfl (by kernel_rfl) (by kernel_rfl) (by kernel_rfl) (fun _ _ _ h => h) (by rfl) (by assumption) ?hyv7 ?restv7
  case hyv7 => (intro w hSw; (try dsimp only at hSw); first | (go_simp; done) | (go_simp; with_reducible rfl))
  simp only [Act.put, List.setIfInBounds_toArray, List.set_cons_zero, List.set_cons_succ]
  refine take_yes (i := 8) (v := ?vv8) rfl (by kernel_rfl) (by kernel_rfl) (by kernel_rfl) (fun _ _ _ h => h) (by rfl) (by assumption) ?hyv8 ?restv8
  case hyv8 => (intro w hSw; (try dsimp only at hSw); first | (go_simp; done) | (go_simp; with_reducible rfl))
  simp only [Act.put, List.setIfInBounds_toArray, List.set_cons_zero, List.set_cons_succ]
  refine take_call (i := 9) rfl (by kernel_rfl) (fun K hK => ?_)
  go_simp
  first
      | (go_at_call 46; refine (hfMul d e l m c k _ _ _ (hx.hd.below hHeld.2.2.2.2) (hy.hd.below hHeld.2.2.2.2) fx fy).mono ?_; rintro e' w1 ⟨a1, l1, c1, rfl, h1, f1, b1⟩)
      | (go_at_call 42; refine (rwMake _ a1 l1 c1 _ z _ h1 HU.out HS.out).mono ?_; rintro e' w2 ⟨s2, a2, l2, c2, rfl, h2, f2, b2⟩)
  refine hK.out _ _ ?_ (fun hHeld => ?_)
  · first | exact keepB2 hHeld b2 | exact keepB2 hHeld b1 | exact ⟨xa.c0, xa.c1, xb.c0, xb.c1, B0⟩ | exact keepS2 hHeld (by omega) (by omega) _ _
  clear hK K
  refine take_call (i := 10) rfl (by kernel_rfl) (fun K hK => ?_)
  go_simp
  first
      | (go_at_call 46; refine (hfMul d e l m c k _ _ _ (hx.hd.below hHeld.2.2.2.2) (hy.hd.below hHeld.2.2.2.2) fx fy).mono ?_; rintro e' w1 ⟨a1, l1, c1, rfl, h1, f1, b1⟩)
      | (go_at_call 42; refine (rwMake _ a1 l1 c1 _ z _ h1 HU.out HS.out).mono ?_; rintro e' w2 ⟨s2, a2, l2, c2, rfl, h2, f2, b2⟩)
  refine hK.out _ _ ?_ (fun hHeld => ?_)
  · first | exact keepB2 hHeld b2 | exact keepB2 hHeld b1 | exact ⟨xa.c0, xa.c1, xb.c0, xb.c1, B0⟩ | exact keepS2 hHeld (by omega) (by omega) _ _
  clear hK K
  obtain ⟨k0, k1, k2, k3⟩ := (xz.on b1).on b2
  refine take_call (i := 11) rfl (by kernel_rfl) (fun K hK => ?_)
  go_simp
  refine hK.out _ _ ?_ (fun hHeld => ?_)
  · first | exact keepB2 hHeld b2 | exact keepB2 hHeld b1 | exact ⟨xa.c0, xa.c1, xb.c0, xb.c1, B0⟩ | exact keepS2 hHeld (by omega) (by omega) _ _
  clear hK K
  refine wpAnyH_done (by kernel_rfl) ?_ _
  go_wp2
  exact bodyPost_ret (v := .agg #[.int .i64 s2, .slice a2 l2 c2]) (by simp [results, Tryd.results17, go_sem, *]) rfl (endR _ (by omega) (also (also B0 b1) b2) h2 (f2 _ (Nat.lt_of_lt_of_le hs b1.size) (f1 _ hs)) (fun j hj _ => f2 j (Nat.lt_of_lt_of_le hj (Nat.le_trans B0.size b1.size)) (f1 j (Nat.lt_of_lt_of_le hj B0.size))) _ _)
theorem field_int (s : Int) (d : Option Addr) (l c : Nat) (w : World) : (Instr.field 30 (.agg #[.int .i64 s, .slice d l c]) 0).run Tryd.prog w = .ok (.int .i64 s) w := by show _ = _; kernel_rfl
set_option maxRecDepth 100000 in
set_option maxHeartbeats 1000000 in
theorem rwCmp (s t : Int) (d e : Option Addr) (l c m k : Nat) (x y : Int) (w : World) (hx : RN w s d l c x) (hy : RN w t e m k y) (fx : hf.nlen x.natAbs ≤ 1000000) (fy : hf.nlen y.natAbs ≤ 1000000) {g : Int} (hg : g = (x - y).sign) : Calls Tryd.prog 29 #[.agg #[.int .i64 s, .slice d l c], .agg #[.int .i64 t, .slice e m k]] w fun e' w' => e' = .returned (.int .i64 g) ∧ Below w.heap.size w w' := by
  obtain ⟨B0, xa, xb, hs⟩ := box1 w (.int .i64 s) (.slice d l c) (.int .i64 t) (.slice e m k) 30 30
  have HG : Hid _ := hg
  clear hg
  go_enter Tryd.func29, Tryd.ntmps29
  go_wp2_with (go_at_call 15; fail)
  refine (rwSub s t d e l c m k x y (x - y) _ (hx.below B0) (hy.below B0) fx fy rfl).mono ?_
  rintro e' w1 ⟨s1, a1, l1, c1, rfl, h1, f1, b1⟩
  obtain rfl : s1 = g := by rw [h1.sg]; exact HG.out.symm
  have EF := field_int s1 a1 l1 c1
  go_wp2
  go_ret
  exact ⟨rfl, also B0 b1⟩
end Go.Proofs.YtpkcjgkgabemoaaDoor

namespace Go.Proofs.YtpkcjgkgabemoaaDoor
open Go.RowKit
set_option linter.unusedVariables false

def RefTwo (w w0 : World) (n m : Bool) (a1 : Option Addr) (m1 c1 x1 : Nat) (a2 : Option Addr) (m2 c2 x2 : Nat) (mk : Value → Value → Value → Value → Act) (e : Exit) (act : Act) (wr : World) : Prop := e = .normal ∧ ∃ (p q : Nat) (s : Int) (d : Option Addr) (l c : Nat) (t : Int) (g : Option Addr) (h k : Nat),
  act = mk (.pointer (some ⟨p, 0, none⟩)) (.pointer (some ⟨q, 0, none⟩)) (.agg #[.int .i64 s, .slice d l c]) (.agg #[.int .i64 t, .slice g h k]) ∧ NI wr a1 m1 c1 x1 ∧ NI wr a2 m2 c2 x2 ∧ RN wr s d l c (sgz n x1) ∧ RN wr t g h k (sgz m x2) ∧
  Bx wr w.heap.size (.bool n) (.slice a1 m1 c1) ∧ Bx wr (w.heap.size + 1) (.bool m) (.slice a2 m2 c2) ∧ Bx wr p (.int .i64 s) (.slice d l c) ∧ Bx wr q (.int .i64 t) (.slice g h k) ∧ Below w.heap.size w wr ∧ Below w0.heap.size w0 wr
theorem refTwo {w w0 W : World} {n m : Bool} {a1 : Option Addr} {m1 c1 x1 : Nat} {a2 : Option Addr} {m2 c2 x2 : Nat} {mk : Value → Value → Value → Value → Act} {p q : Nat} {s : Int} {d : Option Addr} {l c : Nat} {t : Int} {g : Option Addr} {h k : Nat} {z1 z2 z3 z4 : Value}
    (n1 : NI W a1 m1 c1 x1) (n2 : NI W a2 m2 c2 x2) (hx : RN W s d l c (sgz n x1)) (hy : RN W t g h k (sgz m x2)) (ya : Bx W w.heap.size (.bool n) (.slice a1 m1 c1)) (yb : Bx W (w.heap.size + 1) (.bool m) (.slice a2 m2 c2)) (zp : Bx W p z1 z2) (zq : Bx W q z3 z4) (B : Below w.heap.size w W) (B9 : Below w0.heap.size w0 W) (hp0 : w0.heap.size ≤ p) (hq0 : w0.heap.size ≤ q)
    (hp : w.heap.size + 1 < p) (hq : w.heap.size + 1 < q) (pq : p ≠ q) (xp : NA p d l) (xq : NA q d l) (yp : NA p g h) (yq : NA q g h) (ap : NA p a1 m1) (aq : NA q a1 m1) (bp : NA p a2 m2) (bq : NA q a2 m2) :
    RefTwo w w0 n m a1 m1 c1 x1 a2 m2 c2 x2 mk .normal (mk (.pointer (some ⟨p, 0, none⟩)) (.pointer (some ⟨q, 0, none⟩)) (.agg #[.int .i64 s, .slice d l c]) (.agg #[.int .i64 t, .slice g h k]))
      ((((W.setCell ⟨p, 0, none⟩ (.int .i64 s)).setCell ⟨p, 1, none⟩ (.slice d l c)).setCell ⟨q, 0, none⟩ (.int .i64 t)).setCell ⟨q, 1, none⟩ (.slice g h k)) := by
  refine ⟨rfl, p, q, s, d, l, c, t, g, h, k, rfl, ?_, ?_, (hx.put2 xp _ _).put2 xq _ _, (hy.put2 yp _ _).put2 yq _ _, ?_, ?_, ?_, ?_, below_put2 (below_put2 B (by omega) _ _) (by omega) _ _, below_put2 (below_put2 B9 hp0 _ _) hq0 _ _⟩
  · exact (((n1.put ap 0 _).put ap 1 _).put aq 0 _).put aq 1 _
  · exact (((n2.put bp 0 _).put bp 1 _).put bq 0 _).put bq 1 _
  · exact (((ya.put (by omega)).put (by omega)).put (by omega)).put (by omega)
  · exact (((yb.put (by omega)).put (by omega)).put (by omega)).put (by omega)
  · exact (zp.set.put (fun e => pq e.symm)).put (fun e => pq e.symm)
  · exact ((zq.put pq).put pq).set
theorem abs_add {X Y : Int} (h1 : X.natAbs < 4294967296 ^ 16) (h2 : Y.natAbs < 4294967296 ^ 16) : (X + Y).natAbs < 4294967296 ^ 17 := by
  have := Int.natAbs_add_le X Y
  rw [Nat.pow_succ]
  omega
theorem abs_sub {X Y : Int} (h1 : X.natAbs < 4294967296 ^ 16) (h2 : Y.natAbs < 4294967296 ^ 16) : (X - Y).natAbs < 4294967296 ^ 17 := by
  have := abs_add (Y := -Y) h1 (by rw [Int.natAbs_neg]; exact h2)
  rwa [← Int.sub_eq_add_neg] at this
theorem abs_mul {X Y : Int} (h1 : X.natAbs < 4294967296 ^ 16) (h2 : Y.natAbs < 4294967296 ^ 16) : (X * Y).natAbs < 4294967296 ^ 32 := by
  rw [Int.natAbs_mul, show 32 = 16 + 16 from rfl, Nat.pow_add]
  exact Nat.mul_lt_mul_of_lt_of_le h1 (Nat.le_of_lt h2) (by decide)
end Go.Proofs.YtpkcjgkgabemoaaDoor

namespace Go.Proofs.YtpkcjgkgabemoaaDoor
open Go.RowKit
set_option linter.unusedVariables false

/-- Digits, at least one, no noughts ahead. -/
def showsB (l : List Int) : Bool := decide (l ≠ [] ∧ ¬ (1 < l.length ∧ l.head? = some 48) ∧ ∀ c ∈ l, 48 ≤ c ∧ c ≤ 57)
theorem shows_empty {l : List Int} (h : l.length = 0) : showsB l = false := by
  unfold showsB
  rw [decide_eq_false_iff_not]
  intro h'
  exact h'.1 (List.length_eq_zero_iff.1 h)
theorem shows_lead {l : List Int} (h : 1 < l.length) (h2 : l.head? = some 48) : showsB l = false := by
  unfold showsB
  rw [decide_eq_false_iff_not]
  intro h'
  exact h'.2.1 ⟨h, h2⟩
theorem shows_bad {l : List Int} {k : Nat} {c : Int} (h : l[k]? = some c) (hc : c < 48 ∨ 57 < c) : showsB l = false := by
  unfold showsB
  rw [decide_eq_false_iff_not]
  intro h'
  have := h'.2.2 c (List.mem_of_getElem? h)
  omega
theorem shows_yes {l : List Int} (h0 : 0 < l.length) (h1 : ¬ (1 < l.length ∧ l.head? = some 48)) (h2 : ∀ (k : Nat) (c : Int), l[k]? = some c → 48 ≤ c ∧ c ≤ 57) : showsB l = true := by
  unfold showsB
  rw [decide_eq_true_iff]
  refine ⟨fun e => by rw [e] at h0; simp at h0, h1, fun c hc => ?_⟩
  obtain ⟨k, hk⟩ := List.getElem?_of_mem hc
  exact h2 k c hk
theorem nums_head (s : ByteArray) (h : 0 < s.size) : (nums s).head? = some ((s[0]).toNat : Int) := by
  rw [List.head?_eq_getElem?, nums_at s 0 h]
theorem isEmpty_no {s : ByteArray} (h : 0 < s.size) : s.toList.isEmpty = false := by
  rw [ByteArray.toList_eq, List.isEmpty_eq_false_iff, ← List.length_pos_iff]
  exact h
theorem isEmpty_yes {s : ByteArray} (h : s.size = 0) : s.toList.isEmpty = true := by
  rw [ByteArray.toList_eq, List.isEmpty_iff, ← List.length_eq_zero_iff]
  exact h

set_option maxRecDepth 100000 in
set_option maxHeartbeats 1000000 in
theorem isShow_any (s : ByteArray) (w : World) (hs : s.size ≤ 9223372036854775807) :
    Calls Tryd.prog 86 #[.string s] w fun e w' => e = .returned (.bool (showsB (nums s))) ∧ w = w' := by
  by_cases h0 : 0 < s.size
  · have he := isEmpty_no h0
    by_cases h1 : 1 < s.size ∧ (s[0].toNat : Int) = 48
    · obtain ⟨h1, h2⟩ := h1
      have HS : Hid (showsB (nums s) = false) := shows_lead (by rw [nums_length]; exact h1) (by rw [nums_head s h0, h2])
      have h2' : ((s[0].toNat : Int) == 48) = true := by simpa using h2
      clear h2
      go_enter Tryd.func86, Tryd.ntmps86
      go_wp2
      go_ret
      exact ⟨by rw [HS.out]; rfl, rfl⟩
    · have HL : Hid _ := h1
      have HF : Hid (∀ k : Nat, (∀ j (hj : j < s.size), j < k → 48 ≤ (s[j].toNat : Int) ∧ (s[j].toNat : Int) ≤ 57) → s.size ≤ k → showsB (nums s) = true) := by
        intro k hk hle
        refine shows_yes (by rw [nums_length]; exact h0) ?_ ?_
        · rw [nums_length, nums_head s h0]
          intro h
          exact h1 ⟨h.1, by simpa using h.2⟩
        · intro j c hj
          have hj' := (List.getElem?_eq_some_iff.1 hj).1
          rw [nums_length] at hj'
          rw [nums_at s j hj'] at hj
          simp only [Option.some.injEq] at hj
          rw [← hj]
          exact hk j hj' (by omega)
      have hcase : s.size ≤ 1 ∨ (1 < s.size ∧ ((s[0].toNat : Int) == 48) = false) := by
        rcases Nat.lt_or_ge 1 s.size with h | h
        · exact Or.inr ⟨h, by rw [beq_eq_false_iff_ne]; exact fun e => h1 ⟨h, e⟩⟩
        · exact Or.inl h
      clear h1
      rcases hcase with hc | ⟨hc, hc2⟩
      all_goals
        go_enter Tryd.func86, Tryd.ntmps86
        go_wp2
        go_loop [18] (fun i => ∃ k : Nat, k ≤ s.size ∧ i = .int .i64 (k : Int) ∧ Hid (∀ j (hj : j < s.size), j < k → 48 ≤ (s[j].toNat : Int) ∧ (s[j].toNat : Int) ≤ 57)) (fun i => s.size - (intOf i).toNat)
        case atStart => exact ⟨0, by omega, rfl, fun j hj h => absurd h (by omega)⟩
        case round =>
          obtain ⟨k, hk, rfl, HK⟩ := hrel
          by_cases hlt : k < s.size
          · by_cases hd : 48 ≤ (s[k].toNat : Int) ∧ (s[k].toNat : Int) ≤ 57
            · obtain ⟨d0, d1⟩ := hd
              have HK' : Hid (∀ j (hj : j < s.size), j < k + 1 → 48 ≤ (s[j].toNat : Int) ∧ (s[j].toNat : Int) ≤ 57) := fun j hj h => by
                rcases Nat.lt_or_ge j k with h' | h'
                · exact HK.out j hj h'
                · obtain rfl : j = k := by omega
                  exact ⟨d0, d1⟩
              go_wp2
              go_round
              case rel => exact ⟨k + 1, by omega, by simp, HK'.out⟩
              case measure => simp [intOf]; omega
            · have HB : Hid (showsB (nums s) = false) := shows_bad (nums_at s k hlt) (by omega)
              have hd2 : (s[k].toNat : Int) < 48 ∨ (48 ≤ (s[k].toNat : Int) ∧ 57 < (s[k].toNat : Int)) := by omega
              clear hd
              rcases hd2 with hd | ⟨hd, hd'⟩
              all_goals
                go_wp2
                go_ret
                exact ⟨by rw [HB.out]; rfl, rfl⟩
          · have HB : Hid (showsB (nums s) = true) := HF.out k HK.out (by omega)
            go_wp2
            go_ret
            exact ⟨by rw [HB.out]; rfl, rfl⟩
  · have he := isEmpty_yes (s := s) (by omega)
    have HS : Hid (showsB (nums s) = false) := shows_empty (by rw [nums_length]; omega)
    go_enter Tryd.func86, Tryd.ntmps86
    go_wp2
    go_ret
    exact ⟨by rw [HS.out]; rfl, rfl⟩

/-- The carry into place k when u times 10^9 and p are added. -/
def wc (u p : Int) (k : Nat) : Int := (u % 4294967296 ^ k * 1000000000 + p) / 4294967296 ^ k
theorem wc_zero (u p : Int) : wc u p 0 = p := by simp [wc, Int.emod_one]
theorem wc_sum (u p : Int) (k : Nat) : (u % 4294967296 ^ (k + 1) * 1000000000 + p) / 4294967296 ^ k = wc u p k + wd.dg u k * 1000000000 := by
  rw [wd.emod_succ]
  unfold wc
  have e : (wd.dg u k * 4294967296 ^ k + u % 4294967296 ^ k) * 1000000000 + p = (u % 4294967296 ^ k * 1000000000 + p) + (wd.dg u k * 1000000000) * 4294967296 ^ k := by
    rw [Int.add_mul, Int.mul_right_comm]; omega
  rw [e, Int.add_mul_ediv_right _ _ (Int.ne_of_gt (wd.p256 k))]
theorem wc_succ (u p : Int) (k : Nat) : wc u p (k + 1) = (wc u p k + wd.dg u k * 1000000000) / 4294967296 := by
  rw [← wc_sum]
  show (u % 4294967296 ^ (k + 1) * 1000000000 + p) / 4294967296 ^ (k + 1) = _
  have hp := wd.p256 k
  rw [Int.pow_succ, Int.ediv_ediv, if_neg (by omega)]; omega
theorem wc_digit (u p : Int) (k : Nat) : (wc u p k + wd.dg u k * 1000000000) % 4294967296 = wd.dg (u * 1000000000 + p) k := by
  rw [← wc_sum]
  show wd.dg (u % 4294967296 ^ (k + 1) * 1000000000 + p) k = _
  refine (wd.dg_congr (i := k + 1) (u / 4294967296 ^ (k + 1) * 1000000000) ?_ (by omega)).symm
  have h := Int.mul_ediv_add_emod u (4294967296 ^ (k + 1))
  have e : u / 4294967296 ^ (k + 1) * 1000000000 * 4294967296 ^ (k + 1) = 4294967296 ^ (k + 1) * (u / 4294967296 ^ (k + 1)) * 1000000000 := by
    rw [Int.mul_right_comm, Int.mul_comm (u / 4294967296 ^ (k + 1))]
  rw [e]
  have h2 : u * 1000000000 = (4294967296 ^ (k + 1) * (u / 4294967296 ^ (k + 1)) + u % 4294967296 ^ (k + 1)) * 1000000000 := by rw [h]
  rw [h2, Int.add_mul]
  omega
theorem wc_range (u p : Int) (k : Nat) (p0 : 0 ≤ p) (p1 : p < 1000000000) : 0 ≤ wc u p k ∧ wc u p k < 1000000000 := by
  unfold wc
  have hp := wd.p256 k
  have a := Int.emod_nonneg u (Int.ne_of_gt hp)
  have a' := Int.emod_lt_of_pos u hp
  exact ⟨Int.ediv_nonneg (by omega) (by omega), Int.ediv_lt_of_lt_mul hp (by omega)⟩
theorem wc_last (u p : Nat) (l : Nat) (hu : u < 4294967296 ^ l) : wc u p l = (((u * 1000000000 + p) / 4294967296 ^ l : Nat) : Int) := by
  unfold wc
  rw [Int.emod_eq_of_lt (by omega) (by rw [← wd.pow_cast]; omega), Int.natCast_ediv, wd.pow_cast]
  rfl
/-- How long the new number is. -/
theorem piece_len_same {u p : Nat} (h : (u * 1000000000 + p) / 4294967296 ^ wd.nlen u = 0) (hp : 0 < u ∨ p = 0) : wd.nlen (u * 1000000000 + p) = wd.nlen u := by
  have hlt : u * 1000000000 + p < 4294967296 ^ wd.nlen u := by
    rcases Nat.div_eq_zero_iff.1 h with h | h
    · have := wd.pow_nat (wd.nlen u); omega
    · exact h
  refine wd.nlen_eq ⟨hlt, ?_⟩
  rcases (wd.nlen_is u).2 with h1 | h1
  · exact Or.inl h1
  · exact Or.inr (by omega)
theorem piece_len_more {u p : Nat} (hp : p < 1000000000) (h : (u * 1000000000 + p) / 4294967296 ^ wd.nlen u ≠ 0) : wd.nlen (u * 1000000000 + p) = wd.nlen u + 1 := by
  have hu := wd.nlen_lt u
  have hge : 4294967296 ^ wd.nlen u ≤ u * 1000000000 + p := by
    rcases Nat.lt_or_ge (u * 1000000000 + p) (4294967296 ^ wd.nlen u) with h1 | h1
    · exact absurd (Nat.div_eq_of_lt h1) h
    · exact h1
  exact wd.nlen_eq ⟨by rw [Nat.pow_succ]; omega, Or.inr (by simpa using hge)⟩

/-- What holds at the head of each round. -/
def WithRel (w : World) (base u p l cap : Nat) (a : Option Addr) (c i : Value) (wr : World) : Prop := ∃ k : Nat, k ≤ l ∧ i = .int .i64 (k : Int) ∧ c = .int .u64 (wc u p k) ∧ Own wr base 82 a l cap (wd.mix l k ((u : Int) * 1000000000 + p) u) ∧ Below base w wr
theorem with_next (w wr : World) (base u p l cap b k : Nat) (hk : k < l) (hown : Own wr base 82 (some ⟨b, 0, none⟩) l cap (wd.mix l k ((u : Int) * 1000000000 + p) u)) (hb : Below base w wr) :
    WithRel w base u p l cap (some ⟨b, 0, none⟩) (.int .u64 ((wc u p k + wd.dg u k * 1000000000) / 4294967296)) (.int .i64 ((k : Int) + 1)) (wr.setCell ⟨b, k, none⟩ (.int .u32 ((wc u p k + wd.dg u k * 1000000000) % 4294967296))) := by
  refine ⟨k + 1, by omega, by simp, by rw [wc_succ], ?_, hb.setCell (seg_of_own hown).2.2 _⟩
  rw [wc_digit, ← wd.mix_set]
  exact Own.set hown _ hk

set_option maxRecDepth 100000 in
set_option maxHeartbeats 1000000 in
theorem with_any (a : Option Addr) (cap base u p : Nat) {pv : Int} (w : World) (hown : Own w base 82 a (wd.nlen u) cap (wd.dcells (wd.nlen u) (u : Int))) (hl : wd.nlen u ≤ 1000000000) (hbase : base ≤ w.heap.size) (hp : p < 1000000000) (hpv : pv = (p : Int)) :
    Calls Tryd.prog 87 #[.slice a (wd.nlen u) cap, .int .u32 pv] w fun e w' => ∃ a' cap', e = .returned (.slice a' (wd.nlen (u * 1000000000 + p)) cap') ∧ Own w' base 82 a' (wd.nlen (u * 1000000000 + p)) cap' (wd.dcells (wd.nlen (u * 1000000000 + p)) ((u * 1000000000 + p : Nat) : Int)) ∧ Below base w w' := by
  subst hpv
  obtain ⟨i0, hi0, hz0, hz1, hz2⟩ := info_parts infoWord
  obtain ⟨l, hl'⟩ : ∃ l, wd.nlen u = l := ⟨_, rfl⟩
  have HL : Hid _ := hl'
  have hu := wd.nlen_lt u
  have Hlast : Hid _ := wc_last u p (wd.nlen u) hu
  have Hsame : Hid _ := @piece_len_same u p
  have Hmore : Hid _ := @piece_len_more u p hp
  have HE : Hid ((u : Int) * 1000000000 + p = ((u * 1000000000 + p : Nat) : Int)) := by unfold Hid; omega
  have HU0 : Hid (u = 0 → p ≠ 0 → (u * 1000000000 + p) / 4294967296 ^ wd.nlen u ≠ 0) := by
    intro h1 h2
    rw [h1, wd.nlen_zero]; simpa using h2
  rw [hl'] at hown hl hu Hlast Hsame Hmore HU0 ⊢
  clear hl' hu
  go_enter Tryd.func87, Tryd.ntmps87
  go_wp2
  go_loopw [5, 12] (fun c i wr => WithRel w base u p l cap a c i wr) (fun _ i _ => l - (intOf i).toNat)
  case atStart => exact ⟨0, by omega, rfl, by rw [wc_zero], by rw [wd.mix_zero]; exact hown, Below.refl _ _⟩
  case round =>
    clear hown
    obtain ⟨k, hk, rfl, rfl, hown, hbel⟩ := hrel
    obtain ⟨f0, f1⟩ := wc_range u p k (by omega) (by omega)
    by_cases hlt : k < l
    · obtain ⟨b, rfl, hb, hb2, _⟩ := Own.at hown (by omega)
      have hroom := (Own.sl hown).room
      have c3 : wr.cell? ⟨b, k, none⟩ = some (.int .u32 (wd.dg u k)) := Own.cell hown k _ (wd.mix_at _ _ _ _ _ (by omega) (Nat.le_refl _))
      have c4 : wr.frozen? ⟨b, k, none⟩ = false := Own.free hown k (by omega)
      obtain ⟨d0, d1⟩ := wd.dg_range u k
      have HN : Hid _ := with_next w wr base u p l cap b k hlt hown hbel
      clear hown
      go_wp2
      go_roundw
      case rel => exact HN.out
      case measure => simp [intOf]; omega
    · obtain rfl : k = l := by omega
      rw [wd.mix_full, HE.out] at hown
      by_cases hz : (u * 1000000000 + p) / 4294967296 ^ k = 0
      · have hw0 : wc u p k = 0 := by rw [Hlast.out, hz]; rfl
        have hs := Hsame.out hz (by
          rcases Nat.eq_zero_or_pos u with h | h
          · rcases Nat.eq_zero_or_pos p with h2 | h2
            · exact Or.inr h2
            · exact absurd hz (HU0.out h (by omega))
          · exact Or.inl h)
        have HS : Hid _ := hs
        clear hs hz
        go_wp2
        go_ret
        rw [HS.out]
        exact ⟨a, cap, rfl, hown, hbel⟩
      · have hw0 : (wc u p k == 0) = false := by
          rw [Hlast.out, beq_eq_false_iff_ne]; omega
        have HS : Hid _ := Hmore.out hz
        have HT : Hid (wc u p k = wd.dg ((u * 1000000000 + p : Nat) : Int) k) := by
          have h1 := Hlast.out
          have h2 := wd.dg_nat (u * 1000000000 + p) k
          unfold Hid
          rw [h2]
          omega
        have hsz := hbel.size
        clear hz
        obtain ⟨C, hC⟩ : ∃ C, wc u p k = C := ⟨_, rfl⟩
        rw [hC] at f0 f1 hw0 HT ⊢
        clear hC
        go_wp2_with (at_builtin; refine wpList_append_lies _ rfl (.tmp 32) (.tmp 35) 23 rfl base 82 i0 (.int .u32 0) 1 4 Tryd.underlying23 hi0 hz0 hz1 hz2 rfl (by decide) (.slice a k cap) k (wd.dcells k ((u * 1000000000 + p : Nat) : Int)) rfl (World.ownsRow.alloc hown _) ⟨wr.heap.size, 0, none⟩ 1 1 [.int .u32 C] rfl rfl (cell_one_new _ _ _) (ints_oneCell .u32 [C]) (by decide) (by unfold maxLen; omega) (by omega) (by simp; omega) _ rfl ?_; intro g' cap' w4 hown4 hgrow4 hat4 hlt4)
        go_ret
        rw [HS.out]
        refine ⟨some ⟨g', 0, none⟩, cap', rfl, ?_, (hbel.alloc (by omega) _).grown hgrow4 (by simp; omega) (fun k' hk' => (World.ownsRow.lt hown k' hk').1)⟩
        rw [wd.dcells_succ, ← HT.out]
        exact hown4
end Go.Proofs.YtpkcjgkgabemoaaDoor

namespace Go.Proofs.YtpkcjgkgabemoaaDoor
open Go.RowKit
set_option linter.unusedVariables false

/-- The number of digits' bytes. -/
def rdN (l : List Int) : Nat := l.foldl (fun v c => 10 * v + (c - 48).toNat) 0
theorem rdN_snoc (l : List Int) (c : Int) : rdN (l ++ [c]) = 10 * rdN l + (c - 48).toNat := by unfold rdN; rw [List.foldl_append]; rfl
theorem rdN_lt : ∀ (n : Nat) (l : List Int), l.length = n → (∀ c ∈ l, 48 ≤ c ∧ c ≤ 57) → rdN l < 10 ^ n
  | 0, l, h, _ => by rw [List.length_eq_zero_iff.1 h]; decide
  | n + 1, l, h, hd => by
    have hne : l ≠ [] := fun e => by rw [e] at h; simp at h
    rw [← List.dropLast_concat_getLast hne] at hd ⊢
    rw [rdN_snoc, Nat.pow_succ]
    have h1 := rdN_lt n l.dropLast (by rw [List.length_dropLast]; omega) (fun c hc => hd c (List.mem_append_left _ hc))
    have h2 := hd (l.getLast hne) (List.mem_append_right _ (List.mem_singleton.2 rfl))
    omega
theorem rdN_digs (k m : Nat) : rdN (digs k m) = m % 10 ^ k := by
  induction k generalizing m with
  | zero => simp [digs, rdN, Nat.mod_one]
  | succ k ih =>
    rw [digs_snoc, rdN_snoc, ih]
    have h : m % 10 ^ (k + 1) = m / 10 % 10 ^ k * 10 + m % 10 := by
      rw [Nat.pow_succ, Nat.mul_comm (10 ^ k) 10, Nat.mod_mul]; omega
    rw [h]
    omega
theorem nlen_dec {N k : Nat} (h : N < 10 ^ k) : wd.nlen N ≤ k := wd.nlen_le (Nat.lt_of_lt_of_le h (Nat.pow_le_pow_left (by decide) k))

/-- What holds at the head of each round. -/
def ParseRel (w : World) (s : ByteArray) (nv pv iv : Value) (wr : World) : Prop := ∃ (k N P m cap : Nat) (a : Option Addr), k ≤ s.size ∧ iv = .int .i64 (k : Int) ∧ nv = .slice a (wd.nlen N) cap ∧ pv = .int .u32 (P : Int) ∧
  Hid (rdN ((nums s).take k) = N * 10 ^ m + P ∧ P < 10 ^ m ∧ m = (9 - (s.size - k) % 9) % 9) ∧ P < 100000000 ∧ wd.nlen N ≤ 2000 ∧ Own wr w.heap.size 82 a (wd.nlen N) cap (wd.dcells (wd.nlen N) (N : Int)) ∧ Below w.heap.size w wr
theorem pow10_le {m : Nat} (h : m ≤ 8) : 10 ^ m ≤ 100000000 := Nat.pow_le_pow_right (n := 10) (by decide) h
theorem parse_on {w wr : World} {s : ByteArray} {k N P m cap : Nat} {a : Option Addr} (hk : k < s.size) (H : Hid (rdN ((nums s).take k) = N * 10 ^ m + P ∧ P < 10 ^ m ∧ m = (9 - (s.size - k) % 9) % 9)) (d0 : 48 ≤ (s[k].toNat : Int)) (d1 : (s[k].toNat : Int) ≤ 57) (hne : (s.size - 1 - k) % 9 ≠ 0) (hn : wd.nlen N ≤ 2000)
    (hown : Own wr w.heap.size 82 a (wd.nlen N) cap (wd.dcells (wd.nlen N) (N : Int))) (hb : Below w.heap.size w wr) : ParseRel w s (.slice a (wd.nlen N) cap) (.int .u32 ((P : Int) * 10 + ((s[k].toNat : Int) - 48))) (.int .i64 ((k : Int) + 1)) wr := by
  obtain ⟨h1, h2, h3⟩ := H.out
  have e : (P : Int) * 10 + ((s[k].toNat : Int) - 48) = ((P * 10 + ((s[k].toNat : Int) - 48).toNat : Nat) : Int) := by omega
  have hm : m ≤ 7 := by omega
  have hp := pow10_le (m := m + 1) (by omega)
  rw [Nat.pow_succ] at hp
  refine ⟨k + 1, N, P * 10 + ((s[k].toNat : Int) - 48).toNat, m + 1, cap, a, hk, by simp, rfl, by rw [e], ⟨?_, by rw [Nat.pow_succ]; omega, by omega⟩, by omega, hn, hown, hb⟩
  rw [nums_take s k hk, rdN_snoc, h1, Nat.pow_succ, ← Nat.mul_assoc]
  omega
theorem parse_cut {w wr : World} {s : ByteArray} {k N P m cap N' : Nat} {a : Option Addr} (hk : k < s.size) (H : Hid (rdN ((nums s).take k) = N * 10 ^ m + P ∧ P < 10 ^ m ∧ m = (9 - (s.size - k) % 9) % 9)) (d0 : 48 ≤ (s[k].toNat : Int)) (d1 : (s[k].toNat : Int) ≤ 57) (hz : (s.size - 1 - k) % 9 = 0) (hN : N' = N * 1000000000 + (P * 10 + ((s[k].toNat : Int) - 48).toNat)) (hn : wd.nlen N' ≤ 2000)
    (hown : Own wr w.heap.size 82 a (wd.nlen N') cap (wd.dcells (wd.nlen N') (N' : Int))) (hb : Below w.heap.size w wr) : ParseRel w s (.slice a (wd.nlen N') cap) (.int .u32 0) (.int .i64 ((k : Int) + 1)) wr := by
  obtain ⟨h1, h2, h3⟩ := H.out
  refine ⟨k + 1, N', 0, 0, cap, a, hk, by simp, rfl, rfl, ⟨?_, by decide, by omega⟩, by omega, hn, hown, hb⟩
  obtain rfl : m = 8 := by omega
  rw [nums_take s k hk, rdN_snoc, h1, hN]
  omega

set_option maxRecDepth 100000 in
set_option maxHeartbeats 1000000 in
theorem parse_form (s : ByteArray) (w : World) (hs : s.size ≤ 9223372036854775807) (h : showsB (nums s) = false) :
    Calls Tryd.prog 65 #[.string s] w fun e w' => e = .returned (.tuple #[.slice none 0 0, .int .i64 4]) ∧ w = w' := by
  go_enter Tryd.func65, Tryd.ntmps65
  go_wp2_with (go_at_call 86; refine (isShow_any s _ hs).mono ?_; rintro e w' ⟨rfl, hw⟩; subst hw)
  go_ret2
  exact ⟨rfl, rfl⟩
set_option maxRecDepth 100000 in
set_option maxHeartbeats 1000000 in
theorem parse_long (s : ByteArray) (w : World) (hs : s.size ≤ 9223372036854775807) (h : showsB (nums s) = true) (hl : 2000 < s.size) :
    Calls Tryd.prog 65 #[.string s] w fun e w' => e = .returned (.tuple #[.slice none 0 0, .int .i64 5]) ∧ w = w' := by
  go_enter Tryd.func65, Tryd.ntmps65
  go_wp2_with (go_at_call 86; refine (isShow_any s _ hs).mono ?_; rintro e w' ⟨rfl, hw⟩; subst hw)
  go_ret2
  exact ⟨rfl, rfl⟩
set_option maxRecDepth 100000 in
set_option maxHeartbeats 1000000 in
theorem parse_num (s : ByteArray) (w : World) (h : showsB (nums s) = true) (hl : s.size ≤ 2000) :
    Calls Tryd.prog 65 #[.string s] w fun e w' => ∃ a cap, e = .returned (.tuple #[.slice a (wd.nlen (rdN (nums s))) cap, .int .i64 0]) ∧ Own w' w.heap.size 82 a (wd.nlen (rdN (nums s))) cap (wd.dcells (wd.nlen (rdN (nums s))) (rdN (nums s) : Int)) ∧ Below w.heap.size w w' := by
  have hd : ∀ k (hk : k < s.size), 48 ≤ (s[k].toNat : Int) ∧ (s[k].toNat : Int) ≤ 57 := fun k hk => by
    unfold showsB at h
    exact (of_decide_eq_true h).2.2 _ (List.mem_of_getElem? (nums_at s k hk))
  have HD : Hid _ := hd
  have HR : Hid (∀ k, k ≤ s.size → rdN ((nums s).take k) < 10 ^ k) := fun k hk => by
    refine rdN_lt k _ (by rw [List.length_take, nums_length]; omega) fun c hc => ?_
    unfold showsB at h
    exact (of_decide_eq_true h).2.2 c (List.mem_of_mem_take hc)
  clear hd
  go_enter Tryd.func65, Tryd.ntmps65
  go_wp2_with (go_at_call 86; refine (isShow_any s _ (by omega)).mono ?_; rintro e w' ⟨rfl, hw⟩; subst hw)
  go_loopw [4, 5, 15] (fun nv pv iv wr => ParseRel w s nv pv iv wr) (fun _ _ iv _ => s.size - (intOf iv).toNat)
  case atStart =>
    refine ⟨0, 0, 0, (9 - (s.size - 0) % 9) % 9, 0, none, by omega, rfl, by rw [wd.nlen_zero], rfl, ⟨by simp [rdN], Nat.pow_pos (by decide), rfl⟩, by omega, by rw [wd.nlen_zero]; omega, ?_, Below.refl _ _⟩
    rw [wd.nlen_zero]
    exact World.ownsRow_nil _ _ _ _
  case round =>
    obtain ⟨k, N, P, m, cap, a, hk, rfl, rfl, rfl, H, hP, hn, hown, hbel⟩ := hrel
    by_cases hlt : k < s.size
    · obtain ⟨d0, d1⟩ := HD.out k hlt
      by_cases hz : (s.size - 1 - k) % 9 = 0
      · have hz' : (((s.size : Int) - 1 - k) % 9 == 0) = true := by rw [beq_iff_eq]; omega
        obtain ⟨N', hN'⟩ : ∃ N', N' = N * 1000000000 + (P * 10 + ((s[k].toNat : Int) - 48).toNat) := ⟨_, rfl⟩
        have hn' : wd.nlen N' ≤ 2000 := by
          obtain ⟨h1, h2, h3⟩ := H.out
          have h4 := HR.out (k + 1) hlt
          obtain rfl : m = 8 := by omega
          have : rdN ((nums s).take (k + 1)) = N' := by rw [nums_take s k hlt, rdN_snoc, h1, hN']; omega
          rw [this] at h4
          have := nlen_dec h4
          omega
        have HN : Hid _ := fun wr a cap => parse_cut (w := w) (wr := wr) (cap := cap) (a := a) hlt H d0 d1 hz hN' hn'
        have HW : Hid _ := fun (w0 : World) (h : Own w0 w.heap.size 82 a (wd.nlen N) cap (wd.dcells (wd.nlen N) (N : Int))) (hb : w.heap.size ≤ w0.heap.size) => with_any a cap w.heap.size N (P * 10 + ((s[k].toNat : Int) - 48).toNat) (pv := (P : Int) * 10 + ((s[k].toNat : Int) - 48)) w0 h (by omega) hb (by omega) (by omega)
        have hsz := hbel.size
        have HN' : Hid _ := hN'
        clear hz hN'
        go_wp2_with (go_at_call 87; refine (HW.out _ hown hsz).mono ?_; rw [← HN'.out]; rintro e w2 ⟨a2, cap2, rfl, hown2, hbel2⟩)
        go_roundw
        case rel => exact HN.out w2 a2 cap2 hown2 (hbel.trans hbel2)
        case measure => simp [intOf]; omega
      · have hz' : (((s.size : Int) - 1 - k) % 9 == 0) = false := by rw [beq_eq_false_iff_ne]; omega
        have HN : Hid _ := parse_on hlt H d0 d1 hz hn hown hbel
        clear hz hown
        go_wp2
        go_roundw
        case rel => exact HN.out
        case measure => simp [intOf]; omega
    · obtain rfl : k = s.size := by omega
      have HF : Hid (rdN (nums s) = N) := by
        obtain ⟨h1, h2, h3⟩ := H.out
        rw [Nat.sub_self] at h3
        obtain rfl : m = 0 := by simpa using h3
        rw [List.take_of_length_le (by rw [nums_length]; omega)] at h1
        unfold Hid
        rw [h1]
        simp at h2
        omega
      go_wp2
      go_ret2
      rw [HF.out]
      exact ⟨a, cap, rfl, hown, hbel⟩
end Go.Proofs.YtpkcjgkgabemoaaDoor

namespace Go.Proofs.YtpkcjgkgabemoaaDoor
open Go.RowKit
set_option linter.unusedVariables false

/-- What nat reads of a text: a number and an error. -/
def GotP (w : World) (N : Nat) (E : Int) (e : Ending) (w' : World) : Prop := ∃ a l c, e = .returned (.tuple #[.slice a l c, .int .i64 E]) ∧ ND w' a l c N ∧ Far w.heap.size a l ∧ Below w.heap.size w w'
theorem first_is (s : ByteArray) (h0 : 0 < s.size) : ((s.extract 0 1).toList == [45]) = ((s[0].toNat : Int) == 45) := by
  have e : (s.extract 0 1).toList = [s[0]] := by
    rw [ByteArray.toList_eq]
    obtain ⟨⟨l⟩⟩ := s
    cases l with
    | nil => exact absurd (show 0 < 0 from h0) (Nat.lt_irrefl 0)
    | cons x r => simp [ByteArray.data_extract]; rfl
  rw [e, Bool.eq_iff_iff]
  simp only [List.cons_beq_cons, List.beq_nil_eq, beq_iff_eq, Bool.and_eq_true, List.isEmpty_nil, and_true]
  constructor
  · intro h; rw [h]; rfl
  · intro h
    have : s[0].toNat = 45 := by omega
    exact UInt8.toNat_inj.1 this
set_option maxRecDepth 100000 in
set_option maxHeartbeats 1000000 in
theorem hasPrefix_any (s : ByteArray) (w : World) (hs : s.size ≤ 9223372036854775807) (h0 : 0 < s.size) :
    Calls Tryd.prog 99 #[.string s, .string ⟨#[45]⟩] w fun e w' => e = .returned (.bool ((s[0].toNat : Int) == 45)) ∧ w = w' := by
  have h1 : (1 : Int) ≤ s.size := by omega
  have HF : Hid _ := first_is s h0
  go_enter Tryd.func99, Tryd.ntmps99
  go_wp2
  go_ret
  exact ⟨by rw [← HF.out]; rfl, rfl⟩
set_option maxRecDepth 100000 in
set_option maxHeartbeats 1000000 in
theorem hasPrefix_nil (s : ByteArray) (w : World) (h0 : s.size = 0) :
    Calls Tryd.prog 99 #[.string s, .string ⟨#[45]⟩] w fun e w' => e = .returned (.bool false) ∧ w = w' := by
  go_enter Tryd.func99, Tryd.ntmps99
  go_wp2
  go_ret
  exact ⟨rfl, rfl⟩
/-- Whether a text begins with a minus, and what stands behind it. -/
def minus? (s : ByteArray) : Bool := if h : 0 < s.size then ((s[0].toNat : Int) == 45) else false
def behind (s : ByteArray) : ByteArray := if minus? s then s.extract 1 s.size else s
theorem hasPrefix_is (s : ByteArray) (w : World) (hs : s.size ≤ 9223372036854775807) {b : Bool} (hb : b = minus? s) :
    Calls Tryd.prog 99 #[.string s, .string ⟨#[45]⟩] w fun e w' => e = .returned (.bool b) ∧ w = w' := by
  subst hb
  unfold minus?
  split
  · exact hasPrefix_any s w hs (by assumption)
  · exact hasPrefix_nil s w (by omega)
set_option maxRecDepth 100000 in
set_option maxHeartbeats 1000000 in
theorem cutPrefix_is (s : ByteArray) (w : World) (hs : s.size ≤ 9223372036854775807) {b : Bool} (hb : b = minus? s) {t : ByteArray} (ht : t = behind s) :
    Calls Tryd.prog 64 #[.string s, .string ⟨#[45]⟩] w fun e w' => e = .returned (.tuple #[.string t, .bool b]) ∧ w = w' := by
  have HB : Hid _ := hb
  have hin : Calls Tryd.prog 85 #[.string s, .string ⟨#[45]⟩] w fun e w' => e = .returned (.tuple #[.string t, .bool b]) ∧ w = w' := by
    cases b
    · obtain rfl : t = s := by rw [ht]; unfold behind; rw [← hb]; rfl
      clear ht hb
      go_enter Tryd.func85, Tryd.ntmps85
      go_wp2_with (go_at_call 99; refine (hasPrefix_is _ _ hs HB.out).mono ?_; rintro e w' ⟨rfl, hw⟩; subst hw)
      go_ret2
      exact ⟨rfl, rfl⟩
    · obtain rfl : t = s.extract 1 s.size := by rw [ht]; unfold behind; rw [← hb]; rfl
      have h1 : (1 : Int) ≤ s.size := by
        unfold minus? at hb
        split at hb
        · omega
        · cases hb
      clear ht hb
      go_enter Tryd.func85, Tryd.ntmps85
      go_wp2_with (go_at_call 99; refine (hasPrefix_is _ _ hs HB.out).mono ?_; rintro e w' ⟨rfl, hw⟩; subst hw)
      go_ret2
      exact ⟨rfl, rfl⟩
  have HI : Hid _ := hin
  clear hin hb ht
  go_enter Tryd.func64, Tryd.ntmps64
  go_wp2_with (go_at_call 85; refine (show Calls _ _ _ _ (fun e w' => e = .returned (.tuple #[.string t, .bool b]) ∧ w = w') from HI.out).mono ?_; rintro e w' ⟨rfl, hw⟩; subst hw)
  go_ret2
  exact ⟨rfl, rfl⟩
/-- What whole reads of a text. -/
def GotZ (w : World) (z E : Int) (e : Ending) (w' : World) : Prop := ∃ (n : Bool) (a : Option Addr) (l c : Nat), e = .returned (.tuple #[.agg #[.bool n, .slice a l c], .int .i64 E]) ∧ WN w' n a l c z ∧ Far w.heap.size a l ∧ Below w.heap.size w w'
theorem endZ {w W w2 : World} {n : Bool} {a : Option Addr} {l c : Nat} {z E : Int} (k : Nat) (hk : w.heap.size ≤ k) (hs : k < W.heap.size) (B : Below w.heap.size w w2) (h : WN w2 n a l c z) (f : Far W.heap.size a l) (u v : Value) :
    GotZ w z E (.returned (.tuple #[.agg #[.bool n, .slice a l c], .int .i64 E])) ((w2.setCell ⟨k, 0, none⟩ u).setCell ⟨k, 1, none⟩ v) :=
  ⟨n, a, l, c, rfl, h.put2 (f k hs) u v, f.mono (by omega), below_put2 B hk u v⟩
theorem wn_zero (w : World) : WN w false none 0 0 0 := ⟨nd_nil w, rfl⟩
/-- The number and the error of a text, by those of what stands behind its minus. -/
def zOf (b : Bool) (N : Nat) (E : Int) : Int × Int := if E ≠ 0 then (0, E) else if b = true ∧ N = 0 then (0, 4) else (sgz b N, 0)
set_option maxRecDepth 100000 in
set_option maxHeartbeats 1000000 in
theorem wParse (s : ByteArray) (N : Nat) (E : Int) (w : World) (hs : s.size ≤ 9223372036854775807) (hp : ∀ w, Calls Tryd.prog 65 #[.string (behind s)] w (GotP w N E)) :
    Calls Tryd.prog 35 #[.string s] w (GotZ w (zOf (minus? s) N E).1 (zOf (minus? s) N E).2) := by
  have B0 : Below w.heap.size w (w.alloc (.cells #[.bool false, .slice none 0 0] 25)) := (Below.refl _ _).alloc (Nat.le_refl _) _
  have x0 := bx_new w (.bool false) (.slice none 0 0) 25
  have hsz : w.heap.size < (w.alloc (.cells #[.bool false, .slice none 0 0] 25)).heap.size := by simp
  obtain ⟨b, hb⟩ : ∃ b, b = minus? s := ⟨_, rfl⟩
  obtain ⟨t, ht⟩ : ∃ t, t = behind s := ⟨_, rfl⟩
  rw [← hb]
  rw [← ht] at hp
  have HB : Hid _ := hb
  have HT : Hid _ := ht
  have HP : Hid _ := hp
  clear hb ht hp
  by_cases hE : E = 0
  · subst hE
    by_cases hz : b = true ∧ N = 0
    · obtain ⟨rfl, rfl⟩ := hz
      have HV : Hid (zOf true 0 0 = (0, 4)) := by unfold Hid zOf; simp
      rw [HV.out]
      go_enter Tryd.func35, Tryd.ntmps35
      go_wp2_with (go_at_call 64; refine (cutPrefix_is s _ hs HB.out HT.out).mono ?_; rintro e w' ⟨rfl, hw⟩; subst hw)
      refine (show Calls _ _ _ _ (GotP _ 0 0) from HP.out _).mono ?_
      rintro e w1 ⟨a, l, c, rfl, h1, f1, b1⟩
      obtain rfl : l = 0 := by rw [h1.len, wd.nlen_zero]
      obtain ⟨k0, k1, k2, k3⟩ := x0.on b1
      go_wp2
      exact bodyPost_ret (v := .tuple #[.agg #[.bool false, .slice none 0 0], .int .i64 4]) (by simp [results, Tryd.results35, go_sem, *]) rfl (endZ _ (Nat.le_refl _) hsz (also B0 b1) (wn_zero _) (far_nil _ _) _ _)
    · have HV : Hid (zOf b N 0 = (sgz b N, 0)) := by unfold Hid zOf; rw [if_neg (by simp), if_neg hz]
      rw [HV.out]
      go_enter Tryd.func35, Tryd.ntmps35
      go_wp2_with (go_at_call 64; refine (cutPrefix_is s _ hs HB.out HT.out).mono ?_; rintro e w' ⟨rfl, hw⟩; subst hw)
      refine (show Calls _ _ _ _ (GotP _ N 0) from HP.out _).mono ?_
      rintro e w1 ⟨a, l, c, rfl, h1, f1, b1⟩
      obtain ⟨k0, k1, k2, k3⟩ := x0.on b1
      cases b
      · go_wp2_with (go_at_call 44; fail)
        refine (wSigned false a l c N w1 h1 (sgz false N) rfl).mono ?_
        rintro e w2 ⟨n2, rfl, h2, b2⟩
        obtain ⟨k0, k1, k2, k3⟩ := (x0.on b1).on b2
        go_wp2
        exact bodyPost_ret (v := .tuple #[.agg #[.bool n2, .slice a l c], .int .i64 0]) (by simp [results, Tryd.results35, go_sem, *]) rfl (endZ _ (Nat.le_refl _) hsz (also (also B0 b1) b2) h2 f1 _ _)
      · have hl : ¬ (l : Int) = 0 := by
          have hN : N ≠ 0 := fun e => hz ⟨rfl, e⟩
          have := wd.nlen_pos (Nat.pos_of_ne_zero hN)
          rw [h1.len]
          omega
        go_wp2_with (go_at_call 44; fail)
        refine (wSigned true a l c N w1 h1 (sgz true N) rfl).mono ?_
        rintro e w2 ⟨n2, rfl, h2, b2⟩
        obtain ⟨k0, k1, k2, k3⟩ := (x0.on b1).on b2
        go_wp2
        exact bodyPost_ret (v := .tuple #[.agg #[.bool n2, .slice a l c], .int .i64 0]) (by simp [results, Tryd.results35, go_sem, *]) rfl (endZ _ (Nat.le_refl _) hsz (also (also B0 b1) b2) h2 f1 _ _)
  · have HV : Hid (zOf b N E = (0, E)) := by unfold Hid zOf; rw [if_pos hE]
    rw [HV.out]
    go_enter Tryd.func35, Tryd.ntmps35
    go_wp2_with (go_at_call 64; refine (cutPrefix_is s _ hs HB.out HT.out).mono ?_; rintro e w' ⟨rfl, hw⟩; subst hw)
    refine (show Calls _ _ _ _ (GotP _ N E) from HP.out _).mono ?_
    rintro e w1 ⟨a, l, c, rfl, h1, f1, b1⟩
    obtain ⟨k0, k1, k2, k3⟩ := x0.on b1
    go_wp2
    exact bodyPost_ret (v := .tuple #[.agg #[.bool false, .slice none 0 0], .int .i64 E]) (by simp [results, Tryd.results35, go_sem, *]) rfl (endZ _ (Nat.le_refl _) hsz (also B0 b1) (wn_zero _) (far_nil _ _) _ _)
end Go.Proofs.YtpkcjgkgabemoaaDoor

namespace Go.Proofs.YtpkcjgkgabemoaaDoor
open Go.RowKit
set_option linter.unusedVariables false

theorem slice10 (r : Int) (r0 : 0 ≤ r) (r1 : r < 10) (w : World) : (Instr.slice 9 (.string ⟨#[48, 49, 50, 51, 52, 53, 54, 55, 56, 57]⟩) (some (.int .i64 r)) (some (.int .i64 (r + 1))) none).run Tryd.prog w = .ok (.string (strOfNums [48 + r])) w := by
  have : r = 0 ∨ r = 1 ∨ r = 2 ∨ r = 3 ∨ r = 4 ∨ r = 5 ∨ r = 6 ∨ r = 7 ∨ r = 8 ∨ r = 9 := by omega
  rcases this with h | h | h | h | h | h | h | h | h | h <;> (subst h; show _ = _; kernel_rfl)
theorem hf_one (l : Nat) (u : Int) : ∀ v ∈ hf.dcells l u, v.oneCell' = true := by
  intro v hv
  unfold hf.dcells at hv
  simp only [List.mem_map] at hv
  obtain ⟨j, _, rfl⟩ := hv
  rfl
/-- What holds at the head of each round of the inner loop. -/
def TenIn (w : World) (U L cap : Nat) (a : Option Addr) (c i : Value) (wr : World) : Prop := ∃ (r : Nat) (R : Int), r ≤ L ∧ Hid (R = (U : Int) / 65536 ^ r % 10) ∧ i = .int .i64 ((r : Int) - 1) ∧ c = .int .i64 R ∧ 0 ≤ R ∧ R < 10 ∧ Own wr w.heap.size 3 a L cap (hf.xim L r ((U : Int) / 10) U) ∧ Below w.heap.size w wr
theorem ten_next (w wr : World) (U L cap b q : Nat) (R : Int) (hR : Hid (R = (U : Int) / 65536 ^ (q + 1) % 10)) (hq : q < L) (hown : Own wr w.heap.size 3 (some ⟨b, 0, none⟩) L cap (hf.xim L (q + 1) ((U : Int) / 10) U)) (hb : Below w.heap.size w wr) :
    TenIn w U L cap (some ⟨b, 0, none⟩) (.int .i64 ((R * 65536 + hf.dg U q) % 10)) (.int .i64 ((q : Int) - 1)) (wr.setCell ⟨b, q, none⟩ (.int .i64 ((R * 65536 + hf.dg U q) / 10))) := by
  refine ⟨q, _, by omega, ?_, rfl, rfl, by omega, by omega, ?_, hb.setCell (seg_of_own hown).2.2 _⟩
  · unfold Hid; rw [hR.out, (hf.long_div U 10 q (by decide)).2]
  · rw [hR.out, hf.quot_digit _ _ _ (by decide), ← hf.xim_set]
    exact Own.set hown _ hq
/-- What holds at the head of each round of the outer loop. -/
def TenOut (w : World) (u lu : Nat) (lv sv : Value) (wr : World) : Prop := ∃ (t U cap : Nat) (a : Option Addr), t ≤ dlen u ∧ (t ≤ 1 ∨ 10 ^ (t - 1) ≤ u) ∧ Hid (U = u / 10 ^ t) ∧ lv = .slice a (hf.nlen U) cap ∧ sv = .string (strOfNums (digs t u)) ∧ hf.nlen U ≤ lu ∧ Own wr w.heap.size 3 a (hf.nlen U) cap (hf.dcells (hf.nlen U) (U : Int)) ∧ Below w.heap.size w wr
theorem dlen_few {u l : Nat} (h : u < 65536 ^ l) : dlen u ≤ 5 * l + 1 := by
  obtain ⟨h1, h2, h3⟩ := isDec_dlen u
  rcases h3 with h3 | h3
  · omega
  · rcases Nat.lt_or_ge (5 * l) (dlen u - 1) with h4 | h4
    · have a1 := Nat.pow_le_pow_right (n := 10) (by decide) (show 5 * l ≤ dlen u - 1 by omega)
      have a2 : 65536 ^ l ≤ (10 ^ 5) ^ l := Nat.pow_le_pow_left (by decide) l
      rw [← Nat.pow_mul] at a2
      omega
    · omega
theorem isDec_of {m k : Nat} (h1 : 1 ≤ k) (hq : m / 10 ^ k = 0) (hl : k ≤ 1 ∨ 10 ^ (k - 1) ≤ m) : IsDec m k := by
  refine ⟨h1, ?_, ?_⟩
  · rcases (Nat.div_eq_zero_iff).1 hq with h | h
    · have := Nat.pow_pos (n := k) (show 0 < 10 by decide); omega
    · exact h
  · rcases hl with h | h
    · exact Or.inl (by omega)
    · exact Or.inr h
theorem digs_empty (t u : Nat) : (strOfNums (digs t u)).toList.isEmpty = decide (t = 0) := by
  rw [ByteArray.toList_eq, strOfNums_data]
  rcases t with _ | t
  · rfl
  · simp [digs]
theorem str_eq_empty (t u : Nat) : ((strOfNums (digs t u)).toList == []) = decide (t = 0) := by
  have := digs_empty t u
  rw [Bool.eq_iff_iff] at this ⊢
  simpa using this
theorem ten_meas (t u : Nat) (R : Int) : strLen (.string (strOfNums [48 + R] ++ strOfNums (digs t u))) = t + 1 ∧ strLen (.string (strOfNums (digs t u))) = t := by
  rw [strOfNums_append]
  refine ⟨?_, ?_⟩
  · rw [strLen_str, strOfNums_size, List.length_append, digs_length]
    show 1 + t = t + 1
    omega
  · rw [strLen_str, strOfNums_size, digs_length]
theorem ten_text (t u U : Nat) (hU : U = u / 10 ^ t) : strOfNums [48 + (U : Int) % 10] ++ strOfNums (digs t u) = strOfNums (digs (t + 1) u) := by
  rw [strOfNums_append, digs, ← hU]; simp

set_option maxRecDepth 100000 in
set_option maxHeartbeats 2000000 in
theorem rshow_any (a : Option Addr) (ca u : Nat) (w : World) (ha : Sl w a (hf.nlen u) ca (hf.dcells (hf.nlen u) (u : Int))) (hlu : hf.nlen u ≤ 1000000000) :
    Calls Tryd.prog 66 #[.slice a (hf.nlen u) ca] w fun e w' => e = .returned (.string (decS u)) ∧ Below w.heap.size w w' := by
  obtain ⟨i0, hi0, hz0, hz1, hz2⟩ := info_parts infoInt
  have hd := dlen_few (hf.nlen_lt u)
  have HD : Hid _ := isDec_dlen u
  have hown0 := own_empty w w.heap.size 3 (Nat.le_refl _)
  have hB0 : Below w.heap.size w (w.alloc (.cells #[] 3)) := (Below.refl _ _).alloc (Nat.le_refl _) _
  have ha' := ha.below hB0
  have hmx : hf.nlen u ≤ maxLen := by unfold maxLen; omega
  go_enter Tryd.func66, Tryd.ntmps66
  go_wp2_with (at_builtin; refine append_any _ rfl (.tmp 7) (.tmp 8) 28 rfl w.heap.size 3 i0 (.int .i64 0) 8 Tryd.underlying28 hi0 hz0 hz1 hz2 rfl _ 0 0 [] rfl hown0 a (hf.nlen u) ca (hf.dcells (hf.nlen u) (u : Int)) rfl ha' (hf_one _ _) (by omega) (by omega) (by simp) ?_; intro a2 cap2 w2 hown hgrow)
  rw [List.nil_append] at hown
  have hbel := hB0.grown hgrow (by simp) (fun k' hk' => by simp [Value.ownBlock] at hk'; omega)
  clear hown0 ha' hB0
  go_loopw [3, 4] (fun lv sv wr => TenOut w u (hf.nlen u) lv sv wr) (fun _ sv _ => dlen u + 1 - strLen sv)
  case atStart => exact ⟨0, u, cap2, a2, by omega, Or.inl (by omega), by unfold Hid; simp, by first | rfl | simp, by rfl, Nat.le_refl _, by simpa using hown, hbel⟩
  case round =>
    clear hown hbel
    obtain ⟨t, U, cap, a3, ht, hl, HU, rfl, rfl, hL, hown, hbel⟩ := hrel
    have HE := digs_empty t u
    have HE2 := str_eq_empty t u
    by_cases hgo : 0 < hf.nlen U ∨ t = 0
    · have ht2 : t + 1 ≤ dlen u := by
        obtain ⟨h1, h2, h3⟩ := HD.out
        rcases hgo with h | h
        · rcases Nat.lt_or_ge t (dlen u) with h4 | h4
          · exact h4
          · have := Nat.pow_le_pow_right (n := 10) (by decide) h4
            have hu0 : U = 0 := by rw [HU.out]; exact Nat.div_eq_of_lt (by omega)
            rw [hu0, hf.nlen_zero] at h
            omega
        · omega
      have hl2 : Hid (t + 1 ≤ 1 ∨ 10 ^ (t + 1 - 1) ≤ u) := by
        rcases hgo with h | h
        · right
          rcases Nat.lt_or_ge u (10 ^ t) with h4 | h4
          · have hu0 : U = 0 := by rw [HU.out]; exact Nat.div_eq_of_lt h4
            rw [hu0, hf.nlen_zero] at h
            omega
          · simpa using h4
        · left; omega
      obtain ⟨V, hV⟩ : ∃ V, V = U / 10 := ⟨_, rfl⟩
      have HV : Hid (V = u / 10 ^ (t + 1)) := by unfold Hid; rw [hV, HU.out, Nat.pow_succ, Nat.div_div_eq_div_mul]
      have HV2 : Hid ((U : Int) / 10 = (V : Int)) := by unfold Hid; omega
      have hLV : hf.nlen V ≤ hf.nlen u := Nat.le_trans (hf.nlen_le (Nat.lt_of_le_of_lt (show V ≤ U by omega) (hf.nlen_lt U))) hL
      have HVS : Hid (V < 65536 ^ hf.nlen U) := by have := hf.nlen_lt U; unfold Hid; omega
      have HI : Hid (TenIn w U (hf.nlen U) cap a3 (.int .i64 0) (.int .i64 ((hf.nlen U : Int) - 1)) wr) := ⟨hf.nlen U, 0, Nat.le_refl _, by unfold Hid; rw [Int.ediv_eq_zero_of_lt (by omega) (by rw [← hf.pow_cast]; have := hf.nlen_lt U; omega)]; rfl, rfl, rfl, by omega, by omega, by rw [hf.xim_full]; exact hown, hbel⟩
      have z1 : (strOfNums (digs t u)).size = t := by rw [strOfNums_size, digs_length]
      have HT : Hid _ := ten_text t u U HU.out
      have HMe : Hid _ := fun R => ten_meas t u R
      clear hown hbel hV hl
      obtain ⟨L, hLL⟩ : ∃ L, hf.nlen U = L := ⟨_, rfl⟩
      rw [hLL] at hgo HVS HI hL ⊢
      obtain ⟨S, hS⟩ : ∃ S, strOfNums (digs t u) = S := ⟨_, rfl⟩
      rw [hS] at HE HE2 z1 HT HMe ⊢
      clear hLL hS
      have hcase : (0 : Int) < L ∨ (L = 0 ∧ S.toList.isEmpty = true) := by
        rcases hgo with h | h
        · exact Or.inl (by omega)
        · rcases Nat.eq_zero_or_pos L with h1 | h1
          · exact Or.inr ⟨h1, by rw [HE, h]; rfl⟩
          · exact Or.inl (by omega)
      clear hgo HE HE2
      rcases hcase with hc | ⟨hc, hc2⟩
      · go_wp2
        go_loopw [5, 6] (fun c i wr => TenIn w U L cap a3 c i wr) (fun _ i _ => (intOf i + 1).toNat)
        case atStart => exact HI.out
        case round =>
          obtain ⟨r, R, hr, HR, rfl, rfl, r0, r1, hown, hbel⟩ := hrel
          rcases r with _ | q
          · have HR2 : Hid (R = (U : Int) % 10) := by unfold Hid; rw [HR.out]; simp
            rw [hf.xim_zero, HV2.out] at hown
            have hsl := slice10 R r0 r1
            have z2 : (strOfNums [48 + R]).size = 1 := by rw [strOfNums_size]; rfl
            have z3 : ¬ 9223372036854775807 < 1 + t := by omega
            go_wp2_with (go_at_call 62; refine (rtrim_own _ _ _ V _ _ hown HVS.out).mono ?_; rintro e w' ⟨rfl, hw, hown5⟩; subst hw)
            go_roundw
            case rel => exact ⟨t + 1, V, cap, a3, ht2, hl2.out, HV.out, rfl, by rw [HR2.out, HT.out], hLV, hown5, hbel⟩
            case measure => rw [(HMe.out R).1, (HMe.out R).2]; omega
          · obtain ⟨g, rfl, hg, hg2, _⟩ := Own.at hown (by omega)
            have hroom := (Own.sl hown).room
            have hbig := (Own.sl hown).big
            unfold maxLen at hbig
            have c3 : wr.cell? ⟨g, q, none⟩ = some (.int .i64 (hf.dg U q)) := Own.cell hown q _ (hf.xim_at _ _ _ _ _ (by omega) (by omega))
            have c4 : wr.frozen? ⟨g, q, none⟩ = false := Own.free hown q (by omega)
            obtain ⟨d0, d1⟩ := hf.dg_range U q
            have HN : Hid _ := ten_next w wr U L cap g q R HR (by omega) hown hbel
            obtain ⟨D, hD⟩ : ∃ D, hf.dg (U : Int) q = D := ⟨_, rfl⟩
            rw [hD] at c3 d0 d1 HN
            have e1 : ((q + 1 : Nat) : Int) - 1 = (q : Int) := by omega
            clear hown hD
            go_wp2
            go_roundw
            case rel => exact HN.out
            case measure => simp [intOf]
      · subst hc
        go_wp2
        go_loopw [5, 6] (fun c i wr => TenIn w U 0 cap a3 c i wr) (fun _ i _ => (intOf i + 1).toNat)
        case atStart => exact HI.out
        case round =>
          obtain ⟨r, R, hr, HR, rfl, rfl, r0, r1, hown, hbel⟩ := hrel
          rcases r with _ | q
          · have HR2 : Hid (R = (U : Int) % 10) := by unfold Hid; rw [HR.out]; simp
            rw [hf.xim_zero, HV2.out] at hown
            have hsl := slice10 R r0 r1
            have z2 : (strOfNums [48 + R]).size = 1 := by rw [strOfNums_size]; rfl
            have z3 : ¬ 9223372036854775807 < 1 + t := by omega
            go_wp2_with (go_at_call 62; refine (rtrim_own _ _ _ V _ _ hown HVS.out).mono ?_; rintro e w' ⟨rfl, hw, hown5⟩; subst hw)
            go_roundw
            case rel => exact ⟨t + 1, V, cap, a3, ht2, hl2.out, HV.out, rfl, by rw [HR2.out, HT.out], hLV, hown5, hbel⟩
            case measure => rw [(HMe.out R).1, (HMe.out R).2]; omega
          · omega
    · have hz : hf.nlen U = 0 := by omega
      have hu0 := hf.nlen_eq_zero.1 hz
      have HF : Hid (decS u = strOfNums (digs t u)) := by
        unfold Hid decS
        rw [dlen_eq (isDec_of (by omega) (HU.out.symm.trans hu0) hl)]
      have h1 : ¬ (0 : Int) < (hf.nlen U : Int) := by omega
      have h2 : (strOfNums (digs t u)).toList.isEmpty = false := by rw [HE]; simp; omega
      obtain ⟨S, hS⟩ : ∃ S, strOfNums (digs t u) = S := ⟨_, rfl⟩
      rw [hS] at h2 HF ⊢
      clear HE HE2 hS hz hu0
      go_wp2
      go_ret
      exact ⟨by rw [HF.out]; rfl, hbel⟩
end Go.Proofs.YtpkcjgkgabemoaaDoor

namespace Go.Proofs.YtpkcjgkgabemoaaDoor
open Go.RowKit
set_option linter.unusedVariables false

theorem sl_new (w : World) (x : Int) (T : TypeId) : Sl (w.alloc (.cells #[.int .i64 x] T)) (some ⟨w.heap.size, 0, none⟩) 1 1 [.int .i64 x] := Own.sl (World.ownsRow_lit (base := w.heap.size) (e := T) (size := 1) w #[.int .i64 x] 1 (Nat.le_refl _) (by decide) rfl)
theorem hf_cell (x : Nat) (h : x < 65536) : hf.dcells 1 (x : Int) = [.int .i64 (x : Int)] := by
  simp [hf.dcells, List.range_succ, hf.dg]
  omega
theorem nlen10 : hf.nlen 10 = 1 := hf.nlen_eq ⟨by decide, Or.inr (by decide)⟩
theorem mul10 (a : Option Addr) (ca N B : Nat) (w : World) (ha : Sl w a (hf.nlen N) ca (hf.dcells (hf.nlen N) (N : Int))) (hlu : hf.nlen N ≤ 100000000) (hb : Sl w (some ⟨B, 0, none⟩) 1 1 [.int .i64 10]) :
    Calls Tryd.prog 46 #[.slice a (hf.nlen N) ca, .slice (some ⟨B, 0, none⟩) 1 1] w fun e w' => ∃ a' cap', e = .returned (.slice a' (hf.nlen (N * 10)) cap') ∧ Own w' w.heap.size 3 a' (hf.nlen (N * 10)) cap' (hf.dcells (hf.nlen (N * 10)) ((N * 10 : Nat) : Int)) ∧ Below w.heap.size w w' := by
  have h := rmul_any a (some ⟨B, 0, none⟩) ca 1 N 10 w ha (by rw [nlen10]; rw [hf_cell 10 (by decide)]; exact hb) (by omega) (by rw [nlen10]; decide)
  rw [nlen10] at h
  exact h
theorem trim1 (d B base : Nat) (w : World) (hd : d < 65536) {dv : Int} (hdv : dv = (d : Int)) (hown : Own w base 3 (some ⟨B, 0, none⟩) 1 1 [.int .i64 dv]) :
    Calls Tryd.prog 62 #[.slice (some ⟨B, 0, none⟩) 1 1] w fun e w' => e = .returned (.slice (some ⟨B, 0, none⟩) (hf.nlen d) 1) ∧ w = w' ∧ Sl w (some ⟨B, 0, none⟩) (hf.nlen d) 1 (hf.dcells (hf.nlen d) (d : Int)) := by
  subst hdv
  rw [← hf_cell d hd] at hown
  refine (rtrim_own _ 1 1 d base w hown (by simpa using hd)).mono ?_
  rintro e w' ⟨rfl, hw, h⟩
  exact ⟨rfl, hw, Own.sl h⟩
theorem own_one (w : World) (x : Int) (T : TypeId) : Own (w.alloc (.cells #[.int .i64 x] T)) w.heap.size T (some ⟨w.heap.size, 0, none⟩) 1 1 [.int .i64 x] := World.ownsRow_lit w _ 1 (Nat.le_refl _) (by decide) rfl
theorem own_one' (w : World) (o : Obj) (x : Int) (T : TypeId) : Own ((w.alloc o).alloc (.cells #[.int .i64 x] T)) 0 T (some ⟨w.heap.size + 1, 0, none⟩) 1 1 [.int .i64 x] := by
  have h := (own_one (w.alloc o) x T).mono (Nat.zero_le _)
  have e : (w.alloc o).heap.size = w.heap.size + 1 := by simp
  rw [e] at h
  exact h
theorem hf_ten {N : Nat} (h : hf.nlen N ≤ 2000) : hf.nlen (N * 10) ≤ 1000000000 := by
  have : hf.nlen (N * 10) ≤ hf.nlen N + 1 := hf.nlen_le (by have := hf.nlen_lt N; rw [Nat.pow_succ]; omega)
  omega
theorem Below.then {a b c : World} (h : Below a.heap.size a b) (k : Below b.heap.size b c) : Below a.heap.size a c := h.trans (k.mono h.size)
theorem Below.more {a b : World} (h : Below a.heap.size a b) (o : Obj) : Below a.heap.size a (b.alloc o) := h.alloc h.size o
/-- What holds at the head of each round of the second loop. -/
def PRel (w : World) (s : ByteArray) (o i : Value) (wr : World) : Prop := ∃ (k N cap : Nat) (ao : Option Addr), k ≤ s.size ∧ i = .int .i64 (k : Int) ∧ o = .slice ao (hf.nlen N) cap ∧ Hid (rdN ((nums s).take k) = N) ∧ hf.nlen N ≤ 2000 ∧ Own wr w.heap.size 3 ao (hf.nlen N) cap (hf.dcells (hf.nlen N) (N : Int)) ∧ Below w.heap.size w wr
theorem p_next {w w6 : World} {s : ByteArray} {j N d cn B : Nat} {an : Option Addr} (hlt : j < s.size) (HR : Hid (∀ k, k ≤ s.size → rdN ((nums s).take k) < 10 ^ k)) (hl : s.size ≤ 2000) (HN : Hid (rdN ((nums s).take j) = N)) (HDD : Hid ((s[j].toNat : Int) - 48 = (d : Int))) (hown : Own w6 B 3 an (hf.nlen (N * 10 + d)) cn (hf.dcells (hf.nlen (N * 10 + d)) ((N * 10 + d : Nat) : Int))) (hB : w.heap.size ≤ B) (hb : Below w.heap.size w w6) :
    PRel w s (.slice an (hf.nlen (N * 10 + d)) cn) (.int .i64 ((j : Int) + 1)) w6 := by
  have e : rdN ((nums s).take (j + 1)) = N * 10 + d := by rw [nums_take s j hlt, rdN_snoc, HN.out, HDD.out]; omega
  refine ⟨j + 1, N * 10 + d, cn, an, by omega, by simp, rfl, e, ?_, hown.mono hB, hb⟩
  have h1 := HR.out (j + 1) (by omega)
  rw [e] at h1
  exact Nat.le_trans (hf.nlen_le (Nat.lt_of_lt_of_le h1 (Nat.pow_le_pow_left (by decide) _))) (by omega)
set_option maxRecDepth 100000 in
set_option maxHeartbeats 8000000 in
theorem rparse_num (s : ByteArray) (w : World) (h : showsB (nums s) = true) (hl : s.size ≤ 2000) :
    Calls Tryd.prog 37 #[.string s] w fun e w' => ∃ a cap, e = .returned (.tuple #[.slice a (hf.nlen (rdN (nums s))) cap, .int .i64 0]) ∧ Own w' w.heap.size 3 a (hf.nlen (rdN (nums s))) cap (hf.dcells (hf.nlen (rdN (nums s))) (rdN (nums s) : Int)) ∧ Below w.heap.size w w' := by
  have hsh : (0 < s.size) ∧ (s.size ≤ 1 ∨ (1 < s.size ∧ ∀ h0 : 0 < s.size, (s[0].toNat : Int) ≠ 48)) ∧ ∀ k (hk : k < s.size), 48 ≤ (s[k].toNat : Int) ∧ (s[k].toNat : Int) ≤ 57 := by
    unfold showsB at h
    obtain ⟨h1, h2, h3⟩ := of_decide_eq_true h
    refine ⟨?_, ?_, fun k hk => h3 _ (List.mem_of_getElem? (nums_at s k hk))⟩
    · rw [← nums_length, List.length_pos_iff]; exact h1
    · rcases Nat.lt_or_ge 1 s.size with h4 | h4
      · refine Or.inr ⟨h4, fun h0 e => h2 ⟨by rw [nums_length]; exact h4, by rw [nums_head s h0, e]⟩⟩
      · exact Or.inl h4
  obtain ⟨h0, h1, hd⟩ := hsh
  have HD : Hid _ := hd
  have HR : Hid (∀ k, k ≤ s.size → rdN ((nums s).take k) < 10 ^ k) := fun k hk => by
    refine rdN_lt k _ (by rw [List.length_take, nums_length]; omega) fun c hc => ?_
    unfold showsB at h
    exact (of_decide_eq_true h).2.2 c (List.mem_of_mem_take hc)
  have he := isEmpty_no h0
  clear hd h
  go_enter Tryd.func37, Tryd.ntmps37
  go_wp2
  go_loop [5] (fun i => ∃ k : Nat, k ≤ s.size ∧ i = .int .i64 (k : Int)) (fun i => s.size - (intOf i).toNat)
  case atStart => exact ⟨0, by omega, rfl⟩
  case round =>
    obtain ⟨k, hk, rfl⟩ := hrel
    by_cases hlt : k < s.size
    · obtain ⟨d0, d1⟩ := HD.out k hlt
      go_wp2
      go_round
      case rel => exact ⟨k + 1, by omega, by simp⟩
      case measure => simp [intOf]; omega
    · have h48 : (((s[0].toNat : Int) == 48) = true ∧ s.size ≤ 1) ∨ ((s[0].toNat : Int) == 48) = false := by
        rcases hb : ((s[0].toNat : Int) == 48) with _ | _
        · exact Or.inr rfl
        · rcases h1 with h | ⟨_, h⟩
          · exact Or.inl ⟨rfl, h⟩
          · exact absurd (by simpa using hb) (h h0)
      clear h1
      rcases h48 with ⟨h48, h481⟩ | h48
      all_goals
        go_wp2
        go_loopw [4, 6] (fun o i wr => PRel w s o i wr) (fun _ i _ => s.size - (intOf i).toNat)
        case atStart => exact ⟨0, 0, 0, _, by omega, rfl, by rw [hf.nlen_zero], by simp [Hid, rdN], by rw [hf.nlen_zero]; omega, by rw [hf.nlen_zero]; exact own_empty w w.heap.size 3 (Nat.le_refl _), (Below.refl _ _).alloc (Nat.le_refl _) _⟩
        case round =>
          obtain ⟨j, N, cap, ao, hj, rfl, rfl, HN, hlN, hown, hbel⟩ := hrel
          by_cases hlt : j < s.size
          · obtain ⟨d0, d1⟩ := HD.out j hlt
            have hsl := Own.sl hown
            obtain ⟨d, hd⟩ : ∃ d : Nat, (s[j].toNat : Int) - 48 = (d : Int) := ⟨((s[j].toNat : Int) - 48).toNat, by omega⟩
            have E : IntKind.i64.wrap (IntKind.u8.wrap ((s[j].toNat : Int) - 48)) = (d : Int) := by rw [hd, IntKind.wrap_u8', IntKind.wrap_i64]; omega
            have hd10 : d < 10 := by omega
            have HDD : Hid _ := hd
            have b1 : Below wr.heap.size wr (wr.alloc (.cells #[.int .i64 10] 3)) := (Below.refl _ _).alloc (Nat.le_refl _) _
            have b2 : Below wr.heap.size wr ((wr.alloc (.cells #[.int .i64 (d : Int)] 3)).alloc (.cells #[.int .i64 10] 3)) := ((Below.refl _ _).alloc (Nat.le_refl _) _).alloc (by simp) _
            have b3 : Below wr.heap.size wr ((wr.alloc (.cells #[.int .i64 10] 3)).alloc (.cells #[.int .i64 (d : Int)] 3)) := ((Below.refl _ _).alloc (Nat.le_refl _) _).alloc (by simp) _
            have fM : hf.nlen (N * 10) ≤ 1000000000 := hf_ten hlN
            have fD : hf.nlen d ≤ 1000000000 := Nat.le_trans (hf.nlen_le (n := 1) (by omega)) (by decide)
            have HoD : Hid _ := fun w0 : World => own_one w0 (d : Int) 3
            have HoE : Hid _ := fun (w0 : World) (o : Obj) => own_one' w0 o (d : Int) 3
            have HtE : Hid _ := fun (w0 : World) (o : Obj) => Own.sl (own_one' w0 o 10 3)
            clear hd
            go_wp2
            go_region_with (first
              | (go_at_call 46; refine (mul10 ao cap N _ _ (hsl.below (by with_reducible (repeat (first | assumption | exact Below.refl _ _ | refine Below.drew ?_ | refine Below.more ?_ _)))) (by omega) (by with_reducible first | exact (sl_new wr 10 3) | exact (sl_new wr 10 3).below (by with_reducible (repeat (first | assumption | exact Below.refl _ _ | refine Below.drew ?_ | refine Below.more ?_ _))) | exact HtE.out wr _ | exact (HtE.out wr _).below (by with_reducible (repeat (first | assumption | exact Below.refl _ _ | refine Below.drew ?_ | refine Below.more ?_ _))))).mono ?_; rintro e w5 ⟨am, cm, rfl, hown5, hbel5⟩)
              | (go_at_call 62; refine (trim1 d _ 0 _ (by omega) rfl (by with_reducible first | exact (HoD.out w5).mono (Nat.zero_le _) | exact (Own.below (HoD.out w5) (by with_reducible (repeat (first | assumption | exact Below.refl _ _ | refine Below.drew ?_ | refine Below.more ?_ _)))).mono (Nat.zero_le _) | exact (Own.below (Own.below (HoD.out wr) (by with_reducible (repeat (first | assumption | exact Below.refl _ _ | refine Below.drew ?_ | refine Below.more ?_ _)))) hbel5).mono (Nat.zero_le _) | exact Own.below (HoE.out wr _) hbel5 | exact Own.below (Own.below (HoE.out wr _) (by with_reducible (repeat (first | assumption | exact Below.refl _ _ | refine Below.drew ?_ | refine Below.more ?_ _)))) hbel5)).mono ?_; rintro e w' ⟨rfl, hw, sD⟩; subst hw)
              | (go_at_call 41; refine (radd_any am _ cm 1 (N * 10) d _ ((Own.sl hown5).below (by with_reducible (repeat (first | assumption | exact Below.refl _ _ | refine Below.drew ?_ | refine Below.more ?_ _)))) sD fM fD).mono ?_; rintro e w6 ⟨an, cn, rfl, hown6, hbel6⟩))
            all_goals
              go_wp2
              go_round
              case rel =>
                have c6 : Below w.heap.size w _ := Below.then (by with_reducible (repeat (first | assumption | exact Below.refl _ _ | refine Below.drew ?_ | refine Below.more ?_ _ | refine Below.then ?_ hbel5))) hbel6
                exact p_next hlt HR hl HN HDD hown6 (Below.size (B := w.heap.size) (by with_reducible (repeat (first | assumption | exact Below.refl _ _ | refine Below.drew ?_ | refine Below.more ?_ _ | refine Below.then ?_ hbel5)))) c6
              case measure => simp [intOf]; omega
          · have HF : Hid (rdN (nums s) = N) := by
              have h := HN.out
              rw [List.take_of_length_le (by rw [nums_length]; omega)] at h
              exact h
            go_wp2
            go_ret2
            rw [HF.out]
            exact ⟨ao, cap, rfl, hown, hbel⟩
end Go.Proofs.YtpkcjgkgabemoaaDoor

namespace Go.Proofs.YtpkcjgkgabemoaaDoor
open Go.RowKit
set_option linter.unusedVariables false

set_option maxRecDepth 100000 in
set_option maxHeartbeats 1000000 in
theorem rparse_form (s : ByteArray) (w : World) (hs : s.size ≤ 9223372036854775807) (h : showsB (nums s) = false) :
    Calls Tryd.prog 37 #[.string s] w fun e w' => ∃ a, e = .returned (.tuple #[.slice a 0 0, .int .i64 4]) ∧ Below w.heap.size w w' := by
  have hsh : (∃ k, ∃ hk : k < s.size, ¬(48 ≤ (s[k].toNat : Int) ∧ (s[k].toNat : Int) ≤ 57)) ∨ s.size = 0 ∨ (1 < s.size ∧ ∀ h0 : 0 < s.size, (s[0].toNat : Int) = 48) := by
    refine Classical.byContradiction fun hno => ?_
    unfold showsB at h
    refine of_decide_eq_false h ⟨fun e => hno (Or.inr (Or.inl (by rw [← nums_length, e]; rfl))), fun e => hno (Or.inr (Or.inr ⟨by have := e.1; rw [nums_length] at this; exact this, fun h0 => by have := e.2; rw [nums_head s h0] at this; simpa using this⟩)), fun c hc => ?_⟩
    obtain ⟨k, hk, e⟩ := List.getElem_of_mem hc
    rw [nums_length] at hk
    have e1 := nums_at s k hk
    rw [List.getElem?_eq_getElem (by rw [nums_length]; exact hk), e] at e1
    have e2 : c = (s[k].toNat : Int) := by simpa using e1
    refine Classical.byContradiction fun hb => hno (Or.inl ⟨k, hk, ?_⟩)
    rw [← e2]
    exact hb
  clear h
  go_enter Tryd.func37, Tryd.ntmps37
  go_wp2
  go_loop [5] (fun i => ∃ k : Nat, k ≤ s.size ∧ i = .int .i64 (k : Int) ∧ Hid (∀ j (hj : j < s.size), j < k → 48 ≤ (s[j].toNat : Int) ∧ (s[j].toNat : Int) ≤ 57)) (fun i => s.size - (intOf i).toNat)
  case atStart => exact ⟨0, by omega, rfl, fun j hj h => by omega⟩
  case round =>
    obtain ⟨k, hk, rfl, HG⟩ := hrel
    by_cases hlt : k < s.size
    · by_cases d0 : 48 ≤ (s[k].toNat : Int)
      · by_cases d1 : (s[k].toNat : Int) ≤ 57
        · go_wp2
          go_round
          case rel =>
            refine ⟨k + 1, by omega, by simp, fun j hj hjk => ?_⟩
            rcases Nat.lt_or_ge j k with h | h
            · exact HG.out j hj h
            · obtain rfl : j = k := by omega
              exact ⟨d0, d1⟩
          case measure => simp [intOf]; omega
        · go_wp2
          go_ret2
          ((first | refine ⟨⟨_, rfl⟩, ?_⟩ | refine ⟨_, rfl, ?_⟩); with_reducible (repeat (first | exact Below.refl _ _ | refine Below.drew ?_ | refine Below.alloc ?_ (by simp) _)))
      · go_wp2
        go_ret2
        ((first | refine ⟨⟨_, rfl⟩, ?_⟩ | refine ⟨_, rfl, ?_⟩); with_reducible (repeat (first | exact Below.refl _ _ | refine Below.drew ?_ | refine Below.alloc ?_ (by simp) _)))
    · have hsh := hsh.resolve_left (fun ⟨j, hj, hb⟩ => hb (HG.out j hj (by omega)))
      rcases hsh with h0 | ⟨h1, h48⟩
      · obtain rfl : s = ⟨#[]⟩ := ByteArray.ext (Array.eq_empty_of_size_eq_zero h0)
        clear h0
        go_wp2
        go_ret2
        ((first | refine ⟨⟨_, rfl⟩, ?_⟩ | refine ⟨_, rfl, ?_⟩); with_reducible (repeat (first | exact Below.refl _ _ | refine Below.drew ?_ | refine Below.alloc ?_ (by simp) _)))
      · have h0 : 0 < s.size := by omega
        have he := isEmpty_no h0
        have h48 := h48 h0
        have hb : ((s[0].toNat : Int) == 48) = true := by rw [h48]; rfl
        clear h48
        go_wp2
        go_ret2
        ((first | refine ⟨⟨_, rfl⟩, ?_⟩ | refine ⟨_, rfl, ?_⟩); with_reducible (repeat (first | exact Below.refl _ _ | refine Below.drew ?_ | refine Below.alloc ?_ (by simp) _)))
set_option maxRecDepth 100000 in
set_option maxHeartbeats 1000000 in
theorem rparse_long (s : ByteArray) (w : World) (hs : s.size ≤ 9223372036854775807) (h : showsB (nums s) = true) (hl : 2000 < s.size) :
    Calls Tryd.prog 37 #[.string s] w fun e w' => ∃ a, e = .returned (.tuple #[.slice a 0 0, .int .i64 5]) ∧ Below w.heap.size w w' := by
  have h0 : 0 < s.size := by omega
  have hb : ((s[0].toNat : Int) == 48) = false := by
    unfold showsB at h
    have h2 := (of_decide_eq_true h).2.1
    rcases hb : ((s[0].toNat : Int) == 48) with _ | _
    · rfl
    · exact absurd ⟨by rw [nums_length]; omega, by rw [nums_head s h0]; simpa using hb⟩ h2
  have HD : Hid (∀ k (hk : k < s.size), 48 ≤ (s[k].toNat : Int) ∧ (s[k].toNat : Int) ≤ 57) := fun k hk => by
    unfold showsB at h
    exact (of_decide_eq_true h).2.2 _ (List.mem_of_getElem? (nums_at s k hk))
  have he := isEmpty_no h0
  clear h
  go_enter Tryd.func37, Tryd.ntmps37
  go_wp2
  go_loop [5] (fun i => ∃ k : Nat, k ≤ s.size ∧ i = .int .i64 (k : Int)) (fun i => s.size - (intOf i).toNat)
  case atStart => exact ⟨0, by omega, rfl⟩
  case round =>
    obtain ⟨k, hk, rfl⟩ := hrel
    by_cases hlt : k < s.size
    · obtain ⟨d0, d1⟩ := HD.out k hlt
      go_wp2
      go_round
      case rel => exact ⟨k + 1, by omega, by simp⟩
      case measure => simp [intOf]; omega
    · go_wp2
      go_ret2
      ((first | refine ⟨⟨_, rfl⟩, ?_⟩ | refine ⟨_, rfl, ?_⟩); with_reducible (repeat (first | exact Below.refl _ _ | refine Below.drew ?_ | refine Below.alloc ?_ (by simp) _)))
end Go.Proofs.YtpkcjgkgabemoaaDoor
