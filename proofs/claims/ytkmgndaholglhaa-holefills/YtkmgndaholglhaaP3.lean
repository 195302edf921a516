/-
  Joined texts, part 3:
  What zelligeref03's Mul answers.
  What zelligeref03 answers, with letters for the lengths.
  What zelligeref03 answers, with letters for the lengths, apart from all that was there before.
  What zelligeref04's Of, Same, make1, Neg, Add, Sub, Mul and Cmp answer.
  What the calls of an open region may tell: a number of zelligeref04 (its digits lie in memory), or a value that is known.
  A region whose order is open and whose last operation writes what the others read: the condition S on the world is kept up to that operation, and not behind it. It imports nothing of the program.
  Numbers as digits to the base 256: which digits a sum, a difference, a product has. It imports nothing of the program.
  Numbers as digits to the base 18446744073709551616: which digits a sum, a difference, a product has. It imports nothing of the program.
  The arithmetic of a product, digit by digit. It imports nothing of the program.
  Plain arithmetic of numbers of two words: what word a sum, a difference and a product have. It imports nothing of the program.
  Plain arithmetic of numbers of four words. It imports nothing of the program.
-/
import Derived.Test.YtkmgndaholglhaaP2
import Derived.Shelf.Abstract
import Derived.Lib.ItoaNum
import Derived.WalkKit
import Derived.Laws.Bits64b
namespace Go.Proofs.Ytkmgndaholglhaa
open Go.RowKit
set_option linter.unusedVariables false

def RMulIn (w : World) (b N lv i : Nat) (O x v : Int) (c kv : Value) (wr : World) : Prop := ∃ k : Nat, k ≤ lv ∧ kv = .int .i64 (k : Int) ∧ c = .int .i64 (hf.cy O x v i k) ∧ Own wr w.heap.size 3 (some ⟨b, 0, none⟩) N N (hf.mix N (i + k) (O + x * 65536 ^ i * v) O) ∧ Below w.heap.size w wr
theorem rmul_next {w wr : World} {b N lv i k n : Nat} {O x v t : Int} (hk : k < lv) (hN : i + lv ≤ N) (ht : t = hf.cy O x v i k + hf.dg O (i + k) + x * hf.dg v k) (hown : Own wr w.heap.size 3 (some ⟨b, 0, none⟩) N N (hf.mix N (i + k) (O + x * 65536 ^ i * v) O)) (hbel : Below w.heap.size w wr) :
  RMulIn w b N lv i O x v (.int .i64 (t / 65536)) (.int .i64 ((k : Int) + 1)) ((wr.drewN n).setCell ⟨b, i + k, none⟩ (.int .i64 (t % 65536))) := by
 have hown' : Own (wr.drewN n) w.heap.size 3 (some ⟨b, 0, none⟩) N N (hf.mix N (i + k) (O + x * 65536 ^ i * v) O) := hown
 refine ⟨k + 1, hk, by simp, by rw [ht, hf.cy_succ], ?_, (below_drewN hbel n).setCell (seg_of_own hown).2.2 _⟩
 rw [ht, hf.mul_digit, ← Nat.add_assoc, ← hf.mix_set]
 exact Own.set hown' _ (by omega)
def RMulOut (w : World) (b lu lv u v : Nat) (iv : Value) (wr : World) : Prop := ∃ i : Nat, i ≤ lu ∧ iv = .int .i64 (i : Int) ∧ Own wr w.heap.size 3 (some ⟨b, 0, none⟩) (lu + lv) (lu + lv) (hf.dcells (lu + lv) ((u % 65536 ^ i * v : Nat) : Int)) ∧ Below w.heap.size w wr
theorem hpart_lt {u v k lb : Nat} (hv : v < 65536 ^ lb) : u % 65536 ^ k * v < 65536 ^ (k + lb) := by
 rw [Nat.pow_add]
 exact Nat.mul_lt_mul_of_lt_of_le (Nat.mod_lt _ (hf.pow_nat k)) (Nat.le_of_lt hv) (hf.pow_nat lb)
theorem hpart_next (u v k : Nat) : ((u % 65536 ^ k * v : Nat) : Int) + hf.dg u k * 65536 ^ k * v = ((u % 65536 ^ (k + 1) * v : Nat) : Int) := by
 rw [Int.natCast_mul, Int.natCast_mul, Int.natCast_emod, Int.natCast_emod, hf.pow_cast, hf.pow_cast]
 exact hf.mul_next u v k
theorem rmul_last {w wr : World} {b lu lv u v i : Nat} {c O X : Int} (hO : O = ((u % 65536 ^ i * v : Nat) : Int)) (hX : X = hf.dg (u : Int) i) (hi : i < lu) (hv : v < 65536 ^ lv) (hc : c = hf.cy O X v i lv)
  (hown : Own wr w.heap.size 3 (some ⟨b, 0, none⟩) (lu + lv) (lu + lv) (hf.mix (lu + lv) (i + lv) (O + X * 65536 ^ i * v) O)) (hbel : Below w.heap.size w wr) :
  RMulOut w b lu lv u v (.int .i64 ((i : Int) + 1)) (wr.setCell ⟨b, i + lv, none⟩ (.int .i64 c)) := by
 subst hO hX
 refine ⟨i + 1, hi, by simp, ?_, hbel.setCell (seg_of_own hown).2.2 _⟩
 have hd := hf.mul_digit ((u % 65536 ^ i * v : Nat) : Int) (hf.dg u i) v i lv
 have h0 : hf.dg ((u % 65536 ^ i * v : Nat) : Int) (i + lv) = 0 := hf.dg_over (hpart_lt hv)
 have h1 : hf.dg (v : Int) lv = 0 := hf.dg_over hv
 have hr := hf.cy_range ((u % 65536 ^ i * v : Nat) : Int) (hf.dg u i) v i lv (hf.dg_range u i).1 (hf.dg_range u i).2
 rw [h0, h1, ← hc, Int.mul_zero] at hd
 rw [← hc] at hr
 have hc2 : c = hf.dg (((u % 65536 ^ i * v : Nat) : Int) + hf.dg u i * 65536 ^ i * v) (i + lv) := by rw [← hd]; omega
 have := Own.set hown (i := i + lv) (.int .i64 c) (by omega)
 rw [hc2, hf.mix_set] at this
 rw [hc2]
 have e : hf.mix (lu + lv) (i + lv + 1) (((u % 65536 ^ i * v : Nat) : Int) + hf.dg u i * 65536 ^ i * v) ((u % 65536 ^ i * v : Nat) : Int) = hf.dcells (lu + lv) ((u % 65536 ^ (i + 1) * v : Nat) : Int) := by
  rw [← hpart_next, ← hf.mix_full (lu + lv) (((u % 65536 ^ i * v : Nat) : Int) + hf.dg u i * 65536 ^ i * v) ((u % 65536 ^ i * v : Nat) : Int)]
  refine hf.fill_congr fun j hj => ?_
  by_cases h : j < i + lv + 1
  ·simp [h, hj]
  ·have z1 : hf.dg ((u % 65536 ^ i * v : Nat) : Int) j = 0 := hf.dg_over (Nat.lt_of_lt_of_le (hpart_lt hv) (Nat.pow_le_pow_right (by decide) (by omega)))
   have z2 : hf.dg (((u % 65536 ^ i * v : Nat) : Int) + hf.dg u i * 65536 ^ i * v) j = 0 := by
    rw [hpart_next]
    exact hf.dg_over (Nat.lt_of_lt_of_le (hpart_lt hv) (Nat.pow_le_pow_right (by decide) (by omega)))
   rw [z1, z2]; simp
 rw [← e]
 exact this

set_option maxRecDepth 100000 in
set_option maxHeartbeats 2000000 in
theorem rmul_any (a b : Option Addr) (ca cb u v : Nat) (w : World) (ha : Sl w a (hf.nlen u) ca (hf.dcells (hf.nlen u) (u : Int))) (hb : Sl w b (hf.nlen v) cb (hf.dcells (hf.nlen v) (v : Int))) (hlu : hf.nlen u ≤ 1000000000) (hlv : hf.nlen v ≤ 1000000000) :
  Calls Try.prog 53 #[.slice a (hf.nlen u) ca, .slice b (hf.nlen v) cb] w fun e w' => ∃ a' cap', e = .returned (.slice a' (hf.nlen (u * v)) cap') ∧ Own w' w.heap.size 3 a' (hf.nlen (u * v)) cap' (hf.dcells (hf.nlen (u * v)) ((u * v : Nat) : Int)) ∧ Below w.heap.size w w' := by
 obtain ⟨i0, hi0, hz0, hz1, hz2⟩ := info_parts infoInt
 have hu := hf.nlen_lt u
 have hv := hf.nlen_lt v
 obtain ⟨lu, hlu'⟩ : ∃ l, hf.nlen u = l := ⟨_, rfl⟩
 obtain ⟨lv, hlv'⟩ : ∃ l, hf.nlen v = l := ⟨_, rfl⟩
 rw [hlu'] at ha hlu hu ⊢
 rw [hlv'] at hb hlv hv ⊢
 have HM : Hid (u % 65536 ^ lu = u) := Nat.mod_eq_of_lt hu
 have HV : Hid _ := hv
 have HS : Hid (u * v < 65536 ^ (lu + lv)) := by have := hpart_lt (u := u) (k := lu) hv; rwa [HM.out] at this
 have hz0' : hf.dcells (lu + lv) 0 = List.replicate (lu + lv) (.int .i64 0) := hf.dcells_zero _
 have HZ : Hid _ := hz0'
 have hmax : lu + lv ≤ maxLen := by unfold maxLen; omega
 clear hu hv hlu' hlv' hz0'
 go_enter Try.func53, Try.ntmps53
 go_wp2_with (at_make; refine make_any _ rfl (.tmp 13) (.tmp 13) 33 rfl w.heap.size 3 i0 (.int .i64 0) Try.underlying33 hi0 hz0 hz1 rfl .i64 .i64 _ _ (lu + lv) rfl rfl (by simp) (by simp) (by rw [hz2]; omega) (by omega) (Nat.le_refl _) ?_; intro w1 hown hbel)
 rw [← HZ.out] at hown
 go_loopw [6] (fun iv wr => RMulOut w w.heap.size lu lv u v iv wr) (fun iv _ => lu - (intOf iv).toNat)
 case atStart => exact ⟨0, by omega, rfl, by rw [Nat.pow_zero, Nat.mod_one, Nat.zero_mul]; exact hown, hbel⟩
 case round =>
  clear hown hbel
  obtain ⟨i, hi, rfl, hown, hbel⟩ := hrel
  by_cases hlt : i < lu
  ·obtain ⟨ba, oa, rfl, hba, hsa⟩ := ha.at (by omega)
   have r1 := ha.room
   obtain ⟨X, hX⟩ : ∃ X, X = hf.dg (u : Int) i := ⟨_, rfl⟩
   obtain ⟨O, hO⟩ : ∃ O, O = ((u % 65536 ^ i * v : Nat) : Int) := ⟨_, rfl⟩
   obtain ⟨x0, x1⟩ := hf.dg_range u i
   have c0 : w.cell? ⟨ba, oa + i, none⟩ = some (.int .i64 X) := by rw [hX]; exact hsa.cell i _ (hf.dcells_at _ _ _ hlt)
   rw [← hX] at x0 x1
   have HI : Hid (RMulIn w w.heap.size (lu + lv) lv i O X v (.int .i64 0) (.int .i64 0) wr) := ⟨0, by omega, rfl, by rw [hf.cy_zero], by rw [Nat.add_zero, hf.mix_start, hO]; exact hown, hbel⟩
   have HL : Hid _ := fun (wr : World) (c : Int) => rmul_last (w := w) (wr := wr) (b := w.heap.size) (c := c) hO hX hlt HV.out
   clear hown hbel hX hO
   go_wp2
   go_loopw [7, 8] (fun c kv wr => RMulIn w w.heap.size (lu + lv) lv i O X v c kv wr) (fun _ kv _ => lv - (intOf kv).toNat)
   case atStart => exact HI.out
   case round =>
    obtain ⟨k, hk, rfl, rfl, hown, hbel⟩ := hrel
    obtain ⟨f0, f1⟩ := hf.cy_range O X v i k x0 x1
    by_cases hlk : k < lv
    ·obtain ⟨bb, ob, rfl, hbb, hsb⟩ := hb.at (by omega)
     have r2 := hb.room
     have c1 : wr.cell? ⟨ba, oa + i, none⟩ = some (.int .i64 X) := (hbel.cell (p := ⟨ba, oa + i, none⟩) hba).trans c0
     have c2 : wr.cell? ⟨bb, ob + k, none⟩ = some (.int .i64 (hf.dg v k)) := (hbel.cell (p := ⟨bb, ob + k, none⟩) hbb).trans (hsb.cell k _ (hf.dcells_at _ _ _ hlk))
     have c3 : wr.cell? ⟨w.heap.size, i + k, none⟩ = some (.int .i64 (hf.dg O (i + k))) := Own.cell hown _ _ (hf.mix_at _ _ _ _ _ (by omega) (Nat.le_refl _))
     have c4 : wr.frozen? ⟨w.heap.size, i + k, none⟩ = false := Own.free hown _ (by omega)
     obtain ⟨d0, d1⟩ := hf.dg_range v k
     obtain ⟨e0, e1⟩ := hf.dg_range O (i + k)
     have HN : Hid _ := fun n => rmul_next (n := n) hlk (by omega) rfl hown hbel
     obtain ⟨C, hC⟩ : ∃ C, hf.cy O X v i k = C := ⟨_, rfl⟩
     obtain ⟨Y, hY⟩ : ∃ Y, hf.dg (v : Int) k = Y := ⟨_, rfl⟩
     obtain ⟨D, hD⟩ : ∃ D, hf.dg O (i + k) = D := ⟨_, rfl⟩
     rw [hC] at f0 f1 HN ⊢
     rw [hY] at c2 d0 d1 HN
     rw [hD] at c3 e0 e1 HN
     have m0 : 0 ≤ X * Y := Int.mul_nonneg x0 d0
     have m1 : X * Y ≤ 4294836225 := by have := Int.mul_le_mul (show X ≤ 65535 by omega) (show Y ≤ 65535 by omega) d0 (by decide); omega
     clear hown hC hY hD
     go_wp2
     go_quiet (fail)
     go_wp2
     go_roundw
     case rel => exact HN.out _
     case measure => simp [intOf]; omega
    ·obtain rfl : k = lv := by omega
     have c3 : wr.cell? ⟨w.heap.size, i + k, none⟩ = some (.int .i64 (hf.dg O (i + k))) := Own.cell hown _ _ (hf.mix_at _ _ _ _ _ (by omega) (Nat.le_refl _))
     have c4 : wr.frozen? ⟨w.heap.size, i + k, none⟩ = false := Own.free hown _ (by omega)
     have HN : Hid _ := HL.out wr _ rfl hown hbel
     clear hown
     go_wp2
     go_roundw
     case rel => exact HN.out
     case measure => simp [intOf]; omega
  ·obtain rfl : i = lu := by omega
   rw [HM.out] at hown
   go_wp2_with (go_at_call 68; refine (rtrim_own _ _ _ (u * v) _ _ hown HS.out).mono ?_; rintro e w' ⟨rfl, hw, hown5⟩; subst hw)
   go_ret
   exact ⟨_, _, rfl, hown5, hbel⟩
end Go.Proofs.Ytkmgndaholglhaa

namespace Go.Proofs.Ytkmgndaholglhaa
open Go.RowKit
set_option linter.unusedVariables false

structure HD (w : World) (a : Option Addr) (l c u : Nat) : Prop where
 sl : Sl w a l c (hf.dcells l (u : Int))
 len : l = hf.nlen u
theorem HD.below {w w' : World} {a : Option Addr} {l c u : Nat} (h : HD w a l c u) (hb : Below w.heap.size w w') : HD w' a l c u := ⟨h.sl.below hb, h.len⟩
theorem hd_nil (w : World) : HD w none 0 0 0 := ⟨sl_nil w, hf.nlen_zero.symm⟩
theorem hfew {u K : Nat} (hu : u < 4294967296 ^ K) (hK : K ≤ 500000) : hf.nlen u ≤ 1000000 := by
 have : hf.nlen u ≤ 2 * K := hf.nlen_le (by rw [pow_halves]; exact hu)
 omega
theorem hCmp (a b : Option Addr) (la lb ca cb u v : Nat) (w : World) (ha : HD w a la ca u) (hb : HD w b lb cb v) {c : Int} (hc : c = cmpI u v) : Calls Try.prog 56 #[.slice a la ca, .slice b lb cb] w fun e w' => e = .returned (.int .i64 c) ∧ Below w.heap.size w w' := by
 obtain ⟨ha, rfl⟩ := ha
 obtain ⟨hb, rfl⟩ := hb
 subst hc
 exact rcmp_any a b ca cb u v w ha hb
end Go.Proofs.Ytkmgndaholglhaa

namespace Go.Proofs.Ytkmgndaholglhaa
open Go.RowKit
set_option linter.unusedVariables false

theorem HD.put {w : World} {a : Option Addr} {l c u b : Nat} (h : HD w a l c u) (hn : NA b a l) (i : Nat) (v : Value) : HD (w.setCell ⟨b, i, none⟩ v) a l c u := ⟨h.sl.put hn i v, h.len⟩
def GotHF (w : World) (u : Nat) (e : Ending) (w' : World) : Prop := ∃ a l c, e = .returned (.slice a l c) ∧ HD w' a l c u ∧ Far w.heap.size a l ∧ Below w.heap.size w w'
theorem gotHF {w w' : World} {u : Nat} {e : Ending} (h : ∃ a' cap', e = .returned (.slice a' (hf.nlen u) cap') ∧ Own w' w.heap.size 3 a' (hf.nlen u) cap' (hf.dcells (hf.nlen u) (u : Int)) ∧ Below w.heap.size w w') : GotHF w u e w' := by
 obtain ⟨a, c, he, ho, hb⟩ := h
 exact ⟨a, _, c, he, ⟨Own.sl ho, rfl⟩, Own.far ho, hb⟩
theorem hfOf (a : Option Addr) (l c u : Nat) (w : World) (h : NI w a l c u) : Calls Try.prog 51 #[.slice a l c] w (GotHF w u) :=
 (rof_any a l c u w h.sl h.lt (by have := h.few; omega)).mono fun _ _ h => gotHF h
theorem hfAdd (a b : Option Addr) (la lb ca cb u v : Nat) (w : World) (ha : HD w a la ca u) (hb : HD w b lb cb v) (fu : hf.nlen u ≤ 1000000) (fv : hf.nlen v ≤ 1000000) : Calls Try.prog 55 #[.slice a la ca, .slice b lb cb] w (GotHF w (u + v)) := by
 obtain ⟨ha, rfl⟩ := ha
 obtain ⟨hb, rfl⟩ := hb
 exact (radd_any a b ca cb u v w ha hb (by omega) (by omega)).mono fun _ _ h => gotHF h
theorem hfSub (a b : Option Addr) (la lb ca cb u v : Nat) (w : World) (ha : HD w a la ca u) (hb : HD w b lb cb v) (fu : hf.nlen u ≤ 1000000) (fv : hf.nlen v ≤ 1000000) (hle : v ≤ u) : Calls Try.prog 57 #[.slice a la ca, .slice b lb cb] w (GotHF w (u - v)) := by
 obtain ⟨ha, rfl⟩ := ha
 obtain ⟨hb, rfl⟩ := hb
 exact (rsub_any a b ca cb u v w ha hb (by omega) (by omega) hle).mono fun _ _ h => gotHF h
theorem hfMul (a b : Option Addr) (la lb ca cb u v : Nat) (w : World) (ha : HD w a la ca u) (hb : HD w b lb cb v) (fu : hf.nlen u ≤ 1000000) (fv : hf.nlen v ≤ 1000000) : Calls Try.prog 53 #[.slice a la ca, .slice b lb cb] w (GotHF w (u * v)) := by
 obtain ⟨ha, rfl⟩ := ha
 obtain ⟨hb, rfl⟩ := hb
 exact (rmul_any a b ca cb u v w ha hb (by omega) (by omega)).mono fun _ _ h => gotHF h
end Go.Proofs.Ytkmgndaholglhaa

namespace Go.Proofs.Ytkmgndaholglhaa
open Go.RowKit
set_option linter.unusedVariables false

structure RN (w : World) (s : Int) (d : Option Addr) (l c : Nat) (z : Int) : Prop where
 hd : HD w d l c z.natAbs
 sg : s = z.sign
theorem RN.below {w w' : World} {s : Int} {d : Option Addr} {l c : Nat} {z : Int} (h : RN w s d l c z) (hb : Below w.heap.size w w') : RN w' s d l c z := ⟨h.hd.below hb, h.sg⟩
theorem RN.put {w : World} {s : Int} {d : Option Addr} {l c b : Nat} {z : Int} (h : RN w s d l c z) (hn : NA b d l) (i : Nat) (v : Value) : RN (w.setCell ⟨b, i, none⟩ v) s d l c z := ⟨h.hd.put hn i v, h.sg⟩
theorem RN.put2 {w : World} {s : Int} {d : Option Addr} {l c b : Nat} {z : Int} (h : RN w s d l c z) (hn : NA b d l) (u v : Value) : RN ((w.setCell ⟨b, 0, none⟩ u).setCell ⟨b, 1, none⟩ v) s d l c z := (h.put hn 0 u).put hn 1 v
def GotR (w : World) (P : Nat → Prop) (z : Int) (e : Ending) (w' : World) : Prop := ∃ (s : Int) (d : Option Addr) (l c : Nat), e = .returned (.agg #[.int .i64 s, .slice d l c]) ∧ RN w' s d l c z ∧ (∀ k, k < w.heap.size → P k → NA k d l) ∧ Below w.heap.size w w'
theorem endR {w w2 : World} {s : Int} {d : Option Addr} {l c : Nat} {z : Int} {P : Nat → Prop} (k : Nat) (hk : w.heap.size ≤ k) (B : Below w.heap.size w w2) (h : RN w2 s d l c z) (hn : NA k d l) (hf : ∀ j, j < w.heap.size → P j → NA j d l) (u v : Value) :
  GotR w P z (.returned (.agg #[.int .i64 s, .slice d l c])) ((w2.setCell ⟨k, 0, none⟩ u).setCell ⟨k, 1, none⟩ v) :=
 ⟨s, d, l, c, rfl, h.put2 hn u v, hf, below_put2 B hk u v⟩
theorem rn_zero (w : World) (c : Nat) : RN w 0 none 0 0 0 := ⟨hd_nil w, rfl⟩
theorem HD.pos {w : World} {d : Option Addr} {l c u : Nat} (h : HD w d l c u) : l = 0 ↔ u = 0 := by
 rw [h.len]
 constructor
 ·intro e
  rcases Nat.eq_zero_or_pos u with z | z
  ·exact z
  ·have := hf.nlen_pos z; omega
 ·rintro rfl; exact hf.nlen_zero
theorem sign_pos {x : Int} (h : 0 < x) : x.sign = 1 := Int.sign_eq_one_of_pos h
theorem sign_neg {x : Int} (h : x < 0) : x.sign = -1 := Int.sign_eq_neg_one_of_neg h
theorem sign_nul {x : Int} : x.sign = 0 ↔ x = 0 := Int.sign_eq_zero_iff_zero
theorem sign_cases (x : Int) : (x < 0 ∧ x.sign = -1) ∨ (x = 0 ∧ x.sign = 0) ∨ (0 < x ∧ x.sign = 1) := by
 rcases Int.lt_trichotomy x 0 with h | h | h
 ·exact Or.inl ⟨h, sign_neg h⟩
 ·exact Or.inr (Or.inl ⟨h, sign_nul.2 h⟩)
 ·exact Or.inr (Or.inr ⟨h, sign_pos h⟩)

set_option maxRecDepth 100000 in
set_option maxHeartbeats 1000000 in
theorem rwMake (s : Int) (d : Option Addr) (l c u : Nat) (z : Int) (w : World) (hd : HD w d l c u) (hu : u = z.natAbs) (hs : z ≠ 0 → s = z.sign) :
  Calls Try.prog 52 #[.int .i64 s, .slice d l c] w (GotR w (fun k => NA k d l) z) := by
 subst hu
 have B0 : Below w.heap.size w (w.alloc (.cells #[.int .i64 0, .slice none 0 0] 56)) := (Below.refl _ _).alloc (Nat.le_refl _) _
 have h0 := hd.below B0
 by_cases hz : z = 0
 ·obtain rfl : l = 0 := hd.pos.2 (by rw [hz]; rfl)
  subst hz
  go_enter Try.func52, Try.ntmps52
  go_wp2
  exact bodyPost_ret (v := .agg #[.int .i64 0, .slice none 0 0]) (by simp [results, Try.results52, go_sem, *]) rfl ⟨0, none, 0, 0, rfl, rn_zero _ 0, fun _ _ _ => Or.inl rfl, (Below.refl _ _).alloc (Nat.le_refl _) _⟩
 ·have hl : ¬ (l : Int) = 0 := by have := hd.pos; omega
  have hsz := hs hz
  go_enter Try.func52, Try.ntmps52
  have HS : Hid _ := hsz
  clear hs hsz
  go_wp2
  have B1 : Below w.heap.size w (w.alloc (.cells #[.int .i64 s, .slice d l c] 56)) := (Below.refl _ _).alloc (Nat.le_refl _) _
  exact bodyPost_ret (v := .agg #[.int .i64 s, .slice d l c]) (by simp [results, Try.results52, go_sem, *]) rfl ⟨s, d, l, c, rfl, ⟨hd.below B1, HS.out⟩, fun _ _ h => h, B1⟩

set_option maxRecDepth 100000 in
set_option maxHeartbeats 1000000 in
theorem rwNeg (s : Int) (d : Option Addr) (l c : Nat) (x z : Int) (w : World) (hd : RN w s d l c x) (hz : z = -x) :
  Calls Try.prog 54 #[.agg #[.int .i64 s, .slice d l c]] w (GotR w (fun k => NA k d l) z) := by
 have hs := hd.sg
 obtain ⟨t, ht⟩ : ∃ t, t = 0 - s := ⟨_, rfl⟩
 have hb : -1 ≤ s ∧ s ≤ 1 := by rcases sign_cases x with ⟨_, e⟩ | ⟨_, e⟩ | ⟨_, e⟩ <;> omega
 obtain ⟨hb1, hb2⟩ := hb
 have hh : HD w d l c z.natAbs := by rw [hz, Int.natAbs_neg]; exact hd.hd
 have HT : Hid (0 - s = z.sign) := by unfold Hid; rw [hz, Int.sign_neg, hs]; omega
 have B1 : Below w.heap.size w ((w.alloc (.cells #[.int .i64 s, .slice d l c] 56)).alloc (.cells #[.int .i64 (-s), .slice d l c] 56)) := ((Below.refl _ _).alloc (Nat.le_refl _) _).alloc (by simp) _
 clear ht hs
 go_enter Try.func54, Try.ntmps54
 go_wp2
 exact bodyPost_ret (v := .agg #[.int .i64 (-s), .slice d l c]) (by simp [results, Try.results54, go_sem, *]) rfl ⟨-s, d, l, c, rfl, ⟨hh.below B1, by have := HT.out; omega⟩, fun _ _ h => h, B1⟩

set_option maxRecDepth 100000 in
set_option maxHeartbeats 1000000 in
theorem rwAdd (s t : Int) (d e : Option Addr) (l c m k : Nat) (x y z : Int) (w : World) (hx : RN w s d l c x) (hy : RN w t e m k y) (fx : hf.nlen x.natAbs ≤ 1000000) (fy : hf.nlen y.natAbs ≤ 1000000) (hz : z = x + y) : Calls Try.prog 39 #[.agg #[.int .i64 s, .slice d l c], .agg #[.int .i64 t, .slice e m k]] w (GotR w (fun k' => NA k' d l ∧ NA k' e m) z) := by
 obtain ⟨B0, xa, xb, xz, hs⟩ := box2 w (.int .i64 s) (.slice d l c) (.int .i64 t) (.slice e m k) (.int .i64 0) (.slice none 0 0) 56 56 56
 have es := hx.sg
 have et := hy.sg
 by_cases h1 : x = 0
 ·obtain rfl : s = 0 := by rw [es, h1]; rfl
  obtain rfl : z = y := by omega
  clear es et
  obtain ⟨k0, k1, k2, k3⟩ := xz
  go_enter Try.func39, Try.ntmps39
  go_wp2
  obtain ⟨B9, _, _, _, _⟩ := box2 w (.int .i64 0) (.slice d l c) (.int .i64 t) (.slice e m k) (.int .i64 t) (.slice e m k) 56 56 56
  exact bodyPost_ret (v := .agg #[.int .i64 t, .slice e m k]) (by simp [results, Try.results39, go_sem, *]) rfl ⟨t, e, m, k, rfl, hy.below B9, fun _ _ h => h.2, B9⟩
 have s0 : ¬ s = 0 := by rw [es, sign_nul]; exact h1
 by_cases h2 : y = 0
 ·obtain rfl : t = 0 := by rw [et, h2]; rfl
  obtain rfl : z = x := by omega
  clear es et
  obtain ⟨k0, k1, k2, k3⟩ := xz
  go_enter Try.func39, Try.ntmps39
  go_wp2
  obtain ⟨B9, _, _, _, _⟩ := box2 w (.int .i64 s) (.slice d l c) (.int .i64 0) (.slice e m k) (.int .i64 s) (.slice d l c) 56 56 56
  exact bodyPost_ret (v := .agg #[.int .i64 s, .slice d l c]) (by simp [results, Try.results39, go_sem, *]) rfl ⟨s, d, l, c, rfl, hx.below B9, fun _ _ h => h.1, B9⟩
 have t0 : ¬ t = 0 := by rw [et, sign_nul]; exact h2
 by_cases h3 : s = t
 ·have HU : Hid (x.natAbs + y.natAbs = z.natAbs) := by
   unfold Hid
   rcases sign_cases x with ⟨a, b⟩ | ⟨a, b⟩ | ⟨a, b⟩ <;> rcases sign_cases y with ⟨a', b'⟩ | ⟨a', b'⟩ | ⟨a', b'⟩ <;> omega
  have HS : Hid (s = z.sign) := by
   unfold Hid
   rcases sign_cases x with ⟨a, b⟩ | ⟨a, b⟩ | ⟨a, b⟩ <;> rcases sign_cases y with ⟨a', b'⟩ | ⟨a', b'⟩ | ⟨a', b'⟩ <;> rcases sign_cases z with ⟨a2, b2⟩ | ⟨a2, b2⟩ | ⟨a2, b2⟩ <;> omega
  clear es et hz
  subst h3
  replace B0 := B0.drew
  replace xa := xa.drew
  replace xb := xb.drew
  replace xz := xz.drew
  go_enter Try.func39, Try.ntmps39
  go_wp2
  refine wp_region_held_drew (S := (fun w' => w'.cell? ⟨w.heap.size, 0, none⟩ = some (.int .i64 s) ∧ w'.cell? ⟨w.heap.size, 1, none⟩ = some (.slice d l c) ∧ w'.cell? ⟨w.heap.size + 1, 0, none⟩ = some (.int .i64 s) ∧ w'.cell? ⟨w.heap.size + 1, 1, none⟩ = some (.slice e m k) ∧ Below w.heap.size w w')) (by kernel_rfl) ?_ (fun hHeld => ?_)
  ·first | exact keepB2 hHeld b2 | exact keepB2 hHeld b1 | exact ⟨xa.c0, xa.c1, xb.c0, xb.c1, B0⟩ | exact keepS2 hHeld (by omega) (by omega) _ _
  refine tz (i := 0) rfl ?_
  simp only [Act.put, ps1, ps2, ps3]
  refine tz (i := 1) rfl ?_
  simp only [Act.put, ps1, ps2, ps3]
  refine tz (i := 2) rfl ?_
  simp only [Act.put, ps1, ps2, ps3]
  refine tz (i := 3) rfl ?_
  simp only [Act.put, ps1, ps2, ps3]
  refine tz (i := 4) rfl ?_
  simp only [Act.put, ps1, ps2, ps3]
  refine tz (i := 5) rfl ?_
  simp only [Act.put, ps1, ps2, ps3]
  refine take_call (i := 6) rfl (by kernel_rfl) (fun K hK => ?_)
  go_simp
  first
   | (go_at_call 55; refine (hfAdd d e l m c k _ _ _ (hx.hd.below hHeld.2.2.2.2) (hy.hd.below hHeld.2.2.2.2) fx fy).mono ?_; rintro e' w1 ⟨a1, l1, c1, rfl, h1, f1, b1⟩)
  refine hK.out _ _ ?_ (fun hHeld => ?_)
  ·first | exact keepB2 hHeld b2 | exact keepB2 hHeld b1 | exact ⟨xa.c0, xa.c1, xb.c0, xb.c1, B0⟩ | exact keepS2 hHeld (by omega) (by omega) _ _
  clear hK K
  refine tz (i := 7) rfl ?_
  simp only [Act.put, ps1, ps2, ps3]
  obtain ⟨k0, k1, k2, k3⟩ := xz.on b1
  refine take_call (i := 8) rfl (by kernel_rfl) (fun K hK => ?_)
  go_simp
  refine hK.out _ _ ?_ (fun hHeld => ?_)
  ·first | exact keepB2 hHeld b2 | exact keepB2 hHeld b1 | exact ⟨xa.c0, xa.c1, xb.c0, xb.c1, B0⟩ | exact keepS2 hHeld (by omega) (by omega) _ _
  clear hK K
  refine wpAnyH_done (by kernel_rfl) ?_ _
  go_wp2
  rw [HU.out] at h1
  exact bodyPost_ret (v := .agg #[.int .i64 s, .slice a1 l1 c1]) (by simp [results, Try.results39, go_sem, *]) rfl (endR _ (by omega) (also B0 b1) ⟨h1, HS.out⟩ (f1 _ hs) (fun j hj _ => f1 j (Nat.lt_of_lt_of_le hj B0.size)) _ _)
 ·have h3' : (s == t) = false := by simpa using h3
  have HC : ∃ c', c' = cmpI (x.natAbs : Int) y.natAbs := ⟨_, rfl⟩
  obtain ⟨g, hg⟩ := HC
  have HG : Hid _ := hg
  by_cases hle : y.natAbs ≤ x.natAbs
  ·have g0 : 0 ≤ g := by rw [hg]; unfold cmpI; rw [if_neg (by omega)]; split <;> decide
   have HU : Hid (x.natAbs - y.natAbs = z.natAbs) := by
    unfold Hid
    rcases sign_cases x with ⟨a, b⟩ | ⟨a, b⟩ | ⟨a, b⟩ <;> rcases sign_cases y with ⟨a', b'⟩ | ⟨a', b'⟩ | ⟨a', b'⟩ <;> omega
   have HS : Hid (z ≠ 0 → s = z.sign) := fun hz0 => by
    rcases sign_cases x with ⟨a, b⟩ | ⟨a, b⟩ | ⟨a, b⟩ <;> rcases sign_cases y with ⟨a', b'⟩ | ⟨a', b'⟩ | ⟨a', b'⟩ <;> rcases sign_cases z with ⟨a2, b2⟩ | ⟨a2, b2⟩ | ⟨a2, b2⟩ <;> omega
   clear es et hz hg h3
   go_enter Try.func39, Try.ntmps39
   go_wp2_with (go_at_call 56; fail)
   refine (hCmp d e l m c k _ _ _ (hx.hd.below B0) (hy.hd.below B0) HG.out).mono ?_
   rintro e' w1 ⟨rfl, b1⟩
   replace B0 := (also B0 b1).drew
   replace xa := (xa.on b1).drew
   replace xb := (xb.on b1).drew
   replace xz := (xz.on b1).drew
   obtain ⟨k0, k1, k2, k3⟩ := xa
   obtain ⟨j0, j1, j2, j3⟩ := xb
   have xa : Bx _ _ _ _ := ⟨k0, k1, k2, k3⟩
   have xb : Bx _ _ _ _ := ⟨j0, j1, j2, j3⟩
   go_wp2
   refine wp_region_held_drew (S := (fun w' => w'.cell? ⟨w.heap.size, 0, none⟩ = some (.int .i64 s) ∧ w'.cell? ⟨w.heap.size, 1, none⟩ = some (.slice d l c) ∧ w'.cell? ⟨w.heap.size + 1, 0, none⟩ = some (.int .i64 t) ∧ w'.cell? ⟨w.heap.size + 1, 1, none⟩ = some (.slice e m k) ∧ Below w.heap.size w w')) (by kernel_rfl) ?_ (fun hHeld => ?_)
   ·first | exact keepB2 hHeld b3 | exact keepB2 hHeld b2 | exact keepB2 hHeld b1 | exact ⟨xa.c0, xa.c1, xb.c0, xb.c1, B0⟩ | exact keepS2 hHeld (by omega) (by omega) _ _
   refine tz (i := 0) rfl ?_
   simp only [Act.put, ps1, ps2, ps3]
   refine tz (i := 1) rfl ?_
   simp only [Act.put, ps1, ps2, ps3]
   refine tz (i := 2) rfl ?_
   simp only [Act.put, ps1, ps2, ps3]
   refine tz (i := 3) rfl ?_
   simp only [Act.put, ps1, ps2, ps3]
   refine tz (i := 4) rfl ?_
   simp only [Act.put, ps1, ps2, ps3]
   refine tz (i := 5) rfl ?_
   simp only [Act.put, ps1, ps2, ps3]
   refine take_call (i := 6) rfl (by kernel_rfl) (fun K hK => ?_)
   go_simp
   first
   | (go_at_call 57; refine (hfSub d e l m c k _ _ _ (hx.hd.below hHeld.2.2.2.2) (hy.hd.below hHeld.2.2.2.2) fx fy hle).mono ?_; rintro e' w2 ⟨a1, l1, c1, rfl, h1, f1, b2⟩)
   | (go_at_call 52; refine (rwMake s a1 l1 c1 _ z _ h1 HU.out HS.out).mono ?_; rintro e' w3 ⟨s3, a3, l3, c3, rfl, h3, f3, b3⟩)
   refine hK.out _ _ ?_ (fun hHeld => ?_)
   ·first | exact keepB2 hHeld b3 | exact keepB2 hHeld b2 | exact keepB2 hHeld b1 | exact ⟨xa.c0, xa.c1, xb.c0, xb.c1, B0⟩ | exact keepS2 hHeld (by omega) (by omega) _ _
   clear hK K
   refine take_call (i := 7) rfl (by kernel_rfl) (fun K hK => ?_)
   go_simp
   first
   | (go_at_call 57; refine (hfSub d e l m c k _ _ _ (hx.hd.below hHeld.2.2.2.2) (hy.hd.below hHeld.2.2.2.2) fx fy hle).mono ?_; rintro e' w2 ⟨a1, l1, c1, rfl, h1, f1, b2⟩)
   | (go_at_call 52; refine (rwMake s a1 l1 c1 _ z _ h1 HU.out HS.out).mono ?_; rintro e' w3 ⟨s3, a3, l3, c3, rfl, h3, f3, b3⟩)
   refine hK.out _ _ ?_ (fun hHeld => ?_)
   ·first | exact keepB2 hHeld b3 | exact keepB2 hHeld b2 | exact keepB2 hHeld b1 | exact ⟨xa.c0, xa.c1, xb.c0, xb.c1, B0⟩ | exact keepS2 hHeld (by omega) (by omega) _ _
   clear hK K
   obtain ⟨k0, k1, k2, k3⟩ := (xz.on b2).on b3
   refine take_call (i := 8) rfl (by kernel_rfl) (fun K hK => ?_)
   go_simp
   refine hK.out _ _ ?_ (fun hHeld => ?_)
   ·first | exact keepB2 hHeld b3 | exact keepB2 hHeld b2 | exact keepB2 hHeld b1 | exact ⟨xa.c0, xa.c1, xb.c0, xb.c1, B0⟩ | exact keepS2 hHeld (by omega) (by omega) _ _
   clear hK K
   refine wpAnyH_done (by kernel_rfl) ?_ _
   go_wp2
   exact bodyPost_ret (v := .agg #[.int .i64 s3, .slice a3 l3 c3]) (by simp [results, Try.results39, go_sem, *]) rfl (endR _ (by omega) (also (also B0 b2) b3) h3 (f3 _ (Nat.lt_of_lt_of_le (Nat.lt_of_lt_of_le hs b1.size) b2.size) (f1 _ (Nat.lt_of_lt_of_le hs b1.size))) (fun j hj _ => f3 j (Nat.lt_of_lt_of_le hj (Nat.le_trans B0.size b2.size)) (f1 j (Nat.lt_of_lt_of_le hj B0.size))) _ _)
  ·have hlt : x.natAbs < y.natAbs := by omega
   replace hle : x.natAbs ≤ y.natAbs := by omega
   have g0 : ¬ 0 ≤ g := by rw [hg]; unfold cmpI; rw [if_pos (by omega)]; decide
   have HU : Hid (y.natAbs - x.natAbs = z.natAbs) := by
    unfold Hid
    rcases sign_cases x with ⟨a, b⟩ | ⟨a, b⟩ | ⟨a, b⟩ <;> rcases sign_cases y with ⟨a', b'⟩ | ⟨a', b'⟩ | ⟨a', b'⟩ <;> omega
   have HS : Hid (z ≠ 0 → t = z.sign) := fun hz0 => by
    rcases sign_cases x with ⟨a, b⟩ | ⟨a, b⟩ | ⟨a, b⟩ <;> rcases sign_cases y with ⟨a', b'⟩ | ⟨a', b'⟩ | ⟨a', b'⟩ <;> rcases sign_cases z with ⟨a2, b2⟩ | ⟨a2, b2⟩ | ⟨a2, b2⟩ <;> omega
   clear es et hz hg h3
   go_enter Try.func39, Try.ntmps39
   go_wp2_with (go_at_call 56; fail)
   refine (hCmp d e l m c k _ _ _ (hx.hd.below B0) (hy.hd.below B0) HG.out).mono ?_
   rintro e' w1 ⟨rfl, b1⟩
   replace B0 := (also B0 b1).drew
   replace xa := (xa.on b1).drew
   replace xb := (xb.on b1).drew
   replace xz := (xz.on b1).drew
   obtain ⟨k0, k1, k2, k3⟩ := xa
   obtain ⟨j0, j1, j2, j3⟩ := xb
   have xa : Bx _ _ _ _ := ⟨k0, k1, k2, k3⟩
   have xb : Bx _ _ _ _ := ⟨j0, j1, j2, j3⟩
   go_wp2
   refine wp_region_held_drew (S := (fun w' => w'.cell? ⟨w.heap.size, 0, none⟩ = some (.int .i64 s) ∧ w'.cell? ⟨w.heap.size, 1, none⟩ = some (.slice d l c) ∧ w'.cell? ⟨w.heap.size + 1, 0, none⟩ = some (.int .i64 t) ∧ w'.cell? ⟨w.heap.size + 1, 1, none⟩ = some (.slice e m k) ∧ Below w.heap.size w w')) (by kernel_rfl) ?_ (fun hHeld => ?_)
   ·first | exact keepB2 hHeld b3 | exact keepB2 hHeld b2 | exact keepB2 hHeld b1 | exact ⟨xa.c0, xa.c1, xb.c0, xb.c1, B0⟩ | exact keepS2 hHeld (by omega) (by omega) _ _
   refine tz (i := 0) rfl ?_
   simp only [Act.put, ps1, ps2, ps3]
   refine tz (i := 1) rfl ?_
   simp only [Act.put, ps1, ps2, ps3]
   refine tz (i := 2) rfl ?_
   simp only [Act.put, ps1, ps2, ps3]
   refine tz (i := 3) rfl ?_
   simp only [Act.put, ps1, ps2, ps3]
   refine tz (i := 4) rfl ?_
   simp only [Act.put, ps1, ps2, ps3]
   refine tz (i := 5) rfl ?_
   simp only [Act.put, ps1, ps2, ps3]
   refine take_call (i := 6) rfl (by kernel_rfl) (fun K hK => ?_)
   go_simp
   first
   | (go_at_call 57; refine (hfSub e d m l k c _ _ _ (hy.hd.below hHeld.2.2.2.2) (hx.hd.below hHeld.2.2.2.2) fy fx hle).mono ?_; rintro e' w2 ⟨a1, l1, c1, rfl, h1, f1, b2⟩)
   | (go_at_call 52; refine (rwMake t a1 l1 c1 _ z _ h1 HU.out HS.out).mono ?_; rintro e' w3 ⟨s3, a3, l3, c3, rfl, h3, f3, b3⟩)
   refine hK.out _ _ ?_ (fun hHeld => ?_)
   ·first | exact keepB2 hHeld b3 | exact keepB2 hHeld b2 | exact keepB2 hHeld b1 | exact ⟨xa.c0, xa.c1, xb.c0, xb.c1, B0⟩ | exact keepS2 hHeld (by omega) (by omega) _ _
   clear hK K
   refine take_call (i := 7) rfl (by kernel_rfl) (fun K hK => ?_)
   go_simp
   first
   | (go_at_call 57; refine (hfSub e d m l k c _ _ _ (hy.hd.below hHeld.2.2.2.2) (hx.hd.below hHeld.2.2.2.2) fy fx hle).mono ?_; rintro e' w2 ⟨a1, l1, c1, rfl, h1, f1, b2⟩)
   | (go_at_call 52; refine (rwMake t a1 l1 c1 _ z _ h1 HU.out HS.out).mono ?_; rintro e' w3 ⟨s3, a3, l3, c3, rfl, h3, f3, b3⟩)
   refine hK.out _ _ ?_ (fun hHeld => ?_)
   ·first | exact keepB2 hHeld b3 | exact keepB2 hHeld b2 | exact keepB2 hHeld b1 | exact ⟨xa.c0, xa.c1, xb.c0, xb.c1, B0⟩ | exact keepS2 hHeld (by omega) (by omega) _ _
   clear hK K
   obtain ⟨k0, k1, k2, k3⟩ := (xz.on b2).on b3
   refine take_call (i := 8) rfl (by kernel_rfl) (fun K hK => ?_)
   go_simp
   refine hK.out _ _ ?_ (fun hHeld => ?_)
   ·first | exact keepB2 hHeld b3 | exact keepB2 hHeld b2 | exact keepB2 hHeld b1 | exact ⟨xa.c0, xa.c1, xb.c0, xb.c1, B0⟩ | exact keepS2 hHeld (by omega) (by omega) _ _
   clear hK K
   refine wpAnyH_done (by kernel_rfl) ?_ _
   go_wp2
   exact bodyPost_ret (v := .agg #[.int .i64 s3, .slice a3 l3 c3]) (by simp [results, Try.results39, go_sem, *]) rfl (endR _ (by omega) (also (also B0 b2) b3) h3 (f3 _ (Nat.lt_of_lt_of_le (Nat.lt_of_lt_of_le hs b1.size) b2.size) (f1 _ (Nat.lt_of_lt_of_le hs b1.size))) (fun j hj _ => f3 j (Nat.lt_of_lt_of_le hj (Nat.le_trans B0.size b2.size)) (f1 j (Nat.lt_of_lt_of_le hj B0.size))) _ _)
set_option maxRecDepth 100000 in
set_option maxHeartbeats 1000000 in
theorem rwSub (s t : Int) (d e : Option Addr) (l c m k : Nat) (x y z : Int) (w : World) (hx : RN w s d l c x) (hy : RN w t e m k y) (fx : hf.nlen x.natAbs ≤ 1000000) (fy : hf.nlen y.natAbs ≤ 1000000) (hz : z = x - y) : Calls Try.prog 38 #[.agg #[.int .i64 s, .slice d l c], .agg #[.int .i64 t, .slice e m k]] w (GotR w (fun k' => NA k' d l ∧ NA k' e m) z) := by
 obtain ⟨B0, xa, xb, xz, hs⟩ := box2 w (.int .i64 s) (.slice d l c) (.int .i64 t) (.slice e m k) (.int .i64 0) (.slice none 0 0) 56 56 56
 have HZ : Hid (z = x + -y) := by unfold Hid; omega
 clear hz
 replace B0 := B0.drew
 replace xa := xa.drew
 replace xb := xb.drew
 replace xz := xz.drew
 go_enter Try.func38, Try.ntmps38
 go_wp2
 refine wp_region_held_drew (S := (fun w' => w'.cell? ⟨w.heap.size, 0, none⟩ = some (.int .i64 s) ∧ w'.cell? ⟨w.heap.size, 1, none⟩ = some (.slice d l c) ∧ w'.cell? ⟨w.heap.size + 1, 0, none⟩ = some (.int .i64 t) ∧ w'.cell? ⟨w.heap.size + 1, 1, none⟩ = some (.slice e m k) ∧ Below w.heap.size w w')) (by kernel_rfl) ?_ (fun hHeld => ?_)
 ·first | exact keepB2 hHeld b2 | exact keepB2 hHeld b1 | exact ⟨xa.c0, xa.c1, xb.c0, xb.c1, B0⟩ | exact keepS2 hHeld (by omega) (by omega) _ _
 refine tz (i := 0) rfl ?_
 simp only [Act.put, ps1, ps2, ps3]
 refine tz (i := 1) rfl ?_
 simp only [Act.put, ps1, ps2, ps3]
 refine take_call (i := 2) rfl (by kernel_rfl) (fun K hK => ?_)
 go_simp
 first
   | (go_at_call 54; refine (rwNeg t e m k y (-y) _ (hy.below hHeld.2.2.2.2) rfl).mono ?_; rintro e' w1 ⟨s1, a1, l1, c1, rfl, h1, f1, b1⟩)
   | (go_at_call 39; refine (rwAdd s s1 d a1 l c l1 c1 x (-y) z _ (hx.below hHeld.2.2.2.2) h1 fx (by rw [Int.natAbs_neg]; exact fy) HZ.out).mono ?_; rintro e' w2 ⟨s2, a2, l2, c2, rfl, h2, f2, b2⟩)
 refine hK.out _ _ ?_ (fun hHeld => ?_)
 ·first | exact keepB2 hHeld b2 | exact keepB2 hHeld b1 | exact ⟨xa.c0, xa.c1, xb.c0, xb.c1, B0⟩ | exact keepS2 hHeld (by omega) (by omega) _ _
 clear hK K
 refine take_call (i := 3) rfl (by kernel_rfl) (fun K hK => ?_)
 go_simp
 first
   | (go_at_call 54; refine (rwNeg t e m k y (-y) _ (hy.below hHeld.2.2.2.2) rfl).mono ?_; rintro e' w1 ⟨s1, a1, l1, c1, rfl, h1, f1, b1⟩)
   | (go_at_call 39; refine (rwAdd s s1 d a1 l c l1 c1 x (-y) z _ (hx.below hHeld.2.2.2.2) h1 fx (by rw [Int.natAbs_neg]; exact fy) HZ.out).mono ?_; rintro e' w2 ⟨s2, a2, l2, c2, rfl, h2, f2, b2⟩)
 refine hK.out _ _ ?_ (fun hHeld => ?_)
 ·first | exact keepB2 hHeld b2 | exact keepB2 hHeld b1 | exact ⟨xa.c0, xa.c1, xb.c0, xb.c1, B0⟩ | exact keepS2 hHeld (by omega) (by omega) _ _
 clear hK K
 obtain ⟨k0, k1, k2, k3⟩ := (xz.on b1).on b2
 refine take_call (i := 4) rfl (by kernel_rfl) (fun K hK => ?_)
 go_simp
 refine hK.out _ _ ?_ (fun hHeld => ?_)
 ·first | exact keepB2 hHeld b2 | exact keepB2 hHeld b1 | exact ⟨xa.c0, xa.c1, xb.c0, xb.c1, B0⟩ | exact keepS2 hHeld (by omega) (by omega) _ _
 clear hK K
 refine wpAnyH_done (by kernel_rfl) ?_ _
 go_wp2
 have nd : NA (w.heap.size + 1 + 1) d l := hx.hd.sl.na (by omega)
 have ne : NA (w.heap.size + 1 + 1) e m := hy.hd.sl.na (by omega)
 exact bodyPost_ret (v := .agg #[.int .i64 s2, .slice a2 l2 c2]) (by simp [results, Try.results38, go_sem, *]) rfl (endR _ (by omega) (also (also B0 b1) b2) h2 (f2 _ (Nat.lt_of_lt_of_le hs b1.size) ⟨nd, f1 _ hs ne⟩) (fun j hj hp => f2 j (Nat.lt_of_lt_of_le hj (Nat.le_trans B0.size b1.size)) ⟨hp.1, f1 j (Nat.lt_of_lt_of_le hj B0.size) hp.2⟩) _ _)
set_option maxRecDepth 100000 in
set_option maxHeartbeats 1000000 in
theorem rwMul (s t : Int) (d e : Option Addr) (l c m k : Nat) (x y z : Int) (w : World) (hx : RN w s d l c x) (hy : RN w t e m k y) (fx : hf.nlen x.natAbs ≤ 1000000) (fy : hf.nlen y.natAbs ≤ 1000000) (hz : z = x * y) : Calls Try.prog 36 #[.agg #[.int .i64 s, .slice d l c], .agg #[.int .i64 t, .slice e m k]] w (GotR w (fun _ => True) z) := by
 obtain ⟨B0, xa, xb, xz, hs⟩ := box2 w (.int .i64 s) (.slice d l c) (.int .i64 t) (.slice e m k) (.int .i64 0) (.slice none 0 0) 56 56 56
 have HU : Hid (x.natAbs * y.natAbs = z.natAbs) := by unfold Hid; rw [hz, Int.natAbs_mul]
 have HS : Hid (z ≠ 0 → s * t = z.sign) := fun _ => by rw [hz, Int.sign_mul, hx.sg, hy.sg]
 have es : -1 ≤ s ∧ s ≤ 1 := by rw [hx.sg]; rcases sign_cases x with ⟨_, e⟩ | ⟨_, e⟩ | ⟨_, e⟩ <;> omega
 have et : t = -1 ∨ t = 0 ∨ t = 1 := by rw [hy.sg]; rcases sign_cases y with ⟨_, e⟩ | ⟨_, e⟩ | ⟨_, e⟩ <;> omega
 have ew : IntKind.i64.wrap (s * t) = s * t := by
  rw [IntKind.wrap_i64]
  rcases et with e | e | e <;> rw [e] <;> omega
 have ew' : wrap64 (s * t) = s * t := by
  unfold wrap64
  rcases et with e | e | e <;> rw [e] <;> omega
 clear hz es et
 replace B0 := B0.drew
 replace xa := xa.drew
 replace xb := xb.drew
 replace xz := xz.drew
 go_enter Try.func36, Try.ntmps36
 go_wp2
 refine wp_region_held_drew (S := (fun w' => w'.cell? ⟨w.heap.size, 0, none⟩ = some (.int .i64 s) ∧ w'.cell? ⟨w.heap.size, 1, none⟩ = some (.slice d l c) ∧ w'.cell? ⟨w.heap.size + 1, 0, none⟩ = some (.int .i64 t) ∧ w'.cell? ⟨w.heap.size + 1, 1, none⟩ = some (.slice e m k) ∧ Below w.heap.size w w')) (by kernel_rfl) ?_ (fun hHeld => ?_)
 ·first | exact keepB2 hHeld b2 | exact keepB2 hHeld b1 | exact ⟨xa.c0, xa.c1, xb.c0, xb.c1, B0⟩ | exact keepS2 hHeld (by omega) (by omega) _ _
 refine tz (i := 0) rfl ?_
 simp only [Act.put, ps1, ps2, ps3]
 refine tz (i := 1) rfl ?_
 simp only [Act.put, ps1, ps2, ps3]
 refine tz (i := 2) rfl ?_
 simp only [Act.put, ps1, ps2, ps3]
 refine tz (i := 3) rfl ?_
 simp only [Act.put, ps1, ps2, ps3]
 refine tz (i := 4) rfl ?_
 simp only [Act.put, ps1, ps2, ps3]
 refine tz (i := 5) rfl ?_
 simp only [Act.put, ps1, ps2, ps3]
 refine tz (i := 6) rfl ?_
 simp only [Act.put, ps1, ps2, ps3]
 refine tz (i := 7) rfl ?_
 simp only [Act.put, ps1, ps2, ps3]
 refine tz (i := 8) rfl ?_
 simp only [Act.put, ps1, ps2, ps3]
 refine take_call (i := 9) rfl (by kernel_rfl) (fun K hK => ?_)
 go_simp
 first
   | (go_at_call 53; refine (hfMul d e l m c k _ _ _ (hx.hd.below hHeld.2.2.2.2) (hy.hd.below hHeld.2.2.2.2) fx fy).mono ?_; rintro e' w1 ⟨a1, l1, c1, rfl, h1, f1, b1⟩)
   | (go_at_call 52; refine (rwMake _ a1 l1 c1 _ z _ h1 HU.out HS.out).mono ?_; rintro e' w2 ⟨s2, a2, l2, c2, rfl, h2, f2, b2⟩)
 refine hK.out _ _ ?_ (fun hHeld => ?_)
 ·first | exact keepB2 hHeld b2 | exact keepB2 hHeld b1 | exact ⟨xa.c0, xa.c1, xb.c0, xb.c1, B0⟩ | exact keepS2 hHeld (by omega) (by omega) _ _
 clear hK K
 refine take_call (i := 10) rfl (by kernel_rfl) (fun K hK => ?_)
 go_simp
 first
   | (go_at_call 53; refine (hfMul d e l m c k _ _ _ (hx.hd.below hHeld.2.2.2.2) (hy.hd.below hHeld.2.2.2.2) fx fy).mono ?_; rintro e' w1 ⟨a1, l1, c1, rfl, h1, f1, b1⟩)
   | (go_at_call 52; refine (rwMake _ a1 l1 c1 _ z _ h1 HU.out HS.out).mono ?_; rintro e' w2 ⟨s2, a2, l2, c2, rfl, h2, f2, b2⟩)
 refine hK.out _ _ ?_ (fun hHeld => ?_)
 ·first | exact keepB2 hHeld b2 | exact keepB2 hHeld b1 | exact ⟨xa.c0, xa.c1, xb.c0, xb.c1, B0⟩ | exact keepS2 hHeld (by omega) (by omega) _ _
 clear hK K
 obtain ⟨k0, k1, k2, k3⟩ := (xz.on b1).on b2
 refine take_call (i := 11) rfl (by kernel_rfl) (fun K hK => ?_)
 go_simp
 refine hK.out _ _ ?_ (fun hHeld => ?_)
 ·first | exact keepB2 hHeld b2 | exact keepB2 hHeld b1 | exact ⟨xa.c0, xa.c1, xb.c0, xb.c1, B0⟩ | exact keepS2 hHeld (by omega) (by omega) _ _
 clear hK K
 refine wpAnyH_done (by kernel_rfl) ?_ _
 go_wp2
 exact bodyPost_ret (v := .agg #[.int .i64 s2, .slice a2 l2 c2]) (by simp [results, Try.results36, go_sem, *]) rfl (endR _ (by omega) (also (also B0 b1) b2) h2 (f2 _ (Nat.lt_of_lt_of_le hs b1.size) (f1 _ hs)) (fun j hj _ => f2 j (Nat.lt_of_lt_of_le hj (Nat.le_trans B0.size b1.size)) (f1 j (Nat.lt_of_lt_of_le hj B0.size))) _ _)
theorem field_int (s : Int) (d : Option Addr) (l c : Nat) (w : World) : (Instr.field 56 (.agg #[.int .i64 s, .slice d l c]) 0).run Try.prog w = .ok (.int .i64 s) w := by show _ = _; kernel_rfl
set_option maxRecDepth 100000 in
set_option maxHeartbeats 1000000 in
theorem rwCmp (s t : Int) (d e : Option Addr) (l c m k : Nat) (x y : Int) (w : World) (hx : RN w s d l c x) (hy : RN w t e m k y) (fx : hf.nlen x.natAbs ≤ 1000000) (fy : hf.nlen y.natAbs ≤ 1000000) {g : Int} (hg : g = (x - y).sign) : Calls Try.prog 50 #[.agg #[.int .i64 s, .slice d l c], .agg #[.int .i64 t, .slice e m k]] w fun e' w' => e' = .returned (.int .i64 g) ∧ Below w.heap.size w w' := by
 obtain ⟨B0, xa, xb, hs⟩ := box1 w (.int .i64 s) (.slice d l c) (.int .i64 t) (.slice e m k) 56 56
 have HG : Hid _ := hg
 clear hg
 go_enter Try.func50, Try.ntmps50
 go_wp2_with (go_at_call 38; fail)
 refine (rwSub s t d e l c m k x y (x - y) _ (hx.below B0) (hy.below B0) fx fy rfl).mono ?_
 rintro e' w1 ⟨s1, a1, l1, c1, rfl, h1, f1, b1⟩
 obtain rfl : s1 = g := by rw [h1.sg]; exact HG.out.symm
 have EF := field_int s1 a1 l1 c1
 go_wp2
 go_ret
 exact ⟨rfl, also B0 b1⟩
end Go.Proofs.Ytkmgndaholglhaa

namespace Go.Proofs.Ytkmgndaholglhaa
open Go.RowKit
set_option linter.unusedVariables false

def RNIs (X : Int) (x : Value) (R : World → Prop) (A : Nat → Prop) : Prop := ∃ (s : Int) (d : Option Addr) (l c : Nat), x = .agg #[.int .i64 s, .slice d l c] ∧ R = (fun w => RN w s d l c X) ∧ A = fun k => NA k d l
def ValIs (x0 : Value) (x : Value) (R : World → Prop) (A : Nat → Prop) : Prop := x = x0 ∧ R = (fun _ => True) ∧ A = fun _ => True
theorem RN.apart {w : World} {s : Int} {d : Option Addr} {l c k : Nat} {X : Int} (h : RN w s d l c X) (hk : w.heap.size ≤ k) : NA k d l := h.hd.sl.na hk
theorem rnIs_good {X : Int} {x : Value} {R : World → Prop} {A : Nat → Prop} (h : RNIs X x R A) : (∀ w w', R w → Below w.heap.size w w' → R w') ∧ ∀ w k, R w → w.heap.size ≤ k → A k := by
 obtain ⟨s, d, l, c, rfl, rfl, rfl⟩ := h
 exact ⟨fun w w' h hb => h.below hb, fun w k h hk => RN.apart h hk⟩
theorem valIs_good {x0 x : Value} {R : World → Prop} {A : Nat → Prop} (h : ValIs x0 x R A) : (∀ w w', R w → Below w.heap.size w w' → R w') ∧ ∀ w k, R w → w.heap.size ≤ k → A k := by
 obtain ⟨rfl, rfl, rfl⟩ := h
 exact ⟨fun _ _ _ _ => trivial, fun _ _ _ _ => trivial⟩
end Go.Proofs.Ytkmgndaholglhaa

namespace Go.Proofs.Ytkmgndaholglhaa
variable {P : Program} {md : Region.Mode} {Q : Exit → Act → World → Prop} {S : World → Prop} {z : Nat}

def anyL (P : Program) (md : Region.Mode) (ops : Array Oper) (Q : Exit → Act → World → Prop) (S : World → Prop) (z : Nat) : Nat → Array Bool → Act → World → Prop
 | 0, L, a, w => Region.ready md ops L = [] ∧ Q .normal a w
 | f + 1, L, a, w => (Region.ready md ops L = [] → Q .normal a w) ∧ ∀ i ∈ Region.ready md ops L, wpOp P ops Q i (fun a' w' => (i ≠ z → S w') ∧ anyL P md ops Q S z f (L.setIfInBounds i true) a' w') a w
theorem anyL_any {ops : Array Oper} : ∀ (f : Nat) (L : Array Bool) (a : Act) (w : World), anyL P md ops Q S z f L a w → wpAny P md ops Q f L a w
 | 0, _, _, _, h => h
 | f + 1, _, _, _, h => ⟨h.1, fun i hi => wpOp_mono (fun a' w' h' => anyL_any f _ a' w' h'.2) (h.2 i hi)⟩
theorem anyL_first {ops : Array Oper} {i : Nat} {oi : Oper} {v : Value} (hi : ops[i]? = some oi) (hs : Region.noSelect ops = true)
  (hz : ∀ oz, ops[z]? = some oz → ∃ e ∈ oz.after, Region.binds md e = true ∧ e.on = i) (hzi : i ≠ z) (hQ : ∀ c a w, Q (.panic c) (a.put oi.dst v) w → Q (.panic c) a w) :
  ∀ (f : Nat) (L : Array Bool) (a : Act) (w : World), Region.free md ops L i = true → i ∈ Region.ready md ops L → YieldsIf P ops S oi v a → S w →
   anyL P md ops Q S z f (L.setIfInBounds i true) (a.put oi.dst v) w → anyL P md ops Q S z (f + 1) L a w := by
 suffices H : ∀ (f : Nat) (L : Array Bool) (a : Act) (w : World),
   (∀ j oj, ops[j]? = some oj → j ≠ i → L.getD j true = false → (∀ e ∈ oj.after, Region.binds md e = true → e.on ≠ i) → oi.apart ops oj = true) →
   i ∈ Region.ready md ops L → YieldsIf P ops S oi v a → S w → anyL P md ops Q S z f (L.setIfInBounds i true) (a.put oi.dst v) w → anyL P md ops Q S z (f + 1) L a w from
  fun f L a w hf hr hy hS h => H f L a w (Region.free_spec hi hf) hr hy hS h
 have sel := Region.noSelect_spec hs
 intro f
 induction f with
 | zero =>
  intro L a w _ hr hy hS h
  refine ⟨fun e => absurd hr (by rw [e]; exact List.not_mem_nil), fun j hj => ?_⟩
  rcases Decidable.em (j = i) with rfl | hne
  ·exact hy.wpOp hi hS ⟨fun _ => hS, h⟩
  ·exact absurd (ready_mono hj hne) (by rw [h.1]; exact List.not_mem_nil)
 | succ f ih =>
  intro L a w hfree hr hy hS h
  refine ⟨fun e => absurd hr (by rw [e]; exact List.not_mem_nil), fun j hj => ?_⟩
  rcases Decidable.em (j = i) with rfl | hne
  ·exact hy.wpOp hi hS ⟨fun _ => hS, h⟩
  obtain ⟨hun, oj, hoj, hall⟩ := mem_ready.1 hj
  have hi0 := (mem_ready.1 hr).1
  have hno : ∀ e ∈ oj.after, Region.binds md e = true → e.on ≠ i := by
   intro e he hb q
   have h1 := hall e he hb
   rw [q] at h1
   rcases Nat.lt_or_ge i L.size with g | g
   ·simp [g] at hi0 h1
    rw [hi0] at h1
    cases h1
   ·simp [Array.getElem?_eq_none g] at h1
  have hjz : j ≠ z := by
   rintro rfl
   obtain ⟨e, he, hb, q⟩ := hz oj hoj
   exact hno e he hb q
  have h2 := wpOp_putIf hoj (hfree j oj hoj hne hun hno) (fun cs b => sel i oi cs b hi) (fun cs b => sel j oj cs b hoj) hQ hy (h.2 j (ready_mono hj hne))
  refine wpOp_mono (fun a' w' h3 => ⟨h3.2.1, ih _ a' w' (fun k ok hk hki hku hkn => hfree k ok hk hki ?_ hkn) (ready_mono hr (Ne.symm hne)) h3.1 (h3.2.1 hjz) ?_⟩) h2
  ·rcases Decidable.em (j = k) with rfl | q
   ·exact hun
   ·rwa [getD_set_ne true q] at hku
  ·rw [Array.setIfInBounds_comm _ _ hne]
   exact h3.2.2
def waitsFor (md : Region.Mode) (ops : Array Oper) (z i : Nat) : Bool := ((ops[z]?).map fun o => o.after.any fun e => Region.binds md e && e.on == i).getD true
theorem waits_spec {ops : Array Oper} {i : Nat} (h : waitsFor md ops z i = true) : ∀ oz, ops[z]? = some oz → ∃ e ∈ oz.after, Region.binds md e = true ∧ e.on = i := by
 intro oz ho
 unfold waitsFor at h
 rw [ho] at h
 simp only [Option.map_some, Option.getD_some] at h
 obtain ⟨k, hk, hp⟩ := Array.any_eq_true.1 h
 rw [Bool.and_eq_true_iff] at hp
 exact ⟨_, Array.getElem_mem hk, hp.1, by simpa using hp.2⟩
theorem takeL_yes {l : List Oper} {i : Nat} {oi : Oper} {v : Value} {f : Nat} {L : Array Bool} {a : Act} {w : World} (hi : l[i]? = some oi)
  (hs : Region.noSelect l.toArray = true) (hf : Region.free md l.toArray L i = true) (hr : (Region.ready md l.toArray L).contains i = true) (hz : waitsFor md l.toArray z i = true) (hzi : i ≠ z)
  (hQ : ∀ c a w, Q (.panic c) (a.put oi.dst v) w → Q (.panic c) a w) (hw : Region.wanted oi (yielded l.toArray a.tmps) = true) (hS : S w)
  (hy : ∀ w, S w → (execOp a.eval oi).run P w = .ok (.value v) w)
  (h : anyL P md l.toArray Q S z f (L.setIfInBounds i true) (a.put oi.dst v) w) : anyL P md l.toArray Q S z (f + 1) L a w :=
 anyL_first (by simpa using hi) hs (waits_spec hz) hzi hQ f L a w hf (by simpa using hr) (Or.inl ⟨hw, hy⟩) hS h
theorem tyL {l : List Oper} {i : Nat} {oi : Oper} {v : Value} {f : Nat} {L : Array Bool} {a : Act} {w : World} (hi : l[i]? = some oi)
  (hy : ∀ w, S w → (execOp a.eval oi).run P w = .ok (.value v) w) (h : anyL P md l.toArray Q S z f (L.setIfInBounds i true) (a.put oi.dst v) w)
  (hs : Region.noSelect l.toArray = true := by kernel_rfl) (hf : Region.free md l.toArray L i = true := by kernel_rfl) (hr : (Region.ready md l.toArray L).contains i = true := by kernel_rfl) (hz : waitsFor md l.toArray z i = true := by kernel_rfl) (hzi : i ≠ z := by decide)
  (hQ : ∀ c a w, Q (.panic c) (a.put oi.dst v) w → Q (.panic c) a w := by exact fun _ _ _ h => h) (hw : Region.wanted oi (yielded l.toArray a.tmps) = true := by rfl) (hS : S w := by assumption) : anyL P md l.toArray Q S z (f + 1) L a w :=
 takeL_yes hi hs hf hr hz hzi hQ hw hS hy h
theorem takeL_call {l : List Oper} {i : Nat} {o : Oper} {f : Nat} {L : Array Bool} {a : Act} {w : World} (ho : l[i]? = some o) (hr : Region.ready md l.toArray L = [i])
  (h : ∀ K' : Act → World → Prop, Shut (∀ a w, S w → (S w → anyL P md l.toArray Q S z f (L.setIfInBounds i true) a w) → K' a w) → if Region.wanted o (yielded l.toArray a.tmps) = true then Oper.wp P o a w K' Q else K' (a.put o.dst undef) w) :
  anyL P md l.toArray Q S z (f + 1) L a w := by
 refine ⟨fun e => (by rw [hr] at e; cases e), fun j hj => ?_⟩
 rw [hr, List.mem_singleton] at hj
 subst hj
 exact wpOp_step (by simpa using ho) (fun K' hK => h K' (fun a w hS hW => hK a w ⟨fun _ => hS, hW hS⟩))
theorem takeL_last {l : List Oper} {o : Oper} {f : Nat} {L : Array Bool} {a : Act} {w : World} (ho : l[z]? = some o) (hr : Region.ready md l.toArray L = [z])
  (h : ∀ K' : Act → World → Prop, Shut (∀ a w, anyL P md l.toArray Q S z f (L.setIfInBounds z true) a w → K' a w) → if Region.wanted o (yielded l.toArray a.tmps) = true then Oper.wp P o a w K' Q else K' (a.put o.dst undef) w) :
  anyL P md l.toArray Q S z (f + 1) L a w := by
 refine ⟨fun e => (by rw [hr] at e; cases e), fun j hj => ?_⟩
 rw [hr, List.mem_singleton] at hj
 subst hj
 exact wpOp_step (by simpa using ho) (fun K' hK => h K' (fun a w hW => hK a w ⟨fun q => absurd rfl q, hW⟩))
theorem anyL_done {l : List Oper} {L : Array Bool} {a : Act} {w : World} (hr : Region.ready md l.toArray L = []) (h : Q .normal a w) : ∀ f, anyL P md l.toArray Q S z f L a w
 | 0 => ⟨hr, h⟩
 | _ + 1 => ⟨fun _ => h, by rw [hr]; exact fun _ h => absurd h List.not_mem_nil⟩
theorem regionL {l : List Oper} (z : Nat) {id : Nat} {a : Act} {w : World} (hm : P.follows .mixedOrders = true) (hS : S w.drew)
  (h : S w.drew → anyL P .any l.toArray Q S z l.toArray.size (Array.replicate l.toArray.size false) a w.drew) : (Code.region id l.toArray true).wp P Q a w :=
 wp_region_any hm (anyL_any _ _ _ _ (h hS))
end Go.Proofs.Ytkmgndaholglhaa

namespace Go.Proofs.Ytkmgndaholglhaa.lq
open Go.RowKit

def dg (v : Int) (i : Nat) : Int := v / 256 ^ i % 256
theorem dg_range (v : Int) (i : Nat) : 0 ≤ dg v i ∧ dg v i < 256 := by unfold dg; omega
theorem p256 (i : Nat) : (0 : Int) < 256 ^ i := Int.pow_pos (by decide)
def fill (n : Nat) (p : Nat → Bool) (u v : Int) : List Value := (List.range n).map fun j => .int .i64 (if p j then dg u j else dg v j)
def dcells (n : Nat) (v : Int) : List Value := (List.range n).map fun j => .int .i64 (dg v j)
def mix (n i : Nat) (u v : Int) : List Value := fill n (fun j => decide (j < i)) u v
theorem fill_length (n : Nat) (p : Nat → Bool) (u v : Int) : (fill n p u v).length = n := by simp [fill]
theorem mix_length (n i : Nat) (u v : Int) : (mix n i u v).length = n := fill_length _ _ _ _
theorem dcells_at (n : Nat) (v : Int) (i : Nat) (h : i < n) : (dcells n v)[i]? = some (.int .i64 (dg v i)) := by simp [dcells, h]
theorem fill_at (n : Nat) (p : Nat → Bool) (u v : Int) (i : Nat) (h : i < n) : (fill n p u v)[i]? = some (.int .i64 (if p i then dg u i else dg v i)) := by simp [fill, h]
theorem mix_at (n k : Nat) (u v : Int) (i : Nat) (h : i < n) (hk : k ≤ i) : (mix n k u v)[i]? = some (.int .i64 (dg v i)) := by
 rw [mix, fill_at _ _ _ _ _ h]; simp; omega
theorem fill_congr {n : Nat} {p q : Nat → Bool} {u v u' v' : Int} (h : ∀ j, j < n → (if p j then dg u j else dg v j) = (if q j then dg u' j else dg v' j)) : fill n p u v = fill n q u' v' := by
 unfold fill
 refine List.map_congr_left fun j hj => ?_
 rw [h j (by simpa using hj)]
theorem fill_set (n : Nat) (p : Nat → Bool) (u v : Int) (i : Nat) : (fill n p u v).set i (.int .i64 (dg u i)) = fill n (fun j => p j || j == i) u v := by
 refine List.ext_getElem? fun j => ?_
 rw [List.getElem?_set]
 by_cases e : i = j
 ·subst e
  by_cases h : i < n
  ·rw [if_pos rfl, if_pos (by rw [fill_length]; exact h), fill_at _ _ _ _ _ h]; simp
  ·rw [if_pos rfl, if_neg (by rw [fill_length]; exact h), List.getElem?_eq_none (by rw [fill_length]; omega)]
 ·by_cases h : j < n
  ·rw [if_neg e, fill_at _ _ _ _ _ h, fill_at _ _ _ _ _ h]
   have e' : (j == i) = false := by simp; omega
   simp [e']
  ·rw [if_neg e, List.getElem?_eq_none (by simp [fill_length]; omega), List.getElem?_eq_none (by simp [fill_length]; omega)]
theorem mix_set (n i : Nat) (u v : Int) : (mix n i u v).set i (.int .i64 (dg u i)) = mix n (i + 1) u v := by
 unfold mix
 rw [fill_set]
 refine fill_congr fun j _ => ?_
 have : (decide (j < i) || j == i) = decide (j < i + 1) := by rw [Bool.eq_iff_iff]; simp; omega
 rw [this]
theorem mix_zero (n : Nat) (u v : Int) : mix n 0 u v = dcells n v := by unfold mix fill dcells; simp
theorem mix_full (n : Nat) (u v : Int) : mix n n u v = dcells n u := by
 unfold mix fill dcells
 refine List.map_congr_left fun j hj => ?_
 have : j < n := by simpa using hj
 simp [this]
theorem dg_congr {u v : Int} {i j : Nat} (t : Int) (h : u = v + t * 256 ^ i) (hj : j < i) : dg u j = dg v j := by
 unfold dg
 obtain ⟨d, rfl⟩ : ∃ d, i = j + 1 + d := ⟨i - (j + 1), by omega⟩
 have e : t * (256 : Int) ^ (j + 1 + d) = (256 * (t * 256 ^ d)) * 256 ^ j := by
  rw [show j + 1 + d = d + 1 + j by omega, Int.pow_add, Int.pow_succ, ← Int.mul_assoc, ← Int.mul_assoc, Int.mul_comm (t * 256 ^ d) 256]
 rw [h, e, Int.add_mul_ediv_right _ _ (Int.ne_of_gt (p256 j))]
 omega
def carry (x y : Int) (i : Nat) : Int := (x % 256 ^ i + y % 256 ^ i) / 256 ^ i
theorem carry_zero (x y : Int) : carry x y 0 = 0 := by simp [carry]
theorem emod_succ (x : Int) (i : Nat) : x % 256 ^ (i + 1) = dg x i * 256 ^ i + x % 256 ^ i := by
 unfold dg
 have hp := p256 i
 have h1 := Int.mul_ediv_add_emod x (256 ^ i)
 have h2 := Int.mul_ediv_add_emod (x / 256 ^ i) 256
 have b := Int.emod_nonneg x (Int.ne_of_gt hp)
 have b' := Int.emod_lt_of_pos x hp
 have c := Int.emod_nonneg (x / 256 ^ i) (show (256 : Int) ≠ 0 by decide)
 have c' := Int.emod_lt_of_pos (x / 256 ^ i) (show (0 : Int) < 256 by decide)
 have e : x = (x / 256 ^ i % 256 * 256 ^ i + x % 256 ^ i) + (x / 256 ^ i / 256) * 256 ^ (i + 1) := by
  have : (x / 256 ^ i / 256) * (256 : Int) ^ (i + 1) = (256 * (x / 256 ^ i / 256)) * 256 ^ i := by rw [Int.pow_succ, Int.mul_comm ((256 : Int) ^ i) 256, ← Int.mul_assoc, Int.mul_comm _ 256]
  rw [this]
  have h3 : (256 * (x / 256 ^ i / 256)) * (256 : Int) ^ i + x / 256 ^ i % 256 * 256 ^ i = x / 256 ^ i * 256 ^ i := by rw [← Int.add_mul, h2]
  have h4 : x / 256 ^ i * (256 : Int) ^ i = 256 ^ i * (x / 256 ^ i) := Int.mul_comm _ _
  omega
 have l0 : 0 ≤ x / 256 ^ i % 256 * 256 ^ i + x % 256 ^ i := Int.add_nonneg (Int.mul_nonneg c (Int.le_of_lt hp)) b
 have l1 : x / 256 ^ i % 256 * 256 ^ i + x % 256 ^ i < 256 ^ (i + 1) := by
  have : x / 256 ^ i % 256 * (256 : Int) ^ i ≤ 255 * 256 ^ i := Int.mul_le_mul_of_nonneg_right (by omega) (Int.le_of_lt hp)
  rw [Int.pow_succ]
  omega
 have key : x % 256 ^ (i + 1) = (x / 256 ^ i % 256 * 256 ^ i + x % 256 ^ i) % 256 ^ (i + 1) := by
  have := congrArg (· % (256 : Int) ^ (i + 1)) e
  simpa [Int.add_mul_emod_self_right] using this
 rw [key, Int.emod_eq_of_lt l0 l1]
theorem carry_sum (x y : Int) (i : Nat) : (x % 256 ^ (i + 1) + y % 256 ^ (i + 1)) / 256 ^ i = carry x y i + dg x i + dg y i := by
 rw [emod_succ, emod_succ]
 unfold carry
 have e : dg x i * 256 ^ i + x % 256 ^ i + (dg y i * 256 ^ i + y % 256 ^ i) = (x % 256 ^ i + y % 256 ^ i) + (dg x i + dg y i) * 256 ^ i := by rw [Int.add_mul]; omega
 rw [e, Int.add_mul_ediv_right _ _ (Int.ne_of_gt (p256 i))]
 omega
theorem carry_succ (x y : Int) (i : Nat) : carry x y (i + 1) = (carry x y i + dg x i + dg y i) / 256 := by
 rw [← carry_sum]
 show (x % 256 ^ (i + 1) + y % 256 ^ (i + 1)) / 256 ^ (i + 1) = _
 have hp := p256 i
 rw [Int.pow_succ, Int.ediv_ediv, if_neg (by omega)]
 omega
theorem add_digit (x y : Int) (i : Nat) : (carry x y i + dg x i + dg y i) % 256 = dg (x + y) i := by
 unfold dg carry
 have hp := p256 i
 have h1 := Int.mul_ediv_add_emod x (256 ^ i)
 have h2 := Int.mul_ediv_add_emod y (256 ^ i)
 have e : x + y = (x % 256 ^ i + y % 256 ^ i) + (x / 256 ^ i + y / 256 ^ i) * 256 ^ i := by
  have a1 : x / 256 ^ i * (256 : Int) ^ i = 256 ^ i * (x / 256 ^ i) := Int.mul_comm _ _
  have a2 : y / 256 ^ i * (256 : Int) ^ i = 256 ^ i * (y / 256 ^ i) := Int.mul_comm _ _
  rw [Int.add_mul]; omega
 have e2 : (x + y) / 256 ^ i = (x % 256 ^ i + y % 256 ^ i) / 256 ^ i + (x / 256 ^ i + y / 256 ^ i) := by
  conv => lhs; rw [e]
  exact Int.add_mul_ediv_right _ _ (Int.ne_of_gt hp)
 rw [e2]
 omega
theorem carry_range (x y : Int) (i : Nat) : 0 ≤ carry x y i ∧ carry x y i ≤ 1 := by
 unfold carry
 have hp := p256 i
 have a := Int.emod_nonneg x (Int.ne_of_gt hp)
 have a' := Int.emod_lt_of_pos x hp
 have b := Int.emod_nonneg y (Int.ne_of_gt hp)
 have b' := Int.emod_lt_of_pos y hp
 refine ⟨Int.ediv_nonneg (by omega) (by omega), ?_⟩
 have : (x % 256 ^ i + y % 256 ^ i) / 256 ^ i < 2 := Int.ediv_lt_of_lt_mul hp (by omega)
 omega
end Go.Proofs.Ytkmgndaholglhaa.lq

namespace Go.Proofs.Ytkmgndaholglhaa.lq.q
open Go.RowKit

def dg (v : Int) (i : Nat) : Int := v / 18446744073709551616 ^ i % 18446744073709551616
theorem dg_range (v : Int) (i : Nat) : 0 ≤ dg v i ∧ dg v i < 18446744073709551616 := by unfold dg; omega
theorem p256 (i : Nat) : (0 : Int) < 18446744073709551616 ^ i := Int.pow_pos (by decide)
def fill (n : Nat) (p : Nat → Bool) (u v : Int) : List Value := (List.range n).map fun j => .int .u64 (if p j then dg u j else dg v j)
def dcells (n : Nat) (v : Int) : List Value := (List.range n).map fun j => .int .u64 (dg v j)
def mix (n i : Nat) (u v : Int) : List Value := fill n (fun j => decide (j < i)) u v
theorem fill_length (n : Nat) (p : Nat → Bool) (u v : Int) : (fill n p u v).length = n := by simp [fill]
theorem mix_length (n i : Nat) (u v : Int) : (mix n i u v).length = n := fill_length _ _ _ _
theorem dcells_at (n : Nat) (v : Int) (i : Nat) (h : i < n) : (dcells n v)[i]? = some (.int .u64 (dg v i)) := by simp [dcells, h]
theorem fill_at (n : Nat) (p : Nat → Bool) (u v : Int) (i : Nat) (h : i < n) : (fill n p u v)[i]? = some (.int .u64 (if p i then dg u i else dg v i)) := by simp [fill, h]
theorem mix_at (n k : Nat) (u v : Int) (i : Nat) (h : i < n) (hk : k ≤ i) : (mix n k u v)[i]? = some (.int .u64 (dg v i)) := by
 rw [mix, fill_at _ _ _ _ _ h]; simp; omega
theorem fill_congr {n : Nat} {p q : Nat → Bool} {u v u' v' : Int} (h : ∀ j, j < n → (if p j then dg u j else dg v j) = (if q j then dg u' j else dg v' j)) : fill n p u v = fill n q u' v' := by
 unfold fill
 refine List.map_congr_left fun j hj => ?_
 rw [h j (by simpa using hj)]
theorem fill_set (n : Nat) (p : Nat → Bool) (u v : Int) (i : Nat) : (fill n p u v).set i (.int .u64 (dg u i)) = fill n (fun j => p j || j == i) u v := by
 refine List.ext_getElem? fun j => ?_
 rw [List.getElem?_set]
 by_cases e : i = j
 ·subst e
  by_cases h : i < n
  ·rw [if_pos rfl, if_pos (by rw [fill_length]; exact h), fill_at _ _ _ _ _ h]; simp
  ·rw [if_pos rfl, if_neg (by rw [fill_length]; exact h), List.getElem?_eq_none (by rw [fill_length]; omega)]
 ·by_cases h : j < n
  ·rw [if_neg e, fill_at _ _ _ _ _ h, fill_at _ _ _ _ _ h]
   have e' : (j == i) = false := by simp; omega
   simp [e']
  ·rw [if_neg e, List.getElem?_eq_none (by simp [fill_length]; omega), List.getElem?_eq_none (by simp [fill_length]; omega)]
theorem mix_set (n i : Nat) (u v : Int) : (mix n i u v).set i (.int .u64 (dg u i)) = mix n (i + 1) u v := by
 unfold mix
 rw [fill_set]
 refine fill_congr fun j _ => ?_
 have : (decide (j < i) || j == i) = decide (j < i + 1) := by rw [Bool.eq_iff_iff]; simp; omega
 rw [this]
theorem mix_zero (n : Nat) (u v : Int) : mix n 0 u v = dcells n v := by unfold mix fill dcells; simp
theorem mix_full (n : Nat) (u v : Int) : mix n n u v = dcells n u := by
 unfold mix fill dcells
 refine List.map_congr_left fun j hj => ?_
 have : j < n := by simpa using hj
 simp [this]
theorem dg_congr {u v : Int} {i j : Nat} (t : Int) (h : u = v + t * 18446744073709551616 ^ i) (hj : j < i) : dg u j = dg v j := by
 unfold dg
 obtain ⟨d, rfl⟩ : ∃ d, i = j + 1 + d := ⟨i - (j + 1), by omega⟩
 have e : t * (18446744073709551616 : Int) ^ (j + 1 + d) = (18446744073709551616 * (t * 18446744073709551616 ^ d)) * 18446744073709551616 ^ j := by
  rw [show j + 1 + d = d + 1 + j by omega, Int.pow_add, Int.pow_succ, ← Int.mul_assoc, ← Int.mul_assoc, Int.mul_comm (t * 18446744073709551616 ^ d) 18446744073709551616]
 rw [h, e, Int.add_mul_ediv_right _ _ (Int.ne_of_gt (p256 j))]
 omega
def carry (x y : Int) (i : Nat) : Int := (x % 18446744073709551616 ^ i + y % 18446744073709551616 ^ i) / 18446744073709551616 ^ i
theorem carry_zero (x y : Int) : carry x y 0 = 0 := by simp [carry]
theorem emod_succ (x : Int) (i : Nat) : x % 18446744073709551616 ^ (i + 1) = dg x i * 18446744073709551616 ^ i + x % 18446744073709551616 ^ i := by
 unfold dg
 have hp := p256 i
 have h1 := Int.mul_ediv_add_emod x (18446744073709551616 ^ i)
 have h2 := Int.mul_ediv_add_emod (x / 18446744073709551616 ^ i) 18446744073709551616
 have b := Int.emod_nonneg x (Int.ne_of_gt hp)
 have b' := Int.emod_lt_of_pos x hp
 have c := Int.emod_nonneg (x / 18446744073709551616 ^ i) (show (18446744073709551616 : Int) ≠ 0 by decide)
 have c' := Int.emod_lt_of_pos (x / 18446744073709551616 ^ i) (show (0 : Int) < 18446744073709551616 by decide)
 have e : x = (x / 18446744073709551616 ^ i % 18446744073709551616 * 18446744073709551616 ^ i + x % 18446744073709551616 ^ i) + (x / 18446744073709551616 ^ i / 18446744073709551616) * 18446744073709551616 ^ (i + 1) := by
  have : (x / 18446744073709551616 ^ i / 18446744073709551616) * (18446744073709551616 : Int) ^ (i + 1) = (18446744073709551616 * (x / 18446744073709551616 ^ i / 18446744073709551616)) * 18446744073709551616 ^ i := by rw [Int.pow_succ, Int.mul_comm ((18446744073709551616 : Int) ^ i) 18446744073709551616, ← Int.mul_assoc, Int.mul_comm _ 18446744073709551616]
  rw [this]
  have h3 : (18446744073709551616 * (x / 18446744073709551616 ^ i / 18446744073709551616)) * (18446744073709551616 : Int) ^ i + x / 18446744073709551616 ^ i % 18446744073709551616 * 18446744073709551616 ^ i = x / 18446744073709551616 ^ i * 18446744073709551616 ^ i := by rw [← Int.add_mul, h2]
  have h4 : x / 18446744073709551616 ^ i * (18446744073709551616 : Int) ^ i = 18446744073709551616 ^ i * (x / 18446744073709551616 ^ i) := Int.mul_comm _ _
  omega
 have l0 : 0 ≤ x / 18446744073709551616 ^ i % 18446744073709551616 * 18446744073709551616 ^ i + x % 18446744073709551616 ^ i := Int.add_nonneg (Int.mul_nonneg c (Int.le_of_lt hp)) b
 have l1 : x / 18446744073709551616 ^ i % 18446744073709551616 * 18446744073709551616 ^ i + x % 18446744073709551616 ^ i < 18446744073709551616 ^ (i + 1) := by
  have : x / 18446744073709551616 ^ i % 18446744073709551616 * (18446744073709551616 : Int) ^ i ≤ 18446744073709551615 * 18446744073709551616 ^ i := Int.mul_le_mul_of_nonneg_right (by omega) (Int.le_of_lt hp)
  rw [Int.pow_succ]
  omega
 have key : x % 18446744073709551616 ^ (i + 1) = (x / 18446744073709551616 ^ i % 18446744073709551616 * 18446744073709551616 ^ i + x % 18446744073709551616 ^ i) % 18446744073709551616 ^ (i + 1) := by
  have := congrArg (· % (18446744073709551616 : Int) ^ (i + 1)) e
  simpa [Int.add_mul_emod_self_right] using this
 rw [key, Int.emod_eq_of_lt l0 l1]
theorem carry_sum (x y : Int) (i : Nat) : (x % 18446744073709551616 ^ (i + 1) + y % 18446744073709551616 ^ (i + 1)) / 18446744073709551616 ^ i = carry x y i + dg x i + dg y i := by
 rw [emod_succ, emod_succ]
 unfold carry
 have e : dg x i * 18446744073709551616 ^ i + x % 18446744073709551616 ^ i + (dg y i * 18446744073709551616 ^ i + y % 18446744073709551616 ^ i) = (x % 18446744073709551616 ^ i + y % 18446744073709551616 ^ i) + (dg x i + dg y i) * 18446744073709551616 ^ i := by rw [Int.add_mul]; omega
 rw [e, Int.add_mul_ediv_right _ _ (Int.ne_of_gt (p256 i))]
 omega
theorem carry_succ (x y : Int) (i : Nat) : carry x y (i + 1) = (carry x y i + dg x i + dg y i) / 18446744073709551616 := by
 rw [← carry_sum]
 show (x % 18446744073709551616 ^ (i + 1) + y % 18446744073709551616 ^ (i + 1)) / 18446744073709551616 ^ (i + 1) = _
 have hp := p256 i
 rw [Int.pow_succ, Int.ediv_ediv, if_neg (by omega)]
 omega
theorem add_digit (x y : Int) (i : Nat) : (carry x y i + dg x i + dg y i) % 18446744073709551616 = dg (x + y) i := by
 unfold dg carry
 have hp := p256 i
 have h1 := Int.mul_ediv_add_emod x (18446744073709551616 ^ i)
 have h2 := Int.mul_ediv_add_emod y (18446744073709551616 ^ i)
 have e : x + y = (x % 18446744073709551616 ^ i + y % 18446744073709551616 ^ i) + (x / 18446744073709551616 ^ i + y / 18446744073709551616 ^ i) * 18446744073709551616 ^ i := by
  have a1 : x / 18446744073709551616 ^ i * (18446744073709551616 : Int) ^ i = 18446744073709551616 ^ i * (x / 18446744073709551616 ^ i) := Int.mul_comm _ _
  have a2 : y / 18446744073709551616 ^ i * (18446744073709551616 : Int) ^ i = 18446744073709551616 ^ i * (y / 18446744073709551616 ^ i) := Int.mul_comm _ _
  rw [Int.add_mul]; omega
 have e2 : (x + y) / 18446744073709551616 ^ i = (x % 18446744073709551616 ^ i + y % 18446744073709551616 ^ i) / 18446744073709551616 ^ i + (x / 18446744073709551616 ^ i + y / 18446744073709551616 ^ i) := by
  conv => lhs; rw [e]
  exact Int.add_mul_ediv_right _ _ (Int.ne_of_gt hp)
 rw [e2]
 omega
theorem carry_range (x y : Int) (i : Nat) : 0 ≤ carry x y i ∧ carry x y i ≤ 1 := by
 unfold carry
 have hp := p256 i
 have a := Int.emod_nonneg x (Int.ne_of_gt hp)
 have a' := Int.emod_lt_of_pos x hp
 have b := Int.emod_nonneg y (Int.ne_of_gt hp)
 have b' := Int.emod_lt_of_pos y hp
 refine ⟨Int.ediv_nonneg (by omega) (by omega), ?_⟩
 have : (x % 18446744073709551616 ^ i + y % 18446744073709551616 ^ i) / 18446744073709551616 ^ i < 2 := Int.ediv_lt_of_lt_mul hp (by omega)
 omega
end Go.Proofs.Ytkmgndaholglhaa.lq.q

namespace Go.Proofs.Ytkmgndaholglhaa.lq.q
set_option linter.unusedVariables false

def tk (O xi y : Int) (i k : Nat) : Int := O % 18446744073709551616 ^ (i + k) + xi * 18446744073709551616 ^ i * (y % 18446744073709551616 ^ k)
def cy (O xi y : Int) (i k : Nat) : Int := tk O xi y i k / 18446744073709551616 ^ (i + k)
theorem pow_ik (i k : Nat) : (18446744073709551616 : Int) ^ (i + k) = 18446744073709551616 ^ i * 18446744073709551616 ^ k := Int.pow_add _ _ _
theorem tk_succ (O xi y : Int) (i k : Nat) : tk O xi y i (k + 1) = tk O xi y i k + (dg O (i + k) + xi * dg y k) * 18446744073709551616 ^ (i + k) := by
 unfold tk
 rw [← Nat.add_assoc, emod_succ, emod_succ, Int.add_mul, Int.mul_add, pow_ik]
 have e : xi * 18446744073709551616 ^ i * (dg y k * 18446744073709551616 ^ k) = xi * dg y k * (18446744073709551616 ^ i * 18446744073709551616 ^ k) := by
  rw [Int.mul_assoc xi, Int.mul_left_comm (18446744073709551616 ^ i) (dg y k), Int.mul_assoc xi (dg y k)]
 rw [e]; omega
theorem cy_sum (O xi y : Int) (i k : Nat) : tk O xi y i (k + 1) / 18446744073709551616 ^ (i + k) = cy O xi y i k + dg O (i + k) + xi * dg y k := by
 rw [tk_succ, Int.add_mul_ediv_right _ _ (Int.ne_of_gt (p256 _))]; unfold cy; omega
theorem cy_succ (O xi y : Int) (i k : Nat) : cy O xi y i (k + 1) = (cy O xi y i k + dg O (i + k) + xi * dg y k) / 18446744073709551616 := by
 rw [← cy_sum]
 show tk O xi y i (k + 1) / 18446744073709551616 ^ (i + k + 1) = _
 have hp := p256 (i + k)
 rw [Int.pow_succ, Int.ediv_ediv, if_neg (by omega)]; omega
theorem mul_digit (O xi y : Int) (i k : Nat) : (cy O xi y i k + dg O (i + k) + xi * dg y k) % 18446744073709551616 = dg (O + xi * 18446744073709551616 ^ i * y) (i + k) := by
 rw [← cy_sum]
 show dg (tk O xi y i (k + 1)) (i + k) = _
 refine (dg_congr (i := i + k + 1) (O / 18446744073709551616 ^ (i + k + 1) + xi * (y / 18446744073709551616 ^ (k + 1))) ?_ (by omega)).symm
 unfold tk
 have h1 := Int.mul_ediv_add_emod O (18446744073709551616 ^ (i + k + 1))
 have h2 := Int.mul_ediv_add_emod y (18446744073709551616 ^ (k + 1))
 have e0 : i + (k + 1) = i + k + 1 := by omega
 rw [e0, Int.add_mul]
 have e1 : O / 18446744073709551616 ^ (i + k + 1) * (18446744073709551616 : Int) ^ (i + k + 1) = 18446744073709551616 ^ (i + k + 1) * (O / 18446744073709551616 ^ (i + k + 1)) := Int.mul_comm _ _
 have e2 : xi * (y / 18446744073709551616 ^ (k + 1)) * (18446744073709551616 : Int) ^ (i + k + 1) = xi * 18446744073709551616 ^ i * (18446744073709551616 ^ (k + 1) * (y / 18446744073709551616 ^ (k + 1))) := by
  rw [← e0, pow_ik i (k + 1)]
  generalize (18446744073709551616 : Int) ^ (k + 1) = K
  rw [Int.mul_assoc xi, Int.mul_assoc xi, Int.mul_left_comm (y / K) (18446744073709551616 ^ i) K, Int.mul_comm (y / K) K]
 have e3 : xi * 18446744073709551616 ^ i * y = xi * 18446744073709551616 ^ i * (18446744073709551616 ^ (k + 1) * (y / 18446744073709551616 ^ (k + 1))) + xi * 18446744073709551616 ^ i * (y % 18446744073709551616 ^ (k + 1)) := by rw [← Int.mul_add, h2]
 rw [e1, e2, e3]; omega
theorem cy_zero (O xi y : Int) (i : Nat) : cy O xi y i 0 = 0 := by
 unfold cy tk
 have hp := p256 i
 have a := Int.emod_nonneg O (Int.ne_of_gt hp)
 have a' := Int.emod_lt_of_pos O hp
 have e : y % (18446744073709551616 : Int) ^ 0 = 0 := by simp [Int.emod_one]
 rw [e]
 simp only [Nat.add_zero, Int.mul_zero, Int.add_zero]
 exact Int.ediv_eq_zero_of_lt a a'
theorem cy_range (O xi y : Int) (i k : Nat) (h0 : 0 ≤ xi) (h1 : xi < 18446744073709551616) : 0 ≤ cy O xi y i k ∧ cy O xi y i k ≤ 18446744073709551615 := by
 unfold cy tk
 have hp := p256 (i + k)
 have hi := p256 i
 have hk := p256 k
 have a := Int.emod_nonneg O (Int.ne_of_gt hp)
 have a' := Int.emod_lt_of_pos O hp
 have b := Int.emod_nonneg y (Int.ne_of_gt hk)
 have b' := Int.emod_lt_of_pos y hk
 have c : 0 ≤ xi * 18446744073709551616 ^ i * (y % 18446744073709551616 ^ k) := Int.mul_nonneg (Int.mul_nonneg h0 (Int.le_of_lt hi)) b
 have c' : xi * 18446744073709551616 ^ i * (y % 18446744073709551616 ^ k) ≤ 18446744073709551615 * 18446744073709551616 ^ (i + k) := by
  rw [pow_ik, ← Int.mul_assoc]
  exact Int.mul_le_mul (Int.mul_le_mul_of_nonneg_right (by omega) (Int.le_of_lt hi)) (by omega) b (Int.mul_nonneg (by decide) (Int.le_of_lt hi))
 refine ⟨Int.ediv_nonneg (by omega) (by omega), ?_⟩
 have : (O % 18446744073709551616 ^ (i + k) + xi * 18446744073709551616 ^ i * (y % 18446744073709551616 ^ k)) / 18446744073709551616 ^ (i + k) < 18446744073709551616 := Int.ediv_lt_of_lt_mul hp (by omega)
 omega
theorem mul_next (x y : Int) (i : Nat) : x % 18446744073709551616 ^ i * y + dg x i * 18446744073709551616 ^ i * y = x % 18446744073709551616 ^ (i + 1) * y := by rw [emod_succ, Int.add_mul]; omega
theorem mix_start (n i : Nat) (O xi y : Int) : mix n i (O + xi * 18446744073709551616 ^ i * y) O = dcells n O := by
 rw [← mix_zero n O O]
 refine fill_congr fun j _ => ?_
 by_cases h : j < i
 ·have e : dg (O + xi * 18446744073709551616 ^ i * y) j = dg O j := dg_congr (i := i) (xi * y) (by rw [Int.mul_assoc, Int.mul_comm (18446744073709551616 ^ i) y, ← Int.mul_assoc]) h
  simp [h, e]
 ·simp [h]
end Go.Proofs.Ytkmgndaholglhaa.lq.q

namespace Go.Proofs.Ytkmgndaholglhaa.lq
open Go.RowKit

def hi (v : Int) : Int := (v / 18446744073709551616 + 9223372036854775808) % 18446744073709551616 - 9223372036854775808
def lo (v : Int) : Int := v % 18446744073709551616

def bor (x y : Int) : Int := if x < y then 1 else 0
theorem mask32 (x : Int) (h0 : 0 ≤ x) (h1 : x < 18446744073709551616) : bits .and .u64 x 4294967295 = x % 4294967296 := by
 obtain ⟨n, rfl⟩ := Int.eq_ofNat_of_zero_le h0
 have h := bits_and_u64_nat n 4294967295 (by omega) (by omega)
 have e : n &&& 4294967295 = n % 4294967296 := Nat.and_two_pow_sub_one_eq_mod n 32
 rw [e] at h
 exact h.trans (by omega)
theorem half_mul (a b : Int) (a0 : 0 ≤ a) (a1 : a < 4294967296) (b0 : 0 ≤ b) (b1 : b < 4294967296) : 0 ≤ a * b ∧ a * b ≤ 18446744065119617025 := by
 refine ⟨Int.mul_nonneg a0 b0, ?_⟩
 have := Int.mul_le_mul (show a ≤ 4294967295 by omega) (show b ≤ 4294967295 by omega) b0 (by decide)
 omega
theorem school (a b c d : Int) : (a * 4294967296 + b) * (c * 4294967296 + d) = a * c * 18446744073709551616 + a * d * 4294967296 + b * c * 4294967296 + b * d := by
 have h1 : a * 4294967296 * (c * 4294967296) = a * c * (4294967296 * 4294967296) := by rw [Int.mul_assoc a, Int.mul_left_comm 4294967296 c, ← Int.mul_assoc]
 have h2 : a * 4294967296 * d = a * d * 4294967296 := by rw [Int.mul_assoc a, Int.mul_comm 4294967296 d, ← Int.mul_assoc]
 have h3 : b * (c * 4294967296) = b * c * 4294967296 := (Int.mul_assoc b c _).symm
 rw [Int.add_mul, Int.mul_add, Int.mul_add, h1, h2, h3]
 omega
theorem mul64_hi (x y : Int) (x0 : 0 ≤ x) (x1 : x < 18446744073709551616) (y0 : 0 ≤ y) (y1 : y < 18446744073709551616) :
  IntKind.u64.wrap (IntKind.u64.wrap (IntKind.u64.wrap (x / 4294967296 * (y / 4294967296)) + IntKind.u64.wrap (IntKind.u64.wrap (x / 4294967296 * bits .and .u64 y 4294967295) + IntKind.u64.wrap (bits .and .u64 x 4294967295 * bits .and .u64 y 4294967295) / 4294967296) / 4294967296) +
   IntKind.u64.wrap (bits .and .u64 (IntKind.u64.wrap (IntKind.u64.wrap (x / 4294967296 * bits .and .u64 y 4294967295) + IntKind.u64.wrap (bits .and .u64 x 4294967295 * bits .and .u64 y 4294967295) / 4294967296)) 4294967295 + IntKind.u64.wrap (bits .and .u64 x 4294967295 * (y / 4294967296))) / 4294967296) = x * y / 18446744073709551616 := by
 rw [mask32 x x0 x1, mask32 y y0 y1, mask32 (IntKind.u64.wrap _) (wrap_u64_nonneg _) (by rw [IntKind.wrap_u64]; omega)]
 have e := school (x / 4294967296) (x % 4294967296) (y / 4294967296) (y % 4294967296)
 have ex : x / 4294967296 * 4294967296 + x % 4294967296 = x := by omega
 have ey : y / 4294967296 * 4294967296 + y % 4294967296 = y := by omega
 rw [ex, ey] at e
 rw [e]
 have b1 := half_mul (x / 4294967296) (y / 4294967296) (by omega) (by omega) (by omega) (by omega)
 have b2 := half_mul (x / 4294967296) (y % 4294967296) (by omega) (by omega) (by omega) (by omega)
 have b3 := half_mul (x % 4294967296) (y / 4294967296) (by omega) (by omega) (by omega) (by omega)
 have b4 := half_mul (x % 4294967296) (y % 4294967296) (by omega) (by omega) (by omega) (by omega)
 clear e ex ey
 generalize x / 4294967296 * (y / 4294967296) = p1 at *
 generalize x / 4294967296 * (y % 4294967296) = p2 at *
 generalize x % 4294967296 * (y / 4294967296) = p3 at *
 generalize x % 4294967296 * (y % 4294967296) = p4 at *
 simp only [IntKind.wrap_u64]
 omega

theorem ret_tup2 {k l : IntKind} {a b c d : Int} (h : a = c) (h' : b = d) : Ending.returned (.tuple #[.int k a, .int l b]) = .returned (.tuple #[.int k c, .int l d]) := by rw [h, h']
def cmpI (x y : Int) : Int := if x < y then -1 else if y < x then 1 else 0
end Go.Proofs.Ytkmgndaholglhaa.lq

namespace Go.Proofs.Ytkmgndaholglhaa.lq
open Go.RowKit
set_option linter.unusedVariables false

def Wd (a a0 a1 a2 a3 : Int) : Prop := a0 = q.dg a 0 ∧ a1 = q.dg a 1 ∧ a2 = q.dg a 2 ∧ a3 = q.dg a 3
theorem wd_self (a : Int) : Wd a (q.dg a 0) (q.dg a 1) (q.dg a 2) (q.dg a 3) := ⟨rfl, rfl, rfl, rfl⟩
theorem qdg_0 (j : Nat) : q.dg 0 j = 0 := by simp [q.dg]
theorem qcells (a : Int) : q.dcells 4 a = [.int .u64 (q.dg a 0), .int .u64 (q.dg a 1), .int .u64 (q.dg a 2), .int .u64 (q.dg a 3)] := by simp [q.dcells, List.range, List.range.loop]
theorem qcells_0 : q.dcells 4 0 = [.int .u64 0, .int .u64 0, .int .u64 0, .int .u64 0] := by rw [qcells]; simp [qdg_0]
theorem row4 {w : World} {b : Nat} {v0 v1 v2 v3 : Value} (h : Row w b [v0, v1, v2, v3]) : w.cell? ⟨b, 0, none⟩ = some v0 ∧ w.cell? ⟨b, 1, none⟩ = some v1 ∧ w.cell? ⟨b, 2, none⟩ = some v2 ∧ w.cell? ⟨b, 3, none⟩ = some v3 ∧
  w.frozen? ⟨b, 0, none⟩ = false ∧ w.frozen? ⟨b, 1, none⟩ = false ∧ w.frozen? ⟨b, 2, none⟩ = false ∧ w.frozen? ⟨b, 3, none⟩ = false :=
 ⟨h.cell 0 _ rfl, h.cell 1 _ rfl, h.cell 2 _ rfl, h.cell 3 _ rfl, h.free 0 (by simp), h.free 1 (by simp), h.free 2 (by simp), h.free 3 (by simp)⟩
theorem _root_.Go.Proofs.Ytkmgndaholglhaa.Row.cells {w : World} {b : Nat} {xs ys : List Value} (h : Row w b xs) (e : xs = ys) : Row w b ys := e ▸ h
def bw (x y : Int) (i : Nat) : Int := -((x % 18446744073709551616 ^ i - y % 18446744073709551616 ^ i) / 18446744073709551616 ^ i)
theorem bw_zero (x y : Int) : bw x y 0 = 0 := by simp [bw, Int.emod_one]
theorem bw_sum (x y : Int) (i : Nat) : (x % 18446744073709551616 ^ (i + 1) - y % 18446744073709551616 ^ (i + 1)) / 18446744073709551616 ^ i = q.dg x i - q.dg y i - bw x y i := by
 rw [q.emod_succ, q.emod_succ]
 unfold bw
 have e : q.dg x i * 18446744073709551616 ^ i + x % 18446744073709551616 ^ i - (q.dg y i * 18446744073709551616 ^ i + y % 18446744073709551616 ^ i) = (x % 18446744073709551616 ^ i - y % 18446744073709551616 ^ i) + (q.dg x i - q.dg y i) * 18446744073709551616 ^ i := by rw [Int.sub_mul]; omega
 rw [e, Int.add_mul_ediv_right _ _ (Int.ne_of_gt (q.p256 i))]
 omega
theorem bw_range (x y : Int) (i : Nat) : 0 ≤ bw x y i ∧ bw x y i ≤ 1 := by
 unfold bw
 have hp := q.p256 i
 have a := Int.emod_nonneg x (Int.ne_of_gt hp)
 have a' := Int.emod_lt_of_pos x hp
 have b := Int.emod_nonneg y (Int.ne_of_gt hp)
 have b' := Int.emod_lt_of_pos y hp
 have h1 : (x % 18446744073709551616 ^ i - y % 18446744073709551616 ^ i) / 18446744073709551616 ^ i < 1 := Int.ediv_lt_of_lt_mul hp (by omega)
 have h2 : -1 ≤ (x % 18446744073709551616 ^ i - y % 18446744073709551616 ^ i) / 18446744073709551616 ^ i := Int.le_ediv_of_mul_le hp (by omega)
 omega
theorem bw_succ (x y : Int) (i : Nat) : bor (q.dg x i) (q.dg y i + bw x y i) = bw x y (i + 1) := by
 have e : bw x y (i + 1) = -((q.dg x i - q.dg y i - bw x y i) / 18446744073709551616) := by
  rw [← bw_sum]
  show -((x % 18446744073709551616 ^ (i + 1) - y % 18446744073709551616 ^ (i + 1)) / 18446744073709551616 ^ (i + 1)) = _
  have hp := q.p256 i
  rw [Int.pow_succ, Int.ediv_ediv, if_neg (by omega)]
  omega
 rw [e]
 have h := bw_range x y i
 have a := q.dg_range x i
 have b := q.dg_range y i
 unfold bor
 split <;> omega
theorem sub_digit (x y : Int) (i : Nat) : (q.dg x i - q.dg y i - bw x y i) % 18446744073709551616 = q.dg (x - y) i := by
 unfold q.dg bw
 have hp := q.p256 i
 have h1 := Int.mul_ediv_add_emod x (18446744073709551616 ^ i)
 have h2 := Int.mul_ediv_add_emod y (18446744073709551616 ^ i)
 have e : x - y = (x % 18446744073709551616 ^ i - y % 18446744073709551616 ^ i) + (x / 18446744073709551616 ^ i - y / 18446744073709551616 ^ i) * 18446744073709551616 ^ i := by
  have a1 : x / 18446744073709551616 ^ i * (18446744073709551616 : Int) ^ i = 18446744073709551616 ^ i * (x / 18446744073709551616 ^ i) := Int.mul_comm _ _
  have a2 : y / 18446744073709551616 ^ i * (18446744073709551616 : Int) ^ i = 18446744073709551616 ^ i * (y / 18446744073709551616 ^ i) := Int.mul_comm _ _
  rw [Int.sub_mul]; omega
 have e2 : (x - y) / 18446744073709551616 ^ i = (x % 18446744073709551616 ^ i - y % 18446744073709551616 ^ i) / 18446744073709551616 ^ i + (x / 18446744073709551616 ^ i - y / 18446744073709551616 ^ i) := by
  conv => lhs; rw [e]
  exact Int.add_mul_ediv_right _ _ (Int.ne_of_gt hp)
 rw [e2]
 omega
end Go.Proofs.Ytkmgndaholglhaa.lq
