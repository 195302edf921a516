/-
  What zelligeref03's Mul answers.
-/
import Derived.Test.YteoepelmapjhcaaDoorRef3D
namespace Go.Proofs.YteoepelmapjhcaaDoor
open Go.RowKit
set_option linter.unusedVariables false

/-- What holds at the head of each round of the inner loop. -/
def RMulIn (w : World) (b N lv i : Nat) (O x v : Int) (c kv : Value) (wr : World) : Prop := ∃ k : Nat, k ≤ lv ∧ kv = .int .i64 (k : Int) ∧ c = .int .i64 (hf.cy O x v i k) ∧ Own wr w.heap.size 3 (some ⟨b, 0, none⟩) N N (hf.mix N (i + k) (O + x * 65536 ^ i * v) O) ∧ Below w.heap.size w wr
theorem rmul_next {w wr : World} {b N lv i k n : Nat} {O x v t : Int} (hk : k < lv) (hN : i + lv ≤ N) (ht : t = hf.cy O x v i k + hf.dg O (i + k) + x * hf.dg v k) (hown : Own wr w.heap.size 3 (some ⟨b, 0, none⟩) N N (hf.mix N (i + k) (O + x * 65536 ^ i * v) O)) (hbel : Below w.heap.size w wr) :
    RMulIn w b N lv i O x v (.int .i64 (t / 65536)) (.int .i64 ((k : Int) + 1)) ((wr.drewN n).setCell ⟨b, i + k, none⟩ (.int .i64 (t % 65536))) := by
  have hown' : Own (wr.drewN n) w.heap.size 3 (some ⟨b, 0, none⟩) N N (hf.mix N (i + k) (O + x * 65536 ^ i * v) O) := hown
  refine ⟨k + 1, hk, by simp, by rw [ht, hf.cy_succ], ?_, (below_drewN hbel n).setCell (seg_of_own hown).2.2 _⟩
  rw [ht, hf.mul_digit, ← Nat.add_assoc, ← hf.mix_set]
  exact Own.set hown' _ (by omega)
/-- What holds at the head of each round of the outer loop. -/
def RMulOut (w : World) (b lu lv u v : Nat) (iv : Value) (wr : World) : Prop := ∃ i : Nat, i ≤ lu ∧ iv = .int .i64 (i : Int) ∧ Own wr w.heap.size 3 (some ⟨b, 0, none⟩) (lu + lv) (lu + lv) (hf.dcells (lu + lv) ((u % 65536 ^ i * v : Nat) : Int)) ∧ Below w.heap.size w wr
theorem hpart_lt {u v k lb : Nat} (hv : v < 65536 ^ lb) : u % 65536 ^ k * v < 65536 ^ (k + lb) := by
  rw [Nat.pow_add]
  exact Nat.mul_lt_mul_of_lt_of_le (Nat.mod_lt _ (hf.pow_nat k)) (Nat.le_of_lt hv) (hf.pow_nat lb)
theorem hpart_next (u v k : Nat) : ((u % 65536 ^ k * v : Nat) : Int) + hf.dg u k * 65536 ^ k * v = ((u % 65536 ^ (k + 1) * v : Nat) : Int) := by
  rw [Int.natCast_mul, Int.natCast_mul, Int.natCast_emod, Int.natCast_emod, hf.pow_cast, hf.pow_cast]
  exact hf.mul_next u v k
theorem rmul_last {w wr : World} {b lu lv u v i : Nat} {c O X : Int} (hO : O = ((u % 65536 ^ i * v : Nat) : Int)) (hX : X = hf.dg (u : Int) i) (hi : i < lu) (hv : v < 65536 ^ lv) (hc : c = hf.cy O X v i lv)
    (hown : Own wr w.heap.size 3 (some ⟨b, 0, none⟩) (lu + lv) (lu + lv) (hf.mix (lu + lv) (i + lv) (O + X * 65536 ^ i * v) O)) (hbel : Below w.heap.size w wr) :
    RMulOut w b lu lv u v (.int .i64 ((i : Int) + 1)) (wr.setCell ⟨b, i + lv, none⟩ (.int .i64 c)) := by
  subst hO hX
  refine ⟨i + 1, hi, by simp, ?_, hbel.setCell (seg_of_own hown).2.2 _⟩
  have hd := hf.mul_digit ((u % 65536 ^ i * v : Nat) : Int) (hf.dg u i) v i lv
  have h0 : hf.dg ((u % 65536 ^ i * v : Nat) : Int) (i + lv) = 0 := hf.dg_over (hpart_lt hv)
  have h1 : hf.dg (v : Int) lv = 0 := hf.dg_over hv
  have hr := hf.cy_range ((u % 65536 ^ i * v : Nat) : Int) (hf.dg u i) v i lv (hf.dg_range u i).1 (hf.dg_range u i).2
  rw [h0, h1, ← hc, Int.mul_zero] at hd
  rw [← hc] at hr
  have hc2 : c = hf.dg (((u % 65536 ^ i * v : Nat) : Int) + hf.dg u i * 65536 ^ i * v) (i + lv) := by rw [← hd]; omega
  have := Own.set hown (i := i + lv) (.int .i64 c) (by omega)
  rw [hc2, hf.mix_set] at this
  rw [hc2]
  have e : hf.mix (lu + lv) (i + lv + 1) (((u % 65536 ^ i * v : Nat) : Int) + hf.dg u i * 65536 ^ i * v) ((u % 65536 ^ i * v : Nat) : Int) = hf.dcells (lu + lv) ((u % 65536 ^ (i + 1) * v : Nat) : Int) := by
    rw [← hpart_next, ← hf.mix_full (lu + lv) (((u % 65536 ^ i * v : Nat) : Int) + hf.dg u i * 65536 ^ i * v) ((u % 65536 ^ i * v : Nat) : Int)]
    refine hf.fill_congr fun j hj => ?_
    by_cases h : j < i + lv + 1
    · simp [h, hj]
    · have z1 : hf.dg ((u % 65536 ^ i * v : Nat) : Int) j = 0 := hf.dg_over (Nat.lt_of_lt_of_le (hpart_lt hv) (Nat.pow_le_pow_right (by decide) (by omega)))
      have z2 : hf.dg (((u % 65536 ^ i * v : Nat) : Int) + hf.dg u i * 65536 ^ i * v) j = 0 := by
        rw [hpart_next]
        exact hf.dg_over (Nat.lt_of_lt_of_le (hpart_lt hv) (Nat.pow_le_pow_right (by decide) (by omega)))
      rw [z1, z2]; simp
  rw [← e]
  exact this

set_option maxRecDepth 100000 in
set_option maxHeartbeats 2000000 in
theorem rmul_any (a b : Option Addr) (ca cb u v : Nat) (w : World) (ha : Sl w a (hf.nlen u) ca (hf.dcells (hf.nlen u) (u : Int))) (hb : Sl w b (hf.nlen v) cb (hf.dcells (hf.nlen v) (v : Int))) (hlu : hf.nlen u ≤ 1000000000) (hlv : hf.nlen v ≤ 1000000000) :
    Calls Tryd.prog 17 #[.slice a (hf.nlen u) ca, .slice b (hf.nlen v) cb] w fun e w' => ∃ a' cap', e = .returned (.slice a' (hf.nlen (u * v)) cap') ∧ Own w' w.heap.size 3 a' (hf.nlen (u * v)) cap' (hf.dcells (hf.nlen (u * v)) ((u * v : Nat) : Int)) ∧ Below w.heap.size w w' := by
  obtain ⟨i0, hi0, hz0, hz1, hz2⟩ := info_parts infoInt
  have hu := hf.nlen_lt u
  have hv := hf.nlen_lt v
  obtain ⟨lu, hlu'⟩ : ∃ l, hf.nlen u = l := ⟨_, rfl⟩
  obtain ⟨lv, hlv'⟩ : ∃ l, hf.nlen v = l := ⟨_, rfl⟩
  rw [hlu'] at ha hlu hu ⊢
  rw [hlv'] at hb hlv hv ⊢
  have HM : Hid (u % 65536 ^ lu = u) := Nat.mod_eq_of_lt hu
  have HV : Hid _ := hv
  have HS : Hid (u * v < 65536 ^ (lu + lv)) := by have := hpart_lt (u := u) (k := lu) hv; rwa [HM.out] at this
  have hz0' : hf.dcells (lu + lv) 0 = List.replicate (lu + lv) (.int .i64 0) := hf.dcells_zero _
  have HZ : Hid _ := hz0'
  have hmax : lu + lv ≤ maxLen := by unfold maxLen; omega
  clear hu hv hlu' hlv' hz0'
  go_enter Tryd.func17, Tryd.ntmps17
  go_wp2_with (at_make; refine make_any _ rfl (.tmp 13) (.tmp 13) 25 rfl w.heap.size 3 i0 (.int .i64 0) Tryd.underlying25 hi0 hz0 hz1 rfl .i64 .i64 _ _ (lu + lv) rfl rfl (by simp) (by simp) (by rw [hz2]; omega) (by omega) (Nat.le_refl _) ?_; intro w1 hown hbel)
  rw [← HZ.out] at hown
  go_loopw [6] (fun iv wr => RMulOut w w.heap.size lu lv u v iv wr) (fun iv _ => lu - (intOf iv).toNat)
  case atStart => exact ⟨0, by omega, rfl, by rw [Nat.pow_zero, Nat.mod_one, Nat.zero_mul]; exact hown, hbel⟩
  case round =>
    clear hown hbel
    obtain ⟨i, hi, rfl, hown, hbel⟩ := hrel
    by_cases hlt : i < lu
    · obtain ⟨ba, oa, rfl, hba, hsa⟩ := ha.at (by omega)
      have r1 := ha.room
      obtain ⟨X, hX⟩ : ∃ X, X = hf.dg (u : Int) i := ⟨_, rfl⟩
      obtain ⟨O, hO⟩ : ∃ O, O = ((u % 65536 ^ i * v : Nat) : Int) := ⟨_, rfl⟩
      obtain ⟨x0, x1⟩ := hf.dg_range u i
      have c0 : w.cell? ⟨ba, oa + i, none⟩ = some (.int .i64 X) := by rw [hX]; exact hsa.cell i _ (hf.dcells_at _ _ _ hlt)
      rw [← hX] at x0 x1
      have HI : Hid (RMulIn w w.heap.size (lu + lv) lv i O X v (.int .i64 0) (.int .i64 0) wr) := ⟨0, by omega, rfl, by rw [hf.cy_zero], by rw [Nat.add_zero, hf.mix_start, hO]; exact hown, hbel⟩
      have HL : Hid _ := fun (wr : World) (c : Int) => rmul_last (w := w) (wr := wr) (b := w.heap.size) (c := c) hO hX hlt HV.out
      clear hown hbel hX hO
      go_wp2
      go_loopw [7, 8] (fun c kv wr => RMulIn w w.heap.size (lu + lv) lv i O X v c kv wr) (fun _ kv _ => lv - (intOf kv).toNat)
      case atStart => exact HI.out
      case round =>
        obtain ⟨k, hk, rfl, rfl, hown, hbel⟩ := hrel
        obtain ⟨f0, f1⟩ := hf.cy_range O X v i k x0 x1
        by_cases hlk : k < lv
        · obtain ⟨bb, ob, rfl, hbb, hsb⟩ := hb.at (by omega)
          have r2 := hb.room
          have c1 : wr.cell? ⟨ba, oa + i, none⟩ = some (.int .i64 X) := (hbel.cell (p := ⟨ba, oa + i, none⟩) hba).trans c0
          have c2 : wr.cell? ⟨bb, ob + k, none⟩ = some (.int .i64 (hf.dg v k)) := (hbel.cell (p := ⟨bb, ob + k, none⟩) hbb).trans (hsb.cell k _ (hf.dcells_at _ _ _ hlk))
          have c3 : wr.cell? ⟨w.heap.size, i + k, none⟩ = some (.int .i64 (hf.dg O (i + k))) := Own.cell hown _ _ (hf.mix_at _ _ _ _ _ (by omega) (Nat.le_refl _))
          have c4 : wr.frozen? ⟨w.heap.size, i + k, none⟩ = false := Own.free hown _ (by omega)
          obtain ⟨d0, d1⟩ := hf.dg_range v k
          obtain ⟨e0, e1⟩ := hf.dg_range O (i + k)
          have HN : Hid _ := fun n => rmul_next (n := n) hlk (by omega) rfl hown hbel
          obtain ⟨C, hC⟩ : ∃ C, hf.cy O X v i k = C := ⟨_, rfl⟩
          obtain ⟨Y, hY⟩ : ∃ Y, hf.dg (v : Int) k = Y := ⟨_, rfl⟩
          obtain ⟨D, hD⟩ : ∃ D, hf.dg O (i + k) = D := ⟨_, rfl⟩
          rw [hC] at f0 f1 HN ⊢
          rw [hY] at c2 d0 d1 HN
          rw [hD] at c3 e0 e1 HN
          have m0 : 0 ≤ X * Y := Int.mul_nonneg x0 d0
          have m1 : X * Y ≤ 4294836225 := by have := Int.mul_le_mul (show X ≤ 65535 by omega) (show Y ≤ 65535 by omega) d0 (by decide); omega
          clear hown hC hY hD
          go_wp2
          go_quiet (fail)
          go_wp2
          go_roundw
          case rel => exact HN.out _
          case measure => simp [intOf]; omega
        · obtain rfl : k = lv := by omega
          have c3 : wr.cell? ⟨w.heap.size, i + k, none⟩ = some (.int .i64 (hf.dg O (i + k))) := Own.cell hown _ _ (hf.mix_at _ _ _ _ _ (by omega) (Nat.le_refl _))
          have c4 : wr.frozen? ⟨w.heap.size, i + k, none⟩ = false := Own.free hown _ (by omega)
          have HN : Hid _ := HL.out wr _ rfl hown hbel
          clear hown
          go_wp2
          go_roundw
          case rel => exact HN.out
          case measure => simp [intOf]; omega
    · obtain rfl : i = lu := by omega
      rw [HM.out] at hown
      go_wp2_with (go_at_call 33; refine (rtrim_own _ _ _ (u * v) _ _ hown HS.out).mono ?_; rintro e w' ⟨rfl, hw, hown5⟩; subst hw)
      go_ret
      exact ⟨_, _, rfl, hown5, hbel⟩
end Go.Proofs.YteoepelmapjhcaaDoor
