/-
  What nat's shiftDown and takeOff answer.
-/
import Derived.Test.YteoepelmapjhcaaDoorKnuA
import Derived.Test.YteoepelmapjhcaaDoorKnuB
namespace Go.Proofs.YteoepelmapjhcaaDoor
open Go.RowKit
set_option linter.unusedVariables false

theorem num_dg (k j : Nat) (u v : Int) (h : k ≤ j) : wd.dg (u % 4294967296 ^ k + v / 4294967296 ^ k * 4294967296 ^ k) j = wd.dg v j := by
  have hp := wd.p256 k
  have e : (u % 4294967296 ^ k + v / 4294967296 ^ k * 4294967296 ^ k) / 4294967296 ^ k = v / 4294967296 ^ k := by
    rw [Int.add_mul_ediv_right _ _ (Int.ne_of_gt hp), Int.ediv_eq_zero_of_lt (Int.emod_nonneg _ (Int.ne_of_gt hp)) (Int.emod_lt_of_pos _ hp), Int.zero_add]
  have e2 : ∀ x : Int, x / 4294967296 ^ j = x / 4294967296 ^ k / 4294967296 ^ (j - k) := fun x => by
    rw [Int.ediv_ediv_of_nonneg (Int.le_of_lt hp), ← Int.pow_add, show k + (j - k) = j by omega]
  unfold wd.dg
  rw [e2 (u % 4294967296 ^ k + v / 4294967296 ^ k * 4294967296 ^ k), e, ← e2]
/-- The digits of u up to k, then those of v, are a number's. -/
theorem mix_num (n k : Nat) (u v : Int) : wd.mix n k u v = wd.dcells n (u % 4294967296 ^ k + v / 4294967296 ^ k * 4294967296 ^ k) := by
  have hp := wd.p256 k
  refine List.ext_getElem? fun j => ?_
  by_cases hj : j < n
  · unfold wd.mix
    rw [wd.fill_at _ _ _ _ _ hj, wd.dcells_at _ _ _ hj]
    by_cases hk : j < k
    · rw [if_pos (by simpa using hk), wd.dg_congr (u := u % 4294967296 ^ k + v / 4294967296 ^ k * 4294967296 ^ k) (v := u) (v / 4294967296 ^ k - u / 4294967296 ^ k) ?_ hk]
      have := Int.mul_ediv_add_emod u (4294967296 ^ k)
      rw [Int.sub_mul, Int.mul_comm (u / 4294967296 ^ k)]
      omega
    · rw [if_neg (by simpa using hk), num_dg _ _ _ _ (by omega)]
  · rw [List.getElem?_eq_none (by rw [wd.mix_length]; omega), List.getElem?_eq_none (by rw [wd.dcells_length]; omega)]
theorem mix_nat (n k u v : Nat) (hk : k ≤ n) (hv : v < 4294967296 ^ n) : ∃ Z : Nat, wd.mix n k (u : Int) (v : Int) = wd.dcells n (Z : Int) ∧ Z < 4294967296 ^ n ∧ wd.dg (Z : Int) (k + 1) = wd.dg (v : Int) (k + 1) := by
  have e : ((u % 4294967296 ^ k + v / 4294967296 ^ k * 4294967296 ^ k : Nat) : Int) = (u : Int) % 4294967296 ^ k + (v : Int) / 4294967296 ^ k * 4294967296 ^ k := by
    rw [Int.natCast_add, Int.natCast_emod, Int.natCast_mul, Int.natCast_ediv, wd.pow_cast]
  refine ⟨u % 4294967296 ^ k + v / 4294967296 ^ k * 4294967296 ^ k, by rw [mix_num, e], ?_, by rw [e, num_dg _ _ _ _ (by omega)]⟩
  have hp := wd.pow_nat k
  have h1 : v / 4294967296 ^ k < 4294967296 ^ (n - k) := Nat.div_lt_of_lt_mul (by rw [← Nat.pow_add, show k + (n - k) = n by omega]; exact hv)
  have h2 : (v / 4294967296 ^ k + 1) * 4294967296 ^ k ≤ 4294967296 ^ n := by
    have := Nat.mul_le_mul_right (4294967296 ^ k) (show v / 4294967296 ^ k + 1 ≤ 4294967296 ^ (n - k) by omega)
    rwa [← Nat.pow_add, show n - k + k = n by omega] at this
  have h3 := Nat.mod_lt u hp
  rw [Nat.add_mul] at h2
  omega

theorem down_digit (R x t : Int) (k : Nat) (hx : 0 < x) (ht : 0 < t) (hxt : x * t = 4294967296) : (wd.dg R (k + 1) * 4294967296 + wd.dg R k) / x % 4294967296 = wd.dg (R / x) k := by
  have hp := wd.p256 k
  unfold wd.dg
  have e1 : R / 4294967296 ^ (k + 1) = R / 4294967296 ^ k / 4294967296 := by rw [Int.pow_succ, ← Int.ediv_ediv_of_nonneg (Int.le_of_lt hp)]
  have e2 : R / x / 4294967296 ^ k = R / 4294967296 ^ k / x := by rw [Int.ediv_ediv_of_nonneg (Int.le_of_lt hx), Int.mul_comm, ← Int.ediv_ediv_of_nonneg (Int.le_of_lt hp)]
  rw [e1, e2]
  generalize R / 4294967296 ^ k = Z
  -- Z = Y * B^2 + (z1 * B + z0)
  have e3 : Z = (Z / 4294967296 % 4294967296 * 4294967296 + Z % 4294967296) + (Z / 4294967296 / 4294967296 * t * 4294967296) * x := by
    have : Z / 4294967296 / 4294967296 * t * 4294967296 * x = Z / 4294967296 / 4294967296 * (x * t) * 4294967296 := by
      rw [Int.mul_assoc, Int.mul_assoc, Int.mul_assoc, Int.mul_comm x t, Int.mul_assoc, Int.mul_comm 4294967296 x]
    rw [this, hxt]
    omega
  have e4 : Z / x = (Z / 4294967296 % 4294967296 * 4294967296 + Z % 4294967296) / x + Z / 4294967296 / 4294967296 * t * 4294967296 := by
    conv => lhs; rw [e3]
    rw [Int.add_mul_ediv_right _ _ (Int.ne_of_gt hx)]
  rw [e4]
  omega

/-- What holds at the head of each round of shiftDown. -/
def DownRel (w : World) (R : Int) (x b l cap base : Nat) (i : Value) (wr : World) : Prop := ∃ k : Nat, k ≤ l ∧ i = .int .i64 (k : Int) ∧ Own wr base 44 (some ⟨b, 0, none⟩) l cap (wd.mix l k (R / x) R) ∧ Wr w wr b 0 l
theorem down_next (w wr : World) (R : Int) (x t b l cap base k : Nat) (hx : 0 < x) (ht : 0 < t) (hxt : x * t = 4294967296) (hk : k < l) (hown : Own wr base 44 (some ⟨b, 0, none⟩) l cap (wd.mix l k (R / x) R)) (hw : Wr w wr b 0 l) {z : Int} (hz : z = wd.dg R (k + 1) * 4294967296 + wd.dg R k) :
    DownRel w R x b l cap base (.int .i64 ((k : Int) + 1)) (wr.setCell ⟨b, k, none⟩ (.int .u32 (z / x % 4294967296))) := by
  subst hz
  refine ⟨k + 1, by omega, by simp, ?_, hw.set _ (Nat.zero_le _) hk⟩
  rw [down_digit R x t k (by omega) (by omega) (by omega), ← wd.mix_set]
  exact Own.set hown _ hk

set_option maxRecDepth 100000 in
set_option maxHeartbeats 1000000 in
theorem shiftDown_any (b l cap R s base : Nat) (w : World) (hown : Own w base 44 (some ⟨b, 0, none⟩) l cap (wd.dcells l (R : Int))) (hR : R < 4294967296 ^ l) (hs : s < 32) :
    Calls Tryd.prog 58 #[.slice (some ⟨b, 0, none⟩) l cap, .int .i64 (s : Int)] w fun e w' => e = .returned (.tuple #[]) ∧ Own w' base 44 (some ⟨b, 0, none⟩) l cap (wd.dcells l ((R / 2 ^ s : Nat) : Int)) ∧ Wr w w' b 0 l := by
  obtain ⟨x, hx⟩ : ∃ x : Nat, x = 2 ^ s := ⟨_, rfl⟩
  obtain ⟨t, ht⟩ : ∃ t : Nat, t = 2 ^ (32 - s) := ⟨_, rfl⟩
  have x0 : 0 < x := by rw [hx]; exact Nat.pow_pos (by decide)
  have t0 : 0 < t := by rw [ht]; exact Nat.pow_pos (by decide)
  have hxt : x * t = 4294967296 := by rw [hx, ht, ← Nat.pow_add, show s + (32 - s) = 32 by omega]
  have x1 : x ≤ 2147483648 := by rw [hx]; exact Nat.le_trans (Nat.pow_le_pow_right (by decide) (show s ≤ 31 by omega)) (by decide)
  have fX : (2 : Int) ^ s = (x : Int) := by rw [hx, Int.natCast_pow]; rfl
  have HX : Hid _ := hx
  have HT : Hid _ := hxt
  have hcap := hown.sl.big
  have hroom := hown.sl.room
  unfold maxLen at hcap
  clear hx ht hxt
  go_enter Tryd.func58, Tryd.ntmps58
  go_wp2
  go_loopw [8] (fun i wr => DownRel w R x b l cap base i wr) (fun i _ => l - (intOf i).toNat)
  case atStart => exact ⟨0, by omega, rfl, by rw [wd.mix_zero]; exact hown, Wr.refl _ _ _ _⟩
  case round =>
    clear hown
    obtain ⟨k, hk, rfl, hown, hwr⟩ := hrel
    by_cases hlt : k < l
    · have c3 : wr.cell? ⟨b, k, none⟩ = some (.int .u32 (wd.dg R k)) := Own.cell hown k _ (wd.mix_at _ _ _ _ _ (by omega) (by omega))
      have c4 : wr.frozen? ⟨b, k, none⟩ = false := Own.free hown k (by omega)
      obtain ⟨d0, d1⟩ := wd.dg_range R k
      obtain ⟨e0, e1⟩ := wd.dg_range R (k + 1)
      have HN : Hid _ := fun n z hz => down_next w (wr.drewN n) R x t b l cap base k x0 t0 HT.out hlt hown (hwr.drewN n) (z := z) hz
      -- the slice as a number
      obtain ⟨Z, hZ, hZl, hZd⟩ := mix_nat l k (R / x) R hk hR
      rw [Int.natCast_ediv] at hZ
      have hs3 := Own.sl hown
      rw [hZ] at hs3
      have HB := join_bits _ _ e0 e1 d0 d1
      obtain ⟨z, hz⟩ : ∃ z, z = wd.dg R (k + 1) * 4294967296 + wd.dg R k := ⟨_, rfl⟩
      have z0 : 0 ≤ z := by omega
      have z1 : z < 18446744073709551616 := by omega
      have HN : Hid _ := fun n => HN.out n z hz
      rw [← hz] at HB
      clear hown hZ hz
      have HW : Hid (∀ n, Calls Tryd.prog 36 #[.slice (some ⟨b, 0, none⟩) l cap, .int .i64 ((k : Int) + 1)] (wr.drewN n) fun e w'' => e = .returned (.int .u32 (wd.dg R (k + 1))) ∧ ∃ m, w'' = wr.drewN m) := fun n => by
        have h := wordAt_any (some ⟨b, 0, none⟩) l cap Z (k + 1) (iv := (k : Int) + 1) (wr.drewN n) (hs3.below ⟨rfl, rfl, rfl, Nat.le_refl _, fun _ _ => rfl⟩) hZl (by omega)
        rw [hZd] at h
        refine h.mono ?_
        rintro e w' ⟨rfl, hw⟩
        exact ⟨rfl, n, hw.symm⟩
      go_wp2
      go_quiet (first | (go_at_call 36; exact HW.out _))
      go_wp2
      go_roundw
      case rel => exact HN.out _
      case measure => simp [intOf]; omega
    · obtain rfl : k = l := by omega
      rw [wd.mix_full] at hown
      go_wp2
      go_end0
      refine ⟨rfl, ?_, hwr⟩
      rw [← HX.out, Int.natCast_ediv]
      exact hown

theorem off_neg {N D g q : Nat} (h1 : q ≤ g) (h2 : g ≤ q + 1) (hD : 0 < D) (hq : q = N / D) (h : (N : Int) < (g : Int) * D) : g = q + 1 ∧ (N : Int) - (g : Int) * D + D = ((N % D : Nat) : Int) := by
  have hd := Nat.div_add_mod N D
  rw [← hq] at hd
  have hg : g = q + 1 := by
    rcases Nat.lt_or_ge q g with h3 | h3
    · omega
    · have : g = q := by omega
      subst this
      exfalso
      have e : (g : Int) * D = ((D * g : Nat) : Int) := by rw [Int.natCast_mul, Int.mul_comm]
      rw [e] at h
      omega
  refine ⟨hg, ?_⟩
  subst hg
  have e : ((q + 1 : Nat) : Int) * D = ((D * q : Nat) : Int) + D := by
    rw [Int.natCast_mul, Int.natCast_add, Int.add_mul, Int.mul_comm (q : Int)]
    simp
  rw [e]
  omega
theorem off_pos {N D g q : Nat} (h1 : q ≤ g) (hD : 0 < D) (hq : q = N / D) (h : ¬ (N : Int) < (g : Int) * D) : g = q ∧ (N : Int) - (g : Int) * D = ((N % D : Nat) : Int) := by
  have hd := Nat.div_add_mod N D
  have hgN : g * D ≤ N := by
    have e : (g : Int) * D = ((g * D : Nat) : Int) := by rw [Int.natCast_mul]
    rw [e] at h
    omega
  have hg : g = q := by
    have := (Nat.le_div_iff_mul_le hD).2 hgN
    omega
  refine ⟨hg, ?_⟩
  subst hg
  rw [← hq] at hd
  have e : (g : Int) * D = ((D * g : Nat) : Int) := by rw [Int.natCast_mul, Int.mul_comm]
  rw [e]
  omega

set_option maxRecDepth 100000 in
set_option maxHeartbeats 1000000 in
theorem takeOff_any (b o n cs : Nat) (yb : Option Addr) (cy N D : Nat) (w : World) (hb : b < w.heap.size) (hseg : Seg w b o (wd.dcells (n + 1) (N : Int))) (hN : N < D * 4294967296) (hcs : n + 1 ≤ cs) (hcs' : cs ≤ 1000000000000) (hy : Sl w yb n cy (wd.dcells n (D : Int))) (hD : D < 4294967296 ^ n) (hn : 2 ≤ n) (htop : 4294967296 ^ (n - 1) ≤ D) (hne : ∀ o, yb ≠ some ⟨b, o, none⟩) :
    Calls Tryd.prog 57 #[.slice (some ⟨b, o, none⟩) (n + 1) cs, .slice yb n cy] w fun e w' => e = .returned (.int .u32 ((N / D : Nat) : Int)) ∧ Seg w' b o (wd.dcells (n + 1) ((N % D : Nat) : Int)) ∧ Wr w w' b o (o + (n + 1)) := by
  have hD0 : 0 < D := Nat.lt_of_lt_of_le (wd.pow_nat _) htop
  have hN3 : Hid (N < 4294967296 ^ (n + 1)) := by
    unfold Hid
    have : D * 4294967296 ≤ 4294967296 ^ (n + 1) := by rw [Nat.pow_succ]; exact Nat.mul_le_mul_right _ (by omega)
    omega
  obtain ⟨q, hq⟩ : ∃ q, q = N / D := ⟨_, rfl⟩
  have HQ : Hid _ := hq
  have HG : Hid _ := fun w0 hb h1 h2 => guess_any b o n cs yb cy N D w0 hb h1 hN hcs hcs' h2 hD hn htop
  have HS : Hid _ := fun w0 (g : Nat) h1 h2 g1 => subTimes_any b o n cs yb cy N D (g : Int) w0 h1 hN3.out hcs hcs' h2 hD hne (by omega) g1
  have HA : Hid _ := fun w0 M h1 h2 => addBack_any b o n cs yb cy D M w0 h1 hcs hcs' h2 hD hne
  have HSeg : Hid _ := hseg
  have HSl : Hid _ := hy
  rw [← hq]
  clear hq hcs hD hN htop hseg
  go_enter Tryd.func57, Tryd.ntmps57
  go_wp2_with (go_at_call 69; refine (HG.out _ hb HSeg.out hy).mono ?_; rintro e w1 ⟨⟨g, rfl, g1, g2, g3⟩, hbel1⟩; have s1 := Seg.below HSeg.out hbel1 hb; have y1 := hy.below hbel1; have HL : Hid _ := hbel1)
  have hWr1 : Wr w w1 b o (o + (n + 1)) := (Wr.refl w b o (o + (n + 1))).below hbel1 hb
  by_cases hlt : (N : Int) < (g : Int) * D
  · obtain ⟨hg, HE⟩ := off_neg (by rw [HQ.out]; exact g1) (by rw [HQ.out]; exact g2) hD0 HQ.out hlt
    have HE : Hid _ := HE
    have hg' : (g : Int) - 1 = (q : Int) := by omega
    have HGq : Hid _ := hg
    clear hg g1 g2
    go_wp2_with (first
      | (go_at_call 70; refine (HS.out _ g s1 y1 (by omega)).mono ?_; rintro e w2 ⟨rfl, s2, wr2⟩; have y2 := wr2.sl y1 hne)
      | (go_at_call 71; refine (HA.out _ _ s2 y2).mono ?_; rintro e w3 ⟨rfl, s3, wr3⟩))
    go_ret
    rw [HE.out] at s3
    exact ⟨rfl, s3, (hWr1.trans wr2).trans wr3⟩
  · obtain ⟨hg, HE⟩ := off_pos (by rw [HQ.out]; exact g1) hD0 HQ.out hlt
    have HE : Hid _ := HE
    subst hg
    go_wp2_with (first
      | (go_at_call 70; refine (HS.out _ g s1 y1 (by omega)).mono ?_; rintro e w2 ⟨rfl, s2, wr2⟩; have y2 := wr2.sl y1 hne))
    go_ret
    rw [HE.out] at s2
    exact ⟨rfl, s2, hWr1.trans wr2⟩
end Go.Proofs.YteoepelmapjhcaaDoor
