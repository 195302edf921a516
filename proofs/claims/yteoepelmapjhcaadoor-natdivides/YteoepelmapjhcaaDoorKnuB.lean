/-
  What nat's guess answers: right, or one too high.
-/
import Derived.Test.YteoepelmapjhcaaDoorNatG
import Derived.BigQuiet
namespace Go.Proofs.YteoepelmapjhcaaDoor
open Go.RowKit
set_option linter.unusedVariables false

theorem guess_ok {N D P D2 R3 g : Nat} (hP : 0 < P) (h2 : D2 = D / P) (h3 : R3 = N / P) (hg : g < 4294967296) (hle : g * D2 ≤ R3) (hgt : 4294967296 ≤ g + 1 ∨ R3 < (g + 1) * D2) (hD2 : 4294967296 ≤ D2) (hN : N < D * 4294967296) : N / D ≤ g ∧ g ≤ N / D + 1 := by
  have hD : 0 < D := by
    rcases Nat.eq_zero_or_pos D with e | e
    · rw [e] at hN; omega
    · exact e
  have hq : N / D < 4294967296 := Nat.div_lt_of_lt_mul hN
  have hq1 : N / D * D2 ≤ R3 := by
    rw [h3, Nat.le_div_iff_mul_le hP, Nat.mul_assoc]
    refine Nat.le_trans (Nat.mul_le_mul_left _ ?_) (Nat.div_mul_le_self N D)
    rw [h2]
    exact Nat.div_mul_le_self D P
  constructor
  · refine Nat.le_of_not_lt fun h => ?_
    rcases hgt with h4 | h4
    · exact absurd (Nat.lt_of_le_of_lt h4 (Nat.lt_of_le_of_lt h hq)) (Nat.lt_irrefl _)
    · have : (g + 1) * D2 ≤ N / D * D2 := Nat.mul_le_mul_right _ h
      exact absurd (Nat.lt_of_lt_of_le h4 (Nat.le_trans this hq1)) (Nat.lt_irrefl _)
  · rcases Nat.eq_zero_or_pos g with e | e
    · rw [e]; exact Nat.zero_le _
    · obtain ⟨k, rfl⟩ : ∃ k, g = k + 1 := ⟨g - 1, by omega⟩
      refine Nat.succ_le_succ ((Nat.le_div_iff_mul_le hD).2 ?_)
      have hD3 : D < (D2 + 1) * P := by rw [h2]; have := Nat.lt_div_mul_add (a := D) hP; rw [Nat.succ_mul]; exact this
      have h5 : k * D ≤ k * ((D2 + 1) * P) := Nat.mul_le_mul_left _ (Nat.le_of_lt hD3)
      have h6 : k * ((D2 + 1) * P) ≤ (k + 1) * D2 * P := by
        rw [← Nat.mul_assoc]
        refine Nat.mul_le_mul_right _ ?_
        rw [Nat.mul_add, Nat.add_mul]
        omega
      have h7 : (k + 1) * D2 * P ≤ R3 * P := Nat.mul_le_mul_right _ hle
      have h8 : R3 * P ≤ N := by rw [h3]; exact Nat.div_mul_le_self N P
      omega
theorem two_words (D p : Nat) (h : D < 4294967296 ^ (p + 2)) (d1 d2 : Nat) (h1 : wd.dg (D : Int) (p + 1) = d1) (h2 : wd.dg (D : Int) p = d2) : d1 * 4294967296 + d2 = D / 4294967296 ^ p := by
  have e1 : ((D / 4294967296 ^ p : Nat) : Int) = (D : Int) / 4294967296 ^ p := by rw [Int.natCast_ediv, wd.pow_cast]
  have e2 : (D : Int) / 4294967296 ^ (p + 1) = ((D / 4294967296 ^ p : Nat) : Int) / 4294967296 := by
    rw [e1, Int.pow_succ, ← Int.ediv_ediv_of_nonneg (Int.le_of_lt (wd.p256 p))]
  have hl : D / 4294967296 ^ p < 18446744073709551616 := Nat.div_lt_of_lt_mul (by rw [Nat.pow_add] at h; simpa using h)
  unfold wd.dg at h1 h2
  rw [e2] at h1
  rw [← e1] at h2
  clear e1 e2 h
  generalize D / 4294967296 ^ p = X at *
  omega
theorem three_words (N p : Nat) (h : N < 4294967296 ^ (p + 3)) (r2 r1 r0 : Nat) (h2 : wd.dg (N : Int) (p + 2) = r2) (h1 : wd.dg (N : Int) (p + 1) = r1) (h0 : wd.dg (N : Int) p = r0) : (r2 * 4294967296 + r1) * 4294967296 + r0 = N / 4294967296 ^ p := by
  have e1 : ((N / 4294967296 ^ p : Nat) : Int) = (N : Int) / 4294967296 ^ p := by rw [Int.natCast_ediv, wd.pow_cast]
  have e2 : (N : Int) / 4294967296 ^ (p + 1) = ((N / 4294967296 ^ p : Nat) : Int) / 4294967296 := by
    rw [e1, Int.pow_succ, ← Int.ediv_ediv_of_nonneg (Int.le_of_lt (wd.p256 p))]
  have e3 : (N : Int) / 4294967296 ^ (p + 2) = ((N / 4294967296 ^ p : Nat) : Int) / 4294967296 / 4294967296 := by
    rw [← e2, show (4294967296 : Int) ^ (p + 2) = 4294967296 ^ (p + 1) * 4294967296 from Int.pow_succ _ _, ← Int.ediv_ediv_of_nonneg (Int.le_of_lt (wd.p256 (p + 1)))]
  have hl : N / 4294967296 ^ p < 79228162514264337593543950336 := Nat.div_lt_of_lt_mul (by rw [Nat.pow_add] at h; simpa using h)
  unfold wd.dg at h0 h1 h2
  rw [e2] at h1
  rw [e3] at h2
  rw [← e1] at h0
  clear e1 e2 e3 h
  generalize N / 4294967296 ^ p = X at *
  omega

/-- What holds at the head of each round: the guess, and what is left. -/
def GRel (H d1 D2 R3 : Nat) (t l : Value) : Prop := ∃ T L : Nat, t = .int .u64 (T : Int) ∧ l = .int .u64 (L : Int) ∧ Hid (T * d1 + L = H) ∧ L < 4294967296 ∧ T < 18446744073709551616 ∧ Hid (4294967296 ≤ T + 1 ∨ R3 < (T + 1) * D2)
theorem g_start {H d1 d2 D2 R3 r0 T L : Nat} (hD2 : d1 * 4294967296 + d2 = D2) (hR3 : H * 4294967296 + r0 = R3) (hr0 : r0 < 4294967296) (hd : 0 < d1) (hd' : d1 < 4294967296) (hH : H < 18446744073709551616) (hT : T = H / d1) (hL : L = H % d1) : GRel H d1 D2 R3 (.int .u64 (T : Int)) (.int .u64 (L : Int)) := by
  have e : T * d1 + L = H := by rw [hT, hL, Nat.mul_comm]; exact Nat.div_add_mod H d1
  have hl : L < d1 := by rw [hL]; exact Nat.mod_lt _ hd
  refine ⟨T, L, rfl, rfl, e, by omega, ?_, Or.inr ?_⟩
  · rw [hT]; exact Nat.lt_of_le_of_lt (Nat.div_le_self _ _) hH
  · rw [← hD2, Nat.add_mul, Nat.mul_add, ← Nat.mul_assoc]
    have : 0 ≤ T * d2 := Nat.zero_le _
    omega
theorem g_less {d1 d2 D2 H R3 T : Nat} (h : R3 < T * D2) : 1 ≤ T := by
  rcases Nat.eq_zero_or_pos T with e | e
  · rw [e] at h; omega
  · exact e
theorem g_over {H d1 d2 D2 R3 r0 T L : Nat} (hD2 : d1 * 4294967296 + d2 = D2) (hR3 : H * 4294967296 + r0 = R3) (h : T * d1 + L = H) (ho : L * 4294967296 + r0 < T * d2) : R3 < T * D2 := by
  rw [← hD2, Nat.mul_add, ← Nat.mul_assoc]
  omega
theorem g_under {H d1 d2 D2 R3 r0 T L : Nat} (hD2 : d1 * 4294967296 + d2 = D2) (hR3 : H * 4294967296 + r0 = R3) (h : T * d1 + L = H) (ho : T * d2 ≤ L * 4294967296 + r0) : T * D2 ≤ R3 := by
  rw [← hD2, Nat.mul_add, ← Nat.mul_assoc]
  omega

theorem g_next {H d1 D2 R3 T L : Nat} (h : T * d1 + L = H) (hT : T < 18446744073709551616) (h1 : 1 ≤ T) (hL : L + d1 < 4294967296) (ho : 4294967296 ≤ T ∨ R3 < T * D2) : GRel H d1 D2 R3 (.int .u64 ((T : Int) - 1)) (.int .u64 ((L : Int) + d1)) := by
  obtain ⟨k, rfl⟩ : ∃ k, T = k + 1 := ⟨T - 1, by omega⟩
  refine ⟨k, L + d1, by simp, by simp, ?_, hL, by omega, ho⟩
  unfold Hid
  rw [Nat.add_mul] at h
  omega
theorem g_break {H d1 d2 D2 R3 r0 k L : Nat} (hD2 : d1 * 4294967296 + d2 = D2) (hR3 : H * 4294967296 + r0 = R3) (h : (k + 1) * d1 + L = H) (hL : 4294967296 ≤ L + d1) (hd : 0 < d1) (hd2 : d2 < 4294967296) (hH : H < (d1 + 1) * 4294967296) : k < 4294967296 ∧ k * D2 ≤ R3 := by
  rw [Nat.add_mul] at h hH
  have hk : k < 4294967296 := by
    have : k * d1 < 4294967296 * d1 := by omega
    exact Nat.lt_of_mul_lt_mul_right this
  refine ⟨hk, g_under hD2 hR3 (L := L + d1) (by omega) ?_⟩
  have : k * d2 ≤ 4294967295 * 4294967295 := Nat.mul_le_mul (by omega) (by omega)
  omega
theorem g_head {N D P D2 R3 H d1 d2 r0 : Nat} (hP : 0 < P) (h2 : D2 = D / P) (h3 : R3 = N / P) (hN : N < D * 4294967296) (hD2 : d1 * 4294967296 + d2 = D2) (hd2 : d2 < 4294967296) (hR3 : H * 4294967296 + r0 = R3) : H < (d1 + 1) * 4294967296 := by
  have hD3 : D < (D2 + 1) * P := by rw [h2]; have := Nat.lt_div_mul_add (a := D) hP; rw [Nat.succ_mul]; exact this
  have h8 : R3 * P ≤ N := by rw [h3]; exact Nat.div_mul_le_self N P
  have h9 : D * 4294967296 < (D2 + 1) * 4294967296 * P := by rw [Nat.mul_right_comm]; omega
  have h10 : R3 * P < (D2 + 1) * 4294967296 * P := by omega
  have h11 : R3 < (D2 + 1) * 4294967296 := Nat.lt_of_mul_lt_mul_right h10
  omega

set_option maxRecDepth 100000 in
set_option maxHeartbeats 2000000 in
theorem guess_any (b o n cs : Nat) (yb : Option Addr) (cy N D : Nat) (w : World) (hb : b < w.heap.size) (hseg : Seg w b o (wd.dcells (n + 1) (N : Int))) (hN : N < D * 4294967296) (hcs : n + 1 ≤ cs) (hcs' : cs ≤ 1000000000000) (hy : Sl w yb n cy (wd.dcells n (D : Int))) (hD : D < 4294967296 ^ n) (hn : 2 ≤ n) (htop : 4294967296 ^ (n - 1) ≤ D) :
    Calls Tryd.prog 69 #[.slice (some ⟨b, o, none⟩) (n + 1) cs, .slice yb n cy] w fun e w' => (∃ g : Nat, e = .returned (.int .u32 (g : Int)) ∧ N / D ≤ g ∧ g ≤ N / D + 1 ∧ g < 4294967296) ∧ Below w.heap.size w w' := by
  obtain ⟨p, hp⟩ : ∃ p, n = p + 2 := ⟨n - 2, by omega⟩
  obtain ⟨q, hq⟩ : ∃ q, q = p + 1 := ⟨_, rfl⟩
  have nat_dg : ∀ (v : Int) (i : Nat), ∃ d : Nat, wd.dg v i = (d : Int) ∧ d < 4294967296 := fun v i => by
    have := wd.dg_range v i
    exact ⟨(wd.dg v i).toNat, by omega, by omega⟩
  obtain ⟨d1, hd1, d1b⟩ := nat_dg D q
  obtain ⟨d2, hd2, d2b⟩ := nat_dg D p
  obtain ⟨r2, hr2, r2b⟩ := nat_dg N n
  obtain ⟨r1, hr1, r1b⟩ := nat_dg N q
  obtain ⟨r0, hr0, r0b⟩ := nat_dg N p
  obtain ⟨D2, hD2⟩ : ∃ D2, D2 = D / 4294967296 ^ p := ⟨_, rfl⟩
  obtain ⟨R3, hR3⟩ : ∃ R3, R3 = N / 4294967296 ^ p := ⟨_, rfl⟩
  have hN3 : N < 4294967296 ^ (p + 3) := by
    have : D * 4294967296 ≤ 4294967296 ^ (p + 3) := by rw [Nat.pow_succ]; exact Nat.mul_le_mul_right _ (by rw [hp] at hD; omega)
    omega
  have eD : Hid (d1 * 4294967296 + d2 = D2) := by unfold Hid; rw [hD2]; exact two_words D p (by rw [← hp]; exact hD) d1 d2 (by rw [← hq]; exact hd1) hd2
  have eR : (r2 * 4294967296 + r1) * 4294967296 + r0 = R3 := by rw [hR3]; exact three_words N p hN3 r2 r1 r0 (by rw [← hp]; exact hr2) (by rw [← hq]; exact hr1) hr0
  have hDP : 4294967296 ≤ D2 := by
    rw [hD2, Nat.le_div_iff_mul_le (wd.pow_nat p)]
    rw [hp] at htop
    rw [Nat.mul_comm, ← Nat.pow_succ]
    exact htop
  have d1p : 0 < d1 := by have := eD.out; omega
  have HOK : Hid (∀ g, g < 4294967296 → g * D2 ≤ R3 → (4294967296 ≤ g + 1 ∨ R3 < (g + 1) * D2) → N / D ≤ g ∧ g ≤ N / D + 1) := fun g h1 h2 h3 => guess_ok (wd.pow_nat p) hD2 hR3 h1 h2 h3 hDP hN
  obtain ⟨H, hH⟩ : ∃ H, H = r2 * 4294967296 + r1 := ⟨_, rfl⟩
  rw [← hH] at eR
  have eR' : Hid _ := eR
  have HHd : Hid _ := g_head (wd.pow_nat p) hD2 hR3 hN eD.out d2b eR
  obtain ⟨T0, hT0⟩ : ∃ T, T = H / d1 := ⟨_, rfl⟩
  obtain ⟨L0, hL0⟩ : ∃ L, L = H % d1 := ⟨_, rfl⟩
  have HST : Hid _ := g_start eD.out eR r0b d1p d1b (by omega) hT0 hL0
  have E1 : (H : Int) / (d1 : Int) = (T0 : Int) := by rw [hT0, Int.natCast_ediv]
  have E2 : (H : Int) % (d1 : Int) = (L0 : Int) := by rw [hL0, Int.natCast_emod]
  have EH : bits BinOp.or IntKind.u64 ((r2 : Int) * 4294967296) r1 = (H : Int) := by rw [join_bits _ _ (by omega) (by omega) (by omega) (by omega)]; omega
  have hHb : H < 18446744073709551616 := by omega
  have hcap := hy.big
  have hroom := hy.room
  unfold maxLen at hcap
  obtain ⟨by', oy, rfl, hby, hsy⟩ := hy.at (by omega)
  have c1 := hsy.cell q _ (wd.dcells_at _ _ _ (by omega))
  have c2 := hsy.cell p _ (wd.dcells_at _ _ _ (by omega))
  have c3 := hseg.cell n _ (wd.dcells_at _ _ _ (by omega))
  have c4 := hseg.cell q _ (wd.dcells_at _ _ _ (by omega))
  have c5 := hseg.cell p _ (wd.dcells_at _ _ _ (by omega))
  rw [hd1] at c1
  rw [hd2] at c2
  rw [hr2] at c3
  rw [hr1] at c4
  rw [hr0] at c5
  have e1 : (n : Int) - 1 = (q : Int) := by omega
  have e2 : (n : Int) - 2 = (p : Int) := by omega
  have l1 : q < n := by omega
  have l2 : p < n := by omega
  obtain ⟨m, hm⟩ : ∃ m, m = n + 1 := ⟨_, rfl⟩
  have m1 : n < m := by omega
  have m2 : m ≤ cs := by omega
  rw [← hm]
  have T0b : T0 < 18446744073709551616 := by rw [hT0]; exact Nat.lt_of_le_of_lt (Nat.div_le_self _ _) hHb
  have L0b : L0 < 4294967296 := by have : L0 < d1 := by rw [hL0]; exact Nat.mod_lt _ d1p
                                   omega
  clear hm hcs hH hT0 hL0 hD2 hR3 hd1 hd2 hr2 hr1 hr0 hp hq hN3 eR hseg hy hsy htop hD hN nat_dg hDP
  go_enter Tryd.func69, Tryd.ntmps69
  go_wp2
  go_quiet (fail)
  go_wp2
  go_quiet (fail)
  go_wp2
  go_quiet (fail)
  go_wp2
  rw [E2]
  go_loopw [9, 10] (fun t l wr => GRel H d1 D2 R3 t l ∧ Below w.heap.size w wr) (fun t _ _ => (intOf t).toNat)
  case atStart =>
    refine ⟨by first | exact HST.out | (rw [E2]; exact HST.out), ?_⟩
    exact ⟨rfl, rfl, rfl, Nat.le_refl _, fun _ _ => rfl⟩
  case round =>
    obtain ⟨⟨T, L, rfl, rfl, HE, hL, hT, HG⟩, hbel⟩ := hrel
    have k5 := (hbel.cell (p := ⟨b, o + p, none⟩) hb).trans c5
    by_cases h1 : T < 4294967296
    · have f1 : (T : Int) / 4294967296 = 0 := by omega
      obtain ⟨X, hX⟩ : ∃ X, X = T * d2 := ⟨_, rfl⟩
      have hXb : X < 18446744073709551616 := by
        have : T * d2 ≤ 4294967295 * 4294967295 := Nat.mul_le_mul (by omega) (by omega)
        omega
      have f2 : (T : Int) * (d2 : Int) = (X : Int) := by rw [hX, Int.natCast_mul]
      have f3 : bits BinOp.or IntKind.u64 ((L : Int) * 4294967296) r0 = (L : Int) * 4294967296 + r0 := join_bits _ _ (by omega) (by omega) (by omega) (by omega)
      have HX : Hid _ := hX
      clear hX
      by_cases h2 : L * 4294967296 + r0 < X
      · have HO : Hid _ := g_over eD.out eR'.out HE.out (by rw [← HX.out]; exact h2)
        have h3 : 1 ≤ T := g_less (d1 := d1) (d2 := d2) (H := H) HO.out
        by_cases h5 : L + d1 < 4294967296
        · have f5 : ((L : Int) + d1) / 4294967296 = 0 := by omega
          have HN : Hid _ := g_next HE.out hT h3 h5 (Or.inr HO.out)
          go_wp2
          go_roundw
          case rel => exact ⟨HN.out, by first | exact hbel | exact hbel.drew⟩
          case measure => simp [intOf]; omega
        · have f5 : ¬ ((L : Int) + d1) / 4294967296 = 0 := by omega
          obtain ⟨k, hk⟩ : ∃ k, T = k + 1 := ⟨T - 1, by omega⟩
          have e := HE.out
          rw [hk] at e
          have hB := g_break eD.out eR'.out e (by omega) d1p d2b HHd.out
          have HF : Hid _ := HOK.out k hB.1 hB.2 (Or.inr (by have := HO.out; rw [hk] at this; exact this))
          have k1 := hB.1
          clear e hB
          have f6 : (T : Int) - 1 = (k : Int) := by omega
          clear hk
          go_wp2
          go_ret
          exact ⟨⟨k, by first | rfl | simp [f6], HF.out.1, HF.out.2, k1⟩, by first | exact hbel | exact hbel.drew⟩
      · have HU : Hid _ := g_under eD.out eR'.out HE.out (by rw [← HX.out]; omega)
        have f4 : (T : Int) % 4294967296 = T := by omega
        go_wp2
        go_ret
        exact ⟨⟨T, rfl, (HOK.out T h1 HU.out HG.out).1, (HOK.out T h1 HU.out HG.out).2, h1⟩, by first | exact hbel | exact hbel.drew⟩
    · have f1 : ¬ (T : Int) / 4294967296 = 0 := by omega
      have h3 : 1 ≤ T := by omega
      by_cases h5 : L + d1 < 4294967296
      · have f5 : ((L : Int) + d1) / 4294967296 = 0 := by omega
        have HN : Hid _ := g_next (D2 := D2) (R3 := R3) HE.out hT h3 h5 (Or.inl (by omega))
        go_wp2
        go_roundw
        case rel => exact ⟨HN.out, by first | exact hbel | exact hbel.drew⟩
        case measure => simp [intOf]; omega
      · have f5 : ¬ ((L : Int) + d1) / 4294967296 = 0 := by omega
        obtain ⟨k, hk⟩ : ∃ k, T = k + 1 := ⟨T - 1, by omega⟩
        have e := HE.out
        rw [hk] at e
        have hB := g_break eD.out eR'.out e (by omega) d1p d2b HHd.out
        have HF : Hid _ := HOK.out k hB.1 hB.2 (Or.inl (by omega))
        have k1 := hB.1
        clear e hB
        have f6 : (T : Int) - 1 = (k : Int) := by omega
        clear hk
        go_wp2
        go_ret
        exact ⟨⟨k, by first | rfl | simp [f6], HF.out.1, HF.out.2, k1⟩, by first | exact hbel | exact hbel.drew⟩
end Go.Proofs.YteoepelmapjhcaaDoor
