/-
  Joined texts, part 5:
  What nat's guess answers: right, or one too high.
  What nat's shiftDown and takeOff answer.
  What nat's divideLong answers, and DivMod where the divisor has two words at least.
  What nat's DivMod answers.
  What nat answers, with letters for the lengths: the contracts of the other texts, said once more for those who call nat.
  What nat's gcdSmall and restOf answer.
  What nat's headAt and small answer.
  What nat's between answers.
  The mathematics of foreseen divisions (Lehmer's, by Collins' condition): what the heads of two numbers tell of the numbers. It imports nothing of the program.
-/
import Derived.Test.YtjdphcdpgjdmkaaDoorP4
import Derived.Test.YtjdphcdpgjdmkaaDoorP3
import Derived.BigQuiet
import Derived.Test.YtjdphcdpgjdmkaaDoorP1
namespace Go.Proofs.YtjdphcdpgjdmkaaDoor
open Go.RowKit
set_option linter.unusedVariables false

theorem guess_ok {N D P D2 R3 g : Nat} (hP : 0 < P) (h2 : D2 = D / P) (h3 : R3 = N / P) (hg : g < 4294967296) (hle : g * D2 ≤ R3) (hgt : 4294967296 ≤ g + 1 ∨ R3 < (g + 1) * D2) (hD2 : 4294967296 ≤ D2) (hN : N < D * 4294967296) : N / D ≤ g ∧ g ≤ N / D + 1 := by
  have hD : 0 < D := by
    rcases Nat.eq_zero_or_pos D with e | e
    · rw [e] at hN; omega
    · exact e
  have hq : N / D < 4294967296 := Nat.div_lt_of_lt_mul hN
  have hq1 : N / D * D2 ≤ R3 := by
    rw [h3, Nat.le_div_iff_mul_le hP, Nat.mul_assoc]
    refine Nat.le_trans (Nat.mul_le_mul_left _ ?_) (Nat.div_mul_le_self N D)
    rw [h2]
    exact Nat.div_mul_le_self D P
  constructor
  · refine Nat.le_of_not_lt fun h => ?_
    rcases hgt with h4 | h4
    · exact absurd (Nat.lt_of_le_of_lt h4 (Nat.lt_of_le_of_lt h hq)) (Nat.lt_irrefl _)
    · have : (g + 1) * D2 ≤ N / D * D2 := Nat.mul_le_mul_right _ h
      exact absurd (Nat.lt_of_lt_of_le h4 (Nat.le_trans this hq1)) (Nat.lt_irrefl _)
  · rcases Nat.eq_zero_or_pos g with e | e
    · rw [e]; exact Nat.zero_le _
    · obtain ⟨k, rfl⟩ : ∃ k, g = k + 1 := ⟨g - 1, by omega⟩
      refine Nat.succ_le_succ ((Nat.le_div_iff_mul_le hD).2 ?_)
      have hD3 : D < (D2 + 1) * P := by rw [h2]; have := Nat.lt_div_mul_add (a := D) hP; rw [Nat.succ_mul]; exact this
      have h5 : k * D ≤ k * ((D2 + 1) * P) := Nat.mul_le_mul_left _ (Nat.le_of_lt hD3)
      have h6 : k * ((D2 + 1) * P) ≤ (k + 1) * D2 * P := by
        rw [← Nat.mul_assoc]
        refine Nat.mul_le_mul_right _ ?_
        rw [Nat.mul_add, Nat.add_mul]
        omega
      have h7 : (k + 1) * D2 * P ≤ R3 * P := Nat.mul_le_mul_right _ hle
      have h8 : R3 * P ≤ N := by rw [h3]; exact Nat.div_mul_le_self N P
      omega
theorem two_words (D p : Nat) (h : D < 4294967296 ^ (p + 2)) (d1 d2 : Nat) (h1 : wd.dg (D : Int) (p + 1) = d1) (h2 : wd.dg (D : Int) p = d2) : d1 * 4294967296 + d2 = D / 4294967296 ^ p := by
  have e1 : ((D / 4294967296 ^ p : Nat) : Int) = (D : Int) / 4294967296 ^ p := by rw [Int.natCast_ediv, wd.pow_cast]
  have e2 : (D : Int) / 4294967296 ^ (p + 1) = ((D / 4294967296 ^ p : Nat) : Int) / 4294967296 := by
    rw [e1, Int.pow_succ, ← Int.ediv_ediv_of_nonneg (Int.le_of_lt (wd.p256 p))]
  have hl : D / 4294967296 ^ p < 18446744073709551616 := Nat.div_lt_of_lt_mul (by rw [Nat.pow_add] at h; simpa using h)
  unfold wd.dg at h1 h2
  rw [e2] at h1
  rw [← e1] at h2
  clear e1 e2 h
  generalize D / 4294967296 ^ p = X at *
  omega
theorem three_words (N p : Nat) (h : N < 4294967296 ^ (p + 3)) (r2 r1 r0 : Nat) (h2 : wd.dg (N : Int) (p + 2) = r2) (h1 : wd.dg (N : Int) (p + 1) = r1) (h0 : wd.dg (N : Int) p = r0) : (r2 * 4294967296 + r1) * 4294967296 + r0 = N / 4294967296 ^ p := by
  have e1 : ((N / 4294967296 ^ p : Nat) : Int) = (N : Int) / 4294967296 ^ p := by rw [Int.natCast_ediv, wd.pow_cast]
  have e2 : (N : Int) / 4294967296 ^ (p + 1) = ((N / 4294967296 ^ p : Nat) : Int) / 4294967296 := by
    rw [e1, Int.pow_succ, ← Int.ediv_ediv_of_nonneg (Int.le_of_lt (wd.p256 p))]
  have e3 : (N : Int) / 4294967296 ^ (p + 2) = ((N / 4294967296 ^ p : Nat) : Int) / 4294967296 / 4294967296 := by
    rw [← e2, show (4294967296 : Int) ^ (p + 2) = 4294967296 ^ (p + 1) * 4294967296 from Int.pow_succ _ _, ← Int.ediv_ediv_of_nonneg (Int.le_of_lt (wd.p256 (p + 1)))]
  have hl : N / 4294967296 ^ p < 79228162514264337593543950336 := Nat.div_lt_of_lt_mul (by rw [Nat.pow_add] at h; simpa using h)
  unfold wd.dg at h0 h1 h2
  rw [e2] at h1
  rw [e3] at h2
  rw [← e1] at h0
  clear e1 e2 e3 h
  generalize N / 4294967296 ^ p = X at *
  omega

/-- What holds at the head of each round: the guess, and what is left. -/
def GRel (H d1 D2 R3 : Nat) (t l : Value) : Prop := ∃ T L : Nat, t = .int .u64 (T : Int) ∧ l = .int .u64 (L : Int) ∧ Hid (T * d1 + L = H) ∧ L < 4294967296 ∧ T < 18446744073709551616 ∧ Hid (4294967296 ≤ T + 1 ∨ R3 < (T + 1) * D2)
theorem g_start {H d1 d2 D2 R3 r0 T L : Nat} (hD2 : d1 * 4294967296 + d2 = D2) (hR3 : H * 4294967296 + r0 = R3) (hr0 : r0 < 4294967296) (hd : 0 < d1) (hd' : d1 < 4294967296) (hH : H < 18446744073709551616) (hT : T = H / d1) (hL : L = H % d1) : GRel H d1 D2 R3 (.int .u64 (T : Int)) (.int .u64 (L : Int)) := by
  have e : T * d1 + L = H := by rw [hT, hL, Nat.mul_comm]; exact Nat.div_add_mod H d1
  have hl : L < d1 := by rw [hL]; exact Nat.mod_lt _ hd
  refine ⟨T, L, rfl, rfl, e, by omega, ?_, Or.inr ?_⟩
  · rw [hT]; exact Nat.lt_of_le_of_lt (Nat.div_le_self _ _) hH
  · rw [← hD2, Nat.add_mul, Nat.mul_add, ← Nat.mul_assoc]
    have : 0 ≤ T * d2 := Nat.zero_le _
    omega
theorem g_less {d1 d2 D2 H R3 T : Nat} (h : R3 < T * D2) : 1 ≤ T := by
  rcases Nat.eq_zero_or_pos T with e | e
  · rw [e] at h; omega
  · exact e
theorem g_over {H d1 d2 D2 R3 r0 T L : Nat} (hD2 : d1 * 4294967296 + d2 = D2) (hR3 : H * 4294967296 + r0 = R3) (h : T * d1 + L = H) (ho : L * 4294967296 + r0 < T * d2) : R3 < T * D2 := by
  rw [← hD2, Nat.mul_add, ← Nat.mul_assoc]
  omega
theorem g_under {H d1 d2 D2 R3 r0 T L : Nat} (hD2 : d1 * 4294967296 + d2 = D2) (hR3 : H * 4294967296 + r0 = R3) (h : T * d1 + L = H) (ho : T * d2 ≤ L * 4294967296 + r0) : T * D2 ≤ R3 := by
  rw [← hD2, Nat.mul_add, ← Nat.mul_assoc]
  omega

theorem g_next {H d1 D2 R3 T L : Nat} (h : T * d1 + L = H) (hT : T < 18446744073709551616) (h1 : 1 ≤ T) (hL : L + d1 < 4294967296) (ho : 4294967296 ≤ T ∨ R3 < T * D2) : GRel H d1 D2 R3 (.int .u64 ((T : Int) - 1)) (.int .u64 ((L : Int) + d1)) := by
  obtain ⟨k, rfl⟩ : ∃ k, T = k + 1 := ⟨T - 1, by omega⟩
  refine ⟨k, L + d1, by simp, by simp, ?_, hL, by omega, ho⟩
  unfold Hid
  rw [Nat.add_mul] at h
  omega
theorem g_break {H d1 d2 D2 R3 r0 k L : Nat} (hD2 : d1 * 4294967296 + d2 = D2) (hR3 : H * 4294967296 + r0 = R3) (h : (k + 1) * d1 + L = H) (hL : 4294967296 ≤ L + d1) (hd : 0 < d1) (hd2 : d2 < 4294967296) (hH : H < (d1 + 1) * 4294967296) : k < 4294967296 ∧ k * D2 ≤ R3 := by
  rw [Nat.add_mul] at h hH
  have hk : k < 4294967296 := by
    have : k * d1 < 4294967296 * d1 := by omega
    exact Nat.lt_of_mul_lt_mul_right this
  refine ⟨hk, g_under hD2 hR3 (L := L + d1) (by omega) ?_⟩
  have : k * d2 ≤ 4294967295 * 4294967295 := Nat.mul_le_mul (by omega) (by omega)
  omega
theorem g_head {N D P D2 R3 H d1 d2 r0 : Nat} (hP : 0 < P) (h2 : D2 = D / P) (h3 : R3 = N / P) (hN : N < D * 4294967296) (hD2 : d1 * 4294967296 + d2 = D2) (hd2 : d2 < 4294967296) (hR3 : H * 4294967296 + r0 = R3) : H < (d1 + 1) * 4294967296 := by
  have hD3 : D < (D2 + 1) * P := by rw [h2]; have := Nat.lt_div_mul_add (a := D) hP; rw [Nat.succ_mul]; exact this
  have h8 : R3 * P ≤ N := by rw [h3]; exact Nat.div_mul_le_self N P
  have h9 : D * 4294967296 < (D2 + 1) * 4294967296 * P := by rw [Nat.mul_right_comm]; omega
  have h10 : R3 * P < (D2 + 1) * 4294967296 * P := by omega
  have h11 : R3 < (D2 + 1) * 4294967296 := Nat.lt_of_mul_lt_mul_right h10
  omega

set_option maxRecDepth 100000 in
set_option maxHeartbeats 2000000 in
theorem guess_any (b o n cs : Nat) (yb : Option Addr) (cy N D : Nat) (w : World) (hb : b < w.heap.size) (hseg : Seg w b o (wd.dcells (n + 1) (N : Int))) (hN : N < D * 4294967296) (hcs : n + 1 ≤ cs) (hcs' : cs ≤ 1000000000000) (hy : Sl w yb n cy (wd.dcells n (D : Int))) (hD : D < 4294967296 ^ n) (hn : 2 ≤ n) (htop : 4294967296 ^ (n - 1) ≤ D) :
    Calls Tryd.prog 55 #[.slice (some ⟨b, o, none⟩) (n + 1) cs, .slice yb n cy] w fun e w' => (∃ g : Nat, e = .returned (.int .u32 (g : Int)) ∧ N / D ≤ g ∧ g ≤ N / D + 1 ∧ g < 4294967296) ∧ Below w.heap.size w w' := by
  obtain ⟨p, hp⟩ : ∃ p, n = p + 2 := ⟨n - 2, by omega⟩
  obtain ⟨q, hq⟩ : ∃ q, q = p + 1 := ⟨_, rfl⟩
  have nat_dg : ∀ (v : Int) (i : Nat), ∃ d : Nat, wd.dg v i = (d : Int) ∧ d < 4294967296 := fun v i => by
    have := wd.dg_range v i
    exact ⟨(wd.dg v i).toNat, by omega, by omega⟩
  obtain ⟨d1, hd1, d1b⟩ := nat_dg D q
  obtain ⟨d2, hd2, d2b⟩ := nat_dg D p
  obtain ⟨r2, hr2, r2b⟩ := nat_dg N n
  obtain ⟨r1, hr1, r1b⟩ := nat_dg N q
  obtain ⟨r0, hr0, r0b⟩ := nat_dg N p
  obtain ⟨D2, hD2⟩ : ∃ D2, D2 = D / 4294967296 ^ p := ⟨_, rfl⟩
  obtain ⟨R3, hR3⟩ : ∃ R3, R3 = N / 4294967296 ^ p := ⟨_, rfl⟩
  have hN3 : N < 4294967296 ^ (p + 3) := by
    have : D * 4294967296 ≤ 4294967296 ^ (p + 3) := by rw [Nat.pow_succ]; exact Nat.mul_le_mul_right _ (by rw [hp] at hD; omega)
    omega
  have eD : Hid (d1 * 4294967296 + d2 = D2) := by unfold Hid; rw [hD2]; exact two_words D p (by rw [← hp]; exact hD) d1 d2 (by rw [← hq]; exact hd1) hd2
  have eR : (r2 * 4294967296 + r1) * 4294967296 + r0 = R3 := by rw [hR3]; exact three_words N p hN3 r2 r1 r0 (by rw [← hp]; exact hr2) (by rw [← hq]; exact hr1) hr0
  have hDP : 4294967296 ≤ D2 := by
    rw [hD2, Nat.le_div_iff_mul_le (wd.pow_nat p)]
    rw [hp] at htop
    rw [Nat.mul_comm, ← Nat.pow_succ]
    exact htop
  have d1p : 0 < d1 := by have := eD.out; omega
  have HOK : Hid (∀ g, g < 4294967296 → g * D2 ≤ R3 → (4294967296 ≤ g + 1 ∨ R3 < (g + 1) * D2) → N / D ≤ g ∧ g ≤ N / D + 1) := fun g h1 h2 h3 => guess_ok (wd.pow_nat p) hD2 hR3 h1 h2 h3 hDP hN
  obtain ⟨H, hH⟩ : ∃ H, H = r2 * 4294967296 + r1 := ⟨_, rfl⟩
  rw [← hH] at eR
  have eR' : Hid _ := eR
  have HHd : Hid _ := g_head (wd.pow_nat p) hD2 hR3 hN eD.out d2b eR
  obtain ⟨T0, hT0⟩ : ∃ T, T = H / d1 := ⟨_, rfl⟩
  obtain ⟨L0, hL0⟩ : ∃ L, L = H % d1 := ⟨_, rfl⟩
  have HST : Hid _ := g_start eD.out eR r0b d1p d1b (by omega) hT0 hL0
  have E1 : (H : Int) / (d1 : Int) = (T0 : Int) := by rw [hT0, Int.natCast_ediv]
  have E2 : (H : Int) % (d1 : Int) = (L0 : Int) := by rw [hL0, Int.natCast_emod]
  have EH : bits BinOp.or IntKind.u64 ((r2 : Int) * 4294967296) r1 = (H : Int) := by rw [join_bits _ _ (by omega) (by omega) (by omega) (by omega)]; omega
  have hHb : H < 18446744073709551616 := by omega
  have hcap := hy.big
  have hroom := hy.room
  unfold maxLen at hcap
  obtain ⟨by', oy, rfl, hby, hsy⟩ := hy.at (by omega)
  have c1 := hsy.cell q _ (wd.dcells_at _ _ _ (by omega))
  have c2 := hsy.cell p _ (wd.dcells_at _ _ _ (by omega))
  have c3 := hseg.cell n _ (wd.dcells_at _ _ _ (by omega))
  have c4 := hseg.cell q _ (wd.dcells_at _ _ _ (by omega))
  have c5 := hseg.cell p _ (wd.dcells_at _ _ _ (by omega))
  rw [hd1] at c1
  rw [hd2] at c2
  rw [hr2] at c3
  rw [hr1] at c4
  rw [hr0] at c5
  have e1 : (n : Int) - 1 = (q : Int) := by omega
  have e2 : (n : Int) - 2 = (p : Int) := by omega
  have l1 : q < n := by omega
  have l2 : p < n := by omega
  obtain ⟨m, hm⟩ : ∃ m, m = n + 1 := ⟨_, rfl⟩
  have m1 : n < m := by omega
  have m2 : m ≤ cs := by omega
  rw [← hm]
  have T0b : T0 < 18446744073709551616 := by rw [hT0]; exact Nat.lt_of_le_of_lt (Nat.div_le_self _ _) hHb
  have L0b : L0 < 4294967296 := by have : L0 < d1 := by rw [hL0]; exact Nat.mod_lt _ d1p
                                   omega
  clear hm hcs hH hT0 hL0 hD2 hR3 hd1 hd2 hr2 hr1 hr0 hp hq hN3 eR hseg hy hsy htop hD hN nat_dg hDP
  go_enter Tryd.func55, Tryd.ntmps55
  go_wp2
  go_quiet (fail)
  go_wp2
  go_quiet (fail)
  go_wp2
  go_quiet (fail)
  go_wp2
  rw [E2]
  go_loopw [9, 10] (fun t l wr => GRel H d1 D2 R3 t l ∧ Below w.heap.size w wr) (fun t _ _ => (intOf t).toNat)
  case atStart =>
    refine ⟨by first | exact HST.out | (rw [E2]; exact HST.out), ?_⟩
    exact ⟨rfl, rfl, rfl, Nat.le_refl _, fun _ _ => rfl⟩
  case round =>
    obtain ⟨⟨T, L, rfl, rfl, HE, hL, hT, HG⟩, hbel⟩ := hrel
    have k5 := (hbel.cell (p := ⟨b, o + p, none⟩) hb).trans c5
    by_cases h1 : T < 4294967296
    · have f1 : (T : Int) / 4294967296 = 0 := by omega
      obtain ⟨X, hX⟩ : ∃ X, X = T * d2 := ⟨_, rfl⟩
      have hXb : X < 18446744073709551616 := by
        have : T * d2 ≤ 4294967295 * 4294967295 := Nat.mul_le_mul (by omega) (by omega)
        omega
      have f2 : (T : Int) * (d2 : Int) = (X : Int) := by rw [hX, Int.natCast_mul]
      have f3 : bits BinOp.or IntKind.u64 ((L : Int) * 4294967296) r0 = (L : Int) * 4294967296 + r0 := join_bits _ _ (by omega) (by omega) (by omega) (by omega)
      have HX : Hid _ := hX
      clear hX
      by_cases h2 : L * 4294967296 + r0 < X
      · have HO : Hid _ := g_over eD.out eR'.out HE.out (by rw [← HX.out]; exact h2)
        have h3 : 1 ≤ T := g_less (d1 := d1) (d2 := d2) (H := H) HO.out
        by_cases h5 : L + d1 < 4294967296
        · have f5 : ((L : Int) + d1) / 4294967296 = 0 := by omega
          have HN : Hid _ := g_next HE.out hT h3 h5 (Or.inr HO.out)
          go_wp2
          go_roundw
          case rel => exact ⟨HN.out, by first | exact hbel | exact hbel.drew⟩
          case measure => simp [intOf]; omega
        · have f5 : ¬ ((L : Int) + d1) / 4294967296 = 0 := by omega
          obtain ⟨k, hk⟩ : ∃ k, T = k + 1 := ⟨T - 1, by omega⟩
          have e := HE.out
          rw [hk] at e
          have hB := g_break eD.out eR'.out e (by omega) d1p d2b HHd.out
          have HF : Hid _ := HOK.out k hB.1 hB.2 (Or.inr (by have := HO.out; rw [hk] at this; exact this))
          have k1 := hB.1
          clear e hB
          have f6 : (T : Int) - 1 = (k : Int) := by omega
          clear hk
          go_wp2
          go_ret
          exact ⟨⟨k, by first | rfl | simp [f6], HF.out.1, HF.out.2, k1⟩, by first | exact hbel | exact hbel.drew⟩
      · have HU : Hid _ := g_under eD.out eR'.out HE.out (by rw [← HX.out]; omega)
        have f4 : (T : Int) % 4294967296 = T := by omega
        go_wp2
        go_ret
        exact ⟨⟨T, rfl, (HOK.out T h1 HU.out HG.out).1, (HOK.out T h1 HU.out HG.out).2, h1⟩, by first | exact hbel | exact hbel.drew⟩
    · have f1 : ¬ (T : Int) / 4294967296 = 0 := by omega
      have h3 : 1 ≤ T := by omega
      by_cases h5 : L + d1 < 4294967296
      · have f5 : ((L : Int) + d1) / 4294967296 = 0 := by omega
        have HN : Hid _ := g_next (D2 := D2) (R3 := R3) HE.out hT h3 h5 (Or.inl (by omega))
        go_wp2
        go_roundw
        case rel => exact ⟨HN.out, by first | exact hbel | exact hbel.drew⟩
        case measure => simp [intOf]; omega
      · have f5 : ¬ ((L : Int) + d1) / 4294967296 = 0 := by omega
        obtain ⟨k, hk⟩ : ∃ k, T = k + 1 := ⟨T - 1, by omega⟩
        have e := HE.out
        rw [hk] at e
        have hB := g_break eD.out eR'.out e (by omega) d1p d2b HHd.out
        have HF : Hid _ := HOK.out k hB.1 hB.2 (Or.inl (by omega))
        have k1 := hB.1
        clear e hB
        have f6 : (T : Int) - 1 = (k : Int) := by omega
        clear hk
        go_wp2
        go_ret
        exact ⟨⟨k, by first | rfl | simp [f6], HF.out.1, HF.out.2, k1⟩, by first | exact hbel | exact hbel.drew⟩
end Go.Proofs.YtjdphcdpgjdmkaaDoor

namespace Go.Proofs.YtjdphcdpgjdmkaaDoor
open Go.RowKit
set_option linter.unusedVariables false

theorem num_dg (k j : Nat) (u v : Int) (h : k ≤ j) : wd.dg (u % 4294967296 ^ k + v / 4294967296 ^ k * 4294967296 ^ k) j = wd.dg v j := by
  have hp := wd.p256 k
  have e : (u % 4294967296 ^ k + v / 4294967296 ^ k * 4294967296 ^ k) / 4294967296 ^ k = v / 4294967296 ^ k := by
    rw [Int.add_mul_ediv_right _ _ (Int.ne_of_gt hp), Int.ediv_eq_zero_of_lt (Int.emod_nonneg _ (Int.ne_of_gt hp)) (Int.emod_lt_of_pos _ hp), Int.zero_add]
  have e2 : ∀ x : Int, x / 4294967296 ^ j = x / 4294967296 ^ k / 4294967296 ^ (j - k) := fun x => by
    rw [Int.ediv_ediv_of_nonneg (Int.le_of_lt hp), ← Int.pow_add, show k + (j - k) = j by omega]
  unfold wd.dg
  rw [e2 (u % 4294967296 ^ k + v / 4294967296 ^ k * 4294967296 ^ k), e, ← e2]
/-- The digits of u up to k, then those of v, are a number's. -/
theorem mix_num (n k : Nat) (u v : Int) : wd.mix n k u v = wd.dcells n (u % 4294967296 ^ k + v / 4294967296 ^ k * 4294967296 ^ k) := by
  have hp := wd.p256 k
  refine List.ext_getElem? fun j => ?_
  by_cases hj : j < n
  · unfold wd.mix
    rw [wd.fill_at _ _ _ _ _ hj, wd.dcells_at _ _ _ hj]
    by_cases hk : j < k
    · rw [if_pos (by simpa using hk), wd.dg_congr (u := u % 4294967296 ^ k + v / 4294967296 ^ k * 4294967296 ^ k) (v := u) (v / 4294967296 ^ k - u / 4294967296 ^ k) ?_ hk]
      have := Int.mul_ediv_add_emod u (4294967296 ^ k)
      rw [Int.sub_mul, Int.mul_comm (u / 4294967296 ^ k)]
      omega
    · rw [if_neg (by simpa using hk), num_dg _ _ _ _ (by omega)]
  · rw [List.getElem?_eq_none (by rw [wd.mix_length]; omega), List.getElem?_eq_none (by rw [wd.dcells_length]; omega)]
theorem mix_nat (n k u v : Nat) (hk : k ≤ n) (hv : v < 4294967296 ^ n) : ∃ Z : Nat, wd.mix n k (u : Int) (v : Int) = wd.dcells n (Z : Int) ∧ Z < 4294967296 ^ n ∧ wd.dg (Z : Int) (k + 1) = wd.dg (v : Int) (k + 1) := by
  have e : ((u % 4294967296 ^ k + v / 4294967296 ^ k * 4294967296 ^ k : Nat) : Int) = (u : Int) % 4294967296 ^ k + (v : Int) / 4294967296 ^ k * 4294967296 ^ k := by
    rw [Int.natCast_add, Int.natCast_emod, Int.natCast_mul, Int.natCast_ediv, wd.pow_cast]
  refine ⟨u % 4294967296 ^ k + v / 4294967296 ^ k * 4294967296 ^ k, by rw [mix_num, e], ?_, by rw [e, num_dg _ _ _ _ (by omega)]⟩
  have hp := wd.pow_nat k
  have h1 : v / 4294967296 ^ k < 4294967296 ^ (n - k) := Nat.div_lt_of_lt_mul (by rw [← Nat.pow_add, show k + (n - k) = n by omega]; exact hv)
  have h2 : (v / 4294967296 ^ k + 1) * 4294967296 ^ k ≤ 4294967296 ^ n := by
    have := Nat.mul_le_mul_right (4294967296 ^ k) (show v / 4294967296 ^ k + 1 ≤ 4294967296 ^ (n - k) by omega)
    rwa [← Nat.pow_add, show n - k + k = n by omega] at this
  have h3 := Nat.mod_lt u hp
  rw [Nat.add_mul] at h2
  omega

theorem down_digit (R x t : Int) (k : Nat) (hx : 0 < x) (ht : 0 < t) (hxt : x * t = 4294967296) : (wd.dg R (k + 1) * 4294967296 + wd.dg R k) / x % 4294967296 = wd.dg (R / x) k := by
  have hp := wd.p256 k
  unfold wd.dg
  have e1 : R / 4294967296 ^ (k + 1) = R / 4294967296 ^ k / 4294967296 := by rw [Int.pow_succ, ← Int.ediv_ediv_of_nonneg (Int.le_of_lt hp)]
  have e2 : R / x / 4294967296 ^ k = R / 4294967296 ^ k / x := by rw [Int.ediv_ediv_of_nonneg (Int.le_of_lt hx), Int.mul_comm, ← Int.ediv_ediv_of_nonneg (Int.le_of_lt hp)]
  rw [e1, e2]
  generalize R / 4294967296 ^ k = Z
  -- Z = Y * B^2 + (z1 * B + z0)
  have e3 : Z = (Z / 4294967296 % 4294967296 * 4294967296 + Z % 4294967296) + (Z / 4294967296 / 4294967296 * t * 4294967296) * x := by
    have : Z / 4294967296 / 4294967296 * t * 4294967296 * x = Z / 4294967296 / 4294967296 * (x * t) * 4294967296 := by
      rw [Int.mul_assoc, Int.mul_assoc, Int.mul_assoc, Int.mul_comm x t, Int.mul_assoc, Int.mul_comm 4294967296 x]
    rw [this, hxt]
    omega
  have e4 : Z / x = (Z / 4294967296 % 4294967296 * 4294967296 + Z % 4294967296) / x + Z / 4294967296 / 4294967296 * t * 4294967296 := by
    conv => lhs; rw [e3]
    rw [Int.add_mul_ediv_right _ _ (Int.ne_of_gt hx)]
  rw [e4]
  omega

/-- What holds at the head of each round of shiftDown. -/
def DownRel (w : World) (R : Int) (x b l cap base : Nat) (i : Value) (wr : World) : Prop := ∃ k : Nat, k ≤ l ∧ i = .int .i64 (k : Int) ∧ Own wr base 40 (some ⟨b, 0, none⟩) l cap (wd.mix l k (R / x) R) ∧ Wr w wr b 0 l
theorem down_next (w wr : World) (R : Int) (x t b l cap base k : Nat) (hx : 0 < x) (ht : 0 < t) (hxt : x * t = 4294967296) (hk : k < l) (hown : Own wr base 40 (some ⟨b, 0, none⟩) l cap (wd.mix l k (R / x) R)) (hw : Wr w wr b 0 l) {z : Int} (hz : z = wd.dg R (k + 1) * 4294967296 + wd.dg R k) :
    DownRel w R x b l cap base (.int .i64 ((k : Int) + 1)) (wr.setCell ⟨b, k, none⟩ (.int .u32 (z / x % 4294967296))) := by
  subst hz
  refine ⟨k + 1, by omega, by simp, ?_, hw.set _ (Nat.zero_le _) hk⟩
  rw [down_digit R x t k (by omega) (by omega) (by omega), ← wd.mix_set]
  exact Own.set hown _ hk

set_option maxRecDepth 100000 in
set_option maxHeartbeats 1000000 in
theorem shiftDown_any (b l cap R s base : Nat) (w : World) (hown : Own w base 40 (some ⟨b, 0, none⟩) l cap (wd.dcells l (R : Int))) (hR : R < 4294967296 ^ l) (hs : s < 32) :
    Calls Tryd.prog 49 #[.slice (some ⟨b, 0, none⟩) l cap, .int .i64 (s : Int)] w fun e w' => e = .returned (.tuple #[]) ∧ Own w' base 40 (some ⟨b, 0, none⟩) l cap (wd.dcells l ((R / 2 ^ s : Nat) : Int)) ∧ Wr w w' b 0 l := by
  obtain ⟨x, hx⟩ : ∃ x : Nat, x = 2 ^ s := ⟨_, rfl⟩
  obtain ⟨t, ht⟩ : ∃ t : Nat, t = 2 ^ (32 - s) := ⟨_, rfl⟩
  have x0 : 0 < x := by rw [hx]; exact Nat.pow_pos (by decide)
  have t0 : 0 < t := by rw [ht]; exact Nat.pow_pos (by decide)
  have hxt : x * t = 4294967296 := by rw [hx, ht, ← Nat.pow_add, show s + (32 - s) = 32 by omega]
  have x1 : x ≤ 2147483648 := by rw [hx]; exact Nat.le_trans (Nat.pow_le_pow_right (by decide) (show s ≤ 31 by omega)) (by decide)
  have fX : (2 : Int) ^ s = (x : Int) := by rw [hx, Int.natCast_pow]; rfl
  have HX : Hid _ := hx
  have HT : Hid _ := hxt
  have hcap := hown.sl.big
  have hroom := hown.sl.room
  unfold maxLen at hcap
  clear hx ht hxt
  go_enter Tryd.func49, Tryd.ntmps49
  go_wp2
  go_loopw [8] (fun i wr => DownRel w R x b l cap base i wr) (fun i _ => l - (intOf i).toNat)
  case atStart => exact ⟨0, by omega, rfl, by rw [wd.mix_zero]; exact hown, Wr.refl _ _ _ _⟩
  case round =>
    clear hown
    obtain ⟨k, hk, rfl, hown, hwr⟩ := hrel
    by_cases hlt : k < l
    · have c3 : wr.cell? ⟨b, k, none⟩ = some (.int .u32 (wd.dg R k)) := Own.cell hown k _ (wd.mix_at _ _ _ _ _ (by omega) (by omega))
      have c4 : wr.frozen? ⟨b, k, none⟩ = false := Own.free hown k (by omega)
      obtain ⟨d0, d1⟩ := wd.dg_range R k
      obtain ⟨e0, e1⟩ := wd.dg_range R (k + 1)
      have HN : Hid _ := fun n z hz => down_next w (wr.drewN n) R x t b l cap base k x0 t0 HT.out hlt hown (hwr.drewN n) (z := z) hz
      -- the slice as a number
      obtain ⟨Z, hZ, hZl, hZd⟩ := mix_nat l k (R / x) R hk hR
      rw [Int.natCast_ediv] at hZ
      have hs3 := Own.sl hown
      rw [hZ] at hs3
      have HB := join_bits _ _ e0 e1 d0 d1
      obtain ⟨z, hz⟩ : ∃ z, z = wd.dg R (k + 1) * 4294967296 + wd.dg R k := ⟨_, rfl⟩
      have z0 : 0 ≤ z := by omega
      have z1 : z < 18446744073709551616 := by omega
      have HN : Hid _ := fun n => HN.out n z hz
      rw [← hz] at HB
      clear hown hZ hz
      have HW : Hid (∀ n, Calls Tryd.prog 50 #[.slice (some ⟨b, 0, none⟩) l cap, .int .i64 ((k : Int) + 1)] (wr.drewN n) fun e w'' => e = .returned (.int .u32 (wd.dg R (k + 1))) ∧ ∃ m, w'' = wr.drewN m) := fun n => by
        have h := wordAt_any (some ⟨b, 0, none⟩) l cap Z (k + 1) (iv := (k : Int) + 1) (wr.drewN n) (hs3.below ⟨rfl, rfl, rfl, Nat.le_refl _, fun _ _ => rfl⟩) hZl (by omega)
        rw [hZd] at h
        refine h.mono ?_
        rintro e w' ⟨rfl, hw⟩
        exact ⟨rfl, n, hw.symm⟩
      go_wp2
      go_quiet (first | (go_at_call 50; exact HW.out _))
      go_wp2
      go_roundw
      case rel => exact HN.out _
      case measure => simp [intOf]; omega
    · obtain rfl : k = l := by omega
      rw [wd.mix_full] at hown
      go_wp2
      go_end0
      refine ⟨rfl, ?_, hwr⟩
      rw [← HX.out, Int.natCast_ediv]
      exact hown

theorem off_neg {N D g q : Nat} (h1 : q ≤ g) (h2 : g ≤ q + 1) (hD : 0 < D) (hq : q = N / D) (h : (N : Int) < (g : Int) * D) : g = q + 1 ∧ (N : Int) - (g : Int) * D + D = ((N % D : Nat) : Int) := by
  have hd := Nat.div_add_mod N D
  rw [← hq] at hd
  have hg : g = q + 1 := by
    rcases Nat.lt_or_ge q g with h3 | h3
    · omega
    · have : g = q := by omega
      subst this
      exfalso
      have e : (g : Int) * D = ((D * g : Nat) : Int) := by rw [Int.natCast_mul, Int.mul_comm]
      rw [e] at h
      omega
  refine ⟨hg, ?_⟩
  subst hg
  have e : ((q + 1 : Nat) : Int) * D = ((D * q : Nat) : Int) + D := by
    rw [Int.natCast_mul, Int.natCast_add, Int.add_mul, Int.mul_comm (q : Int)]
    simp
  rw [e]
  omega
theorem off_pos {N D g q : Nat} (h1 : q ≤ g) (hD : 0 < D) (hq : q = N / D) (h : ¬ (N : Int) < (g : Int) * D) : g = q ∧ (N : Int) - (g : Int) * D = ((N % D : Nat) : Int) := by
  have hd := Nat.div_add_mod N D
  have hgN : g * D ≤ N := by
    have e : (g : Int) * D = ((g * D : Nat) : Int) := by rw [Int.natCast_mul]
    rw [e] at h
    omega
  have hg : g = q := by
    have := (Nat.le_div_iff_mul_le hD).2 hgN
    omega
  refine ⟨hg, ?_⟩
  subst hg
  rw [← hq] at hd
  have e : (g : Int) * D = ((D * g : Nat) : Int) := by rw [Int.natCast_mul, Int.mul_comm]
  rw [e]
  omega

set_option maxRecDepth 100000 in
set_option maxHeartbeats 1000000 in
theorem takeOff_any (b o n cs : Nat) (yb : Option Addr) (cy N D : Nat) (w : World) (hb : b < w.heap.size) (hseg : Seg w b o (wd.dcells (n + 1) (N : Int))) (hN : N < D * 4294967296) (hcs : n + 1 ≤ cs) (hcs' : cs ≤ 1000000000000) (hy : Sl w yb n cy (wd.dcells n (D : Int))) (hD : D < 4294967296 ^ n) (hn : 2 ≤ n) (htop : 4294967296 ^ (n - 1) ≤ D) (hne : ∀ o, yb ≠ some ⟨b, o, none⟩) :
    Calls Tryd.prog 48 #[.slice (some ⟨b, o, none⟩) (n + 1) cs, .slice yb n cy] w fun e w' => e = .returned (.int .u32 ((N / D : Nat) : Int)) ∧ Seg w' b o (wd.dcells (n + 1) ((N % D : Nat) : Int)) ∧ Wr w w' b o (o + (n + 1)) := by
  have hD0 : 0 < D := Nat.lt_of_lt_of_le (wd.pow_nat _) htop
  have hN3 : Hid (N < 4294967296 ^ (n + 1)) := by
    unfold Hid
    have : D * 4294967296 ≤ 4294967296 ^ (n + 1) := by rw [Nat.pow_succ]; exact Nat.mul_le_mul_right _ (by omega)
    omega
  obtain ⟨q, hq⟩ : ∃ q, q = N / D := ⟨_, rfl⟩
  have HQ : Hid _ := hq
  have HG : Hid _ := fun w0 hb h1 h2 => guess_any b o n cs yb cy N D w0 hb h1 hN hcs hcs' h2 hD hn htop
  have HS : Hid _ := fun w0 (g : Nat) h1 h2 g1 => subTimes_any b o n cs yb cy N D (g : Int) w0 h1 hN3.out hcs hcs' h2 hD hne (by omega) g1
  have HA : Hid _ := fun w0 M h1 h2 => addBack_any b o n cs yb cy D M w0 h1 hcs hcs' h2 hD hne
  have HSeg : Hid _ := hseg
  have HSl : Hid _ := hy
  rw [← hq]
  clear hq hcs hD hN htop hseg
  go_enter Tryd.func48, Tryd.ntmps48
  go_wp2_with (go_at_call 55; refine (HG.out _ hb HSeg.out hy).mono ?_; rintro e w1 ⟨⟨g, rfl, g1, g2, g3⟩, hbel1⟩; have s1 := Seg.below HSeg.out hbel1 hb; have y1 := hy.below hbel1; have HL : Hid _ := hbel1)
  have hWr1 : Wr w w1 b o (o + (n + 1)) := (Wr.refl w b o (o + (n + 1))).below hbel1 hb
  by_cases hlt : (N : Int) < (g : Int) * D
  · obtain ⟨hg, HE⟩ := off_neg (by rw [HQ.out]; exact g1) (by rw [HQ.out]; exact g2) hD0 HQ.out hlt
    have HE : Hid _ := HE
    have hg' : (g : Int) - 1 = (q : Int) := by omega
    have HGq : Hid _ := hg
    clear hg g1 g2
    go_wp2_with (first
      | (go_at_call 56; refine (HS.out _ g s1 y1 (by omega)).mono ?_; rintro e w2 ⟨rfl, s2, wr2⟩; have y2 := wr2.sl y1 hne)
      | (go_at_call 57; refine (HA.out _ _ s2 y2).mono ?_; rintro e w3 ⟨rfl, s3, wr3⟩))
    go_ret
    rw [HE.out] at s3
    exact ⟨rfl, s3, (hWr1.trans wr2).trans wr3⟩
  · obtain ⟨hg, HE⟩ := off_pos (by rw [HQ.out]; exact g1) hD0 HQ.out hlt
    have HE : Hid _ := HE
    subst hg
    go_wp2_with (first
      | (go_at_call 56; refine (HS.out _ g s1 y1 (by omega)).mono ?_; rintro e w2 ⟨rfl, s2, wr2⟩; have y2 := wr2.sl y1 hne))
    go_ret
    rw [HE.out] at s2
    exact ⟨rfl, s2, hWr1.trans wr2⟩
end Go.Proofs.YtjdphcdpgjdmkaaDoor

namespace Go.Proofs.YtjdphcdpgjdmkaaDoor
open Go.RowKit
set_option linter.unusedVariables false

/-- What is left of A when the quotient's words from k on are taken off. -/
def rk (A D k : Nat) : Nat := A / 4294967296 ^ k % D * 4294967296 ^ k + A % 4294967296 ^ k
/-- The words that the next word of the quotient is told by. -/
def nk (A D j : Nat) : Nat := A / 4294967296 ^ (j + 1) % D * 4294967296 + A / 4294967296 ^ j % 4294967296
theorem mod_more (A j : Nat) : A % 4294967296 ^ (j + 1) = A % 4294967296 ^ j + 4294967296 ^ j * (A / 4294967296 ^ j % 4294967296) := by
  rw [Nat.pow_succ, Nat.mod_mul]
theorem rk_split (A D j : Nat) : rk A D (j + 1) = A % 4294967296 ^ j + 4294967296 ^ j * nk A D j := by
  have e : ∀ P X Z : Nat, X * (P * 4294967296) + Z = Z + P * (X * 4294967296) := fun P X Z => by
    rw [Nat.mul_left_comm, Nat.add_comm]
  unfold rk nk
  rw [mod_more, Nat.pow_succ, Nat.mul_add, e]
  omega
theorem rk_here (A D j : Nat) : rk A D j = A % 4294967296 ^ j + 4294967296 ^ j * (A / 4294967296 ^ j % D) := by
  unfold rk
  rw [Nat.mul_comm (4294967296 ^ j)]
  omega
theorem nk_cast (A D j : Nat) : ((nk A D j : Nat) : Int) = (A : Int) / 4294967296 ^ (j + 1) % D * 4294967296 + wd.dg A j := by
  unfold nk wd.dg
  rw [Int.natCast_add, Int.natCast_mul, Int.natCast_emod, Int.natCast_ediv, Int.natCast_emod, Int.natCast_ediv, wd.pow_cast, wd.pow_cast]
  rfl
theorem nk_div (A D j : Nat) (hD : 0 < D) : ((nk A D j / D : Nat) : Int) = wd.dg ((A / D : Nat) : Int) j := by
  rw [Int.natCast_ediv, nk_cast, wd.quot_digit _ _ _ (by omega), Int.natCast_ediv]
theorem nk_mod (A D j : Nat) (hD : 0 < D) : nk A D j % D = A / 4294967296 ^ j % D := by
  have h : ((nk A D j % D : Nat) : Int) = ((A / 4294967296 ^ j % D : Nat) : Int) := by
    rw [Int.natCast_emod, nk_cast, (wd.long_div A D j (by omega)).2, Int.natCast_emod, Int.natCast_ediv, wd.pow_cast]
  exact Int.ofNat.inj h
theorem nk_lt (A D j : Nat) (hD : 0 < D) : nk A D j < D * 4294967296 := by
  unfold nk
  have h1 := Nat.mod_lt (A / 4294967296 ^ (j + 1)) hD
  have h2 := Nat.mod_lt (A / 4294967296 ^ j) (show 0 < 4294967296 by decide)
  omega
theorem low_div (A j X : Nat) : (((A % 4294967296 ^ j + 4294967296 ^ j * X : Nat)) : Int) / 4294967296 ^ j = (X : Int) := by
  rw [← wd.pow_cast, ← Int.natCast_ediv, Nat.add_mul_div_left _ _ (wd.pow_nat j), Nat.div_eq_of_lt (Nat.mod_lt _ (wd.pow_nat j)), Nat.zero_add]
/-- A part of what one owns, written over: below it nothing changes, above it are noughts. -/
theorem own_put {w w1 : World} {base b L cap j m A X Y : Nat} {T : TypeId} (hown : Own w base T (some ⟨b, 0, none⟩) L cap (wd.dcells L ((A % 4294967296 ^ j + 4294967296 ^ j * X : Nat) : Int))) (hL : j + m ≤ L) (hX : X < 4294967296 ^ m) (hY : Y < 4294967296 ^ m)
    (hseg : Seg w1 b j (wd.dcells m (Y : Int))) (hw : Wr w w1 b j (j + m)) : Own w1 base T (some ⟨b, 0, none⟩) L cap (wd.dcells L ((A % 4294967296 ^ j + 4294967296 ^ j * Y : Nat) : Int)) := by
  have hs0 := (seg_of_own hown).1
  have hpj := wd.p256 j
  refine hw.owned hown (wd.dcells_length _ _) ?_
  have cong : ∀ Z : Nat, wd.dcells j ((A % 4294967296 ^ j + 4294967296 ^ j * Z : Nat) : Int) = wd.dcells j ((A % 4294967296 ^ j : Nat) : Int) := fun Z => wd.dcells_congr (Z : Int) (by rw [Int.natCast_add, Int.natCast_mul, wd.pow_cast, Int.mul_comm (4294967296 ^ j)])
  have top : ∀ Z : Nat, Z < 4294967296 ^ m → (((A % 4294967296 ^ j + 4294967296 ^ j * Z : Nat)) : Int) / 4294967296 ^ (j + m) = 0 := fun Z hZ => by
    rw [Int.pow_add, ← Int.ediv_ediv_of_nonneg (Int.le_of_lt hpj), low_div]
    exact Int.ediv_eq_zero_of_lt (by omega) (by rw [← wd.pow_cast]; omega)
  have t1 : Seg w1 b 0 (wd.dcells j ((A % 4294967296 ^ j + 4294967296 ^ j * Y : Nat) : Int)) := by
    rw [cong, ← cong X]
    exact hw.out (seg_head hs0 j (by omega)) (by rw [wd.dcells_length]; omega)
  have t3 : Seg w1 b (j + m) (wd.dcells (L - (j + m)) 0) := by
    have := hw.out (seg_part hs0 (j + m) (L - (j + m)) (by omega)) (by omega)
    rwa [Nat.zero_add, top X hX] at this
  have t2 : Seg w1 b j (wd.dcells (m + (L - (j + m))) (Y : Int)) := seg_join hseg (by
    rw [Int.ediv_eq_zero_of_lt (by omega) (by rw [← wd.pow_cast]; omega)]
    exact t3)
  have s1 := seg_join t1 (m := m + (L - (j + m))) (by rw [Nat.zero_add, low_div]; exact t2)
  rwa [show j + (m + (L - (j + m))) = L by omega] at s1

/-- What holds at the head of each round. -/
def LongRel (w : World) (A D lb la m rb qb : Nat) (ds : Option Addr) (i : Value) (wr : World) : Prop := ∃ k : Nat, k ≤ m ∧ i = .int .i64 ((k : Int) - 1) ∧
  Own wr w.heap.size 40 (some ⟨qb, 0, none⟩) m m (wd.xim m k ((A / D : Nat) : Int) 0) ∧ Own wr w.heap.size 40 (some ⟨rb, 0, none⟩) (la + 1) (la + 1) (wd.dcells (la + 1) ((rk A D k : Nat) : Int)) ∧
  Sl wr ds lb (lb + 1) (wd.dcells lb (D : Int)) ∧ Below w.heap.size w wr
theorem long_next {w wr w1 : World} {A D lb la m rb qb j : Nat} {ds : Option Addr} (hD : 0 < D) (hj : j < m) (hm : m + lb = la + 1) (hqr : qb ≠ rb) (hsd : ∀ o, ds ≠ some ⟨rb, o, none⟩) (hsq : ∀ o, ds ≠ some ⟨qb, o, none⟩) (hDl : D < 4294967296 ^ lb)
    (hq : Own wr w.heap.size 40 (some ⟨qb, 0, none⟩) m m (wd.xim m (j + 1) ((A / D : Nat) : Int) 0)) (hr : Own wr w.heap.size 40 (some ⟨rb, 0, none⟩) (la + 1) (la + 1) (wd.dcells (la + 1) ((rk A D (j + 1) : Nat) : Int)))
    (hs : Sl wr ds lb (lb + 1) (wd.dcells lb (D : Int))) (hb : Below w.heap.size w wr) (hseg : Seg w1 rb j (wd.dcells (lb + 1) ((nk A D j % D : Nat) : Int))) (hw : Wr wr w1 rb j (j + (lb + 1))) :
    LongRel w A D lb la m rb qb ds (.int .i64 ((j : Int) - 1)) (w1.setCell ⟨qb, j, none⟩ (.int .u32 ((nk A D j / D : Nat) : Int))) := by
  have hq1 := hw.own hq (fun o e => hqr (by cases e; rfl))
  have hrb := (seg_of_own hr).2.2
  have hqb := (seg_of_own hq).2.2
  have hN : nk A D j < 4294967296 ^ (lb + 1) := by
    have h1 := nk_lt A D j hD
    have h2 : D * 4294967296 ≤ 4294967296 ^ (lb + 1) := by rw [Nat.pow_succ]; exact Nat.mul_le_mul_right _ (by omega)
    omega
  have hr1 := own_put (Y := nk A D j % D) (by rw [rk_split] at hr; exact hr) (by omega) hN (Nat.lt_of_le_of_lt (Nat.mod_le _ _) hN) hseg hw
  rw [nk_mod A D j hD, ← rk_here] at hr1
  have ws : Wr w1 (w1.setCell ⟨qb, j, none⟩ (.int .u32 ((nk A D j / D : Nat) : Int))) qb 0 m := (Wr.refl _ _ _ _).set _ (Nat.zero_le _) hj
  refine ⟨j, by omega, rfl, ?_, ws.own hr1 (fun o e => hqr (by cases e; rfl)), ws.sl (hw.sl hs hsd) hsq, (hw.after hb hrb (Nat.le_refl _)).setCell hqb _⟩
  rw [nk_div A D j hD, ← wd.xim_set]
  exact Own.set hq1 _ hj
theorem addr_ne {b c o o' : Nat} (h : b ≠ c) : (some ⟨b, o, none⟩ : Option Addr) ≠ some ⟨c, o', none⟩ := fun e => by
  simp only [Option.some.injEq, Addr.mk.injEq] at e
  exact h e.1
theorem scale_lt {x s v p : Nat} (hx : x < 2 ^ (32 - s)) (hs : s ≤ 32) (hv : v / 4294967296 ^ p = x) : 2 ^ s * v < 4294967296 ^ (p + 1) := by
  have h1 : v < (x + 1) * 4294967296 ^ p := by rw [← hv]; have := Nat.lt_div_mul_add (a := v) (wd.pow_nat p); rw [Nat.succ_mul]; exact this
  have h2 : (x + 1) * 4294967296 ^ p ≤ 2 ^ (32 - s) * 4294967296 ^ p := Nat.mul_le_mul_right _ hx
  have h3 : 2 ^ s * (2 ^ (32 - s) * 4294967296 ^ p) = 4294967296 ^ (p + 1) := by
    rw [← Nat.mul_assoc, ← Nat.pow_add, show s + (32 - s) = 32 by omega, show (4294967296 : Nat) ^ (p + 1) = 4294967296 ^ p * 4294967296 from Nat.pow_succ _ _, Nat.mul_comm]
  rw [← h3]
  exact Nat.mul_lt_mul_of_pos_left (by omega) (Nat.pow_pos (by decide))
theorem rk_start {A D m : Nat} (h : A < D * 4294967296 ^ m) : rk A D m = A := by
  unfold rk
  rw [Nat.mod_eq_of_lt (Nat.div_lt_of_lt_mul (by rw [Nat.mul_comm]; exact h)), Nat.mul_comm]
  exact Nat.div_add_mod A _
theorem rk_end (A D : Nat) : rk A D 0 = A % D := by
  unfold rk
  simp [Nat.mod_one]

theorem shiftUp_to (a : Option Addr) (l cap u s l1 X : Nat) (w : World) (ha : Sl w a l cap (wd.dcells l (u : Int))) (hu : u < 4294967296 ^ l) (hl : l ≤ 1000000000) (hs : s < 32) (h1 : l1 = l + 1) (hX : X = 2 ^ s * u) :
    Calls Tryd.prog 47 #[.slice a l cap, .int .i64 (s : Int)] w fun e w' => e = .returned (.slice (some ⟨w.heap.size, 0, none⟩) l1 l1) ∧ Own w' w.heap.size 40 (some ⟨w.heap.size, 0, none⟩) l1 l1 (wd.dcells l1 (X : Int)) ∧ Below w.heap.size w w' := by
  subst h1 hX
  exact shiftUp_any a l cap u s w ha hu hl hs
theorem takeOff_to (b o n n1 cs : Nat) (yb : Option Addr) (cy N D : Nat) (w : World) (hn1 : n1 = n + 1) (hb : b < w.heap.size) (hseg : Seg w b o (wd.dcells (n + 1) (N : Int))) (hN : N < D * 4294967296) (hcs : n + 1 ≤ cs) (hcs' : cs ≤ 1000000000000) (hy : Sl w yb n cy (wd.dcells n (D : Int))) (hD : D < 4294967296 ^ n) (hn : 2 ≤ n) (htop : 4294967296 ^ (n - 1) ≤ D) (hne : ∀ o, yb ≠ some ⟨b, o, none⟩) :
    Calls Tryd.prog 48 #[.slice (some ⟨b, o, none⟩) n1 cs, .slice yb n cy] w fun e w' => e = .returned (.int .u32 ((N / D : Nat) : Int)) ∧ Seg w' b o (wd.dcells (n + 1) ((N % D : Nat) : Int)) ∧ Wr w w' b o (o + (n + 1)) := by
  subst hn1
  exact takeOff_any b o n cs yb cy N D w hb hseg hN hcs hcs' hy hD hn htop hne
theorem shiftDown_to (b l l1 cap R s base X : Nat) (w : World) (h1 : l1 = l) (hX : R / 2 ^ s = X) (hown : Own w base 40 (some ⟨b, 0, none⟩) l cap (wd.dcells l (R : Int))) (hR : R < 4294967296 ^ l) (hs : s < 32) :
    Calls Tryd.prog 49 #[.slice (some ⟨b, 0, none⟩) l1 cap, .int .i64 (s : Int)] w fun e w' => e = .returned (.tuple #[]) ∧ Own w' base 40 (some ⟨b, 0, none⟩) l cap (wd.dcells l (X : Int)) ∧ Wr w w' b 0 l := by
  subst h1 hX
  exact shiftDown_any b l1 cap R s base w hown hR hs
set_option maxRecDepth 100000 in
set_option maxHeartbeats 1000000 in
theorem divideLong_any (a b : Option Addr) (la lb m ca cb u v : Nat) (w : World) (ha : Sl w a la ca (wd.dcells la (u : Int))) (hu : u < 4294967296 ^ la) (hla : la ≤ 100000000) (hb : Sl w b lb cb (wd.dcells lb (v : Int))) (hv : v < 4294967296 ^ lb) (hlb : 2 ≤ lb) (hm : m + lb = la + 1) (hm1 : 1 ≤ m) (htop : 4294967296 ^ (lb - 1) ≤ v) :
    Calls Tryd.prog 34 #[.slice a la ca, .slice b lb cb] w fun e w' => ∃ qb rb, e = .returned (.tuple #[.slice (some ⟨qb, 0, none⟩) m m, .slice (some ⟨rb, 0, none⟩) (la + 1) (la + 1)]) ∧
      Own w' w.heap.size 40 (some ⟨qb, 0, none⟩) m m (wd.dcells m ((u / v : Nat) : Int)) ∧ Own w' w.heap.size 40 (some ⟨rb, 0, none⟩) (la + 1) (la + 1) (wd.dcells (la + 1) ((u % v : Nat) : Int)) ∧ Below w.heap.size w w' := by
  obtain ⟨i0, hi0, hz0, hz1, hz2⟩ := info_parts infoWord
  have hz0' : wd.dcells m 0 = List.replicate m (.int .u32 0) := wd.dcells_zero _
  have hmax : m ≤ maxLen := by unfold maxLen; omega
  obtain ⟨p, hp⟩ : ∃ p, lb = p + 1 := ⟨lb - 1, by omega⟩
  have hpn := wd.pow_nat p
  obtain ⟨x, hx⟩ : ∃ x, x = v / 4294967296 ^ p := ⟨_, rfl⟩
  have x1 : x < 4294967296 := by rw [hx]; exact Nat.div_lt_of_lt_mul (by rw [hp, Nat.pow_succ] at hv; exact hv)
  have x0 : 0 < x := by
    rw [hx]
    rw [hp] at htop
    exact Nat.div_pos htop hpn
  have hxd : wd.dg (v : Int) p = (x : Int) := by
    unfold wd.dg
    rw [← wd.pow_cast, ← Int.natCast_ediv, ← hx]
    omega
  have nl1 : bt.nlen x ≤ 32 := bt.nlen_le (by simpa using x1)
  have nl2 := bt.nlen_lt x
  have nl3 : 1 ≤ bt.nlen x := by
    rcases Nat.eq_zero_or_pos (bt.nlen x) with e | e
    · rw [e] at nl2; simp at nl2; omega
    · exact e
  obtain ⟨s, hs⟩ : ∃ s, bt.nlen x = 32 - s ∧ s < 32 := ⟨32 - bt.nlen x, by omega, by omega⟩
  have hs2 := hs.2
  have hDl : 2 ^ s * v < 4294967296 ^ lb := by rw [hp]; exact scale_lt (by rw [← hs.1]; exact nl2) (by omega) hx.symm
  obtain ⟨D, hD⟩ : ∃ D, D = 2 ^ s * v := ⟨_, rfl⟩
  obtain ⟨A, hA⟩ : ∃ A, A = 2 ^ s * u := ⟨_, rfl⟩
  rw [← hD] at hDl
  have h2s : 0 < 2 ^ s := Nat.pow_pos (by decide)
  have hDt : 4294967296 ^ (lb - 1) ≤ D := by rw [hD]; exact Nat.le_trans htop (Nat.le_mul_of_pos_left _ h2s)
  have hD0 : 0 < D := Nat.lt_of_lt_of_le (wd.pow_nat _) hDt
  have hAD : A < D * 4294967296 ^ m := by
    rw [hA, hD, Nat.mul_assoc]
    refine Nat.mul_lt_mul_of_pos_left (Nat.lt_of_lt_of_le hu ?_) h2s
    have := Nat.mul_le_mul_right (4294967296 ^ m) htop
    rw [← Nat.pow_add, show lb - 1 + m = la by omega] at this
    exact this
  have HQ : Hid (A / D = u / v) := by unfold Hid; rw [hA, hD, Nat.mul_div_mul_left _ _ h2s]
  have HR : Hid (A % D / 2 ^ s = u % v) := by unfold Hid; rw [hA, hD, Nat.mul_mod_mul_left, Nat.mul_div_cancel_left _ h2s]
  have HRl : Hid (A % D < 4294967296 ^ (la + 1)) := by
    unfold Hid
    have := Nat.mod_lt A hD0
    have : (4294967296 : Nat) ^ lb ≤ 4294967296 ^ (la + 1) := Nat.pow_le_pow_right (by decide) (by omega)
    omega
  have HRS : Hid (rk A D m = A) := rk_start hAD
  have HLZ : Hid _ := fun w0 => leading_any x s (xv := (x : Int)) rfl x1 hs.1 (by omega) w0
  obtain ⟨lb1, hlb1⟩ : ∃ lb1, lb1 = lb + 1 := ⟨_, rfl⟩
  obtain ⟨la1, hla1⟩ : ∃ la1, la1 = la + 1 := ⟨_, rfl⟩
  have HB1 : Hid _ := hlb1
  have HA1 : Hid _ := hla1
  have HD1 : Hid _ := hD
  have HA2 : Hid _ := hA
  have HU : Hid _ := hu
  have HV : Hid _ := hv
  rw [← hla1]
  have c1 := hb.at (by omega)
  obtain ⟨bb, ob, rfl, hbb, hsb⟩ := c1
  have c1 := hsb.cell p _ (wd.dcells_at _ _ _ (by omega))
  rw [hxd] at c1
  have hcb := hb.big
  have hrb := hb.room
  unfold maxLen at hcb
  have e1 : (lb : Int) - 1 = (p : Int) := by omega
  have l1 : p < lb := by omega
  have l2 : lb < lb1 := by omega
  have l3 : la < la1 := by omega
  have l4 : lb1 ≤ 1000000000 := by omega
  have l5 : la1 ≤ 1000000000 := by omega
  have e2 : (la : Int) - (lb : Int) + 1 = (m : Int) := by omega
  have l6 : m ≤ la := by omega
  have HDt : Hid _ := hDt
  have HML : Hid _ := hm
  have HDl : Hid _ := hDl
  clear hm hx hs hD hA nl1 nl2 nl3 hlb1 hla1 hp htop hu hv hDt hAD hDl h2s hxd hpn hsb
  go_enter Tryd.func34, Tryd.ntmps34
  go_wp2_with (go_at_call 46; refine (HLZ.out _).mono ?_; rintro e w' ⟨rfl, hw⟩; subst hw)
  refine (shiftUp_to _ lb cb v s lb1 D _ hb HV.out (by omega) hs2 HB1.out HD1.out).mono ?_
  rintro e w1 ⟨rfl, hownD, hbel1⟩
  have ha1 := ha.below hbel1
  have HownD : Hid _ := hownD
  clear hownD
  go_wp2_with (go_at_call 47; fail)
  refine (shiftUp_to a la ca u s la1 A _ ha1 HU.out (by omega) hs2 HA1.out HA2.out).mono ?_
  rintro e w2 ⟨rfl, hownR, hbel2⟩
  have HownR : Hid _ := hownR
  clear hownR
  go_wp2_with (at_make; refine make_any _ rfl (.tmp 30) (.tmp 30) 23 rfl w2.heap.size 40 i0 (.int .u32 0) Tryd.underlying23 hi0 hz0 hz1 rfl .i64 .i64 _ _ m rfl rfl (by simp) (by simp) (by rw [hz2]; omega) (by omega) (Nat.le_refl _) ?_; intro w3 hownQ hbel3)
  have hz1' := (seg_of_own HownD.out).2.1
  have hz2' := (seg_of_own HownR.out).2.1
  have b12 : Below w.heap.size w w2 := hbel1.trans (hbel2.mono hbel1.size)
  have b13 : Below w.heap.size w w3 := b12.trans (hbel3.mono b12.size)
  rw [← hz0', ← wd.xim_full m ((A / D : Nat) : Int) 0] at hownQ
  have HST : Hid (LongRel w A D lb la m w1.heap.size w2.heap.size (some ⟨w.heap.size, 0, none⟩) (.int .i64 ((m : Int) - 1)) w3) := by
    refine ⟨m, Nat.le_refl _, rfl, Own.mono hownQ b12.size, ?_, ?_, b13⟩
    · rw [HRS.out, ← HA1.out]
      exact Own.mono (Own.below HownR.out hbel3) hbel1.size
    · have h := Sl.take (m := lb) (Own.sl (Own.below (Own.below HownD.out hbel2) hbel3)) (by omega)
      rw [wd.dcells_take _ _ _ (by omega), HB1.out] at h
      exact h
  have n1 : w2.heap.size ≠ w1.heap.size := by omega
  have n2 : w1.heap.size ≠ w.heap.size := by omega
  have n3 : w2.heap.size ≠ w.heap.size := by omega
  clear hownQ hbel1 hbel2 hbel3 b12 b13 HownD HownR ha1 hz1' hz2'
  obtain ⟨db, hdb⟩ : ∃ db, db = w.heap.size := ⟨_, rfl⟩
  obtain ⟨rb, hrb'⟩ : ∃ rb, rb = w1.heap.size := ⟨_, rfl⟩
  obtain ⟨qb, hqb⟩ : ∃ qb, qb = w2.heap.size := ⟨_, rfl⟩
  go_loopw [8] (fun i wr => LongRel w A D lb la m w1.heap.size w2.heap.size (some ⟨w.heap.size, 0, none⟩) i wr) (fun i _ => (intOf i + 1).toNat)
  case atStart => exact HST.out
  case round =>
    obtain ⟨k, hk, rfl, hq, hr, hs, hbel⟩ := hrel
    rcases k with _ | j
    · rw [rk_end] at hr
      rw [wd.xim_zero, HQ.out] at hq
      have HSD : Hid _ := hr
      have HSQ : Hid _ := hq
      have hr2 := hr
      rw [← HA1.out] at hr2
      have HSD2 : Hid _ := hr2
      have HSP : Hid (A % D < 4294967296 ^ la1) := by rw [HA1.out]; exact HRl.out
      clear hr hq hr2
      go_wp2_with (go_at_call 49; fail)
      refine (shiftDown_to w1.heap.size la1 la1 la1 (A % D) s w.heap.size (u % v) wr rfl HR.out HSD2.out HSP.out hs2).mono ?_
      rintro e wx ⟨rfl, hown2, hwx⟩
      have hq1 := hwx.own HSQ.out (fun o => addr_ne n1)
      have hb2 := hwx.after hbel (seg_of_own HSD2.out).2.2 (Nat.le_refl _)
      have HO1 : Hid _ := hq1
      have HO2 : Hid _ := hown2
      clear hq1 hown2
      go_wp2
      go_ret2
      exact ⟨_, _, rfl, HO1.out, HO2.out, hb2⟩
    · have hrb2 := seg_of_own hr
      have hsg := seg_part hrb2.1 j (lb + 1) (by have := HML.out; omega)
      rw [Nat.zero_add, rk_split, low_div] at hsg
      have HN : Hid _ := fun wx hh hw => long_next (w := w) (w1 := wx) (A := A) (D := D) (lb := lb) (la := la) (m := m) (rb := w1.heap.size) (qb := w2.heap.size) (j := j) hD0 (by omega) HML.out n1 (fun o => addr_ne (Ne.symm n2)) (fun o => addr_ne (Ne.symm n3)) HDl.out hq hr hs hbel hh hw
      have HQ1 : Hid _ := fun (wx : World) (hw : Wr wr wx w1.heap.size j (j + (lb + 1))) => hw.own hq (fun o => addr_ne n1)
      have e3 : ((j + 1 : Nat) : Int) - 1 = (j : Int) := by omega
      have e4 : (j : Int) + (lb : Int) + 1 = (j : Int) + (lb1 : Int) := by have := HB1.out; omega
      have l7 : j + lb1 ≤ la1 := by have := HB1.out; have := HA1.out; have := HML.out; omega
      have l8 : j < m := by omega
      have hs1 := hs
      rw [← HB1.out] at hs1
      have TO := takeOff_to w1.heap.size j lb lb1 (la1 - j) (some ⟨w.heap.size, 0, none⟩) lb1 (nk A D j) D wr HB1.out hrb2.2.1 hsg (nk_lt A D j hD0) (by have := HB1.out; omega) (by omega) hs1 HDl.out hlb HDt.out (fun o => addr_ne (Ne.symm n2))
      have HTO : Hid _ := TO
      clear hsg hq hr hrb2 hs1 hs TO
      go_wp2_with (go_at_call 48; fail)
      refine (show Calls _ _ _ _ _ from HTO.out).mono ?_
      rintro e wx ⟨rfl, hsg2, hwx⟩
      have hq1 := HQ1.out wx hwx
      have c3 : wx.cell? ⟨w2.heap.size, j, none⟩ = some (.int .u32 (wd.dg 0 j)) := Own.cell hq1 j _ (wd.xim_at _ _ _ _ _ (by omega) (by omega))
      have c4 : wx.frozen? ⟨w2.heap.size, j, none⟩ = false := Own.free hq1 j (by omega)
      have HN2 : Hid _ := HN.out wx hsg2 hwx
      have q1 : nk A D j / D < 4294967296 := Nat.div_lt_of_lt_mul (nk_lt A D j hD0)
      clear hq1 hsg2
      go_wp2
      go_roundw
      case rel => exact HN2.out
      case measure => simp [intOf]
end Go.Proofs.YtjdphcdpgjdmkaaDoor

namespace Go.Proofs.YtjdphcdpgjdmkaaDoor
open Go.RowKit
set_option linter.unusedVariables false

theorem top_le {v l : Nat} (h : wd.nlen v = l + 1) : 4294967296 ^ l ≤ v := by
  refine Nat.le_of_not_lt fun hlt => ?_
  have := wd.nlen_le hlt
  omega
set_option maxRecDepth 100000 in
set_option maxHeartbeats 1000000 in
theorem divMod_long (a b : Option Addr) (la lb ca cb u v : Nat) (w : World) (ha : Sl w a la ca (wd.dcells la (u : Int))) (hu : u < 4294967296 ^ la) (hla : la ≤ 100000000) (hb : Sl w b lb cb (wd.dcells lb (v : Int))) (hv : v < 4294967296 ^ lb) (hlb : 2 ≤ wd.nlen v) (hge : wd.nlen v ≤ wd.nlen u) :
    Calls Tryd.prog 12 #[.slice a la ca, .slice b lb cb] w (Both w (u / v) (u % v)) := by
  have hlu := wd.nlen_le hu
  have hu2 := wd.nlen_lt u
  have hv2 := wd.nlen_lt v
  obtain ⟨lu, hlu'⟩ : ∃ lu, lu = wd.nlen u := ⟨_, rfl⟩
  obtain ⟨lv, hlv'⟩ : ∃ lv, lv = wd.nlen v := ⟨_, rfl⟩
  obtain ⟨m, hm⟩ : ∃ m, m = lu - lv + 1 := ⟨_, rfl⟩
  rw [← hlu'] at hlu hu2 hge
  rw [← hlv'] at hv2 hlb hge
  have htop : 4294967296 ^ (lv - 1) ≤ v := top_le (by omega)
  have hv0 : 0 < v := Nat.lt_of_lt_of_le (wd.pow_nat _) htop
  have HT : Hid _ := htop
  have HQl : Hid (u / v < 4294967296 ^ m) := Nat.div_lt_of_lt_mul (by
    have := Nat.mul_le_mul_right (4294967296 ^ m) htop
    rw [← Nat.pow_add, show lv - 1 + m = lu by omega] at this
    omega)
  have HRl : Hid (u % v < 4294967296 ^ (lu + 1)) := by
    have := Nat.mod_lt u hv0
    have : (4294967296 : Nat) ^ lv ≤ 4294967296 ^ (lu + 1) := Nat.pow_le_pow_right (by decide) (by omega)
    unfold Hid
    omega
  have HM : Hid (m + lv = lu + 1) := by unfold Hid; omega
  have HU : Hid _ := hlu'.symm
  have HV : Hid _ := hlv'.symm
  have HU2 : Hid _ := hu2
  have HV2 : Hid _ := hv2
  have hm1 : 1 ≤ m := by omega
  clear hlu' hlv' hm htop hu2 hv2
  go_enter Tryd.func12, Tryd.ntmps12
  go_wp2_with (first
    | (go_at_call_of 29 [Value.slice a la ca]; refine (strip_to lu a la ca u _ ha hu HU.out).mono ?_; rintro e w' ⟨a1, ca1, rfl, hw, hcut1⟩; subst hw)
    | (go_at_call_of 29 [Value.slice b lb cb]; refine (strip_to lv b lb cb v _ hb hv HV.out).mono ?_; rintro e w' ⟨b1, cb1, rfl, hw, hcut2⟩; subst hw)
    | (go_at_call 34; fail))
  have sa : Sl w a1 lu ca1 (wd.dcells lu (u : Int)) := by have := hcut1.sl ha; exact this
  have sb : Sl w b1 lv cb1 (wd.dcells lv (v : Int)) := by have := hcut2.sl hb; exact this
  refine (divideLong_any a1 b1 lu lv m ca1 cb1 u v w sa HU2.out (by omega) sb HV2.out hlb HM.out hm1 HT.out).mono ?_
  rintro e w1 ⟨qb, rb, rfl, hq, hr, hbel⟩
  have HQ : Hid _ := hq
  have HR : Hid _ := hr
  clear hq hr
  obtain ⟨l1, hl1⟩ : ∃ l1, l1 = lu + 1 := ⟨_, rfl⟩
  have HL1 : Hid _ := hl1
  rw [← hl1]
  have HR1 : Hid (Own w1 w.heap.size 40 (some ⟨rb, 0, none⟩) l1 l1 (wd.dcells l1 ((u % v : Nat) : Int))) := by rw [hl1]; exact HR.out
  have HRl1 : Hid (u % v < 4294967296 ^ l1) := by rw [hl1]; exact HRl.out
  clear hl1
  go_wp2_with (go_at_call 29; fail)
  refine (strip_any (some ⟨qb, 0, none⟩) m m (u / v) w1 (Own.sl HQ.out) HQl.out).mono ?_
  rintro e w' ⟨a3, ca3, rfl, hw, hcut3⟩
  subst hw
  go_wp2_with (go_at_call 29; fail)
  refine (strip_any (some ⟨rb, 0, none⟩) l1 l1 (u % v) w1 (Own.sl HR1.out) HRl1.out).mono ?_
  rintro e w' ⟨a4, ca4, rfl, hw, hcut4⟩
  subst hw
  go_wp2
  go_ret3
  exact ⟨a3, ca3, a4, ca4, rfl, hcut3.own HQ.out, hcut4.own HR1.out, hbel⟩

/-- DivMod by a number that isn't nought. -/
theorem divMod_any (a b : Option Addr) (la lb ca cb u v : Nat) (w : World) (ha : Sl w a la ca (wd.dcells la (u : Int))) (hu : u < 4294967296 ^ la) (hla : la ≤ 100000000) (hb : Sl w b lb cb (wd.dcells lb (v : Int))) (hv : v < 4294967296 ^ lb) (h0 : 0 < v) :
    Calls Tryd.prog 12 #[.slice a la ca, .slice b lb cb] w (Both w (u / v) (u % v)) := by
  rcases Nat.lt_or_ge (wd.nlen u) (wd.nlen v) with h | h
  · exact divMod_less a b la lb ca cb u v w ha hu (by omega) hb hv h
  · rcases Nat.lt_or_ge (wd.nlen v) 2 with h2 | h2
    · have h1 : wd.nlen v = 1 := by
        rcases Nat.eq_zero_or_pos (wd.nlen v) with e | e
        · have := wd.nlen_lt v
          rw [e] at this
          simp at this
          omega
        · omega
      exact divMod_word a b la lb ca cb u v w ha hu (by omega) hb hv h1 (by omega)
    · exact divMod_long a b la lb ca cb u v w ha hu hla hb hv h2 h
end Go.Proofs.YtjdphcdpgjdmkaaDoor

namespace Go.Proofs.YtjdphcdpgjdmkaaDoor
open Go.RowKit
set_option linter.unusedVariables false

/-- The slice is the number u, without noughts at its end. -/
structure ND (w : World) (a : Option Addr) (l c u : Nat) : Prop where
  sl : Sl w a l c (wd.dcells l (u : Int))
  len : l = wd.nlen u
/-- The slice is the number u, and not too long. -/
structure NI (w : World) (a : Option Addr) (l c u : Nat) : Prop where
  sl : Sl w a l c (wd.dcells l (u : Int))
  lt : u < 4294967296 ^ l
  few : l ≤ 1000000
theorem ND.below {w w' : World} {a : Option Addr} {l c u : Nat} (h : ND w a l c u) (hb : Below w.heap.size w w') : ND w' a l c u := ⟨h.sl.below hb, h.len⟩
theorem NI.below {w w' : World} {a : Option Addr} {l c u : Nat} (h : NI w a l c u) (hb : Below w.heap.size w w') : NI w' a l c u := ⟨h.sl.below hb, h.lt, h.few⟩
theorem ND.lt {w : World} {a : Option Addr} {l c u : Nat} (h : ND w a l c u) : u < 4294967296 ^ l := by rw [h.len]; exact wd.nlen_lt u
theorem ND.ni {w : World} {a : Option Addr} {l c u : Nat} (h : ND w a l c u) (K : Nat) (hK : K ≤ 1000000) (hu : u < 4294967296 ^ K) : NI w a l c u := ⟨h.sl, h.lt, by rw [h.len]; exact Nat.le_trans (wd.nlen_le hu) hK⟩
theorem ND.to {w : World} {a : Option Addr} {l c u : Nat} (h : ND w a l c u) (hl : l ≤ 1000000) : NI w a l c u := ⟨h.sl, h.lt, hl⟩
theorem nd_nil (w : World) : ND w none 0 0 0 := ⟨sl_nil w, wd.nlen_zero.symm⟩
def GotN (w : World) (u : Nat) (e : Ending) (w' : World) : Prop := ∃ a l c, e = .returned (.slice a l c) ∧ ND w' a l c u ∧ Below w.heap.size w w'
theorem gotN {w w' : World} {u : Nat} {e : Ending} (h : ∃ a' cap', e = .returned (.slice a' (wd.nlen u) cap') ∧ Own w' w.heap.size 40 a' (wd.nlen u) cap' (wd.dcells (wd.nlen u) (u : Int)) ∧ Below w.heap.size w w') : GotN w u e w' := by
  obtain ⟨a, c, he, ho, hb⟩ := h
  exact ⟨a, _, c, he, ⟨Own.sl ho, rfl⟩, hb⟩
def GotB (w : World) (q r : Nat) (e : Ending) (w' : World) : Prop := ∃ aq lq cq ar lr cr, e = .returned (.tuple #[.slice aq lq cq, .slice ar lr cr, .int .i64 0]) ∧ ND w' aq lq cq q ∧ ND w' ar lr cr r ∧ Below w.heap.size w w'
def GotS (w : World) (u : Nat) (e : Ending) (w' : World) : Prop := ∃ a l c, e = .returned (.tuple #[.slice a l c, .bool true]) ∧ ND w' a l c u ∧ Below w.heap.size w w'
theorem nTrim (a : Option Addr) (l c u : Nat) (w : World) (h : NI w a l c u) : Calls Tryd.prog 15 #[.slice a l c] w (GotN w u) :=
  (trim_any a l c u w h.sl h.lt (by have := h.few; omega)).mono fun _ _ h => gotN h
theorem nOf (x : Nat) (hx : x < 18446744073709551616) {xv : Int} (hxv : xv = (x : Int)) (w : World) : Calls Tryd.prog 13 #[.int .u64 xv] w (GotN w x) :=
  (of_any x hx hxv w).mono fun _ _ h => gotN h
theorem nDiv (a b : Option Addr) (la lb ca cb u v : Nat) (w : World) (ha : NI w a la ca u) (hb : NI w b lb cb v) (h0 : 0 < v) : Calls Tryd.prog 12 #[.slice a la ca, .slice b lb cb] w (GotB w (u / v) (u % v)) :=
  (divMod_any a b la lb ca cb u v w ha.sl ha.lt (by have := ha.few; omega) hb.sl hb.lt h0).mono fun _ _ h => by
    obtain ⟨aq, cq, ar, cr, he, hq, hr, hb⟩ := h
    exact ⟨aq, _, cq, ar, _, cr, he, ⟨Own.sl hq, rfl⟩, ⟨Own.sl hr, rfl⟩, hb⟩
theorem nDiv0 (a b : Option Addr) (la lb ca cb u v : Nat) (w : World) (ha : NI w a la ca u) (hb : NI w b lb cb v) (h0 : v = 0) : Calls Tryd.prog 12 #[.slice a la ca, .slice b lb cb] w fun e w' => e = .returned (.tuple #[.slice none 0 0, .slice none 0 0, .int .i64 3]) ∧ w = w' := by
  subst h0
  exact divMod_zero a b la lb ca cb u w ha.sl ha.lt hb.sl
theorem nCmp (a b : Option Addr) (la lb ca cb u v : Nat) (w : World) (ha : NI w a la ca u) (hb : NI w b lb cb v) {c : Int} (hc : c = cmpI u v) : Calls Tryd.prog 11 #[.slice a la ca, .slice b lb cb] w fun e w' => e = .returned (.int .i64 c) ∧ Below w.heap.size w w' := by
  subst hc
  exact cmp_any a b la lb ca cb u v w ha.sl ha.lt hb.sl hb.lt
theorem nBits (a : Option Addr) (la ca u : Nat) (w : World) (ha : NI w a la ca u) {n : Nat} (hn : n = bt.nlen u) : Calls Tryd.prog 16 #[.slice a la ca] w fun e w' => e = .returned (.int .i64 (n : Int)) ∧ w = w' := by
  subst hn
  exact bits_any a la ca u w ha.sl ha.lt (by have := ha.few; omega)
theorem nShow (a : Option Addr) (la ca u : Nat) (w : World) (ha : NI w a la ca u) {s : ByteArray} (hs : s = decS u) : Calls Tryd.prog 28 #[.slice a la ca] w fun e w' => e = .returned (.string s) ∧ Below w.heap.size w w' := by
  subst hs
  exact show_any a la ca u w ha.sl ha.lt (by have := ha.few; omega)
end Go.Proofs.YtjdphcdpgjdmkaaDoor

namespace Go.Proofs.YtjdphcdpgjdmkaaDoor
open Go.RowKit
set_option linter.unusedVariables false

/-- What holds at the head of each round: two words of the same greatest divisor. -/
def SmallRel (g : Nat) (a b : Value) : Prop := ∃ x y : Nat, a = .int .u64 (x : Int) ∧ b = .int .u64 (y : Int) ∧ Hid (Nat.gcd x y = g) ∧ x < 18446744073709551616 ∧ y < 18446744073709551616
set_option maxRecDepth 100000 in
set_option maxHeartbeats 1000000 in
theorem gcdSmall_any (x y : Nat) (hx : x < 18446744073709551616) (hy : y < 18446744073709551616) (w : World) :
    Calls Tryd.prog 18 #[.int .u64 (x : Int), .int .u64 (y : Int)] w fun e w' => e = .returned (.int .u64 (Nat.gcd x y : Int)) ∧ Below w.heap.size w w' := by
  obtain ⟨g, hg⟩ : ∃ g, g = Nat.gcd x y := ⟨_, rfl⟩
  have HG : Hid _ := hg.symm
  rw [← hg]
  clear hg
  go_enter Tryd.func18, Tryd.ntmps18
  go_wp2
  go_loopw [0, 1] (fun a b wr => SmallRel g a b ∧ Below w.heap.size w wr) (fun _ b _ => (intOf b).toNat)
  case atStart => exact ⟨⟨x, y, rfl, rfl, HG.out, hx, hy⟩, Below.refl _ _⟩
  case round =>
    obtain ⟨⟨p, q, rfl, rfl, H, hp, hq⟩, hbel⟩ := hrel
    rcases Nat.eq_zero_or_pos q with h0 | h0
    · subst h0
      have hpg : p = g := by have := H.out; simpa using this
      subst hpg
      go_wp2
      go_ret
      exact ⟨rfl, by first | exact hbel | exact hbel.drew⟩
    · have f1 : ¬ (q : Int) = 0 := by omega
      obtain ⟨r, hr⟩ : ∃ r, r = p % q := ⟨_, rfl⟩
      have E : (p : Int) % (q : Int) = (r : Int) := by rw [hr, Int.natCast_emod]
      have hrq : r < q := by rw [hr]; exact Nat.mod_lt _ h0
      have HN : Hid (Nat.gcd q r = g) := by
        unfold Hid
        rw [hr, ← H.out, Nat.gcd_comm q (p % q), ← Nat.gcd_rec, Nat.gcd_comm]
      clear hr
      go_wp2
      go_quiet (fail)
      go_wp2
      try rw [E]
      go_roundw
      case rel => exact ⟨⟨q, r, rfl, by first | rfl | rw [E], HN.out, hq, by omega⟩, ⟨hbel.os, hbel.tape, hbel.output, hbel.size, hbel.block⟩⟩
      case measure => simp [intOf]; omega

set_option maxRecDepth 100000 in
set_option maxHeartbeats 1000000 in
theorem restOf_any (a b : Option Addr) (la lb ca cb u v : Nat) (w : World) (ha : Sl w a la ca (wd.dcells la (u : Int))) (hu : u < 4294967296 ^ la) (hla : la ≤ 100000000) (hb : Sl w b lb cb (wd.dcells lb (v : Int))) (hv : v < 4294967296 ^ lb) (h0 : 0 < v) :
    Calls Tryd.prog 20 #[.slice a la ca, .slice b lb cb] w fun e w' => ∃ ar cr, e = .returned (.slice ar (wd.nlen (u % v)) cr) ∧ Own w' w.heap.size 40 ar (wd.nlen (u % v)) cr (wd.dcells (wd.nlen (u % v)) ((u % v : Nat) : Int)) ∧ Below w.heap.size w w' := by
  obtain ⟨R, hR⟩ : ∃ R, R = u % v := ⟨_, rfl⟩
  obtain ⟨Q, hQ⟩ : ∃ Q, Q = u / v := ⟨_, rfl⟩
  have H := divMod_any a b la lb ca cb u v w ha hu hla hb hv h0
  rw [← hR, ← hQ] at H
  have HH : Hid _ := H
  rw [← hR]
  clear hR hQ H
  go_enter Tryd.func20, Tryd.ntmps20
  go_wp2_with (go_at_call 12; fail)
  refine (show Calls _ _ _ _ (Both w Q R) from HH.out).mono ?_
  rintro e w6 ⟨aq, cq, ar, cr, rfl, hownQ, hownR, hbel⟩
  have HO : Hid _ := hownR
  clear hownQ hownR
  go_wp2
  go_ret
  exact ⟨ar, cr, rfl, HO.out, hbel⟩
end Go.Proofs.YtjdphcdpgjdmkaaDoor

namespace Go.Proofs.YtjdphcdpgjdmkaaDoor
open Go.RowKit
set_option linter.unusedVariables false

theorem head_math (X d2 d1 d0 s : Nat) (h2 : d2 = X / 18446744073709551616 % 4294967296) (h1 : d1 = X / 4294967296 % 4294967296) (h0 : d0 = X % 4294967296) (hs : s < 32) :
    (d1 * 4294967296 + d0) / 2 ^ s + d2 * 2 ^ (64 - s) % 18446744073709551616 = X / 2 ^ s % 18446744073709551616 ∧ (d1 * 4294967296 + d0) / 2 ^ s < 2 ^ (64 - s) ∧ d2 * 2 ^ (64 - s) % 18446744073709551616 % 2 ^ (64 - s) = 0 := by
  have hp : 0 < 2 ^ s := Nat.pow_pos (by decide)
  have hq : 0 < 2 ^ (64 - s) := Nat.pow_pos (by decide)
  have e64 : 2 ^ (64 - s) * 2 ^ s = 18446744073709551616 := by rw [← Nat.pow_add, show 64 - s + s = 64 by omega]
  have e32 : 2 ^ (32 - s) * 2 ^ s = 4294967296 := by rw [← Nat.pow_add, show 32 - s + s = 32 by omega]
  have elow : d1 * 4294967296 + d0 = X % 18446744073709551616 := by omega
  have hlow : (d1 * 4294967296 + d0) / 2 ^ s < 2 ^ (64 - s) := by
    rw [elow]
    refine Nat.div_lt_of_lt_mul ?_
    rw [Nat.mul_comm, e64]
    exact Nat.mod_lt _ (by decide)
  have hm : d2 * 2 ^ (64 - s) % 18446744073709551616 % 2 ^ (64 - s) = 0 := by
    rw [← e64, Nat.mod_mul_right_mod, Nat.mul_mod_left]
  refine ⟨?_, hlow, hm⟩
  have hX : X = X / 79228162514264337593543950336 * 79228162514264337593543950336 + d2 * 18446744073709551616 + (d1 * 4294967296 + d0) := by omega
  obtain ⟨low, hl⟩ : ∃ low, low = d1 * 4294967296 + d0 := ⟨_, rfl⟩
  rw [← hl] at hX hlow ⊢
  clear hl elow h0 h1
  obtain ⟨t, ht⟩ : ∃ t, t = X / 79228162514264337593543950336 := ⟨_, rfl⟩
  rw [← ht] at hX
  have e96 : t * 79228162514264337593543950336 = t * 2 ^ (32 - s) * 18446744073709551616 * 2 ^ s := by
    rw [Nat.mul_assoc, Nat.mul_assoc, Nat.mul_comm 18446744073709551616 (2 ^ s), ← Nat.mul_assoc (2 ^ (32 - s)), e32]
  have ed : d2 * 18446744073709551616 = d2 * 2 ^ (64 - s) * 2 ^ s := by rw [Nat.mul_assoc, e64]
  have hdiv : X / 2 ^ s = t * 2 ^ (32 - s) * 18446744073709551616 + d2 * 2 ^ (64 - s) + low / 2 ^ s := by
    rw [hX, e96, ed, ← Nat.add_mul, Nat.add_comm, Nat.add_mul_div_right _ _ hp]
    omega
  rw [hdiv]
  obtain ⟨M, hMe⟩ : ∃ M, M = d2 * 2 ^ (64 - s) := ⟨_, rfl⟩
  obtain ⟨T, hTe⟩ : ∃ T, T = t * 2 ^ (32 - s) := ⟨_, rfl⟩
  rw [← hMe] at hm ⊢
  rw [← hTe]
  clear hdiv ed e96 hX hMe hTe h2
  have hM : M % 18446744073709551616 + low / 2 ^ s < 18446744073709551616 := by
    obtain ⟨c, hc⟩ := Nat.dvd_of_mod_eq_zero hm
    have h3 : M % 18446744073709551616 < 18446744073709551616 := Nat.mod_lt _ (by decide)
    rw [hc] at h3 ⊢
    rw [← e64] at h3 ⊢
    have h4 : c < 2 ^ s := Nat.lt_of_mul_lt_mul_left h3
    have h5 : 2 ^ (64 - s) * (c + 1) ≤ 2 ^ (64 - s) * 2 ^ s := Nat.mul_le_mul_left _ h4
    rw [Nat.mul_add, Nat.mul_one] at h5
    omega
  obtain ⟨L, hL⟩ : ∃ L, L = low / 2 ^ s := ⟨_, rfl⟩
  rw [← hL] at hM ⊢
  clear hL hlow hm e64 e32
  omega
theorem dg_nat (u i : Nat) : wd.dg (u : Int) i = ((u / 4294967296 ^ i % 4294967296 : Nat) : Int) := by
  unfold wd.dg
  rw [Int.natCast_emod, Int.natCast_ediv, wd.pow_cast]
  rfl
theorem pow_from (f : Nat) : 2 ^ f = 4294967296 ^ (f / 32) * 2 ^ (f % 32) := by
  rw [show (4294967296 : Nat) = 2 ^ 32 from rfl, ← Nat.pow_mul, ← Nat.pow_add]
  congr 1
  omega
set_option maxRecDepth 100000 in
set_option maxHeartbeats 1000000 in
theorem headAt_any (a : Option Addr) (l cap u f : Nat) (w : World) (ha : Sl w a l cap (wd.dcells l (u : Int))) (hu : u < 4294967296 ^ l) (hf : f ≤ 100000000000) :
    Calls Tryd.prog 37 #[.slice a l cap, .int .i64 (f : Int)] w fun e w' => e = .returned (.int .u64 ((u / 2 ^ f % 18446744073709551616 : Nat) : Int)) ∧ Below w.heap.size w w' := by
  obtain ⟨i, hi⟩ : ∃ i, i = f / 32 := ⟨_, rfl⟩
  obtain ⟨s, hs⟩ : ∃ s, s = f % 32 := ⟨_, rfl⟩
  obtain ⟨X, hX⟩ : ∃ X, X = u / 4294967296 ^ i := ⟨_, rfl⟩
  have hs32 : s < 32 := by omega
  have n0 := dg_nat u i
  have n1 := dg_nat u (i + 1)
  have n2 := dg_nat u (i + 2)
  rw [Nat.pow_succ, ← Nat.div_div_eq_div_mul, ← hX] at n1
  rw [show i + 2 = i + 1 + 1 from rfl, Nat.pow_succ, Nat.pow_succ, ← Nat.div_div_eq_div_mul, ← Nat.div_div_eq_div_mul, ← hX, Nat.div_div_eq_div_mul] at n2
  rw [← hX] at n0
  obtain ⟨d0, hd0⟩ : ∃ d, d = X % 4294967296 := ⟨_, rfl⟩
  obtain ⟨d1, hd1⟩ : ∃ d, d = X / 4294967296 % 4294967296 := ⟨_, rfl⟩
  obtain ⟨d2, hd2⟩ : ∃ d, d = X / 18446744073709551616 % 4294967296 := ⟨_, rfl⟩
  rw [← hd0] at n0
  rw [← hd1] at n1
  rw [show 4294967296 * 4294967296 = 18446744073709551616 from rfl, ← hd2] at n2
  obtain ⟨m1, m2, m3⟩ := head_math X d2 d1 d0 s hd2 hd1 hd0 hs32
  have hres : u / 2 ^ f = X / 2 ^ s := by rw [pow_from, ← hi, ← hs, hX, Nat.div_div_eq_div_mul]
  rw [hres, ← m1]
  have b0 : d0 < 4294967296 := by omega
  have b1 : d1 < 4294967296 := by omega
  have b2 : d2 < 4294967296 := by omega
  obtain ⟨LOW, hLOW⟩ : ∃ L, L = d1 * 4294967296 + d0 := ⟨_, rfl⟩
  rw [← hLOW] at m2 ⊢
  obtain ⟨Lw, hLw⟩ : ∃ L, L = LOW / 2 ^ s := ⟨_, rfl⟩
  obtain ⟨Hg, hHg⟩ : ∃ H, H = d2 * 2 ^ (64 - s) % 18446744073709551616 := ⟨_, rfl⟩
  rw [← hLw] at m2 ⊢
  rw [← hHg] at m3 ⊢
  obtain ⟨t, ht⟩ : ∃ t, t = 64 - s := ⟨_, rfl⟩
  rw [← ht] at hHg m2 m3
  have bH : Hg < 18446744073709551616 := by rw [hHg]; exact Nat.mod_lt _ (by decide)
  have bL : Lw < 18446744073709551616 := Nat.lt_of_lt_of_le m2 (Nat.le_trans (Nat.pow_le_pow_right (by decide) (show t ≤ 64 by omega)) (by decide))
  have E1 : (LOW : Int) / 2 ^ s = (Lw : Int) := by rw [hLw, Int.natCast_ediv, Int.natCast_pow]; rfl
  have E2 : IntKind.u64.wrap ((d2 : Int) * 2 ^ t) = (Hg : Int) := by rw [hHg, IntKind.wrap_u64, Int.natCast_emod, Int.natCast_mul, Int.natCast_pow]; rfl
  have E3 : bits BinOp.or IntKind.u64 (Lw : Int) (Hg : Int) = ((Lw + Hg : Nat) : Int) := by
    rw [u64_or_nat _ _ (by omega) (by omega), Nat.or_comm, nat_join t Hg Lw m3 m2]
    omega
  have E4 : bits BinOp.or IntKind.u64 ((d1 : Int) * 4294967296) (d0 : Int) = (LOW : Int) := by rw [join_bits _ _ (by omega) (by omega) (by omega) (by omega)]; omega
  have E5 : (64 : Int) - (s : Int) = (t : Int) := by omega
  have E6 : (f : Int) / 32 = (i : Int) := by omega
  have E7 : (f : Int) % 32 = (s : Int) := by omega
  have bi : i ≤ 100000000000 := by omega
  have ht64 : t ≤ 64 := by omega
  have HW1 : Hid _ := n1
  have HW0 : Hid _ := n0
  have HW2 : Hid (∀ n, Calls Tryd.prog 50 #[.slice a l cap, .int .i64 ((i : Int) + 2)] (w.drewN n) fun e w'' => e = .returned (.int .u32 (d2 : Int)) ∧ ∃ m, w'' = w.drewN m) := fun n => by
    have h := wordAt_any a l cap u (i + 2) (iv := (i : Int) + 2) (w.drewN n) (ha.below ⟨rfl, rfl, rfl, Nat.le_refl _, fun _ _ => rfl⟩) hu (by omega)
    rw [n2] at h
    refine h.mono ?_
    rintro e w' ⟨rfl, hw⟩
    exact ⟨rfl, n, hw.symm⟩
  clear hi hs hX n0 n1 n2 hd0 hd1 hd2 m1 m2 m3 hres hLOW hLw hHg ht
  go_enter Tryd.func37, Tryd.ntmps37
  go_wp2_with (go_at_call 50; fail)
  refine (wordAt_any a l cap u (i + 1) (iv := (i : Int) + 1) w ha hu (by omega)).mono ?_
  rw [HW1.out]
  rintro e w' ⟨rfl, hw⟩
  subst hw
  go_wp2_with (go_at_call 50; fail)
  refine (wordAt_any a l cap u i (iv := (i : Int)) w ha hu rfl).mono ?_
  rw [HW0.out]
  rintro e w' ⟨rfl, hw⟩
  subst hw
  go_wp2
  go_quiet (first | (go_at_call 50; exact HW2.out _))
  go_wp2
  go_ret
  exact ⟨by first | rfl | simp, ⟨rfl, rfl, rfl, Nat.le_refl _, fun _ _ => rfl⟩⟩

set_option maxRecDepth 100000 in
set_option maxHeartbeats 1000000 in
theorem small_any (a : Option Addr) (l cap u : Nat) (w : World) (ha : Sl w a l cap (wd.dcells l (u : Int))) (hu : u < 4294967296 ^ l) (h64 : u < 18446744073709551616) :
    Calls Tryd.prog 19 #[.slice a l cap] w fun e w' => e = .returned (.int .u64 (u : Int)) ∧ Below w.heap.size w w' := by
  have H := headAt_any a l cap u 0 w ha hu (by omega)
  rw [Nat.pow_zero, Nat.div_one, Nat.mod_eq_of_lt h64] at H
  have HH : Hid _ := H
  clear H
  go_enter Tryd.func19, Tryd.ntmps19
  go_wp2_with (go_at_call 37; fail)
  refine (show Calls _ _ _ _ (fun e w' => e = .returned (.int .u64 (u : Int)) ∧ Below w.heap.size w w') from HH.out).mono ?_
  rintro e w' ⟨rfl, hb⟩
  go_wp2
  go_ret
  exact ⟨rfl, hb⟩
end Go.Proofs.YtjdphcdpgjdmkaaDoor

namespace Go.Proofs.YtjdphcdpgjdmkaaDoor
open Go.RowKit
set_option linter.unusedVariables false

/-- What holds at the head of each round, where the first product is the greater. -/
def OverRel (w : World) (P u Q v : Int) (l b : Nat) (ua ub r i : Value) (wr : World) : Prop := ∃ k : Nat, k ≤ l ∧ i = .int .i64 (k : Int) ∧ ua = .int .u64 (sc P u k) ∧ ub = .int .u64 (sc Q v k) ∧ r = .int .u64 (wd.bw (P * u) (Q * v) k) ∧
  Own wr w.heap.size 40 (some ⟨b, 0, none⟩) l l (wd.mix l k (P * u - Q * v) 0) ∧ Below w.heap.size w wr
theorem over_next (w wr : World) (P u Q v za zb d : Int) (l b k : Nat) (hk : k < l) (hb : w.heap.size ≤ b) (hza : za = sc P u k + P * wd.dg u k) (hzb : zb = sc Q v k + Q * wd.dg v k) (hd : d = (za % 4294967296 - zb % 4294967296 - wd.bw (P * u) (Q * v) k) % 18446744073709551616)
    (hown : Own wr w.heap.size 40 (some ⟨b, 0, none⟩) l l (wd.mix l k (P * u - Q * v) 0)) (hbel : Below w.heap.size w wr) :
    OverRel w P u Q v l b (.int .u64 (za / 4294967296)) (.int .u64 (zb / 4294967296)) (.int .u64 (d / 9223372036854775808)) (.int .i64 ((k : Int) + 1)) (wr.setCell ⟨b, k, none⟩ (.int .u32 (d % 4294967296))) := by
  subst hza hzb
  rw [sc_digit, sc_digit] at hd
  obtain ⟨r0, r1⟩ := wd.bw_range (P * u) (Q * v) k
  obtain ⟨x0, x1⟩ := wd.dg_range (P * u) k
  obtain ⟨y0, y1⟩ := wd.dg_range (Q * v) k
  have e1 : d % 4294967296 = wd.dg (P * u - Q * v) k := by rw [← wd.sub_digit, hd]; omega
  have e2 : d / 9223372036854775808 = wd.bw (P * u) (Q * v) (k + 1) := by
    rw [← wd.bw_succ, hd]
    unfold wd.bor
    split <;> omega
  refine ⟨k + 1, by omega, by simp, by rw [sc_succ], by rw [sc_succ], by rw [e2], ?_, hbel.setCell hb _⟩
  rw [e1, ← wd.mix_set]
  exact Own.set hown _ hk

set_option maxRecDepth 100000 in
set_option maxHeartbeats 1000000 in
theorem between_over (a b : Option Addr) (la lb ca cb u v P Q : Nat) (w : World) (ha : Sl w a la ca (wd.dcells la (u : Int))) (hu : u < 4294967296 ^ la) (hla : la ≤ 1000000000) (hb : Sl w b lb cb (wd.dcells lb (v : Int))) (hv : v < 4294967296 ^ lb) (hP : P < 4294967296) (hQ : Q < 4294967296) (hle : Q * v ≤ P * u) (hlt : P * u - Q * v < 4294967296 ^ la) :
    Calls Tryd.prog 38 #[.slice a la ca, .slice b lb cb, .int .u64 (P : Int), .int .u64 (Q : Int), .bool true] w fun e w' => ∃ a' cap', e = .returned (.slice a' (wd.nlen (P * u - Q * v)) cap') ∧ Own w' w.heap.size 40 a' (wd.nlen (P * u - Q * v)) cap' (wd.dcells (wd.nlen (P * u - Q * v)) ((P * u - Q * v : Nat) : Int)) ∧ Below w.heap.size w w' := by
  obtain ⟨i0, hi0, hz0, hz1, hz2⟩ := info_parts infoWord
  have hz0' : wd.dcells la 0 = List.replicate la (.int .u32 0) := wd.dcells_zero _
  have hmax : la ≤ maxLen := by unfold maxLen; omega
  have HE : Hid ((P : Int) * u - (Q : Int) * v = ((P * u - Q * v : Nat) : Int)) := by unfold Hid; rw [Int.ofNat_sub hle, Int.natCast_mul, Int.natCast_mul]
  have HL : Hid _ := hlt
  clear hlt hle
  obtain ⟨Z, hZ⟩ : ∃ Z, Z = P * u - Q * v := ⟨_, rfl⟩
  rw [← hZ] at HE HL ⊢
  clear hZ
  have hcap := ha.big
  have hroom := ha.room
  unfold maxLen at hcap
  go_enter Tryd.func38, Tryd.ntmps38
  go_wp2_with (at_make; refine make_any _ rfl (.tmp 21) (.tmp 21) 23 rfl w.heap.size 40 i0 (.int .u32 0) Tryd.underlying23 hi0 hz0 hz1 rfl .i64 .i64 _ _ la rfl rfl (by simp) (by simp) (by rw [hz2]; omega) (by omega) (Nat.le_refl _) ?_; intro w1 hown hbel)
  rw [← hz0', ← wd.mix_zero la ((P : Int) * u - (Q : Int) * v)] at hown
  go_loopw [12, 13, 14, 25] (fun ua ub r i wr => OverRel w P u Q v la w.heap.size ua ub r i wr) (fun _ _ _ i _ => la - (intOf i).toNat)
  case atStart => exact ⟨0, by omega, rfl, by rw [sc_zero], by rw [sc_zero], by rw [wd.bw_zero], hown, hbel⟩
  case round =>
    clear hown hbel
    obtain ⟨k, hk, rfl, rfl, rfl, rfl, hown, hbel⟩ := hrel
    by_cases hlt : k < la
    · obtain ⟨ba, oa, rfl, hba, hseg⟩ := ha.at (by omega)
      have c1 : wr.cell? ⟨ba, oa + k, none⟩ = some (.int .u32 (wd.dg u k)) := (hbel.cell (p := ⟨ba, oa + k, none⟩) hba).trans (hseg.cell k _ (wd.dcells_at _ _ _ hlt))
      have c3 : wr.cell? ⟨w.heap.size, k, none⟩ = some (.int .u32 (wd.dg 0 k)) := Own.cell hown k _ (wd.mix_at _ _ _ _ _ (by omega) (Nat.le_refl _))
      have c4 : wr.frozen? ⟨w.heap.size, k, none⟩ = false := Own.free hown k (by omega)
      obtain ⟨d0, d1⟩ := wd.dg_range u k
      obtain ⟨e0, e1⟩ := wd.dg_range v k
      obtain ⟨f0, f1⟩ := sc_range P u k (by omega) (by omega)
      obtain ⟨g0, g1⟩ := sc_range Q v k (by omega) (by omega)
      obtain ⟨x0, x1⟩ := xdg P u k (by omega) (by omega)
      obtain ⟨y0, y1⟩ := xdg Q v k (by omega) (by omega)
      obtain ⟨r0, r1⟩ := wd.bw_range ((P : Int) * u) ((Q : Int) * v) k
      have HN : Hid _ := fun za zb d h1 h2 h3 => over_next w wr P u Q v za zb d la w.heap.size k hlt (Nat.le_refl _) h1 h2 h3 hown hbel
      obtain ⟨za, hza⟩ : ∃ z, z = sc (P : Int) u k + P * wd.dg u k := ⟨_, rfl⟩
      obtain ⟨zb, hzb⟩ : ∃ z, z = sc (Q : Int) v k + Q * wd.dg v k := ⟨_, rfl⟩
      have Ea : sc (P : Int) u k + P * wd.dg u k = za := hza.symm
      have Eb : sc (Q : Int) v k + Q * wd.dg v k = zb := hzb.symm
      have za0 : 0 ≤ za := by omega
      have za1 : za < 18446744073709551616 := by omega
      have zb0 : 0 ≤ zb := by omega
      have zb1 : zb < 18446744073709551616 := by omega
      have HN : Hid _ := fun d => HN.out za zb d hza hzb
      have hs2 := hb.below hbel
      clear hown hza hzb hseg
      go_wp2_with (go_at_call 50; refine (wordAt_any _ _ _ v k _ hs2 hv rfl).mono ?_; rintro e w' ⟨rfl, hw⟩; subst hw)
      go_roundw
      case rel => exact HN.out _ (by rw [IntKind.wrap_u64, IntKind.wrap_u64]; omega)
      case measure => simp [intOf]; omega
    · obtain rfl : k = la := by omega
      rw [wd.mix_full, HE.out] at hown
      go_wp2_with (go_at_call 29; refine (strip_any _ _ _ Z _ hown.sl HL.out).mono ?_; rintro e w' ⟨a3, c3', rfl, hw, hcut3⟩; subst hw)
      go_ret
      exact ⟨a3, c3', rfl, hcut3.own hown, hbel⟩
set_option maxRecDepth 100000 in
set_option maxHeartbeats 1000000 in
theorem between_under (a b : Option Addr) (la lb ca cb u v P Q : Nat) (w : World) (ha : Sl w a la ca (wd.dcells la (u : Int))) (hu : u < 4294967296 ^ la) (hla : la ≤ 1000000000) (hb : Sl w b lb cb (wd.dcells lb (v : Int))) (hv : v < 4294967296 ^ lb) (hP : P < 4294967296) (hQ : Q < 4294967296) (hle : P * u ≤ Q * v) (hlt : Q * v - P * u < 4294967296 ^ la) :
    Calls Tryd.prog 38 #[.slice a la ca, .slice b lb cb, .int .u64 (P : Int), .int .u64 (Q : Int), .bool false] w fun e w' => ∃ a' cap', e = .returned (.slice a' (wd.nlen (Q * v - P * u)) cap') ∧ Own w' w.heap.size 40 a' (wd.nlen (Q * v - P * u)) cap' (wd.dcells (wd.nlen (Q * v - P * u)) ((Q * v - P * u : Nat) : Int)) ∧ Below w.heap.size w w' := by
  obtain ⟨i0, hi0, hz0, hz1, hz2⟩ := info_parts infoWord
  have hz0' : wd.dcells la 0 = List.replicate la (.int .u32 0) := wd.dcells_zero _
  have hmax : la ≤ maxLen := by unfold maxLen; omega
  have HE : Hid ((Q : Int) * v - (P : Int) * u = ((Q * v - P * u : Nat) : Int)) := by unfold Hid; rw [Int.ofNat_sub hle, Int.natCast_mul, Int.natCast_mul]
  have HL : Hid _ := hlt
  clear hlt hle
  obtain ⟨Z, hZ⟩ : ∃ Z, Z = Q * v - P * u := ⟨_, rfl⟩
  rw [← hZ] at HE HL ⊢
  clear hZ
  have hcap := ha.big
  have hroom := ha.room
  unfold maxLen at hcap
  go_enter Tryd.func38, Tryd.ntmps38
  go_wp2_with (at_make; refine make_any _ rfl (.tmp 21) (.tmp 21) 23 rfl w.heap.size 40 i0 (.int .u32 0) Tryd.underlying23 hi0 hz0 hz1 rfl .i64 .i64 _ _ la rfl rfl (by simp) (by simp) (by rw [hz2]; omega) (by omega) (Nat.le_refl _) ?_; intro w1 hown hbel)
  rw [← hz0', ← wd.mix_zero la ((Q : Int) * v - (P : Int) * u)] at hown
  go_loopw [12, 13, 14, 25] (fun ua ub r i wr => OverRel w Q v P u la w.heap.size ub ua r i wr) (fun _ _ _ i _ => la - (intOf i).toNat)
  case atStart => exact ⟨0, by omega, rfl, by rw [sc_zero], by rw [sc_zero], by rw [wd.bw_zero], hown, hbel⟩
  case round =>
    clear hown hbel
    obtain ⟨k, hk, rfl, rfl, rfl, rfl, hown, hbel⟩ := hrel
    by_cases hlt : k < la
    · obtain ⟨ba, oa, rfl, hba, hseg⟩ := ha.at (by omega)
      have c1 : wr.cell? ⟨ba, oa + k, none⟩ = some (.int .u32 (wd.dg u k)) := (hbel.cell (p := ⟨ba, oa + k, none⟩) hba).trans (hseg.cell k _ (wd.dcells_at _ _ _ hlt))
      have c3 : wr.cell? ⟨w.heap.size, k, none⟩ = some (.int .u32 (wd.dg 0 k)) := Own.cell hown k _ (wd.mix_at _ _ _ _ _ (by omega) (Nat.le_refl _))
      have c4 : wr.frozen? ⟨w.heap.size, k, none⟩ = false := Own.free hown k (by omega)
      obtain ⟨d0, d1⟩ := wd.dg_range u k
      obtain ⟨e0, e1⟩ := wd.dg_range v k
      obtain ⟨f0, f1⟩ := sc_range P u k (by omega) (by omega)
      obtain ⟨g0, g1⟩ := sc_range Q v k (by omega) (by omega)
      obtain ⟨x0, x1⟩ := xdg P u k (by omega) (by omega)
      obtain ⟨y0, y1⟩ := xdg Q v k (by omega) (by omega)
      obtain ⟨r0, r1⟩ := wd.bw_range ((Q : Int) * v) ((P : Int) * u) k
      have HN : Hid _ := fun za zb d h1 h2 h3 => over_next w wr Q v P u zb za d la w.heap.size k hlt (Nat.le_refl _) h2 h1 h3 hown hbel
      obtain ⟨za, hza⟩ : ∃ z, z = sc (P : Int) u k + P * wd.dg u k := ⟨_, rfl⟩
      obtain ⟨zb, hzb⟩ : ∃ z, z = sc (Q : Int) v k + Q * wd.dg v k := ⟨_, rfl⟩
      have Ea : sc (P : Int) u k + P * wd.dg u k = za := hza.symm
      have Eb : sc (Q : Int) v k + Q * wd.dg v k = zb := hzb.symm
      have za0 : 0 ≤ za := by omega
      have za1 : za < 18446744073709551616 := by omega
      have zb0 : 0 ≤ zb := by omega
      have zb1 : zb < 18446744073709551616 := by omega
      have HN : Hid _ := fun d => HN.out za zb d hza hzb
      have hs2 := hb.below hbel
      clear hown hza hzb hseg
      go_wp2_with (go_at_call 50; refine (wordAt_any _ _ _ v k _ hs2 hv rfl).mono ?_; rintro e w' ⟨rfl, hw⟩; subst hw)
      go_roundw
      case rel => exact HN.out _ (by rw [IntKind.wrap_u64, IntKind.wrap_u64]; omega)
      case measure => simp [intOf]; omega
    · obtain rfl : k = la := by omega
      rw [wd.mix_full, HE.out] at hown
      go_wp2_with (go_at_call 29; refine (strip_any _ _ _ Z _ hown.sl HL.out).mono ?_; rintro e w' ⟨a3, c3', rfl, hw, hcut3⟩; subst hw)
      go_ret
      exact ⟨a3, c3', rfl, hcut3.own hown, hbel⟩
end Go.Proofs.YtjdphcdpgjdmkaaDoor

namespace Go.Proofs.YtjdphcdpgjdmkaaDoor
set_option linter.unusedVariables false

def sgv (ev : Bool) : Int := if ev then -1 else 1
theorem sgv_not (ev : Bool) : sgv (!ev) = - sgv ev := by cases ev <;> rfl
theorem sgv_sq (ev : Bool) : sgv ev * sgv ev = 1 := by cases ev <;> rfl
/-- What holds at the head of each round, of two numbers A = x F + α and B = y F + β: a and b are what is left of x and y; p and q the factors. -/
structure Fore (A B x y : Int) (a b p0 p1 pn q0 q1 qn : Int) (ev : Bool) : Prop where
  ha : a = sgv ev * (p1 * x - q1 * y)
  hb : b = - sgv ev * (pn * x - qn * y)
  det : p1 * qn - pn * q1 = sgv ev
  b0 : 0 ≤ b
  ab : b ≤ a
  hp0 : 0 ≤ p0
  hp1 : 0 ≤ p1
  hpn : 0 ≤ pn
  hq0 : 0 ≤ q0
  hq1 : 0 ≤ q1
  q1n : q1 ≤ qn
  hqn : 1 ≤ qn
  pqn : pn ≤ qn
  first : (q1 = 0 ∧ p1 = 1 ∧ pn = 0 ∧ qn = 1 ∧ ev = false ∧ q0 = 0) ∨ (1 ≤ q1 ∧ p1 ≤ q1)
  q1l : q1 < 4294967296
  q0l : q0 < 4294967296
  p0l : p0 < 4294967296
  p1l : p1 < 4294967296
  out : q0 ≠ 0 → 0 ≤ sgv ev * (p1 * A - q1 * B) ∧ sgv ev * (p1 * A - q1 * B) < - sgv ev * (p0 * A - q0 * B) ∧ - sgv ev * (p0 * A - q0 * B) ≤ B ∧ p0 * q1 - p1 * q0 = - sgv ev
  cur : q1 ≠ 0 → sgv ev * (p1 * A - q1 * B) ≤ B
theorem fore_start (A B x y : Int) (hy : 0 ≤ y) (hxy : y ≤ x) : Fore A B x y x y 0 1 0 0 0 1 false := by
  refine ⟨?_, ?_, ?_, hy, hxy, ?_, ?_, ?_, ?_, ?_, ?_, ?_, ?_, Or.inl ⟨rfl, rfl, rfl, rfl, rfl, rfl⟩, ?_, ?_, ?_, ?_, ?_, ?_⟩ <;> simp [sgv]
theorem fore_x {A B x y a b p0 p1 pn q0 q1 qn : Int} {ev : Bool} (h : Fore A B x y a b p0 p1 pn q0 q1 qn ev) : qn * a + q1 * b = x := by
  have h1 := h.ha
  have h2 := h.hb
  have h3 := h.det
  have h4 := sgv_sq ev
  clear h
  grind
theorem fore_y {A B x y a b p0 p1 pn q0 q1 qn : Int} {ev : Bool} (h : Fore A B x y a b p0 p1 pn q0 q1 qn ev) : pn * a + p1 * b = y := by
  have h1 := h.ha
  have h2 := h.hb
  have h3 := h.det
  have h4 := sgv_sq ev
  clear h
  grind
/-- Where the test is met there is room for the sum that it asks for, and for the next factors; and the factors that are next are short. -/
theorem fore_room {A B x y a b p0 p1 pn q0 q1 qn : Int} {ev : Bool} (h : Fore A B x y a b p0 p1 pn q0 q1 qn ev) (hx : x < 18446744073709551616) (hyx : y ≤ x) (hb : qn ≤ b) :
    q1 + qn < 18446744073709551616 ∧ q1 + a / b * qn < 18446744073709551616 ∧ p1 + a / b * pn < 18446744073709551616 ∧ qn < 4294967296 ∧ a < 18446744073709551616 ∧ a / b * qn < 18446744073709551616 ∧ a / b * pn < 18446744073709551616 ∧ 1 ≤ a / b := by
  have hX := fore_x h
  have hY := fore_y h
  have h1 := h.hqn
  have h2 := h.hq1
  have h3 := h.ab
  have h4 := h.hpn
  have h5 := h.hp1
  have hb0 : 0 < b := by omega
  have t1 : 1 ≤ a / b := Int.le_ediv_of_mul_le hb0 (by omega)
  have tb : a / b * b ≤ a := Int.ediv_mul_le a (by omega)
  generalize a / b = t at t1 tb
  have e1 : qn * qn ≤ qn * a := Int.mul_le_mul_of_nonneg_left (by omega) (by omega)
  have e2 : 0 ≤ q1 * b := Int.mul_nonneg h2 (by omega)
  have e3 : qn * (t * b) ≤ qn * a := Int.mul_le_mul_of_nonneg_left tb (by omega)
  have e4 : pn * (t * b) ≤ pn * a := Int.mul_le_mul_of_nonneg_left tb (by omega)
  have e5 : (q1 + t * qn) * 1 ≤ (q1 + t * qn) * b := Int.mul_le_mul_of_nonneg_left (by omega) (by have := Int.mul_nonneg (show 0 ≤ t by omega) (show 0 ≤ qn by omega); omega)
  have e6 : (p1 + t * pn) * 1 ≤ (p1 + t * pn) * b := Int.mul_le_mul_of_nonneg_left (by omega) (by have := Int.mul_nonneg (show 0 ≤ t by omega) h4; omega)
  have e7 : (q1 + t * qn) * b = q1 * b + qn * (t * b) := by grind
  have e8 : (p1 + t * pn) * b = p1 * b + pn * (t * b) := by grind
  have e9 : 1 * qn ≤ t * qn := Int.mul_le_mul_of_nonneg_right t1 (by omega)
  have e10 : 1 * a ≤ qn * a := Int.mul_le_mul_of_nonneg_right h1 (by omega)
  have e11 : qn < 4294967296 := by
    rcases Int.lt_or_le qn 4294967296 with g | g
    · exact g
    · have := Int.mul_le_mul g g (by decide) (by omega)
      omega
  have e12 := Int.mul_nonneg (show 0 ≤ t by omega) (show 0 ≤ qn by omega)
  have e13 := Int.mul_nonneg (show 0 ≤ t by omega) h4
  refine ⟨by omega, by omega, by omega, e11, by omega, by omega, by omega, t1⟩
theorem fore_next {A B x y a b p0 p1 pn q0 q1 qn F al be : Int} {ev : Bool} (h : Fore A B x y a b p0 p1 pn q0 q1 qn ev) (hx : x < 18446744073709551616) (hyx : y ≤ x) (hA : A = x * F + al) (hB : B = y * F + be) (ha0 : 0 ≤ al) (ha1 : al < F) (hb0 : 0 ≤ be) (hb1 : be < F)
    (t1 : qn ≤ b) (t2 : q1 + qn ≤ a - b) : Fore A B x y b (a % b) p1 pn (p1 + a / b * pn) q1 qn (q1 + a / b * qn) (!ev) := by
  obtain ⟨_, _, _, r1, _, _, _, r2⟩ := fore_room h hx hyx t1
  have hq := h.hqn
  have hbp : 0 < b := by omega
  have hm : a % b = a - a / b * b := by have := Int.mul_ediv_add_emod a b; rw [Int.mul_comm] at this; omega
  have hm0 := Int.emod_nonneg a (Int.ne_of_gt hbp)
  have hm1 := Int.emod_lt_of_pos a hbp
  generalize a / b = t at hm r2
  generalize a % b = m at hm hm0 hm1
  have g1 := h.ha
  have g2 := h.hb
  have g3 := h.det
  have g4 := h.hp1
  have g5 := h.hpn
  have g6 := h.hq1
  have g7 := h.pqn
  have g8 := sgv_sq ev
  have n1 := Int.mul_nonneg (show 0 ≤ t by omega) g5
  have n2 := Int.mul_nonneg (show 0 ≤ t by omega) (show 0 ≤ qn by omega)
  have n3 : 1 * qn ≤ t * qn := Int.mul_le_mul_of_nonneg_right r2 (by omega)
  have n4 : t * pn ≤ t * qn := Int.mul_le_mul_of_nonneg_left g7 (by omega)
  -- what is left of the numbers themselves
  have key : 0 ≤ - sgv ev * (pn * A - qn * B) ∧ (q1 ≠ 0 → - sgv ev * (pn * A - qn * B) < sgv ev * (p1 * A - q1 * B)) ∧ (q1 = 0 → - sgv ev * (pn * A - qn * B) = B) := by
    have k1 : qn * F ≤ b * F := Int.mul_le_mul_of_nonneg_right t1 (by omega)
    have k2 : (q1 + qn) * F ≤ (a - b) * F := Int.mul_le_mul_of_nonneg_right t2 (by omega)
    have k3 : pn * al ≤ qn * F := Int.le_trans (Int.mul_le_mul_of_nonneg_right g7 ha0) (Int.mul_le_mul_of_nonneg_left (by omega) (by omega))
    have k4 : qn * be ≤ qn * F := Int.mul_le_mul_of_nonneg_left (by omega) (by omega)
    have k5 : 0 ≤ pn * al := Int.mul_nonneg g5 ha0
    have k6 : 0 ≤ qn * be := Int.mul_nonneg (by omega) hb0
    have k7 : 0 ≤ p1 * al := Int.mul_nonneg g4 ha0
    have k8 : 0 ≤ q1 * be := Int.mul_nonneg g6 hb0
    have eR : - sgv ev * (pn * A - qn * B) = b * F - sgv ev * (pn * al - qn * be) := by rw [g2, hA, hB]; clear g1 g2 g3 hA hB; grind
    have eS : sgv ev * (p1 * A - q1 * B) = a * F + sgv ev * (p1 * al - q1 * be) := by rw [g1, hA, hB]; clear g1 g2 g3 hA hB; grind
    refine ⟨?_, ?_, ?_⟩
    · rw [eR]
      cases ev
      · simp only [sgv]; simp; omega
      · simp only [sgv]; simp; omega
    · intro hq1
      rcases h.first with ⟨z, _⟩ | ⟨o1, o2⟩
      · exact absurd z hq1
      · have k9 : (q1 + qn) * (be + 1) ≤ (q1 + qn) * F := Int.mul_le_mul_of_nonneg_left (by omega) (by omega)
        have k10 : (q1 + qn) * (al + 1) ≤ (q1 + qn) * F := Int.mul_le_mul_of_nonneg_left (by omega) (by omega)
        have k11 : (p1 + pn) * al ≤ (q1 + qn) * al := Int.mul_le_mul_of_nonneg_right (by omega) ha0
        rw [eR, eS]
        rw [Int.sub_mul] at k2
        rw [Int.mul_add, Int.mul_one, Int.add_mul q1 qn be, Int.add_mul] at k9
        rw [Int.mul_add, Int.mul_one, Int.add_mul q1 qn al, Int.add_mul] at k10
        rw [Int.add_mul, Int.add_mul] at k11
        rw [Int.add_mul] at k2
        cases ev
        · simp only [sgv]; simp; omega
        · simp only [sgv]; simp; omega
    · intro hq1
      rcases h.first with ⟨_, z1, z2, z3, z4, _⟩ | ⟨o1, o2⟩
      · subst z4; rw [z2, z3]; simp [sgv]
      · omega
  refine ⟨?_, ?_, ?_, hm0, by omega, g4, g5, by omega, g6, by omega, by omega, by omega, ?_, Or.inr ⟨by omega, g7⟩, r1, h.q1l, h.p1l, by omega, ?_, ?_⟩
  · rw [sgv_not]; exact g2
  · rw [sgv_not, hm]; clear h key hA hB; grind
  · rw [sgv_not]; clear h key hA hB; grind
  · rcases h.first with ⟨z0, z1, z2, z3, _⟩ | ⟨o1, o2⟩
    · subst z0 z1 z2 z3; omega
    · omega
  · intro hq1
    rw [sgv_not]
    obtain ⟨key1, key2, _⟩ := key
    have c := h.cur hq1
    have d := key2 hq1
    refine ⟨by simpa using key1, by simpa using d, by simpa using c, by simpa using g3⟩
  · intro _
    rw [sgv_not]
    obtain ⟨_, key2, key3⟩ := key
    by_cases hq1 : q1 = 0
    · have := key3 hq1; omega
    · have := key2 hq1
      have := h.cur hq1
      omega
/-- What is told at the end. -/
theorem fore_gcd (A B X Y p0 p1 q0 q1 : Nat) (ev : Bool) (hX : (X : Int) = - sgv ev * (p0 * A - q0 * B)) (hY : (Y : Int) = sgv ev * (p1 * A - q1 * B)) (det : (p0 : Int) * q1 - p1 * q0 = - sgv ev) : Nat.gcd X Y = Nat.gcd A B := by
  have s := sgv_sq ev
  have eA : (A : Int) = q1 * X + q0 * Y := by rw [hX, hY]; grind
  have eB : (B : Int) = p1 * X + p0 * Y := by rw [hX, hY]; grind
  have dv : ∀ d u v : Nat, ∀ z c1 c2 : Int, d ∣ u → d ∣ v → z = c1 * u + c2 * v → (d : Int) ∣ z := by
    intro d u v z c1 c2 h1 h2 h3
    rw [h3]
    exact Int.dvd_add (Int.dvd_trans (Int.natCast_dvd_natCast.2 h1) (Int.dvd_mul_left _ _)) (Int.dvd_trans (Int.natCast_dvd_natCast.2 h2) (Int.dvd_mul_left _ _))
  refine Nat.dvd_antisymm (Nat.dvd_gcd ?_ ?_) (Nat.dvd_gcd ?_ ?_)
  · exact Int.natCast_dvd_natCast.1 (dv _ X Y _ _ _ (Nat.gcd_dvd_left _ _) (Nat.gcd_dvd_right _ _) eA)
  · exact Int.natCast_dvd_natCast.1 (dv _ X Y _ _ _ (Nat.gcd_dvd_left _ _) (Nat.gcd_dvd_right _ _) eB)
  · exact Int.natCast_dvd_natCast.1 (dv _ A B _ (- sgv ev * p0) (sgv ev * q0) (Nat.gcd_dvd_left _ _) (Nat.gcd_dvd_right _ _) (by rw [hX]; grind))
  · exact Int.natCast_dvd_natCast.1 (dv _ A B _ (sgv ev * p1) (- sgv ev * q1) (Nat.gcd_dvd_left _ _) (Nat.gcd_dvd_right _ _) (by rw [hY]; grind))
end Go.Proofs.YtjdphcdpgjdmkaaDoor
