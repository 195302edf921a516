/-
  Joined texts, part 3:
  What nat's guess answers: right, or one too high.
  What nat's shiftDown and takeOff answer.
  What nat's divideLong answers, and DivMod where the divisor has two words at least.
  What nat's DivMod answers.
  slices.Backward over a nat: what a loop over it is handed.
  What nat's Cmp answers.
  What nat's Cmp answers where both numbers have the same length.
  Decimal digits of numbers of any length, and bytes of texts as numbers. It imports nothing of the program.
-/
import Derived.Test.YtcaihoomcdbfnaaGreatP2
import Derived.BigQuiet
import Derived.RangeFuncNested
import Derived.RangeFuncBound
import Derived.RangeFuncCalls
import Derived.RangeFuncLeaves
import Derived.RangeFuncBox
import Derived.Shelf.Abstract
import Derived.Shelf.RegionOpen
import Derived.WalkKit
import Derived.OwnWalkIn
import Derived.TacticsInMore
import Derived.LoopNIn
import Derived.LoopIn
import Derived.Laws.BytesArg
namespace Go.Proofs.YtcaihoomcdbfnaaGreat
open Go.RowKit
set_option linter.unusedVariables false

theorem guess_ok {N D P D2 R3 g : Nat} (hP : 0 < P) (h2 : D2 = D / P) (h3 : R3 = N / P) (hg : g < 4294967296) (hle : g * D2 ≤ R3) (hgt : 4294967296 ≤ g + 1 ∨ R3 < (g + 1) * D2) (hD2 : 4294967296 ≤ D2) (hN : N < D * 4294967296) : N / D ≤ g ∧ g ≤ N / D + 1 := by
  have hD : 0 < D := by
    rcases Nat.eq_zero_or_pos D with e | e
    · rw [e] at hN; omega
    · exact e
  have hq : N / D < 4294967296 := Nat.div_lt_of_lt_mul hN
  have hq1 : N / D * D2 ≤ R3 := by
    rw [h3, Nat.le_div_iff_mul_le hP, Nat.mul_assoc]
    refine Nat.le_trans (Nat.mul_le_mul_left _ ?_) (Nat.div_mul_le_self N D)
    rw [h2]
    exact Nat.div_mul_le_self D P
  constructor
  · refine Nat.le_of_not_lt fun h => ?_
    rcases hgt with h4 | h4
    · exact absurd (Nat.lt_of_le_of_lt h4 (Nat.lt_of_le_of_lt h hq)) (Nat.lt_irrefl _)
    · have : (g + 1) * D2 ≤ N / D * D2 := Nat.mul_le_mul_right _ h
      exact absurd (Nat.lt_of_lt_of_le h4 (Nat.le_trans this hq1)) (Nat.lt_irrefl _)
  · rcases Nat.eq_zero_or_pos g with e | e
    · rw [e]; exact Nat.zero_le _
    · obtain ⟨k, rfl⟩ : ∃ k, g = k + 1 := ⟨g - 1, by omega⟩
      refine Nat.succ_le_succ ((Nat.le_div_iff_mul_le hD).2 ?_)
      have hD3 : D < (D2 + 1) * P := by rw [h2]; have := Nat.lt_div_mul_add (a := D) hP; rw [Nat.succ_mul]; exact this
      have h5 : k * D ≤ k * ((D2 + 1) * P) := Nat.mul_le_mul_left _ (Nat.le_of_lt hD3)
      have h6 : k * ((D2 + 1) * P) ≤ (k + 1) * D2 * P := by
        rw [← Nat.mul_assoc]
        refine Nat.mul_le_mul_right _ ?_
        rw [Nat.mul_add, Nat.add_mul]
        omega
      have h7 : (k + 1) * D2 * P ≤ R3 * P := Nat.mul_le_mul_right _ hle
      have h8 : R3 * P ≤ N := by rw [h3]; exact Nat.div_mul_le_self N P
      omega
theorem two_words (D p : Nat) (h : D < 4294967296 ^ (p + 2)) (d1 d2 : Nat) (h1 : wd.dg (D : Int) (p + 1) = d1) (h2 : wd.dg (D : Int) p = d2) : d1 * 4294967296 + d2 = D / 4294967296 ^ p := by
  have e1 : ((D / 4294967296 ^ p : Nat) : Int) = (D : Int) / 4294967296 ^ p := by rw [Int.natCast_ediv, wd.pow_cast]
  have e2 : (D : Int) / 4294967296 ^ (p + 1) = ((D / 4294967296 ^ p : Nat) : Int) / 4294967296 := by
    rw [e1, Int.pow_succ, ← Int.ediv_ediv_of_nonneg (Int.le_of_lt (wd.p256 p))]
  have hl : D / 4294967296 ^ p < 18446744073709551616 := Nat.div_lt_of_lt_mul (by rw [Nat.pow_add] at h; simpa using h)
  unfold wd.dg at h1 h2
  rw [e2] at h1
  rw [← e1] at h2
  clear e1 e2 h
  generalize D / 4294967296 ^ p = X at *
  omega
theorem three_words (N p : Nat) (h : N < 4294967296 ^ (p + 3)) (r2 r1 r0 : Nat) (h2 : wd.dg (N : Int) (p + 2) = r2) (h1 : wd.dg (N : Int) (p + 1) = r1) (h0 : wd.dg (N : Int) p = r0) : (r2 * 4294967296 + r1) * 4294967296 + r0 = N / 4294967296 ^ p := by
  have e1 : ((N / 4294967296 ^ p : Nat) : Int) = (N : Int) / 4294967296 ^ p := by rw [Int.natCast_ediv, wd.pow_cast]
  have e2 : (N : Int) / 4294967296 ^ (p + 1) = ((N / 4294967296 ^ p : Nat) : Int) / 4294967296 := by
    rw [e1, Int.pow_succ, ← Int.ediv_ediv_of_nonneg (Int.le_of_lt (wd.p256 p))]
  have e3 : (N : Int) / 4294967296 ^ (p + 2) = ((N / 4294967296 ^ p : Nat) : Int) / 4294967296 / 4294967296 := by
    rw [← e2, show (4294967296 : Int) ^ (p + 2) = 4294967296 ^ (p + 1) * 4294967296 from Int.pow_succ _ _, ← Int.ediv_ediv_of_nonneg (Int.le_of_lt (wd.p256 (p + 1)))]
  have hl : N / 4294967296 ^ p < 79228162514264337593543950336 := Nat.div_lt_of_lt_mul (by rw [Nat.pow_add] at h; simpa using h)
  unfold wd.dg at h0 h1 h2
  rw [e2] at h1
  rw [e3] at h2
  rw [← e1] at h0
  clear e1 e2 e3 h
  generalize N / 4294967296 ^ p = X at *
  omega

/-- What holds at the head of each round: the guess, and what is left. -/
def GRel (H d1 D2 R3 : Nat) (t l : Value) : Prop := ∃ T L : Nat, t = .int .u64 (T : Int) ∧ l = .int .u64 (L : Int) ∧ Hid (T * d1 + L = H) ∧ L < 4294967296 ∧ T < 18446744073709551616 ∧ Hid (4294967296 ≤ T + 1 ∨ R3 < (T + 1) * D2)
theorem g_start {H d1 d2 D2 R3 r0 T L : Nat} (hD2 : d1 * 4294967296 + d2 = D2) (hR3 : H * 4294967296 + r0 = R3) (hr0 : r0 < 4294967296) (hd : 0 < d1) (hd' : d1 < 4294967296) (hH : H < 18446744073709551616) (hT : T = H / d1) (hL : L = H % d1) : GRel H d1 D2 R3 (.int .u64 (T : Int)) (.int .u64 (L : Int)) := by
  have e : T * d1 + L = H := by rw [hT, hL, Nat.mul_comm]; exact Nat.div_add_mod H d1
  have hl : L < d1 := by rw [hL]; exact Nat.mod_lt _ hd
  refine ⟨T, L, rfl, rfl, e, by omega, ?_, Or.inr ?_⟩
  · rw [hT]; exact Nat.lt_of_le_of_lt (Nat.div_le_self _ _) hH
  · rw [← hD2, Nat.add_mul, Nat.mul_add, ← Nat.mul_assoc]
    have : 0 ≤ T * d2 := Nat.zero_le _
    omega
theorem g_less {d1 d2 D2 H R3 T : Nat} (h : R3 < T * D2) : 1 ≤ T := by
  rcases Nat.eq_zero_or_pos T with e | e
  · rw [e] at h; omega
  · exact e
theorem g_over {H d1 d2 D2 R3 r0 T L : Nat} (hD2 : d1 * 4294967296 + d2 = D2) (hR3 : H * 4294967296 + r0 = R3) (h : T * d1 + L = H) (ho : L * 4294967296 + r0 < T * d2) : R3 < T * D2 := by
  rw [← hD2, Nat.mul_add, ← Nat.mul_assoc]
  omega
theorem g_under {H d1 d2 D2 R3 r0 T L : Nat} (hD2 : d1 * 4294967296 + d2 = D2) (hR3 : H * 4294967296 + r0 = R3) (h : T * d1 + L = H) (ho : T * d2 ≤ L * 4294967296 + r0) : T * D2 ≤ R3 := by
  rw [← hD2, Nat.mul_add, ← Nat.mul_assoc]
  omega

theorem g_next {H d1 D2 R3 T L : Nat} (h : T * d1 + L = H) (hT : T < 18446744073709551616) (h1 : 1 ≤ T) (hL : L + d1 < 4294967296) (ho : 4294967296 ≤ T ∨ R3 < T * D2) : GRel H d1 D2 R3 (.int .u64 ((T : Int) - 1)) (.int .u64 ((L : Int) + d1)) := by
  obtain ⟨k, rfl⟩ : ∃ k, T = k + 1 := ⟨T - 1, by omega⟩
  refine ⟨k, L + d1, by simp, by simp, ?_, hL, by omega, ho⟩
  unfold Hid
  rw [Nat.add_mul] at h
  omega
theorem g_break {H d1 d2 D2 R3 r0 k L : Nat} (hD2 : d1 * 4294967296 + d2 = D2) (hR3 : H * 4294967296 + r0 = R3) (h : (k + 1) * d1 + L = H) (hL : 4294967296 ≤ L + d1) (hd : 0 < d1) (hd2 : d2 < 4294967296) (hH : H < (d1 + 1) * 4294967296) : k < 4294967296 ∧ k * D2 ≤ R3 := by
  rw [Nat.add_mul] at h hH
  have hk : k < 4294967296 := by
    have : k * d1 < 4294967296 * d1 := by omega
    exact Nat.lt_of_mul_lt_mul_right this
  refine ⟨hk, g_under hD2 hR3 (L := L + d1) (by omega) ?_⟩
  have : k * d2 ≤ 4294967295 * 4294967295 := Nat.mul_le_mul (by omega) (by omega)
  omega
theorem g_head {N D P D2 R3 H d1 d2 r0 : Nat} (hP : 0 < P) (h2 : D2 = D / P) (h3 : R3 = N / P) (hN : N < D * 4294967296) (hD2 : d1 * 4294967296 + d2 = D2) (hd2 : d2 < 4294967296) (hR3 : H * 4294967296 + r0 = R3) : H < (d1 + 1) * 4294967296 := by
  have hD3 : D < (D2 + 1) * P := by rw [h2]; have := Nat.lt_div_mul_add (a := D) hP; rw [Nat.succ_mul]; exact this
  have h8 : R3 * P ≤ N := by rw [h3]; exact Nat.div_mul_le_self N P
  have h9 : D * 4294967296 < (D2 + 1) * 4294967296 * P := by rw [Nat.mul_right_comm]; omega
  have h10 : R3 * P < (D2 + 1) * 4294967296 * P := by omega
  have h11 : R3 < (D2 + 1) * 4294967296 := Nat.lt_of_mul_lt_mul_right h10
  omega

set_option maxRecDepth 100000 in
set_option maxHeartbeats 2000000 in
theorem guess_any (b o n cs : Nat) (yb : Option Addr) (cy N D : Nat) (w : World) (hb : b < w.heap.size) (hseg : Seg w b o (wd.dcells (n + 1) (N : Int))) (hN : N < D * 4294967296) (hcs : n + 1 ≤ cs) (hcs' : cs ≤ 1000000000000) (hy : Sl w yb n cy (wd.dcells n (D : Int))) (hD : D < 4294967296 ^ n) (hn : 2 ≤ n) (htop : 4294967296 ^ (n - 1) ≤ D) :
    Calls Tryz.prog 134 #[.slice (some ⟨b, o, none⟩) (n + 1) cs, .slice yb n cy] w fun e w' => (∃ g : Nat, e = .returned (.int .u32 (g : Int)) ∧ N / D ≤ g ∧ g ≤ N / D + 1 ∧ g < 4294967296) ∧ Below w.heap.size w w' := by
  obtain ⟨p, hp⟩ : ∃ p, n = p + 2 := ⟨n - 2, by omega⟩
  obtain ⟨q, hq⟩ : ∃ q, q = p + 1 := ⟨_, rfl⟩
  have nat_dg : ∀ (v : Int) (i : Nat), ∃ d : Nat, wd.dg v i = (d : Int) ∧ d < 4294967296 := fun v i => by
    have := wd.dg_range v i
    exact ⟨(wd.dg v i).toNat, by omega, by omega⟩
  obtain ⟨d1, hd1, d1b⟩ := nat_dg D q
  obtain ⟨d2, hd2, d2b⟩ := nat_dg D p
  obtain ⟨r2, hr2, r2b⟩ := nat_dg N n
  obtain ⟨r1, hr1, r1b⟩ := nat_dg N q
  obtain ⟨r0, hr0, r0b⟩ := nat_dg N p
  obtain ⟨D2, hD2⟩ : ∃ D2, D2 = D / 4294967296 ^ p := ⟨_, rfl⟩
  obtain ⟨R3, hR3⟩ : ∃ R3, R3 = N / 4294967296 ^ p := ⟨_, rfl⟩
  have hN3 : N < 4294967296 ^ (p + 3) := by
    have : D * 4294967296 ≤ 4294967296 ^ (p + 3) := by rw [Nat.pow_succ]; exact Nat.mul_le_mul_right _ (by rw [hp] at hD; omega)
    omega
  have eD : Hid (d1 * 4294967296 + d2 = D2) := by unfold Hid; rw [hD2]; exact two_words D p (by rw [← hp]; exact hD) d1 d2 (by rw [← hq]; exact hd1) hd2
  have eR : (r2 * 4294967296 + r1) * 4294967296 + r0 = R3 := by rw [hR3]; exact three_words N p hN3 r2 r1 r0 (by rw [← hp]; exact hr2) (by rw [← hq]; exact hr1) hr0
  have hDP : 4294967296 ≤ D2 := by
    rw [hD2, Nat.le_div_iff_mul_le (wd.pow_nat p)]
    rw [hp] at htop
    rw [Nat.mul_comm, ← Nat.pow_succ]
    exact htop
  have d1p : 0 < d1 := by have := eD.out; omega
  have HOK : Hid (∀ g, g < 4294967296 → g * D2 ≤ R3 → (4294967296 ≤ g + 1 ∨ R3 < (g + 1) * D2) → N / D ≤ g ∧ g ≤ N / D + 1) := fun g h1 h2 h3 => guess_ok (wd.pow_nat p) hD2 hR3 h1 h2 h3 hDP hN
  obtain ⟨H, hH⟩ : ∃ H, H = r2 * 4294967296 + r1 := ⟨_, rfl⟩
  rw [← hH] at eR
  have eR' : Hid _ := eR
  have HHd : Hid _ := g_head (wd.pow_nat p) hD2 hR3 hN eD.out d2b eR
  obtain ⟨T0, hT0⟩ : ∃ T, T = H / d1 := ⟨_, rfl⟩
  obtain ⟨L0, hL0⟩ : ∃ L, L = H % d1 := ⟨_, rfl⟩
  have HST : Hid _ := g_start eD.out eR r0b d1p d1b (by omega) hT0 hL0
  have E1 : (H : Int) / (d1 : Int) = (T0 : Int) := by rw [hT0, Int.natCast_ediv]
  have E2 : (H : Int) % (d1 : Int) = (L0 : Int) := by rw [hL0, Int.natCast_emod]
  have EH : bits BinOp.or IntKind.u64 ((r2 : Int) * 4294967296) r1 = (H : Int) := by rw [join_bits _ _ (by omega) (by omega) (by omega) (by omega)]; omega
  have hHb : H < 18446744073709551616 := by omega
  have hcap := hy.big
  have hroom := hy.room
  unfold maxLen at hcap
  obtain ⟨by', oy, rfl, hby, hsy⟩ := hy.at (by omega)
  have c1 := hsy.cell q _ (wd.dcells_at _ _ _ (by omega))
  have c2 := hsy.cell p _ (wd.dcells_at _ _ _ (by omega))
  have c3 := hseg.cell n _ (wd.dcells_at _ _ _ (by omega))
  have c4 := hseg.cell q _ (wd.dcells_at _ _ _ (by omega))
  have c5 := hseg.cell p _ (wd.dcells_at _ _ _ (by omega))
  rw [hd1] at c1
  rw [hd2] at c2
  rw [hr2] at c3
  rw [hr1] at c4
  rw [hr0] at c5
  have e1 : (n : Int) - 1 = (q : Int) := by omega
  have e2 : (n : Int) - 2 = (p : Int) := by omega
  have l1 : q < n := by omega
  have l2 : p < n := by omega
  obtain ⟨m, hm⟩ : ∃ m, m = n + 1 := ⟨_, rfl⟩
  have m1 : n < m := by omega
  have m2 : m ≤ cs := by omega
  rw [← hm]
  have T0b : T0 < 18446744073709551616 := by rw [hT0]; exact Nat.lt_of_le_of_lt (Nat.div_le_self _ _) hHb
  have L0b : L0 < 4294967296 := by have : L0 < d1 := by rw [hL0]; exact Nat.mod_lt _ d1p
                                   omega
  clear hm hcs hH hT0 hL0 hD2 hR3 hd1 hd2 hr2 hr1 hr0 hp hq hN3 eR hseg hy hsy htop hD hN nat_dg hDP
  go_enter Tryz.func134, Tryz.ntmps134
  go_wp2
  go_quiet (fail)
  go_wp2
  go_quiet (fail)
  go_wp2
  go_quiet (fail)
  go_wp2
  rw [E2]
  go_loopw [9, 10] (fun t l wr => GRel H d1 D2 R3 t l ∧ Below w.heap.size w wr) (fun t _ _ => (intOf t).toNat)
  case atStart =>
    refine ⟨by first | exact HST.out | (rw [E2]; exact HST.out), ?_⟩
    exact ⟨rfl, rfl, rfl, Nat.le_refl _, fun _ _ => rfl⟩
  case round =>
    obtain ⟨⟨T, L, rfl, rfl, HE, hL, hT, HG⟩, hbel⟩ := hrel
    have k5 := (hbel.cell (p := ⟨b, o + p, none⟩) hb).trans c5
    by_cases h1 : T < 4294967296
    · have f1 : (T : Int) / 4294967296 = 0 := by omega
      obtain ⟨X, hX⟩ : ∃ X, X = T * d2 := ⟨_, rfl⟩
      have hXb : X < 18446744073709551616 := by
        have : T * d2 ≤ 4294967295 * 4294967295 := Nat.mul_le_mul (by omega) (by omega)
        omega
      have f2 : (T : Int) * (d2 : Int) = (X : Int) := by rw [hX, Int.natCast_mul]
      have f3 : bits BinOp.or IntKind.u64 ((L : Int) * 4294967296) r0 = (L : Int) * 4294967296 + r0 := join_bits _ _ (by omega) (by omega) (by omega) (by omega)
      have HX : Hid _ := hX
      clear hX
      by_cases h2 : L * 4294967296 + r0 < X
      · have HO : Hid _ := g_over eD.out eR'.out HE.out (by rw [← HX.out]; exact h2)
        have h3 : 1 ≤ T := g_less (d1 := d1) (d2 := d2) (H := H) HO.out
        by_cases h5 : L + d1 < 4294967296
        · have f5 : ((L : Int) + d1) / 4294967296 = 0 := by omega
          have HN : Hid _ := g_next HE.out hT h3 h5 (Or.inr HO.out)
          go_wp2
          go_roundw
          case rel => exact ⟨HN.out, by first | exact hbel | exact hbel.drew⟩
          case measure => simp [intOf]; omega
        · have f5 : ¬ ((L : Int) + d1) / 4294967296 = 0 := by omega
          obtain ⟨k, hk⟩ : ∃ k, T = k + 1 := ⟨T - 1, by omega⟩
          have e := HE.out
          rw [hk] at e
          have hB := g_break eD.out eR'.out e (by omega) d1p d2b HHd.out
          have HF : Hid _ := HOK.out k hB.1 hB.2 (Or.inr (by have := HO.out; rw [hk] at this; exact this))
          have k1 := hB.1
          clear e hB
          have f6 : (T : Int) - 1 = (k : Int) := by omega
          clear hk
          go_wp2
          go_ret
          exact ⟨⟨k, by first | rfl | simp [f6], HF.out.1, HF.out.2, k1⟩, by first | exact hbel | exact hbel.drew⟩
      · have HU : Hid _ := g_under eD.out eR'.out HE.out (by rw [← HX.out]; omega)
        have f4 : (T : Int) % 4294967296 = T := by omega
        go_wp2
        go_ret
        exact ⟨⟨T, rfl, (HOK.out T h1 HU.out HG.out).1, (HOK.out T h1 HU.out HG.out).2, h1⟩, by first | exact hbel | exact hbel.drew⟩
    · have f1 : ¬ (T : Int) / 4294967296 = 0 := by omega
      have h3 : 1 ≤ T := by omega
      by_cases h5 : L + d1 < 4294967296
      · have f5 : ((L : Int) + d1) / 4294967296 = 0 := by omega
        have HN : Hid _ := g_next (D2 := D2) (R3 := R3) HE.out hT h3 h5 (Or.inl (by omega))
        go_wp2
        go_roundw
        case rel => exact ⟨HN.out, by first | exact hbel | exact hbel.drew⟩
        case measure => simp [intOf]; omega
      · have f5 : ¬ ((L : Int) + d1) / 4294967296 = 0 := by omega
        obtain ⟨k, hk⟩ : ∃ k, T = k + 1 := ⟨T - 1, by omega⟩
        have e := HE.out
        rw [hk] at e
        have hB := g_break eD.out eR'.out e (by omega) d1p d2b HHd.out
        have HF : Hid _ := HOK.out k hB.1 hB.2 (Or.inl (by omega))
        have k1 := hB.1
        clear e hB
        have f6 : (T : Int) - 1 = (k : Int) := by omega
        clear hk
        go_wp2
        go_ret
        exact ⟨⟨k, by first | rfl | simp [f6], HF.out.1, HF.out.2, k1⟩, by first | exact hbel | exact hbel.drew⟩
end Go.Proofs.YtcaihoomcdbfnaaGreat

namespace Go.Proofs.YtcaihoomcdbfnaaGreat
open Go.RowKit
set_option linter.unusedVariables false

theorem num_dg (k j : Nat) (u v : Int) (h : k ≤ j) : wd.dg (u % 4294967296 ^ k + v / 4294967296 ^ k * 4294967296 ^ k) j = wd.dg v j := by
  have hp := wd.p256 k
  have e : (u % 4294967296 ^ k + v / 4294967296 ^ k * 4294967296 ^ k) / 4294967296 ^ k = v / 4294967296 ^ k := by
    rw [Int.add_mul_ediv_right _ _ (Int.ne_of_gt hp), Int.ediv_eq_zero_of_lt (Int.emod_nonneg _ (Int.ne_of_gt hp)) (Int.emod_lt_of_pos _ hp), Int.zero_add]
  have e2 : ∀ x : Int, x / 4294967296 ^ j = x / 4294967296 ^ k / 4294967296 ^ (j - k) := fun x => by
    rw [Int.ediv_ediv_of_nonneg (Int.le_of_lt hp), ← Int.pow_add, show k + (j - k) = j by omega]
  unfold wd.dg
  rw [e2 (u % 4294967296 ^ k + v / 4294967296 ^ k * 4294967296 ^ k), e, ← e2]
/-- The digits of u up to k, then those of v, are a number's. -/
theorem mix_num (n k : Nat) (u v : Int) : wd.mix n k u v = wd.dcells n (u % 4294967296 ^ k + v / 4294967296 ^ k * 4294967296 ^ k) := by
  have hp := wd.p256 k
  refine List.ext_getElem? fun j => ?_
  by_cases hj : j < n
  · unfold wd.mix
    rw [wd.fill_at _ _ _ _ _ hj, wd.dcells_at _ _ _ hj]
    by_cases hk : j < k
    · rw [if_pos (by simpa using hk), wd.dg_congr (u := u % 4294967296 ^ k + v / 4294967296 ^ k * 4294967296 ^ k) (v := u) (v / 4294967296 ^ k - u / 4294967296 ^ k) ?_ hk]
      have := Int.mul_ediv_add_emod u (4294967296 ^ k)
      rw [Int.sub_mul, Int.mul_comm (u / 4294967296 ^ k)]
      omega
    · rw [if_neg (by simpa using hk), num_dg _ _ _ _ (by omega)]
  · rw [List.getElem?_eq_none (by rw [wd.mix_length]; omega), List.getElem?_eq_none (by rw [wd.dcells_length]; omega)]
theorem mix_nat (n k u v : Nat) (hk : k ≤ n) (hv : v < 4294967296 ^ n) : ∃ Z : Nat, wd.mix n k (u : Int) (v : Int) = wd.dcells n (Z : Int) ∧ Z < 4294967296 ^ n ∧ wd.dg (Z : Int) (k + 1) = wd.dg (v : Int) (k + 1) := by
  have e : ((u % 4294967296 ^ k + v / 4294967296 ^ k * 4294967296 ^ k : Nat) : Int) = (u : Int) % 4294967296 ^ k + (v : Int) / 4294967296 ^ k * 4294967296 ^ k := by
    rw [Int.natCast_add, Int.natCast_emod, Int.natCast_mul, Int.natCast_ediv, wd.pow_cast]
  refine ⟨u % 4294967296 ^ k + v / 4294967296 ^ k * 4294967296 ^ k, by rw [mix_num, e], ?_, by rw [e, num_dg _ _ _ _ (by omega)]⟩
  have hp := wd.pow_nat k
  have h1 : v / 4294967296 ^ k < 4294967296 ^ (n - k) := Nat.div_lt_of_lt_mul (by rw [← Nat.pow_add, show k + (n - k) = n by omega]; exact hv)
  have h2 : (v / 4294967296 ^ k + 1) * 4294967296 ^ k ≤ 4294967296 ^ n := by
    have := Nat.mul_le_mul_right (4294967296 ^ k) (show v / 4294967296 ^ k + 1 ≤ 4294967296 ^ (n - k) by omega)
    rwa [← Nat.pow_add, show n - k + k = n by omega] at this
  have h3 := Nat.mod_lt u hp
  rw [Nat.add_mul] at h2
  omega

theorem down_digit (R x t : Int) (k : Nat) (hx : 0 < x) (ht : 0 < t) (hxt : x * t = 4294967296) : (wd.dg R (k + 1) * 4294967296 + wd.dg R k) / x % 4294967296 = wd.dg (R / x) k := by
  have hp := wd.p256 k
  unfold wd.dg
  have e1 : R / 4294967296 ^ (k + 1) = R / 4294967296 ^ k / 4294967296 := by rw [Int.pow_succ, ← Int.ediv_ediv_of_nonneg (Int.le_of_lt hp)]
  have e2 : R / x / 4294967296 ^ k = R / 4294967296 ^ k / x := by rw [Int.ediv_ediv_of_nonneg (Int.le_of_lt hx), Int.mul_comm, ← Int.ediv_ediv_of_nonneg (Int.le_of_lt hp)]
  rw [e1, e2]
  generalize R / 4294967296 ^ k = Z
  -- Z = Y * B^2 + (z1 * B + z0)
  have e3 : Z = (Z / 4294967296 % 4294967296 * 4294967296 + Z % 4294967296) + (Z / 4294967296 / 4294967296 * t * 4294967296) * x := by
    have : Z / 4294967296 / 4294967296 * t * 4294967296 * x = Z / 4294967296 / 4294967296 * (x * t) * 4294967296 := by
      rw [Int.mul_assoc, Int.mul_assoc, Int.mul_assoc, Int.mul_comm x t, Int.mul_assoc, Int.mul_comm 4294967296 x]
    rw [this, hxt]
    omega
  have e4 : Z / x = (Z / 4294967296 % 4294967296 * 4294967296 + Z % 4294967296) / x + Z / 4294967296 / 4294967296 * t * 4294967296 := by
    conv => lhs; rw [e3]
    rw [Int.add_mul_ediv_right _ _ (Int.ne_of_gt hx)]
  rw [e4]
  omega

/-- What holds at the head of each round of shiftDown. -/
def DownRel (w : World) (R : Int) (x b l cap base : Nat) (i : Value) (wr : World) : Prop := ∃ k : Nat, k ≤ l ∧ i = .int .i64 (k : Int) ∧ Own wr base 115 (some ⟨b, 0, none⟩) l cap (wd.mix l k (R / x) R) ∧ Wr w wr b 0 l
theorem down_next (w wr : World) (R : Int) (x t b l cap base k : Nat) (hx : 0 < x) (ht : 0 < t) (hxt : x * t = 4294967296) (hk : k < l) (hown : Own wr base 115 (some ⟨b, 0, none⟩) l cap (wd.mix l k (R / x) R)) (hw : Wr w wr b 0 l) {z : Int} (hz : z = wd.dg R (k + 1) * 4294967296 + wd.dg R k) :
    DownRel w R x b l cap base (.int .i64 ((k : Int) + 1)) (wr.setCell ⟨b, k, none⟩ (.int .u32 (z / x % 4294967296))) := by
  subst hz
  refine ⟨k + 1, by omega, by simp, ?_, hw.set _ (Nat.zero_le _) hk⟩
  rw [down_digit R x t k (by omega) (by omega) (by omega), ← wd.mix_set]
  exact Own.set hown _ hk

set_option maxRecDepth 100000 in
set_option maxHeartbeats 1000000 in
theorem shiftDown_any (b l cap R s base : Nat) (w : World) (hown : Own w base 115 (some ⟨b, 0, none⟩) l cap (wd.dcells l (R : Int))) (hR : R < 4294967296 ^ l) (hs : s < 32) :
    Calls Tryz.prog 129 #[.slice (some ⟨b, 0, none⟩) l cap, .int .i64 (s : Int)] w fun e w' => e = .returned (.tuple #[]) ∧ Own w' base 115 (some ⟨b, 0, none⟩) l cap (wd.dcells l ((R / 2 ^ s : Nat) : Int)) ∧ Wr w w' b 0 l := by
  obtain ⟨x, hx⟩ : ∃ x : Nat, x = 2 ^ s := ⟨_, rfl⟩
  obtain ⟨t, ht⟩ : ∃ t : Nat, t = 2 ^ (32 - s) := ⟨_, rfl⟩
  have x0 : 0 < x := by rw [hx]; exact Nat.pow_pos (by decide)
  have t0 : 0 < t := by rw [ht]; exact Nat.pow_pos (by decide)
  have hxt : x * t = 4294967296 := by rw [hx, ht, ← Nat.pow_add, show s + (32 - s) = 32 by omega]
  have x1 : x ≤ 2147483648 := by rw [hx]; exact Nat.le_trans (Nat.pow_le_pow_right (by decide) (show s ≤ 31 by omega)) (by decide)
  have fX : (2 : Int) ^ s = (x : Int) := by rw [hx, Int.natCast_pow]; rfl
  have HX : Hid _ := hx
  have HT : Hid _ := hxt
  have hcap := hown.sl.big
  have hroom := hown.sl.room
  unfold maxLen at hcap
  clear hx ht hxt
  go_enter Tryz.func129, Tryz.ntmps129
  go_wp2
  go_loopw [8] (fun i wr => DownRel w R x b l cap base i wr) (fun i _ => l - (intOf i).toNat)
  case atStart => exact ⟨0, by omega, rfl, by rw [wd.mix_zero]; exact hown, Wr.refl _ _ _ _⟩
  case round =>
    clear hown
    obtain ⟨k, hk, rfl, hown, hwr⟩ := hrel
    by_cases hlt : k < l
    · have c3 : wr.cell? ⟨b, k, none⟩ = some (.int .u32 (wd.dg R k)) := Own.cell hown k _ (wd.mix_at _ _ _ _ _ (by omega) (by omega))
      have c4 : wr.frozen? ⟨b, k, none⟩ = false := Own.free hown k (by omega)
      obtain ⟨d0, d1⟩ := wd.dg_range R k
      obtain ⟨e0, e1⟩ := wd.dg_range R (k + 1)
      have HN : Hid _ := fun n z hz => down_next w (wr.drewN n) R x t b l cap base k x0 t0 HT.out hlt hown (hwr.drewN n) (z := z) hz
      -- the slice as a number
      obtain ⟨Z, hZ, hZl, hZd⟩ := mix_nat l k (R / x) R hk hR
      rw [Int.natCast_ediv] at hZ
      have hs3 := Own.sl hown
      rw [hZ] at hs3
      have HB := join_bits _ _ e0 e1 d0 d1
      obtain ⟨z, hz⟩ : ∃ z, z = wd.dg R (k + 1) * 4294967296 + wd.dg R k := ⟨_, rfl⟩
      have z0 : 0 ≤ z := by omega
      have z1 : z < 18446744073709551616 := by omega
      have HN : Hid _ := fun n => HN.out n z hz
      rw [← hz] at HB
      clear hown hZ hz
      have HW : Hid (∀ n, Calls Tryz.prog 133 #[.slice (some ⟨b, 0, none⟩) l cap, .int .i64 ((k : Int) + 1)] (wr.drewN n) fun e w'' => e = .returned (.int .u32 (wd.dg R (k + 1))) ∧ ∃ m, w'' = wr.drewN m) := fun n => by
        have h := wordAt_any (some ⟨b, 0, none⟩) l cap Z (k + 1) (iv := (k : Int) + 1) (wr.drewN n) (hs3.below ⟨rfl, rfl, rfl, Nat.le_refl _, fun _ _ => rfl⟩) hZl (by omega)
        rw [hZd] at h
        refine h.mono ?_
        rintro e w' ⟨rfl, hw⟩
        exact ⟨rfl, n, hw.symm⟩
      go_wp2
      go_quiet (first | (go_at_call 133; exact HW.out _))
      go_wp2
      go_roundw
      case rel => exact HN.out _
      case measure => simp [intOf]; omega
    · obtain rfl : k = l := by omega
      rw [wd.mix_full] at hown
      go_wp2
      go_end0
      refine ⟨rfl, ?_, hwr⟩
      rw [← HX.out, Int.natCast_ediv]
      exact hown

theorem off_neg {N D g q : Nat} (h1 : q ≤ g) (h2 : g ≤ q + 1) (hD : 0 < D) (hq : q = N / D) (h : (N : Int) < (g : Int) * D) : g = q + 1 ∧ (N : Int) - (g : Int) * D + D = ((N % D : Nat) : Int) := by
  have hd := Nat.div_add_mod N D
  rw [← hq] at hd
  have hg : g = q + 1 := by
    rcases Nat.lt_or_ge q g with h3 | h3
    · omega
    · have : g = q := by omega
      subst this
      exfalso
      have e : (g : Int) * D = ((D * g : Nat) : Int) := by rw [Int.natCast_mul, Int.mul_comm]
      rw [e] at h
      omega
  refine ⟨hg, ?_⟩
  subst hg
  have e : ((q + 1 : Nat) : Int) * D = ((D * q : Nat) : Int) + D := by
    rw [Int.natCast_mul, Int.natCast_add, Int.add_mul, Int.mul_comm (q : Int)]
    simp
  rw [e]
  omega
theorem off_pos {N D g q : Nat} (h1 : q ≤ g) (hD : 0 < D) (hq : q = N / D) (h : ¬ (N : Int) < (g : Int) * D) : g = q ∧ (N : Int) - (g : Int) * D = ((N % D : Nat) : Int) := by
  have hd := Nat.div_add_mod N D
  have hgN : g * D ≤ N := by
    have e : (g : Int) * D = ((g * D : Nat) : Int) := by rw [Int.natCast_mul]
    rw [e] at h
    omega
  have hg : g = q := by
    have := (Nat.le_div_iff_mul_le hD).2 hgN
    omega
  refine ⟨hg, ?_⟩
  subst hg
  rw [← hq] at hd
  have e : (g : Int) * D = ((D * g : Nat) : Int) := by rw [Int.natCast_mul, Int.mul_comm]
  rw [e]
  omega

set_option maxRecDepth 100000 in
set_option maxHeartbeats 1000000 in
theorem takeOff_any (b o n cs : Nat) (yb : Option Addr) (cy N D : Nat) (w : World) (hb : b < w.heap.size) (hseg : Seg w b o (wd.dcells (n + 1) (N : Int))) (hN : N < D * 4294967296) (hcs : n + 1 ≤ cs) (hcs' : cs ≤ 1000000000000) (hy : Sl w yb n cy (wd.dcells n (D : Int))) (hD : D < 4294967296 ^ n) (hn : 2 ≤ n) (htop : 4294967296 ^ (n - 1) ≤ D) (hne : ∀ o, yb ≠ some ⟨b, o, none⟩) :
    Calls Tryz.prog 128 #[.slice (some ⟨b, o, none⟩) (n + 1) cs, .slice yb n cy] w fun e w' => e = .returned (.int .u32 ((N / D : Nat) : Int)) ∧ Seg w' b o (wd.dcells (n + 1) ((N % D : Nat) : Int)) ∧ Wr w w' b o (o + (n + 1)) := by
  have hD0 : 0 < D := Nat.lt_of_lt_of_le (wd.pow_nat _) htop
  have hN3 : Hid (N < 4294967296 ^ (n + 1)) := by
    unfold Hid
    have : D * 4294967296 ≤ 4294967296 ^ (n + 1) := by rw [Nat.pow_succ]; exact Nat.mul_le_mul_right _ (by omega)
    omega
  obtain ⟨q, hq⟩ : ∃ q, q = N / D := ⟨_, rfl⟩
  have HQ : Hid _ := hq
  have HG : Hid _ := fun w0 hb h1 h2 => guess_any b o n cs yb cy N D w0 hb h1 hN hcs hcs' h2 hD hn htop
  have HS : Hid _ := fun w0 (g : Nat) h1 h2 g1 => subTimes_any b o n cs yb cy N D (g : Int) w0 h1 hN3.out hcs hcs' h2 hD hne (by omega) g1
  have HA : Hid _ := fun w0 M h1 h2 => addBack_any b o n cs yb cy D M w0 h1 hcs hcs' h2 hD hne
  have HSeg : Hid _ := hseg
  have HSl : Hid _ := hy
  rw [← hq]
  clear hq hcs hD hN htop hseg
  go_enter Tryz.func128, Tryz.ntmps128
  go_wp2_with (go_at_call 134; refine (HG.out _ hb HSeg.out hy).mono ?_; rintro e w1 ⟨⟨g, rfl, g1, g2, g3⟩, hbel1⟩; have s1 := Seg.below HSeg.out hbel1 hb; have y1 := hy.below hbel1; have HL : Hid _ := hbel1)
  have hWr1 : Wr w w1 b o (o + (n + 1)) := (Wr.refl w b o (o + (n + 1))).below hbel1 hb
  by_cases hlt : (N : Int) < (g : Int) * D
  · obtain ⟨hg, HE⟩ := off_neg (by rw [HQ.out]; exact g1) (by rw [HQ.out]; exact g2) hD0 HQ.out hlt
    have HE : Hid _ := HE
    have hg' : (g : Int) - 1 = (q : Int) := by omega
    have HGq : Hid _ := hg
    clear hg g1 g2
    go_wp2_with (first
      | (go_at_call 135; refine (HS.out _ g s1 y1 (by omega)).mono ?_; rintro e w2 ⟨rfl, s2, wr2⟩; have y2 := wr2.sl y1 hne)
      | (go_at_call 136; refine (HA.out _ _ s2 y2).mono ?_; rintro e w3 ⟨rfl, s3, wr3⟩))
    go_ret
    rw [HE.out] at s3
    exact ⟨rfl, s3, (hWr1.trans wr2).trans wr3⟩
  · obtain ⟨hg, HE⟩ := off_pos (by rw [HQ.out]; exact g1) hD0 HQ.out hlt
    have HE : Hid _ := HE
    subst hg
    go_wp2_with (first
      | (go_at_call 135; refine (HS.out _ g s1 y1 (by omega)).mono ?_; rintro e w2 ⟨rfl, s2, wr2⟩; have y2 := wr2.sl y1 hne))
    go_ret
    rw [HE.out] at s2
    exact ⟨rfl, s2, hWr1.trans wr2⟩
end Go.Proofs.YtcaihoomcdbfnaaGreat

namespace Go.Proofs.YtcaihoomcdbfnaaGreat
open Go.RowKit
set_option linter.unusedVariables false

/-- What is left of A when the quotient's words from k on are taken off. -/
def rk (A D k : Nat) : Nat := A / 4294967296 ^ k % D * 4294967296 ^ k + A % 4294967296 ^ k
/-- The words that the next word of the quotient is told by. -/
def nk (A D j : Nat) : Nat := A / 4294967296 ^ (j + 1) % D * 4294967296 + A / 4294967296 ^ j % 4294967296
theorem mod_more (A j : Nat) : A % 4294967296 ^ (j + 1) = A % 4294967296 ^ j + 4294967296 ^ j * (A / 4294967296 ^ j % 4294967296) := by
  rw [Nat.pow_succ, Nat.mod_mul]
theorem rk_split (A D j : Nat) : rk A D (j + 1) = A % 4294967296 ^ j + 4294967296 ^ j * nk A D j := by
  have e : ∀ P X Z : Nat, X * (P * 4294967296) + Z = Z + P * (X * 4294967296) := fun P X Z => by
    rw [Nat.mul_left_comm, Nat.add_comm]
  unfold rk nk
  rw [mod_more, Nat.pow_succ, Nat.mul_add, e]
  omega
theorem rk_here (A D j : Nat) : rk A D j = A % 4294967296 ^ j + 4294967296 ^ j * (A / 4294967296 ^ j % D) := by
  unfold rk
  rw [Nat.mul_comm (4294967296 ^ j)]
  omega
theorem nk_cast (A D j : Nat) : ((nk A D j : Nat) : Int) = (A : Int) / 4294967296 ^ (j + 1) % D * 4294967296 + wd.dg A j := by
  unfold nk wd.dg
  rw [Int.natCast_add, Int.natCast_mul, Int.natCast_emod, Int.natCast_ediv, Int.natCast_emod, Int.natCast_ediv, wd.pow_cast, wd.pow_cast]
  rfl
theorem nk_div (A D j : Nat) (hD : 0 < D) : ((nk A D j / D : Nat) : Int) = wd.dg ((A / D : Nat) : Int) j := by
  rw [Int.natCast_ediv, nk_cast, wd.quot_digit _ _ _ (by omega), Int.natCast_ediv]
theorem nk_mod (A D j : Nat) (hD : 0 < D) : nk A D j % D = A / 4294967296 ^ j % D := by
  have h : ((nk A D j % D : Nat) : Int) = ((A / 4294967296 ^ j % D : Nat) : Int) := by
    rw [Int.natCast_emod, nk_cast, (wd.long_div A D j (by omega)).2, Int.natCast_emod, Int.natCast_ediv, wd.pow_cast]
  exact Int.ofNat.inj h
theorem nk_lt (A D j : Nat) (hD : 0 < D) : nk A D j < D * 4294967296 := by
  unfold nk
  have h1 := Nat.mod_lt (A / 4294967296 ^ (j + 1)) hD
  have h2 := Nat.mod_lt (A / 4294967296 ^ j) (show 0 < 4294967296 by decide)
  omega
theorem low_div (A j X : Nat) : (((A % 4294967296 ^ j + 4294967296 ^ j * X : Nat)) : Int) / 4294967296 ^ j = (X : Int) := by
  rw [← wd.pow_cast, ← Int.natCast_ediv, Nat.add_mul_div_left _ _ (wd.pow_nat j), Nat.div_eq_of_lt (Nat.mod_lt _ (wd.pow_nat j)), Nat.zero_add]
/-- A part of what one owns, written over: below it nothing changes, above it are noughts. -/
theorem own_put {w w1 : World} {base b L cap j m A X Y : Nat} {T : TypeId} (hown : Own w base T (some ⟨b, 0, none⟩) L cap (wd.dcells L ((A % 4294967296 ^ j + 4294967296 ^ j * X : Nat) : Int))) (hL : j + m ≤ L) (hX : X < 4294967296 ^ m) (hY : Y < 4294967296 ^ m)
    (hseg : Seg w1 b j (wd.dcells m (Y : Int))) (hw : Wr w w1 b j (j + m)) : Own w1 base T (some ⟨b, 0, none⟩) L cap (wd.dcells L ((A % 4294967296 ^ j + 4294967296 ^ j * Y : Nat) : Int)) := by
  have hs0 := (seg_of_own hown).1
  have hpj := wd.p256 j
  refine hw.owned hown (wd.dcells_length _ _) ?_
  have cong : ∀ Z : Nat, wd.dcells j ((A % 4294967296 ^ j + 4294967296 ^ j * Z : Nat) : Int) = wd.dcells j ((A % 4294967296 ^ j : Nat) : Int) := fun Z => wd.dcells_congr (Z : Int) (by rw [Int.natCast_add, Int.natCast_mul, wd.pow_cast, Int.mul_comm (4294967296 ^ j)])
  have top : ∀ Z : Nat, Z < 4294967296 ^ m → (((A % 4294967296 ^ j + 4294967296 ^ j * Z : Nat)) : Int) / 4294967296 ^ (j + m) = 0 := fun Z hZ => by
    rw [Int.pow_add, ← Int.ediv_ediv_of_nonneg (Int.le_of_lt hpj), low_div]
    exact Int.ediv_eq_zero_of_lt (by omega) (by rw [← wd.pow_cast]; omega)
  have t1 : Seg w1 b 0 (wd.dcells j ((A % 4294967296 ^ j + 4294967296 ^ j * Y : Nat) : Int)) := by
    rw [cong, ← cong X]
    exact hw.out (seg_head hs0 j (by omega)) (by rw [wd.dcells_length]; omega)
  have t3 : Seg w1 b (j + m) (wd.dcells (L - (j + m)) 0) := by
    have := hw.out (seg_part hs0 (j + m) (L - (j + m)) (by omega)) (by omega)
    rwa [Nat.zero_add, top X hX] at this
  have t2 : Seg w1 b j (wd.dcells (m + (L - (j + m))) (Y : Int)) := seg_join hseg (by
    rw [Int.ediv_eq_zero_of_lt (by omega) (by rw [← wd.pow_cast]; omega)]
    exact t3)
  have s1 := seg_join t1 (m := m + (L - (j + m))) (by rw [Nat.zero_add, low_div]; exact t2)
  rwa [show j + (m + (L - (j + m))) = L by omega] at s1

/-- What holds at the head of each round. -/
def LongRel (w : World) (A D lb la m rb qb : Nat) (ds : Option Addr) (i : Value) (wr : World) : Prop := ∃ k : Nat, k ≤ m ∧ i = .int .i64 ((k : Int) - 1) ∧
  Own wr w.heap.size 115 (some ⟨qb, 0, none⟩) m m (wd.xim m k ((A / D : Nat) : Int) 0) ∧ Own wr w.heap.size 115 (some ⟨rb, 0, none⟩) (la + 1) (la + 1) (wd.dcells (la + 1) ((rk A D k : Nat) : Int)) ∧
  Sl wr ds lb (lb + 1) (wd.dcells lb (D : Int)) ∧ Below w.heap.size w wr
theorem long_next {w wr w1 : World} {A D lb la m rb qb j : Nat} {ds : Option Addr} (hD : 0 < D) (hj : j < m) (hm : m + lb = la + 1) (hqr : qb ≠ rb) (hsd : ∀ o, ds ≠ some ⟨rb, o, none⟩) (hsq : ∀ o, ds ≠ some ⟨qb, o, none⟩) (hDl : D < 4294967296 ^ lb)
    (hq : Own wr w.heap.size 115 (some ⟨qb, 0, none⟩) m m (wd.xim m (j + 1) ((A / D : Nat) : Int) 0)) (hr : Own wr w.heap.size 115 (some ⟨rb, 0, none⟩) (la + 1) (la + 1) (wd.dcells (la + 1) ((rk A D (j + 1) : Nat) : Int)))
    (hs : Sl wr ds lb (lb + 1) (wd.dcells lb (D : Int))) (hb : Below w.heap.size w wr) (hseg : Seg w1 rb j (wd.dcells (lb + 1) ((nk A D j % D : Nat) : Int))) (hw : Wr wr w1 rb j (j + (lb + 1))) :
    LongRel w A D lb la m rb qb ds (.int .i64 ((j : Int) - 1)) (w1.setCell ⟨qb, j, none⟩ (.int .u32 ((nk A D j / D : Nat) : Int))) := by
  have hq1 := hw.own hq (fun o e => hqr (by cases e; rfl))
  have hrb := (seg_of_own hr).2.2
  have hqb := (seg_of_own hq).2.2
  have hN : nk A D j < 4294967296 ^ (lb + 1) := by
    have h1 := nk_lt A D j hD
    have h2 : D * 4294967296 ≤ 4294967296 ^ (lb + 1) := by rw [Nat.pow_succ]; exact Nat.mul_le_mul_right _ (by omega)
    omega
  have hr1 := own_put (Y := nk A D j % D) (by rw [rk_split] at hr; exact hr) (by omega) hN (Nat.lt_of_le_of_lt (Nat.mod_le _ _) hN) hseg hw
  rw [nk_mod A D j hD, ← rk_here] at hr1
  have ws : Wr w1 (w1.setCell ⟨qb, j, none⟩ (.int .u32 ((nk A D j / D : Nat) : Int))) qb 0 m := (Wr.refl _ _ _ _).set _ (Nat.zero_le _) hj
  refine ⟨j, by omega, rfl, ?_, ws.own hr1 (fun o e => hqr (by cases e; rfl)), ws.sl (hw.sl hs hsd) hsq, (hw.after hb hrb (Nat.le_refl _)).setCell hqb _⟩
  rw [nk_div A D j hD, ← wd.xim_set]
  exact Own.set hq1 _ hj
theorem addr_ne {b c o o' : Nat} (h : b ≠ c) : (some ⟨b, o, none⟩ : Option Addr) ≠ some ⟨c, o', none⟩ := fun e => by
  simp only [Option.some.injEq, Addr.mk.injEq] at e
  exact h e.1
theorem scale_lt {x s v p : Nat} (hx : x < 2 ^ (32 - s)) (hs : s ≤ 32) (hv : v / 4294967296 ^ p = x) : 2 ^ s * v < 4294967296 ^ (p + 1) := by
  have h1 : v < (x + 1) * 4294967296 ^ p := by rw [← hv]; have := Nat.lt_div_mul_add (a := v) (wd.pow_nat p); rw [Nat.succ_mul]; exact this
  have h2 : (x + 1) * 4294967296 ^ p ≤ 2 ^ (32 - s) * 4294967296 ^ p := Nat.mul_le_mul_right _ hx
  have h3 : 2 ^ s * (2 ^ (32 - s) * 4294967296 ^ p) = 4294967296 ^ (p + 1) := by
    rw [← Nat.mul_assoc, ← Nat.pow_add, show s + (32 - s) = 32 by omega, show (4294967296 : Nat) ^ (p + 1) = 4294967296 ^ p * 4294967296 from Nat.pow_succ _ _, Nat.mul_comm]
  rw [← h3]
  exact Nat.mul_lt_mul_of_pos_left (by omega) (Nat.pow_pos (by decide))
theorem rk_start {A D m : Nat} (h : A < D * 4294967296 ^ m) : rk A D m = A := by
  unfold rk
  rw [Nat.mod_eq_of_lt (Nat.div_lt_of_lt_mul (by rw [Nat.mul_comm]; exact h)), Nat.mul_comm]
  exact Nat.div_add_mod A _
theorem rk_end (A D : Nat) : rk A D 0 = A % D := by
  unfold rk
  simp [Nat.mod_one]

theorem shiftUp_to (a : Option Addr) (l cap u s l1 X : Nat) (w : World) (ha : Sl w a l cap (wd.dcells l (u : Int))) (hu : u < 4294967296 ^ l) (hl : l ≤ 1000000000) (hs : s < 32) (h1 : l1 = l + 1) (hX : X = 2 ^ s * u) :
    Calls Tryz.prog 127 #[.slice a l cap, .int .i64 (s : Int)] w fun e w' => e = .returned (.slice (some ⟨w.heap.size, 0, none⟩) l1 l1) ∧ Own w' w.heap.size 115 (some ⟨w.heap.size, 0, none⟩) l1 l1 (wd.dcells l1 (X : Int)) ∧ Below w.heap.size w w' := by
  subst h1 hX
  exact shiftUp_any a l cap u s w ha hu hl hs
theorem takeOff_to (b o n n1 cs : Nat) (yb : Option Addr) (cy N D : Nat) (w : World) (hn1 : n1 = n + 1) (hb : b < w.heap.size) (hseg : Seg w b o (wd.dcells (n + 1) (N : Int))) (hN : N < D * 4294967296) (hcs : n + 1 ≤ cs) (hcs' : cs ≤ 1000000000000) (hy : Sl w yb n cy (wd.dcells n (D : Int))) (hD : D < 4294967296 ^ n) (hn : 2 ≤ n) (htop : 4294967296 ^ (n - 1) ≤ D) (hne : ∀ o, yb ≠ some ⟨b, o, none⟩) :
    Calls Tryz.prog 128 #[.slice (some ⟨b, o, none⟩) n1 cs, .slice yb n cy] w fun e w' => e = .returned (.int .u32 ((N / D : Nat) : Int)) ∧ Seg w' b o (wd.dcells (n + 1) ((N % D : Nat) : Int)) ∧ Wr w w' b o (o + (n + 1)) := by
  subst hn1
  exact takeOff_any b o n cs yb cy N D w hb hseg hN hcs hcs' hy hD hn htop hne
theorem shiftDown_to (b l l1 cap R s base X : Nat) (w : World) (h1 : l1 = l) (hX : R / 2 ^ s = X) (hown : Own w base 115 (some ⟨b, 0, none⟩) l cap (wd.dcells l (R : Int))) (hR : R < 4294967296 ^ l) (hs : s < 32) :
    Calls Tryz.prog 129 #[.slice (some ⟨b, 0, none⟩) l1 cap, .int .i64 (s : Int)] w fun e w' => e = .returned (.tuple #[]) ∧ Own w' base 115 (some ⟨b, 0, none⟩) l cap (wd.dcells l (X : Int)) ∧ Wr w w' b 0 l := by
  subst h1 hX
  exact shiftDown_any b l1 cap R s base w hown hR hs
set_option maxRecDepth 100000 in
set_option maxHeartbeats 1000000 in
theorem divideLong_any (a b : Option Addr) (la lb m ca cb u v : Nat) (w : World) (ha : Sl w a la ca (wd.dcells la (u : Int))) (hu : u < 4294967296 ^ la) (hla : la ≤ 100000000) (hb : Sl w b lb cb (wd.dcells lb (v : Int))) (hv : v < 4294967296 ^ lb) (hlb : 2 ≤ lb) (hm : m + lb = la + 1) (hm1 : 1 ≤ m) (htop : 4294967296 ^ (lb - 1) ≤ v) :
    Calls Tryz.prog 119 #[.slice a la ca, .slice b lb cb] w fun e w' => ∃ qb rb, e = .returned (.tuple #[.slice (some ⟨qb, 0, none⟩) m m, .slice (some ⟨rb, 0, none⟩) (la + 1) (la + 1)]) ∧
      Own w' w.heap.size 115 (some ⟨qb, 0, none⟩) m m (wd.dcells m ((u / v : Nat) : Int)) ∧ Own w' w.heap.size 115 (some ⟨rb, 0, none⟩) (la + 1) (la + 1) (wd.dcells (la + 1) ((u % v : Nat) : Int)) ∧ Below w.heap.size w w' := by
  obtain ⟨i0, hi0, hz0, hz1, hz2⟩ := info_parts infoWord
  have hz0' : wd.dcells m 0 = List.replicate m (.int .u32 0) := wd.dcells_zero _
  have hmax : m ≤ maxLen := by unfold maxLen; omega
  obtain ⟨p, hp⟩ : ∃ p, lb = p + 1 := ⟨lb - 1, by omega⟩
  have hpn := wd.pow_nat p
  obtain ⟨x, hx⟩ : ∃ x, x = v / 4294967296 ^ p := ⟨_, rfl⟩
  have x1 : x < 4294967296 := by rw [hx]; exact Nat.div_lt_of_lt_mul (by rw [hp, Nat.pow_succ] at hv; exact hv)
  have x0 : 0 < x := by
    rw [hx]
    rw [hp] at htop
    exact Nat.div_pos htop hpn
  have hxd : wd.dg (v : Int) p = (x : Int) := by
    unfold wd.dg
    rw [← wd.pow_cast, ← Int.natCast_ediv, ← hx]
    omega
  have nl1 : bt.nlen x ≤ 32 := bt.nlen_le (by simpa using x1)
  have nl2 := bt.nlen_lt x
  have nl3 : 1 ≤ bt.nlen x := by
    rcases Nat.eq_zero_or_pos (bt.nlen x) with e | e
    · rw [e] at nl2; simp at nl2; omega
    · exact e
  obtain ⟨s, hs⟩ : ∃ s, bt.nlen x = 32 - s ∧ s < 32 := ⟨32 - bt.nlen x, by omega, by omega⟩
  have hs2 := hs.2
  have hDl : 2 ^ s * v < 4294967296 ^ lb := by rw [hp]; exact scale_lt (by rw [← hs.1]; exact nl2) (by omega) hx.symm
  obtain ⟨D, hD⟩ : ∃ D, D = 2 ^ s * v := ⟨_, rfl⟩
  obtain ⟨A, hA⟩ : ∃ A, A = 2 ^ s * u := ⟨_, rfl⟩
  rw [← hD] at hDl
  have h2s : 0 < 2 ^ s := Nat.pow_pos (by decide)
  have hDt : 4294967296 ^ (lb - 1) ≤ D := by rw [hD]; exact Nat.le_trans htop (Nat.le_mul_of_pos_left _ h2s)
  have hD0 : 0 < D := Nat.lt_of_lt_of_le (wd.pow_nat _) hDt
  have hAD : A < D * 4294967296 ^ m := by
    rw [hA, hD, Nat.mul_assoc]
    refine Nat.mul_lt_mul_of_pos_left (Nat.lt_of_lt_of_le hu ?_) h2s
    have := Nat.mul_le_mul_right (4294967296 ^ m) htop
    rw [← Nat.pow_add, show lb - 1 + m = la by omega] at this
    exact this
  have HQ : Hid (A / D = u / v) := by unfold Hid; rw [hA, hD, Nat.mul_div_mul_left _ _ h2s]
  have HR : Hid (A % D / 2 ^ s = u % v) := by unfold Hid; rw [hA, hD, Nat.mul_mod_mul_left, Nat.mul_div_cancel_left _ h2s]
  have HRl : Hid (A % D < 4294967296 ^ (la + 1)) := by
    unfold Hid
    have := Nat.mod_lt A hD0
    have : (4294967296 : Nat) ^ lb ≤ 4294967296 ^ (la + 1) := Nat.pow_le_pow_right (by decide) (by omega)
    omega
  have HRS : Hid (rk A D m = A) := rk_start hAD
  have HLZ : Hid _ := fun w0 => leading_any x s (xv := (x : Int)) rfl x1 hs.1 (by omega) w0
  obtain ⟨lb1, hlb1⟩ : ∃ lb1, lb1 = lb + 1 := ⟨_, rfl⟩
  obtain ⟨la1, hla1⟩ : ∃ la1, la1 = la + 1 := ⟨_, rfl⟩
  have HB1 : Hid _ := hlb1
  have HA1 : Hid _ := hla1
  have HD1 : Hid _ := hD
  have HA2 : Hid _ := hA
  have HU : Hid _ := hu
  have HV : Hid _ := hv
  rw [← hla1]
  have c1 := hb.at (by omega)
  obtain ⟨bb, ob, rfl, hbb, hsb⟩ := c1
  have c1 := hsb.cell p _ (wd.dcells_at _ _ _ (by omega))
  rw [hxd] at c1
  have hcb := hb.big
  have hrb := hb.room
  unfold maxLen at hcb
  have e1 : (lb : Int) - 1 = (p : Int) := by omega
  have l1 : p < lb := by omega
  have l2 : lb < lb1 := by omega
  have l3 : la < la1 := by omega
  have l4 : lb1 ≤ 1000000000 := by omega
  have l5 : la1 ≤ 1000000000 := by omega
  have e2 : (la : Int) - (lb : Int) + 1 = (m : Int) := by omega
  have l6 : m ≤ la := by omega
  have HDt : Hid _ := hDt
  have HML : Hid _ := hm
  have HDl : Hid _ := hDl
  clear hm hx hs hD hA nl1 nl2 nl3 hlb1 hla1 hp htop hu hv hDt hAD hDl h2s hxd hpn hsb
  go_enter Tryz.func119, Tryz.ntmps119
  go_wp2_with (go_at_call 126; refine (HLZ.out _).mono ?_; rintro e w' ⟨rfl, hw⟩; subst hw)
  refine (shiftUp_to _ lb cb v s lb1 D _ hb HV.out (by omega) hs2 HB1.out HD1.out).mono ?_
  rintro e w1 ⟨rfl, hownD, hbel1⟩
  have ha1 := ha.below hbel1
  have HownD : Hid _ := hownD
  clear hownD
  go_wp2_with (go_at_call 127; fail)
  refine (shiftUp_to a la ca u s la1 A _ ha1 HU.out (by omega) hs2 HA1.out HA2.out).mono ?_
  rintro e w2 ⟨rfl, hownR, hbel2⟩
  have HownR : Hid _ := hownR
  clear hownR
  go_wp2_with (at_make; refine make_any _ rfl (.tmp 30) (.tmp 30) 25 rfl w2.heap.size 115 i0 (.int .u32 0) Tryz.underlying25 hi0 hz0 hz1 rfl .i64 .i64 _ _ m rfl rfl (by simp) (by simp) (by rw [hz2]; omega) (by omega) (Nat.le_refl _) ?_; intro w3 hownQ hbel3)
  have hz1' := (seg_of_own HownD.out).2.1
  have hz2' := (seg_of_own HownR.out).2.1
  have b12 : Below w.heap.size w w2 := hbel1.trans (hbel2.mono hbel1.size)
  have b13 : Below w.heap.size w w3 := b12.trans (hbel3.mono b12.size)
  rw [← hz0', ← wd.xim_full m ((A / D : Nat) : Int) 0] at hownQ
  have HST : Hid (LongRel w A D lb la m w1.heap.size w2.heap.size (some ⟨w.heap.size, 0, none⟩) (.int .i64 ((m : Int) - 1)) w3) := by
    refine ⟨m, Nat.le_refl _, rfl, Own.mono hownQ b12.size, ?_, ?_, b13⟩
    · rw [HRS.out, ← HA1.out]
      exact Own.mono (Own.below HownR.out hbel3) hbel1.size
    · have h := Sl.take (m := lb) (Own.sl (Own.below (Own.below HownD.out hbel2) hbel3)) (by omega)
      rw [wd.dcells_take _ _ _ (by omega), HB1.out] at h
      exact h
  have n1 : w2.heap.size ≠ w1.heap.size := by omega
  have n2 : w1.heap.size ≠ w.heap.size := by omega
  have n3 : w2.heap.size ≠ w.heap.size := by omega
  clear hownQ hbel1 hbel2 hbel3 b12 b13 HownD HownR ha1 hz1' hz2'
  obtain ⟨db, hdb⟩ : ∃ db, db = w.heap.size := ⟨_, rfl⟩
  obtain ⟨rb, hrb'⟩ : ∃ rb, rb = w1.heap.size := ⟨_, rfl⟩
  obtain ⟨qb, hqb⟩ : ∃ qb, qb = w2.heap.size := ⟨_, rfl⟩
  go_loopw [8] (fun i wr => LongRel w A D lb la m w1.heap.size w2.heap.size (some ⟨w.heap.size, 0, none⟩) i wr) (fun i _ => (intOf i + 1).toNat)
  case atStart => exact HST.out
  case round =>
    obtain ⟨k, hk, rfl, hq, hr, hs, hbel⟩ := hrel
    rcases k with _ | j
    · rw [rk_end] at hr
      rw [wd.xim_zero, HQ.out] at hq
      have HSD : Hid _ := hr
      have HSQ : Hid _ := hq
      have hr2 := hr
      rw [← HA1.out] at hr2
      have HSD2 : Hid _ := hr2
      have HSP : Hid (A % D < 4294967296 ^ la1) := by rw [HA1.out]; exact HRl.out
      clear hr hq hr2
      go_wp2_with (go_at_call 129; fail)
      refine (shiftDown_to w1.heap.size la1 la1 la1 (A % D) s w.heap.size (u % v) wr rfl HR.out HSD2.out HSP.out hs2).mono ?_
      rintro e wx ⟨rfl, hown2, hwx⟩
      have hq1 := hwx.own HSQ.out (fun o => addr_ne n1)
      have hb2 := hwx.after hbel (seg_of_own HSD2.out).2.2 (Nat.le_refl _)
      have HO1 : Hid _ := hq1
      have HO2 : Hid _ := hown2
      clear hq1 hown2
      go_wp2
      go_ret2
      exact ⟨_, _, rfl, HO1.out, HO2.out, hb2⟩
    · have hrb2 := seg_of_own hr
      have hsg := seg_part hrb2.1 j (lb + 1) (by have := HML.out; omega)
      rw [Nat.zero_add, rk_split, low_div] at hsg
      have HN : Hid _ := fun wx hh hw => long_next (w := w) (w1 := wx) (A := A) (D := D) (lb := lb) (la := la) (m := m) (rb := w1.heap.size) (qb := w2.heap.size) (j := j) hD0 (by omega) HML.out n1 (fun o => addr_ne (Ne.symm n2)) (fun o => addr_ne (Ne.symm n3)) HDl.out hq hr hs hbel hh hw
      have HQ1 : Hid _ := fun (wx : World) (hw : Wr wr wx w1.heap.size j (j + (lb + 1))) => hw.own hq (fun o => addr_ne n1)
      have e3 : ((j + 1 : Nat) : Int) - 1 = (j : Int) := by omega
      have e4 : (j : Int) + (lb : Int) + 1 = (j : Int) + (lb1 : Int) := by have := HB1.out; omega
      have l7 : j + lb1 ≤ la1 := by have := HB1.out; have := HA1.out; have := HML.out; omega
      have l8 : j < m := by omega
      have hs1 := hs
      rw [← HB1.out] at hs1
      have TO := takeOff_to w1.heap.size j lb lb1 (la1 - j) (some ⟨w.heap.size, 0, none⟩) lb1 (nk A D j) D wr HB1.out hrb2.2.1 hsg (nk_lt A D j hD0) (by have := HB1.out; omega) (by omega) hs1 HDl.out hlb HDt.out (fun o => addr_ne (Ne.symm n2))
      have HTO : Hid _ := TO
      clear hsg hq hr hrb2 hs1 hs TO
      go_wp2_with (go_at_call 128; fail)
      refine (show Calls _ _ _ _ _ from HTO.out).mono ?_
      rintro e wx ⟨rfl, hsg2, hwx⟩
      have hq1 := HQ1.out wx hwx
      have c3 : wx.cell? ⟨w2.heap.size, j, none⟩ = some (.int .u32 (wd.dg 0 j)) := Own.cell hq1 j _ (wd.xim_at _ _ _ _ _ (by omega) (by omega))
      have c4 : wx.frozen? ⟨w2.heap.size, j, none⟩ = false := Own.free hq1 j (by omega)
      have HN2 : Hid _ := HN.out wx hsg2 hwx
      have q1 : nk A D j / D < 4294967296 := Nat.div_lt_of_lt_mul (nk_lt A D j hD0)
      clear hq1 hsg2
      go_wp2
      go_roundw
      case rel => exact HN2.out
      case measure => simp [intOf]
end Go.Proofs.YtcaihoomcdbfnaaGreat

namespace Go.Proofs.YtcaihoomcdbfnaaGreat
open Go.RowKit
set_option linter.unusedVariables false

theorem top_le {v l : Nat} (h : wd.nlen v = l + 1) : 4294967296 ^ l ≤ v := by
  refine Nat.le_of_not_lt fun hlt => ?_
  have := wd.nlen_le hlt
  omega
set_option maxRecDepth 100000 in
set_option maxHeartbeats 1000000 in
theorem divMod_long (a b : Option Addr) (la lb ca cb u v : Nat) (w : World) (ha : Sl w a la ca (wd.dcells la (u : Int))) (hu : u < 4294967296 ^ la) (hla : la ≤ 100000000) (hb : Sl w b lb cb (wd.dcells lb (v : Int))) (hv : v < 4294967296 ^ lb) (hlb : 2 ≤ wd.nlen v) (hge : wd.nlen v ≤ wd.nlen u) :
    Calls Tryz.prog 107 #[.slice a la ca, .slice b lb cb] w (Both w (u / v) (u % v)) := by
  have hlu := wd.nlen_le hu
  have hu2 := wd.nlen_lt u
  have hv2 := wd.nlen_lt v
  obtain ⟨lu, hlu'⟩ : ∃ lu, lu = wd.nlen u := ⟨_, rfl⟩
  obtain ⟨lv, hlv'⟩ : ∃ lv, lv = wd.nlen v := ⟨_, rfl⟩
  obtain ⟨m, hm⟩ : ∃ m, m = lu - lv + 1 := ⟨_, rfl⟩
  rw [← hlu'] at hlu hu2 hge
  rw [← hlv'] at hv2 hlb hge
  have htop : 4294967296 ^ (lv - 1) ≤ v := top_le (by omega)
  have hv0 : 0 < v := Nat.lt_of_lt_of_le (wd.pow_nat _) htop
  have HT : Hid _ := htop
  have HQl : Hid (u / v < 4294967296 ^ m) := Nat.div_lt_of_lt_mul (by
    have := Nat.mul_le_mul_right (4294967296 ^ m) htop
    rw [← Nat.pow_add, show lv - 1 + m = lu by omega] at this
    omega)
  have HRl : Hid (u % v < 4294967296 ^ (lu + 1)) := by
    have := Nat.mod_lt u hv0
    have : (4294967296 : Nat) ^ lv ≤ 4294967296 ^ (lu + 1) := Nat.pow_le_pow_right (by decide) (by omega)
    unfold Hid
    omega
  have HM : Hid (m + lv = lu + 1) := by unfold Hid; omega
  have HU : Hid _ := hlu'.symm
  have HV : Hid _ := hlv'.symm
  have HU2 : Hid _ := hu2
  have HV2 : Hid _ := hv2
  have hm1 : 1 ≤ m := by omega
  clear hlu' hlv' hm htop hu2 hv2
  go_enter Tryz.func107, Tryz.ntmps107
  go_wp2_with (first
    | (go_at_call_of 89 [Value.slice a la ca]; refine (strip_to lu a la ca u _ ha hu HU.out).mono ?_; rintro e w' ⟨a1, ca1, rfl, hw, hcut1⟩; subst hw)
    | (go_at_call_of 89 [Value.slice b lb cb]; refine (strip_to lv b lb cb v _ hb hv HV.out).mono ?_; rintro e w' ⟨b1, cb1, rfl, hw, hcut2⟩; subst hw)
    | (go_at_call 119; fail))
  have sa : Sl w a1 lu ca1 (wd.dcells lu (u : Int)) := by have := hcut1.sl ha; exact this
  have sb : Sl w b1 lv cb1 (wd.dcells lv (v : Int)) := by have := hcut2.sl hb; exact this
  refine (divideLong_any a1 b1 lu lv m ca1 cb1 u v w sa HU2.out (by omega) sb HV2.out hlb HM.out hm1 HT.out).mono ?_
  rintro e w1 ⟨qb, rb, rfl, hq, hr, hbel⟩
  have HQ : Hid _ := hq
  have HR : Hid _ := hr
  clear hq hr
  obtain ⟨l1, hl1⟩ : ∃ l1, l1 = lu + 1 := ⟨_, rfl⟩
  have HL1 : Hid _ := hl1
  rw [← hl1]
  have HR1 : Hid (Own w1 w.heap.size 115 (some ⟨rb, 0, none⟩) l1 l1 (wd.dcells l1 ((u % v : Nat) : Int))) := by rw [hl1]; exact HR.out
  have HRl1 : Hid (u % v < 4294967296 ^ l1) := by rw [hl1]; exact HRl.out
  clear hl1
  go_wp2_with (go_at_call 89; fail)
  refine (strip_any (some ⟨qb, 0, none⟩) m m (u / v) w1 (Own.sl HQ.out) HQl.out).mono ?_
  rintro e w' ⟨a3, ca3, rfl, hw, hcut3⟩
  subst hw
  go_wp2_with (go_at_call 89; fail)
  refine (strip_any (some ⟨rb, 0, none⟩) l1 l1 (u % v) w1 (Own.sl HR1.out) HRl1.out).mono ?_
  rintro e w' ⟨a4, ca4, rfl, hw, hcut4⟩
  subst hw
  go_wp2
  go_ret3
  exact ⟨a3, ca3, a4, ca4, rfl, hcut3.own HQ.out, hcut4.own HR1.out, hbel⟩

/-- DivMod by a number that isn't nought. -/
theorem divMod_any (a b : Option Addr) (la lb ca cb u v : Nat) (w : World) (ha : Sl w a la ca (wd.dcells la (u : Int))) (hu : u < 4294967296 ^ la) (hla : la ≤ 100000000) (hb : Sl w b lb cb (wd.dcells lb (v : Int))) (hv : v < 4294967296 ^ lb) (h0 : 0 < v) :
    Calls Tryz.prog 107 #[.slice a la ca, .slice b lb cb] w (Both w (u / v) (u % v)) := by
  rcases Nat.lt_or_ge (wd.nlen u) (wd.nlen v) with h | h
  · exact divMod_less a b la lb ca cb u v w ha hu (by omega) hb hv h
  · rcases Nat.lt_or_ge (wd.nlen v) 2 with h2 | h2
    · have h1 : wd.nlen v = 1 := by
        rcases Nat.eq_zero_or_pos (wd.nlen v) with e | e
        · have := wd.nlen_lt v
          rw [e] at this
          simp at this
          omega
        · omega
      exact divMod_word a b la lb ca cb u v w ha hu (by omega) hb hv h1 (by omega)
    · exact divMod_long a b la lb ca cb u v w ha hu hla hb hv h2 h
end Go.Proofs.YtcaihoomcdbfnaaGreat

namespace Go.Proofs.YtcaihoomcdbfnaaGreat
open Go.RowKit Go.Shelf
set_option linter.unusedVariables false
attribute [local go_sem] Oper.semAt_some

/-- What has come when r are left: p, p - 1, .., r. -/
def dn (p r : Nat) : List (Fin (p + 1)) := (List.range (p + 1 - r)).map fun j => ⟨p - j, by omega⟩
theorem dn_start (p : Nat) : dn p (p + 1) = [] := by simp [dn]
theorem dn_next (p q : Nat) (h : q < p + 1) : dn p q = dn p (q + 1) ++ [⟨q, h⟩] := by
  unfold dn
  rw [show p + 1 - q = (p + 1 - (q + 1)) + 1 by omega, List.range_succ, List.map_append]
  congr 1
  simp
  omega
theorem dn_length (p r : Nat) : (dn p r).length = p + 1 - r := by simp [dn]
theorem dn_mem (p r : Nat) (x : Fin (p + 1)) : x ∈ dn p r ↔ r ≤ x.1 := by
  unfold dn
  simp only [List.mem_map, List.mem_range]
  refine ⟨fun ⟨j, hj, e⟩ => by rw [← e]; show r ≤ p - j; omega, fun h => ⟨p - x.1, by have := x.2; omega, by have := x.2; apply Fin.ext; show p - (p - x.1) = x.1; omega⟩⟩

set_option maxRecDepth 100000 in
set_option maxHeartbeats 2000000 in
theorem backward1_in (F : Fence) (n : Nat) (h7 : F.fn 131) (hro : F.round = none) (hn : 1 ≤ n) (l Bs n₀ b off p cap u : Nat) (hcap : p + 1 ≤ cap) (hreach : cap ≤ 9223372036854775807) (hb : b < n₀) (J Jx : List (Fin (p + 1)) → World → Prop)
    (hY : ∀ pre x W, J pre W → pre.length < p + 1 → YieldAt F (n - 1) Tryz.prog l #[.int .i64 ((x.1 : Nat) : Int), .int .u32 (wd.dg u x.1)] W fun e W' =>
      (e = .returned (.bool true) ∧ J (pre ++ [x]) W' ∧ Below n₀ W W') ∨ (e = .returned (.bool false) ∧ Jx (pre ++ [x]) W'))
    (W : World) (hBs : W.cell? ⟨Bs, 0, none⟩ = some (.slice (some ⟨b, off, none⟩) (p + 1) cap)) (hBn : Bs < n₀) (hc : Seg W b off (wd.dcells (p + 1) u)) (h0 : J [] W) :
    CallsIn F n Tryz.prog 131 #[.func (.yield l) #[] #[], .pointer (some ⟨Bs, 0, none⟩)] W fun e W' => (∃ v, e = .returned v) ∧
      ((∃ ys, ys = dn p 0 ∧ J ys W') ∨ (∃ pre, (∃ r, r ≤ p ∧ pre = dn p r) ∧ Jx pre W')) := by
  refine callsIn_of_wp Tryz.func131 rfl h7 ?_ hro
  simp only [Tryz.ntmps131, List.size_toArray, List.length_cons, List.length_nil, Nat.reduceAdd, Nat.reduceSub, Array.replicate_succ, Array.replicate_zero, List.push_toArray, List.append_toArray, List.nil_append, List.cons_append]
  gi_wp2
  gi_loopw [3] (fun i wr => ∃ r : Nat, r ≤ p + 1 ∧ i = .int .i64 ((r : Int) - 1) ∧ J (dn p r) wr ∧ Below n₀ W wr)
    (fun i _ => (intOf i + 1).toNat)
  case atStart => exact ⟨p + 1, Nat.le_refl _, by go_num, by rw [dn_start]; exact h0, Below.refl _ _⟩
  case round =>
    obtain ⟨r, hr, rfl, hJs, hnx⟩ := hrel
    have hBx : wr.cell? ⟨Bs, 0, none⟩ = some (.slice (some ⟨b, off, none⟩) (p + 1) cap) := (hnx.cell (p := ⟨Bs, 0, none⟩) hBn).trans hBs
    rcases r with _ | q
    · gi_wp2
      go_end0
      exact ⟨⟨_, rfl⟩, .inl ⟨_, rfl, hJs⟩⟩
    · have hcx : wr.cell? ⟨b, off + q, none⟩ = some (.int .u32 (wd.dg u q)) := (hnx.cell (p := ⟨b, off + q, none⟩) hb).trans (hc.cell q _ (wd.dcells_at _ _ _ (by omega)))
      obtain ⟨fn, tmps, assign, body, hy, hR⟩ := hY _ ⟨q, by omega⟩ wr hJs (by rw [dn_length]; omega)
      dsimp only at hy
      have e1 : ((q + 1 : Nat) : Int) - 1 = (q : Int) := by omega
      gi_wp2
      refine hR.mono ?_
      rintro e W3 (⟨rfl, hJ3, hk3⟩ | ⟨rfl, hJx3⟩)
      · -- THE ROUND GOES ON
        gi_wp2
        go_roundw
        case rel => exact ⟨q, by omega, by go_num, by rw [dn_next p q (by omega)]; exact hJ3, hnx.trans hk3⟩
        case measure => simp [intOf]
      · gi_wp2
        refine bodyPost_ret (results_none rfl _ _ _) rfl ?_
        exact ⟨⟨_, rfl⟩, .inr ⟨_, ⟨q, by omega, (dn_next p q (by omega)).symm⟩, hJx3⟩⟩

set_option maxHeartbeats 1000000 in
theorem backward_in (F : Fence) (n : Nat) (h5 : F.fn 121) (hro : F.round = none) (a : Option Addr) (len cap : Nat) (w : World) :
    CallsIn F n Tryz.prog 121 #[.slice a len cap] w fun e w' => e = .returned (.func (.func 131) #[] #[.pointer (some ⟨w.heap.size, 0, none⟩)]) ∧ w' = w.alloc (.cells #[.slice a len cap] 25) := by
  refine callsIn_of_wp Tryz.func121 rfl h5 ?_ hro
  simp only [Tryz.ntmps121, List.size_toArray, List.length_cons, List.length_nil, Nat.reduceAdd, Nat.reduceSub, Array.replicate_succ, Array.replicate_zero, List.push_toArray, List.append_toArray, List.nil_append, List.cons_append]
  gi_wp2
  go_ret
  exact ⟨rfl, rfl⟩

theorem backward_stops (F : Fence) (n : Nat) (h7 : F.fn 131) (hro : F.round = none) (hn : 1 ≤ n) (Bs n₀ p cap u : Nat) (a : Option Addr) (w : World) (hBs : Bs < w.heap.size) (hn₀ : n₀ ≤ w.heap.size) (hBn : Bs < n₀)
    (hc : w.cell? ⟨Bs, 0, none⟩ = some (.slice a (p + 1) cap)) (b off : Nat) (ha : a = some ⟨b, off, none⟩) (hb : b < n₀) (hcap : p + 1 ≤ cap) (hreach : cap ≤ 9223372036854775807) (hI : Seg w b off (wd.dcells (p + 1) u)) :
    SeqStopsK F n Tryz.prog 131 #[.pointer (some ⟨Bs, 0, none⟩)] (fun x : Fin (p + 1) => #[Value.int .i64 ((x.1 : Nat) : Int), Value.int .u32 (wd.dg u x.1)]) (Below n₀) (fun ys => ys = dn p 0)
      (fun pre => ∃ r, r ≤ p ∧ pre = dn p r) (p + 1) w := fun l J Jx W hW _ _ hY h0 => by
  subst ha
  have hc' := (hW.cell (p := ⟨Bs, 0, none⟩) hBs).trans hc
  exact backward1_in F n h7 hro hn l Bs n₀ b off p cap u hcap hreach hb J Jx hY W hc' hBn (hI.below hW (by omega)) h0
set_option maxRecDepth 100000 in
set_option maxHeartbeats 1000000 in
/-- .. at a slice without elements: no round. -/
theorem backward_nil_stops (F : Fence) (n : Nat) (h7 : F.fn 131) (hro : F.round = none) (Bs n₀ cap : Nat) (a : Option Addr) (w : World) (hBs : Bs < w.heap.size) (hc : w.cell? ⟨Bs, 0, none⟩ = some (.slice a 0 cap)) (enc : Empty → Array Value) :
    SeqStopsK F n Tryz.prog 131 #[.pointer (some ⟨Bs, 0, none⟩)] enc (Below n₀) (fun ys => ys = []) (fun _ => True) 0 w := fun l J Jx W hW _ _ hY h0 => by
  have hc' := (hW.cell (p := ⟨Bs, 0, none⟩) hBs).trans hc
  refine callsIn_of_wp Tryz.func131 rfl h7 ?_ hro
  simp only [Tryz.ntmps131, List.size_toArray, List.length_cons, List.length_nil, Nat.reduceAdd, Nat.reduceSub, Array.replicate_succ, Array.replicate_zero, List.push_toArray, List.append_toArray, List.nil_append, List.cons_append]
  gi_wp2
  gi_loopw [3] (fun i wr => i = .int .i64 (-1) ∧ J [] wr) (fun _ _ => 0)
  case atStart => exact ⟨rfl, h0⟩
  case round =>
    obtain ⟨rfl, hJs⟩ := hrel
    gi_wp2
    go_end0
    exact ⟨⟨_, rfl⟩, .inl ⟨_, rfl, hJs⟩⟩
end Go.Proofs.YtcaihoomcdbfnaaGreat

namespace Go.Proofs.YtcaihoomcdbfnaaGreat
open Go.RowKit Go.Shelf
set_option linter.unusedVariables false
attribute [local go_sem] Oper.semAt_some

/-- -1, 0 or 1. -/
def cmpI (x y : Int) : Int := if x < y then -1 else if y < x then 1 else 0
theorem cmpInt_any (x y : Int) (w : World) :
    Calls Tryz.prog 120 #[.int .i64 x, .int .i64 y] w fun e w' => e = .returned (.int .i64 (cmpI x y)) ∧ w = w' := by
  unfold cmpI
  go_enter Tryz.func120, Tryz.ntmps120
  go_wp2
  all_goals (go_ret; exact ⟨rfl, rfl⟩)
theorem cmpWord_any (x y : Int) (w : World) :
    Calls Tryz.prog 122 #[.int .u32 x, .int .u32 y] w fun e w' => e = .returned (.int .i64 (cmpI x y)) ∧ w = w' := by
  unfold cmpI
  go_enter Tryz.func122, Tryz.ntmps122
  go_wp2
  all_goals (go_ret; exact ⟨rfl, rfl⟩)
/-- Equal from place k on. -/
theorem top_eq {u v m k : Nat} (hk : k ≤ m) (hu : u < 4294967296 ^ m) (hv : v < 4294967296 ^ m) (h : ∀ j, k ≤ j → j < m → wd.dg (u : Int) j = wd.dg (v : Int) j) : u / 4294967296 ^ k = v / 4294967296 ^ k := by
  have hlt : ∀ x : Nat, x < 4294967296 ^ m → x / 4294967296 ^ k < 4294967296 ^ (m - k) := fun x hx => by
    refine Nat.div_lt_of_lt_mul ?_
    rw [← Nat.pow_add, show k + (m - k) = m by omega]
    exact hx
  refine wd.eq_of_dcells (m - k) _ _ (hlt u hu) (hlt v hv) fun j hj => ?_
  rw [Int.natCast_ediv, Int.natCast_ediv, wd.pow_cast, wd.dg_div, wd.dg_div]
  exact h _ (by omega) (by omega)

theorem strip_len (m : Nat) (a : Option Addr) (l cap u : Nat) (w : World) (hs : Sl w a l cap (wd.dcells l (u : Int))) (hu : u < 4294967296 ^ l) (hm : wd.nlen u = m) :
    Calls Tryz.prog 89 #[.slice a l cap] w fun e w' => ∃ a' cap', e = .returned (.slice a' m cap') ∧ w = w' ∧ Cut a l cap a' m cap' := by
  subst hm
  exact strip_any a l cap u w hs hu
set_option maxRecDepth 100000 in
set_option maxHeartbeats 2000000 in
theorem cmp_ne (a b : Option Addr) (la lb ca cb u v m1 m2 : Nat) (w : World) (ha : Sl w a la ca (wd.dcells la (u : Int))) (hu : u < 4294967296 ^ la) (hb : Sl w b lb cb (wd.dcells lb (v : Int))) (hv : v < 4294967296 ^ lb) (h1 : Hid (wd.nlen u = m1)) (h2 : Hid (wd.nlen v = m2)) (hne : m1 ≠ m2) (HC : Hid (cmpI (m1 : Int) m2 = cmpI u v)) :
    Calls Tryz.prog 113 #[.slice a la ca, .slice b lb cb] w fun e w' => e = .returned (.int .i64 (cmpI u v)) ∧ Below w.heap.size w w' := by
  refine callsIn_wide.1 (callsIn_of_wp_marks (F := Fence.wide) (n := 4) Tryz.func113 rfl trivial ?_ rfl)
  simp only [Tryz.ntmps113, List.size_toArray, List.length_cons, List.length_nil, Nat.reduceAdd, Nat.reduceSub, Array.replicate_succ, Array.replicate_zero, List.push_toArray, List.append_toArray, List.nil_append, List.cons_append]
  refine wpIn_wide.2 ?_
  have hB0 : Below w.heap.size w ((w.alloc (.cells #[.slice b lb cb] 25)).alloc (.cells #[.int .i64 0] 3)) := ((Below.refl _ _).alloc (Nat.le_refl _) _).alloc (by simp) _
  go_wp2
  refine wp_region_noPanic ?_
  go_region_with (first
    | (go_at_call_of 89 [Value.slice a la ca]; refine (strip_len m1 a la ca u _ (ha.below (by first | exact hB0 | exact hB0.drew | exact hB0.drew.drew)) hu h1.out).mono ?_; rintro e w' ⟨a1, ca1, rfl, hw, hcut1⟩; subst hw)
    | (go_at_call 89; refine (strip_len m2 b lb cb v _ (hb.below (by first | exact hB0 | exact hB0.drew | exact hB0.drew.drew)) hv h2.out).mono ?_; rintro e w' ⟨b1, cb1, rfl, hw, hcut2⟩; subst hw))
  all_goals
    refine NoPanic.normal ?_
    go_wp2_with (go_at_call 120; refine (cmpInt_any _ _ _).mono ?_; rintro e w' ⟨rfl, hw⟩; subst hw)
    refine ⟨.int .i64 (cmpI m1 m2), by simp [results, Tryz.results113, go_sem], by rw [HC.out], ?_⟩
    exact (((Below.refl _ _).alloc (Nat.le_refl _) _).alloc (by simp) _).drew

set_option maxRecDepth 100000 in
set_option maxHeartbeats 2000000 in
theorem cmp_zero (a b : Option Addr) (la lb ca cb u v : Nat) (w : World) (ha : Sl w a la ca (wd.dcells la (u : Int))) (hu : u < 4294967296 ^ la) (hb : Sl w b lb cb (wd.dcells lb (v : Int))) (hv : v < 4294967296 ^ lb) (h1 : Hid (wd.nlen u = 0)) (h2 : Hid (wd.nlen v = 0)) (HC : Hid (0 = cmpI u v)) :
    Calls Tryz.prog 113 #[.slice a la ca, .slice b lb cb] w fun e w' => e = .returned (.int .i64 (cmpI u v)) ∧ Below w.heap.size w w' := by
  refine callsIn_wide.1 (callsIn_of_wp_marks (F := Fence.wide) (n := 4) Tryz.func113 rfl trivial ?_ rfl)
  simp only [Tryz.ntmps113, List.size_toArray, List.length_cons, List.length_nil, Nat.reduceAdd, Nat.reduceSub, Array.replicate_succ, Array.replicate_zero, List.push_toArray, List.append_toArray, List.nil_append, List.cons_append]
  refine wpIn_wide.2 ?_
  have hB0 : Below w.heap.size w ((w.alloc (.cells #[.slice b lb cb] 25)).alloc (.cells #[.int .i64 0] 3)) := ((Below.refl _ _).alloc (Nat.le_refl _) _).alloc (by simp) _
  go_wp2
  refine wp_region_noPanic ?_
  go_region_with (first
    | (go_at_call_of 89 [Value.slice a la ca]; refine (strip_len 0 a la ca u _ (ha.below (by first | exact hB0 | exact hB0.drew | exact hB0.drew.drew)) hu h1.out).mono ?_; rintro e w' ⟨a1, ca1, rfl, hw, hcut1⟩; subst hw)
    | (go_at_call 89; refine (strip_len 0 b lb cb v _ (hb.below (by first | exact hB0 | exact hB0.drew | exact hB0.drew.drew)) hv h2.out).mono ?_; rintro e w' ⟨b1, cb1, rfl, hw, hcut2⟩; subst hw))
  all_goals
    refine NoPanic.normal ?_
    go_wp2_with (go_at_call 121; refine (callsIn_wide.1 (backward_in Fence.wide 3 trivial rfl _ _ _ _)).mono ?_; rintro e w' ⟨rfl, hw⟩; have hw := hw.symm; subst hw)
    have hB1 : Below w.heap.size w ((((w.alloc (.cells #[.slice b1 0 cb1] 25)).alloc (.cells #[.int .i64 0] 3)).alloc (.cells #[.slice a1 0 ca1] 25)).drew) := ((((Below.refl _ _).alloc (Nat.le_refl _) _).alloc (by simp) _).alloc (by simp; omega) _).drew
    have bR : Boxed ((((w.alloc (.cells #[.slice b1 0 cb1] 25)).alloc (.cells #[.int .i64 0] 3)).alloc (.cells #[.slice a1 0 ca1] 25)).drew) (w.heap.size + 1) 3 (.int .i64 0) := by
      have := (Boxed.new (w.alloc (.cells #[.slice b1 0 cb1] 25)) 3 (.int .i64 0)).alloc (.cells #[.slice a1 0 ca1] 25)
      rw [World.size_alloc] at this
      exact this
    have bA : Boxed ((((w.alloc (.cells #[.slice b1 0 cb1] 25)).alloc (.cells #[.int .i64 0] 3)).alloc (.cells #[.slice a1 0 ca1] 25)).drew) (w.heap.size + 1 + 1) 25 (.slice a1 0 ca1) := by
      have := Boxed.new ((w.alloc (.cells #[.slice b1 0 cb1] 25)).alloc (.cells #[.int .i64 0] 3)) 25 (.slice a1 0 ca1)
      rw [World.size_alloc, World.size_alloc] at this
      exact this
    refine (wpIn_wide (n := 4)).1 ?_
    refine wpIn_rangeFunc_ownG (α := Empty) rfl (by decide) (gf := 131) (lb := #[.pointer (some ⟨w.heap.size + 1 + 1, 0, none⟩)]) rfl trivial (enters_of Tryz.func131 (by kernel_rfl) rfl)
      (backward_nil_stops Fence.wide 3 trivial rfl (w.heap.size + 1 + 1) w.heap.size ca1 a1 _ (by simp) bA.cell (fun x => x.elim)) belowK_t (belowK_b (by simp; omega)) (Below.refl _ _) (fun x => x.elim)
      (fun _ W => (W.cell? ⟨w.heap.size + 1, 0, none⟩ = some (.int .i64 0) ∧ W.frozen? ⟨w.heap.size + 1, 0, none⟩ = false) ∧ Below w.heap.size w W)
      (fun _ _ _ => False)
      (OwnFrom.and (Own.from (fun s A B row hs hg hr => ⟨cell_kept hs.1 hg hr, (frozen_kept hs.1 hg hr).trans hs.2⟩) _) (ownFrom_below (Nat.le_refl _) (by simp; omega)))
      (fun _ _ _ _ _ hs _ _ => hs)
      ⟨⟨bR.cell, bR.frozen⟩, hB1⟩
      (fun x => x.elim) ?assign ?body ?done ?stop
    case assign => intro l x; exact x.elim
    case body => intro l pre x; exact x.elim
    case done =>
      rintro D ys W hD rfl ⟨⟨hcr, hfr⟩, hB⟩ hK
      go_wp2
      have hK' := (KeepsOthers.setCell W ⟨w.heap.size + 1, 0, none⟩ (.int .i64 0)).same D _ hK rfl
      refine ⟨by simp, .inl ⟨_, _, rfl, run_takeDeferred hK', ?_⟩⟩
      have hc5 := cell_kept (World.cell?_setCell_same' W ⟨w.heap.size + 1, 0, none⟩ (.int .i64 0) (by rw [hcr]; rfl)) (grownBy_putObj' _ D (.deferred none)) (fun r e => by cases e; exact ⟨_, hK', rfl⟩)
      refine ⟨.int .i64 0, ?_, by rw [← HC.out], (hB.setCell (p := ⟨w.heap.size + 1, 0, none⟩) (by simp) _).trans (belowK_b (w := w) (Nat.le_refl _) _ D _ _ (by simp at hD; omega) hK' rfl rfl)⟩
      simp [results, Tryz.results113, go_sem, hc5]
    case stop =>
      rintro D c pre W _ _ h _
      exact h.elim
end Go.Proofs.YtcaihoomcdbfnaaGreat

namespace Go.Proofs.YtcaihoomcdbfnaaGreat
open Go.RowKit Go.Shelf
set_option linter.unusedVariables false
attribute [local go_sem] Oper.semAt_some

theorem cmp_words {u v : Nat} {k : Nat} (h : u / 4294967296 ^ (k + 1) = v / 4294967296 ^ (k + 1)) (hne : wd.dg (u : Int) k ≠ wd.dg (v : Int) k) : cmpI (wd.dg (u : Int) k) (wd.dg (v : Int) k) = cmpI u v := by
  unfold cmpI
  rcases Int.lt_or_gt_of_ne hne with l | l
  · have := wd.lt_of_top h l
    rw [if_pos l, if_pos (by omega)]
  · have := wd.lt_of_top h.symm l
    rw [if_neg (by omega), if_pos l, if_neg (by omega), if_pos (by omega)]
theorem cmpI_self (x : Int) : cmpI x x = 0 := by unfold cmpI; simp

set_option maxRecDepth 100000 in
set_option maxHeartbeats 4000000 in
theorem cmp_eq (a b : Option Addr) (la lb ca cb u v p : Nat) (w : World) (ha : Sl w a la ca (wd.dcells la (u : Int))) (hu : u < 4294967296 ^ la) (hb : Sl w b lb cb (wd.dcells lb (v : Int))) (hv : v < 4294967296 ^ lb) (h1 : Hid (wd.nlen u = p + 1)) (h2 : Hid (wd.nlen v = p + 1)) :
    Calls Tryz.prog 113 #[.slice a la ca, .slice b lb cb] w fun e w' => e = .returned (.int .i64 (cmpI u v)) ∧ Below w.heap.size w w' := by
  have HU : Hid (u < 4294967296 ^ (p + 1)) := by have := wd.nlen_lt u; rwa [h1.out] at this
  have HV : Hid (v < 4294967296 ^ (p + 1)) := by have := wd.nlen_lt v; rwa [h2.out] at this
  refine callsIn_wide.1 (callsIn_of_wp_marks (F := Fence.wide) (n := 4) Tryz.func113 rfl trivial ?_ rfl)
  simp only [Tryz.ntmps113, List.size_toArray, List.length_cons, List.length_nil, Nat.reduceAdd, Nat.reduceSub, Array.replicate_succ, Array.replicate_zero, List.push_toArray, List.append_toArray, List.nil_append, List.cons_append]
  refine wpIn_wide.2 ?_
  have hB0 : Below w.heap.size w ((w.alloc (.cells #[.slice b lb cb] 25)).alloc (.cells #[.int .i64 0] 3)) := ((Below.refl _ _).alloc (Nat.le_refl _) _).alloc (by simp) _
  go_wp2
  refine wp_region_noPanic ?_
  go_region_with (first
    | (go_at_call_of 89 [Value.slice a la ca]; refine (strip_len (p + 1) a la ca u _ (ha.below (by first | exact hB0 | exact hB0.drew | exact hB0.drew.drew)) hu h1.out).mono ?_; rintro e w' ⟨a1, ca1, rfl, hw, hcut1⟩; subst hw)
    | (go_at_call 89; refine (strip_len (p + 1) b lb cb v _ (hb.below (by first | exact hB0 | exact hB0.drew | exact hB0.drew.drew)) hv h2.out).mono ?_; rintro e w' ⟨b1, cb1, rfl, hw, hcut2⟩; subst hw))
  all_goals
    refine NoPanic.normal ?_
    go_wp2_with (go_at_call 121; refine (callsIn_wide.1 (backward_in Fence.wide 3 trivial rfl _ _ _ _)).mono ?_; rintro e w' ⟨rfl, hw⟩; have hw := hw.symm; subst hw)
    have hs1 := hcut1.sl ha
    have hs2 := hcut2.sl hb
    obtain ⟨ba, oa, rfl, hba, hsa⟩ := hs1.at (by omega)
    obtain ⟨bb, ob, rfl, hbb, hsb⟩ := hs2.at (by omega)
    have k1 := hs1.room
    have k2 := hs1.big
    have k3 := hs2.room
    have k4 := hs2.big
    unfold maxLen at k2 k4
    clear hs1 hs2 hcut1 hcut2
    have hB1 : Below w.heap.size w ((((w.alloc (.cells #[.slice (some ⟨bb, ob, none⟩) (p + 1) cb1] 25)).alloc (.cells #[.int .i64 0] 3)).alloc (.cells #[.slice (some ⟨ba, oa, none⟩) (p + 1) ca1] 25)).drew) := ((((Below.refl _ _).alloc (Nat.le_refl _) _).alloc (by simp) _).alloc (by simp; omega) _).drew
    have bB : Boxed ((((w.alloc (.cells #[.slice (some ⟨bb, ob, none⟩) (p + 1) cb1] 25)).alloc (.cells #[.int .i64 0] 3)).alloc (.cells #[.slice (some ⟨ba, oa, none⟩) (p + 1) ca1] 25)).drew) w.heap.size 25 (.slice (some ⟨bb, ob, none⟩) (p + 1) cb1) :=
      ((Boxed.new w 25 (.slice (some ⟨bb, ob, none⟩) (p + 1) cb1)).alloc (.cells #[.int .i64 0] 3)).alloc (.cells #[.slice (some ⟨ba, oa, none⟩) (p + 1) ca1] 25)
    have bR : Boxed ((((w.alloc (.cells #[.slice (some ⟨bb, ob, none⟩) (p + 1) cb1] 25)).alloc (.cells #[.int .i64 0] 3)).alloc (.cells #[.slice (some ⟨ba, oa, none⟩) (p + 1) ca1] 25)).drew) (w.heap.size + 1) 3 (.int .i64 0) := by
      have := (Boxed.new (w.alloc (.cells #[.slice (some ⟨bb, ob, none⟩) (p + 1) cb1] 25)) 3 (.int .i64 0)).alloc (.cells #[.slice (some ⟨ba, oa, none⟩) (p + 1) ca1] 25)
      rw [World.size_alloc] at this
      exact this
    have bA : Boxed ((((w.alloc (.cells #[.slice (some ⟨bb, ob, none⟩) (p + 1) cb1] 25)).alloc (.cells #[.int .i64 0] 3)).alloc (.cells #[.slice (some ⟨ba, oa, none⟩) (p + 1) ca1] 25)).drew) (w.heap.size + 1 + 1) 25 (.slice (some ⟨ba, oa, none⟩) (p + 1) ca1) := by
      have := Boxed.new ((w.alloc (.cells #[.slice (some ⟨bb, ob, none⟩) (p + 1) cb1] 25)).alloc (.cells #[.int .i64 0] 3)) 25 (.slice (some ⟨ba, oa, none⟩) (p + 1) ca1)
      rw [World.size_alloc, World.size_alloc] at this
      exact this
    refine (wpIn_wide (n := 4)).1 ?_
    refine wpIn_rangeFunc_ownG (α := Fin (p + 1)) rfl (by decide) (gf := 131) (lb := #[.pointer (some ⟨w.heap.size + 1 + 1, 0, none⟩)]) rfl trivial (enters_of Tryz.func131 (by kernel_rfl) rfl)
      (backward_stops Fence.wide 3 trivial rfl (by decide) (w.heap.size + 1 + 1) (w.heap.size + 1 + 1 + 1) p ca1 u _ _ (by simp) (by simp) (by omega) bA.cell ba oa rfl (by omega) k1 (by omega) (hsa.below hB1 hba)) belowK_t (belowK_b (by simp)) (Below.refl _ _) (fun _ => rfl)
      (fun pre W => (W.cell? ⟨w.heap.size, 0, none⟩ = some (.slice (some ⟨bb, ob, none⟩) (p + 1) cb1) ∧ W.cell? ⟨w.heap.size + 1, 0, none⟩ = some (.int .i64 0) ∧ W.frozen? ⟨w.heap.size + 1, 0, none⟩ = false ∧ ∀ x ∈ pre, wd.dg (u : Int) x.1 = wd.dg (v : Int) x.1) ∧ Below w.heap.size w W)
      (fun c pre W => (c = .ret ∧ ∃ ini last, pre = ini ++ [last] ∧ (∀ x ∈ ini, wd.dg (u : Int) x.1 = wd.dg (v : Int) x.1) ∧ wd.dg (u : Int) last.1 ≠ wd.dg (v : Int) last.1 ∧ W.cell? ⟨w.heap.size + 1, 0, none⟩ = some (.int .i64 (cmpI (wd.dg (u : Int) last.1) (wd.dg (v : Int) last.1)))) ∧ Below w.heap.size w W)
      (OwnFrom.and (Own.from (fun s A B row hs hg hr => ⟨cell_kept hs.1 hg hr, cell_kept hs.2.1 hg hr, (frozen_kept hs.2.1 hg hr).trans hs.2.2.1, hs.2.2.2⟩) _) (ownFrom_below (Nat.le_refl _) (by simp; omega)))
      (fun c => OwnFrom.and (Own.from (fun s A B row hs hg hr => by obtain ⟨hc, ini, last, e1, e2, e3, e4⟩ := hs; exact ⟨hc, ini, last, e1, e2, e3, cell_kept e4 hg hr⟩) _) (ownFrom_below (Nat.le_refl _) (by simp; omega)))
      ⟨⟨bB.cell, bR.cell, bR.frozen, by simp⟩, hB1⟩
      (fun x => { tmps := #[.slice (some ⟨ba, oa, none⟩) (p + 1) ca1, .slice b lb cb, undef, .pointer (some ⟨w.heap.size, 0, none⟩), .pointer (some ⟨w.heap.size + 1, 0, none⟩), .int .i64 ((x.1 : Nat) : Int), .int .u32 (wd.dg u x.1), .slice a la ca,
        .slice (some ⟨ba, oa, none⟩) (p + 1) ca1, .slice b lb cb, .slice (some ⟨bb, ob, none⟩) (p + 1) cb1, .slice (some ⟨ba, oa, none⟩) (p + 1) ca1, .int .i64 ((p : Int) + 1), .slice (some ⟨bb, ob, none⟩) (p + 1) cb1, .int .i64 ((p : Int) + 1), .bool false, undef, undef, undef, undef, undef,
        .slice (some ⟨ba, oa, none⟩) (p + 1) ca1, .func (.func 131) #[] #[.pointer (some ⟨w.heap.size + 1 + 1, 0, none⟩)], .int .i64 ((x.1 : Nat) : Int), .int .u32 (wd.dg u x.1), undef, undef, undef, undef, undef, undef, undef, undef, undef, undef, undef, undef], defers := [] }) ?assign ?body ?done ?stop
    case assign =>
      intro l x W K hK
      gi_wp2
      exact hK
    case body =>
      rintro l pre x W ⟨⟨hcb, hcr, hfr, hp⟩, hB⟩ _
      have hx := x.2
      have c1 : W.cell? ⟨bb, ob + x.1, none⟩ = some (.int .u32 (wd.dg v x.1)) := (hB.cell (p := ⟨bb, ob + x.1, none⟩) hbb).trans (hsb.cell x.1 _ (wd.dcells_at _ _ _ hx))
      by_cases hd : wd.dg (u : Int) x.1 = wd.dg (v : Int) x.1
      · have hd' : (wd.dg (u : Int) x.1 != wd.dg (v : Int) x.1) = false := by rw [hd]; simp
        have HD : Hid _ := hd
        clear hd
        gi_wp2
        exact ⟨KeepsFrom.refl _ _, Below.refl _ _, ⟨hcb, hcr, hfr, fun y hy => (List.mem_append.1 hy).elim (hp y) (fun e => by simp at e; subst e; exact HD.out)⟩, hB⟩
      · have hd' : (wd.dg (u : Int) x.1 != wd.dg (v : Int) x.1) = true := by simpa using hd
        have HD : Hid _ := hd
        clear hd
        gi_wp2_with (refine ⟨trivial, ?_⟩; gi_at_call 122; refine (CallsIn.inRound l (callsIn_wide.2 (cmpWord_any _ _ _))).mono ?_; rintro e w' ⟨rfl, hw⟩; subst hw)
        exact ⟨(KeepsOthers.setCell _ _ _).from _, ⟨rfl, pre, x, rfl, hp, HD.out, World.cell?_setCell_same' _ _ _ (by rw [hcr]; rfl)⟩, hB.setCell (p := ⟨w.heap.size + 1, 0, none⟩) (by simp) _⟩
    case done =>
      rintro D ys W hD rfl ⟨⟨_, hcr, hfr, hp⟩, hB⟩ hK
      have huv : Hid (0 = cmpI (u : Int) v) := by
        obtain rfl : u = v := wd.eq_of_dcells (p + 1) u v HU.out HV.out (fun j hj => hp ⟨j, hj⟩ ((dn_mem p 0 ⟨j, hj⟩).2 (Nat.zero_le _)))
        exact (cmpI_self _).symm
      clear hp
      go_wp2
      have hK' := (KeepsOthers.setCell W ⟨w.heap.size + 1, 0, none⟩ (.int .i64 0)).same D _ hK rfl
      refine ⟨by simp, .inl ⟨_, _, rfl, run_takeDeferred hK', ?_⟩⟩
      have hc5 := cell_kept (World.cell?_setCell_same' W ⟨w.heap.size + 1, 0, none⟩ (.int .i64 0) (by rw [hcr]; rfl)) (grownBy_putObj' _ D (.deferred none)) (fun r e => by cases e; exact ⟨_, hK', rfl⟩)
      refine ⟨.int .i64 0, ?_, by rw [← huv.out], (hB.setCell (p := ⟨w.heap.size + 1, 0, none⟩) (by simp) _).trans (belowK_b (w := w) (Nat.le_refl _) _ D _ _ (by simp at hD; omega) hK' rfl rfl)⟩
      simp [results, Tryz.results113, go_sem, hc5]
    case stop =>
      rintro D c pre W hD ⟨r, hr, rfl⟩ ⟨⟨rfl, ini, last, e1, e2, e3, hcr⟩, hB⟩ hK
      have huv : Hid (cmpI (wd.dg (u : Int) last.1) (wd.dg (v : Int) last.1) = cmpI (u : Int) v) := by
        rw [dn_next p r (by omega)] at e1
        obtain ⟨rfl, e5⟩ := List.append_inj' e1 rfl
        obtain rfl : (⟨r, by omega⟩ : Fin (p + 1)) = last := by simpa using e5
        refine cmp_words (top_eq (by omega) HU.out HV.out fun j h1 h2 => e2 ⟨j, h2⟩ ((dn_mem p (r + 1) ⟨j, h2⟩).2 h1)) e3
      clear e1 e2 e3
      refine wpIn_wide.2 ?_
      go_wp2
      refine ⟨by simp, .inl ⟨_, _, rfl, run_takeDeferred hK, ?_⟩⟩
      have hc5 := cell_kept hcr (grownBy_putObj' _ D (.deferred none)) (fun r e => by cases e; exact ⟨_, hK, rfl⟩)
      refine ⟨.int .i64 (cmpI (wd.dg (u : Int) last.1) (wd.dg (v : Int) last.1)), ?_, by rw [← huv.out], hB.trans (belowK_b (w := w) (Nat.le_refl _) W D _ _ (by simp at hD; omega) hK rfl rfl)⟩
      simp [results, Tryz.results113, go_sem, hc5]

theorem cmp_any (a b : Option Addr) (la lb ca cb u v : Nat) (w : World) (ha : Sl w a la ca (wd.dcells la (u : Int))) (hu : u < 4294967296 ^ la) (hb : Sl w b lb cb (wd.dcells lb (v : Int))) (hv : v < 4294967296 ^ lb) :
    Calls Tryz.prog 113 #[.slice a la ca, .slice b lb cb] w fun e w' => e = .returned (.int .i64 (cmpI u v)) ∧ Below w.heap.size w w' := by
  by_cases h : wd.nlen u = wd.nlen v
  · rcases hp : wd.nlen u with _ | p
    · have e1 := wd.nlen_eq_zero.1 hp
      have e2 := wd.nlen_eq_zero.1 (h.symm.trans hp)
      exact cmp_zero a b la lb ca cb u v w ha hu hb hv hp (h.symm.trans hp) (by unfold Hid; rw [e1, e2, cmpI_self])
    · exact cmp_eq a b la lb ca cb u v p w ha hu hb hv hp (h.symm.trans hp)
  · refine cmp_ne a b la lb ca cb u v _ _ w ha hu hb hv rfl rfl h ?_
    unfold Hid cmpI
    rcases Nat.lt_or_gt_of_ne h with l | l
    · have := wd.lt_of_nlen l
      rw [if_pos (by omega), if_pos (by omega)]
    · have := wd.lt_of_nlen l
      rw [if_neg (by omega), if_pos (by omega), if_neg (by omega), if_pos (by omega)]
end Go.Proofs.YtcaihoomcdbfnaaGreat

namespace Go.Proofs.YtcaihoomcdbfnaaGreat

/-- A text's bytes, as numbers. -/
def nums (s : ByteArray) : List Int := s.data.toList.map fun b => (b.toNat : Int)
theorem nums_length (s : ByteArray) : (nums s).length = s.size := by unfold nums; rw [List.length_map]; rfl
theorem nums_str (l : List Int) (h : ∀ c ∈ l, 0 ≤ c ∧ c < 256) : nums (strOfNums l) = l := by
  unfold nums strOfNums
  simp only [List.map_map]
  conv => rhs; rw [← List.map_id l]
  refine List.map_congr_left fun c hc => ?_
  obtain ⟨a, b⟩ := h c hc
  simp only [Function.comp_apply, id]
  rw [UInt8.toNat_ofNat']
  omega
theorem strOfNums_append (a b : List Int) : strOfNums a ++ strOfNums b = strOfNums (a ++ b) := by
  apply ByteArray.ext
  rw [ByteArray.data_append]
  simp [strOfNums]

/-- The last k decimal digits of m, as bytes, the highest first. -/
def digs : Nat → Nat → List Int
  | 0, _ => []
  | k + 1, m => (48 + (m / 10 ^ k % 10 : Nat) : Int) :: digs k m
theorem digs_length (k m : Nat) : (digs k m).length = k := by induction k with | zero => rfl | succ k ih => simp [digs, ih]
theorem digs_bytes (k m : Nat) : ∀ c ∈ digs k m, 48 ≤ c ∧ c ≤ 57 := by
  induction k with
  | zero => intro c hc; simp [digs] at hc
  | succ k ih =>
    intro c hc
    rw [digs, List.mem_cons] at hc
    rcases hc with rfl | hc
    · have := Nat.mod_lt (m / 10 ^ k) (show 0 < 10 by decide); omega
    · exact ih c hc
/-- m has k digits: nought has one. -/
def IsDec (m k : Nat) : Prop := 1 ≤ k ∧ m < 10 ^ k ∧ (k = 1 ∨ 10 ^ (k - 1) ≤ m)
theorem isDec_one {m k k' : Nat} (h : IsDec m k) (h' : IsDec m k') : k = k' := by
  obtain ⟨a, b, c⟩ := h
  obtain ⟨a', b', c'⟩ := h'
  rcases Nat.lt_trichotomy k k' with e | e | e
  · rcases c' with c' | c'
    · omega
    · have := Nat.pow_le_pow_right (n := 10) (by decide) (show k ≤ k' - 1 by omega)
      omega
  · exact e
  · rcases c with c | c
    · omega
    · have := Nat.pow_le_pow_right (n := 10) (by decide) (show k' ≤ k - 1 by omega)
      omega
def dlenF : Nat → Nat → Nat
  | 0, _ => 1
  | f + 1, m => if m < 10 then 1 else dlenF f (m / 10) + 1
/-- How many decimal digits m has. -/
def dlen (m : Nat) : Nat := dlenF m m
theorem isDec_dlenF : ∀ f m : Nat, m < 10 ^ (f + 1) → IsDec m (dlenF f m)
  | 0, m, h => ⟨Nat.le_refl _, h, Or.inl rfl⟩
  | f + 1, m, h => by
    unfold dlenF
    by_cases hm : m < 10
    · rw [if_pos hm]; exact ⟨Nat.le_refl _, hm, Or.inl rfl⟩
    · rw [if_neg hm]
      obtain ⟨a, b, c⟩ := isDec_dlenF f (m / 10) (by rw [Nat.pow_succ] at h; omega)
      refine ⟨by omega, ?_, Or.inr ?_⟩
      · rw [Nat.pow_succ]; omega
      · rcases c with c | c
        · rw [c]; simp; omega
        · have e : dlenF f (m / 10) + 1 - 1 = dlenF f (m / 10) - 1 + 1 := by omega
          rw [e, Nat.pow_succ]; omega
theorem isDec_dlen (m : Nat) : IsDec m (dlen m) := isDec_dlenF m m (Nat.lt_of_lt_of_le (Nat.lt_pow_self (by decide)) (Nat.pow_le_pow_right (by decide) (by omega)))
theorem dlen_eq {m k : Nat} (h : IsDec m k) : dlen m = k := isDec_one (isDec_dlen m) h
/-- The text of a number. -/
def decS (m : Nat) : ByteArray := strOfNums (digs (dlen m) m)
theorem decS_nums (m : Nat) : nums (decS m) = digs (dlen m) m := nums_str _ fun c hc => by have := digs_bytes _ _ c hc; omega
theorem decS_size (m : Nat) : (decS m).size = dlen m := by rw [← nums_length, decS_nums, digs_length]
end Go.Proofs.YtcaihoomcdbfnaaGreat
