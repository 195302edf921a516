/-
  Joined texts, part 5:
  What package whole's Small answers.
  Numbers as digits to the base 256: which digits a sum, a difference, a product has. It imports nothing of the program.
  Numbers as digits to the base 18446744073709551616: which digits a sum, a difference, a product has. It imports nothing of the program.
  The arithmetic of a product, digit by digit. It imports nothing of the program.
  Plain arithmetic of numbers of two words: what word a sum, a difference and a product have. It imports nothing of the program.
  Plain arithmetic of numbers of four words. It imports nothing of the program.
  What package quad's sum, difference and negation answer, as words.
  What package quad's product answers, as words.
  When two arrays of four words are equal.
  What package quad's sign, order and narrowing answer.
-/
import Derived.Test.YtpkcjgkgabemoaaDoorP4
import Derived.WalkKit
import Derived.Laws.Bits64b
import Derived.Test.YtpkcjgkgabemoaaDoorP1
import Derived.Test.YtpkcjgkgabemoaaDoorRows
import Derived.WalkSpells
import Derived.StillTactics
import Derived.Laws.Pointers
import Derived.Laws.Externs
import Derived.Shelf.Spec.BitsCarry
import Derived.RowKit3
import Derived.Deep.RegionHeld3
import Derived.Deep.QuietTactic
import Derived.BigQuiet
import Derived.RegionTactic
import Derived.Deep.RegionWith
import Derived.ChangeKeysEq
namespace Go.Proofs.YtpkcjgkgabemoaaDoor
open Go.RowKit
set_option linter.unusedVariables false

/-- A number of 64 bits, or none. -/
def smOk (z : Int) : Bool := decide (-9223372036854775808 ≤ z ∧ z ≤ 9223372036854775807)
def smV (z : Int) : Int := if smOk z then z else 0
theorem bt_more {u : Nat} (h : 64 < bt.nlen u) : 18446744073709551616 ≤ u := by
  refine Nat.le_of_not_lt fun hlt => ?_
  have := bt.nlen_le (n := 64) (v := u) hlt
  omega
theorem bt_less {u : Nat} (h : bt.nlen u ≤ 64) : u < 18446744073709551616 := Nat.lt_of_lt_of_le (bt.nlen_lt u) (Nat.le_trans (Nat.pow_le_pow_right (by decide) h) (by decide))
theorem cmpLong_any (x y : Int) (w : World) :
    Calls Tryd.prog 54 #[.int .i64 x, .int .i64 y] w fun e w' => e = .returned (.int .i64 (cmpI x y)) ∧ w = w' := by
  unfold cmpI
  go_enter Tryd.func54, Tryd.ntmps54
  go_wp2
  all_goals (go_ret; exact ⟨rfl, rfl⟩)
theorem sm_step (U j : Nat) (hj : j ≤ 1) : bits BinOp.or IntKind.u64 ((U : Int) % 4294967296 ^ j) (IntKind.u64.wrap (wd.dg (U : Int) j * 2 ^ (32 * j))) = ((U % 4294967296 ^ (j + 1) : Nat) : Int) := by
  obtain ⟨d0, d1⟩ := wd.dg_range (U : Int) j
  obtain ⟨D, hD⟩ := Int.eq_ofNat_of_zero_le d0
  have hdn := wd.dg_nat U j
  rw [hD] at hdn d1 ⊢
  rcases j with _ | _ | j
  · simp only [Int.pow_zero, Nat.mul_zero, Int.mul_one, Int.emod_one, Nat.zero_add, Nat.pow_one]
    rw [show IntKind.u64.wrap (D : Int) = (D : Int) by rw [IntKind.wrap_u64]; omega, show (0 : Int) = ((0 : Nat) : Int) from rfl, u64_or_nat _ _ (by omega) (by omega), Nat.zero_or]
    simp at hdn
    omega
  · rw [show IntKind.u64.wrap ((D : Int) * 2 ^ (32 * (0 + 1))) = ((D * 4294967296 : Nat) : Int) by rw [IntKind.wrap_u64]; simp; omega]
    have h1 : ((U : Int) % 4294967296 ^ (0 + 1)) = ((U % 4294967296 : Nat) : Int) := by simp
    rw [h1, u64_or_nat _ _ (by omega) (by omega), Nat.or_comm, nat_join 32 (D * 4294967296) (U % 4294967296) (by omega) (by omega)]
    simp at hdn
    rw [show (4294967296 : Nat) ^ (0 + 1 + 1) = 18446744073709551616 from rfl]
    omega
  · omega
/-- What holds at the head of each round. -/
def SmRel (w : World) (U K : Nat) (mag i : Value) (wr : World) : Prop := ∃ j : Nat, j ≤ K ∧ i = .int .i64 (j : Int) ∧ mag = .int .u64 ((U % 4294967296 ^ j : Nat) : Int) ∧ wr = w
/-- The word as a number of 64 bits, with its sign: it has that sign just if there is room for it. -/
theorem sm_math (n : Bool) (z : Int) (U : Nat) (hU : U < 18446744073709551616) (hz : z = sgz n U) :
    ∃ V0 V : Int, IntKind.i64.wrap (U : Int) = V0 ∧ (n = true → wrap64 (-V0) = V) ∧ (n = false → V0 = V) ∧ (smOk z = true → cmpI V 0 = z.sign ∧ V = z) ∧ (smOk z = false → cmpI V 0 ≠ z.sign) := by
  refine ⟨IntKind.i64.wrap (U : Int), if n then wrap64 (-(IntKind.i64.wrap (U : Int))) else IntKind.i64.wrap (U : Int), rfl, fun h => by rw [h]; rfl, fun h => by rw [h]; rfl, ?_, ?_⟩
  all_goals
    rw [IntKind.wrap_i64]
    unfold smOk wrap64
    rw [cmpI_sign, hz]
    unfold sgz
    cases n
    · simp only [Bool.false_eq_true, if_false, decide_eq_true_eq, decide_eq_false_iff_not, Int.sub_zero]
      intro h
      first
        | (have e : ((U : Int) + 9223372036854775808) % 18446744073709551616 - 9223372036854775808 = U := by omega
           rw [e]; exact ⟨rfl, rfl⟩)
        | (rw [Int.sign_eq_neg_one_of_neg (show ((U : Int) + 9223372036854775808) % 18446744073709551616 - 9223372036854775808 < 0 by omega), Int.sign_eq_one_of_pos (show (0 : Int) < U by omega)]; decide)
    · simp only [if_true, decide_eq_true_eq, decide_eq_false_iff_not, Int.sub_zero]
      intro h
      first
        | (have e : (-(((U : Int) + 9223372036854775808) % 18446744073709551616 - 9223372036854775808) + 9223372036854775808) % 18446744073709551616 - 9223372036854775808 = -(U : Int) := by omega
           rw [e]; exact ⟨rfl, rfl⟩)
        | (rw [Int.sign_eq_one_of_pos (show 0 < (-(((U : Int) + 9223372036854775808) % 18446744073709551616 - 9223372036854775808) + 9223372036854775808) % 18446744073709551616 - 9223372036854775808 by omega), Int.sign_eq_neg_one_of_neg (show -(U : Int) < 0 by omega)]; decide)
set_option maxRecDepth 100000 in
set_option maxHeartbeats 8000000 in
theorem wSmall (n : Bool) (a : Option Addr) (la ca : Nat) (z : Int) (w : World) (ha : WI w n a la ca z) {v : Int} {ok : Bool} (hv : v = smV z) (hok : ok = smOk z) :
    Calls Tryd.prog 26 #[.agg #[.bool n, .slice a la ca]] w fun e w' => e = .returned (.tuple #[.int .i64 v, .bool ok]) ∧ Below w.heap.size w w' := by
  have B0 : Below w.heap.size w (w.alloc (.cells #[.bool n, .slice a la ca] 25)) := (Below.refl _ _).alloc (Nat.le_refl _) _
  have x0 := bx_new w (.bool n) (.slice a la ca) 25
  have na := ha.ni.below B0
  obtain ⟨k, hk⟩ : ∃ k, k = bt.nlen z.natAbs := ⟨_, rfl⟩
  have HK : Hid _ := hk
  by_cases h64 : 64 < k
  · have hbig : 18446744073709551616 ≤ z.natAbs := bt_more (by rw [← hk]; exact h64)
    have hno : smOk z = false := by unfold smOk; simp; omega
    obtain rfl : ok = false := by rw [hok, hno]
    obtain rfl : v = 0 := by rw [hv]; unfold smV; rw [hno]; rfl
    have h64' : (64 : Int) < k := by omega
    clear hk hv hok
    go_enter Tryd.func26, Tryd.ntmps26
    go_wp2_with (go_at_call 53; refine (nBits a la ca _ _ na HK.out).mono ?_; rintro e w' ⟨rfl, hw⟩; subst hw)
    go_ret2
    exact ⟨rfl, B0⟩
  · have hU : z.natAbs < 18446744073709551616 := bt_less (by rw [← hk]; omega)
    have h64' : ¬ (64 : Int) < k := by omega
    obtain ⟨U, hUe⟩ : ∃ U, U = z.natAbs := ⟨_, rfl⟩
    have hl := ha.ni.lt
    have hs := na.sl
    have hz := ha.is
    rw [← hUe] at hU hl hs hz
    obtain ⟨V0, V, hV0, hVn, hVp, hyes, hno⟩ := sm_math n z U hU hz
    obtain ⟨sz, hsz⟩ : ∃ sz, sz = z.sign := ⟨_, rfl⟩
    have HS : Hid _ := hsz
    have hcap := hs.big
    have hroom := hs.room
    unfold maxLen at hcap
    obtain ⟨K, hK⟩ : ∃ K, K = min la 2 := ⟨_, rfl⟩
    have hmin : min (la : Int) 2 = (K : Int) := by omega
    have hmax : max (K : Int) 0 = (K : Int) := by omega
    have hK2 : K ≤ 2 := by omega
    have hKl : K ≤ la := by omega
    have HUK : Hid (U % 4294967296 ^ K = U) := by
      refine Nat.mod_eq_of_lt ?_
      rcases Nat.lt_or_ge la 2 with h | h
      · rw [hK, Nat.min_eq_left (by omega)]; exact hl
      · rw [hK, Nat.min_eq_right h]; exact hU
    obtain ⟨g, hg⟩ : ∃ g, g = cmpI V 0 := ⟨_, rfl⟩
    have HG : Hid _ := hg.symm
    have hdo : (ok = true ∧ g = sz ∧ v = V) ∨ (ok = false ∧ ¬ g = sz ∧ v = 0) := by
      rw [hg, hsz]
      cases hb : smOk z with
      | false => exact Or.inr ⟨by rw [hok, hb], hno hb, by rw [hv]; unfold smV; rw [hb]; rfl⟩
      | true => exact Or.inl ⟨by rw [hok, hb], (hyes hb).1, by rw [hv, (hyes hb).2]; unfold smV; rw [hb]; rfl⟩
    have hz0' := hz
    have hv0 := hv
    have hok0 := hok
    clear hk hUe hz hsz hg hv hok hyes hno
    rcases Nat.eq_zero_or_pos la with h0 | h0
    · obtain rfl : K = 0 := by omega
      subst h0
      obtain rfl : U = 0 := by simpa using hl
      have hz0 : z = 0 := by rw [hz0']; unfold sgz; split <;> rfl
      have HS0 : Hid ((0 : Int) = z.sign) := by unfold Hid; rw [hz0]; rfl
      have HG0 : Hid (cmpI 0 0 = 0) := by unfold Hid cmpI; simp
      obtain rfl : v = 0 := by rw [hv0, hz0]; rfl
      obtain rfl : ok = true := by rw [hok0, hz0]; rfl
      clear hK HUK hs hdo HG HS hV0 hVn hVp hz0 hz0' hv0 hok0
      cases a with
      | none =>
        cases n
        · skip
          go_enter Tryd.func26, Tryd.ntmps26
          go_wp2_with (go_at_call 53; refine (nBits _ _ ca _ _ na HK.out).mono ?_; rintro e w' ⟨rfl, hw⟩; subst hw)
          go_loopw [4, 20] (fun mag i wr => SmRel (w.alloc (.cells #[.bool false, .slice none 0 ca] 25)) 0 0 mag i wr) (fun _ i _ => 0 - (intOf i).toNat)
          case atStart => exact ⟨0, by omega, rfl, by simp, rfl⟩
          case round =>
            obtain ⟨j, hj, rfl, rfl, rfl⟩ := hrel
            obtain rfl : j = 0 := by omega
            rw [Nat.zero_mod]
            have x0 := x0
            obtain ⟨k0, k1, k2, k3⟩ := x0
            have x0 : Bx _ _ _ _ := ⟨k0, k1, k2, k3⟩
            go_wp2
            refine wp_region_held_drew (S := (fun w' => w'.cell? ⟨w.heap.size, 0, none⟩ = some (.bool false) ∧ w'.cell? ⟨w.heap.size, 1, none⟩ = some (.slice none 0 ca) ∧ Below w.heap.size w w')) (by kernel_rfl) ?_ (fun hHeld => ?_)
            · first | exact keepB1 hHeld b6 | exact hHeld | exact ⟨x0.c0, x0.c1, B0.drew⟩
            refine take_yes (i := 0) (v := ?va0) rfl (by kernel_rfl) (by kernel_rfl) (by kernel_rfl) (fun _ _ _ h => h) (by rfl) (by assumption) ?hya0 ?resta0
            case hya0 => (intro w hSw; (try dsimp only at hSw); first | (go_simp; done) | (go_simp; with_reducible rfl))
            simp only [Act.put, List.setIfInBounds_toArray, List.set_cons_zero, List.set_cons_succ]
            refine take_yes (i := 2) (v := ?va2) rfl (by kernel_rfl) (by kernel_rfl) (by kernel_rfl) (fun _ _ _ h => h) (by rfl) (by assumption) ?hya2 ?resta2
            case hya2 => (intro w hSw; (try dsimp only at hSw); first | (go_simp; done) | (go_simp; with_reducible rfl))
            simp only [Act.put, List.setIfInBounds_toArray, List.set_cons_zero, List.set_cons_succ]
            refine take_call (i := 1) rfl (by kernel_rfl) (fun K hK => ?_)
            go_simp
            (go_at_call 54; refine (cmpLong_any 0 0 _).mono ?_; rw [HG0.out]; rintro e w5 ⟨rfl, hw⟩; subst hw; have b5 := Below.refl (World.heap (World.drew (w.alloc (.cells #[.bool false, .slice none 0 ca] 25)))).size (World.drew (w.alloc (.cells #[.bool false, .slice none 0 ca] 25))))
            refine hK.out _ _ ?_ (fun hHeld => ?_)
            · first | exact keepB1 hHeld b6 | exact hHeld | exact ⟨x0.c0, x0.c1, B0.drew⟩
            clear hK K
            refine take_call (i := 3) rfl (by kernel_rfl) (fun K hK => ?_)
            go_simp
            (go_at_call 24; refine (wSign false none 0 ca z _ (ha.below hHeld.2.2) HS0.out).mono ?_; rintro e w6 ⟨rfl, b6⟩)
            refine hK.out _ _ ?_ (fun hHeld => ?_)
            · first | exact keepB1 hHeld b6 | exact hHeld | exact ⟨x0.c0, x0.c1, B0.drew⟩
            clear hK K
            refine take_yes (i := 4) (v := ?va4) rfl (by kernel_rfl) (by kernel_rfl) (by kernel_rfl) (fun _ _ _ h => h) (by rfl) (by assumption) ?hya4 ?resta4
            case hya4 => (intro w hSw; (try dsimp only at hSw); first | (go_simp; done) | (go_simp; with_reducible rfl))
            simp only [Act.put, List.setIfInBounds_toArray, List.set_cons_zero, List.set_cons_succ]
            refine wpAnyH_done (by kernel_rfl) ?_ _
            go_wp2
            go_ret2
            exact ⟨rfl, also B0.drew b6⟩
        · skip
          go_enter Tryd.func26, Tryd.ntmps26
          go_wp2_with (go_at_call 53; refine (nBits _ _ ca _ _ na HK.out).mono ?_; rintro e w' ⟨rfl, hw⟩; subst hw)
          go_loopw [4, 20] (fun mag i wr => SmRel (w.alloc (.cells #[.bool true, .slice none 0 ca] 25)) 0 0 mag i wr) (fun _ i _ => 0 - (intOf i).toNat)
          case atStart => exact ⟨0, by omega, rfl, by simp, rfl⟩
          case round =>
            obtain ⟨j, hj, rfl, rfl, rfl⟩ := hrel
            obtain rfl : j = 0 := by omega
            rw [Nat.zero_mod]
            have x0 := x0
            obtain ⟨k0, k1, k2, k3⟩ := x0
            have x0 : Bx _ _ _ _ := ⟨k0, k1, k2, k3⟩
            go_wp2
            refine wp_region_held_drew (S := (fun w' => w'.cell? ⟨w.heap.size, 0, none⟩ = some (.bool true) ∧ w'.cell? ⟨w.heap.size, 1, none⟩ = some (.slice none 0 ca) ∧ Below w.heap.size w w')) (by kernel_rfl) ?_ (fun hHeld => ?_)
            · first | exact keepB1 hHeld b6 | exact hHeld | exact ⟨x0.c0, x0.c1, B0.drew⟩
            refine take_yes (i := 0) (v := ?vb0) rfl (by kernel_rfl) (by kernel_rfl) (by kernel_rfl) (fun _ _ _ h => h) (by rfl) (by assumption) ?hyb0 ?restb0
            case hyb0 => (intro w hSw; (try dsimp only at hSw); first | (go_simp; done) | (go_simp; with_reducible rfl))
            simp only [Act.put, List.setIfInBounds_toArray, List.set_cons_zero, List.set_cons_succ]
            refine take_yes (i := 2) (v := ?vb2) rfl (by kernel_rfl) (by kernel_rfl) (by kernel_rfl) (fun _ _ _ h => h) (by rfl) (by assumption) ?hyb2 ?restb2
            case hyb2 => (intro w hSw; (try dsimp only at hSw); first | (go_simp; done) | (go_simp; with_reducible rfl))
            simp only [Act.put, List.setIfInBounds_toArray, List.set_cons_zero, List.set_cons_succ]
            refine take_call (i := 1) rfl (by kernel_rfl) (fun K hK => ?_)
            go_simp
            (go_at_call 54; refine (cmpLong_any 0 0 _).mono ?_; rw [HG0.out]; rintro e w5 ⟨rfl, hw⟩; subst hw; have b5 := Below.refl (World.heap (World.drew (w.alloc (.cells #[.bool true, .slice none 0 ca] 25)))).size (World.drew (w.alloc (.cells #[.bool true, .slice none 0 ca] 25))))
            refine hK.out _ _ ?_ (fun hHeld => ?_)
            · first | exact keepB1 hHeld b6 | exact hHeld | exact ⟨x0.c0, x0.c1, B0.drew⟩
            clear hK K
            refine take_call (i := 3) rfl (by kernel_rfl) (fun K hK => ?_)
            go_simp
            (go_at_call 24; refine (wSign true none 0 ca z _ (ha.below hHeld.2.2) HS0.out).mono ?_; rintro e w6 ⟨rfl, b6⟩)
            refine hK.out _ _ ?_ (fun hHeld => ?_)
            · first | exact keepB1 hHeld b6 | exact hHeld | exact ⟨x0.c0, x0.c1, B0.drew⟩
            clear hK K
            refine take_yes (i := 4) (v := ?vb4) rfl (by kernel_rfl) (by kernel_rfl) (by kernel_rfl) (fun _ _ _ h => h) (by rfl) (by assumption) ?hyb4 ?restb4
            case hyb4 => (intro w hSw; (try dsimp only at hSw); first | (go_simp; done) | (go_simp; with_reducible rfl))
            simp only [Act.put, List.setIfInBounds_toArray, List.set_cons_zero, List.set_cons_succ]
            refine wpAnyH_done (by kernel_rfl) ?_ _
            go_wp2
            go_ret2
            exact ⟨rfl, also B0.drew b6⟩
      | some ad =>
        cases n
        · skip
          go_enter Tryd.func26, Tryd.ntmps26
          go_wp2_with (go_at_call 53; refine (nBits _ _ ca _ _ na HK.out).mono ?_; rintro e w' ⟨rfl, hw⟩; subst hw)
          go_loopw [4, 20] (fun mag i wr => SmRel (w.alloc (.cells #[.bool false, .slice (some ad) 0 ca] 25)) 0 0 mag i wr) (fun _ i _ => 0 - (intOf i).toNat)
          case atStart => exact ⟨0, by omega, rfl, by simp, rfl⟩
          case round =>
            obtain ⟨j, hj, rfl, rfl, rfl⟩ := hrel
            obtain rfl : j = 0 := by omega
            rw [Nat.zero_mod]
            have x0 := x0
            obtain ⟨k0, k1, k2, k3⟩ := x0
            have x0 : Bx _ _ _ _ := ⟨k0, k1, k2, k3⟩
            go_wp2
            refine wp_region_held_drew (S := (fun w' => w'.cell? ⟨w.heap.size, 0, none⟩ = some (.bool false) ∧ w'.cell? ⟨w.heap.size, 1, none⟩ = some (.slice (some ad) 0 ca) ∧ Below w.heap.size w w')) (by kernel_rfl) ?_ (fun hHeld => ?_)
            · first | exact keepB1 hHeld b6 | exact hHeld | exact ⟨x0.c0, x0.c1, B0.drew⟩
            refine take_yes (i := 0) (v := ?vc0) rfl (by kernel_rfl) (by kernel_rfl) (by kernel_rfl) (fun _ _ _ h => h) (by rfl) (by assumption) ?hyc0 ?restc0
            case hyc0 => (intro w hSw; (try dsimp only at hSw); first | (go_simp; done) | (go_simp; with_reducible rfl))
            simp only [Act.put, List.setIfInBounds_toArray, List.set_cons_zero, List.set_cons_succ]
            refine take_yes (i := 2) (v := ?vc2) rfl (by kernel_rfl) (by kernel_rfl) (by kernel_rfl) (fun _ _ _ h => h) (by rfl) (by assumption) ?hyc2 ?restc2
            case hyc2 => (intro w hSw; (try dsimp only at hSw); first | (go_simp; done) | (go_simp; with_reducible rfl))
            simp only [Act.put, List.setIfInBounds_toArray, List.set_cons_zero, List.set_cons_succ]
            refine take_call (i := 1) rfl (by kernel_rfl) (fun K hK => ?_)
            go_simp
            (go_at_call 54; refine (cmpLong_any 0 0 _).mono ?_; rw [HG0.out]; rintro e w5 ⟨rfl, hw⟩; subst hw; have b5 := Below.refl (World.heap (World.drew (w.alloc (.cells #[.bool false, .slice (some ad) 0 ca] 25)))).size (World.drew (w.alloc (.cells #[.bool false, .slice (some ad) 0 ca] 25))))
            refine hK.out _ _ ?_ (fun hHeld => ?_)
            · first | exact keepB1 hHeld b6 | exact hHeld | exact ⟨x0.c0, x0.c1, B0.drew⟩
            clear hK K
            refine take_call (i := 3) rfl (by kernel_rfl) (fun K hK => ?_)
            go_simp
            (go_at_call 24; refine (wSign false (some ad) 0 ca z _ (ha.below hHeld.2.2) HS0.out).mono ?_; rintro e w6 ⟨rfl, b6⟩)
            refine hK.out _ _ ?_ (fun hHeld => ?_)
            · first | exact keepB1 hHeld b6 | exact hHeld | exact ⟨x0.c0, x0.c1, B0.drew⟩
            clear hK K
            refine take_yes (i := 4) (v := ?vc4) rfl (by kernel_rfl) (by kernel_rfl) (by kernel_rfl) (fun _ _ _ h => h) (by rfl) (by assumption) ?hyc4 ?restc4
            case hyc4 => (intro w hSw; (try dsimp only at hSw); first | (go_simp; done) | (go_simp; with_reducible rfl))
            simp only [Act.put, List.setIfInBounds_toArray, List.set_cons_zero, List.set_cons_succ]
            refine wpAnyH_done (by kernel_rfl) ?_ _
            go_wp2
            go_ret2
            exact ⟨rfl, also B0.drew b6⟩
        · skip
          go_enter Tryd.func26, Tryd.ntmps26
          go_wp2_with (go_at_call 53; refine (nBits _ _ ca _ _ na HK.out).mono ?_; rintro e w' ⟨rfl, hw⟩; subst hw)
          go_loopw [4, 20] (fun mag i wr => SmRel (w.alloc (.cells #[.bool true, .slice (some ad) 0 ca] 25)) 0 0 mag i wr) (fun _ i _ => 0 - (intOf i).toNat)
          case atStart => exact ⟨0, by omega, rfl, by simp, rfl⟩
          case round =>
            obtain ⟨j, hj, rfl, rfl, rfl⟩ := hrel
            obtain rfl : j = 0 := by omega
            rw [Nat.zero_mod]
            have x0 := x0
            obtain ⟨k0, k1, k2, k3⟩ := x0
            have x0 : Bx _ _ _ _ := ⟨k0, k1, k2, k3⟩
            go_wp2
            refine wp_region_held_drew (S := (fun w' => w'.cell? ⟨w.heap.size, 0, none⟩ = some (.bool true) ∧ w'.cell? ⟨w.heap.size, 1, none⟩ = some (.slice (some ad) 0 ca) ∧ Below w.heap.size w w')) (by kernel_rfl) ?_ (fun hHeld => ?_)
            · first | exact keepB1 hHeld b6 | exact hHeld | exact ⟨x0.c0, x0.c1, B0.drew⟩
            refine take_yes (i := 0) (v := ?vd0) rfl (by kernel_rfl) (by kernel_rfl) (by kernel_rfl) (fun _ _ _ h => h) (by rfl) (by assumption) ?hyd0 ?restd0
            case hyd0 => (intro w hSw; (try dsimp only at hSw); first | (go_simp; done) | (go_simp; with_reducible rfl))
            simp only [Act.put, List.setIfInBounds_toArray, List.set_cons_zero, List.set_cons_succ]
            refine take_yes (i := 2) (v := ?vd2) rfl (by kernel_rfl) (by kernel_rfl) (by kernel_rfl) (fun _ _ _ h => h) (by rfl) (by assumption) ?hyd2 ?restd2
            case hyd2 => (intro w hSw; (try dsimp only at hSw); first | (go_simp; done) | (go_simp; with_reducible rfl))
            simp only [Act.put, List.setIfInBounds_toArray, List.set_cons_zero, List.set_cons_succ]
            refine take_call (i := 1) rfl (by kernel_rfl) (fun K hK => ?_)
            go_simp
            (go_at_call 54; refine (cmpLong_any 0 0 _).mono ?_; rw [HG0.out]; rintro e w5 ⟨rfl, hw⟩; subst hw; have b5 := Below.refl (World.heap (World.drew (w.alloc (.cells #[.bool true, .slice (some ad) 0 ca] 25)))).size (World.drew (w.alloc (.cells #[.bool true, .slice (some ad) 0 ca] 25))))
            refine hK.out _ _ ?_ (fun hHeld => ?_)
            · first | exact keepB1 hHeld b6 | exact hHeld | exact ⟨x0.c0, x0.c1, B0.drew⟩
            clear hK K
            refine take_call (i := 3) rfl (by kernel_rfl) (fun K hK => ?_)
            go_simp
            (go_at_call 24; refine (wSign true (some ad) 0 ca z _ (ha.below hHeld.2.2) HS0.out).mono ?_; rintro e w6 ⟨rfl, b6⟩)
            refine hK.out _ _ ?_ (fun hHeld => ?_)
            · first | exact keepB1 hHeld b6 | exact hHeld | exact ⟨x0.c0, x0.c1, B0.drew⟩
            clear hK K
            refine take_yes (i := 4) (v := ?vd4) rfl (by kernel_rfl) (by kernel_rfl) (by kernel_rfl) (fun _ _ _ h => h) (by rfl) (by assumption) ?hyd4 ?restd4
            case hyd4 => (intro w hSw; (try dsimp only at hSw); first | (go_simp; done) | (go_simp; with_reducible rfl))
            simp only [Act.put, List.setIfInBounds_toArray, List.set_cons_zero, List.set_cons_succ]
            refine wpAnyH_done (by kernel_rfl) ?_ _
            go_wp2
            go_ret2
            exact ⟨rfl, also B0.drew b6⟩
    · obtain ⟨b, o, rfl, hb, hseg⟩ := hs.at h0
      clear hK hz0' hv0 hok0
      cases n
      · obtain rfl : V = V0 := (hVp rfl).symm
        rcases hdo with ⟨rfl, rfl, hvv⟩ | ⟨rfl, hne, rfl⟩
        · obtain rfl := hvv.symm
          go_enter Tryd.func26, Tryd.ntmps26
          go_wp2_with (go_at_call 53; refine (nBits _ _ ca _ _ na HK.out).mono ?_; rintro e w' ⟨rfl, hw⟩; subst hw)
          go_loopw [4, 20] (fun mag i wr => SmRel (w.alloc (.cells #[.bool false, .slice (some ⟨b, o, none⟩) la ca] 25)) U K mag i wr) (fun _ i _ => K - (intOf i).toNat)
          case atStart => exact ⟨0, by omega, rfl, by simp, rfl⟩
          case round =>
            obtain ⟨j, hj, rfl, rfl, rfl⟩ := hrel
            by_cases hlt : j < K
            · have c1 : (w.alloc (.cells #[.bool false, .slice (some ⟨b, o, none⟩) la ca] 25)).cell? ⟨b, o + j, none⟩ = some (.int .u32 (wd.dg U j)) := hseg.cell j _ (wd.dcells_at _ _ _ (by omega))
              obtain ⟨d0, d1⟩ := wd.dg_range U j
              have hlt' : (j : Int) < K := by omega
              have hlt2 : (j : Int) < la := by omega
              have HST : Hid _ := sm_step U j (by omega)
              go_wp2
              go_roundw
              case rel => exact ⟨j + 1, by omega, by simp, by rw [← HST.out], rfl⟩
              case measure => simp [intOf]; omega
            · obtain rfl : j = K := by omega
              have hlt' : ¬ (j : Int) < j := by omega
              rw [HUK.out]
              clear hseg hb HUK hmin hmax
              have x0 := x0
              obtain ⟨k0, k1, k2, k3⟩ := x0
              have x0 : Bx _ _ _ _ := ⟨k0, k1, k2, k3⟩
              go_wp2
              refine wp_region_held_drew (S := (fun w' => w'.cell? ⟨w.heap.size, 0, none⟩ = some (.bool false) ∧ w'.cell? ⟨w.heap.size, 1, none⟩ = some (.slice (some ⟨b, o, none⟩) la ca) ∧ Below w.heap.size w w')) (by kernel_rfl) ?_ (fun hHeld => ?_)
              · first | exact keepB1 hHeld b6 | exact hHeld | exact ⟨x0.c0, x0.c1, B0.drew⟩
              refine take_yes (i := 0) (v := ?vey0) rfl (by kernel_rfl) (by kernel_rfl) (by kernel_rfl) (fun _ _ _ h => h) (by rfl) (by assumption) ?hyey0 ?restey0
              case hyey0 => (intro w hSw; (try dsimp only at hSw); first | (go_simp; done) | (go_simp; with_reducible rfl))
              simp only [Act.put, List.setIfInBounds_toArray, List.set_cons_zero, List.set_cons_succ]
              refine take_yes (i := 2) (v := ?vey2) rfl (by kernel_rfl) (by kernel_rfl) (by kernel_rfl) (fun _ _ _ h => h) (by rfl) (by assumption) ?hyey2 ?restey2
              case hyey2 => (intro w hSw; (try dsimp only at hSw); first | (go_simp; done) | (go_simp; with_reducible rfl))
              simp only [Act.put, List.setIfInBounds_toArray, List.set_cons_zero, List.set_cons_succ]
              refine take_call (i := 1) rfl (by kernel_rfl) (fun K hK => ?_)
              go_simp
              (go_at_call 54; refine (cmpLong_any V 0 _).mono ?_; rw [HG.out]; rintro e w5 ⟨rfl, hw⟩; subst hw; have b5 := Below.refl (World.heap (World.drew (w.alloc (.cells #[.bool false, .slice (some ⟨b, o, none⟩) la ca] 25)))).size (World.drew (w.alloc (.cells #[.bool false, .slice (some ⟨b, o, none⟩) la ca] 25))))
              refine hK.out _ _ ?_ (fun hHeld => ?_)
              · first | exact keepB1 hHeld b6 | exact hHeld | exact ⟨x0.c0, x0.c1, B0.drew⟩
              clear hK K
              refine take_call (i := 3) rfl (by kernel_rfl) (fun K hK => ?_)
              go_simp
              (go_at_call 24; refine (wSign false (some ⟨b, o, none⟩) la ca z _ (ha.below hHeld.2.2) HS.out).mono ?_; rintro e w6 ⟨rfl, b6⟩)
              refine hK.out _ _ ?_ (fun hHeld => ?_)
              · first | exact keepB1 hHeld b6 | exact hHeld | exact ⟨x0.c0, x0.c1, B0.drew⟩
              clear hK K
              refine take_yes (i := 4) (v := ?vey4) rfl (by kernel_rfl) (by kernel_rfl) (by kernel_rfl) (fun _ _ _ h => h) (by rfl) (by assumption) ?hyey4 ?restey4
              case hyey4 => (intro w hSw; (try dsimp only at hSw); first | (go_simp; done) | (go_simp; with_reducible rfl))
              simp only [Act.put, List.setIfInBounds_toArray, List.set_cons_zero, List.set_cons_succ]
              refine wpAnyH_done (by kernel_rfl) ?_ _
              go_wp2
              go_ret2
              exact ⟨rfl, also B0.drew b6⟩
        · have hne' : (g == sz) = false := by simpa using hne
          have hne'' : decide (g = sz) = false := by simpa using hne
          go_enter Tryd.func26, Tryd.ntmps26
          go_wp2_with (go_at_call 53; refine (nBits _ _ ca _ _ na HK.out).mono ?_; rintro e w' ⟨rfl, hw⟩; subst hw)
          go_loopw [4, 20] (fun mag i wr => SmRel (w.alloc (.cells #[.bool false, .slice (some ⟨b, o, none⟩) la ca] 25)) U K mag i wr) (fun _ i _ => K - (intOf i).toNat)
          case atStart => exact ⟨0, by omega, rfl, by simp, rfl⟩
          case round =>
            obtain ⟨j, hj, rfl, rfl, rfl⟩ := hrel
            by_cases hlt : j < K
            · have c1 : (w.alloc (.cells #[.bool false, .slice (some ⟨b, o, none⟩) la ca] 25)).cell? ⟨b, o + j, none⟩ = some (.int .u32 (wd.dg U j)) := hseg.cell j _ (wd.dcells_at _ _ _ (by omega))
              obtain ⟨d0, d1⟩ := wd.dg_range U j
              have hlt' : (j : Int) < K := by omega
              have hlt2 : (j : Int) < la := by omega
              have HST : Hid _ := sm_step U j (by omega)
              go_wp2
              go_roundw
              case rel => exact ⟨j + 1, by omega, by simp, by rw [← HST.out], rfl⟩
              case measure => simp [intOf]; omega
            · obtain rfl : j = K := by omega
              have hlt' : ¬ (j : Int) < j := by omega
              rw [HUK.out]
              clear hseg hb HUK hmin hmax
              have x0 := x0
              obtain ⟨k0, k1, k2, k3⟩ := x0
              have x0 : Bx _ _ _ _ := ⟨k0, k1, k2, k3⟩
              go_wp2
              refine wp_region_held_drew (S := (fun w' => w'.cell? ⟨w.heap.size, 0, none⟩ = some (.bool false) ∧ w'.cell? ⟨w.heap.size, 1, none⟩ = some (.slice (some ⟨b, o, none⟩) la ca) ∧ Below w.heap.size w w')) (by kernel_rfl) ?_ (fun hHeld => ?_)
              · first | exact keepB1 hHeld b6 | exact hHeld | exact ⟨x0.c0, x0.c1, B0.drew⟩
              refine take_yes (i := 0) (v := ?ven0) rfl (by kernel_rfl) (by kernel_rfl) (by kernel_rfl) (fun _ _ _ h => h) (by rfl) (by assumption) ?hyen0 ?resten0
              case hyen0 => (intro w hSw; (try dsimp only at hSw); first | (go_simp; done) | (go_simp; with_reducible rfl))
              simp only [Act.put, List.setIfInBounds_toArray, List.set_cons_zero, List.set_cons_succ]
              refine take_yes (i := 2) (v := ?ven2) rfl (by kernel_rfl) (by kernel_rfl) (by kernel_rfl) (fun _ _ _ h => h) (by rfl) (by assumption) ?hyen2 ?resten2
              case hyen2 => (intro w hSw; (try dsimp only at hSw); first | (go_simp; done) | (go_simp; with_reducible rfl))
              simp only [Act.put, List.setIfInBounds_toArray, List.set_cons_zero, List.set_cons_succ]
              refine take_call (i := 1) rfl (by kernel_rfl) (fun K hK => ?_)
              go_simp
              (go_at_call 54; refine (cmpLong_any V 0 _).mono ?_; rw [HG.out]; rintro e w5 ⟨rfl, hw⟩; subst hw; have b5 := Below.refl (World.heap (World.drew (w.alloc (.cells #[.bool false, .slice (some ⟨b, o, none⟩) la ca] 25)))).size (World.drew (w.alloc (.cells #[.bool false, .slice (some ⟨b, o, none⟩) la ca] 25))))
              refine hK.out _ _ ?_ (fun hHeld => ?_)
              · first | exact keepB1 hHeld b6 | exact hHeld | exact ⟨x0.c0, x0.c1, B0.drew⟩
              clear hK K
              refine take_call (i := 3) rfl (by kernel_rfl) (fun K hK => ?_)
              go_simp
              (go_at_call 24; refine (wSign false (some ⟨b, o, none⟩) la ca z _ (ha.below hHeld.2.2) HS.out).mono ?_; rintro e w6 ⟨rfl, b6⟩)
              refine hK.out _ _ ?_ (fun hHeld => ?_)
              · first | exact keepB1 hHeld b6 | exact hHeld | exact ⟨x0.c0, x0.c1, B0.drew⟩
              clear hK K
              refine take_yes (i := 4) (v := ?ven4) rfl (by kernel_rfl) (by kernel_rfl) (by kernel_rfl) (fun _ _ _ h => h) (by rfl) (by assumption) ?hyen4 ?resten4
              case hyen4 => (intro w hSw; (try dsimp only at hSw); first | (go_simp; done) | (go_simp; with_reducible rfl))
              simp only [Act.put, List.setIfInBounds_toArray, List.set_cons_zero, List.set_cons_succ]
              refine wpAnyH_done (by kernel_rfl) ?_ _
              go_wp2
              go_ret2
              exact ⟨rfl, also B0.drew b6⟩
      · have hVn := hVn rfl
        rcases hdo with ⟨rfl, rfl, hvv⟩ | ⟨rfl, hne, rfl⟩
        · obtain rfl := hvv.symm
          go_enter Tryd.func26, Tryd.ntmps26
          go_wp2_with (go_at_call 53; refine (nBits _ _ ca _ _ na HK.out).mono ?_; rintro e w' ⟨rfl, hw⟩; subst hw)
          go_loopw [4, 20] (fun mag i wr => SmRel (w.alloc (.cells #[.bool true, .slice (some ⟨b, o, none⟩) la ca] 25)) U K mag i wr) (fun _ i _ => K - (intOf i).toNat)
          case atStart => exact ⟨0, by omega, rfl, by simp, rfl⟩
          case round =>
            obtain ⟨j, hj, rfl, rfl, rfl⟩ := hrel
            by_cases hlt : j < K
            · have c1 : (w.alloc (.cells #[.bool true, .slice (some ⟨b, o, none⟩) la ca] 25)).cell? ⟨b, o + j, none⟩ = some (.int .u32 (wd.dg U j)) := hseg.cell j _ (wd.dcells_at _ _ _ (by omega))
              obtain ⟨d0, d1⟩ := wd.dg_range U j
              have hlt' : (j : Int) < K := by omega
              have hlt2 : (j : Int) < la := by omega
              have HST : Hid _ := sm_step U j (by omega)
              go_wp2
              go_roundw
              case rel => exact ⟨j + 1, by omega, by simp, by rw [← HST.out], rfl⟩
              case measure => simp [intOf]; omega
            · obtain rfl : j = K := by omega
              have hlt' : ¬ (j : Int) < j := by omega
              rw [HUK.out]
              clear hseg hb HUK hmin hmax
              have x0 := x0
              obtain ⟨k0, k1, k2, k3⟩ := x0
              have x0 : Bx _ _ _ _ := ⟨k0, k1, k2, k3⟩
              go_wp2
              refine wp_region_held_drew (S := (fun w' => w'.cell? ⟨w.heap.size, 0, none⟩ = some (.bool true) ∧ w'.cell? ⟨w.heap.size, 1, none⟩ = some (.slice (some ⟨b, o, none⟩) la ca) ∧ Below w.heap.size w w')) (by kernel_rfl) ?_ (fun hHeld => ?_)
              · first | exact keepB1 hHeld b6 | exact hHeld | exact ⟨x0.c0, x0.c1, B0.drew⟩
              refine take_yes (i := 0) (v := ?vfy0) rfl (by kernel_rfl) (by kernel_rfl) (by kernel_rfl) (fun _ _ _ h => h) (by rfl) (by assumption) ?hyfy0 ?restfy0
              case hyfy0 => (intro w hSw; (try dsimp only at hSw); first | (go_simp; done) | (go_simp; with_reducible rfl))
              simp only [Act.put, List.setIfInBounds_toArray, List.set_cons_zero, List.set_cons_succ]
              refine take_yes (i := 2) (v := ?vfy2) rfl (by kernel_rfl) (by kernel_rfl) (by kernel_rfl) (fun _ _ _ h => h) (by rfl) (by assumption) ?hyfy2 ?restfy2
              case hyfy2 => (intro w hSw; (try dsimp only at hSw); first | (go_simp; done) | (go_simp; with_reducible rfl))
              simp only [Act.put, List.setIfInBounds_toArray, List.set_cons_zero, List.set_cons_succ]
              refine take_call (i := 1) rfl (by kernel_rfl) (fun K hK => ?_)
              go_simp
              (go_at_call 54; refine (cmpLong_any V 0 _).mono ?_; rw [HG.out]; rintro e w5 ⟨rfl, hw⟩; subst hw; have b5 := Below.refl (World.heap (World.drew (w.alloc (.cells #[.bool true, .slice (some ⟨b, o, none⟩) la ca] 25)))).size (World.drew (w.alloc (.cells #[.bool true, .slice (some ⟨b, o, none⟩) la ca] 25))))
              refine hK.out _ _ ?_ (fun hHeld => ?_)
              · first | exact keepB1 hHeld b6 | exact hHeld | exact ⟨x0.c0, x0.c1, B0.drew⟩
              clear hK K
              refine take_call (i := 3) rfl (by kernel_rfl) (fun K hK => ?_)
              go_simp
              (go_at_call 24; refine (wSign true (some ⟨b, o, none⟩) la ca z _ (ha.below hHeld.2.2) HS.out).mono ?_; rintro e w6 ⟨rfl, b6⟩)
              refine hK.out _ _ ?_ (fun hHeld => ?_)
              · first | exact keepB1 hHeld b6 | exact hHeld | exact ⟨x0.c0, x0.c1, B0.drew⟩
              clear hK K
              refine take_yes (i := 4) (v := ?vfy4) rfl (by kernel_rfl) (by kernel_rfl) (by kernel_rfl) (fun _ _ _ h => h) (by rfl) (by assumption) ?hyfy4 ?restfy4
              case hyfy4 => (intro w hSw; (try dsimp only at hSw); first | (go_simp; done) | (go_simp; with_reducible rfl))
              simp only [Act.put, List.setIfInBounds_toArray, List.set_cons_zero, List.set_cons_succ]
              refine wpAnyH_done (by kernel_rfl) ?_ _
              go_wp2
              go_ret2
              exact ⟨rfl, also B0.drew b6⟩
        · have hne' : (g == sz) = false := by simpa using hne
          have hne'' : decide (g = sz) = false := by simpa using hne
          go_enter Tryd.func26, Tryd.ntmps26
          go_wp2_with (go_at_call 53; refine (nBits _ _ ca _ _ na HK.out).mono ?_; rintro e w' ⟨rfl, hw⟩; subst hw)
          go_loopw [4, 20] (fun mag i wr => SmRel (w.alloc (.cells #[.bool true, .slice (some ⟨b, o, none⟩) la ca] 25)) U K mag i wr) (fun _ i _ => K - (intOf i).toNat)
          case atStart => exact ⟨0, by omega, rfl, by simp, rfl⟩
          case round =>
            obtain ⟨j, hj, rfl, rfl, rfl⟩ := hrel
            by_cases hlt : j < K
            · have c1 : (w.alloc (.cells #[.bool true, .slice (some ⟨b, o, none⟩) la ca] 25)).cell? ⟨b, o + j, none⟩ = some (.int .u32 (wd.dg U j)) := hseg.cell j _ (wd.dcells_at _ _ _ (by omega))
              obtain ⟨d0, d1⟩ := wd.dg_range U j
              have hlt' : (j : Int) < K := by omega
              have hlt2 : (j : Int) < la := by omega
              have HST : Hid _ := sm_step U j (by omega)
              go_wp2
              go_roundw
              case rel => exact ⟨j + 1, by omega, by simp, by rw [← HST.out], rfl⟩
              case measure => simp [intOf]; omega
            · obtain rfl : j = K := by omega
              have hlt' : ¬ (j : Int) < j := by omega
              rw [HUK.out]
              clear hseg hb HUK hmin hmax
              have x0 := x0
              obtain ⟨k0, k1, k2, k3⟩ := x0
              have x0 : Bx _ _ _ _ := ⟨k0, k1, k2, k3⟩
              go_wp2
              refine wp_region_held_drew (S := (fun w' => w'.cell? ⟨w.heap.size, 0, none⟩ = some (.bool true) ∧ w'.cell? ⟨w.heap.size, 1, none⟩ = some (.slice (some ⟨b, o, none⟩) la ca) ∧ Below w.heap.size w w')) (by kernel_rfl) ?_ (fun hHeld => ?_)
              · first | exact keepB1 hHeld b6 | exact hHeld | exact ⟨x0.c0, x0.c1, B0.drew⟩
              refine take_yes (i := 0) (v := ?vfn0) rfl (by kernel_rfl) (by kernel_rfl) (by kernel_rfl) (fun _ _ _ h => h) (by rfl) (by assumption) ?hyfn0 ?restfn0
              case hyfn0 => (intro w hSw; (try dsimp only at hSw); first | (go_simp; done) | (go_simp; with_reducible rfl))
              simp only [Act.put, List.setIfInBounds_toArray, List.set_cons_zero, List.set_cons_succ]
              refine take_yes (i := 2) (v := ?vfn2) rfl (by kernel_rfl) (by kernel_rfl) (by kernel_rfl) (fun _ _ _ h => h) (by rfl) (by assumption) ?hyfn2 ?restfn2
              case hyfn2 => (intro w hSw; (try dsimp only at hSw); first | (go_simp; done) | (go_simp; with_reducible rfl))
              simp only [Act.put, List.setIfInBounds_toArray, List.set_cons_zero, List.set_cons_succ]
              refine take_call (i := 1) rfl (by kernel_rfl) (fun K hK => ?_)
              go_simp
              (go_at_call 54; refine (cmpLong_any V 0 _).mono ?_; rw [HG.out]; rintro e w5 ⟨rfl, hw⟩; subst hw; have b5 := Below.refl (World.heap (World.drew (w.alloc (.cells #[.bool true, .slice (some ⟨b, o, none⟩) la ca] 25)))).size (World.drew (w.alloc (.cells #[.bool true, .slice (some ⟨b, o, none⟩) la ca] 25))))
              refine hK.out _ _ ?_ (fun hHeld => ?_)
              · first | exact keepB1 hHeld b6 | exact hHeld | exact ⟨x0.c0, x0.c1, B0.drew⟩
              clear hK K
              refine take_call (i := 3) rfl (by kernel_rfl) (fun K hK => ?_)
              go_simp
              (go_at_call 24; refine (wSign true (some ⟨b, o, none⟩) la ca z _ (ha.below hHeld.2.2) HS.out).mono ?_; rintro e w6 ⟨rfl, b6⟩)
              refine hK.out _ _ ?_ (fun hHeld => ?_)
              · first | exact keepB1 hHeld b6 | exact hHeld | exact ⟨x0.c0, x0.c1, B0.drew⟩
              clear hK K
              refine take_yes (i := 4) (v := ?vfn4) rfl (by kernel_rfl) (by kernel_rfl) (by kernel_rfl) (fun _ _ _ h => h) (by rfl) (by assumption) ?hyfn4 ?restfn4
              case hyfn4 => (intro w hSw; (try dsimp only at hSw); first | (go_simp; done) | (go_simp; with_reducible rfl))
              simp only [Act.put, List.setIfInBounds_toArray, List.set_cons_zero, List.set_cons_succ]
              refine wpAnyH_done (by kernel_rfl) ?_ _
              go_wp2
              go_ret2
              exact ⟨rfl, also B0.drew b6⟩
end Go.Proofs.YtpkcjgkgabemoaaDoor

namespace Go.Proofs.YtpkcjgkgabemoaaDoor.lq
open Go.RowKit

/-- Digit i of v, to the base 256 (of a number below nought: of v modulo as many digits as you like). -/
def dg (v : Int) (i : Nat) : Int := v / 256 ^ i % 256
theorem dg_range (v : Int) (i : Nat) : 0 ≤ dg v i ∧ dg v i < 256 := by unfold dg; omega
theorem p256 (i : Nat) : (0 : Int) < 256 ^ i := Int.pow_pos (by decide)
/-- n digits: at the places that p names those of u, at the others those of v. -/
def fill (n : Nat) (p : Nat → Bool) (u v : Int) : List Value := (List.range n).map fun j => .int .i64 (if p j then dg u j else dg v j)
def dcells (n : Nat) (v : Int) : List Value := (List.range n).map fun j => .int .i64 (dg v j)
def mix (n i : Nat) (u v : Int) : List Value := fill n (fun j => decide (j < i)) u v
theorem fill_length (n : Nat) (p : Nat → Bool) (u v : Int) : (fill n p u v).length = n := by simp [fill]
theorem mix_length (n i : Nat) (u v : Int) : (mix n i u v).length = n := fill_length _ _ _ _
theorem dcells_length (n : Nat) (v : Int) : (dcells n v).length = n := by simp [dcells]
theorem dcells_at (n : Nat) (v : Int) (i : Nat) (h : i < n) : (dcells n v)[i]? = some (.int .i64 (dg v i)) := by simp [dcells, h]
theorem fill_at (n : Nat) (p : Nat → Bool) (u v : Int) (i : Nat) (h : i < n) : (fill n p u v)[i]? = some (.int .i64 (if p i then dg u i else dg v i)) := by simp [fill, h]
theorem mix_at (n k : Nat) (u v : Int) (i : Nat) (h : i < n) (hk : k ≤ i) : (mix n k u v)[i]? = some (.int .i64 (dg v i)) := by
  rw [mix, fill_at _ _ _ _ _ h]; simp; omega
theorem fill_congr {n : Nat} {p q : Nat → Bool} {u v u' v' : Int} (h : ∀ j, j < n → (if p j then dg u j else dg v j) = (if q j then dg u' j else dg v' j)) : fill n p u v = fill n q u' v' := by
  unfold fill
  refine List.map_congr_left fun j hj => ?_
  rw [h j (by simpa using hj)]
theorem fill_set (n : Nat) (p : Nat → Bool) (u v : Int) (i : Nat) : (fill n p u v).set i (.int .i64 (dg u i)) = fill n (fun j => p j || j == i) u v := by
  refine List.ext_getElem? fun j => ?_
  rw [List.getElem?_set]
  by_cases e : i = j
  · subst e
    by_cases h : i < n
    · rw [if_pos rfl, if_pos (by rw [fill_length]; exact h), fill_at _ _ _ _ _ h]; simp
    · rw [if_pos rfl, if_neg (by rw [fill_length]; exact h), List.getElem?_eq_none (by rw [fill_length]; omega)]
  · by_cases h : j < n
    · rw [if_neg e, fill_at _ _ _ _ _ h, fill_at _ _ _ _ _ h]
      have e' : (j == i) = false := by simp; omega
      simp [e']
    · rw [if_neg e, List.getElem?_eq_none (by simp [fill_length]; omega), List.getElem?_eq_none (by simp [fill_length]; omega)]
theorem mix_set (n i : Nat) (u v : Int) : (mix n i u v).set i (.int .i64 (dg u i)) = mix n (i + 1) u v := by
  unfold mix
  rw [fill_set]
  refine fill_congr fun j _ => ?_
  have : (decide (j < i) || j == i) = decide (j < i + 1) := by rw [Bool.eq_iff_iff]; simp; omega
  rw [this]
theorem mix_zero (n : Nat) (u v : Int) : mix n 0 u v = dcells n v := by unfold mix fill dcells; simp
theorem mix_full (n : Nat) (u v : Int) : mix n n u v = dcells n u := by
  unfold mix fill dcells
  refine List.map_congr_left fun j hj => ?_
  have : j < n := by simpa using hj
  simp [this]
/-- The digits of two numbers that are the same modulo 256^i are the same below place i. -/
theorem dg_congr {u v : Int} {i j : Nat} (t : Int) (h : u = v + t * 256 ^ i) (hj : j < i) : dg u j = dg v j := by
  unfold dg
  obtain ⟨d, rfl⟩ : ∃ d, i = j + 1 + d := ⟨i - (j + 1), by omega⟩
  have e : t * (256 : Int) ^ (j + 1 + d) = (256 * (t * 256 ^ d)) * 256 ^ j := by
    rw [show j + 1 + d = d + 1 + j by omega, Int.pow_add, Int.pow_succ, ← Int.mul_assoc, ← Int.mul_assoc, Int.mul_comm (t * 256 ^ d) 256]
  rw [h, e, Int.add_mul_ediv_right _ _ (Int.ne_of_gt (p256 j))]
  omega
theorem dcells_congr {n : Nat} {u v : Int} (t : Int) (h : u = v + t * 256 ^ n) : dcells n u = dcells n v := by
  unfold dcells
  refine List.map_congr_left fun j hj => ?_
  rw [dg_congr t h (by simpa using hj)]
/-- The carry into place i when x and y are added. -/
def carry (x y : Int) (i : Nat) : Int := (x % 256 ^ i + y % 256 ^ i) / 256 ^ i
theorem carry_zero (x y : Int) : carry x y 0 = 0 := by simp [carry]
theorem emod_succ (x : Int) (i : Nat) : x % 256 ^ (i + 1) = dg x i * 256 ^ i + x % 256 ^ i := by
  unfold dg
  have hp := p256 i
  have h1 := Int.mul_ediv_add_emod x (256 ^ i)
  have h2 := Int.mul_ediv_add_emod (x / 256 ^ i) 256
  have b := Int.emod_nonneg x (Int.ne_of_gt hp)
  have b' := Int.emod_lt_of_pos x hp
  have c := Int.emod_nonneg (x / 256 ^ i) (show (256 : Int) ≠ 0 by decide)
  have c' := Int.emod_lt_of_pos (x / 256 ^ i) (show (0 : Int) < 256 by decide)
  have e : x = (x / 256 ^ i % 256 * 256 ^ i + x % 256 ^ i) + (x / 256 ^ i / 256) * 256 ^ (i + 1) := by
    have : (x / 256 ^ i / 256) * (256 : Int) ^ (i + 1) = (256 * (x / 256 ^ i / 256)) * 256 ^ i := by rw [Int.pow_succ, Int.mul_comm ((256 : Int) ^ i) 256, ← Int.mul_assoc, Int.mul_comm _ 256]
    rw [this]
    have h3 : (256 * (x / 256 ^ i / 256)) * (256 : Int) ^ i + x / 256 ^ i % 256 * 256 ^ i = x / 256 ^ i * 256 ^ i := by rw [← Int.add_mul, h2]
    have h4 : x / 256 ^ i * (256 : Int) ^ i = 256 ^ i * (x / 256 ^ i) := Int.mul_comm _ _
    omega
  have l0 : 0 ≤ x / 256 ^ i % 256 * 256 ^ i + x % 256 ^ i := Int.add_nonneg (Int.mul_nonneg c (Int.le_of_lt hp)) b
  have l1 : x / 256 ^ i % 256 * 256 ^ i + x % 256 ^ i < 256 ^ (i + 1) := by
    have : x / 256 ^ i % 256 * (256 : Int) ^ i ≤ 255 * 256 ^ i := Int.mul_le_mul_of_nonneg_right (by omega) (Int.le_of_lt hp)
    rw [Int.pow_succ]
    omega
  have key : x % 256 ^ (i + 1) = (x / 256 ^ i % 256 * 256 ^ i + x % 256 ^ i) % 256 ^ (i + 1) := by
    have := congrArg (· % (256 : Int) ^ (i + 1)) e
    simpa [Int.add_mul_emod_self_right] using this
  rw [key, Int.emod_eq_of_lt l0 l1]
theorem carry_sum (x y : Int) (i : Nat) : (x % 256 ^ (i + 1) + y % 256 ^ (i + 1)) / 256 ^ i = carry x y i + dg x i + dg y i := by
  rw [emod_succ, emod_succ]
  unfold carry
  have e : dg x i * 256 ^ i + x % 256 ^ i + (dg y i * 256 ^ i + y % 256 ^ i) = (x % 256 ^ i + y % 256 ^ i) + (dg x i + dg y i) * 256 ^ i := by rw [Int.add_mul]; omega
  rw [e, Int.add_mul_ediv_right _ _ (Int.ne_of_gt (p256 i))]
  omega
theorem carry_succ (x y : Int) (i : Nat) : carry x y (i + 1) = (carry x y i + dg x i + dg y i) / 256 := by
  rw [← carry_sum]
  show (x % 256 ^ (i + 1) + y % 256 ^ (i + 1)) / 256 ^ (i + 1) = _
  have hp := p256 i
  rw [Int.pow_succ, Int.ediv_ediv, if_neg (by omega)]
  omega
theorem add_digit (x y : Int) (i : Nat) : (carry x y i + dg x i + dg y i) % 256 = dg (x + y) i := by
  unfold dg carry
  have hp := p256 i
  have h1 := Int.mul_ediv_add_emod x (256 ^ i)
  have h2 := Int.mul_ediv_add_emod y (256 ^ i)
  have e : x + y = (x % 256 ^ i + y % 256 ^ i) + (x / 256 ^ i + y / 256 ^ i) * 256 ^ i := by
    have a1 : x / 256 ^ i * (256 : Int) ^ i = 256 ^ i * (x / 256 ^ i) := Int.mul_comm _ _
    have a2 : y / 256 ^ i * (256 : Int) ^ i = 256 ^ i * (y / 256 ^ i) := Int.mul_comm _ _
    rw [Int.add_mul]; omega
  have e2 : (x + y) / 256 ^ i = (x % 256 ^ i + y % 256 ^ i) / 256 ^ i + (x / 256 ^ i + y / 256 ^ i) := by
    conv => lhs; rw [e]
    exact Int.add_mul_ediv_right _ _ (Int.ne_of_gt hp)
  rw [e2]
  omega
theorem carry_range (x y : Int) (i : Nat) : 0 ≤ carry x y i ∧ carry x y i ≤ 1 := by
  unfold carry
  have hp := p256 i
  have a := Int.emod_nonneg x (Int.ne_of_gt hp)
  have a' := Int.emod_lt_of_pos x hp
  have b := Int.emod_nonneg y (Int.ne_of_gt hp)
  have b' := Int.emod_lt_of_pos y hp
  refine ⟨Int.ediv_nonneg (by omega) (by omega), ?_⟩
  have : (x % 256 ^ i + y % 256 ^ i) / 256 ^ i < 2 := Int.ediv_lt_of_lt_mul hp (by omega)
  omega
theorem neg_digit (x : Int) (i : Nat) : 255 - dg x i = dg (-1 - x) i := by
  unfold dg
  have hp := p256 i
  have h1 := Int.mul_ediv_add_emod x (256 ^ i)
  have a := Int.emod_nonneg x (Int.ne_of_gt hp)
  have a' := Int.emod_lt_of_pos x hp
  have e : -1 - x = (256 ^ i - 1 - x % 256 ^ i) + (-1 - x / 256 ^ i) * 256 ^ i := by
    have a1 : x / 256 ^ i * (256 : Int) ^ i = 256 ^ i * (x / 256 ^ i) := Int.mul_comm _ _
    rw [Int.sub_mul]; omega
  have e2 : (-1 - x) / 256 ^ i = -1 - x / 256 ^ i := by
    conv => lhs; rw [e]
    rw [Int.add_mul_ediv_right _ _ (Int.ne_of_gt hp), Int.ediv_eq_zero_of_lt (by omega) (by omega)]
    omega
  rw [e2]
  omega
end Go.Proofs.YtpkcjgkgabemoaaDoor.lq

namespace Go.Proofs.YtpkcjgkgabemoaaDoor.lq.q
open Go.RowKit

/-- Digit i of v, to the base 18446744073709551616 (of a number below nought: of v modulo as many digits as you like). -/
def dg (v : Int) (i : Nat) : Int := v / 18446744073709551616 ^ i % 18446744073709551616
theorem dg_range (v : Int) (i : Nat) : 0 ≤ dg v i ∧ dg v i < 18446744073709551616 := by unfold dg; omega
theorem p256 (i : Nat) : (0 : Int) < 18446744073709551616 ^ i := Int.pow_pos (by decide)
/-- n digits: at the places that p names those of u, at the others those of v. -/
def fill (n : Nat) (p : Nat → Bool) (u v : Int) : List Value := (List.range n).map fun j => .int .u64 (if p j then dg u j else dg v j)
def dcells (n : Nat) (v : Int) : List Value := (List.range n).map fun j => .int .u64 (dg v j)
def mix (n i : Nat) (u v : Int) : List Value := fill n (fun j => decide (j < i)) u v
theorem fill_length (n : Nat) (p : Nat → Bool) (u v : Int) : (fill n p u v).length = n := by simp [fill]
theorem mix_length (n i : Nat) (u v : Int) : (mix n i u v).length = n := fill_length _ _ _ _
theorem dcells_length (n : Nat) (v : Int) : (dcells n v).length = n := by simp [dcells]
theorem dcells_at (n : Nat) (v : Int) (i : Nat) (h : i < n) : (dcells n v)[i]? = some (.int .u64 (dg v i)) := by simp [dcells, h]
theorem fill_at (n : Nat) (p : Nat → Bool) (u v : Int) (i : Nat) (h : i < n) : (fill n p u v)[i]? = some (.int .u64 (if p i then dg u i else dg v i)) := by simp [fill, h]
theorem mix_at (n k : Nat) (u v : Int) (i : Nat) (h : i < n) (hk : k ≤ i) : (mix n k u v)[i]? = some (.int .u64 (dg v i)) := by
  rw [mix, fill_at _ _ _ _ _ h]; simp; omega
theorem fill_congr {n : Nat} {p q : Nat → Bool} {u v u' v' : Int} (h : ∀ j, j < n → (if p j then dg u j else dg v j) = (if q j then dg u' j else dg v' j)) : fill n p u v = fill n q u' v' := by
  unfold fill
  refine List.map_congr_left fun j hj => ?_
  rw [h j (by simpa using hj)]
theorem fill_set (n : Nat) (p : Nat → Bool) (u v : Int) (i : Nat) : (fill n p u v).set i (.int .u64 (dg u i)) = fill n (fun j => p j || j == i) u v := by
  refine List.ext_getElem? fun j => ?_
  rw [List.getElem?_set]
  by_cases e : i = j
  · subst e
    by_cases h : i < n
    · rw [if_pos rfl, if_pos (by rw [fill_length]; exact h), fill_at _ _ _ _ _ h]; simp
    · rw [if_pos rfl, if_neg (by rw [fill_length]; exact h), List.getElem?_eq_none (by rw [fill_length]; omega)]
  · by_cases h : j < n
    · rw [if_neg e, fill_at _ _ _ _ _ h, fill_at _ _ _ _ _ h]
      have e' : (j == i) = false := by simp; omega
      simp [e']
    · rw [if_neg e, List.getElem?_eq_none (by simp [fill_length]; omega), List.getElem?_eq_none (by simp [fill_length]; omega)]
theorem mix_set (n i : Nat) (u v : Int) : (mix n i u v).set i (.int .u64 (dg u i)) = mix n (i + 1) u v := by
  unfold mix
  rw [fill_set]
  refine fill_congr fun j _ => ?_
  have : (decide (j < i) || j == i) = decide (j < i + 1) := by rw [Bool.eq_iff_iff]; simp; omega
  rw [this]
theorem mix_zero (n : Nat) (u v : Int) : mix n 0 u v = dcells n v := by unfold mix fill dcells; simp
theorem mix_full (n : Nat) (u v : Int) : mix n n u v = dcells n u := by
  unfold mix fill dcells
  refine List.map_congr_left fun j hj => ?_
  have : j < n := by simpa using hj
  simp [this]
/-- The digits of two numbers that are the same modulo 18446744073709551616^i are the same below place i. -/
theorem dg_congr {u v : Int} {i j : Nat} (t : Int) (h : u = v + t * 18446744073709551616 ^ i) (hj : j < i) : dg u j = dg v j := by
  unfold dg
  obtain ⟨d, rfl⟩ : ∃ d, i = j + 1 + d := ⟨i - (j + 1), by omega⟩
  have e : t * (18446744073709551616 : Int) ^ (j + 1 + d) = (18446744073709551616 * (t * 18446744073709551616 ^ d)) * 18446744073709551616 ^ j := by
    rw [show j + 1 + d = d + 1 + j by omega, Int.pow_add, Int.pow_succ, ← Int.mul_assoc, ← Int.mul_assoc, Int.mul_comm (t * 18446744073709551616 ^ d) 18446744073709551616]
  rw [h, e, Int.add_mul_ediv_right _ _ (Int.ne_of_gt (p256 j))]
  omega
theorem dcells_congr {n : Nat} {u v : Int} (t : Int) (h : u = v + t * 18446744073709551616 ^ n) : dcells n u = dcells n v := by
  unfold dcells
  refine List.map_congr_left fun j hj => ?_
  rw [dg_congr t h (by simpa using hj)]
/-- The carry into place i when x and y are added. -/
def carry (x y : Int) (i : Nat) : Int := (x % 18446744073709551616 ^ i + y % 18446744073709551616 ^ i) / 18446744073709551616 ^ i
theorem carry_zero (x y : Int) : carry x y 0 = 0 := by simp [carry]
theorem emod_succ (x : Int) (i : Nat) : x % 18446744073709551616 ^ (i + 1) = dg x i * 18446744073709551616 ^ i + x % 18446744073709551616 ^ i := by
  unfold dg
  have hp := p256 i
  have h1 := Int.mul_ediv_add_emod x (18446744073709551616 ^ i)
  have h2 := Int.mul_ediv_add_emod (x / 18446744073709551616 ^ i) 18446744073709551616
  have b := Int.emod_nonneg x (Int.ne_of_gt hp)
  have b' := Int.emod_lt_of_pos x hp
  have c := Int.emod_nonneg (x / 18446744073709551616 ^ i) (show (18446744073709551616 : Int) ≠ 0 by decide)
  have c' := Int.emod_lt_of_pos (x / 18446744073709551616 ^ i) (show (0 : Int) < 18446744073709551616 by decide)
  have e : x = (x / 18446744073709551616 ^ i % 18446744073709551616 * 18446744073709551616 ^ i + x % 18446744073709551616 ^ i) + (x / 18446744073709551616 ^ i / 18446744073709551616) * 18446744073709551616 ^ (i + 1) := by
    have : (x / 18446744073709551616 ^ i / 18446744073709551616) * (18446744073709551616 : Int) ^ (i + 1) = (18446744073709551616 * (x / 18446744073709551616 ^ i / 18446744073709551616)) * 18446744073709551616 ^ i := by rw [Int.pow_succ, Int.mul_comm ((18446744073709551616 : Int) ^ i) 18446744073709551616, ← Int.mul_assoc, Int.mul_comm _ 18446744073709551616]
    rw [this]
    have h3 : (18446744073709551616 * (x / 18446744073709551616 ^ i / 18446744073709551616)) * (18446744073709551616 : Int) ^ i + x / 18446744073709551616 ^ i % 18446744073709551616 * 18446744073709551616 ^ i = x / 18446744073709551616 ^ i * 18446744073709551616 ^ i := by rw [← Int.add_mul, h2]
    have h4 : x / 18446744073709551616 ^ i * (18446744073709551616 : Int) ^ i = 18446744073709551616 ^ i * (x / 18446744073709551616 ^ i) := Int.mul_comm _ _
    omega
  have l0 : 0 ≤ x / 18446744073709551616 ^ i % 18446744073709551616 * 18446744073709551616 ^ i + x % 18446744073709551616 ^ i := Int.add_nonneg (Int.mul_nonneg c (Int.le_of_lt hp)) b
  have l1 : x / 18446744073709551616 ^ i % 18446744073709551616 * 18446744073709551616 ^ i + x % 18446744073709551616 ^ i < 18446744073709551616 ^ (i + 1) := by
    have : x / 18446744073709551616 ^ i % 18446744073709551616 * (18446744073709551616 : Int) ^ i ≤ 18446744073709551615 * 18446744073709551616 ^ i := Int.mul_le_mul_of_nonneg_right (by omega) (Int.le_of_lt hp)
    rw [Int.pow_succ]
    omega
  have key : x % 18446744073709551616 ^ (i + 1) = (x / 18446744073709551616 ^ i % 18446744073709551616 * 18446744073709551616 ^ i + x % 18446744073709551616 ^ i) % 18446744073709551616 ^ (i + 1) := by
    have := congrArg (· % (18446744073709551616 : Int) ^ (i + 1)) e
    simpa [Int.add_mul_emod_self_right] using this
  rw [key, Int.emod_eq_of_lt l0 l1]
theorem carry_sum (x y : Int) (i : Nat) : (x % 18446744073709551616 ^ (i + 1) + y % 18446744073709551616 ^ (i + 1)) / 18446744073709551616 ^ i = carry x y i + dg x i + dg y i := by
  rw [emod_succ, emod_succ]
  unfold carry
  have e : dg x i * 18446744073709551616 ^ i + x % 18446744073709551616 ^ i + (dg y i * 18446744073709551616 ^ i + y % 18446744073709551616 ^ i) = (x % 18446744073709551616 ^ i + y % 18446744073709551616 ^ i) + (dg x i + dg y i) * 18446744073709551616 ^ i := by rw [Int.add_mul]; omega
  rw [e, Int.add_mul_ediv_right _ _ (Int.ne_of_gt (p256 i))]
  omega
theorem carry_succ (x y : Int) (i : Nat) : carry x y (i + 1) = (carry x y i + dg x i + dg y i) / 18446744073709551616 := by
  rw [← carry_sum]
  show (x % 18446744073709551616 ^ (i + 1) + y % 18446744073709551616 ^ (i + 1)) / 18446744073709551616 ^ (i + 1) = _
  have hp := p256 i
  rw [Int.pow_succ, Int.ediv_ediv, if_neg (by omega)]
  omega
theorem add_digit (x y : Int) (i : Nat) : (carry x y i + dg x i + dg y i) % 18446744073709551616 = dg (x + y) i := by
  unfold dg carry
  have hp := p256 i
  have h1 := Int.mul_ediv_add_emod x (18446744073709551616 ^ i)
  have h2 := Int.mul_ediv_add_emod y (18446744073709551616 ^ i)
  have e : x + y = (x % 18446744073709551616 ^ i + y % 18446744073709551616 ^ i) + (x / 18446744073709551616 ^ i + y / 18446744073709551616 ^ i) * 18446744073709551616 ^ i := by
    have a1 : x / 18446744073709551616 ^ i * (18446744073709551616 : Int) ^ i = 18446744073709551616 ^ i * (x / 18446744073709551616 ^ i) := Int.mul_comm _ _
    have a2 : y / 18446744073709551616 ^ i * (18446744073709551616 : Int) ^ i = 18446744073709551616 ^ i * (y / 18446744073709551616 ^ i) := Int.mul_comm _ _
    rw [Int.add_mul]; omega
  have e2 : (x + y) / 18446744073709551616 ^ i = (x % 18446744073709551616 ^ i + y % 18446744073709551616 ^ i) / 18446744073709551616 ^ i + (x / 18446744073709551616 ^ i + y / 18446744073709551616 ^ i) := by
    conv => lhs; rw [e]
    exact Int.add_mul_ediv_right _ _ (Int.ne_of_gt hp)
  rw [e2]
  omega
theorem carry_range (x y : Int) (i : Nat) : 0 ≤ carry x y i ∧ carry x y i ≤ 1 := by
  unfold carry
  have hp := p256 i
  have a := Int.emod_nonneg x (Int.ne_of_gt hp)
  have a' := Int.emod_lt_of_pos x hp
  have b := Int.emod_nonneg y (Int.ne_of_gt hp)
  have b' := Int.emod_lt_of_pos y hp
  refine ⟨Int.ediv_nonneg (by omega) (by omega), ?_⟩
  have : (x % 18446744073709551616 ^ i + y % 18446744073709551616 ^ i) / 18446744073709551616 ^ i < 2 := Int.ediv_lt_of_lt_mul hp (by omega)
  omega
theorem neg_digit (x : Int) (i : Nat) : 18446744073709551615 - dg x i = dg (-1 - x) i := by
  unfold dg
  have hp := p256 i
  have h1 := Int.mul_ediv_add_emod x (18446744073709551616 ^ i)
  have a := Int.emod_nonneg x (Int.ne_of_gt hp)
  have a' := Int.emod_lt_of_pos x hp
  have e : -1 - x = (18446744073709551616 ^ i - 1 - x % 18446744073709551616 ^ i) + (-1 - x / 18446744073709551616 ^ i) * 18446744073709551616 ^ i := by
    have a1 : x / 18446744073709551616 ^ i * (18446744073709551616 : Int) ^ i = 18446744073709551616 ^ i * (x / 18446744073709551616 ^ i) := Int.mul_comm _ _
    rw [Int.sub_mul]; omega
  have e2 : (-1 - x) / 18446744073709551616 ^ i = -1 - x / 18446744073709551616 ^ i := by
    conv => lhs; rw [e]
    rw [Int.add_mul_ediv_right _ _ (Int.ne_of_gt hp), Int.ediv_eq_zero_of_lt (by omega) (by omega)]
    omega
  rw [e2]
  omega
end Go.Proofs.YtpkcjgkgabemoaaDoor.lq.q

namespace Go.Proofs.YtpkcjgkgabemoaaDoor.lq.q
set_option linter.unusedVariables false

/-- What stands below place i + k, and over it, when k digits of y have been taken times digit i of x. -/
def tk (O xi y : Int) (i k : Nat) : Int := O % 18446744073709551616 ^ (i + k) + xi * 18446744073709551616 ^ i * (y % 18446744073709551616 ^ k)
def cy (O xi y : Int) (i k : Nat) : Int := tk O xi y i k / 18446744073709551616 ^ (i + k)
theorem pow_ik (i k : Nat) : (18446744073709551616 : Int) ^ (i + k) = 18446744073709551616 ^ i * 18446744073709551616 ^ k := Int.pow_add _ _ _
theorem tk_succ (O xi y : Int) (i k : Nat) : tk O xi y i (k + 1) = tk O xi y i k + (dg O (i + k) + xi * dg y k) * 18446744073709551616 ^ (i + k) := by
  unfold tk
  rw [← Nat.add_assoc, emod_succ, emod_succ, Int.add_mul, Int.mul_add, pow_ik]
  have e : xi * 18446744073709551616 ^ i * (dg y k * 18446744073709551616 ^ k) = xi * dg y k * (18446744073709551616 ^ i * 18446744073709551616 ^ k) := by
    rw [Int.mul_assoc xi, Int.mul_left_comm (18446744073709551616 ^ i) (dg y k), Int.mul_assoc xi (dg y k)]
  rw [e]; omega
theorem cy_sum (O xi y : Int) (i k : Nat) : tk O xi y i (k + 1) / 18446744073709551616 ^ (i + k) = cy O xi y i k + dg O (i + k) + xi * dg y k := by
  rw [tk_succ, Int.add_mul_ediv_right _ _ (Int.ne_of_gt (p256 _))]; unfold cy; omega
theorem cy_succ (O xi y : Int) (i k : Nat) : cy O xi y i (k + 1) = (cy O xi y i k + dg O (i + k) + xi * dg y k) / 18446744073709551616 := by
  rw [← cy_sum]
  show tk O xi y i (k + 1) / 18446744073709551616 ^ (i + k + 1) = _
  have hp := p256 (i + k)
  rw [Int.pow_succ, Int.ediv_ediv, if_neg (by omega)]; omega
theorem mul_digit (O xi y : Int) (i k : Nat) : (cy O xi y i k + dg O (i + k) + xi * dg y k) % 18446744073709551616 = dg (O + xi * 18446744073709551616 ^ i * y) (i + k) := by
  rw [← cy_sum]
  show dg (tk O xi y i (k + 1)) (i + k) = _
  refine (dg_congr (i := i + k + 1) (O / 18446744073709551616 ^ (i + k + 1) + xi * (y / 18446744073709551616 ^ (k + 1))) ?_ (by omega)).symm
  unfold tk
  have h1 := Int.mul_ediv_add_emod O (18446744073709551616 ^ (i + k + 1))
  have h2 := Int.mul_ediv_add_emod y (18446744073709551616 ^ (k + 1))
  have e0 : i + (k + 1) = i + k + 1 := by omega
  rw [e0, Int.add_mul]
  have e1 : O / 18446744073709551616 ^ (i + k + 1) * (18446744073709551616 : Int) ^ (i + k + 1) = 18446744073709551616 ^ (i + k + 1) * (O / 18446744073709551616 ^ (i + k + 1)) := Int.mul_comm _ _
  have e2 : xi * (y / 18446744073709551616 ^ (k + 1)) * (18446744073709551616 : Int) ^ (i + k + 1) = xi * 18446744073709551616 ^ i * (18446744073709551616 ^ (k + 1) * (y / 18446744073709551616 ^ (k + 1))) := by
    rw [← e0, pow_ik i (k + 1)]
    generalize (18446744073709551616 : Int) ^ (k + 1) = K
    rw [Int.mul_assoc xi, Int.mul_assoc xi, Int.mul_left_comm (y / K) (18446744073709551616 ^ i) K, Int.mul_comm (y / K) K]
  have e3 : xi * 18446744073709551616 ^ i * y = xi * 18446744073709551616 ^ i * (18446744073709551616 ^ (k + 1) * (y / 18446744073709551616 ^ (k + 1))) + xi * 18446744073709551616 ^ i * (y % 18446744073709551616 ^ (k + 1)) := by rw [← Int.mul_add, h2]
  rw [e1, e2, e3]; omega
theorem cy_zero (O xi y : Int) (i : Nat) : cy O xi y i 0 = 0 := by
  unfold cy tk
  have hp := p256 i
  have a := Int.emod_nonneg O (Int.ne_of_gt hp)
  have a' := Int.emod_lt_of_pos O hp
  have e : y % (18446744073709551616 : Int) ^ 0 = 0 := by simp [Int.emod_one]
  rw [e]
  simp only [Nat.add_zero, Int.mul_zero, Int.add_zero]
  exact Int.ediv_eq_zero_of_lt a a'
theorem cy_range (O xi y : Int) (i k : Nat) (h0 : 0 ≤ xi) (h1 : xi < 18446744073709551616) : 0 ≤ cy O xi y i k ∧ cy O xi y i k ≤ 18446744073709551615 := by
  unfold cy tk
  have hp := p256 (i + k)
  have hi := p256 i
  have hk := p256 k
  have a := Int.emod_nonneg O (Int.ne_of_gt hp)
  have a' := Int.emod_lt_of_pos O hp
  have b := Int.emod_nonneg y (Int.ne_of_gt hk)
  have b' := Int.emod_lt_of_pos y hk
  have c : 0 ≤ xi * 18446744073709551616 ^ i * (y % 18446744073709551616 ^ k) := Int.mul_nonneg (Int.mul_nonneg h0 (Int.le_of_lt hi)) b
  have c' : xi * 18446744073709551616 ^ i * (y % 18446744073709551616 ^ k) ≤ 18446744073709551615 * 18446744073709551616 ^ (i + k) := by
    rw [pow_ik, ← Int.mul_assoc]
    exact Int.mul_le_mul (Int.mul_le_mul_of_nonneg_right (by omega) (Int.le_of_lt hi)) (by omega) b (Int.mul_nonneg (by decide) (Int.le_of_lt hi))
  refine ⟨Int.ediv_nonneg (by omega) (by omega), ?_⟩
  have : (O % 18446744073709551616 ^ (i + k) + xi * 18446744073709551616 ^ i * (y % 18446744073709551616 ^ k)) / 18446744073709551616 ^ (i + k) < 18446744073709551616 := Int.ediv_lt_of_lt_mul hp (by omega)
  omega
theorem dg_mul (x y : Int) (i k : Nat) : 0 ≤ dg x i * dg y k ∧ dg x i * dg y k ≤ 340282366920938463426481119284349108225 := by
  obtain ⟨a, a'⟩ := dg_range x i
  obtain ⟨b, b'⟩ := dg_range y k
  refine ⟨Int.mul_nonneg a b, ?_⟩
  have := Int.mul_le_mul (show dg x i ≤ 18446744073709551615 by omega) (show dg y k ≤ 18446744073709551615 by omega) b (by decide)
  omega
theorem mul_next (x y : Int) (i : Nat) : x % 18446744073709551616 ^ i * y + dg x i * 18446744073709551616 ^ i * y = x % 18446744073709551616 ^ (i + 1) * y := by rw [emod_succ, Int.add_mul]; omega
theorem mix_start (n i : Nat) (O xi y : Int) : mix n i (O + xi * 18446744073709551616 ^ i * y) O = dcells n O := by
  rw [← mix_zero n O O]
  refine fill_congr fun j _ => ?_
  by_cases h : j < i
  · have e : dg (O + xi * 18446744073709551616 ^ i * y) j = dg O j := dg_congr (i := i) (xi * y) (by rw [Int.mul_assoc, Int.mul_comm (18446744073709551616 ^ i) y, ← Int.mul_assoc]) h
    simp [h, e]
  · simp [h]
end Go.Proofs.YtpkcjgkgabemoaaDoor.lq.q

namespace Go.Proofs.YtpkcjgkgabemoaaDoor.lq
open Go.RowKit

/-- The high word, with its sign, of a number taken modulo 2^128. -/
def hi (v : Int) : Int := (v / 18446744073709551616 + 9223372036854775808) % 18446744073709551616 - 9223372036854775808
/-- The low word, without a sign. -/
def lo (v : Int) : Int := v % 18446744073709551616

theorem hi_range (v : Int) : -9223372036854775808 ≤ hi v ∧ hi v < 9223372036854775808 := by unfold hi; omega
theorem lo_range (v : Int) : 0 ≤ lo v ∧ lo v < 18446744073709551616 := by unfold lo; omega
/-- Every pair of words is some number's. -/
theorem hi_mk (h l : Int) (h1 : -9223372036854775808 ≤ h) (h2 : h ≤ 9223372036854775807) (l1 : 0 ≤ l) (l2 : l ≤ 18446744073709551615) : hi (h * 18446744073709551616 + l) = h := by unfold hi; omega
theorem lo_mk (h l : Int) (l1 : 0 ≤ l) (l2 : l ≤ 18446744073709551615) : lo (h * 18446744073709551616 + l) = l := by unfold lo; omega

/-- The borrow, under a name. -/
def bor (x y : Int) : Int := if x < y then 1 else 0
theorem bor_range (x y : Int) : 0 ≤ bor x y ∧ bor x y ≤ 1 := by unfold bor; split <;> decide

theorem hi_0 : (0 : Int) = hi 0 := by decide
theorem lo_0 : (0 : Int) = lo 0 := by decide
theorem add_lo (a b : Int) : (lo a + lo b) % 18446744073709551616 = lo (a + b) := by unfold lo; omega
theorem add_hi (a b : Int) : wrap64 ((IntKind.u64.wrap (hi a) + IntKind.u64.wrap (hi b) + (lo a + lo b) / 18446744073709551616) % 18446744073709551616) = hi (a + b) := by
  rw [IntKind.wrap_u64, IntKind.wrap_u64]; unfold hi lo wrap64; omega
theorem sub_lo (a b : Int) : (lo a - lo b) % 18446744073709551616 = lo (a - b) := by unfold lo; omega
theorem sub_hi (a b : Int) : wrap64 ((IntKind.u64.wrap (hi a) - IntKind.u64.wrap (hi b) - bor (lo a) (lo b)) % 18446744073709551616) = hi (a - b) := by
  rw [IntKind.wrap_u64, IntKind.wrap_u64]; unfold bor wrap64; split <;> (simp only [hi, lo] at *; omega)
theorem of_hi (n : Int) (h0 : -9223372036854775808 ≤ n) (h1 : n ≤ 9223372036854775807) : n / 9223372036854775808 = hi n := by unfold hi; omega
theorem of_lo (n : Int) : IntKind.u64.wrap n = lo n := by rw [IntKind.wrap_u64]; rfl

theorem mask32 (x : Int) (h0 : 0 ≤ x) (h1 : x < 18446744073709551616) : bits .and .u64 x 4294967295 = x % 4294967296 := by
  obtain ⟨n, rfl⟩ := Int.eq_ofNat_of_zero_le h0
  have h := bits_and_u64_nat n 4294967295 (by omega) (by omega)
  have e : n &&& 4294967295 = n % 4294967296 := Nat.and_two_pow_sub_one_eq_mod n 32
  rw [e] at h
  exact h.trans (by omega)
theorem half_mul (a b : Int) (a0 : 0 ≤ a) (a1 : a < 4294967296) (b0 : 0 ≤ b) (b1 : b < 4294967296) : 0 ≤ a * b ∧ a * b ≤ 18446744065119617025 := by
  refine ⟨Int.mul_nonneg a0 b0, ?_⟩
  have := Int.mul_le_mul (show a ≤ 4294967295 by omega) (show b ≤ 4294967295 by omega) b0 (by decide)
  omega
theorem school (a b c d : Int) : (a * 4294967296 + b) * (c * 4294967296 + d) = a * c * 18446744073709551616 + a * d * 4294967296 + b * c * 4294967296 + b * d := by
  have h1 : a * 4294967296 * (c * 4294967296) = a * c * (4294967296 * 4294967296) := by rw [Int.mul_assoc a, Int.mul_left_comm 4294967296 c, ← Int.mul_assoc]
  have h2 : a * 4294967296 * d = a * d * 4294967296 := by rw [Int.mul_assoc a, Int.mul_comm 4294967296 d, ← Int.mul_assoc]
  have h3 : b * (c * 4294967296) = b * c * 4294967296 := (Int.mul_assoc b c _).symm
  rw [Int.add_mul, Int.mul_add, Int.mul_add, h1, h2, h3]
  omega
theorem mul64_hi (x y : Int) (x0 : 0 ≤ x) (x1 : x < 18446744073709551616) (y0 : 0 ≤ y) (y1 : y < 18446744073709551616) :
    IntKind.u64.wrap (IntKind.u64.wrap (IntKind.u64.wrap (x / 4294967296 * (y / 4294967296)) + IntKind.u64.wrap (IntKind.u64.wrap (x / 4294967296 * bits .and .u64 y 4294967295) + IntKind.u64.wrap (bits .and .u64 x 4294967295 * bits .and .u64 y 4294967295) / 4294967296) / 4294967296) +
      IntKind.u64.wrap (bits .and .u64 (IntKind.u64.wrap (IntKind.u64.wrap (x / 4294967296 * bits .and .u64 y 4294967295) + IntKind.u64.wrap (bits .and .u64 x 4294967295 * bits .and .u64 y 4294967295) / 4294967296)) 4294967295 + IntKind.u64.wrap (bits .and .u64 x 4294967295 * (y / 4294967296))) / 4294967296) = x * y / 18446744073709551616 := by
  rw [mask32 x x0 x1, mask32 y y0 y1, mask32 (IntKind.u64.wrap _) (wrap_u64_nonneg _) (by rw [IntKind.wrap_u64]; omega)]
  have e := school (x / 4294967296) (x % 4294967296) (y / 4294967296) (y % 4294967296)
  have ex : x / 4294967296 * 4294967296 + x % 4294967296 = x := by omega
  have ey : y / 4294967296 * 4294967296 + y % 4294967296 = y := by omega
  rw [ex, ey] at e
  rw [e]
  have b1 := half_mul (x / 4294967296) (y / 4294967296) (by omega) (by omega) (by omega) (by omega)
  have b2 := half_mul (x / 4294967296) (y % 4294967296) (by omega) (by omega) (by omega) (by omega)
  have b3 := half_mul (x % 4294967296) (y / 4294967296) (by omega) (by omega) (by omega) (by omega)
  have b4 := half_mul (x % 4294967296) (y % 4294967296) (by omega) (by omega) (by omega) (by omega)
  clear e ex ey
  generalize x / 4294967296 * (y / 4294967296) = p1 at *
  generalize x / 4294967296 * (y % 4294967296) = p2 at *
  generalize x % 4294967296 * (y / 4294967296) = p3 at *
  generalize x % 4294967296 * (y % 4294967296) = p4 at *
  simp only [IntKind.wrap_u64]
  omega

/-- What is left of a product of two words that were taken without their signs. -/
theorem mul_lo (a b : Int) : IntKind.u64.wrap a * IntKind.u64.wrap b % 18446744073709551616 = lo (a * b) := by
  rw [IntKind.wrap_u64, IntKind.wrap_u64]; unfold lo; exact (Int.mul_emod a b _).symm
theorem ret_tup2 {k l : IntKind} {a b c d : Int} (h : a = c) (h' : b = d) : Ending.returned (.tuple #[.int k a, .int l b]) = .returned (.tuple #[.int k c, .int l d]) := by rw [h, h']
theorem ret_int {k : IntKind} {a b : Int} (h : a = b) : Ending.returned (.int k a) = .returned (.int k b) := by rw [h]

/-- Division by ten of a number of two words, as math/bits.Div64 does it: the divisor stands at the top of its word, and its lower half is empty. -/
theorem div_q (r l : Int) (r0 : 0 ≤ r) (r1 : r < 10) (l0 : 0 ≤ l) (l1 : l < 18446744073709551616) : 0 ≤ r * 1152921504606846976 + l / 16 ∧ r * 1152921504606846976 + l / 16 < 11529215046068469760 := by omega
theorem bd_i64 {x : Int} (h : (Lit.int .i64 x).wf = true) : -9223372036854775808 ≤ x ∧ x ≤ 9223372036854775807 := by
  simp [Lit.wf, IntKind.min, IntKind.max, IntKind.signed, IntKind.bits] at h
  exact ⟨by omega, by omega⟩
theorem bd_u64 {x : Int} (h : (Lit.int .u64 x).wf = true) : 0 ≤ x ∧ x ≤ 18446744073709551615 := by
  simp [Lit.wf, IntKind.min, IntKind.max, IntKind.signed, IntKind.bits] at h
  exact ⟨by omega, by omega⟩
/-- -1, 0, 1: how two numbers lie. -/
def cmpI (x y : Int) : Int := if x < y then -1 else if y < x then 1 else 0
end Go.Proofs.YtpkcjgkgabemoaaDoor.lq

namespace Go.Proofs.YtpkcjgkgabemoaaDoor.lq
open Go.RowKit
set_option linter.unusedVariables false

/-- The four words of a number, modulo 2^256. -/
def Wd (a a0 a1 a2 a3 : Int) : Prop := a0 = q.dg a 0 ∧ a1 = q.dg a 1 ∧ a2 = q.dg a 2 ∧ a3 = q.dg a 3
theorem wd_self (a : Int) : Wd a (q.dg a 0) (q.dg a 1) (q.dg a 2) (q.dg a 3) := ⟨rfl, rfl, rfl, rfl⟩
theorem qdg_0 (j : Nat) : q.dg 0 j = 0 := by simp [q.dg]
theorem wd_0 : Wd 0 0 0 0 0 := ⟨(qdg_0 _).symm, (qdg_0 _).symm, (qdg_0 _).symm, (qdg_0 _).symm⟩
theorem qcells (a : Int) : q.dcells 4 a = [.int .u64 (q.dg a 0), .int .u64 (q.dg a 1), .int .u64 (q.dg a 2), .int .u64 (q.dg a 3)] := by simp [q.dcells, List.range, List.range.loop]
theorem qcells_0 : q.dcells 4 0 = [.int .u64 0, .int .u64 0, .int .u64 0, .int .u64 0] := by rw [qcells]; simp [qdg_0]
/-- A row of four. -/
theorem row4 {w : World} {b : Nat} {v0 v1 v2 v3 : Value} (h : Row w b [v0, v1, v2, v3]) : w.cell? ⟨b, 0, none⟩ = some v0 ∧ w.cell? ⟨b, 1, none⟩ = some v1 ∧ w.cell? ⟨b, 2, none⟩ = some v2 ∧ w.cell? ⟨b, 3, none⟩ = some v3 ∧
    w.frozen? ⟨b, 0, none⟩ = false ∧ w.frozen? ⟨b, 1, none⟩ = false ∧ w.frozen? ⟨b, 2, none⟩ = false ∧ w.frozen? ⟨b, 3, none⟩ = false :=
  ⟨h.cell 0 _ rfl, h.cell 1 _ rfl, h.cell 2 _ rfl, h.cell 3 _ rfl, h.free 0 (by simp), h.free 1 (by simp), h.free 2 (by simp), h.free 3 (by simp)⟩
theorem _root_.Go.Proofs.YtpkcjgkgabemoaaDoor.Row.cells {w : World} {b : Nat} {xs ys : List Value} (h : Row w b xs) (e : xs = ys) : Row w b ys := e ▸ h
/-- The borrow out of the places below i when y is taken off x. -/
def bw (x y : Int) (i : Nat) : Int := -((x % 18446744073709551616 ^ i - y % 18446744073709551616 ^ i) / 18446744073709551616 ^ i)
theorem bw_zero (x y : Int) : bw x y 0 = 0 := by simp [bw, Int.emod_one]
theorem bw_sum (x y : Int) (i : Nat) : (x % 18446744073709551616 ^ (i + 1) - y % 18446744073709551616 ^ (i + 1)) / 18446744073709551616 ^ i = q.dg x i - q.dg y i - bw x y i := by
  rw [q.emod_succ, q.emod_succ]
  unfold bw
  have e : q.dg x i * 18446744073709551616 ^ i + x % 18446744073709551616 ^ i - (q.dg y i * 18446744073709551616 ^ i + y % 18446744073709551616 ^ i) = (x % 18446744073709551616 ^ i - y % 18446744073709551616 ^ i) + (q.dg x i - q.dg y i) * 18446744073709551616 ^ i := by rw [Int.sub_mul]; omega
  rw [e, Int.add_mul_ediv_right _ _ (Int.ne_of_gt (q.p256 i))]
  omega
theorem bw_range (x y : Int) (i : Nat) : 0 ≤ bw x y i ∧ bw x y i ≤ 1 := by
  unfold bw
  have hp := q.p256 i
  have a := Int.emod_nonneg x (Int.ne_of_gt hp)
  have a' := Int.emod_lt_of_pos x hp
  have b := Int.emod_nonneg y (Int.ne_of_gt hp)
  have b' := Int.emod_lt_of_pos y hp
  have h1 : (x % 18446744073709551616 ^ i - y % 18446744073709551616 ^ i) / 18446744073709551616 ^ i < 1 := Int.ediv_lt_of_lt_mul hp (by omega)
  have h2 : -1 ≤ (x % 18446744073709551616 ^ i - y % 18446744073709551616 ^ i) / 18446744073709551616 ^ i := Int.le_ediv_of_mul_le hp (by omega)
  omega
theorem bw_succ (x y : Int) (i : Nat) : bor (q.dg x i) (q.dg y i + bw x y i) = bw x y (i + 1) := by
  have e : bw x y (i + 1) = -((q.dg x i - q.dg y i - bw x y i) / 18446744073709551616) := by
    rw [← bw_sum]
    show -((x % 18446744073709551616 ^ (i + 1) - y % 18446744073709551616 ^ (i + 1)) / 18446744073709551616 ^ (i + 1)) = _
    have hp := q.p256 i
    rw [Int.pow_succ, Int.ediv_ediv, if_neg (by omega)]
    omega
  rw [e]
  have h := bw_range x y i
  have a := q.dg_range x i
  have b := q.dg_range y i
  unfold bor
  split <;> omega
theorem sub_digit (x y : Int) (i : Nat) : (q.dg x i - q.dg y i - bw x y i) % 18446744073709551616 = q.dg (x - y) i := by
  unfold q.dg bw
  have hp := q.p256 i
  have h1 := Int.mul_ediv_add_emod x (18446744073709551616 ^ i)
  have h2 := Int.mul_ediv_add_emod y (18446744073709551616 ^ i)
  have e : x - y = (x % 18446744073709551616 ^ i - y % 18446744073709551616 ^ i) + (x / 18446744073709551616 ^ i - y / 18446744073709551616 ^ i) * 18446744073709551616 ^ i := by
    have a1 : x / 18446744073709551616 ^ i * (18446744073709551616 : Int) ^ i = 18446744073709551616 ^ i * (x / 18446744073709551616 ^ i) := Int.mul_comm _ _
    have a2 : y / 18446744073709551616 ^ i * (18446744073709551616 : Int) ^ i = 18446744073709551616 ^ i * (y / 18446744073709551616 ^ i) := Int.mul_comm _ _
    rw [Int.sub_mul]; omega
  have e2 : (x - y) / 18446744073709551616 ^ i = (x % 18446744073709551616 ^ i - y % 18446744073709551616 ^ i) / 18446744073709551616 ^ i + (x / 18446744073709551616 ^ i - y / 18446744073709551616 ^ i) := by
    conv => lhs; rw [e]
    exact Int.add_mul_ediv_right _ _ (Int.ne_of_gt hp)
  rw [e2]
  omega
end Go.Proofs.YtpkcjgkgabemoaaDoor.lq

namespace Go.Proofs.YtpkcjgkgabemoaaDoor.lq
open Go.RowKit
set_option linter.unusedVariables false

theorem sub64 (x y b : Int) (hx : 0 ≤ x) (hy : 0 ≤ y) (hy' : y < 18446744073709551616) (hb0 : 0 ≤ b) (hb : b ≤ 1) (w : World) : (callFunc 94 #[.int .u64 x, .int .u64 y, .int .u64 b]).run Tryd.prog w =
    .ok (.value (.tuple #[.int .u64 ((x - y - b) % 18446744073709551616), .int .u64 (bor x (y + b))])) w := by
  obtain ⟨x, rfl⟩ := Int.eq_ofNat_of_zero_le hx
  obtain ⟨y, rfl⟩ := Int.eq_ofNat_of_zero_le hy
  obtain ⟨b, rfl⟩ := Int.eq_ofNat_of_zero_le hb0
  have e1 : (((x + 18446744073709551616 - y - b) % 18446744073709551616 : Nat) : Int) = ((x : Int) - y - b) % 18446744073709551616 := by omega
  have e2 : ((if x < y + b then 1 else 0 : Nat) : Int) = bor x (y + b) := by unfold bor; split <;> split <;> omega
  rw [← e1, ← e2, run_callFunc_extern Tryd.func94 (by kernel_rfl) (by kernel_rfl) (by kernel_rfl) (e := sub64Entry) (by kernel_rfl), run_sub64 x y b (by omega)]
  rfl

theorem keep_other {w : World} {b c i k : Nat} {u v : Value} (h : w.cell? ⟨b, k, none⟩ = some u) (hne : c ≠ b) : ((w.setCell ⟨c, i, none⟩ v).drew).cell? ⟨b, k, none⟩ = some u :=
  (World.cell?_setCell_other _ _ _ _ (by intro q; simp only [Addr.mk.injEq] at q; omega)).trans h

/-- What holds at the head of each round of the sum's loop: both arguments, the answer's place, the sum so far. -/
structure AddRel (w : World) (x y z : Int) (k : Nat) (wr : World) : Prop where
  ra : Row wr w.heap.size (q.dcells 4 x)
  rb : Row wr (w.heap.size + 1) (q.dcells 4 y)
  rz : Row wr (w.heap.size + 1 + 1) (q.dcells 4 0)
  rs : Row wr (w.heap.size + 1 + 1 + 1) (q.mix 4 k z 0)
  bel : Below w.heap.size w wr
  size : w.heap.size + 1 + 1 + 1 < wr.heap.size
theorem addRel_start (w : World) (x y z : Int) (t : TypeId) : AddRel w x y z 0 ((((w.alloc (.cells #[.int .u64 (q.dg x 0), .int .u64 (q.dg x 1), .int .u64 (q.dg x 2), .int .u64 (q.dg x 3)] t)).alloc (.cells #[.int .u64 (q.dg y 0), .int .u64 (q.dg y 1), .int .u64 (q.dg y 2), .int .u64 (q.dg y 3)] t)).alloc
    (.cells #[.int .u64 0, .int .u64 0, .int .u64 0, .int .u64 0] t)).alloc (.cells #[.int .u64 0, .int .u64 0, .int .u64 0, .int .u64 0] t)) := by
  have h0 := (((Row.new w (q.dcells 4 x) t).alloc (.cells (q.dcells 4 y).toArray t) (by simp <;> omega)).alloc (.cells (q.dcells 4 0).toArray t) (by simp <;> omega)).alloc (.cells (q.dcells 4 0).toArray t) (by simp <;> omega)
  have h1 := ((Row.new (w.alloc (.cells (q.dcells 4 x).toArray t)) (q.dcells 4 y) t).alloc (.cells (q.dcells 4 0).toArray t) (by simp <;> omega)).alloc (.cells (q.dcells 4 0).toArray t) (by simp <;> omega)
  have h2 := (Row.new ((w.alloc (.cells (q.dcells 4 x).toArray t)).alloc (.cells (q.dcells 4 y).toArray t)) (q.dcells 4 0) t).alloc (.cells (q.dcells 4 0).toArray t) (by simp <;> omega)
  have h3 := Row.new (((w.alloc (.cells (q.dcells 4 x).toArray t)).alloc (.cells (q.dcells 4 y).toArray t)).alloc (.cells (q.dcells 4 0).toArray t)) (q.dcells 4 0) t
  simp only [World.size_alloc] at h1 h2 h3
  rw [qcells_0, qcells x, qcells y] at h0 h1 h2 h3
  refine ⟨by rw [qcells]; exact h0, by rw [qcells]; exact h1, by rw [qcells_0]; exact h2, by rw [q.mix_zero, qcells_0]; exact h3, ?_, by simp⟩
  exact ((((Below.refl _ _).alloc (Nat.le_refl _) _).alloc (by simp <;> omega) _).alloc (by simp <;> omega) _).alloc (by simp <;> omega) _
theorem addRel_next {w wr : World} {x y z d : Int} {k : Nat} (h : AddRel w x y z k wr) (hk : k < 4) (e : d = q.dg z k) :
    AddRel w x y z (k + 1) ((wr.setCell ⟨w.heap.size + 1 + 1 + 1, k, none⟩ (.int .u64 d)).drew) := by
  refine ⟨(h.ra.other _ (by omega)).drew, (h.rb.other _ (by omega)).drew, (h.rz.other _ (by omega)).drew, ?_, (h.bel.setCell (by show _ ≤ w.heap.size + 1 + 1 + 1; omega) _).drew, by simpa using h.size⟩
  rw [e, ← q.mix_set]
  exact (h.rs.set k _ (by rw [q.mix_length]; exact hk)).drew

set_option maxHeartbeats 1000000 in
theorem qsub_any {a0 a1 a2 a3 b0 b1 b2 b3 : Int} (a b : Int) (ha : Wd a a0 a1 a2 a3) (hb : Wd b b0 b1 b2 b3) (w : World) :
    Calls Tryd.prog 81 #[.agg #[.int .u64 a0, .int .u64 a1, .int .u64 a2, .int .u64 a3], .agg #[.int .u64 b0, .int .u64 b1, .int .u64 b2, .int .u64 b3]] w fun e w' =>
      e = .returned (.agg #[.int .u64 (q.dg (a - b) 0), .int .u64 (q.dg (a - b) 1), .int .u64 (q.dg (a - b) 2), .int .u64 (q.dg (a - b) 3)]) ∧ Below w.heap.size w w' := by
  obtain ⟨rfl, rfl, rfl, rfl⟩ := ha
  obtain ⟨rfl, rfl, rfl, rfl⟩ := hb
  go_enter Tryd.func81, Tryd.ntmps81
  go_wp2
  go_loopw [6, 8] (fun c i wr => ∃ k : Nat, k ≤ 4 ∧ i = .int .i64 (k : Int) ∧ c = .int .u64 (bw a b k) ∧ AddRel w a b (a - b) k wr) (fun _ i _ => 4 - (intOf i).toNat)
  case atStart => exact ⟨0, by omega, rfl, by rw [bw_zero], addRel_start w a b _ _⟩
  case round =>
    obtain ⟨k, hk, rfl, rfl, hr⟩ := hrel
    by_cases hlt : k < 4
    · have c1 : wr.cell? ⟨w.heap.size, k, none⟩ = some (.int .u64 (q.dg a k)) := hr.ra.cell k _ (q.dcells_at _ _ _ hlt)
      have c2 : wr.cell? ⟨w.heap.size + 1, k, none⟩ = some (.int .u64 (q.dg b k)) := hr.rb.cell k _ (q.dcells_at _ _ _ hlt)
      have c3 : wr.cell? ⟨w.heap.size + 1 + 1 + 1, k, none⟩ = some (.int .u64 (q.dg 0 k)) := hr.rs.cell k _ (q.mix_at _ _ _ _ _ hlt (Nat.le_refl _))
      have c4 : wr.frozen? ⟨w.heap.size + 1 + 1 + 1, k, none⟩ = false := hr.rs.free k (by rw [q.mix_length]; exact hlt)
      have hl : (k : Int) < 4 := by omega
      obtain ⟨d0, d1⟩ := q.dg_range a k
      obtain ⟨e0, e1⟩ := q.dg_range b k
      obtain ⟨f0, f1⟩ := bw_range a b k
      have hn := fun d e => addRel_next (d := d) hr hlt e
      go_wp2
      go_region_held3 (fun w' => w'.cell? ⟨w.heap.size, k, none⟩ = some (.int .u64 (q.dg a k)) ∧ w'.cell? ⟨w.heap.size + 1, k, none⟩ = some (.int .u64 (q.dg b k))) (first | exact ⟨c1, c2⟩ | exact ⟨keep_other c1 (by omega), keep_other c2 (by omega)⟩)
        (simp only [sub64 _ _ _ d0 e0 e1 f0 f1])
      go_wp2
      go_roundw
      case rel => exact ⟨k + 1, by omega, by simp, by rw [bw_succ], hn _ (sub_digit _ _ _)⟩
      case measure => simp [intOf]; omega
    · obtain rfl : k = 4 := by omega
      obtain ⟨ra, rb, rz, rs, bel, size⟩ := hr
      rw [q.mix_full, qcells] at rs
      rw [qcells_0] at rz
      obtain ⟨c0, c1, c2, c3, _, _, _, _⟩ := row4 rs
      obtain ⟨z0, z1, z2, z3, y0, y1, y2, y3⟩ := row4 rz
      clear ra rb rs rz
      go_wp2
      refine bodyPost_ret (v := .agg #[.int .u64 (q.dg (a - b) 0), .int .u64 (q.dg (a - b) 1), .int .u64 (q.dg (a - b) 2), .int .u64 (q.dg (a - b) 3)]) (by simp [results, Tryd.results81, go_sem, *]) rfl ⟨rfl, ?_⟩
      exact (((bel.setCell (by show _ ≤ w.heap.size + 1 + 1; omega) _).setCell (by show _ ≤ w.heap.size + 1 + 1; omega) _).setCell (by show _ ≤ w.heap.size + 1 + 1; omega) _).setCell (by show _ ≤ w.heap.size + 1 + 1; omega) _

theorem qneg_any {a0 a1 a2 a3 : Int} (a : Int) (ha : Wd a a0 a1 a2 a3) (w : World) :
    Calls Tryd.prog 58 #[.agg #[.int .u64 a0, .int .u64 a1, .int .u64 a2, .int .u64 a3]] w fun e w' =>
      e = .returned (.agg #[.int .u64 (q.dg (-a) 0), .int .u64 (q.dg (-a) 1), .int .u64 (q.dg (-a) 2), .int .u64 (q.dg (-a) 3)]) ∧ Below w.heap.size w w' := by
  obtain ⟨rfl, rfl, rfl, rfl⟩ := ha
  have E : (0 : Int) - a = -a := by omega
  go_enter Tryd.func58, Tryd.ntmps58
  go_wp2_with (go_at_call 81; refine (qsub_any 0 a wd_0 (wd_self a) _).mono ?_; rw [E]; rintro e w' ⟨rfl, hb⟩; obtain ⟨hc, hf⟩ := bcell hb)
  refine bodyPost_ret (v := .agg #[.int .u64 (q.dg (-a) 0), .int .u64 (q.dg (-a) 1), .int .u64 (q.dg (-a) 2), .int .u64 (q.dg (-a) 3)]) (by simp [results, Tryd.results58, go_sem, hc]) rfl ⟨rfl, ?_⟩
  exact (((((((Below.refl _ _).alloc (Nat.le_refl _) _).alloc (by simp) _).trans (hb.mono (by simp <;> omega))).setCell (by simp <;> omega) _).setCell (by simp <;> omega) _).setCell (by simp <;> omega) _).setCell (by simp <;> omega) _
end Go.Proofs.YtpkcjgkgabemoaaDoor.lq

namespace Go.Proofs.YtpkcjgkgabemoaaDoor.lq
open Go.RowKit
set_option linter.unusedVariables false

theorem pw1 : (18446744073709551616 : Int) ^ 1 = 18446744073709551616 := rfl
theorem pw2 : (18446744073709551616 : Int) ^ 2 = 340282366920938463463374607431768211456 := rfl
theorem pw3 : (18446744073709551616 : Int) ^ 3 = 6277101735386680763835789423207666416102355444464034512896 := rfl
theorem qdg0 (a : Int) : q.dg a 0 = a % 18446744073709551616 := by simp [q.dg]
theorem qdg1 (a : Int) : q.dg a 1 = a / 18446744073709551616 % 18446744073709551616 := by unfold q.dg; rw [pw1]
theorem qdg2 (a : Int) : q.dg a 2 = a / 340282366920938463463374607431768211456 % 18446744073709551616 := by unfold q.dg; rw [pw2]
theorem qdg3 (a : Int) : q.dg a 3 = a / 6277101735386680763835789423207666416102355444464034512896 % 18446744073709551616 := by unfold q.dg; rw [pw3]
theorem lo_q (a : Int) : lo a = q.dg a 0 := by rw [qdg0]; rfl
theorem hi_q (a : Int) : IntKind.u64.wrap (hi a) = q.dg a 1 := by rw [qdg1, IntKind.wrap_u64]; unfold hi; omega
theorem sign_q2 (a : Int) (h0 : -170141183460469231731687303715884105728 ≤ a) (h1 : a < 170141183460469231731687303715884105728) : IntKind.u64.wrap (hi a / 9223372036854775808) = q.dg a 2 := by rw [qdg2, IntKind.wrap_u64]; unfold hi; omega
theorem sign_q3 (a : Int) (h0 : -170141183460469231731687303715884105728 ≤ a) (h1 : a < 170141183460469231731687303715884105728) : IntKind.u64.wrap (hi a / 9223372036854775808) = q.dg a 3 := by
  have e : hi a = a / 18446744073709551616 := by unfold hi; omega
  rw [qdg3, IntKind.wrap_u64, e]
  rcases Int.lt_or_le a 0 with h | h
  · have e1 : a / 6277101735386680763835789423207666416102355444464034512896 = -1 := by omega
    have e2 : a / 18446744073709551616 / 9223372036854775808 = -1 := by omega
    rw [e1, e2]
  · have e1 : a / 6277101735386680763835789423207666416102355444464034512896 = 0 := by omega
    have e2 : a / 18446744073709551616 / 9223372036854775808 = 0 := by omega
    rw [e1, e2]
theorem ret_quad {a0 a1 a2 a3 b0 b1 b2 b3 : Int} (h0 : a0 = b0) (h1 : a1 = b1) (h2 : a2 = b2) (h3 : a3 = b3) : Value.agg #[.int .u64 a0, .int .u64 a1, .int .u64 a2, .int .u64 a3] = .agg #[.int .u64 b0, .int .u64 b1, .int .u64 b2, .int .u64 b3] := by rw [h0, h1, h2, h3]

theorem up_q0 (a : Int) : (0 : Int) = q.dg (a * 340282366920938463463374607431768211456) 0 := by rw [qdg0]; omega
theorem up_q1 (a : Int) : (0 : Int) = q.dg (a * 340282366920938463463374607431768211456) 1 := by rw [qdg1]; omega
theorem up_q2 (a : Int) : lo a = q.dg (a * 340282366920938463463374607431768211456) 2 := by rw [qdg2]; unfold lo; omega
theorem up_q3 (a : Int) : IntKind.u64.wrap (hi a) = q.dg (a * 340282366920938463463374607431768211456) 3 := by rw [qdg3, IntKind.wrap_u64]; unfold hi; omega
theorem prod_range (x y : Int) (x0 : 0 ≤ x) (x1 : x < 18446744073709551616) (y0 : 0 ≤ y) (y1 : y < 18446744073709551616) : 0 ≤ x * y ∧ x * y ≤ 340282366920938463426481119284349108225 := by
  refine ⟨Int.mul_nonneg x0 y0, ?_⟩
  have := Int.mul_le_mul (show x ≤ 18446744073709551615 by omega) (show y ≤ 18446744073709551615 by omega) y0 (by decide)
  omega
theorem mulAdd_hi (p m c : Int) (p0 : 0 ≤ p) (p1 : p ≤ 340282366920938463426481119284349108225) (m0 : 0 ≤ m) (m1 : m < 18446744073709551616) (c0 : 0 ≤ c) (c1 : c < 18446744073709551616) :
    (p / 18446744073709551616 + (p % 18446744073709551616 + m) / 18446744073709551616 + ((p + m) % 18446744073709551616 + c) / 18446744073709551616) = (p + m + c) / 18446744073709551616 := by omega
theorem qdg_high {v : Int} {n j : Nat} (h0 : 0 ≤ v) (h1 : v < 18446744073709551616 ^ n) (hj : n ≤ j) : q.dg v j = 0 := by
  unfold q.dg
  have : v < (18446744073709551616 : Int) ^ j := by
    obtain ⟨d, rfl⟩ : ∃ d, j = n + d := ⟨j - n, by omega⟩
    rw [Int.pow_add]
    have hp := q.p256 n
    have hd := q.p256 d
    have := Int.mul_le_mul_of_nonneg_left (show (1 : Int) ≤ 18446744073709551616 ^ d by omega) (Int.le_of_lt hp)
    omega
  rw [Int.ediv_eq_zero_of_lt h0 this]
  rfl
theorem low_mul {X Y : Int} (i : Nat) (y0 : 0 ≤ Y) (y1 : Y < 340282366920938463463374607431768211456) : 0 ≤ X % 18446744073709551616 ^ i * Y ∧ X % 18446744073709551616 ^ i * Y < 18446744073709551616 ^ (i + 2) := by
  have hp := q.p256 i
  have a := Int.emod_nonneg X (Int.ne_of_gt hp)
  have a' := Int.emod_lt_of_pos X hp
  refine ⟨Int.mul_nonneg a y0, ?_⟩
  rw [Int.pow_add, pw2]
  have h1 := Int.mul_le_mul (show X % 18446744073709551616 ^ i ≤ 18446744073709551616 ^ i by omega) (Int.le_of_lt y1) y0 (Int.le_of_lt hp)
  rcases Int.lt_or_eq_of_le h1 with h | h
  · exact h
  · exfalso
    have h2 := Int.mul_lt_mul_of_pos_left y1 hp
    have h3 := Int.mul_le_mul_of_nonneg_right (show X % 18446744073709551616 ^ i ≤ 18446744073709551616 ^ i by omega) y0
    omega
/-- The last carry of a round is the digit over the round's digits. -/
theorem cy_last {X Y : Int} (i : Nat) (y0 : 0 ≤ Y) (y1 : Y < 340282366920938463463374607431768211456) :
    q.cy (X % 18446744073709551616 ^ i * Y) (q.dg X i) Y i 2 = q.dg (X % 18446744073709551616 ^ i * Y + q.dg X i * 18446744073709551616 ^ i * Y) (i + 2) := by
  obtain ⟨o0, o1⟩ := low_mul (X := X) i y0 y1
  obtain ⟨d0, d1⟩ := q.dg_range X i
  obtain ⟨r0, r1⟩ := q.cy_range (X % 18446744073709551616 ^ i * Y) (q.dg X i) Y i 2 d0 d1
  unfold q.cy q.tk at r0 r1 ⊢
  rw [Int.emod_eq_of_lt o0 o1, Int.emod_eq_of_lt (b := 18446744073709551616 ^ 2) y0 (by rw [pw2]; exact y1)] at r0 r1 ⊢
  generalize hV : X % 18446744073709551616 ^ i * Y + q.dg X i * 18446744073709551616 ^ i * Y = V at *
  show V / 18446744073709551616 ^ (i + 2) = V / 18446744073709551616 ^ (i + 2) % 18446744073709551616
  omega
theorem mix_done {X Y : Int} (i : Nat) (hi : i < 2) (y0 : 0 ≤ Y) (y1 : Y < 340282366920938463463374607431768211456) :
    (q.mix 4 (i + 2) (X % 18446744073709551616 ^ i * Y + q.dg X i * 18446744073709551616 ^ i * Y) (X % 18446744073709551616 ^ i * Y)).set (i + 2) (.int .u64 (q.cy (X % 18446744073709551616 ^ i * Y) (q.dg X i) Y i 2)) = q.dcells 4 (X % 18446744073709551616 ^ (i + 1) * Y) := by
  rw [cy_last i y0 y1, q.mix_set, q.mul_next, ← q.mix_full 4 _ 0]
  obtain ⟨o0, o1⟩ := low_mul (X := X) i y0 y1
  obtain ⟨s0, s1⟩ := low_mul (X := X) (i + 1) y0 y1
  refine q.fill_congr fun j hj => ?_
  by_cases h : j < i + 2 + 1
  · simp [h, hj]
  · simp [h, hj]
    rw [qdg_high o0 o1 (by omega), qdg_high s0 s1 (by omega)]

/-- What holds at the head of each round of both loops of the product: both factors' words in blocks of their own, and a row at the product's. -/
structure MulRel (w : World) (X Y : Int) (bx by' : Nat) (cs : List Value) (wr : World) : Prop where
  rx : Row wr bx (q.dcells 2 X)
  ry : Row wr by' (q.dcells 2 Y)
  rz : Row wr (w.heap.size + 1 + 1) (q.dcells 4 0)
  rp : Row wr (w.heap.size + 1 + 1 + 1 + 1 + 1) cs
  bel : Below w.heap.size w wr
  size : w.heap.size + 1 + 1 + 1 + 1 + 1 < wr.heap.size
theorem MulRel.set {w wr : World} {X Y : Int} {bx by' : Nat} {cs : List Value} (h : MulRel w X Y bx by' cs wr) (hx : bx ≠ w.heap.size + 1 + 1 + 1 + 1 + 1) (hy : by' ≠ w.heap.size + 1 + 1 + 1 + 1 + 1) (i : Nat) (hi : i < cs.length) (v : Value) :
    MulRel w X Y bx by' (cs.set i v) (wr.setCell ⟨w.heap.size + 1 + 1 + 1 + 1 + 1, i, none⟩ v) :=
  ⟨h.rx.other _ (Ne.symm hx), h.ry.other _ (Ne.symm hy), h.rz.other _ (by omega), h.rp.set i v hi, h.bel.setCell (by show _ ≤ w.heap.size + 1 + 1 + 1 + 1 + 1; omega) _, by simpa using h.size⟩
theorem MulRel.drewN {w wr : World} {X Y : Int} {bx by' : Nat} {cs : List Value} (h : MulRel w X Y bx by' cs wr) (n : Nat) : MulRel w X Y bx by' cs (wr.drewN n) :=
  ⟨h.rx.drewN n, h.ry.drewN n, h.rz.drewN n, h.rp.drewN n, below_drewN h.bel n, h.size⟩

end Go.Proofs.YtpkcjgkgabemoaaDoor.lq

namespace Go.Proofs.YtpkcjgkgabemoaaDoor.lq
open Go.RowKit
set_option linter.unusedVariables false

theorem quad_eq (a0 a1 a2 a3 b0 b1 b2 b3 : Int) (w : World) : (Op.equalIn 10000 52 (.agg #[.int .u64 a0, .int .u64 a1, .int .u64 a2, .int .u64 a3]) (.agg #[.int .u64 b0, .int .u64 b1, .int .u64 b2, .int .u64 b3])).run Tryd.prog w = .ok (a0 == b0 && (a1 == b1 && (a2 == b2 && a3 == b3))) w := by
  obtain ⟨i, hi⟩ := Option.isSome_iff_exists.1 (show (Tryd.prog.info? 50).isSome = true by kernel_rfl)
  have hc : Tryd.prog.cellsOf 50 = 1 := by kernel_rfl
  rw [run_equalIn_array w 9999 _ _ Tryd.underlying52 hi, hc]
  simp [Op.eqItems, List.range, List.range.loop, go_sem, Tryd.underlying50]
  by_cases e0 : a0 = b0 <;> by_cases e1 : a1 = b1 <;> by_cases e2 : a2 = b2 <;> by_cases e3 : a3 = b3 <;> simp [e0, e1, e2, e3]
end Go.Proofs.YtpkcjgkgabemoaaDoor.lq

namespace Go.Proofs.YtpkcjgkgabemoaaDoor.lq
open Go.RowKit
set_option linter.unusedVariables false

theorem top_neg (a : Int) (h0 : -57896044618658097711785492504343953926634992332820282019728792003956564819968 ≤ a) (h1 : a < 57896044618658097711785492504343953926634992332820282019728792003956564819968) : wrap64 (q.dg a 3) < 0 ↔ a < 0 := by
  rw [qdg3]; unfold wrap64; omega
theorem isBelow_any {a0 a1 a2 a3 : Int} (a : Int) (ha : Wd a a0 a1 a2 a3) (h0 : -57896044618658097711785492504343953926634992332820282019728792003956564819968 ≤ a) (h1 : a < 57896044618658097711785492504343953926634992332820282019728792003956564819968) (w : World) :
    Calls Tryd.prog 80 #[.agg #[.int .u64 a0, .int .u64 a1, .int .u64 a2, .int .u64 a3]] w fun e w' => e = .returned (.bool (decide (a < 0))) ∧ Below w.heap.size w w' := by
  obtain ⟨rfl, rfl, rfl, rfl⟩ := ha
  have e : decide (wrap64 (q.dg a 3) < 0) = decide (a < 0) := by rw [decide_eq_decide]; exact top_neg a h0 h1
  clear h0 h1
  go_enter Tryd.func80, Tryd.ntmps80
  go_wp2
  go_ret
  exact ⟨rfl, (Below.refl _ _).alloc (Nat.le_refl _) _⟩

theorem split4 (a : Int) : a = q.dg a 0 + q.dg a 1 * 18446744073709551616 + q.dg a 2 * 340282366920938463463374607431768211456 + q.dg a 3 * 6277101735386680763835789423207666416102355444464034512896 + a / 115792089237316195423570985008687907853269984665640564039457584007913129639936 * 115792089237316195423570985008687907853269984665640564039457584007913129639936 := by
  rw [qdg0, qdg1, qdg2, qdg3]; omega
/-- Two numbers in the range with the same words are the same. -/
theorem quad_inj {a b : Int} (h0 : -57896044618658097711785492504343953926634992332820282019728792003956564819968 ≤ a) (h1 : a < 57896044618658097711785492504343953926634992332820282019728792003956564819968) (g0 : -57896044618658097711785492504343953926634992332820282019728792003956564819968 ≤ b) (g1 : b < 57896044618658097711785492504343953926634992332820282019728792003956564819968)
    (e0 : q.dg a 0 = q.dg b 0) (e1 : q.dg a 1 = q.dg b 1) (e2 : q.dg a 2 = q.dg b 2) (e3 : q.dg a 3 = q.dg b 3) : a = b := by
  have ha := split4 a
  have hb := split4 b
  rw [e0, e1, e2, e3] at ha
  omega
theorem ret_int' {a b : Int} (h : a = b) : Ending.returned (.int .i64 a) = .returned (.int .i64 b) := by rw [h]
theorem qsign_any {a0 a1 a2 a3 : Int} (a : Int) (ha : Wd a a0 a1 a2 a3) (h0 : -57896044618658097711785492504343953926634992332820282019728792003956564819968 ≤ a) (h1 : a < 57896044618658097711785492504343953926634992332820282019728792003956564819968) (w : World) :
    Calls Tryd.prog 57 #[.agg #[.int .u64 a0, .int .u64 a1, .int .u64 a2, .int .u64 a3]] w fun e w' => e = .returned (.int .i64 (cmpI a 0)) ∧ Below w.heap.size w w' := by
  obtain ⟨rfl, rfl, rfl, rfl⟩ := ha
  have HB : Hid _ := fun w => isBelow_any a (wd_self a) h0 h1 w
  have Q4 := quad_eq
  rcases Int.lt_trichotomy a 0 with h | h | h
  · have C : Hid (cmpI a 0 = -1) := by unfold Hid cmpI; rw [if_pos h]
    have D : decide (a < 0) = true := by simpa using h
    clear h0 h1
    go_enter Tryd.func57, Tryd.ntmps57
    go_wp2_with (go_at_call 80; refine (HB.out _).mono ?_; rw [D]; rintro e w' ⟨rfl, hb⟩)
    go_ret
    exact ⟨ret_int' C.out.symm, ((Below.refl _ _).alloc (Nat.le_refl _) _).trans (hb.mono (by simp))⟩
  · subst h
    have C : Hid (cmpI 0 0 = 0) := by unfold Hid; decide
    have D : decide ((0 : Int) < 0) = false := by decide
    have Z0 := qdg_0
    clear h0 h1
    go_enter Tryd.func57, Tryd.ntmps57
    go_wp2_with (go_at_call 80; refine (HB.out _).mono ?_; rw [D]; rintro e w' ⟨rfl, hb⟩; obtain ⟨hc, hf⟩ := bcell hb)
    go_ret
    exact ⟨ret_int' C.out.symm, ((Below.refl _ _).alloc (Nat.le_refl _) _).trans (hb.mono (by simp))⟩
  · have C : Hid (cmpI a 0 = 1) := by unfold Hid cmpI; rw [if_neg (by omega), if_pos h]
    have D : decide (a < 0) = false := by simp; omega
    have N : (q.dg a 0 == 0 && (q.dg a 1 == 0 && (q.dg a 2 == 0 && q.dg a 3 == 0))) = false := by
      rw [Bool.eq_false_iff]
      intro h'
      simp at h'
      have := split4 a
      omega
    have Q5 := fun w => (Q4 (q.dg a 0) (q.dg a 1) (q.dg a 2) (q.dg a 3) 0 0 0 0 w).trans (by rw [N])
    clear h0 h1 N Q4
    go_enter Tryd.func57, Tryd.ntmps57
    go_wp2_with (go_at_call 80; refine (HB.out _).mono ?_; rw [D]; rintro e w' ⟨rfl, hb⟩; obtain ⟨hc, hf⟩ := bcell hb)
    go_ret
    exact ⟨ret_int' C.out.symm, ((Below.refl _ _).alloc (Nat.le_refl _) _).trans (hb.mono (by simp))⟩

theorem cmpI64_any (x y : Int) (w : World) :
    Calls Tryd.prog 54 #[.int .i64 x, .int .i64 y] w fun e w' => e = .returned (.int .i64 (cmpI x y)) ∧ w' = w := by
  unfold cmpI
  go_enter Tryd.func54, Tryd.ntmps54
  go_wp2
  all_goals (go_ret; exact ⟨rfl, rfl⟩)
end Go.Proofs.YtpkcjgkgabemoaaDoor.lq
