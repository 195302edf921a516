/-
  Joined texts, part 2:
  What zelligeref03's Trim and Of answer.
  What zelligeref03's Nat and Same answer.
  What zelligeref03's Same answers of a number and its digits.
  What nat's DivMod answers, where the divisor is nought, longer, or one word.
  Numbers as digits to the base 2: which digits a sum, a difference, a product has. It imports nothing of the program.
  How many digits a number needs, to the base 2, and its digits without noughts at the end. It imports nothing of the program.
  How many bits a number needs: math/bits.Len32 off the shelf, nat's Bits, and zelligeref03's Half and Bits.
  What nat's shiftUp and shiftDown answer, and math/bits.LeadingZeros32.
  What nat's guess answers: right, or one too high.
  What nat's shiftDown and takeOff answer.
  What nat's divideLong answers, and DivMod where the divisor has two words at least.
  What nat's DivMod answers.
  slices.Backward over a nat: what a loop over it is handed.
  What nat's Cmp answers.
  What nat's Cmp answers where both numbers have the same length.
  What nat's Sub answers.
  Decimal digits of numbers of any length, and bytes of texts as numbers. It imports nothing of the program.
  Numbers as digits to the base 1000000000: which digits a sum, a difference, a product has. It imports nothing of the program.
  How many digits a number needs, to the base 1000000000, and its digits without noughts at the end. It imports nothing of the program.
  What nat's piecesOf answers.
  strings.TrimLeft at the cutset "0".
  What nat's Show answers.
  What nat answers, with letters for the lengths: the contracts of the other texts, said once more for those who call nat.
  Slices apart from a block, so that what is stored there leaves them as they are; and what nat answers, apart from all that was there before.
  Whole numbers in memory; what package whole's signed and plus answer.
  What package whole's Add, Sub, Neg, Norm and Mul answer.
  What package whole's Of, Sign and Show answer.
-/
import Derived.Test.YtlelbhiebmdnoaaP1
import Derived.Deep.AppendLies
import Derived.WalkKit
import Derived.Shelf.Abstract
import Derived.Lib.ItoaNum
import Derived.BigQuiet
import Derived.RangeFuncNested
import Derived.RangeFuncBound
import Derived.RangeFuncCalls
import Derived.RangeFuncLeaves
import Derived.RangeFuncBox
import Derived.Shelf.RegionOpen
import Derived.OwnWalkIn
import Derived.TacticsInMore
import Derived.LoopNIn
import Derived.LoopIn
import Derived.Laws.BytesArg
import Derived.Lib.IndexBytes
import Derived.Deep.RegionHeld3
namespace Go.Proofs.Ytlelbhiebmdnoaa
open Go.RowKit
set_option linter.unusedVariables false

set_option maxRecDepth 100000 in
set_option maxHeartbeats 400000 in
theorem rtrim_own (a : Option Addr) (l cap u base : Nat) (w : World) (hown : Own w base 3 a l cap (hf.dcells l (u : Int))) (hu : u < 65536 ^ l) :
    Calls Try.prog 47 #[.slice a l cap] w fun e w' => e = .returned (.slice a (hf.nlen u) cap) ∧ w = w' ∧ Own w base 3 a (hf.nlen u) cap (hf.dcells (hf.nlen u) (u : Int)) := by
  have hs := Own.sl hown
  have hcap := hs.big
  have hroom := hs.room
  unfold maxLen at hcap
  have HO : Hid (Own w base 3 a (hf.nlen u) cap (hf.dcells (hf.nlen u) (u : Int))) := by
    have := Own.take hown (hf.nlen_le hu)
    rwa [hf.dcells_take _ _ _ (hf.nlen_le hu)] at this
  have hsh : (a = none ∧ cap = 0) ∨ ∃ g, a = some ⟨g, 0, none⟩ := by
    obtain ⟨_, ⟨h1, _⟩ | ⟨g, cap', cur, hv, _⟩⟩ := hown
    · cases h1; exact Or.inl ⟨rfl, rfl⟩
    · cases hv; exact Or.inr ⟨g, rfl⟩
  rcases hsh with ⟨rfl, rfl⟩ | ⟨g, rfl⟩
  · obtain rfl : l = 0 := by omega
    have hz : Hid (hf.nlen u = 0) := hf.nlen_eq_zero.2 (by simpa using hu)
    clear hown hs
    go_enter Try.func47, Try.ntmps47
    go_wp2
    go_loop [3] (fun i => i = .int .i64 0) (fun i => (intOf i).toNat)
    case atStart => rfl
    case round =>
      obtain rfl := hrel
      go_wp2
      go_ret
      exact ⟨by rw [hz.out]; rfl, rfl, HO.out⟩
  · go_enter Try.func47, Try.ntmps47
    go_wp2
    go_loop [3] (fun i => ∃ k : Nat, k ≤ l ∧ u < 65536 ^ k ∧ i = .int .i64 (k : Int)) (fun i => (intOf i).toNat)
    case atStart => exact ⟨l, Nat.le_refl _, hu, rfl⟩
    case round =>
      obtain ⟨k, hk, huk, rfl⟩ := hrel
      rcases k with _ | k
      · have hz : Hid (hf.nlen u = 0) := hf.nlen_eq_zero.2 (by simpa using huk)
        clear hu huk
        go_wp2
        go_ret
        exact ⟨by rw [hz.out]; rfl, rfl, HO.out⟩
      · have c1 : w.cell? ⟨g, k, none⟩ = some (.int .i64 (hf.dg u k)) := Own.cell hown k _ (hf.dcells_at _ _ _ (by omega))
        have e1 : ((k + 1 : Nat) : Int) - 1 = (k : Int) := by omega
        by_cases hd : hf.dg (u : Int) k = 0
        · have hd' : (hf.dg (u : Int) k == 0) = true := by rw [hd]; rfl
          have Hn : Hid (u < 65536 ^ k) := hf.lt_of_dg_zero huk hd
          clear hd huk hu hown
          go_wp2
          go_round
          case rel => exact ⟨k, by omega, Hn.out, by go_num⟩
          case measure => simp [intOf]
        · have hd' : (hf.dg (u : Int) k == 0) = false := by simpa using hd
          have Hl : Hid (hf.nlen u = k + 1) := by
            refine hf.nlen_eq ⟨huk, Or.inr ?_⟩
            rcases Nat.lt_or_ge u (65536 ^ k) with h | h
            · exact absurd (hf.dg_over h) hd
            · simpa using h
          clear hd huk hu hown
          go_wp2
          go_ret
          exact ⟨by rw [Hl.out]; rfl, rfl, HO.out⟩

/-- Two digits for each word. -/
theorem halves (u : Int) (k : Nat) : hf.dg u (2 * k) = wd.dg u k % 65536 ∧ hf.dg u (2 * k + 1) = wd.dg u k / 65536 := by
  unfold hf.dg wd.dg
  have e : (65536 : Int) ^ (2 * k) = 4294967296 ^ k := by rw [Int.pow_mul]; rfl
  have e2 : (65536 : Int) ^ (2 * k + 1) = 4294967296 ^ k * 65536 := by rw [Int.pow_succ, e]
  have hp := wd.p256 k
  rw [e, e2]
  have : u / (4294967296 ^ k * 65536) = u / 4294967296 ^ k / 65536 := by rw [Int.ediv_ediv, if_neg (by omega)]; omega
  rw [this]
  omega
theorem pow_halves (k : Nat) : 65536 ^ (2 * k) = 4294967296 ^ k := by rw [Nat.pow_mul]
theorem hf_two (t : Nat) (u : Int) : hf.dcells (2 * (t + 1)) u = hf.dcells (2 * t) u ++ [.int .i64 (wd.dg u t % 65536), .int .i64 (wd.dg u t / 65536)] := by
  rw [show 2 * (t + 1) = 2 * t + 1 + 1 by omega, hf.dcells_succ, hf.dcells_succ, (halves u t).1, (halves u t).2, List.append_assoc]
  rfl
/-- What holds at the head of each round. -/
def OfRel (w : World) (u l : Nat) (v i : Value) (wr : World) : Prop := ∃ (k cap : Nat) (a : Option Addr), k ≤ l ∧ i = .int .i64 (k : Int) ∧ v = .slice a (2 * k) cap ∧ Own wr w.heap.size 3 a (2 * k) cap (hf.dcells (2 * k) (u : Int)) ∧ Below w.heap.size w wr
theorem ofRel_next {w wr w2 w4 : World} {u l k cap cap' g' : Nat} {a : Option Addr} (hk : k < l) (hown : Own wr w.heap.size 3 a (2 * k) cap (hf.dcells (2 * k) (u : Int))) (hbel : Below w.heap.size w wr)
    (h4 : w4.ownsRow w.heap.size 3 1 (.slice (some ⟨g', 0, none⟩) (2 * k + 2) cap') (2 * k + 2) (hf.dcells (2 * k) (u : Int) ++ [.int .i64 (wd.dg u k % 65536), .int .i64 (wd.dg u k / 65536)]))
    (h2 : Below wr.heap.size wr w2) (hgr : w2.grownBy w4 (Value.slice a (2 * k) cap).ownBlock) : OfRel w u l (.slice (some ⟨g', 0, none⟩) (2 * k + 2) cap') (.int .i64 ((k : Int) + 1)) w4 := by
  have hs := hbel.size
  refine ⟨k + 1, cap', _, hk, by simp, rfl, ?_, (hbel.trans (h2.mono hs)).grown hgr (by have := h2.size; omega) (fun k' hk' => (World.ownsRow.lt hown k' hk').1)⟩
  rw [hf_two]
  exact h4
theorem own_empty (w : World) (base : Nat) (T : TypeId) (hb : base ≤ w.heap.size) : Own (w.alloc (.cells #[] T)) base T (some ⟨w.heap.size, 0, none⟩) 0 0 [] := World.ownsRow_lit w #[] 0 hb (by decide) rfl
set_option maxRecDepth 100000 in
set_option maxHeartbeats 1000000 in
theorem rof_any (a : Option Addr) (l ca u : Nat) (w : World) (ha : Sl w a l ca (wd.dcells l (u : Int))) (hu : u < 4294967296 ^ l) (hl : l ≤ 1000000000) :
    Calls Try.prog 54 #[.slice a l ca] w fun e w' => ∃ a' cap', e = .returned (.slice a' (hf.nlen u) cap') ∧ Own w' w.heap.size 3 a' (hf.nlen u) cap' (hf.dcells (hf.nlen u) (u : Int)) ∧ Below w.heap.size w w' := by
  obtain ⟨i0, hi0, hz0, hz1, hz2⟩ := info_parts infoInt
  have HU : Hid (u < 65536 ^ (2 * l)) := by unfold Hid; rw [pow_halves]; exact hu
  have hown0 := own_empty w w.heap.size 3 (Nat.le_refl _)
  clear hu
  go_enter Try.func54, Try.ntmps54
  go_wp2
  go_loopw [3, 4] (fun v i wr => OfRel w u l v i wr) (fun _ i _ => l - (intOf i).toNat)
  case atStart => exact ⟨0, 0, _, by omega, rfl, rfl, hown0, (Below.refl _ _).alloc (Nat.le_refl _) _⟩
  case round =>
    clear hown0
    obtain ⟨k, cap, v, hk, rfl, rfl, hown, hbel⟩ := hrel
    by_cases hlt : k < l
    · obtain ⟨ba, oa, rfl, hba, hseg⟩ := ha.at (by omega)
      have hroom := ha.room
      have c0 : w.cell? ⟨ba, oa + k, none⟩ = some (.int .u32 (wd.dg u k)) := hseg.cell k _ (wd.dcells_at _ _ _ hlt)
      have c1 : wr.cell? ⟨ba, oa + k, none⟩ = some (.int .u32 (wd.dg u k)) := (hbel.cell (p := ⟨ba, oa + k, none⟩) hba).trans (hseg.cell k _ (wd.dcells_at _ _ _ hlt))
      have hsz := hbel.size
      have hba2 : ba < wr.heap.size := by omega
      obtain ⟨d0, d1⟩ := wd.dg_range u k
      have E1 : IntKind.i64.wrap ((wd.dg (u : Int) k).tmod 65536) = wd.dg u k % 65536 := by rw [Int.tmod_eq_emod_of_nonneg d0, IntKind.wrap_i64]; omega
      have E2 : IntKind.i64.wrap (IntKind.u32.wrap ((wd.dg (u : Int) k).tdiv 65536)) = wd.dg u k / 65536 := by rw [Int.tdiv_eq_ediv_of_nonneg d0, IntKind.wrap_u32', IntKind.wrap_i64]; omega
      have HN : Hid _ := fun w2 w4 g' cap' => ofRel_next (w2 := w2) (w4 := w4) (g' := g') (cap' := cap') hlt hown hbel
      go_wp2
      refine wp_region_held_drew (S := (fun w' => w'.cell? ⟨ba, oa + k, none⟩ = some (.int .u32 (wd.dg u k)) ∧ Below w.heap.size w w')) (by kernel_rfl) ?_ (fun hHeld => ?_)
      · first | exact ⟨c1, hbel⟩ | exact ⟨c1, hbel.drew⟩ | exact ⟨((hHeld.2.alloc hHeld.2.size _).cell (p := ⟨ba, oa + k, none⟩) hba).trans c0, hHeld.2.alloc hHeld.2.size _⟩ | exact ⟨((hbel.alloc hbel.size _).drew.cell (p := ⟨ba, oa + k, none⟩) hba).trans c0, (hbel.alloc hbel.size _).drew⟩
      refine take_yes (i := 0) (v := ?vo0) rfl (by kernel_rfl) (by kernel_rfl) (by kernel_rfl) (fun _ _ _ h => h) (by rfl) (by assumption) ?hyo0 ?resto0
      case hyo0 => (intro w hSw; (try dsimp only at hSw); first | (go_simp; done) | (go_simp; with_reducible rfl))
      simp only [Act.put, List.setIfInBounds_toArray, List.set_cons_zero, List.set_cons_succ]
      refine take_yes (i := 1) (v := ?vo1) rfl (by kernel_rfl) (by kernel_rfl) (by kernel_rfl) (fun _ _ _ h => h) (by rfl) (by assumption) ?hyo1 ?resto1
      case hyo1 => (intro w hSw; (try dsimp only at hSw); first | (go_simp; done) | (go_simp; with_reducible rfl))
      simp only [Act.put, List.setIfInBounds_toArray, List.set_cons_zero, List.set_cons_succ]
      refine take_yes (i := 2) (v := ?vo2) rfl (by kernel_rfl) (by kernel_rfl) (by kernel_rfl) (fun _ _ _ h => h) (by rfl) (by assumption) ?hyo2 ?resto2
      case hyo2 => (intro w hSw; (try dsimp only at hSw); first | (go_simp; done) | (go_simp; with_reducible rfl))
      simp only [Act.put, List.setIfInBounds_toArray, List.set_cons_zero, List.set_cons_succ]
      refine take_yes (i := 3) (v := ?vo3) rfl (by kernel_rfl) (by kernel_rfl) (by kernel_rfl) (fun _ _ _ h => h) (by rfl) (by assumption) ?hyo3 ?resto3
      case hyo3 => (intro w hSw; (try dsimp only at hSw); first | (go_simp; done) | (go_simp; with_reducible rfl))
      simp only [Act.put, List.setIfInBounds_toArray, List.set_cons_zero, List.set_cons_succ]
      refine take_yes (i := 4) (v := ?vo4) rfl (by kernel_rfl) (by kernel_rfl) (by kernel_rfl) (fun _ _ _ h => h) (by rfl) (by assumption) ?hyo4 ?resto4
      case hyo4 => (intro w hSw; (try dsimp only at hSw); first | (go_simp; done) | (go_simp; with_reducible rfl))
      simp only [Act.put, List.setIfInBounds_toArray, List.set_cons_zero, List.set_cons_succ]
      refine take_yes (i := 5) (v := ?vo5) rfl (by kernel_rfl) (by kernel_rfl) (by kernel_rfl) (fun _ _ _ h => h) (by rfl) (by assumption) ?hyo5 ?resto5
      case hyo5 => (intro w hSw; (try dsimp only at hSw); first | (go_simp; done) | (go_simp; with_reducible rfl))
      simp only [Act.put, List.setIfInBounds_toArray, List.set_cons_zero, List.set_cons_succ]
      refine take_yes (i := 6) (v := ?vo6) rfl (by kernel_rfl) (by kernel_rfl) (by kernel_rfl) (fun _ _ _ h => h) (by rfl) (by assumption) ?hyo6 ?resto6
      case hyo6 => (intro w hSw; (try dsimp only at hSw); first | (go_simp; done) | (go_simp; with_reducible rfl))
      simp only [Act.put, List.setIfInBounds_toArray, List.set_cons_zero, List.set_cons_succ]
      refine take_yes (i := 7) (v := ?vo7) rfl (by kernel_rfl) (by kernel_rfl) (by kernel_rfl) (fun _ _ _ h => h) (by rfl) (by assumption) ?hyo7 ?resto7
      case hyo7 => (intro w hSw; (try dsimp only at hSw); first | (go_simp; done) | (go_simp; with_reducible rfl))
      simp only [Act.put, List.setIfInBounds_toArray, List.set_cons_zero, List.set_cons_succ]
      refine take_yes (i := 8) (v := ?vo8) rfl (by kernel_rfl) (by kernel_rfl) (by kernel_rfl) (fun _ _ _ h => h) (by rfl) (by assumption) ?hyo8 ?resto8
      case hyo8 => (intro w hSw; (try dsimp only at hSw); first | (go_simp; done) | (go_simp; with_reducible rfl))
      simp only [Act.put, List.setIfInBounds_toArray, List.set_cons_zero, List.set_cons_succ]
      refine take_yes (i := 9) (v := ?vo9) rfl (by kernel_rfl) (by kernel_rfl) (by kernel_rfl) (fun _ _ _ h => h) (by rfl) (by assumption) ?hyo9 ?resto9
      case hyo9 => (intro w hSw; (try dsimp only at hSw); first | (go_simp; done) | (go_simp; with_reducible rfl))
      simp only [Act.put, List.setIfInBounds_toArray, List.set_cons_zero, List.set_cons_succ]
      refine take_yes (i := 10) (v := ?vo10) rfl (by kernel_rfl) (by kernel_rfl) (by kernel_rfl) (fun _ _ _ h => h) (by rfl) (by assumption) ?hyo10 ?resto10
      case hyo10 => (intro w hSw; (try dsimp only at hSw); first | (go_simp; done) | (go_simp; with_reducible rfl))
      simp only [Act.put, List.setIfInBounds_toArray, List.set_cons_zero, List.set_cons_succ]
      refine take_yes (i := 11) (v := ?vo11) rfl (by kernel_rfl) (by kernel_rfl) (by kernel_rfl) (fun _ _ _ h => h) (by rfl) (by assumption) ?hyo11 ?resto11
      case hyo11 => (intro w hSw; (try dsimp only at hSw); first | (go_simp; done) | (go_simp; with_reducible rfl))
      simp only [Act.put, List.setIfInBounds_toArray, List.set_cons_zero, List.set_cons_succ]
      refine take_yes (i := 12) (v := ?vo12) rfl (by kernel_rfl) (by kernel_rfl) (by kernel_rfl) (fun _ _ _ h => h) (by rfl) (by assumption) ?hyo12 ?resto12
      case hyo12 => (intro w hSw; (try dsimp only at hSw); first | (go_simp; done) | (go_simp; with_reducible rfl))
      simp only [Act.put, List.setIfInBounds_toArray, List.set_cons_zero, List.set_cons_succ]
      refine take_call (i := 13) rfl (by kernel_rfl) (fun K hK => ?_)
      go_simp
      refine hK.out _ _ ?_ (fun hHeld => ?_)
      · first | exact ⟨c1, hbel⟩ | exact ⟨c1, hbel.drew⟩ | exact ⟨((hHeld.2.alloc hHeld.2.size _).cell (p := ⟨ba, oa + k, none⟩) hba).trans c0, hHeld.2.alloc hHeld.2.size _⟩ | exact ⟨((hbel.alloc hbel.size _).drew.cell (p := ⟨ba, oa + k, none⟩) hba).trans c0, (hbel.alloc hbel.size _).drew⟩
      clear hK K
      refine take_call (i := 14) rfl (by kernel_rfl) (fun K hK => ?_)
      refine step_append_lies _ rfl (.tmp 12) (.tmp 25) 24 rfl w.heap.size 3 i0 (.int .i64 0) 1 8 Try.underlying24 hi0 hz0 hz1 hz2 rfl (by decide) (.slice v (2 * k) cap) (2 * k) (hf.dcells (2 * k) (u : Int)) rfl (World.ownsRow.alloc hown _) ⟨wr.heap.size, 0, none⟩ 2 2 [.int .i64 (wd.dg u k % 65536), .int .i64 (wd.dg u k / 65536)] rfl rfl (World.news_of_block (heap_alloc_new wr _)) (ints_oneCell .i64 [wd.dg u k % 65536, wd.dg u k / 65536]) (by decide) (by unfold maxLen; omega) (by omega) (by simp; omega) _ rfl ?_; intro g' cap' w4 hown4 hgrow4 hat4 hlt4
      refine hK.out _ _ ?_ (fun hHeld => ?_)
      · exact ⟨(((hHeld.2.grown hgrow4 (by simp; omega) (fun k' hk' => (World.ownsRow.lt hown k' hk').1))).cell (p := ⟨ba, oa + k, none⟩) hba).trans c0, hHeld.2.grown hgrow4 (by simp; omega) (fun k' hk' => (World.ownsRow.lt hown k' hk').1)⟩
      clear hK K
      refine take_yes (i := 15) (v := ?vo15) rfl (by kernel_rfl) (by kernel_rfl) (by kernel_rfl) (fun _ _ _ h => h) (by rfl) (by assumption) ?hyo15 ?resto15
      case hyo15 => (intro w hSw; (try dsimp only at hSw); first | (go_simp; done) | (go_simp; with_reducible rfl))
      simp only [Act.put, List.setIfInBounds_toArray, List.set_cons_zero, List.set_cons_succ]
      refine wpAnyH_done (by kernel_rfl) ?_ _
      go_wp2
      go_roundw
      case rel => exact HN.out _ w4 g' cap' hown4 ((Below.refl _ _).alloc (Nat.le_refl _) _).drew hgrow4
      case measure => simp [intOf]; omega
    · obtain rfl : k = l := by omega
      go_wp2_with (go_at_call 47; refine (rtrim_own _ _ _ u _ _ hown HU.out).mono ?_; rintro e w' ⟨rfl, hw, hown2⟩; subst hw)
      go_ret
      exact ⟨v, cap, rfl, hown2, hbel⟩
end Go.Proofs.Ytlelbhiebmdnoaa

namespace Go.Proofs.Ytlelbhiebmdnoaa
open Go.RowKit
set_option linter.unusedVariables false

theorem wd_half (u : Nat) (k : Nat) : wd.dg (u : Int) k = hf.dg u (2 * k) + 65536 * hf.dg u (2 * k + 1) := by
  have h := halves u k
  omega
/-- How many words digits make. -/
theorem wd_of_hf (u : Nat) : wd.nlen u = (hf.nlen u + 1) / 2 := by
  refine wd.nlen_eq ⟨?_, ?_⟩
  · rw [← pow_halves]
    exact Nat.lt_of_lt_of_le (hf.nlen_lt u) (Nat.pow_le_pow_right (by decide) (by omega))
  · rcases (hf.nlen_is u).2 with h | h
    · exact Or.inl (by rw [h])
    · rcases Nat.eq_zero_or_pos (hf.nlen u) with h0 | h0
      · exact Or.inl (by rw [h0])
      · right
        rw [← pow_halves]
        exact Nat.le_trans (Nat.pow_le_pow_right (by decide) (by omega)) h
/-- What holds at the head of each round. -/
def NatRel (w : World) (u l : Nat) (v i : Value) (wr : World) : Prop := ∃ (k cap : Nat) (a : Option Addr), 2 * k ≤ l + 1 ∧ i = .int .i64 (2 * (k : Int)) ∧ v = .slice a k cap ∧ Own wr w.heap.size 74 a k cap (wd.dcells k (u : Int)) ∧ Below w.heap.size w wr
theorem natRel_next {w wr w2 w4 : World} {u l k cap cap' g' : Nat} {a : Option Addr} {x : Int} (hx : x = wd.dg u k) (hk : 2 * k < l) (hown : Own wr w.heap.size 74 a k cap (wd.dcells k (u : Int))) (hbel : Below w.heap.size w wr)
    (h4 : w4.ownsRow w.heap.size 74 1 (.slice (some ⟨g', 0, none⟩) (k + 1) cap') (k + 1) (wd.dcells k (u : Int) ++ [.int .u32 x]))
    (h2 : Below wr.heap.size wr w2) (hgr : w2.grownBy w4 (Value.slice a k cap).ownBlock) : NatRel w u l (.slice (some ⟨g', 0, none⟩) (k + 1) cap') (.int .i64 (2 * (k : Int) + 2)) w4 := by
  have hs := hbel.size
  refine ⟨k + 1, cap', _, by omega, by simp; omega, rfl, ?_, (hbel.trans (h2.mono hs)).grown hgr (by have := h2.size; omega) (fun k' hk' => (World.ownsRow.lt hown k' hk').1)⟩
  rw [wd.dcells_succ, ← hx]
  exact h4
end Go.Proofs.Ytlelbhiebmdnoaa

namespace Go.Proofs.Ytlelbhiebmdnoaa
open Go.RowKit
set_option linter.unusedVariables false

end Go.Proofs.Ytlelbhiebmdnoaa

namespace Go.Proofs.Ytlelbhiebmdnoaa
open Go.RowKit
set_option linter.unusedVariables false

/-- Two numbers, in memory of the call's own, and no error. -/
def Both (w : World) (q r : Nat) (e : Ending) (w' : World) : Prop := ∃ aq cq ar cr, e = .returned (.tuple #[.slice aq (wd.nlen q) cq, .slice ar (wd.nlen r) cr, .int .i64 0]) ∧
  Own w' w.heap.size 74 aq (wd.nlen q) cq (wd.dcells (wd.nlen q) (q : Int)) ∧ Own w' w.heap.size 74 ar (wd.nlen r) cr (wd.dcells (wd.nlen r) (r : Int)) ∧ Below w.heap.size w w'

end Go.Proofs.Ytlelbhiebmdnoaa

namespace Go.Proofs.Ytlelbhiebmdnoaa.bt
open Go.RowKit

/-- Digit i of v, to the base 2 (of a number below nought: of v modulo as many digits as you like). -/
def dg (v : Int) (i : Nat) : Int := v / 2 ^ i % 2
theorem dg_range (v : Int) (i : Nat) : 0 ≤ dg v i ∧ dg v i < 2 := by unfold dg; omega
theorem p256 (i : Nat) : (0 : Int) < 2 ^ i := Int.pow_pos (by decide)
/-- n digits: at the places that p names those of u, at the others those of v. -/
def fill (n : Nat) (p : Nat → Bool) (u v : Int) : List Value := (List.range n).map fun j => .int .i64 (if p j then dg u j else dg v j)
def dcells (n : Nat) (v : Int) : List Value := (List.range n).map fun j => .int .i64 (dg v j)
def mix (n i : Nat) (u v : Int) : List Value := fill n (fun j => decide (j < i)) u v
theorem fill_length (n : Nat) (p : Nat → Bool) (u v : Int) : (fill n p u v).length = n := by simp [fill]
theorem mix_length (n i : Nat) (u v : Int) : (mix n i u v).length = n := fill_length _ _ _ _
theorem dcells_length (n : Nat) (v : Int) : (dcells n v).length = n := by simp [dcells]
theorem dcells_at (n : Nat) (v : Int) (i : Nat) (h : i < n) : (dcells n v)[i]? = some (.int .i64 (dg v i)) := by simp [dcells, h]
theorem fill_at (n : Nat) (p : Nat → Bool) (u v : Int) (i : Nat) (h : i < n) : (fill n p u v)[i]? = some (.int .i64 (if p i then dg u i else dg v i)) := by simp [fill, h]
theorem mix_at (n k : Nat) (u v : Int) (i : Nat) (h : i < n) (hk : k ≤ i) : (mix n k u v)[i]? = some (.int .i64 (dg v i)) := by
  rw [mix, fill_at _ _ _ _ _ h]; simp; omega
theorem fill_congr {n : Nat} {p q : Nat → Bool} {u v u' v' : Int} (h : ∀ j, j < n → (if p j then dg u j else dg v j) = (if q j then dg u' j else dg v' j)) : fill n p u v = fill n q u' v' := by
  unfold fill
  refine List.map_congr_left fun j hj => ?_
  rw [h j (by simpa using hj)]
theorem fill_set (n : Nat) (p : Nat → Bool) (u v : Int) (i : Nat) : (fill n p u v).set i (.int .i64 (dg u i)) = fill n (fun j => p j || j == i) u v := by
  refine List.ext_getElem? fun j => ?_
  rw [List.getElem?_set]
  by_cases e : i = j
  · subst e
    by_cases h : i < n
    · rw [if_pos rfl, if_pos (by rw [fill_length]; exact h), fill_at _ _ _ _ _ h]; simp
    · rw [if_pos rfl, if_neg (by rw [fill_length]; exact h), List.getElem?_eq_none (by rw [fill_length]; omega)]
  · by_cases h : j < n
    · rw [if_neg e, fill_at _ _ _ _ _ h, fill_at _ _ _ _ _ h]
      have e' : (j == i) = false := by simp; omega
      simp [e']
    · rw [if_neg e, List.getElem?_eq_none (by simp [fill_length]; omega), List.getElem?_eq_none (by simp [fill_length]; omega)]
theorem mix_set (n i : Nat) (u v : Int) : (mix n i u v).set i (.int .i64 (dg u i)) = mix n (i + 1) u v := by
  unfold mix
  rw [fill_set]
  refine fill_congr fun j _ => ?_
  have : (decide (j < i) || j == i) = decide (j < i + 1) := by rw [Bool.eq_iff_iff]; simp; omega
  rw [this]
theorem mix_zero (n : Nat) (u v : Int) : mix n 0 u v = dcells n v := by unfold mix fill dcells; simp
theorem mix_full (n : Nat) (u v : Int) : mix n n u v = dcells n u := by
  unfold mix fill dcells
  refine List.map_congr_left fun j hj => ?_
  have : j < n := by simpa using hj
  simp [this]
/-- The digits of two numbers that are the same modulo 2^i are the same below place i. -/
theorem dg_congr {u v : Int} {i j : Nat} (t : Int) (h : u = v + t * 2 ^ i) (hj : j < i) : dg u j = dg v j := by
  unfold dg
  obtain ⟨d, rfl⟩ : ∃ d, i = j + 1 + d := ⟨i - (j + 1), by omega⟩
  have e : t * (2 : Int) ^ (j + 1 + d) = (2 * (t * 2 ^ d)) * 2 ^ j := by
    rw [show j + 1 + d = d + 1 + j by omega, Int.pow_add, Int.pow_succ, ← Int.mul_assoc, ← Int.mul_assoc, Int.mul_comm (t * 2 ^ d) 2]
  rw [h, e, Int.add_mul_ediv_right _ _ (Int.ne_of_gt (p256 j))]
  omega
theorem dcells_congr {n : Nat} {u v : Int} (t : Int) (h : u = v + t * 2 ^ n) : dcells n u = dcells n v := by
  unfold dcells
  refine List.map_congr_left fun j hj => ?_
  rw [dg_congr t h (by simpa using hj)]
/-- The carry into place i when x and y are added. -/
def carry (x y : Int) (i : Nat) : Int := (x % 2 ^ i + y % 2 ^ i) / 2 ^ i
theorem carry_zero (x y : Int) : carry x y 0 = 0 := by simp [carry]
theorem emod_succ (x : Int) (i : Nat) : x % 2 ^ (i + 1) = dg x i * 2 ^ i + x % 2 ^ i := by
  unfold dg
  have hp := p256 i
  have h1 := Int.mul_ediv_add_emod x (2 ^ i)
  have h2 := Int.mul_ediv_add_emod (x / 2 ^ i) 2
  have b := Int.emod_nonneg x (Int.ne_of_gt hp)
  have b' := Int.emod_lt_of_pos x hp
  have c := Int.emod_nonneg (x / 2 ^ i) (show (2 : Int) ≠ 0 by decide)
  have c' := Int.emod_lt_of_pos (x / 2 ^ i) (show (0 : Int) < 2 by decide)
  have e : x = (x / 2 ^ i % 2 * 2 ^ i + x % 2 ^ i) + (x / 2 ^ i / 2) * 2 ^ (i + 1) := by
    have : (x / 2 ^ i / 2) * (2 : Int) ^ (i + 1) = (2 * (x / 2 ^ i / 2)) * 2 ^ i := by rw [Int.pow_succ, Int.mul_comm ((2 : Int) ^ i) 2, ← Int.mul_assoc, Int.mul_comm _ 2]
    rw [this]
    have h3 : (2 * (x / 2 ^ i / 2)) * (2 : Int) ^ i + x / 2 ^ i % 2 * 2 ^ i = x / 2 ^ i * 2 ^ i := by rw [← Int.add_mul, h2]
    have h4 : x / 2 ^ i * (2 : Int) ^ i = 2 ^ i * (x / 2 ^ i) := Int.mul_comm _ _
    omega
  have l0 : 0 ≤ x / 2 ^ i % 2 * 2 ^ i + x % 2 ^ i := Int.add_nonneg (Int.mul_nonneg c (Int.le_of_lt hp)) b
  have l1 : x / 2 ^ i % 2 * 2 ^ i + x % 2 ^ i < 2 ^ (i + 1) := by
    have : x / 2 ^ i % 2 * (2 : Int) ^ i ≤ 1 * 2 ^ i := Int.mul_le_mul_of_nonneg_right (by omega) (Int.le_of_lt hp)
    rw [Int.pow_succ]
    omega
  have key : x % 2 ^ (i + 1) = (x / 2 ^ i % 2 * 2 ^ i + x % 2 ^ i) % 2 ^ (i + 1) := by
    have := congrArg (· % (2 : Int) ^ (i + 1)) e
    simpa [Int.add_mul_emod_self_right] using this
  rw [key, Int.emod_eq_of_lt l0 l1]
theorem carry_sum (x y : Int) (i : Nat) : (x % 2 ^ (i + 1) + y % 2 ^ (i + 1)) / 2 ^ i = carry x y i + dg x i + dg y i := by
  rw [emod_succ, emod_succ]
  unfold carry
  have e : dg x i * 2 ^ i + x % 2 ^ i + (dg y i * 2 ^ i + y % 2 ^ i) = (x % 2 ^ i + y % 2 ^ i) + (dg x i + dg y i) * 2 ^ i := by rw [Int.add_mul]; omega
  rw [e, Int.add_mul_ediv_right _ _ (Int.ne_of_gt (p256 i))]
  omega
theorem carry_succ (x y : Int) (i : Nat) : carry x y (i + 1) = (carry x y i + dg x i + dg y i) / 2 := by
  rw [← carry_sum]
  show (x % 2 ^ (i + 1) + y % 2 ^ (i + 1)) / 2 ^ (i + 1) = _
  have hp := p256 i
  rw [Int.pow_succ, Int.ediv_ediv, if_neg (by omega)]
  omega
theorem add_digit (x y : Int) (i : Nat) : (carry x y i + dg x i + dg y i) % 2 = dg (x + y) i := by
  unfold dg carry
  have hp := p256 i
  have h1 := Int.mul_ediv_add_emod x (2 ^ i)
  have h2 := Int.mul_ediv_add_emod y (2 ^ i)
  have e : x + y = (x % 2 ^ i + y % 2 ^ i) + (x / 2 ^ i + y / 2 ^ i) * 2 ^ i := by
    have a1 : x / 2 ^ i * (2 : Int) ^ i = 2 ^ i * (x / 2 ^ i) := Int.mul_comm _ _
    have a2 : y / 2 ^ i * (2 : Int) ^ i = 2 ^ i * (y / 2 ^ i) := Int.mul_comm _ _
    rw [Int.add_mul]; omega
  have e2 : (x + y) / 2 ^ i = (x % 2 ^ i + y % 2 ^ i) / 2 ^ i + (x / 2 ^ i + y / 2 ^ i) := by
    conv => lhs; rw [e]
    exact Int.add_mul_ediv_right _ _ (Int.ne_of_gt hp)
  rw [e2]
  omega
theorem carry_range (x y : Int) (i : Nat) : 0 ≤ carry x y i ∧ carry x y i ≤ 1 := by
  unfold carry
  have hp := p256 i
  have a := Int.emod_nonneg x (Int.ne_of_gt hp)
  have a' := Int.emod_lt_of_pos x hp
  have b := Int.emod_nonneg y (Int.ne_of_gt hp)
  have b' := Int.emod_lt_of_pos y hp
  refine ⟨Int.ediv_nonneg (by omega) (by omega), ?_⟩
  have : (x % 2 ^ i + y % 2 ^ i) / 2 ^ i < 2 := Int.ediv_lt_of_lt_mul hp (by omega)
  omega
theorem neg_digit (x : Int) (i : Nat) : 1 - dg x i = dg (-1 - x) i := by
  unfold dg
  have hp := p256 i
  have h1 := Int.mul_ediv_add_emod x (2 ^ i)
  have a := Int.emod_nonneg x (Int.ne_of_gt hp)
  have a' := Int.emod_lt_of_pos x hp
  have e : -1 - x = (2 ^ i - 1 - x % 2 ^ i) + (-1 - x / 2 ^ i) * 2 ^ i := by
    have a1 : x / 2 ^ i * (2 : Int) ^ i = 2 ^ i * (x / 2 ^ i) := Int.mul_comm _ _
    rw [Int.sub_mul]; omega
  have e2 : (-1 - x) / 2 ^ i = -1 - x / 2 ^ i := by
    conv => lhs; rw [e]
    rw [Int.add_mul_ediv_right _ _ (Int.ne_of_gt hp), Int.ediv_eq_zero_of_lt (by omega) (by omega)]
    omega
  rw [e2]
  omega
end Go.Proofs.Ytlelbhiebmdnoaa.bt

namespace Go.Proofs.Ytlelbhiebmdnoaa.bt
open Go.RowKit
set_option linter.unusedVariables false

/-- v needs n digits: none for nought. -/
def IsLen (v n : Nat) : Prop := v < 2 ^ n ∧ (n = 0 ∨ 2 ^ (n - 1) ≤ v)
theorem isLen_one {v n m : Nat} (h : IsLen v n) (h' : IsLen v m) : n = m := by
  obtain ⟨a, b⟩ := h
  obtain ⟨a', b'⟩ := h'
  rcases Nat.lt_trichotomy n m with e | e | e
  · rcases b' with b' | b'
    · omega
    · have := Nat.pow_le_pow_right (n := 2) (by decide) (show n ≤ m - 1 by omega)
      omega
  · exact e
  · rcases b with b | b
    · omega
    · have := Nat.pow_le_pow_right (n := 2) (by decide) (show m ≤ n - 1 by omega)
      omega
/-- A number below 2^n has a length of n at most, and is found by cutting noughts off the end. -/
theorem isLen_cut : ∀ (n v : Nat), v < 2 ^ n → ∃ m, m ≤ n ∧ IsLen v m
  | 0, v, h => ⟨0, Nat.le_refl _, h, Or.inl rfl⟩
  | n + 1, v, h => by
    by_cases c : v < 2 ^ n
    · obtain ⟨m, h1, h2⟩ := isLen_cut n v c
      exact ⟨m, by omega, h2⟩
    · exact ⟨n + 1, Nat.le_refl _, h, Or.inr (by simp; omega)⟩
theorem lt_pow_self (v : Nat) : v < 2 ^ v := Nat.lt_pow_self (by decide)
theorem isLen_ex (v : Nat) : ∃ m, IsLen v m := by
  obtain ⟨m, _, h⟩ := isLen_cut v v (lt_pow_self v)
  exact ⟨m, h⟩
/-- How many digits v needs. -/
def nlen (v : Nat) : Nat := if h : v = 0 then 0 else nlen (v / 2) + 1
  termination_by v
  decreasing_by exact Nat.div_lt_self (Nat.pos_of_ne_zero h) (by decide)
theorem nlen_is (v : Nat) : IsLen v (nlen v) := by
  induction v using Nat.strongRecOn with
  | ind v ih =>
    unfold nlen
    split
    · rename_i h
      rw [h]
      exact ⟨by decide, Or.inl rfl⟩
    · rename_i h
      obtain ⟨h1, h2⟩ := ih (v / 2) (Nat.div_lt_self (Nat.pos_of_ne_zero h) (by decide))
      refine ⟨?_, Or.inr ?_⟩
      · rw [Nat.pow_succ]
        exact (Nat.div_lt_iff_lt_mul (by decide)).1 h1
      · rw [Nat.add_sub_cancel]
        rcases h2 with h2 | h2
        · rw [h2]
          exact Nat.pos_of_ne_zero h
        · rcases Nat.eq_zero_or_pos (nlen (v / 2)) with h3 | h3
          · rw [h3]
            exact Nat.pos_of_ne_zero h
          · have h4 := (Nat.le_div_iff_mul_le (by decide)).1 h2
            rw [← Nat.pow_succ] at h4
            rwa [show (nlen (v / 2) - 1).succ = nlen (v / 2) by omega] at h4
theorem nlen_eq {v n : Nat} (h : IsLen v n) : nlen v = n := isLen_one (nlen_is v) h
theorem nlen_le {v n : Nat} (h : v < 2 ^ n) : nlen v ≤ n := by
  obtain ⟨m, h1, h2⟩ := isLen_cut n v h
  rw [nlen_eq h2]; exact h1
theorem nlen_zero : nlen 0 = 0 := nlen_eq ⟨by decide, Or.inl rfl⟩
theorem nlen_lt (v : Nat) : v < 2 ^ nlen v := (nlen_is v).1
theorem nlen_pos {v : Nat} (h : 0 < v) : 0 < nlen v := by
  rcases Nat.lt_or_ge 0 (nlen v) with l | l
  · exact l
  · have := nlen_lt v
    rw [show nlen v = 0 by omega] at this
    simp at this
    omega
/-- The longer number is the greater. -/
theorem lt_of_nlen {u v : Nat} (h : nlen u < nlen v) : u < v := by
  obtain ⟨_, b⟩ := nlen_is v
  rcases b with b | b
  · omega
  · have := nlen_lt u
    have := Nat.pow_le_pow_right (n := 2) (by decide) (show nlen u ≤ nlen v - 1 by omega)
    omega
theorem pow_cast (k : Nat) : ((2 ^ k : Nat) : Int) = (2 : Int) ^ k := by rw [Int.natCast_pow]; rfl
theorem dg_nat (v k : Nat) : dg (v : Int) k = ((v / 2 ^ k % 2 : Nat) : Int) := by
  unfold dg
  rw [← pow_cast]
  omega
/-- The digit at a place that a number does not reach is nought; the highest one that it has is not. -/
theorem dg_over {v k : Nat} (h : v < 2 ^ k) : dg (v : Int) k = 0 := by rw [dg_nat, Nat.div_eq_of_lt h]; rfl
theorem dg_top {v n : Nat} (h : IsLen v (n + 1)) : dg (v : Int) n ≠ 0 := by
  obtain ⟨a, b⟩ := h
  have b : 2 ^ n ≤ v := by
    rcases b with b | b
    · omega
    · exact b
  rw [dg_nat]
  have h1 : 1 ≤ v / 2 ^ n := (Nat.one_le_div_iff (Nat.pow_pos (by decide))).2 b
  have h2 : v / 2 ^ n < 2 := by
    rw [Nat.pow_succ] at a
    exact Nat.div_lt_of_lt_mul a
  rw [Nat.mod_eq_of_lt h2]
  omega
/-- One nought at the end cut off. -/
theorem lt_of_dg_zero {v n : Nat} (h : v < 2 ^ (n + 1)) (z : dg (v : Int) n = 0) : v < 2 ^ n := by
  rcases Nat.lt_or_ge v (2 ^ n) with l | l
  · exact l
  · exact absurd z (dg_top ⟨h, Or.inr (by simpa using l)⟩)
/-- Two numbers of n digits with the same digits are the same. -/
theorem eq_of_dcells : ∀ (n : Nat) (u v : Nat), u < 2 ^ n → v < 2 ^ n → (∀ j, j < n → dg (u : Int) j = dg (v : Int) j) → u = v := by
  intro n
  induction n with
  | zero => intro u v hu hv _; simp at hu hv; omega
  | succ n ih =>
    intro u v hu hv h
    have e := ih (u % 2 ^ n) (v % 2 ^ n) (Nat.mod_lt _ (Nat.pow_pos (by decide))) (Nat.mod_lt _ (Nat.pow_pos (by decide))) (fun j hj => by
      have a : ∀ x : Nat, dg ((x % 2 ^ n : Nat) : Int) j = dg (x : Int) j := fun x => by
        refine dg_congr (i := n) (-((x / 2 ^ n : Nat) : Int)) ?_ hj
        have := Nat.mod_add_div x (2 ^ n)
        rw [← pow_cast, Int.neg_mul, ← Int.natCast_mul, Nat.mul_comm (x / 2 ^ n)]
        omega
      rw [a, a]
      exact h j (by omega))
    have t := h n (by omega)
    rw [dg_nat, dg_nat] at t
    have du : u / 2 ^ n < 2 := by rw [Nat.pow_succ] at hu; exact Nat.div_lt_of_lt_mul hu
    have dv : v / 2 ^ n < 2 := by rw [Nat.pow_succ] at hv; exact Nat.div_lt_of_lt_mul hv
    rw [Nat.mod_eq_of_lt du, Nat.mod_eq_of_lt dv] at t
    have t' : u / 2 ^ n = v / 2 ^ n := by omega
    have h1 := Nat.mod_add_div u (2 ^ n)
    have h2 := Nat.mod_add_div v (2 ^ n)
    rw [e, t'] at h1
    omega
end Go.Proofs.Ytlelbhiebmdnoaa.bt

namespace Go.Proofs.Ytlelbhiebmdnoaa
open Go.RowKit Go.Shelf
set_option linter.unusedVariables false

theorem bitLen_bt (x : Nat) (h : x < 2 ^ 64) : Lib.bitLen x = bt.nlen x := by
  rcases Nat.eq_zero_or_pos x with rfl | h0
  · rw [bt.nlen_zero]; decide
  · obtain ⟨h1, h2, h3⟩ := Lib.bitLenAux_bounds 64 x h (by omega)
    exact (bt.nlen_eq ⟨h3, Or.inr h2⟩).symm
theorem pow32 (k : Nat) : 4294967296 ^ k = 2 ^ (32 * k) := by rw [Nat.pow_mul]
/-- The bits of a number: those of its highest word, and 32 for each below it. -/
theorem bits_top {u m t : Nat} (hm : wd.nlen u = m + 1) (ht : (t : Int) = wd.dg (u : Int) m) : bt.nlen u = m * 32 + bt.nlen t := by
  have hi := wd.nlen_is u
  rw [hm] at hi
  have htop := wd.dg_top hi
  rw [wd.dg_nat] at ht htop
  have hq : u / 4294967296 ^ m < 4294967296 := by
    have := hi.1
    rw [Nat.pow_succ] at this
    exact Nat.div_lt_of_lt_mul this
  have ht' : t = u / 4294967296 ^ m := by rw [Nat.mod_eq_of_lt hq] at ht; omega
  have ht0 : t ≠ 0 := by
    rw [Nat.mod_eq_of_lt hq] at htop
    omega
  have hb := bt.nlen_is t
  have hb1 := bt.nlen_pos (show 0 < t by omega)
  have hp := wd.pow_nat m
  have hd := Nat.div_add_mod u (4294967296 ^ m)
  have hl := Nat.mod_lt u hp
  rw [← ht'] at hd
  have e : 4294967296 ^ m = 2 ^ (m * 32) := by rw [pow32, Nat.mul_comm]
  refine bt.nlen_eq ⟨?_, Or.inr ?_⟩
  · rw [Nat.pow_add, ← e]
    have : 4294967296 ^ m * (t + 1) ≤ 4294967296 ^ m * 2 ^ bt.nlen t := Nat.mul_le_mul_left _ hb.1
    rw [Nat.mul_add] at this
    omega
  · have h2 : 2 ^ (bt.nlen t - 1) ≤ t := hb.2.resolve_left (by omega)
    rw [show m * 32 + bt.nlen t - 1 = m * 32 + (bt.nlen t - 1) by omega, Nat.pow_add, ← e]
    have := Nat.mul_le_mul_left (4294967296 ^ m) h2
    omega

/-- What holds at the head of each round of the halving's loop. -/
def HalfRel (w : World) (u l b : Nat) (c i : Value) (wr : World) : Prop := ∃ r : Nat, r ≤ l ∧ i = .int .i64 ((r : Int) - 1) ∧ c = .int .i64 ((u : Int) / 65536 ^ r % 2) ∧ Own wr w.heap.size 3 (some ⟨b, 0, none⟩) l l (hf.xim l r ((u : Int) / 2) 0) ∧ Below w.heap.size w wr
theorem half_next (w wr : World) (u l b q : Nat) (hq : q < l) (hown : Own wr w.heap.size 3 (some ⟨b, 0, none⟩) l l (hf.xim l (q + 1) ((u : Int) / 2) 0)) (hb : Below w.heap.size w wr) :
    HalfRel w u l b (.int .i64 (((u : Int) / 65536 ^ (q + 1) % 2 * 65536 + hf.dg u q) % 2)) (.int .i64 ((q : Int) - 1)) (wr.setCell ⟨b, q, none⟩ (.int .i64 (((u : Int) / 65536 ^ (q + 1) % 2 * 65536 + hf.dg u q) / 2))) := by
  refine ⟨q, by omega, rfl, by rw [(hf.long_div u 2 q (by decide)).2], ?_, hb.setCell (seg_of_own hown).2.2 _⟩
  rw [hf.quot_digit _ _ _ (by decide), ← hf.xim_set]
  exact Own.set hown _ hq
/-- What holds at the head of each round of the bits' count. -/
def BitRel (w : World) (u : Nat) (av nv : Value) (wr : World) : Prop := ∃ (t U cap : Nat) (a : Option Addr), t ≤ bt.nlen u ∧ (t = 0 ∨ 2 ^ (t - 1) ≤ u) ∧ Hid (U = u / 2 ^ t) ∧ nv = .int .i64 (t : Int) ∧ av = .slice a (hf.nlen U) cap ∧ hf.nlen U ≤ 1000000000 ∧ Sl wr a (hf.nlen U) cap (hf.dcells (hf.nlen U) (U : Int)) ∧ Below w.heap.size w wr
theorem hf_mono {u v : Nat} (h : u ≤ v) : hf.nlen u ≤ hf.nlen v := hf.nlen_le (Nat.lt_of_le_of_lt h (hf.nlen_lt v))
end Go.Proofs.Ytlelbhiebmdnoaa

namespace Go.Proofs.Ytlelbhiebmdnoaa
open Go.RowKit
set_option linter.unusedVariables false

theorem join_low (c d s : Nat) (hs : s < 32) (hc : c < 2 ^ s) (hd : d < 4294967296) : bits BinOp.or IntKind.u64 (c : Int) ((d : Int) * 2 ^ s) = (c : Int) + (d : Int) * 2 ^ s := by
  have h1 : 2 ^ s ≤ 2 ^ 31 := Nat.pow_le_pow_right (by decide) (by omega)
  have h2 : d * 2 ^ s ≤ 4294967295 * 2 ^ 31 := Nat.mul_le_mul (by omega) h1
  have e : (d : Int) * 2 ^ s = ((d * 2 ^ s : Nat) : Int) := by rw [Int.natCast_mul, Int.natCast_pow]; rfl
  rw [e, u64_or_nat _ _ (by omega) (by omega), Nat.or_comm, nat_join s (d * 2 ^ s) c (Nat.mul_mod_left _ _) hc]
  omega

/-- What holds at the head of each round of shiftUp. -/
def UpRel (w : World) (u x : Int) (l b : Nat) (c i : Value) (wr : World) : Prop := ∃ k : Nat, k ≤ l ∧ i = .int .i64 (k : Int) ∧ c = .int .u64 (sc x u k) ∧ Own wr w.heap.size 74 (some ⟨b, 0, none⟩) (l + 1) (l + 1) (wd.mix (l + 1) k (x * u) 0) ∧ Below w.heap.size w wr
theorem up_next (w wr : World) (u x : Int) (l k : Nat) (hk : k < l) (hown : Own wr w.heap.size 74 (some ⟨w.heap.size, 0, none⟩) (l + 1) (l + 1) (wd.mix (l + 1) k (x * u) 0)) (hb : Below w.heap.size w wr) {z : Int} (hz : z = sc x u k + x * wd.dg u k) :
    UpRel w u x l w.heap.size (.int .u64 (z / 4294967296)) (.int .i64 ((k : Int) + 1)) (wr.setCell ⟨w.heap.size, k, none⟩ (.int .u32 (z % 4294967296))) := by
  subst hz
  refine ⟨k + 1, by omega, by simp, by rw [sc_succ], ?_, hb.setCell (Nat.le_refl _) _⟩
  rw [sc_digit, ← wd.mix_set]
  exact Own.set hown _ (by omega)

end Go.Proofs.Ytlelbhiebmdnoaa

namespace Go.Proofs.Ytlelbhiebmdnoaa
open Go.RowKit
set_option linter.unusedVariables false

theorem guess_ok {N D P D2 R3 g : Nat} (hP : 0 < P) (h2 : D2 = D / P) (h3 : R3 = N / P) (hg : g < 4294967296) (hle : g * D2 ≤ R3) (hgt : 4294967296 ≤ g + 1 ∨ R3 < (g + 1) * D2) (hD2 : 4294967296 ≤ D2) (hN : N < D * 4294967296) : N / D ≤ g ∧ g ≤ N / D + 1 := by
  have hD : 0 < D := by
    rcases Nat.eq_zero_or_pos D with e | e
    · rw [e] at hN; omega
    · exact e
  have hq : N / D < 4294967296 := Nat.div_lt_of_lt_mul hN
  have hq1 : N / D * D2 ≤ R3 := by
    rw [h3, Nat.le_div_iff_mul_le hP, Nat.mul_assoc]
    refine Nat.le_trans (Nat.mul_le_mul_left _ ?_) (Nat.div_mul_le_self N D)
    rw [h2]
    exact Nat.div_mul_le_self D P
  constructor
  · refine Nat.le_of_not_lt fun h => ?_
    rcases hgt with h4 | h4
    · exact absurd (Nat.lt_of_le_of_lt h4 (Nat.lt_of_le_of_lt h hq)) (Nat.lt_irrefl _)
    · have : (g + 1) * D2 ≤ N / D * D2 := Nat.mul_le_mul_right _ h
      exact absurd (Nat.lt_of_lt_of_le h4 (Nat.le_trans this hq1)) (Nat.lt_irrefl _)
  · rcases Nat.eq_zero_or_pos g with e | e
    · rw [e]; exact Nat.zero_le _
    · obtain ⟨k, rfl⟩ : ∃ k, g = k + 1 := ⟨g - 1, by omega⟩
      refine Nat.succ_le_succ ((Nat.le_div_iff_mul_le hD).2 ?_)
      have hD3 : D < (D2 + 1) * P := by rw [h2]; have := Nat.lt_div_mul_add (a := D) hP; rw [Nat.succ_mul]; exact this
      have h5 : k * D ≤ k * ((D2 + 1) * P) := Nat.mul_le_mul_left _ (Nat.le_of_lt hD3)
      have h6 : k * ((D2 + 1) * P) ≤ (k + 1) * D2 * P := by
        rw [← Nat.mul_assoc]
        refine Nat.mul_le_mul_right _ ?_
        rw [Nat.mul_add, Nat.add_mul]
        omega
      have h7 : (k + 1) * D2 * P ≤ R3 * P := Nat.mul_le_mul_right _ hle
      have h8 : R3 * P ≤ N := by rw [h3]; exact Nat.div_mul_le_self N P
      omega
theorem two_words (D p : Nat) (h : D < 4294967296 ^ (p + 2)) (d1 d2 : Nat) (h1 : wd.dg (D : Int) (p + 1) = d1) (h2 : wd.dg (D : Int) p = d2) : d1 * 4294967296 + d2 = D / 4294967296 ^ p := by
  have e1 : ((D / 4294967296 ^ p : Nat) : Int) = (D : Int) / 4294967296 ^ p := by rw [Int.natCast_ediv, wd.pow_cast]
  have e2 : (D : Int) / 4294967296 ^ (p + 1) = ((D / 4294967296 ^ p : Nat) : Int) / 4294967296 := by
    rw [e1, Int.pow_succ, ← Int.ediv_ediv_of_nonneg (Int.le_of_lt (wd.p256 p))]
  have hl : D / 4294967296 ^ p < 18446744073709551616 := Nat.div_lt_of_lt_mul (by rw [Nat.pow_add] at h; simpa using h)
  unfold wd.dg at h1 h2
  rw [e2] at h1
  rw [← e1] at h2
  clear e1 e2 h
  generalize D / 4294967296 ^ p = X at *
  omega
theorem three_words (N p : Nat) (h : N < 4294967296 ^ (p + 3)) (r2 r1 r0 : Nat) (h2 : wd.dg (N : Int) (p + 2) = r2) (h1 : wd.dg (N : Int) (p + 1) = r1) (h0 : wd.dg (N : Int) p = r0) : (r2 * 4294967296 + r1) * 4294967296 + r0 = N / 4294967296 ^ p := by
  have e1 : ((N / 4294967296 ^ p : Nat) : Int) = (N : Int) / 4294967296 ^ p := by rw [Int.natCast_ediv, wd.pow_cast]
  have e2 : (N : Int) / 4294967296 ^ (p + 1) = ((N / 4294967296 ^ p : Nat) : Int) / 4294967296 := by
    rw [e1, Int.pow_succ, ← Int.ediv_ediv_of_nonneg (Int.le_of_lt (wd.p256 p))]
  have e3 : (N : Int) / 4294967296 ^ (p + 2) = ((N / 4294967296 ^ p : Nat) : Int) / 4294967296 / 4294967296 := by
    rw [← e2, show (4294967296 : Int) ^ (p + 2) = 4294967296 ^ (p + 1) * 4294967296 from Int.pow_succ _ _, ← Int.ediv_ediv_of_nonneg (Int.le_of_lt (wd.p256 (p + 1)))]
  have hl : N / 4294967296 ^ p < 79228162514264337593543950336 := Nat.div_lt_of_lt_mul (by rw [Nat.pow_add] at h; simpa using h)
  unfold wd.dg at h0 h1 h2
  rw [e2] at h1
  rw [e3] at h2
  rw [← e1] at h0
  clear e1 e2 e3 h
  generalize N / 4294967296 ^ p = X at *
  omega

/-- What holds at the head of each round: the guess, and what is left. -/
def GRel (H d1 D2 R3 : Nat) (t l : Value) : Prop := ∃ T L : Nat, t = .int .u64 (T : Int) ∧ l = .int .u64 (L : Int) ∧ Hid (T * d1 + L = H) ∧ L < 4294967296 ∧ T < 18446744073709551616 ∧ Hid (4294967296 ≤ T + 1 ∨ R3 < (T + 1) * D2)
theorem g_start {H d1 d2 D2 R3 r0 T L : Nat} (hD2 : d1 * 4294967296 + d2 = D2) (hR3 : H * 4294967296 + r0 = R3) (hr0 : r0 < 4294967296) (hd : 0 < d1) (hd' : d1 < 4294967296) (hH : H < 18446744073709551616) (hT : T = H / d1) (hL : L = H % d1) : GRel H d1 D2 R3 (.int .u64 (T : Int)) (.int .u64 (L : Int)) := by
  have e : T * d1 + L = H := by rw [hT, hL, Nat.mul_comm]; exact Nat.div_add_mod H d1
  have hl : L < d1 := by rw [hL]; exact Nat.mod_lt _ hd
  refine ⟨T, L, rfl, rfl, e, by omega, ?_, Or.inr ?_⟩
  · rw [hT]; exact Nat.lt_of_le_of_lt (Nat.div_le_self _ _) hH
  · rw [← hD2, Nat.add_mul, Nat.mul_add, ← Nat.mul_assoc]
    have : 0 ≤ T * d2 := Nat.zero_le _
    omega
theorem g_less {d1 d2 D2 H R3 T : Nat} (h : R3 < T * D2) : 1 ≤ T := by
  rcases Nat.eq_zero_or_pos T with e | e
  · rw [e] at h; omega
  · exact e
theorem g_over {H d1 d2 D2 R3 r0 T L : Nat} (hD2 : d1 * 4294967296 + d2 = D2) (hR3 : H * 4294967296 + r0 = R3) (h : T * d1 + L = H) (ho : L * 4294967296 + r0 < T * d2) : R3 < T * D2 := by
  rw [← hD2, Nat.mul_add, ← Nat.mul_assoc]
  omega
theorem g_under {H d1 d2 D2 R3 r0 T L : Nat} (hD2 : d1 * 4294967296 + d2 = D2) (hR3 : H * 4294967296 + r0 = R3) (h : T * d1 + L = H) (ho : T * d2 ≤ L * 4294967296 + r0) : T * D2 ≤ R3 := by
  rw [← hD2, Nat.mul_add, ← Nat.mul_assoc]
  omega

theorem g_next {H d1 D2 R3 T L : Nat} (h : T * d1 + L = H) (hT : T < 18446744073709551616) (h1 : 1 ≤ T) (hL : L + d1 < 4294967296) (ho : 4294967296 ≤ T ∨ R3 < T * D2) : GRel H d1 D2 R3 (.int .u64 ((T : Int) - 1)) (.int .u64 ((L : Int) + d1)) := by
  obtain ⟨k, rfl⟩ : ∃ k, T = k + 1 := ⟨T - 1, by omega⟩
  refine ⟨k, L + d1, by simp, by simp, ?_, hL, by omega, ho⟩
  unfold Hid
  rw [Nat.add_mul] at h
  omega
theorem g_break {H d1 d2 D2 R3 r0 k L : Nat} (hD2 : d1 * 4294967296 + d2 = D2) (hR3 : H * 4294967296 + r0 = R3) (h : (k + 1) * d1 + L = H) (hL : 4294967296 ≤ L + d1) (hd : 0 < d1) (hd2 : d2 < 4294967296) (hH : H < (d1 + 1) * 4294967296) : k < 4294967296 ∧ k * D2 ≤ R3 := by
  rw [Nat.add_mul] at h hH
  have hk : k < 4294967296 := by
    have : k * d1 < 4294967296 * d1 := by omega
    exact Nat.lt_of_mul_lt_mul_right this
  refine ⟨hk, g_under hD2 hR3 (L := L + d1) (by omega) ?_⟩
  have : k * d2 ≤ 4294967295 * 4294967295 := Nat.mul_le_mul (by omega) (by omega)
  omega
theorem g_head {N D P D2 R3 H d1 d2 r0 : Nat} (hP : 0 < P) (h2 : D2 = D / P) (h3 : R3 = N / P) (hN : N < D * 4294967296) (hD2 : d1 * 4294967296 + d2 = D2) (hd2 : d2 < 4294967296) (hR3 : H * 4294967296 + r0 = R3) : H < (d1 + 1) * 4294967296 := by
  have hD3 : D < (D2 + 1) * P := by rw [h2]; have := Nat.lt_div_mul_add (a := D) hP; rw [Nat.succ_mul]; exact this
  have h8 : R3 * P ≤ N := by rw [h3]; exact Nat.div_mul_le_self N P
  have h9 : D * 4294967296 < (D2 + 1) * 4294967296 * P := by rw [Nat.mul_right_comm]; omega
  have h10 : R3 * P < (D2 + 1) * 4294967296 * P := by omega
  have h11 : R3 < (D2 + 1) * 4294967296 := Nat.lt_of_mul_lt_mul_right h10
  omega

end Go.Proofs.Ytlelbhiebmdnoaa

namespace Go.Proofs.Ytlelbhiebmdnoaa
open Go.RowKit
set_option linter.unusedVariables false

theorem num_dg (k j : Nat) (u v : Int) (h : k ≤ j) : wd.dg (u % 4294967296 ^ k + v / 4294967296 ^ k * 4294967296 ^ k) j = wd.dg v j := by
  have hp := wd.p256 k
  have e : (u % 4294967296 ^ k + v / 4294967296 ^ k * 4294967296 ^ k) / 4294967296 ^ k = v / 4294967296 ^ k := by
    rw [Int.add_mul_ediv_right _ _ (Int.ne_of_gt hp), Int.ediv_eq_zero_of_lt (Int.emod_nonneg _ (Int.ne_of_gt hp)) (Int.emod_lt_of_pos _ hp), Int.zero_add]
  have e2 : ∀ x : Int, x / 4294967296 ^ j = x / 4294967296 ^ k / 4294967296 ^ (j - k) := fun x => by
    rw [Int.ediv_ediv_of_nonneg (Int.le_of_lt hp), ← Int.pow_add, show k + (j - k) = j by omega]
  unfold wd.dg
  rw [e2 (u % 4294967296 ^ k + v / 4294967296 ^ k * 4294967296 ^ k), e, ← e2]
/-- The digits of u up to k, then those of v, are a number's. -/
theorem mix_num (n k : Nat) (u v : Int) : wd.mix n k u v = wd.dcells n (u % 4294967296 ^ k + v / 4294967296 ^ k * 4294967296 ^ k) := by
  have hp := wd.p256 k
  refine List.ext_getElem? fun j => ?_
  by_cases hj : j < n
  · unfold wd.mix
    rw [wd.fill_at _ _ _ _ _ hj, wd.dcells_at _ _ _ hj]
    by_cases hk : j < k
    · rw [if_pos (by simpa using hk), wd.dg_congr (u := u % 4294967296 ^ k + v / 4294967296 ^ k * 4294967296 ^ k) (v := u) (v / 4294967296 ^ k - u / 4294967296 ^ k) ?_ hk]
      have := Int.mul_ediv_add_emod u (4294967296 ^ k)
      rw [Int.sub_mul, Int.mul_comm (u / 4294967296 ^ k)]
      omega
    · rw [if_neg (by simpa using hk), num_dg _ _ _ _ (by omega)]
  · rw [List.getElem?_eq_none (by rw [wd.mix_length]; omega), List.getElem?_eq_none (by rw [wd.dcells_length]; omega)]
theorem mix_nat (n k u v : Nat) (hk : k ≤ n) (hv : v < 4294967296 ^ n) : ∃ Z : Nat, wd.mix n k (u : Int) (v : Int) = wd.dcells n (Z : Int) ∧ Z < 4294967296 ^ n ∧ wd.dg (Z : Int) (k + 1) = wd.dg (v : Int) (k + 1) := by
  have e : ((u % 4294967296 ^ k + v / 4294967296 ^ k * 4294967296 ^ k : Nat) : Int) = (u : Int) % 4294967296 ^ k + (v : Int) / 4294967296 ^ k * 4294967296 ^ k := by
    rw [Int.natCast_add, Int.natCast_emod, Int.natCast_mul, Int.natCast_ediv, wd.pow_cast]
  refine ⟨u % 4294967296 ^ k + v / 4294967296 ^ k * 4294967296 ^ k, by rw [mix_num, e], ?_, by rw [e, num_dg _ _ _ _ (by omega)]⟩
  have hp := wd.pow_nat k
  have h1 : v / 4294967296 ^ k < 4294967296 ^ (n - k) := Nat.div_lt_of_lt_mul (by rw [← Nat.pow_add, show k + (n - k) = n by omega]; exact hv)
  have h2 : (v / 4294967296 ^ k + 1) * 4294967296 ^ k ≤ 4294967296 ^ n := by
    have := Nat.mul_le_mul_right (4294967296 ^ k) (show v / 4294967296 ^ k + 1 ≤ 4294967296 ^ (n - k) by omega)
    rwa [← Nat.pow_add, show n - k + k = n by omega] at this
  have h3 := Nat.mod_lt u hp
  rw [Nat.add_mul] at h2
  omega

theorem down_digit (R x t : Int) (k : Nat) (hx : 0 < x) (ht : 0 < t) (hxt : x * t = 4294967296) : (wd.dg R (k + 1) * 4294967296 + wd.dg R k) / x % 4294967296 = wd.dg (R / x) k := by
  have hp := wd.p256 k
  unfold wd.dg
  have e1 : R / 4294967296 ^ (k + 1) = R / 4294967296 ^ k / 4294967296 := by rw [Int.pow_succ, ← Int.ediv_ediv_of_nonneg (Int.le_of_lt hp)]
  have e2 : R / x / 4294967296 ^ k = R / 4294967296 ^ k / x := by rw [Int.ediv_ediv_of_nonneg (Int.le_of_lt hx), Int.mul_comm, ← Int.ediv_ediv_of_nonneg (Int.le_of_lt hp)]
  rw [e1, e2]
  generalize R / 4294967296 ^ k = Z
  -- Z = Y * B^2 + (z1 * B + z0)
  have e3 : Z = (Z / 4294967296 % 4294967296 * 4294967296 + Z % 4294967296) + (Z / 4294967296 / 4294967296 * t * 4294967296) * x := by
    have : Z / 4294967296 / 4294967296 * t * 4294967296 * x = Z / 4294967296 / 4294967296 * (x * t) * 4294967296 := by
      rw [Int.mul_assoc, Int.mul_assoc, Int.mul_assoc, Int.mul_comm x t, Int.mul_assoc, Int.mul_comm 4294967296 x]
    rw [this, hxt]
    omega
  have e4 : Z / x = (Z / 4294967296 % 4294967296 * 4294967296 + Z % 4294967296) / x + Z / 4294967296 / 4294967296 * t * 4294967296 := by
    conv => lhs; rw [e3]
    rw [Int.add_mul_ediv_right _ _ (Int.ne_of_gt hx)]
  rw [e4]
  omega

/-- What holds at the head of each round of shiftDown. -/
def DownRel (w : World) (R : Int) (x b l cap base : Nat) (i : Value) (wr : World) : Prop := ∃ k : Nat, k ≤ l ∧ i = .int .i64 (k : Int) ∧ Own wr base 74 (some ⟨b, 0, none⟩) l cap (wd.mix l k (R / x) R) ∧ Wr w wr b 0 l
theorem down_next (w wr : World) (R : Int) (x t b l cap base k : Nat) (hx : 0 < x) (ht : 0 < t) (hxt : x * t = 4294967296) (hk : k < l) (hown : Own wr base 74 (some ⟨b, 0, none⟩) l cap (wd.mix l k (R / x) R)) (hw : Wr w wr b 0 l) {z : Int} (hz : z = wd.dg R (k + 1) * 4294967296 + wd.dg R k) :
    DownRel w R x b l cap base (.int .i64 ((k : Int) + 1)) (wr.setCell ⟨b, k, none⟩ (.int .u32 (z / x % 4294967296))) := by
  subst hz
  refine ⟨k + 1, by omega, by simp, ?_, hw.set _ (Nat.zero_le _) hk⟩
  rw [down_digit R x t k (by omega) (by omega) (by omega), ← wd.mix_set]
  exact Own.set hown _ hk

theorem off_neg {N D g q : Nat} (h1 : q ≤ g) (h2 : g ≤ q + 1) (hD : 0 < D) (hq : q = N / D) (h : (N : Int) < (g : Int) * D) : g = q + 1 ∧ (N : Int) - (g : Int) * D + D = ((N % D : Nat) : Int) := by
  have hd := Nat.div_add_mod N D
  rw [← hq] at hd
  have hg : g = q + 1 := by
    rcases Nat.lt_or_ge q g with h3 | h3
    · omega
    · have : g = q := by omega
      subst this
      exfalso
      have e : (g : Int) * D = ((D * g : Nat) : Int) := by rw [Int.natCast_mul, Int.mul_comm]
      rw [e] at h
      omega
  refine ⟨hg, ?_⟩
  subst hg
  have e : ((q + 1 : Nat) : Int) * D = ((D * q : Nat) : Int) + D := by
    rw [Int.natCast_mul, Int.natCast_add, Int.add_mul, Int.mul_comm (q : Int)]
    simp
  rw [e]
  omega
theorem off_pos {N D g q : Nat} (h1 : q ≤ g) (hD : 0 < D) (hq : q = N / D) (h : ¬ (N : Int) < (g : Int) * D) : g = q ∧ (N : Int) - (g : Int) * D = ((N % D : Nat) : Int) := by
  have hd := Nat.div_add_mod N D
  have hgN : g * D ≤ N := by
    have e : (g : Int) * D = ((g * D : Nat) : Int) := by rw [Int.natCast_mul]
    rw [e] at h
    omega
  have hg : g = q := by
    have := (Nat.le_div_iff_mul_le hD).2 hgN
    omega
  refine ⟨hg, ?_⟩
  subst hg
  rw [← hq] at hd
  have e : (g : Int) * D = ((D * g : Nat) : Int) := by rw [Int.natCast_mul, Int.mul_comm]
  rw [e]
  omega

end Go.Proofs.Ytlelbhiebmdnoaa

namespace Go.Proofs.Ytlelbhiebmdnoaa
open Go.RowKit
set_option linter.unusedVariables false

/-- What is left of A when the quotient's words from k on are taken off. -/
def rk (A D k : Nat) : Nat := A / 4294967296 ^ k % D * 4294967296 ^ k + A % 4294967296 ^ k
/-- The words that the next word of the quotient is told by. -/
def nk (A D j : Nat) : Nat := A / 4294967296 ^ (j + 1) % D * 4294967296 + A / 4294967296 ^ j % 4294967296
theorem mod_more (A j : Nat) : A % 4294967296 ^ (j + 1) = A % 4294967296 ^ j + 4294967296 ^ j * (A / 4294967296 ^ j % 4294967296) := by
  rw [Nat.pow_succ, Nat.mod_mul]
theorem rk_split (A D j : Nat) : rk A D (j + 1) = A % 4294967296 ^ j + 4294967296 ^ j * nk A D j := by
  have e : ∀ P X Z : Nat, X * (P * 4294967296) + Z = Z + P * (X * 4294967296) := fun P X Z => by
    rw [Nat.mul_left_comm, Nat.add_comm]
  unfold rk nk
  rw [mod_more, Nat.pow_succ, Nat.mul_add, e]
  omega
theorem rk_here (A D j : Nat) : rk A D j = A % 4294967296 ^ j + 4294967296 ^ j * (A / 4294967296 ^ j % D) := by
  unfold rk
  rw [Nat.mul_comm (4294967296 ^ j)]
  omega
theorem nk_cast (A D j : Nat) : ((nk A D j : Nat) : Int) = (A : Int) / 4294967296 ^ (j + 1) % D * 4294967296 + wd.dg A j := by
  unfold nk wd.dg
  rw [Int.natCast_add, Int.natCast_mul, Int.natCast_emod, Int.natCast_ediv, Int.natCast_emod, Int.natCast_ediv, wd.pow_cast, wd.pow_cast]
  rfl
theorem nk_div (A D j : Nat) (hD : 0 < D) : ((nk A D j / D : Nat) : Int) = wd.dg ((A / D : Nat) : Int) j := by
  rw [Int.natCast_ediv, nk_cast, wd.quot_digit _ _ _ (by omega), Int.natCast_ediv]
theorem nk_mod (A D j : Nat) (hD : 0 < D) : nk A D j % D = A / 4294967296 ^ j % D := by
  have h : ((nk A D j % D : Nat) : Int) = ((A / 4294967296 ^ j % D : Nat) : Int) := by
    rw [Int.natCast_emod, nk_cast, (wd.long_div A D j (by omega)).2, Int.natCast_emod, Int.natCast_ediv, wd.pow_cast]
  exact Int.ofNat.inj h
theorem nk_lt (A D j : Nat) (hD : 0 < D) : nk A D j < D * 4294967296 := by
  unfold nk
  have h1 := Nat.mod_lt (A / 4294967296 ^ (j + 1)) hD
  have h2 := Nat.mod_lt (A / 4294967296 ^ j) (show 0 < 4294967296 by decide)
  omega
theorem low_div (A j X : Nat) : (((A % 4294967296 ^ j + 4294967296 ^ j * X : Nat)) : Int) / 4294967296 ^ j = (X : Int) := by
  rw [← wd.pow_cast, ← Int.natCast_ediv, Nat.add_mul_div_left _ _ (wd.pow_nat j), Nat.div_eq_of_lt (Nat.mod_lt _ (wd.pow_nat j)), Nat.zero_add]
/-- A part of what one owns, written over: below it nothing changes, above it are noughts. -/
theorem own_put {w w1 : World} {base b L cap j m A X Y : Nat} {T : TypeId} (hown : Own w base T (some ⟨b, 0, none⟩) L cap (wd.dcells L ((A % 4294967296 ^ j + 4294967296 ^ j * X : Nat) : Int))) (hL : j + m ≤ L) (hX : X < 4294967296 ^ m) (hY : Y < 4294967296 ^ m)
    (hseg : Seg w1 b j (wd.dcells m (Y : Int))) (hw : Wr w w1 b j (j + m)) : Own w1 base T (some ⟨b, 0, none⟩) L cap (wd.dcells L ((A % 4294967296 ^ j + 4294967296 ^ j * Y : Nat) : Int)) := by
  have hs0 := (seg_of_own hown).1
  have hpj := wd.p256 j
  refine hw.owned hown (wd.dcells_length _ _) ?_
  have cong : ∀ Z : Nat, wd.dcells j ((A % 4294967296 ^ j + 4294967296 ^ j * Z : Nat) : Int) = wd.dcells j ((A % 4294967296 ^ j : Nat) : Int) := fun Z => wd.dcells_congr (Z : Int) (by rw [Int.natCast_add, Int.natCast_mul, wd.pow_cast, Int.mul_comm (4294967296 ^ j)])
  have top : ∀ Z : Nat, Z < 4294967296 ^ m → (((A % 4294967296 ^ j + 4294967296 ^ j * Z : Nat)) : Int) / 4294967296 ^ (j + m) = 0 := fun Z hZ => by
    rw [Int.pow_add, ← Int.ediv_ediv_of_nonneg (Int.le_of_lt hpj), low_div]
    exact Int.ediv_eq_zero_of_lt (by omega) (by rw [← wd.pow_cast]; omega)
  have t1 : Seg w1 b 0 (wd.dcells j ((A % 4294967296 ^ j + 4294967296 ^ j * Y : Nat) : Int)) := by
    rw [cong, ← cong X]
    exact hw.out (seg_head hs0 j (by omega)) (by rw [wd.dcells_length]; omega)
  have t3 : Seg w1 b (j + m) (wd.dcells (L - (j + m)) 0) := by
    have := hw.out (seg_part hs0 (j + m) (L - (j + m)) (by omega)) (by omega)
    rwa [Nat.zero_add, top X hX] at this
  have t2 : Seg w1 b j (wd.dcells (m + (L - (j + m))) (Y : Int)) := seg_join hseg (by
    rw [Int.ediv_eq_zero_of_lt (by omega) (by rw [← wd.pow_cast]; omega)]
    exact t3)
  have s1 := seg_join t1 (m := m + (L - (j + m))) (by rw [Nat.zero_add, low_div]; exact t2)
  rwa [show j + (m + (L - (j + m))) = L by omega] at s1

/-- What holds at the head of each round. -/
def LongRel (w : World) (A D lb la m rb qb : Nat) (ds : Option Addr) (i : Value) (wr : World) : Prop := ∃ k : Nat, k ≤ m ∧ i = .int .i64 ((k : Int) - 1) ∧
  Own wr w.heap.size 74 (some ⟨qb, 0, none⟩) m m (wd.xim m k ((A / D : Nat) : Int) 0) ∧ Own wr w.heap.size 74 (some ⟨rb, 0, none⟩) (la + 1) (la + 1) (wd.dcells (la + 1) ((rk A D k : Nat) : Int)) ∧
  Sl wr ds lb (lb + 1) (wd.dcells lb (D : Int)) ∧ Below w.heap.size w wr
theorem long_next {w wr w1 : World} {A D lb la m rb qb j : Nat} {ds : Option Addr} (hD : 0 < D) (hj : j < m) (hm : m + lb = la + 1) (hqr : qb ≠ rb) (hsd : ∀ o, ds ≠ some ⟨rb, o, none⟩) (hsq : ∀ o, ds ≠ some ⟨qb, o, none⟩) (hDl : D < 4294967296 ^ lb)
    (hq : Own wr w.heap.size 74 (some ⟨qb, 0, none⟩) m m (wd.xim m (j + 1) ((A / D : Nat) : Int) 0)) (hr : Own wr w.heap.size 74 (some ⟨rb, 0, none⟩) (la + 1) (la + 1) (wd.dcells (la + 1) ((rk A D (j + 1) : Nat) : Int)))
    (hs : Sl wr ds lb (lb + 1) (wd.dcells lb (D : Int))) (hb : Below w.heap.size w wr) (hseg : Seg w1 rb j (wd.dcells (lb + 1) ((nk A D j % D : Nat) : Int))) (hw : Wr wr w1 rb j (j + (lb + 1))) :
    LongRel w A D lb la m rb qb ds (.int .i64 ((j : Int) - 1)) (w1.setCell ⟨qb, j, none⟩ (.int .u32 ((nk A D j / D : Nat) : Int))) := by
  have hq1 := hw.own hq (fun o e => hqr (by cases e; rfl))
  have hrb := (seg_of_own hr).2.2
  have hqb := (seg_of_own hq).2.2
  have hN : nk A D j < 4294967296 ^ (lb + 1) := by
    have h1 := nk_lt A D j hD
    have h2 : D * 4294967296 ≤ 4294967296 ^ (lb + 1) := by rw [Nat.pow_succ]; exact Nat.mul_le_mul_right _ (by omega)
    omega
  have hr1 := own_put (Y := nk A D j % D) (by rw [rk_split] at hr; exact hr) (by omega) hN (Nat.lt_of_le_of_lt (Nat.mod_le _ _) hN) hseg hw
  rw [nk_mod A D j hD, ← rk_here] at hr1
  have ws : Wr w1 (w1.setCell ⟨qb, j, none⟩ (.int .u32 ((nk A D j / D : Nat) : Int))) qb 0 m := (Wr.refl _ _ _ _).set _ (Nat.zero_le _) hj
  refine ⟨j, by omega, rfl, ?_, ws.own hr1 (fun o e => hqr (by cases e; rfl)), ws.sl (hw.sl hs hsd) hsq, (hw.after hb hrb (Nat.le_refl _)).setCell hqb _⟩
  rw [nk_div A D j hD, ← wd.xim_set]
  exact Own.set hq1 _ hj
theorem addr_ne {b c o o' : Nat} (h : b ≠ c) : (some ⟨b, o, none⟩ : Option Addr) ≠ some ⟨c, o', none⟩ := fun e => by
  simp only [Option.some.injEq, Addr.mk.injEq] at e
  exact h e.1
theorem scale_lt {x s v p : Nat} (hx : x < 2 ^ (32 - s)) (hs : s ≤ 32) (hv : v / 4294967296 ^ p = x) : 2 ^ s * v < 4294967296 ^ (p + 1) := by
  have h1 : v < (x + 1) * 4294967296 ^ p := by rw [← hv]; have := Nat.lt_div_mul_add (a := v) (wd.pow_nat p); rw [Nat.succ_mul]; exact this
  have h2 : (x + 1) * 4294967296 ^ p ≤ 2 ^ (32 - s) * 4294967296 ^ p := Nat.mul_le_mul_right _ hx
  have h3 : 2 ^ s * (2 ^ (32 - s) * 4294967296 ^ p) = 4294967296 ^ (p + 1) := by
    rw [← Nat.mul_assoc, ← Nat.pow_add, show s + (32 - s) = 32 by omega, show (4294967296 : Nat) ^ (p + 1) = 4294967296 ^ p * 4294967296 from Nat.pow_succ _ _, Nat.mul_comm]
  rw [← h3]
  exact Nat.mul_lt_mul_of_pos_left (by omega) (Nat.pow_pos (by decide))
theorem rk_start {A D m : Nat} (h : A < D * 4294967296 ^ m) : rk A D m = A := by
  unfold rk
  rw [Nat.mod_eq_of_lt (Nat.div_lt_of_lt_mul (by rw [Nat.mul_comm]; exact h)), Nat.mul_comm]
  exact Nat.div_add_mod A _
theorem rk_end (A D : Nat) : rk A D 0 = A % D := by
  unfold rk
  simp [Nat.mod_one]

end Go.Proofs.Ytlelbhiebmdnoaa

namespace Go.Proofs.Ytlelbhiebmdnoaa
open Go.RowKit
set_option linter.unusedVariables false

theorem top_le {v l : Nat} (h : wd.nlen v = l + 1) : 4294967296 ^ l ≤ v := by
  refine Nat.le_of_not_lt fun hlt => ?_
  have := wd.nlen_le hlt
  omega
end Go.Proofs.Ytlelbhiebmdnoaa

namespace Go.Proofs.Ytlelbhiebmdnoaa
open Go.RowKit Go.Shelf
set_option linter.unusedVariables false
attribute [local go_sem] Oper.semAt_some

/-- What has come when r are left: p, p - 1, .., r. -/
def dn (p r : Nat) : List (Fin (p + 1)) := (List.range (p + 1 - r)).map fun j => ⟨p - j, by omega⟩
theorem dn_start (p : Nat) : dn p (p + 1) = [] := by simp [dn]
theorem dn_next (p q : Nat) (h : q < p + 1) : dn p q = dn p (q + 1) ++ [⟨q, h⟩] := by
  unfold dn
  rw [show p + 1 - q = (p + 1 - (q + 1)) + 1 by omega, List.range_succ, List.map_append]
  congr 1
  simp
  omega
theorem dn_length (p r : Nat) : (dn p r).length = p + 1 - r := by simp [dn]
theorem dn_mem (p r : Nat) (x : Fin (p + 1)) : x ∈ dn p r ↔ r ≤ x.1 := by
  unfold dn
  simp only [List.mem_map, List.mem_range]
  refine ⟨fun ⟨j, hj, e⟩ => by rw [← e]; show r ≤ p - j; omega, fun h => ⟨p - x.1, by have := x.2; omega, by have := x.2; apply Fin.ext; show p - (p - x.1) = x.1; omega⟩⟩

end Go.Proofs.Ytlelbhiebmdnoaa

namespace Go.Proofs.Ytlelbhiebmdnoaa
open Go.RowKit Go.Shelf
set_option linter.unusedVariables false
attribute [local go_sem] Oper.semAt_some

/-- -1, 0 or 1. -/
def cmpI (x y : Int) : Int := if x < y then -1 else if y < x then 1 else 0
/-- Equal from place k on. -/
theorem top_eq {u v m k : Nat} (hk : k ≤ m) (hu : u < 4294967296 ^ m) (hv : v < 4294967296 ^ m) (h : ∀ j, k ≤ j → j < m → wd.dg (u : Int) j = wd.dg (v : Int) j) : u / 4294967296 ^ k = v / 4294967296 ^ k := by
  have hlt : ∀ x : Nat, x < 4294967296 ^ m → x / 4294967296 ^ k < 4294967296 ^ (m - k) := fun x hx => by
    refine Nat.div_lt_of_lt_mul ?_
    rw [← Nat.pow_add, show k + (m - k) = m by omega]
    exact hx
  refine wd.eq_of_dcells (m - k) _ _ (hlt u hu) (hlt v hv) fun j hj => ?_
  rw [Int.natCast_ediv, Int.natCast_ediv, wd.pow_cast, wd.dg_div, wd.dg_div]
  exact h _ (by omega) (by omega)

end Go.Proofs.Ytlelbhiebmdnoaa

namespace Go.Proofs.Ytlelbhiebmdnoaa
open Go.RowKit Go.Shelf
set_option linter.unusedVariables false
attribute [local go_sem] Oper.semAt_some

theorem cmp_words {u v : Nat} {k : Nat} (h : u / 4294967296 ^ (k + 1) = v / 4294967296 ^ (k + 1)) (hne : wd.dg (u : Int) k ≠ wd.dg (v : Int) k) : cmpI (wd.dg (u : Int) k) (wd.dg (v : Int) k) = cmpI u v := by
  unfold cmpI
  rcases Int.lt_or_gt_of_ne hne with l | l
  · have := wd.lt_of_top h l
    rw [if_pos l, if_pos (by omega)]
  · have := wd.lt_of_top h.symm l
    rw [if_neg (by omega), if_pos l, if_neg (by omega), if_pos (by omega)]
theorem cmpI_self (x : Int) : cmpI x x = 0 := by unfold cmpI; simp

end Go.Proofs.Ytlelbhiebmdnoaa

namespace Go.Proofs.Ytlelbhiebmdnoaa
open Go.RowKit
set_option linter.unusedVariables false

/-- What holds at the head of each round of the difference's loop. -/
def NSubRel (w : World) (u v l b : Nat) (c i : Value) (wr : World) : Prop := ∃ k : Nat, k ≤ l ∧ i = .int .i64 (k : Int) ∧ c = .int .u32 (wd.bw u v k) ∧ Own wr w.heap.size 74 (some ⟨b, 0, none⟩) l l (wd.mix l k ((u : Int) - v) 0) ∧ Below w.heap.size w wr
theorem nsub_next (w wr : World) (u v l b k : Nat) (hk : k < l) (hown : Own wr w.heap.size 74 (some ⟨b, 0, none⟩) l l (wd.mix l k ((u : Int) - v) 0)) (hb : Below w.heap.size w wr) :
    NSubRel w u v l b (.int .u32 (wd.bor (wd.dg u k) (wd.dg v k + wd.bw u v k))) (.int .i64 ((k : Int) + 1)) (wr.setCell ⟨b, k, none⟩ (.int .u32 ((wd.dg u k - wd.dg v k - wd.bw u v k) % 4294967296))) := by
  refine ⟨k + 1, by omega, by simp, by rw [wd.bw_succ], ?_, hb.setCell (seg_of_own hown).2.2 _⟩
  rw [wd.sub_digit, ← wd.mix_set]
  exact Own.set hown _ (by omega)

end Go.Proofs.Ytlelbhiebmdnoaa

namespace Go.Proofs.Ytlelbhiebmdnoaa

/-- A text's bytes, as numbers. -/
def nums (s : ByteArray) : List Int := s.data.toList.map fun b => (b.toNat : Int)
theorem nums_length (s : ByteArray) : (nums s).length = s.size := by unfold nums; rw [List.length_map]; rfl
theorem nums_range (s : ByteArray) : ∀ c ∈ nums s, 0 ≤ c ∧ c < 256 := by
  intro c hc
  unfold nums at hc
  rw [List.mem_map] at hc
  obtain ⟨b, _, rfl⟩ := hc
  have := b.toNat_lt
  omega
theorem nums_at (s : ByteArray) (k : Nat) (h : k < s.size) : (nums s)[k]? = some ((s[k]).toNat : Int) := by
  have hk : k < s.data.toList.length := by simpa using h
  unfold nums
  rw [List.getElem?_map, List.getElem?_eq_getElem hk]
  rfl
theorem nums_take (s : ByteArray) (k : Nat) (h : k < s.size) : (nums s).take (k + 1) = (nums s).take k ++ [((s[k]).toNat : Int)] := by
  rw [List.take_add_one, nums_at s k h]; rfl
theorem nums_drop (s : ByteArray) (k : Nat) (h : k < s.size) : (nums s).drop k = ((s[k]).toNat : Int) :: (nums s).drop (k + 1) := by
  have hk : k < (nums s).length := by rw [nums_length]; exact h
  rw [List.drop_eq_getElem_cons hk]
  congr 1
  have := nums_at s k h
  rw [List.getElem?_eq_getElem hk] at this
  simpa using this
theorem nums_tail (s : ByteArray) : nums (s.extract 1 s.size) = (nums s).drop 1 := by
  unfold nums
  rw [← List.map_drop]
  congr 1
  simp [ByteArray.data_extract]
  rw [List.take_of_length_le (by simp)]
theorem nums_cons (s : ByteArray) (h0 : 0 < s.size) : nums s = (s[0].toNat : Int) :: nums (s.extract 1 s.size) := by
  have := nums_drop s 0 h0
  rw [List.drop_zero] at this
  rw [nums_tail]
  exact this
theorem str_nums (s : ByteArray) : strOfNums (nums s) = s := by
  unfold nums strOfNums
  apply ByteArray.ext
  simp only [List.map_map]
  have : (fun b : UInt8 => UInt8.ofNat ((b.toNat : Int)).toNat) = id := by funext b; simp
  show (List.map ((fun n => UInt8.ofNat n.toNat) ∘ fun b => (b.toNat : Int)) s.data.toList).toArray = s.data
  rw [show ((fun n : Int => UInt8.ofNat n.toNat) ∘ fun b : UInt8 => (b.toNat : Int)) = id from this]
  simp
theorem nums_str (l : List Int) (h : ∀ c ∈ l, 0 ≤ c ∧ c < 256) : nums (strOfNums l) = l := by
  unfold nums strOfNums
  simp only [List.map_map]
  conv => rhs; rw [← List.map_id l]
  refine List.map_congr_left fun c hc => ?_
  obtain ⟨a, b⟩ := h c hc
  simp only [Function.comp_apply, id]
  rw [UInt8.toNat_ofNat']
  omega
theorem strOfNums_append (a b : List Int) : strOfNums a ++ strOfNums b = strOfNums (a ++ b) := by
  apply ByteArray.ext
  rw [ByteArray.data_append]
  simp [strOfNums]

/-- The last k decimal digits of m, as bytes, the highest first. -/
def digs : Nat → Nat → List Int
  | 0, _ => []
  | k + 1, m => (48 + (m / 10 ^ k % 10 : Nat) : Int) :: digs k m
theorem digs_length (k m : Nat) : (digs k m).length = k := by induction k with | zero => rfl | succ k ih => simp [digs, ih]
theorem digs_snoc (k m : Nat) : digs (k + 1) m = digs k (m / 10) ++ [(48 + (m % 10 : Nat) : Int)] := by
  induction k with
  | zero => simp [digs]
  | succ k ih => rw [digs, ih, digs, List.cons_append, Nat.div_div_eq_div_mul, Nat.pow_succ, Nat.mul_comm 10]
theorem digs_bytes (k m : Nat) : ∀ c ∈ digs k m, 48 ≤ c ∧ c ≤ 57 := by
  induction k with
  | zero => intro c hc; simp [digs] at hc
  | succ k ih =>
    intro c hc
    rw [digs, List.mem_cons] at hc
    rcases hc with rfl | hc
    · have := Nat.mod_lt (m / 10 ^ k) (show 0 < 10 by decide); omega
    · exact ih c hc
/-- m has k digits: nought has one. -/
def IsDec (m k : Nat) : Prop := 1 ≤ k ∧ m < 10 ^ k ∧ (k = 1 ∨ 10 ^ (k - 1) ≤ m)
theorem isDec_one {m k k' : Nat} (h : IsDec m k) (h' : IsDec m k') : k = k' := by
  obtain ⟨a, b, c⟩ := h
  obtain ⟨a', b', c'⟩ := h'
  rcases Nat.lt_trichotomy k k' with e | e | e
  · rcases c' with c' | c'
    · omega
    · have := Nat.pow_le_pow_right (n := 10) (by decide) (show k ≤ k' - 1 by omega)
      omega
  · exact e
  · rcases c with c | c
    · omega
    · have := Nat.pow_le_pow_right (n := 10) (by decide) (show k' ≤ k - 1 by omega)
      omega
def dlenF : Nat → Nat → Nat
  | 0, _ => 1
  | f + 1, m => if m < 10 then 1 else dlenF f (m / 10) + 1
/-- How many decimal digits m has. -/
def dlen (m : Nat) : Nat := dlenF m m
theorem isDec_dlenF : ∀ f m : Nat, m < 10 ^ (f + 1) → IsDec m (dlenF f m)
  | 0, m, h => ⟨Nat.le_refl _, h, Or.inl rfl⟩
  | f + 1, m, h => by
    unfold dlenF
    by_cases hm : m < 10
    · rw [if_pos hm]; exact ⟨Nat.le_refl _, hm, Or.inl rfl⟩
    · rw [if_neg hm]
      obtain ⟨a, b, c⟩ := isDec_dlenF f (m / 10) (by rw [Nat.pow_succ] at h; omega)
      refine ⟨by omega, ?_, Or.inr ?_⟩
      · rw [Nat.pow_succ]; omega
      · rcases c with c | c
        · rw [c]; simp; omega
        · have e : dlenF f (m / 10) + 1 - 1 = dlenF f (m / 10) - 1 + 1 := by omega
          rw [e, Nat.pow_succ]; omega
theorem isDec_dlen (m : Nat) : IsDec m (dlen m) := isDec_dlenF m m (Nat.lt_of_lt_of_le (Nat.lt_pow_self (by decide)) (Nat.pow_le_pow_right (by decide) (by omega)))
theorem dlen_eq {m k : Nat} (h : IsDec m k) : dlen m = k := isDec_one (isDec_dlen m) h
/-- The text of a number. -/
def decS (m : Nat) : ByteArray := strOfNums (digs (dlen m) m)
theorem decS_nums (m : Nat) : nums (decS m) = digs (dlen m) m := nums_str _ fun c hc => by have := digs_bytes _ _ c hc; omega
theorem decS_size (m : Nat) : (decS m).size = dlen m := by rw [← nums_length, decS_nums, digs_length]
/-- Noughts ahead are dropped. -/
theorem digs_zero (k m : Nat) (h : m < 10 ^ k) : digs (k + 1) m = 48 :: digs k m := by
  rw [digs, Nat.div_eq_of_lt h]; rfl
theorem digs_drop : ∀ (j k m : Nat), 0 < m → IsDec m k → (digs (k + j) m).dropWhile (· == 48) = digs k m
  | 0, k, m, hm, h => by
    rw [Nat.add_zero]
    obtain ⟨h1, h2, h3⟩ := h
    rcases k with _ | k
    · omega
    · rw [digs]
      have hl : 10 ^ k ≤ m := by
        rcases h3 with h3 | h3
        · have : k = 0 := by omega
          subst this; simp; omega
        · simpa using h3
      have h4 : 1 ≤ m / 10 ^ k := (Nat.one_le_div_iff (Nat.pow_pos (by decide))).2 hl
      have h5 : m / 10 ^ k < 10 := by rw [Nat.pow_succ] at h2; exact Nat.div_lt_of_lt_mul h2
      have h6 : ((48 + ((m / 10 ^ k % 10 : Nat) : Int)) == 48) = false := by
        rw [Nat.mod_eq_of_lt h5]
        generalize m / 10 ^ k = c at h4
        rw [beq_eq_false_iff_ne]
        omega
      rw [List.dropWhile_cons, h6]; simp
  | j + 1, k, m, hm, h => by
    have h2 := h.2.1
    have : m < 10 ^ (k + j) := Nat.lt_of_lt_of_le h2 (Nat.pow_le_pow_right (by decide) (by omega))
    rw [show k + (j + 1) = (k + j) + 1 by omega, digs_zero _ _ this, List.dropWhile_cons]
    simp only [beq_self_eq_true, if_true]
    exact digs_drop j k m hm h
end Go.Proofs.Ytlelbhiebmdnoaa

namespace Go.Proofs.Ytlelbhiebmdnoaa.pc
open Go.RowKit

/-- Digit i of v, to the base 1000000000 (of a number below nought: of v modulo as many digits as you like). -/
def dg (v : Int) (i : Nat) : Int := v / 1000000000 ^ i % 1000000000
theorem dg_range (v : Int) (i : Nat) : 0 ≤ dg v i ∧ dg v i < 1000000000 := by unfold dg; omega
theorem p256 (i : Nat) : (0 : Int) < 1000000000 ^ i := Int.pow_pos (by decide)
/-- n digits: at the places that p names those of u, at the others those of v. -/
def fill (n : Nat) (p : Nat → Bool) (u v : Int) : List Value := (List.range n).map fun j => .int .u32 (if p j then dg u j else dg v j)
def dcells (n : Nat) (v : Int) : List Value := (List.range n).map fun j => .int .u32 (dg v j)
def mix (n i : Nat) (u v : Int) : List Value := fill n (fun j => decide (j < i)) u v
theorem fill_length (n : Nat) (p : Nat → Bool) (u v : Int) : (fill n p u v).length = n := by simp [fill]
theorem mix_length (n i : Nat) (u v : Int) : (mix n i u v).length = n := fill_length _ _ _ _
theorem dcells_length (n : Nat) (v : Int) : (dcells n v).length = n := by simp [dcells]
theorem dcells_at (n : Nat) (v : Int) (i : Nat) (h : i < n) : (dcells n v)[i]? = some (.int .u32 (dg v i)) := by simp [dcells, h]
theorem fill_at (n : Nat) (p : Nat → Bool) (u v : Int) (i : Nat) (h : i < n) : (fill n p u v)[i]? = some (.int .u32 (if p i then dg u i else dg v i)) := by simp [fill, h]
theorem mix_at (n k : Nat) (u v : Int) (i : Nat) (h : i < n) (hk : k ≤ i) : (mix n k u v)[i]? = some (.int .u32 (dg v i)) := by
  rw [mix, fill_at _ _ _ _ _ h]; simp; omega
theorem fill_congr {n : Nat} {p q : Nat → Bool} {u v u' v' : Int} (h : ∀ j, j < n → (if p j then dg u j else dg v j) = (if q j then dg u' j else dg v' j)) : fill n p u v = fill n q u' v' := by
  unfold fill
  refine List.map_congr_left fun j hj => ?_
  rw [h j (by simpa using hj)]
theorem fill_set (n : Nat) (p : Nat → Bool) (u v : Int) (i : Nat) : (fill n p u v).set i (.int .u32 (dg u i)) = fill n (fun j => p j || j == i) u v := by
  refine List.ext_getElem? fun j => ?_
  rw [List.getElem?_set]
  by_cases e : i = j
  · subst e
    by_cases h : i < n
    · rw [if_pos rfl, if_pos (by rw [fill_length]; exact h), fill_at _ _ _ _ _ h]; simp
    · rw [if_pos rfl, if_neg (by rw [fill_length]; exact h), List.getElem?_eq_none (by rw [fill_length]; omega)]
  · by_cases h : j < n
    · rw [if_neg e, fill_at _ _ _ _ _ h, fill_at _ _ _ _ _ h]
      have e' : (j == i) = false := by simp; omega
      simp [e']
    · rw [if_neg e, List.getElem?_eq_none (by simp [fill_length]; omega), List.getElem?_eq_none (by simp [fill_length]; omega)]
theorem mix_set (n i : Nat) (u v : Int) : (mix n i u v).set i (.int .u32 (dg u i)) = mix n (i + 1) u v := by
  unfold mix
  rw [fill_set]
  refine fill_congr fun j _ => ?_
  have : (decide (j < i) || j == i) = decide (j < i + 1) := by rw [Bool.eq_iff_iff]; simp; omega
  rw [this]
theorem mix_zero (n : Nat) (u v : Int) : mix n 0 u v = dcells n v := by unfold mix fill dcells; simp
theorem mix_full (n : Nat) (u v : Int) : mix n n u v = dcells n u := by
  unfold mix fill dcells
  refine List.map_congr_left fun j hj => ?_
  have : j < n := by simpa using hj
  simp [this]
/-- The digits of two numbers that are the same modulo 1000000000^i are the same below place i. -/
theorem dg_congr {u v : Int} {i j : Nat} (t : Int) (h : u = v + t * 1000000000 ^ i) (hj : j < i) : dg u j = dg v j := by
  unfold dg
  obtain ⟨d, rfl⟩ : ∃ d, i = j + 1 + d := ⟨i - (j + 1), by omega⟩
  have e : t * (1000000000 : Int) ^ (j + 1 + d) = (1000000000 * (t * 1000000000 ^ d)) * 1000000000 ^ j := by
    rw [show j + 1 + d = d + 1 + j by omega, Int.pow_add, Int.pow_succ, ← Int.mul_assoc, ← Int.mul_assoc, Int.mul_comm (t * 1000000000 ^ d) 1000000000]
  rw [h, e, Int.add_mul_ediv_right _ _ (Int.ne_of_gt (p256 j))]
  omega
theorem dcells_congr {n : Nat} {u v : Int} (t : Int) (h : u = v + t * 1000000000 ^ n) : dcells n u = dcells n v := by
  unfold dcells
  refine List.map_congr_left fun j hj => ?_
  rw [dg_congr t h (by simpa using hj)]
/-- The carry into place i when x and y are added. -/
def carry (x y : Int) (i : Nat) : Int := (x % 1000000000 ^ i + y % 1000000000 ^ i) / 1000000000 ^ i
theorem carry_zero (x y : Int) : carry x y 0 = 0 := by simp [carry]
theorem emod_succ (x : Int) (i : Nat) : x % 1000000000 ^ (i + 1) = dg x i * 1000000000 ^ i + x % 1000000000 ^ i := by
  unfold dg
  have hp := p256 i
  have h1 := Int.mul_ediv_add_emod x (1000000000 ^ i)
  have h2 := Int.mul_ediv_add_emod (x / 1000000000 ^ i) 1000000000
  have b := Int.emod_nonneg x (Int.ne_of_gt hp)
  have b' := Int.emod_lt_of_pos x hp
  have c := Int.emod_nonneg (x / 1000000000 ^ i) (show (1000000000 : Int) ≠ 0 by decide)
  have c' := Int.emod_lt_of_pos (x / 1000000000 ^ i) (show (0 : Int) < 1000000000 by decide)
  have e : x = (x / 1000000000 ^ i % 1000000000 * 1000000000 ^ i + x % 1000000000 ^ i) + (x / 1000000000 ^ i / 1000000000) * 1000000000 ^ (i + 1) := by
    have : (x / 1000000000 ^ i / 1000000000) * (1000000000 : Int) ^ (i + 1) = (1000000000 * (x / 1000000000 ^ i / 1000000000)) * 1000000000 ^ i := by rw [Int.pow_succ, Int.mul_comm ((1000000000 : Int) ^ i) 1000000000, ← Int.mul_assoc, Int.mul_comm _ 1000000000]
    rw [this]
    have h3 : (1000000000 * (x / 1000000000 ^ i / 1000000000)) * (1000000000 : Int) ^ i + x / 1000000000 ^ i % 1000000000 * 1000000000 ^ i = x / 1000000000 ^ i * 1000000000 ^ i := by rw [← Int.add_mul, h2]
    have h4 : x / 1000000000 ^ i * (1000000000 : Int) ^ i = 1000000000 ^ i * (x / 1000000000 ^ i) := Int.mul_comm _ _
    omega
  have l0 : 0 ≤ x / 1000000000 ^ i % 1000000000 * 1000000000 ^ i + x % 1000000000 ^ i := Int.add_nonneg (Int.mul_nonneg c (Int.le_of_lt hp)) b
  have l1 : x / 1000000000 ^ i % 1000000000 * 1000000000 ^ i + x % 1000000000 ^ i < 1000000000 ^ (i + 1) := by
    have : x / 1000000000 ^ i % 1000000000 * (1000000000 : Int) ^ i ≤ 999999999 * 1000000000 ^ i := Int.mul_le_mul_of_nonneg_right (by omega) (Int.le_of_lt hp)
    rw [Int.pow_succ]
    omega
  have key : x % 1000000000 ^ (i + 1) = (x / 1000000000 ^ i % 1000000000 * 1000000000 ^ i + x % 1000000000 ^ i) % 1000000000 ^ (i + 1) := by
    have := congrArg (· % (1000000000 : Int) ^ (i + 1)) e
    simpa [Int.add_mul_emod_self_right] using this
  rw [key, Int.emod_eq_of_lt l0 l1]
theorem carry_sum (x y : Int) (i : Nat) : (x % 1000000000 ^ (i + 1) + y % 1000000000 ^ (i + 1)) / 1000000000 ^ i = carry x y i + dg x i + dg y i := by
  rw [emod_succ, emod_succ]
  unfold carry
  have e : dg x i * 1000000000 ^ i + x % 1000000000 ^ i + (dg y i * 1000000000 ^ i + y % 1000000000 ^ i) = (x % 1000000000 ^ i + y % 1000000000 ^ i) + (dg x i + dg y i) * 1000000000 ^ i := by rw [Int.add_mul]; omega
  rw [e, Int.add_mul_ediv_right _ _ (Int.ne_of_gt (p256 i))]
  omega
theorem carry_succ (x y : Int) (i : Nat) : carry x y (i + 1) = (carry x y i + dg x i + dg y i) / 1000000000 := by
  rw [← carry_sum]
  show (x % 1000000000 ^ (i + 1) + y % 1000000000 ^ (i + 1)) / 1000000000 ^ (i + 1) = _
  have hp := p256 i
  rw [Int.pow_succ, Int.ediv_ediv, if_neg (by omega)]
  omega
theorem add_digit (x y : Int) (i : Nat) : (carry x y i + dg x i + dg y i) % 1000000000 = dg (x + y) i := by
  unfold dg carry
  have hp := p256 i
  have h1 := Int.mul_ediv_add_emod x (1000000000 ^ i)
  have h2 := Int.mul_ediv_add_emod y (1000000000 ^ i)
  have e : x + y = (x % 1000000000 ^ i + y % 1000000000 ^ i) + (x / 1000000000 ^ i + y / 1000000000 ^ i) * 1000000000 ^ i := by
    have a1 : x / 1000000000 ^ i * (1000000000 : Int) ^ i = 1000000000 ^ i * (x / 1000000000 ^ i) := Int.mul_comm _ _
    have a2 : y / 1000000000 ^ i * (1000000000 : Int) ^ i = 1000000000 ^ i * (y / 1000000000 ^ i) := Int.mul_comm _ _
    rw [Int.add_mul]; omega
  have e2 : (x + y) / 1000000000 ^ i = (x % 1000000000 ^ i + y % 1000000000 ^ i) / 1000000000 ^ i + (x / 1000000000 ^ i + y / 1000000000 ^ i) := by
    conv => lhs; rw [e]
    exact Int.add_mul_ediv_right _ _ (Int.ne_of_gt hp)
  rw [e2]
  omega
theorem carry_range (x y : Int) (i : Nat) : 0 ≤ carry x y i ∧ carry x y i ≤ 1 := by
  unfold carry
  have hp := p256 i
  have a := Int.emod_nonneg x (Int.ne_of_gt hp)
  have a' := Int.emod_lt_of_pos x hp
  have b := Int.emod_nonneg y (Int.ne_of_gt hp)
  have b' := Int.emod_lt_of_pos y hp
  refine ⟨Int.ediv_nonneg (by omega) (by omega), ?_⟩
  have : (x % 1000000000 ^ i + y % 1000000000 ^ i) / 1000000000 ^ i < 2 := Int.ediv_lt_of_lt_mul hp (by omega)
  omega
theorem neg_digit (x : Int) (i : Nat) : 999999999 - dg x i = dg (-1 - x) i := by
  unfold dg
  have hp := p256 i
  have h1 := Int.mul_ediv_add_emod x (1000000000 ^ i)
  have a := Int.emod_nonneg x (Int.ne_of_gt hp)
  have a' := Int.emod_lt_of_pos x hp
  have e : -1 - x = (1000000000 ^ i - 1 - x % 1000000000 ^ i) + (-1 - x / 1000000000 ^ i) * 1000000000 ^ i := by
    have a1 : x / 1000000000 ^ i * (1000000000 : Int) ^ i = 1000000000 ^ i * (x / 1000000000 ^ i) := Int.mul_comm _ _
    rw [Int.sub_mul]; omega
  have e2 : (-1 - x) / 1000000000 ^ i = -1 - x / 1000000000 ^ i := by
    conv => lhs; rw [e]
    rw [Int.add_mul_ediv_right _ _ (Int.ne_of_gt hp), Int.ediv_eq_zero_of_lt (by omega) (by omega)]
    omega
  rw [e2]
  omega
end Go.Proofs.Ytlelbhiebmdnoaa.pc

namespace Go.Proofs.Ytlelbhiebmdnoaa.pc
open Go.RowKit
set_option linter.unusedVariables false

/-- v needs n digits: none for nought. -/
def IsLen (v n : Nat) : Prop := v < 1000000000 ^ n ∧ (n = 0 ∨ 1000000000 ^ (n - 1) ≤ v)
theorem isLen_one {v n m : Nat} (h : IsLen v n) (h' : IsLen v m) : n = m := by
  obtain ⟨a, b⟩ := h
  obtain ⟨a', b'⟩ := h'
  rcases Nat.lt_trichotomy n m with e | e | e
  · rcases b' with b' | b'
    · omega
    · have := Nat.pow_le_pow_right (n := 1000000000) (by decide) (show n ≤ m - 1 by omega)
      omega
  · exact e
  · rcases b with b | b
    · omega
    · have := Nat.pow_le_pow_right (n := 1000000000) (by decide) (show m ≤ n - 1 by omega)
      omega
/-- A number below 1000000000^n has a length of n at most, and is found by cutting noughts off the end. -/
theorem isLen_cut : ∀ (n v : Nat), v < 1000000000 ^ n → ∃ m, m ≤ n ∧ IsLen v m
  | 0, v, h => ⟨0, Nat.le_refl _, h, Or.inl rfl⟩
  | n + 1, v, h => by
    by_cases c : v < 1000000000 ^ n
    · obtain ⟨m, h1, h2⟩ := isLen_cut n v c
      exact ⟨m, by omega, h2⟩
    · exact ⟨n + 1, Nat.le_refl _, h, Or.inr (by simp; omega)⟩
theorem lt_pow_self (v : Nat) : v < 1000000000 ^ v := Nat.lt_pow_self (by decide)
theorem isLen_ex (v : Nat) : ∃ m, IsLen v m := by
  obtain ⟨m, _, h⟩ := isLen_cut v v (lt_pow_self v)
  exact ⟨m, h⟩
/-- How many digits v needs. -/
def nlen (v : Nat) : Nat := if h : v = 0 then 0 else nlen (v / 1000000000) + 1
  termination_by v
  decreasing_by exact Nat.div_lt_self (Nat.pos_of_ne_zero h) (by decide)
theorem nlen_is (v : Nat) : IsLen v (nlen v) := by
  induction v using Nat.strongRecOn with
  | ind v ih =>
    unfold nlen
    split
    · rename_i h
      rw [h]
      exact ⟨by decide, Or.inl rfl⟩
    · rename_i h
      obtain ⟨h1, h2⟩ := ih (v / 1000000000) (Nat.div_lt_self (Nat.pos_of_ne_zero h) (by decide))
      refine ⟨?_, Or.inr ?_⟩
      · rw [Nat.pow_succ]
        exact (Nat.div_lt_iff_lt_mul (by decide)).1 h1
      · rw [Nat.add_sub_cancel]
        rcases h2 with h2 | h2
        · rw [h2]
          exact Nat.pos_of_ne_zero h
        · rcases Nat.eq_zero_or_pos (nlen (v / 1000000000)) with h3 | h3
          · rw [h3]
            exact Nat.pos_of_ne_zero h
          · have h4 := (Nat.le_div_iff_mul_le (by decide)).1 h2
            rw [← Nat.pow_succ] at h4
            rwa [show (nlen (v / 1000000000) - 1).succ = nlen (v / 1000000000) by omega] at h4
theorem nlen_eq {v n : Nat} (h : IsLen v n) : nlen v = n := isLen_one (nlen_is v) h
theorem nlen_le {v n : Nat} (h : v < 1000000000 ^ n) : nlen v ≤ n := by
  obtain ⟨m, h1, h2⟩ := isLen_cut n v h
  rw [nlen_eq h2]; exact h1
theorem nlen_zero : nlen 0 = 0 := nlen_eq ⟨by decide, Or.inl rfl⟩
theorem nlen_lt (v : Nat) : v < 1000000000 ^ nlen v := (nlen_is v).1
theorem nlen_pos {v : Nat} (h : 0 < v) : 0 < nlen v := by
  rcases Nat.lt_or_ge 0 (nlen v) with l | l
  · exact l
  · have := nlen_lt v
    rw [show nlen v = 0 by omega] at this
    simp at this
    omega
/-- The longer number is the greater. -/
theorem lt_of_nlen {u v : Nat} (h : nlen u < nlen v) : u < v := by
  obtain ⟨_, b⟩ := nlen_is v
  rcases b with b | b
  · omega
  · have := nlen_lt u
    have := Nat.pow_le_pow_right (n := 1000000000) (by decide) (show nlen u ≤ nlen v - 1 by omega)
    omega
theorem pow_cast (k : Nat) : ((1000000000 ^ k : Nat) : Int) = (1000000000 : Int) ^ k := by rw [Int.natCast_pow]; rfl
theorem dg_nat (v k : Nat) : dg (v : Int) k = ((v / 1000000000 ^ k % 1000000000 : Nat) : Int) := by
  unfold dg
  rw [← pow_cast]
  omega
/-- The digit at a place that a number does not reach is nought; the highest one that it has is not. -/
theorem dg_over {v k : Nat} (h : v < 1000000000 ^ k) : dg (v : Int) k = 0 := by rw [dg_nat, Nat.div_eq_of_lt h]; rfl
theorem dg_top {v n : Nat} (h : IsLen v (n + 1)) : dg (v : Int) n ≠ 0 := by
  obtain ⟨a, b⟩ := h
  have b : 1000000000 ^ n ≤ v := by
    rcases b with b | b
    · omega
    · exact b
  rw [dg_nat]
  have h1 : 1 ≤ v / 1000000000 ^ n := (Nat.one_le_div_iff (Nat.pow_pos (by decide))).2 b
  have h2 : v / 1000000000 ^ n < 1000000000 := by
    rw [Nat.pow_succ] at a
    exact Nat.div_lt_of_lt_mul a
  rw [Nat.mod_eq_of_lt h2]
  omega
/-- One nought at the end cut off. -/
theorem lt_of_dg_zero {v n : Nat} (h : v < 1000000000 ^ (n + 1)) (z : dg (v : Int) n = 0) : v < 1000000000 ^ n := by
  rcases Nat.lt_or_ge v (1000000000 ^ n) with l | l
  · exact l
  · exact absurd z (dg_top ⟨h, Or.inr (by simpa using l)⟩)
/-- Two numbers of n digits with the same digits are the same. -/
theorem eq_of_dcells : ∀ (n : Nat) (u v : Nat), u < 1000000000 ^ n → v < 1000000000 ^ n → (∀ j, j < n → dg (u : Int) j = dg (v : Int) j) → u = v := by
  intro n
  induction n with
  | zero => intro u v hu hv _; simp at hu hv; omega
  | succ n ih =>
    intro u v hu hv h
    have e := ih (u % 1000000000 ^ n) (v % 1000000000 ^ n) (Nat.mod_lt _ (Nat.pow_pos (by decide))) (Nat.mod_lt _ (Nat.pow_pos (by decide))) (fun j hj => by
      have a : ∀ x : Nat, dg ((x % 1000000000 ^ n : Nat) : Int) j = dg (x : Int) j := fun x => by
        refine dg_congr (i := n) (-((x / 1000000000 ^ n : Nat) : Int)) ?_ hj
        have := Nat.mod_add_div x (1000000000 ^ n)
        rw [← pow_cast, Int.neg_mul, ← Int.natCast_mul, Nat.mul_comm (x / 1000000000 ^ n)]
        omega
      rw [a, a]
      exact h j (by omega))
    have t := h n (by omega)
    rw [dg_nat, dg_nat] at t
    have du : u / 1000000000 ^ n < 1000000000 := by rw [Nat.pow_succ] at hu; exact Nat.div_lt_of_lt_mul hu
    have dv : v / 1000000000 ^ n < 1000000000 := by rw [Nat.pow_succ] at hv; exact Nat.div_lt_of_lt_mul hv
    rw [Nat.mod_eq_of_lt du, Nat.mod_eq_of_lt dv] at t
    have t' : u / 1000000000 ^ n = v / 1000000000 ^ n := by omega
    have h1 := Nat.mod_add_div u (1000000000 ^ n)
    have h2 := Nat.mod_add_div v (1000000000 ^ n)
    rw [e, t'] at h1
    omega
end Go.Proofs.Ytlelbhiebmdnoaa.pc

namespace Go.Proofs.Ytlelbhiebmdnoaa
open Go.RowKit
set_option linter.unusedVariables false

/-- How long a slice is. -/
def slen : Value → Nat
  | .slice _ n _ => n
  | _ => 0
theorem pc_succ (t : Nat) (a : Int) : pc.dcells (t + 1) a = pc.dcells t a ++ [.int .u32 (pc.dg a t)] := by
  unfold pc.dcells; rw [List.range_succ, List.map_append]; rfl
theorem pc_small {u t l : Nat} (h : 1000000000 ^ t ≤ u) (hu : u < 4294967296 ^ l) : t ≤ 2 * l := by
  rcases Nat.lt_or_ge (2 * l) t with h1 | h1
  · have h2 : 4294967296 ^ l ≤ (1000000000 ^ 2) ^ l := Nat.pow_le_pow_left (by decide) l
    rw [← Nat.pow_mul] at h2
    have h3 := Nat.pow_le_pow_right (n := 1000000000) (by decide) (show 2 * l ≤ t by omega)
    omega
  · exact h1
/-- What holds at the head of each round. -/
def PieceRel (w : World) (u la : Nat) (pv rv : Value) (wr : World) : Prop := ∃ (t U : Nat) (ap ar : Option Addr) (cp cr : Nat), t ≤ 2 * la + 1 ∧ (t = 0 ∨ 1000000000 ^ (t - 1) ≤ u) ∧ Hid (U = u / 1000000000 ^ t) ∧ pv = .slice ap t cp ∧ rv = .slice ar (wd.nlen U) cr ∧
  Own wr w.heap.size 74 ap t cp (pc.dcells t (u : Int)) ∧ Own wr w.heap.size 74 ar (wd.nlen U) cr (wd.dcells (wd.nlen U) (U : Int)) ∧
  (∀ b, ar = some b → (Value.slice ap t cp).ownBlock ≠ some b.block) ∧ Below w.heap.size w wr
theorem piece_dg (u t : Nat) : ((u / 1000000000 ^ t : Nat) : Int) % 1000000000 = pc.dg (u : Int) t := by
  rw [pc.dg_nat]; omega
theorem piece_next (u t : Nat) : ((u / 1000000000 ^ t : Nat) : Int) / 1000000000 = ((u / 1000000000 ^ (t + 1) : Nat) : Int) := by
  rw [Nat.pow_succ, ← Nat.div_div_eq_div_mul]; omega
theorem next_le (u t : Nat) : u / 1000000000 ^ (t + 1) ≤ u / 1000000000 ^ t := by
  rw [Nat.pow_succ, ← Nat.div_div_eq_div_mul]; exact Nat.div_le_self _ _
/-- The round's end. -/
theorem pieceRel_next {w wr w2 w4 : World} {u la t g cp cr g' cap' cr' U U' : Nat} {r : Int} {ap ar' : Option Addr} {T : TypeId} (hU' : U' = u / 1000000000 ^ (t + 1)) (hr : r = pc.dg u t) (hle : 1000000000 ^ t ≤ u) (hu : u < 4294967296 ^ la) (hbel : Below w.heap.size w wr) (hg : g < wr.heap.size) (hg2 : w.heap.size ≤ g)
    (hownp : Own wr w.heap.size 74 ap t cp (pc.dcells t (u : Int))) (hne : ∀ b, some (⟨g, 0, none⟩ : Addr) = some b → (Value.slice ap t cp).ownBlock ≠ some b.block)
    (hwr : Wr wr w2 g 0 (wd.nlen U)) (hownr2 : Own w2 w.heap.size 74 (some ⟨g, 0, none⟩) (wd.nlen U) cr (wd.dcells (wd.nlen U) (U' : Int)))
    (h4 : w4.ownsRow w.heap.size 74 1 (.slice (some ⟨g', 0, none⟩) (t + 1) cap') (t + 1) (pc.dcells t (u : Int) ++ [.int .u32 r])) (hgr : (w2.alloc (.cells #[.int .u32 r] T)).grownBy w4 (Value.slice ap t cp).ownBlock)
    (hat : (Value.slice ap t cp).ownBlock = some g' ∨ g' = (w2.alloc (.cells #[.int .u32 r] T)).heap.size) :
    Own w4 w.heap.size 74 (some ⟨g, 0, none⟩) (wd.nlen U) cr (wd.dcells (wd.nlen U) (U' : Int)) ∧
    (∀ cut : Cut (some ⟨g, 0, none⟩) (wd.nlen U) cr ar' (wd.nlen U') cr', PieceRel w u la (.slice (some ⟨g', 0, none⟩) (t + 1) cap') (.slice ar' (wd.nlen U') cr') w4) := by
  subst hr
  have hne' := hne _ rfl
  have hsz := hwr.grown.size
  have hr4 : Own w4 w.heap.size 74 (some ⟨g, 0, none⟩) (wd.nlen U) cr (wd.dcells (wd.nlen U) (U' : Int)) :=
    World.ownsRow.kept (World.ownsRow.alloc hownr2 _) hgr (Or.inr fun e => hne' (by rw [← e]; rfl))
  refine ⟨hr4, fun cut => ⟨t + 1, U', _, ar', cap', cr', by have := pc_small hle hu; omega, Or.inr (by simpa using hle), hU', rfl, rfl, ?_, cut.own hr4, ?_, ?_⟩⟩
  · rw [pc_succ]; exact h4
  · intro b hb e
    simp only [Value.ownBlock, Option.some.injEq] at e
    rcases cut with ⟨_, h, _⟩ | ⟨_, _, h, _⟩
    · rw [h] at hb; cases hb
    · rw [h] at hb
      cases hb
      dsimp only at e
      rcases hat with hat | hat
      · exact hne' (by rw [hat, e])
      · rw [World.size_alloc] at hat; omega
  · have hb2 := hwr.after hbel hg2 (Nat.le_refl _)
    refine ((hb2.alloc hb2.size _).grown hgr ?_ ?_)
    · rw [World.size_alloc]; have := hb2.size; omega
    · intro k hk
      exact (World.ownsRow.lt hownp k hk).1

end Go.Proofs.Ytlelbhiebmdnoaa

namespace Go.Proofs.Ytlelbhiebmdnoaa
open Go.RowKit
set_option linter.unusedVariables false

/-- What holds at the head of each round. -/
def TrimRel (s : ByteArray) (v : Value) : Prop := ∃ t : ByteArray, t.size ≤ s.size ∧ (nums t).dropWhile (· == 48) = (nums s).dropWhile (· == 48) ∧ v = .string t
def strLen : Value → Nat
  | .string s => s.size
  | _ => 0
theorem strLen_str (s : ByteArray) : strLen (.string s) = s.size := rfl
theorem str_of_nums {t : ByteArray} {l : List Int} (h : nums t = l) : t = strOfNums l := by rw [← h, str_nums]
theorem size_tail (t : ByteArray) : (t.extract 1 t.size).size = t.size - 1 := by simp

end Go.Proofs.Ytlelbhiebmdnoaa

namespace Go.Proofs.Ytlelbhiebmdnoaa
open Go.RowKit
set_option linter.unusedVariables false

/-- Bytes written from place p on, noughts ahead. -/
def cellsD (p : Nat) (l : List Int) : List Value := List.replicate p (.int .u8 0) ++ l.map (Value.int .u8)
theorem cellsD_length (p : Nat) (l : List Int) : (cellsD p l).length = p + l.length := by simp [cellsD]
theorem set_replicate {α : Type} (z d : α) (n : Nat) (l : List α) : (List.replicate (n + 1) z ++ l).set n d = List.replicate n z ++ d :: l := by
  rw [List.replicate_succ', List.append_assoc, List.set_append_right _ _ (by simp)]
  simp
theorem cellsD_set (p : Nat) (l : List Int) (d : Int) : (cellsD (p + 1) l).set p (.int .u8 d) = cellsD p (d :: l) := by
  unfold cellsD
  rw [set_replicate, List.map_cons]
theorem cellsD_at (p : Nat) (l : List Int) : (cellsD (p + 1) l)[p]? = some (.int .u8 0) := by
  unfold cellsD
  rw [List.getElem?_append_left (by simp), List.getElem?_replicate, if_pos (by omega)]
theorem infoByte : (Try.prog.info? 5).map (fun i => (i.zero, i.size, i.bytes)) = some (some (.int .u8 0), 1, 1) := by kernel_rfl
/-- The digit at a place, out of a piece. -/
theorem piece_digit (u j k : Nat) (hk : k < 9) : ((u / 1000000000 ^ j % 1000000000 / 10 ^ k : Nat) : Int) % 10 = ((u / 10 ^ (9 * j + k) % 10 : Nat) : Int) := by
  have e1 : (1000000000 : Nat) ^ j = 10 ^ (9 * j) := by rw [Nat.pow_mul]
  have e2 : u / 10 ^ (9 * j + k) = u / 10 ^ (9 * j) / 10 ^ k := by rw [Nat.pow_add, Nat.div_div_eq_div_mul]
  rw [e1, e2]
  generalize u / 10 ^ (9 * j) = x
  have h : (1000000000 : Nat) = 10 ^ k * (10 * 10 ^ (8 - k)) := by
    rw [← Nat.pow_succ', ← Nat.pow_add, show k + (8 - k + 1) = 9 by omega]
  have h2 : x % 1000000000 / 10 ^ k = x / 10 ^ k % (10 * 10 ^ (8 - k)) := by rw [h, Nat.mod_mul_right_div_self]
  rw [h2]
  have h3 := Nat.mod_mul_right_mod (x / 10 ^ k) 10 (10 ^ (8 - k))
  omega
/-- What holds at the head of each round of the inner loop. -/
def TextIn (w2 : World) (base u c j b : Nat) (ev xv iv : Value) (wr : World) : Prop := ∃ (k p : Nat) (X : Int), k ≤ 9 ∧ k + p + 9 * j = 9 * c ∧ iv = .int .i64 (k : Int) ∧ ev = .int .i64 (p : Int) ∧ xv = .int .u32 X ∧ Hid (X = ((u / 1000000000 ^ j % 1000000000 / 10 ^ k : Nat) : Int)) ∧ 0 ≤ X ∧ X < 4294967296 ∧
  Own wr base 5 (some ⟨b, 0, none⟩) (9 * c) (9 * c) (cellsD p (digs (9 * j + k) u)) ∧ Wr w2 wr b 0 (9 * c)
def TextOut (w2 : World) (base u c b : Nat) (ev iv : Value) (wr : World) : Prop := ∃ (j p : Nat), j ≤ c ∧ p + 9 * j = 9 * c ∧ iv = .int .i64 (j : Int) ∧ ev = .int .i64 (p : Int) ∧
  Own wr base 5 (some ⟨b, 0, none⟩) (9 * c) (9 * c) (cellsD p (digs (9 * j) u)) ∧ Wr w2 wr b 0 (9 * c)
theorem textIn_next {w2 wr : World} {base u c j b k p : Nat} {X : Int} (hk : k < 9) (hp : k + (p + 1) + 9 * j = 9 * c) (hX : Hid (X = ((u / 1000000000 ^ j % 1000000000 / 10 ^ k : Nat) : Int))) (h0 : 0 ≤ X) (h1 : X < 4294967296)
    (hown : Own wr base 5 (some ⟨b, 0, none⟩) (9 * c) (9 * c) (cellsD (p + 1) (digs (9 * j + k) u))) (hw : Wr w2 wr b 0 (9 * c)) :
    TextIn w2 base u c j b (.int .i64 (p : Int)) (.int .u32 (X / 10)) (.int .i64 ((k : Int) + 1)) (wr.setCell ⟨b, p, none⟩ (.int .u8 (48 + X % 10))) := by
  refine ⟨k + 1, p, X / 10, by omega, by omega, by simp, rfl, rfl, ?_, by omega, by omega, ?_, hw.set _ (Nat.zero_le _) (by omega)⟩
  · unfold Hid
    rw [hX.out, Nat.pow_succ, ← Nat.div_div_eq_div_mul]
    omega
  · have := Own.set hown (i := p) (.int .u8 (48 + X % 10)) (by omega)
    rw [cellsD_set, hX.out, piece_digit u j k hk, show (48 + ((u / 10 ^ (9 * j + k) % 10 : Nat) : Int)) :: digs (9 * j + k) u = digs (9 * j + (k + 1)) u from rfl] at this
    rw [hX.out, piece_digit u j k hk]
    exact this
theorem pc_piece (u j : Nat) : pc.dg (u : Int) j = ((u / 1000000000 ^ j % 1000000000 : Nat) : Int) := pc.dg_nat u j
theorem digs_text (u : Nat) (hu : 0 < u) : strOfNums ((nums (strOfNums (digs (9 * pc.nlen u) u))).dropWhile (· == 48)) = decS u := by
  rw [nums_str _ fun c hc => by have := digs_bytes _ _ c hc; omega]
  have h1 := isDec_dlen u
  have h2 : dlen u ≤ 9 * pc.nlen u := by
    have hl := pc.nlen_lt u
    have e : (1000000000 : Nat) ^ pc.nlen u = 10 ^ (9 * pc.nlen u) := by rw [Nat.pow_mul]
    rw [e] at hl
    rcases Nat.lt_or_ge (9 * pc.nlen u) (dlen u) with h | h
    · rcases h1.2.2 with h3 | h3
      · have := pc.nlen_pos hu; omega
      · have := Nat.pow_le_pow_right (n := 10) (by decide) (show 9 * pc.nlen u ≤ dlen u - 1 by omega)
        omega
    · exact h
  have := digs_drop (9 * pc.nlen u - dlen u) (dlen u) u hu h1
  rw [show dlen u + (9 * pc.nlen u - dlen u) = 9 * pc.nlen u by omega] at this
  rw [this]
  rfl
theorem pc_few {u l : Nat} (h : u < 4294967296 ^ l) : pc.nlen u ≤ 2 * l + 1 := by
  rcases (pc.nlen_is u).2 with h1 | h1
  · omega
  · have := pc_small h1 h; omega

end Go.Proofs.Ytlelbhiebmdnoaa

namespace Go.Proofs.Ytlelbhiebmdnoaa
open Go.RowKit
set_option linter.unusedVariables false

/-- The slice is the number u, without noughts at its end. -/
structure ND (w : World) (a : Option Addr) (l c u : Nat) : Prop where
  sl : Sl w a l c (wd.dcells l (u : Int))
  len : l = wd.nlen u
/-- The slice is the number u, and not too long. -/
structure NI (w : World) (a : Option Addr) (l c u : Nat) : Prop where
  sl : Sl w a l c (wd.dcells l (u : Int))
  lt : u < 4294967296 ^ l
  few : l ≤ 1000000
theorem ND.below {w w' : World} {a : Option Addr} {l c u : Nat} (h : ND w a l c u) (hb : Below w.heap.size w w') : ND w' a l c u := ⟨h.sl.below hb, h.len⟩
theorem NI.below {w w' : World} {a : Option Addr} {l c u : Nat} (h : NI w a l c u) (hb : Below w.heap.size w w') : NI w' a l c u := ⟨h.sl.below hb, h.lt, h.few⟩
theorem ND.lt {w : World} {a : Option Addr} {l c u : Nat} (h : ND w a l c u) : u < 4294967296 ^ l := by rw [h.len]; exact wd.nlen_lt u
theorem ND.ni {w : World} {a : Option Addr} {l c u : Nat} (h : ND w a l c u) (K : Nat) (hK : K ≤ 1000000) (hu : u < 4294967296 ^ K) : NI w a l c u := ⟨h.sl, h.lt, by rw [h.len]; exact Nat.le_trans (wd.nlen_le hu) hK⟩
theorem ND.to {w : World} {a : Option Addr} {l c u : Nat} (h : ND w a l c u) (hl : l ≤ 1000000) : NI w a l c u := ⟨h.sl, h.lt, hl⟩
theorem nd_nil (w : World) : ND w none 0 0 0 := ⟨sl_nil w, wd.nlen_zero.symm⟩
def GotN (w : World) (u : Nat) (e : Ending) (w' : World) : Prop := ∃ a l c, e = .returned (.slice a l c) ∧ ND w' a l c u ∧ Below w.heap.size w w'
theorem gotN {w w' : World} {u : Nat} {e : Ending} (h : ∃ a' cap', e = .returned (.slice a' (wd.nlen u) cap') ∧ Own w' w.heap.size 74 a' (wd.nlen u) cap' (wd.dcells (wd.nlen u) (u : Int)) ∧ Below w.heap.size w w') : GotN w u e w' := by
  obtain ⟨a, c, he, ho, hb⟩ := h
  exact ⟨a, _, c, he, ⟨Own.sl ho, rfl⟩, hb⟩
def GotB (w : World) (q r : Nat) (e : Ending) (w' : World) : Prop := ∃ aq lq cq ar lr cr, e = .returned (.tuple #[.slice aq lq cq, .slice ar lr cr, .int .i64 0]) ∧ ND w' aq lq cq q ∧ ND w' ar lr cr r ∧ Below w.heap.size w w'
def GotS (w : World) (u : Nat) (e : Ending) (w' : World) : Prop := ∃ a l c, e = .returned (.tuple #[.slice a l c, .bool true]) ∧ ND w' a l c u ∧ Below w.heap.size w w'
end Go.Proofs.Ytlelbhiebmdnoaa

namespace Go.Proofs.Ytlelbhiebmdnoaa
open Go.RowKit
set_option linter.unusedVariables false

/-- The slice has nothing in block k. -/
def NA (k : Nat) (a : Option Addr) (l : Nat) : Prop := l = 0 ∨ ∀ o, a ≠ some ⟨k, o, none⟩
/-- The slice has nothing in the blocks ahead of base. -/
def Far (base : Nat) (a : Option Addr) (l : Nat) : Prop := ∀ k, k < base → NA k a l
theorem Far.mono {base base' : Nat} {a : Option Addr} {l : Nat} (h : Far base a l) (hb : base' ≤ base) : Far base' a l := fun k hk => h k (by omega)
theorem far_nil (base : Nat) (a : Option Addr) : Far base a 0 := fun _ _ => Or.inl rfl
theorem Sl.na {w : World} {a : Option Addr} {l c k : Nat} {xs : List Value} (h : Sl w a l c xs) (hk : w.heap.size ≤ k) : NA k a l := by
  rcases Nat.eq_zero_or_pos l with e | e
  · exact Or.inl e
  · obtain ⟨b, o, rfl, hb, _⟩ := h.at e
    exact Or.inr fun o' e' => by cases e'; omega
theorem Sl.put {w : World} {a : Option Addr} {l c b : Nat} {xs : List Value} (h : Sl w a l c xs) (hn : NA b a l) (i : Nat) (v : Value) : Sl (w.setCell ⟨b, i, none⟩ v) a l c xs := by
  refine ⟨h.len, h.room, h.big, h.nil, ?_⟩
  rcases hn with e | hn
  · exact Or.inl e
  · refine h.seg.imp id ?_
    rintro ⟨k, o, e, hk, hs⟩
    exact ⟨k, o, e, by simpa using hk, hs.other v (by rintro rfl; exact hn o e)⟩
theorem Own.far {w : World} {base n cap : Nat} {T : TypeId} {a : Option Addr} {xs : List Value} (h : Own w base T a n cap xs) : Far base a n := by
  intro k hk
  right
  intro o e
  obtain ⟨hl, ⟨h1, _⟩ | ⟨g, cap', cur, hv, hb', r⟩⟩ := h
  · rw [e] at h1
    cases h1
  · rw [e] at hv
    cases hv
    omega
theorem ND.put {w : World} {a : Option Addr} {l c u b : Nat} (h : ND w a l c u) (hn : NA b a l) (i : Nat) (v : Value) : ND (w.setCell ⟨b, i, none⟩ v) a l c u := ⟨h.sl.put hn i v, h.len⟩
theorem NI.put {w : World} {a : Option Addr} {l c u b : Nat} (h : NI w a l c u) (hn : NA b a l) (i : Nat) (v : Value) : NI (w.setCell ⟨b, i, none⟩ v) a l c u := ⟨h.sl.put hn i v, h.lt, h.few⟩
def GotF (w : World) (u : Nat) (e : Ending) (w' : World) : Prop := ∃ a l c, e = .returned (.slice a l c) ∧ ND w' a l c u ∧ Far w.heap.size a l ∧ Below w.heap.size w w'
theorem gotF {w w' : World} {u : Nat} {e : Ending} (h : ∃ a' cap', e = .returned (.slice a' (wd.nlen u) cap') ∧ Own w' w.heap.size 74 a' (wd.nlen u) cap' (wd.dcells (wd.nlen u) (u : Int)) ∧ Below w.heap.size w w') : GotF w u e w' := by
  obtain ⟨a, c, he, ho, hb⟩ := h
  exact ⟨a, _, c, he, ⟨Own.sl ho, rfl⟩, Own.far ho, hb⟩
def GotBF (w : World) (q r : Nat) (e : Ending) (w' : World) : Prop := ∃ aq lq cq ar lr cr, e = .returned (.tuple #[.slice aq lq cq, .slice ar lr cr, .int .i64 0]) ∧ ND w' aq lq cq q ∧ ND w' ar lr cr r ∧ Far w.heap.size aq lq ∧ Far w.heap.size ar lr ∧ Below w.heap.size w w'
def GotSF (w : World) (u : Nat) (e : Ending) (w' : World) : Prop := ∃ a l c, e = .returned (.tuple #[.slice a l c, .bool true]) ∧ ND w' a l c u ∧ Far w.heap.size a l ∧ Below w.heap.size w w'
theorem cell_on {w w' : World} {p : Addr} {v : Value} (hb : Below w.heap.size w w') (h : w.cell? p = some v) : w'.cell? p = some v := by
  refine (hb.cell (p := p) ?_).trans h
  refine Nat.lt_of_not_le fun hle => ?_
  unfold World.cell? at h
  rw [Array.getElem?_eq_none hle] at h
  simp at h
theorem free_on {w w' : World} {p : Addr} {v : Value} {f : Bool} (hb : Below w.heap.size w w') (h : w.cell? p = some v) (hf : w.frozen? p = f) : w'.frozen? p = f := by
  refine (hb.frozen (p := p) ?_).trans hf
  refine Nat.lt_of_not_le fun hle => ?_
  unfold World.cell? at h
  rw [Array.getElem?_eq_none hle] at h
  simp at h
/-- A block of two cells: what they hold, and that they can be written. -/
structure Bx (w : World) (b : Nat) (x y : Value) : Prop where
  c0 : w.cell? ⟨b, 0, none⟩ = some x
  c1 : w.cell? ⟨b, 1, none⟩ = some y
  f0 : w.frozen? ⟨b, 0, none⟩ = false
  f1 : w.frozen? ⟨b, 1, none⟩ = false
theorem Bx.on {w w' : World} {b : Nat} {x y : Value} (h : Bx w b x y) (hb : Below w.heap.size w w') : Bx w' b x y := ⟨cell_on hb h.c0, cell_on hb h.c1, free_on hb h.c0 h.f0, free_on hb h.c1 h.f1⟩
theorem bx_new (w : World) (x y : Value) (t : TypeId) : Bx (w.alloc (.cells #[x, y] t)) w.heap.size x y := by
  have h := Row.new w [x, y] t
  exact ⟨h.cell 0 _ rfl, h.cell 1 _ rfl, h.free 0 (by simp), h.free 1 (by simp)⟩
theorem bx_lt {w : World} {b : Nat} {x y : Value} (h : Bx w b x y) : b < w.heap.size := by
  refine Nat.lt_of_not_le fun hle => ?_
  have := h.c0
  unfold World.cell? at this
  rw [Array.getElem?_eq_none hle] at this
  simp at this
theorem Bx.put {w : World} {b k i : Nat} {x y v : Value} (h : Bx w b x y) (hk : k ≠ b) : Bx (w.setCell ⟨k, i, none⟩ v) b x y := by
  have hne : ∀ j, (⟨k, i, none⟩ : Addr) ≠ ⟨b, j, none⟩ := fun j e => by cases e; exact hk rfl
  refine ⟨?_, ?_, by rw [World.frozen?_setCell]; exact h.f0, by rw [World.frozen?_setCell]; exact h.f1⟩
  · rw [World.cell?_setCell_other _ _ _ _ (by intro q; simp only [Addr.mk.injEq] at q; omega)]; exact h.c0
  · rw [World.cell?_setCell_other _ _ _ _ (by intro q; simp only [Addr.mk.injEq] at q; omega)]; exact h.c1
theorem Bx.set {w : World} {b : Nat} {x y u v : Value} (h : Bx w b x y) : Bx ((w.setCell ⟨b, 0, none⟩ u).setCell ⟨b, 1, none⟩ v) b u v := by
  refine ⟨?_, ?_, by rw [World.frozen?_setCell, World.frozen?_setCell]; exact h.f0, by rw [World.frozen?_setCell, World.frozen?_setCell]; exact h.f1⟩
  · rw [World.cell?_setCell_other _ _ _ _ (by intro q; simp only [Addr.mk.injEq] at q; omega)]
    exact World.cell?_setCell_same _ _ _ h.c0
  · have h1 : (w.setCell ⟨b, 0, none⟩ u).cell? ⟨b, 1, none⟩ = some y := by
      rw [World.cell?_setCell_other _ _ _ _ (by intro q; simp only [Addr.mk.injEq] at q; omega)]
      exact h.c1
    exact World.cell?_setCell_same _ _ _ h1
end Go.Proofs.Ytlelbhiebmdnoaa

namespace Go.Proofs.Ytlelbhiebmdnoaa
open Go.RowKit
set_option linter.unusedVariables false

/-- A whole number as it comes: a sign, which does not count of nought, and how much. -/
structure WI (w : World) (n : Bool) (a : Option Addr) (l c : Nat) (z : Int) : Prop where
  ni : NI w a l c z.natAbs
  neg : n = true → z ≤ 0
  pos : n = false → 0 ≤ z
/-- A whole number in its one form. -/
structure WN (w : World) (n : Bool) (a : Option Addr) (l c : Nat) (z : Int) : Prop where
  nd : ND w a l c z.natAbs
  sg : n = decide (z < 0)
theorem WI.below {w w' : World} {n : Bool} {a : Option Addr} {l c : Nat} {z : Int} (h : WI w n a l c z) (hb : Below w.heap.size w w') : WI w' n a l c z := ⟨h.ni.below hb, h.neg, h.pos⟩
theorem WN.below {w w' : World} {n : Bool} {a : Option Addr} {l c : Nat} {z : Int} (h : WN w n a l c z) (hb : Below w.heap.size w w') : WN w' n a l c z := ⟨h.nd.below hb, h.sg⟩
theorem WN.wi {w : World} {n : Bool} {a : Option Addr} {l c : Nat} {z : Int} (h : WN w n a l c z) (K : Nat) (hK : K ≤ 1000000) (hz : z.natAbs < 4294967296 ^ K) : WI w n a l c z :=
  ⟨h.nd.ni K hK hz, fun e => by have := h.sg; rw [e] at this; have := of_decide_eq_true this.symm; omega, fun e => by have := h.sg; rw [e] at this; have := of_decide_eq_false this.symm; omega⟩
/-- The number of a sign and how much. -/
def sgz (n : Bool) (u : Nat) : Int := if n then -(u : Int) else u
theorem sgz_abs (n : Bool) (u : Nat) : (sgz n u).natAbs = u := by unfold sgz; split <;> omega
theorem WI.is {w : World} {n : Bool} {a : Option Addr} {l c : Nat} {z : Int} (h : WI w n a l c z) : z = sgz n z.natAbs := by
  have h1 := h.neg
  have h2 := h.pos
  unfold sgz
  cases n
  · have := h2 rfl; simp; omega
  · have := h1 rfl; simp; omega
theorem wi_of {w : World} {n : Bool} {a : Option Addr} {l c u : Nat} (h : NI w a l c u) : WI w n a l c (sgz n u) := by
  refine ⟨by rw [sgz_abs]; exact h, fun e => ?_, fun e => ?_⟩ <;> subst e <;> simp [sgz] <;> omega
def GotW (w : World) (z : Int) (e : Ending) (w' : World) : Prop := ∃ (n : Bool) (a : Option Addr) (l c : Nat), e = .returned (.agg #[.bool n, .slice a l c]) ∧ WN w' n a l c z ∧ Far w.heap.size a l ∧ Below w.heap.size w w'

theorem WN.put {w : World} {n : Bool} {a : Option Addr} {l c b : Nat} {z : Int} (h : WN w n a l c z) (hn : NA b a l) (i : Nat) (v : Value) : WN (w.setCell ⟨b, i, none⟩ v) n a l c z := ⟨h.nd.put hn i v, h.sg⟩
theorem WI.put {w : World} {n : Bool} {a : Option Addr} {l c b : Nat} {z : Int} (h : WI w n a l c z) (hn : NA b a l) (i : Nat) (v : Value) : WI (w.setCell ⟨b, i, none⟩ v) n a l c z := ⟨h.ni.put hn i v, h.neg, h.pos⟩
theorem WN.put2 {w : World} {n : Bool} {a : Option Addr} {l c b : Nat} {z : Int} (h : WN w n a l c z) (hn : NA b a l) (u v : Value) : WN ((w.setCell ⟨b, 0, none⟩ u).setCell ⟨b, 1, none⟩ v) n a l c z := (h.put hn 0 u).put hn 1 v
theorem WI.put2 {w : World} {n : Bool} {a : Option Addr} {l c b : Nat} {z : Int} (h : WI w n a l c z) (hn : NA b a l) (u v : Value) : WI ((w.setCell ⟨b, 0, none⟩ u).setCell ⟨b, 1, none⟩ v) n a l c z := (h.put hn 0 u).put hn 1 v
theorem below_put2 {B b : Nat} {w w' : World} (h : Below B w w') (hb : B ≤ b) (u v : Value) : Below B w ((w'.setCell ⟨b, 0, none⟩ u).setCell ⟨b, 1, none⟩ v) := (h.setCell hb _).setCell hb _
/-- The number with this sign, in its one form. -/
def Signed (w : World) (a : Option Addr) (l c : Nat) (z : Int) (e : Ending) (w' : World) : Prop := ∃ n, e = .returned (.agg #[.bool n, .slice a l c]) ∧ WN w' n a l c z ∧ Below w.heap.size w w'
theorem add_same (n : Bool) (u v : Nat) : sgz n (u + v) = sgz n u + sgz n v := by unfold sgz; split <;> omega
theorem add_more (n m : Bool) (u v : Nat) (h : n ≠ m) (hle : v ≤ u) : sgz n (u - v) = sgz n u + sgz m v := by
  unfold sgz
  cases n <;> cases m <;> simp_all <;> omega
theorem add_less (n m : Bool) (u v : Nat) (h : n ≠ m) (hle : u ≤ v) : sgz m (v - u) = sgz n u + sgz m v := by
  unfold sgz
  cases n <;> cases m <;> simp_all <;> omega

theorem endW {w W w2 : World} {n : Bool} {a : Option Addr} {l c : Nat} {z : Int} (k : Nat) (hk : w.heap.size ≤ k) (hs : k < W.heap.size) (B : Below w.heap.size w w2) (h : WN w2 n a l c z) (f : Far W.heap.size a l) (u v : Value) :
    GotW w z (.returned (.agg #[.bool n, .slice a l c])) ((w2.setCell ⟨k, 0, none⟩ u).setCell ⟨k, 1, none⟩ v) :=
  ⟨n, a, l, c, rfl, h.put2 (f k hs) u v, f.mono (by omega), below_put2 B hk u v⟩
theorem also {w w1 w2 : World} (h : Below w.heap.size w w1) (k : Below w1.heap.size w1 w2) : Below w.heap.size w w2 := h.trans (k.mono h.size)

end Go.Proofs.Ytlelbhiebmdnoaa

namespace Go.Proofs.Ytlelbhiebmdnoaa
open Go.RowKit
set_option linter.unusedVariables false

theorem box1 (w : World) (x1 y1 z1 z2 : Value) (t1 t2 : TypeId) : Below w.heap.size w ((w.alloc (.cells #[x1, y1] t1)).alloc (.cells #[z1, z2] t2)) ∧ Bx ((w.alloc (.cells #[x1, y1] t1)).alloc (.cells #[z1, z2] t2)) w.heap.size x1 y1 ∧
    Bx ((w.alloc (.cells #[x1, y1] t1)).alloc (.cells #[z1, z2] t2)) (w.heap.size + 1) z1 z2 ∧ w.heap.size + 1 < ((w.alloc (.cells #[x1, y1] t1)).alloc (.cells #[z1, z2] t2)).heap.size := by
  have h1 := (bx_new w x1 y1 t1).on ((Below.refl _ _).alloc (Nat.le_refl _) (.cells #[z1, z2] t2))
  have h2 := bx_new (w.alloc (.cells #[x1, y1] t1)) z1 z2 t2
  rw [World.size_alloc] at h2
  exact ⟨((Below.refl _ _).alloc (Nat.le_refl _) _).alloc (by simp) _, h1, h2, by simp⟩
theorem box2 (w : World) (x1 y1 x2 y2 z1 z2 : Value) (t1 t2 t3 : TypeId) : Below w.heap.size w (((w.alloc (.cells #[x1, y1] t1)).alloc (.cells #[x2, y2] t2)).alloc (.cells #[z1, z2] t3)) ∧ Bx (((w.alloc (.cells #[x1, y1] t1)).alloc (.cells #[x2, y2] t2)).alloc (.cells #[z1, z2] t3)) w.heap.size x1 y1 ∧
    Bx (((w.alloc (.cells #[x1, y1] t1)).alloc (.cells #[x2, y2] t2)).alloc (.cells #[z1, z2] t3)) (w.heap.size + 1) x2 y2 ∧ Bx (((w.alloc (.cells #[x1, y1] t1)).alloc (.cells #[x2, y2] t2)).alloc (.cells #[z1, z2] t3)) (w.heap.size + 1 + 1) z1 z2 ∧
    w.heap.size + 1 + 1 < (((w.alloc (.cells #[x1, y1] t1)).alloc (.cells #[x2, y2] t2)).alloc (.cells #[z1, z2] t3)).heap.size := by
  obtain ⟨h1, h2, h3, h4⟩ := box1 w x1 y1 x2 y2 t1 t2
  have hb : Below ((w.alloc (.cells #[x1, y1] t1)).alloc (.cells #[x2, y2] t2)).heap.size ((w.alloc (.cells #[x1, y1] t1)).alloc (.cells #[x2, y2] t2)) (((w.alloc (.cells #[x1, y1] t1)).alloc (.cells #[x2, y2] t2)).alloc (.cells #[z1, z2] t3)) := (Below.refl _ _).alloc (Nat.le_refl _) _
  have h5 := bx_new ((w.alloc (.cells #[x1, y1] t1)).alloc (.cells #[x2, y2] t2)) z1 z2 t3
  rw [World.size_alloc, World.size_alloc] at h5
  exact ⟨also h1 hb, h2.on hb, h3.on hb, h5, by simp⟩
theorem keepB1 {n : Nat} {v1 v2 : Value} {w0 w w' : World} (h : w.cell? ⟨n, 0, none⟩ = some v1 ∧ w.cell? ⟨n, 1, none⟩ = some v2 ∧ Below w0.heap.size w0 w) (hb : Below w.heap.size w w') : w'.cell? ⟨n, 0, none⟩ = some v1 ∧ w'.cell? ⟨n, 1, none⟩ = some v2 ∧ Below w0.heap.size w0 w' :=
  ⟨cell_on hb h.1, cell_on hb h.2.1, also h.2.2 hb⟩
theorem keepB2 {n : Nat} {v1 v2 v3 v4 : Value} {w0 w w' : World} (h : w.cell? ⟨n, 0, none⟩ = some v1 ∧ w.cell? ⟨n, 1, none⟩ = some v2 ∧ w.cell? ⟨n + 1, 0, none⟩ = some v3 ∧ w.cell? ⟨n + 1, 1, none⟩ = some v4 ∧ Below w0.heap.size w0 w) (hb : Below w.heap.size w w') :
    w'.cell? ⟨n, 0, none⟩ = some v1 ∧ w'.cell? ⟨n, 1, none⟩ = some v2 ∧ w'.cell? ⟨n + 1, 0, none⟩ = some v3 ∧ w'.cell? ⟨n + 1, 1, none⟩ = some v4 ∧ Below w0.heap.size w0 w' :=
  ⟨cell_on hb h.1, cell_on hb h.2.1, cell_on hb h.2.2.1, cell_on hb h.2.2.2.1, also h.2.2.2.2 hb⟩
theorem keepS1 {n k : Nat} {v1 v2 : Value} {w0 w : World} (h : w.cell? ⟨n, 0, none⟩ = some v1 ∧ w.cell? ⟨n, 1, none⟩ = some v2 ∧ Below w0.heap.size w0 w) (hk : n < k) (hB : w0.heap.size ≤ k) (u v : Value) :
    ((w.setCell ⟨k, 0, none⟩ u).setCell ⟨k, 1, none⟩ v).cell? ⟨n, 0, none⟩ = some v1 ∧ ((w.setCell ⟨k, 0, none⟩ u).setCell ⟨k, 1, none⟩ v).cell? ⟨n, 1, none⟩ = some v2 ∧ Below w0.heap.size w0 ((w.setCell ⟨k, 0, none⟩ u).setCell ⟨k, 1, none⟩ v) := by
  have hne : ∀ i j : Nat, (⟨k, i, none⟩ : Addr) ≠ ⟨n, j, none⟩ := fun i j e => by simp only [Addr.mk.injEq] at e; omega
  exact ⟨by rw [World.cell?_setCell_other _ _ _ _ (hne _ _), World.cell?_setCell_other _ _ _ _ (hne _ _)]; exact h.1, by rw [World.cell?_setCell_other _ _ _ _ (hne _ _), World.cell?_setCell_other _ _ _ _ (hne _ _)]; exact h.2.1, below_put2 h.2.2 hB u v⟩
theorem keepS2 {n k : Nat} {v1 v2 v3 v4 : Value} {w0 w : World} (h : w.cell? ⟨n, 0, none⟩ = some v1 ∧ w.cell? ⟨n, 1, none⟩ = some v2 ∧ w.cell? ⟨n + 1, 0, none⟩ = some v3 ∧ w.cell? ⟨n + 1, 1, none⟩ = some v4 ∧ Below w0.heap.size w0 w) (hk : n + 1 < k) (hB : w0.heap.size ≤ k) (u v : Value) :
    ((w.setCell ⟨k, 0, none⟩ u).setCell ⟨k, 1, none⟩ v).cell? ⟨n, 0, none⟩ = some v1 ∧ ((w.setCell ⟨k, 0, none⟩ u).setCell ⟨k, 1, none⟩ v).cell? ⟨n, 1, none⟩ = some v2 ∧ ((w.setCell ⟨k, 0, none⟩ u).setCell ⟨k, 1, none⟩ v).cell? ⟨n + 1, 0, none⟩ = some v3 ∧ ((w.setCell ⟨k, 0, none⟩ u).setCell ⟨k, 1, none⟩ v).cell? ⟨n + 1, 1, none⟩ = some v4 ∧ Below w0.heap.size w0 ((w.setCell ⟨k, 0, none⟩ u).setCell ⟨k, 1, none⟩ v) := by
  obtain ⟨h1, h2, h3, h4, h5⟩ := h
  obtain ⟨a1, a2, _⟩ := keepS1 ⟨h1, h2, h5⟩ (by omega) hB u v
  obtain ⟨b1, b2, b3⟩ := keepS1 ⟨h3, h4, h5⟩ hk hB u v
  exact ⟨a1, a2, b1, b2, b3⟩
theorem Bx.drew {w : World} {b : Nat} {x y : Value} (h : Bx w b x y) : Bx w.drew b x y := ⟨h.c0, h.c1, h.f0, h.f1⟩
theorem sub_sg (n m : Bool) (u v : Nat) : sgz n u - sgz m v = sgz n u + sgz (!m) v := by
  unfold sgz
  cases m <;> simp <;> omega
theorem neg_sg (n : Bool) (u : Nat) : - sgz n u = sgz (!n) u := by
  unfold sgz
  cases n <;> simp

theorem mul_sg (n m : Bool) (u v : Nat) : sgz n u * sgz m v = sgz (n != m) (u * v) := by
  unfold sgz
  cases n <;> cases m <;> simp [Int.natCast_mul, Int.mul_neg, Int.neg_mul]
end Go.Proofs.Ytlelbhiebmdnoaa

namespace Go.Proofs.Ytlelbhiebmdnoaa
open Go.RowKit
set_option linter.unusedVariables false

theorem bt_zero {u : Nat} : bt.nlen u = 0 ↔ u = 0 := by
  constructor
  · intro h
    have := bt.nlen_lt u
    rw [h] at this
    simpa using this
  · rintro rfl
    exact bt.nlen_zero
theorem dlen_le {u l : Nat} (h : u < 4294967296 ^ l) : dlen u ≤ 10 * l + 1 := by
  obtain ⟨h1, h2, h3⟩ := isDec_dlen u
  rcases h3 with h3 | h3
  · omega
  · rcases Nat.lt_or_ge (10 * l) (dlen u - 1) with h4 | h4
    · have a1 := Nat.pow_le_pow_right (n := 10) (by decide) (show 10 * l ≤ dlen u - 1 by omega)
      have a2 : 4294967296 ^ l ≤ (10 ^ 10) ^ l := Nat.pow_le_pow_left (by decide) l
      rw [← Nat.pow_mul] at a2
      omega
    · omega
/-- A whole number's text. -/
def decZ (z : Int) : ByteArray := if z < 0 then ⟨#[45]⟩ ++ decS z.natAbs else decS z.natAbs
end Go.Proofs.Ytlelbhiebmdnoaa
