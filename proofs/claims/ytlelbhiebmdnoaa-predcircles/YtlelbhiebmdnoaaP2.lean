
/-
  Joined texts, part 2:
  What zelligeref03's Trim and Of answer.
  What zelligeref03's Nat and Same answer.
  What zelligeref03's Same answers of a number and its digits.
  What nat's DivMod answers, where the divisor is nought, longer, or one word.
  Numbers as digits to the base 2: which digits a sum, a difference, a product has. It imports nothing of the program.
  How many digits a number needs, to the base 2, and its digits without noughts at the end. It imports nothing of the program.
  How many bits a number needs: math/bits.Len32 off the shelf, nat's Bits, and zelligeref03's Half and Bits.
  What nat's shiftUp and shiftDown answer, and math/bits.LeadingZeros32.
  What nat's guess answers: right, or one too high.
  What nat's shiftDown and takeOff answer.
  What nat's divideLong answers, and DivMod where the divisor has two words at least.
  What nat's DivMod answers.
  slices.Backward over a nat: what a loop over it is handed.
  What nat's Cmp answers.
  What nat's Cmp answers where both numbers have the same length.
  What nat's Sub answers.
  Decimal digits of numbers of any length, and bytes of texts as numbers. It imports nothing of the program.
  Numbers as digits to the base 1000000000: which digits a sum, a difference, a product has. It imports nothing of the program.
  How many digits a number needs, to the base 1000000000, and its digits without noughts at the end. It imports nothing of the program.
  What nat's piecesOf answers.
  strings.TrimLeft at the cutset "0".
  What nat's Show answers.
  What nat answers, with letters for the lengths: the contracts of the other texts, said once more for those who call nat.
  Slices apart from a block, so that what is stored there leaves them as they are; and what nat answers, apart from all that was there before.
  Whole numbers in memory; what package whole's signed and plus answer.
  What package whole's Add, Sub, Neg, Norm and Mul answer.
  What package whole's Of, Sign and Show answer.
-/
import Derived.Test.YtlelbhiebmdnoaaP1
import Derived.Deep.AppendLies
import Derived.WalkKit
import Derived.Shelf.Abstract
import Derived.Lib.ItoaNum
import Derived.BigQuiet
import Derived.RangeFuncNested
import Derived.RangeFuncBound
import Derived.RangeFuncCalls
import Derived.RangeFuncLeaves
import Derived.RangeFuncBox
import Derived.Shelf.RegionOpen
import Derived.OwnWalkIn
import Derived.TacticsInMore
import Derived.LoopNIn
import Derived.LoopIn
import Derived.Laws.BytesArg
import Derived.Lib.IndexBytes
import Derived.Deep.RegionHeld3
namespace Go.Proofs.Ytlelbhiebmdnoaa
open Go.RowKit
set_option linter.unusedVariables false

set_option maxRecDepth 100000 in
set_option maxHeartbeats 400000 in
theorem rtrim_own (a : Option Addr) (l cap u base : Nat) (w : World) (hown : Own w base 3 a l cap (hf.dcells l (u : Int))) (hu : u < 65536 ^ l) :
    Calls Try.prog 47 #[.slice a l cap] w fun e w' => e = .returned (.slice a (hf.nlen u) cap) ∧ w = w' ∧ Own w base 3 a (hf.nlen u) cap (hf.dcells (hf.nlen u) (u : Int)) := by
  have hs := Own.sl hown
  have hcap := hs.big
  have hroom := hs.room
  unfold maxLen at hcap
  have HO : Hid (Own w base 3 a (hf.nlen u) cap (hf.dcells (hf.nlen u) (u : Int))) := by
    have := Own.take hown (hf.nlen_le hu)
    rwa [hf.dcells_take _ _ _ (hf.nlen_le hu)] at this
  have hsh : (a = none ∧ cap = 0) ∨ ∃ g, a = some ⟨g, 0, none⟩ := by
    obtain ⟨_, ⟨h1, _⟩ | ⟨g, cap', cur, hv, _⟩⟩ := hown
    · cases h1; exact Or.inl ⟨rfl, rfl⟩
    · cases hv; exact Or.inr ⟨g, rfl⟩
  rcases hsh with ⟨rfl, rfl⟩ | ⟨g, rfl⟩
  · obtain rfl : l = 0 := by omega
    have hz : Hid (hf.nlen u = 0) := hf.nlen_eq_zero.2 (by simpa using hu)
    clear hown hs
    go_enter Try.func47, Try.ntmps47
    go_wp2
    go_loop [3] (fun i => i = .int .i64 0) (fun i => (intOf i).toNat)
    case atStart => rfl
    case round =>
      obtain rfl := hrel
      go_wp2
      go_ret
      exact ⟨by rw [hz.out]; rfl, rfl, HO.out⟩
  · go_enter Try.func47, Try.ntmps47
    go_wp2
    go_loop [3] (fun i => ∃ k : Nat, k ≤ l ∧ u < 65536 ^ k ∧ i = .int .i64 (k : Int)) (fun i => (intOf i).toNat)
    case atStart => exact ⟨l, Nat.le_refl _, hu, rfl⟩
    case round =>
      obtain ⟨k, hk, huk, rfl⟩ := hrel
      rcases k with _ | k
      · have hz : Hid (hf.nlen u = 0) := hf.nlen_eq_zero.2 (by simpa using huk)
        clear hu huk
        go_wp2
        go_ret
        exact ⟨by rw [hz.out]; rfl, rfl, HO.out⟩
      · have c1 : w.cell? ⟨g, k, none⟩ = some (.int .i64 (hf.dg u k)) := Own.cell hown k _ (hf.dcells_at _ _ _ (by omega))
        have e1 : ((k + 1 : Nat) : Int) - 1 = (k : Int) := by omega
        by_cases hd : hf.dg (u : Int) k = 0
        · have hd' : (hf.dg (u : Int) k == 0) = true := by rw [hd]; rfl
          have Hn : Hid (u < 65536 ^ k) := hf.lt_of_dg_zero huk hd
          clear hd huk hu hown
          go_wp2
          go_round
          case rel => exact ⟨k, by omega, Hn.out, by go_num⟩
          case measure => simp [intOf]
        · have hd' : (hf.dg (u : Int) k == 0) = false := by simpa using hd
          have Hl : Hid (hf.nlen u = k + 1) := by
            refine hf.nlen_eq ⟨huk, Or.inr ?_⟩
            rcases Nat.lt_or_ge u (65536 ^ k) with h | h
            · exact absurd (hf.dg_over h) hd
            · simpa using h
          clear hd huk hu hown
          go_wp2
          go_ret
          exact ⟨by rw [Hl.out]; rfl, rfl, HO.out⟩

/-- Two digits for each word. -/
theorem halves (u : Int) (k : Nat) : hf.dg u (2 * k) = wd.dg u k % 65536 ∧ hf.dg u (2 * k + 1) = wd.dg u k / 65536 := by
  unfold hf.dg wd.dg
  have e : (65536 : Int) ^ (2 * k) = 4294967296 ^ k := by rw [Int.pow_mul]; rfl
  have e2 : (65536 : Int) ^ (2 * k + 1) = 4294967296 ^ k * 65536 := by rw [Int.pow_succ, e]
  have hp := wd.p256 k
  rw [e, e2]
  have : u / (4294967296 ^ k * 65536) = u / 4294967296 ^ k / 65536 := by rw [Int.ediv_ediv, if_neg (by omega)]; omega
  rw [this]
  omega
theorem pow_halves (k : Nat) : 65536 ^ (2 * k) = 4294967296 ^ k := by rw [Nat.pow_mul]
theorem hf_two (t : Nat) (u : Int) : hf.dcells (2 * (t + 1)) u = hf.dcells (2 * t) u ++ [.int .i64 (wd.dg u t % 65536), .int .i64 (wd.dg u t / 65536)] := by
  rw [show 2 * (t + 1) = 2 * t + 1 + 1 by omega, hf.dcells_succ, hf.dcells_succ, (halves u t).1, (halves u t).2, List.append_assoc]
  rfl
/-- What holds at the head of each round. -/
def OfRel (w : World) (u l : Nat) (v i : Value) (wr : World) : Prop := ∃ (k cap : Nat) (a : Option Addr), k ≤ l ∧ i = .int .i64 (k : Int) ∧ v = .slice a (2 * k) cap ∧ Own wr w.heap.size 3 a (2 * k) cap (hf.dcells (2 * k) (u : Int)) ∧ Below w.heap.size w wr
theorem ofRel_next {w wr w2 w4 : World} {u l k cap cap' g' : Nat} {a : Option Addr} (hk : k < l) (hown : Own wr w.heap.size 3 a (2 * k) cap (hf.dcells (2 * k) (u : Int))) (hbel : Below w.heap.size w wr)
    (h4 : w4.ownsRow w.heap.size 3 1 (.slice (some ⟨g', 0, none⟩) (2 * k + 2) cap') (2 * k + 2) (hf.dcells (2 * k) (u : Int) ++ [.int .i64 (wd.dg u k % 65536), .int .i64 (wd.dg u k / 65536)]))
    (h2 : Below wr.heap.size wr w2) (hgr : w2.grownBy w4 (Value.slice a (2 * k) cap).ownBlock) : OfRel w u l (.slice (some ⟨g', 0, none⟩) (2 * k + 2) cap') (.int .i64 ((k : Int) + 1)) w4 := by
  have hs := hbel.size
  refine ⟨k + 1, cap', _, hk, by simp, rfl, ?_, (hbel.trans (h2.mono hs)).grown hgr (by have := h2.size; omega) (fun k' hk' => (World.ownsRow.lt hown k' hk').1)⟩
  rw [hf_two]
  exact h4
theorem own_empty (w : World) (base : Nat) (T : TypeId) (hb : base ≤ w.heap.size) : Own (w.alloc (.cells #[] T)) base T (some ⟨w.heap.size, 0, none⟩) 0 0 [] := World.ownsRow_lit w #[] 0 hb (by decide) rfl
set_option maxRecDepth 100000 in
set_option maxHeartbeats 1000000 in
theorem rof_any (a : Option Addr) (l ca u : Nat) (w : World) (ha : Sl w a l ca (wd.dcells l (u : Int))) (hu : u < 4294967296 ^ l) (hl : l ≤ 1000000000) :
    Calls Try.prog 54 #[.slice a l ca] w fun e w' => ∃ a' cap', e = .returned (.slice a' (hf.nlen u) cap') ∧ Own w' w.heap.size 3 a' (hf.nlen u) cap' (hf.dcells (hf.nlen u) (u : Int)) ∧ Below w.heap.size w w' := by
  obtain ⟨i0, hi0, hz0, hz1, hz2⟩ := info_parts infoInt
  have HU : Hid (u < 65536 ^ (2 * l)) := by unfold Hid; rw [pow_halves]; exact hu
  have hown0 := own_empty w w.heap.size 3 (Nat.le_refl _)
  clear hu
  go_enter Try.func54, Try.ntmps54
  go_wp2
  go_loopw [3, 4] (fun v i wr => OfRel w u l v i wr) (fun _ i _ => l - (intOf i).toNat)
  case atStart => exact ⟨0, 0, _, by omega, rfl, rfl, hown0, (Below.refl _ _).alloc (Nat.le_refl _) _⟩
  case round =>
    clear hown0
    obtain ⟨k, cap, v, hk, rfl, rfl, hown, hbel⟩ := hrel
    by_cases hlt : k < l
    · obtain ⟨ba, oa, rfl, hba, hseg⟩ := ha.at (by omega)
      have hroom := ha.room
      have c0 : w.cell? ⟨ba, oa + k, none⟩ = some (.int .u32 (wd.dg u k)) := hseg.cell k _ (wd.dcells_at _ _ _ hlt)
      have c1 : wr.cell? ⟨ba, oa + k, none⟩ = some (.int .u32 (wd.dg u k)) := (hbel.cell (p := ⟨ba, oa + k, none⟩) hba).trans (hseg.cell k _ (wd.dcells_at _ _ _ hlt))
      have hsz := hbel.size
      have hba2 : ba < wr.heap.size := by omega
      obtain ⟨d0, d1⟩ := wd.dg_range u k
      have E1 : IntKind.i64.wrap ((wd.dg (u : Int) k).tmod 65536) = wd.dg u k % 65536 := by rw [Int.tmod_eq_emod_of_nonneg d0, IntKind.wrap_i64]; omega
      have E2 : IntKind.i64.wrap (IntKind.u32.wrap ((wd.dg (u : Int) k).tdiv 65536)) = wd.dg u k / 65536 := by rw [Int.tdiv_eq_ediv_of_nonneg d0, IntKind.wrap_u32', IntKind.wrap_i64]; omega
      have HN : Hid _ := fun w2 w4 g' cap' => ofRel_next (w2 := w2) (w4 := w4) (g' := g') (cap' := cap') hlt hown hbel
      go_wp2
      refine wp_region_held_drew (S := (fun w' => w'.cell? ⟨ba, oa + k, none⟩ = some (.int .u32 (wd.dg u k)) ∧ Below w.heap.size w w')) (by kernel_rfl) ?_ (fun hHeld => ?_)
      · first | exact ⟨c1, hbel⟩ | exact ⟨c1, hbel.drew⟩ | exact ⟨((hHeld.2.alloc hHeld.2.size _).cell (p := ⟨ba, oa + k, none⟩) hba).trans c0, hHeld.2.alloc hHeld.2.size _⟩ | exact ⟨((hbel.alloc hbel.size _).drew.cell (p := ⟨ba, oa + k, none⟩) hba).trans c0, (hbel.alloc hbel.size _).drew⟩
      refine take_yes (i := 0) (v := ?vo0) rfl (by kernel_rfl) (by kernel_rfl) (by kernel_rfl) (fun _ _ _ h => h) (by rfl) (by assumption) ?hyo0 ?resto0
      case hyo0 => (intro w hSw; (try dsimp only at hSw); first | (go_simp; done) | (go_simp; with_reducible rfl))
      simp only [Act.put, List.setIfInBounds_toArray, List.set_cons_zero, List.set_cons_succ]
      refine take_yes (i := 1) (v := ?vo1) rfl (by kernel_rfl) (by kernel_rfl) (by kernel_rfl) (fun _ _ _ h => h) (by rfl) (by assumption) ?hyo1 ?resto1
      case hyo1 => (intro w hSw; (try dsimp only at hSw); first | (go_simp; done) | (go_simp; with_reducible rfl))
      simp only [Act.put, List.setIfInBounds_toArray, List.set_cons_zero, List.set_cons_succ]
      refine take_yes (i := 2) (v := ?vo2) rfl (by kernel_rfl) (by kernel_rfl) (by kernel_rfl) (fun _ _ _ h => h) (by rfl) (by assumption) ?hyo2 ?resto2
      case hyo2 => (intro w hSw; (try dsimp only at hSw); first | (go_simp; done) | (go_simp; with_reducible rfl))
      simp only [Act.put, List.setIfInBounds_toArray, List.set_cons_zero, List.set_cons_succ]
      refine take_yes (i := 3) (v := ?vo3) rfl (by kernel_rfl) (by kernel_rfl) (by kernel_rfl) (fun _ _ _ h => h) (by rfl) (by assumption) ?hyo3 ?resto3
      case hyo3 => (intro w hSw; (try dsimp only at hSw); first | (go_simp; done) | (go_simp; with_reducible rfl))
      simp only [Act.put, List.setIfInBounds_toArray, List.set_cons_zero, List.set_cons_succ]
      refine take_yes (i := 4) (v := ?vo4) rfl (by kernel_rfl) (by kernel_rfl) (by kernel_rfl) (fun _ _ _ h => h) (by rfl) (by assumption) ?hyo4 ?resto4
      case hyo4 => (intro w hSw; (try dsimp only at hSw); first | (go_simp; done) | (go_simp; with_reducible rfl))
      simp only [Act.put, List.setIfInBounds_toArray, List.set_cons_zero, List.set_cons_succ]
      refine take_yes (i := 5) (v := ?vo5) rfl (by kernel_rfl) (by kernel_rfl) (by kernel_rfl) (fun _ _ _ h => h) (by rfl) (by assumption) ?hyo5 ?resto5
      case hyo5 => (intro w hSw; (try dsimp only at hSw); first | (go_simp; done) | (go_simp; with_reducible rfl))
      simp only [Act.put, List.setIfInBounds_toArray, List.set_cons_zero, List.set_cons_succ]
      refine take_yes (i := 6) (v := ?vo6) rfl (by kernel_rfl) (by kernel_rfl) (by kernel_rfl) (fun _ _ _ h => h) (by rfl) (by assumption) ?hyo6 ?resto6
      case hyo6 => (intro w hSw; (try dsimp only at hSw); first | (go_simp; done) | (go_simp; with_reducible rfl))
      simp only [Act.put, List.setIfInBounds_toArray, List.set_cons_zero, List.set_cons_succ]
      refine take_yes (i := 7) (v := ?vo7) rfl (by kernel_rfl) (by kernel_rfl) (by kernel_rfl) (fun _ _ _ h => h) (by rfl) (by assumption) ?hyo7 ?resto7
      case hyo7 => (intro w hSw; (try dsimp only at hSw); first | (go_simp; done) | (go_simp; with_reducible rfl))
      simp only [Act.put, List.setIfInBounds_toArray, List.set_cons_zero, List.set_cons_succ]
      refine take_yes (i := 8) (v := ?vo8) rfl (by kernel_rfl) (by kernel_rfl) (by kernel_rfl) (fun _ _ _ h => h) (by rfl) (by assumption) ?hyo8 ?resto8
      case hyo8 => (intro w hSw; (try dsimp only at hSw); first | (go_simp; done) | (go_simp; with_reducible rfl))
      simp only [Act.put, List.setIfInBounds_toArray, List.set_cons_zero, List.set_cons_succ]
      refine take_yes (i := 9) (v := ?vo9) rfl (by kernel_rfl) (by kernel_rfl) (by kernel_rfl) (fun _ _ _ h => h) (by rfl) (by assumption) ?hyo9 ?resto9
      case hyo9 => (intro w hSw; (try dsimp only at hSw); first | (go_simp; done) | (go_simp; with_reducible rfl))
      simp only [Act.put, List.setIfInBounds_toArray, List.set_cons_zero, List.set_cons_succ]
      refine take_yes (i := 10) (v := ?vo10) rfl (by kernel_rfl) (by kernel_rfl) (by kernel_rfl) (fun _ _ _ h => h) (by rfl) (by assumption) ?hyo10 ?resto10
      case hyo10 => (intro w hSw; (try dsimp only at hSw); first | (go_simp; done) | (go_simp; with_reducible rfl))
      simp only [Act.put, List.setIfInBounds_toArray, List.set_cons_zero, List.set_cons_succ]
      refine take_yes (i := 11) (v := ?vo11) rfl (by kernel_rfl) (by kernel_rfl) (by kernel_rfl) (fun _ _ _ h => h) (by rfl) (by assumption) ?hyo11 ?resto11
      case hyo11 => (intro w hSw; (try dsimp only at hSw); first | (go_simp; done) | (go_simp; with_reducible rfl))
      simp only [Act.put, List.setIfInBounds_toArray, List.set_cons_zero, List.set_cons_succ]
      refine take_yes (i := 12) (v := ?vo12) rfl (by kernel_rfl) (by kernel_rfl) (by kernel_rfl) (fun _ _ _ h => h) (by rfl) (by assumption) ?hyo12 ?resto12
      case hyo12 => (intro w hSw; (try dsimp only at hSw); first | (go_simp; done) | (go_simp; with_reducible rfl))
      simp only [Act.put, List.setIfInBounds_toArray, List.set_cons_zero, List.set_cons_succ]
      refine take_call (i := 13) rfl (by kernel_rfl) (fun K hK => ?_)
      go_simp
      refine hK.out _ _ ?_ (fun hHeld => ?_)
      · first | exact ⟨c1, hbel⟩ | exact ⟨c1, hbel.drew⟩ | exact ⟨((hHeld.2.alloc hHeld.2.size _).cell (p := ⟨ba, oa + k, none⟩) hba).trans c0, hHeld.2.alloc hHeld.2.size _⟩ | exact ⟨((hbel.alloc hbel.size _).drew.cell (p := ⟨ba, oa + k, none⟩) hba).trans c0, (hbel.alloc hbel.size _).drew⟩
      clear hK K
      refine take_call (i := 14) rfl (by kernel_rfl) (fun K hK => ?_)
      refine step_append_lies _ rfl (.tmp 12) (.tmp 25) 24 rfl w.heap.size 3 i0 (.int .i64 0) 1 8 Try.underlying24 hi0 hz0 hz1 hz2 rfl (by decide) (.slice v (2 * k) cap) (2 * k) (hf.dcells (2 * k) (u : Int)) rfl (World.ownsRow.alloc hown _) ⟨wr.heap.size, 0, none⟩ 2 2 [.int .i64 (wd.dg u k % 65536), .int .i64 (wd.dg u k / 65536)] rfl rfl (World.news_of_block (heap_alloc_new wr _)) (ints_oneCell .i64 [wd.dg u k % 65536, wd.dg u k / 65536]) (by decide) (by unfold maxLen; omega) (by omega) (by simp; omega) _ rfl ?_; intro g' cap' w4 hown4 hgrow4 hat4 hlt4
      refine hK.out _ _ ?_ (fun hHeld => ?_)
      · exact ⟨(((hHeld.2.grown hgrow4 (by simp; omega) (fun k' hk' => (World.ownsRow.lt hown k' hk').1))).cell (p := ⟨ba, oa + k, none⟩) hba).trans c0, hHeld.2.grown hgrow4 (by simp; omega) (fun k' hk' => (World.ownsRow.lt hown k' hk').1)⟩
      clear hK K
      refine take_yes (i := 15) (v := ?vo15) rfl (by kernel_rfl) (by kernel_rfl) (by kernel_rfl) (fun _ _ _ h => h) (by rfl) (by assumption) ?hyo15 ?resto15
      case hyo15 => (intro w hSw; (try dsimp only at hSw); first | (go_simp; done) | (go_simp; with_reducible rfl))
      simp only [Act.put, List.setIfInBounds_toArray, List.set_cons_zero, List.set_cons_succ]
      refine wpAnyH_done (by kernel_rfl) ?_ _
      go_wp2
      go_roundw
      case rel => exact HN.out _ w4 g' cap' hown4 ((Below.refl _ _).alloc (Nat.le_refl _) _).drew hgrow4
      case measure => simp [intOf]; omega
    · obtain rfl : k = l := by omega
      go_wp2_with (go_at_call 47; refine (rtrim_own _ _ _ u _ _ hown HU.out).mono ?_; rintro e w' ⟨rfl, hw, hown2⟩; subst hw)
      go_ret
      exact ⟨v, cap, rfl, hown2, hbel⟩
end Go.Proofs.Ytlelbhiebmdnoaa

namespace Go.Proofs.Ytlelbhiebmdnoaa
open Go.RowKit
set_option linter.unusedVariables false

end Go.Proofs.Ytlelbhiebmdnoaa

namespace Go.Proofs.Ytlelbhiebmdnoaa
open Go.RowKit
set_option linter.unusedVariables false

end Go.Proofs.Ytlelbhiebmdnoaa

namespace Go.Proofs.Ytlelbhiebmdnoaa
open Go.RowKit
set_option linter.unusedVariables false

end Go.Proofs.Ytlelbhiebmdnoaa

namespace Go.Proofs.Ytlelbhiebmdnoaa.bt
open Go.RowKit

/-- Digit i of v, to the base 2 (of a number below nought: of v modulo as many digits as you like). -/
def dg (v : Int) (i : Nat) : Int := v / 2 ^ i % 2
theorem dg_range (v : Int) (i : Nat) : 0 ≤ dg v i ∧ dg v i < 2 := by unfold dg; omega
theorem p256 (i : Nat) : (0 : Int) < 2 ^ i := Int.pow_pos (by decide)
/-- n digits: at the places that p names those of u, at the others those of v. -/
def fill (n : Nat) (p : Nat → Bool) (u v : Int) : List Value := (List.range n).map fun j => .int .i64 (if p j then dg u j else dg v j)
def dcells (n : Nat) (v : Int) : List Value := (List.range n).map fun j => .int .i64 (dg v j)
def mix (n i : Nat) (u v : Int) : List Value := fill n (fun j => decide (j < i)) u v
theorem fill_length (n : Nat) (p : Nat → Bool) (u v : Int) : (fill n p u v).length = n := by simp [fill]
theorem mix_length (n i : Nat) (u v : Int) : (mix n i u v).length = n := fill_length _ _ _ _
theorem dcells_length (n : Nat) (v : Int) : (dcells n v).length = n := by simp [dcells]
theorem dcells_at (n : Nat) (v : Int) (i : Nat) (h : i < n) : (dcells n v)[i]? = some (.int .i64 (dg v i)) := by simp [dcells, h]
theorem fill_at (n : Nat) (p : Nat → Bool) (u v : Int) (i : Nat) (h : i < n) : (fill n p u v)[i]? = some (.int .i64 (if p i then dg u i else dg v i)) := by simp [fill, h]
theorem mix_at (n k : Nat) (u v : Int) (i : Nat) (h : i < n) (hk : k ≤ i) : (mix n k u v)[i]? = some (.int .i64 (dg v i)) := by
  rw [mix, fill_at _ _ _ _ _ h]; simp; omega
theorem fill_congr {n : Nat} {p q : Nat → Bool} {u v u' v' : Int} (h : ∀ j, j < n → (if p j then dg u j else dg v j) = (if q j then dg u' j else dg v' j)) : fill n p u v = fill n q u' v' := by
  unfold fill
  refine List.map_congr_left fun j hj => ?_
  rw [h j (by simpa using hj)]
theorem fill_set (n : Nat) (p : Nat → Bool) (u v : Int) (i : Nat) : (fill n p u v).set i (.int .i64 (dg u i)) = fill n (fun j => p j || j == i) u v := by
  refine List.ext_getElem? fun j => ?_
  rw [List.getElem?_set]
  by_cases e : i = j
  · subst e
    by_cases h : i < n
    · rw [if_pos rfl, if_pos (by rw [fill_length]; exact h), fill_at _ _ _ _ _ h]; simp
    · rw [if_pos rfl, if_neg (by rw [fill_length]; exact h), List.getElem?_eq_none (by rw [fill_length]; omega)]
  · by_cases h : j < n
    · rw [if_neg e, fill_at _ _ _ _ _ h, fill_at _ _ _ _ _ h]
      have e' : (j == i) = false := by simp; omega
      simp [e']
    · rw [if_neg e, List.getElem?_eq_none (by simp [fill_length]; omega), List.getElem?_eq_none (by simp [fill_length]; omega)]
theorem mix_set (n i : Nat) (u v : Int) : (mix n i u v).set i (.int .i64 (dg u i)) = mix n (i + 1) u v := by
  unfold mix
  rw [fill_set]
  refine fill_congr fun j _ => ?_
  have : (decide (j < i) || j == i) = decide (j < i + 1) := by rw [Bool.eq_iff_iff]; simp; omega
  rw [this]
theorem mix_zero (n : Nat) (u v : Int) : mix n 0 u v = dcells n v := by unfold mix fill dcells; simp
theorem mix_full (n : Nat) (u v : Int) : mix n n u v = dcells n u := by
  unfold mix fill dcells
  refine List.map_congr_left fun j hj => ?_
  have : j < n := by simpa using hj
  simp [this]
/-- The digits of two numbers that are the same modulo 2^i are the same below place i. -/
theorem dg_congr {u v : Int} {i j : Nat} (t : Int) (h : u = v + t * 2 ^ i) (hj : j < i) : dg u j = dg v j := by
  unfold dg
  obtain ⟨d, rfl⟩ : ∃ d, i = j + 1 + d := ⟨i - (j + 1), by omega⟩
  have e : t * (2 : Int) ^ (j + 1 + d) = (2 * (t * 2 ^ d)) * 2 ^ j := by
    rw [show j + 1 + d = d + 1 + j by omega, Int.pow_add, Int.pow_succ, ← Int.mul_assoc, ← Int.mul_assoc, Int.mul_comm (t * 2 ^ d) 2]
  rw [h, e, Int.add_mul_ediv_right _ _ (Int.ne_of_gt (p256 j))]
  omega
/-- The carry into place i when x and y are added. -/
def carry (x y : Int) (i : Nat) : Int := (x % 2 ^ i + y % 2 ^ i) / 2 ^ i
theorem carry_zero (x y : Int) : carry x y 0 = 0 := by simp [carry]
theorem emod_succ (x : Int) (i : Nat) : x % 2 ^ (i + 1) = dg x i * 2 ^ i + x % 2 ^ i := by
  unfold dg
  have hp := p256 i
  have h1 := Int.mul_ediv_add_emod x (2 ^ i)
  have h2 := Int.mul_ediv_add_emod (x / 2 ^ i) 2
  have b := Int.emod_nonneg x (Int.ne_of_gt hp)
  have b' := Int.emod_lt_of_pos x hp
  have c := Int.emod_nonneg (x / 2 ^ i) (show (2 : Int) ≠ 0 by decide)
  have c' := Int.emod_lt_of_pos (x / 2 ^ i) (show (0 : Int) < 2 by decide)
  have e : x = (x / 2 ^ i % 2 * 2 ^ i + x % 2 ^ i) + (x / 2 ^ i / 2) * 2 ^ (i + 1) := by
    have : (x / 2 ^ i / 2) * (2 : Int) ^ (i + 1) = (2 * (x / 2 ^ i / 2)) * 2 ^ i := by rw [Int.pow_succ, Int.mul_comm ((2 : Int) ^ i) 2, ← Int.mul_assoc, Int.mul_comm _ 2]
    rw [this]
    have h3 : (2 * (x / 2 ^ i / 2)) * (2 : Int) ^ i + x / 2 ^ i % 2 * 2 ^ i = x / 2 ^ i * 2 ^ i := by rw [← Int.add_mul, h2]
    have h4 : x / 2 ^ i * (2 : Int) ^ i = 2 ^ i * (x / 2 ^ i) := Int.mul_comm _ _
    omega
  have l0 : 0 ≤ x / 2 ^ i % 2 * 2 ^ i + x % 2 ^ i := Int.add_nonneg (Int.mul_nonneg c (Int.le_of_lt hp)) b
  have l1 : x / 2 ^ i % 2 * 2 ^ i + x % 2 ^ i < 2 ^ (i + 1) := by
    have : x / 2 ^ i % 2 * (2 : Int) ^ i ≤ 1 * 2 ^ i := Int.mul_le_mul_of_nonneg_right (by omega) (Int.le_of_lt hp)
    rw [Int.pow_succ]
    omega
  have key : x % 2 ^ (i + 1) = (x / 2 ^ i % 2 * 2 ^ i + x % 2 ^ i) % 2 ^ (i + 1) := by
    have := congrArg (· % (2 : Int) ^ (i + 1)) e
    simpa [Int.add_mul_emod_self_right] using this
  rw [key, Int.emod_eq_of_lt l0 l1]
theorem carry_sum (x y : Int) (i : Nat) : (x % 2 ^ (i + 1) + y % 2 ^ (i + 1)) / 2 ^ i = carry x y i + dg x i + dg y i := by
  rw [emod_succ, emod_succ]
  unfold carry
  have e : dg x i * 2 ^ i + x % 2 ^ i + (dg y i * 2 ^ i + y % 2 ^ i) = (x % 2 ^ i + y % 2 ^ i) + (dg x i + dg y i) * 2 ^ i := by rw [Int.add_mul]; omega
  rw [e, Int.add_mul_ediv_right _ _ (Int.ne_of_gt (p256 i))]
  omega
theorem carry_succ (x y : Int) (i : Nat) : carry x y (i + 1) = (carry x y i + dg x i + dg y i) / 2 := by
  rw [← carry_sum]
  show (x % 2 ^ (i + 1) + y % 2 ^ (i + 1)) / 2 ^ (i + 1) = _
  have hp := p256 i
  rw [Int.pow_succ, Int.ediv_ediv, if_neg (by omega)]
  omega
theorem add_digit (x y : Int) (i : Nat) : (carry x y i + dg x i + dg y i) % 2 = dg (x + y) i := by
  unfold dg carry
  have hp := p256 i
  have h1 := Int.mul_ediv_add_emod x (2 ^ i)
  have h2 := Int.mul_ediv_add_emod y (2 ^ i)
  have e : x + y = (x % 2 ^ i + y % 2 ^ i) + (x / 2 ^ i + y / 2 ^ i) * 2 ^ i := by
    have a1 : x / 2 ^ i * (2 : Int) ^ i = 2 ^ i * (x / 2 ^ i) := Int.mul_comm _ _
    have a2 : y / 2 ^ i * (2 : Int) ^ i = 2 ^ i * (y / 2 ^ i) := Int.mul_comm _ _
    rw [Int.add_mul]; omega
  have e2 : (x + y) / 2 ^ i = (x % 2 ^ i + y % 2 ^ i) / 2 ^ i + (x / 2 ^ i + y / 2 ^ i) := by
    conv => lhs; rw [e]
    exact Int.add_mul_ediv_right _ _ (Int.ne_of_gt hp)
  rw [e2]
  omega
theorem carry_range (x y : Int) (i : Nat) : 0 ≤ carry x y i ∧ carry x y i ≤ 1 := by
  unfold carry
  have hp := p256 i
  have a := Int.emod_nonneg x (Int.ne_of_gt hp)
  have a' := Int.emod_lt_of_pos x hp
  have b := Int.emod_nonneg y (Int.ne_of_gt hp)
  have b' := Int.emod_lt_of_pos y hp
  refine ⟨Int.ediv_nonneg (by omega) (by omega), ?_⟩
  have : (x % 2 ^ i + y % 2 ^ i) / 2 ^ i < 2 := Int.ediv_lt_of_lt_mul hp (by omega)
  omega
theorem neg_digit (x : Int) (i : Nat) : 1 - dg x i = dg (-1 - x) i := by
  unfold dg
  have hp := p256 i
  have h1 := Int.mul_ediv_add_emod x (2 ^ i)
  have a := Int.emod_nonneg x (Int.ne_of_gt hp)
  have a' := Int.emod_lt_of_pos x hp
  have e : -1 - x = (2 ^ i - 1 - x % 2 ^ i) + (-1 - x / 2 ^ i) * 2 ^ i := by
    have a1 : x / 2 ^ i * (2 : Int) ^ i = 2 ^ i * (x / 2 ^ i) := Int.mul_comm _ _
    rw [Int.sub_mul]; omega
  have e2 : (-1 - x) / 2 ^ i = -1 - x / 2 ^ i := by
    conv => lhs; rw [e]
    rw [Int.add_mul_ediv_right _ _ (Int.ne_of_gt hp), Int.ediv_eq_zero_of_lt (by omega) (by omega)]
    omega
  rw [e2]
  omega
end Go.Proofs.Ytlelbhiebmdnoaa.bt

namespace Go.Proofs.Ytlelbhiebmdnoaa.bt
open Go.RowKit
set_option linter.unusedVariables false

/-- v needs n digits: none for nought. -/
def IsLen (v n : Nat) : Prop := v < 2 ^ n ∧ (n = 0 ∨ 2 ^ (n - 1) ≤ v)
theorem isLen_one {v n m : Nat} (h : IsLen v n) (h' : IsLen v m) : n = m := by
  obtain ⟨a, b⟩ := h
  obtain ⟨a', b'⟩ := h'
  rcases Nat.lt_trichotomy n m with e | e | e
  · rcases b' with b' | b'
    · omega
    · have := Nat.pow_le_pow_right (n := 2) (by decide) (show n ≤ m - 1 by omega)
      omega
  · exact e
  · rcases b with b | b
    · omega
    · have := Nat.pow_le_pow_right (n := 2) (by decide) (show m ≤ n - 1 by omega)
      omega
/-- A number below 2^n has a length of n at most, and is found by cutting noughts off the end. -/
theorem isLen_cut : ∀ (n v : Nat), v < 2 ^ n → ∃ m, m ≤ n ∧ IsLen v m
  | 0, v, h => ⟨0, Nat.le_refl _, h, Or.inl rfl⟩
  | n + 1, v, h => by
    by_cases c : v < 2 ^ n
    · obtain ⟨m, h1, h2⟩ := isLen_cut n v c
      exact ⟨m, by omega, h2⟩
    · exact ⟨n + 1, Nat.le_refl _, h, Or.inr (by simp; omega)⟩
/-- How many digits v needs. -/
def nlen (v : Nat) : Nat := if h : v = 0 then 0 else nlen (v / 2) + 1
  termination_by v
  decreasing_by exact Nat.div_lt_self (Nat.pos_of_ne_zero h) (by decide)
theorem nlen_is (v : Nat) : IsLen v (nlen v) := by
  induction v using Nat.strongRecOn with
  | ind v ih =>
    unfold nlen
    split
    · rename_i h
      rw [h]
      exact ⟨by decide, Or.inl rfl⟩
    · rename_i h
      obtain ⟨h1, h2⟩ := ih (v / 2) (Nat.div_lt_self (Nat.pos_of_ne_zero h) (by decide))
      refine ⟨?_, Or.inr ?_⟩
      · rw [Nat.pow_succ]
        exact (Nat.div_lt_iff_lt_mul (by decide)).1 h1
      · rw [Nat.add_sub_cancel]
        rcases h2 with h2 | h2
        · rw [h2]
          exact Nat.pos_of_ne_zero h
        · rcases Nat.eq_zero_or_pos (nlen (v / 2)) with h3 | h3
          · rw [h3]
            exact Nat.pos_of_ne_zero h
          · have h4 := (Nat.le_div_iff_mul_le (by decide)).1 h2
            rw [← Nat.pow_succ] at h4
            rwa [show (nlen (v / 2) - 1).succ = nlen (v / 2) by omega] at h4
theorem nlen_eq {v n : Nat} (h : IsLen v n) : nlen v = n := isLen_one (nlen_is v) h
theorem nlen_le {v n : Nat} (h : v < 2 ^ n) : nlen v ≤ n := by
  obtain ⟨m, h1, h2⟩ := isLen_cut n v h
  rw [nlen_eq h2]; exact h1
theorem nlen_zero : nlen 0 = 0 := nlen_eq ⟨by decide, Or.inl rfl⟩
theorem nlen_lt (v : Nat) : v < 2 ^ nlen v := (nlen_is v).1
theorem nlen_pos {v : Nat} (h : 0 < v) : 0 < nlen v := by
  rcases Nat.lt_or_ge 0 (nlen v) with l | l
  · exact l
  · have := nlen_lt v
    rw [show nlen v = 0 by omega] at this
    simp at this
    omega
/-- The longer number is the greater. -/
theorem lt_of_nlen {u v : Nat} (h : nlen u < nlen v) : u < v := by
  obtain ⟨_, b⟩ := nlen_is v
  rcases b with b | b
  · omega
  · have := nlen_lt u
    have := Nat.pow_le_pow_right (n := 2) (by decide) (show nlen u ≤ nlen v - 1 by omega)
    omega
theorem pow_cast (k : Nat) : ((2 ^ k : Nat) : Int) = (2 : Int) ^ k := by rw [Int.natCast_pow]; rfl
theorem dg_nat (v k : Nat) : dg (v : Int) k = ((v / 2 ^ k % 2 : Nat) : Int) := by
  unfold dg
  rw [← pow_cast]
  omega
/-- The digit at a place that a number does not reach is nought; the highest one that it has is not. -/
theorem dg_over {v k : Nat} (h : v < 2 ^ k) : dg (v : Int) k = 0 := by rw [dg_nat, Nat.div_eq_of_lt h]; rfl
theorem dg_top {v n : Nat} (h : IsLen v (n + 1)) : dg (v : Int) n ≠ 0 := by
  obtain ⟨a, b⟩ := h
  have b : 2 ^ n ≤ v := by
    rcases b with b | b
    · omega
    · exact b
  rw [dg_nat]
  have h1 : 1 ≤ v / 2 ^ n := (Nat.one_le_div_iff (Nat.pow_pos (by decide))).2 b
  have h2 : v / 2 ^ n < 2 := by
    rw [Nat.pow_succ] at a
    exact Nat.div_lt_of_lt_mul a
  rw [Nat.mod_eq_of_lt h2]
  omega
/-- One nought at the end cut off. -/
theorem lt_of_dg_zero {v n : Nat} (h : v < 2 ^ (n + 1)) (z : dg (v : Int) n = 0) : v < 2 ^ n := by
  rcases Nat.lt_or_ge v (2 ^ n) with l | l
  · exact l
  · exact absurd z (dg_top ⟨h, Or.inr (by simpa using l)⟩)
/-- Two numbers of n digits with the same digits are the same. -/
theorem eq_of_dcells : ∀ (n : Nat) (u v : Nat), u < 2 ^ n → v < 2 ^ n → (∀ j, j < n → dg (u : Int) j = dg (v : Int) j) → u = v := by
  intro n
  induction n with
  | zero => intro u v hu hv _; simp at hu hv; omega
  | succ n ih =>
    intro u v hu hv h
    have e := ih (u % 2 ^ n) (v % 2 ^ n) (Nat.mod_lt _ (Nat.pow_pos (by decide))) (Nat.mod_lt _ (Nat.pow_pos (by decide))) (fun j hj => by
      have a : ∀ x : Nat, dg ((x % 2 ^ n : Nat) : Int) j = dg (x : Int) j := fun x => by
        refine dg_congr (i := n) (-((x / 2 ^ n : Nat) : Int)) ?_ hj
        have := Nat.mod_add_div x (2 ^ n)
        rw [← pow_cast, Int.neg_mul, ← Int.natCast_mul, Nat.mul_comm (x / 2 ^ n)]
        omega
      rw [a, a]
      exact h j (by omega))
    have t := h n (by omega)
    rw [dg_nat, dg_nat] at t
    have du : u / 2 ^ n < 2 := by rw [Nat.pow_succ] at hu; exact Nat.div_lt_of_lt_mul hu
    have dv : v / 2 ^ n < 2 := by rw [Nat.pow_succ] at hv; exact Nat.div_lt_of_lt_mul hv
    rw [Nat.mod_eq_of_lt du, Nat.mod_eq_of_lt dv] at t
    have t' : u / 2 ^ n = v / 2 ^ n := by omega
    have h1 := Nat.mod_add_div u (2 ^ n)
    have h2 := Nat.mod_add_div v (2 ^ n)
    rw [e, t'] at h1
    omega
end Go.Proofs.Ytlelbhiebmdnoaa.bt

namespace Go.Proofs.Ytlelbhiebmdnoaa
open Go.RowKit Go.Shelf
set_option linter.unusedVariables false

end Go.Proofs.Ytlelbhiebmdnoaa

namespace Go.Proofs.Ytlelbhiebmdnoaa
open Go.RowKit
set_option linter.unusedVariables false

end Go.Proofs.Ytlelbhiebmdnoaa

namespace Go.Proofs.Ytlelbhiebmdnoaa
open Go.RowKit
set_option linter.unusedVariables false

end Go.Proofs.Ytlelbhiebmdnoaa

namespace Go.Proofs.Ytlelbhiebmdnoaa
open Go.RowKit
set_option linter.unusedVariables false

end Go.Proofs.Ytlelbhiebmdnoaa

namespace Go.Proofs.Ytlelbhiebmdnoaa
open Go.RowKit
set_option linter.unusedVariables false

/-- What is left of A when the quotient's words from k on are taken off. -/
def rk (A D k : Nat) : Nat := A / 4294967296 ^ k % D * 4294967296 ^ k + A % 4294967296 ^ k
/-- What holds at the head of each round. -/
def LongRel (w : World) (A D lb la m rb qb : Nat) (ds : Option Addr) (i : Value) (wr : World) : Prop := ∃ k : Nat, k ≤ m ∧ i = .int .i64 ((k : Int) - 1) ∧
  Own wr w.heap.size 74 (some ⟨qb, 0, none⟩) m m (wd.xim m k ((A / D : Nat) : Int) 0) ∧ Own wr w.heap.size 74 (some ⟨rb, 0, none⟩) (la + 1) (la + 1) (wd.dcells (la + 1) ((rk A D k : Nat) : Int)) ∧
  Sl wr ds lb (lb + 1) (wd.dcells lb (D : Int)) ∧ Below w.heap.size w wr
end Go.Proofs.Ytlelbhiebmdnoaa

namespace Go.Proofs.Ytlelbhiebmdnoaa
open Go.RowKit
set_option linter.unusedVariables false

end Go.Proofs.Ytlelbhiebmdnoaa

namespace Go.Proofs.Ytlelbhiebmdnoaa
open Go.RowKit Go.Shelf
set_option linter.unusedVariables false
attribute [local go_sem] Oper.semAt_some

end Go.Proofs.Ytlelbhiebmdnoaa

namespace Go.Proofs.Ytlelbhiebmdnoaa
open Go.RowKit Go.Shelf
set_option linter.unusedVariables false
attribute [local go_sem] Oper.semAt_some

/-- -1, 0 or 1. -/
def cmpI (x y : Int) : Int := if x < y then -1 else if y < x then 1 else 0
end Go.Proofs.Ytlelbhiebmdnoaa

namespace Go.Proofs.Ytlelbhiebmdnoaa
open Go.RowKit Go.Shelf
set_option linter.unusedVariables false
attribute [local go_sem] Oper.semAt_some

theorem cmpI_self (x : Int) : cmpI x x = 0 := by unfold cmpI; simp

end Go.Proofs.Ytlelbhiebmdnoaa

namespace Go.Proofs.Ytlelbhiebmdnoaa
open Go.RowKit
set_option linter.unusedVariables false

end Go.Proofs.Ytlelbhiebmdnoaa

namespace Go.Proofs.Ytlelbhiebmdnoaa

end Go.Proofs.Ytlelbhiebmdnoaa

namespace Go.Proofs.Ytlelbhiebmdnoaa.pc
open Go.RowKit

/-- Digit i of v, to the base 1000000000 (of a number below nought: of v modulo as many digits as you like). -/
def dg (v : Int) (i : Nat) : Int := v / 1000000000 ^ i % 1000000000
theorem dg_range (v : Int) (i : Nat) : 0 ≤ dg v i ∧ dg v i < 1000000000 := by unfold dg; omega
theorem p256 (i : Nat) : (0 : Int) < 1000000000 ^ i := Int.pow_pos (by decide)
/-- n digits: at the places that p names those of u, at the others those of v. -/
def fill (n : Nat) (p : Nat → Bool) (u v : Int) : List Value := (List.range n).map fun j => .int .u32 (if p j then dg u j else dg v j)
def dcells (n : Nat) (v : Int) : List Value := (List.range n).map fun j => .int .u32 (dg v j)
def mix (n i : Nat) (u v : Int) : List Value := fill n (fun j => decide (j < i)) u v
theorem fill_length (n : Nat) (p : Nat → Bool) (u v : Int) : (fill n p u v).length = n := by simp [fill]
theorem mix_length (n i : Nat) (u v : Int) : (mix n i u v).length = n := fill_length _ _ _ _
theorem dcells_length (n : Nat) (v : Int) : (dcells n v).length = n := by simp [dcells]
theorem dcells_at (n : Nat) (v : Int) (i : Nat) (h : i < n) : (dcells n v)[i]? = some (.int .u32 (dg v i)) := by simp [dcells, h]
theorem fill_at (n : Nat) (p : Nat → Bool) (u v : Int) (i : Nat) (h : i < n) : (fill n p u v)[i]? = some (.int .u32 (if p i then dg u i else dg v i)) := by simp [fill, h]
theorem mix_at (n k : Nat) (u v : Int) (i : Nat) (h : i < n) (hk : k ≤ i) : (mix n k u v)[i]? = some (.int .u32 (dg v i)) := by
  rw [mix, fill_at _ _ _ _ _ h]; simp; omega
theorem fill_congr {n : Nat} {p q : Nat → Bool} {u v u' v' : Int} (h : ∀ j, j < n → (if p j then dg u j else dg v j) = (if q j then dg u' j else dg v' j)) : fill n p u v = fill n q u' v' := by
  unfold fill
  refine List.map_congr_left fun j hj => ?_
  rw [h j (by simpa using hj)]
theorem fill_set (n : Nat) (p : Nat → Bool) (u v : Int) (i : Nat) : (fill n p u v).set i (.int .u32 (dg u i)) = fill n (fun j => p j || j == i) u v := by
  refine List.ext_getElem? fun j => ?_
  rw [List.getElem?_set]
  by_cases e : i = j
  · subst e
    by_cases h : i < n
    · rw [if_pos rfl, if_pos (by rw [fill_length]; exact h), fill_at _ _ _ _ _ h]; simp
    · rw [if_pos rfl, if_neg (by rw [fill_length]; exact h), List.getElem?_eq_none (by rw [fill_length]; omega)]
  · by_cases h : j < n
    · rw [if_neg e, fill_at _ _ _ _ _ h, fill_at _ _ _ _ _ h]
      have e' : (j == i) = false := by simp; omega
      simp [e']
    · rw [if_neg e, List.getElem?_eq_none (by simp [fill_length]; omega), List.getElem?_eq_none (by simp [fill_length]; omega)]
theorem mix_set (n i : Nat) (u v : Int) : (mix n i u v).set i (.int .u32 (dg u i)) = mix n (i + 1) u v := by
  unfold mix
  rw [fill_set]
  refine fill_congr fun j _ => ?_
  have : (decide (j < i) || j == i) = decide (j < i + 1) := by rw [Bool.eq_iff_iff]; simp; omega
  rw [this]
theorem mix_zero (n : Nat) (u v : Int) : mix n 0 u v = dcells n v := by unfold mix fill dcells; simp
theorem mix_full (n : Nat) (u v : Int) : mix n n u v = dcells n u := by
  unfold mix fill dcells
  refine List.map_congr_left fun j hj => ?_
  have : j < n := by simpa using hj
  simp [this]
/-- The digits of two numbers that are the same modulo 1000000000^i are the same below place i. -/
theorem dg_congr {u v : Int} {i j : Nat} (t : Int) (h : u = v + t * 1000000000 ^ i) (hj : j < i) : dg u j = dg v j := by
  unfold dg
  obtain ⟨d, rfl⟩ : ∃ d, i = j + 1 + d := ⟨i - (j + 1), by omega⟩
  have e : t * (1000000000 : Int) ^ (j + 1 + d) = (1000000000 * (t * 1000000000 ^ d)) * 1000000000 ^ j := by
    rw [show j + 1 + d = d + 1 + j by omega, Int.pow_add, Int.pow_succ, ← Int.mul_assoc, ← Int.mul_assoc, Int.mul_comm (t * 1000000000 ^ d) 1000000000]
  rw [h, e, Int.add_mul_ediv_right _ _ (Int.ne_of_gt (p256 j))]
  omega
/-- The carry into place i when x and y are added. -/
def carry (x y : Int) (i : Nat) : Int := (x % 1000000000 ^ i + y % 1000000000 ^ i) / 1000000000 ^ i
theorem carry_zero (x y : Int) : carry x y 0 = 0 := by simp [carry]
theorem emod_succ (x : Int) (i : Nat) : x % 1000000000 ^ (i + 1) = dg x i * 1000000000 ^ i + x % 1000000000 ^ i := by
  unfold dg
  have hp := p256 i
  have h1 := Int.mul_ediv_add_emod x (1000000000 ^ i)
  have h2 := Int.mul_ediv_add_emod (x / 1000000000 ^ i) 1000000000
  have b := Int.emod_nonneg x (Int.ne_of_gt hp)
  have b' := Int.emod_lt_of_pos x hp
  have c := Int.emod_nonneg (x / 1000000000 ^ i) (show (1000000000 : Int) ≠ 0 by decide)
  have c' := Int.emod_lt_of_pos (x / 1000000000 ^ i) (show (0 : Int) < 1000000000 by decide)
  have e : x = (x / 1000000000 ^ i % 1000000000 * 1000000000 ^ i + x % 1000000000 ^ i) + (x / 1000000000 ^ i / 1000000000) * 1000000000 ^ (i + 1) := by
    have : (x / 1000000000 ^ i / 1000000000) * (1000000000 : Int) ^ (i + 1) = (1000000000 * (x / 1000000000 ^ i / 1000000000)) * 1000000000 ^ i := by rw [Int.pow_succ, Int.mul_comm ((1000000000 : Int) ^ i) 1000000000, ← Int.mul_assoc, Int.mul_comm _ 1000000000]
    rw [this]
    have h3 : (1000000000 * (x / 1000000000 ^ i / 1000000000)) * (1000000000 : Int) ^ i + x / 1000000000 ^ i % 1000000000 * 1000000000 ^ i = x / 1000000000 ^ i * 1000000000 ^ i := by rw [← Int.add_mul, h2]
    have h4 : x / 1000000000 ^ i * (1000000000 : Int) ^ i = 1000000000 ^ i * (x / 1000000000 ^ i) := Int.mul_comm _ _
    omega
  have l0 : 0 ≤ x / 1000000000 ^ i % 1000000000 * 1000000000 ^ i + x % 1000000000 ^ i := Int.add_nonneg (Int.mul_nonneg c (Int.le_of_lt hp)) b
  have l1 : x / 1000000000 ^ i % 1000000000 * 1000000000 ^ i + x % 1000000000 ^ i < 1000000000 ^ (i + 1) := by
    have : x / 1000000000 ^ i % 1000000000 * (1000000000 : Int) ^ i ≤ 999999999 * 1000000000 ^ i := Int.mul_le_mul_of_nonneg_right (by omega) (Int.le_of_lt hp)
    rw [Int.pow_succ]
    omega
  have key : x % 1000000000 ^ (i + 1) = (x / 1000000000 ^ i % 1000000000 * 1000000000 ^ i + x % 1000000000 ^ i) % 1000000000 ^ (i + 1) := by
    have := congrArg (· % (1000000000 : Int) ^ (i + 1)) e
    simpa [Int.add_mul_emod_self_right] using this
  rw [key, Int.emod_eq_of_lt l0 l1]
theorem carry_sum (x y : Int) (i : Nat) : (x % 1000000000 ^ (i + 1) + y % 1000000000 ^ (i + 1)) / 1000000000 ^ i = carry x y i + dg x i + dg y i := by
  rw [emod_succ, emod_succ]
  unfold carry
  have e : dg x i * 1000000000 ^ i + x % 1000000000 ^ i + (dg y i * 1000000000 ^ i + y % 1000000000 ^ i) = (x % 1000000000 ^ i + y % 1000000000 ^ i) + (dg x i + dg y i) * 1000000000 ^ i := by rw [Int.add_mul]; omega
  rw [e, Int.add_mul_ediv_right _ _ (Int.ne_of_gt (p256 i))]
  omega
theorem carry_succ (x y : Int) (i : Nat) : carry x y (i + 1) = (carry x y i + dg x i + dg y i) / 1000000000 := by
  rw [← carry_sum]
  show (x % 1000000000 ^ (i + 1) + y % 1000000000 ^ (i + 1)) / 1000000000 ^ (i + 1) = _
  have hp := p256 i
  rw [Int.pow_succ, Int.ediv_ediv, if_neg (by omega)]
  omega
theorem add_digit (x y : Int) (i : Nat) : (carry x y i + dg x i + dg y i) % 1000000000 = dg (x + y) i := by
  unfold dg carry
  have hp := p256 i
  have h1 := Int.mul_ediv_add_emod x (1000000000 ^ i)
  have h2 := Int.mul_ediv_add_emod y (1000000000 ^ i)
  have e : x + y = (x % 1000000000 ^ i + y % 1000000000 ^ i) + (x / 1000000000 ^ i + y / 1000000000 ^ i) * 1000000000 ^ i := by
    have a1 : x / 1000000000 ^ i * (1000000000 : Int) ^ i = 1000000000 ^ i * (x / 1000000000 ^ i) := Int.mul_comm _ _
    have a2 : y / 1000000000 ^ i * (1000000000 : Int) ^ i = 1000000000 ^ i * (y / 1000000000 ^ i) := Int.mul_comm _ _
    rw [Int.add_mul]; omega
  have e2 : (x + y) / 1000000000 ^ i = (x % 1000000000 ^ i + y % 1000000000 ^ i) / 1000000000 ^ i + (x / 1000000000 ^ i + y / 1000000000 ^ i) := by
    conv => lhs; rw [e]
    exact Int.add_mul_ediv_right _ _ (Int.ne_of_gt hp)
  rw [e2]
  omega
theorem carry_range (x y : Int) (i : Nat) : 0 ≤ carry x y i ∧ carry x y i ≤ 1 := by
  unfold carry
  have hp := p256 i
  have a := Int.emod_nonneg x (Int.ne_of_gt hp)
  have a' := Int.emod_lt_of_pos x hp
  have b := Int.emod_nonneg y (Int.ne_of_gt hp)
  have b' := Int.emod_lt_of_pos y hp
  refine ⟨Int.ediv_nonneg (by omega) (by omega), ?_⟩
  have : (x % 1000000000 ^ i + y % 1000000000 ^ i) / 1000000000 ^ i < 2 := Int.ediv_lt_of_lt_mul hp (by omega)
  omega
theorem neg_digit (x : Int) (i : Nat) : 999999999 - dg x i = dg (-1 - x) i := by
  unfold dg
  have hp := p256 i
  have h1 := Int.mul_ediv_add_emod x (1000000000 ^ i)
  have a := Int.emod_nonneg x (Int.ne_of_gt hp)
  have a' := Int.emod_lt_of_pos x hp
  have e : -1 - x = (1000000000 ^ i - 1 - x % 1000000000 ^ i) + (-1 - x / 1000000000 ^ i) * 1000000000 ^ i := by
    have a1 : x / 1000000000 ^ i * (1000000000 : Int) ^ i = 1000000000 ^ i * (x / 1000000000 ^ i) := Int.mul_comm _ _
    rw [Int.sub_mul]; omega
  have e2 : (-1 - x) / 1000000000 ^ i = -1 - x / 1000000000 ^ i := by
    conv => lhs; rw [e]
    rw [Int.add_mul_ediv_right _ _ (Int.ne_of_gt hp), Int.ediv_eq_zero_of_lt (by omega) (by omega)]
    omega
  rw [e2]
  omega
end Go.Proofs.Ytlelbhiebmdnoaa.pc

namespace Go.Proofs.Ytlelbhiebmdnoaa.pc
open Go.RowKit
set_option linter.unusedVariables false

/-- v needs n digits: none for nought. -/
def IsLen (v n : Nat) : Prop := v < 1000000000 ^ n ∧ (n = 0 ∨ 1000000000 ^ (n - 1) ≤ v)
theorem isLen_one {v n m : Nat} (h : IsLen v n) (h' : IsLen v m) : n = m := by
  obtain ⟨a, b⟩ := h
  obtain ⟨a', b'⟩ := h'
  rcases Nat.lt_trichotomy n m with e | e | e
  · rcases b' with b' | b'
    · omega
    · have := Nat.pow_le_pow_right (n := 1000000000) (by decide) (show n ≤ m - 1 by omega)
      omega
  · exact e
  · rcases b with b | b
    · omega
    · have := Nat.pow_le_pow_right (n := 1000000000) (by decide) (show m ≤ n - 1 by omega)
      omega
/-- A number below 1000000000^n has a length of n at most, and is found by cutting noughts off the end. -/
theorem isLen_cut : ∀ (n v : Nat), v < 1000000000 ^ n → ∃ m, m ≤ n ∧ IsLen v m
  | 0, v, h => ⟨0, Nat.le_refl _, h, Or.inl rfl⟩
  | n + 1, v, h => by
    by_cases c : v < 1000000000 ^ n
    · obtain ⟨m, h1, h2⟩ := isLen_cut n v c
      exact ⟨m, by omega, h2⟩
    · exact ⟨n + 1, Nat.le_refl _, h, Or.inr (by simp; omega)⟩
/-- How many digits v needs. -/
def nlen (v : Nat) : Nat := if h : v = 0 then 0 else nlen (v / 1000000000) + 1
  termination_by v
  decreasing_by exact Nat.div_lt_self (Nat.pos_of_ne_zero h) (by decide)
theorem nlen_is (v : Nat) : IsLen v (nlen v) := by
  induction v using Nat.strongRecOn with
  | ind v ih =>
    unfold nlen
    split
    · rename_i h
      rw [h]
      exact ⟨by decide, Or.inl rfl⟩
    · rename_i h
      obtain ⟨h1, h2⟩ := ih (v / 1000000000) (Nat.div_lt_self (Nat.pos_of_ne_zero h) (by decide))
      refine ⟨?_, Or.inr ?_⟩
      · rw [Nat.pow_succ]
        exact (Nat.div_lt_iff_lt_mul (by decide)).1 h1
      · rw [Nat.add_sub_cancel]
        rcases h2 with h2 | h2
        · rw [h2]
          exact Nat.pos_of_ne_zero h
        · rcases Nat.eq_zero_or_pos (nlen (v / 1000000000)) with h3 | h3
          · rw [h3]
            exact Nat.pos_of_ne_zero h
          · have h4 := (Nat.le_div_iff_mul_le (by decide)).1 h2
            rw [← Nat.pow_succ] at h4
            rwa [show (nlen (v / 1000000000) - 1).succ = nlen (v / 1000000000) by omega] at h4
theorem nlen_eq {v n : Nat} (h : IsLen v n) : nlen v = n := isLen_one (nlen_is v) h
theorem nlen_le {v n : Nat} (h : v < 1000000000 ^ n) : nlen v ≤ n := by
  obtain ⟨m, h1, h2⟩ := isLen_cut n v h
  rw [nlen_eq h2]; exact h1
theorem nlen_zero : nlen 0 = 0 := nlen_eq ⟨by decide, Or.inl rfl⟩
theorem nlen_lt (v : Nat) : v < 1000000000 ^ nlen v := (nlen_is v).1
theorem nlen_pos {v : Nat} (h : 0 < v) : 0 < nlen v := by
  rcases Nat.lt_or_ge 0 (nlen v) with l | l
  · exact l
  · have := nlen_lt v
    rw [show nlen v = 0 by omega] at this
    simp at this
    omega
/-- The longer number is the greater. -/
theorem lt_of_nlen {u v : Nat} (h : nlen u < nlen v) : u < v := by
  obtain ⟨_, b⟩ := nlen_is v
  rcases b with b | b
  · omega
  · have := nlen_lt u
    have := Nat.pow_le_pow_right (n := 1000000000) (by decide) (show nlen u ≤ nlen v - 1 by omega)
    omega
theorem pow_cast (k : Nat) : ((1000000000 ^ k : Nat) : Int) = (1000000000 : Int) ^ k := by rw [Int.natCast_pow]; rfl
theorem dg_nat (v k : Nat) : dg (v : Int) k = ((v / 1000000000 ^ k % 1000000000 : Nat) : Int) := by
  unfold dg
  rw [← pow_cast]
  omega
/-- The digit at a place that a number does not reach is nought; the highest one that it has is not. -/
theorem dg_over {v k : Nat} (h : v < 1000000000 ^ k) : dg (v : Int) k = 0 := by rw [dg_nat, Nat.div_eq_of_lt h]; rfl
theorem dg_top {v n : Nat} (h : IsLen v (n + 1)) : dg (v : Int) n ≠ 0 := by
  obtain ⟨a, b⟩ := h
  have b : 1000000000 ^ n ≤ v := by
    rcases b with b | b
    · omega
    · exact b
  rw [dg_nat]
  have h1 : 1 ≤ v / 1000000000 ^ n := (Nat.one_le_div_iff (Nat.pow_pos (by decide))).2 b
  have h2 : v / 1000000000 ^ n < 1000000000 := by
    rw [Nat.pow_succ] at a
    exact Nat.div_lt_of_lt_mul a
  rw [Nat.mod_eq_of_lt h2]
  omega
/-- One nought at the end cut off. -/
theorem lt_of_dg_zero {v n : Nat} (h : v < 1000000000 ^ (n + 1)) (z : dg (v : Int) n = 0) : v < 1000000000 ^ n := by
  rcases Nat.lt_or_ge v (1000000000 ^ n) with l | l
  · exact l
  · exact absurd z (dg_top ⟨h, Or.inr (by simpa using l)⟩)
/-- Two numbers of n digits with the same digits are the same. -/
theorem eq_of_dcells : ∀ (n : Nat) (u v : Nat), u < 1000000000 ^ n → v < 1000000000 ^ n → (∀ j, j < n → dg (u : Int) j = dg (v : Int) j) → u = v := by
  intro n
  induction n with
  | zero => intro u v hu hv _; simp at hu hv; omega
  | succ n ih =>
    intro u v hu hv h
    have e := ih (u % 1000000000 ^ n) (v % 1000000000 ^ n) (Nat.mod_lt _ (Nat.pow_pos (by decide))) (Nat.mod_lt _ (Nat.pow_pos (by decide))) (fun j hj => by
      have a : ∀ x : Nat, dg ((x % 1000000000 ^ n : Nat) : Int) j = dg (x : Int) j := fun x => by
        refine dg_congr (i := n) (-((x / 1000000000 ^ n : Nat) : Int)) ?_ hj
        have := Nat.mod_add_div x (1000000000 ^ n)
        rw [← pow_cast, Int.neg_mul, ← Int.natCast_mul, Nat.mul_comm (x / 1000000000 ^ n)]
        omega
      rw [a, a]
      exact h j (by omega))
    have t := h n (by omega)
    rw [dg_nat, dg_nat] at t
    have du : u / 1000000000 ^ n < 1000000000 := by rw [Nat.pow_succ] at hu; exact Nat.div_lt_of_lt_mul hu
    have dv : v / 1000000000 ^ n < 1000000000 := by rw [Nat.pow_succ] at hv; exact Nat.div_lt_of_lt_mul hv
    rw [Nat.mod_eq_of_lt du, Nat.mod_eq_of_lt dv] at t
    have t' : u / 1000000000 ^ n = v / 1000000000 ^ n := by omega
    have h1 := Nat.mod_add_div u (1000000000 ^ n)
    have h2 := Nat.mod_add_div v (1000000000 ^ n)
    rw [e, t'] at h1
    omega
end Go.Proofs.Ytlelbhiebmdnoaa.pc

namespace Go.Proofs.Ytlelbhiebmdnoaa
open Go.RowKit
set_option linter.unusedVariables false

/-- How long a slice is. -/
def slen : Value → Nat
  | .slice _ n _ => n
  | _ => 0
end Go.Proofs.Ytlelbhiebmdnoaa

namespace Go.Proofs.Ytlelbhiebmdnoaa
open Go.RowKit
set_option linter.unusedVariables false

end Go.Proofs.Ytlelbhiebmdnoaa

namespace Go.Proofs.Ytlelbhiebmdnoaa
open Go.RowKit
set_option linter.unusedVariables false

end Go.Proofs.Ytlelbhiebmdnoaa

namespace Go.Proofs.Ytlelbhiebmdnoaa
open Go.RowKit
set_option linter.unusedVariables false

/-- The slice is the number u, without noughts at its end. -/
structure ND (w : World) (a : Option Addr) (l c u : Nat) : Prop where
  sl : Sl w a l c (wd.dcells l (u : Int))
  len : l = wd.nlen u
/-- The slice is the number u, and not too long. -/
structure NI (w : World) (a : Option Addr) (l c u : Nat) : Prop where
  sl : Sl w a l c (wd.dcells l (u : Int))
  lt : u < 4294967296 ^ l
  few : l ≤ 1000000
theorem ND.below {w w' : World} {a : Option Addr} {l c u : Nat} (h : ND w a l c u) (hb : Below w.heap.size w w') : ND w' a l c u := ⟨h.sl.below hb, h.len⟩
theorem NI.below {w w' : World} {a : Option Addr} {l c u : Nat} (h : NI w a l c u) (hb : Below w.heap.size w w') : NI w' a l c u := ⟨h.sl.below hb, h.lt, h.few⟩
theorem ND.lt {w : World} {a : Option Addr} {l c u : Nat} (h : ND w a l c u) : u < 4294967296 ^ l := by rw [h.len]; exact wd.nlen_lt u
theorem ND.ni {w : World} {a : Option Addr} {l c u : Nat} (h : ND w a l c u) (K : Nat) (hK : K ≤ 1000000) (hu : u < 4294967296 ^ K) : NI w a l c u := ⟨h.sl, h.lt, by rw [h.len]; exact Nat.le_trans (wd.nlen_le hu) hK⟩
theorem ND.to {w : World} {a : Option Addr} {l c u : Nat} (h : ND w a l c u) (hl : l ≤ 1000000) : NI w a l c u := ⟨h.sl, h.lt, hl⟩
end Go.Proofs.Ytlelbhiebmdnoaa

namespace Go.Proofs.Ytlelbhiebmdnoaa
open Go.RowKit
set_option linter.unusedVariables false

/-- The slice has nothing in block k. -/
def NA (k : Nat) (a : Option Addr) (l : Nat) : Prop := l = 0 ∨ ∀ o, a ≠ some ⟨k, o, none⟩
/-- The slice has nothing in the blocks ahead of base. -/
def Far (base : Nat) (a : Option Addr) (l : Nat) : Prop := ∀ k, k < base → NA k a l
theorem Far.mono {base base' : Nat} {a : Option Addr} {l : Nat} (h : Far base a l) (hb : base' ≤ base) : Far base' a l := fun k hk => h k (by omega)
theorem Sl.na {w : World} {a : Option Addr} {l c k : Nat} {xs : List Value} (h : Sl w a l c xs) (hk : w.heap.size ≤ k) : NA k a l := by
  rcases Nat.eq_zero_or_pos l with e | e
  · exact Or.inl e
  · obtain ⟨b, o, rfl, hb, _⟩ := h.at e
    exact Or.inr fun o' e' => by cases e'; omega
theorem Sl.put {w : World} {a : Option Addr} {l c b : Nat} {xs : List Value} (h : Sl w a l c xs) (hn : NA b a l) (i : Nat) (v : Value) : Sl (w.setCell ⟨b, i, none⟩ v) a l c xs := by
  refine ⟨h.len, h.room, h.big, h.nil, ?_⟩
  rcases hn with e | hn
  · exact Or.inl e
  · refine h.seg.imp id ?_
    rintro ⟨k, o, e, hk, hs⟩
    exact ⟨k, o, e, by simpa using hk, hs.other v (by rintro rfl; exact hn o e)⟩
theorem Own.far {w : World} {base n cap : Nat} {T : TypeId} {a : Option Addr} {xs : List Value} (h : Own w base T a n cap xs) : Far base a n := by
  intro k hk
  right
  intro o e
  obtain ⟨hl, ⟨h1, _⟩ | ⟨g, cap', cur, hv, hb', r⟩⟩ := h
  · rw [e] at h1
    cases h1
  · rw [e] at hv
    cases hv
    omega
theorem ND.put {w : World} {a : Option Addr} {l c u b : Nat} (h : ND w a l c u) (hn : NA b a l) (i : Nat) (v : Value) : ND (w.setCell ⟨b, i, none⟩ v) a l c u := ⟨h.sl.put hn i v, h.len⟩
theorem NI.put {w : World} {a : Option Addr} {l c u b : Nat} (h : NI w a l c u) (hn : NA b a l) (i : Nat) (v : Value) : NI (w.setCell ⟨b, i, none⟩ v) a l c u := ⟨h.sl.put hn i v, h.lt, h.few⟩
theorem cell_on {w w' : World} {p : Addr} {v : Value} (hb : Below w.heap.size w w') (h : w.cell? p = some v) : w'.cell? p = some v := by
  refine (hb.cell (p := p) ?_).trans h
  refine Nat.lt_of_not_le fun hle => ?_
  unfold World.cell? at h
  rw [Array.getElem?_eq_none hle] at h
  simp at h
theorem free_on {w w' : World} {p : Addr} {v : Value} {f : Bool} (hb : Below w.heap.size w w') (h : w.cell? p = some v) (hf : w.frozen? p = f) : w'.frozen? p = f := by
  refine (hb.frozen (p := p) ?_).trans hf
  refine Nat.lt_of_not_le fun hle => ?_
  unfold World.cell? at h
  rw [Array.getElem?_eq_none hle] at h
  simp at h
/-- A block of two cells: what they hold, and that they can be written. -/
structure Bx (w : World) (b : Nat) (x y : Value) : Prop where
  c0 : w.cell? ⟨b, 0, none⟩ = some x
  c1 : w.cell? ⟨b, 1, none⟩ = some y
  f0 : w.frozen? ⟨b, 0, none⟩ = false
  f1 : w.frozen? ⟨b, 1, none⟩ = false
theorem Bx.on {w w' : World} {b : Nat} {x y : Value} (h : Bx w b x y) (hb : Below w.heap.size w w') : Bx w' b x y := ⟨cell_on hb h.c0, cell_on hb h.c1, free_on hb h.c0 h.f0, free_on hb h.c1 h.f1⟩
theorem bx_new (w : World) (x y : Value) (t : TypeId) : Bx (w.alloc (.cells #[x, y] t)) w.heap.size x y := by
  have h := Row.new w [x, y] t
  exact ⟨h.cell 0 _ rfl, h.cell 1 _ rfl, h.free 0 (by simp), h.free 1 (by simp)⟩
theorem Bx.put {w : World} {b k i : Nat} {x y v : Value} (h : Bx w b x y) (hk : k ≠ b) : Bx (w.setCell ⟨k, i, none⟩ v) b x y := by
  have hne : ∀ j, (⟨k, i, none⟩ : Addr) ≠ ⟨b, j, none⟩ := fun j e => by cases e; exact hk rfl
  refine ⟨?_, ?_, by rw [World.frozen?_setCell]; exact h.f0, by rw [World.frozen?_setCell]; exact h.f1⟩
  · rw [World.cell?_setCell_other _ _ _ _ (by intro q; simp only [Addr.mk.injEq] at q; omega)]; exact h.c0
  · rw [World.cell?_setCell_other _ _ _ _ (by intro q; simp only [Addr.mk.injEq] at q; omega)]; exact h.c1
theorem Bx.set {w : World} {b : Nat} {x y u v : Value} (h : Bx w b x y) : Bx ((w.setCell ⟨b, 0, none⟩ u).setCell ⟨b, 1, none⟩ v) b u v := by
  refine ⟨?_, ?_, by rw [World.frozen?_setCell, World.frozen?_setCell]; exact h.f0, by rw [World.frozen?_setCell, World.frozen?_setCell]; exact h.f1⟩
  · rw [World.cell?_setCell_other _ _ _ _ (by intro q; simp only [Addr.mk.injEq] at q; omega)]
    exact World.cell?_setCell_same _ _ _ h.c0
  · have h1 : (w.setCell ⟨b, 0, none⟩ u).cell? ⟨b, 1, none⟩ = some y := by
      rw [World.cell?_setCell_other _ _ _ _ (by intro q; simp only [Addr.mk.injEq] at q; omega)]
      exact h.c1
    exact World.cell?_setCell_same _ _ _ h1
end Go.Proofs.Ytlelbhiebmdnoaa

namespace Go.Proofs.Ytlelbhiebmdnoaa
open Go.RowKit
set_option linter.unusedVariables false

/-- A whole number as it comes: a sign, which does not count of nought, and how much. -/
structure WI (w : World) (n : Bool) (a : Option Addr) (l c : Nat) (z : Int) : Prop where
  ni : NI w a l c z.natAbs
  neg : n = true → z ≤ 0
  pos : n = false → 0 ≤ z
/-- A whole number in its one form. -/
structure WN (w : World) (n : Bool) (a : Option Addr) (l c : Nat) (z : Int) : Prop where
  nd : ND w a l c z.natAbs
  sg : n = decide (z < 0)
theorem WI.below {w w' : World} {n : Bool} {a : Option Addr} {l c : Nat} {z : Int} (h : WI w n a l c z) (hb : Below w.heap.size w w') : WI w' n a l c z := ⟨h.ni.below hb, h.neg, h.pos⟩
theorem WN.below {w w' : World} {n : Bool} {a : Option Addr} {l c : Nat} {z : Int} (h : WN w n a l c z) (hb : Below w.heap.size w w') : WN w' n a l c z := ⟨h.nd.below hb, h.sg⟩
/-- The number of a sign and how much. -/
def sgz (n : Bool) (u : Nat) : Int := if n then -(u : Int) else u
theorem WI.is {w : World} {n : Bool} {a : Option Addr} {l c : Nat} {z : Int} (h : WI w n a l c z) : z = sgz n z.natAbs := by
  have h1 := h.neg
  have h2 := h.pos
  unfold sgz
  cases n
  · have := h2 rfl; simp; omega
  · have := h1 rfl; simp; omega
theorem WN.put {w : World} {n : Bool} {a : Option Addr} {l c b : Nat} {z : Int} (h : WN w n a l c z) (hn : NA b a l) (i : Nat) (v : Value) : WN (w.setCell ⟨b, i, none⟩ v) n a l c z := ⟨h.nd.put hn i v, h.sg⟩
theorem WI.put {w : World} {n : Bool} {a : Option Addr} {l c b : Nat} {z : Int} (h : WI w n a l c z) (hn : NA b a l) (i : Nat) (v : Value) : WI (w.setCell ⟨b, i, none⟩ v) n a l c z := ⟨h.ni.put hn i v, h.neg, h.pos⟩
theorem WN.put2 {w : World} {n : Bool} {a : Option Addr} {l c b : Nat} {z : Int} (h : WN w n a l c z) (hn : NA b a l) (u v : Value) : WN ((w.setCell ⟨b, 0, none⟩ u).setCell ⟨b, 1, none⟩ v) n a l c z := (h.put hn 0 u).put hn 1 v
theorem WI.put2 {w : World} {n : Bool} {a : Option Addr} {l c b : Nat} {z : Int} (h : WI w n a l c z) (hn : NA b a l) (u v : Value) : WI ((w.setCell ⟨b, 0, none⟩ u).setCell ⟨b, 1, none⟩ v) n a l c z := (h.put hn 0 u).put hn 1 v
theorem below_put2 {B b : Nat} {w w' : World} (h : Below B w w') (hb : B ≤ b) (u v : Value) : Below B w ((w'.setCell ⟨b, 0, none⟩ u).setCell ⟨b, 1, none⟩ v) := (h.setCell hb _).setCell hb _
theorem also {w w1 w2 : World} (h : Below w.heap.size w w1) (k : Below w1.heap.size w1 w2) : Below w.heap.size w w2 := h.trans (k.mono h.size)

end Go.Proofs.Ytlelbhiebmdnoaa

namespace Go.Proofs.Ytlelbhiebmdnoaa
open Go.RowKit
set_option linter.unusedVariables false

theorem box1 (w : World) (x1 y1 z1 z2 : Value) (t1 t2 : TypeId) : Below w.heap.size w ((w.alloc (.cells #[x1, y1] t1)).alloc (.cells #[z1, z2] t2)) ∧ Bx ((w.alloc (.cells #[x1, y1] t1)).alloc (.cells #[z1, z2] t2)) w.heap.size x1 y1 ∧
    Bx ((w.alloc (.cells #[x1, y1] t1)).alloc (.cells #[z1, z2] t2)) (w.heap.size + 1) z1 z2 ∧ w.heap.size + 1 < ((w.alloc (.cells #[x1, y1] t1)).alloc (.cells #[z1, z2] t2)).heap.size := by
  have h1 := (bx_new w x1 y1 t1).on ((Below.refl _ _).alloc (Nat.le_refl _) (.cells #[z1, z2] t2))
  have h2 := bx_new (w.alloc (.cells #[x1, y1] t1)) z1 z2 t2
  rw [World.size_alloc] at h2
  exact ⟨((Below.refl _ _).alloc (Nat.le_refl _) _).alloc (by simp) _, h1, h2, by simp⟩
theorem box2 (w : World) (x1 y1 x2 y2 z1 z2 : Value) (t1 t2 t3 : TypeId) : Below w.heap.size w (((w.alloc (.cells #[x1, y1] t1)).alloc (.cells #[x2, y2] t2)).alloc (.cells #[z1, z2] t3)) ∧ Bx (((w.alloc (.cells #[x1, y1] t1)).alloc (.cells #[x2, y2] t2)).alloc (.cells #[z1, z2] t3)) w.heap.size x1 y1 ∧
    Bx (((w.alloc (.cells #[x1, y1] t1)).alloc (.cells #[x2, y2] t2)).alloc (.cells #[z1, z2] t3)) (w.heap.size + 1) x2 y2 ∧ Bx (((w.alloc (.cells #[x1, y1] t1)).alloc (.cells #[x2, y2] t2)).alloc (.cells #[z1, z2] t3)) (w.heap.size + 1 + 1) z1 z2 ∧
    w.heap.size + 1 + 1 < (((w.alloc (.cells #[x1, y1] t1)).alloc (.cells #[x2, y2] t2)).alloc (.cells #[z1, z2] t3)).heap.size := by
  obtain ⟨h1, h2, h3, h4⟩ := box1 w x1 y1 x2 y2 t1 t2
  have hb : Below ((w.alloc (.cells #[x1, y1] t1)).alloc (.cells #[x2, y2] t2)).heap.size ((w.alloc (.cells #[x1, y1] t1)).alloc (.cells #[x2, y2] t2)) (((w.alloc (.cells #[x1, y1] t1)).alloc (.cells #[x2, y2] t2)).alloc (.cells #[z1, z2] t3)) := (Below.refl _ _).alloc (Nat.le_refl _) _
  have h5 := bx_new ((w.alloc (.cells #[x1, y1] t1)).alloc (.cells #[x2, y2] t2)) z1 z2 t3
  rw [World.size_alloc, World.size_alloc] at h5
  exact ⟨also h1 hb, h2.on hb, h3.on hb, h5, by simp⟩
theorem keepB2 {n : Nat} {v1 v2 v3 v4 : Value} {w0 w w' : World} (h : w.cell? ⟨n, 0, none⟩ = some v1 ∧ w.cell? ⟨n, 1, none⟩ = some v2 ∧ w.cell? ⟨n + 1, 0, none⟩ = some v3 ∧ w.cell? ⟨n + 1, 1, none⟩ = some v4 ∧ Below w0.heap.size w0 w) (hb : Below w.heap.size w w') :
    w'.cell? ⟨n, 0, none⟩ = some v1 ∧ w'.cell? ⟨n, 1, none⟩ = some v2 ∧ w'.cell? ⟨n + 1, 0, none⟩ = some v3 ∧ w'.cell? ⟨n + 1, 1, none⟩ = some v4 ∧ Below w0.heap.size w0 w' :=
  ⟨cell_on hb h.1, cell_on hb h.2.1, cell_on hb h.2.2.1, cell_on hb h.2.2.2.1, also h.2.2.2.2 hb⟩
theorem keepS1 {n k : Nat} {v1 v2 : Value} {w0 w : World} (h : w.cell? ⟨n, 0, none⟩ = some v1 ∧ w.cell? ⟨n, 1, none⟩ = some v2 ∧ Below w0.heap.size w0 w) (hk : n < k) (hB : w0.heap.size ≤ k) (u v : Value) :
    ((w.setCell ⟨k, 0, none⟩ u).setCell ⟨k, 1, none⟩ v).cell? ⟨n, 0, none⟩ = some v1 ∧ ((w.setCell ⟨k, 0, none⟩ u).setCell ⟨k, 1, none⟩ v).cell? ⟨n, 1, none⟩ = some v2 ∧ Below w0.heap.size w0 ((w.setCell ⟨k, 0, none⟩ u).setCell ⟨k, 1, none⟩ v) := by
  have hne : ∀ i j : Nat, (⟨k, i, none⟩ : Addr) ≠ ⟨n, j, none⟩ := fun i j e => by simp only [Addr.mk.injEq] at e; omega
  exact ⟨by rw [World.cell?_setCell_other _ _ _ _ (hne _ _), World.cell?_setCell_other _ _ _ _ (hne _ _)]; exact h.1, by rw [World.cell?_setCell_other _ _ _ _ (hne _ _), World.cell?_setCell_other _ _ _ _ (hne _ _)]; exact h.2.1, below_put2 h.2.2 hB u v⟩
theorem keepS2 {n k : Nat} {v1 v2 v3 v4 : Value} {w0 w : World} (h : w.cell? ⟨n, 0, none⟩ = some v1 ∧ w.cell? ⟨n, 1, none⟩ = some v2 ∧ w.cell? ⟨n + 1, 0, none⟩ = some v3 ∧ w.cell? ⟨n + 1, 1, none⟩ = some v4 ∧ Below w0.heap.size w0 w) (hk : n + 1 < k) (hB : w0.heap.size ≤ k) (u v : Value) :
    ((w.setCell ⟨k, 0, none⟩ u).setCell ⟨k, 1, none⟩ v).cell? ⟨n, 0, none⟩ = some v1 ∧ ((w.setCell ⟨k, 0, none⟩ u).setCell ⟨k, 1, none⟩ v).cell? ⟨n, 1, none⟩ = some v2 ∧ ((w.setCell ⟨k, 0, none⟩ u).setCell ⟨k, 1, none⟩ v).cell? ⟨n + 1, 0, none⟩ = some v3 ∧ ((w.setCell ⟨k, 0, none⟩ u).setCell ⟨k, 1, none⟩ v).cell? ⟨n + 1, 1, none⟩ = some v4 ∧ Below w0.heap.size w0 ((w.setCell ⟨k, 0, none⟩ u).setCell ⟨k, 1, none⟩ v) := by
  obtain ⟨h1, h2, h3, h4, h5⟩ := h
  obtain ⟨a1, a2, _⟩ := keepS1 ⟨h1, h2, h5⟩ (by omega) hB u v
  obtain ⟨b1, b2, b3⟩ := keepS1 ⟨h3, h4, h5⟩ hk hB u v
  exact ⟨a1, a2, b1, b2, b3⟩
theorem Bx.drew {w : World} {b : Nat} {x y : Value} (h : Bx w b x y) : Bx w.drew b x y := ⟨h.c0, h.c1, h.f0, h.f1⟩
end Go.Proofs.Ytlelbhiebmdnoaa

namespace Go.Proofs.Ytlelbhiebmdnoaa
open Go.RowKit
set_option linter.unusedVariables false

end Go.Proofs.Ytlelbhiebmdnoaa
