/-
  What zelligeref03's Trim and Of answer.
-/
import Derived.Test.YteoepelmapjhcaaDoorNatE
import Derived.Test.YteoepelmapjhcaaDoorDigLhf
import Derived.Test.YteoepelmapjhcaaDoorHeld
import Derived.Deep.AppendLies
namespace Go.Proofs.YteoepelmapjhcaaDoor
open Go.RowKit
set_option linter.unusedVariables false

set_option maxRecDepth 100000 in
set_option maxHeartbeats 400000 in
theorem rtrim_own (a : Option Addr) (l cap u base : Nat) (w : World) (hown : Own w base 3 a l cap (hf.dcells l (u : Int))) (hu : u < 65536 ^ l) :
    Calls Tryd.prog 33 #[.slice a l cap] w fun e w' => e = .returned (.slice a (hf.nlen u) cap) ∧ w = w' ∧ Own w base 3 a (hf.nlen u) cap (hf.dcells (hf.nlen u) (u : Int)) := by
  have hs := Own.sl hown
  have hcap := hs.big
  have hroom := hs.room
  unfold maxLen at hcap
  have HO : Hid (Own w base 3 a (hf.nlen u) cap (hf.dcells (hf.nlen u) (u : Int))) := by
    have := Own.take hown (hf.nlen_le hu)
    rwa [hf.dcells_take _ _ _ (hf.nlen_le hu)] at this
  have hsh : (a = none ∧ cap = 0) ∨ ∃ g, a = some ⟨g, 0, none⟩ := by
    obtain ⟨_, ⟨h1, _⟩ | ⟨g, cap', cur, hv, _⟩⟩ := hown
    · cases h1; exact Or.inl ⟨rfl, rfl⟩
    · cases hv; exact Or.inr ⟨g, rfl⟩
  rcases hsh with ⟨rfl, rfl⟩ | ⟨g, rfl⟩
  · obtain rfl : l = 0 := by omega
    have hz : Hid (hf.nlen u = 0) := hf.nlen_eq_zero.2 (by simpa using hu)
    clear hown hs
    go_enter Tryd.func33, Tryd.ntmps33
    go_wp2
    go_loop [3] (fun i => i = .int .i64 0) (fun i => (intOf i).toNat)
    case atStart => rfl
    case round =>
      obtain rfl := hrel
      go_wp2
      go_ret
      exact ⟨by rw [hz.out]; rfl, rfl, HO.out⟩
  · go_enter Tryd.func33, Tryd.ntmps33
    go_wp2
    go_loop [3] (fun i => ∃ k : Nat, k ≤ l ∧ u < 65536 ^ k ∧ i = .int .i64 (k : Int)) (fun i => (intOf i).toNat)
    case atStart => exact ⟨l, Nat.le_refl _, hu, rfl⟩
    case round =>
      obtain ⟨k, hk, huk, rfl⟩ := hrel
      rcases k with _ | k
      · have hz : Hid (hf.nlen u = 0) := hf.nlen_eq_zero.2 (by simpa using huk)
        clear hu huk
        go_wp2
        go_ret
        exact ⟨by rw [hz.out]; rfl, rfl, HO.out⟩
      · have c1 : w.cell? ⟨g, k, none⟩ = some (.int .i64 (hf.dg u k)) := Own.cell hown k _ (hf.dcells_at _ _ _ (by omega))
        have e1 : ((k + 1 : Nat) : Int) - 1 = (k : Int) := by omega
        by_cases hd : hf.dg (u : Int) k = 0
        · have hd' : (hf.dg (u : Int) k == 0) = true := by rw [hd]; rfl
          have Hn : Hid (u < 65536 ^ k) := hf.lt_of_dg_zero huk hd
          clear hd huk hu hown
          go_wp2
          go_round
          case rel => exact ⟨k, by omega, Hn.out, by go_num⟩
          case measure => simp [intOf]
        · have hd' : (hf.dg (u : Int) k == 0) = false := by simpa using hd
          have Hl : Hid (hf.nlen u = k + 1) := by
            refine hf.nlen_eq ⟨huk, Or.inr ?_⟩
            rcases Nat.lt_or_ge u (65536 ^ k) with h | h
            · exact absurd (hf.dg_over h) hd
            · simpa using h
          clear hd huk hu hown
          go_wp2
          go_ret
          exact ⟨by rw [Hl.out]; rfl, rfl, HO.out⟩

/-- Two digits for each word. -/
theorem halves (u : Int) (k : Nat) : hf.dg u (2 * k) = wd.dg u k % 65536 ∧ hf.dg u (2 * k + 1) = wd.dg u k / 65536 := by
  unfold hf.dg wd.dg
  have e : (65536 : Int) ^ (2 * k) = 4294967296 ^ k := by rw [Int.pow_mul]; rfl
  have e2 : (65536 : Int) ^ (2 * k + 1) = 4294967296 ^ k * 65536 := by rw [Int.pow_succ, e]
  have hp := wd.p256 k
  rw [e, e2]
  have : u / (4294967296 ^ k * 65536) = u / 4294967296 ^ k / 65536 := by rw [Int.ediv_ediv, if_neg (by omega)]; omega
  rw [this]
  omega
theorem pow_halves (k : Nat) : 65536 ^ (2 * k) = 4294967296 ^ k := by rw [Nat.pow_mul]
theorem hf_two (t : Nat) (u : Int) : hf.dcells (2 * (t + 1)) u = hf.dcells (2 * t) u ++ [.int .i64 (wd.dg u t % 65536), .int .i64 (wd.dg u t / 65536)] := by
  rw [show 2 * (t + 1) = 2 * t + 1 + 1 by omega, hf.dcells_succ, hf.dcells_succ, (halves u t).1, (halves u t).2, List.append_assoc]
  rfl
/-- What holds at the head of each round. -/
def OfRel (w : World) (u l : Nat) (v i : Value) (wr : World) : Prop := ∃ (k cap : Nat) (a : Option Addr), k ≤ l ∧ i = .int .i64 (k : Int) ∧ v = .slice a (2 * k) cap ∧ Own wr w.heap.size 3 a (2 * k) cap (hf.dcells (2 * k) (u : Int)) ∧ Below w.heap.size w wr
theorem ofRel_next {w wr w2 w4 : World} {u l k cap cap' g' : Nat} {a : Option Addr} (hk : k < l) (hown : Own wr w.heap.size 3 a (2 * k) cap (hf.dcells (2 * k) (u : Int))) (hbel : Below w.heap.size w wr)
    (h4 : w4.ownsRow w.heap.size 3 1 (.slice (some ⟨g', 0, none⟩) (2 * k + 2) cap') (2 * k + 2) (hf.dcells (2 * k) (u : Int) ++ [.int .i64 (wd.dg u k % 65536), .int .i64 (wd.dg u k / 65536)]))
    (h2 : Below wr.heap.size wr w2) (hgr : w2.grownBy w4 (Value.slice a (2 * k) cap).ownBlock) : OfRel w u l (.slice (some ⟨g', 0, none⟩) (2 * k + 2) cap') (.int .i64 ((k : Int) + 1)) w4 := by
  have hs := hbel.size
  refine ⟨k + 1, cap', _, hk, by simp, rfl, ?_, (hbel.trans (h2.mono hs)).grown hgr (by have := h2.size; omega) (fun k' hk' => (World.ownsRow.lt hown k' hk').1)⟩
  rw [hf_two]
  exact h4
theorem own_empty (w : World) (base : Nat) (T : TypeId) (hb : base ≤ w.heap.size) : Own (w.alloc (.cells #[] T)) base T (some ⟨w.heap.size, 0, none⟩) 0 0 [] := World.ownsRow_lit w #[] 0 hb (by decide) rfl
set_option maxRecDepth 100000 in
set_option maxHeartbeats 1000000 in
theorem rof_any (a : Option Addr) (l ca u : Nat) (w : World) (ha : Sl w a l ca (wd.dcells l (u : Int))) (hu : u < 4294967296 ^ l) (hl : l ≤ 1000000000) :
    Calls Tryd.prog 10 #[.slice a l ca] w fun e w' => ∃ a' cap', e = .returned (.slice a' (hf.nlen u) cap') ∧ Own w' w.heap.size 3 a' (hf.nlen u) cap' (hf.dcells (hf.nlen u) (u : Int)) ∧ Below w.heap.size w w' := by
  obtain ⟨i0, hi0, hz0, hz1, hz2⟩ := info_parts infoInt
  have HU : Hid (u < 65536 ^ (2 * l)) := by unfold Hid; rw [pow_halves]; exact hu
  have hown0 := own_empty w w.heap.size 3 (Nat.le_refl _)
  clear hu
  go_enter Tryd.func10, Tryd.ntmps10
  go_wp2
  go_loopw [3, 4] (fun v i wr => OfRel w u l v i wr) (fun _ i _ => l - (intOf i).toNat)
  case atStart => exact ⟨0, 0, _, by omega, rfl, rfl, hown0, (Below.refl _ _).alloc (Nat.le_refl _) _⟩
  case round =>
    clear hown0
    obtain ⟨k, cap, v, hk, rfl, rfl, hown, hbel⟩ := hrel
    by_cases hlt : k < l
    · obtain ⟨ba, oa, rfl, hba, hseg⟩ := ha.at (by omega)
      have hroom := ha.room
      have c0 : w.cell? ⟨ba, oa + k, none⟩ = some (.int .u32 (wd.dg u k)) := hseg.cell k _ (wd.dcells_at _ _ _ hlt)
      have c1 : wr.cell? ⟨ba, oa + k, none⟩ = some (.int .u32 (wd.dg u k)) := (hbel.cell (p := ⟨ba, oa + k, none⟩) hba).trans (hseg.cell k _ (wd.dcells_at _ _ _ hlt))
      have hsz := hbel.size
      have hba2 : ba < wr.heap.size := by omega
      obtain ⟨d0, d1⟩ := wd.dg_range u k
      have E1 : IntKind.i64.wrap ((wd.dg (u : Int) k).tmod 65536) = wd.dg u k % 65536 := by rw [Int.tmod_eq_emod_of_nonneg d0, IntKind.wrap_i64]; omega
      have E2 : IntKind.i64.wrap (IntKind.u32.wrap ((wd.dg (u : Int) k).tdiv 65536)) = wd.dg u k / 65536 := by rw [Int.tdiv_eq_ediv_of_nonneg d0, IntKind.wrap_u32', IntKind.wrap_i64]; omega
      have HN : Hid _ := fun w2 w4 g' cap' => ofRel_next (w2 := w2) (w4 := w4) (g' := g') (cap' := cap') hlt hown hbel
      go_wp2
      refine wp_region_held_drew (S := (fun w' => w'.cell? ⟨ba, oa + k, none⟩ = some (.int .u32 (wd.dg u k)) ∧ Below w.heap.size w w')) (by kernel_rfl) ?_ (fun hHeld => ?_)
      · first | exact ⟨c1, hbel⟩ | exact ⟨c1, hbel.drew⟩ | exact ⟨((hHeld.2.alloc hHeld.2.size _).cell (p := ⟨ba, oa + k, none⟩) hba).trans c0, hHeld.2.alloc hHeld.2.size _⟩ | exact ⟨((hbel.alloc hbel.size _).drew.cell (p := ⟨ba, oa + k, none⟩) hba).trans c0, (hbel.alloc hbel.size _).drew⟩
      refine take_yes (i := 0) (v := ?vo0) rfl (by kernel_rfl) (by kernel_rfl) (by kernel_rfl) (fun _ _ _ h => h) (by rfl) (by assumption) ?hyo0 ?resto0
      case hyo0 => (intro w hSw; (try dsimp only at hSw); first | (go_simp; done) | (go_simp; with_reducible rfl))
      simp only [Act.put, List.setIfInBounds_toArray, List.set_cons_zero, List.set_cons_succ]
      refine take_yes (i := 1) (v := ?vo1) rfl (by kernel_rfl) (by kernel_rfl) (by kernel_rfl) (fun _ _ _ h => h) (by rfl) (by assumption) ?hyo1 ?resto1
      case hyo1 => (intro w hSw; (try dsimp only at hSw); first | (go_simp; done) | (go_simp; with_reducible rfl))
      simp only [Act.put, List.setIfInBounds_toArray, List.set_cons_zero, List.set_cons_succ]
      refine take_yes (i := 2) (v := ?vo2) rfl (by kernel_rfl) (by kernel_rfl) (by kernel_rfl) (fun _ _ _ h => h) (by rfl) (by assumption) ?hyo2 ?resto2
      case hyo2 => (intro w hSw; (try dsimp only at hSw); first | (go_simp; done) | (go_simp; with_reducible rfl))
      simp only [Act.put, List.setIfInBounds_toArray, List.set_cons_zero, List.set_cons_succ]
      refine take_yes (i := 3) (v := ?vo3) rfl (by kernel_rfl) (by kernel_rfl) (by kernel_rfl) (fun _ _ _ h => h) (by rfl) (by assumption) ?hyo3 ?resto3
      case hyo3 => (intro w hSw; (try dsimp only at hSw); first | (go_simp; done) | (go_simp; with_reducible rfl))
      simp only [Act.put, List.setIfInBounds_toArray, List.set_cons_zero, List.set_cons_succ]
      refine take_yes (i := 4) (v := ?vo4) rfl (by kernel_rfl) (by kernel_rfl) (by kernel_rfl) (fun _ _ _ h => h) (by rfl) (by assumption) ?hyo4 ?resto4
      case hyo4 => (intro w hSw; (try dsimp only at hSw); first | (go_simp; done) | (go_simp; with_reducible rfl))
      simp only [Act.put, List.setIfInBounds_toArray, List.set_cons_zero, List.set_cons_succ]
      refine take_yes (i := 5) (v := ?vo5) rfl (by kernel_rfl) (by kernel_rfl) (by kernel_rfl) (fun _ _ _ h => h) (by rfl) (by assumption) ?hyo5 ?resto5
      case hyo5 => (intro w hSw; (try dsimp only at hSw); first | (go_simp; done) | (go_simp; with_reducible rfl))
      simp only [Act.put, List.setIfInBounds_toArray, List.set_cons_zero, List.set_cons_succ]
      refine take_yes (i := 6) (v := ?vo6) rfl (by kernel_rfl) (by kernel_rfl) (by kernel_rfl) (fun _ _ _ h => h) (by rfl) (by assumption) ?hyo6 ?resto6
      case hyo6 => (intro w hSw; (try dsimp only at hSw); first | (go_simp; done) | (go_simp; with_reducible rfl))
      simp only [Act.put, List.setIfInBounds_toArray, List.set_cons_zero, List.set_cons_succ]
      refine take_yes (i := 7) (v := ?vo7) rfl (by kernel_rfl) (by kernel_rfl) (by kernel_rfl) (fun _ _ _ h => h) (by rfl) (by assumption) ?hyo7 ?resto7
      case hyo7 => (intro w hSw; (try dsimp only at hSw); first | (go_simp; done) | (go_simp; with_reducible rfl))
      simp only [Act.put, List.setIfInBounds_toArray, List.set_cons_zero, List.set_cons_succ]
      refine take_yes (i := 8) (v := ?vo8) rfl (by kernel_rfl) (by kernel_rfl) (by kernel_rfl) (fun _ _ _ h => h) (by rfl) (by assumption) ?hyo8 ?resto8
      case hyo8 => (intro w hSw; (try dsimp only at hSw); first | (go_simp; done) | (go_simp; with_reducible rfl))
      simp only [Act.put, List.setIfInBounds_toArray, List.set_cons_zero, List.set_cons_succ]
      refine take_yes (i := 9) (v := ?vo9) rfl (by kernel_rfl) (by kernel_rfl) (by kernel_rfl) (fun _ _ _ h => h) (by rfl) (by assumption) ?hyo9 ?resto9
      case hyo9 => (intro w hSw; (try dsimp only at hSw); first | (go_simp; done) | (go_simp; with_reducible rfl))
      simp only [Act.put, List.setIfInBounds_toArray, List.set_cons_zero, List.set_cons_succ]
      refine take_yes (i := 10) (v := ?vo10) rfl (by kernel_rfl) (by kernel_rfl) (by kernel_rfl) (fun _ _ _ h => h) (by rfl) (by assumption) ?hyo10 ?resto10
      case hyo10 => (intro w hSw; (try dsimp only at hSw); first | (go_simp; done) | (go_simp; with_reducible rfl))
      simp only [Act.put, List.setIfInBounds_toArray, List.set_cons_zero, List.set_cons_succ]
      refine take_yes (i := 11) (v := ?vo11) rfl (by kernel_rfl) (by kernel_rfl) (by kernel_rfl) (fun _ _ _ h => h) (by rfl) (by assumption) ?hyo11 ?resto11
      case hyo11 => (intro w hSw; (try dsimp only at hSw); first | (go_simp; done) | (go_simp; with_reducible rfl))
      simp only [Act.put, List.setIfInBounds_toArray, List.set_cons_zero, List.set_cons_succ]
      refine take_yes (i := 12) (v := ?vo12) rfl (by kernel_rfl) (by kernel_rfl) (by kernel_rfl) (fun _ _ _ h => h) (by rfl) (by assumption) ?hyo12 ?resto12
      case hyo12 => (intro w hSw; (try dsimp only at hSw); first | (go_simp; done) | (go_simp; with_reducible rfl))
      simp only [Act.put, List.setIfInBounds_toArray, List.set_cons_zero, List.set_cons_succ]
      refine take_call (i := 13) rfl (by kernel_rfl) (fun K hK => ?_)
      go_simp
      refine hK.out _ _ ?_ (fun hHeld => ?_)
      · first | exact ⟨c1, hbel⟩ | exact ⟨c1, hbel.drew⟩ | exact ⟨((hHeld.2.alloc hHeld.2.size _).cell (p := ⟨ba, oa + k, none⟩) hba).trans c0, hHeld.2.alloc hHeld.2.size _⟩ | exact ⟨((hbel.alloc hbel.size _).drew.cell (p := ⟨ba, oa + k, none⟩) hba).trans c0, (hbel.alloc hbel.size _).drew⟩
      clear hK K
      refine take_call (i := 14) rfl (by kernel_rfl) (fun K hK => ?_)
      refine step_append_lies _ rfl (.tmp 12) (.tmp 25) 25 rfl w.heap.size 3 i0 (.int .i64 0) 1 8 Tryd.underlying25 hi0 hz0 hz1 hz2 rfl (by decide) (.slice v (2 * k) cap) (2 * k) (hf.dcells (2 * k) (u : Int)) rfl (World.ownsRow.alloc hown _) ⟨wr.heap.size, 0, none⟩ 2 2 [.int .i64 (wd.dg u k % 65536), .int .i64 (wd.dg u k / 65536)] rfl rfl (World.news_of_block (heap_alloc_new wr _)) (ints_oneCell .i64 [wd.dg u k % 65536, wd.dg u k / 65536]) (by decide) (by unfold maxLen; omega) (by omega) (by simp; omega) _ rfl ?_; intro g' cap' w4 hown4 hgrow4 hat4 hlt4
      refine hK.out _ _ ?_ (fun hHeld => ?_)
      · exact ⟨(((hHeld.2.grown hgrow4 (by simp; omega) (fun k' hk' => (World.ownsRow.lt hown k' hk').1))).cell (p := ⟨ba, oa + k, none⟩) hba).trans c0, hHeld.2.grown hgrow4 (by simp; omega) (fun k' hk' => (World.ownsRow.lt hown k' hk').1)⟩
      clear hK K
      refine take_yes (i := 15) (v := ?vo15) rfl (by kernel_rfl) (by kernel_rfl) (by kernel_rfl) (fun _ _ _ h => h) (by rfl) (by assumption) ?hyo15 ?resto15
      case hyo15 => (intro w hSw; (try dsimp only at hSw); first | (go_simp; done) | (go_simp; with_reducible rfl))
      simp only [Act.put, List.setIfInBounds_toArray, List.set_cons_zero, List.set_cons_succ]
      refine wpAnyH_done (by kernel_rfl) ?_ _
      go_wp2
      go_roundw
      case rel => exact HN.out _ w4 g' cap' hown4 ((Below.refl _ _).alloc (Nat.le_refl _) _).drew hgrow4
      case measure => simp [intOf]; omega
    · obtain rfl : k = l := by omega
      go_wp2_with (go_at_call 33; refine (rtrim_own _ _ _ u _ _ hown HU.out).mono ?_; rintro e w' ⟨rfl, hw, hown2⟩; subst hw)
      go_ret
      exact ⟨v, cap, rfl, hown2, hbel⟩
end Go.Proofs.YteoepelmapjhcaaDoor
