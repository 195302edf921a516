/-
  What nat's piecesOf answers.
-/
import Derived.Test.YteoepelmapjhcaaDoorNatG
import Derived.Test.YteoepelmapjhcaaDoorLenApc
import Derived.Deep.AppendLies
namespace Go.Proofs.YteoepelmapjhcaaDoor
open Go.RowKit
set_option linter.unusedVariables false

/-- How long a slice is. -/
def slen : Value → Nat
  | .slice _ n _ => n
  | _ => 0
theorem pc_succ (t : Nat) (a : Int) : pc.dcells (t + 1) a = pc.dcells t a ++ [.int .u32 (pc.dg a t)] := by
  unfold pc.dcells; rw [List.range_succ, List.map_append]; rfl
theorem pc_small {u t l : Nat} (h : 1000000000 ^ t ≤ u) (hu : u < 4294967296 ^ l) : t ≤ 2 * l := by
  rcases Nat.lt_or_ge (2 * l) t with h1 | h1
  · have h2 : 4294967296 ^ l ≤ (1000000000 ^ 2) ^ l := Nat.pow_le_pow_left (by decide) l
    rw [← Nat.pow_mul] at h2
    have h3 := Nat.pow_le_pow_right (n := 1000000000) (by decide) (show 2 * l ≤ t by omega)
    omega
  · exact h1
/-- What holds at the head of each round. -/
def PieceRel (w : World) (u la : Nat) (pv rv : Value) (wr : World) : Prop := ∃ (t U : Nat) (ap ar : Option Addr) (cp cr : Nat), t ≤ 2 * la + 1 ∧ (t = 0 ∨ 1000000000 ^ (t - 1) ≤ u) ∧ Hid (U = u / 1000000000 ^ t) ∧ pv = .slice ap t cp ∧ rv = .slice ar (wd.nlen U) cr ∧
  Own wr w.heap.size 44 ap t cp (pc.dcells t (u : Int)) ∧ Own wr w.heap.size 44 ar (wd.nlen U) cr (wd.dcells (wd.nlen U) (U : Int)) ∧
  (∀ b, ar = some b → (Value.slice ap t cp).ownBlock ≠ some b.block) ∧ Below w.heap.size w wr
theorem piece_dg (u t : Nat) : ((u / 1000000000 ^ t : Nat) : Int) % 1000000000 = pc.dg (u : Int) t := by
  rw [pc.dg_nat]; omega
theorem piece_next (u t : Nat) : ((u / 1000000000 ^ t : Nat) : Int) / 1000000000 = ((u / 1000000000 ^ (t + 1) : Nat) : Int) := by
  rw [Nat.pow_succ, ← Nat.div_div_eq_div_mul]; omega
theorem next_le (u t : Nat) : u / 1000000000 ^ (t + 1) ≤ u / 1000000000 ^ t := by
  rw [Nat.pow_succ, ← Nat.div_div_eq_div_mul]; exact Nat.div_le_self _ _
/-- The round's end. -/
theorem pieceRel_next {w wr w2 w4 : World} {u la t g cp cr g' cap' cr' U U' : Nat} {r : Int} {ap ar' : Option Addr} {T : TypeId} (hU' : U' = u / 1000000000 ^ (t + 1)) (hr : r = pc.dg u t) (hle : 1000000000 ^ t ≤ u) (hu : u < 4294967296 ^ la) (hbel : Below w.heap.size w wr) (hg : g < wr.heap.size) (hg2 : w.heap.size ≤ g)
    (hownp : Own wr w.heap.size 44 ap t cp (pc.dcells t (u : Int))) (hne : ∀ b, some (⟨g, 0, none⟩ : Addr) = some b → (Value.slice ap t cp).ownBlock ≠ some b.block)
    (hwr : Wr wr w2 g 0 (wd.nlen U)) (hownr2 : Own w2 w.heap.size 44 (some ⟨g, 0, none⟩) (wd.nlen U) cr (wd.dcells (wd.nlen U) (U' : Int)))
    (h4 : w4.ownsRow w.heap.size 44 1 (.slice (some ⟨g', 0, none⟩) (t + 1) cap') (t + 1) (pc.dcells t (u : Int) ++ [.int .u32 r])) (hgr : (w2.alloc (.cells #[.int .u32 r] T)).grownBy w4 (Value.slice ap t cp).ownBlock)
    (hat : (Value.slice ap t cp).ownBlock = some g' ∨ g' = (w2.alloc (.cells #[.int .u32 r] T)).heap.size) :
    Own w4 w.heap.size 44 (some ⟨g, 0, none⟩) (wd.nlen U) cr (wd.dcells (wd.nlen U) (U' : Int)) ∧
    (∀ cut : Cut (some ⟨g, 0, none⟩) (wd.nlen U) cr ar' (wd.nlen U') cr', PieceRel w u la (.slice (some ⟨g', 0, none⟩) (t + 1) cap') (.slice ar' (wd.nlen U') cr') w4) := by
  subst hr
  have hne' := hne _ rfl
  have hsz := hwr.grown.size
  have hr4 : Own w4 w.heap.size 44 (some ⟨g, 0, none⟩) (wd.nlen U) cr (wd.dcells (wd.nlen U) (U' : Int)) :=
    World.ownsRow.kept (World.ownsRow.alloc hownr2 _) hgr (Or.inr fun e => hne' (by rw [← e]; rfl))
  refine ⟨hr4, fun cut => ⟨t + 1, U', _, ar', cap', cr', by have := pc_small hle hu; omega, Or.inr (by simpa using hle), hU', rfl, rfl, ?_, cut.own hr4, ?_, ?_⟩⟩
  · rw [pc_succ]; exact h4
  · intro b hb e
    simp only [Value.ownBlock, Option.some.injEq] at e
    rcases cut with ⟨_, h, _⟩ | ⟨_, _, h, _⟩
    · rw [h] at hb; cases hb
    · rw [h] at hb
      cases hb
      dsimp only at e
      rcases hat with hat | hat
      · exact hne' (by rw [hat, e])
      · rw [World.size_alloc] at hat; omega
  · have hb2 := hwr.after hbel hg2 (Nat.le_refl _)
    refine ((hb2.alloc hb2.size _).grown hgr ?_ ?_)
    · rw [World.size_alloc]; have := hb2.size; omega
    · intro k hk
      exact (World.ownsRow.lt hownp k hk).1

set_option maxRecDepth 100000 in
set_option maxHeartbeats 2000000 in
theorem pieces_any (a : Option Addr) (la ca u : Nat) (w : World) (ha : Sl w a la ca (wd.dcells la (u : Int))) (hu : u < 4294967296 ^ la) (hla : la ≤ 1000000000) :
    Calls Tryd.prog 51 #[.slice a la ca] w fun e w' => ∃ ap cp, e = .returned (.slice ap (pc.nlen u) cp) ∧ Own w' w.heap.size 44 ap (pc.nlen u) cp (pc.dcells (pc.nlen u) (u : Int)) ∧ Below w.heap.size w w' := by
  obtain ⟨i0, hi0, hz0, hz1, hz2⟩ := info_parts infoWord
  go_enter Tryd.func51, Tryd.ntmps51
  go_wp2_with (go_at_call 27; refine (trim_any a la ca u _ ha hu hla).mono ?_; rintro e w1 ⟨a1, ca1, rfl, hown, hbel⟩)
  go_loopw [3, 4] (fun pv rv wr => PieceRel w u la pv rv wr) (fun pv _ _ => 2 * la + 3 - slen pv)
  case atStart =>
    exact ⟨0, u, none, a1, 0, ca1, by omega, Or.inl rfl, by unfold Hid; rw [Nat.pow_zero, Nat.div_one], rfl, rfl, World.ownsRow_nil _ _ _ _, hown, fun b e h => (by cases h), hbel⟩
  case round =>
    clear hown hbel
    obtain ⟨t, U, ap, ar, cp, cr, ht, hl, HU, rfl, rfl, hownp, hownr, hne, hbel⟩ := hrel
    by_cases hz : wd.nlen U = 0
    · have h0 := wd.nlen_eq_zero.1 hz
      have HL : Hid (pc.nlen u = t) := by
        refine pc.nlen_eq ⟨?_, hl⟩
        have hU := HU.out
        rcases Nat.div_eq_zero_iff.1 (hU.symm.trans h0) with h | h
        · have := Nat.pow_pos (n := t) (show 0 < 1000000000 by decide); omega
        · exact h
      have hz' : ¬ (0 : Int) < (wd.nlen U : Int) := by omega
      clear h0 hz
      go_wp2
      go_ret
      exact ⟨ap, cp, by rw [HL.out]; rfl, by rw [HL.out]; exact hownp, hbel⟩
    · obtain ⟨g, rfl, hg, hg2, _⟩ := Own.at hownr (by omega)
      have hle : 1000000000 ^ t ≤ u := by
        rcases Nat.lt_or_ge u (1000000000 ^ t) with h | h
        · exact absurd (by rw [HU.out, Nat.div_eq_of_lt h, wd.nlen_zero]) hz
        · exact h
      have ht2 := pc_small hle hu
      have hz' : (0 : Int) < (wd.nlen U : Int) := by omega
      obtain ⟨U', hU'⟩ : ∃ U', U' = u / 1000000000 ^ (t + 1) := ⟨_, rfl⟩
      obtain ⟨r, hr⟩ : ∃ r, r = pc.dg (u : Int) t := ⟨_, rfl⟩
      have HNX : Hid _ := fun w2 w4 g' cap' ar' cr' => pieceRel_next (T := 44) (U := U) (w2 := w2) (w4 := w4) (g' := g') (cap' := cap') (ar' := ar') (cr' := cr') (cr := cr) hU' hr hle hu hbel hg hg2 hownp hne
      have hsz := hbel.size
      have HX : Hid (U' < 4294967296 ^ wd.nlen U) := Nat.lt_of_le_of_lt (by rw [HU.out, hU']; exact next_le u t) (wd.nlen_lt _)
      have HP : Hid _ := fun (w2 : World) (h : Wr wr w2 g 0 (wd.nlen U)) => h.own hownp (fun o e => by have := hne _ rfl; rw [e] at this; exact this rfl)
      obtain ⟨p0, p1⟩ := pc.dg_range u t
      rw [← hr] at p0 p1
      have E1 : Hid ((U : Int) % 1000000000 = r) := by unfold Hid; rw [HU.out, hr]; exact piece_dg u t
      have E2 : Hid ((U : Int) / 1000000000 = (U' : Int)) := by unfold Hid; rw [HU.out, hU']; exact piece_next u t
      clear hU' hr hne hle hl hz
      go_wp2_with (first
        | (go_at_call 40; refine (divWord_any g _ cr U w.heap.size 1000000000 _ hownr (wd.nlen_lt _) (by decide) (by decide)).mono ?_; rw [E1.out, E2.out]; rintro e w2 ⟨rfl, hownr2, hwr2⟩; have hownp2 := HP.out w2 hwr2; have hsz2 := hwr2.grown.size)
        | (at_builtin; refine wpList_append_lies _ rfl (.tmp 10) (.tmp 13) 22 rfl w.heap.size 44 i0 (.int .u32 0) 1 4 Tryd.underlying22 hi0 hz0 hz1 hz2 rfl (by decide) (.slice ap t cp) t (pc.dcells t (u : Int)) rfl (World.ownsRow.alloc hownp2 _) ⟨w2.heap.size, 0, none⟩ 1 1 [.int .u32 r] rfl rfl (cell_one_new _ _ _) (ints_oneCell .u32 [r]) (by decide) (by unfold maxLen; omega) (by omega) (by simp; omega) _ rfl ?_; intro g' cap' w4 hown4 hgrow4 hat4 hlt4; have hr4 := (HNX.out w2 w4 g' cap' none 0 hwr2 hownr2 hown4 hgrow4 hat4).1)
        | (go_at_call 34; refine (strip_any _ _ _ U' _ hr4.sl HX.out).mono ?_; rintro e w' ⟨a3, c3, rfl, hw, hcut3⟩; subst hw))
      go_roundw
      case rel => exact (HNX.out w2 w4 g' cap' a3 c3 hwr2 hownr2 hown4 hgrow4 hat4).2 hcut3
      case measure => simp only [slen]; omega
end Go.Proofs.YteoepelmapjhcaaDoor
