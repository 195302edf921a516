/-
  Joined texts, part 4:
  The laws' own look and cut of layer 4.
  A whole number that comes as an argument, opened; and what the laws of layer 4 import.
  What package whole's Cmp answers.
-/
import Derived.Test.YtpkcjgkgabemoabDoorP3
import Derived.Deep.AppendLies
import Derived.Test.YtpkcjgkgabemoabDoorP1
import Derived.Test.YtpkcjgkgabemoabDoorCards
import Derived.Test.YtpkcjgkgabemoabDoorTie
import Derived.Lay
import Derived.Carry
import Derived.SevenTiedAt
namespace Go.Proofs.YtpkcjgkgabemoabDoor
open Go.RowKit
set_option linter.unusedVariables false

theorem wp_append_any {P : Program} {w : World} {o : Oper} {a : Act} {K : Act → World → Prop} {Q : Exit → Act → World → Prop} (s x : Operand) (t : TypeId)
    (ho : o.op = .call { callee := .builtin .append, args := #[s, x], argTypes := #[t, t] })
    (base : Nat) (e : TypeId) (i : TypeInfo) (z : Value) (bytes : Nat) (ht : P.underlying t = some (.slice e)) (hi : P.info? e = some i) (hz : i.zero = some z)
    (hsize : i.size = 1) (hby : i.bytes = bytes) (hzs : z.cells.size = 1)
    (a0 : Option Addr) (n0 c0 : Nat) (xs : List Value) (hs : a.eval s = .slice a0 n0 c0) (hown : Own w base e a0 n0 c0 xs)
    (ao : Option Addr) (m c : Nat) (news : List Value) (hx : a.eval x = .slice ao m c) (hsl : Sl w ao m c news) (h1 : ∀ u ∈ news, u.oneCell' = true)
    (h63 : n0 + m ≤ maxLen) (hbytes : (n0 + m) * bytes ≤ 140737488355328) (hbase : base ≤ w.heap.size)
    (h : ∀ a' cap' w', Own w' base e a' (n0 + m) cap' (xs ++ news) → w.grownBy w' (Value.slice a0 n0 c0).ownBlock → K (a.put o.dst (.slice a' (n0 + m) cap')) w') : o.wp P a w K Q := by
  cases ao with
  | none =>
    obtain ⟨rfl, rfl⟩ := hsl.nil rfl
    obtain rfl : news = [] := List.eq_nil_of_length_eq_zero hsl.len
    have hrun := run_append_owned_none (P := P) (w := w) base t o.type e i 1 ht hi _ n0 xs hown
    unfold Oper.wp
    simp [execOp, ho, resolve, invoke, builtin, hs, hx, hrun, Result.andThen]
    exact h a0 c0 w (by simpa using hown) (World.grownBy.refl _ _)
  | some ad =>
    obtain ⟨v', w', hr, h2, h3, _, _⟩ := run_append_own_at (P := P) w base t o.type e i z 1 bytes ht hi hz hsize hby hzs (by decide) _ n0 xs hown ad m c news (by rw [hsl.len]; omega) (by
      intro j u hu
      have hj := (List.getElem?_eq_some_iff.1 hu).1
      obtain ⟨b, off, e1, hb, hseg⟩ := hsl.at (by have := hsl.len; omega)
      cases e1
      rw [Addr.add_lit]
      exact hseg.cell j u hu) h1 h63 hbytes hbase
    obtain ⟨a', cap', rfl, h4⟩ := Own.form h2
    unfold Oper.wp execOp
    simp only [ho, resolve, invoke, builtin, Sem.run_bind, Sem.run_pure, Result.andThen_ok, List.map_toArray, List.map_cons, List.map_nil, hs, hx, hr]
    exact h a' cap' w' h4 h3
theorem step_append_any {P : Program} {w : World} {ops : Array Oper} {o : Oper} {a : Act} {K : Act → World → Prop} {Q : Exit → Act → World → Prop} {E : Prop} (hgd : o.guard = none) (s x : Operand) (t : TypeId)
    (ho : o.op = .call { callee := .builtin .append, args := #[s, x], argTypes := #[t, t] })
    (base : Nat) (e : TypeId) (i : TypeInfo) (z : Value) (bytes : Nat) (ht : P.underlying t = some (.slice e)) (hi : P.info? e = some i) (hz : i.zero = some z)
    (hsize : i.size = 1) (hby : i.bytes = bytes) (hzs : z.cells.size = 1)
    (a0 : Option Addr) (n0 c0 : Nat) (xs : List Value) (hs : a.eval s = .slice a0 n0 c0) (hown : Own w base e a0 n0 c0 xs)
    (ao : Option Addr) (m c : Nat) (news : List Value) (hx : a.eval x = .slice ao m c) (hsl : Sl w ao m c news) (h1 : ∀ u ∈ news, u.oneCell' = true)
    (h63 : n0 + m ≤ maxLen) (hbytes : (n0 + m) * bytes ≤ 140737488355328) (hbase : base ≤ w.heap.size)
    (h : ∀ a' cap' w', Own w' base e a' (n0 + m) cap' (xs ++ news) → w.grownBy w' (Value.slice a0 n0 c0).ownBlock → K (a.put o.dst (.slice a' (n0 + m) cap')) w') :
    if Region.wanted o (yielded ops a.tmps) = true then Oper.wp P o a w K Q else E := by
  have hw : Region.wanted o (yielded ops a.tmps) = true := by simp [Region.wanted, hgd]
  rw [if_pos hw]
  exact wp_append_any s x t ho base e i z bytes ht hi hz hsize hby hzs a0 n0 c0 xs hs hown ao m c news hx hsl h1 h63 hbytes hbase h
theorem eown (w : World) (base : Nat) (T : TypeId) (hb : base ≤ w.heap.size) : Own (w.alloc (.cells #[] T)) base T (some ⟨w.heap.size, 0, none⟩) 0 0 [] := World.ownsRow_lit w #[] 0 hb (by decide) rfl
/-- The first words of a number are a number. -/
theorem sl_cut {w : World} {a : Option Addr} {m c x k : Nat} (h : Sl w a m c (wd.dcells m (x : Int))) (hk : k ≤ m) : Sl w a k c (wd.dcells k ((x % 4294967296 ^ k : Nat) : Int)) := by
  have e : wd.dcells k (x : Int) = wd.dcells k ((x % 4294967296 ^ k : Nat) : Int) := by
    refine wd.dcells_congr ((x / 4294967296 ^ k : Nat) : Int) ?_
    have := Nat.mod_add_div x (4294967296 ^ k)
    rw [← wd.pow_cast]
    rw [← Int.natCast_mul, Nat.mul_comm]
    omega
  rw [← e]
  refine ⟨wd.dcells_length _ _, Nat.le_trans hk h.room, h.big, fun ha => ⟨by have := (h.nil ha).1; omega, (h.nil ha).2⟩, ?_⟩
  rcases Nat.eq_zero_or_pos k with rfl | hk0
  · exact Or.inl rfl
  · obtain ⟨b, o, e1, hb, hs⟩ := h.at (by omega)
    exact Or.inr ⟨b, o, e1, hb, by have := hs.take k; rwa [wd.dcells_take _ _ _ hk] at this⟩
/-- Some number of sixteen words at most, with the same sign. -/
def Cut4 (w : World) (n : Bool) (e : Ending) (w' : World) : Prop := ∃ (a : Option Addr) (m c x : Nat), e = .returned (.agg #[.bool n, .slice a m c]) ∧ m ≤ 16 ∧ NI w' a m c x ∧ Far w.heap.size a m ∧ Below w.heap.size w w'

theorem Bx.grown {w w' : World} {b g : Nat} {x y : Value} (h : Bx w b x y) (hg : w.grownBy w' (some g)) (hne : b ≠ g) : Bx w' b x y := by
  have hlt : b < w.heap.size := by
    refine Nat.lt_of_not_le fun hle => ?_
    have := h.c0
    unfold World.cell? at this
    rw [Array.getElem?_eq_none hle] at this
    simp at this
  exact ⟨(hg.cell_far ⟨b, 0, none⟩ hlt (by simpa using hne)).trans h.c0, (hg.cell_far ⟨b, 1, none⟩ hlt (by simpa using hne)).trans h.c1, (hg.frozen_far ⟨b, 0, none⟩ hlt (by simpa using hne)).trans h.f0, (hg.frozen_far ⟨b, 1, none⟩ hlt (by simpa using hne)).trans h.f1⟩
theorem endCut {w w2 : World} {n : Bool} {a2 : Option Addr} {m c k x base : Nat} {T : TypeId} (hm : m ≤ 16) (hx : x < 4294967296 ^ m) (hown : Own w2 base T a2 m c (wd.dcells m (x : Int))) (hk : w.heap.size ≤ k) (hkb : k < base) (B : Below w.heap.size w w2) (u v : Value) :
    Cut4 w n (.returned (.agg #[.bool n, .slice a2 m c])) ((w2.setCell ⟨k, 0, none⟩ u).setCell ⟨k, 1, none⟩ v) :=
  have f := Own.far hown
  have h : NI w2 a2 m c x := ⟨Own.sl hown, hx, by omega⟩
  ⟨a2, m, c, x, rfl, hm, (h.put (f k hkb) 0 u).put (f k hkb) 1 v, f.mono (by omega), below_put2 B hk u v⟩
theorem keepG {n g : Nat} {v1 v2 : Value} {w0 w w' : World} (h : w.cell? ⟨n, 0, none⟩ = some v1 ∧ w.cell? ⟨n, 1, none⟩ = some v2 ∧ Below w0.heap.size w0 w) (hg : w.grownBy w' (some g)) (hn : n < g) (hB : w0.heap.size ≤ g) : w'.cell? ⟨n, 0, none⟩ = some v1 ∧ w'.cell? ⟨n, 1, none⟩ = some v2 ∧ Below w0.heap.size w0 w' := by
  have hlt : n < w.heap.size := by
    refine Nat.lt_of_not_le fun hle => ?_
    have := h.1
    unfold World.cell? at this
    rw [Array.getElem?_eq_none hle] at this
    simp at this
  refine ⟨(hg.cell_far ⟨n, 0, none⟩ hlt (by simp; omega)).trans h.1, (hg.cell_far ⟨n, 1, none⟩ hlt (by simp; omega)).trans h.2.1, h.2.2.grown hg h.2.2.size (fun k e => by cases e; exact hB)⟩

set_option maxRecDepth 100000 in
set_option maxHeartbeats 1000000 in
theorem short4_any (n : Bool) (a : Option Addr) (l ca u : Nat) (w : World) (ha : Sl w a l ca (wd.dcells l (u : Int))) (hu : u < 4294967296 ^ l) :
    Calls Tryd.prog 4 #[.agg #[.bool n, .slice a l ca]] w (Cut4 w n) := by
  obtain ⟨i0, hi0, hz0, hz1, hz2⟩ := info_parts infoWord
  obtain ⟨B0, xa, xz, hs⟩ := box1 w (.bool n) (.slice a l ca) (.bool false) (.slice none 0 0) 25 25
  have k1 := ha.big
  have k2 := ha.room
  unfold maxLen at k1
  by_cases hl : 16 < l
  · obtain ⟨b, o, rfl, hb, hseg⟩ := ha.at (by omega)
    have sl0 := sl_cut ha (k := 16) (by omega)
    have HU : Hid (u % 4294967296 ^ 16 < 4294967296 ^ 16) := Nat.mod_lt _ (by decide)
    obtain ⟨v, hv⟩ : ∃ v, v = u % 4294967296 ^ 16 := ⟨_, rfl⟩
    rw [← hv] at sl0 HU
    have hl' : (16 : Int) < l := by omega
    have hlc : (16 : Int) ≤ ca := by omega
    obtain ⟨B1, xa1, xz1, _⟩ := box1 w (.bool n) (.slice (some ⟨b, o, none⟩) 16 ca) (.bool false) (.slice none 0 0) 25 25
    clear hu hv xa xz B0
    have HL : Hid _ := hl
    have B0 := B1.drew
    have xa := xa1.drew
    have xz := xz1
    clear B1 xa1 xz1
    have HE : Own (((w.alloc (.cells #[.bool n, .slice (some ⟨b, o, none⟩) 16 ca] 25)).alloc (.cells #[.bool false, .slice none 0 0] 25)).alloc (.cells #[] 44)) (w.heap.size + 1 + 1) 44 (some ⟨w.heap.size + 1 + 1, 0, none⟩) 0 0 [] := by
      have := eown ((w.alloc (.cells #[.bool n, .slice (some ⟨b, o, none⟩) 16 ca] 25)).alloc (.cells #[.bool false, .slice none 0 0] 25)) (w.heap.size + 1 + 1) 44 (by simp)
      simpa using this
    go_enter Tryd.func4, Tryd.ntmps4
    go_wp2
    refine wp_region_held_drew (S := (fun w' => w'.cell? ⟨w.heap.size, 0, none⟩ = some (.bool n) ∧ w'.cell? ⟨w.heap.size, 1, none⟩ = some (.slice (some ⟨b, o, none⟩) 16 ca) ∧ Below w.heap.size w w')) (by kernel_rfl) ?_ (fun hHeld => ?_)
    · first | exact keepB1 hHeld ((Below.refl _ _).alloc (Nat.le_refl _) _) | exact ⟨xa.c0, xa.c1, B0⟩ | exact keepS1 hHeld (by omega) (by omega) _ _
    refine take_yes (i := 0) (v := ?vt0) rfl (by kernel_rfl) (by kernel_rfl) (by kernel_rfl) (fun _ _ _ h => h) (by rfl) (by assumption) ?hyt0 ?restt0
    case hyt0 => (intro w hSw; (try dsimp only at hSw); first | (go_simp; done) | (go_simp; with_reducible rfl))
    simp only [Act.put, List.setIfInBounds_toArray, List.set_cons_zero, List.set_cons_succ]
    refine take_yes (i := 1) (v := ?vt1) rfl (by kernel_rfl) (by kernel_rfl) (by kernel_rfl) (fun _ _ _ h => h) (by rfl) (by assumption) ?hyt1 ?restt1
    case hyt1 => (intro w hSw; (try dsimp only at hSw); first | (go_simp; done) | (go_simp; with_reducible rfl))
    simp only [Act.put, List.setIfInBounds_toArray, List.set_cons_zero, List.set_cons_succ]
    refine take_yes (i := 3) (v := ?vt3) rfl (by kernel_rfl) (by kernel_rfl) (by kernel_rfl) (fun _ _ _ h => h) (by rfl) (by assumption) ?hyt3 ?restt3
    case hyt3 => (intro w hSw; (try dsimp only at hSw); first | (go_simp; done) | (go_simp; with_reducible rfl))
    simp only [Act.put, List.setIfInBounds_toArray, List.set_cons_zero, List.set_cons_succ]
    refine take_yes (i := 4) (v := ?vt4) rfl (by kernel_rfl) (by kernel_rfl) (by kernel_rfl) (fun _ _ _ h => h) (by rfl) (by assumption) ?hyt4 ?restt4
    case hyt4 => (intro w hSw; (try dsimp only at hSw); first | (go_simp; done) | (go_simp; with_reducible rfl))
    simp only [Act.put, List.setIfInBounds_toArray, List.set_cons_zero, List.set_cons_succ]
    refine take_call (i := 2) rfl (by kernel_rfl) (fun K hK => ?_)
    go_simp
    refine hK.out _ _ ?_ (fun hHeld => ?_)
    · first | exact keepB1 hHeld ((Below.refl _ _).alloc (Nat.le_refl _) _) | exact ⟨xa.c0, xa.c1, B0⟩ | exact keepS1 hHeld (by omega) (by omega) _ _
    clear hK K
    refine take_call (i := 5) rfl (by kernel_rfl) (fun K hK => ?_)
    refine step_append_any rfl (.tmp 13) (.tmp 15) 23 rfl (w.heap.size + 1 + 1) 44 i0 (.int .u32 0) 4 Tryd.underlying23 hi0 hz0 hz1 hz2 rfl _ 0 0 [] rfl HE (some ⟨b, o, none⟩) 16 ca (wd.dcells 16 (v : Int)) rfl (sl0.below hHeld.2.2) (dcells_one _ _) (by unfold maxLen; omega) (by omega) (by simp) ?_; intro a2 cap2 w2 hown2 hgrow2
    refine hK.out _ _ ?_ (fun hHeld => ?_)
    · exact keepG hHeld hgrow2 (by show _ < w.heap.size + 1 + 1; omega) (by show _ ≤ w.heap.size + 1 + 1; omega)
    clear hK K
    refine take_yes (i := 6) (v := ?vt6) rfl (by kernel_rfl) (by kernel_rfl) (by kernel_rfl) (fun _ _ _ h => h) (by rfl) (by assumption) ?hyt6 ?restt6
    case hyt6 => (intro w hSw; (try dsimp only at hSw); first | (go_simp; done) | (go_simp; with_reducible rfl))
    simp only [Act.put, List.setIfInBounds_toArray, List.set_cons_zero, List.set_cons_succ]
    have B2 := hHeld.2.2
    obtain ⟨k0, k1, k2, k3⟩ := (xz.on ((Below.refl _ _).alloc (Nat.le_refl _) _).drew).grown hgrow2 (show _ ≠ w.heap.size + 1 + 1 by omega)
    refine take_call (i := 7) rfl (by kernel_rfl) (fun K hK => ?_)
    go_simp
    refine hK.out _ _ ?_ (fun hHeld => ?_)
    · first | exact keepB1 hHeld ((Below.refl _ _).alloc (Nat.le_refl _) _) | exact ⟨xa.c0, xa.c1, B0⟩ | exact keepS1 hHeld (by omega) (by omega) _ _
    clear hK K
    refine wpAnyH_done (by kernel_rfl) ?_ _
    go_wp2
    exact bodyPost_ret (v := .agg #[.bool n, .slice a2 16 cap2]) (by simp [results, Tryd.results4, go_sem, *]) rfl (endCut (x := v) (by omega) HU.out (by simpa using hown2) (by omega) (by omega) B2 _ _)
  · have hl' : ¬ (16 : Int) < l := by omega
    have sl0 := ha
    have HE : Own (((w.alloc (.cells #[.bool n, .slice a l ca] 25)).alloc (.cells #[.bool false, .slice none 0 0] 25)).alloc (.cells #[] 44)) (w.heap.size + 1 + 1) 44 (some ⟨w.heap.size + 1 + 1, 0, none⟩) 0 0 [] := by
      have := eown ((w.alloc (.cells #[.bool n, .slice a l ca] 25)).alloc (.cells #[.bool false, .slice none 0 0] 25)) (w.heap.size + 1 + 1) 44 (by simp)
      simpa using this
    replace B0 := B0.drew
    replace xa := xa.drew
    have HU : Hid _ := hu
    clear hu
    go_enter Tryd.func4, Tryd.ntmps4
    go_wp2
    refine wp_region_held_drew (S := (fun w' => w'.cell? ⟨w.heap.size, 0, none⟩ = some (.bool n) ∧ w'.cell? ⟨w.heap.size, 1, none⟩ = some (.slice a l ca) ∧ Below w.heap.size w w')) (by kernel_rfl) ?_ (fun hHeld => ?_)
    · first | exact keepB1 hHeld ((Below.refl _ _).alloc (Nat.le_refl _) _) | exact ⟨xa.c0, xa.c1, B0⟩ | exact keepS1 hHeld (by omega) (by omega) _ _
    refine take_yes (i := 0) (v := ?vs0) rfl (by kernel_rfl) (by kernel_rfl) (by kernel_rfl) (fun _ _ _ h => h) (by rfl) (by assumption) ?hys0 ?rests0
    case hys0 => (intro w hSw; (try dsimp only at hSw); first | (go_simp; done) | (go_simp; with_reducible rfl))
    simp only [Act.put, List.setIfInBounds_toArray, List.set_cons_zero, List.set_cons_succ]
    refine take_yes (i := 1) (v := ?vs1) rfl (by kernel_rfl) (by kernel_rfl) (by kernel_rfl) (fun _ _ _ h => h) (by rfl) (by assumption) ?hys1 ?rests1
    case hys1 => (intro w hSw; (try dsimp only at hSw); first | (go_simp; done) | (go_simp; with_reducible rfl))
    simp only [Act.put, List.setIfInBounds_toArray, List.set_cons_zero, List.set_cons_succ]
    refine take_yes (i := 3) (v := ?vs3) rfl (by kernel_rfl) (by kernel_rfl) (by kernel_rfl) (fun _ _ _ h => h) (by rfl) (by assumption) ?hys3 ?rests3
    case hys3 => (intro w hSw; (try dsimp only at hSw); first | (go_simp; done) | (go_simp; with_reducible rfl))
    simp only [Act.put, List.setIfInBounds_toArray, List.set_cons_zero, List.set_cons_succ]
    refine take_yes (i := 4) (v := ?vs4) rfl (by kernel_rfl) (by kernel_rfl) (by kernel_rfl) (fun _ _ _ h => h) (by rfl) (by assumption) ?hys4 ?rests4
    case hys4 => (intro w hSw; (try dsimp only at hSw); first | (go_simp; done) | (go_simp; with_reducible rfl))
    simp only [Act.put, List.setIfInBounds_toArray, List.set_cons_zero, List.set_cons_succ]
    refine take_call (i := 2) rfl (by kernel_rfl) (fun K hK => ?_)
    go_simp
    refine hK.out _ _ ?_ (fun hHeld => ?_)
    · first | exact keepB1 hHeld ((Below.refl _ _).alloc (Nat.le_refl _) _) | exact ⟨xa.c0, xa.c1, B0⟩ | exact keepS1 hHeld (by omega) (by omega) _ _
    clear hK K
    refine take_call (i := 5) rfl (by kernel_rfl) (fun K hK => ?_)
    refine step_append_any rfl (.tmp 13) (.tmp 15) 23 rfl (w.heap.size + 1 + 1) 44 i0 (.int .u32 0) 4 Tryd.underlying23 hi0 hz0 hz1 hz2 rfl _ 0 0 [] rfl HE a l ca (wd.dcells l (u : Int)) rfl (sl0.below hHeld.2.2) (dcells_one _ _) (by unfold maxLen; omega) (by omega) (by simp) ?_; intro a2 cap2 w2 hown2 hgrow2
    refine hK.out _ _ ?_ (fun hHeld => ?_)
    · exact keepG hHeld hgrow2 (by show _ < w.heap.size + 1 + 1; omega) (by show _ ≤ w.heap.size + 1 + 1; omega)
    clear hK K
    refine take_yes (i := 6) (v := ?vs6) rfl (by kernel_rfl) (by kernel_rfl) (by kernel_rfl) (fun _ _ _ h => h) (by rfl) (by assumption) ?hys6 ?rests6
    case hys6 => (intro w hSw; (try dsimp only at hSw); first | (go_simp; done) | (go_simp; with_reducible rfl))
    simp only [Act.put, List.setIfInBounds_toArray, List.set_cons_zero, List.set_cons_succ]
    have B2 := hHeld.2.2
    obtain ⟨k0, k1, k2, k3⟩ := (xz.on ((Below.refl _ _).alloc (Nat.le_refl _) _).drew).grown hgrow2 (show _ ≠ w.heap.size + 1 + 1 by omega)
    refine take_call (i := 7) rfl (by kernel_rfl) (fun K hK => ?_)
    go_simp
    refine hK.out _ _ ?_ (fun hHeld => ?_)
    · first | exact keepB1 hHeld ((Below.refl _ _).alloc (Nat.le_refl _) _) | exact ⟨xa.c0, xa.c1, B0⟩ | exact keepS1 hHeld (by omega) (by omega) _ _
    clear hK K
    refine wpAnyH_done (by kernel_rfl) ?_ _
    go_wp2
    exact bodyPost_ret (v := .agg #[.bool n, .slice a2 l cap2]) (by simp [results, Tryd.results4, go_sem, *]) rfl (endCut (x := u) (by omega) HU.out (by simpa using hown2) (by omega) (by omega) B2 _ _)

theorem decM4 : decZ (-4) = ⟨#[45, 52]⟩ := by
  unfold decZ decS
  rw [if_pos (by decide), dlen_eq (k := 1) ⟨by decide, by decide, Or.inl rfl⟩]
  decide +kernel
theorem decP1 : decZ 1 = ⟨#[49]⟩ := by
  unfold decZ decS
  rw [if_neg (by decide), dlen_eq (k := 1) ⟨by decide, by decide, Or.inl rfl⟩]
  decide +kernel
set_option maxRecDepth 100000 in
set_option maxHeartbeats 1000000 in
theorem lives4_any (w : World) : Calls Tryd.prog 10 #[] w fun e w' => e = .returned (.bool true) ∧ Below w.heap.size w w' := by
  go_enter Tryd.func10, Tryd.ntmps10
  go_wp2_with (go_at_call 19; fail)
  refine (wOf (-7) w (by decide) (by decide)).mono ?_
  rintro e w1 ⟨n1, a1, l1, c1, rfl, h1, f1, b1⟩
  go_wp2_with (go_at_call 19; fail)
  refine (wOf 2 w1 (by decide) (by decide)).mono ?_
  rintro e w2 ⟨n2, a2, l2, c2, rfl, h2, f2, b2⟩
  go_wp2_with (go_at_call 18; fail)
  refine (wFloor n1 n2 a1 a2 l1 l2 c1 c2 (-7) 2 w2 ((h1.below b2).wi 1 (by decide) (by decide)) (h2.wi 1 (by decide) (by decide)) (by decide) (-4) 1 (by decide) (by decide)).mono ?_
  rintro e w3 ⟨n3, a3, l3, c3, n4, a4, l4, c4, rfl, h3, h4, f3, f4, b3⟩
  obtain ⟨B0, x3, x4, hs⟩ := box1 w3 (.bool n3) (.slice a3 l3 c3) (.bool n4) (.slice a4 l4 c4) 25 25
  have g3 := (h3.below B0).wi 1 (by decide) (by decide)
  have g4 := (h4.below B0).wi 1 (by decide) (by decide)
  go_wp2_with (go_at_call 9; fail)
  refine (wShow n3 a3 l3 c3 (-4) _ g3 decM4.symm).mono ?_
  rintro e w5 ⟨rfl, b5⟩
  obtain ⟨k0, k1, k2, k3⟩ := x4.on b5
  go_wp2_with (go_at_call 9; fail)
  refine (wShow n4 a4 l4 c4 1 _ (g4.below b5) decP1.symm).mono ?_
  rintro e w6 ⟨rfl, b6⟩
  go_wp2
  go_ret
  exact ⟨rfl, also (also (also (also (also b1 b2) b3) B0) b5) b6⟩
end Go.Proofs.YtpkcjgkgabemoabDoor

namespace Go.Proofs.YtpkcjgkgabemoabDoor
open Go.ChangeShapes Go.WideShapes Go.ChangeAt Go.RowKit Go.Joins
set_option linter.unusedVariables false

theorem cellsInt : Tryd.prog.cellsOf 25 = 2 := by kernel_rfl
set_option maxRecDepth 100000 in
theorem int_view {H : Type} {enc : TypeId × Value → H} {W : World} {b0 : Nat} {v : Value} {d : DataW H} {p : List MemPlace} (hv : Value.okWide Tryd.prog W .any b0 25 v)
    (h : DataW.Trod enc Tryd.prog W 0 (fun _ => true) true 25 v d p) (hfz : W.noneFrozen p) (hlt : ∀ x ∈ p, x.block < W.heap.size) :
    ∃ (n : Bool) (a : Option Addr) (l c u : Nat), v = .agg #[.bool n, .slice a l c] ∧ u < 4294967296 ^ l ∧ Sl W a l c (wd.dcells l (u : Int)) := by
  obtain ⟨x, y, g, k, m, rfl, rfl, rfl, hx, hy⟩ := open_agg2 Tryd.underlying25 (by kernel_rfl) cellsInt hv h
  obtain ⟨n, ex, _⟩ := DataW.trod_bool Tryd.underlying4 hx
  obtain ⟨a, l, c, ey⟩ := slice_form Tryd.underlying23 hy
  simp at ex ey
  subst ex ey
  obtain ⟨kd, kp⟩ := k
  obtain ⟨u, hu, hs⟩ := nat_view (d := kd) (p := kp) (by simpa [Value.cells] using hy) (fun b o hm => hfz b o (by simp [hm])) (fun z hz => hlt z (by simp [hz]))
  exact ⟨n, a, l, c, u, rfl, hu, hs⟩
/-- What holds behind the laws' cut of two numbers. -/
def CutTwo (w : World) (n m : Bool) (mk : Value → Value → Act) (e : Exit) (act : Act) (wr : World) : Prop := e = .normal ∧ ∃ (a1 : Option Addr) (m1 c1 x1 : Nat) (a2 : Option Addr) (m2 c2 x2 : Nat), act = mk (.agg #[.bool n, .slice a1 m1 c1]) (.agg #[.bool m, .slice a2 m2 c2]) ∧ m1 ≤ 16 ∧ m2 ≤ 16 ∧
  NI wr a1 m1 c1 x1 ∧ NI wr a2 m2 c2 x2 ∧ Bx wr w.heap.size (.bool n) (.slice a1 m1 c1) ∧ Bx wr (w.heap.size + 1) (.bool m) (.slice a2 m2 c2) ∧ Below w.heap.size w wr
theorem cutTwo {w w2 : World} {n m : Bool} {mk : Value → Value → Act} {a1 : Option Addr} {m1 c1 x1 : Nat} {a2 : Option Addr} {m2 c2 x2 : Nat} {p q r s : Value} (h1 : m1 ≤ 16) (h2 : m2 ≤ 16) (n1 : NI w2 a1 m1 c1 x1) (n2 : NI w2 a2 m2 c2 x2) (xa : Bx w2 w.heap.size p q) (xb : Bx w2 (w.heap.size + 1) r s) (B : Below w.heap.size w w2)
    (f1 : Far (w.heap.size + 2) a1 m1) (f2 : Far (w.heap.size + 2) a2 m2) :
    CutTwo w n m mk .normal (mk (.agg #[.bool n, .slice a1 m1 c1]) (.agg #[.bool m, .slice a2 m2 c2])) ((((w2.setCell ⟨w.heap.size, 0, none⟩ (.bool n)).setCell ⟨w.heap.size, 1, none⟩ (.slice a1 m1 c1)).setCell ⟨w.heap.size + 1, 0, none⟩ (.bool m)).setCell ⟨w.heap.size + 1, 1, none⟩ (.slice a2 m2 c2)) := by
  have p1 : ∀ {a : Option Addr} {l c u : Nat}, NI w2 a l c u → Far (w.heap.size + 2) a l → NI ((((w2.setCell ⟨w.heap.size, 0, none⟩ (.bool n)).setCell ⟨w.heap.size, 1, none⟩ (.slice a1 m1 c1)).setCell ⟨w.heap.size + 1, 0, none⟩ (.bool m)).setCell ⟨w.heap.size + 1, 1, none⟩ (.slice a2 m2 c2)) a l c u := fun h f =>
    (((h.put (f _ (by omega)) 0 _).put (f _ (by omega)) 1 _).put (f _ (by omega)) 0 _).put (f _ (by omega)) 1 _
  refine ⟨rfl, a1, m1, c1, x1, a2, m2, c2, x2, rfl, h1, h2, p1 n1 f1, p1 n2 f2, ?_, ?_, below_put2 (below_put2 B (Nat.le_refl _) _ _) (by omega) _ _⟩
  · exact (xa.set.put (by omega)).put (by omega)
  · exact ((xb.put (by omega)).put (by omega)).set
theorem keepC4 {p q r s : Nat} {v1 v2 v3 v4 v5 v6 v7 v8 : Value} {w0 w w' : World} (h : w.cell? ⟨p, 0, none⟩ = some v1 ∧ w.cell? ⟨p, 1, none⟩ = some v2 ∧ w.cell? ⟨q, 0, none⟩ = some v3 ∧ w.cell? ⟨q, 1, none⟩ = some v4 ∧ w.cell? ⟨r, 0, none⟩ = some v5 ∧ w.cell? ⟨r, 1, none⟩ = some v6 ∧ w.cell? ⟨s, 0, none⟩ = some v7 ∧ w.cell? ⟨s, 1, none⟩ = some v8 ∧ Below w0.heap.size w0 w) (hb : Below w.heap.size w w') :
    w'.cell? ⟨p, 0, none⟩ = some v1 ∧ w'.cell? ⟨p, 1, none⟩ = some v2 ∧ w'.cell? ⟨q, 0, none⟩ = some v3 ∧ w'.cell? ⟨q, 1, none⟩ = some v4 ∧ w'.cell? ⟨r, 0, none⟩ = some v5 ∧ w'.cell? ⟨r, 1, none⟩ = some v6 ∧ w'.cell? ⟨s, 0, none⟩ = some v7 ∧ w'.cell? ⟨s, 1, none⟩ = some v8 ∧ Below w0.heap.size w0 w' :=
  ⟨cell_on hb h.1, cell_on hb h.2.1, cell_on hb h.2.2.1, cell_on hb h.2.2.2.1, cell_on hb h.2.2.2.2.1, cell_on hb h.2.2.2.2.2.1, cell_on hb h.2.2.2.2.2.2.1, cell_on hb h.2.2.2.2.2.2.2.1, also h.2.2.2.2.2.2.2.2 hb⟩
theorem sgz_lt {n : Bool} {u l K : Nat} (hu : u < 4294967296 ^ l) (hl : l ≤ K) : (sgz n u).natAbs < 4294967296 ^ K := by
  rw [sgz_abs]
  exact Nat.lt_of_lt_of_le hu (Nat.pow_le_pow_right (by decide) hl)
end Go.Proofs.YtpkcjgkgabemoabDoor

namespace Go.Proofs.YtpkcjgkgabemoabDoor
open Go.RowKit
set_option linter.unusedVariables false

theorem wsign_cases (x : Int) : (x < 0 ∧ x.sign = -1) ∨ (x = 0 ∧ x.sign = 0) ∨ (0 < x ∧ x.sign = 1) := by
  rcases Int.lt_trichotomy x 0 with h | h | h
  · exact Or.inl ⟨h, Int.sign_eq_neg_one_of_neg h⟩
  · exact Or.inr (Or.inl ⟨h, Int.sign_eq_zero_iff_zero.2 h⟩)
  · exact Or.inr (Or.inr ⟨h, Int.sign_eq_one_of_pos h⟩)
theorem cmpI_sign (a b : Int) : cmpI a b = (a - b).sign := by
  unfold cmpI
  rcases wsign_cases (a - b) with ⟨h, e⟩ | ⟨h, e⟩ | ⟨h, e⟩
  · rw [if_pos (by omega), e]
  · rw [if_neg (by omega), if_neg (by omega), e]
  · rw [if_neg (by omega), if_pos (by omega), e]
set_option maxRecDepth 100000 in
set_option maxHeartbeats 1000000 in
theorem wCmp (n m : Bool) (a b : Option Addr) (la lb ca cb : Nat) (x y : Int) (w : World) (ha : WI w n a la ca x) (hb : WI w m b lb cb y) {g : Int} (hg : g = (x - y).sign) :
    Calls Tryd.prog 7 #[.agg #[.bool n, .slice a la ca], .agg #[.bool m, .slice b lb cb]] w fun e w' => e = .returned (.int .i64 g) ∧ Below w.heap.size w w' := by
  obtain ⟨B0, xa, xb, hs⟩ := box1 w (.bool n) (.slice a la ca) (.bool m) (.slice b lb cb) 25 25
  obtain ⟨sx, hsx⟩ : ∃ sx, sx = x.sign := ⟨_, rfl⟩
  obtain ⟨sy, hsy⟩ : ∃ sy, sy = y.sign := ⟨_, rfl⟩
  have HX : Hid _ := hsx
  have HY : Hid _ := hsy
  replace B0 := B0.drew
  replace xa := xa.drew
  replace xb := xb.drew
  by_cases hne : sx = sy
  · cases n
    · have HG : Hid (g = cmpI (x.natAbs : Int) y.natAbs) := by
        unfold Hid
        have := ha.pos rfl
        rw [hg, cmpI_sign]
        rcases wsign_cases x with ⟨h1, e1⟩ | ⟨h1, e1⟩ | ⟨h1, e1⟩ <;> rcases wsign_cases y with ⟨h2, e2⟩ | ⟨h2, e2⟩ | ⟨h2, e2⟩ <;> first | (exfalso; omega) | (congr 1; omega)
      clear hg hsx hsy
      subst hne
      go_enter Tryd.func7, Tryd.ntmps7
      go_wp2
      refine wp_region_held_drew (S := (fun w' => w'.cell? ⟨w.heap.size, 0, none⟩ = some (.bool false) ∧ w'.cell? ⟨w.heap.size, 1, none⟩ = some (.slice a la ca) ∧ w'.cell? ⟨w.heap.size + 1, 0, none⟩ = some (.bool m) ∧ w'.cell? ⟨w.heap.size + 1, 1, none⟩ = some (.slice b lb cb) ∧ Below w.heap.size w w')) (by kernel_rfl) ?_ (fun hHeld => ?_)
      · first | exact keepB2 hHeld b2 | exact keepB2 hHeld b1 | exact ⟨xa.c0, xa.c1, xb.c0, xb.c1, B0⟩
      refine take_yes (i := 0) (v := ?va0) rfl (by kernel_rfl) (by kernel_rfl) (by kernel_rfl) (fun _ _ _ h => h) (by rfl) (by assumption) ?hya0 ?resta0
      case hya0 => (intro w hSw; (try dsimp only at hSw); first | (go_simp; done) | (go_simp; with_reducible rfl))
      simp only [Act.put, List.setIfInBounds_toArray, List.set_cons_zero, List.set_cons_succ]
      refine take_yes (i := 2) (v := ?va2) rfl (by kernel_rfl) (by kernel_rfl) (by kernel_rfl) (fun _ _ _ h => h) (by rfl) (by assumption) ?hya2 ?resta2
      case hya2 => (intro w hSw; (try dsimp only at hSw); first | (go_simp; done) | (go_simp; with_reducible rfl))
      simp only [Act.put, List.setIfInBounds_toArray, List.set_cons_zero, List.set_cons_succ]
      refine take_call (i := 1) rfl (by kernel_rfl) (fun K hK => ?_)
      go_simp
      (go_at_call 14; refine (wSign false a la ca x _ (ha.below hHeld.2.2.2.2) HX.out).mono ?_; rintro e w1 ⟨rfl, b1⟩)
      refine hK.out _ _ ?_ (fun hHeld => ?_)
      · first | exact keepB2 hHeld b2 | exact keepB2 hHeld b1 | exact ⟨xa.c0, xa.c1, xb.c0, xb.c1, B0⟩
      clear hK K
      refine take_call (i := 3) rfl (by kernel_rfl) (fun K hK => ?_)
      go_simp
      (go_at_call 14; refine (wSign m b lb cb y _ (hb.below hHeld.2.2.2.2) HY.out).mono ?_; rintro e w2 ⟨rfl, b2⟩)
      refine hK.out _ _ ?_ (fun hHeld => ?_)
      · first | exact keepB2 hHeld b2 | exact keepB2 hHeld b1 | exact ⟨xa.c0, xa.c1, xb.c0, xb.c1, B0⟩
      clear hK K
      refine take_yes (i := 4) (v := ?va4) rfl (by kernel_rfl) (by kernel_rfl) (by kernel_rfl) (fun _ _ _ h => h) (by rfl) (by assumption) ?hya4 ?resta4
      case hya4 => (intro w hSw; (try dsimp only at hSw); first | (go_simp; done) | (go_simp; with_reducible rfl))
      simp only [Act.put, List.setIfInBounds_toArray, List.set_cons_zero, List.set_cons_succ]
      refine take_yes (i := 5) (v := ?va5) rfl (by kernel_rfl) (by kernel_rfl) (by kernel_rfl) (fun _ _ _ h => h) (by rfl) (by assumption) ?hya5 ?resta5
      case hya5 => (intro w hSw; (try dsimp only at hSw); first | (go_simp; done) | (go_simp; with_reducible rfl))
      simp only [Act.put, List.setIfInBounds_toArray, List.set_cons_zero, List.set_cons_succ]
      refine wpAnyH_done (by kernel_rfl) ?_ _
      obtain ⟨k0, k1, k2, k3⟩ := (xa.on b1).on b2
      obtain ⟨j0, j1, j2, j3⟩ := (xb.on b1).on b2
      go_wp2_with (go_at_call 16; fail)
      refine (nCmp a b la lb ca cb _ _ _ (((ha.ni.below B0).below b1).below b2) (((hb.ni.below B0).below b1).below b2) HG.out).mono ?_
      rintro e w3 ⟨rfl, b3⟩
      go_wp2
      go_ret
      exact ⟨rfl, also (also (also B0 b1) b2) b3⟩
    · have HG : Hid (g = cmpI (y.natAbs : Int) x.natAbs) := by
        unfold Hid
        have := ha.neg rfl
        rw [hg, cmpI_sign]
        rcases wsign_cases x with ⟨h1, e1⟩ | ⟨h1, e1⟩ | ⟨h1, e1⟩ <;> rcases wsign_cases y with ⟨h2, e2⟩ | ⟨h2, e2⟩ | ⟨h2, e2⟩ <;> first | (exfalso; omega) | (congr 1; omega)
      clear hg hsx hsy
      subst hne
      go_enter Tryd.func7, Tryd.ntmps7
      go_wp2
      refine wp_region_held_drew (S := (fun w' => w'.cell? ⟨w.heap.size, 0, none⟩ = some (.bool true) ∧ w'.cell? ⟨w.heap.size, 1, none⟩ = some (.slice a la ca) ∧ w'.cell? ⟨w.heap.size + 1, 0, none⟩ = some (.bool m) ∧ w'.cell? ⟨w.heap.size + 1, 1, none⟩ = some (.slice b lb cb) ∧ Below w.heap.size w w')) (by kernel_rfl) ?_ (fun hHeld => ?_)
      · first | exact keepB2 hHeld b2 | exact keepB2 hHeld b1 | exact ⟨xa.c0, xa.c1, xb.c0, xb.c1, B0⟩
      refine take_yes (i := 0) (v := ?vb0) rfl (by kernel_rfl) (by kernel_rfl) (by kernel_rfl) (fun _ _ _ h => h) (by rfl) (by assumption) ?hyb0 ?restb0
      case hyb0 => (intro w hSw; (try dsimp only at hSw); first | (go_simp; done) | (go_simp; with_reducible rfl))
      simp only [Act.put, List.setIfInBounds_toArray, List.set_cons_zero, List.set_cons_succ]
      refine take_yes (i := 2) (v := ?vb2) rfl (by kernel_rfl) (by kernel_rfl) (by kernel_rfl) (fun _ _ _ h => h) (by rfl) (by assumption) ?hyb2 ?restb2
      case hyb2 => (intro w hSw; (try dsimp only at hSw); first | (go_simp; done) | (go_simp; with_reducible rfl))
      simp only [Act.put, List.setIfInBounds_toArray, List.set_cons_zero, List.set_cons_succ]
      refine take_call (i := 1) rfl (by kernel_rfl) (fun K hK => ?_)
      go_simp
      (go_at_call 14; refine (wSign true a la ca x _ (ha.below hHeld.2.2.2.2) HX.out).mono ?_; rintro e w1 ⟨rfl, b1⟩)
      refine hK.out _ _ ?_ (fun hHeld => ?_)
      · first | exact keepB2 hHeld b2 | exact keepB2 hHeld b1 | exact ⟨xa.c0, xa.c1, xb.c0, xb.c1, B0⟩
      clear hK K
      refine take_call (i := 3) rfl (by kernel_rfl) (fun K hK => ?_)
      go_simp
      (go_at_call 14; refine (wSign m b lb cb y _ (hb.below hHeld.2.2.2.2) HY.out).mono ?_; rintro e w2 ⟨rfl, b2⟩)
      refine hK.out _ _ ?_ (fun hHeld => ?_)
      · first | exact keepB2 hHeld b2 | exact keepB2 hHeld b1 | exact ⟨xa.c0, xa.c1, xb.c0, xb.c1, B0⟩
      clear hK K
      refine take_yes (i := 4) (v := ?vb4) rfl (by kernel_rfl) (by kernel_rfl) (by kernel_rfl) (fun _ _ _ h => h) (by rfl) (by assumption) ?hyb4 ?restb4
      case hyb4 => (intro w hSw; (try dsimp only at hSw); first | (go_simp; done) | (go_simp; with_reducible rfl))
      simp only [Act.put, List.setIfInBounds_toArray, List.set_cons_zero, List.set_cons_succ]
      refine take_yes (i := 5) (v := ?vb5) rfl (by kernel_rfl) (by kernel_rfl) (by kernel_rfl) (fun _ _ _ h => h) (by rfl) (by assumption) ?hyb5 ?restb5
      case hyb5 => (intro w hSw; (try dsimp only at hSw); first | (go_simp; done) | (go_simp; with_reducible rfl))
      simp only [Act.put, List.setIfInBounds_toArray, List.set_cons_zero, List.set_cons_succ]
      refine wpAnyH_done (by kernel_rfl) ?_ _
      obtain ⟨k0, k1, k2, k3⟩ := (xa.on b1).on b2
      obtain ⟨j0, j1, j2, j3⟩ := (xb.on b1).on b2
      go_wp2_with (go_at_call 16; fail)
      refine (nCmp b a lb la cb ca _ _ _ (((hb.ni.below B0).below b1).below b2) (((ha.ni.below B0).below b1).below b2) HG.out).mono ?_
      rintro e w3 ⟨rfl, b3⟩
      go_wp2
      go_ret
      exact ⟨rfl, also (also (also B0 b1) b2) b3⟩
  · have HG : Hid (cmpI sx sy = g) := by
      unfold Hid
      rw [hg, cmpI_sign]
      rcases wsign_cases x with ⟨h1, e1⟩ | ⟨h1, e1⟩ | ⟨h1, e1⟩ <;> rcases wsign_cases y with ⟨h2, e2⟩ | ⟨h2, e2⟩ | ⟨h2, e2⟩ <;> rcases wsign_cases (x - y) with ⟨h3, e3⟩ | ⟨h3, e3⟩ | ⟨h3, e3⟩ <;> rcases wsign_cases (sx - sy) with ⟨h4, e4⟩ | ⟨h4, e4⟩ | ⟨h4, e4⟩ <;> omega
    have hne' : (sx == sy) = false := by simpa using hne
    clear hg hsx hsy
    go_enter Tryd.func7, Tryd.ntmps7
    go_wp2
    refine wp_region_held_drew (S := (fun w' => w'.cell? ⟨w.heap.size, 0, none⟩ = some (.bool n) ∧ w'.cell? ⟨w.heap.size, 1, none⟩ = some (.slice a la ca) ∧ w'.cell? ⟨w.heap.size + 1, 0, none⟩ = some (.bool m) ∧ w'.cell? ⟨w.heap.size + 1, 1, none⟩ = some (.slice b lb cb) ∧ Below w.heap.size w w')) (by kernel_rfl) ?_ (fun hHeld => ?_)
    · first | exact keepB2 hHeld b2 | exact keepB2 hHeld b1 | exact ⟨xa.c0, xa.c1, xb.c0, xb.c1, B0⟩
    refine take_yes (i := 0) (v := ?vc0) rfl (by kernel_rfl) (by kernel_rfl) (by kernel_rfl) (fun _ _ _ h => h) (by rfl) (by assumption) ?hyc0 ?restc0
    case hyc0 => (intro w hSw; (try dsimp only at hSw); first | (go_simp; done) | (go_simp; with_reducible rfl))
    simp only [Act.put, List.setIfInBounds_toArray, List.set_cons_zero, List.set_cons_succ]
    refine take_yes (i := 2) (v := ?vc2) rfl (by kernel_rfl) (by kernel_rfl) (by kernel_rfl) (fun _ _ _ h => h) (by rfl) (by assumption) ?hyc2 ?restc2
    case hyc2 => (intro w hSw; (try dsimp only at hSw); first | (go_simp; done) | (go_simp; with_reducible rfl))
    simp only [Act.put, List.setIfInBounds_toArray, List.set_cons_zero, List.set_cons_succ]
    refine take_call (i := 1) rfl (by kernel_rfl) (fun K hK => ?_)
    go_simp
    (go_at_call 14; refine (wSign n a la ca x _ (ha.below hHeld.2.2.2.2) HX.out).mono ?_; rintro e w1 ⟨rfl, b1⟩)
    refine hK.out _ _ ?_ (fun hHeld => ?_)
    · first | exact keepB2 hHeld b2 | exact keepB2 hHeld b1 | exact ⟨xa.c0, xa.c1, xb.c0, xb.c1, B0⟩
    clear hK K
    refine take_call (i := 3) rfl (by kernel_rfl) (fun K hK => ?_)
    go_simp
    (go_at_call 14; refine (wSign m b lb cb y _ (hb.below hHeld.2.2.2.2) HY.out).mono ?_; rintro e w2 ⟨rfl, b2⟩)
    refine hK.out _ _ ?_ (fun hHeld => ?_)
    · first | exact keepB2 hHeld b2 | exact keepB2 hHeld b1 | exact ⟨xa.c0, xa.c1, xb.c0, xb.c1, B0⟩
    clear hK K
    refine take_yes (i := 4) (v := ?vc4) rfl (by kernel_rfl) (by kernel_rfl) (by kernel_rfl) (fun _ _ _ h => h) (by rfl) (by assumption) ?hyc4 ?restc4
    case hyc4 => (intro w hSw; (try dsimp only at hSw); first | (go_simp; done) | (go_simp; with_reducible rfl))
    simp only [Act.put, List.setIfInBounds_toArray, List.set_cons_zero, List.set_cons_succ]
    refine take_yes (i := 5) (v := ?vc5) rfl (by kernel_rfl) (by kernel_rfl) (by kernel_rfl) (fun _ _ _ h => h) (by rfl) (by assumption) ?hyc5 ?restc5
    case hyc5 => (intro w hSw; (try dsimp only at hSw); first | (go_simp; done) | (go_simp; with_reducible rfl))
    simp only [Act.put, List.setIfInBounds_toArray, List.set_cons_zero, List.set_cons_succ]
    refine wpAnyH_done (by kernel_rfl) ?_ _
    go_wp2_with (go_at_call 15; fail)
    refine (cmpInt_any sx sy _).mono ?_
    rw [HG.out]
    rintro e w3 ⟨rfl, hw⟩
    subst hw
    go_wp2
    go_ret
    exact ⟨rfl, also (also B0 b1) b2⟩
end Go.Proofs.YtpkcjgkgabemoabDoor
