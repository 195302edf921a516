/-
  Joined texts, part 2:
  ArenaActs' walk, of what arena must do.
-/
import Derived.Test.YtodecbkngnhpjaaP1
namespace Go.Proofs.Ytodecbkngnhpjaa
open Go.RowKit
set_option linter.unusedVariables false

theorem stay {w w' : World} {p : Addr} {v : Value} (b : Below w.heap.size w w') (h : w.cell? p = some v) : w'.cell? p = some v := by
  have hlt : p.block < w.heap.size := by
    refine Nat.lt_of_not_le fun hle => ?_
    unfold World.cell? at h
    rw [Array.getElem?_eq_none hle] at h
    simp at h
  rw [b.cell hlt]
  exact h
theorem stayB {B : Nat} {w w' : World} {p : Addr} {v : Value} (b : Below B w w') (hp : p.block < B) (h : w.cell? p = some v) : w'.cell? p = some v := by
  rw [b.cell hp]
  exact h
theorem thenB {B : Nat} {a b c : World} (h : Below B a b) (k : Below b.heap.size b c) (hB : B ≤ b.heap.size) : Below B a c := h.trans (k.mono hB)
/-- Both arenas, when the first k acts are done. -/
def ActAt (AP : ArShape) (w : World) (p k : Nat) (m i : Value) (wr : World) : Prop := ∃ (L B : List Int) (T q : Nat) (F G : Nat → Prop), AP w.heap.size p L B T F wr ∧ ArR w.heap.size q L B T G wr ∧ (∀ x, F x → ¬ G x) ∧ ArOk L B T ∧ T ≤ k ∧ m = ptrV q ∧ i = .int .i64 (k : Int) ∧ Below w.heap.size w wr
set_option maxRecDepth 100000 in
set_option maxHeartbeats 8000000 in
theorem aracts_of {AP : ArShape} (H : ArSpec AP) (a0 : Option Addr) (l0 c0 : Nat) (X : List Int) (w : World) (hX : Sl w a0 l0 c0 (ints X)) (hR : ∀ x ∈ X, -9223372036854775808 ≤ x ∧ x ≤ 9223372036854775807) : Calls Try.prog 3 #[.slice a0 l0 c0] w fun e w' => e = .returned (.bool true) ∧ Below w.heap.size w w' := by
  have HH : Hid _ := H
  have hlen : X.length = l0 := by have := hX.len; rw [ints_length] at this; exact this
  have hbig : l0 ≤ maxLen := Nat.le_trans hX.room hX.big
  clear H
  go_enter Try.func3, Try.ntmps3
  go_wp2_with (go_at_call 6; fail)
  refine (HH.out.new w.heap.size w (Nat.le_refl _)).mono ?_
  rintro e w1 ⟨p, F1, rfl, h1, hF, b1⟩
  have m1 := ArR.new w1 w.heap.size 27 b1.size
  have B2 : Below w1.heap.size w1 (w1.alloc (.cells #[.slice none 0 0, .slice none 0 0, .int .i64 0] 27)) := (Below.refl _ _).alloc (Nat.le_refl _) _
  have h2 := HH.out.keep h1 (Keep.of (F := fun _ => False) B2) (fun _ _ x => x)
  have hd1 : ∀ x, F1 x → ¬ x = w1.heap.size := fun x f e => by have := (HH.out.ft h1 x f).2; omega
  have b2 := b1.trans (B2.mono b1.size)
  go_wp2
  go_loopw [4, 5] (fun m i wr => ∃ k, k ≤ l0 ∧ k ≤ 80 ∧ ActAt AP w p k m i wr) (fun _ i _ => 80 - (intOf i).toNat)
  case atStart => exact ⟨0, by omega, by omega, [], [], 0, _, F1, _, h2, m1, hd1, ArOk.new, by omega, rfl, rfl, b2⟩
  case round =>
    clear m1 B2 h2 hd1 b2 b1 h1 hF
    obtain ⟨k, hk, hk8, L, B, T, q, F, G, hA, hM, hd, hok, hT, rfl, rfl, bel⟩ := hrel
    have hLT : L.length ≤ 1000 := by have := hok.num; omega
    have hBT : B.length ≤ 1000 := by have := hok.num; omega
    have hTT : T ≤ 1000 := by omega
    have hmx : l0 ≤ 9223372036854775807 := by unfold maxLen at hbig; omega
    have hFb : ∀ k, F k → w.heap.size ≤ k := fun k hk => (HH.out.ft hA k hk).1
    have hGb : ∀ k, G k → w.heap.size ≤ k := fun k hk => (hM.ft k hk).1
    have hbs := bel.size
    by_cases hlt : k < l0 ∧ k < 80
    · obtain ⟨hlt1, hlt2⟩ := hlt
      obtain ⟨x, hx⟩ : ∃ x, X[k]? = some x := ⟨X[k], List.getElem?_eq_getElem (by omega)⟩
      have hxr := hR x (List.mem_of_getElem? hx)
      obtain ⟨ab, ao, rfl, hab, hseg⟩ := hX.at (by omega)
      have hroom := hX.room
      have hsg := hseg.below bel hab
      have qx := hsg.cell k _ (ints_at hx)
      have HX : Hid _ := hX
      have HR : Hid _ := hR
      clear hx hseg hsg hX hR hlen
      by_cases hx1 : x = 100
      · subst hx1
        go_wp2_with (go_at_call 7; fail)
        refine (HH.out.clear w.heap.size p L B T F wr hA).mono ?_
        rintro e w2 ⟨rfl, k2, F2, h2, s2⟩
        have b2 := bel.trans (k2.below hbs hFb)
        obtain ⟨w3, hw3⟩ : ∃ w3, w3 = w2.alloc (.cells #[.slice none 0 0, .slice none 0 0, .int .i64 0] 27) := ⟨_, rfl⟩
        have m3 : ArR w.heap.size w2.heap.size [] [] 0 (fun k => k = w2.heap.size) w3 := by rw [hw3]; exact ArR.new w2 w.heap.size 27 b2.size
        have B3 : Below w2.heap.size w2 w3 := by rw [hw3]; exact (Below.refl _ _).alloc (Nat.le_refl _) _
        have h3 := HH.out.keep h2 (Keep.of (F := fun _ => False) B3) (fun _ _ x => x)
        have hd3 : ∀ x, F2 x → ¬ x = w2.heap.size := fun x f e => by have := (HH.out.ft h2 x f).2; omega
        have b3 := b2.trans (B3.mono b2.size)
        have e3 : w2.alloc (.cells #[.slice none 0 0, .slice none 0 0, .int .i64 0] 27) = w3 := hw3.symm
        clear hA hM hd hok hT hLT hBT hTT hFb hGb hbs bel k2 s2 b2 h2 hw3
        have bel := b3
        obtain ⟨L', B', T', G', hA, hM, hok, hT1, hd⟩ : ∃ (L' B' : List Int) (T' : Nat) (G' : Nat → Prop), AP w.heap.size p L' B' T' F2 w3 ∧ ArR w.heap.size w2.heap.size L' B' T' G' w3 ∧ ArOk L' B' T' ∧ T' ≤ k + 1 ∧ ∀ x, F2 x → ¬ G' x := ⟨[], [], 0, _, h3, m3, ArOk.new, by omega, hd3⟩
        clear h3 m3 hd3 b3 B3
        have hLT : (L').length ≤ 1000 := by have := hok.num; omega
        have hBT : (B').length ≤ 1000 := by have := hok.num; omega
        have hTT : T' ≤ 1000 := by omega
        have hbs := bel.size
        obtain ⟨am, cm, bm, dm, hrow, _⟩ := hM.ex
        obtain ⟨MA, hMM⟩ : ∃ MA, MA = allN (L') (T') := ⟨_, rfl⟩
        have hML : MA.length ≤ 1000000 := by rw [hMM]; have := allN_len (L') (T'); omega
        have HMM : Hid _ := hMM
        clear hMM
        obtain ⟨lv, hlv⟩ : ∃ lv : Int, lv = (L').length := ⟨_, rfl⟩
        have HLV : Hid _ := hlv
        have row0 := hrow.cell 0 _ rfl
        have row2 := hrow.cell 2 _ rfl
        clear hrow hlv
        have dd : Below w3.heap.size w3 w3.drew := (Below.refl _ _).drew
        replace hA := HH.out.keep hA (Keep.of (F := fun _ => False) dd) (fun _ _ x => x)
        replace hM := hM.keep (Keep.of (F := fun _ => False) dd) (fun _ _ x => x)
        have belD : Below w.heap.size w w3.drew := bel.drew
        go_wp2
        clear e3
        refine wp_region_held_drew (S := (fun w' => w'.cell? ⟨w2.heap.size, 0, none⟩ = some (.slice am (L').length cm) ∧ w'.cell? ⟨w2.heap.size, 2, none⟩ = some (.int .i64 ((T' : Nat) : Int)) ∧ Below w.heap.size w w')) (by kernel_rfl) ?_ (fun hHeld => ?_)
        · exact ⟨row0, row2, belD⟩
        refine take_yes (i := 0) (v := ?vt1x0) rfl (by kernel_rfl) (by kernel_rfl) (by kernel_rfl) (fun _ _ _ h => h) (by rfl) (by assumption) ?hyt1x0 ?restt1x0
        case hyt1x0 => (intro w hSw; (try dsimp only at hSw); first | (go_simp; done) | (go_simp; with_reducible rfl))
        simp only [Act.put, List.setIfInBounds_toArray, List.set_cons_zero, List.set_cons_succ]
        refine take_yes (i := 2) (v := ?vt1x2) rfl (by kernel_rfl) (by kernel_rfl) (by kernel_rfl) (fun _ _ _ h => h) (by rfl) (by assumption) ?hyt1x2 ?restt1x2
        case hyt1x2 => (intro w hSw; (try dsimp only at hSw); first | (go_simp; done) | (go_simp; with_reducible rfl))
        simp only [Act.put, List.setIfInBounds_toArray, List.set_cons_zero, List.set_cons_succ]
        refine take_call (i := 1) rfl (by kernel_rfl) (fun Kc hK => ?_)
        go_simp
        (go_at_call 15; refine (HH.out.all w.heap.size p (L') (B') (T') F2 _ hA hLT hBT hTT MA HMM.out).mono ?_; rintro e v1 ⟨a1, c1, rfl, o1, b1⟩)
        refine hK.out _ _ ?_ (fun hHeld => ?_)
        · exact ⟨stay b1 hHeld.1, stay b1 hHeld.2.1, thenB hHeld.2.2 b1 hHeld.2.2.size⟩
        clear hK Kc
        replace hA := HH.out.keep hA (Keep.of (F := fun _ => False) b1) (fun _ _ x => x)
        replace hM := hM.keep (Keep.of (F := fun _ => False) b1) (fun _ _ x => x)
        refine take_call (i := 3) rfl (by kernel_rfl) (fun Kc hK => ?_)
        go_simp
        (go_at_call 16; refine (anAll w.heap.size w2.heap.size (L') (B') (T') G' _ hM hLT hTT HMM.out).mono ?_; rintro e v2 ⟨a2, c2, rfl, o2, b2⟩)
        refine hK.out _ _ ?_ (fun hHeld => ?_)
        · exact ⟨stay b2 hHeld.1, stay b2 hHeld.2.1, thenB hHeld.2.2 b2 hHeld.2.2.size⟩
        clear hK Kc
        replace hA := HH.out.keep hA (Keep.of (F := fun _ => False) b2) (fun _ _ x => x)
        replace hM := hM.keep (Keep.of (F := fun _ => False) b2) (fun _ _ x => x)
        replace o1 := o1.below b2
        refine take_call (i := 4) rfl (by kernel_rfl) (fun Kc hK => ?_)
        go_simp
        (go_at_call 14; refine (anInts a1 a2 MA.length c1 c2 MA _ o1.sl o2.sl hML).mono ?_; rintro e v3 ⟨rfl, b3⟩)
        refine hK.out _ _ ?_ (fun hHeld => ?_)
        · exact ⟨stay b3 hHeld.1, stay b3 hHeld.2.1, thenB hHeld.2.2 b3 hHeld.2.2.size⟩
        clear hK Kc
        replace hA := HH.out.keep hA (Keep.of (F := fun _ => False) b3) (fun _ _ x => x)
        replace hM := hM.keep (Keep.of (F := fun _ => False) b3) (fun _ _ x => x)
        refine take_yes (i := 5) (v := ?vt1x5) rfl (by kernel_rfl) (by kernel_rfl) (by kernel_rfl) (fun _ _ _ h => h) (by rfl) (by assumption) ?hyt1x5 ?restt1x5
        case hyt1x5 => (intro w hSw; (try dsimp only at hSw); first | (go_simp; done) | (go_simp; with_reducible rfl))
        simp only [Act.put, List.setIfInBounds_toArray, List.set_cons_zero, List.set_cons_succ]
        refine take_yes (i := 6) (v := ?vt1x6) rfl (by kernel_rfl) (by kernel_rfl) (by kernel_rfl) (fun _ _ _ h => h) (by rfl) (by assumption) ?hyt1x6 ?restt1x6
        case hyt1x6 => (intro w hSw; (try dsimp only at hSw); first | (go_simp; done) | (go_simp; with_reducible rfl))
        simp only [Act.put, List.setIfInBounds_toArray, List.set_cons_zero, List.set_cons_succ]
        refine take_yes (i := 7) (v := ?vt1x7) rfl (by kernel_rfl) (by kernel_rfl) (by kernel_rfl) (fun _ _ _ h => h) (by rfl) (by assumption) ?hyt1x7 ?restt1x7
        case hyt1x7 => (intro w hSw; (try dsimp only at hSw); first | (go_simp; done) | (go_simp; with_reducible rfl))
        simp only [Act.put, List.setIfInBounds_toArray, List.set_cons_zero, List.set_cons_succ]
        refine take_yes (i := 9) (v := ?vt1x9) rfl (by kernel_rfl) (by kernel_rfl) (by kernel_rfl) (fun _ _ _ h => h) (by rfl) (by assumption) ?hyt1x9 ?restt1x9
        case hyt1x9 => (intro w hSw; (try dsimp only at hSw); first | (go_simp; done) | (go_simp; with_reducible rfl))
        simp only [Act.put, List.setIfInBounds_toArray, List.set_cons_zero, List.set_cons_succ]
        refine take_yes (i := 10) (v := ?vt1x10) rfl (by kernel_rfl) (by kernel_rfl) (by kernel_rfl) (fun _ _ _ h => h) (by rfl) (by assumption) ?hyt1x10 ?restt1x10
        case hyt1x10 => (intro w hSw; (try dsimp only at hSw); first | (go_simp; done) | (go_simp; with_reducible rfl))
        simp only [Act.put, List.setIfInBounds_toArray, List.set_cons_zero, List.set_cons_succ]
        refine take_yes (i := 11) (v := ?vt1x11) rfl (by kernel_rfl) (by kernel_rfl) (by kernel_rfl) (fun _ _ _ h => h) (by rfl) (by assumption) ?hyt1x11 ?restt1x11
        case hyt1x11 => (intro w hSw; (try dsimp only at hSw); first | (go_simp; done) | (go_simp; with_reducible rfl))
        simp only [Act.put, List.setIfInBounds_toArray, List.set_cons_zero, List.set_cons_succ]
        refine take_yes (i := 12) (v := ?vt1x12) rfl (by kernel_rfl) (by kernel_rfl) (by kernel_rfl) (fun _ _ _ h => h) (by rfl) (by assumption) ?hyt1x12 ?restt1x12
        case hyt1x12 => (intro w hSw; (try dsimp only at hSw); first | (go_simp; done) | (go_simp; with_reducible rfl))
        simp only [Act.put, List.setIfInBounds_toArray, List.set_cons_zero, List.set_cons_succ]
        refine take_yes (i := 13) (v := ?vt1x13) rfl (by kernel_rfl) (by kernel_rfl) (by kernel_rfl) (fun _ _ _ h => h) (by rfl) (by assumption) ?hyt1x13 ?restt1x13
        case hyt1x13 => (intro w hSw; (try dsimp only at hSw); first | (go_simp; done) | (go_simp; with_reducible rfl))
        simp only [Act.put, List.setIfInBounds_toArray, List.set_cons_zero, List.set_cons_succ]
        refine take_call (i := 8) rfl (by kernel_rfl) (fun Kc hK => ?_)
        go_simp
        (go_at_call 17; refine (HH.out.len w.heap.size p (L') (B') (T') F2 _ hA hLT hBT hTT ((L').length : Int) rfl).mono ?_; rintro e v4 ⟨rfl, b4⟩)
        refine hK.out _ _ ?_ (fun hHeld => ?_)
        · exact ⟨stay b4 hHeld.1, stay b4 hHeld.2.1, thenB hHeld.2.2 b4 hHeld.2.2.size⟩
        clear hK Kc
        replace hA := HH.out.keep hA (Keep.of (F := fun _ => False) b4) (fun _ _ x => x)
        replace hM := hM.keep (Keep.of (F := fun _ => False) b4) (fun _ _ x => x)
        refine take_yes (i := 14) (v := ?vt1x14) rfl (by kernel_rfl) (by kernel_rfl) (by kernel_rfl) (fun _ _ _ h => h) (by rfl) (by assumption) ?hyt1x14 ?restt1x14
        case hyt1x14 => (intro w hSw; (try dsimp only at hSw); first | (go_simp; done) | (go_simp; with_reducible rfl))
        simp only [Act.put, List.setIfInBounds_toArray, List.set_cons_zero, List.set_cons_succ]
        refine take_yes (i := 15) (v := ?vt1x15) rfl (by kernel_rfl) (by kernel_rfl) (by kernel_rfl) (fun _ _ _ h => h) (by rfl) (by assumption) ?hyt1x15 ?restt1x15
        case hyt1x15 => (intro w hSw; (try dsimp only at hSw); first | (go_simp; done) | (go_simp; with_reducible rfl))
        simp only [Act.put, List.setIfInBounds_toArray, List.set_cons_zero, List.set_cons_succ]
        refine take_yes (i := 16) (v := ?vt1x16) rfl (by kernel_rfl) (by kernel_rfl) (by kernel_rfl) (fun _ _ _ h => h) (by rfl) (by assumption) ?hyt1x16 ?restt1x16
        case hyt1x16 => (intro w hSw; (try dsimp only at hSw); first | (go_simp; done) | (go_simp; with_reducible rfl))
        simp only [Act.put, List.setIfInBounds_toArray, List.set_cons_zero, List.set_cons_succ]
        refine take_yes (i := 17) (v := ?vt1x17) rfl (by kernel_rfl) (by kernel_rfl) (by kernel_rfl) (fun _ _ _ h => h) (by rfl) (by assumption) ?hyt1x17 ?restt1x17
        case hyt1x17 => (intro w hSw; (try dsimp only at hSw); first | (go_simp; done) | (go_simp; with_reducible rfl))
        simp only [Act.put, List.setIfInBounds_toArray, List.set_cons_zero, List.set_cons_succ]
        refine take_yes (i := 19) (v := ?vt1x19) rfl (by kernel_rfl) (by kernel_rfl) (by kernel_rfl) (fun _ _ _ h => h) (by rfl) (by assumption) ?hyt1x19 ?restt1x19
        case hyt1x19 => (intro w hSw; (try dsimp only at hSw); first | (go_simp; done) | (go_simp; with_reducible rfl))
        simp only [Act.put, List.setIfInBounds_toArray, List.set_cons_zero, List.set_cons_succ]
        refine take_yes (i := 20) (v := ?vt1x20) rfl (by kernel_rfl) (by kernel_rfl) (by kernel_rfl) (fun _ _ _ h => h) (by rfl) (by assumption) ?hyt1x20 ?restt1x20
        case hyt1x20 => (intro w hSw; (try dsimp only at hSw); first | (go_simp; done) | (go_simp; with_reducible rfl))
        simp only [Act.put, List.setIfInBounds_toArray, List.set_cons_zero, List.set_cons_succ]
        refine take_yes (i := 21) (v := ?vt1x21) rfl (by kernel_rfl) (by kernel_rfl) (by kernel_rfl) (fun _ _ _ h => h) (by rfl) (by assumption) ?hyt1x21 ?restt1x21
        case hyt1x21 => (intro w hSw; (try dsimp only at hSw); first | (go_simp; done) | (go_simp; with_reducible rfl))
        simp only [Act.put, List.setIfInBounds_toArray, List.set_cons_zero, List.set_cons_succ]
        refine take_yes (i := 22) (v := ?vt1x22) rfl (by kernel_rfl) (by kernel_rfl) (by kernel_rfl) (fun _ _ _ h => h) (by rfl) (by assumption) ?hyt1x22 ?restt1x22
        case hyt1x22 => (intro w hSw; (try dsimp only at hSw); first | (go_simp; done) | (go_simp; with_reducible rfl))
        simp only [Act.put, List.setIfInBounds_toArray, List.set_cons_zero, List.set_cons_succ]
        refine take_call (i := 18) rfl (by kernel_rfl) (fun Kc hK => ?_)
        go_simp
        (go_at_call 18; refine (HH.out.top w.heap.size p (L') (B') (T') F2 _ hA hLT hBT hTT).mono ?_; rintro e v5 ⟨rfl, b5⟩)
        refine hK.out _ _ ?_ (fun hHeld => ?_)
        · exact ⟨stay b5 hHeld.1, stay b5 hHeld.2.1, thenB hHeld.2.2 b5 hHeld.2.2.size⟩
        clear hK Kc
        replace hA := HH.out.keep hA (Keep.of (F := fun _ => False) b5) (fun _ _ x => x)
        replace hM := hM.keep (Keep.of (F := fun _ => False) b5) (fun _ _ x => x)
        refine take_yes (i := 23) (v := ?vt1x23) rfl (by kernel_rfl) (by kernel_rfl) (by kernel_rfl) (fun _ _ _ h => h) (by rfl) (by assumption) ?hyt1x23 ?restt1x23
        case hyt1x23 => (intro w hSw; (try dsimp only at hSw); first | (go_simp; done) | (go_simp; with_reducible rfl))
        simp only [Act.put, List.setIfInBounds_toArray, List.set_cons_zero, List.set_cons_succ]
        refine take_yes (i := 24) (v := ?vt1x24) rfl (by kernel_rfl) (by kernel_rfl) (by kernel_rfl) (fun _ _ _ h => h) (by rfl) (by assumption) ?hyt1x24 ?restt1x24
        case hyt1x24 => (intro w hSw; (try dsimp only at hSw); first | (go_simp; done) | (go_simp; with_reducible rfl))
        simp only [Act.put, List.setIfInBounds_toArray, List.set_cons_zero, List.set_cons_succ]
        refine wpAnyH_done (by kernel_rfl) ?_ _
        go_wp2
        go_roundw
        case rel => exact ⟨k + 1, by omega, by omega, _, _, _, _, _, _, hA, hM, hd, hok, hT1, rfl, by simp, hHeld.2.2⟩
        case measure => simp [intOf]; omega
      · by_cases hx0 : x < 0
        · skip
          obtain ⟨n, hn⟩ : ∃ n, n = tkN B T := ⟨_, rfl⟩
          have hok2 := hok.take.1
          rw [← hn] at hok2
          have hTk : tkT B T ≤ k + 1 := by unfold tkT; split <;> omega
          have HN : Hid _ := hn
          clear hn
          go_wp2_with (go_at_call 8; fail)
          refine (HH.out.take w.heap.size p L B T F wr hA hLT hBT hTT n HN.out).mono ?_
          rintro e w2 ⟨rfl, k2, F2, h2, s2⟩
          have b2 := bel.trans (k2.below hbs hFb)
          have m2 := hM.keep k2 (fun x g f => hd x f g)
          have hd2 : ∀ x, F2 x → ¬ G x := fun x f g => (s2 x f).elim (fun y => hd x y g) (fun y => by have := (hM.ft x g).2; omega)
          go_wp2_with (go_at_call 9; fail)
          refine (anTake w.heap.size q L B T G w2 m2 hLT hBT hTT HN.out).mono ?_
          rintro e w3 ⟨rfl, k3, G3, m3, s3⟩
          have b3 := b2.trans (k3.below b2.size hGb)
          have h3 := HH.out.keep h2 k3 (fun x f g => hd2 x f g)
          have hd3 : ∀ x, F2 x → ¬ G3 x := fun x f g => (s3 x g).elim (fun y => hd2 x f y) (fun y => by have := (HH.out.ft h2 x f).2; omega)
          clear hA hM hd hok hT hLT hBT hTT hFb hGb hbs bel k2 s2 b2 h2 m2 hd2 k3 s3 HN
          have hA := h3
          have hM := m3
          have hd := hd3
          have hok := hok2
          have bel := b3
          have hT1 := hTk
          obtain ⟨L', hL'⟩ : ∃ L', L' = L ++ [n] := ⟨_, rfl⟩
          obtain ⟨B', hB'⟩ : ∃ B', B' = B.dropLast := ⟨_, rfl⟩
          obtain ⟨T', hT'⟩ : ∃ T', T' = tkT B T := ⟨_, rfl⟩
          rw [← hL', ← hB', ← hT'] at hA hM hok
          rw [← hT'] at hT1
          have hnn : (n != n) = false := by simp
          clear h3 m3 hd3 b3 hok2 hTk hL' hB' hT'
          have hLT : (L').length ≤ 1000 := by have := hok.num; omega
          have hBT : (B').length ≤ 1000 := by have := hok.num; omega
          have hTT : T' ≤ 1000 := by omega
          have hbs := bel.size
          obtain ⟨am, cm, bm, dm, hrow, _⟩ := hM.ex
          obtain ⟨MA, hMM⟩ : ∃ MA, MA = allN (L') (T') := ⟨_, rfl⟩
          have hML : MA.length ≤ 1000000 := by rw [hMM]; have := allN_len (L') (T'); omega
          have HMM : Hid _ := hMM
          clear hMM
          obtain ⟨lv, hlv⟩ : ∃ lv : Int, lv = (L').length := ⟨_, rfl⟩
          have HLV : Hid _ := hlv
          have row0 := hrow.cell 0 _ rfl
          have row2 := hrow.cell 2 _ rfl
          clear hrow hlv
          have dd : Below w3.heap.size w3 w3.drew := (Below.refl _ _).drew
          replace hA := HH.out.keep hA (Keep.of (F := fun _ => False) dd) (fun _ _ x => x)
          replace hM := hM.keep (Keep.of (F := fun _ => False) dd) (fun _ _ x => x)
          have belD : Below w.heap.size w w3.drew := bel.drew
          go_wp2
          refine wp_region_held_drew (S := (fun w' => w'.cell? ⟨q, 0, none⟩ = some (.slice am (L').length cm) ∧ w'.cell? ⟨q, 2, none⟩ = some (.int .i64 ((T' : Nat) : Int)) ∧ Below w.heap.size w w')) (by kernel_rfl) ?_ (fun hHeld => ?_)
          · exact ⟨row0, row2, belD⟩
          refine take_yes (i := 0) (v := ?vt2x0) rfl (by kernel_rfl) (by kernel_rfl) (by kernel_rfl) (fun _ _ _ h => h) (by rfl) (by assumption) ?hyt2x0 ?restt2x0
          case hyt2x0 => (intro w hSw; (try dsimp only at hSw); first | (go_simp; done) | (go_simp; with_reducible rfl))
          simp only [Act.put, List.setIfInBounds_toArray, List.set_cons_zero, List.set_cons_succ]
          refine take_yes (i := 2) (v := ?vt2x2) rfl (by kernel_rfl) (by kernel_rfl) (by kernel_rfl) (fun _ _ _ h => h) (by rfl) (by assumption) ?hyt2x2 ?restt2x2
          case hyt2x2 => (intro w hSw; (try dsimp only at hSw); first | (go_simp; done) | (go_simp; with_reducible rfl))
          simp only [Act.put, List.setIfInBounds_toArray, List.set_cons_zero, List.set_cons_succ]
          refine take_call (i := 1) rfl (by kernel_rfl) (fun Kc hK => ?_)
          go_simp
          (go_at_call 15; refine (HH.out.all w.heap.size p (L') (B') (T') F2 _ hA hLT hBT hTT MA HMM.out).mono ?_; rintro e v1 ⟨a1, c1, rfl, o1, b1⟩)
          refine hK.out _ _ ?_ (fun hHeld => ?_)
          · exact ⟨stay b1 hHeld.1, stay b1 hHeld.2.1, thenB hHeld.2.2 b1 hHeld.2.2.size⟩
          clear hK Kc
          replace hA := HH.out.keep hA (Keep.of (F := fun _ => False) b1) (fun _ _ x => x)
          replace hM := hM.keep (Keep.of (F := fun _ => False) b1) (fun _ _ x => x)
          refine take_call (i := 3) rfl (by kernel_rfl) (fun Kc hK => ?_)
          go_simp
          (go_at_call 16; refine (anAll w.heap.size q (L') (B') (T') G3 _ hM hLT hTT HMM.out).mono ?_; rintro e v2 ⟨a2, c2, rfl, o2, b2⟩)
          refine hK.out _ _ ?_ (fun hHeld => ?_)
          · exact ⟨stay b2 hHeld.1, stay b2 hHeld.2.1, thenB hHeld.2.2 b2 hHeld.2.2.size⟩
          clear hK Kc
          replace hA := HH.out.keep hA (Keep.of (F := fun _ => False) b2) (fun _ _ x => x)
          replace hM := hM.keep (Keep.of (F := fun _ => False) b2) (fun _ _ x => x)
          replace o1 := o1.below b2
          refine take_call (i := 4) rfl (by kernel_rfl) (fun Kc hK => ?_)
          go_simp
          (go_at_call 14; refine (anInts a1 a2 MA.length c1 c2 MA _ o1.sl o2.sl hML).mono ?_; rintro e v3 ⟨rfl, b3⟩)
          refine hK.out _ _ ?_ (fun hHeld => ?_)
          · exact ⟨stay b3 hHeld.1, stay b3 hHeld.2.1, thenB hHeld.2.2 b3 hHeld.2.2.size⟩
          clear hK Kc
          replace hA := HH.out.keep hA (Keep.of (F := fun _ => False) b3) (fun _ _ x => x)
          replace hM := hM.keep (Keep.of (F := fun _ => False) b3) (fun _ _ x => x)
          refine take_yes (i := 5) (v := ?vt2x5) rfl (by kernel_rfl) (by kernel_rfl) (by kernel_rfl) (fun _ _ _ h => h) (by rfl) (by assumption) ?hyt2x5 ?restt2x5
          case hyt2x5 => (intro w hSw; (try dsimp only at hSw); first | (go_simp; done) | (go_simp; with_reducible rfl))
          simp only [Act.put, List.setIfInBounds_toArray, List.set_cons_zero, List.set_cons_succ]
          refine take_yes (i := 6) (v := ?vt2x6) rfl (by kernel_rfl) (by kernel_rfl) (by kernel_rfl) (fun _ _ _ h => h) (by rfl) (by assumption) ?hyt2x6 ?restt2x6
          case hyt2x6 => (intro w hSw; (try dsimp only at hSw); first | (go_simp; done) | (go_simp; with_reducible rfl))
          simp only [Act.put, List.setIfInBounds_toArray, List.set_cons_zero, List.set_cons_succ]
          refine take_yes (i := 7) (v := ?vt2x7) rfl (by kernel_rfl) (by kernel_rfl) (by kernel_rfl) (fun _ _ _ h => h) (by rfl) (by assumption) ?hyt2x7 ?restt2x7
          case hyt2x7 => (intro w hSw; (try dsimp only at hSw); first | (go_simp; done) | (go_simp; with_reducible rfl))
          simp only [Act.put, List.setIfInBounds_toArray, List.set_cons_zero, List.set_cons_succ]
          refine take_yes (i := 9) (v := ?vt2x9) rfl (by kernel_rfl) (by kernel_rfl) (by kernel_rfl) (fun _ _ _ h => h) (by rfl) (by assumption) ?hyt2x9 ?restt2x9
          case hyt2x9 => (intro w hSw; (try dsimp only at hSw); first | (go_simp; done) | (go_simp; with_reducible rfl))
          simp only [Act.put, List.setIfInBounds_toArray, List.set_cons_zero, List.set_cons_succ]
          refine take_yes (i := 10) (v := ?vt2x10) rfl (by kernel_rfl) (by kernel_rfl) (by kernel_rfl) (fun _ _ _ h => h) (by rfl) (by assumption) ?hyt2x10 ?restt2x10
          case hyt2x10 => (intro w hSw; (try dsimp only at hSw); first | (go_simp; done) | (go_simp; with_reducible rfl))
          simp only [Act.put, List.setIfInBounds_toArray, List.set_cons_zero, List.set_cons_succ]
          refine take_yes (i := 11) (v := ?vt2x11) rfl (by kernel_rfl) (by kernel_rfl) (by kernel_rfl) (fun _ _ _ h => h) (by rfl) (by assumption) ?hyt2x11 ?restt2x11
          case hyt2x11 => (intro w hSw; (try dsimp only at hSw); first | (go_simp; done) | (go_simp; with_reducible rfl))
          simp only [Act.put, List.setIfInBounds_toArray, List.set_cons_zero, List.set_cons_succ]
          refine take_yes (i := 12) (v := ?vt2x12) rfl (by kernel_rfl) (by kernel_rfl) (by kernel_rfl) (fun _ _ _ h => h) (by rfl) (by assumption) ?hyt2x12 ?restt2x12
          case hyt2x12 => (intro w hSw; (try dsimp only at hSw); first | (go_simp; done) | (go_simp; with_reducible rfl))
          simp only [Act.put, List.setIfInBounds_toArray, List.set_cons_zero, List.set_cons_succ]
          refine take_yes (i := 13) (v := ?vt2x13) rfl (by kernel_rfl) (by kernel_rfl) (by kernel_rfl) (fun _ _ _ h => h) (by rfl) (by assumption) ?hyt2x13 ?restt2x13
          case hyt2x13 => (intro w hSw; (try dsimp only at hSw); first | (go_simp; done) | (go_simp; with_reducible rfl))
          simp only [Act.put, List.setIfInBounds_toArray, List.set_cons_zero, List.set_cons_succ]
          refine take_call (i := 8) rfl (by kernel_rfl) (fun Kc hK => ?_)
          go_simp
          (go_at_call 17; refine (HH.out.len w.heap.size p (L') (B') (T') F2 _ hA hLT hBT hTT ((L').length : Int) rfl).mono ?_; rintro e v4 ⟨rfl, b4⟩)
          refine hK.out _ _ ?_ (fun hHeld => ?_)
          · exact ⟨stay b4 hHeld.1, stay b4 hHeld.2.1, thenB hHeld.2.2 b4 hHeld.2.2.size⟩
          clear hK Kc
          replace hA := HH.out.keep hA (Keep.of (F := fun _ => False) b4) (fun _ _ x => x)
          replace hM := hM.keep (Keep.of (F := fun _ => False) b4) (fun _ _ x => x)
          refine take_yes (i := 14) (v := ?vt2x14) rfl (by kernel_rfl) (by kernel_rfl) (by kernel_rfl) (fun _ _ _ h => h) (by rfl) (by assumption) ?hyt2x14 ?restt2x14
          case hyt2x14 => (intro w hSw; (try dsimp only at hSw); first | (go_simp; done) | (go_simp; with_reducible rfl))
          simp only [Act.put, List.setIfInBounds_toArray, List.set_cons_zero, List.set_cons_succ]
          refine take_yes (i := 15) (v := ?vt2x15) rfl (by kernel_rfl) (by kernel_rfl) (by kernel_rfl) (fun _ _ _ h => h) (by rfl) (by assumption) ?hyt2x15 ?restt2x15
          case hyt2x15 => (intro w hSw; (try dsimp only at hSw); first | (go_simp; done) | (go_simp; with_reducible rfl))
          simp only [Act.put, List.setIfInBounds_toArray, List.set_cons_zero, List.set_cons_succ]
          refine take_yes (i := 16) (v := ?vt2x16) rfl (by kernel_rfl) (by kernel_rfl) (by kernel_rfl) (fun _ _ _ h => h) (by rfl) (by assumption) ?hyt2x16 ?restt2x16
          case hyt2x16 => (intro w hSw; (try dsimp only at hSw); first | (go_simp; done) | (go_simp; with_reducible rfl))
          simp only [Act.put, List.setIfInBounds_toArray, List.set_cons_zero, List.set_cons_succ]
          refine take_yes (i := 17) (v := ?vt2x17) rfl (by kernel_rfl) (by kernel_rfl) (by kernel_rfl) (fun _ _ _ h => h) (by rfl) (by assumption) ?hyt2x17 ?restt2x17
          case hyt2x17 => (intro w hSw; (try dsimp only at hSw); first | (go_simp; done) | (go_simp; with_reducible rfl))
          simp only [Act.put, List.setIfInBounds_toArray, List.set_cons_zero, List.set_cons_succ]
          refine take_yes (i := 19) (v := ?vt2x19) rfl (by kernel_rfl) (by kernel_rfl) (by kernel_rfl) (fun _ _ _ h => h) (by rfl) (by assumption) ?hyt2x19 ?restt2x19
          case hyt2x19 => (intro w hSw; (try dsimp only at hSw); first | (go_simp; done) | (go_simp; with_reducible rfl))
          simp only [Act.put, List.setIfInBounds_toArray, List.set_cons_zero, List.set_cons_succ]
          refine take_yes (i := 20) (v := ?vt2x20) rfl (by kernel_rfl) (by kernel_rfl) (by kernel_rfl) (fun _ _ _ h => h) (by rfl) (by assumption) ?hyt2x20 ?restt2x20
          case hyt2x20 => (intro w hSw; (try dsimp only at hSw); first | (go_simp; done) | (go_simp; with_reducible rfl))
          simp only [Act.put, List.setIfInBounds_toArray, List.set_cons_zero, List.set_cons_succ]
          refine take_yes (i := 21) (v := ?vt2x21) rfl (by kernel_rfl) (by kernel_rfl) (by kernel_rfl) (fun _ _ _ h => h) (by rfl) (by assumption) ?hyt2x21 ?restt2x21
          case hyt2x21 => (intro w hSw; (try dsimp only at hSw); first | (go_simp; done) | (go_simp; with_reducible rfl))
          simp only [Act.put, List.setIfInBounds_toArray, List.set_cons_zero, List.set_cons_succ]
          refine take_yes (i := 22) (v := ?vt2x22) rfl (by kernel_rfl) (by kernel_rfl) (by kernel_rfl) (fun _ _ _ h => h) (by rfl) (by assumption) ?hyt2x22 ?restt2x22
          case hyt2x22 => (intro w hSw; (try dsimp only at hSw); first | (go_simp; done) | (go_simp; with_reducible rfl))
          simp only [Act.put, List.setIfInBounds_toArray, List.set_cons_zero, List.set_cons_succ]
          refine take_call (i := 18) rfl (by kernel_rfl) (fun Kc hK => ?_)
          go_simp
          (go_at_call 18; refine (HH.out.top w.heap.size p (L') (B') (T') F2 _ hA hLT hBT hTT).mono ?_; rintro e v5 ⟨rfl, b5⟩)
          refine hK.out _ _ ?_ (fun hHeld => ?_)
          · exact ⟨stay b5 hHeld.1, stay b5 hHeld.2.1, thenB hHeld.2.2 b5 hHeld.2.2.size⟩
          clear hK Kc
          replace hA := HH.out.keep hA (Keep.of (F := fun _ => False) b5) (fun _ _ x => x)
          replace hM := hM.keep (Keep.of (F := fun _ => False) b5) (fun _ _ x => x)
          refine take_yes (i := 23) (v := ?vt2x23) rfl (by kernel_rfl) (by kernel_rfl) (by kernel_rfl) (fun _ _ _ h => h) (by rfl) (by assumption) ?hyt2x23 ?restt2x23
          case hyt2x23 => (intro w hSw; (try dsimp only at hSw); first | (go_simp; done) | (go_simp; with_reducible rfl))
          simp only [Act.put, List.setIfInBounds_toArray, List.set_cons_zero, List.set_cons_succ]
          refine take_yes (i := 24) (v := ?vt2x24) rfl (by kernel_rfl) (by kernel_rfl) (by kernel_rfl) (fun _ _ _ h => h) (by rfl) (by assumption) ?hyt2x24 ?restt2x24
          case hyt2x24 => (intro w hSw; (try dsimp only at hSw); first | (go_simp; done) | (go_simp; with_reducible rfl))
          simp only [Act.put, List.setIfInBounds_toArray, List.set_cons_zero, List.set_cons_succ]
          refine wpAnyH_done (by kernel_rfl) ?_ _
          go_wp2
          go_roundw
          case rel => exact ⟨k + 1, by omega, by omega, _, _, _, _, _, _, hA, hM, hd, hok, hT1, rfl, by simp, hHeld.2.2⟩
          case measure => simp [intOf]; omega
        · by_cases hm : x ∈ L
          · skip
            obtain ⟨M, hMM⟩ : ∃ M, M = L.filter (fun y => decide (y ≠ x)) := ⟨_, rfl⟩
            have hok2 := hok.free hm
            rw [← hMM] at hok2
            have HMF : Hid _ := hMM
            clear hMM
            have HR1 : Hid (true = decide (x ∈ L)) := (decide_eq_true hm).symm
            have HME : Hid _ := hm
            clear hm
            have dd : Below wr.heap.size wr wr.drew := (Below.refl _ _).drew
            replace hA := HH.out.keep hA (Keep.of (F := fun _ => False) dd) (fun _ _ x => x)
            replace hM := hM.keep (Keep.of (F := fun _ => False) dd) (fun _ _ x => x)
            have belD : Below w.heap.size w wr.drew := bel.drew
            go_wp2
            refine wp_region_held_drew (S := (fun w' => w'.cell? ⟨ab, ao + k, none⟩ = some (.int .i64 x) ∧ Below w.heap.size w w')) (by kernel_rfl) ?_ (fun hHeld => ?_)
            · exact ⟨qx, belD⟩
            refine take_yes (i := 0) (v := ?vutx0) rfl (by kernel_rfl) (by kernel_rfl) (by kernel_rfl) (fun _ _ _ h => h) (by rfl) (by assumption) ?hyutx0 ?restutx0
            case hyutx0 => (intro w hSw; (try dsimp only at hSw); first | (go_simp; done) | (go_simp; with_reducible rfl))
            simp only [Act.put, List.setIfInBounds_toArray, List.set_cons_zero, List.set_cons_succ]
            refine take_yes (i := 1) (v := ?vutx1) rfl (by kernel_rfl) (by kernel_rfl) (by kernel_rfl) (fun _ _ _ h => h) (by rfl) (by assumption) ?hyutx1 ?restutx1
            case hyutx1 => (intro w hSw; (try dsimp only at hSw); first | (go_simp; done) | (go_simp; with_reducible rfl))
            simp only [Act.put, List.setIfInBounds_toArray, List.set_cons_zero, List.set_cons_succ]
            refine take_yes (i := 2) (v := ?vutx2) rfl (by kernel_rfl) (by kernel_rfl) (by kernel_rfl) (fun _ _ _ h => h) (by rfl) (by assumption) ?hyutx2 ?restutx2
            case hyutx2 => (intro w hSw; (try dsimp only at hSw); first | (go_simp; done) | (go_simp; with_reducible rfl))
            simp only [Act.put, List.setIfInBounds_toArray, List.set_cons_zero, List.set_cons_succ]
            refine take_yes (i := 3) (v := ?vutx3) rfl (by kernel_rfl) (by kernel_rfl) (by kernel_rfl) (fun _ _ _ h => h) (by rfl) (by assumption) ?hyutx3 ?restutx3
            case hyutx3 => (intro w hSw; (try dsimp only at hSw); first | (go_simp; done) | (go_simp; with_reducible rfl))
            simp only [Act.put, List.setIfInBounds_toArray, List.set_cons_zero, List.set_cons_succ]
            refine take_yes (i := 4) (v := ?vutx4) rfl (by kernel_rfl) (by kernel_rfl) (by kernel_rfl) (fun _ _ _ h => h) (by rfl) (by assumption) ?hyutx4 ?restutx4
            case hyutx4 => (intro w hSw; (try dsimp only at hSw); first | (go_simp; done) | (go_simp; with_reducible rfl))
            simp only [Act.put, List.setIfInBounds_toArray, List.set_cons_zero, List.set_cons_succ]
            refine take_yes (i := 6) (v := ?vutx6) rfl (by kernel_rfl) (by kernel_rfl) (by kernel_rfl) (fun _ _ _ h => h) (by rfl) (by assumption) ?hyutx6 ?restutx6
            case hyutx6 => (intro w hSw; (try dsimp only at hSw); first | (go_simp; done) | (go_simp; with_reducible rfl))
            simp only [Act.put, List.setIfInBounds_toArray, List.set_cons_zero, List.set_cons_succ]
            refine take_yes (i := 7) (v := ?vutx7) rfl (by kernel_rfl) (by kernel_rfl) (by kernel_rfl) (fun _ _ _ h => h) (by rfl) (by assumption) ?hyutx7 ?restutx7
            case hyutx7 => (intro w hSw; (try dsimp only at hSw); first | (go_simp; done) | (go_simp; with_reducible rfl))
            simp only [Act.put, List.setIfInBounds_toArray, List.set_cons_zero, List.set_cons_succ]
            refine take_yes (i := 8) (v := ?vutx8) rfl (by kernel_rfl) (by kernel_rfl) (by kernel_rfl) (fun _ _ _ h => h) (by rfl) (by assumption) ?hyutx8 ?restutx8
            case hyutx8 => (intro w hSw; (try dsimp only at hSw); first | (go_simp; done) | (go_simp; with_reducible rfl))
            simp only [Act.put, List.setIfInBounds_toArray, List.set_cons_zero, List.set_cons_succ]
            refine take_yes (i := 9) (v := ?vutx9) rfl (by kernel_rfl) (by kernel_rfl) (by kernel_rfl) (fun _ _ _ h => h) (by rfl) (by assumption) ?hyutx9 ?restutx9
            case hyutx9 => (intro w hSw; (try dsimp only at hSw); first | (go_simp; done) | (go_simp; with_reducible rfl))
            simp only [Act.put, List.setIfInBounds_toArray, List.set_cons_zero, List.set_cons_succ]
            refine take_yes (i := 10) (v := ?vutx10) rfl (by kernel_rfl) (by kernel_rfl) (by kernel_rfl) (fun _ _ _ h => h) (by rfl) (by assumption) ?hyutx10 ?restutx10
            case hyutx10 => (intro w hSw; (try dsimp only at hSw); first | (go_simp; done) | (go_simp; with_reducible rfl))
            simp only [Act.put, List.setIfInBounds_toArray, List.set_cons_zero, List.set_cons_succ]
            refine take_call (i := 5) rfl (by kernel_rfl) (fun Kc hK => ?_)
            go_simp
            (go_at_call 10; refine (HH.out.live w.heap.size p L B T F _ hA hLT hBT hTT x hxr true HR1.out).mono ?_; rintro e v1 ⟨rfl, b1⟩)
            refine hK.out _ _ ?_ (fun hHeld => ?_)
            · exact ⟨stay b1 hHeld.1, thenB hHeld.2 b1 hHeld.2.size⟩
            clear hK Kc
            replace hA := HH.out.keep hA (Keep.of (F := fun _ => False) b1) (fun _ _ x => x)
            replace hM := hM.keep (Keep.of (F := fun _ => False) b1) (fun _ _ x => x)
            refine take_call (i := 11) rfl (by kernel_rfl) (fun Kc hK => ?_)
            go_simp
            (go_at_call 11; refine (anLive w.heap.size q L B T G x _ hM hLT HR1.out).mono ?_; rintro e v2 ⟨rfl, b2⟩)
            refine hK.out _ _ ?_ (fun hHeld => ?_)
            · exact ⟨stay b2 hHeld.1, thenB hHeld.2 b2 hHeld.2.size⟩
            clear hK Kc
            replace hA := HH.out.keep hA (Keep.of (F := fun _ => False) b2) (fun _ _ x => x)
            replace hM := hM.keep (Keep.of (F := fun _ => False) b2) (fun _ _ x => x)
            refine take_yes (i := 12) (v := ?vutx12) rfl (by kernel_rfl) (by kernel_rfl) (by kernel_rfl) (fun _ _ _ h => h) (by rfl) (by assumption) ?hyutx12 ?restutx12
            case hyutx12 => (intro w hSw; (try dsimp only at hSw); first | (go_simp; done) | (go_simp; with_reducible rfl))
            simp only [Act.put, List.setIfInBounds_toArray, List.set_cons_zero, List.set_cons_succ]
            refine take_yes (i := 13) (v := ?vutx13) rfl (by kernel_rfl) (by kernel_rfl) (by kernel_rfl) (fun _ _ _ h => h) (by rfl) (by assumption) ?hyutx13 ?restutx13
            case hyutx13 => (intro w hSw; (try dsimp only at hSw); first | (go_simp; done) | (go_simp; with_reducible rfl))
            simp only [Act.put, List.setIfInBounds_toArray, List.set_cons_zero, List.set_cons_succ]
            refine take_yes (i := 14) (v := ?vutx14) rfl (by kernel_rfl) (by kernel_rfl) (by kernel_rfl) (fun _ _ _ h => h) (by rfl) (by assumption) ?hyutx14 ?restutx14
            case hyutx14 => (intro w hSw; (try dsimp only at hSw); first | (go_simp; done) | (go_simp; with_reducible rfl))
            simp only [Act.put, List.setIfInBounds_toArray, List.set_cons_zero, List.set_cons_succ]
            refine take_yes (i := 15) (v := ?vutx15) rfl (by kernel_rfl) (by kernel_rfl) (by kernel_rfl) (fun _ _ _ h => h) (by rfl) (by assumption) ?hyutx15 ?restutx15
            case hyutx15 => (intro w hSw; (try dsimp only at hSw); first | (go_simp; done) | (go_simp; with_reducible rfl))
            simp only [Act.put, List.setIfInBounds_toArray, List.set_cons_zero, List.set_cons_succ]
            refine take_yes (i := 16) (v := ?vutx16) rfl (by kernel_rfl) (by kernel_rfl) (by kernel_rfl) (fun _ _ _ h => h) (by rfl) (by assumption) ?hyutx16 ?restutx16
            case hyutx16 => (intro w hSw; (try dsimp only at hSw); first | (go_simp; done) | (go_simp; with_reducible rfl))
            simp only [Act.put, List.setIfInBounds_toArray, List.set_cons_zero, List.set_cons_succ]
            refine take_yes (i := 17) (v := ?vutx17) rfl (by kernel_rfl) (by kernel_rfl) (by kernel_rfl) (fun _ _ _ h => h) (by rfl) (by assumption) ?hyutx17 ?restutx17
            case hyutx17 => (intro w hSw; (try dsimp only at hSw); first | (go_simp; done) | (go_simp; with_reducible rfl))
            simp only [Act.put, List.setIfInBounds_toArray, List.set_cons_zero, List.set_cons_succ]
            refine take_yes (i := 18) (v := ?vutx18) rfl (by kernel_rfl) (by kernel_rfl) (by kernel_rfl) (fun _ _ _ h => h) (by rfl) (by assumption) ?hyutx18 ?restutx18
            case hyutx18 => (intro w hSw; (try dsimp only at hSw); first | (go_simp; done) | (go_simp; with_reducible rfl))
            simp only [Act.put, List.setIfInBounds_toArray, List.set_cons_zero, List.set_cons_succ]
            refine take_yes (i := 20) (v := ?vutx20) rfl (by kernel_rfl) (by kernel_rfl) (by kernel_rfl) (fun _ _ _ h => h) (by rfl) (by assumption) ?hyutx20 ?restutx20
            case hyutx20 => (intro w hSw; (try dsimp only at hSw); first | (go_simp; done) | (go_simp; with_reducible rfl))
            simp only [Act.put, List.setIfInBounds_toArray, List.set_cons_zero, List.set_cons_succ]
            refine take_yes (i := 21) (v := ?vutx21) rfl (by kernel_rfl) (by kernel_rfl) (by kernel_rfl) (fun _ _ _ h => h) (by rfl) (by assumption) ?hyutx21 ?restutx21
            case hyutx21 => (intro w hSw; (try dsimp only at hSw); first | (go_simp; done) | (go_simp; with_reducible rfl))
            simp only [Act.put, List.setIfInBounds_toArray, List.set_cons_zero, List.set_cons_succ]
            refine take_yes (i := 22) (v := ?vutx22) rfl (by kernel_rfl) (by kernel_rfl) (by kernel_rfl) (fun _ _ _ h => h) (by rfl) (by assumption) ?hyutx22 ?restutx22
            case hyutx22 => (intro w hSw; (try dsimp only at hSw); first | (go_simp; done) | (go_simp; with_reducible rfl))
            simp only [Act.put, List.setIfInBounds_toArray, List.set_cons_zero, List.set_cons_succ]
            refine take_yes (i := 23) (v := ?vutx23) rfl (by kernel_rfl) (by kernel_rfl) (by kernel_rfl) (fun _ _ _ h => h) (by rfl) (by assumption) ?hyutx23 ?restutx23
            case hyutx23 => (intro w hSw; (try dsimp only at hSw); first | (go_simp; done) | (go_simp; with_reducible rfl))
            simp only [Act.put, List.setIfInBounds_toArray, List.set_cons_zero, List.set_cons_succ]
            refine take_yes (i := 24) (v := ?vutx24) rfl (by kernel_rfl) (by kernel_rfl) (by kernel_rfl) (fun _ _ _ h => h) (by rfl) (by assumption) ?hyutx24 ?restutx24
            case hyutx24 => (intro w hSw; (try dsimp only at hSw); first | (go_simp; done) | (go_simp; with_reducible rfl))
            simp only [Act.put, List.setIfInBounds_toArray, List.set_cons_zero, List.set_cons_succ]
            refine take_call (i := 19) rfl (by kernel_rfl) (fun Kc hK => ?_)
            go_simp
            (go_at_call 12; refine (HH.out.free w.heap.size p L B T F _ hA hLT hBT hTT x hxr HME.out M HMF.out).mono ?_; rintro e v3 ⟨rfl, k3, F3, h3, s3⟩; have b3 := k3.below hHeld.2.size hFb)
            refine hK.out _ _ ?_ (fun hHeld => ?_)
            · exact ⟨stayB b3 hab hHeld.1, hHeld.2.trans b3⟩
            clear hK Kc
            have m3 := hM.keep k3 (fun x g f => hd x f g)
            have hd3 : ∀ x, F3 x → ¬ G x := fun x f g => (s3 x f).elim (fun y => hd x y g) (fun y => by have := (hM.ft x g).2; omega)
            refine take_call (i := 25) rfl (by kernel_rfl) (fun Kc hK => ?_)
            go_simp
            (go_at_call 13; refine (anFree w.heap.size q L B T G x _ m3 hLT hBT HME.out HMF.out).mono ?_; rintro e v4 ⟨rfl, k4, G4, m4, s4⟩; have b4 := k4.below hHeld.2.size hGb)
            refine hK.out _ _ ?_ (fun hHeld => ?_)
            · exact ⟨stayB b4 hab hHeld.1, hHeld.2.trans b4⟩
            clear hK Kc
            have h4 := HH.out.keep h3 k4 (fun x f g => hd3 x f g)
            have hd4 : ∀ x, F3 x → ¬ G4 x := fun x f g => (s4 x g).elim (fun y => hd3 x f y) (fun y => by have := (HH.out.ft h3 x f).2; omega)
            refine take_yes (i := 26) (v := ?vutx26) rfl (by kernel_rfl) (by kernel_rfl) (by kernel_rfl) (fun _ _ _ h => h) (by rfl) (by assumption) ?hyutx26 ?restutx26
            case hyutx26 => (intro w hSw; (try dsimp only at hSw); first | (go_simp; done) | (go_simp; with_reducible rfl))
            simp only [Act.put, List.setIfInBounds_toArray, List.set_cons_zero, List.set_cons_succ]
            refine take_yes (i := 27) (v := ?vutx27) rfl (by kernel_rfl) (by kernel_rfl) (by kernel_rfl) (fun _ _ _ h => h) (by rfl) (by assumption) ?hyutx27 ?restutx27
            case hyutx27 => (intro w hSw; (try dsimp only at hSw); first | (go_simp; done) | (go_simp; with_reducible rfl))
            simp only [Act.put, List.setIfInBounds_toArray, List.set_cons_zero, List.set_cons_succ]
            refine wpAnyH_done (by kernel_rfl) ?_ _
            have bel4 := hHeld.2
            clear hA hM hd hok hLT hBT hTT hFb hGb hbs bel dd belD b1 b2 k3 s3 h3 b3 k4 s4 b4 m3 hd3
            have hA := h4
            have hM := m4
            have hd := hd4
            have bel := bel4
            have hT1 : T ≤ k + 1 := by omega
            clear h4 m4 hd4 bel4
            have hok := hok2
            obtain ⟨B', hB'⟩ : ∃ B', B' = B ++ [x] := ⟨_, rfl⟩
            rw [← hB'] at hA hM hok
            clear hok2 hB' HMF HME HR1
            have hLT : (M).length ≤ 1000 := by have := hok.num; omega
            have hBT : (B').length ≤ 1000 := by have := hok.num; omega
            have hTT : T ≤ 1000 := by omega
            have hbs := bel.size
            obtain ⟨am, cm, bm, dm, hrow, _⟩ := hM.ex
            obtain ⟨MA, hMM⟩ : ∃ MA, MA = allN (M) (T) := ⟨_, rfl⟩
            have hML : MA.length ≤ 1000000 := by rw [hMM]; have := allN_len (M) (T); omega
            have HMM : Hid _ := hMM
            clear hMM
            obtain ⟨lv, hlv⟩ : ∃ lv : Int, lv = (M).length := ⟨_, rfl⟩
            have HLV : Hid _ := hlv
            have row0 := hrow.cell 0 _ rfl
            have row2 := hrow.cell 2 _ rfl
            clear hrow hlv
            have dd : Below v4.heap.size v4 v4.drew := (Below.refl _ _).drew
            replace hA := HH.out.keep hA (Keep.of (F := fun _ => False) dd) (fun _ _ x => x)
            replace hM := hM.keep (Keep.of (F := fun _ => False) dd) (fun _ _ x => x)
            have belD : Below w.heap.size w v4.drew := bel.drew
            go_wp2
            refine wp_region_held_drew (S := (fun w' => w'.cell? ⟨q, 0, none⟩ = some (.slice am (M).length cm) ∧ w'.cell? ⟨q, 2, none⟩ = some (.int .i64 ((T : Nat) : Int)) ∧ Below w.heap.size w w')) (by kernel_rfl) ?_ (fun hHeld => ?_)
            · exact ⟨row0, row2, belD⟩
            refine take_yes (i := 0) (v := ?vt3x0) rfl (by kernel_rfl) (by kernel_rfl) (by kernel_rfl) (fun _ _ _ h => h) (by rfl) (by assumption) ?hyt3x0 ?restt3x0
            case hyt3x0 => (intro w hSw; (try dsimp only at hSw); first | (go_simp; done) | (go_simp; with_reducible rfl))
            simp only [Act.put, List.setIfInBounds_toArray, List.set_cons_zero, List.set_cons_succ]
            refine take_yes (i := 2) (v := ?vt3x2) rfl (by kernel_rfl) (by kernel_rfl) (by kernel_rfl) (fun _ _ _ h => h) (by rfl) (by assumption) ?hyt3x2 ?restt3x2
            case hyt3x2 => (intro w hSw; (try dsimp only at hSw); first | (go_simp; done) | (go_simp; with_reducible rfl))
            simp only [Act.put, List.setIfInBounds_toArray, List.set_cons_zero, List.set_cons_succ]
            refine take_call (i := 1) rfl (by kernel_rfl) (fun Kc hK => ?_)
            go_simp
            (go_at_call 15; refine (HH.out.all w.heap.size p (M) (B') (T) F3 _ hA hLT hBT hTT MA HMM.out).mono ?_; rintro e v1 ⟨a1, c1, rfl, o1, b1⟩)
            refine hK.out _ _ ?_ (fun hHeld => ?_)
            · exact ⟨stay b1 hHeld.1, stay b1 hHeld.2.1, thenB hHeld.2.2 b1 hHeld.2.2.size⟩
            clear hK Kc
            replace hA := HH.out.keep hA (Keep.of (F := fun _ => False) b1) (fun _ _ x => x)
            replace hM := hM.keep (Keep.of (F := fun _ => False) b1) (fun _ _ x => x)
            refine take_call (i := 3) rfl (by kernel_rfl) (fun Kc hK => ?_)
            go_simp
            (go_at_call 16; refine (anAll w.heap.size q (M) (B') (T) G4 _ hM hLT hTT HMM.out).mono ?_; rintro e v2 ⟨a2, c2, rfl, o2, b2⟩)
            refine hK.out _ _ ?_ (fun hHeld => ?_)
            · exact ⟨stay b2 hHeld.1, stay b2 hHeld.2.1, thenB hHeld.2.2 b2 hHeld.2.2.size⟩
            clear hK Kc
            replace hA := HH.out.keep hA (Keep.of (F := fun _ => False) b2) (fun _ _ x => x)
            replace hM := hM.keep (Keep.of (F := fun _ => False) b2) (fun _ _ x => x)
            replace o1 := o1.below b2
            refine take_call (i := 4) rfl (by kernel_rfl) (fun Kc hK => ?_)
            go_simp
            (go_at_call 14; refine (anInts a1 a2 MA.length c1 c2 MA _ o1.sl o2.sl hML).mono ?_; rintro e v3 ⟨rfl, b3⟩)
            refine hK.out _ _ ?_ (fun hHeld => ?_)
            · exact ⟨stay b3 hHeld.1, stay b3 hHeld.2.1, thenB hHeld.2.2 b3 hHeld.2.2.size⟩
            clear hK Kc
            replace hA := HH.out.keep hA (Keep.of (F := fun _ => False) b3) (fun _ _ x => x)
            replace hM := hM.keep (Keep.of (F := fun _ => False) b3) (fun _ _ x => x)
            refine take_yes (i := 5) (v := ?vt3x5) rfl (by kernel_rfl) (by kernel_rfl) (by kernel_rfl) (fun _ _ _ h => h) (by rfl) (by assumption) ?hyt3x5 ?restt3x5
            case hyt3x5 => (intro w hSw; (try dsimp only at hSw); first | (go_simp; done) | (go_simp; with_reducible rfl))
            simp only [Act.put, List.setIfInBounds_toArray, List.set_cons_zero, List.set_cons_succ]
            refine take_yes (i := 6) (v := ?vt3x6) rfl (by kernel_rfl) (by kernel_rfl) (by kernel_rfl) (fun _ _ _ h => h) (by rfl) (by assumption) ?hyt3x6 ?restt3x6
            case hyt3x6 => (intro w hSw; (try dsimp only at hSw); first | (go_simp; done) | (go_simp; with_reducible rfl))
            simp only [Act.put, List.setIfInBounds_toArray, List.set_cons_zero, List.set_cons_succ]
            refine take_yes (i := 7) (v := ?vt3x7) rfl (by kernel_rfl) (by kernel_rfl) (by kernel_rfl) (fun _ _ _ h => h) (by rfl) (by assumption) ?hyt3x7 ?restt3x7
            case hyt3x7 => (intro w hSw; (try dsimp only at hSw); first | (go_simp; done) | (go_simp; with_reducible rfl))
            simp only [Act.put, List.setIfInBounds_toArray, List.set_cons_zero, List.set_cons_succ]
            refine take_yes (i := 9) (v := ?vt3x9) rfl (by kernel_rfl) (by kernel_rfl) (by kernel_rfl) (fun _ _ _ h => h) (by rfl) (by assumption) ?hyt3x9 ?restt3x9
            case hyt3x9 => (intro w hSw; (try dsimp only at hSw); first | (go_simp; done) | (go_simp; with_reducible rfl))
            simp only [Act.put, List.setIfInBounds_toArray, List.set_cons_zero, List.set_cons_succ]
            refine take_yes (i := 10) (v := ?vt3x10) rfl (by kernel_rfl) (by kernel_rfl) (by kernel_rfl) (fun _ _ _ h => h) (by rfl) (by assumption) ?hyt3x10 ?restt3x10
            case hyt3x10 => (intro w hSw; (try dsimp only at hSw); first | (go_simp; done) | (go_simp; with_reducible rfl))
            simp only [Act.put, List.setIfInBounds_toArray, List.set_cons_zero, List.set_cons_succ]
            refine take_yes (i := 11) (v := ?vt3x11) rfl (by kernel_rfl) (by kernel_rfl) (by kernel_rfl) (fun _ _ _ h => h) (by rfl) (by assumption) ?hyt3x11 ?restt3x11
            case hyt3x11 => (intro w hSw; (try dsimp only at hSw); first | (go_simp; done) | (go_simp; with_reducible rfl))
            simp only [Act.put, List.setIfInBounds_toArray, List.set_cons_zero, List.set_cons_succ]
            refine take_yes (i := 12) (v := ?vt3x12) rfl (by kernel_rfl) (by kernel_rfl) (by kernel_rfl) (fun _ _ _ h => h) (by rfl) (by assumption) ?hyt3x12 ?restt3x12
            case hyt3x12 => (intro w hSw; (try dsimp only at hSw); first | (go_simp; done) | (go_simp; with_reducible rfl))
            simp only [Act.put, List.setIfInBounds_toArray, List.set_cons_zero, List.set_cons_succ]
            refine take_yes (i := 13) (v := ?vt3x13) rfl (by kernel_rfl) (by kernel_rfl) (by kernel_rfl) (fun _ _ _ h => h) (by rfl) (by assumption) ?hyt3x13 ?restt3x13
            case hyt3x13 => (intro w hSw; (try dsimp only at hSw); first | (go_simp; done) | (go_simp; with_reducible rfl))
            simp only [Act.put, List.setIfInBounds_toArray, List.set_cons_zero, List.set_cons_succ]
            refine take_call (i := 8) rfl (by kernel_rfl) (fun Kc hK => ?_)
            go_simp
            (go_at_call 17; refine (HH.out.len w.heap.size p (M) (B') (T) F3 _ hA hLT hBT hTT ((M).length : Int) rfl).mono ?_; rintro e v4 ⟨rfl, b4⟩)
            refine hK.out _ _ ?_ (fun hHeld => ?_)
            · exact ⟨stay b4 hHeld.1, stay b4 hHeld.2.1, thenB hHeld.2.2 b4 hHeld.2.2.size⟩
            clear hK Kc
            replace hA := HH.out.keep hA (Keep.of (F := fun _ => False) b4) (fun _ _ x => x)
            replace hM := hM.keep (Keep.of (F := fun _ => False) b4) (fun _ _ x => x)
            refine take_yes (i := 14) (v := ?vt3x14) rfl (by kernel_rfl) (by kernel_rfl) (by kernel_rfl) (fun _ _ _ h => h) (by rfl) (by assumption) ?hyt3x14 ?restt3x14
            case hyt3x14 => (intro w hSw; (try dsimp only at hSw); first | (go_simp; done) | (go_simp; with_reducible rfl))
            simp only [Act.put, List.setIfInBounds_toArray, List.set_cons_zero, List.set_cons_succ]
            refine take_yes (i := 15) (v := ?vt3x15) rfl (by kernel_rfl) (by kernel_rfl) (by kernel_rfl) (fun _ _ _ h => h) (by rfl) (by assumption) ?hyt3x15 ?restt3x15
            case hyt3x15 => (intro w hSw; (try dsimp only at hSw); first | (go_simp; done) | (go_simp; with_reducible rfl))
            simp only [Act.put, List.setIfInBounds_toArray, List.set_cons_zero, List.set_cons_succ]
            refine take_yes (i := 16) (v := ?vt3x16) rfl (by kernel_rfl) (by kernel_rfl) (by kernel_rfl) (fun _ _ _ h => h) (by rfl) (by assumption) ?hyt3x16 ?restt3x16
            case hyt3x16 => (intro w hSw; (try dsimp only at hSw); first | (go_simp; done) | (go_simp; with_reducible rfl))
            simp only [Act.put, List.setIfInBounds_toArray, List.set_cons_zero, List.set_cons_succ]
            refine take_yes (i := 17) (v := ?vt3x17) rfl (by kernel_rfl) (by kernel_rfl) (by kernel_rfl) (fun _ _ _ h => h) (by rfl) (by assumption) ?hyt3x17 ?restt3x17
            case hyt3x17 => (intro w hSw; (try dsimp only at hSw); first | (go_simp; done) | (go_simp; with_reducible rfl))
            simp only [Act.put, List.setIfInBounds_toArray, List.set_cons_zero, List.set_cons_succ]
            refine take_yes (i := 19) (v := ?vt3x19) rfl (by kernel_rfl) (by kernel_rfl) (by kernel_rfl) (fun _ _ _ h => h) (by rfl) (by assumption) ?hyt3x19 ?restt3x19
            case hyt3x19 => (intro w hSw; (try dsimp only at hSw); first | (go_simp; done) | (go_simp; with_reducible rfl))
            simp only [Act.put, List.setIfInBounds_toArray, List.set_cons_zero, List.set_cons_succ]
            refine take_yes (i := 20) (v := ?vt3x20) rfl (by kernel_rfl) (by kernel_rfl) (by kernel_rfl) (fun _ _ _ h => h) (by rfl) (by assumption) ?hyt3x20 ?restt3x20
            case hyt3x20 => (intro w hSw; (try dsimp only at hSw); first | (go_simp; done) | (go_simp; with_reducible rfl))
            simp only [Act.put, List.setIfInBounds_toArray, List.set_cons_zero, List.set_cons_succ]
            refine take_yes (i := 21) (v := ?vt3x21) rfl (by kernel_rfl) (by kernel_rfl) (by kernel_rfl) (fun _ _ _ h => h) (by rfl) (by assumption) ?hyt3x21 ?restt3x21
            case hyt3x21 => (intro w hSw; (try dsimp only at hSw); first | (go_simp; done) | (go_simp; with_reducible rfl))
            simp only [Act.put, List.setIfInBounds_toArray, List.set_cons_zero, List.set_cons_succ]
            refine take_yes (i := 22) (v := ?vt3x22) rfl (by kernel_rfl) (by kernel_rfl) (by kernel_rfl) (fun _ _ _ h => h) (by rfl) (by assumption) ?hyt3x22 ?restt3x22
            case hyt3x22 => (intro w hSw; (try dsimp only at hSw); first | (go_simp; done) | (go_simp; with_reducible rfl))
            simp only [Act.put, List.setIfInBounds_toArray, List.set_cons_zero, List.set_cons_succ]
            refine take_call (i := 18) rfl (by kernel_rfl) (fun Kc hK => ?_)
            go_simp
            (go_at_call 18; refine (HH.out.top w.heap.size p (M) (B') (T) F3 _ hA hLT hBT hTT).mono ?_; rintro e v5 ⟨rfl, b5⟩)
            refine hK.out _ _ ?_ (fun hHeld => ?_)
            · exact ⟨stay b5 hHeld.1, stay b5 hHeld.2.1, thenB hHeld.2.2 b5 hHeld.2.2.size⟩
            clear hK Kc
            replace hA := HH.out.keep hA (Keep.of (F := fun _ => False) b5) (fun _ _ x => x)
            replace hM := hM.keep (Keep.of (F := fun _ => False) b5) (fun _ _ x => x)
            refine take_yes (i := 23) (v := ?vt3x23) rfl (by kernel_rfl) (by kernel_rfl) (by kernel_rfl) (fun _ _ _ h => h) (by rfl) (by assumption) ?hyt3x23 ?restt3x23
            case hyt3x23 => (intro w hSw; (try dsimp only at hSw); first | (go_simp; done) | (go_simp; with_reducible rfl))
            simp only [Act.put, List.setIfInBounds_toArray, List.set_cons_zero, List.set_cons_succ]
            refine take_yes (i := 24) (v := ?vt3x24) rfl (by kernel_rfl) (by kernel_rfl) (by kernel_rfl) (fun _ _ _ h => h) (by rfl) (by assumption) ?hyt3x24 ?restt3x24
            case hyt3x24 => (intro w hSw; (try dsimp only at hSw); first | (go_simp; done) | (go_simp; with_reducible rfl))
            simp only [Act.put, List.setIfInBounds_toArray, List.set_cons_zero, List.set_cons_succ]
            refine wpAnyH_done (by kernel_rfl) ?_ _
            go_wp2
            go_roundw
            case rel => exact ⟨k + 1, by omega, by omega, _, _, _, _, _, _, hA, hM, hd, hok, hT1, rfl, by simp, hHeld.2.2⟩
            case measure => simp [intOf]; omega
          · skip
            have HR1 : Hid (false = decide (x ∈ L)) := (decide_eq_false hm).symm
            have HME : Hid _ := hm
            clear hm
            have dd : Below wr.heap.size wr wr.drew := (Below.refl _ _).drew
            replace hA := HH.out.keep hA (Keep.of (F := fun _ => False) dd) (fun _ _ x => x)
            replace hM := hM.keep (Keep.of (F := fun _ => False) dd) (fun _ _ x => x)
            have belD : Below w.heap.size w wr.drew := bel.drew
            go_wp2
            refine wp_region_held_drew (S := (fun w' => w'.cell? ⟨ab, ao + k, none⟩ = some (.int .i64 x) ∧ Below w.heap.size w w')) (by kernel_rfl) ?_ (fun hHeld => ?_)
            · exact ⟨qx, belD⟩
            refine take_yes (i := 0) (v := ?vufx0) rfl (by kernel_rfl) (by kernel_rfl) (by kernel_rfl) (fun _ _ _ h => h) (by rfl) (by assumption) ?hyufx0 ?restufx0
            case hyufx0 => (intro w hSw; (try dsimp only at hSw); first | (go_simp; done) | (go_simp; with_reducible rfl))
            simp only [Act.put, List.setIfInBounds_toArray, List.set_cons_zero, List.set_cons_succ]
            refine take_yes (i := 1) (v := ?vufx1) rfl (by kernel_rfl) (by kernel_rfl) (by kernel_rfl) (fun _ _ _ h => h) (by rfl) (by assumption) ?hyufx1 ?restufx1
            case hyufx1 => (intro w hSw; (try dsimp only at hSw); first | (go_simp; done) | (go_simp; with_reducible rfl))
            simp only [Act.put, List.setIfInBounds_toArray, List.set_cons_zero, List.set_cons_succ]
            refine take_yes (i := 2) (v := ?vufx2) rfl (by kernel_rfl) (by kernel_rfl) (by kernel_rfl) (fun _ _ _ h => h) (by rfl) (by assumption) ?hyufx2 ?restufx2
            case hyufx2 => (intro w hSw; (try dsimp only at hSw); first | (go_simp; done) | (go_simp; with_reducible rfl))
            simp only [Act.put, List.setIfInBounds_toArray, List.set_cons_zero, List.set_cons_succ]
            refine take_yes (i := 3) (v := ?vufx3) rfl (by kernel_rfl) (by kernel_rfl) (by kernel_rfl) (fun _ _ _ h => h) (by rfl) (by assumption) ?hyufx3 ?restufx3
            case hyufx3 => (intro w hSw; (try dsimp only at hSw); first | (go_simp; done) | (go_simp; with_reducible rfl))
            simp only [Act.put, List.setIfInBounds_toArray, List.set_cons_zero, List.set_cons_succ]
            refine take_yes (i := 4) (v := ?vufx4) rfl (by kernel_rfl) (by kernel_rfl) (by kernel_rfl) (fun _ _ _ h => h) (by rfl) (by assumption) ?hyufx4 ?restufx4
            case hyufx4 => (intro w hSw; (try dsimp only at hSw); first | (go_simp; done) | (go_simp; with_reducible rfl))
            simp only [Act.put, List.setIfInBounds_toArray, List.set_cons_zero, List.set_cons_succ]
            refine take_yes (i := 6) (v := ?vufx6) rfl (by kernel_rfl) (by kernel_rfl) (by kernel_rfl) (fun _ _ _ h => h) (by rfl) (by assumption) ?hyufx6 ?restufx6
            case hyufx6 => (intro w hSw; (try dsimp only at hSw); first | (go_simp; done) | (go_simp; with_reducible rfl))
            simp only [Act.put, List.setIfInBounds_toArray, List.set_cons_zero, List.set_cons_succ]
            refine take_yes (i := 7) (v := ?vufx7) rfl (by kernel_rfl) (by kernel_rfl) (by kernel_rfl) (fun _ _ _ h => h) (by rfl) (by assumption) ?hyufx7 ?restufx7
            case hyufx7 => (intro w hSw; (try dsimp only at hSw); first | (go_simp; done) | (go_simp; with_reducible rfl))
            simp only [Act.put, List.setIfInBounds_toArray, List.set_cons_zero, List.set_cons_succ]
            refine take_yes (i := 8) (v := ?vufx8) rfl (by kernel_rfl) (by kernel_rfl) (by kernel_rfl) (fun _ _ _ h => h) (by rfl) (by assumption) ?hyufx8 ?restufx8
            case hyufx8 => (intro w hSw; (try dsimp only at hSw); first | (go_simp; done) | (go_simp; with_reducible rfl))
            simp only [Act.put, List.setIfInBounds_toArray, List.set_cons_zero, List.set_cons_succ]
            refine take_yes (i := 9) (v := ?vufx9) rfl (by kernel_rfl) (by kernel_rfl) (by kernel_rfl) (fun _ _ _ h => h) (by rfl) (by assumption) ?hyufx9 ?restufx9
            case hyufx9 => (intro w hSw; (try dsimp only at hSw); first | (go_simp; done) | (go_simp; with_reducible rfl))
            simp only [Act.put, List.setIfInBounds_toArray, List.set_cons_zero, List.set_cons_succ]
            refine take_yes (i := 10) (v := ?vufx10) rfl (by kernel_rfl) (by kernel_rfl) (by kernel_rfl) (fun _ _ _ h => h) (by rfl) (by assumption) ?hyufx10 ?restufx10
            case hyufx10 => (intro w hSw; (try dsimp only at hSw); first | (go_simp; done) | (go_simp; with_reducible rfl))
            simp only [Act.put, List.setIfInBounds_toArray, List.set_cons_zero, List.set_cons_succ]
            refine take_call (i := 5) rfl (by kernel_rfl) (fun Kc hK => ?_)
            go_simp
            (go_at_call 10; refine (HH.out.live w.heap.size p L B T F _ hA hLT hBT hTT x hxr false HR1.out).mono ?_; rintro e v1 ⟨rfl, b1⟩)
            refine hK.out _ _ ?_ (fun hHeld => ?_)
            · exact ⟨stay b1 hHeld.1, thenB hHeld.2 b1 hHeld.2.size⟩
            clear hK Kc
            replace hA := HH.out.keep hA (Keep.of (F := fun _ => False) b1) (fun _ _ x => x)
            replace hM := hM.keep (Keep.of (F := fun _ => False) b1) (fun _ _ x => x)
            refine take_call (i := 11) rfl (by kernel_rfl) (fun Kc hK => ?_)
            go_simp
            (go_at_call 11; refine (anLive w.heap.size q L B T G x _ hM hLT HR1.out).mono ?_; rintro e v2 ⟨rfl, b2⟩)
            refine hK.out _ _ ?_ (fun hHeld => ?_)
            · exact ⟨stay b2 hHeld.1, thenB hHeld.2 b2 hHeld.2.size⟩
            clear hK Kc
            replace hA := HH.out.keep hA (Keep.of (F := fun _ => False) b2) (fun _ _ x => x)
            replace hM := hM.keep (Keep.of (F := fun _ => False) b2) (fun _ _ x => x)
            refine take_yes (i := 12) (v := ?vufx12) rfl (by kernel_rfl) (by kernel_rfl) (by kernel_rfl) (fun _ _ _ h => h) (by rfl) (by assumption) ?hyufx12 ?restufx12
            case hyufx12 => (intro w hSw; (try dsimp only at hSw); first | (go_simp; done) | (go_simp; with_reducible rfl))
            simp only [Act.put, List.setIfInBounds_toArray, List.set_cons_zero, List.set_cons_succ]
            refine take_yes (i := 13) (v := ?vufx13) rfl (by kernel_rfl) (by kernel_rfl) (by kernel_rfl) (fun _ _ _ h => h) (by rfl) (by assumption) ?hyufx13 ?restufx13
            case hyufx13 => (intro w hSw; (try dsimp only at hSw); first | (go_simp; done) | (go_simp; with_reducible rfl))
            simp only [Act.put, List.setIfInBounds_toArray, List.set_cons_zero, List.set_cons_succ]
            refine take_yes (i := 14) (v := ?vufx14) rfl (by kernel_rfl) (by kernel_rfl) (by kernel_rfl) (fun _ _ _ h => h) (by rfl) (by assumption) ?hyufx14 ?restufx14
            case hyufx14 => (intro w hSw; (try dsimp only at hSw); first | (go_simp; done) | (go_simp; with_reducible rfl))
            simp only [Act.put, List.setIfInBounds_toArray, List.set_cons_zero, List.set_cons_succ]
            refine take_yes (i := 15) (v := ?vufx15) rfl (by kernel_rfl) (by kernel_rfl) (by kernel_rfl) (fun _ _ _ h => h) (by rfl) (by assumption) ?hyufx15 ?restufx15
            case hyufx15 => (intro w hSw; (try dsimp only at hSw); first | (go_simp; done) | (go_simp; with_reducible rfl))
            simp only [Act.put, List.setIfInBounds_toArray, List.set_cons_zero, List.set_cons_succ]
            refine take_yes (i := 16) (v := ?vufx16) rfl (by kernel_rfl) (by kernel_rfl) (by kernel_rfl) (fun _ _ _ h => h) (by rfl) (by assumption) ?hyufx16 ?restufx16
            case hyufx16 => (intro w hSw; (try dsimp only at hSw); first | (go_simp; done) | (go_simp; with_reducible rfl))
            simp only [Act.put, List.setIfInBounds_toArray, List.set_cons_zero, List.set_cons_succ]
            refine take_yes (i := 17) (v := ?vufx17) rfl (by kernel_rfl) (by kernel_rfl) (by kernel_rfl) (fun _ _ _ h => h) (by rfl) (by assumption) ?hyufx17 ?restufx17
            case hyufx17 => (intro w hSw; (try dsimp only at hSw); first | (go_simp; done) | (go_simp; with_reducible rfl))
            simp only [Act.put, List.setIfInBounds_toArray, List.set_cons_zero, List.set_cons_succ]
            refine take_yes (i := 18) (v := ?vufx18) rfl (by kernel_rfl) (by kernel_rfl) (by kernel_rfl) (fun _ _ _ h => h) (by rfl) (by assumption) ?hyufx18 ?restufx18
            case hyufx18 => (intro w hSw; (try dsimp only at hSw); first | (go_simp; done) | (go_simp; with_reducible rfl))
            simp only [Act.put, List.setIfInBounds_toArray, List.set_cons_zero, List.set_cons_succ]
            refine take_yes (i := 20) (v := ?vufx20) rfl (by kernel_rfl) (by kernel_rfl) (by kernel_rfl) (fun _ _ _ h => h) (by rfl) (by assumption) ?hyufx20 ?restufx20
            case hyufx20 => (intro w hSw; (try dsimp only at hSw); first | (go_simp; done) | (go_simp; with_reducible rfl))
            simp only [Act.put, List.setIfInBounds_toArray, List.set_cons_zero, List.set_cons_succ]
            refine take_yes (i := 21) (v := ?vufx21) rfl (by kernel_rfl) (by kernel_rfl) (by kernel_rfl) (fun _ _ _ h => h) (by rfl) (by assumption) ?hyufx21 ?restufx21
            case hyufx21 => (intro w hSw; (try dsimp only at hSw); first | (go_simp; done) | (go_simp; with_reducible rfl))
            simp only [Act.put, List.setIfInBounds_toArray, List.set_cons_zero, List.set_cons_succ]
            refine take_yes (i := 22) (v := ?vufx22) rfl (by kernel_rfl) (by kernel_rfl) (by kernel_rfl) (fun _ _ _ h => h) (by rfl) (by assumption) ?hyufx22 ?restufx22
            case hyufx22 => (intro w hSw; (try dsimp only at hSw); first | (go_simp; done) | (go_simp; with_reducible rfl))
            simp only [Act.put, List.setIfInBounds_toArray, List.set_cons_zero, List.set_cons_succ]
            refine take_yes (i := 23) (v := ?vufx23) rfl (by kernel_rfl) (by kernel_rfl) (by kernel_rfl) (fun _ _ _ h => h) (by rfl) (by assumption) ?hyufx23 ?restufx23
            case hyufx23 => (intro w hSw; (try dsimp only at hSw); first | (go_simp; done) | (go_simp; with_reducible rfl))
            simp only [Act.put, List.setIfInBounds_toArray, List.set_cons_zero, List.set_cons_succ]
            refine take_yes (i := 24) (v := ?vufx24) rfl (by kernel_rfl) (by kernel_rfl) (by kernel_rfl) (fun _ _ _ h => h) (by rfl) (by assumption) ?hyufx24 ?restufx24
            case hyufx24 => (intro w hSw; (try dsimp only at hSw); first | (go_simp; done) | (go_simp; with_reducible rfl))
            simp only [Act.put, List.setIfInBounds_toArray, List.set_cons_zero, List.set_cons_succ]
            refine take_call (i := 19) rfl (by kernel_rfl) (fun Kc hK => ?_)
            go_simp
            (go_at_call 12; refine (HH.out.free0 w.heap.size p L B T F _ hA hLT hBT hTT x hxr HME.out).mono ?_; rintro e v3 ⟨rfl, k3, F3, h3, s3⟩; have b3 := k3.below hHeld.2.size hFb)
            refine hK.out _ _ ?_ (fun hHeld => ?_)
            · exact ⟨stayB b3 hab hHeld.1, hHeld.2.trans b3⟩
            clear hK Kc
            have m3 := hM.keep k3 (fun x g f => hd x f g)
            have hd3 : ∀ x, F3 x → ¬ G x := fun x f g => (s3 x f).elim (fun y => hd x y g) (fun y => by have := (hM.ft x g).2; omega)
            refine take_call (i := 25) rfl (by kernel_rfl) (fun Kc hK => ?_)
            go_simp
            (go_at_call 13; refine (anFree0 w.heap.size q L B T G x _ m3 hLT HME.out).mono ?_; rintro e v4 ⟨rfl, k4, G4, m4, s4⟩; have b4 := k4.below hHeld.2.size hGb)
            refine hK.out _ _ ?_ (fun hHeld => ?_)
            · exact ⟨stayB b4 hab hHeld.1, hHeld.2.trans b4⟩
            clear hK Kc
            have h4 := HH.out.keep h3 k4 (fun x f g => hd3 x f g)
            have hd4 : ∀ x, F3 x → ¬ G4 x := fun x f g => (s4 x g).elim (fun y => hd3 x f y) (fun y => by have := (HH.out.ft h3 x f).2; omega)
            refine take_yes (i := 26) (v := ?vufx26) rfl (by kernel_rfl) (by kernel_rfl) (by kernel_rfl) (fun _ _ _ h => h) (by rfl) (by assumption) ?hyufx26 ?restufx26
            case hyufx26 => (intro w hSw; (try dsimp only at hSw); first | (go_simp; done) | (go_simp; with_reducible rfl))
            simp only [Act.put, List.setIfInBounds_toArray, List.set_cons_zero, List.set_cons_succ]
            refine take_yes (i := 27) (v := ?vufx27) rfl (by kernel_rfl) (by kernel_rfl) (by kernel_rfl) (fun _ _ _ h => h) (by rfl) (by assumption) ?hyufx27 ?restufx27
            case hyufx27 => (intro w hSw; (try dsimp only at hSw); first | (go_simp; done) | (go_simp; with_reducible rfl))
            simp only [Act.put, List.setIfInBounds_toArray, List.set_cons_zero, List.set_cons_succ]
            refine wpAnyH_done (by kernel_rfl) ?_ _
            have bel4 := hHeld.2
            clear hA hM hd hLT hBT hTT hFb hGb hbs bel dd belD b1 b2 k3 s3 h3 b3 k4 s4 b4 m3 hd3
            have hA := h4
            have hM := m4
            have hd := hd4
            have bel := bel4
            have hT1 : T ≤ k + 1 := by omega
            clear h4 m4 hd4 bel4
            clear HME HR1
            have hLT : (L).length ≤ 1000 := by have := hok.num; omega
            have hBT : (B).length ≤ 1000 := by have := hok.num; omega
            have hTT : T ≤ 1000 := by omega
            have hbs := bel.size
            obtain ⟨am, cm, bm, dm, hrow, _⟩ := hM.ex
            obtain ⟨MA, hMM⟩ : ∃ MA, MA = allN (L) (T) := ⟨_, rfl⟩
            have hML : MA.length ≤ 1000000 := by rw [hMM]; have := allN_len (L) (T); omega
            have HMM : Hid _ := hMM
            clear hMM
            obtain ⟨lv, hlv⟩ : ∃ lv : Int, lv = (L).length := ⟨_, rfl⟩
            have HLV : Hid _ := hlv
            have row0 := hrow.cell 0 _ rfl
            have row2 := hrow.cell 2 _ rfl
            clear hrow hlv
            have dd : Below v4.heap.size v4 v4.drew := (Below.refl _ _).drew
            replace hA := HH.out.keep hA (Keep.of (F := fun _ => False) dd) (fun _ _ x => x)
            replace hM := hM.keep (Keep.of (F := fun _ => False) dd) (fun _ _ x => x)
            have belD : Below w.heap.size w v4.drew := bel.drew
            go_wp2
            refine wp_region_held_drew (S := (fun w' => w'.cell? ⟨q, 0, none⟩ = some (.slice am (L).length cm) ∧ w'.cell? ⟨q, 2, none⟩ = some (.int .i64 ((T : Nat) : Int)) ∧ Below w.heap.size w w')) (by kernel_rfl) ?_ (fun hHeld => ?_)
            · exact ⟨row0, row2, belD⟩
            refine take_yes (i := 0) (v := ?vt4x0) rfl (by kernel_rfl) (by kernel_rfl) (by kernel_rfl) (fun _ _ _ h => h) (by rfl) (by assumption) ?hyt4x0 ?restt4x0
            case hyt4x0 => (intro w hSw; (try dsimp only at hSw); first | (go_simp; done) | (go_simp; with_reducible rfl))
            simp only [Act.put, List.setIfInBounds_toArray, List.set_cons_zero, List.set_cons_succ]
            refine take_yes (i := 2) (v := ?vt4x2) rfl (by kernel_rfl) (by kernel_rfl) (by kernel_rfl) (fun _ _ _ h => h) (by rfl) (by assumption) ?hyt4x2 ?restt4x2
            case hyt4x2 => (intro w hSw; (try dsimp only at hSw); first | (go_simp; done) | (go_simp; with_reducible rfl))
            simp only [Act.put, List.setIfInBounds_toArray, List.set_cons_zero, List.set_cons_succ]
            refine take_call (i := 1) rfl (by kernel_rfl) (fun Kc hK => ?_)
            go_simp
            (go_at_call 15; refine (HH.out.all w.heap.size p (L) (B) (T) F3 _ hA hLT hBT hTT MA HMM.out).mono ?_; rintro e v1 ⟨a1, c1, rfl, o1, b1⟩)
            refine hK.out _ _ ?_ (fun hHeld => ?_)
            · exact ⟨stay b1 hHeld.1, stay b1 hHeld.2.1, thenB hHeld.2.2 b1 hHeld.2.2.size⟩
            clear hK Kc
            replace hA := HH.out.keep hA (Keep.of (F := fun _ => False) b1) (fun _ _ x => x)
            replace hM := hM.keep (Keep.of (F := fun _ => False) b1) (fun _ _ x => x)
            refine take_call (i := 3) rfl (by kernel_rfl) (fun Kc hK => ?_)
            go_simp
            (go_at_call 16; refine (anAll w.heap.size q (L) (B) (T) G4 _ hM hLT hTT HMM.out).mono ?_; rintro e v2 ⟨a2, c2, rfl, o2, b2⟩)
            refine hK.out _ _ ?_ (fun hHeld => ?_)
            · exact ⟨stay b2 hHeld.1, stay b2 hHeld.2.1, thenB hHeld.2.2 b2 hHeld.2.2.size⟩
            clear hK Kc
            replace hA := HH.out.keep hA (Keep.of (F := fun _ => False) b2) (fun _ _ x => x)
            replace hM := hM.keep (Keep.of (F := fun _ => False) b2) (fun _ _ x => x)
            replace o1 := o1.below b2
            refine take_call (i := 4) rfl (by kernel_rfl) (fun Kc hK => ?_)
            go_simp
            (go_at_call 14; refine (anInts a1 a2 MA.length c1 c2 MA _ o1.sl o2.sl hML).mono ?_; rintro e v3 ⟨rfl, b3⟩)
            refine hK.out _ _ ?_ (fun hHeld => ?_)
            · exact ⟨stay b3 hHeld.1, stay b3 hHeld.2.1, thenB hHeld.2.2 b3 hHeld.2.2.size⟩
            clear hK Kc
            replace hA := HH.out.keep hA (Keep.of (F := fun _ => False) b3) (fun _ _ x => x)
            replace hM := hM.keep (Keep.of (F := fun _ => False) b3) (fun _ _ x => x)
            refine take_yes (i := 5) (v := ?vt4x5) rfl (by kernel_rfl) (by kernel_rfl) (by kernel_rfl) (fun _ _ _ h => h) (by rfl) (by assumption) ?hyt4x5 ?restt4x5
            case hyt4x5 => (intro w hSw; (try dsimp only at hSw); first | (go_simp; done) | (go_simp; with_reducible rfl))
            simp only [Act.put, List.setIfInBounds_toArray, List.set_cons_zero, List.set_cons_succ]
            refine take_yes (i := 6) (v := ?vt4x6) rfl (by kernel_rfl) (by kernel_rfl) (by kernel_rfl) (fun _ _ _ h => h) (by rfl) (by assumption) ?hyt4x6 ?restt4x6
            case hyt4x6 => (intro w hSw; (try dsimp only at hSw); first | (go_simp; done) | (go_simp; with_reducible rfl))
            simp only [Act.put, List.setIfInBounds_toArray, List.set_cons_zero, List.set_cons_succ]
            refine take_yes (i := 7) (v := ?vt4x7) rfl (by kernel_rfl) (by kernel_rfl) (by kernel_rfl) (fun _ _ _ h => h) (by rfl) (by assumption) ?hyt4x7 ?restt4x7
            case hyt4x7 => (intro w hSw; (try dsimp only at hSw); first | (go_simp; done) | (go_simp; with_reducible rfl))
            simp only [Act.put, List.setIfInBounds_toArray, List.set_cons_zero, List.set_cons_succ]
            refine take_yes (i := 9) (v := ?vt4x9) rfl (by kernel_rfl) (by kernel_rfl) (by kernel_rfl) (fun _ _ _ h => h) (by rfl) (by assumption) ?hyt4x9 ?restt4x9
            case hyt4x9 => (intro w hSw; (try dsimp only at hSw); first | (go_simp; done) | (go_simp; with_reducible rfl))
            simp only [Act.put, List.setIfInBounds_toArray, List.set_cons_zero, List.set_cons_succ]
            refine take_yes (i := 10) (v := ?vt4x10) rfl (by kernel_rfl) (by kernel_rfl) (by kernel_rfl) (fun _ _ _ h => h) (by rfl) (by assumption) ?hyt4x10 ?restt4x10
            case hyt4x10 => (intro w hSw; (try dsimp only at hSw); first | (go_simp; done) | (go_simp; with_reducible rfl))
            simp only [Act.put, List.setIfInBounds_toArray, List.set_cons_zero, List.set_cons_succ]
            refine take_yes (i := 11) (v := ?vt4x11) rfl (by kernel_rfl) (by kernel_rfl) (by kernel_rfl) (fun _ _ _ h => h) (by rfl) (by assumption) ?hyt4x11 ?restt4x11
            case hyt4x11 => (intro w hSw; (try dsimp only at hSw); first | (go_simp; done) | (go_simp; with_reducible rfl))
            simp only [Act.put, List.setIfInBounds_toArray, List.set_cons_zero, List.set_cons_succ]
            refine take_yes (i := 12) (v := ?vt4x12) rfl (by kernel_rfl) (by kernel_rfl) (by kernel_rfl) (fun _ _ _ h => h) (by rfl) (by assumption) ?hyt4x12 ?restt4x12
            case hyt4x12 => (intro w hSw; (try dsimp only at hSw); first | (go_simp; done) | (go_simp; with_reducible rfl))
            simp only [Act.put, List.setIfInBounds_toArray, List.set_cons_zero, List.set_cons_succ]
            refine take_yes (i := 13) (v := ?vt4x13) rfl (by kernel_rfl) (by kernel_rfl) (by kernel_rfl) (fun _ _ _ h => h) (by rfl) (by assumption) ?hyt4x13 ?restt4x13
            case hyt4x13 => (intro w hSw; (try dsimp only at hSw); first | (go_simp; done) | (go_simp; with_reducible rfl))
            simp only [Act.put, List.setIfInBounds_toArray, List.set_cons_zero, List.set_cons_succ]
            refine take_call (i := 8) rfl (by kernel_rfl) (fun Kc hK => ?_)
            go_simp
            (go_at_call 17; refine (HH.out.len w.heap.size p (L) (B) (T) F3 _ hA hLT hBT hTT ((L).length : Int) rfl).mono ?_; rintro e v4 ⟨rfl, b4⟩)
            refine hK.out _ _ ?_ (fun hHeld => ?_)
            · exact ⟨stay b4 hHeld.1, stay b4 hHeld.2.1, thenB hHeld.2.2 b4 hHeld.2.2.size⟩
            clear hK Kc
            replace hA := HH.out.keep hA (Keep.of (F := fun _ => False) b4) (fun _ _ x => x)
            replace hM := hM.keep (Keep.of (F := fun _ => False) b4) (fun _ _ x => x)
            refine take_yes (i := 14) (v := ?vt4x14) rfl (by kernel_rfl) (by kernel_rfl) (by kernel_rfl) (fun _ _ _ h => h) (by rfl) (by assumption) ?hyt4x14 ?restt4x14
            case hyt4x14 => (intro w hSw; (try dsimp only at hSw); first | (go_simp; done) | (go_simp; with_reducible rfl))
            simp only [Act.put, List.setIfInBounds_toArray, List.set_cons_zero, List.set_cons_succ]
            refine take_yes (i := 15) (v := ?vt4x15) rfl (by kernel_rfl) (by kernel_rfl) (by kernel_rfl) (fun _ _ _ h => h) (by rfl) (by assumption) ?hyt4x15 ?restt4x15
            case hyt4x15 => (intro w hSw; (try dsimp only at hSw); first | (go_simp; done) | (go_simp; with_reducible rfl))
            simp only [Act.put, List.setIfInBounds_toArray, List.set_cons_zero, List.set_cons_succ]
            refine take_yes (i := 16) (v := ?vt4x16) rfl (by kernel_rfl) (by kernel_rfl) (by kernel_rfl) (fun _ _ _ h => h) (by rfl) (by assumption) ?hyt4x16 ?restt4x16
            case hyt4x16 => (intro w hSw; (try dsimp only at hSw); first | (go_simp; done) | (go_simp; with_reducible rfl))
            simp only [Act.put, List.setIfInBounds_toArray, List.set_cons_zero, List.set_cons_succ]
            refine take_yes (i := 17) (v := ?vt4x17) rfl (by kernel_rfl) (by kernel_rfl) (by kernel_rfl) (fun _ _ _ h => h) (by rfl) (by assumption) ?hyt4x17 ?restt4x17
            case hyt4x17 => (intro w hSw; (try dsimp only at hSw); first | (go_simp; done) | (go_simp; with_reducible rfl))
            simp only [Act.put, List.setIfInBounds_toArray, List.set_cons_zero, List.set_cons_succ]
            refine take_yes (i := 19) (v := ?vt4x19) rfl (by kernel_rfl) (by kernel_rfl) (by kernel_rfl) (fun _ _ _ h => h) (by rfl) (by assumption) ?hyt4x19 ?restt4x19
            case hyt4x19 => (intro w hSw; (try dsimp only at hSw); first | (go_simp; done) | (go_simp; with_reducible rfl))
            simp only [Act.put, List.setIfInBounds_toArray, List.set_cons_zero, List.set_cons_succ]
            refine take_yes (i := 20) (v := ?vt4x20) rfl (by kernel_rfl) (by kernel_rfl) (by kernel_rfl) (fun _ _ _ h => h) (by rfl) (by assumption) ?hyt4x20 ?restt4x20
            case hyt4x20 => (intro w hSw; (try dsimp only at hSw); first | (go_simp; done) | (go_simp; with_reducible rfl))
            simp only [Act.put, List.setIfInBounds_toArray, List.set_cons_zero, List.set_cons_succ]
            refine take_yes (i := 21) (v := ?vt4x21) rfl (by kernel_rfl) (by kernel_rfl) (by kernel_rfl) (fun _ _ _ h => h) (by rfl) (by assumption) ?hyt4x21 ?restt4x21
            case hyt4x21 => (intro w hSw; (try dsimp only at hSw); first | (go_simp; done) | (go_simp; with_reducible rfl))
            simp only [Act.put, List.setIfInBounds_toArray, List.set_cons_zero, List.set_cons_succ]
            refine take_yes (i := 22) (v := ?vt4x22) rfl (by kernel_rfl) (by kernel_rfl) (by kernel_rfl) (fun _ _ _ h => h) (by rfl) (by assumption) ?hyt4x22 ?restt4x22
            case hyt4x22 => (intro w hSw; (try dsimp only at hSw); first | (go_simp; done) | (go_simp; with_reducible rfl))
            simp only [Act.put, List.setIfInBounds_toArray, List.set_cons_zero, List.set_cons_succ]
            refine take_call (i := 18) rfl (by kernel_rfl) (fun Kc hK => ?_)
            go_simp
            (go_at_call 18; refine (HH.out.top w.heap.size p (L) (B) (T) F3 _ hA hLT hBT hTT).mono ?_; rintro e v5 ⟨rfl, b5⟩)
            refine hK.out _ _ ?_ (fun hHeld => ?_)
            · exact ⟨stay b5 hHeld.1, stay b5 hHeld.2.1, thenB hHeld.2.2 b5 hHeld.2.2.size⟩
            clear hK Kc
            replace hA := HH.out.keep hA (Keep.of (F := fun _ => False) b5) (fun _ _ x => x)
            replace hM := hM.keep (Keep.of (F := fun _ => False) b5) (fun _ _ x => x)
            refine take_yes (i := 23) (v := ?vt4x23) rfl (by kernel_rfl) (by kernel_rfl) (by kernel_rfl) (fun _ _ _ h => h) (by rfl) (by assumption) ?hyt4x23 ?restt4x23
            case hyt4x23 => (intro w hSw; (try dsimp only at hSw); first | (go_simp; done) | (go_simp; with_reducible rfl))
            simp only [Act.put, List.setIfInBounds_toArray, List.set_cons_zero, List.set_cons_succ]
            refine take_yes (i := 24) (v := ?vt4x24) rfl (by kernel_rfl) (by kernel_rfl) (by kernel_rfl) (fun _ _ _ h => h) (by rfl) (by assumption) ?hyt4x24 ?restt4x24
            case hyt4x24 => (intro w hSw; (try dsimp only at hSw); first | (go_simp; done) | (go_simp; with_reducible rfl))
            simp only [Act.put, List.setIfInBounds_toArray, List.set_cons_zero, List.set_cons_succ]
            refine wpAnyH_done (by kernel_rfl) ?_ _
            go_wp2
            go_roundw
            case rel => exact ⟨k + 1, by omega, by omega, _, _, _, _, _, _, hA, hM, hd, hok, hT1, rfl, by simp, hHeld.2.2⟩
            case measure => simp [intOf]; omega
    · by_cases h1 : k < l0
      · have h2 : ¬ k < 80 := fun h => hlt ⟨h1, h⟩
        clear hlt hk8
        go_wp2_with (go_at_call 19; fail)
        refine (lives10_of HH.out wr).mono ?_
        rintro e w5 ⟨rfl, b5⟩
        go_wp2
        go_ret
        exact ⟨rfl, bel.trans (b5.mono bel.size)⟩
      · clear hlt
        go_wp2_with (go_at_call 19; fail)
        refine (lives10_of HH.out wr).mono ?_
        rintro e w5 ⟨rfl, b5⟩
        go_wp2
        go_ret
        exact ⟨rfl, bel.trans (b5.mono bel.size)⟩
end Go.Proofs.Ytodecbkngnhpjaa
