/-
  Joined texts, part 6:
  The laws' own cut of a fraction, of layer 5.
  A fraction that comes as an argument, opened.
  What package rat's alike, bothDens, Norm, Neg, Add, Sub and Mul answer.
-/
import Derived.Test.YtaekgomplkkocaaDoorP5
import Derived.Test.YtaekgomplkkocaaDoorP4
namespace Go.Proofs.YtaekgomplkkocaaDoor
open Go.RowKit
set_option linter.unusedVariables false

theorem wp_append_at {P : Program} {w : World} {o : Oper} {a : Act} {K : Act → World → Prop} {Q : Exit → Act → World → Prop} (s x : Operand) (t : TypeId)
    (ho : o.op = .call { callee := .builtin .append, args := #[s, x], argTypes := #[t, t] })
    (base : Nat) (e : TypeId) (i : TypeInfo) (z : Value) (bytes : Nat) (ht : P.underlying t = some (.slice e)) (hi : P.info? e = some i) (hz : i.zero = some z)
    (hsize : i.size = 1) (hby : i.bytes = bytes) (hzs : z.cells.size = 1)
    (a0 : Option Addr) (n0 c0 : Nat) (xs : List Value) (hs : a.eval s = .slice a0 n0 c0) (hown : Own w base e a0 n0 c0 xs)
    (ao : Option Addr) (m c : Nat) (news : List Value) (hx : a.eval x = .slice ao m c) (hsl : Sl w ao m c news) (h1 : ∀ u ∈ news, u.oneCell' = true)
    (h63 : n0 + m ≤ maxLen) (hbytes : (n0 + m) * bytes ≤ 140737488355328) (hbase : base ≤ w.heap.size)
    (h : ∀ a' cap' w', Own w' base e a' (n0 + m) cap' (xs ++ news) → w.grownBy w' (Value.slice a0 n0 c0).ownBlock → ((Value.slice a' (n0 + m) cap').ownBlock = (Value.slice a0 n0 c0).ownBlock ∨ (Value.slice a' (n0 + m) cap').ownBlock = some w.heap.size) → K (a.put o.dst (.slice a' (n0 + m) cap')) w') : o.wp P a w K Q := by
  cases ao with
  | none =>
    obtain ⟨rfl, rfl⟩ := hsl.nil rfl
    obtain rfl : news = [] := List.eq_nil_of_length_eq_zero hsl.len
    have hrun := run_append_owned_none (P := P) (w := w) base t o.type e i 1 ht hi _ n0 xs hown
    unfold Oper.wp
    simp [execOp, ho, resolve, invoke, builtin, hs, hx, hrun, Result.andThen]
    exact h a0 c0 w (by simpa using hown) (World.grownBy.refl _ _) (Or.inl (by cases a0 <;> rfl))
  | some ad =>
    obtain ⟨v', w', hr, h2, h3, _, h5⟩ := run_append_own_at (P := P) w base t o.type e i z 1 bytes ht hi hz hsize hby hzs (by decide) _ n0 xs hown ad m c news (by rw [hsl.len]; omega) (by
      intro j u hu
      have hj := (List.getElem?_eq_some_iff.1 hu).1
      obtain ⟨b, off, e1, hb, hseg⟩ := hsl.at (by have := hsl.len; omega)
      cases e1
      rw [Addr.add_lit]
      exact hseg.cell j u hu) h1 h63 hbytes hbase
    obtain ⟨a', cap', rfl, h4⟩ := Own.form h2
    unfold Oper.wp execOp
    simp only [ho, resolve, invoke, builtin, Sem.run_bind, Sem.run_pure, Result.andThen_ok, List.map_toArray, List.map_cons, List.map_nil, hs, hx, hr]
    exact h a' cap' w' h4 h3 h5
theorem step_append_at {P : Program} {w : World} {ops : Array Oper} {o : Oper} {a : Act} {K : Act → World → Prop} {Q : Exit → Act → World → Prop} {E : Prop} (hgd : o.guard = none) (s x : Operand) (t : TypeId)
    (ho : o.op = .call { callee := .builtin .append, args := #[s, x], argTypes := #[t, t] })
    (base : Nat) (e : TypeId) (i : TypeInfo) (z : Value) (bytes : Nat) (ht : P.underlying t = some (.slice e)) (hi : P.info? e = some i) (hz : i.zero = some z)
    (hsize : i.size = 1) (hby : i.bytes = bytes) (hzs : z.cells.size = 1)
    (a0 : Option Addr) (n0 c0 : Nat) (xs : List Value) (hs : a.eval s = .slice a0 n0 c0) (hown : Own w base e a0 n0 c0 xs)
    (ao : Option Addr) (m c : Nat) (news : List Value) (hx : a.eval x = .slice ao m c) (hsl : Sl w ao m c news) (h1 : ∀ u ∈ news, u.oneCell' = true)
    (h63 : n0 + m ≤ maxLen) (hbytes : (n0 + m) * bytes ≤ 140737488355328) (hbase : base ≤ w.heap.size)
    (h : ∀ a' cap' w', Own w' base e a' (n0 + m) cap' (xs ++ news) → w.grownBy w' (Value.slice a0 n0 c0).ownBlock → ((Value.slice a' (n0 + m) cap').ownBlock = (Value.slice a0 n0 c0).ownBlock ∨ (Value.slice a' (n0 + m) cap').ownBlock = some w.heap.size) → K (a.put o.dst (.slice a' (n0 + m) cap')) w') :
    if Region.wanted o (yielded ops a.tmps) = true then Oper.wp P o a w K Q else E := by
  have hw : Region.wanted o (yielded ops a.tmps) = true := by simp [Region.wanted, hgd]
  rw [if_pos hw]
  exact wp_append_at s x t ho base e i z bytes ht hi hz hsize hby hzs a0 n0 c0 xs hs hown ao m c news hx hsl h1 h63 hbytes hbase h
/-- Some fraction of six words at most each way, with the same sign. -/
def Cut5 (w : World) (n : Bool) (e : Ending) (w' : World) : Prop := ∃ (a : Option Addr) (m c x : Nat) (d : Option Addr) (k g y : Nat), e = .returned (.agg #[.bool n, .slice a m c, .slice d k g]) ∧ QI w' 6 n a m c d k g (sgz n x) y ∧ Far w.heap.size a m ∧ Far w.heap.size d k ∧ Below w.heap.size w w'
theorem NI.put3 {w : World} {a : Option Addr} {l c u b : Nat} (h : NI w a l c u) (hn : NA b a l) (x y z : Value) : NI (((w.setCell ⟨b, 0, none⟩ x).setCell ⟨b, 1, none⟩ y).setCell ⟨b, 2, none⟩ z) a l c u := ((h.put hn 0 x).put hn 1 y).put hn 2 z
theorem endCut5 {w w2 : World} {n : Bool} {a d : Option Addr} {m c x k g y z base : Nat} {T : TypeId} (hm : m ≤ 6) (hk : k ≤ 6) (hx : x < 4294967296 ^ m) (hy : y < 4294967296 ^ k) (o1 : Own w2 base T a m c (wd.dcells m (x : Int))) (o2 : Own w2 base T d k g (wd.dcells k (y : Int))) (hz : w.heap.size ≤ z) (hzb : z < base) (B : Below w.heap.size w w2) (u v t : Value) :
    Cut5 w n (.returned (.agg #[.bool n, .slice a m c, .slice d k g])) (((w2.setCell ⟨z, 0, none⟩ u).setCell ⟨z, 1, none⟩ v).setCell ⟨z, 2, none⟩ t) :=
  have f1 := Own.far o1
  have f2 := Own.far o2
  have h1 : NI w2 a m c x := ⟨Own.sl o1, hx, by omega⟩
  have h2 : NI w2 d k g y := ⟨Own.sl o2, hy, by omega⟩
  ⟨a, m, c, x, d, k, g, y, rfl, ⟨wi_of (h1.put3 (f1 z hzb) u v t), h2.put3 (f2 z hzb) u v t, by rw [sgz_abs]; exact Nat.lt_of_lt_of_le hx (Nat.pow_le_pow_right (by decide) hm), Nat.lt_of_lt_of_le hy (Nat.pow_le_pow_right (by decide) hk), by decide, by decide⟩, f1.mono (by omega), f2.mono (by omega), below_put3 B hz u v t⟩
theorem Own.kept {w w' : World} {base n cap g : Nat} {T : TypeId} {a : Option Addr} {xs : List Value} (h : Own w base T a n cap xs) (hg : w.grownBy w' (some g)) (hne : (Value.slice a n cap).ownBlock ≠ some g) : Own w' base T a n cap xs := World.ownsRow.kept h hg (Or.inr hne)
theorem Own.lt {w : World} {base n cap k : Nat} {T : TypeId} {a : Option Addr} {xs : List Value} (h : Own w base T a n cap xs) (hk : (Value.slice a n cap).ownBlock = some k) : base ≤ k ∧ k < w.heap.size := World.ownsRow.lt h k hk
set_option maxRecDepth 100000 in
set_option maxHeartbeats 4000000 in
theorem short5_any (n : Bool) (a : Option Addr) (la ca u : Nat) (d : Option Addr) (ld cd v : Nat) (w : World) (ha : Sl w a la ca (wd.dcells la (u : Int))) (hu : u < 4294967296 ^ la) (hd : Sl w d ld cd (wd.dcells ld (v : Int))) (hv : v < 4294967296 ^ ld) :
    Calls Tryd.prog 5 #[.agg #[.bool n, .slice a la ca, .slice d ld cd]] w (Cut5 w n) := by
  obtain ⟨i0, hi0, hz0, hz1, hz2⟩ := info_parts infoWord
  have k1 := ha.big
  have k2 := ha.room
  have k3 := hd.big
  have k4 := hd.room
  unfold maxLen at k1 k3
  by_cases hl : 6 < la
  · by_cases hm : 6 < ld
    · skip
      obtain ⟨b1, o1, rfl, hb1, hseg1⟩ := ha.at (by omega)
      have sl1 := sl_cut ha (k := 6) (by omega)
      have HU : Hid (u % 4294967296 ^ 6 < 4294967296 ^ 6) := Nat.mod_lt _ (by decide)
      obtain ⟨u', hu'⟩ : ∃ u', u' = u % 4294967296 ^ 6 := ⟨_, rfl⟩
      rw [← hu'] at sl1 HU
      have hl' : (6 : Int) < la := by omega
      have hlc : (6 : Int) ≤ ca := by omega
      clear hu hu'
      obtain ⟨b2, o2, rfl, hb2, hseg2⟩ := hd.at (by omega)
      have sl2 := sl_cut hd (k := 6) (by omega)
      have HV : Hid (v % 4294967296 ^ 6 < 4294967296 ^ 6) := Nat.mod_lt _ (by decide)
      obtain ⟨v', hv'⟩ : ∃ v', v' = v % 4294967296 ^ 6 := ⟨_, rfl⟩
      rw [← hv'] at sl2 HV
      have hm' : (6 : Int) < ld := by omega
      have hmc : (6 : Int) ≤ cd := by omega
      clear hv hv'
      obtain ⟨W, hW, bW, x_a, x_z, sW⟩ := bs_33 w (.bool n) (.slice (some ⟨b1, o1, none⟩) la ca) (.slice (some ⟨b2, o2, none⟩) ld cd) (.bool false) (.slice none 0 0) (.slice none 0 0) 27 27
      have HL : Hid _ := hl
      have HM : Hid _ := hm
      clear ha hd k1 k2 k3 k4 hseg1 hb1 hseg2 hb2
      go_enter Tryd.func5, Tryd.ntmps5
      go_wp2
      rw [← hW]
      clear hW
      have B1 : Below w.heap.size w W.drew := bW.drew
      have x1 := x_a.drew
      refine wp_region_held_drew (S := (fun w' => w'.cell? ⟨w.heap.size, 0, none⟩ = some (.bool n) ∧ w'.cell? ⟨w.heap.size, 1, none⟩ = some (.slice (some ⟨b1, o1, none⟩) la ca) ∧ w'.cell? ⟨w.heap.size, 2, none⟩ = some (.slice (some ⟨b2, o2, none⟩) ld cd) ∧ Below w.heap.size w w')) (by kernel_rfl) ⟨x1.c0, x1.c1, x1.c2, B1⟩ (fun hHeld => ?_)
      refine take_yes (i := 0) (v := ?va1r0) rfl (by kernel_rfl) (by kernel_rfl) (by kernel_rfl) (fun _ _ _ h => h) (by rfl) (by assumption) ?hya1r0 ?resta1r0
      case hya1r0 => (intro w hSw; (try dsimp only at hSw); first | (go_simp; done) | (go_simp; with_reducible rfl))
      simp only [Act.put, List.setIfInBounds_toArray, List.set_cons_zero, List.set_cons_succ]
      refine take_yes (i := 1) (v := ?va1r1) rfl (by kernel_rfl) (by kernel_rfl) (by kernel_rfl) (fun _ _ _ h => h) (by rfl) (by assumption) ?hya1r1 ?resta1r1
      case hya1r1 => (intro w hSw; (try dsimp only at hSw); first | (go_simp; done) | (go_simp; with_reducible rfl))
      simp only [Act.put, List.setIfInBounds_toArray, List.set_cons_zero, List.set_cons_succ]
      refine take_yes (i := 2) (v := ?va1r2) rfl (by kernel_rfl) (by kernel_rfl) (by kernel_rfl) (fun _ _ _ h => h) (by rfl) (by assumption) ?hya1r2 ?resta1r2
      case hya1r2 => (intro w hSw; (try dsimp only at hSw); first | (go_simp; done) | (go_simp; with_reducible rfl))
      simp only [Act.put, List.setIfInBounds_toArray, List.set_cons_zero, List.set_cons_succ]
      refine take_yes (i := 3) (v := ?va1r3) rfl (by kernel_rfl) (by kernel_rfl) (by kernel_rfl) (fun _ _ _ h => h) (by rfl) (by assumption) ?hya1r3 ?resta1r3
      case hya1r3 => (intro w hSw; (try dsimp only at hSw); first | (go_simp; done) | (go_simp; with_reducible rfl))
      simp only [Act.put, List.setIfInBounds_toArray, List.set_cons_zero, List.set_cons_succ]
      refine take_yes (i := 4) (v := ?va1r4) rfl (by kernel_rfl) (by kernel_rfl) (by kernel_rfl) (fun _ _ _ h => h) (by rfl) (by assumption) ?hya1r4 ?resta1r4
      case hya1r4 => (intro w hSw; (try dsimp only at hSw); first | (go_simp; done) | (go_simp; with_reducible rfl))
      simp only [Act.put, List.setIfInBounds_toArray, List.set_cons_zero, List.set_cons_succ]
      refine take_yes (i := 5) (v := ?va1r5) rfl (by kernel_rfl) (by kernel_rfl) (by kernel_rfl) (fun _ _ _ h => h) (by rfl) (by assumption) ?hya1r5 ?resta1r5
      case hya1r5 => (intro w hSw; (try dsimp only at hSw); first | (go_simp; done) | (go_simp; with_reducible rfl))
      simp only [Act.put, List.setIfInBounds_toArray, List.set_cons_zero, List.set_cons_succ]
      refine take_yes (i := 6) (v := ?va1r6) rfl (by kernel_rfl) (by kernel_rfl) (by kernel_rfl) (fun _ _ _ h => h) (by rfl) (by assumption) ?hya1r6 ?resta1r6
      case hya1r6 => (intro w hSw; (try dsimp only at hSw); first | (go_simp; done) | (go_simp; with_reducible rfl))
      simp only [Act.put, List.setIfInBounds_toArray, List.set_cons_zero, List.set_cons_succ]
      refine wpAnyH_done (by kernel_rfl) ?_ _
      go_wp2
      have dV : Below W.heap.size W W.drew.drew := (Below.refl _ _).drew.drew
      have x2 := (x_a.drew).drew
      replace x_z := (x_z.drew).drew
      replace sl1 := (sl1.below bW).below dV
      replace sl2 := (sl2.below bW).below dV
      have BB : Below w.heap.size w W.drew.drew := also bW dV
      have sV : w.heap.size + 1 < W.drew.drew.heap.size := sW
      refine wp_region_held_drew (S := (fun w' => w'.cell? ⟨w.heap.size, 0, none⟩ = some (.bool n) ∧ w'.cell? ⟨w.heap.size, 1, none⟩ = some (.slice (some ⟨b1, o1, none⟩) la ca) ∧ w'.cell? ⟨w.heap.size, 2, none⟩ = some (.slice (some ⟨b2, o2, none⟩) ld cd) ∧ Below w.heap.size w w')) (by kernel_rfl) ⟨x2.c0, x2.c1, x2.c2, BB⟩ (fun hHeld => ?_)
      refine take_yes (i := 0) (v := ?va1s0) rfl (by kernel_rfl) (by kernel_rfl) (by kernel_rfl) (fun _ _ _ h => h) (by rfl) (by assumption) ?hya1s0 ?resta1s0
      case hya1s0 => (intro w hSw; (try dsimp only at hSw); first | (go_simp; done) | (go_simp; with_reducible rfl))
      simp only [Act.put, List.setIfInBounds_toArray, List.set_cons_zero, List.set_cons_succ]
      refine take_yes (i := 1) (v := ?va1s1) rfl (by kernel_rfl) (by kernel_rfl) (by kernel_rfl) (fun _ _ _ h => h) (by rfl) (by assumption) ?hya1s1 ?resta1s1
      case hya1s1 => (intro w hSw; (try dsimp only at hSw); first | (go_simp; done) | (go_simp; with_reducible rfl))
      simp only [Act.put, List.setIfInBounds_toArray, List.set_cons_zero, List.set_cons_succ]
      refine take_yes (i := 2) (v := ?va1s2) rfl (by kernel_rfl) (by kernel_rfl) (by kernel_rfl) (fun _ _ _ h => h) (by rfl) (by assumption) ?hya1s2 ?resta1s2
      case hya1s2 => (intro w hSw; (try dsimp only at hSw); first | (go_simp; done) | (go_simp; with_reducible rfl))
      simp only [Act.put, List.setIfInBounds_toArray, List.set_cons_zero, List.set_cons_succ]
      refine take_yes (i := 4) (v := ?va1s4) rfl (by kernel_rfl) (by kernel_rfl) (by kernel_rfl) (fun _ _ _ h => h) (by rfl) (by assumption) ?hya1s4 ?resta1s4
      case hya1s4 => (intro w hSw; (try dsimp only at hSw); first | (go_simp; done) | (go_simp; with_reducible rfl))
      simp only [Act.put, List.setIfInBounds_toArray, List.set_cons_zero, List.set_cons_succ]
      refine take_yes (i := 8) (v := ?va1s8) rfl (by kernel_rfl) (by kernel_rfl) (by kernel_rfl) (fun _ _ _ h => h) (by rfl) (by assumption) ?hya1s8 ?resta1s8
      case hya1s8 => (intro w hSw; (try dsimp only at hSw); first | (go_simp; done) | (go_simp; with_reducible rfl))
      simp only [Act.put, List.setIfInBounds_toArray, List.set_cons_zero, List.set_cons_succ]
      generalize W.drew.drew = V at x_z sl1 sl2 BB sV hHeld ⊢
      clear x1 x2 B1 dV x_a
      have BV := Below.refl V.heap.size V
      have zV : V.heap.size ≤ V.heap.size := Nat.le_refl _
      refine wpAnyH_ready (rs := [3, 7]) (by kernel_rfl) (by simp) (AllReadyH.cons (i := 3) rfl (fun Kc hK => ?_) (AllReadyH.cons (i := 7) rfl (fun Kc hK => ?_) AllReadyH.nil))
      · skip
        go_simp
        have bV1 : Below V.heap.size V (V.alloc (.cells #[] 57)) := (Below.refl _ _).alloc (Nat.le_refl _) _
        refine hK.out _ _ ⟨cell_on bV1 hHeld.1, cell_on bV1 hHeld.2.1, cell_on bV1 hHeld.2.2.1, also hHeld.2.2.2 bV1⟩ (fun hHeld => ?_)
        clear hK Kc
        have O1 : Own (V.alloc (.cells #[] 57)) V.heap.size 57 (some ⟨V.heap.size, 0, none⟩) 0 0 [] := eown V V.heap.size 57 (by omega)
        have sV1 : V.heap.size < (V.alloc (.cells #[] 57)).heap.size := by simp
        generalize V.alloc (.cells #[] 57) = V1 at bV1 O1 sV1 hHeld ⊢
        replace BV := BV.trans (bV1.mono (by omega))
        refine wpAnyH_ready (rs := [5, 7]) (by kernel_rfl) (by simp) (AllReadyH.cons (i := 5) rfl (fun Kc hK => ?_) (AllReadyH.cons (i := 7) rfl (fun Kc hK => ?_) AllReadyH.nil))
        · skip
          refine step_append_at rfl (.tmp 23) (.tmp 24) 23 rfl V.heap.size 57 i0 (.int .u32 0) 4 Tryd.underlying23 hi0 hz0 hz1 hz2 rfl _ 0 0 [] rfl O1 (some ⟨b1, o1, none⟩) 6 ca (wd.dcells 6 (u' : Int)) rfl (sl1.below BV) (dcells_one _ _) (by unfold maxLen; have := HL.out; omega) (by have := HL.out; omega) (by omega) ?_
          intro a5 cap5 w5 own5 grow5 blk5
          have grow5' : V1.grownBy w5 (some V.heap.size) := grow5
          refine hK.out _ _ ⟨cell_far hHeld.1 grow5' (by omega), cell_far hHeld.2.1 grow5' (by omega), cell_far hHeld.2.2.1 grow5' (by omega), hHeld.2.2.2.grown grow5' hHeld.2.2.2.size (fun k e => by cases e; omega)⟩ (fun hHeld => ?_)
          clear hK Kc
          rw [Nat.zero_add, List.nil_append] at own5
          rw [Nat.zero_add] at blk5
          simp only [Nat.zero_add]
          have zz2 : V1.heap.size ≤ w5.heap.size := grow5.size
          replace BV := BV.grown grow5' BV.size (fun k e => by cases e; omega)
          refine take_yes (i := 6) (v := ?va1m26) rfl (by kernel_rfl) (by kernel_rfl) (by kernel_rfl) (fun _ _ _ h => h) (by rfl) (by assumption) ?hya1m26 ?resta1m26
          case hya1m26 => (intro w hSw; (try dsimp only at hSw); first | (go_simp; done) | (go_simp; with_reducible rfl))
          refine take_call (i := 7) rfl (by kernel_rfl) (fun Kc hK => ?_)
          go_simp
          have bV3 : Below w5.heap.size w5 (w5.alloc (.cells #[] 57)) := (Below.refl _ _).alloc (Nat.le_refl _) _
          refine hK.out _ _ ⟨cell_on bV3 hHeld.1, cell_on bV3 hHeld.2.1, cell_on bV3 hHeld.2.2.1, also hHeld.2.2.2 bV3⟩ (fun hHeld => ?_)
          clear hK Kc
          have O2 : Own (w5.alloc (.cells #[] 57)) V.heap.size 57 (some ⟨w5.heap.size, 0, none⟩) 0 0 [] := eown w5 V.heap.size 57 (by omega)
          have sV3 : w5.heap.size < (w5.alloc (.cells #[] 57)).heap.size := by simp
          generalize w5.alloc (.cells #[] 57) = V3 at bV3 O2 sV3 hHeld ⊢
          replace BV := BV.trans (bV3.mono (by omega))
          have lt5 : ∀ k, (Value.slice a5 6 cap5).ownBlock = some k → k < w5.heap.size := fun k e => (Own.lt own5 e).2
          replace own5 := own5.below bV3
          have ne5 : (Value.slice a5 6 cap5).ownBlock ≠ some w5.heap.size := fun e => by have := lt5 _ e; omega
          refine take_call (i := 9) rfl (by kernel_rfl) (fun Kc hK => ?_)
          refine step_append_at rfl (.tmp 27) (.tmp 28) 23 rfl V.heap.size 57 i0 (.int .u32 0) 4 Tryd.underlying23 hi0 hz0 hz1 hz2 rfl _ 0 0 [] rfl O2 (some ⟨b2, o2, none⟩) 6 cd (wd.dcells 6 (v' : Int)) rfl (sl2.below BV) (dcells_one _ _) (by unfold maxLen; have := HM.out; omega) (by have := HM.out; omega) (by omega) ?_
          intro a9 cap9 w9 own9 grow9 blk9
          have grow9' : V3.grownBy w9 (some w5.heap.size) := grow9
          refine hK.out _ _ ⟨cell_far hHeld.1 grow9' (by omega), cell_far hHeld.2.1 grow9' (by omega), cell_far hHeld.2.2.1 grow9' (by omega), hHeld.2.2.2.grown grow9' hHeld.2.2.2.size (fun k e => by cases e; omega)⟩ (fun hHeld => ?_)
          clear hK Kc
          rw [Nat.zero_add, List.nil_append] at own9
          rw [Nat.zero_add] at blk9
          simp only [Nat.zero_add]
          replace own5 := Own.kept own5 grow9' ne5
          have zz4 : V3.heap.size ≤ w9.heap.size := grow9.size
          replace BV := BV.grown grow9' BV.size (fun k e => by cases e; omega)
          refine take_yes (i := 10) (v := ?va1n410) rfl (by kernel_rfl) (by kernel_rfl) (by kernel_rfl) (fun _ _ _ h => h) (by rfl) (by assumption) ?hya1n410 ?resta1n410
          case hya1n410 => (intro w hSw; (try dsimp only at hSw); first | (go_simp; done) | (go_simp; with_reducible rfl))
          simp only [Act.put, List.setIfInBounds_toArray, List.set_cons_zero, List.set_cons_succ]
          have ⟨y0, y1, y2, y3, y4, y5⟩ := x_z.on BV
          refine take_call (i := 11) rfl (by kernel_rfl) (fun Kc hK => ?_)
          go_simp
          refine hK.out _ _ ⟨cell_put3 hHeld.1 (by omega) _ _ _, cell_put3 hHeld.2.1 (by omega) _ _ _, cell_put3 hHeld.2.2.1 (by omega) _ _ _, below_put3 hHeld.2.2.2 (by omega) _ _ _⟩ (fun hHeld => ?_)
          clear hK Kc
          refine wpAnyH_done (by kernel_rfl) ?_ _
          go_wp2
          exact bodyPost_ret (v := .agg #[.bool n, .slice a5 6 cap5, .slice a9 6 cap9]) (by simp [results, Tryd.results5, go_sem, *]) rfl (endCut5 (x := u') (y := v') (by have := HL.out; omega) (by have := HM.out; omega) HU.out HV.out own5 own9 (by omega) sV (also BB BV) _ _ _)
        · skip
          go_simp
          have bV5 : Below V1.heap.size V1 (V1.alloc (.cells #[] 57)) := (Below.refl _ _).alloc (Nat.le_refl _) _
          refine hK.out _ _ ⟨cell_on bV5 hHeld.1, cell_on bV5 hHeld.2.1, cell_on bV5 hHeld.2.2.1, also hHeld.2.2.2 bV5⟩ (fun hHeld => ?_)
          clear hK Kc
          have O2 : Own (V1.alloc (.cells #[] 57)) V.heap.size 57 (some ⟨V1.heap.size, 0, none⟩) 0 0 [] := eown V1 V.heap.size 57 (by omega)
          have sV5 : V1.heap.size < (V1.alloc (.cells #[] 57)).heap.size := by simp
          generalize V1.alloc (.cells #[] 57) = V5 at bV5 O2 sV5 hHeld ⊢
          replace BV := BV.trans (bV5.mono (by omega))
          replace O1 := O1.below bV5
          refine take_call (i := 5) rfl (by kernel_rfl) (fun Kc hK => ?_)
          refine step_append_at rfl (.tmp 23) (.tmp 24) 23 rfl V.heap.size 57 i0 (.int .u32 0) 4 Tryd.underlying23 hi0 hz0 hz1 hz2 rfl _ 0 0 [] rfl O1 (some ⟨b1, o1, none⟩) 6 ca (wd.dcells 6 (u' : Int)) rfl (sl1.below BV) (dcells_one _ _) (by unfold maxLen; have := HL.out; omega) (by have := HL.out; omega) (by omega) ?_
          intro a5 cap5 w5 own5 grow5 blk5
          have grow5' : V5.grownBy w5 (some V.heap.size) := grow5
          refine hK.out _ _ ⟨cell_far hHeld.1 grow5' (by omega), cell_far hHeld.2.1 grow5' (by omega), cell_far hHeld.2.2.1 grow5' (by omega), hHeld.2.2.2.grown grow5' hHeld.2.2.2.size (fun k e => by cases e; omega)⟩ (fun hHeld => ?_)
          clear hK Kc
          rw [Nat.zero_add, List.nil_append] at own5
          rw [Nat.zero_add] at blk5
          simp only [Nat.zero_add]
          have ne2 : (Value.slice (some ⟨V1.heap.size, 0, none⟩) 0 0).ownBlock ≠ some V.heap.size := fun e => by have e : some V1.heap.size = some V.heap.size := e; simp only [Option.some.injEq] at e; omega
          replace O2 := Own.kept O2 grow5' ne2
          have ne5 : (Value.slice a5 6 cap5).ownBlock ≠ some V1.heap.size := fun e => by
            rcases blk5 with q | q <;> rw [e] at q
            · have q : some V1.heap.size = some V.heap.size := q; simp only [Option.some.injEq] at q; omega
            · simp only [Option.some.injEq] at q; omega
          have zz6 : V5.heap.size ≤ w5.heap.size := grow5.size
          replace BV := BV.grown grow5' BV.size (fun k e => by cases e; omega)
          refine take_yes (i := 6) (v := ?va1m66) rfl (by kernel_rfl) (by kernel_rfl) (by kernel_rfl) (fun _ _ _ h => h) (by rfl) (by assumption) ?hya1m66 ?resta1m66
          case hya1m66 => (intro w hSw; (try dsimp only at hSw); first | (go_simp; done) | (go_simp; with_reducible rfl))
          simp only [Act.put, List.setIfInBounds_toArray, List.set_cons_zero, List.set_cons_succ]
          refine take_call (i := 9) rfl (by kernel_rfl) (fun Kc hK => ?_)
          refine step_append_at rfl (.tmp 27) (.tmp 28) 23 rfl V.heap.size 57 i0 (.int .u32 0) 4 Tryd.underlying23 hi0 hz0 hz1 hz2 rfl _ 0 0 [] rfl O2 (some ⟨b2, o2, none⟩) 6 cd (wd.dcells 6 (v' : Int)) rfl (sl2.below BV) (dcells_one _ _) (by unfold maxLen; have := HM.out; omega) (by have := HM.out; omega) (by omega) ?_
          intro a9 cap9 w9 own9 grow9 blk9
          have grow9' : w5.grownBy w9 (some V1.heap.size) := grow9
          refine hK.out _ _ ⟨cell_far hHeld.1 grow9' (by omega), cell_far hHeld.2.1 grow9' (by omega), cell_far hHeld.2.2.1 grow9' (by omega), hHeld.2.2.2.grown grow9' hHeld.2.2.2.size (fun k e => by cases e; omega)⟩ (fun hHeld => ?_)
          clear hK Kc
          rw [Nat.zero_add, List.nil_append] at own9
          rw [Nat.zero_add] at blk9
          simp only [Nat.zero_add]
          replace own5 := Own.kept own5 grow9' ne5
          have zz7 : w5.heap.size ≤ w9.heap.size := grow9.size
          replace BV := BV.grown grow9' BV.size (fun k e => by cases e; omega)
          refine take_yes (i := 10) (v := ?va1n710) rfl (by kernel_rfl) (by kernel_rfl) (by kernel_rfl) (fun _ _ _ h => h) (by rfl) (by assumption) ?hya1n710 ?resta1n710
          case hya1n710 => (intro w hSw; (try dsimp only at hSw); first | (go_simp; done) | (go_simp; with_reducible rfl))
          simp only [Act.put, List.setIfInBounds_toArray, List.set_cons_zero, List.set_cons_succ]
          have ⟨y0, y1, y2, y3, y4, y5⟩ := x_z.on BV
          refine take_call (i := 11) rfl (by kernel_rfl) (fun Kc hK => ?_)
          go_simp
          refine hK.out _ _ ⟨cell_put3 hHeld.1 (by omega) _ _ _, cell_put3 hHeld.2.1 (by omega) _ _ _, cell_put3 hHeld.2.2.1 (by omega) _ _ _, below_put3 hHeld.2.2.2 (by omega) _ _ _⟩ (fun hHeld => ?_)
          clear hK Kc
          refine wpAnyH_done (by kernel_rfl) ?_ _
          go_wp2
          exact bodyPost_ret (v := .agg #[.bool n, .slice a5 6 cap5, .slice a9 6 cap9]) (by simp [results, Tryd.results5, go_sem, *]) rfl (endCut5 (x := u') (y := v') (by have := HL.out; omega) (by have := HM.out; omega) HU.out HV.out own5 own9 (by omega) sV (also BB BV) _ _ _)
      · skip
        go_simp
        have bV8 : Below V.heap.size V (V.alloc (.cells #[] 57)) := (Below.refl _ _).alloc (Nat.le_refl _) _
        refine hK.out _ _ ⟨cell_on bV8 hHeld.1, cell_on bV8 hHeld.2.1, cell_on bV8 hHeld.2.2.1, also hHeld.2.2.2 bV8⟩ (fun hHeld => ?_)
        clear hK Kc
        have O2 : Own (V.alloc (.cells #[] 57)) V.heap.size 57 (some ⟨V.heap.size, 0, none⟩) 0 0 [] := eown V V.heap.size 57 (by omega)
        have sV8 : V.heap.size < (V.alloc (.cells #[] 57)).heap.size := by simp
        generalize V.alloc (.cells #[] 57) = V8 at bV8 O2 sV8 hHeld ⊢
        replace BV := BV.trans (bV8.mono (by omega))
        refine take_call (i := 3) rfl (by kernel_rfl) (fun Kc hK => ?_)
        go_simp
        have bV9 : Below V8.heap.size V8 (V8.alloc (.cells #[] 57)) := (Below.refl _ _).alloc (Nat.le_refl _) _
        refine hK.out _ _ ⟨cell_on bV9 hHeld.1, cell_on bV9 hHeld.2.1, cell_on bV9 hHeld.2.2.1, also hHeld.2.2.2 bV9⟩ (fun hHeld => ?_)
        clear hK Kc
        have O1 : Own (V8.alloc (.cells #[] 57)) V.heap.size 57 (some ⟨V8.heap.size, 0, none⟩) 0 0 [] := eown V8 V.heap.size 57 (by omega)
        have sV9 : V8.heap.size < (V8.alloc (.cells #[] 57)).heap.size := by simp
        generalize V8.alloc (.cells #[] 57) = V9 at bV9 O1 sV9 hHeld ⊢
        replace BV := BV.trans (bV9.mono (by omega))
        replace O2 := O2.below bV9
        refine take_call (i := 5) rfl (by kernel_rfl) (fun Kc hK => ?_)
        refine step_append_at rfl (.tmp 23) (.tmp 24) 23 rfl V.heap.size 57 i0 (.int .u32 0) 4 Tryd.underlying23 hi0 hz0 hz1 hz2 rfl _ 0 0 [] rfl O1 (some ⟨b1, o1, none⟩) 6 ca (wd.dcells 6 (u' : Int)) rfl (sl1.below BV) (dcells_one _ _) (by unfold maxLen; have := HL.out; omega) (by have := HL.out; omega) (by omega) ?_
        intro a5 cap5 w5 own5 grow5 blk5
        have grow5' : V9.grownBy w5 (some V8.heap.size) := grow5
        refine hK.out _ _ ⟨cell_far hHeld.1 grow5' (by omega), cell_far hHeld.2.1 grow5' (by omega), cell_far hHeld.2.2.1 grow5' (by omega), hHeld.2.2.2.grown grow5' hHeld.2.2.2.size (fun k e => by cases e; omega)⟩ (fun hHeld => ?_)
        clear hK Kc
        rw [Nat.zero_add, List.nil_append] at own5
        rw [Nat.zero_add] at blk5
        simp only [Nat.zero_add]
        have ne2 : (Value.slice (some ⟨V.heap.size, 0, none⟩) 0 0).ownBlock ≠ some V8.heap.size := fun e => by have e : some V.heap.size = some V8.heap.size := e; simp only [Option.some.injEq] at e; omega
        replace O2 := Own.kept O2 grow5' ne2
        have ne5 : (Value.slice a5 6 cap5).ownBlock ≠ some V.heap.size := fun e => by
          rcases blk5 with q | q <;> rw [e] at q
          · have q : some V.heap.size = some V8.heap.size := q; simp only [Option.some.injEq] at q; omega
          · simp only [Option.some.injEq] at q; omega
        have zz10 : V9.heap.size ≤ w5.heap.size := grow5.size
        replace BV := BV.grown grow5' BV.size (fun k e => by cases e; omega)
        refine take_yes (i := 6) (v := ?va1m106) rfl (by kernel_rfl) (by kernel_rfl) (by kernel_rfl) (fun _ _ _ h => h) (by rfl) (by assumption) ?hya1m106 ?resta1m106
        case hya1m106 => (intro w hSw; (try dsimp only at hSw); first | (go_simp; done) | (go_simp; with_reducible rfl))
        simp only [Act.put, List.setIfInBounds_toArray, List.set_cons_zero, List.set_cons_succ]
        refine take_call (i := 9) rfl (by kernel_rfl) (fun Kc hK => ?_)
        refine step_append_at rfl (.tmp 27) (.tmp 28) 23 rfl V.heap.size 57 i0 (.int .u32 0) 4 Tryd.underlying23 hi0 hz0 hz1 hz2 rfl _ 0 0 [] rfl O2 (some ⟨b2, o2, none⟩) 6 cd (wd.dcells 6 (v' : Int)) rfl (sl2.below BV) (dcells_one _ _) (by unfold maxLen; have := HM.out; omega) (by have := HM.out; omega) (by omega) ?_
        intro a9 cap9 w9 own9 grow9 blk9
        have grow9' : w5.grownBy w9 (some V.heap.size) := grow9
        refine hK.out _ _ ⟨cell_far hHeld.1 grow9' (by omega), cell_far hHeld.2.1 grow9' (by omega), cell_far hHeld.2.2.1 grow9' (by omega), hHeld.2.2.2.grown grow9' hHeld.2.2.2.size (fun k e => by cases e; omega)⟩ (fun hHeld => ?_)
        clear hK Kc
        rw [Nat.zero_add, List.nil_append] at own9
        rw [Nat.zero_add] at blk9
        simp only [Nat.zero_add]
        replace own5 := Own.kept own5 grow9' ne5
        have zz11 : w5.heap.size ≤ w9.heap.size := grow9.size
        replace BV := BV.grown grow9' BV.size (fun k e => by cases e; omega)
        refine take_yes (i := 10) (v := ?va1n1110) rfl (by kernel_rfl) (by kernel_rfl) (by kernel_rfl) (fun _ _ _ h => h) (by rfl) (by assumption) ?hya1n1110 ?resta1n1110
        case hya1n1110 => (intro w hSw; (try dsimp only at hSw); first | (go_simp; done) | (go_simp; with_reducible rfl))
        simp only [Act.put, List.setIfInBounds_toArray, List.set_cons_zero, List.set_cons_succ]
        have ⟨y0, y1, y2, y3, y4, y5⟩ := x_z.on BV
        refine take_call (i := 11) rfl (by kernel_rfl) (fun Kc hK => ?_)
        go_simp
        refine hK.out _ _ ⟨cell_put3 hHeld.1 (by omega) _ _ _, cell_put3 hHeld.2.1 (by omega) _ _ _, cell_put3 hHeld.2.2.1 (by omega) _ _ _, below_put3 hHeld.2.2.2 (by omega) _ _ _⟩ (fun hHeld => ?_)
        clear hK Kc
        refine wpAnyH_done (by kernel_rfl) ?_ _
        go_wp2
        exact bodyPost_ret (v := .agg #[.bool n, .slice a5 6 cap5, .slice a9 6 cap9]) (by simp [results, Tryd.results5, go_sem, *]) rfl (endCut5 (x := u') (y := v') (by have := HL.out; omega) (by have := HM.out; omega) HU.out HV.out own5 own9 (by omega) sV (also BB BV) _ _ _)
    · skip
      obtain ⟨b1, o1, rfl, hb1, hseg1⟩ := ha.at (by omega)
      have sl1 := sl_cut ha (k := 6) (by omega)
      have HU : Hid (u % 4294967296 ^ 6 < 4294967296 ^ 6) := Nat.mod_lt _ (by decide)
      obtain ⟨u', hu'⟩ : ∃ u', u' = u % 4294967296 ^ 6 := ⟨_, rfl⟩
      rw [← hu'] at sl1 HU
      have hl' : (6 : Int) < la := by omega
      have hlc : (6 : Int) ≤ ca := by omega
      clear hu hu'
      have hm' : ¬ (6 : Int) < ld := by omega
      have sl2 := hd
      have HV : Hid _ := hv
      clear hv
      obtain ⟨W, hW, bW, x_a, x_z, sW⟩ := bs_33 w (.bool n) (.slice (some ⟨b1, o1, none⟩) la ca) (.slice d ld cd) (.bool false) (.slice none 0 0) (.slice none 0 0) 27 27
      have HL : Hid _ := hl
      have HM : Hid _ := hm
      clear ha hd k1 k2 k3 k4 hseg1 hb1
      go_enter Tryd.func5, Tryd.ntmps5
      go_wp2
      rw [← hW]
      clear hW
      have B1 : Below w.heap.size w W.drew := bW.drew
      have x1 := x_a.drew
      refine wp_region_held_drew (S := (fun w' => w'.cell? ⟨w.heap.size, 0, none⟩ = some (.bool n) ∧ w'.cell? ⟨w.heap.size, 1, none⟩ = some (.slice (some ⟨b1, o1, none⟩) la ca) ∧ w'.cell? ⟨w.heap.size, 2, none⟩ = some (.slice d ld cd) ∧ Below w.heap.size w w')) (by kernel_rfl) ⟨x1.c0, x1.c1, x1.c2, B1⟩ (fun hHeld => ?_)
      refine take_yes (i := 0) (v := ?va2r0) rfl (by kernel_rfl) (by kernel_rfl) (by kernel_rfl) (fun _ _ _ h => h) (by rfl) (by assumption) ?hya2r0 ?resta2r0
      case hya2r0 => (intro w hSw; (try dsimp only at hSw); first | (go_simp; done) | (go_simp; with_reducible rfl))
      simp only [Act.put, List.setIfInBounds_toArray, List.set_cons_zero, List.set_cons_succ]
      refine take_yes (i := 1) (v := ?va2r1) rfl (by kernel_rfl) (by kernel_rfl) (by kernel_rfl) (fun _ _ _ h => h) (by rfl) (by assumption) ?hya2r1 ?resta2r1
      case hya2r1 => (intro w hSw; (try dsimp only at hSw); first | (go_simp; done) | (go_simp; with_reducible rfl))
      simp only [Act.put, List.setIfInBounds_toArray, List.set_cons_zero, List.set_cons_succ]
      refine take_yes (i := 2) (v := ?va2r2) rfl (by kernel_rfl) (by kernel_rfl) (by kernel_rfl) (fun _ _ _ h => h) (by rfl) (by assumption) ?hya2r2 ?resta2r2
      case hya2r2 => (intro w hSw; (try dsimp only at hSw); first | (go_simp; done) | (go_simp; with_reducible rfl))
      simp only [Act.put, List.setIfInBounds_toArray, List.set_cons_zero, List.set_cons_succ]
      refine take_yes (i := 3) (v := ?va2r3) rfl (by kernel_rfl) (by kernel_rfl) (by kernel_rfl) (fun _ _ _ h => h) (by rfl) (by assumption) ?hya2r3 ?resta2r3
      case hya2r3 => (intro w hSw; (try dsimp only at hSw); first | (go_simp; done) | (go_simp; with_reducible rfl))
      simp only [Act.put, List.setIfInBounds_toArray, List.set_cons_zero, List.set_cons_succ]
      refine take_yes (i := 4) (v := ?va2r4) rfl (by kernel_rfl) (by kernel_rfl) (by kernel_rfl) (fun _ _ _ h => h) (by rfl) (by assumption) ?hya2r4 ?resta2r4
      case hya2r4 => (intro w hSw; (try dsimp only at hSw); first | (go_simp; done) | (go_simp; with_reducible rfl))
      simp only [Act.put, List.setIfInBounds_toArray, List.set_cons_zero, List.set_cons_succ]
      refine take_yes (i := 5) (v := ?va2r5) rfl (by kernel_rfl) (by kernel_rfl) (by kernel_rfl) (fun _ _ _ h => h) (by rfl) (by assumption) ?hya2r5 ?resta2r5
      case hya2r5 => (intro w hSw; (try dsimp only at hSw); first | (go_simp; done) | (go_simp; with_reducible rfl))
      simp only [Act.put, List.setIfInBounds_toArray, List.set_cons_zero, List.set_cons_succ]
      refine take_yes (i := 6) (v := ?va2r6) rfl (by kernel_rfl) (by kernel_rfl) (by kernel_rfl) (fun _ _ _ h => h) (by rfl) (by assumption) ?hya2r6 ?resta2r6
      case hya2r6 => (intro w hSw; (try dsimp only at hSw); first | (go_simp; done) | (go_simp; with_reducible rfl))
      simp only [Act.put, List.setIfInBounds_toArray, List.set_cons_zero, List.set_cons_succ]
      refine wpAnyH_done (by kernel_rfl) ?_ _
      go_wp2
      have dV : Below W.heap.size W W.drew.drew := (Below.refl _ _).drew.drew
      have x2 := (x_a.drew).drew
      replace x_z := (x_z.drew).drew
      replace sl1 := (sl1.below bW).below dV
      replace sl2 := (sl2.below bW).below dV
      have BB : Below w.heap.size w W.drew.drew := also bW dV
      have sV : w.heap.size + 1 < W.drew.drew.heap.size := sW
      refine wp_region_held_drew (S := (fun w' => w'.cell? ⟨w.heap.size, 0, none⟩ = some (.bool n) ∧ w'.cell? ⟨w.heap.size, 1, none⟩ = some (.slice (some ⟨b1, o1, none⟩) la ca) ∧ w'.cell? ⟨w.heap.size, 2, none⟩ = some (.slice d ld cd) ∧ Below w.heap.size w w')) (by kernel_rfl) ⟨x2.c0, x2.c1, x2.c2, BB⟩ (fun hHeld => ?_)
      refine take_yes (i := 0) (v := ?va2s0) rfl (by kernel_rfl) (by kernel_rfl) (by kernel_rfl) (fun _ _ _ h => h) (by rfl) (by assumption) ?hya2s0 ?resta2s0
      case hya2s0 => (intro w hSw; (try dsimp only at hSw); first | (go_simp; done) | (go_simp; with_reducible rfl))
      simp only [Act.put, List.setIfInBounds_toArray, List.set_cons_zero, List.set_cons_succ]
      refine take_yes (i := 1) (v := ?va2s1) rfl (by kernel_rfl) (by kernel_rfl) (by kernel_rfl) (fun _ _ _ h => h) (by rfl) (by assumption) ?hya2s1 ?resta2s1
      case hya2s1 => (intro w hSw; (try dsimp only at hSw); first | (go_simp; done) | (go_simp; with_reducible rfl))
      simp only [Act.put, List.setIfInBounds_toArray, List.set_cons_zero, List.set_cons_succ]
      refine take_yes (i := 2) (v := ?va2s2) rfl (by kernel_rfl) (by kernel_rfl) (by kernel_rfl) (fun _ _ _ h => h) (by rfl) (by assumption) ?hya2s2 ?resta2s2
      case hya2s2 => (intro w hSw; (try dsimp only at hSw); first | (go_simp; done) | (go_simp; with_reducible rfl))
      simp only [Act.put, List.setIfInBounds_toArray, List.set_cons_zero, List.set_cons_succ]
      refine take_yes (i := 4) (v := ?va2s4) rfl (by kernel_rfl) (by kernel_rfl) (by kernel_rfl) (fun _ _ _ h => h) (by rfl) (by assumption) ?hya2s4 ?resta2s4
      case hya2s4 => (intro w hSw; (try dsimp only at hSw); first | (go_simp; done) | (go_simp; with_reducible rfl))
      simp only [Act.put, List.setIfInBounds_toArray, List.set_cons_zero, List.set_cons_succ]
      refine take_yes (i := 8) (v := ?va2s8) rfl (by kernel_rfl) (by kernel_rfl) (by kernel_rfl) (fun _ _ _ h => h) (by rfl) (by assumption) ?hya2s8 ?resta2s8
      case hya2s8 => (intro w hSw; (try dsimp only at hSw); first | (go_simp; done) | (go_simp; with_reducible rfl))
      simp only [Act.put, List.setIfInBounds_toArray, List.set_cons_zero, List.set_cons_succ]
      generalize W.drew.drew = V at x_z sl1 sl2 BB sV hHeld ⊢
      clear x1 x2 B1 dV x_a
      have BV := Below.refl V.heap.size V
      have zV : V.heap.size ≤ V.heap.size := Nat.le_refl _
      refine wpAnyH_ready (rs := [3, 7]) (by kernel_rfl) (by simp) (AllReadyH.cons (i := 3) rfl (fun Kc hK => ?_) (AllReadyH.cons (i := 7) rfl (fun Kc hK => ?_) AllReadyH.nil))
      · skip
        go_simp
        have bV1 : Below V.heap.size V (V.alloc (.cells #[] 57)) := (Below.refl _ _).alloc (Nat.le_refl _) _
        refine hK.out _ _ ⟨cell_on bV1 hHeld.1, cell_on bV1 hHeld.2.1, cell_on bV1 hHeld.2.2.1, also hHeld.2.2.2 bV1⟩ (fun hHeld => ?_)
        clear hK Kc
        have O1 : Own (V.alloc (.cells #[] 57)) V.heap.size 57 (some ⟨V.heap.size, 0, none⟩) 0 0 [] := eown V V.heap.size 57 (by omega)
        have sV1 : V.heap.size < (V.alloc (.cells #[] 57)).heap.size := by simp
        generalize V.alloc (.cells #[] 57) = V1 at bV1 O1 sV1 hHeld ⊢
        replace BV := BV.trans (bV1.mono (by omega))
        refine wpAnyH_ready (rs := [5, 7]) (by kernel_rfl) (by simp) (AllReadyH.cons (i := 5) rfl (fun Kc hK => ?_) (AllReadyH.cons (i := 7) rfl (fun Kc hK => ?_) AllReadyH.nil))
        · skip
          refine step_append_at rfl (.tmp 23) (.tmp 24) 23 rfl V.heap.size 57 i0 (.int .u32 0) 4 Tryd.underlying23 hi0 hz0 hz1 hz2 rfl _ 0 0 [] rfl O1 (some ⟨b1, o1, none⟩) 6 ca (wd.dcells 6 (u' : Int)) rfl (sl1.below BV) (dcells_one _ _) (by unfold maxLen; have := HL.out; omega) (by have := HL.out; omega) (by omega) ?_
          intro a5 cap5 w5 own5 grow5 blk5
          have grow5' : V1.grownBy w5 (some V.heap.size) := grow5
          refine hK.out _ _ ⟨cell_far hHeld.1 grow5' (by omega), cell_far hHeld.2.1 grow5' (by omega), cell_far hHeld.2.2.1 grow5' (by omega), hHeld.2.2.2.grown grow5' hHeld.2.2.2.size (fun k e => by cases e; omega)⟩ (fun hHeld => ?_)
          clear hK Kc
          rw [Nat.zero_add, List.nil_append] at own5
          rw [Nat.zero_add] at blk5
          simp only [Nat.zero_add]
          have zz2 : V1.heap.size ≤ w5.heap.size := grow5.size
          replace BV := BV.grown grow5' BV.size (fun k e => by cases e; omega)
          refine take_yes (i := 6) (v := ?va2m26) rfl (by kernel_rfl) (by kernel_rfl) (by kernel_rfl) (fun _ _ _ h => h) (by rfl) (by assumption) ?hya2m26 ?resta2m26
          case hya2m26 => (intro w hSw; (try dsimp only at hSw); first | (go_simp; done) | (go_simp; with_reducible rfl))
          refine take_call (i := 7) rfl (by kernel_rfl) (fun Kc hK => ?_)
          go_simp
          have bV3 : Below w5.heap.size w5 (w5.alloc (.cells #[] 57)) := (Below.refl _ _).alloc (Nat.le_refl _) _
          refine hK.out _ _ ⟨cell_on bV3 hHeld.1, cell_on bV3 hHeld.2.1, cell_on bV3 hHeld.2.2.1, also hHeld.2.2.2 bV3⟩ (fun hHeld => ?_)
          clear hK Kc
          have O2 : Own (w5.alloc (.cells #[] 57)) V.heap.size 57 (some ⟨w5.heap.size, 0, none⟩) 0 0 [] := eown w5 V.heap.size 57 (by omega)
          have sV3 : w5.heap.size < (w5.alloc (.cells #[] 57)).heap.size := by simp
          generalize w5.alloc (.cells #[] 57) = V3 at bV3 O2 sV3 hHeld ⊢
          replace BV := BV.trans (bV3.mono (by omega))
          have lt5 : ∀ k, (Value.slice a5 6 cap5).ownBlock = some k → k < w5.heap.size := fun k e => (Own.lt own5 e).2
          replace own5 := own5.below bV3
          have ne5 : (Value.slice a5 6 cap5).ownBlock ≠ some w5.heap.size := fun e => by have := lt5 _ e; omega
          refine take_call (i := 9) rfl (by kernel_rfl) (fun Kc hK => ?_)
          refine step_append_at rfl (.tmp 27) (.tmp 28) 23 rfl V.heap.size 57 i0 (.int .u32 0) 4 Tryd.underlying23 hi0 hz0 hz1 hz2 rfl _ 0 0 [] rfl O2 d ld cd (wd.dcells ld (v : Int)) rfl (sl2.below BV) (dcells_one _ _) (by unfold maxLen; have := HM.out; omega) (by have := HM.out; omega) (by omega) ?_
          intro a9 cap9 w9 own9 grow9 blk9
          have grow9' : V3.grownBy w9 (some w5.heap.size) := grow9
          refine hK.out _ _ ⟨cell_far hHeld.1 grow9' (by omega), cell_far hHeld.2.1 grow9' (by omega), cell_far hHeld.2.2.1 grow9' (by omega), hHeld.2.2.2.grown grow9' hHeld.2.2.2.size (fun k e => by cases e; omega)⟩ (fun hHeld => ?_)
          clear hK Kc
          rw [Nat.zero_add, List.nil_append] at own9
          rw [Nat.zero_add] at blk9
          simp only [Nat.zero_add]
          replace own5 := Own.kept own5 grow9' ne5
          have zz4 : V3.heap.size ≤ w9.heap.size := grow9.size
          replace BV := BV.grown grow9' BV.size (fun k e => by cases e; omega)
          refine take_yes (i := 10) (v := ?va2n410) rfl (by kernel_rfl) (by kernel_rfl) (by kernel_rfl) (fun _ _ _ h => h) (by rfl) (by assumption) ?hya2n410 ?resta2n410
          case hya2n410 => (intro w hSw; (try dsimp only at hSw); first | (go_simp; done) | (go_simp; with_reducible rfl))
          simp only [Act.put, List.setIfInBounds_toArray, List.set_cons_zero, List.set_cons_succ]
          have ⟨y0, y1, y2, y3, y4, y5⟩ := x_z.on BV
          refine take_call (i := 11) rfl (by kernel_rfl) (fun Kc hK => ?_)
          go_simp
          refine hK.out _ _ ⟨cell_put3 hHeld.1 (by omega) _ _ _, cell_put3 hHeld.2.1 (by omega) _ _ _, cell_put3 hHeld.2.2.1 (by omega) _ _ _, below_put3 hHeld.2.2.2 (by omega) _ _ _⟩ (fun hHeld => ?_)
          clear hK Kc
          refine wpAnyH_done (by kernel_rfl) ?_ _
          go_wp2
          exact bodyPost_ret (v := .agg #[.bool n, .slice a5 6 cap5, .slice a9 ld cap9]) (by simp [results, Tryd.results5, go_sem, *]) rfl (endCut5 (x := u') (y := v) (by have := HL.out; omega) (by have := HM.out; omega) HU.out HV.out own5 own9 (by omega) sV (also BB BV) _ _ _)
        · skip
          go_simp
          have bV5 : Below V1.heap.size V1 (V1.alloc (.cells #[] 57)) := (Below.refl _ _).alloc (Nat.le_refl _) _
          refine hK.out _ _ ⟨cell_on bV5 hHeld.1, cell_on bV5 hHeld.2.1, cell_on bV5 hHeld.2.2.1, also hHeld.2.2.2 bV5⟩ (fun hHeld => ?_)
          clear hK Kc
          have O2 : Own (V1.alloc (.cells #[] 57)) V.heap.size 57 (some ⟨V1.heap.size, 0, none⟩) 0 0 [] := eown V1 V.heap.size 57 (by omega)
          have sV5 : V1.heap.size < (V1.alloc (.cells #[] 57)).heap.size := by simp
          generalize V1.alloc (.cells #[] 57) = V5 at bV5 O2 sV5 hHeld ⊢
          replace BV := BV.trans (bV5.mono (by omega))
          replace O1 := O1.below bV5
          refine take_call (i := 5) rfl (by kernel_rfl) (fun Kc hK => ?_)
          refine step_append_at rfl (.tmp 23) (.tmp 24) 23 rfl V.heap.size 57 i0 (.int .u32 0) 4 Tryd.underlying23 hi0 hz0 hz1 hz2 rfl _ 0 0 [] rfl O1 (some ⟨b1, o1, none⟩) 6 ca (wd.dcells 6 (u' : Int)) rfl (sl1.below BV) (dcells_one _ _) (by unfold maxLen; have := HL.out; omega) (by have := HL.out; omega) (by omega) ?_
          intro a5 cap5 w5 own5 grow5 blk5
          have grow5' : V5.grownBy w5 (some V.heap.size) := grow5
          refine hK.out _ _ ⟨cell_far hHeld.1 grow5' (by omega), cell_far hHeld.2.1 grow5' (by omega), cell_far hHeld.2.2.1 grow5' (by omega), hHeld.2.2.2.grown grow5' hHeld.2.2.2.size (fun k e => by cases e; omega)⟩ (fun hHeld => ?_)
          clear hK Kc
          rw [Nat.zero_add, List.nil_append] at own5
          rw [Nat.zero_add] at blk5
          simp only [Nat.zero_add]
          have ne2 : (Value.slice (some ⟨V1.heap.size, 0, none⟩) 0 0).ownBlock ≠ some V.heap.size := fun e => by have e : some V1.heap.size = some V.heap.size := e; simp only [Option.some.injEq] at e; omega
          replace O2 := Own.kept O2 grow5' ne2
          have ne5 : (Value.slice a5 6 cap5).ownBlock ≠ some V1.heap.size := fun e => by
            rcases blk5 with q | q <;> rw [e] at q
            · have q : some V1.heap.size = some V.heap.size := q; simp only [Option.some.injEq] at q; omega
            · simp only [Option.some.injEq] at q; omega
          have zz6 : V5.heap.size ≤ w5.heap.size := grow5.size
          replace BV := BV.grown grow5' BV.size (fun k e => by cases e; omega)
          refine take_yes (i := 6) (v := ?va2m66) rfl (by kernel_rfl) (by kernel_rfl) (by kernel_rfl) (fun _ _ _ h => h) (by rfl) (by assumption) ?hya2m66 ?resta2m66
          case hya2m66 => (intro w hSw; (try dsimp only at hSw); first | (go_simp; done) | (go_simp; with_reducible rfl))
          simp only [Act.put, List.setIfInBounds_toArray, List.set_cons_zero, List.set_cons_succ]
          refine take_call (i := 9) rfl (by kernel_rfl) (fun Kc hK => ?_)
          refine step_append_at rfl (.tmp 27) (.tmp 28) 23 rfl V.heap.size 57 i0 (.int .u32 0) 4 Tryd.underlying23 hi0 hz0 hz1 hz2 rfl _ 0 0 [] rfl O2 d ld cd (wd.dcells ld (v : Int)) rfl (sl2.below BV) (dcells_one _ _) (by unfold maxLen; have := HM.out; omega) (by have := HM.out; omega) (by omega) ?_
          intro a9 cap9 w9 own9 grow9 blk9
          have grow9' : w5.grownBy w9 (some V1.heap.size) := grow9
          refine hK.out _ _ ⟨cell_far hHeld.1 grow9' (by omega), cell_far hHeld.2.1 grow9' (by omega), cell_far hHeld.2.2.1 grow9' (by omega), hHeld.2.2.2.grown grow9' hHeld.2.2.2.size (fun k e => by cases e; omega)⟩ (fun hHeld => ?_)
          clear hK Kc
          rw [Nat.zero_add, List.nil_append] at own9
          rw [Nat.zero_add] at blk9
          simp only [Nat.zero_add]
          replace own5 := Own.kept own5 grow9' ne5
          have zz7 : w5.heap.size ≤ w9.heap.size := grow9.size
          replace BV := BV.grown grow9' BV.size (fun k e => by cases e; omega)
          refine take_yes (i := 10) (v := ?va2n710) rfl (by kernel_rfl) (by kernel_rfl) (by kernel_rfl) (fun _ _ _ h => h) (by rfl) (by assumption) ?hya2n710 ?resta2n710
          case hya2n710 => (intro w hSw; (try dsimp only at hSw); first | (go_simp; done) | (go_simp; with_reducible rfl))
          simp only [Act.put, List.setIfInBounds_toArray, List.set_cons_zero, List.set_cons_succ]
          have ⟨y0, y1, y2, y3, y4, y5⟩ := x_z.on BV
          refine take_call (i := 11) rfl (by kernel_rfl) (fun Kc hK => ?_)
          go_simp
          refine hK.out _ _ ⟨cell_put3 hHeld.1 (by omega) _ _ _, cell_put3 hHeld.2.1 (by omega) _ _ _, cell_put3 hHeld.2.2.1 (by omega) _ _ _, below_put3 hHeld.2.2.2 (by omega) _ _ _⟩ (fun hHeld => ?_)
          clear hK Kc
          refine wpAnyH_done (by kernel_rfl) ?_ _
          go_wp2
          exact bodyPost_ret (v := .agg #[.bool n, .slice a5 6 cap5, .slice a9 ld cap9]) (by simp [results, Tryd.results5, go_sem, *]) rfl (endCut5 (x := u') (y := v) (by have := HL.out; omega) (by have := HM.out; omega) HU.out HV.out own5 own9 (by omega) sV (also BB BV) _ _ _)
      · skip
        go_simp
        have bV8 : Below V.heap.size V (V.alloc (.cells #[] 57)) := (Below.refl _ _).alloc (Nat.le_refl _) _
        refine hK.out _ _ ⟨cell_on bV8 hHeld.1, cell_on bV8 hHeld.2.1, cell_on bV8 hHeld.2.2.1, also hHeld.2.2.2 bV8⟩ (fun hHeld => ?_)
        clear hK Kc
        have O2 : Own (V.alloc (.cells #[] 57)) V.heap.size 57 (some ⟨V.heap.size, 0, none⟩) 0 0 [] := eown V V.heap.size 57 (by omega)
        have sV8 : V.heap.size < (V.alloc (.cells #[] 57)).heap.size := by simp
        generalize V.alloc (.cells #[] 57) = V8 at bV8 O2 sV8 hHeld ⊢
        replace BV := BV.trans (bV8.mono (by omega))
        refine take_call (i := 3) rfl (by kernel_rfl) (fun Kc hK => ?_)
        go_simp
        have bV9 : Below V8.heap.size V8 (V8.alloc (.cells #[] 57)) := (Below.refl _ _).alloc (Nat.le_refl _) _
        refine hK.out _ _ ⟨cell_on bV9 hHeld.1, cell_on bV9 hHeld.2.1, cell_on bV9 hHeld.2.2.1, also hHeld.2.2.2 bV9⟩ (fun hHeld => ?_)
        clear hK Kc
        have O1 : Own (V8.alloc (.cells #[] 57)) V.heap.size 57 (some ⟨V8.heap.size, 0, none⟩) 0 0 [] := eown V8 V.heap.size 57 (by omega)
        have sV9 : V8.heap.size < (V8.alloc (.cells #[] 57)).heap.size := by simp
        generalize V8.alloc (.cells #[] 57) = V9 at bV9 O1 sV9 hHeld ⊢
        replace BV := BV.trans (bV9.mono (by omega))
        replace O2 := O2.below bV9
        refine take_call (i := 5) rfl (by kernel_rfl) (fun Kc hK => ?_)
        refine step_append_at rfl (.tmp 23) (.tmp 24) 23 rfl V.heap.size 57 i0 (.int .u32 0) 4 Tryd.underlying23 hi0 hz0 hz1 hz2 rfl _ 0 0 [] rfl O1 (some ⟨b1, o1, none⟩) 6 ca (wd.dcells 6 (u' : Int)) rfl (sl1.below BV) (dcells_one _ _) (by unfold maxLen; have := HL.out; omega) (by have := HL.out; omega) (by omega) ?_
        intro a5 cap5 w5 own5 grow5 blk5
        have grow5' : V9.grownBy w5 (some V8.heap.size) := grow5
        refine hK.out _ _ ⟨cell_far hHeld.1 grow5' (by omega), cell_far hHeld.2.1 grow5' (by omega), cell_far hHeld.2.2.1 grow5' (by omega), hHeld.2.2.2.grown grow5' hHeld.2.2.2.size (fun k e => by cases e; omega)⟩ (fun hHeld => ?_)
        clear hK Kc
        rw [Nat.zero_add, List.nil_append] at own5
        rw [Nat.zero_add] at blk5
        simp only [Nat.zero_add]
        have ne2 : (Value.slice (some ⟨V.heap.size, 0, none⟩) 0 0).ownBlock ≠ some V8.heap.size := fun e => by have e : some V.heap.size = some V8.heap.size := e; simp only [Option.some.injEq] at e; omega
        replace O2 := Own.kept O2 grow5' ne2
        have ne5 : (Value.slice a5 6 cap5).ownBlock ≠ some V.heap.size := fun e => by
          rcases blk5 with q | q <;> rw [e] at q
          · have q : some V.heap.size = some V8.heap.size := q; simp only [Option.some.injEq] at q; omega
          · simp only [Option.some.injEq] at q; omega
        have zz10 : V9.heap.size ≤ w5.heap.size := grow5.size
        replace BV := BV.grown grow5' BV.size (fun k e => by cases e; omega)
        refine take_yes (i := 6) (v := ?va2m106) rfl (by kernel_rfl) (by kernel_rfl) (by kernel_rfl) (fun _ _ _ h => h) (by rfl) (by assumption) ?hya2m106 ?resta2m106
        case hya2m106 => (intro w hSw; (try dsimp only at hSw); first | (go_simp; done) | (go_simp; with_reducible rfl))
        simp only [Act.put, List.setIfInBounds_toArray, List.set_cons_zero, List.set_cons_succ]
        refine take_call (i := 9) rfl (by kernel_rfl) (fun Kc hK => ?_)
        refine step_append_at rfl (.tmp 27) (.tmp 28) 23 rfl V.heap.size 57 i0 (.int .u32 0) 4 Tryd.underlying23 hi0 hz0 hz1 hz2 rfl _ 0 0 [] rfl O2 d ld cd (wd.dcells ld (v : Int)) rfl (sl2.below BV) (dcells_one _ _) (by unfold maxLen; have := HM.out; omega) (by have := HM.out; omega) (by omega) ?_
        intro a9 cap9 w9 own9 grow9 blk9
        have grow9' : w5.grownBy w9 (some V.heap.size) := grow9
        refine hK.out _ _ ⟨cell_far hHeld.1 grow9' (by omega), cell_far hHeld.2.1 grow9' (by omega), cell_far hHeld.2.2.1 grow9' (by omega), hHeld.2.2.2.grown grow9' hHeld.2.2.2.size (fun k e => by cases e; omega)⟩ (fun hHeld => ?_)
        clear hK Kc
        rw [Nat.zero_add, List.nil_append] at own9
        rw [Nat.zero_add] at blk9
        simp only [Nat.zero_add]
        replace own5 := Own.kept own5 grow9' ne5
        have zz11 : w5.heap.size ≤ w9.heap.size := grow9.size
        replace BV := BV.grown grow9' BV.size (fun k e => by cases e; omega)
        refine take_yes (i := 10) (v := ?va2n1110) rfl (by kernel_rfl) (by kernel_rfl) (by kernel_rfl) (fun _ _ _ h => h) (by rfl) (by assumption) ?hya2n1110 ?resta2n1110
        case hya2n1110 => (intro w hSw; (try dsimp only at hSw); first | (go_simp; done) | (go_simp; with_reducible rfl))
        simp only [Act.put, List.setIfInBounds_toArray, List.set_cons_zero, List.set_cons_succ]
        have ⟨y0, y1, y2, y3, y4, y5⟩ := x_z.on BV
        refine take_call (i := 11) rfl (by kernel_rfl) (fun Kc hK => ?_)
        go_simp
        refine hK.out _ _ ⟨cell_put3 hHeld.1 (by omega) _ _ _, cell_put3 hHeld.2.1 (by omega) _ _ _, cell_put3 hHeld.2.2.1 (by omega) _ _ _, below_put3 hHeld.2.2.2 (by omega) _ _ _⟩ (fun hHeld => ?_)
        clear hK Kc
        refine wpAnyH_done (by kernel_rfl) ?_ _
        go_wp2
        exact bodyPost_ret (v := .agg #[.bool n, .slice a5 6 cap5, .slice a9 ld cap9]) (by simp [results, Tryd.results5, go_sem, *]) rfl (endCut5 (x := u') (y := v) (by have := HL.out; omega) (by have := HM.out; omega) HU.out HV.out own5 own9 (by omega) sV (also BB BV) _ _ _)
  · by_cases hm : 6 < ld
    · skip
      have hl' : ¬ (6 : Int) < la := by omega
      have sl1 := ha
      have HU : Hid _ := hu
      clear hu
      obtain ⟨b2, o2, rfl, hb2, hseg2⟩ := hd.at (by omega)
      have sl2 := sl_cut hd (k := 6) (by omega)
      have HV : Hid (v % 4294967296 ^ 6 < 4294967296 ^ 6) := Nat.mod_lt _ (by decide)
      obtain ⟨v', hv'⟩ : ∃ v', v' = v % 4294967296 ^ 6 := ⟨_, rfl⟩
      rw [← hv'] at sl2 HV
      have hm' : (6 : Int) < ld := by omega
      have hmc : (6 : Int) ≤ cd := by omega
      clear hv hv'
      obtain ⟨W, hW, bW, x_a, x_z, sW⟩ := bs_33 w (.bool n) (.slice a la ca) (.slice (some ⟨b2, o2, none⟩) ld cd) (.bool false) (.slice none 0 0) (.slice none 0 0) 27 27
      have HL : Hid _ := hl
      have HM : Hid _ := hm
      clear ha hd k1 k2 k3 k4 hseg2 hb2
      go_enter Tryd.func5, Tryd.ntmps5
      go_wp2
      rw [← hW]
      clear hW
      have B1 : Below w.heap.size w W.drew := bW.drew
      have x1 := x_a.drew
      refine wp_region_held_drew (S := (fun w' => w'.cell? ⟨w.heap.size, 0, none⟩ = some (.bool n) ∧ w'.cell? ⟨w.heap.size, 1, none⟩ = some (.slice a la ca) ∧ w'.cell? ⟨w.heap.size, 2, none⟩ = some (.slice (some ⟨b2, o2, none⟩) ld cd) ∧ Below w.heap.size w w')) (by kernel_rfl) ⟨x1.c0, x1.c1, x1.c2, B1⟩ (fun hHeld => ?_)
      refine take_yes (i := 0) (v := ?va3r0) rfl (by kernel_rfl) (by kernel_rfl) (by kernel_rfl) (fun _ _ _ h => h) (by rfl) (by assumption) ?hya3r0 ?resta3r0
      case hya3r0 => (intro w hSw; (try dsimp only at hSw); first | (go_simp; done) | (go_simp; with_reducible rfl))
      simp only [Act.put, List.setIfInBounds_toArray, List.set_cons_zero, List.set_cons_succ]
      refine take_yes (i := 1) (v := ?va3r1) rfl (by kernel_rfl) (by kernel_rfl) (by kernel_rfl) (fun _ _ _ h => h) (by rfl) (by assumption) ?hya3r1 ?resta3r1
      case hya3r1 => (intro w hSw; (try dsimp only at hSw); first | (go_simp; done) | (go_simp; with_reducible rfl))
      simp only [Act.put, List.setIfInBounds_toArray, List.set_cons_zero, List.set_cons_succ]
      refine take_yes (i := 2) (v := ?va3r2) rfl (by kernel_rfl) (by kernel_rfl) (by kernel_rfl) (fun _ _ _ h => h) (by rfl) (by assumption) ?hya3r2 ?resta3r2
      case hya3r2 => (intro w hSw; (try dsimp only at hSw); first | (go_simp; done) | (go_simp; with_reducible rfl))
      simp only [Act.put, List.setIfInBounds_toArray, List.set_cons_zero, List.set_cons_succ]
      refine take_yes (i := 3) (v := ?va3r3) rfl (by kernel_rfl) (by kernel_rfl) (by kernel_rfl) (fun _ _ _ h => h) (by rfl) (by assumption) ?hya3r3 ?resta3r3
      case hya3r3 => (intro w hSw; (try dsimp only at hSw); first | (go_simp; done) | (go_simp; with_reducible rfl))
      simp only [Act.put, List.setIfInBounds_toArray, List.set_cons_zero, List.set_cons_succ]
      refine take_yes (i := 4) (v := ?va3r4) rfl (by kernel_rfl) (by kernel_rfl) (by kernel_rfl) (fun _ _ _ h => h) (by rfl) (by assumption) ?hya3r4 ?resta3r4
      case hya3r4 => (intro w hSw; (try dsimp only at hSw); first | (go_simp; done) | (go_simp; with_reducible rfl))
      simp only [Act.put, List.setIfInBounds_toArray, List.set_cons_zero, List.set_cons_succ]
      refine take_yes (i := 5) (v := ?va3r5) rfl (by kernel_rfl) (by kernel_rfl) (by kernel_rfl) (fun _ _ _ h => h) (by rfl) (by assumption) ?hya3r5 ?resta3r5
      case hya3r5 => (intro w hSw; (try dsimp only at hSw); first | (go_simp; done) | (go_simp; with_reducible rfl))
      simp only [Act.put, List.setIfInBounds_toArray, List.set_cons_zero, List.set_cons_succ]
      refine take_yes (i := 6) (v := ?va3r6) rfl (by kernel_rfl) (by kernel_rfl) (by kernel_rfl) (fun _ _ _ h => h) (by rfl) (by assumption) ?hya3r6 ?resta3r6
      case hya3r6 => (intro w hSw; (try dsimp only at hSw); first | (go_simp; done) | (go_simp; with_reducible rfl))
      simp only [Act.put, List.setIfInBounds_toArray, List.set_cons_zero, List.set_cons_succ]
      refine wpAnyH_done (by kernel_rfl) ?_ _
      go_wp2
      have dV : Below W.heap.size W W.drew.drew := (Below.refl _ _).drew.drew
      have x2 := (x_a.drew).drew
      replace x_z := (x_z.drew).drew
      replace sl1 := (sl1.below bW).below dV
      replace sl2 := (sl2.below bW).below dV
      have BB : Below w.heap.size w W.drew.drew := also bW dV
      have sV : w.heap.size + 1 < W.drew.drew.heap.size := sW
      refine wp_region_held_drew (S := (fun w' => w'.cell? ⟨w.heap.size, 0, none⟩ = some (.bool n) ∧ w'.cell? ⟨w.heap.size, 1, none⟩ = some (.slice a la ca) ∧ w'.cell? ⟨w.heap.size, 2, none⟩ = some (.slice (some ⟨b2, o2, none⟩) ld cd) ∧ Below w.heap.size w w')) (by kernel_rfl) ⟨x2.c0, x2.c1, x2.c2, BB⟩ (fun hHeld => ?_)
      refine take_yes (i := 0) (v := ?va3s0) rfl (by kernel_rfl) (by kernel_rfl) (by kernel_rfl) (fun _ _ _ h => h) (by rfl) (by assumption) ?hya3s0 ?resta3s0
      case hya3s0 => (intro w hSw; (try dsimp only at hSw); first | (go_simp; done) | (go_simp; with_reducible rfl))
      simp only [Act.put, List.setIfInBounds_toArray, List.set_cons_zero, List.set_cons_succ]
      refine take_yes (i := 1) (v := ?va3s1) rfl (by kernel_rfl) (by kernel_rfl) (by kernel_rfl) (fun _ _ _ h => h) (by rfl) (by assumption) ?hya3s1 ?resta3s1
      case hya3s1 => (intro w hSw; (try dsimp only at hSw); first | (go_simp; done) | (go_simp; with_reducible rfl))
      simp only [Act.put, List.setIfInBounds_toArray, List.set_cons_zero, List.set_cons_succ]
      refine take_yes (i := 2) (v := ?va3s2) rfl (by kernel_rfl) (by kernel_rfl) (by kernel_rfl) (fun _ _ _ h => h) (by rfl) (by assumption) ?hya3s2 ?resta3s2
      case hya3s2 => (intro w hSw; (try dsimp only at hSw); first | (go_simp; done) | (go_simp; with_reducible rfl))
      simp only [Act.put, List.setIfInBounds_toArray, List.set_cons_zero, List.set_cons_succ]
      refine take_yes (i := 4) (v := ?va3s4) rfl (by kernel_rfl) (by kernel_rfl) (by kernel_rfl) (fun _ _ _ h => h) (by rfl) (by assumption) ?hya3s4 ?resta3s4
      case hya3s4 => (intro w hSw; (try dsimp only at hSw); first | (go_simp; done) | (go_simp; with_reducible rfl))
      simp only [Act.put, List.setIfInBounds_toArray, List.set_cons_zero, List.set_cons_succ]
      refine take_yes (i := 8) (v := ?va3s8) rfl (by kernel_rfl) (by kernel_rfl) (by kernel_rfl) (fun _ _ _ h => h) (by rfl) (by assumption) ?hya3s8 ?resta3s8
      case hya3s8 => (intro w hSw; (try dsimp only at hSw); first | (go_simp; done) | (go_simp; with_reducible rfl))
      simp only [Act.put, List.setIfInBounds_toArray, List.set_cons_zero, List.set_cons_succ]
      generalize W.drew.drew = V at x_z sl1 sl2 BB sV hHeld ⊢
      clear x1 x2 B1 dV x_a
      have BV := Below.refl V.heap.size V
      have zV : V.heap.size ≤ V.heap.size := Nat.le_refl _
      refine wpAnyH_ready (rs := [3, 7]) (by kernel_rfl) (by simp) (AllReadyH.cons (i := 3) rfl (fun Kc hK => ?_) (AllReadyH.cons (i := 7) rfl (fun Kc hK => ?_) AllReadyH.nil))
      · skip
        go_simp
        have bV1 : Below V.heap.size V (V.alloc (.cells #[] 57)) := (Below.refl _ _).alloc (Nat.le_refl _) _
        refine hK.out _ _ ⟨cell_on bV1 hHeld.1, cell_on bV1 hHeld.2.1, cell_on bV1 hHeld.2.2.1, also hHeld.2.2.2 bV1⟩ (fun hHeld => ?_)
        clear hK Kc
        have O1 : Own (V.alloc (.cells #[] 57)) V.heap.size 57 (some ⟨V.heap.size, 0, none⟩) 0 0 [] := eown V V.heap.size 57 (by omega)
        have sV1 : V.heap.size < (V.alloc (.cells #[] 57)).heap.size := by simp
        generalize V.alloc (.cells #[] 57) = V1 at bV1 O1 sV1 hHeld ⊢
        replace BV := BV.trans (bV1.mono (by omega))
        refine wpAnyH_ready (rs := [5, 7]) (by kernel_rfl) (by simp) (AllReadyH.cons (i := 5) rfl (fun Kc hK => ?_) (AllReadyH.cons (i := 7) rfl (fun Kc hK => ?_) AllReadyH.nil))
        · skip
          refine step_append_at rfl (.tmp 23) (.tmp 24) 23 rfl V.heap.size 57 i0 (.int .u32 0) 4 Tryd.underlying23 hi0 hz0 hz1 hz2 rfl _ 0 0 [] rfl O1 a la ca (wd.dcells la (u : Int)) rfl (sl1.below BV) (dcells_one _ _) (by unfold maxLen; have := HL.out; omega) (by have := HL.out; omega) (by omega) ?_
          intro a5 cap5 w5 own5 grow5 blk5
          have grow5' : V1.grownBy w5 (some V.heap.size) := grow5
          refine hK.out _ _ ⟨cell_far hHeld.1 grow5' (by omega), cell_far hHeld.2.1 grow5' (by omega), cell_far hHeld.2.2.1 grow5' (by omega), hHeld.2.2.2.grown grow5' hHeld.2.2.2.size (fun k e => by cases e; omega)⟩ (fun hHeld => ?_)
          clear hK Kc
          rw [Nat.zero_add, List.nil_append] at own5
          rw [Nat.zero_add] at blk5
          simp only [Nat.zero_add]
          have zz2 : V1.heap.size ≤ w5.heap.size := grow5.size
          replace BV := BV.grown grow5' BV.size (fun k e => by cases e; omega)
          refine take_yes (i := 6) (v := ?va3m26) rfl (by kernel_rfl) (by kernel_rfl) (by kernel_rfl) (fun _ _ _ h => h) (by rfl) (by assumption) ?hya3m26 ?resta3m26
          case hya3m26 => (intro w hSw; (try dsimp only at hSw); first | (go_simp; done) | (go_simp; with_reducible rfl))
          refine take_call (i := 7) rfl (by kernel_rfl) (fun Kc hK => ?_)
          go_simp
          have bV3 : Below w5.heap.size w5 (w5.alloc (.cells #[] 57)) := (Below.refl _ _).alloc (Nat.le_refl _) _
          refine hK.out _ _ ⟨cell_on bV3 hHeld.1, cell_on bV3 hHeld.2.1, cell_on bV3 hHeld.2.2.1, also hHeld.2.2.2 bV3⟩ (fun hHeld => ?_)
          clear hK Kc
          have O2 : Own (w5.alloc (.cells #[] 57)) V.heap.size 57 (some ⟨w5.heap.size, 0, none⟩) 0 0 [] := eown w5 V.heap.size 57 (by omega)
          have sV3 : w5.heap.size < (w5.alloc (.cells #[] 57)).heap.size := by simp
          generalize w5.alloc (.cells #[] 57) = V3 at bV3 O2 sV3 hHeld ⊢
          replace BV := BV.trans (bV3.mono (by omega))
          have lt5 : ∀ k, (Value.slice a5 la cap5).ownBlock = some k → k < w5.heap.size := fun k e => (Own.lt own5 e).2
          replace own5 := own5.below bV3
          have ne5 : (Value.slice a5 la cap5).ownBlock ≠ some w5.heap.size := fun e => by have := lt5 _ e; omega
          refine take_call (i := 9) rfl (by kernel_rfl) (fun Kc hK => ?_)
          refine step_append_at rfl (.tmp 27) (.tmp 28) 23 rfl V.heap.size 57 i0 (.int .u32 0) 4 Tryd.underlying23 hi0 hz0 hz1 hz2 rfl _ 0 0 [] rfl O2 (some ⟨b2, o2, none⟩) 6 cd (wd.dcells 6 (v' : Int)) rfl (sl2.below BV) (dcells_one _ _) (by unfold maxLen; have := HM.out; omega) (by have := HM.out; omega) (by omega) ?_
          intro a9 cap9 w9 own9 grow9 blk9
          have grow9' : V3.grownBy w9 (some w5.heap.size) := grow9
          refine hK.out _ _ ⟨cell_far hHeld.1 grow9' (by omega), cell_far hHeld.2.1 grow9' (by omega), cell_far hHeld.2.2.1 grow9' (by omega), hHeld.2.2.2.grown grow9' hHeld.2.2.2.size (fun k e => by cases e; omega)⟩ (fun hHeld => ?_)
          clear hK Kc
          rw [Nat.zero_add, List.nil_append] at own9
          rw [Nat.zero_add] at blk9
          simp only [Nat.zero_add]
          replace own5 := Own.kept own5 grow9' ne5
          have zz4 : V3.heap.size ≤ w9.heap.size := grow9.size
          replace BV := BV.grown grow9' BV.size (fun k e => by cases e; omega)
          refine take_yes (i := 10) (v := ?va3n410) rfl (by kernel_rfl) (by kernel_rfl) (by kernel_rfl) (fun _ _ _ h => h) (by rfl) (by assumption) ?hya3n410 ?resta3n410
          case hya3n410 => (intro w hSw; (try dsimp only at hSw); first | (go_simp; done) | (go_simp; with_reducible rfl))
          simp only [Act.put, List.setIfInBounds_toArray, List.set_cons_zero, List.set_cons_succ]
          have ⟨y0, y1, y2, y3, y4, y5⟩ := x_z.on BV
          refine take_call (i := 11) rfl (by kernel_rfl) (fun Kc hK => ?_)
          go_simp
          refine hK.out _ _ ⟨cell_put3 hHeld.1 (by omega) _ _ _, cell_put3 hHeld.2.1 (by omega) _ _ _, cell_put3 hHeld.2.2.1 (by omega) _ _ _, below_put3 hHeld.2.2.2 (by omega) _ _ _⟩ (fun hHeld => ?_)
          clear hK Kc
          refine wpAnyH_done (by kernel_rfl) ?_ _
          go_wp2
          exact bodyPost_ret (v := .agg #[.bool n, .slice a5 la cap5, .slice a9 6 cap9]) (by simp [results, Tryd.results5, go_sem, *]) rfl (endCut5 (x := u) (y := v') (by have := HL.out; omega) (by have := HM.out; omega) HU.out HV.out own5 own9 (by omega) sV (also BB BV) _ _ _)
        · skip
          go_simp
          have bV5 : Below V1.heap.size V1 (V1.alloc (.cells #[] 57)) := (Below.refl _ _).alloc (Nat.le_refl _) _
          refine hK.out _ _ ⟨cell_on bV5 hHeld.1, cell_on bV5 hHeld.2.1, cell_on bV5 hHeld.2.2.1, also hHeld.2.2.2 bV5⟩ (fun hHeld => ?_)
          clear hK Kc
          have O2 : Own (V1.alloc (.cells #[] 57)) V.heap.size 57 (some ⟨V1.heap.size, 0, none⟩) 0 0 [] := eown V1 V.heap.size 57 (by omega)
          have sV5 : V1.heap.size < (V1.alloc (.cells #[] 57)).heap.size := by simp
          generalize V1.alloc (.cells #[] 57) = V5 at bV5 O2 sV5 hHeld ⊢
          replace BV := BV.trans (bV5.mono (by omega))
          replace O1 := O1.below bV5
          refine take_call (i := 5) rfl (by kernel_rfl) (fun Kc hK => ?_)
          refine step_append_at rfl (.tmp 23) (.tmp 24) 23 rfl V.heap.size 57 i0 (.int .u32 0) 4 Tryd.underlying23 hi0 hz0 hz1 hz2 rfl _ 0 0 [] rfl O1 a la ca (wd.dcells la (u : Int)) rfl (sl1.below BV) (dcells_one _ _) (by unfold maxLen; have := HL.out; omega) (by have := HL.out; omega) (by omega) ?_
          intro a5 cap5 w5 own5 grow5 blk5
          have grow5' : V5.grownBy w5 (some V.heap.size) := grow5
          refine hK.out _ _ ⟨cell_far hHeld.1 grow5' (by omega), cell_far hHeld.2.1 grow5' (by omega), cell_far hHeld.2.2.1 grow5' (by omega), hHeld.2.2.2.grown grow5' hHeld.2.2.2.size (fun k e => by cases e; omega)⟩ (fun hHeld => ?_)
          clear hK Kc
          rw [Nat.zero_add, List.nil_append] at own5
          rw [Nat.zero_add] at blk5
          simp only [Nat.zero_add]
          have ne2 : (Value.slice (some ⟨V1.heap.size, 0, none⟩) 0 0).ownBlock ≠ some V.heap.size := fun e => by have e : some V1.heap.size = some V.heap.size := e; simp only [Option.some.injEq] at e; omega
          replace O2 := Own.kept O2 grow5' ne2
          have ne5 : (Value.slice a5 la cap5).ownBlock ≠ some V1.heap.size := fun e => by
            rcases blk5 with q | q <;> rw [e] at q
            · have q : some V1.heap.size = some V.heap.size := q; simp only [Option.some.injEq] at q; omega
            · simp only [Option.some.injEq] at q; omega
          have zz6 : V5.heap.size ≤ w5.heap.size := grow5.size
          replace BV := BV.grown grow5' BV.size (fun k e => by cases e; omega)
          refine take_yes (i := 6) (v := ?va3m66) rfl (by kernel_rfl) (by kernel_rfl) (by kernel_rfl) (fun _ _ _ h => h) (by rfl) (by assumption) ?hya3m66 ?resta3m66
          case hya3m66 => (intro w hSw; (try dsimp only at hSw); first | (go_simp; done) | (go_simp; with_reducible rfl))
          simp only [Act.put, List.setIfInBounds_toArray, List.set_cons_zero, List.set_cons_succ]
          refine take_call (i := 9) rfl (by kernel_rfl) (fun Kc hK => ?_)
          refine step_append_at rfl (.tmp 27) (.tmp 28) 23 rfl V.heap.size 57 i0 (.int .u32 0) 4 Tryd.underlying23 hi0 hz0 hz1 hz2 rfl _ 0 0 [] rfl O2 (some ⟨b2, o2, none⟩) 6 cd (wd.dcells 6 (v' : Int)) rfl (sl2.below BV) (dcells_one _ _) (by unfold maxLen; have := HM.out; omega) (by have := HM.out; omega) (by omega) ?_
          intro a9 cap9 w9 own9 grow9 blk9
          have grow9' : w5.grownBy w9 (some V1.heap.size) := grow9
          refine hK.out _ _ ⟨cell_far hHeld.1 grow9' (by omega), cell_far hHeld.2.1 grow9' (by omega), cell_far hHeld.2.2.1 grow9' (by omega), hHeld.2.2.2.grown grow9' hHeld.2.2.2.size (fun k e => by cases e; omega)⟩ (fun hHeld => ?_)
          clear hK Kc
          rw [Nat.zero_add, List.nil_append] at own9
          rw [Nat.zero_add] at blk9
          simp only [Nat.zero_add]
          replace own5 := Own.kept own5 grow9' ne5
          have zz7 : w5.heap.size ≤ w9.heap.size := grow9.size
          replace BV := BV.grown grow9' BV.size (fun k e => by cases e; omega)
          refine take_yes (i := 10) (v := ?va3n710) rfl (by kernel_rfl) (by kernel_rfl) (by kernel_rfl) (fun _ _ _ h => h) (by rfl) (by assumption) ?hya3n710 ?resta3n710
          case hya3n710 => (intro w hSw; (try dsimp only at hSw); first | (go_simp; done) | (go_simp; with_reducible rfl))
          simp only [Act.put, List.setIfInBounds_toArray, List.set_cons_zero, List.set_cons_succ]
          have ⟨y0, y1, y2, y3, y4, y5⟩ := x_z.on BV
          refine take_call (i := 11) rfl (by kernel_rfl) (fun Kc hK => ?_)
          go_simp
          refine hK.out _ _ ⟨cell_put3 hHeld.1 (by omega) _ _ _, cell_put3 hHeld.2.1 (by omega) _ _ _, cell_put3 hHeld.2.2.1 (by omega) _ _ _, below_put3 hHeld.2.2.2 (by omega) _ _ _⟩ (fun hHeld => ?_)
          clear hK Kc
          refine wpAnyH_done (by kernel_rfl) ?_ _
          go_wp2
          exact bodyPost_ret (v := .agg #[.bool n, .slice a5 la cap5, .slice a9 6 cap9]) (by simp [results, Tryd.results5, go_sem, *]) rfl (endCut5 (x := u) (y := v') (by have := HL.out; omega) (by have := HM.out; omega) HU.out HV.out own5 own9 (by omega) sV (also BB BV) _ _ _)
      · skip
        go_simp
        have bV8 : Below V.heap.size V (V.alloc (.cells #[] 57)) := (Below.refl _ _).alloc (Nat.le_refl _) _
        refine hK.out _ _ ⟨cell_on bV8 hHeld.1, cell_on bV8 hHeld.2.1, cell_on bV8 hHeld.2.2.1, also hHeld.2.2.2 bV8⟩ (fun hHeld => ?_)
        clear hK Kc
        have O2 : Own (V.alloc (.cells #[] 57)) V.heap.size 57 (some ⟨V.heap.size, 0, none⟩) 0 0 [] := eown V V.heap.size 57 (by omega)
        have sV8 : V.heap.size < (V.alloc (.cells #[] 57)).heap.size := by simp
        generalize V.alloc (.cells #[] 57) = V8 at bV8 O2 sV8 hHeld ⊢
        replace BV := BV.trans (bV8.mono (by omega))
        refine take_call (i := 3) rfl (by kernel_rfl) (fun Kc hK => ?_)
        go_simp
        have bV9 : Below V8.heap.size V8 (V8.alloc (.cells #[] 57)) := (Below.refl _ _).alloc (Nat.le_refl _) _
        refine hK.out _ _ ⟨cell_on bV9 hHeld.1, cell_on bV9 hHeld.2.1, cell_on bV9 hHeld.2.2.1, also hHeld.2.2.2 bV9⟩ (fun hHeld => ?_)
        clear hK Kc
        have O1 : Own (V8.alloc (.cells #[] 57)) V.heap.size 57 (some ⟨V8.heap.size, 0, none⟩) 0 0 [] := eown V8 V.heap.size 57 (by omega)
        have sV9 : V8.heap.size < (V8.alloc (.cells #[] 57)).heap.size := by simp
        generalize V8.alloc (.cells #[] 57) = V9 at bV9 O1 sV9 hHeld ⊢
        replace BV := BV.trans (bV9.mono (by omega))
        replace O2 := O2.below bV9
        refine take_call (i := 5) rfl (by kernel_rfl) (fun Kc hK => ?_)
        refine step_append_at rfl (.tmp 23) (.tmp 24) 23 rfl V.heap.size 57 i0 (.int .u32 0) 4 Tryd.underlying23 hi0 hz0 hz1 hz2 rfl _ 0 0 [] rfl O1 a la ca (wd.dcells la (u : Int)) rfl (sl1.below BV) (dcells_one _ _) (by unfold maxLen; have := HL.out; omega) (by have := HL.out; omega) (by omega) ?_
        intro a5 cap5 w5 own5 grow5 blk5
        have grow5' : V9.grownBy w5 (some V8.heap.size) := grow5
        refine hK.out _ _ ⟨cell_far hHeld.1 grow5' (by omega), cell_far hHeld.2.1 grow5' (by omega), cell_far hHeld.2.2.1 grow5' (by omega), hHeld.2.2.2.grown grow5' hHeld.2.2.2.size (fun k e => by cases e; omega)⟩ (fun hHeld => ?_)
        clear hK Kc
        rw [Nat.zero_add, List.nil_append] at own5
        rw [Nat.zero_add] at blk5
        simp only [Nat.zero_add]
        have ne2 : (Value.slice (some ⟨V.heap.size, 0, none⟩) 0 0).ownBlock ≠ some V8.heap.size := fun e => by have e : some V.heap.size = some V8.heap.size := e; simp only [Option.some.injEq] at e; omega
        replace O2 := Own.kept O2 grow5' ne2
        have ne5 : (Value.slice a5 la cap5).ownBlock ≠ some V.heap.size := fun e => by
          rcases blk5 with q | q <;> rw [e] at q
          · have q : some V.heap.size = some V8.heap.size := q; simp only [Option.some.injEq] at q; omega
          · simp only [Option.some.injEq] at q; omega
        have zz10 : V9.heap.size ≤ w5.heap.size := grow5.size
        replace BV := BV.grown grow5' BV.size (fun k e => by cases e; omega)
        refine take_yes (i := 6) (v := ?va3m106) rfl (by kernel_rfl) (by kernel_rfl) (by kernel_rfl) (fun _ _ _ h => h) (by rfl) (by assumption) ?hya3m106 ?resta3m106
        case hya3m106 => (intro w hSw; (try dsimp only at hSw); first | (go_simp; done) | (go_simp; with_reducible rfl))
        simp only [Act.put, List.setIfInBounds_toArray, List.set_cons_zero, List.set_cons_succ]
        refine take_call (i := 9) rfl (by kernel_rfl) (fun Kc hK => ?_)
        refine step_append_at rfl (.tmp 27) (.tmp 28) 23 rfl V.heap.size 57 i0 (.int .u32 0) 4 Tryd.underlying23 hi0 hz0 hz1 hz2 rfl _ 0 0 [] rfl O2 (some ⟨b2, o2, none⟩) 6 cd (wd.dcells 6 (v' : Int)) rfl (sl2.below BV) (dcells_one _ _) (by unfold maxLen; have := HM.out; omega) (by have := HM.out; omega) (by omega) ?_
        intro a9 cap9 w9 own9 grow9 blk9
        have grow9' : w5.grownBy w9 (some V.heap.size) := grow9
        refine hK.out _ _ ⟨cell_far hHeld.1 grow9' (by omega), cell_far hHeld.2.1 grow9' (by omega), cell_far hHeld.2.2.1 grow9' (by omega), hHeld.2.2.2.grown grow9' hHeld.2.2.2.size (fun k e => by cases e; omega)⟩ (fun hHeld => ?_)
        clear hK Kc
        rw [Nat.zero_add, List.nil_append] at own9
        rw [Nat.zero_add] at blk9
        simp only [Nat.zero_add]
        replace own5 := Own.kept own5 grow9' ne5
        have zz11 : w5.heap.size ≤ w9.heap.size := grow9.size
        replace BV := BV.grown grow9' BV.size (fun k e => by cases e; omega)
        refine take_yes (i := 10) (v := ?va3n1110) rfl (by kernel_rfl) (by kernel_rfl) (by kernel_rfl) (fun _ _ _ h => h) (by rfl) (by assumption) ?hya3n1110 ?resta3n1110
        case hya3n1110 => (intro w hSw; (try dsimp only at hSw); first | (go_simp; done) | (go_simp; with_reducible rfl))
        simp only [Act.put, List.setIfInBounds_toArray, List.set_cons_zero, List.set_cons_succ]
        have ⟨y0, y1, y2, y3, y4, y5⟩ := x_z.on BV
        refine take_call (i := 11) rfl (by kernel_rfl) (fun Kc hK => ?_)
        go_simp
        refine hK.out _ _ ⟨cell_put3 hHeld.1 (by omega) _ _ _, cell_put3 hHeld.2.1 (by omega) _ _ _, cell_put3 hHeld.2.2.1 (by omega) _ _ _, below_put3 hHeld.2.2.2 (by omega) _ _ _⟩ (fun hHeld => ?_)
        clear hK Kc
        refine wpAnyH_done (by kernel_rfl) ?_ _
        go_wp2
        exact bodyPost_ret (v := .agg #[.bool n, .slice a5 la cap5, .slice a9 6 cap9]) (by simp [results, Tryd.results5, go_sem, *]) rfl (endCut5 (x := u) (y := v') (by have := HL.out; omega) (by have := HM.out; omega) HU.out HV.out own5 own9 (by omega) sV (also BB BV) _ _ _)
    · skip
      have hl' : ¬ (6 : Int) < la := by omega
      have sl1 := ha
      have HU : Hid _ := hu
      clear hu
      have hm' : ¬ (6 : Int) < ld := by omega
      have sl2 := hd
      have HV : Hid _ := hv
      clear hv
      obtain ⟨W, hW, bW, x_a, x_z, sW⟩ := bs_33 w (.bool n) (.slice a la ca) (.slice d ld cd) (.bool false) (.slice none 0 0) (.slice none 0 0) 27 27
      have HL : Hid _ := hl
      have HM : Hid _ := hm
      clear ha hd k1 k2 k3 k4
      go_enter Tryd.func5, Tryd.ntmps5
      go_wp2
      rw [← hW]
      clear hW
      have B1 : Below w.heap.size w W.drew := bW.drew
      have x1 := x_a.drew
      refine wp_region_held_drew (S := (fun w' => w'.cell? ⟨w.heap.size, 0, none⟩ = some (.bool n) ∧ w'.cell? ⟨w.heap.size, 1, none⟩ = some (.slice a la ca) ∧ w'.cell? ⟨w.heap.size, 2, none⟩ = some (.slice d ld cd) ∧ Below w.heap.size w w')) (by kernel_rfl) ⟨x1.c0, x1.c1, x1.c2, B1⟩ (fun hHeld => ?_)
      refine take_yes (i := 0) (v := ?va4r0) rfl (by kernel_rfl) (by kernel_rfl) (by kernel_rfl) (fun _ _ _ h => h) (by rfl) (by assumption) ?hya4r0 ?resta4r0
      case hya4r0 => (intro w hSw; (try dsimp only at hSw); first | (go_simp; done) | (go_simp; with_reducible rfl))
      simp only [Act.put, List.setIfInBounds_toArray, List.set_cons_zero, List.set_cons_succ]
      refine take_yes (i := 1) (v := ?va4r1) rfl (by kernel_rfl) (by kernel_rfl) (by kernel_rfl) (fun _ _ _ h => h) (by rfl) (by assumption) ?hya4r1 ?resta4r1
      case hya4r1 => (intro w hSw; (try dsimp only at hSw); first | (go_simp; done) | (go_simp; with_reducible rfl))
      simp only [Act.put, List.setIfInBounds_toArray, List.set_cons_zero, List.set_cons_succ]
      refine take_yes (i := 2) (v := ?va4r2) rfl (by kernel_rfl) (by kernel_rfl) (by kernel_rfl) (fun _ _ _ h => h) (by rfl) (by assumption) ?hya4r2 ?resta4r2
      case hya4r2 => (intro w hSw; (try dsimp only at hSw); first | (go_simp; done) | (go_simp; with_reducible rfl))
      simp only [Act.put, List.setIfInBounds_toArray, List.set_cons_zero, List.set_cons_succ]
      refine take_yes (i := 3) (v := ?va4r3) rfl (by kernel_rfl) (by kernel_rfl) (by kernel_rfl) (fun _ _ _ h => h) (by rfl) (by assumption) ?hya4r3 ?resta4r3
      case hya4r3 => (intro w hSw; (try dsimp only at hSw); first | (go_simp; done) | (go_simp; with_reducible rfl))
      simp only [Act.put, List.setIfInBounds_toArray, List.set_cons_zero, List.set_cons_succ]
      refine take_yes (i := 4) (v := ?va4r4) rfl (by kernel_rfl) (by kernel_rfl) (by kernel_rfl) (fun _ _ _ h => h) (by rfl) (by assumption) ?hya4r4 ?resta4r4
      case hya4r4 => (intro w hSw; (try dsimp only at hSw); first | (go_simp; done) | (go_simp; with_reducible rfl))
      simp only [Act.put, List.setIfInBounds_toArray, List.set_cons_zero, List.set_cons_succ]
      refine take_yes (i := 5) (v := ?va4r5) rfl (by kernel_rfl) (by kernel_rfl) (by kernel_rfl) (fun _ _ _ h => h) (by rfl) (by assumption) ?hya4r5 ?resta4r5
      case hya4r5 => (intro w hSw; (try dsimp only at hSw); first | (go_simp; done) | (go_simp; with_reducible rfl))
      simp only [Act.put, List.setIfInBounds_toArray, List.set_cons_zero, List.set_cons_succ]
      refine take_yes (i := 6) (v := ?va4r6) rfl (by kernel_rfl) (by kernel_rfl) (by kernel_rfl) (fun _ _ _ h => h) (by rfl) (by assumption) ?hya4r6 ?resta4r6
      case hya4r6 => (intro w hSw; (try dsimp only at hSw); first | (go_simp; done) | (go_simp; with_reducible rfl))
      simp only [Act.put, List.setIfInBounds_toArray, List.set_cons_zero, List.set_cons_succ]
      refine wpAnyH_done (by kernel_rfl) ?_ _
      go_wp2
      have dV : Below W.heap.size W W.drew.drew := (Below.refl _ _).drew.drew
      have x2 := (x_a.drew).drew
      replace x_z := (x_z.drew).drew
      replace sl1 := (sl1.below bW).below dV
      replace sl2 := (sl2.below bW).below dV
      have BB : Below w.heap.size w W.drew.drew := also bW dV
      have sV : w.heap.size + 1 < W.drew.drew.heap.size := sW
      refine wp_region_held_drew (S := (fun w' => w'.cell? ⟨w.heap.size, 0, none⟩ = some (.bool n) ∧ w'.cell? ⟨w.heap.size, 1, none⟩ = some (.slice a la ca) ∧ w'.cell? ⟨w.heap.size, 2, none⟩ = some (.slice d ld cd) ∧ Below w.heap.size w w')) (by kernel_rfl) ⟨x2.c0, x2.c1, x2.c2, BB⟩ (fun hHeld => ?_)
      refine take_yes (i := 0) (v := ?va4s0) rfl (by kernel_rfl) (by kernel_rfl) (by kernel_rfl) (fun _ _ _ h => h) (by rfl) (by assumption) ?hya4s0 ?resta4s0
      case hya4s0 => (intro w hSw; (try dsimp only at hSw); first | (go_simp; done) | (go_simp; with_reducible rfl))
      simp only [Act.put, List.setIfInBounds_toArray, List.set_cons_zero, List.set_cons_succ]
      refine take_yes (i := 1) (v := ?va4s1) rfl (by kernel_rfl) (by kernel_rfl) (by kernel_rfl) (fun _ _ _ h => h) (by rfl) (by assumption) ?hya4s1 ?resta4s1
      case hya4s1 => (intro w hSw; (try dsimp only at hSw); first | (go_simp; done) | (go_simp; with_reducible rfl))
      simp only [Act.put, List.setIfInBounds_toArray, List.set_cons_zero, List.set_cons_succ]
      refine take_yes (i := 2) (v := ?va4s2) rfl (by kernel_rfl) (by kernel_rfl) (by kernel_rfl) (fun _ _ _ h => h) (by rfl) (by assumption) ?hya4s2 ?resta4s2
      case hya4s2 => (intro w hSw; (try dsimp only at hSw); first | (go_simp; done) | (go_simp; with_reducible rfl))
      simp only [Act.put, List.setIfInBounds_toArray, List.set_cons_zero, List.set_cons_succ]
      refine take_yes (i := 4) (v := ?va4s4) rfl (by kernel_rfl) (by kernel_rfl) (by kernel_rfl) (fun _ _ _ h => h) (by rfl) (by assumption) ?hya4s4 ?resta4s4
      case hya4s4 => (intro w hSw; (try dsimp only at hSw); first | (go_simp; done) | (go_simp; with_reducible rfl))
      simp only [Act.put, List.setIfInBounds_toArray, List.set_cons_zero, List.set_cons_succ]
      refine take_yes (i := 8) (v := ?va4s8) rfl (by kernel_rfl) (by kernel_rfl) (by kernel_rfl) (fun _ _ _ h => h) (by rfl) (by assumption) ?hya4s8 ?resta4s8
      case hya4s8 => (intro w hSw; (try dsimp only at hSw); first | (go_simp; done) | (go_simp; with_reducible rfl))
      simp only [Act.put, List.setIfInBounds_toArray, List.set_cons_zero, List.set_cons_succ]
      generalize W.drew.drew = V at x_z sl1 sl2 BB sV hHeld ⊢
      clear x1 x2 B1 dV x_a
      have BV := Below.refl V.heap.size V
      have zV : V.heap.size ≤ V.heap.size := Nat.le_refl _
      refine wpAnyH_ready (rs := [3, 7]) (by kernel_rfl) (by simp) (AllReadyH.cons (i := 3) rfl (fun Kc hK => ?_) (AllReadyH.cons (i := 7) rfl (fun Kc hK => ?_) AllReadyH.nil))
      · skip
        go_simp
        have bV1 : Below V.heap.size V (V.alloc (.cells #[] 57)) := (Below.refl _ _).alloc (Nat.le_refl _) _
        refine hK.out _ _ ⟨cell_on bV1 hHeld.1, cell_on bV1 hHeld.2.1, cell_on bV1 hHeld.2.2.1, also hHeld.2.2.2 bV1⟩ (fun hHeld => ?_)
        clear hK Kc
        have O1 : Own (V.alloc (.cells #[] 57)) V.heap.size 57 (some ⟨V.heap.size, 0, none⟩) 0 0 [] := eown V V.heap.size 57 (by omega)
        have sV1 : V.heap.size < (V.alloc (.cells #[] 57)).heap.size := by simp
        generalize V.alloc (.cells #[] 57) = V1 at bV1 O1 sV1 hHeld ⊢
        replace BV := BV.trans (bV1.mono (by omega))
        refine wpAnyH_ready (rs := [5, 7]) (by kernel_rfl) (by simp) (AllReadyH.cons (i := 5) rfl (fun Kc hK => ?_) (AllReadyH.cons (i := 7) rfl (fun Kc hK => ?_) AllReadyH.nil))
        · skip
          refine step_append_at rfl (.tmp 23) (.tmp 24) 23 rfl V.heap.size 57 i0 (.int .u32 0) 4 Tryd.underlying23 hi0 hz0 hz1 hz2 rfl _ 0 0 [] rfl O1 a la ca (wd.dcells la (u : Int)) rfl (sl1.below BV) (dcells_one _ _) (by unfold maxLen; have := HL.out; omega) (by have := HL.out; omega) (by omega) ?_
          intro a5 cap5 w5 own5 grow5 blk5
          have grow5' : V1.grownBy w5 (some V.heap.size) := grow5
          refine hK.out _ _ ⟨cell_far hHeld.1 grow5' (by omega), cell_far hHeld.2.1 grow5' (by omega), cell_far hHeld.2.2.1 grow5' (by omega), hHeld.2.2.2.grown grow5' hHeld.2.2.2.size (fun k e => by cases e; omega)⟩ (fun hHeld => ?_)
          clear hK Kc
          rw [Nat.zero_add, List.nil_append] at own5
          rw [Nat.zero_add] at blk5
          simp only [Nat.zero_add]
          have zz2 : V1.heap.size ≤ w5.heap.size := grow5.size
          replace BV := BV.grown grow5' BV.size (fun k e => by cases e; omega)
          refine take_yes (i := 6) (v := ?va4m26) rfl (by kernel_rfl) (by kernel_rfl) (by kernel_rfl) (fun _ _ _ h => h) (by rfl) (by assumption) ?hya4m26 ?resta4m26
          case hya4m26 => (intro w hSw; (try dsimp only at hSw); first | (go_simp; done) | (go_simp; with_reducible rfl))
          refine take_call (i := 7) rfl (by kernel_rfl) (fun Kc hK => ?_)
          go_simp
          have bV3 : Below w5.heap.size w5 (w5.alloc (.cells #[] 57)) := (Below.refl _ _).alloc (Nat.le_refl _) _
          refine hK.out _ _ ⟨cell_on bV3 hHeld.1, cell_on bV3 hHeld.2.1, cell_on bV3 hHeld.2.2.1, also hHeld.2.2.2 bV3⟩ (fun hHeld => ?_)
          clear hK Kc
          have O2 : Own (w5.alloc (.cells #[] 57)) V.heap.size 57 (some ⟨w5.heap.size, 0, none⟩) 0 0 [] := eown w5 V.heap.size 57 (by omega)
          have sV3 : w5.heap.size < (w5.alloc (.cells #[] 57)).heap.size := by simp
          generalize w5.alloc (.cells #[] 57) = V3 at bV3 O2 sV3 hHeld ⊢
          replace BV := BV.trans (bV3.mono (by omega))
          have lt5 : ∀ k, (Value.slice a5 la cap5).ownBlock = some k → k < w5.heap.size := fun k e => (Own.lt own5 e).2
          replace own5 := own5.below bV3
          have ne5 : (Value.slice a5 la cap5).ownBlock ≠ some w5.heap.size := fun e => by have := lt5 _ e; omega
          refine take_call (i := 9) rfl (by kernel_rfl) (fun Kc hK => ?_)
          refine step_append_at rfl (.tmp 27) (.tmp 28) 23 rfl V.heap.size 57 i0 (.int .u32 0) 4 Tryd.underlying23 hi0 hz0 hz1 hz2 rfl _ 0 0 [] rfl O2 d ld cd (wd.dcells ld (v : Int)) rfl (sl2.below BV) (dcells_one _ _) (by unfold maxLen; have := HM.out; omega) (by have := HM.out; omega) (by omega) ?_
          intro a9 cap9 w9 own9 grow9 blk9
          have grow9' : V3.grownBy w9 (some w5.heap.size) := grow9
          refine hK.out _ _ ⟨cell_far hHeld.1 grow9' (by omega), cell_far hHeld.2.1 grow9' (by omega), cell_far hHeld.2.2.1 grow9' (by omega), hHeld.2.2.2.grown grow9' hHeld.2.2.2.size (fun k e => by cases e; omega)⟩ (fun hHeld => ?_)
          clear hK Kc
          rw [Nat.zero_add, List.nil_append] at own9
          rw [Nat.zero_add] at blk9
          simp only [Nat.zero_add]
          replace own5 := Own.kept own5 grow9' ne5
          have zz4 : V3.heap.size ≤ w9.heap.size := grow9.size
          replace BV := BV.grown grow9' BV.size (fun k e => by cases e; omega)
          refine take_yes (i := 10) (v := ?va4n410) rfl (by kernel_rfl) (by kernel_rfl) (by kernel_rfl) (fun _ _ _ h => h) (by rfl) (by assumption) ?hya4n410 ?resta4n410
          case hya4n410 => (intro w hSw; (try dsimp only at hSw); first | (go_simp; done) | (go_simp; with_reducible rfl))
          simp only [Act.put, List.setIfInBounds_toArray, List.set_cons_zero, List.set_cons_succ]
          have ⟨y0, y1, y2, y3, y4, y5⟩ := x_z.on BV
          refine take_call (i := 11) rfl (by kernel_rfl) (fun Kc hK => ?_)
          go_simp
          refine hK.out _ _ ⟨cell_put3 hHeld.1 (by omega) _ _ _, cell_put3 hHeld.2.1 (by omega) _ _ _, cell_put3 hHeld.2.2.1 (by omega) _ _ _, below_put3 hHeld.2.2.2 (by omega) _ _ _⟩ (fun hHeld => ?_)
          clear hK Kc
          refine wpAnyH_done (by kernel_rfl) ?_ _
          go_wp2
          exact bodyPost_ret (v := .agg #[.bool n, .slice a5 la cap5, .slice a9 ld cap9]) (by simp [results, Tryd.results5, go_sem, *]) rfl (endCut5 (x := u) (y := v) (by have := HL.out; omega) (by have := HM.out; omega) HU.out HV.out own5 own9 (by omega) sV (also BB BV) _ _ _)
        · skip
          go_simp
          have bV5 : Below V1.heap.size V1 (V1.alloc (.cells #[] 57)) := (Below.refl _ _).alloc (Nat.le_refl _) _
          refine hK.out _ _ ⟨cell_on bV5 hHeld.1, cell_on bV5 hHeld.2.1, cell_on bV5 hHeld.2.2.1, also hHeld.2.2.2 bV5⟩ (fun hHeld => ?_)
          clear hK Kc
          have O2 : Own (V1.alloc (.cells #[] 57)) V.heap.size 57 (some ⟨V1.heap.size, 0, none⟩) 0 0 [] := eown V1 V.heap.size 57 (by omega)
          have sV5 : V1.heap.size < (V1.alloc (.cells #[] 57)).heap.size := by simp
          generalize V1.alloc (.cells #[] 57) = V5 at bV5 O2 sV5 hHeld ⊢
          replace BV := BV.trans (bV5.mono (by omega))
          replace O1 := O1.below bV5
          refine take_call (i := 5) rfl (by kernel_rfl) (fun Kc hK => ?_)
          refine step_append_at rfl (.tmp 23) (.tmp 24) 23 rfl V.heap.size 57 i0 (.int .u32 0) 4 Tryd.underlying23 hi0 hz0 hz1 hz2 rfl _ 0 0 [] rfl O1 a la ca (wd.dcells la (u : Int)) rfl (sl1.below BV) (dcells_one _ _) (by unfold maxLen; have := HL.out; omega) (by have := HL.out; omega) (by omega) ?_
          intro a5 cap5 w5 own5 grow5 blk5
          have grow5' : V5.grownBy w5 (some V.heap.size) := grow5
          refine hK.out _ _ ⟨cell_far hHeld.1 grow5' (by omega), cell_far hHeld.2.1 grow5' (by omega), cell_far hHeld.2.2.1 grow5' (by omega), hHeld.2.2.2.grown grow5' hHeld.2.2.2.size (fun k e => by cases e; omega)⟩ (fun hHeld => ?_)
          clear hK Kc
          rw [Nat.zero_add, List.nil_append] at own5
          rw [Nat.zero_add] at blk5
          simp only [Nat.zero_add]
          have ne2 : (Value.slice (some ⟨V1.heap.size, 0, none⟩) 0 0).ownBlock ≠ some V.heap.size := fun e => by have e : some V1.heap.size = some V.heap.size := e; simp only [Option.some.injEq] at e; omega
          replace O2 := Own.kept O2 grow5' ne2
          have ne5 : (Value.slice a5 la cap5).ownBlock ≠ some V1.heap.size := fun e => by
            rcases blk5 with q | q <;> rw [e] at q
            · have q : some V1.heap.size = some V.heap.size := q; simp only [Option.some.injEq] at q; omega
            · simp only [Option.some.injEq] at q; omega
          have zz6 : V5.heap.size ≤ w5.heap.size := grow5.size
          replace BV := BV.grown grow5' BV.size (fun k e => by cases e; omega)
          refine take_yes (i := 6) (v := ?va4m66) rfl (by kernel_rfl) (by kernel_rfl) (by kernel_rfl) (fun _ _ _ h => h) (by rfl) (by assumption) ?hya4m66 ?resta4m66
          case hya4m66 => (intro w hSw; (try dsimp only at hSw); first | (go_simp; done) | (go_simp; with_reducible rfl))
          simp only [Act.put, List.setIfInBounds_toArray, List.set_cons_zero, List.set_cons_succ]
          refine take_call (i := 9) rfl (by kernel_rfl) (fun Kc hK => ?_)
          refine step_append_at rfl (.tmp 27) (.tmp 28) 23 rfl V.heap.size 57 i0 (.int .u32 0) 4 Tryd.underlying23 hi0 hz0 hz1 hz2 rfl _ 0 0 [] rfl O2 d ld cd (wd.dcells ld (v : Int)) rfl (sl2.below BV) (dcells_one _ _) (by unfold maxLen; have := HM.out; omega) (by have := HM.out; omega) (by omega) ?_
          intro a9 cap9 w9 own9 grow9 blk9
          have grow9' : w5.grownBy w9 (some V1.heap.size) := grow9
          refine hK.out _ _ ⟨cell_far hHeld.1 grow9' (by omega), cell_far hHeld.2.1 grow9' (by omega), cell_far hHeld.2.2.1 grow9' (by omega), hHeld.2.2.2.grown grow9' hHeld.2.2.2.size (fun k e => by cases e; omega)⟩ (fun hHeld => ?_)
          clear hK Kc
          rw [Nat.zero_add, List.nil_append] at own9
          rw [Nat.zero_add] at blk9
          simp only [Nat.zero_add]
          replace own5 := Own.kept own5 grow9' ne5
          have zz7 : w5.heap.size ≤ w9.heap.size := grow9.size
          replace BV := BV.grown grow9' BV.size (fun k e => by cases e; omega)
          refine take_yes (i := 10) (v := ?va4n710) rfl (by kernel_rfl) (by kernel_rfl) (by kernel_rfl) (fun _ _ _ h => h) (by rfl) (by assumption) ?hya4n710 ?resta4n710
          case hya4n710 => (intro w hSw; (try dsimp only at hSw); first | (go_simp; done) | (go_simp; with_reducible rfl))
          simp only [Act.put, List.setIfInBounds_toArray, List.set_cons_zero, List.set_cons_succ]
          have ⟨y0, y1, y2, y3, y4, y5⟩ := x_z.on BV
          refine take_call (i := 11) rfl (by kernel_rfl) (fun Kc hK => ?_)
          go_simp
          refine hK.out _ _ ⟨cell_put3 hHeld.1 (by omega) _ _ _, cell_put3 hHeld.2.1 (by omega) _ _ _, cell_put3 hHeld.2.2.1 (by omega) _ _ _, below_put3 hHeld.2.2.2 (by omega) _ _ _⟩ (fun hHeld => ?_)
          clear hK Kc
          refine wpAnyH_done (by kernel_rfl) ?_ _
          go_wp2
          exact bodyPost_ret (v := .agg #[.bool n, .slice a5 la cap5, .slice a9 ld cap9]) (by simp [results, Tryd.results5, go_sem, *]) rfl (endCut5 (x := u) (y := v) (by have := HL.out; omega) (by have := HM.out; omega) HU.out HV.out own5 own9 (by omega) sV (also BB BV) _ _ _)
      · skip
        go_simp
        have bV8 : Below V.heap.size V (V.alloc (.cells #[] 57)) := (Below.refl _ _).alloc (Nat.le_refl _) _
        refine hK.out _ _ ⟨cell_on bV8 hHeld.1, cell_on bV8 hHeld.2.1, cell_on bV8 hHeld.2.2.1, also hHeld.2.2.2 bV8⟩ (fun hHeld => ?_)
        clear hK Kc
        have O2 : Own (V.alloc (.cells #[] 57)) V.heap.size 57 (some ⟨V.heap.size, 0, none⟩) 0 0 [] := eown V V.heap.size 57 (by omega)
        have sV8 : V.heap.size < (V.alloc (.cells #[] 57)).heap.size := by simp
        generalize V.alloc (.cells #[] 57) = V8 at bV8 O2 sV8 hHeld ⊢
        replace BV := BV.trans (bV8.mono (by omega))
        refine take_call (i := 3) rfl (by kernel_rfl) (fun Kc hK => ?_)
        go_simp
        have bV9 : Below V8.heap.size V8 (V8.alloc (.cells #[] 57)) := (Below.refl _ _).alloc (Nat.le_refl _) _
        refine hK.out _ _ ⟨cell_on bV9 hHeld.1, cell_on bV9 hHeld.2.1, cell_on bV9 hHeld.2.2.1, also hHeld.2.2.2 bV9⟩ (fun hHeld => ?_)
        clear hK Kc
        have O1 : Own (V8.alloc (.cells #[] 57)) V.heap.size 57 (some ⟨V8.heap.size, 0, none⟩) 0 0 [] := eown V8 V.heap.size 57 (by omega)
        have sV9 : V8.heap.size < (V8.alloc (.cells #[] 57)).heap.size := by simp
        generalize V8.alloc (.cells #[] 57) = V9 at bV9 O1 sV9 hHeld ⊢
        replace BV := BV.trans (bV9.mono (by omega))
        replace O2 := O2.below bV9
        refine take_call (i := 5) rfl (by kernel_rfl) (fun Kc hK => ?_)
        refine step_append_at rfl (.tmp 23) (.tmp 24) 23 rfl V.heap.size 57 i0 (.int .u32 0) 4 Tryd.underlying23 hi0 hz0 hz1 hz2 rfl _ 0 0 [] rfl O1 a la ca (wd.dcells la (u : Int)) rfl (sl1.below BV) (dcells_one _ _) (by unfold maxLen; have := HL.out; omega) (by have := HL.out; omega) (by omega) ?_
        intro a5 cap5 w5 own5 grow5 blk5
        have grow5' : V9.grownBy w5 (some V8.heap.size) := grow5
        refine hK.out _ _ ⟨cell_far hHeld.1 grow5' (by omega), cell_far hHeld.2.1 grow5' (by omega), cell_far hHeld.2.2.1 grow5' (by omega), hHeld.2.2.2.grown grow5' hHeld.2.2.2.size (fun k e => by cases e; omega)⟩ (fun hHeld => ?_)
        clear hK Kc
        rw [Nat.zero_add, List.nil_append] at own5
        rw [Nat.zero_add] at blk5
        simp only [Nat.zero_add]
        have ne2 : (Value.slice (some ⟨V.heap.size, 0, none⟩) 0 0).ownBlock ≠ some V8.heap.size := fun e => by have e : some V.heap.size = some V8.heap.size := e; simp only [Option.some.injEq] at e; omega
        replace O2 := Own.kept O2 grow5' ne2
        have ne5 : (Value.slice a5 la cap5).ownBlock ≠ some V.heap.size := fun e => by
          rcases blk5 with q | q <;> rw [e] at q
          · have q : some V.heap.size = some V8.heap.size := q; simp only [Option.some.injEq] at q; omega
          · simp only [Option.some.injEq] at q; omega
        have zz10 : V9.heap.size ≤ w5.heap.size := grow5.size
        replace BV := BV.grown grow5' BV.size (fun k e => by cases e; omega)
        refine take_yes (i := 6) (v := ?va4m106) rfl (by kernel_rfl) (by kernel_rfl) (by kernel_rfl) (fun _ _ _ h => h) (by rfl) (by assumption) ?hya4m106 ?resta4m106
        case hya4m106 => (intro w hSw; (try dsimp only at hSw); first | (go_simp; done) | (go_simp; with_reducible rfl))
        simp only [Act.put, List.setIfInBounds_toArray, List.set_cons_zero, List.set_cons_succ]
        refine take_call (i := 9) rfl (by kernel_rfl) (fun Kc hK => ?_)
        refine step_append_at rfl (.tmp 27) (.tmp 28) 23 rfl V.heap.size 57 i0 (.int .u32 0) 4 Tryd.underlying23 hi0 hz0 hz1 hz2 rfl _ 0 0 [] rfl O2 d ld cd (wd.dcells ld (v : Int)) rfl (sl2.below BV) (dcells_one _ _) (by unfold maxLen; have := HM.out; omega) (by have := HM.out; omega) (by omega) ?_
        intro a9 cap9 w9 own9 grow9 blk9
        have grow9' : w5.grownBy w9 (some V.heap.size) := grow9
        refine hK.out _ _ ⟨cell_far hHeld.1 grow9' (by omega), cell_far hHeld.2.1 grow9' (by omega), cell_far hHeld.2.2.1 grow9' (by omega), hHeld.2.2.2.grown grow9' hHeld.2.2.2.size (fun k e => by cases e; omega)⟩ (fun hHeld => ?_)
        clear hK Kc
        rw [Nat.zero_add, List.nil_append] at own9
        rw [Nat.zero_add] at blk9
        simp only [Nat.zero_add]
        replace own5 := Own.kept own5 grow9' ne5
        have zz11 : w5.heap.size ≤ w9.heap.size := grow9.size
        replace BV := BV.grown grow9' BV.size (fun k e => by cases e; omega)
        refine take_yes (i := 10) (v := ?va4n1110) rfl (by kernel_rfl) (by kernel_rfl) (by kernel_rfl) (fun _ _ _ h => h) (by rfl) (by assumption) ?hya4n1110 ?resta4n1110
        case hya4n1110 => (intro w hSw; (try dsimp only at hSw); first | (go_simp; done) | (go_simp; with_reducible rfl))
        simp only [Act.put, List.setIfInBounds_toArray, List.set_cons_zero, List.set_cons_succ]
        have ⟨y0, y1, y2, y3, y4, y5⟩ := x_z.on BV
        refine take_call (i := 11) rfl (by kernel_rfl) (fun Kc hK => ?_)
        go_simp
        refine hK.out _ _ ⟨cell_put3 hHeld.1 (by omega) _ _ _, cell_put3 hHeld.2.1 (by omega) _ _ _, cell_put3 hHeld.2.2.1 (by omega) _ _ _, below_put3 hHeld.2.2.2 (by omega) _ _ _⟩ (fun hHeld => ?_)
        clear hK Kc
        refine wpAnyH_done (by kernel_rfl) ?_ _
        go_wp2
        exact bodyPost_ret (v := .agg #[.bool n, .slice a5 la cap5, .slice a9 ld cap9]) (by simp [results, Tryd.results5, go_sem, *]) rfl (endCut5 (x := u) (y := v) (by have := HL.out; omega) (by have := HM.out; omega) HU.out HV.out own5 own9 (by omega) sV (also BB BV) _ _ _)
end Go.Proofs.YtaekgomplkkocaaDoor

namespace Go.Proofs.YtaekgomplkkocaaDoor
open Go.ChangeShapes Go.WideShapes Go.ChangeAt Go.RowKit Go.Joins
set_option linter.unusedVariables false

theorem cellsRat : Tryd.prog.cellsOf 27 = 3 := by kernel_rfl
theorem cellsNat' : Tryd.prog.cellsOf 23 = 1 := by kernel_rfl
theorem cellsBool' : Tryd.prog.cellsOf 4 = 1 := by kernel_rfl
set_option maxRecDepth 100000 in
theorem rat_view {H : Type} {enc : TypeId × Value → H} {W : World} {b0 : Nat} {v : Value} {d : DataW H} {p : List MemPlace} (hv : Value.okWide Tryd.prog W .any b0 27 v)
    (h : DataW.Trod enc Tryd.prog W 0 (fun _ => true) true 27 v d p) (hfz : W.noneFrozen p) (hlt : ∀ x ∈ p, x.block < W.heap.size) :
    ∃ (n : Bool) (a : Option Addr) (l c u : Nat) (d : Option Addr) (m k v' : Nat), v = .agg #[.bool n, .slice a l c, .slice d m k] ∧ u < 4294967296 ^ l ∧ Sl W a l c (wd.dcells l (u : Int)) ∧ v' < 4294967296 ^ m ∧ Sl W d m k (wd.dcells m (v' : Int)) := by
  obtain ⟨cs, rfl, hsz⟩ := okWide_struct Tryd.underlying27 hv
  obtain ⟨c0, c1, c2, rfl⟩ := array3 (hsz.trans cellsRat)
  obtain ⟨fuel, hf⟩ := h
  obtain ⟨y0, y1, m, hx, _, h0, h1⟩ := trod_struct2 Tryd.underlying27 hf
  simp only [Prod.mk.injEq] at hx
  obtain ⟨_, rfl⟩ := hx
  have h0' : DataW.trod enc Tryd.prog W 0 (fun _ => true) true m 25 [c0, c1] = some y0 := by simpa [Value.cells, cellsInt] using h0
  have h1' : DataW.trod enc Tryd.prog W 0 (fun _ => true) true m 23 [c2] = some y1 := by simpa [Value.cells, cellsNat'] using h1
  cases m with
  | zero => simp [DataW.trod] at h1'
  | succ m =>
    obtain ⟨z0, z1, k, hy, _, h2, h3⟩ := trod_struct2 Tryd.underlying25 h0'
    have h2' : DataW.trod enc Tryd.prog W 0 (fun _ => true) true k 4 [c0] = some z0 := by simpa [cellsBool'] using h2
    have h3' : DataW.trod enc Tryd.prog W 0 (fun _ => true) true k 23 [c1] = some z1 := by simpa [cellsNat'] using h3
    obtain ⟨n, ex, _⟩ := DataW.trod_bool Tryd.underlying4 h2'
    obtain ⟨a, l, c, ey⟩ := slice_form Tryd.underlying23 h3'
    obtain ⟨d', m', k', ez⟩ := slice_form Tryd.underlying23 h1'
    simp at ex ey ez
    subst ex ey ez
    subst hy
    obtain ⟨zd, zp⟩ := z1
    obtain ⟨yd, yp⟩ := y1
    obtain ⟨u, hu, hs⟩ := nat_view (d := zd) (p := zp) (by simpa [Value.cells] using h3') (fun b o hm => hfz b o (by simp [hm])) (fun z hz => hlt z (by simp [hz]))
    obtain ⟨v', hv', hs'⟩ := nat_view (d := yd) (p := yp) (by simpa [Value.cells] using h1') (fun b o hm => hfz b o (by simp [hm])) (fun z hz => hlt z (by simp [hz]))
    exact ⟨n, a, l, c, u, d', m', k', v', rfl, hu, hs, hv', hs'⟩
end Go.Proofs.YtaekgomplkkocaaDoor

namespace Go.Proofs.YtaekgomplkkocaaDoor
open Go.RowKit
set_option linter.unusedVariables false

def GotTwo (w : World) (x y : Int) (e : Ending) (w' : World) : Prop := ∃ (n : Bool) (a : Option Addr) (l c : Nat) (m : Bool) (b : Option Addr) (k g : Nat), e = .returned (.tuple #[.agg #[.bool n, .slice a l c], .agg #[.bool m, .slice b k g]]) ∧ WN w' n a l c x ∧ WN w' m b k g y ∧ Below w.heap.size w w'
theorem endTwo {w w2 : World} {n : Bool} {a : Option Addr} {l c : Nat} {m : Bool} {b : Option Addr} {k g : Nat} {x y : Int} (p : Nat) (hp : w.heap.size ≤ p) (B : Below w.heap.size w w2) (h1 : WN w2 n a l c x) (h2 : WN w2 m b k g y) (f1 : Far (p + 2) a l) (f2 : Far (p + 2) b k) (u v u' v' : Value) :
    GotTwo w x y (.returned (.tuple #[.agg #[.bool n, .slice a l c], .agg #[.bool m, .slice b k g]])) ((((w2.setCell ⟨p, 0, none⟩ u).setCell ⟨p, 1, none⟩ v).setCell ⟨p + 1, 0, none⟩ u').setCell ⟨p + 1, 1, none⟩ v') :=
  ⟨n, a, l, c, m, b, k, g, rfl, (h1.put2 (f1 _ (by omega)) _ _).put2 (f1 _ (by omega)) _ _, (h2.put2 (f2 _ (by omega)) _ _).put2 (f2 _ (by omega)) _ _, below_put2 (below_put2 B hp _ _) (by omega) _ _⟩
theorem abs_add' {X Y : Int} {K : Nat} (h1 : X.natAbs < 4294967296 ^ K) (h2 : Y.natAbs < 4294967296 ^ K) : (X + Y).natAbs < 4294967296 ^ (K + 1) := by
  have := Int.natAbs_add_le X Y
  rw [Nat.pow_succ]
  omega
theorem abs_mul' {X Y : Int} {K L : Nat} (h1 : X.natAbs < 4294967296 ^ K) (h2 : Y.natAbs < 4294967296 ^ L) : (X * Y).natAbs < 4294967296 ^ (K + L) := by
  rw [Int.natAbs_mul, Nat.pow_add]
  exact Nat.mul_lt_mul_of_lt_of_le h1 (Nat.le_of_lt h2) (Nat.pow_pos (by decide))
theorem nat_mul' {X Y : Nat} {K L : Nat} (h1 : X < 4294967296 ^ K) (h2 : Y < 4294967296 ^ L) : X * Y < 4294967296 ^ (K + L) := by
  rw [Nat.pow_add]
  exact Nat.mul_lt_mul_of_lt_of_le h1 (Nat.le_of_lt h2) (Nat.pow_pos (by decide))
theorem QI.pn {w : World} {K : Nat} {n : Bool} {a : Option Addr} {l c : Nat} {d : Option Addr} {m k : Nat} {z : Int} {D : Nat} (h : QI w K n a l c d m k z D) : (pN z D).natAbs < 4294967296 ^ K := by
  unfold pN
  split
  · exact Nat.pow_pos (by decide)
  · exact h.zs
theorem QI.pd {w : World} {K : Nat} {n : Bool} {a : Option Addr} {l c : Nat} {d : Option Addr} {m k : Nat} {z : Int} {D : Nat} (h : QI w K n a l c d m k z D) : pD D < 4294967296 ^ K := by
  unfold pD
  split
  · exact Nat.lt_of_lt_of_le (show 1 < 4294967296 ^ 1 by decide) (Nat.pow_le_pow_right (by decide) h.k1)
  · exact h.ds
theorem abs_sub' {X Y : Int} {K : Nat} (h1 : X.natAbs < 4294967296 ^ K) (h2 : Y.natAbs < 4294967296 ^ K) : (X - Y).natAbs < 4294967296 ^ (K + 1) := by
  have := Int.natAbs_sub_le X Y
  rw [Nat.pow_succ]
  omega
set_option maxRecDepth 100000 in
set_option maxHeartbeats 1000000 in
theorem qAlike (n : Bool) (a : Option Addr) (la ca : Nat) (d : Option Addr) (ld cd : Nat) (za : Int) (Da : Nat) (m : Bool) (b : Option Addr) (lb cb : Nat) (g : Option Addr) (lg cg : Nat) (zb : Int) (Db : Nat) (K : Nat) (w : World) (ha : QI w K n a la ca d ld cd za Da) (hb : QI w K m b lb cb g lg cg zb Db) :
    Calls Tryd.prog 29 #[.agg #[.bool n, .slice a la ca, .slice d ld cd], .agg #[.bool m, .slice b lb cb, .slice g lg cg]] w (GotTwo w (pN za Da * (pD Db : Int)) (pN zb Db * (pD Da : Int))) := by
  obtain ⟨W, hW, bW, x_a, x_b, x_p, x_q, sW⟩ := bs_3322 w (.bool n) (.slice a la ca) (.slice d ld cd) (.bool m) (.slice b lb cb) (.slice g lg cg) (.bool false) (.slice none 0 0) (.bool false) (.slice none 0 0) 27 27 25 25
  have zbW := bW.size
  replace ha := ha.below bW
  replace hb := hb.below bW
  have BB := bW
  go_enter Tryd.func29, Tryd.ntmps29
  go_wp2_with (go_at_call 33; fail)
  rw [← hW]
  clear hW
  refine (qParts n a la ca d ld cd za Da K W ha).mono ?_
  rintro e w1 ⟨n1, a1, l1, c1, d1, m1, k1, rfl, h1, bw1⟩
  have zbw1 := bw1.size
  replace ha := ha.below bw1
  replace hb := hb.below bw1
  replace BB := also BB bw1
  replace x_a := x_a.on bw1
  replace x_b := x_b.on bw1
  replace x_p := x_p.on bw1
  replace x_q := x_q.on bw1
  obtain ⟨V1, hV1, bV1, x_r, sV1⟩ := bs_2 w1 (.bool n1) (.slice a1 l1 c1) 25
  have zbV1 := bV1.size
  replace ha := ha.below bV1
  replace hb := hb.below bV1
  replace BB := also BB bV1
  replace x_a := x_a.on bV1
  replace x_b := x_b.on bV1
  replace x_p := x_p.on bV1
  replace x_q := x_q.on bV1
  replace h1 := h1.below bV1
  have st_b_0 : (w1.alloc (.cells #[.bool n1, .slice a1 l1 c1] 25)).cell? ⟨w.heap.size + 1, 0, none⟩ = some (.bool m) := by rw [← hV1]; exact x_b.c0
  have st_b_1 : (w1.alloc (.cells #[.bool n1, .slice a1 l1 c1] 25)).cell? ⟨w.heap.size + 1, 1, none⟩ = some (.slice b lb cb) := by rw [← hV1]; exact x_b.c1
  have st_b_2 : (w1.alloc (.cells #[.bool n1, .slice a1 l1 c1] 25)).cell? ⟨w.heap.size + 1, 2, none⟩ = some (.slice g lg cg) := by rw [← hV1]; exact x_b.c2
  have sf_b_0 : (w1.alloc (.cells #[.bool n1, .slice a1 l1 c1] 25)).frozen? ⟨w.heap.size + 1, 0, none⟩ = false := by rw [← hV1]; exact x_b.f0
  have sf_b_1 : (w1.alloc (.cells #[.bool n1, .slice a1 l1 c1] 25)).frozen? ⟨w.heap.size + 1, 1, none⟩ = false := by rw [← hV1]; exact x_b.f1
  have sf_b_2 : (w1.alloc (.cells #[.bool n1, .slice a1 l1 c1] 25)).frozen? ⟨w.heap.size + 1, 2, none⟩ = false := by rw [← hV1]; exact x_b.f2
  go_wp2_with (go_at_call 33; fail)
  rw [← hV1]
  clear hV1 st_b_0 st_b_1 st_b_2 sf_b_0 sf_b_1 sf_b_2
  refine (qParts m b lb cb g lg cg zb Db K V1 hb).mono ?_
  rintro e w2 ⟨n2, a2, l2, c2, d2, m2, k2, rfl, h2, bw2⟩
  have zbw2 := bw2.size
  replace ha := ha.below bw2
  replace hb := hb.below bw2
  replace BB := also BB bw2
  replace x_a := x_a.on bw2
  replace x_b := x_b.on bw2
  replace x_p := x_p.on bw2
  replace x_q := x_q.on bw2
  replace h1 := h1.below bw2
  replace x_r := x_r.on bw2
  obtain ⟨V2, hV2, bV2, x_s, sV2⟩ := bs_2 w2 (.bool n2) (.slice a2 l2 c2) 25
  have zbV2 := bV2.size
  replace ha := ha.below bV2
  replace hb := hb.below bV2
  replace BB := also BB bV2
  replace x_a := x_a.on bV2
  replace x_b := x_b.on bV2
  replace x_p := x_p.on bV2
  replace x_q := x_q.on bV2
  replace h1 := h1.below bV2
  replace x_r := x_r.on bV2
  replace h2 := h2.below bV2
  have st_r_0 : (w2.alloc (.cells #[.bool n2, .slice a2 l2 c2] 25)).cell? ⟨w1.heap.size, 0, none⟩ = some (.bool n1) := by rw [← hV2]; exact x_r.c0
  have st_r_1 : (w2.alloc (.cells #[.bool n2, .slice a2 l2 c2] 25)).cell? ⟨w1.heap.size, 1, none⟩ = some (.slice a1 l1 c1) := by rw [← hV2]; exact x_r.c1
  have sf_r_0 : (w2.alloc (.cells #[.bool n2, .slice a2 l2 c2] 25)).frozen? ⟨w1.heap.size, 0, none⟩ = false := by rw [← hV2]; exact x_r.f0
  have sf_r_1 : (w2.alloc (.cells #[.bool n2, .slice a2 l2 c2] 25)).frozen? ⟨w1.heap.size, 1, none⟩ = false := by rw [← hV2]; exact x_r.f1
  go_wp2
  rw [← hV2]
  clear hV2 st_r_0 st_r_1 sf_r_0 sf_r_1
  have dd1 : Below V2.heap.size V2 V2.drew := (Below.refl _ _).drew
  have zdd1 := dd1.size
  replace ha := ha.below dd1
  replace hb := hb.below dd1
  replace BB := also BB dd1
  replace x_a := x_a.on dd1
  replace x_b := x_b.on dd1
  replace x_p := x_p.on dd1
  replace x_q := x_q.on dd1
  replace h1 := h1.below dd1
  replace x_r := x_r.on dd1
  replace h2 := h2.below dd1
  replace x_s := x_s.on dd1
  refine wp_region_held_drew (S := (fun w' => w'.cell? ⟨w1.heap.size, 0, none⟩ = some (.bool n1) ∧ w'.cell? ⟨w1.heap.size, 1, none⟩ = some (.slice a1 l1 c1) ∧ w'.cell? ⟨w2.heap.size, 0, none⟩ = some (.bool n2) ∧ w'.cell? ⟨w2.heap.size, 1, none⟩ = some (.slice a2 l2 c2) ∧ Below w.heap.size w w')) (by kernel_rfl) ?_ (fun hHeld => ?_)
  · first | exact ⟨x_r.c0, x_r.c1, x_s.c0, x_s.c1, BB⟩ | exact ⟨cell_on bw6 hHeld.1, cell_on bw6 hHeld.2.1, cell_on bw6 hHeld.2.2.1, cell_on bw6 hHeld.2.2.2.1, also hHeld.2.2.2.2 bw6⟩ | exact ⟨cell_on bw5 hHeld.1, cell_on bw5 hHeld.2.1, cell_on bw5 hHeld.2.2.1, cell_on bw5 hHeld.2.2.2.1, also hHeld.2.2.2.2 bw5⟩ | exact ⟨cell_put2 hHeld.1 (by omega) _ _, cell_put2 hHeld.2.1 (by omega) _ _, cell_put2 hHeld.2.2.1 (by omega) _ _, cell_put2 hHeld.2.2.2.1 (by omega) _ _, below_put2 hHeld.2.2.2.2 (by omega) _ _⟩
  refine take_yes (i := 0) (v := ?vr0) rfl (by kernel_rfl) (by kernel_rfl) (by kernel_rfl) (fun _ _ _ h => h) (by rfl) (by assumption) ?hyr0 ?restr0
  case hyr0 => (intro w hSw; (try dsimp only at hSw); first | (go_simp; done) | (go_simp; with_reducible rfl))
  simp only [Act.put, List.setIfInBounds_toArray, List.set_cons_zero, List.set_cons_succ]
  refine take_yes (i := 1) (v := ?vr1) rfl (by kernel_rfl) (by kernel_rfl) (by kernel_rfl) (fun _ _ _ h => h) (by rfl) (by assumption) ?hyr1 ?restr1
  case hyr1 => (intro w hSw; (try dsimp only at hSw); first | (go_simp; done) | (go_simp; with_reducible rfl))
  simp only [Act.put, List.setIfInBounds_toArray, List.set_cons_zero, List.set_cons_succ]
  refine take_yes (i := 2) (v := ?vr2) rfl (by kernel_rfl) (by kernel_rfl) (by kernel_rfl) (fun _ _ _ h => h) (by rfl) (by assumption) ?hyr2 ?restr2
  case hyr2 => (intro w hSw; (try dsimp only at hSw); first | (go_simp; done) | (go_simp; with_reducible rfl))
  simp only [Act.put, List.setIfInBounds_toArray, List.set_cons_zero, List.set_cons_succ]
  refine take_yes (i := 4) (v := ?vr4) rfl (by kernel_rfl) (by kernel_rfl) (by kernel_rfl) (fun _ _ _ h => h) (by rfl) (by assumption) ?hyr4 ?restr4
  case hyr4 => (intro w hSw; (try dsimp only at hSw); first | (go_simp; done) | (go_simp; with_reducible rfl))
  simp only [Act.put, List.setIfInBounds_toArray, List.set_cons_zero, List.set_cons_succ]
  refine take_yes (i := 5) (v := ?vr5) rfl (by kernel_rfl) (by kernel_rfl) (by kernel_rfl) (fun _ _ _ h => h) (by rfl) (by assumption) ?hyr5 ?restr5
  case hyr5 => (intro w hSw; (try dsimp only at hSw); first | (go_simp; done) | (go_simp; with_reducible rfl))
  simp only [Act.put, List.setIfInBounds_toArray, List.set_cons_zero, List.set_cons_succ]
  refine take_yes (i := 6) (v := ?vr6) rfl (by kernel_rfl) (by kernel_rfl) (by kernel_rfl) (fun _ _ _ h => h) (by rfl) (by assumption) ?hyr6 ?restr6
  case hyr6 => (intro w hSw; (try dsimp only at hSw); first | (go_simp; done) | (go_simp; with_reducible rfl))
  simp only [Act.put, List.setIfInBounds_toArray, List.set_cons_zero, List.set_cons_succ]
  refine take_call (i := 3) rfl (by kernel_rfl) (fun Kc hK => ?_)
  go_simp
  (go_at_call 51; refine (wMul n1 false a1 d2 l1 m2 c1 k2 _ _ _ h1.wi (wi_nat h2.ni) (pN za Da * (pD Db : Int)) rfl).mono ?_; rintro e w5 ⟨n5, a5, l5, c5, rfl, h5, f5, bw5⟩)
  refine hK.out _ _ ?_ (fun hHeld => ?_)
  · first | exact ⟨x_r.c0, x_r.c1, x_s.c0, x_s.c1, BB⟩ | exact ⟨cell_on bw6 hHeld.1, cell_on bw6 hHeld.2.1, cell_on bw6 hHeld.2.2.1, cell_on bw6 hHeld.2.2.2.1, also hHeld.2.2.2.2 bw6⟩ | exact ⟨cell_on bw5 hHeld.1, cell_on bw5 hHeld.2.1, cell_on bw5 hHeld.2.2.1, cell_on bw5 hHeld.2.2.2.1, also hHeld.2.2.2.2 bw5⟩ | exact ⟨cell_put2 hHeld.1 (by omega) _ _, cell_put2 hHeld.2.1 (by omega) _ _, cell_put2 hHeld.2.2.1 (by omega) _ _, cell_put2 hHeld.2.2.2.1 (by omega) _ _, below_put2 hHeld.2.2.2.2 (by omega) _ _⟩
  clear hK Kc
  have zbw5 := bw5.size
  replace ha := ha.below bw5
  replace hb := hb.below bw5
  replace BB := also BB bw5
  replace x_a := x_a.on bw5
  replace x_b := x_b.on bw5
  replace x_p := x_p.on bw5
  replace x_q := x_q.on bw5
  replace h1 := h1.below bw5
  replace x_r := x_r.on bw5
  replace h2 := h2.below bw5
  replace x_s := x_s.on bw5
  refine take_call (i := 7) rfl (by kernel_rfl) (fun Kc hK => ?_)
  go_simp
  (go_at_call 51; refine (wMul n2 false a2 d1 l2 m1 c2 k1 _ _ _ h2.wi (wi_nat h1.ni) (pN zb Db * (pD Da : Int)) rfl).mono ?_; rintro e w6 ⟨n6, a6, l6, c6, rfl, h6, f6, bw6⟩)
  refine hK.out _ _ ?_ (fun hHeld => ?_)
  · first | exact ⟨x_r.c0, x_r.c1, x_s.c0, x_s.c1, BB⟩ | exact ⟨cell_on bw6 hHeld.1, cell_on bw6 hHeld.2.1, cell_on bw6 hHeld.2.2.1, cell_on bw6 hHeld.2.2.2.1, also hHeld.2.2.2.2 bw6⟩ | exact ⟨cell_on bw5 hHeld.1, cell_on bw5 hHeld.2.1, cell_on bw5 hHeld.2.2.1, cell_on bw5 hHeld.2.2.2.1, also hHeld.2.2.2.2 bw5⟩ | exact ⟨cell_put2 hHeld.1 (by omega) _ _, cell_put2 hHeld.2.1 (by omega) _ _, cell_put2 hHeld.2.2.1 (by omega) _ _, cell_put2 hHeld.2.2.2.1 (by omega) _ _, below_put2 hHeld.2.2.2.2 (by omega) _ _⟩
  clear hK Kc
  have zbw6 := bw6.size
  replace ha := ha.below bw6
  replace hb := hb.below bw6
  replace BB := also BB bw6
  replace x_a := x_a.on bw6
  replace x_b := x_b.on bw6
  replace x_p := x_p.on bw6
  replace x_q := x_q.on bw6
  replace h1 := h1.below bw6
  replace x_r := x_r.on bw6
  replace h2 := h2.below bw6
  replace x_s := x_s.on bw6
  replace h5 := h5.below bw6
  have ⟨x_p_0, x_p_1, x_p_2, x_p_3⟩ := x_p
  have ⟨x_q_0, x_q_1, x_q_2, x_q_3⟩ := x_q
  refine take_call (i := 8) rfl (by kernel_rfl) (fun Kc hK => ?_)
  go_simp
  refine hK.out _ _ ?_ (fun hHeld => ?_)
  · first | exact ⟨x_r.c0, x_r.c1, x_s.c0, x_s.c1, BB⟩ | exact ⟨cell_on bw6 hHeld.1, cell_on bw6 hHeld.2.1, cell_on bw6 hHeld.2.2.1, cell_on bw6 hHeld.2.2.2.1, also hHeld.2.2.2.2 bw6⟩ | exact ⟨cell_on bw5 hHeld.1, cell_on bw5 hHeld.2.1, cell_on bw5 hHeld.2.2.1, cell_on bw5 hHeld.2.2.2.1, also hHeld.2.2.2.2 bw5⟩ | exact ⟨cell_put2 hHeld.1 (by omega) _ _, cell_put2 hHeld.2.1 (by omega) _ _, cell_put2 hHeld.2.2.1 (by omega) _ _, cell_put2 hHeld.2.2.2.1 (by omega) _ _, below_put2 hHeld.2.2.2.2 (by omega) _ _⟩
  clear hK Kc
  refine take_call (i := 9) rfl (by kernel_rfl) (fun Kc hK => ?_)
  go_simp
  refine hK.out _ _ ?_ (fun hHeld => ?_)
  · first | exact ⟨x_r.c0, x_r.c1, x_s.c0, x_s.c1, BB⟩ | exact ⟨cell_on bw6 hHeld.1, cell_on bw6 hHeld.2.1, cell_on bw6 hHeld.2.2.1, cell_on bw6 hHeld.2.2.2.1, also hHeld.2.2.2.2 bw6⟩ | exact ⟨cell_on bw5 hHeld.1, cell_on bw5 hHeld.2.1, cell_on bw5 hHeld.2.2.1, cell_on bw5 hHeld.2.2.2.1, also hHeld.2.2.2.2 bw5⟩ | exact ⟨cell_put2 hHeld.1 (by omega) _ _, cell_put2 hHeld.2.1 (by omega) _ _, cell_put2 hHeld.2.2.1 (by omega) _ _, cell_put2 hHeld.2.2.2.1 (by omega) _ _, below_put2 hHeld.2.2.2.2 (by omega) _ _⟩
  clear hK Kc
  refine wpAnyH_done (by kernel_rfl) ?_ _
  go_wp2
  exact bodyPost_ret (v := .tuple #[.agg #[.bool n5, .slice a5 l5 c5], .agg #[.bool n6, .slice a6 l6 c6]]) (by simp [results, Tryd.results29, go_sem, *]) rfl (endTwo _ (by omega) BB h5 h6 (f5.mono (by omega)) (f6.mono (by omega)) _ _ _ _)
set_option maxRecDepth 100000 in
set_option maxHeartbeats 1000000 in
theorem qNorm (n : Bool) (a : Option Addr) (la ca : Nat) (d : Option Addr) (ld cd : Nat) (za : Int) (Da : Nat) (K : Nat) (w : World) (ha : QI w K n a la ca d ld cd za Da) (N : Int) (E : Nat) (hN : N = lowN (pN za Da) (pD Da)) (hE : E = lowD (pN za Da) (pD Da)) :
    Calls Tryd.prog 45 #[.agg #[.bool n, .slice a la ca, .slice d ld cd]] w (GotQ w N E) := by
  have HN : Hid _ := hN
  have HE : Hid _ := hE
  clear hN hE
  obtain ⟨W, hW, bW, x_a, x_z, sW⟩ := bs_33 w (.bool n) (.slice a la ca) (.slice d ld cd) (.bool false) (.slice none 0 0) (.slice none 0 0) 27 27
  have zbW := bW.size
  replace ha := ha.below bW
  have BB := bW
  go_enter Tryd.func45, Tryd.ntmps45
  go_wp2_with (go_at_call 33; fail)
  rw [← hW]
  clear hW
  refine (qParts n a la ca d ld cd za Da K W ha).mono ?_
  rintro e w1 ⟨n1, a1, l1, c1, d1, m1, k1, rfl, h1, bw1⟩
  have zbw1 := bw1.size
  replace ha := ha.below bw1
  replace BB := also BB bw1
  replace x_a := x_a.on bw1
  replace x_z := x_z.on bw1
  go_wp2_with (go_at_call 18; fail)
  refine (qLow n1 a1 l1 c1 _ d1 m1 k1 _ w1 h1.wi h1.ni (pD_pos _) N E HN.out HE.out).mono ?_
  rintro e w3 ⟨n3, a3, l3, c3, d3, m3, k3, rfl, h3, f3, g3, bw3⟩
  have zbw3 := bw3.size
  replace ha := ha.below bw3
  replace BB := also BB bw3
  replace x_a := x_a.on bw3
  replace x_z := x_z.on bw3
  replace h1 := h1.below bw3
  have ⟨x_z_0, x_z_1, x_z_2, x_z_3, x_z_4, x_z_5⟩ := x_z
  go_wp2
  exact bodyPost_ret (v := .agg #[.bool n3, .slice a3 l3 c3, .slice d3 m3 k3]) (by simp [results, Tryd.results45, go_sem, *]) rfl (endQ _ (by omega) BB h3 (f3.mono (by omega)) (g3.mono (by omega)) _ _ _)
end Go.Proofs.YtaekgomplkkocaaDoor
