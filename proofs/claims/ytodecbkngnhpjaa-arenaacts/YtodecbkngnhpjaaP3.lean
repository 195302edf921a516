/-
  Joined texts, part 3:
  The landed arena: what a place holds, the chain of those that came back; what isOut and cameBehind answer.
  The landed arena does what an arena must: New, Clear, Take, Free, All.
  ArenaFew's and ArenaNone's walks, of what arena must do.
-/
import Derived.Test.YtodecbkngnhpjaaP2
import Derived.Test.YtodecbkngnhpjaaP1
namespace Go.Proofs.Ytodecbkngnhpjaa
open Go.RowKit
set_option linter.unusedVariables false

abbrev outV : Value := .iface 38 (.agg #[])
abbrev backV (b : Int) : Value := .iface 42 (.agg #[.int .i64 b])
/-- Those that came back, the last one first: each one's place tells the one ahead of it. -/
def Chain (V : List Value) : Int → List Int → Prop
  | _, [] => True
  | z, x :: r => z = x ∧ ∃ b, V[x.toNat]? = some (backV b) ∧ Chain V b r
theorem Chain.mem {V : List Value} : ∀ {B : List Int} {z : Int}, Chain V z B → ∀ x ∈ B, ∃ b, V[x.toNat]? = some (backV b)
  | [], _, _, x, h => by cases h
  | y :: r, z, hc, x, h => by
    obtain ⟨_, b, hb, hr⟩ := hc
    rcases List.mem_cons.1 h with rfl | h
    · exact ⟨b, hb⟩
    · exact hr.mem x h
theorem Chain.set {V : List Value} {n : Nat} {u : Value} : ∀ {B : List Int} {z : Int}, Chain V z B → (∀ x ∈ B, x.toNat ≠ n) → Chain (V.set n u) z B
  | [], _, _, _ => trivial
  | y :: r, z, hc, h => by
    obtain ⟨e, b, hb, hr⟩ := hc
    refine ⟨e, b, ?_, hr.set (fun x hx => h x (List.mem_cons_of_mem _ hx))⟩
    rw [List.getElem?_set_ne (fun q => h y (List.mem_cons_self) q.symm)]
    exact hb
/-- The landed arena at p. -/
structure ArP (base p : Nat) (L B : List Int) (T : Nat) (F : Nat → Prop) (w : World) : Prop where
  ex : ∃ (a : Option Addr) (c : Nat) (z : Int) (V : List Value), Row w p [.slice a T c, .int .i64 (L.length : Int), .int .i64 z] ∧ Own w base 20 a T c V ∧ F p ∧ (∀ k, Slot a k → F k ∧ k ≠ p) ∧ (∀ x ∈ L, V[x.toNat]? = some outV) ∧ Chain V z B.reverse
  ft : ∀ k, F k → base ≤ k ∧ k < w.heap.size
  ok : ArOk L B T
  all : ∀ x : Int, 0 ≤ x → x < T → x ∈ L ∨ x ∈ B
theorem ArP.keep {base p : Nat} {L B : List Int} {T : Nat} {F G : Nat → Prop} {w w' : World} (h : ArP base p L B T F w) (hk : Keep G w w') (hd : ∀ k, F k → ¬ G k) : ArP base p L B T F w' := by
  obtain ⟨a, c, z, V, hrow, ha, hp, hFa, hL, hB⟩ := h.ex
  exact ⟨⟨a, c, z, V, hrow.keep hk hrow.lt (hd p hp), ha.keep hk (fun k s => hd k (hFa k s).1), hp, hFa, hL, hB⟩, fun k hF => ⟨(h.ft k hF).1, Nat.lt_of_lt_of_le (h.ft k hF).2 hk.size⟩, h.ok, h.all⟩
theorem as_out (w : World) : (Instr.typeAssert outV 20 38 true).run Try.prog w = .ok (.tuple #[.agg #[], .bool true]) w := by kernel_rfl
theorem as_back (b : Int) (w : World) : (Instr.typeAssert (backV b) 20 38 true).run Try.prog w = .ok (.tuple #[.agg #[], .bool false]) w := by kernel_rfl
theorem back_of (b : Int) (w : World) : (Instr.typeAssert (backV b) 20 42 false).run Try.prog w = .ok (.agg #[.int .i64 b]) w := by kernel_rfl
theorem field_back (b : Int) (w : World) : (Instr.field 42 (.agg #[.int .i64 b]) 0).run Try.prog w = .ok (.int .i64 b) w := by kernel_rfl
theorem mkI_out (w : World) : (Instr.makeInterface 38 (.agg #[])).run Try.prog w = .ok outV w := run_makeInterface w _ _ (by kernel_rfl)
theorem mkI_back (x : Value) (w : World) : (Instr.makeInterface 42 x).run Try.prog w = .ok (.iface 42 x) w := run_makeInterface w _ _ (by kernel_rfl)
set_option maxRecDepth 100000 in
theorem isOut_yes (p : Nat) (b c T k : Nat) (xs : List Value) (w : World) (hrow : Row w p (.slice (some ⟨b, 0, none⟩) T c :: xs)) (hk : k < T) (hT : T ≤ 1000) (hq : w.cell? ⟨b, k, none⟩ = some outV) :
    Calls Try.prog 21 #[ptrV p, .int .i64 (k : Int)] w fun e w' => e = .returned (.bool true) ∧ Below w.heap.size w w' := by
  have q0 := hrow.cell 0 _ rfl
  have ha := as_out
  have hB : ∀ o, Below w.heap.size w (w.alloc o) := fun o => (Below.refl _ _).alloc (Nat.le_refl _) _
  go_enter Try.func21, Try.ntmps21
  go_wp2
  go_ret
  exact ⟨rfl, hB _⟩
set_option maxRecDepth 100000 in
theorem isOut_no (p : Nat) (b c T k : Nat) (xs : List Value) (bf : Int) (w : World) (hrow : Row w p (.slice (some ⟨b, 0, none⟩) T c :: xs)) (hk : k < T) (hT : T ≤ 1000) (hq : w.cell? ⟨b, k, none⟩ = some (backV bf)) :
    Calls Try.prog 21 #[ptrV p, .int .i64 (k : Int)] w fun e w' => e = .returned (.bool false) ∧ Below w.heap.size w w' := by
  have q0 := hrow.cell 0 _ rfl
  have ha := as_back bf
  have hB : ∀ o, Below w.heap.size w (w.alloc o) := fun o => (Below.refl _ _).alloc (Nat.le_refl _) _
  go_enter Try.func21, Try.ntmps21
  go_wp2
  go_ret
  exact ⟨rfl, hB _⟩
set_option maxRecDepth 100000 in
theorem cameBehind_at (p : Nat) (b c T k : Nat) (xs : List Value) (bf : Int) (w : World) (hrow : Row w p (.slice (some ⟨b, 0, none⟩) T c :: xs)) (hk : k < T) (hT : T ≤ 1000) (hq : w.cell? ⟨b, k, none⟩ = some (backV bf)) :
    Calls Try.prog 20 #[ptrV p, .int .i64 (k : Int)] w fun e w' => e = .returned (.int .i64 bf) ∧ w' = w := by
  have q0 := hrow.cell 0 _ rfl
  have ha := back_of bf
  have hb := field_back bf
  go_enter Try.func20, Try.ntmps20
  go_wp2
  go_ret
  exact ⟨rfl, rfl⟩
/-- A number that has a place. -/
theorem isOut_of {base p : Nat} {L B : List Int} {T : Nat} {F : Nat → Prop} {w : World} (h : ArP base p L B T F w) (hT : T ≤ 1000) (k : Nat) (hk : k < T) {r : Bool} (hr : r = decide ((k : Int) ∈ L)) :
    Calls Try.prog 21 #[ptrV p, .int .i64 (k : Int)] w fun e w' => e = .returned (.bool r) ∧ Below w.heap.size w w' := by
  obtain ⟨a, c, z, V, hrow, ha, hp, hFa, hL, hB⟩ := h.ex
  obtain ⟨b, rfl, hb, _, hseg⟩ := Own.at ha (by omega)
  by_cases hm : (k : Int) ∈ L
  · rw [decide_eq_true hm] at hr
    subst hr
    have hq := hseg.cell k outV (by have := hL _ hm; simpa using this)
    rw [Nat.zero_add] at hq
    exact isOut_yes p b c T k _ w hrow hk hT hq
  · rw [decide_eq_false hm] at hr
    subst hr
    obtain ⟨bf, hv⟩ := hB.mem k (List.mem_reverse.2 ((h.all k (by omega) (by omega)).resolve_left hm))
    have hq := hseg.cell k (backV bf) (by simpa using hv)
    rw [Nat.zero_add] at hq
    exact isOut_no p b c T k _ bf w hrow hk hT hq
set_option maxRecDepth 100000 in
theorem arLen {base p : Nat} {L B : List Int} {T : Nat} {F : Nat → Prop} {w : World} (h : ArP base p L B T F w) (n : Int) (hn : n = L.length) :
    Calls Try.prog 17 #[ptrV p] w fun e w' => e = .returned (.int .i64 n) ∧ Below w.heap.size w w' := by
  obtain ⟨a, c, z, V, hrow, ha, hp, hFa, hL, hB⟩ := h.ex
  subst hn
  have q1 := hrow.cell 1 _ rfl
  go_enter Try.func17, Try.ntmps17
  go_wp2
  go_ret
  exact ⟨rfl, Below.refl _ _⟩
set_option maxRecDepth 100000 in
theorem arTop {base p : Nat} {L B : List Int} {T : Nat} {F : Nat → Prop} {w : World} (h : ArP base p L B T F w) (hT : T ≤ 1000) :
    Calls Try.prog 18 #[ptrV p] w fun e w' => e = .returned (.int .i64 (T : Int)) ∧ Below w.heap.size w w' := by
  obtain ⟨a, c, z, V, hrow, ha, hp, hFa, hL, hB⟩ := h.ex
  have q0 := hrow.cell 0 _ rfl
  go_enter Try.func18, Try.ntmps18
  go_wp2
  go_ret
  exact ⟨rfl, Below.refl _ _⟩
set_option maxRecDepth 100000 in
theorem arLive {base p : Nat} {L B : List Int} {T : Nat} {F : Nat → Prop} {w : World} (h : ArP base p L B T F w) (hT : T ≤ 1000) (n : Int) (hn : -9223372036854775808 ≤ n ∧ n ≤ 9223372036854775807) {r : Bool} (hr : r = decide (n ∈ L)) :
    Calls Try.prog 10 #[ptrV p, .int .i64 n] w fun e w' => e = .returned (.bool r) ∧ Below w.heap.size w w' := by
  have H : Hid _ := h
  obtain ⟨a, c, z, V, hrow, ha, hp, hFa, hL, hB⟩ := h.ex
  have q0 := hrow.cell 0 _ rfl
  have HR : Hid _ := hr
  by_cases h0 : n < 0
  · obtain rfl : r = false := by
      rw [hr]
      refine decide_eq_false fun m => ?_
      have := h.ok.rg n (List.mem_append_left _ m)
      omega
    clear hr h
    go_enter Try.func10, Try.ntmps10
    go_wp2
    go_ret
    exact ⟨rfl, Below.refl _ _⟩
  · obtain ⟨k, rfl⟩ := Int.eq_ofNat_of_zero_le (Int.not_lt.1 h0)
    by_cases hk : k < T
    · have hlt : ((k : Int) < (T : Int)) := by omega
      have hge : 0 ≤ (k : Int) := by omega
      clear hr h h0
      go_enter Try.func10, Try.ntmps10
      go_wp2_with (go_at_call 21; refine (isOut_of H.out hT k hk HR.out).mono ?_; rintro e w1 ⟨rfl, b1⟩)
      go_ret
      exact ⟨rfl, b1⟩
    · obtain rfl : r = false := by
        rw [hr]
        refine decide_eq_false fun m => ?_
        have := h.ok.rg _ (List.mem_append_left _ m)
        omega
      clear hr h
      go_enter Try.func10, Try.ntmps10
      go_wp2
      go_ret
      exact ⟨rfl, Below.refl _ _⟩
set_option maxRecDepth 100000 in
theorem arLive_none (n : Int) (w : World) : Calls Try.prog 10 #[.pointer none, .int .i64 n] w fun e w' => e = .returned (.bool false) ∧ Below w.heap.size w w' := by
  go_enter Try.func10, Try.ntmps10
  go_wp2
  go_ret
  exact ⟨rfl, Below.refl _ _⟩
set_option maxRecDepth 100000 in
theorem arNone : ArNone where
  clear w := by
    go_enter Try.func7, Try.ntmps7
    go_wp2
    go_end0
    exact ⟨rfl, Below.refl _ _⟩
  take w := by
    go_enter Try.func8, Try.ntmps8
    go_wp2
    go_ret
    exact ⟨rfl, Below.refl _ _⟩
  live := arLive_none
  free n w := by
    go_enter Try.func12, Try.ntmps12
    go_wp2_with (go_at_call 10; refine (arLive_none n w).mono ?_; rintro e w1 ⟨rfl, b1⟩)
    go_ret
    exact ⟨rfl, b1⟩
  len w := by
    go_enter Try.func17, Try.ntmps17
    go_wp2
    go_ret
    exact ⟨rfl, Below.refl _ _⟩
  top w := by
    go_enter Try.func18, Try.ntmps18
    go_wp2
    go_ret
    exact ⟨rfl, Below.refl _ _⟩
  all w := by
    go_enter Try.func15, Try.ntmps15
    go_wp2
    go_ret
    exact ⟨none, 0, rfl, own_none _ _ _, Below.refl _ _⟩
end Go.Proofs.Ytodecbkngnhpjaa

namespace Go.Proofs.Ytodecbkngnhpjaa
open Go.RowKit
set_option linter.unusedVariables false

theorem infoA : (Try.prog.info? 20).map (fun i => (i.zero, i.size, i.bytes)) = some (some .nilIface, 1, 16) := by kernel_rfl
theorem arNew_ok (w : World) (base : Nat) (t : TypeId) (hb : base ≤ w.heap.size) : ArP base w.heap.size [] [] 0 (fun k => k = w.heap.size) (w.alloc (.cells #[.slice none 0 0, .int .i64 0, .int .i64 0] t)) :=
  ⟨⟨none, 0, 0, [], Row.new w [.slice none 0 0, .int .i64 0, .int .i64 0] t, own_none _ _ _, rfl, (fun k s => by obtain ⟨o, s⟩ := s; cases s), (fun x h => by cases h), trivial⟩, fun k e => ⟨by omega, by simp; omega⟩, ArOk.new, fun x h0 h1 => by omega⟩
set_option maxRecDepth 100000 in
theorem arNew (base : Nat) (w : World) (hb : base ≤ w.heap.size) : Calls Try.prog 6 #[] w fun e w' => ∃ (p : Nat) (F : Nat → Prop), e = .returned (ptrV p) ∧ ArP base p [] [] 0 F w' ∧ (∀ k, F k → w.heap.size ≤ k) ∧ Below w.heap.size w w' := by
  have h0 := arNew_ok w base 36 hb
  have hB : ∀ o, Below w.heap.size w (w.alloc o) := fun o => (Below.refl _ _).alloc (Nat.le_refl _) _
  go_enter Try.func6, Try.ntmps6
  go_wp2
  go_ret
  exact ⟨_, _, rfl, h0, (fun k e => by omega), hB _⟩
set_option maxRecDepth 100000 in
theorem arClear {base p : Nat} {L B : List Int} {T : Nat} {F : Nat → Prop} {w : World} (h : ArP base p L B T F w) : Calls Try.prog 7 #[ptrV p] w fun e w' => e = .returned (.tuple #[]) ∧ Left (ArP base p [] [] 0) F w w' := by
  obtain ⟨a, c, z, V, hrow, ha, hp, hFa, hL, hB⟩ := h.ex
  have hft := h.ft
  have q0 := hrow.cell 0 _ rfl
  have q1 := hrow.cell 1 _ rfl
  have q2 := hrow.cell 2 _ rfl
  have f0 := hrow.free 0 (by simp)
  have f1 := hrow.free 1 (by simp)
  have f2 := hrow.free 2 (by simp)
  have row1 := hrow.set 0 (.slice none 0 0) (by simp)
  have row2 := row1.set 1 (.int .i64 0) (by simp)
  have row3 := row2.set 2 (.int .i64 0) (by simp)
  have K : Keep F w (((w.setCell ⟨p, 0, none⟩ (.slice none 0 0)).setCell ⟨p, 1, none⟩ (.int .i64 0)).setCell ⟨p, 2, none⟩ (.int .i64 0)) := (((Keep.refl F w).set (Or.inl hp) _).set (Or.inl hp) _).set (Or.inl hp) _
  go_enter Try.func7, Try.ntmps7
  go_wp2
  go_end0
  refine ⟨rfl, K, F, ⟨⟨none, 0, 0, [], row3, own_none _ _ _, hp, (fun k s => by obtain ⟨o, s⟩ := s; cases s), (fun x h => by cases h), trivial⟩, fun k e => ⟨(hft k e).1, by have := (hft k e).2; simp; omega⟩, ArOk.new, fun x h0 h1 => by omega⟩, fun k hk => Or.inl hk⟩
/-- A place more behind the last store, wherever append put them. -/
theorem ArP.lend {base p : Nat} {L : List Int} {T : Nat} {F : Nat → Prop} {w w1 w2 w3 : World} {a a' : Option Addr} {c c' : Nat} {z : Int} {V : List Value} (hft : ∀ k, F k → base ≤ k ∧ k < w.heap.size) (hok : ArOk L [] T) (hall : ∀ x : Int, 0 ≤ x → x < T → x ∈ L ∨ x ∈ ([] : List Int)) (hL : ∀ x ∈ L, V[x.toNat]? = some outV)
    (hk : Keep F w w1) (hrow : Row w1 p [.slice a T c, .int .i64 ((T : Int) + 1), .int .i64 z]) (ha : Own w1 base 20 a T c V) (hp : F p) (hFa : ∀ k, Slot a k → F k ∧ k ≠ p)
    (h2 : Below w1.heap.size w1 w2) (h3 : Own w3 base 20 a' (T + 1) c' (V ++ [outV])) (hg : w2.grownBy w3 (Value.slice a T c).ownBlock) (hs : ∀ k, Slot a' k → Slot a k ∨ w2.heap.size ≤ k) :
    Left (ArP base p (L ++ [(T : Int)]) [] (T + 1)) F w (w3.setCell ⟨p, 0, none⟩ (.slice a' (T + 1) c')) := by
  have hown : ∀ k, (Value.slice a T c).ownBlock = some k → Slot a k := fun k e => own_slot ha e
  have k2 : Keep F w w2 := hk.to h2
  have k3 : Keep F w w3 := k2.grown hg (fun k e => Or.inl (hFa k (hown k e)).1)
  have k4 : Keep F w (w3.setCell ⟨p, 0, none⟩ (.slice a' (T + 1) c')) := k3.set (Or.inl hp) _
  have K23 : Keep (fun k => Slot a k) w1 w3 := (Keep.of h2).grown hg (fun k e => Or.inl (hown k e))
  have hpl : p < w1.heap.size := hrow.lt
  have row3 := hrow.keep K23 hpl (fun s => (hFa p s).2 rfl)
  have na' : ¬ Slot a' p := fun s => (hs p s).elim (fun s => (hFa p s).2 rfl) (fun e => by have := h2.size; omega)
  have hlen : L.length = T := by have := hok.num; simpa using this
  have hV : V.length = T := ha.sl.len
  have hok' : ArOk (L ++ [(T : Int)]) [] (T + 1) := hok.take.1
  refine ⟨k4, fun k => F k ∨ (w.heap.size ≤ k ∧ k < w3.heap.size), ⟨⟨a', c', z, V ++ [outV], ?_, h3.put na' _, Or.inl hp, ?_, ?_, trivial⟩, ?_, hok', ?_⟩, fun k hk => hk.imp id (fun e => e.1)⟩
  · have := row3.set 0 (.slice a' (T + 1) c') (by simp)
    rw [List.length_append, hlen]
    exact this
  · intro k s
    refine ⟨(hs k s).elim (fun s => Or.inl (hFa k s).1) (fun e => Or.inr ⟨by have := h2.size; have := hk.size; omega, (h3.lt s).1⟩), fun e => na' (e ▸ s)⟩
  · intro x hx
    rcases List.mem_append.1 hx with hx | hx
    · rw [List.getElem?_append_left (by rw [hV]; have := hok.rg x (List.mem_append_left _ hx); omega)]
      exact hL x hx
    · obtain rfl : x = (T : Int) := by simpa using hx
      rw [List.getElem?_append_right (by rw [hV]; omega), hV]
      simp
  · intro k hk'
    have := k4.size
    have hb2 : base ≤ w.heap.size := by have := hft p hp; omega
    rcases hk' with e | e
    · exact ⟨(hft k e).1, by have := (hft k e).2; omega⟩
    · exact ⟨by omega, by simp; exact e.2⟩
  · intro x h0 h1
    by_cases e : x = (T : Int)
    · subst e; exact Or.inl (by simp)
    · exact (hall x h0 (by omega)).imp (fun m => List.mem_append_left _ m) id
theorem below_drewN (w : World) (n : Nat) : Below w.heap.size w (w.drewN n) := ⟨rfl, rfl, rfl, Nat.le_refl _, fun _ _ => rfl⟩
theorem out_one (w : World) (T : TypeId) : Sl (w.alloc (.cells #[outV] T)) (some ⟨w.heap.size, 0, none⟩) 1 1 [outV] :=
  ⟨rfl, Nat.le_refl _, by unfold maxLen; omega, (by intro e; cases e), Or.inr ⟨_, _, rfl, by simp, (Row.new w [outV] T).seg⟩⟩
set_option maxRecDepth 100000 in
theorem arTake0 {base p : Nat} {L : List Int} {T : Nat} {F : Nat → Prop} {w : World} (h : ArP base p L [] T F w) (hT : T ≤ 1000) :
    Calls Try.prog 8 #[ptrV p] w fun e w' => e = .returned (.int .i64 (T : Int)) ∧ Left (ArP base p (L ++ [(T : Int)]) [] (T + 1)) F w w' := by
  obtain ⟨a, c, z, V, hrow, ha, hp, hFa, hL, hB⟩ := h.ex
  obtain ⟨i0, hi0, hz0, hz1, hz2⟩ := info_of infoA
  have hft := h.ft
  have hlen : L.length = T := by have := h.ok.num; simpa using this
  rw [hlen] at hrow
  have q0 := hrow.cell 0 _ rfl
  have q1 := hrow.cell 1 _ rfl
  have f0 := hrow.free 0 (by simp)
  have f1 := hrow.free 1 (by simp)
  have row1 : Row (w.setCell ⟨p, 1, none⟩ (.int .i64 ((T : Int) + 1))) p [.slice a T c, .int .i64 ((T : Int) + 1), .int .i64 z] := hrow.set 1 _ (by simp)
  have c10 := row1.cell 0 _ rfl
  have c11 := row1.cell 1 _ rfl
  have hgt : (T : Int) < (T : Int) + 1 := by omega
  go_enter Try.func8, Try.ntmps8
  have hmi := mkI_out
  have HL : Hid _ := hL
  have HA : Hid _ := h.all
  have HK : Hid _ := h.ok
  have hcap : T + 1 ≤ maxLen := by unfold maxLen; omega
  clear hL h
  go_wp2
  go_quiet (fail)
  have B2 : Below _ (w.setCell ⟨p, 1, none⟩ (.int .i64 ((T : Int) + 1))) (((w.setCell ⟨p, 1, none⟩ (.int .i64 ((T : Int) + 1))).drewN nq).alloc (.cells #[outV] 20)) := (below_drewN _ nq).alloc (Nat.le_refl _) _
  have k1 : Keep F w (w.setCell ⟨p, 1, none⟩ (.int .i64 ((T : Int) + 1))) := (Keep.refl F w).set (Or.inl hp) _
  have a1 := ha.put (i := 1) (fun s => (hFa p s).2 rfl) (.int .i64 ((T : Int) + 1))
  have a2 := a1.below B2
  have one := out_one ((w.setCell ⟨p, 1, none⟩ (.int .i64 ((T : Int) + 1))).drewN nq) 20
  have e1 : ((w.setCell ⟨p, 1, none⟩ (.int .i64 ((T : Int) + 1))).drewN nq).heap.size = w.heap.size := by simp
  rw [e1] at one
  have hpb := (hft p hp).1
  have hpl := (hft p hp).2
  clear e1
  go_wp2_with (at_builtin; go_loud (refine app_at _ rfl (.tmp 27) (.tmp 30) 34 rfl base 20 i0 .nilIface 16 Try.underlying34 hi0 hz0 hz1 hz2 rfl a T c V rfl a2 _ 1 1 [outV] rfl one (by simp [Value.oneCell']) hcap (by omega) (by simp; omega) ?_; intro a3 c3 w3 h3 g3 s3; have row3 := row1.keep ((Keep.of (F := fun k => Slot a k) B2).grown g3 (fun k e => Or.inl (own_slot a1 e))) row1.lt (fun s => (hFa p s).2 rfl); have r30 := row3.free 0 (by simp); have r31 := row3.cell 0 _ rfl; have r32 := (row3.set 0 (.slice a3 (T + 1) c3) (by simp)).cell 0 _ rfl))
  go_ret
  exact ⟨rfl, ArP.lend hft HK.out HA.out HL.out k1 row1 a1 hp hFa B2 h3 g3 s3⟩
/-- A number that is lent again, behind the last store. -/
theorem ArP.again {base p : Nat} {L B : List Int} {T k b c : Nat} {F : Nat → Prop} {w w2 : World} {bf : Int} {V : List Value} (h : ArP base p L (B ++ [(k : Int)]) T F w) (hL : ∀ x ∈ L, V[x.toNat]? = some outV) (hB : Chain V bf B.reverse)
    (hk : Keep F w w2) (hrow : Row w2 p [.slice (some ⟨b, 0, none⟩) T c, .int .i64 ((L.length : Int) + 1), .int .i64 bf]) (ha : Own w2 base 20 (some ⟨b, 0, none⟩) T c V) (hp : F p) (hFa : ∀ i, Slot (some ⟨b, 0, none⟩) i → F i ∧ i ≠ p) (hkT : k < T) :
    Left (ArP base p (L ++ [(k : Int)]) B T) F w (w2.setCell ⟨b, k, none⟩ outV) := by
  have hb : F b ∧ b ≠ p := hFa b ⟨0, rfl⟩
  have hV : V.length = T := ha.sl.len
  have hok := h.ok.take
  rw [tkN_last, tkT_last, List.dropLast_concat] at hok
  have hnd := (List.nodup_append.1 h.ok.nd).2.1
  refine ⟨hk.set (Or.inl hb.1) _, F, ⟨⟨some ⟨b, 0, none⟩, c, bf, V.set k outV, ?_, (ha.stored k outV).1, hp, hFa, ?_, hB.set ?_⟩, fun i e => ⟨(h.ft i e).1, ?_⟩, hok.1, ?_⟩, fun i e => Or.inl e⟩
  · have := hrow.other (i := k) outV hb.2
    rw [List.length_append]
    exact this
  · intro x hx
    by_cases e : k = x.toNat
    · rw [← e, List.getElem?_set_self (by omega)]
    · rw [List.getElem?_set_ne e]
      rcases List.mem_append.1 hx with hx | hx
      · exact hL x hx
      · exact absurd (by simp at hx; subst hx; simp) e
  · intro x hx e
    have h1 := h.ok.rg x (by simp at hx; simp [hx])
    have h2 := (List.nodup_append.1 hnd).2.2 x (by simpa using hx) (k : Int) (by simp)
    exact h2 (by omega)
  · have := (h.ft i e).2
    have := hk.size
    simp
    omega
  · intro x h0 h1
    rcases h.all x h0 h1 with m | m
    · exact Or.inl (List.mem_append_left _ m)
    · rcases List.mem_append.1 m with m | m
      · exact Or.inr m
      · exact Or.inl (List.mem_append_right _ m)
set_option maxRecDepth 100000 in
theorem arTake1 {base p : Nat} {L B : List Int} {T k : Nat} {F : Nat → Prop} {w : World} (h : ArP base p L (B ++ [(k : Int)]) T F w) (hT : T ≤ 1000) :
    Calls Try.prog 8 #[ptrV p] w fun e w' => e = .returned (.int .i64 (k : Int)) ∧ Left (ArP base p (L ++ [(k : Int)]) B T) F w w' := by
  have H : Hid _ := h
  obtain ⟨a, c, z, V, hrow, ha, hp, hFa, hL, hB⟩ := h.ex
  rw [List.reverse_append] at hB
  obtain ⟨rfl, bf, hbf, hB⟩ := hB
  have hkT : k < T := by have := h.ok.rg (k : Int) (by simp); omega
  have hnum : L.length + 1 ≤ T := by have := h.ok.num; simp at this; omega
  obtain ⟨b, rfl, hb, _, hseg⟩ := Own.at ha (by omega)
  have hbp := hFa b ⟨0, rfl⟩
  have hroom := ha.sl.room
  have hq := hseg.cell k (backV bf) (by simpa using hbf)
  have hqf := hseg.free k (by rw [ha.sl.len]; exact hkT)
  rw [Nat.zero_add] at hq hqf
  have HL : Hid _ := hL
  have HB : Hid _ := hB
  have hpl := (h.ft p hp).2
  have hpb : ¬ p = b := fun e => hbp.2 e.symm
  obtain ⟨m, hm⟩ : ∃ m, m = L.length := ⟨_, rfl⟩
  rw [← hm] at hrow hnum
  have q0 := hrow.cell 0 _ rfl
  have q1 := hrow.cell 1 _ rfl
  have q2 := hrow.cell 2 _ rfl
  have f0 := hrow.free 0 (by simp)
  have f1 := hrow.free 1 (by simp)
  have f2 := hrow.free 2 (by simp)
  have row1 : Row (w.setCell ⟨p, 1, none⟩ (.int .i64 ((m : Int) + 1))) p [.slice (some ⟨b, 0, none⟩) T c, .int .i64 ((m : Int) + 1), .int .i64 (k : Int)] := hrow.set 1 _ (by simp)
  have row2 : Row ((w.setCell ⟨p, 1, none⟩ (.int .i64 ((m : Int) + 1))).setCell ⟨p, 2, none⟩ (.int .i64 bf)) p [.slice (some ⟨b, 0, none⟩) T c, .int .i64 ((m : Int) + 1), .int .i64 bf] := row1.set 2 _ (by simp)
  have a2 := (ha.put (i := 1) (fun s => (hFa p s).2 rfl) (.int .i64 ((m : Int) + 1))).put (i := 2) (fun s => (hFa p s).2 rfl) (.int .i64 bf)
  have K2 : Keep F w ((w.setCell ⟨p, 1, none⟩ (.int .i64 ((m : Int) + 1))).setCell ⟨p, 2, none⟩ (.int .i64 bf)) := ((Keep.refl F w).set (Or.inl hp) _).set (Or.inl hp) _
  have c10 := row1.cell 0 _ rfl
  have c11 := row1.cell 1 _ rfl
  have c12 := row1.cell 2 _ rfl
  have c20 := row2.cell 0 _ rfl
  have hno : ¬ (T : Int) < (m : Int) + 1 := by omega
  have hq1 : (w.setCell ⟨p, 1, none⟩ (.int .i64 ((m : Int) + 1))).cell? ⟨b, k, none⟩ = some (backV bf) := by
    rw [World.cell?_setCell_other _ _ _ _ (by intro q; simp only [Addr.mk.injEq] at q; omega)]
    exact hq
  have HM : Hid _ := hm
  have hmi := mkI_out
  clear hL hB h hm hnum hbf hseg
  go_enter Try.func8, Try.ntmps8
  go_wp2
  go_quiet (fail)
  go_wp2_with (go_at_call 20; go_loud (refine (cameBehind_at p b c T k _ bf _ (row1.drewN nq) hkT hT hq1).mono ?_; rintro e w1 ⟨rfl, rfl⟩))
  go_ret
  have K3 : Keep F w (((w.setCell ⟨p, 1, none⟩ (.int .i64 ((m : Int) + 1))).drewN nq).setCell ⟨p, 2, none⟩ (.int .i64 bf)) := (((Keep.refl F w).set (Or.inl hp) _).to (below_drewN _ nq)).set (Or.inl hp) _
  refine ⟨rfl, ArP.again H.out HL.out HB.out K3 ?_ a2 hp hFa hkT⟩
  rw [← HM.out]
  exact row2
/-- A number that came back, behind the last store. -/
theorem ArP.back {base p : Nat} {L M B : List Int} {T k b c : Nat} {F : Nat → Prop} {w w2 : World} {z : Int} {V : List Value} (h : ArP base p L B T F w) (hM : M = L.filter (fun y => decide (y ≠ (k : Int)))) (hn : (k : Int) ∈ L) (hL : ∀ x ∈ L, V[x.toNat]? = some outV) (hB : Chain V z B.reverse)
    (hk : Keep F w w2) (hrow : Row w2 p [.slice (some ⟨b, 0, none⟩) T c, .int .i64 ((L.length : Int) - 1), .int .i64 (k : Int)]) (ha : Own w2 base 20 (some ⟨b, 0, none⟩) T c (V.set k (backV z))) (hp : F p) (hFa : ∀ i, Slot (some ⟨b, 0, none⟩) i → F i ∧ i ≠ p) (hkT : k < T) :
    Left (ArP base p M (B ++ [(k : Int)]) T) F w w2 := by
  have hV : V.length = T := by have := ha.sl.len; rw [List.length_set] at this; exact this
  have hok := h.ok.free hn
  have hlen := (filter_ne_perm (List.nodup_append.1 h.ok.nd).1 hn).length_eq
  have hlp : 0 < L.length := List.length_pos_of_mem hn
  rw [← hM] at hok hlen
  rw [List.length_append] at hlen
  refine ⟨hk, F, ⟨⟨some ⟨b, 0, none⟩, c, (k : Int), V.set k (backV z), ?_, ha, hp, hFa, ?_, ?_⟩, fun i e => ⟨(h.ft i e).1, ?_⟩, hok, ?_⟩, fun i e => Or.inl e⟩
  · rw [show (M.length : Int) = (L.length : Int) - 1 by simp at hlen; omega]
    exact hrow
  · intro x hx
    rw [hM, List.mem_filter] at hx
    have hne : x ≠ (k : Int) := by simpa using hx.2
    have hr := h.ok.rg x (List.mem_append_left _ hx.1)
    rw [List.getElem?_set_ne (by omega)]
    exact hL x hx.1
  · rw [List.reverse_append]
    refine ⟨rfl, z, ?_, hB.set ?_⟩
    · rw [Int.toNat_natCast, List.getElem?_set_self (by omega)]
    · intro x hx e
      have hr := h.ok.rg x (List.mem_append_right _ (by simpa using hx))
      exact (List.nodup_append.1 h.ok.nd).2.2 (k : Int) hn x (by simpa using hx) (by omega)
  · have := (h.ft i e).2
    have := hk.size
    omega
  · intro x h0 h1
    by_cases e : x = (k : Int)
    · exact Or.inr (by simp [e])
    · rcases h.all x h0 h1 with m | m
      · exact Or.inl (by rw [hM, List.mem_filter]; exact ⟨m, by simpa using e⟩)
      · exact Or.inr (List.mem_append_left _ m)
set_option maxRecDepth 100000 in
theorem arFree0 {base p : Nat} {L B : List Int} {T : Nat} {F : Nat → Prop} {w : World} (h : ArP base p L B T F w) (hT : T ≤ 1000) (n : Int) (hn : -9223372036854775808 ≤ n ∧ n ≤ 9223372036854775807) (hm : ¬ n ∈ L) :
    Calls Try.prog 12 #[ptrV p, .int .i64 n] w fun e w' => e = .returned (.bool false) ∧ Left (ArP base p L B T) F w w' := by
  have H : Hid _ := h
  have HR : Hid (false = decide (n ∈ L)) := (decide_eq_false hm).symm
  clear h hm
  go_enter Try.func12, Try.ntmps12
  go_wp2_with (go_at_call 10; refine (arLive H.out hT n hn HR.out).mono ?_; rintro e w1 ⟨rfl, b1⟩)
  go_ret
  exact ⟨rfl, Keep.of b1, F, H.out.keep (Keep.of (F := fun _ => False) b1) (fun _ _ x => x), fun k hk => Or.inl hk⟩
set_option maxRecDepth 100000 in
theorem arFree1 {base p : Nat} {L B : List Int} {T k : Nat} {F : Nat → Prop} {w : World} (h : ArP base p L B T F w) (hT : T ≤ 1000) (hn : (k : Int) ∈ L) {M : List Int} (hM : M = L.filter (fun y => decide (y ≠ (k : Int)))) :
    Calls Try.prog 12 #[ptrV p, .int .i64 (k : Int)] w fun e w' => e = .returned (.bool true) ∧ Left (ArP base p M (B ++ [(k : Int)]) T) F w w' := by
  have H : Hid _ := h
  have HR : Hid (true = decide ((k : Int) ∈ L)) := (decide_eq_true hn).symm
  obtain ⟨a, c, z, V, hrow, ha, hp, hFa, hL, hB⟩ := h.ex
  have hkT : k < T := by have := h.ok.rg (k : Int) (List.mem_append_left _ hn); omega
  obtain ⟨b, rfl, hb, _, hseg⟩ := Own.at ha (by omega)
  have hbp := hFa b ⟨0, rfl⟩
  have hroom := ha.sl.room
  have hpl := (h.ft p hp).2
  have hpb : ¬ p = b := fun e => hbp.2 e.symm
  have hnum : 0 < L.length ∧ L.length ≤ T := by have := h.ok.num; have := List.length_pos_of_mem hn; omega
  have hrg : -9223372036854775808 ≤ (k : Int) ∧ (k : Int) ≤ 9223372036854775807 := by omega
  have HL : Hid _ := hL
  have HB : Hid _ := hB
  have HM : Hid _ := hM
  have HN : Hid _ := hn
  obtain ⟨m, hm⟩ : ∃ m, m = L.length := ⟨_, rfl⟩
  rw [← hm] at hrow hnum
  have Hm : Hid _ := hm
  have hmi := fun x w => mkI_back x w
  clear hL hB h hm hn hM hseg
  go_enter Try.func12, Try.ntmps12
  go_wp2_with (go_at_call 10; refine (arLive H.out hT (k : Int) hrg HR.out).mono ?_; rintro e w1 ⟨rfl, b1⟩)
  have row1 := hrow.keep (Keep.of (F := fun _ => False) b1) hpl (fun x => x)
  have a1 := ha.below b1
  have q0 := row1.cell 0 _ rfl
  have q1 := row1.cell 1 _ rfl
  have q2 := row1.cell 2 _ rfl
  have f1 := row1.free 1 (by simp)
  have f2 := row1.free 2 (by simp)
  have hq : w1.cell? ⟨b, k, none⟩ = some outV := by rw [World.ownsRow.cellAt a1 k (by omega)]; simpa using HL.out _ HN.out
  have hqf := World.ownsRow.frozenAt a1 k
  have row2 := row1.other (i := k) (backV z) hbp.2
  have r21 := row2.cell 1 _ rfl
  have g21 := row2.free 1 (by simp)
  have g22 := row2.free 2 (by simp)
  have row3 := row2.set 2 (.int .i64 (k : Int)) (by simp)
  have r31 := row3.cell 1 _ rfl
  have g31 := row3.free 1 (by simp)
  go_region
  go_wp2
  go_ret
  have K : Keep F w ((((w1.setCell ⟨b, k, none⟩ (backV z)).setCell ⟨p, 2, none⟩ (.int .i64 (k : Int))).setCell ⟨p, 1, none⟩ (.int .i64 ((m : Int) - 1))).drew) := ((((Keep.of b1).set (Or.inl hbp.1) _).set (Or.inl hp) _).set (Or.inl hp) _).drew
  have o2 : Own (w1.setCell ⟨b, k, none⟩ (backV z)) base 20 (some ⟨b, 0, none⟩) T c (V.set k (backV z)) := (World.ownsRow.stored a1 k (backV z)).1
  have o3 := (o2.put (i := 2) (fun s => (hFa p s).2 rfl) (.int .i64 (k : Int))).put (i := 1) (fun s => (hFa p s).2 rfl) (.int .i64 ((m : Int) - 1))
  have row4 : Row _ p [.slice (some ⟨b, 0, none⟩) T c, .int .i64 ((m : Int) - 1), .int .i64 (k : Int)] := row3.set 1 (.int .i64 ((m : Int) - 1)) (by simp)
  rw [Hm.out] at K o3 row4
  refine ⟨rfl, ?_⟩
  rw [Hm.out]
  exact ArP.back H.out HM.out HN.out HL.out HB.out K row4.drew (o3.below (Below.drew (Below.refl _ _))) hp hFa hkT
set_option maxRecDepth 100000 in
set_option maxHeartbeats 1000000 in
theorem arAll {base p : Nat} {L B : List Int} {T : Nat} {F : Nat → Prop} {w : World} (h : ArP base p L B T F w) (hL : L.length ≤ 1000) (hT : T ≤ 1000) {M : List Int} (hM : M = allN L T) :
    Calls Try.prog 15 #[ptrV p] w (GotL w M) := by
  have H : Hid _ := h
  obtain ⟨a, c, z, V, hrow, ha, hp, hFa, _, _⟩ := h.ex
  obtain ⟨i0, hi0, hz0, hz1, hz2⟩ := info_of infoI
  have hpl := (h.ft p hp).2
  have HM : Hid _ := hM
  have q0 := hrow.cell 0 _ rfl
  have q1 := hrow.cell 1 _ rfl
  obtain ⟨m, hm⟩ : ∃ m, m = L.length := ⟨_, rfl⟩
  rw [← hm] at hrow hL q1
  clear hM h hm
  go_enter Try.func15, Try.ntmps15
  go_wp2_with (at_make; go_loud (refine wpList_make_own _ rfl (.const (.int .i64 0)) (.tmp 10) 22 rfl w.heap.size 3 i0 (.int .i64 0) 1 Try.underlying22 hi0 hz0 hz1 .i64 .i64 _ m rfl rfl rfl (by rw [hz2]; omega) (by unfold maxLen; omega) (Nat.le_refl _) ?_; intro w0 own0 g0; have B0 : Below w.heap.size w w0 := (Keep.grown (F := fun _ => False) (Keep.refl _ w) g0 (fun k e => by cases e)).below (Nat.le_refl _) (fun _ x => x.elim); have row0 := hrow.keep (Keep.of (F := fun _ => False) B0) hpl (fun x => x); have q00 := row0.cell 0 _ rfl))
  go_loopw [3, 17] (fun s i wr => ∃ k, k ≤ T ∧ i = .int .i64 (k : Int) ∧ ∃ (a : Option Addr) (c : Nat), s = .slice a (allN L k).length c ∧ Own wr w.heap.size 3 a (allN L k).length c (ints (allN L k)) ∧ Below w.heap.size w wr) (fun _ i _ => T - (intOf i).toNat)
  case atStart => exact ⟨0, by omega, rfl, _, _, rfl, own0, B0⟩
  case round =>
    clear own0 B0
    obtain ⟨k, hk, rfl, a2, c2, rfl, hown, bel⟩ := hrel
    have HA := H.out.keep (Keep.of (F := fun _ => False) bel) (fun _ _ x => x)
    have HA : Hid _ := HA
    have hnx := allN_next L k
    have hml := allN_len L k
    obtain ⟨M', hM'⟩ : ∃ M', M' = allN L k := ⟨_, rfl⟩
    rw [← hM'] at hown hnx hml ⊢
    by_cases hlt : k < T
    · obtain ⟨r, hr⟩ : ∃ r, r = decide ((k : Int) ∈ L) := ⟨_, rfl⟩
      have HR : Hid _ := hr
      have hbs := bel.size
      cases r with
      | false =>
        have HN : Hid (allN L (k + 1) = M') := by unfold Hid; rw [hnx, if_neg (of_decide_eq_false hr.symm), List.append_nil]
        clear hr hnx hM'
        go_wp2_with (go_at_call 21; refine (isOut_of HA.out hT k hlt HR.out).mono ?_; rintro e w1 ⟨rfl, b1⟩)
        go_roundw
        case rel => exact ⟨k + 1, by omega, by simp, a2, c2, by rw [HN.out], by rw [HN.out]; exact hown.below b1, bel.trans (b1.mono bel.size)⟩
        case measure => simp [intOf]; omega
      | true =>
        have HN : Hid (allN L (k + 1) = M' ++ [(k : Int)]) := by unfold Hid; rw [hnx, if_pos (of_decide_eq_true hr.symm)]
        have hcap : M'.length + 1 ≤ maxLen := by unfold maxLen; omega
        clear hr hnx hM'
        go_wp2_with (first
          | (go_at_call 21; refine (isOut_of HA.out hT k hlt HR.out).mono ?_; rintro e w1 ⟨rfl, b1⟩; have o1 := (hown.below b1).below ((Below.refl w1.heap.size w1).alloc (Nat.le_refl _) (.cells #[.int .i64 (k : Int)] 3)); have one := sl_one w1 (k : Int) 3; have z1 := b1.size)
          | (at_builtin; go_loud (refine app_at _ rfl (.tmp 23) (.tmp 25) 22 rfl w.heap.size 3 i0 (.int .i64 0) 8 Try.underlying22 hi0 hz0 hz1 hz2 rfl a2 M'.length c2 (ints M') rfl o1 _ 1 1 [.int .i64 (k : Int)] rfl one (ints_one [(k : Int)]) hcap (by omega) (by simp; omega) ?_; intro a3 c3 w3 h3 g3 s3)))
        go_roundw
        case rel =>
          have b3 : Below w.heap.size w w3 := (bel.trans ((b1.mono bel.size).trans (((Below.refl w1.heap.size w1).alloc (Nat.le_refl _) _).mono (by omega)))).trans ((Keep.grown (F := fun k => Slot a2 k) (Keep.refl _ _) g3 (fun k e => Or.inl (own_slot hown e))).below (by simp; omega) (fun k s => (hown.lt s).2))
          exact ⟨k + 1, by omega, by simp, a3, c3, by rw [HN.out]; simp, by rw [HN.out, ints_append, List.length_append]; exact h3, b3⟩
        case measure => simp [intOf]; omega
    · obtain rfl : k = T := by omega
      clear hnx
      go_wp2
      go_ret
      rw [hM'] at hown ⊢
      rw [HM.out]
      exact ⟨a2, c2, rfl, hown, bel⟩
theorem arSpec : ArSpec ArP where
  keep h hk hd := h.keep hk hd
  ft h := h.ft
  new base w hb := arNew base w hb
  take base p L B T F w h hL hB hT n hn := by
    rcases nil_or_last B with rfl | ⟨B', x, rfl⟩
    · rw [tkN_nil] at hn
      subst hn
      exact arTake0 h hT
    · rw [tkN_last] at hn
      subst hn
      obtain ⟨k, rfl⟩ := Int.eq_ofNat_of_zero_le (h.ok.rg n (by simp)).1
      rw [tkT_last, List.dropLast_concat]
      exact arTake1 h hT
  live base p L B T F w h hL hB hT n hn r hr := arLive h hT n hn hr
  free0 base p L B T F w h hL hB hT n hn hm := arFree0 h hT n hn hm
  free base p L B T F w h hL hB hT n hn hm M hM := by
    obtain ⟨k, rfl⟩ := Int.eq_ofNat_of_zero_le (h.ok.rg n (List.mem_append_left _ hm)).1
    exact arFree1 h hT hm hM
  len base p L B T F w h hL hB hT n hn := arLen h n hn
  top base p L B T F w h hL hB hT := arTop h hT
  all base p L B T F w h hL hB hT M hM := arAll h hL hT hM
  clear base p L B T F w h := arClear h
end Go.Proofs.Ytodecbkngnhpjaa

namespace Go.Proofs.Ytodecbkngnhpjaa
open Go.RowKit
set_option linter.unusedVariables false

set_option maxRecDepth 100000 in
set_option maxHeartbeats 1000000 in
theorem arnone_of {AP : ArShape} (H : ArSpec AP) (N : ArNone) (n : Int) (w : World) : Calls Try.prog 5 #[.int .i64 n] w fun e w' => e = .returned (.bool true) ∧ Below w.heap.size w w' := by
  have HH : Hid _ := H
  have NN : Hid _ := N
  clear H N
  go_enter Try.func5, Try.ntmps5
  go_wp2_with (go_at_call 7; fail)
  refine (NN.out.clear w).mono ?_
  rintro e w1 ⟨rfl, b1⟩
  go_wp2_with (go_at_call 8; fail)
  refine (NN.out.take w1).mono ?_
  rintro e w2 ⟨rfl, b2⟩
  go_wp2_with (go_at_call 12; fail)
  refine (NN.out.free n w2).mono ?_
  rintro e w3 ⟨rfl, b3⟩
  go_wp2_with (go_at_call 10; fail)
  refine (NN.out.live n w3).mono ?_
  rintro e w4 ⟨rfl, b4⟩
  go_wp2_with (go_at_call 17; fail)
  refine (NN.out.len w4).mono ?_
  rintro e w5 ⟨rfl, b5⟩
  go_wp2_with (go_at_call 18; fail)
  refine (NN.out.top w5).mono ?_
  rintro e w6 ⟨rfl, b6⟩
  go_wp2_with (go_at_call 15; fail)
  refine (NN.out.all w6).mono ?_
  rintro e w7 ⟨a7, c7, rfl, _, b7⟩
  go_wp2_with (go_at_call 19; fail)
  refine (lives10_of HH.out w7).mono ?_
  rintro e w8 ⟨rfl, b8⟩
  go_wp2
  go_ret
  have t1 := b1.trans (b2.mono b1.size)
  have t2 := t1.trans (b3.mono t1.size)
  have t3 := t2.trans (b4.mono t2.size)
  have t4 := t3.trans (b5.mono t3.size)
  have t5 := t4.trans (b6.mono t4.size)
  have t6 := t5.trans (b7.mono t5.size)
  exact ⟨rfl, t6.trans (b8.mono t6.size)⟩
/-- What holds when the first k acts are done. -/
def FewAt (AP : ArShape) (w : World) (p k : Nat) (m i : Value) (wr : World) : Prop := ∃ (L B : List Int) (T : Nat) (F : Nat → Prop), AP w.heap.size p L B T F wr ∧ ArOk L B T ∧ T ≤ k ∧ m = .int .i64 (T : Int) ∧ i = .int .i64 (k : Int) ∧ Below w.heap.size w wr
set_option maxRecDepth 100000 in
set_option maxHeartbeats 4000000 in
theorem arfew_of {AP : ArShape} (H : ArSpec AP) (a0 : Option Addr) (l0 c0 : Nat) (X : List Int) (w : World) (hX : Sl w a0 l0 c0 (ints X)) (hR : ∀ x ∈ X, -9223372036854775808 ≤ x ∧ x ≤ 9223372036854775807) : Calls Try.prog 4 #[.slice a0 l0 c0] w fun e w' => e = .returned (.bool true) ∧ Below w.heap.size w w' := by
  have HH : Hid _ := H
  have hlen : X.length = l0 := by have := hX.len; rw [ints_length] at this; exact this
  have hbig : l0 ≤ maxLen := Nat.le_trans hX.room hX.big
  clear H
  go_enter Try.func4, Try.ntmps4
  go_wp2_with (go_at_call 6; fail)
  refine (HH.out.new w.heap.size w (Nat.le_refl _)).mono ?_
  rintro e w1 ⟨p, F1, rfl, h1, hF, b1⟩
  go_wp2
  go_loopw [4, 5] (fun m i wr => ∃ k, k ≤ l0 ∧ k ≤ 80 ∧ FewAt AP w p k m i wr) (fun _ i _ => 80 - (intOf i).toNat)
  case atStart => exact ⟨0, by omega, by omega, [], [], 0, F1, h1, ArOk.new, by omega, rfl, rfl, b1⟩
  case round =>
    obtain ⟨k, hk, hk8, L, B, T, F, hA, hok, hT, rfl, rfl, bel⟩ := hrel
    have hLT : L.length ≤ 1000 := by have := hok.num; omega
    have hBT : B.length ≤ 1000 := by have := hok.num; omega
    have hTT : T ≤ 1000 := by omega
    have hmx : l0 ≤ 9223372036854775807 := by unfold maxLen at hbig; omega
    have hFb : ∀ k, F k → w.heap.size ≤ k := fun k hk => (HH.out.ft hA k hk).1
    have hbs := bel.size
    by_cases hlt : k < l0 ∧ k < 80
    · obtain ⟨hlt1, hlt2⟩ := hlt
      obtain ⟨x, hx⟩ : ∃ x, X[k]? = some x := ⟨X[k], List.getElem?_eq_getElem (by omega)⟩
      have hxr := hR x (List.mem_of_getElem? hx)
      obtain ⟨ab, ao, rfl, hab, hseg⟩ := hX.at (by omega)
      have hroom := hX.room
      have hsg := hseg.below bel hab
      have q := hsg.cell k _ (ints_at hx)
      have HX : Hid _ := hX
      have HR : Hid _ := hR
      clear hx hseg hsg hX hR hlen
      by_cases hx0 : 0 ≤ x
      · by_cases hm : x ∈ L
        · obtain ⟨M, hM⟩ : ∃ M, M = L.filter (fun y => decide (y ≠ x)) := ⟨_, rfl⟩
          have hok2 := hok.free hm
          rw [← hM] at hok2
          have HM : Hid _ := hM
          clear hM
          go_wp2_with (go_at_call 12; fail)
          refine (HH.out.free w.heap.size p L B T F wr hA hLT hBT hTT x hxr hm M HM.out).mono ?_
          rintro e w2 ⟨rfl, k2, F2, h2, _⟩
          have b2 := bel.trans (k2.below hbs hFb)
          go_wp2
          go_roundw
          case rel => exact ⟨k + 1, by omega, by omega, M, B ++ [x], T, F2, h2, hok2, by omega, rfl, by simp, b2⟩
          case measure => simp [intOf]; omega
        · go_wp2_with (go_at_call 12; fail)
          refine (HH.out.free0 w.heap.size p L B T F wr hA hLT hBT hTT x hxr hm).mono ?_
          rintro e w2 ⟨rfl, k2, F2, h2, _⟩
          have b2 := bel.trans (k2.below hbs hFb)
          go_wp2
          go_roundw
          case rel => exact ⟨k + 1, by omega, by omega, L, B, T, F2, h2, hok, by omega, rfl, by simp, b2⟩
          case measure => simp [intOf]; omega
      · obtain ⟨n, hn⟩ : ∃ n, n = tkN B T := ⟨_, rfl⟩
        obtain ⟨M, hM⟩ : ∃ M, M = allN L T := ⟨_, rfl⟩
        have hok2 := hok.take
        rw [← hn] at hok2
        have hML : M.length ≤ 1000 := by rw [hM]; have := allN_len L T; omega
        have hnM : ¬ n ∈ M := by rw [hM]; exact fun m => hok2.2 (allN_mem m).1
        have hTk : tkT B T ≤ k + 1 := by unfold tkT; split <;> omega
        have hmost : (L.length + 1 ≤ T ∧ tkT B T = T) ∨ (T < L.length + 1 ∧ tkT B T = L.length + 1) := by
          have h1 := hok.num
          rcases nil_or_last B with e | ⟨B', y, e⟩
          · right; rw [e]; rw [e] at h1; simp at h1; have : tkT [] T = T + 1 := rfl; omega
          · left; rw [e, tkT_last]; rw [e] at h1; simp at h1; omega
        have HN : Hid _ := hn
        have HM : Hid _ := hM
        clear hn hM
        go_wp2_with (go_at_call 15; fail)
        refine (HH.out.all w.heap.size p L B T F wr hA hLT hBT hTT M HM.out).mono ?_
        rintro e w2 ⟨a2, c2, rfl, o2, b2⟩
        have hA2 := HH.out.keep hA (Keep.of (F := fun _ => False) b2) (fun _ _ x => x)
        have bel2 := bel.trans (b2.mono hbs)
        go_wp2_with (go_at_call 8; fail)
        refine (HH.out.take w.heap.size p L B T F w2 hA2 hLT hBT hTT n HN.out).mono ?_
        rintro e w3 ⟨rfl, k3, F3, h3, _⟩
        have b3 := bel2.trans (k3.below bel2.size hFb)
        have o3 := o2.keep k3 (fun j s f => by have := (o2.lt s).2; have := (HH.out.ft hA j f).2; omega)
        have HT : Hid _ := hTk
        have HO : Hid _ := hok2.1
        have HMo : Hid _ := hmost
        clear hTk hok2 hmost hA hA2 bel bel2 b2 hok k3
        go_wp2
        go_loopw [8] (fun i wr => ∃ j : Nat, j ≤ M.length ∧ i = .int .i64 (j : Int) ∧ wr = w3) (fun i _ => M.length - (intOf i).toNat)
        case atStart => exact ⟨0, by omega, rfl, rfl⟩
        case round =>
          obtain ⟨j, hj, rfl, rfl⟩ := hrel
          by_cases hjl : j < M.length
          · obtain ⟨y, hy⟩ : ∃ y, M[j]? = some y := ⟨M[j], List.getElem?_eq_getElem hjl⟩
            obtain ⟨bb, rfl, hbb, _, hsb⟩ := Own.at o3 (by omega)
            have hrm := o3.sl.room
            have qy := hsb.cell j _ (ints_at hy)
            rw [Nat.zero_add] at qy
            have hyn : (y == n) = false := by
              have : ¬ y = n := fun e => hnM (e ▸ List.mem_of_getElem? hy)
              simpa using this
            clear hy hsb
            go_wp2
            go_roundw
            case rel => exact ⟨j + 1, by omega, by simp, by first | rfl | trivial⟩
            case measure => simp [intOf]; omega
          · have hL2 : (L ++ [n]).length = L.length + 1 := by simp
            have hL3 : (L ++ [n]).length ≤ 1000 := by have := HO.out.num; have := HT.out; rw [hL2] at *; omega
            have hB3 : B.dropLast.length ≤ 1000 := by rw [List.length_dropLast]; omega
            have hT3 : tkT B T ≤ 1000 := by have := HT.out; omega
            have HL2 : Hid _ := hL2
            clear hL2
            rcases HMo.out with ⟨q1, q2⟩ | ⟨q1, q2⟩
            · rw [q2] at h3 hT3
              go_wp2_with (go_at_call 17; fail)
              refine (HH.out.len w.heap.size p (L ++ [n]) B.dropLast T F3 wr h3 hL3 hB3 hT3 ((L.length : Int) + 1) (by rw [HL2.out]; omega)).mono ?_
              rintro e w4 ⟨rfl, b4⟩
              have h4 := HH.out.keep h3 (Keep.of (F := fun _ => False) b4) (fun _ _ x => x)
              have b4' := b3.trans (b4.mono b3.size)
              go_wp2
              go_roundw
              case rel => exact ⟨k + 1, by omega, by omega, L ++ [n], B.dropLast, T, F3, h4, by rw [← q2]; exact HO.out, by omega, rfl, by simp, b4'⟩
              case measure => simp [intOf]; omega
            · rw [q2] at h3 hT3
              have HQ : Hid (ArOk (L ++ [n]) B.dropLast (L.length + 1)) := by unfold Hid; rw [← q2]; exact HO.out
              have HT' : Hid (L.length + 1 ≤ k + 1) := by unfold Hid; rw [← q2]; exact HT.out
              clear q2 HMo HO HT
              go_wp2_with (go_at_call 17; fail)
              refine (HH.out.len w.heap.size p (L ++ [n]) B.dropLast (L.length + 1) F3 wr h3 hL3 hB3 hT3 ((L.length : Int) + 1) (by rw [HL2.out]; omega)).mono ?_
              rintro e w4 ⟨rfl, b4⟩
              have h4 := HH.out.keep h3 (Keep.of (F := fun _ => False) b4) (fun _ _ x => x)
              have b4' := b3.trans (b4.mono b3.size)
              go_wp2_with (go_at_call 17; fail)
              refine (HH.out.len w.heap.size p (L ++ [n]) B.dropLast (L.length + 1) F3 w4 h4 hL3 hB3 hT3 ((L.length : Int) + 1) (by rw [HL2.out]; omega)).mono ?_
              rintro e w5 ⟨rfl, b5⟩
              have h5 := HH.out.keep h4 (Keep.of (F := fun _ => False) b5) (fun _ _ x => x)
              have b5' := b4'.trans (b5.mono b4'.size)
              go_wp2
              go_roundw
              case rel => exact ⟨k + 1, by omega, by omega, L ++ [n], B.dropLast, L.length + 1, F3, h5, HQ.out, HT'.out, by simp, by simp, b5'⟩
              case measure => simp [intOf]; omega
    · obtain ⟨M, hM⟩ : ∃ M, M = allN L T := ⟨_, rfl⟩
      have HC : Hid (M.length = L.length) := by unfold Hid; rw [hM]; exact hok.count
      have HM : Hid _ := hM
      clear hM
      by_cases h1 : k < l0
      · have h2 : ¬ k < 80 := fun h => hlt ⟨h1, h⟩
        clear hlt hk8
        go_wp2_with (go_at_call 18; fail)
        refine (HH.out.top w.heap.size p L B T F wr hA hLT hBT hTT).mono ?_
        rintro e w2 ⟨rfl, b2⟩
        have A2 := HH.out.keep hA (Keep.of (F := fun _ => False) b2) (fun _ _ x => x)
        have B2 := bel.trans (b2.mono bel.size)
        go_wp2_with (go_at_call 15; fail)
        refine (HH.out.all w.heap.size p L B T F w2 A2 hLT hBT hTT M HM.out).mono ?_
        rintro e w3 ⟨a3, c3, rfl, _, b3⟩
        have A3 := HH.out.keep A2 (Keep.of (F := fun _ => False) b3) (fun _ _ x => x)
        have B3 := B2.trans (b3.mono B2.size)
        go_wp2_with (go_at_call 17; fail)
        refine (HH.out.len w.heap.size p L B T F w3 A3 hLT hBT hTT (M.length : Int) (by rw [HC.out])).mono ?_
        rintro e w4 ⟨rfl, b4⟩
        have B4 := B3.trans (b4.mono B3.size)
        go_wp2_with (go_at_call 19; fail)
        refine (lives10_of HH.out w4).mono ?_
        rintro e w5 ⟨rfl, b5⟩
        go_wp2
        go_ret
        exact ⟨rfl, B4.trans (b5.mono B4.size)⟩
      · clear hlt
        go_wp2_with (go_at_call 18; fail)
        refine (HH.out.top w.heap.size p L B T F wr hA hLT hBT hTT).mono ?_
        rintro e w2 ⟨rfl, b2⟩
        have A2 := HH.out.keep hA (Keep.of (F := fun _ => False) b2) (fun _ _ x => x)
        have B2 := bel.trans (b2.mono bel.size)
        go_wp2_with (go_at_call 15; fail)
        refine (HH.out.all w.heap.size p L B T F w2 A2 hLT hBT hTT M HM.out).mono ?_
        rintro e w3 ⟨a3, c3, rfl, _, b3⟩
        have A3 := HH.out.keep A2 (Keep.of (F := fun _ => False) b3) (fun _ _ x => x)
        have B3 := B2.trans (b3.mono B2.size)
        go_wp2_with (go_at_call 17; fail)
        refine (HH.out.len w.heap.size p L B T F w3 A3 hLT hBT hTT (M.length : Int) (by rw [HC.out])).mono ?_
        rintro e w4 ⟨rfl, b4⟩
        have B4 := B3.trans (b4.mono B3.size)
        go_wp2_with (go_at_call 19; fail)
        refine (lives10_of HH.out w4).mono ?_
        rintro e w5 ⟨rfl, b5⟩
        go_wp2
        go_ret
        exact ⟨rfl, B4.trans (b5.mono B4.size)⟩
end Go.Proofs.Ytodecbkngnhpjaa
