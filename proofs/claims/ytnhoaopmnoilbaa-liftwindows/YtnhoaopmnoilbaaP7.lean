/-
  Joined texts, part 7:
  The laws' own look and cut of layer 4.
  The points of a window, in their order, and the slice that holds them.
  What package lift's Window answers.
  What zelligeref06's Window answers.
  What zelligeref06's Same answers.
-/
import Derived.Test.YtnhoaopmnoilbaaP6
import Derived.Test.YtnhoaopmnoilbaaP3
import Derived.Deep.AppendLies
import Derived.OwnWalk
namespace Go.Proofs.Ytnhoaopmnoilbaa
open Go.RowKit
set_option linter.unusedVariables false

theorem wp_append_any {P : Program} {w : World} {o : Oper} {a : Act} {K : Act → World → Prop} {Q : Exit → Act → World → Prop} (s x : Operand) (t : TypeId)
    (ho : o.op = .call { callee := .builtin .append, args := #[s, x], argTypes := #[t, t] })
    (base : Nat) (e : TypeId) (i : TypeInfo) (z : Value) (bytes : Nat) (ht : P.underlying t = some (.slice e)) (hi : P.info? e = some i) (hz : i.zero = some z)
    (hsize : i.size = 1) (hby : i.bytes = bytes) (hzs : z.cells.size = 1)
    (a0 : Option Addr) (n0 c0 : Nat) (xs : List Value) (hs : a.eval s = .slice a0 n0 c0) (hown : Own w base e a0 n0 c0 xs)
    (ao : Option Addr) (m c : Nat) (news : List Value) (hx : a.eval x = .slice ao m c) (hsl : Sl w ao m c news) (h1 : ∀ u ∈ news, u.oneCell' = true)
    (h63 : n0 + m ≤ maxLen) (hbytes : (n0 + m) * bytes ≤ 140737488355328) (hbase : base ≤ w.heap.size)
    (h : ∀ a' cap' w', Own w' base e a' (n0 + m) cap' (xs ++ news) → w.grownBy w' (Value.slice a0 n0 c0).ownBlock → K (a.put o.dst (.slice a' (n0 + m) cap')) w') : o.wp P a w K Q := by
  cases ao with
  | none =>
    obtain ⟨rfl, rfl⟩ := hsl.nil rfl
    obtain rfl : news = [] := List.eq_nil_of_length_eq_zero hsl.len
    have hrun := run_append_owned_none (P := P) (w := w) base t o.type e i 1 ht hi _ n0 xs hown
    unfold Oper.wp
    simp [execOp, ho, resolve, invoke, builtin, hs, hx, hrun, Result.andThen]
    exact h a0 c0 w (by simpa using hown) (World.grownBy.refl _ _)
  | some ad =>
    obtain ⟨v', w', hr, h2, h3, _, _⟩ := run_append_own_at (P := P) w base t o.type e i z 1 bytes ht hi hz hsize hby hzs (by decide) _ n0 xs hown ad m c news (by rw [hsl.len]; omega) (by
      intro j u hu
      have hj := (List.getElem?_eq_some_iff.1 hu).1
      obtain ⟨b, off, e1, hb, hseg⟩ := hsl.at (by have := hsl.len; omega)
      cases e1
      rw [Addr.add_lit]
      exact hseg.cell j u hu) h1 h63 hbytes hbase
    obtain ⟨a', cap', rfl, h4⟩ := Own.form h2
    unfold Oper.wp execOp
    simp only [ho, resolve, invoke, builtin, Sem.run_bind, Sem.run_pure, Result.andThen_ok, List.map_toArray, List.map_cons, List.map_nil, hs, hx, hr]
    exact h a' cap' w' h4 h3
theorem step_append_any {P : Program} {w : World} {ops : Array Oper} {o : Oper} {a : Act} {K : Act → World → Prop} {Q : Exit → Act → World → Prop} {E : Prop} (hgd : o.guard = none) (s x : Operand) (t : TypeId)
    (ho : o.op = .call { callee := .builtin .append, args := #[s, x], argTypes := #[t, t] })
    (base : Nat) (e : TypeId) (i : TypeInfo) (z : Value) (bytes : Nat) (ht : P.underlying t = some (.slice e)) (hi : P.info? e = some i) (hz : i.zero = some z)
    (hsize : i.size = 1) (hby : i.bytes = bytes) (hzs : z.cells.size = 1)
    (a0 : Option Addr) (n0 c0 : Nat) (xs : List Value) (hs : a.eval s = .slice a0 n0 c0) (hown : Own w base e a0 n0 c0 xs)
    (ao : Option Addr) (m c : Nat) (news : List Value) (hx : a.eval x = .slice ao m c) (hsl : Sl w ao m c news) (h1 : ∀ u ∈ news, u.oneCell' = true)
    (h63 : n0 + m ≤ maxLen) (hbytes : (n0 + m) * bytes ≤ 140737488355328) (hbase : base ≤ w.heap.size)
    (h : ∀ a' cap' w', Own w' base e a' (n0 + m) cap' (xs ++ news) → w.grownBy w' (Value.slice a0 n0 c0).ownBlock → K (a.put o.dst (.slice a' (n0 + m) cap')) w') :
    if Region.wanted o (yielded ops a.tmps) = true then Oper.wp P o a w K Q else E := by
  have hw : Region.wanted o (yielded ops a.tmps) = true := by simp [Region.wanted, hgd]
  rw [if_pos hw]
  exact wp_append_any s x t ho base e i z bytes ht hi hz hsize hby hzs a0 n0 c0 xs hs hown ao m c news hx hsl h1 h63 hbytes hbase h
theorem eown (w : World) (base : Nat) (T : TypeId) (hb : base ≤ w.heap.size) : Own (w.alloc (.cells #[] T)) base T (some ⟨w.heap.size, 0, none⟩) 0 0 [] := World.ownsRow_lit w #[] 0 hb (by decide) rfl
/-- The first words of a number are a number. -/
theorem sl_cut {w : World} {a : Option Addr} {m c x k : Nat} (h : Sl w a m c (wd.dcells m (x : Int))) (hk : k ≤ m) : Sl w a k c (wd.dcells k ((x % 4294967296 ^ k : Nat) : Int)) := by
  have e : wd.dcells k (x : Int) = wd.dcells k ((x % 4294967296 ^ k : Nat) : Int) := by
    refine wd.dcells_congr ((x / 4294967296 ^ k : Nat) : Int) ?_
    have := Nat.mod_add_div x (4294967296 ^ k)
    rw [← wd.pow_cast]
    rw [← Int.natCast_mul, Nat.mul_comm]
    omega
  rw [← e]
  refine ⟨wd.dcells_length _ _, Nat.le_trans hk h.room, h.big, fun ha => ⟨by have := (h.nil ha).1; omega, (h.nil ha).2⟩, ?_⟩
  rcases Nat.eq_zero_or_pos k with rfl | hk0
  · exact Or.inl rfl
  · obtain ⟨b, o, e1, hb, hs⟩ := h.at (by omega)
    exact Or.inr ⟨b, o, e1, hb, by have := hs.take k; rwa [wd.dcells_take _ _ _ hk] at this⟩
/-- Some number of sixteen words at most, with the same sign. -/
def Cut4 (w : World) (n : Bool) (e : Ending) (w' : World) : Prop := ∃ (a : Option Addr) (m c x : Nat), e = .returned (.agg #[.bool n, .slice a m c]) ∧ m ≤ 16 ∧ NI w' a m c x ∧ Far w.heap.size a m ∧ Below w.heap.size w w'

theorem Bx.grown {w w' : World} {b g : Nat} {x y : Value} (h : Bx w b x y) (hg : w.grownBy w' (some g)) (hne : b ≠ g) : Bx w' b x y := by
  have hlt : b < w.heap.size := by
    refine Nat.lt_of_not_le fun hle => ?_
    have := h.c0
    unfold World.cell? at this
    rw [Array.getElem?_eq_none hle] at this
    simp at this
  exact ⟨(hg.cell_far ⟨b, 0, none⟩ hlt (by simpa using hne)).trans h.c0, (hg.cell_far ⟨b, 1, none⟩ hlt (by simpa using hne)).trans h.c1, (hg.frozen_far ⟨b, 0, none⟩ hlt (by simpa using hne)).trans h.f0, (hg.frozen_far ⟨b, 1, none⟩ hlt (by simpa using hne)).trans h.f1⟩
theorem endCut {w w2 : World} {n : Bool} {a2 : Option Addr} {m c k x base : Nat} {T : TypeId} (hm : m ≤ 16) (hx : x < 4294967296 ^ m) (hown : Own w2 base T a2 m c (wd.dcells m (x : Int))) (hk : w.heap.size ≤ k) (hkb : k < base) (B : Below w.heap.size w w2) (u v : Value) :
    Cut4 w n (.returned (.agg #[.bool n, .slice a2 m c])) ((w2.setCell ⟨k, 0, none⟩ u).setCell ⟨k, 1, none⟩ v) :=
  have f := Own.far hown
  have h : NI w2 a2 m c x := ⟨Own.sl hown, hx, by omega⟩
  ⟨a2, m, c, x, rfl, hm, (h.put (f k hkb) 0 u).put (f k hkb) 1 v, f.mono (by omega), below_put2 B hk u v⟩
theorem keepG {n g : Nat} {v1 v2 : Value} {w0 w w' : World} (h : w.cell? ⟨n, 0, none⟩ = some v1 ∧ w.cell? ⟨n, 1, none⟩ = some v2 ∧ Below w0.heap.size w0 w) (hg : w.grownBy w' (some g)) (hn : n < g) (hB : w0.heap.size ≤ g) : w'.cell? ⟨n, 0, none⟩ = some v1 ∧ w'.cell? ⟨n, 1, none⟩ = some v2 ∧ Below w0.heap.size w0 w' := by
  have hlt : n < w.heap.size := by
    refine Nat.lt_of_not_le fun hle => ?_
    have := h.1
    unfold World.cell? at this
    rw [Array.getElem?_eq_none hle] at this
    simp at this
  refine ⟨(hg.cell_far ⟨n, 0, none⟩ hlt (by simp; omega)).trans h.1, (hg.cell_far ⟨n, 1, none⟩ hlt (by simp; omega)).trans h.2.1, h.2.2.grown hg h.2.2.size (fun k e => by cases e; exact hB)⟩

theorem decM4 : decZ (-4) = ⟨#[45, 52]⟩ := by
  unfold decZ decS
  rw [if_pos (by decide), dlen_eq (k := 1) ⟨by decide, by decide, Or.inl rfl⟩]
  decide +kernel
theorem decP1 : decZ 1 = ⟨#[49]⟩ := by
  unfold decZ decS
  rw [if_neg (by decide), dlen_eq (k := 1) ⟨by decide, by decide, Or.inl rfl⟩]
  decide +kernel
end Go.Proofs.Ytnhoaopmnoilbaa

namespace Go.Proofs.Ytnhoaopmnoilbaa
open Go.RowKit
set_option linter.unusedVariables false

/-- How many sides the window's point j lies to the right, and above. -/
def wiX (F j : Nat) : Int := ((j / (2 * F + 1) : Nat) : Int) - F
def wiY (F j : Nat) : Int := ((j % (2 * F + 1) : Nat) : Int) - F
theorem wi_at (F r c : Nat) (hc : c < 2 * F + 1) : wiX F (r * (2 * F + 1) + c) = (r : Int) - F ∧ wiY F (r * (2 * F + 1) + c) = (c : Int) - F := by
  unfold wiX wiY
  rw [Nat.mul_comm r, Nat.mul_add_div (by omega), Nat.mul_add_mod, Nat.div_eq_of_lt hc, Nat.mod_eq_of_lt hc, Nat.add_zero]
  exact ⟨rfl, rfl⟩
/-- The cells of the first so many points. -/
def wcells (x y s : Int) (F : Nat) : Nat → List Value
  | 0 => []
  | j + 1 => wcells x y s F j ++ [.int .i64 (x + wiX F j * s), .int .i64 (y + wiY F j * s)]
theorem wcells_length (x y s : Int) (F m : Nat) : (wcells x y s F m).length = m * 2 := by
  induction m with
  | zero => rfl
  | succ m ih => rw [wcells, List.length_append, ih]; simp; omega
theorem wcells_at (x y s : Int) (F j m : Nat) (h : j < m) : (wcells x y s F m)[j * 2]? = some (.int .i64 (x + wiX F j * s)) ∧ (wcells x y s F m)[j * 2 + 1]? = some (.int .i64 (y + wiY F j * s)) := by
  induction m with
  | zero => omega
  | succ m ih =>
    rw [wcells]
    have hl := wcells_length x y s F m
    by_cases e : j = m
    · subst e
      rw [List.getElem?_append_right (by omega), List.getElem?_append_right (by omega), hl, Nat.sub_self, show j * 2 + 1 - j * 2 = 1 by omega]
      exact ⟨rfl, rfl⟩
    · rw [List.getElem?_append_left (by omega), List.getElem?_append_left (by omega)]
      exact ih (by omega)
def winN (far : Int) : Nat := (2 * far.toNat + 1) * (2 * far.toNat + 1)
/-- All points of the window can be. -/
def WinOk (x y s far : Int) : Prop := 0 ≤ far ∧ far ≤ 8 ∧ ∀ j, j < winN far → atC x y (wiX far.toNat j) (wiY far.toNat j) s = true
/-- A slice that holds the window's points, if all of them can be; else an empty one. -/
def WinAt (w : World) (x y s far : Int) (a : Option Addr) (l c : Nat) : Prop :=
  (WinOk x y s far ∧ l = winN far ∧ l ≤ c ∧ ∃ b, a = some ⟨b, 0, none⟩ ∧ b < w.heap.size ∧ Seg w b 0 (wcells x y s far.toNat l)) ∨ (¬ WinOk x y s far ∧ l = 0)
theorem WinAt.below {w w' : World} {x y s far : Int} {a : Option Addr} {l c : Nat} (h : WinAt w x y s far a l c) (hb : Below w.heap.size w w') : WinAt w' x y s far a l c := by
  rcases h with ⟨h1, h2, h3, b, h4, h5, h6⟩ | h
  · exact Or.inl ⟨h1, h2, h3, b, h4, Nat.lt_of_lt_of_le h5 hb.size, h6.below hb h5⟩
  · exact Or.inr h
def GotWin (w : World) (x y s far : Int) (e : Ending) (w' : World) : Prop := ∃ (a : Option Addr) (l c : Nat), e = .returned (.slice a l c) ∧ WinAt w' x y s far a l c ∧ Below w.heap.size w w'
theorem owns_below {w w' : World} {base n size : Nat} {T : TypeId} {v : Value} {xs : List Value} (h : w.ownsRow base T size v n xs) (hb : Below w.heap.size w w') : w'.ownsRow base T size v n xs := by
  refine ⟨h.1, h.2.imp id ?_⟩
  rintro ⟨g, cap, cur, h1, h2, h3, h4⟩
  exact ⟨g, cap, cur, h1, h2, by rw [hb.block g (Array.getElem?_eq_some_iff.1 h3).1]; exact h3, h4⟩
theorem Bx.block {w w' : World} {b : Nat} {x y : Value} (h : Bx w b x y) (hb : w'.heap[b]? = w.heap[b]?) : Bx w' b x y :=
  ⟨(World.cell?_of_block (w := w) (a := ⟨b, 0, none⟩) hb).trans h.c0, (World.cell?_of_block (w := w) (a := ⟨b, 1, none⟩) hb).trans h.c1, (World.frozen?_of_block (w := w) (a := ⟨b, 0, none⟩) hb).trans h.f0, (World.frozen?_of_block (w := w) (a := ⟨b, 1, none⟩) hb).trans h.f1⟩
/-- What holds when t points are there. -/
structure WSt (w : World) (T : TypeId) (x y s : Int) (F t : Nat) (pv : Value) (wr : World) : Prop where
  ok : ∀ j, j < t → atC x y (wiX F j) (wiY F j) s = true
  own : wr.ownsRow (w.heap.size + 1) T 2 pv t (wcells x y s F t)
  bx : Bx wr w.heap.size (.int .i64 x) (.int .i64 y)
  bel : Below w.heap.size w wr
  big : w.heap.size < wr.heap.size
theorem WSt.form {w wr : World} {T : TypeId} {x y s : Int} {F t : Nat} {pv : Value} (h : WSt w T x y s F t pv wr) : ∃ (a : Option Addr) (c : Nat), pv = .slice a t c := by
  rcases h.own.2 with ⟨e1, e2⟩ | ⟨g, cap, cur, h1, _⟩
  · exact ⟨none, 0, by rw [e1, e2]⟩
  · exact ⟨_, _, h1⟩
theorem WSt.next {w wr V w2 : World} {T : TypeId} {x y s : Int} {F r c : Nat} {pv v2 : Value} (hc : c < 2 * F + 1) (h : WSt w T x y s F (r * (2 * F + 1) + c) pv wr) (h0 : atC x y ((r : Int) - F) ((c : Int) - F) s = true) (hV : Below wr.heap.size wr V)
    (hown : w2.ownsRow (w.heap.size + 1) T 2 v2 (r * (2 * F + 1) + c + 1) (wcells x y s F (r * (2 * F + 1) + c) ++ [.int .i64 (x + ((r : Int) - F) * s), .int .i64 (y + ((c : Int) - F) * s)])) (hg : V.grownBy w2 pv.ownBlock) :
    WSt w T x y s F (r * (2 * F + 1) + (c + 1)) v2 w2 := by
  obtain ⟨e1, e2⟩ := wi_at F r c hc
  have hs := hV.size
  have hb := h.big
  have hlt : ∀ g, pv.ownBlock = some g → w.heap.size + 1 ≤ g := fun g hg => (World.ownsRow.lt h.own g hg).1
  refine ⟨fun j hj => ?_, ?_, ?_, ?_, ?_⟩
  · by_cases e : j = r * (2 * F + 1) + c
    · rw [e, e1, e2]; exact h0
    · exact h.ok j (by omega)
  · rw [← Nat.add_assoc, wcells, e1, e2]; exact hown
  · exact (h.bx.on hV).block (hg.block w.heap.size (by omega) (fun e => by have := hlt _ e.symm; omega))
  · exact (also h.bel hV).grown hg (by omega) (fun g hg => by have := hlt g hg; omega)
  · have := hg.size; omega
theorem WSt.done {w wr : World} {T : TypeId} {x y s : Int} {F : Nat} {pv : Value} (hF : F ≤ 8) (h : WSt w T x y s F ((2 * F + 1) * (2 * F + 1)) pv wr) : ∃ (a : Option Addr) (l c : Nat), pv = .slice a l c ∧ WinAt wr x y s (F : Int) a l c ∧ Below w.heap.size w wr := by
  have hn : 0 < (2 * F + 1) * (2 * F + 1) := Nat.mul_pos (by omega) (by omega)
  obtain ⟨hl, hh⟩ := h.own
  rcases hh with ⟨_, e⟩ | ⟨g, cap, cur, h1, h2, h3, h4, h5, h6, h7⟩
  · omega
  · subst h1
    refine ⟨_, _, _, rfl, Or.inl ⟨⟨by omega, by omega, fun j hj => h.ok j hj⟩, rfl, h4, g, rfl, (Array.getElem?_eq_some_iff.1 h3).1, ?_⟩, h.bel⟩
    intro j u hu
    have hj := (List.getElem?_eq_some_iff.1 hu).1
    rw [wcells_length] at hj
    rw [Nat.zero_add]
    exact ⟨(World.ownsRow.cellAt h.own j hj).trans hu, World.ownsRow.frozenAt h.own j⟩
theorem news_two (w : World) (o : Obj) (cs : Array Value) (t : TypeId) : ∀ j u, cs.toList[j]? = some u → ((w.alloc o).alloc (.cells cs t)).cell? ((⟨w.heap.size + 1, 0, none⟩ : Addr).add j) = some u := World.news_of_block (by have := heap_alloc_new (w.alloc o) (.cells cs t); rwa [World.size_alloc] at this)
theorem win_no {x y s : Int} {F r c : Nat} (hr : r < 2 * F + 1) (hc : c < 2 * F + 1) (h : atC x y ((r : Int) - F) ((c : Int) - F) s = false) : ¬ WinOk x y s (F : Int) := by
  rintro ⟨_, _, hk⟩
  obtain ⟨e1, e2⟩ := wi_at F r c hc
  have hlt : r * (2 * F + 1) + c < winN (F : Int) := by
    have := Nat.mul_le_mul_right (2 * F + 1) (show r + 1 ≤ 2 * F + 1 by omega)
    rw [Nat.add_mul, Nat.one_mul] at this
    unfold winN
    simp only [Int.toNat_natCast]
    omega
  have := hk _ hlt
  simp only [Int.toNat_natCast] at this
  rw [e1, e2, h] at this
  cases this
/-- The window's points stand in their order. -/
theorem win_less {x y s far : Int} (h : WinOk x y s far) (j : Nat) (hj : j + 1 < winN far) : cmpP (x + wiX far.toNat j * s) (y + wiY far.toNat j * s) (x + wiX far.toNat (j + 1) * s) (y + wiY far.toNat (j + 1) * s) = -1 := by
  have hs := (sideC_true.1 (atC_true.1 (h.2.2 j (by omega))).1).1
  generalize far.toNat = F
  unfold wiX wiY cmpP cmpI
  have e := Nat.div_add_mod j (2 * F + 1)
  have l := Nat.mod_lt j (show 0 < 2 * F + 1 by omega)
  generalize j / (2 * F + 1) = a at e ⊢
  generalize j % (2 * F + 1) = b at e l ⊢
  by_cases hb : b + 1 < 2 * F + 1
  · have e1 : (j + 1) / (2 * F + 1) = a := by rw [← e, Nat.add_assoc, Nat.mul_add_div (by omega), Nat.div_eq_of_lt hb, Nat.add_zero]
    have e2 : (j + 1) % (2 * F + 1) = b + 1 := by rw [← e, Nat.add_assoc, Nat.mul_add_mod, Nat.mod_eq_of_lt hb]
    rw [e1, e2, if_pos rfl, if_pos ?_]
    have : (((b + 1 : Nat) : Int) - F) * s = ((b : Int) - F) * s + s := by rw [Int.natCast_add, show ((b : Int) + ((1 : Nat) : Int) - F) = ((b : Int) - F) + 1 by omega, Int.add_mul, Int.one_mul]
    omega
  · have e1 : (j + 1) / (2 * F + 1) = a + 1 := by rw [← e, show (2 * F + 1) * a + b + 1 = (2 * F + 1) * (a + 1) by rw [Nat.mul_add]; omega, Nat.mul_div_cancel_left _ (by omega)]
    have : (((a + 1 : Nat) : Int) - F) * s = ((a : Int) - F) * s + s := by rw [Int.natCast_add, show ((a : Int) + ((1 : Nat) : Int) - F) = ((a : Int) - F) + 1 by omega, Int.add_mul, Int.one_mul]
    rw [e1, if_neg (by omega), if_pos (by omega)]
end Go.Proofs.Ytnhoaopmnoilbaa

namespace Go.Proofs.Ytnhoaopmnoilbaa
open Go.RowKit
set_option linter.unusedVariables false

theorem infoPt : (Try.prog.info? 23).map (fun i => (i.zero, i.size, i.bytes)) = some (some (.agg #[.int .i64 0, .int .i64 0]), 2, 16) := by kernel_rfl
set_option maxRecDepth 100000 in
set_option maxHeartbeats 8000000 in
theorem lWindow (x y s far : Int) (w : World) : Calls Try.prog 17 #[.agg #[.int .i64 x, .int .i64 y], .int .i64 s, .int .i64 far] w (GotWin w x y s far) := by
  rcases Int.lt_or_le far 0 with hf | hf
  · have hno : ¬ WinOk x y s far := fun h => by have := h.1; omega
    go_enter Try.func17, Try.ntmps17
    go_wp2
    go_ret
    exact ⟨_, 0, 0, rfl, Or.inr ⟨hno, rfl⟩, (Below.refl _ _).alloc (Nat.le_refl _) _⟩
  have hf0 := hf
  rcases Int.lt_or_le 8 far with hf | hf
  · have hno : ¬ WinOk x y s far := fun h => by have := h.2.1; omega
    have hf1 : ¬ far < 0 := by omega
    go_enter Try.func17, Try.ntmps17
    go_wp2
    go_ret
    exact ⟨_, 0, 0, rfl, Or.inr ⟨hno, rfl⟩, (Below.refl _ _).alloc (Nat.le_refl _) _⟩
  obtain ⟨F, rfl⟩ := Int.eq_ofNat_of_zero_le hf0
  have hF : F ≤ 8 := by omega
  clear hf hf0
  obtain ⟨i0, hi0, hz0, hz1, hz2⟩ := info_parts infoPt
  have hw0 : wrap64 (-(F : Int)) = -(F : Int) := wrap_in (by omega) (by omega)
  have hf1 : ¬ (F : Int) < 0 := by omega
  have hf2 : ¬ 8 < (F : Int) := by omega
  go_enter Try.func17, Try.ntmps17
  go_wp2
  go_loopw [7, 8] (fun pv iv wr => ∃ r : Nat, r ≤ 2 * F + 1 ∧ iv = .int .i64 ((r : Int) - F) ∧ WSt w 23 x y s F (r * (2 * F + 1)) pv wr) (fun _ iv _ => ((F : Int) + 1 - intOf iv).toNat)
  case atStart => exact ⟨0, by omega, by simp, by rw [Nat.zero_mul]; exact ⟨fun j hj => by omega, World.ownsRow_nil _ _ _ _, (bx_new w _ _ _), (Below.refl _ _).alloc (Nat.le_refl _) _, by simp⟩⟩
  case round =>
    obtain ⟨r, hr, rfl, hst⟩ := hrel
    by_cases hlt : r < 2 * F + 1
    · obtain ⟨wo, rfl⟩ : ∃ wo : World, wo = wr := ⟨_, rfl⟩
      have hl : (r : Int) - F ≤ F := by omega
      go_wp2
      go_loopw [7, 9] (fun pv kv wr => ∃ c : Nat, c ≤ 2 * F + 1 ∧ kv = .int .i64 ((c : Int) - F) ∧ WSt w 23 x y s F (r * (2 * F + 1) + c) pv wr) (fun _ kv _ => ((F : Int) + 1 - intOf kv).toNat)
      case atStart => exact ⟨0, by omega, by simp, hst⟩
      case round =>
        clear hst
        obtain ⟨c, hc, rfl, hst⟩ := hrel
        by_cases hlt2 : c < 2 * F + 1
        · have hl2 : (c : Int) - F ≤ F := by omega
          have hw1 : wrap64 ((c : Int) - F + 1) = (c : Int) - F + 1 := wrap_in (by omega) (by omega)
          have hbig := hst.big
          have hsz := hst.bel.size
          have ⟨x0, x1, x2, x3⟩ := hst.bx
          cases hb : atC x y ((r : Int) - F) ((c : Int) - F) s
          · have hno := win_no hlt hlt2 hb
            go_wp2_with (go_at_call 8; refine (lAt x y ((r : Int) - F) ((c : Int) - F) s _ (b := false) hb.symm rfl rfl).mono ?_; rintro e w1 ⟨rfl, b1⟩)
            go_ret
            exact ⟨_, 0, 0, rfl, Or.inr ⟨hno, rfl⟩, ((also hst.bel b1).alloc (by have := b1.size; omega) _)⟩
          · have HN : Hid _ := fun V w2 v2 hV hown hg => WSt.next (V := V) (w2 := w2) (v2 := v2) hlt2 hst hb hV hown hg
            have hown := hst.own
            have hm : r * (2 * F + 1) + c < 17 * 17 := by
              have := Nat.mul_le_mul (show r + 1 ≤ 17 by omega) (show 2 * F + 1 ≤ 17 by omega)
              rw [Nat.add_mul, Nat.one_mul] at this
              omega
            obtain ⟨pa, pc, rfl⟩ := hst.form
            clear hst
            obtain ⟨t, ht⟩ : ∃ t, t = r * (2 * F + 1) + c := ⟨_, rfl⟩
            rw [← ht] at hm hown HN ⊢
            have HT : Hid _ := ht
            clear ht
            obtain ⟨X, hX⟩ : ∃ X, X = x + ((r : Int) - F) * s := ⟨_, rfl⟩
            obtain ⟨Y, hY⟩ : ∃ Y, Y = y + ((c : Int) - F) * s := ⟨_, rfl⟩
            rw [← hX, ← hY] at HN
            have HX : Hid _ := hX
            have HY : Hid _ := hY
            clear hX hY
            go_wp2_with (first
              | (go_at_call 8; refine (lAt x y ((r : Int) - F) ((c : Int) - F) s _ (b := true) hb.symm HX.out HY.out).mono ?_; rintro e w1 ⟨rfl, b1⟩)
              | (at_builtin; refine wpList_append_own _ rfl (.tmp 43) (.tmp 45) 36 rfl (w.heap.size + 1) 23 i0 (.agg #[.int .i64 0, .int .i64 0]) 2 16 Try.underlying36 hi0 hz0 hz1 hz2 rfl (by decide) (.slice pa t pc) t (wcells x y s F t) rfl (((owns_below hown b1).alloc _).alloc _) ⟨w1.heap.size + 1, 0, none⟩ 1 1 [.int .i64 X, .int .i64 Y] rfl rfl (news_two _ _ _ _) (ints_oneCell .i64 [X, Y]) (by unfold maxLen; omega) (by omega) (by have := b1.size; simp; omega) ?_; intro v2 w2 hown2 hgrow2 _)
              | go_in)
            go_roundw
            case rel => exact ⟨c + 1, by omega, by simp; omega, HN.out _ w2 v2 ((b1.alloc b1.size _).alloc (by have := b1.size; simp; omega) _) hown2 hgrow2⟩
            case measure => simp [intOf]; omega
        · obtain rfl : c = 2 * F + 1 := by omega
          have hl2 : ¬ ((2 * F + 1 : Nat) : Int) - F ≤ F := by omega
          have hw1 : wrap64 ((r : Int) - F + 1) = (r : Int) - F + 1 := wrap_in (by omega) (by omega)
          go_wp2
          go_roundw
          case rel => exact ⟨r + 1, by omega, by simp; omega, by rw [Nat.add_mul, Nat.one_mul]; exact hst⟩
          case measure => simp [intOf]; omega
    · obtain rfl : r = 2 * F + 1 := by omega
      obtain ⟨a, l, c, rfl, h1, h2⟩ := hst.done hF
      have hl : ¬ ((2 * F + 1 : Nat) : Int) - F ≤ F := by omega
      clear hst
      go_wp2
      go_ret
      exact ⟨a, l, c, rfl, h1, h2⟩
end Go.Proofs.Ytnhoaopmnoilbaa

namespace Go.Proofs.Ytnhoaopmnoilbaa
open Go.RowKit
set_option linter.unusedVariables false

set_option maxRecDepth 100000 in
set_option maxHeartbeats 8000000 in
theorem rlWindow (x y s far : Int) (w : World) (BX : Hid (-9223372036854775808 ≤ x ∧ x ≤ 9223372036854775807)) (BY : Hid (-9223372036854775808 ≤ y ∧ y ≤ 9223372036854775807)) (BS : Hid (-9223372036854775808 ≤ s ∧ s ≤ 9223372036854775807)) : Calls Try.prog 19 #[.agg #[.int .i64 x, .int .i64 y], .int .i64 s, .int .i64 far] w (GotWin w x y s far) := by
  rcases Int.lt_or_le far 0 with hf | hf
  · have hno : ¬ WinOk x y s far := fun h => by have := h.1; omega
    go_enter Try.func19, Try.ntmps19
    go_wp2
    go_ret
    exact ⟨_, 0, 0, rfl, Or.inr ⟨hno, rfl⟩, ((Below.refl _ _).alloc (Nat.le_refl _) _).alloc (by simp) _⟩
  have hf0 := hf
  rcases Int.lt_or_le 8 far with hf | hf
  · have hno : ¬ WinOk x y s far := fun h => by have := h.2.1; omega
    have hf1 : ¬ far < 0 := by omega
    go_enter Try.func19, Try.ntmps19
    go_wp2
    go_ret
    exact ⟨_, 0, 0, rfl, Or.inr ⟨hno, rfl⟩, ((Below.refl _ _).alloc (Nat.le_refl _) _).alloc (by simp) _⟩
  obtain ⟨F, rfl⟩ := Int.eq_ofNat_of_zero_le hf0
  have hF : F ≤ 8 := by omega
  clear hf hf0
  obtain ⟨i0, hi0, hz0, hz1, hz2⟩ := info_parts infoPt
  have hw0 : wrap64 (-(F : Int)) = -(F : Int) := wrap_in (by omega) (by omega)
  have hf1 : ¬ (F : Int) < 0 := by omega
  have hf2 : ¬ 8 < (F : Int) := by omega
  go_enter Try.func19, Try.ntmps19
  go_wp2
  go_loopw [7, 8] (fun pv iv wr => ∃ r : Nat, r ≤ 2 * F + 1 ∧ iv = .int .i64 ((r : Int) - F) ∧ WSt w 23 x y s F (r * (2 * F + 1)) pv wr) (fun _ iv _ => ((F : Int) + 1 - intOf iv).toNat)
  case atStart => exact ⟨0, by omega, by simp, by rw [Nat.zero_mul]; exact ⟨fun j hj => by omega, (by have h := World.ownsRow_made (base := w.heap.size + 1) (size := 2) (e := 23) (w.alloc (.cells #[.int .i64 x, .int .i64 y] 23)) #[] 0 (by simp) (by decide) rfl; rw [World.size_alloc] at h; exact h), (bx_new w _ _ _).on ((Below.refl _ _).alloc (Nat.le_refl _) _), ((Below.refl _ _).alloc (Nat.le_refl _) _).alloc (by simp) _, by simp; omega⟩⟩
  case round =>
    obtain ⟨r, hr, rfl, hst⟩ := hrel
    by_cases hlt : r < 2 * F + 1
    · obtain ⟨wo, rfl⟩ : ∃ wo : World, wo = wr := ⟨_, rfl⟩
      have hl : (r : Int) - F ≤ F := by omega
      go_wp2
      go_loopw [7, 9] (fun pv kv wr => ∃ c : Nat, c ≤ 2 * F + 1 ∧ kv = .int .i64 ((c : Int) - F) ∧ WSt w 23 x y s F (r * (2 * F + 1) + c) pv wr) (fun _ kv _ => ((F : Int) + 1 - intOf kv).toNat)
      case atStart => exact ⟨0, by omega, by simp, hst⟩
      case round =>
        clear hst
        obtain ⟨c, hc, rfl, hst⟩ := hrel
        by_cases hlt2 : c < 2 * F + 1
        · have hl2 : (c : Int) - F ≤ F := by omega
          have hw1 : wrap64 ((c : Int) - F + 1) = (c : Int) - F + 1 := wrap_in (by omega) (by omega)
          have hbig := hst.big
          have hsz := hst.bel.size
          have ⟨x0, x1, x2, x3⟩ := hst.bx
          have BI : Hid (-9223372036854775808 ≤ (r : Int) - F ∧ (r : Int) - F ≤ 9223372036854775807) := ⟨by omega, by omega⟩
          have BK : Hid (-9223372036854775808 ≤ (c : Int) - F ∧ (c : Int) - F ≤ 9223372036854775807) := ⟨by omega, by omega⟩
          cases hb : atC x y ((r : Int) - F) ((c : Int) - F) s
          · have hno := win_no hlt hlt2 hb
            go_wp2_with (go_at_call 9; refine (rlAt x y ((r : Int) - F) ((c : Int) - F) s _ BX BY BI BK BS (b := false) hb.symm rfl rfl).mono ?_; rintro e w1 ⟨rfl, b1⟩)
            go_ret
            exact ⟨_, 0, 0, rfl, Or.inr ⟨hno, rfl⟩, ((also hst.bel b1).alloc (by have := b1.size; omega) _).alloc (by have := b1.size; simp; omega) _⟩
          · have HN : Hid _ := fun V w2 v2 hV hown hg => WSt.next (V := V) (w2 := w2) (v2 := v2) hlt2 hst hb hV hown hg
            have hown := hst.own
            have hm : r * (2 * F + 1) + c < 17 * 17 := by
              have := Nat.mul_le_mul (show r + 1 ≤ 17 by omega) (show 2 * F + 1 ≤ 17 by omega)
              rw [Nat.add_mul, Nat.one_mul] at this
              omega
            obtain ⟨pa, pc, rfl⟩ := hst.form
            clear hst
            obtain ⟨t, ht⟩ : ∃ t, t = r * (2 * F + 1) + c := ⟨_, rfl⟩
            rw [← ht] at hm hown HN ⊢
            have HT : Hid _ := ht
            clear ht
            obtain ⟨X, hX⟩ : ∃ X, X = x + ((r : Int) - F) * s := ⟨_, rfl⟩
            obtain ⟨Y, hY⟩ : ∃ Y, Y = y + ((c : Int) - F) * s := ⟨_, rfl⟩
            rw [← hX, ← hY] at HN
            have HX : Hid _ := hX
            have HY : Hid _ := hY
            clear hX hY
            go_wp2_with (first
              | (go_at_call 9; refine (rlAt x y ((r : Int) - F) ((c : Int) - F) s _ BX BY BI BK BS (b := true) hb.symm HX.out HY.out).mono ?_; rintro e w1 ⟨rfl, b1⟩)
              | (at_builtin; refine wpList_append_own _ rfl (.tmp 46) (.tmp 48) 36 rfl (w.heap.size + 1) 23 i0 (.agg #[.int .i64 0, .int .i64 0]) 2 16 Try.underlying36 hi0 hz0 hz1 hz2 rfl (by decide) (.slice pa t pc) t (wcells x y s F t) rfl (((owns_below hown b1).alloc _).alloc _) ⟨w1.heap.size + 1, 0, none⟩ 1 1 [.int .i64 X, .int .i64 Y] rfl rfl (news_two _ _ _ _) (ints_oneCell .i64 [X, Y]) (by unfold maxLen; omega) (by omega) (by have := b1.size; simp; omega) ?_; intro v2 w2 hown2 hgrow2 _)
              | go_in)
            go_roundw
            case rel => exact ⟨c + 1, by omega, by simp; omega, HN.out _ w2 v2 ((b1.alloc b1.size _).alloc (by have := b1.size; simp; omega) _) hown2 hgrow2⟩
            case measure => simp [intOf]; omega
        · obtain rfl : c = 2 * F + 1 := by omega
          have hl2 : ¬ ((2 * F + 1 : Nat) : Int) - F ≤ F := by omega
          have hw1 : wrap64 ((r : Int) - F + 1) = (r : Int) - F + 1 := wrap_in (by omega) (by omega)
          go_wp2
          go_roundw
          case rel => exact ⟨r + 1, by omega, by simp; omega, by rw [Nat.add_mul, Nat.one_mul]; exact hst⟩
          case measure => simp [intOf]; omega
    · obtain rfl : r = 2 * F + 1 := by omega
      obtain ⟨a, l, c, rfl, h1, h2⟩ := hst.done hF
      have hl : ¬ ((2 * F + 1 : Nat) : Int) - F ≤ F := by omega
      clear hst
      go_wp2
      go_ret
      exact ⟨a, l, c, rfl, h1, h2⟩
end Go.Proofs.Ytnhoaopmnoilbaa

namespace Go.Proofs.Ytnhoaopmnoilbaa
open Go.RowKit
set_option linter.unusedVariables false

theorem WinAt.small {w : World} {x y s far : Int} {a : Option Addr} {l c : Nat} (h : WinAt w x y s far a l c) : l ≤ 289 := by
  rcases h with ⟨⟨h1, h2, _⟩, rfl, _⟩ | ⟨_, rfl⟩
  · unfold winN
    exact Nat.le_trans (Nat.mul_le_mul (show 2 * far.toNat + 1 ≤ 17 by omega) (show 2 * far.toNat + 1 ≤ 17 by omega)) (by decide)
  · omega
theorem WinAt.at {w : World} {x y s far : Int} {a : Option Addr} {l c k : Nat} (h : WinAt w x y s far a l c) (hk : k < l) : WinOk x y s far ∧ l = winN far ∧ l ≤ c ∧ ∃ b, a = some ⟨b, 0, none⟩ ∧ b < w.heap.size ∧ ∀ j, j < l → w.cell? ⟨b, j * 2, none⟩ = some (.int .i64 (x + wiX far.toNat j * s)) ∧ w.cell? ⟨b, j * 2 + 1, none⟩ = some (.int .i64 (y + wiY far.toNat j * s)) := by
  rcases h with ⟨h1, h2, h3, b, h4, h5, h6⟩ | ⟨_, rfl⟩
  · refine ⟨h1, h2, h3, b, h4, h5, fun j hj => ?_⟩
    obtain ⟨e1, e2⟩ := wcells_at x y s far.toNat j l hj
    have c1 := h6.cell _ _ e1
    have c2 := h6.cell _ _ e2
    rw [Nat.zero_add] at c1 c2
    exact ⟨c1, c2⟩
  · omega
set_option maxRecDepth 100000 in
set_option maxHeartbeats 2000000 in
theorem rlSame (x y s far : Int) (a b : Option Addr) (l ca cb : Nat) (w : World) (ha : WinAt w x y s far a l ca) (hb : WinAt w x y s far b l cb) :
    Calls Try.prog 18 #[.slice a l ca, .slice b l cb] w fun e w' => e = .returned (.bool true) ∧ Below w.heap.size w w' := by
  have hl := ha.small
  go_enter Try.func18, Try.ntmps18
  go_wp2
  go_loopw [5] (fun i wr => ∃ k : Nat, k ≤ l ∧ i = .int .i64 (k : Int) ∧ ∃ n, wr = w.drewN n) (fun i _ => l - (intOf i).toNat)
  case atStart => exact ⟨0, by omega, rfl, 0, rfl⟩
  case round =>
    obtain ⟨k, hk, rfl, n, rfl⟩ := hrel
    by_cases hlt : k < l
    · obtain ⟨_, _, hr1, b1, rfl, hb1, hc1⟩ := ha.at hlt
      obtain ⟨_, _, hr2, b2, rfl, hb2, hc2⟩ := hb.at hlt
      obtain ⟨q1, q2⟩ := hc1 k hlt
      obtain ⟨q3, q4⟩ := hc2 k hlt
      clear ha hb hc1 hc2
      generalize x + wiX far.toNat k * s = X at q1 q3
      generalize y + wiY far.toNat k * s = Y at q2 q4
      go_wp2
      go_quiet (fail)
      go_wp2
      go_roundw
      case rel => exact ⟨k + 1, by omega, by simp, _, rfl⟩
      case measure => simp [intOf]; omega
    · go_wp2
      go_ret
      exact ⟨rfl, below_drewN (Below.refl _ _) n⟩
end Go.Proofs.Ytnhoaopmnoilbaa
