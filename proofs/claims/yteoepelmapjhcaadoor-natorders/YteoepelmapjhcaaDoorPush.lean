/-
  append of one nought behind a nat that one owns, and both read afterwards.
-/
import Derived.Test.YteoepelmapjhcaaDoorShort
import Derived.ArgAppend
namespace Go.Proofs.YteoepelmapjhcaaDoor
open Go.RowKit
set_option linter.unusedVariables false

theorem run_push {w : World} {base m cap : Nat} {a : Option Addr} {xs : List Value} (hown : Own w base 44 a m cap xs) (hm : m ≤ 1000000000) (hbase : base ≤ w.heap.size) :
    ∃ a' cap' w', (Builtin.append_ #[23, 23] 23 #[.slice a m cap, .slice (some ⟨w.heap.size, 0, none⟩) 1 1]).run Tryd.prog (w.alloc (.cells #[.int .u32 0] 44)) = .ok (.slice a' (m + 1) cap') w' ∧
      Sl w' a' (m + 1) cap' (xs ++ [.int .u32 0]) ∧ Sl w' a m cap xs ∧ Below base w w' := by
  obtain ⟨i0, hi0, hz0, hz1, hz2⟩ := info_parts infoWord
  have hown2 : Own (w.alloc (.cells #[.int .u32 0] 44)) base 44 a m cap xs := World.ownsRow.alloc hown _
  have hB : Below base w (w.alloc (.cells #[.int .u32 0] 44)) := (Below.refl _ _).alloc hbase _
  have hlen := (Own.sl hown).len
  cases a with
  | none =>
    obtain ⟨rfl, rfl⟩ := (Own.sl hown).nil rfl
    obtain ⟨g, c, w', hr, h1, h2, h3, h4⟩ := run_append_lies (P := Tryd.prog) (w.alloc (.cells #[.int .u32 0] 44)) 23 23 base 44 i0 (.int .u32 0) 1 4 Tryd.underlying23 hi0 hz0 hz1 hz2 rfl (by decide) _ 0 xs hown2 ⟨w.heap.size, 0, none⟩ 1 1 [.int .u32 0] rfl (cell_one_new _ _ _) (ints_oneCell .u32 [0]) (by decide) (by decide) (by decide) (by simp; omega) _ rfl
    refine ⟨_, c, w', hr, Own.sl h1, ?_, hB.grown h2 (by simp; omega) (fun k hk => by cases hk)⟩
    obtain rfl : xs = [] := List.eq_nil_of_length_eq_zero hlen
    exact sl_nil w'
  | some ad =>
    have hsh : ∃ g, ad = ⟨g, 0, none⟩ := by
      obtain ⟨_, ⟨h1, _⟩ | ⟨g, cap', cur, hv, _⟩⟩ := hown
      · cases h1
      · cases hv; exact ⟨g, rfl⟩
    obtain ⟨g, rfl⟩ := hsh
    by_cases hc : cap < m + 1
    · obtain ⟨v', w', hr, h1, h2⟩ := run_append_arg_grows (P := Tryd.prog) (w.alloc (.cells #[.int .u32 0] 44)) 23 23 44 i0 (.int .u32 0) 1 4 Tryd.underlying23 hi0 hz0 hz1 hz2 rfl (by decide) ⟨g, 0, none⟩ m cap xs (by omega) (fun j u hu => by rw [Addr.add_lit, Nat.zero_add]; exact Own.cell hown2 j u hu) ⟨w.heap.size, 0, none⟩ 1 1 [.int .u32 0] rfl (cell_one_new _ _ _) hc (by unfold maxLen; omega) (by omega)
      obtain ⟨a', c', rfl, h3⟩ := Own.form h1
      exact ⟨a', c', w', hr, Own.sl h3, (Own.sl hown2).below (Below.to h2), hB.trans ((Below.to h2).mono (by simp; omega))⟩
    · obtain ⟨w', hr, h1, h2⟩ := run_append_fits (P := Tryd.prog) (w.alloc (.cells #[.int .u32 0] 44)) base 23 23 44 i0 1 Tryd.underlying23 hi0 hz1 g m cap xs hown2 ⟨w.heap.size, 0, none⟩ 1 1 [.int .u32 0] rfl (cell_one_new _ _ _) (ints_oneCell .u32 [0]) (by omega)
      refine ⟨_, cap, w', hr, Own.sl h1, ?_, hB.grown h2 (by simp; omega) (fun k hk => by cases hk; exact (seg_of_own hown).2.2)⟩
      have := Own.take h1 (m := m) (by omega)
      rw [List.take_append_of_le_length (by omega), List.take_of_length_le (by omega)] at this
      exact Own.sl this

/-- An append whose run is known, its guard (if it has one) saying yes. -/
theorem wpList_append_run {P : Program} {ops : Array Oper} {Q : Exit → Act → World → Prop} {a : Act} {w : World} {rest : List Oper} {o : Oper} (hw : Region.wanted o (yielded ops a.tmps) = true) (s x : Operand) (t : TypeId)
    (ho : o.op = .call { callee := .builtin .append, args := #[s, x], argTypes := #[t, t] }) (v vx v' : Value) (w' : World) (hs : a.eval s = v) (hx : a.eval x = vx)
    (hrun : (Builtin.append_ #[t, t] o.type #[v, vx]).run P w = .ok v' w') (h : wpList P ops Q rest (a.put o.dst v') w') : wpList P ops Q (o :: rest) a w := by
  refine BigFrame.wpList_want hw fun K hK => ?_
  unfold Oper.wp execOp
  simp only [ho, resolve, invoke, builtin, Sem.run_bind, Sem.run_pure, Result.andThen_ok, List.map_toArray, List.map_cons, List.map_nil, hs, hx, hrun]
  exact hK _ _ h
end Go.Proofs.YteoepelmapjhcaaDoor
