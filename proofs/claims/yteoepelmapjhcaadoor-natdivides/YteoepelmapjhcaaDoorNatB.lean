/-
  What nat's Trim and Of answer; sums and differences of words.
-/
import Derived.Test.YteoepelmapjhcaaDoorNatA
import Derived.OwnWalk
import Derived.Laws.AppendOwnNone
namespace Go.Proofs.YteoepelmapjhcaaDoor
open Go.RowKit
set_option linter.unusedVariables false

theorem infoWord : (Tryd.prog.info? 44).map (fun i => (i.zero, i.size, i.bytes)) = some (some (.int .u32 0), 1, 4) := by kernel_rfl
theorem infoInt : (Tryd.prog.info? 3).map (fun i => (i.zero, i.size, i.bytes)) = some (some (.int .i64 0), 1, 8) := by kernel_rfl

/-- append onto what one owns, whatever comes behind: nil, empty or not. -/
theorem append_any {P : Program} (w : World) {ops : Array Oper} {rest : List Oper} {o : Oper} {a : Act} {Q : Exit → Act → World → Prop} (hgd : o.guard = none) (s x : Operand) (t : TypeId)
    (ho : o.op = .call { callee := .builtin .append, args := #[s, x], argTypes := #[t, t] })
    (base : Nat) (e : TypeId) (i : TypeInfo) (z : Value) (bytes : Nat) (ht : P.underlying t = some (.slice e)) (hi : P.info? e = some i) (hz : i.zero = some z)
    (hsize : i.size = 1) (hby : i.bytes = bytes) (hzs : z.cells.size = 1)
    (a0 : Option Addr) (n0 c0 : Nat) (xs : List Value) (hs : a.eval s = .slice a0 n0 c0) (hown : Own w base e a0 n0 c0 xs)
    (ao : Option Addr) (m c : Nat) (news : List Value) (hx : a.eval x = .slice ao m c) (hsl : Sl w ao m c news) (h1 : ∀ u ∈ news, u.oneCell' = true)
    (h63 : n0 + m ≤ maxLen) (hbytes : (n0 + m) * bytes ≤ 140737488355328) (hbase : base ≤ w.heap.size)
    (h : ∀ a' cap' w', Own w' base e a' (n0 + m) cap' (xs ++ news) → w.grownBy w' (Value.slice a0 n0 c0).ownBlock → wpList P ops Q rest (a.put o.dst (.slice a' (n0 + m) cap')) w') : wpList P ops Q (o :: rest) a w := by
  cases ao with
  | none =>
    obtain ⟨rfl, rfl⟩ := hsl.nil rfl
    obtain rfl : news = [] := List.eq_nil_of_length_eq_zero hsl.len
    refine wpList_append_own_none hgd s x t ho base e i 1 ht hi _ n0 xs hs hown hx ?_
    exact h a0 c0 w (by simpa using hown) (World.grownBy.refl _ _)
  | some ad =>
    refine wpList_append_own w hgd s x t ho base e i z 1 bytes ht hi hz hsize hby hzs (by decide) _ n0 xs hs hown ad m c news hx (by rw [hsl.len]; omega) ?_ h1 h63 hbytes hbase ?_
    · intro j u hu
      have hj := (List.getElem?_eq_some_iff.1 hu).1
      obtain ⟨b, off, e1, hb, hseg⟩ := hsl.at (by have := hsl.len; omega)
      cases e1
      rw [Addr.add_lit]
      exact hseg.cell j u hu
    · intro v' w' h1 h2 _
      obtain ⟨a', cap', rfl, h3⟩ := Own.form h1
      exact h a' cap' w' h3 h2
theorem dcells_one (l : Nat) (u : Int) : ∀ v ∈ wd.dcells l u, v.oneCell' = true := by
  intro v hv
  unfold wd.dcells at hv
  simp only [List.mem_map] at hv
  obtain ⟨j, _, rfl⟩ := hv
  rfl
/-- A nat's length is small wherever it lies in memory. -/
def Few (l : Nat) : Prop := l ≤ 1000000000
theorem Below.to {w w' : World} (h : w.grownBy w' none) : Below w.heap.size w w' := (Below.refl _ w).grown h (Nat.le_refl _) (fun k e => by cases e)

set_option maxHeartbeats 400000 in
theorem trim_any (a : Option Addr) (l cap u : Nat) (w : World) (hs : Sl w a l cap (wd.dcells l (u : Int))) (hu : u < 4294967296 ^ l) (hl : l ≤ 1000000000) :
    Calls Tryd.prog 27 #[.slice a l cap] w fun e w' => ∃ a' cap', e = .returned (.slice a' (wd.nlen u) cap') ∧ Own w' w.heap.size 44 a' (wd.nlen u) cap' (wd.dcells (wd.nlen u) u) ∧ Below w.heap.size w w' := by
  have hle := wd.nlen_le hu
  obtain ⟨i0, hi0, hz0, hz1, hz2⟩ := info_parts infoWord
  have hmax : wd.nlen u ≤ maxLen := by unfold maxLen; omega
  go_enter Tryd.func27, Tryd.ntmps27
  go_wp2_with (first
    | (go_at_call 34; refine (strip_any a l cap u _ hs hu).mono ?_; rintro e w' ⟨a1, cap1, rfl, hw, hcut⟩; subst hw)
    | (at_builtin; refine append_any _ rfl (.const (.slice none 0 0)) (.tmp 4) 23 rfl w.heap.size 44 i0 (.int .u32 0) 4 Tryd.underlying23 hi0 hz0 hz1 hz2 rfl none 0 0 [] rfl (World.ownsRow_nil _ _ _ _) a1 (wd.nlen u) cap1 (wd.dcells (wd.nlen u) u) rfl (hcut.sl hs) (dcells_one _ _) (by omega) (by omega) (Nat.le_refl _) ?_; intro a2 cap2 w2 hown hgrow))
  go_ret
  exact ⟨a2, cap2, rfl, by simpa using hown, Below.to hgrow⟩
end Go.Proofs.YteoepelmapjhcaaDoor
