/-
  A law's arguments that are arrays: four words, two numbers of 128 bits; taken apart and put together again.
-/
import Derived.Test.YtjlndalcaepofaaQuadC
import Derived.Laws.IdiomArrays
import Derived.ProofKit
import Derived.OpenShut
import Derived.Lib.SmallJoins
namespace Go.Proofs.Ytjlndalcaepofaa
open Go.RowKit
open Go.ChangeShapes Go.WideShapes Go.ChangeAt Go.Joins
set_option linter.unusedVariables false

theorem list4 {cs : Array Value} (h : cs.size = 4) : ∃ c0 c1 c2 c3, cs = #[c0, c1, c2, c3] := by
  obtain ⟨l⟩ := cs
  match l, h with
  | [c0, c1, c2, c3], _ => exact ⟨c0, c1, c2, c3, rfl⟩
theorem cellsU : Try.prog.cellsOf 22 = 1 := by kernel_rfl
theorem cellsQ : Try.prog.cellsOf 24 = 4 := by kernel_rfl
theorem open_quad {H : Type} {enc : TypeId × Value → H} {w W : World} {r : Reach} {b0 bs : Nat} {sp : Nat → Bool} {hd : Bool} {v : Value} {d : DataW H} {p : List MemPlace} (hv : Value.okWide Try.prog w r b0 24 v) (h : DataW.Trod enc Try.prog W bs sp hd 24 v d p) :
    ∃ a0 a1 a2 a3 : Int, v = .agg #[.int .u64 a0, .int .u64 a1, .int .u64 a2, .int .u64 a3] ∧ d = .agg [.lit (.int .u64 a0), .lit (.int .u64 a1), .lit (.int .u64 a2), .lit (.int .u64 a3)] ∧ p = [] ∧ (Lit.int .u64 a0).wf = true ∧ (Lit.int .u64 a1).wf = true ∧ (Lit.int .u64 a2).wf = true ∧ (Lit.int .u64 a3).wf = true := by
  simp only [Value.okWide, Try.underlying24] at hv
  obtain ⟨cs, rfl, hsz, _⟩ := hv
  obtain ⟨c0, c1, c2, c3, rfl⟩ := list4 (hsz.trans cellsQ)
  obtain ⟨fuel, hf⟩ := h
  obtain ⟨y0, y1, y2, y3, n, hx, h0, h1, h2, h3⟩ := trod_array4 Try.underlying24 cellsU hf
  obtain ⟨a0, e0, rfl, w0⟩ := DataW.trod_int Try.underlying22 h0
  obtain ⟨a1, e1, rfl, w1⟩ := DataW.trod_int Try.underlying22 h1
  obtain ⟨a2, e2, rfl, w2⟩ := DataW.trod_int Try.underlying22 h2
  obtain ⟨a3, e3, rfl, w3⟩ := DataW.trod_int Try.underlying22 h3
  simp at e0 e1 e2 e3 hx
  subst e0 e1 e2 e3
  exact ⟨a0, a1, a2, a3, rfl, hx.1, hx.2, w0, w1, w2, w3⟩
theorem shut_quad {H : Type} {enc : TypeId × Value → H} {W : World} {bs : Nat} {sp : Nat → Bool} {hd : Bool} {a0 a1 a2 a3 : Int} (w0 : (Lit.int .u64 a0).wf = true) (w1 : (Lit.int .u64 a1).wf = true) (w2 : (Lit.int .u64 a2).wf = true) (w3 : (Lit.int .u64 a3).wf = true) :
    DataW.Trod enc Try.prog W bs sp hd 24 (.agg #[.int .u64 a0, .int .u64 a1, .int .u64 a2, .int .u64 a3]) (.agg [.lit (.int .u64 a0), .lit (.int .u64 a1), .lit (.int .u64 a2), .lit (.int .u64 a3)]) [] := by
  have r4 : List.range 4 = [0, 1, 2, 3] := rfl
  exact ⟨2, by simp [DataW.trod, Try.underlying24, Try.underlying22, cellsU, cellsQ, Value.cells, r4, w0, w1, w2, w3]⟩

/-- The number of four words. -/
def qn (a0 a1 a2 a3 : Int) : Int := a0 + a1 * 18446744073709551616 + a2 * 340282366920938463463374607431768211456 + wrap64 a3 * 6277101735386680763835789423207666416102355444464034512896
theorem quad_mk {a0 a1 a2 a3 : Int} (w0 : (Lit.int .u64 a0).wf = true) (w1 : (Lit.int .u64 a1).wf = true) (w2 : (Lit.int .u64 a2).wf = true) (w3 : (Lit.int .u64 a3).wf = true) :
    q.dg (qn a0 a1 a2 a3) 0 = a0 ∧ q.dg (qn a0 a1 a2 a3) 1 = a1 ∧ q.dg (qn a0 a1 a2 a3) 2 = a2 ∧ q.dg (qn a0 a1 a2 a3) 3 = a3 ∧
    -57896044618658097711785492504343953926634992332820282019728792003956564819968 ≤ qn a0 a1 a2 a3 ∧ qn a0 a1 a2 a3 < 57896044618658097711785492504343953926634992332820282019728792003956564819968 := by
  have h0 := bd_u64 w0; have h1 := bd_u64 w1; have h2 := bd_u64 w2; have h3 := bd_u64 w3
  rw [qdg0, qdg1, qdg2, qdg3]
  have ht : -9223372036854775808 ≤ wrap64 a3 ∧ wrap64 a3 < 9223372036854775808 ∧ wrap64 a3 % 18446744073709551616 = a3 := by unfold wrap64; omega
  unfold qn
  generalize wrap64 a3 = t at *
  refine ⟨by omega, by omega, ?_, ?_, by omega, by omega⟩
  · have e : (a0 + a1 * 18446744073709551616 + a2 * 340282366920938463463374607431768211456 + t * 6277101735386680763835789423207666416102355444464034512896) / 340282366920938463463374607431768211456 = a2 + t * 18446744073709551616 := by omega
    rw [e]; omega
  · have e : (a0 + a1 * 18446744073709551616 + a2 * 340282366920938463463374607431768211456 + t * 6277101735386680763835789423207666416102355444464034512896) / 6277101735386680763835789423207666416102355444464034512896 = t := by omega
    rw [e]; omega
theorem wide_range (h l : Int) (h1 : -9223372036854775808 ≤ h) (h2 : h ≤ 9223372036854775807) (l1 : 0 ≤ l) (l2 : l ≤ 18446744073709551615) : -170141183460469231731687303715884105728 ≤ h * 18446744073709551616 + l ∧ h * 18446744073709551616 + l < 170141183460469231731687303715884105728 := by omega
end Go.Proofs.Ytjlndalcaepofaa
