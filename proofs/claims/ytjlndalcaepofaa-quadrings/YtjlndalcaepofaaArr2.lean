/-
  A law's argument that is an array of two numbers of 128 bits: taken apart and put together again.
-/
import Derived.Test.YtjlndalcaepofaaArr
namespace Go.Proofs.Ytjlndalcaepofaa
open Go.RowKit
open Go.ChangeShapes Go.WideShapes Go.ChangeAt Go.Joins
set_option linter.unusedVariables false

theorem cellsI : Try.prog.cellsOf 2 = 1 := by kernel_rfl
theorem cellsW : Try.prog.cellsOf 36 = 2 := by kernel_rfl
theorem cellsWW : Try.prog.cellsOf 51 = 4 := by kernel_rfl
theorem trod_w {H : Type} {enc : TypeId × Value → H} {W : World} {bs fuel : Nat} {sp : Nat → Bool} {hd : Bool} {c0 c1 : Value} {y : DataW H × List MemPlace} (h : DataW.trod enc Try.prog W bs sp hd fuel 36 [c0, c1] = some y) :
    ∃ a b : Int, c0 = .int .i64 a ∧ c1 = .int .u64 b ∧ y = (.agg [.lit (.int .i64 a), .lit (.int .u64 b)], []) ∧ (Lit.int .i64 a).wf = true ∧ (Lit.int .u64 b).wf = true := by
  obtain ⟨y0, y1, n, hx, _, h0, h1⟩ := trod_struct2 Try.underlying36 h
  have h0 : DataW.trod enc Try.prog W bs sp hd n 2 [c0] = some y0 := by simpa [cellsI] using h0
  have h1 : DataW.trod enc Try.prog W bs sp hd n 22 [c1] = some y1 := by simpa [cellsU] using h1
  obtain ⟨a, e0, rfl, w0⟩ := DataW.trod_int Try.underlying2 h0
  obtain ⟨b, e1, rfl, w1⟩ := DataW.trod_int Try.underlying22 h1
  simp at e0 e1 hx
  exact ⟨a, b, e0, e1, hx, w0, w1⟩
theorem open_wide2 {H : Type} {enc : TypeId × Value → H} {w W : World} {r : Reach} {b0 bs : Nat} {sp : Nat → Bool} {hd : Bool} {v : Value} {d : DataW H} {p : List MemPlace} (hv : Value.okWide Try.prog w r b0 51 v) (h : DataW.Trod enc Try.prog W bs sp hd 51 v d p) :
    ∃ a0 a1 a2 a3 : Int, v = .agg #[.int .i64 a0, .int .u64 a1, .int .i64 a2, .int .u64 a3] ∧ d = .agg [.agg [.lit (.int .i64 a0), .lit (.int .u64 a1)], .agg [.lit (.int .i64 a2), .lit (.int .u64 a3)]] ∧ p = [] ∧ (Lit.int .i64 a0).wf = true ∧ (Lit.int .u64 a1).wf = true ∧ (Lit.int .i64 a2).wf = true ∧ (Lit.int .u64 a3).wf = true := by
  simp only [Value.okWide, Try.underlying51] at hv
  obtain ⟨cs, rfl, hsz, _⟩ := hv
  obtain ⟨c0, c1, c2, c3, rfl⟩ := list4 (hsz.trans cellsWW)
  obtain ⟨fuel, hf⟩ := h
  obtain ⟨xs, m, _, hx, _, hl, hi⟩ := DataW.trod_array Try.underlying51 hf
  obtain ⟨y0, y1, rfl⟩ : ∃ y0 y1, xs = [y0, y1] := by
    match xs, hl with
    | [y0, y1], _ => exact ⟨y0, y1, rfl⟩
  have i0 := hi 0 (by decide)
  have i1 := hi 1 (by decide)
  rw [cellsW] at i0 i1
  simp [Value.cells] at i0 i1
  obtain ⟨a0, a1, rfl, rfl, rfl, w0, w1⟩ := trod_w i0
  obtain ⟨a2, a3, rfl, rfl, rfl, w2, w3⟩ := trod_w i1
  simp at hx
  exact ⟨a0, a1, a2, a3, rfl, hx.1, hx.2, w0, w1, w2, w3⟩
theorem shut_wide2 {H : Type} {enc : TypeId × Value → H} {W : World} {bs : Nat} {sp : Nat → Bool} {hd : Bool} {a0 a1 a2 a3 : Int} (w0 : (Lit.int .i64 a0).wf = true) (w1 : (Lit.int .u64 a1).wf = true) (w2 : (Lit.int .i64 a2).wf = true) (w3 : (Lit.int .u64 a3).wf = true) :
    DataW.Trod enc Try.prog W bs sp hd 51 (.agg #[.int .i64 a0, .int .u64 a1, .int .i64 a2, .int .u64 a3]) (.agg [.agg [.lit (.int .i64 a0), .lit (.int .u64 a1)], .agg [.lit (.int .i64 a2), .lit (.int .u64 a3)]]) [] := by
  have r2 : List.range 2 = [0, 1] := rfl
  exact ⟨3, by simp [DataW.trod, Try.underlying51, Try.underlying36, Try.underlying22, Try.underlying2, cellsU, cellsI, cellsW, cellsWW, Value.cells, r2, w0, w1, w2, w3]⟩
end Go.Proofs.Ytjlndalcaepofaa
