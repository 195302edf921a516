/-
  Joined texts, part 3:
  A region whose order is open and whose last operation writes what the others read: the condition S on the world is kept up to that operation, and not behind it. It imports nothing of the program.
  Vertices, faces and faces with their numbers that are the same are equal.
  What zelligeref11's New, Dump and Same do.
  Offs whose differences don't wrap.
  What zelligeref11's Twin answers, corner 0, the same way.
  What zelligeref11's Twin answers, corner 1, the same way.
  What zelligeref11's Twin answers, corner 2, the same way.
  What zelligeref11's Twin answers, corner 0, the other way round.
  What zelligeref11's Twin answers, corner 1, the other way round.
  What zelligeref11's Twin answers, corner 2, the other way round.
  What zelligeref11's Twin answers, of any corners.
  What zelligeref11's Across answers, in numbers.
  What zelligeref11's Across answers of an edge that begins at corner 0.
  What zelligeref11's Across answers of an edge that begins at corner 1.
  What zelligeref11's Across answers of an edge that begins at corner 2.
  What zelligeref11's Across answers.
  What the program's mesh must do (its own shape in memory is left open: MP): the laws of layer 11 are walked over this.
  Plain arithmetic of numbers of two words: what word a sum, a difference and a product have. It imports nothing of the program.
  What package wide's smallest functions answer: a sum, a difference, a number with the other sign, as words.
  What division by ten of a number of two words answers.
  Decimal digits of a number: the last k of them, how many there are, and the text. It imports nothing of the program.
  What the text of a number of two words is.
  wide.Show answers the decimal text of the number.
  wide.Mul, Cmp, Sign, and the product whose text every law of this layer looks at.
  What package pred's can, area2, dist2, turn, Area2, Orient and Dist2 answer.
  A region whose order is open, with calls and blocks that are made at any time: what holds while some are done, kept by an invariant (no order is written out). It imports nothing of the program.
  What the calls of an open region may tell: a number of zelligeref04 (its digits lie in memory), or a value that is known.
  What zelligeref07's diff, Area and Dist answer.
  What zelligeref07's near, sign, Orient and flat answer.
  What zelligeref11's AddFace answers where a vertex is not there, a corner can't be, or the corners don't turn left.
  What zelligeref11's AddFace does with a face whose corners are there and turn left.
  append in a region that draws its order, of elements of several cells. It imports nothing of the program.
  What zelligeref11's DropVert and DropFace do.
  Both meshes, an act at a time: the law's own 'does'.
  Both meshes, act by act: the law's own 'Plays'.
  A slice of acts, and an array of two ints, that come as arguments, opened.
  What zelligeref11's Check answers.
  The law's own looks, and MeshActs, over what the program's mesh must do.
-/
import Derived.Test.YtjdeehffbgpenaaP2
import Derived.Test.YtjdeehffbgpenaaP1
import Derived.ChangeKeysEq
import Derived.WalkKit
import Derived.Laws.Bits64b
import Derived.Test.YtjdeehffbgpenaaRows
import Derived.WalkSpells
import Derived.StillTactics
import Derived.Laws.Pointers
import Derived.Laws.Externs
import Derived.Shelf.Spec.BitsCarry
import Derived.RowKit3
import Derived.Deep.QuietTactic
import Derived.BigQuiet
import Derived.Laws.BytesArg
import Derived.WalkSmall
import Derived.Deep.Slices
import Derived.ProofKit
import Derived.OpenShut
import Derived.ChangeSlices
import Derived.Lib.SmallJoins
namespace Go.Proofs.Ytjdeehffbgpenaa
variable {P : Program} {md : Region.Mode} {Q : Exit → Act → World → Prop} {S : World → Prop} {z : Nat}

/-- Whatever order is picked from here on; S holds behind every operation but the last one, number z. -/
def anyL (P : Program) (md : Region.Mode) (ops : Array Oper) (Q : Exit → Act → World → Prop) (S : World → Prop) (z : Nat) : Nat → Array Bool → Act → World → Prop
  | 0, L, a, w => Region.ready md ops L = [] ∧ Q .normal a w
  | f + 1, L, a, w => (Region.ready md ops L = [] → Q .normal a w) ∧ ∀ i ∈ Region.ready md ops L, wpOp P ops Q i (fun a' w' => (i ≠ z → S w') ∧ anyL P md ops Q S z f (L.setIfInBounds i true) a' w') a w
theorem anyL_any {ops : Array Oper} : ∀ (f : Nat) (L : Array Bool) (a : Act) (w : World), anyL P md ops Q S z f L a w → wpAny P md ops Q f L a w
  | 0, _, _, _, h => h
  | f + 1, _, _, _, h => ⟨h.1, fun i hi => wpOp_mono (fun a' w' h' => anyL_any f _ a' w' h'.2) (h.2 i hi)⟩
/-- An operation for which the last one waits, and which yields its value in every world that meets S, may be taken first. -/
theorem anyL_first {ops : Array Oper} {i : Nat} {oi : Oper} {v : Value} (hi : ops[i]? = some oi) (hs : Region.noSelect ops = true)
    (hz : ∀ oz, ops[z]? = some oz → ∃ e ∈ oz.after, Region.binds md e = true ∧ e.on = i) (hzi : i ≠ z) (hQ : ∀ c a w, Q (.panic c) (a.put oi.dst v) w → Q (.panic c) a w) :
    ∀ (f : Nat) (L : Array Bool) (a : Act) (w : World), Region.free md ops L i = true → i ∈ Region.ready md ops L → YieldsIf P ops S oi v a → S w →
      anyL P md ops Q S z f (L.setIfInBounds i true) (a.put oi.dst v) w → anyL P md ops Q S z (f + 1) L a w := by
  suffices H : ∀ (f : Nat) (L : Array Bool) (a : Act) (w : World),
      (∀ j oj, ops[j]? = some oj → j ≠ i → L.getD j true = false → (∀ e ∈ oj.after, Region.binds md e = true → e.on ≠ i) → oi.apart ops oj = true) →
      i ∈ Region.ready md ops L → YieldsIf P ops S oi v a → S w → anyL P md ops Q S z f (L.setIfInBounds i true) (a.put oi.dst v) w → anyL P md ops Q S z (f + 1) L a w from
    fun f L a w hf hr hy hS h => H f L a w (Region.free_spec hi hf) hr hy hS h
  have sel := Region.noSelect_spec hs
  intro f
  induction f with
  | zero =>
    intro L a w _ hr hy hS h
    refine ⟨fun e => absurd hr (by rw [e]; exact List.not_mem_nil), fun j hj => ?_⟩
    rcases Decidable.em (j = i) with rfl | hne
    · exact hy.wpOp hi hS ⟨fun _ => hS, h⟩
    · exact absurd (ready_mono hj hne) (by rw [h.1]; exact List.not_mem_nil)
  | succ f ih =>
    intro L a w hfree hr hy hS h
    refine ⟨fun e => absurd hr (by rw [e]; exact List.not_mem_nil), fun j hj => ?_⟩
    rcases Decidable.em (j = i) with rfl | hne
    · exact hy.wpOp hi hS ⟨fun _ => hS, h⟩
    obtain ⟨hun, oj, hoj, hall⟩ := mem_ready.1 hj
    have hi0 := (mem_ready.1 hr).1
    have hno : ∀ e ∈ oj.after, Region.binds md e = true → e.on ≠ i := by
      intro e he hb q
      have h1 := hall e he hb
      rw [q] at h1
      rcases Nat.lt_or_ge i L.size with g | g
      · simp [g] at hi0 h1
        rw [hi0] at h1
        cases h1
      · simp [Array.getElem?_eq_none g] at h1
    have hjz : j ≠ z := by
      rintro rfl
      obtain ⟨e, he, hb, q⟩ := hz oj hoj
      exact hno e he hb q
    have h2 := wpOp_putIf hoj (hfree j oj hoj hne hun hno) (fun cs b => sel i oi cs b hi) (fun cs b => sel j oj cs b hoj) hQ hy (h.2 j (ready_mono hj hne))
    refine wpOp_mono (fun a' w' h3 => ⟨h3.2.1, ih _ a' w' (fun k ok hk hki hku hkn => hfree k ok hk hki ?_ hkn) (ready_mono hr (Ne.symm hne)) h3.1 (h3.2.1 hjz) ?_⟩) h2
    · rcases Decidable.em (j = k) with rfl | q
      · exact hun
      · rwa [getD_set_ne true q] at hku
    · rw [Array.setIfInBounds_comm _ _ hne]
      exact h3.2.2
def waitsFor (md : Region.Mode) (ops : Array Oper) (z i : Nat) : Bool := ((ops[z]?).map fun o => o.after.any fun e => Region.binds md e && e.on == i).getD true
theorem waits_spec {ops : Array Oper} {i : Nat} (h : waitsFor md ops z i = true) : ∀ oz, ops[z]? = some oz → ∃ e ∈ oz.after, Region.binds md e = true ∧ e.on = i := by
  intro oz ho
  unfold waitsFor at h
  rw [ho] at h
  simp only [Option.map_some, Option.getD_some] at h
  obtain ⟨k, hk, hp⟩ := Array.any_eq_true.1 h
  rw [Bool.and_eq_true_iff] at hp
  exact ⟨_, Array.getElem_mem hk, hp.1, by simpa using hp.2⟩
theorem takeL_yes {l : List Oper} {i : Nat} {oi : Oper} {v : Value} {f : Nat} {L : Array Bool} {a : Act} {w : World} (hi : l[i]? = some oi)
    (hs : Region.noSelect l.toArray = true) (hf : Region.free md l.toArray L i = true) (hr : (Region.ready md l.toArray L).contains i = true) (hz : waitsFor md l.toArray z i = true) (hzi : i ≠ z)
    (hQ : ∀ c a w, Q (.panic c) (a.put oi.dst v) w → Q (.panic c) a w) (hw : Region.wanted oi (yielded l.toArray a.tmps) = true) (hS : S w)
    (hy : ∀ w, S w → (execOp a.eval oi).run P w = .ok (.value v) w)
    (h : anyL P md l.toArray Q S z f (L.setIfInBounds i true) (a.put oi.dst v) w) : anyL P md l.toArray Q S z (f + 1) L a w :=
  anyL_first (by simpa using hi) hs (waits_spec hz) hzi hQ f L a w hf (by simpa using hr) (Or.inl ⟨hw, hy⟩) hS h
theorem takeL_call {l : List Oper} {i : Nat} {o : Oper} {f : Nat} {L : Array Bool} {a : Act} {w : World} (ho : l[i]? = some o) (hr : Region.ready md l.toArray L = [i])
    (h : ∀ K' : Act → World → Prop, Shut (∀ a w, S w → (S w → anyL P md l.toArray Q S z f (L.setIfInBounds i true) a w) → K' a w) → if Region.wanted o (yielded l.toArray a.tmps) = true then Oper.wp P o a w K' Q else K' (a.put o.dst undef) w) :
    anyL P md l.toArray Q S z (f + 1) L a w := by
  refine ⟨fun e => (by rw [hr] at e; cases e), fun j hj => ?_⟩
  rw [hr, List.mem_singleton] at hj
  subst hj
  exact wpOp_step (by simpa using ho) (fun K' hK => h K' (fun a w hS hW => hK a w ⟨fun _ => hS, hW hS⟩))
theorem takeL_last {l : List Oper} {o : Oper} {f : Nat} {L : Array Bool} {a : Act} {w : World} (ho : l[z]? = some o) (hr : Region.ready md l.toArray L = [z])
    (h : ∀ K' : Act → World → Prop, Shut (∀ a w, anyL P md l.toArray Q S z f (L.setIfInBounds z true) a w → K' a w) → if Region.wanted o (yielded l.toArray a.tmps) = true then Oper.wp P o a w K' Q else K' (a.put o.dst undef) w) :
    anyL P md l.toArray Q S z (f + 1) L a w := by
  refine ⟨fun e => (by rw [hr] at e; cases e), fun j hj => ?_⟩
  rw [hr, List.mem_singleton] at hj
  subst hj
  exact wpOp_step (by simpa using ho) (fun K' hK => h K' (fun a w hW => hK a w ⟨fun q => absurd rfl q, hW⟩))
theorem anyL_done {l : List Oper} {L : Array Bool} {a : Act} {w : World} (hr : Region.ready md l.toArray L = []) (h : Q .normal a w) : ∀ f, anyL P md l.toArray Q S z f L a w
  | 0 => ⟨hr, h⟩
  | _ + 1 => ⟨fun _ => h, by rw [hr]; exact fun _ h => absurd h List.not_mem_nil⟩
theorem regionL {l : List Oper} (z : Nat) {id : Nat} {a : Act} {w : World} (hm : P.follows .mixedOrders = true) (hS : S w.drew)
    (h : S w.drew → anyL P .any l.toArray Q S z l.toArray.size (Array.replicate l.toArray.size false) a w.drew) : (Code.region id l.toArray true).wp P Q a w :=
  wp_region_any hm (anyL_any _ _ _ _ (h hS))
end Go.Proofs.Ytjdeehffbgpenaa

namespace Go.Proofs.Ytjdeehffbgpenaa
open Go.RowKit
set_option linter.unusedVariables false

end Go.Proofs.Ytjdeehffbgpenaa

namespace Go.Proofs.Ytjdeehffbgpenaa
open Go.RowKit
set_option linter.unusedVariables false

def Ms.new (n : Int) : Ms := ⟨n, ⟨[], [], 0⟩, ⟨[], [], 0⟩, [], []⟩
/-- A dump: the lists that a struct of three cells tells. -/
structure DumpIs (w : World) (n : Int) (V : List Vt) (C : List Ce) (a : Option Addr) (ca : Nat) (b : Option Addr) (cb : Nat) : Prop where
  ex : ∃ base, OwnS w base 44 4 a V.length ca (flat vtC V) ∧ OwnS w base 72 10 b C.length cb (flat ceC C)
theorem DumpIs.below {w w' : World} {n : Int} {V : List Vt} {C : List Ce} {a b : Option Addr} {ca cb : Nat} (h : DumpIs w n V C a ca b cb) (hb : Below w.heap.size w w') : DumpIs w' n V C a ca b cb := by
  obtain ⟨base, h1, h2⟩ := h.ex
  exact ⟨base, h1.below hb, h2.below hb⟩
def GotDump (w : World) (S : Ms) (e : Ending) (w' : World) : Prop := ∃ (a : Option Addr) (ca : Nat) (b : Option Addr) (cb : Nat), e = .returned (.agg #[.int .i64 S.n, .slice a S.V.length ca, .slice b S.C.length cb]) ∧ DumpIs w' S.n S.V S.C a ca b cb ∧ Below w.heap.size w w'
end Go.Proofs.Ytjdeehffbgpenaa

namespace Go.Proofs.Ytjdeehffbgpenaa
open Go.RowKit
set_option linter.unusedVariables false

/-- Offs of corners that can be: their differences don't wrap. -/
def offB (t : Tr) : Prop := ∀ i, (-4611686018427387904 < t.x i ∧ t.x i < 4611686018427387904) ∧ (-4611686018427387904 < t.y i ∧ t.y i < 4611686018427387904)
theorem offB.all {t : Tr} (h : offB t) : ((-4611686018427387904 < t.x0 ∧ t.x0 < 4611686018427387904) ∧ (-4611686018427387904 < t.x1 ∧ t.x1 < 4611686018427387904) ∧ (-4611686018427387904 < t.x2 ∧ t.x2 < 4611686018427387904)) ∧ ((-4611686018427387904 < t.y0 ∧ t.y0 < 4611686018427387904) ∧ (-4611686018427387904 < t.y1 ∧ t.y1 < 4611686018427387904) ∧ (-4611686018427387904 < t.y2 ∧ t.y2 < 4611686018427387904)) :=
  ⟨⟨(h 0).1, (h 1).1, (h 2).1⟩, ⟨(h 0).2, (h 1).2, (h 2).2⟩⟩
end Go.Proofs.Ytjdeehffbgpenaa

namespace Go.Proofs.Ytjdeehffbgpenaa
open Go.RowKit
set_option linter.unusedVariables false


end Go.Proofs.Ytjdeehffbgpenaa

namespace Go.Proofs.Ytjdeehffbgpenaa
open Go.RowKit
set_option linter.unusedVariables false


end Go.Proofs.Ytjdeehffbgpenaa

namespace Go.Proofs.Ytjdeehffbgpenaa
open Go.RowKit
set_option linter.unusedVariables false


end Go.Proofs.Ytjdeehffbgpenaa

namespace Go.Proofs.Ytjdeehffbgpenaa
open Go.RowKit
set_option linter.unusedVariables false


end Go.Proofs.Ytjdeehffbgpenaa

namespace Go.Proofs.Ytjdeehffbgpenaa
open Go.RowKit
set_option linter.unusedVariables false


end Go.Proofs.Ytjdeehffbgpenaa

namespace Go.Proofs.Ytjdeehffbgpenaa
open Go.RowKit
set_option linter.unusedVariables false


end Go.Proofs.Ytjdeehffbgpenaa

namespace Go.Proofs.Ytjdeehffbgpenaa
open Go.RowKit
set_option linter.unusedVariables false


end Go.Proofs.Ytjdeehffbgpenaa

namespace Go.Proofs.Ytjdeehffbgpenaa
open Go.RowKit
set_option linter.unusedVariables false


end Go.Proofs.Ytjdeehffbgpenaa

namespace Go.Proofs.Ytjdeehffbgpenaa
open Go.RowKit
set_option linter.unusedVariables false


end Go.Proofs.Ytjdeehffbgpenaa

namespace Go.Proofs.Ytjdeehffbgpenaa
open Go.RowKit
set_option linter.unusedVariables false


end Go.Proofs.Ytjdeehffbgpenaa

namespace Go.Proofs.Ytjdeehffbgpenaa
open Go.RowKit
set_option linter.unusedVariables false


end Go.Proofs.Ytjdeehffbgpenaa

namespace Go.Proofs.Ytjdeehffbgpenaa
open Go.RowKit
set_option linter.unusedVariables false

/-- What is told of the face across from a corner. -/
def CrossIs (r : Option (Tr × Ce × Nat)) (i : Int) (e : Ending) : Prop := match r with
  | none => e = .returned (.tuple #[.int .i64 (-1), .int .i64 0, .agg #[.int .i64 0, .int .i64 0], .bool false])
  | some (t, c, k) => e = .returned (.tuple #[.int .i64 c.no, .int .i64 (((k + 2) % 3 : Nat) : Int), .agg #[.int .i64 (t.x (nx (nx (corner i))) - c.t.x k), .int .i64 (t.y (nx (nx (corner i))) - c.t.y k)], .bool true])
end Go.Proofs.Ytjdeehffbgpenaa

namespace Go.Proofs.Ytjdeehffbgpenaa
open Go.RowKit
set_option linter.unusedVariables false

abbrev MeShape := Nat → Nat → Ms → (Nat → Prop) → World → Prop
abbrev vtV (a : Vt) : Value := .agg #[.int .i64 a.no, .int .i64 a.x, .int .i64 a.y, .int .i64 a.id]
def vtZero : Vt := ⟨0, 0, 0, 0⟩
def trZero : Tr := ⟨0, 0, 0, 0, 0, 0, 0, 0, 0⟩
/-- A vertex, a face by its number. -/
def vertOf (S : Ms) (v : Int) : Vt := match S.V.find? (fun a => decide (a.no = v)) with | some a => a | none => vtZero
def faceOf (S : Ms) (f : Int) : Tr := match S.C.find? (fun c => decide (c.no = f)) with | some c => c.t | none => trZero
/-- The document's error of a face that is to be put. -/
structure MeSpec (MP : MeShape) : Prop where
  keep : ∀ {base p : Nat} {S : Ms} {F G : Nat → Prop} {w w' : World}, MP base p S F w → Keep G w w' → (∀ k, F k → ¬ G k) → MP base p S F w'
  ft : ∀ {base p : Nat} {S : Ms} {F : Nat → Prop} {w : World}, MP base p S F w → ∀ k, F k → base ≤ k ∧ k < w.heap.size
  new : ∀ (base : Nat) (n : Int) (w : World), base ≤ w.heap.size → 1 ≤ n ∧ n ≤ 17179869184 → Calls Try.prog 4 #[.int .i64 n] w fun e w' => ∃ (p : Nat) (F : Nat → Prop), e = .returned (ptR p) ∧ MP base p (Ms.new n) F w' ∧ (∀ k, F k → w.heap.size ≤ k) ∧ Below w.heap.size w w'
  side : ∀ (base p : Nat) (S : Ms) (m : Nat) (F : Nat → Prop) (w : World), MP base p S F w → MsOk S m → m ≤ 1000 → Calls Try.prog 5 #[ptR p] w fun e w' => e = .returned (.int .i64 S.n) ∧ Below w.heap.size w w'
  addV0 : ∀ (base p : Nat) (S : Ms) (m : Nat) (F : Nat → Prop) (w : World), MP base p S F w → MsOk S m → m ≤ 1000 → ∀ x y id : Int, In64 x → In64 y → In64 id → inSq S x y = false → Calls Try.prog 7 #[ptR p, .agg #[.int .i64 x, .int .i64 y], .int .i64 id] w fun e w' => e = .returned (.int .i64 (-1)) ∧ Left (MP base p S) F w w'
  addV : ∀ (base p : Nat) (S : Ms) (m : Nat) (F : Nat → Prop) (w : World), MP base p S F w → MsOk S m → m ≤ 1000 → ∀ x y id : Int, In64 x → In64 y → In64 id → inSq S x y = true → Calls Try.prog 7 #[ptR p, .agg #[.int .i64 x, .int .i64 y], .int .i64 id] w fun e w' => e = .returned (.int .i64 S.av.num) ∧ Left (MP base p (S.addV x y id)) F w w'
  dropV0 : ∀ (base p : Nat) (S : Ms) (m : Nat) (F : Nat → Prop) (w : World), MP base p S F w → MsOk S m → m ≤ 1000 → ∀ v : Int, In64 v → (isV S v = false ∨ around S.C v ≠ []) → Calls Try.prog 14 #[ptR p, .int .i64 v] w fun e w' => e = .returned (.bool false) ∧ Left (MP base p S) F w w'
  dropV : ∀ (base p : Nat) (S : Ms) (m : Nat) (F : Nat → Prop) (w : World), MP base p S F w → MsOk S m → m ≤ 1000 → ∀ (v : Int) (i : Nat) (a : Vt), In64 v → S.V[i]? = some a → a.no = v → around S.C v = [] → Calls Try.prog 14 #[ptR p, .int .i64 v] w fun e w' => e = .returned (.bool true) ∧ Left (MP base p (S.dropV v i)) F w w'
  vert : ∀ (base p : Nat) (S : Ms) (m : Nat) (F : Nat → Prop) (w : World), MP base p S F w → MsOk S m → m ≤ 1000 → ∀ v : Int, In64 v → Calls Try.prog 10 #[ptR p, .int .i64 v] w fun e w' => e = .returned (.tuple #[vtV (vertOf S v), .bool (isV S v)]) ∧ Below w.heap.size w w'
  addF0 : ∀ (base p : Nat) (S : Ms) (m : Nat) (F : Nat → Prop) (w : World), MP base p S F w → MsOk S m → m ≤ 1000 → ∀ (t : Tr) (e0 : Int), Tr64 t → e0 = fErr S t → e0 ≠ 0 → Calls Try.prog 9 #[ptR p, trV t] w fun e w' => e = .returned (.tuple #[.int .i64 (-1), .int .i64 e0]) ∧ Left (MP base p S) F w w'
  addF : ∀ (base p : Nat) (S : Ms) (m : Nat) (F : Nat → Prop) (w : World), MP base p S F w → MsOk S m → m ≤ 1000 → ∀ t : Tr, Tr64 t → fErr S t = 0 → Calls Try.prog 9 #[ptR p, trV t] w fun e w' => e = .returned (.tuple #[.int .i64 S.af.num, .int .i64 0]) ∧ Left (MP base p (S.addF t)) F w w'
  dropF0 : ∀ (base p : Nat) (S : Ms) (m : Nat) (F : Nat → Prop) (w : World), MP base p S F w → MsOk S m → m ≤ 1000 → ∀ f : Int, In64 f → isF S f = false → Calls Try.prog 15 #[ptR p, .int .i64 f] w fun e w' => e = .returned (.bool false) ∧ Left (MP base p S) F w w'
  dropF : ∀ (base p : Nat) (S : Ms) (m : Nat) (F : Nat → Prop) (w : World), MP base p S F w → MsOk S m → m ≤ 1000 → ∀ (f : Int) (i : Nat) (c : Ce), In64 f → S.C[i]? = some c → c.no = f → Calls Try.prog 15 #[ptR p, .int .i64 f] w fun e w' => e = .returned (.bool true) ∧ Left (MP base p (S.dropF f i)) F w w'
  face : ∀ (base p : Nat) (S : Ms) (m : Nat) (F : Nat → Prop) (w : World), MP base p S F w → MsOk S m → m ≤ 1000 → ∀ f : Int, In64 f → Calls Try.prog 11 #[ptR p, .int .i64 f] w fun e w' => e = .returned (.tuple #[trV (faceOf S f), .bool (isF S f)]) ∧ Below w.heap.size w w'
  corner0 : ∀ (base p : Nat) (S : Ms) (m : Nat) (F : Nat → Prop) (w : World), MP base p S F w → MsOk S m → m ≤ 1000 → ∀ f i : Int, In64 f → In64 i → isF S f = false → Calls Try.prog 12 #[ptR p, .int .i64 f, .int .i64 i] w fun e w' => e = .returned (.tuple #[.agg #[.int .i64 0, .int .i64 0], .bool false]) ∧ Below w.heap.size w w'
  corner : ∀ (base p : Nat) (S : Ms) (m : Nat) (F : Nat → Prop) (w : World), MP base p S F w → MsOk S m → m ≤ 1000 → ∀ f i : Int, In64 f → In64 i → isF S f = true → Calls Try.prog 12 #[ptR p, .int .i64 f, .int .i64 i] w fun e w' => e = .returned (.tuple #[.agg #[.int .i64 (plX S (faceOf S f) (corner i)), .int .i64 (plY S (faceOf S f) (corner i))], .bool true]) ∧ Below w.heap.size w w'
  across : ∀ (base p : Nat) (S : Ms) (m : Nat) (F : Nat → Prop) (w : World), MP base p S F w → MsOk S m → m ≤ 1000 → ∀ f i : Int, In64 f → In64 i → Calls Try.prog 13 #[ptR p, .int .i64 f, .int .i64 i] w fun e w' => CrossIs (crossed S f i) i e ∧ Below w.heap.size w w'
  around : ∀ (base p : Nat) (S : Ms) (m : Nat) (F : Nat → Prop) (w : World), MP base p S F w → MsOk S m → m ≤ 1000 → ∀ v : Int, In64 v → ∀ M, M = around S.C v → Calls Try.prog 16 #[ptR p, .int .i64 v] w (GotL w M)
  dump : ∀ (base p : Nat) (S : Ms) (m : Nat) (F : Nat → Prop) (w : World), MP base p S F w → MsOk S m → m ≤ 1000 → Calls Try.prog 6 #[ptR p] w (GotDump w S)
  check : ∀ (base p : Nat) (S : Ms) (m : Nat) (F : Nat → Prop) (w : World), MP base p S F w → MsOk S m → m ≤ 1000 → ∀ r : Int, (r = if whole S = true then 0 else 6) → Calls Try.prog 17 #[ptR p] w fun e w' => e = .returned (.int .i64 r) ∧ Below w.heap.size w w'
/-- Of a side that can't be, and of no mesh. -/
structure MeNone : Prop where
  new : ∀ (n : Int) (w : World), In64 n → ¬ (1 ≤ n ∧ n ≤ 17179869184) → Calls Try.prog 4 #[.int .i64 n] w fun e w' => e = .returned (.pointer none) ∧ Below w.heap.size w w'
  side : ∀ w : World, Calls Try.prog 5 #[.pointer none] w fun e w' => e = .returned (.int .i64 0) ∧ Below w.heap.size w w'
  addV : ∀ (x y id : Int) (w : World), Calls Try.prog 7 #[.pointer none, .agg #[.int .i64 x, .int .i64 y], .int .i64 id] w fun e w' => e = .returned (.int .i64 (-1)) ∧ Below w.heap.size w w'
  dropV : ∀ (v : Int) (w : World), Calls Try.prog 14 #[.pointer none, .int .i64 v] w fun e w' => e = .returned (.bool false) ∧ Below w.heap.size w w'
  vert : ∀ (v : Int) (w : World), Calls Try.prog 10 #[.pointer none, .int .i64 v] w fun e w' => (∃ a : Vt, e = .returned (.tuple #[vtV a, .bool false])) ∧ Below w.heap.size w w'
  addF : ∀ (t : Tr) (w : World), Calls Try.prog 9 #[.pointer none, trV t] w fun e w' => e = .returned (.tuple #[.int .i64 (-1), .int .i64 1]) ∧ Below w.heap.size w w'
  dropF : ∀ (v : Int) (w : World), Calls Try.prog 15 #[.pointer none, .int .i64 v] w fun e w' => e = .returned (.bool false) ∧ Below w.heap.size w w'
  face : ∀ (v : Int) (w : World), Calls Try.prog 11 #[.pointer none, .int .i64 v] w fun e w' => (∃ t : Tr, e = .returned (.tuple #[trV t, .bool false])) ∧ Below w.heap.size w w'
  corner : ∀ (f i : Int) (w : World), Calls Try.prog 12 #[.pointer none, .int .i64 f, .int .i64 i] w fun e w' => (∃ x y : Int, e = .returned (.tuple #[.agg #[.int .i64 x, .int .i64 y], .bool false])) ∧ Below w.heap.size w w'
  across : ∀ (f i : Int) (w : World), Calls Try.prog 13 #[.pointer none, .int .i64 f, .int .i64 i] w fun e w' => (∃ k x y : Int, e = .returned (.tuple #[.int .i64 (-1), .int .i64 k, .agg #[.int .i64 x, .int .i64 y], .bool false])) ∧ Below w.heap.size w w'
  around : ∀ (v : Int) (w : World), Calls Try.prog 16 #[.pointer none, .int .i64 v] w (GotL w [])
  dump : ∀ w : World, Calls Try.prog 6 #[.pointer none] w fun e w' => (∃ (a : Option Addr) (l c : Nat) (b : Option Addr) (k d : Nat), e = .returned (.agg #[.int .i64 0, .slice a l c, .slice b k d])) ∧ Below w.heap.size w w'
  check : ∀ w : World, Calls Try.prog 17 #[.pointer none] w fun e w' => e = .returned (.int .i64 1) ∧ Below w.heap.size w w'
theorem MeSpec.below {MP : MeShape} (H : MeSpec MP) {base p : Nat} {S : Ms} {F : Nat → Prop} {w w' : World} (h : MP base p S F w) (hb : Below w.heap.size w w') : MP base p S F w' := H.keep h (Keep.of (F := fun _ => False) hb) (fun _ _ x => x)
end Go.Proofs.Ytjdeehffbgpenaa

namespace Go.Proofs.Ytjdeehffbgpenaa.lw
open Go.RowKit

/-- The high word, with its sign, of a number taken modulo 2^128. -/
def hi (v : Int) : Int := (v / 18446744073709551616 + 9223372036854775808) % 18446744073709551616 - 9223372036854775808
/-- The low word, without a sign. -/
def lo (v : Int) : Int := v % 18446744073709551616

theorem lo_range (v : Int) : 0 ≤ lo v ∧ lo v < 18446744073709551616 := by unfold lo; omega
/-- The borrow, under a name. -/
def bor (x y : Int) : Int := if x < y then 1 else 0
theorem bor_range (x y : Int) : 0 ≤ bor x y ∧ bor x y ≤ 1 := by unfold bor; split <;> decide

theorem hi_0 : (0 : Int) = hi 0 := by decide
theorem lo_0 : (0 : Int) = lo 0 := by decide
theorem add_lo (a b : Int) : (lo a + lo b) % 18446744073709551616 = lo (a + b) := by unfold lo; omega
theorem add_hi (a b : Int) : wrap64 ((IntKind.u64.wrap (hi a) + IntKind.u64.wrap (hi b) + (lo a + lo b) / 18446744073709551616) % 18446744073709551616) = hi (a + b) := by
  rw [IntKind.wrap_u64, IntKind.wrap_u64]; unfold hi lo wrap64; omega
theorem sub_lo (a b : Int) : (lo a - lo b) % 18446744073709551616 = lo (a - b) := by unfold lo; omega
theorem sub_hi (a b : Int) : wrap64 ((IntKind.u64.wrap (hi a) - IntKind.u64.wrap (hi b) - bor (lo a) (lo b)) % 18446744073709551616) = hi (a - b) := by
  rw [IntKind.wrap_u64, IntKind.wrap_u64]; unfold bor wrap64; split <;> (simp only [hi, lo] at *; omega)
theorem mask32 (x : Int) (h0 : 0 ≤ x) (h1 : x < 18446744073709551616) : bits .and .u64 x 4294967295 = x % 4294967296 := by
  obtain ⟨n, rfl⟩ := Int.eq_ofNat_of_zero_le h0
  have h := bits_and_u64_nat n 4294967295 (by omega) (by omega)
  have e : n &&& 4294967295 = n % 4294967296 := Nat.and_two_pow_sub_one_eq_mod n 32
  rw [e] at h
  exact h.trans (by omega)
theorem half_mul (a b : Int) (a0 : 0 ≤ a) (a1 : a < 4294967296) (b0 : 0 ≤ b) (b1 : b < 4294967296) : 0 ≤ a * b ∧ a * b ≤ 18446744065119617025 := by
  refine ⟨Int.mul_nonneg a0 b0, ?_⟩
  have := Int.mul_le_mul (show a ≤ 4294967295 by omega) (show b ≤ 4294967295 by omega) b0 (by decide)
  omega
theorem school (a b c d : Int) : (a * 4294967296 + b) * (c * 4294967296 + d) = a * c * 18446744073709551616 + a * d * 4294967296 + b * c * 4294967296 + b * d := by
  have h1 : a * 4294967296 * (c * 4294967296) = a * c * (4294967296 * 4294967296) := by rw [Int.mul_assoc a, Int.mul_left_comm 4294967296 c, ← Int.mul_assoc]
  have h2 : a * 4294967296 * d = a * d * 4294967296 := by rw [Int.mul_assoc a, Int.mul_comm 4294967296 d, ← Int.mul_assoc]
  have h3 : b * (c * 4294967296) = b * c * 4294967296 := (Int.mul_assoc b c _).symm
  rw [Int.add_mul, Int.mul_add, Int.mul_add, h1, h2, h3]
  omega
theorem mul64_hi (x y : Int) (x0 : 0 ≤ x) (x1 : x < 18446744073709551616) (y0 : 0 ≤ y) (y1 : y < 18446744073709551616) :
    IntKind.u64.wrap (IntKind.u64.wrap (IntKind.u64.wrap (x / 4294967296 * (y / 4294967296)) + IntKind.u64.wrap (IntKind.u64.wrap (x / 4294967296 * bits .and .u64 y 4294967295) + IntKind.u64.wrap (bits .and .u64 x 4294967295 * bits .and .u64 y 4294967295) / 4294967296) / 4294967296) +
      IntKind.u64.wrap (bits .and .u64 (IntKind.u64.wrap (IntKind.u64.wrap (x / 4294967296 * bits .and .u64 y 4294967295) + IntKind.u64.wrap (bits .and .u64 x 4294967295 * bits .and .u64 y 4294967295) / 4294967296)) 4294967295 + IntKind.u64.wrap (bits .and .u64 x 4294967295 * (y / 4294967296))) / 4294967296) = x * y / 18446744073709551616 := by
  rw [mask32 x x0 x1, mask32 y y0 y1, mask32 (IntKind.u64.wrap _) (wrap_u64_nonneg _) (by rw [IntKind.wrap_u64]; omega)]
  have e := school (x / 4294967296) (x % 4294967296) (y / 4294967296) (y % 4294967296)
  have ex : x / 4294967296 * 4294967296 + x % 4294967296 = x := by omega
  have ey : y / 4294967296 * 4294967296 + y % 4294967296 = y := by omega
  rw [ex, ey] at e
  rw [e]
  have b1 := half_mul (x / 4294967296) (y / 4294967296) (by omega) (by omega) (by omega) (by omega)
  have b2 := half_mul (x / 4294967296) (y % 4294967296) (by omega) (by omega) (by omega) (by omega)
  have b3 := half_mul (x % 4294967296) (y / 4294967296) (by omega) (by omega) (by omega) (by omega)
  have b4 := half_mul (x % 4294967296) (y % 4294967296) (by omega) (by omega) (by omega) (by omega)
  clear e ex ey
  generalize x / 4294967296 * (y / 4294967296) = p1 at *
  generalize x / 4294967296 * (y % 4294967296) = p2 at *
  generalize x % 4294967296 * (y / 4294967296) = p3 at *
  generalize x % 4294967296 * (y % 4294967296) = p4 at *
  simp only [IntKind.wrap_u64]
  omega

/-- What is left of a product of two words that were taken without their signs. -/
theorem mul_lo (a b : Int) : IntKind.u64.wrap a * IntKind.u64.wrap b % 18446744073709551616 = lo (a * b) := by
  rw [IntKind.wrap_u64, IntKind.wrap_u64]; unfold lo; exact (Int.mul_emod a b _).symm
theorem ret_tup2 {k l : IntKind} {a b c d : Int} (h : a = c) (h' : b = d) : Ending.returned (.tuple #[.int k a, .int l b]) = .returned (.tuple #[.int k c, .int l d]) := by rw [h, h']
theorem ret_int {k : IntKind} {a b : Int} (h : a = b) : Ending.returned (.int k a) = .returned (.int k b) := by rw [h]

theorem bd_i64 {x : Int} (h : (Lit.int .i64 x).wf = true) : -9223372036854775808 ≤ x ∧ x ≤ 9223372036854775807 := by
  simp [Lit.wf, IntKind.min, IntKind.max, IntKind.signed, IntKind.bits] at h
  exact ⟨by omega, by omega⟩
/-- -1, 0, 1: how two numbers lie. -/
def cmpI (x y : Int) : Int := if x < y then -1 else if y < x then 1 else 0
end Go.Proofs.Ytjdeehffbgpenaa.lw

namespace Go.Proofs.Ytjdeehffbgpenaa.lw
open Go.RowKit

theorem add64 (x y c : Int) (hx : 0 ≤ x) (hy : 0 ≤ y) (hc0 : 0 ≤ c) (hc : c ≤ 1) (w : World) : (callFunc 73 #[.int .u64 x, .int .u64 y, .int .u64 c]).run Try.prog w =
    .ok (.value (.tuple #[.int .u64 ((x + y + c) % 18446744073709551616), .int .u64 ((x + y + c) / 18446744073709551616)])) w := by
  rw [run_callFunc_extern Try.func73 (by kernel_rfl) (by kernel_rfl) (by kernel_rfl) (e := add64Entry) (by kernel_rfl), run_add64 x y c hx hy hc0 hc]
  rfl
theorem add64_0 (x y : Int) (hx : 0 ≤ x) (hy : 0 ≤ y) (w : World) : (callFunc 73 #[.int .u64 x, .int .u64 y, .int .u64 0]).run Try.prog w =
    .ok (.value (.tuple #[.int .u64 ((x + y) % 18446744073709551616), .int .u64 ((x + y) / 18446744073709551616)])) w := by
  simpa using add64 x y 0 hx hy (Int.le_refl 0) (by decide) w
theorem sub64 (x y b : Int) (hx : 0 ≤ x) (hy : 0 ≤ y) (hy' : y < 18446744073709551616) (hb0 : 0 ≤ b) (hb : b ≤ 1) (w : World) : (callFunc 95 #[.int .u64 x, .int .u64 y, .int .u64 b]).run Try.prog w =
    .ok (.value (.tuple #[.int .u64 ((x - y - b) % 18446744073709551616), .int .u64 (bor x (y + b))])) w := by
  obtain ⟨x, rfl⟩ := Int.eq_ofNat_of_zero_le hx
  obtain ⟨y, rfl⟩ := Int.eq_ofNat_of_zero_le hy
  obtain ⟨b, rfl⟩ := Int.eq_ofNat_of_zero_le hb0
  have e1 : (((x + 18446744073709551616 - y - b) % 18446744073709551616 : Nat) : Int) = ((x : Int) - y - b) % 18446744073709551616 := by omega
  have e2 : ((if x < y + b then 1 else 0 : Nat) : Int) = bor x (y + b) := by unfold bor; split <;> split <;> omega
  rw [← e1, ← e2, run_callFunc_extern Try.func95 (by kernel_rfl) (by kernel_rfl) (by kernel_rfl) (e := sub64Entry) (by kernel_rfl), run_sub64 x y b (by omega)]
  rfl
theorem sub64_0 (x y : Int) (hx : 0 ≤ x) (hy : 0 ≤ y) (hy' : y < 18446744073709551616) (w : World) : (callFunc 95 #[.int .u64 x, .int .u64 y, .int .u64 0]).run Try.prog w =
    .ok (.value (.tuple #[.int .u64 ((x - y) % 18446744073709551616), .int .u64 (bor x y)])) w := by
  simpa using sub64 x y 0 hx hy hy' (Int.le_refl 0) (by decide) w

theorem add_any {ah al bh bl : Int} (a b : Int) (ha : ah = hi a) (hl : al = lo a) (hb : bh = hi b) (hm : bl = lo b) (w : World) :
    Calls Try.prog 60 #[.agg #[.int .i64 ah, .int .u64 al], .agg #[.int .i64 bh, .int .u64 bl]] w fun e w' =>
      e = .returned (.agg #[.int .i64 (hi (a + b)), .int .u64 (lo (a + b))]) ∧ Below w.heap.size w w' := by
  subst ha hl hb hm
  obtain ⟨a1, a2⟩ := lo_range a; obtain ⟨b1, b2⟩ := lo_range b
  have k0 : 0 ≤ (lo a + lo b) / 18446744073709551616 := by omega
  have k1 : (lo a + lo b) / 18446744073709551616 ≤ 1 := by omega
  have k2 := wrap_u64_nonneg (hi a)
  have k3 := wrap_u64_nonneg (hi b)
  go_enter Try.func60, Try.ntmps60
  go_wp2_with (first | simp only [add64_0 (lo a) (lo b) a1 b1] | simp only [add64 _ _ _ k2 k3 k0 k1])
  refine bodyPost_ret (v := .agg #[.int .i64 (hi (a + b)), .int .u64 (lo (a + b))]) (by simp [results, Try.results60, go_sem, add_lo, add_hi]) rfl ⟨rfl, ?_⟩
  exact (((Below.refl _ _).alloc (Nat.le_refl _) _).alloc (by simp) _).alloc (by simp; omega) _

theorem sub_any {ah al bh bl : Int} (a b : Int) (ha : ah = hi a) (hl : al = lo a) (hb : bh = hi b) (hm : bl = lo b) (w : World) :
    Calls Try.prog 88 #[.agg #[.int .i64 ah, .int .u64 al], .agg #[.int .i64 bh, .int .u64 bl]] w fun e w' =>
      e = .returned (.agg #[.int .i64 (hi (a - b)), .int .u64 (lo (a - b))]) ∧ Below w.heap.size w w' := by
  subst ha hl hb hm
  obtain ⟨a1, a2⟩ := lo_range a; obtain ⟨b1, b2⟩ := lo_range b
  obtain ⟨k0, k1⟩ := bor_range (lo a) (lo b)
  have k2 := wrap_u64_nonneg (hi a)
  have k3 := wrap_u64_nonneg (hi b)
  have k4 : IntKind.u64.wrap (hi b) < 18446744073709551616 := by rw [IntKind.wrap_u64]; omega
  go_enter Try.func88, Try.ntmps88
  go_wp2_with (first | simp only [sub64_0 (lo a) (lo b) a1 b1 b2] | simp only [sub64 _ _ _ k2 k3 k4 k0 k1])
  refine bodyPost_ret (v := .agg #[.int .i64 (hi (a - b)), .int .u64 (lo (a - b))]) (by simp [results, Try.results88, go_sem, sub_lo, sub_hi]) rfl ⟨rfl, ?_⟩
  exact (((Below.refl _ _).alloc (Nat.le_refl _) _).alloc (by simp) _).alloc (by simp; omega) _

theorem mul64_any (x y : Int) (x0 : 0 ≤ x) (x1 : x < 18446744073709551616) (y0 : 0 ≤ y) (y1 : y < 18446744073709551616) (w : World) :
    Calls Try.prog 62 #[.int .u64 x, .int .u64 y] w fun e w' => e = .returned (.tuple #[.int .u64 (x * y / 18446744073709551616), .int .u64 (x * y % 18446744073709551616)]) ∧ w' = w := by
  go_enter Try.func62, Try.ntmps62
  go_wp2
  go_ret2
  exact ⟨ret_tup2 (mul64_hi x y x0 x1 y0 y1) (IntKind.wrap_u64 _), rfl⟩

theorem cmpI64_any (x y : Int) (w : World) :
    Calls Try.prog 58 #[.int .i64 x, .int .i64 y] w fun e w' => e = .returned (.int .i64 (cmpI x y)) ∧ w' = w := by
  unfold cmpI
  go_enter Try.func58, Try.ntmps58
  go_wp2
  all_goals (go_ret; exact ⟨rfl, rfl⟩)
theorem cmpU64_any (x y : Int) (w : World) :
    Calls Try.prog 59 #[.int .u64 x, .int .u64 y] w fun e w' => e = .returned (.int .i64 (cmpI x y)) ∧ w' = w := by
  unfold cmpI
  go_enter Try.func59, Try.ntmps59
  go_wp2
  all_goals (go_ret; exact ⟨rfl, rfl⟩)
end Go.Proofs.Ytjdeehffbgpenaa.lw

namespace Go.Proofs.Ytjdeehffbgpenaa.lw
open Go.RowKit
set_option linter.unusedVariables false
end Go.Proofs.Ytjdeehffbgpenaa.lw

namespace Go.Proofs.Ytjdeehffbgpenaa.lw

/-- m has k digits: nought has one. -/
def IsLen (m k : Nat) : Prop := 1 ≤ k ∧ m < 10 ^ k ∧ (k = 1 ∨ 10 ^ (k - 1) ≤ m)
theorem isLen_one {m k k' : Nat} (h : IsLen m k) (h' : IsLen m k') : k = k' := by
  obtain ⟨a, b, c⟩ := h
  obtain ⟨a', b', c'⟩ := h'
  rcases Nat.lt_trichotomy k k' with e | e | e
  · rcases c' with c' | c'
    · omega
    · have := Nat.pow_le_pow_right (n := 10) (by decide) (show k ≤ k' - 1 by omega)
      omega
  · exact e
  · rcases c with c | c
    · omega
    · have := Nat.pow_le_pow_right (n := 10) (by decide) (show k' ≤ k - 1 by omega)
      omega
end Go.Proofs.Ytjdeehffbgpenaa.lw

namespace Go.Proofs.Ytjdeehffbgpenaa.lw
open Go.RowKit
set_option linter.unusedVariables false
set_option maxRecDepth 100000

end Go.Proofs.Ytjdeehffbgpenaa.lw

namespace Go.Proofs.Ytjdeehffbgpenaa.lw
open Go.RowKit
set_option linter.unusedVariables false
set_option maxRecDepth 100000

end Go.Proofs.Ytjdeehffbgpenaa.lw

namespace Go.Proofs.Ytjdeehffbgpenaa.lw
open Go.RowKit
set_option linter.unusedVariables false
set_option maxRecDepth 100000

theorem u_neg (a : Int) (h0 : a < 0) (h1 : -9223372036854775808 ≤ a) : IntKind.u64.wrap a = a + 18446744073709551616 := by rw [IntKind.wrap_u64]; omega
theorem mul_pp (a b : Int) : wrap64 (a * b / 18446744073709551616) = hi (a * b) := by unfold wrap64 hi; omega
theorem mul_np (a b : Int) (a0 : a < 0) (a1 : -9223372036854775808 ≤ a) : wrap64 (IntKind.u64.wrap (IntKind.u64.wrap a * b / 18446744073709551616 - b)) = hi (a * b) := by
  rw [u_neg a a0 a1, Int.add_mul, IntKind.wrap_u64]; unfold wrap64 hi; omega
theorem mul_pn (a b : Int) (b0 : b < 0) (b1 : -9223372036854775808 ≤ b) : wrap64 (IntKind.u64.wrap (a * IntKind.u64.wrap b / 18446744073709551616 - a)) = hi (a * b) := by
  rw [u_neg b b0 b1, Int.mul_add, IntKind.wrap_u64]; unfold wrap64 hi; omega
theorem mul_nn (a b : Int) (a0 : a < 0) (a1 : -9223372036854775808 ≤ a) (b0 : b < 0) (b1 : -9223372036854775808 ≤ b) : wrap64 (IntKind.u64.wrap (IntKind.u64.wrap (IntKind.u64.wrap a * IntKind.u64.wrap b / 18446744073709551616 - IntKind.u64.wrap b) - IntKind.u64.wrap a)) = hi (a * b) := by
  rw [u_neg a a0 a1, u_neg b b0 b1, Int.add_mul, Int.mul_add, Int.mul_add, IntKind.wrap_u64, IntKind.wrap_u64]; unfold wrap64 hi; omega
theorem lo_pp (a b : Int) : a * b % 18446744073709551616 = lo (a * b) := rfl
theorem lo_np (a b : Int) : IntKind.u64.wrap a * b % 18446744073709551616 = lo (a * b) := by rw [IntKind.wrap_u64]; unfold lo; rw [Int.mul_emod, Int.emod_emod, ← Int.mul_emod]
theorem lo_pn (a b : Int) : a * IntKind.u64.wrap b % 18446744073709551616 = lo (a * b) := by rw [IntKind.wrap_u64]; unfold lo; rw [Int.mul_emod, Int.emod_emod, ← Int.mul_emod]

theorem mul_any_pp (a b : Int) (a0 : -9223372036854775808 ≤ a) (a1 : a ≤ 9223372036854775807) (b0 : -9223372036854775808 ≤ b) (b1 : b ≤ 9223372036854775807) (ha : 0 ≤ a) (hb : 0 ≤ b) (w : World) :
    Calls Try.prog 47 #[.int .i64 a, .int .i64 b] w fun e w' => e = .returned (.agg #[.int .i64 (hi (a * b)), .int .u64 (lo (a * b))]) ∧ Below w.heap.size w w' := by
  have va : IntKind.u64.wrap a < 18446744073709551616 := by rw [IntKind.wrap_u64]; omega
  have vb : IntKind.u64.wrap b < 18446744073709551616 := by rw [IntKind.wrap_u64]; omega
  go_enter Try.func47, Try.ntmps47
  go_wp2_with (go_at_call 62; refine (mul64_any _ _ ha (by omega) hb (by omega) _).mono ?_; rintro e w' ⟨rfl, rfl⟩)
  exact bodyPost_ret (v := .agg #[.int .i64 (hi (a * b)), .int .u64 (lo (a * b))]) (by simp [results, Try.results47, go_sem, lo_pp, mul_pp]) rfl ⟨rfl, (Below.refl _ _).alloc (Nat.le_refl _) _⟩
theorem mul_any_np (a b : Int) (a0 : -9223372036854775808 ≤ a) (a1 : a ≤ 9223372036854775807) (b0 : -9223372036854775808 ≤ b) (b1 : b ≤ 9223372036854775807) (ha : a < 0) (hb : 0 ≤ b) (w : World) :
    Calls Try.prog 47 #[.int .i64 a, .int .i64 b] w fun e w' => e = .returned (.agg #[.int .i64 (hi (a * b)), .int .u64 (lo (a * b))]) ∧ Below w.heap.size w w' := by
  have va : IntKind.u64.wrap a < 18446744073709551616 := by rw [IntKind.wrap_u64]; omega
  have vb : IntKind.u64.wrap b < 18446744073709551616 := by rw [IntKind.wrap_u64]; omega
  go_enter Try.func47, Try.ntmps47
  go_wp2_with (go_at_call 62; refine (mul64_any _ _ (wrap_u64_nonneg a) va hb (by omega) _).mono ?_; rintro e w' ⟨rfl, rfl⟩)
  exact bodyPost_ret (v := .agg #[.int .i64 (hi (a * b)), .int .u64 (lo (a * b))]) (by simp [results, Try.results47, go_sem, lo_np, mul_np a b ha a0]) rfl ⟨rfl, (Below.refl _ _).alloc (Nat.le_refl _) _⟩
theorem mul_any_pn (a b : Int) (a0 : -9223372036854775808 ≤ a) (a1 : a ≤ 9223372036854775807) (b0 : -9223372036854775808 ≤ b) (b1 : b ≤ 9223372036854775807) (ha : 0 ≤ a) (hb : b < 0) (w : World) :
    Calls Try.prog 47 #[.int .i64 a, .int .i64 b] w fun e w' => e = .returned (.agg #[.int .i64 (hi (a * b)), .int .u64 (lo (a * b))]) ∧ Below w.heap.size w w' := by
  have va : IntKind.u64.wrap a < 18446744073709551616 := by rw [IntKind.wrap_u64]; omega
  have vb : IntKind.u64.wrap b < 18446744073709551616 := by rw [IntKind.wrap_u64]; omega
  go_enter Try.func47, Try.ntmps47
  go_wp2_with (go_at_call 62; refine (mul64_any _ _ ha (by omega) (wrap_u64_nonneg b) vb _).mono ?_; rintro e w' ⟨rfl, rfl⟩)
  exact bodyPost_ret (v := .agg #[.int .i64 (hi (a * b)), .int .u64 (lo (a * b))]) (by simp [results, Try.results47, go_sem, lo_pn, mul_pn a b hb b0]) rfl ⟨rfl, (Below.refl _ _).alloc (Nat.le_refl _) _⟩
theorem mul_any_nn (a b : Int) (a0 : -9223372036854775808 ≤ a) (a1 : a ≤ 9223372036854775807) (b0 : -9223372036854775808 ≤ b) (b1 : b ≤ 9223372036854775807) (ha : a < 0) (hb : b < 0) (w : World) :
    Calls Try.prog 47 #[.int .i64 a, .int .i64 b] w fun e w' => e = .returned (.agg #[.int .i64 (hi (a * b)), .int .u64 (lo (a * b))]) ∧ Below w.heap.size w w' := by
  have va : IntKind.u64.wrap a < 18446744073709551616 := by rw [IntKind.wrap_u64]; omega
  have vb : IntKind.u64.wrap b < 18446744073709551616 := by rw [IntKind.wrap_u64]; omega
  go_enter Try.func47, Try.ntmps47
  go_wp2_with (go_at_call 62; refine (mul64_any _ _ (wrap_u64_nonneg a) va (wrap_u64_nonneg b) vb _).mono ?_; rintro e w' ⟨rfl, rfl⟩)
  exact bodyPost_ret (v := .agg #[.int .i64 (hi (a * b)), .int .u64 (lo (a * b))]) (by simp [results, Try.results47, go_sem, mul_lo, mul_nn a b ha a0 hb b0]) rfl ⟨rfl, (Below.refl _ _).alloc (Nat.le_refl _) _⟩
theorem mul_any (a b : Int) (a0 : -9223372036854775808 ≤ a) (a1 : a ≤ 9223372036854775807) (b0 : -9223372036854775808 ≤ b) (b1 : b ≤ 9223372036854775807) (w : World) :
    Calls Try.prog 47 #[.int .i64 a, .int .i64 b] w fun e w' => e = .returned (.agg #[.int .i64 (hi (a * b)), .int .u64 (lo (a * b))]) ∧ Below w.heap.size w w' := by
  rcases Int.lt_or_le a 0 with ha | ha <;> rcases Int.lt_or_le b 0 with hb | hb
  · exact mul_any_nn a b a0 a1 b0 b1 ha hb w
  · exact mul_any_np a b a0 a1 b0 b1 ha hb w
  · exact mul_any_pn a b a0 a1 b0 b1 ha hb w
  · exact mul_any_pp a b a0 a1 b0 b1 ha hb w

theorem cmp_hi (a b : Int) (a0 : -170141183460469231731687303715884105728 ≤ a) (a1 : a < 170141183460469231731687303715884105728) (b0 : -170141183460469231731687303715884105728 ≤ b) (b1 : b < 170141183460469231731687303715884105728) (h : hi a ≠ hi b) : cmpI (hi a) (hi b) = cmpI a b := by
  have e : hi a = a / 18446744073709551616 := by unfold hi; omega
  have e' : hi b = b / 18446744073709551616 := by unfold hi; omega
  rw [e, e'] at h ⊢; unfold cmpI; split <;> split <;> (try split) <;> (try split) <;> omega
theorem cmp_lo (a b : Int) (a0 : -170141183460469231731687303715884105728 ≤ a) (a1 : a < 170141183460469231731687303715884105728) (b0 : -170141183460469231731687303715884105728 ≤ b) (b1 : b < 170141183460469231731687303715884105728) (h : hi a = hi b) : cmpI (lo a) (lo b) = cmpI a b := by
  have e : hi a = a / 18446744073709551616 := by unfold hi; omega
  have e' : hi b = b / 18446744073709551616 := by unfold hi; omega
  rw [e, e'] at h; unfold cmpI lo; split <;> split <;> (try split) <;> (try split) <;> omega
theorem cmp_any {ah al bh bl : Int} (a b : Int) (ha : ah = hi a) (hl : al = lo a) (hb : bh = hi b) (hm : bl = lo b) (a0 : -170141183460469231731687303715884105728 ≤ a) (a1 : a < 170141183460469231731687303715884105728) (b0 : -170141183460469231731687303715884105728 ≤ b) (b1 : b < 170141183460469231731687303715884105728) (w : World) :
    Calls Try.prog 45 #[.agg #[.int .i64 ah, .int .u64 al], .agg #[.int .i64 bh, .int .u64 bl]] w fun e w' => e = .returned (.int .i64 (cmpI a b)) ∧ Below w.heap.size w w' := by
  subst ha hl hb hm
  by_cases g : hi a = hi b
  · have E : Hid _ := cmp_lo a b a0 a1 b0 b1 g
    have g' : (hi a == hi b) = true := by simpa using g
    clear g
    go_enter Try.func45, Try.ntmps45
    go_wp2_with (go_at_call 59; refine (cmpU64_any _ _ _).mono ?_; rintro e w' ⟨rfl, rfl⟩)
    go_ret
    exact ⟨ret_int E.out, ((Below.refl _ _).alloc (Nat.le_refl _) _).alloc (by simp) _⟩
  · have E : Hid _ := cmp_hi a b a0 a1 b0 b1 g
    have g' : (hi a == hi b) = false := by simpa using g
    clear g
    go_enter Try.func45, Try.ntmps45
    go_wp2_with (go_at_call 58; refine (cmpI64_any _ _ _).mono ?_; rintro e w' ⟨rfl, rfl⟩)
    go_ret
    exact ⟨ret_int E.out, ((Below.refl _ _).alloc (Nat.le_refl _) _).alloc (by simp) _⟩
theorem sign_any {ah al : Int} (a : Int) (ha : ah = hi a) (hl : al = lo a) (a0 : -170141183460469231731687303715884105728 ≤ a) (a1 : a < 170141183460469231731687303715884105728) (w : World) :
    Calls Try.prog 64 #[.agg #[.int .i64 ah, .int .u64 al]] w fun e w' => e = .returned (.int .i64 (cmpI a 0)) ∧ Below w.heap.size w w' := by
  subst ha hl
  go_enter Try.func64, Try.ntmps64
  go_wp2_with (go_at_call 45; refine (cmp_any a 0 rfl rfl hi_0 lo_0 a0 a1 (by decide) (by decide) _).mono ?_; rintro e w' ⟨rfl, hb⟩)
  go_ret
  exact ⟨rfl, ((Below.refl _ _).alloc (Nat.le_refl _) _).trans (hb.mono (by simp))⟩
end Go.Proofs.Ytjdeehffbgpenaa.lw

namespace Go.Proofs.Ytjdeehffbgpenaa
open Go.RowKit
set_option linter.unusedVariables false

/-- The cells of points, one behind the other. -/
def pcells : List (Int × Int) → List Value
  | [] => []
  | p :: l => .int .i64 p.1 :: .int .i64 p.2 :: pcells l
theorem pcells_at : ∀ (L : List (Int × Int)) (k : Nat) (x y : Int), L[k]? = some (x, y) → (pcells L)[k * 2]? = some (.int .i64 x) ∧ (pcells L)[k * 2 + 1]? = some (.int .i64 y)
  | [], k, x, y, h => by simp at h
  | p :: l, 0, x, y, h => by simp at h; subst h; exact ⟨rfl, rfl⟩
  | p :: l, k + 1, x, y, h => by
    have h' : l[k]? = some (x, y) := by simpa using h
    have := pcells_at l k x y h'
    have e1 : (k + 1) * 2 = k * 2 + 1 + 1 := by omega
    rw [e1]
    exact ⟨this.1, this.2⟩
/-- Whether all points can be. -/
def canAll (L : List (Int × Int)) : Bool := L.all fun p => canC p.1 p.2
theorem canAll_drop {L : List (Int × Int)} {k : Nat} {x y : Int} (h : L[k]? = some (x, y)) : canAll (L.drop k) = (canC x y && canAll (L.drop (k + 1))) := by
  obtain ⟨hk, he⟩ := List.getElem?_eq_some_iff.1 h
  rw [List.drop_eq_getElem_cons hk, he]
  rfl
theorem lw_sign (x : Int) : lw.cmpI x 0 = x.sign := cmp_sign x
set_option maxRecDepth 100000 in
theorem pcan (L : List (Int × Int)) (n b : Nat) (w : World) (hn : n = L.length) (hs : n ≤ 1000) (hr : Row w b (pcells L)) (hb : b < w.heap.size) {r : Bool} (hres : r = canAll L) : Calls Try.prog 74 #[.slice (some ⟨b, 0, none⟩) n n] w fun e w' => e = .returned (.bool r) ∧ Below w.heap.size w w' := by
  subst hn
  have HR : Hid _ := hres
  clear hres
  go_enter Try.func74, Try.ntmps74
  go_wp2
  go_loopw [7] (fun i wr => ∃ k : Nat, k ≤ L.length ∧ i = .int .i64 (k : Int) ∧ canAll L = canAll (L.drop k) ∧ Below w.heap.size w wr) (fun i _ => L.length - (intOf i).toNat)
  case atStart => exact ⟨0, by omega, rfl, rfl, Below.refl _ _⟩
  case round =>
    obtain ⟨k, hk, rfl, hd, bel⟩ := hrel
    by_cases hlt : k < L.length
    · obtain ⟨x, y, hxy⟩ : ∃ x y, L[k]? = some (x, y) := ⟨L[k].1, L[k].2, by rw [List.getElem?_eq_getElem hlt]⟩
      obtain ⟨c1, c2⟩ := pcells_at L k x y hxy
      have hr' := hr.below bel hb
      have q1 := hr'.cell _ _ c1
      have q2 := hr'.cell _ _ c2
      rw [canAll_drop hxy] at hd
      have HD : Hid _ := hd
      clear hr hr' hxy c1 c2 hd
      obtain ⟨V, hV, bV, x_p, sV⟩ := bs_2 wr (.int .i64 x) (.int .i64 y) 32
      cases hc : canC x y
      · go_wp2_with (go_at_call 65; fail)
        rw [← hV]
        clear hV
        refine (lCan x y V hc.symm).mono ?_
        rintro e w1 ⟨rfl, b1⟩
        go_wp2
        go_ret
        exact ⟨by rw [HR.out, HD.out, hc]; rfl, also (also bel bV) b1⟩
      · go_wp2_with (go_at_call 65; fail)
        rw [← hV]
        clear hV
        refine (lCan x y V hc.symm).mono ?_
        rintro e w1 ⟨rfl, b1⟩
        have hw : wrap64 ((k : Int) + 1) = (k : Int) + 1 := wrap_in (by omega) (by omega)
        go_wp2
        go_roundw
        case rel => exact ⟨k + 1, by omega, by simp, by rw [HD.out, hc]; rfl, also (also bel bV) b1⟩
        case measure => simp [intOf]; omega
    · obtain rfl : k = L.length := by omega
      go_wp2
      go_ret
      exact ⟨by rw [HR.out, hd, List.drop_length]; rfl, bel⟩
theorem can3 {a1 a2 b1 b2 c1 c2 : Int} : canAll [(a1, a2), (b1, b2), (c1, c2)] = true ↔ (canC a1 a2 = true ∧ canC b1 b2 = true ∧ canC c1 c2 = true) := by simp [canAll]
/-- Differences of points that can be. -/
theorem can_sub {x y : Int} (hx : inC x = true) (hy : inC y = true) : wrap64 (x - y) = x - y ∧ -9223372036854775808 ≤ x - y ∧ x - y ≤ 9223372036854775807 := by
  have h := can_diff hx hy
  exact ⟨wrap_in (by omega) (by omega), by omega, by omega⟩
/-- Twice the area, the square of the distance, as they are told: nought, if a point can't be. -/
def arP (a1 a2 b1 b2 c1 c2 : Int) : Int := if canAll [(a1, a2), (b1, b2), (c1, c2)] then areaP a1 a2 b1 b2 c1 c2 else 0
theorem area_wide {a1 a2 b1 b2 c1 c2 : Int} (ha : canC a1 a2 = true) (hb : canC b1 b2 = true) (hc : canC c1 c2 = true) : -10000000000000000000000000 ≤ areaP a1 a2 b1 b2 c1 c2 ∧ areaP a1 a2 b1 b2 c1 c2 ≤ 10000000000000000000000000 := by
  have h := area_abs (D := 2199023255552) (can_diff (canC_true.1 hb).1 (canC_true.1 ha).1) (can_diff (canC_true.1 hb).2 (canC_true.1 ha).2) (can_diff (canC_true.1 hc).1 (canC_true.1 ha).1) (can_diff (canC_true.1 hc).2 (canC_true.1 ha).2)
  omega
theorem ar_wide (a1 a2 b1 b2 c1 c2 : Int) : -10000000000000000000000000 ≤ arP a1 a2 b1 b2 c1 c2 ∧ arP a1 a2 b1 b2 c1 c2 ≤ 10000000000000000000000000 := by
  unfold arP
  cases h : canAll [(a1, a2), (b1, b2), (c1, c2)]
  · exact ⟨by simp, by simp⟩
  · obtain ⟨h1, h2, h3⟩ := can3.1 h
    exact area_wide h1 h2 h3
set_option maxRecDepth 100000 in
set_option maxHeartbeats 4000000 in
theorem parea (a1 a2 b1 b2 c1 c2 : Int) (w : World) (ha : canC a1 a2 = true) (hb : canC b1 b2 = true) (hc : canC c1 c2 = true) {u v : Int} (hu : u = lw.hi (areaP a1 a2 b1 b2 c1 c2)) (hv : v = lw.lo (areaP a1 a2 b1 b2 c1 c2)) :
    Calls Try.prog 75 #[.agg #[.int .i64 a1, .int .i64 a2], .agg #[.int .i64 b1, .int .i64 b2], .agg #[.int .i64 c1, .int .i64 c2]] w fun e w' => e = .returned (.agg #[.int .i64 u, .int .u64 v]) ∧ Below w.heap.size w w' := by
  obtain ⟨x, hx⟩ : ∃ x, x = b1 - a1 := ⟨_, rfl⟩
  have c_x := can_sub (canC_true.1 hb).1 (canC_true.1 ha).1
  rw [← hx] at c_x
  have w_x : wrap64 (b1 - a1) = x := by rw [← hx]; exact c_x.1
  have v_x : IntKind.i64.wrap (b1 - a1) = x := (wrap_i64 _).trans w_x
  have R_x : Hid _ := c_x.2
  have E_x : Hid _ := hx
  clear c_x hx
  obtain ⟨y, hy⟩ : ∃ y, y = c2 - a2 := ⟨_, rfl⟩
  have c_y := can_sub (canC_true.1 hc).2 (canC_true.1 ha).2
  rw [← hy] at c_y
  have w_y : wrap64 (c2 - a2) = y := by rw [← hy]; exact c_y.1
  have v_y : IntKind.i64.wrap (c2 - a2) = y := (wrap_i64 _).trans w_y
  have R_y : Hid _ := c_y.2
  have E_y : Hid _ := hy
  clear c_y hy
  obtain ⟨z, hz⟩ : ∃ z, z = b2 - a2 := ⟨_, rfl⟩
  have c_z := can_sub (canC_true.1 hb).2 (canC_true.1 ha).2
  rw [← hz] at c_z
  have w_z : wrap64 (b2 - a2) = z := by rw [← hz]; exact c_z.1
  have v_z : IntKind.i64.wrap (b2 - a2) = z := (wrap_i64 _).trans w_z
  have R_z : Hid _ := c_z.2
  have E_z : Hid _ := hz
  clear c_z hz
  obtain ⟨t, ht⟩ : ∃ t, t = c1 - a1 := ⟨_, rfl⟩
  have c_t := can_sub (canC_true.1 hc).1 (canC_true.1 ha).1
  rw [← ht] at c_t
  have w_t : wrap64 (c1 - a1) = t := by rw [← ht]; exact c_t.1
  have v_t : IntKind.i64.wrap (c1 - a1) = t := (wrap_i64 _).trans w_t
  have R_t : Hid _ := c_t.2
  have E_t : Hid _ := ht
  clear c_t ht
  have HU : Hid (u = lw.hi (x * y - z * t)) := by unfold Hid; rw [hu, E_x.out, E_y.out, E_z.out, E_t.out]; rfl
  have HV : Hid (v = lw.lo (x * y - z * t)) := by unfold Hid; rw [hv, E_x.out, E_y.out, E_z.out, E_t.out]; rfl
  clear hu hv ha hb hc
  obtain ⟨W, hW, bW, x_a, x_b, x_c, x_r, sW⟩ := bs_2222 w (.int .i64 a1) (.int .i64 a2) (.int .i64 b1) (.int .i64 b2) (.int .i64 c1) (.int .i64 c2) (.int .i64 0) (.int .u64 0) 32 32 32 100
  have zbW := bW.size
  have BB := bW
  go_enter Try.func75, Try.ntmps75
  go_wp2
  rw [← hW]
  clear hW
  have dd1 : Below W.heap.size W W.drew := (Below.refl _ _).drew
  have zdd1 := dd1.size
  replace BB := also BB dd1
  replace x_a := x_a.on dd1
  replace x_b := x_b.on dd1
  replace x_c := x_c.on dd1
  replace x_r := x_r.on dd1
  refine wp_region_held_drew (S := (fun w' => w'.cell? ⟨w.heap.size, 0, none⟩ = some (.int .i64 a1) ∧ w'.cell? ⟨w.heap.size, 1, none⟩ = some (.int .i64 a2) ∧ w'.cell? ⟨w.heap.size + 1, 0, none⟩ = some (.int .i64 b1) ∧ w'.cell? ⟨w.heap.size + 1, 1, none⟩ = some (.int .i64 b2) ∧ w'.cell? ⟨w.heap.size + 1 + 1, 0, none⟩ = some (.int .i64 c1) ∧ w'.cell? ⟨w.heap.size + 1 + 1, 1, none⟩ = some (.int .i64 c2) ∧ Below w.heap.size w w')) (by kernel_rfl) ?_ (fun hHeld => ?_)
  · exact ⟨x_a.c0, x_a.c1, x_b.c0, x_b.c1, x_c.c0, x_c.c1, BB⟩
  refine take_yes (i := 0) (v := ?vs0) rfl (by kernel_rfl) (by kernel_rfl) (by kernel_rfl) (fun _ _ _ h => h) (by rfl) (by assumption) ?hys0 ?rests0
  case hys0 => (intro w hSw; (try dsimp only at hSw); first | (go_simp; done) | (go_simp; with_reducible rfl))
  simp only [Act.put, List.setIfInBounds_toArray, List.set_cons_zero, List.set_cons_succ]
  refine take_yes (i := 1) (v := ?vs1) rfl (by kernel_rfl) (by kernel_rfl) (by kernel_rfl) (fun _ _ _ h => h) (by rfl) (by assumption) ?hys1 ?rests1
  case hys1 => (intro w hSw; (try dsimp only at hSw); first | (go_simp; done) | (go_simp; with_reducible rfl))
  simp only [Act.put, List.setIfInBounds_toArray, List.set_cons_zero, List.set_cons_succ]
  refine take_yes (i := 2) (v := ?vs2) rfl (by kernel_rfl) (by kernel_rfl) (by kernel_rfl) (fun _ _ _ h => h) (by rfl) (by assumption) ?hys2 ?rests2
  case hys2 => (intro w hSw; (try dsimp only at hSw); first | (go_simp; done) | (go_simp; with_reducible rfl))
  simp only [Act.put, List.setIfInBounds_toArray, List.set_cons_zero, List.set_cons_succ]
  refine take_yes (i := 3) (v := ?vs3) rfl (by kernel_rfl) (by kernel_rfl) (by kernel_rfl) (fun _ _ _ h => h) (by rfl) (by assumption) ?hys3 ?rests3
  case hys3 => (intro w hSw; (try dsimp only at hSw); first | (go_simp; done) | (go_simp; with_reducible rfl))
  simp only [Act.put, List.setIfInBounds_toArray, List.set_cons_zero, List.set_cons_succ]
  refine take_yes (i := 4) (v := ?vs4) rfl (by kernel_rfl) (by kernel_rfl) (by kernel_rfl) (fun _ _ _ h => h) (by rfl) (by assumption) ?hys4 ?rests4
  case hys4 => (intro w hSw; (try dsimp only at hSw); first | (go_simp; done) | (go_simp; with_reducible rfl))
  simp only [Act.put, List.setIfInBounds_toArray, List.set_cons_zero, List.set_cons_succ]
  refine take_yes (i := 5) (v := ?vs5) rfl (by kernel_rfl) (by kernel_rfl) (by kernel_rfl) (fun _ _ _ h => h) (by rfl) (by assumption) ?hys5 ?rests5
  case hys5 => (intro w hSw; (try dsimp only at hSw); first | (go_simp; done) | (go_simp; with_reducible rfl))
  simp only [Act.put, List.setIfInBounds_toArray, List.set_cons_zero, List.set_cons_succ]
  refine take_yes (i := 6) (v := ?vs6) rfl (by kernel_rfl) (by kernel_rfl) (by kernel_rfl) (fun _ _ _ h => h) (by rfl) (by assumption) ?hys6 ?rests6
  case hys6 => (intro w hSw; (try dsimp only at hSw); first | (go_simp; done) | (go_simp; with_reducible rfl))
  simp only [Act.put, List.setIfInBounds_toArray, List.set_cons_zero, List.set_cons_succ]
  refine take_yes (i := 7) (v := ?vs7) rfl (by kernel_rfl) (by kernel_rfl) (by kernel_rfl) (fun _ _ _ h => h) (by rfl) (by assumption) ?hys7 ?rests7
  case hys7 => (intro w hSw; (try dsimp only at hSw); first | (go_simp; done) | (go_simp; with_reducible rfl))
  simp only [Act.put, List.setIfInBounds_toArray, List.set_cons_zero, List.set_cons_succ]
  refine take_yes (i := 8) (v := ?vs8) rfl (by kernel_rfl) (by kernel_rfl) (by kernel_rfl) (fun _ _ _ h => h) (by rfl) (by assumption) ?hys8 ?rests8
  case hys8 => (intro w hSw; (try dsimp only at hSw); first | (go_simp; done) | (go_simp; with_reducible rfl))
  simp only [Act.put, List.setIfInBounds_toArray, List.set_cons_zero, List.set_cons_succ]
  refine take_yes (i := 9) (v := ?vs9) rfl (by kernel_rfl) (by kernel_rfl) (by kernel_rfl) (fun _ _ _ h => h) (by rfl) (by assumption) ?hys9 ?rests9
  case hys9 => (intro w hSw; (try dsimp only at hSw); first | (go_simp; done) | (go_simp; with_reducible rfl))
  simp only [Act.put, List.setIfInBounds_toArray, List.set_cons_zero, List.set_cons_succ]
  refine take_yes (i := 11) (v := ?vs11) rfl (by kernel_rfl) (by kernel_rfl) (by kernel_rfl) (fun _ _ _ h => h) (by rfl) (by assumption) ?hys11 ?rests11
  case hys11 => (intro w hSw; (try dsimp only at hSw); first | (go_simp; done) | (go_simp; with_reducible rfl))
  simp only [Act.put, List.setIfInBounds_toArray, List.set_cons_zero, List.set_cons_succ]
  refine take_yes (i := 12) (v := ?vs12) rfl (by kernel_rfl) (by kernel_rfl) (by kernel_rfl) (fun _ _ _ h => h) (by rfl) (by assumption) ?hys12 ?rests12
  case hys12 => (intro w hSw; (try dsimp only at hSw); first | (go_simp; done) | (go_simp; with_reducible rfl))
  simp only [Act.put, List.setIfInBounds_toArray, List.set_cons_zero, List.set_cons_succ]
  refine take_yes (i := 13) (v := ?vs13) rfl (by kernel_rfl) (by kernel_rfl) (by kernel_rfl) (fun _ _ _ h => h) (by rfl) (by assumption) ?hys13 ?rests13
  case hys13 => (intro w hSw; (try dsimp only at hSw); first | (go_simp; done) | (go_simp; with_reducible rfl))
  simp only [Act.put, List.setIfInBounds_toArray, List.set_cons_zero, List.set_cons_succ]
  refine take_yes (i := 14) (v := ?vs14) rfl (by kernel_rfl) (by kernel_rfl) (by kernel_rfl) (fun _ _ _ h => h) (by rfl) (by assumption) ?hys14 ?rests14
  case hys14 => (intro w hSw; (try dsimp only at hSw); first | (go_simp; done) | (go_simp; with_reducible rfl))
  simp only [Act.put, List.setIfInBounds_toArray, List.set_cons_zero, List.set_cons_succ]
  refine take_yes (i := 15) (v := ?vs15) rfl (by kernel_rfl) (by kernel_rfl) (by kernel_rfl) (fun _ _ _ h => h) (by rfl) (by assumption) ?hys15 ?rests15
  case hys15 => (intro w hSw; (try dsimp only at hSw); first | (go_simp; done) | (go_simp; with_reducible rfl))
  simp only [Act.put, List.setIfInBounds_toArray, List.set_cons_zero, List.set_cons_succ]
  refine take_yes (i := 16) (v := ?vs16) rfl (by kernel_rfl) (by kernel_rfl) (by kernel_rfl) (fun _ _ _ h => h) (by rfl) (by assumption) ?hys16 ?rests16
  case hys16 => (intro w hSw; (try dsimp only at hSw); first | (go_simp; done) | (go_simp; with_reducible rfl))
  simp only [Act.put, List.setIfInBounds_toArray, List.set_cons_zero, List.set_cons_succ]
  refine take_yes (i := 17) (v := ?vs17) rfl (by kernel_rfl) (by kernel_rfl) (by kernel_rfl) (fun _ _ _ h => h) (by rfl) (by assumption) ?hys17 ?rests17
  case hys17 => (intro w hSw; (try dsimp only at hSw); first | (go_simp; done) | (go_simp; with_reducible rfl))
  simp only [Act.put, List.setIfInBounds_toArray, List.set_cons_zero, List.set_cons_succ]
  refine take_yes (i := 18) (v := ?vs18) rfl (by kernel_rfl) (by kernel_rfl) (by kernel_rfl) (fun _ _ _ h => h) (by rfl) (by assumption) ?hys18 ?rests18
  case hys18 => (intro w hSw; (try dsimp only at hSw); first | (go_simp; done) | (go_simp; with_reducible rfl))
  simp only [Act.put, List.setIfInBounds_toArray, List.set_cons_zero, List.set_cons_succ]
  refine take_yes (i := 19) (v := ?vs19) rfl (by kernel_rfl) (by kernel_rfl) (by kernel_rfl) (fun _ _ _ h => h) (by rfl) (by assumption) ?hys19 ?rests19
  case hys19 => (intro w hSw; (try dsimp only at hSw); first | (go_simp; done) | (go_simp; with_reducible rfl))
  simp only [Act.put, List.setIfInBounds_toArray, List.set_cons_zero, List.set_cons_succ]
  refine take_yes (i := 20) (v := ?vs20) rfl (by kernel_rfl) (by kernel_rfl) (by kernel_rfl) (fun _ _ _ h => h) (by rfl) (by assumption) ?hys20 ?rests20
  case hys20 => (intro w hSw; (try dsimp only at hSw); first | (go_simp; done) | (go_simp; with_reducible rfl))
  simp only [Act.put, List.setIfInBounds_toArray, List.set_cons_zero, List.set_cons_succ]
  refine take_call (i := 10) rfl (by kernel_rfl) (fun Kc hK => ?_)
  go_simp
  (go_at_call 47; refine (lw.mul_any x y R_x.out.1 R_x.out.2 R_y.out.1 R_y.out.2 _).mono ?_; rintro e w1 ⟨rfl, bw1⟩)
  refine hK.out _ _ ?_ (fun hHeld => ?_)
  · exact ⟨cell_on bw1 hHeld.1, cell_on bw1 hHeld.2.1, cell_on bw1 hHeld.2.2.1, cell_on bw1 hHeld.2.2.2.1, cell_on bw1 hHeld.2.2.2.2.1, cell_on bw1 hHeld.2.2.2.2.2.1, also hHeld.2.2.2.2.2.2 bw1⟩
  clear hK Kc
  have zbw1 := bw1.size
  replace BB := also BB bw1
  replace x_a := x_a.on bw1
  replace x_b := x_b.on bw1
  replace x_c := x_c.on bw1
  replace x_r := x_r.on bw1
  refine take_call (i := 21) rfl (by kernel_rfl) (fun Kc hK => ?_)
  go_simp
  (go_at_call 47; refine (lw.mul_any z t R_z.out.1 R_z.out.2 R_t.out.1 R_t.out.2 _).mono ?_; rintro e w2 ⟨rfl, bw2⟩)
  refine hK.out _ _ ?_ (fun hHeld => ?_)
  · exact ⟨cell_on bw2 hHeld.1, cell_on bw2 hHeld.2.1, cell_on bw2 hHeld.2.2.1, cell_on bw2 hHeld.2.2.2.1, cell_on bw2 hHeld.2.2.2.2.1, cell_on bw2 hHeld.2.2.2.2.2.1, also hHeld.2.2.2.2.2.2 bw2⟩
  clear hK Kc
  have zbw2 := bw2.size
  replace BB := also BB bw2
  replace x_a := x_a.on bw2
  replace x_b := x_b.on bw2
  replace x_c := x_c.on bw2
  replace x_r := x_r.on bw2
  refine take_call (i := 22) rfl (by kernel_rfl) (fun Kc hK => ?_)
  go_simp
  (go_at_call 88; refine (lw.sub_any (x * y) (z * t) rfl rfl rfl rfl _).mono ?_; rintro e w3 ⟨rfl, bw3⟩)
  refine hK.out _ _ ?_ (fun hHeld => ?_)
  · exact ⟨cell_on bw3 hHeld.1, cell_on bw3 hHeld.2.1, cell_on bw3 hHeld.2.2.1, cell_on bw3 hHeld.2.2.2.1, cell_on bw3 hHeld.2.2.2.2.1, cell_on bw3 hHeld.2.2.2.2.2.1, also hHeld.2.2.2.2.2.2 bw3⟩
  clear hK Kc
  have zbw3 := bw3.size
  replace BB := also BB bw3
  replace x_a := x_a.on bw3
  replace x_b := x_b.on bw3
  replace x_c := x_c.on bw3
  replace x_r := x_r.on bw3
  have ⟨x_r_0, x_r_1, x_r_2, x_r_3⟩ := x_r
  refine take_call (i := 23) rfl (by kernel_rfl) (fun Kc hK => ?_)
  go_simp
  refine hK.out _ _ ?_ (fun hHeld => ?_)
  · first | exact ⟨cell_put2 hHeld.1 (by omega) _ _, cell_put2 hHeld.2.1 (by omega) _ _, cell_put2 hHeld.2.2.1 (by omega) _ _, cell_put2 hHeld.2.2.2.1 (by omega) _ _, cell_put2 hHeld.2.2.2.2.1 (by omega) _ _, cell_put2 hHeld.2.2.2.2.2.1 (by omega) _ _, below_put2 hHeld.2.2.2.2.2.2 (by omega) _ _⟩ | exact ⟨x_a.c0, x_a.c1, x_b.c0, x_b.c1, x_c.c0, x_c.c1, BB⟩
  clear hK Kc
  refine wpAnyH_done (by kernel_rfl) ?_ _
  go_wp2
  exact bodyPost_ret (v := .agg #[.int .i64 (lw.hi (x * y - z * t)), .int .u64 (lw.lo (x * y - z * t))]) (by simp [results, Try.results75, go_sem, *]) rfl (⟨by rw [HU.out, HV.out], below_put2 BB (by omega) _ _⟩)
end Go.Proofs.Ytjdeehffbgpenaa

namespace Go.Proofs.Ytjdeehffbgpenaa
open Go.RowKit
set_option linter.unusedVariables false

/-- A function, changed at one place. -/
def upd {α : Type} (f : Nat → α) (i : Nat) (x : α) : Nat → α := fun j => if j = i then x else f j
theorem upd_same {α : Type} (f : Nat → α) (i : Nat) (x : α) : upd f i x i = x := by unfold upd; rw [if_pos rfl]
theorem upd_other {α : Type} (f : Nat → α) (i j : Nat) (x : α) (h : j ≠ i) : upd f i x j = f j := by unfold upd; rw [if_neg h]
/-- What is told of a result x (number j): R: what holds of it in the memory; A: which blocks it is apart from. R stays where old blocks stay, and a result is apart from blocks to come. -/
def GoodSp (Sp : Nat → Value → (World → Prop) → (Nat → Prop) → Prop) : Prop := ∀ j x R A, Sp j x R A → (∀ w w', R w → Below w.heap.size w w' → R w') ∧ ∀ w k, R w → w.heap.size ≤ k → A k
/-- b: which calls are done; e: which blocks are made, p: where; u, R, A: what a call told; v: the blocks' pointers. -/
structure Mk (U : World) (Z : Nat → List Value) (Sp : Nat → Value → (World → Prop) → (Nat → Prop) → Prop) (b e : Nat → Bool) (p : Nat → Nat) (R : Nat → World → Prop) (A : Nat → Nat → Prop) (u v : Nat → Value) (w : World) : Prop where
  spec : ∀ j, b j = true → Sp j (u j) (R j) (A j)
  res : ∀ j, b j = true → R j w
  ptr : ∀ i, e i = true → v i = .pointer (some ⟨p i, 0, none⟩)
  blk : ∀ i, e i = true → Row w (p i) (Z i)
  old : ∀ i, e i = true → U.heap.size ≤ p i
  lt : ∀ i, e i = true → p i < w.heap.size
  ne : ∀ i j, e i = true → e j = true → i ≠ j → p i ≠ p j
  ap : ∀ i j, e i = true → b j = true → A j (p i)
  bel : Below U.heap.size U w
variable {U : World} {Z : Nat → List Value} {Sp : Nat → Value → (World → Prop) → (Nat → Prop) → Prop} {b e : Nat → Bool} {p : Nat → Nat} {R : Nat → World → Prop} {A : Nat → Nat → Prop} {u v : Nat → Value} {w w' : World}
theorem Mk.call (h : Mk U Z Sp b e p R A u v w) (hG : GoodSp Sp) (j : Nat) (hb : Below w.heap.size w w') (x : Value) (R' : World → Prop) (A' : Nat → Prop) (hs : Sp j x R' A') (hR : R' w') (hin : ∀ i, e i = true → A' (p i)) :
    Mk U Z Sp (upd b j true) e p (upd R j R') (upd A j A') (upd u j x) v w' := by
  refine ⟨fun i hi => ?_, fun i hi => ?_, h.ptr, fun i hi => (h.blk i hi).below hb (h.lt i hi), h.old, fun i hi => Nat.lt_of_lt_of_le (h.lt i hi) hb.size, h.ne, fun i k hi hk => ?_, also h.bel hb⟩
  · by_cases q : i = j
    · subst q; simp only [upd_same]; exact hs
    · rw [upd_other _ _ _ _ q] at hi; simp only [upd_other _ _ _ _ q]; exact h.spec i hi
  · by_cases q : i = j
    · subst q; simp only [upd_same]; exact hR
    · rw [upd_other _ _ _ _ q] at hi; simp only [upd_other _ _ _ _ q]; exact (hG _ _ _ _ (h.spec i hi)).1 _ _ (h.res i hi) hb
  · by_cases q : k = j
    · subst q; simp only [upd_same]; exact hin i hi
    · rw [upd_other _ _ _ _ q] at hk; simp only [upd_other _ _ _ _ q]; exact h.ap i k hi hk
theorem Mk.alloc (h : Mk U Z Sp b e p R A u v w) (hG : GoodSp Sp) (i : Nat) (t : TypeId) (hi : e i = false) :
    Mk U Z Sp b (upd e i true) (upd p i w.heap.size) R A u (upd v i (.pointer (some ⟨w.heap.size, 0, none⟩))) (w.alloc (.cells (Z i).toArray t)) := by
  have hb : Below w.heap.size w (w.alloc (.cells (Z i).toArray t)) := (Below.refl _ _).alloc (Nat.le_refl _) _
  refine ⟨h.spec, fun j hj => (hG _ _ _ _ (h.spec j hj)).1 _ _ (h.res j hj) hb, fun k hk => ?_, fun k hk => ?_, fun k hk => ?_, fun k hk => ?_, fun k m hk hm hne => ?_, fun k j hk hj => ?_, also h.bel hb⟩
  · by_cases q : k = i
    · subst q; simp only [upd_same]
    · rw [upd_other _ _ _ _ q] at hk; simp only [upd_other _ _ _ _ q]; exact h.ptr k hk
  · by_cases q : k = i
    · subst q; simp only [upd_same]; exact Row.new _ _ _
    · rw [upd_other _ _ _ _ q] at hk; simp only [upd_other _ _ _ _ q]; exact (h.blk k hk).below hb (h.lt k hk)
  · by_cases q : k = i
    · subst q; simp only [upd_same]; exact h.bel.size
    · rw [upd_other _ _ _ _ q] at hk; simp only [upd_other _ _ _ _ q]; exact h.old k hk
  · by_cases q : k = i
    · subst q; simp only [upd_same]; simp
    · rw [upd_other _ _ _ _ q] at hk; simp only [upd_other _ _ _ _ q]; exact Nat.lt_of_lt_of_le (h.lt k hk) hb.size
  · by_cases q : k = i
    · subst q
      rw [upd_other _ _ _ _ (fun x => hne x.symm)] at hm
      simp only [upd_same, upd_other _ _ _ _ (fun x => hne x.symm)]
      exact Nat.ne_of_gt (h.lt m hm)
    · rw [upd_other _ _ _ _ q] at hk
      by_cases q2 : m = i
      · subst q2; simp only [upd_same, upd_other _ _ _ _ q]; exact Nat.ne_of_lt (h.lt k hk)
      · rw [upd_other _ _ _ _ q2] at hm; simp only [upd_other _ _ _ _ q, upd_other _ _ _ _ q2]; exact h.ne k m hk hm hne
  · by_cases q : k = i
    · subst q; simp only [upd_same]; exact (hG _ _ _ _ (h.spec j hj)).2 _ _ (h.res j hj) (Nat.le_refl _)
    · rw [upd_other _ _ _ _ q] at hk; simp only [upd_other _ _ _ _ q]; exact h.ap k j hk hj
variable {P : Program} {md : Region.Mode} {Q : Exit → Act → World → Prop} {S : World → Prop}
end Go.Proofs.Ytjdeehffbgpenaa

namespace Go.Proofs.Ytjdeehffbgpenaa
open Go.RowKit
set_option linter.unusedVariables false

theorem RN.apart {w : World} {s : Int} {d : Option Addr} {l c k : Nat} {X : Int} (h : RN w s d l c X) (hk : w.heap.size ≤ k) : NA k d l := h.hd.sl.na hk
end Go.Proofs.Ytjdeehffbgpenaa

namespace Go.Proofs.Ytjdeehffbgpenaa
open Go.RowKit
set_option linter.unusedVariables false

end Go.Proofs.Ytjdeehffbgpenaa

namespace Go.Proofs.Ytjdeehffbgpenaa
open Go.RowKit
set_option linter.unusedVariables false

end Go.Proofs.Ytjdeehffbgpenaa

namespace Go.Proofs.Ytjdeehffbgpenaa
open Go.RowKit
set_option linter.unusedVariables false

end Go.Proofs.Ytjdeehffbgpenaa

namespace Go.Proofs.Ytjdeehffbgpenaa
open Go.RowKit
set_option linter.unusedVariables false

end Go.Proofs.Ytjdeehffbgpenaa

namespace Go.Proofs.Ytjdeehffbgpenaa
open Go.RowKit
set_option linter.unusedVariables false

end Go.Proofs.Ytjdeehffbgpenaa

namespace Go.Proofs.Ytjdeehffbgpenaa
open Go.RowKit
set_option linter.unusedVariables false

end Go.Proofs.Ytjdeehffbgpenaa

namespace Go.Proofs.Ytjdeehffbgpenaa
open Go.RowKit
set_option linter.unusedVariables false

theorem tr64_all {t : Tr} (h : Tr64 t) : ∀ i, (-9223372036854775808 ≤ t.v i ∧ t.v i ≤ 9223372036854775807) ∧ (-9223372036854775808 ≤ t.x i ∧ t.x i ≤ 9223372036854775807) ∧ (-9223372036854775808 ≤ t.y i ∧ t.y i ≤ 9223372036854775807) := fun i => ⟨h.v i, h.x i, h.y i⟩
/-- An act. -/
structure Act where
  kind : Int
  n : Int
  x : Int
  y : Int
  t : Tr
def actC (a : Act) : List Value := [.int .i64 a.kind, .int .i64 a.n, .int .i64 a.x, .int .i64 a.y, .int .i64 a.t.v0, .int .i64 a.t.v1, .int .i64 a.t.v2, .int .i64 a.t.x0, .int .i64 a.t.y0, .int .i64 a.t.x1, .int .i64 a.t.y1, .int .i64 a.t.x2, .int .i64 a.t.y2]
structure Act64 (a : Act) : Prop where
  kind : In64 a.kind
  n : In64 a.n
  x : In64 a.x
  y : In64 a.y
  t : Tr64 a.t
end Go.Proofs.Ytjdeehffbgpenaa

namespace Go.Proofs.Ytjdeehffbgpenaa
open Go.RowKit
set_option linter.unusedVariables false

/-- A list of acts that was handed in. -/
structure ActsAt (w : World) (a : Option Addr) (n c : Nat) (L : List Act) : Prop where
  len : L.length = n
  room : n ≤ c ∧ c ≤ maxLen
  seg : n = 0 ∨ ∃ b o, a = some ⟨b, o, none⟩ ∧ b < w.heap.size ∧ Seg w b o (flat actC L)
  l64 : ∀ x ∈ L, Act64 x
theorem ActsAt.below {w w' : World} {a : Option Addr} {n c : Nat} {L : List Act} (h : ActsAt w a n c L) (hb : Below w.heap.size w w') : ActsAt w' a n c L := by
  refine ⟨h.len, h.room, h.seg.imp id ?_, h.l64⟩
  rintro ⟨b, o, e, hlt, hs⟩
  exact ⟨b, o, e, Nat.lt_of_lt_of_le hlt hb.size, hs.below hb hlt⟩
end Go.Proofs.Ytjdeehffbgpenaa

namespace Go.Proofs.Ytjdeehffbgpenaa
open Go.ChangeShapes Go.WideShapes Go.ChangeAt Go.RowKit
set_option linter.unusedVariables false
set_option linter.constructorNameAsVariable false

theorem bd_act {x : Int} (h : (Lit.int .i64 x).wf = true) : In64 x := by
  have h1 : IntKind.i64.min = -9223372036854775808 := rfl
  have h2 : IntKind.i64.max = 9223372036854775807 := rfl
  simp only [Lit.wf, Bool.and_eq_true, decide_eq_true_eq, h1, h2] at h
  exact h
/-- All cells up to s are ints. -/
def IntsTo (cs : List Value) (s : Nat) : Prop := ∀ j, j < s → ∃ x, cs[j]? = some (.int .i64 x) ∧ In64 x
section
variable {H : Type} {enc : TypeId × Value → H} {W : World} {bs : Nat} {sp : Nat → Bool} {hd : Bool} {fuel : Nat} {cs : List Value} {x : DataW H × List MemPlace}
theorem IntsTo.part {o s : Nat} (h : IntsTo ((cs.drop o).take s) s) : ∀ j, o ≤ j → j < o + s → ∃ x, cs[j]? = some (.int .i64 x) ∧ In64 x := by
  intro j h1 h2
  obtain ⟨y, hy, h64⟩ := h (j - o) (by omega)
  rw [List.getElem?_take, if_pos (by omega), List.getElem?_drop, show o + (j - o) = j by omega] at hy
  exact ⟨y, hy, h64⟩
end
end Go.Proofs.Ytjdeehffbgpenaa

namespace Go.Proofs.Ytjdeehffbgpenaa
open Go.RowKit
set_option linter.unusedVariables false

/-- The sum so far, in its box. -/
structure SumBox (w : World) (b : Nat) (z : Int) (s : Int) (d : Option Addr) (l c : Nat) : Prop where
  row : Row w b [.int .i64 s, .slice d l c]
  rn : RN w s d l c z
  na : NA b d l
theorem SumBox.below {w w' : World} {b : Nat} {z s : Int} {d : Option Addr} {l c : Nat} (h : SumBox w b z s d l c) (hb : Below w.heap.size w w') : SumBox w' b z s d l c := ⟨h.row.below hb h.row.lt, h.rn.below hb, h.na⟩

end Go.Proofs.Ytjdeehffbgpenaa

namespace Go.Proofs.Ytjdeehffbgpenaa
open Go.RowKit
set_option linter.unusedVariables false

/-- The mesh of one vertex and two faces. -/
def oneT : Tr := ⟨0, 0, 0, 0, 0, 1, 0, 0, 1⟩
def twoT : Tr := ⟨0, 0, 0, 1, 0, 1, 1, 0, 1⟩
def one1 : Ms := (Ms.new 1).addV 0 0 7
def one2 : Ms := one1.addF oneT
def one3 : Ms := one2.addF twoT
theorem tr64_small {t : Tr} (h : ∀ x ∈ trL t, In64 x) : Tr64 t := by
  have H : ∀ x, x ∈ trL t → In64 x := h
  unfold trL at H
  refine ⟨fun i => ?_, fun i => ?_, fun i => ?_⟩
  · unfold Tr.v; split
    · exact H _ (by simp)
    · split <;> exact H _ (by simp)
  · unfold Tr.x; split
    · exact H _ (by simp)
    · split <;> exact H _ (by simp)
  · unfold Tr.y; split
    · exact H _ (by simp)
    · split <;> exact H _ (by simp)
theorem oneT64 : Tr64 oneT := tr64_small (by decide)
theorem twoT64 : Tr64 twoT := tr64_small (by decide)
theorem one1_ok : MsOk one1 1 := (MsOk.new 1 (by decide)).addV (by decide) (by decide)
theorem one2_ok : MsOk one2 2 := one1_ok.addF (by decide) (tr64_all oneT64)
theorem one3_ok : MsOk one3 3 := one2_ok.addF (by decide) (tr64_all twoT64)
set_option maxRecDepth 100000 in
set_option maxHeartbeats 1000000 in
theorem one_of {MP : MeShape} (H : MeSpec MP) (w : World) : Calls Try.prog 26 #[] w fun e w' => ∃ (p : Nat) (F : Nat → Prop), e = .returned (ptR p) ∧ MP w.heap.size p one3 F w' ∧ Below w.heap.size w w' := by
  have HH : Hid _ := H
  clear H
  go_enter Try.func26, Try.ntmps26
  go_wp2_with (go_at_call 4; fail)
  refine (HH.out.new w.heap.size 1 w (Nat.le_refl _) (by decide)).mono ?_
  rintro e w1 ⟨p, F0, rfl, g0, f0, b1⟩
  have G0 : Hid _ := g0
  clear g0
  go_wp2_with (go_at_call 7; fail)
  refine (HH.out.addV w.heap.size p (Ms.new 1) 0 F0 w1 G0.out (MsOk.new 1 (by decide)) (by decide) 0 0 7 (by decide) (by decide) (by decide) (by decide)).mono ?_
  rintro e w2 ⟨rfl, k2, F1, g1, s1⟩
  have G1 : Hid (MP w.heap.size p one1 F1 w2) := g1
  have B2 : Below w.heap.size w w2 := b1.trans (k2.below b1.size (fun k f => (HH.out.ft G0.out k f).1))
  clear g1
  go_wp2_with (go_at_call 9; fail)
  refine (HH.out.addF w.heap.size p one1 1 F1 w2 G1.out one1_ok (by decide) oneT oneT64 (by decide)).mono ?_
  rintro e w3 ⟨rfl, k3, F2, g2, s2⟩
  have G2 : Hid (MP w.heap.size p one2 F2 w3) := g2
  have B3 : Below w.heap.size w w3 := B2.trans (k3.below B2.size (fun k f => (HH.out.ft G1.out k f).1))
  clear g2
  go_wp2_with (go_at_call 9; fail)
  refine (HH.out.addF w.heap.size p one2 2 F2 w3 G2.out one2_ok (by decide) twoT twoT64 (by decide)).mono ?_
  rintro e w4 ⟨rfl, k4, F3, g3, s3⟩
  have G3 : Hid (MP w.heap.size p one3 F3 w4) := g3
  have B4 : Below w.heap.size w w4 := B3.trans (k4.below B3.size (fun k f => (HH.out.ft G2.out k f).1))
  clear g3
  go_wp2
  go_ret
  exact ⟨p, F3, rfl, G3.out, B4⟩
theorem one_cross : crossed one3 0 0 = some (oneT, ⟨1, twoT⟩, 2) := by rfl
set_option maxRecDepth 100000 in
set_option maxHeartbeats 1000000 in
theorem lives11_of {MP : MeShape} (H : MeSpec MP) (w : World) : Calls Try.prog 8 #[] w fun e w' => e = .returned (.bool true) ∧ Below w.heap.size w w' := by
  have HH : Hid _ := H
  clear H
  go_enter Try.func8, Try.ntmps8
  go_wp2_with (go_at_call 26; fail)
  refine (one_of HH.out w).mono ?_
  rintro e w1 ⟨p, F, rfl, g1, b1⟩
  have G1 : Hid _ := g1
  clear g1
  go_wp2_with (go_at_call 13; fail)
  refine (HH.out.across w.heap.size p one3 3 F w1 G1.out one3_ok (by decide) 0 0 (by decide) (by decide)).mono ?_
  rintro e w2 ⟨he, b2⟩
  rw [one_cross] at he
  have he' : e = .returned (.tuple #[.int .i64 1, .int .i64 1, .agg #[.int .i64 0, .int .i64 0], .bool true]) := he
  subst he'
  clear he
  have z2 := b2.size
  have z1 := b1.size
  obtain ⟨W, hW⟩ : ∃ W, W = w2.alloc (.cells ([.int .i64 0, .int .i64 0] : List Value).toArray 39) := ⟨_, rfl⟩
  have BW : Below w2.heap.size w2 W := by rw [hW]; exact (Below.refl _ _).alloc (Nat.le_refl _) _
  have R0 : Row W w2.heap.size [.int .i64 0, .int .i64 0] := by rw [hW]; exact Row.new w2 _ _
  have hW' : Hid (w2.alloc (.cells #[.int .i64 0, .int .i64 0] 39) = W) := hW.symm
  have zW := BW.size
  have hlt : w2.heap.size < W.heap.size := R0.lt
  have G2 : Hid _ := HH.out.below (HH.out.below G1.out b2) BW
  clear hW
  go_wp2_with (go_at_call 17; fail)
  rw [hW'.out]
  refine (HH.out.check w.heap.size p one3 3 F W G2.out one3_ok (by decide) 0 (by rfl)).mono ?_
  rintro e w3 ⟨rfl, b3⟩
  have R3 := R0.below b3 hlt
  have r0 := R3.cell 0 _ rfl
  have r1 := R3.cell 1 _ rfl
  go_wp2_with (go_at_call 16; fail)
  refine (HH.out.around w.heap.size p one3 3 F w3 (HH.out.below G2.out b3) one3_ok (by decide) 0 (by decide) [0, 1] (by rfl)).mono ?_
  rintro e w4 ⟨a4, c4, rfl, o4, b4⟩
  go_wp2
  go_ret
  have z3 := b3.size
  exact ⟨rfl, (((b1.trans (b2.mono z1)).trans (BW.mono (by omega))).trans (b3.mono (by omega))).trans (b4.mono (by omega))⟩
end Go.Proofs.Ytjdeehffbgpenaa
