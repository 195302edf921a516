/-
  No cell of these rows narrows 'for every input' (looked for: loops, veiled, ifaces, maps, wideKeys, modest, calm, conditions, laid).
  DERIVED. THE GIVEN ROWS OF THIS SEAT. 3 by the template 'for every input the law returns true; each argument reads behind the call as it read before'; 0 by the template 'total and deterministic' (their statements: YtjdeehffbgpenaaGreatTotals.lean).
  GIVEN WITH THE SEED: the statements are not yours to turn. If you find one false, say at which input.
  Laid BY PROGRAM, IN A SANDBOX (cutbox-rows.mjs): the forced cells as the released guide's own fill.sh prints them over the translation bd5a30f83222e4ed… (all of the seat's roots in one cut). By AI agents, Wed Nov 11 2026. No macro, syntax, notation, axiom, sorry.
-/
import Derived.Test.YtjdeehffbgpenaaGreatChecked
import GoSem.Claim
import GoSem.ClaimJoined
import GoSem.ClaimMapViews
import Derived.JoinedTies
import Derived.KernelRfl
namespace Go.Proofs.YtjdeehffbgpenaaGreat
/- THE CELL 'sum', in the pinned program and in every row, IS THE sha256 OF THE DUMP (.gsa) THAT YtjdeehffbgpenaaGreatProg.lean LOADS. Nothing in Lean hashes anything: it is a label: what it is worth is what the hold of that sum in a sandbox is worth. -/
noncomputable def Tryz.pinned : Pinned := { name := "ytjdeehffbgpenaagreat", sum := "bd5a30f83222e4ed0aa06e46b2b47adc6d83bfcde62f4128e75f656ec0d762b6", checked := Tryz.checked }
namespace Rows
def none {H : Type} : Left H := { results := [], args := [] }

/-- 'zelligelaw11.MeshActs': WHATEVER THE INPUT: true; the input reads as it did. -/
def meshActsSpec : ChangeSpec := { name := "meshActs", fn := fun _ => fun
  | [d1, d2] => { results := [.lit (.bool true)], args := [d1, d2] }
  | _ => none }
def meshActsRow : OpenClaim := { program := "ytjdeehffbgpenaagreat", sum := "bd5a30f83222e4ed0aa06e46b2b47adc6d83bfcde62f4128e75f656ec0d762b6", func := "zellige/zelligelaw11.MeshActs", spec := "meshActs", inPlace := ["math/bits.Sub64", "math/bits.Add64"], unfollowed := true, recurses := true, plainKeys := false, apart := false }
def MeshActsSaid : Prop := meshActsRow.holds Tryz.pinned (OpenSpec.ofChange meshActsSpec)

/-- ITS FALSE NEIGHBOUR: 'it returns false'. Refute it at one input. -/
def meshActsWrong : ChangeSpec := { name := "meshActs", fn := fun _ => fun
  | [d1, d2] => { results := [.lit (.bool false)], args := [d1, d2] }
  | _ => none }
def MeshActsWrongFalsely : Prop := meshActsRow.holds Tryz.pinned (OpenSpec.ofChange meshActsWrong)

/-- 'zelligelaw11.MeshLooks': WHATEVER THE INPUT: true; the input reads as it did. -/
def meshLooksSpec : ChangeSpec := { name := "meshLooks", fn := fun _ => fun
  | [d1, d2, d3] => { results := [.lit (.bool true)], args := [d1, d2, d3] }
  | _ => none }
def meshLooksRow : OpenClaim := { program := "ytjdeehffbgpenaagreat", sum := "bd5a30f83222e4ed0aa06e46b2b47adc6d83bfcde62f4128e75f656ec0d762b6", func := "zellige/zelligelaw11.MeshLooks", spec := "meshLooks", inPlace := ["math/bits.Sub64", "math/bits.Add64"], unfollowed := true, recurses := true, plainKeys := false, apart := false }
def MeshLooksSaid : Prop := meshLooksRow.holds Tryz.pinned (OpenSpec.ofChange meshLooksSpec)

/-- ITS FALSE NEIGHBOUR: 'it returns false'. Refute it at one input. -/
def meshLooksWrong : ChangeSpec := { name := "meshLooks", fn := fun _ => fun
  | [d1, d2, d3] => { results := [.lit (.bool false)], args := [d1, d2, d3] }
  | _ => none }
def MeshLooksWrongFalsely : Prop := meshLooksRow.holds Tryz.pinned (OpenSpec.ofChange meshLooksWrong)

/-- 'zelligelaw11.MeshAcross': WHATEVER THE INPUT: true; the input reads as it did. -/
def meshAcrossSpec : ChangeSpec := { name := "meshAcross", fn := fun _ => fun
  | [d1, d2, d3] => { results := [.lit (.bool true)], args := [d1, d2, d3] }
  | _ => none }
def meshAcrossRow : OpenClaim := { program := "ytjdeehffbgpenaagreat", sum := "bd5a30f83222e4ed0aa06e46b2b47adc6d83bfcde62f4128e75f656ec0d762b6", func := "zellige/zelligelaw11.MeshAcross", spec := "meshAcross", inPlace := ["math/bits.Sub64", "math/bits.Add64"], unfollowed := true, recurses := true, plainKeys := false, apart := false }
def MeshAcrossSaid : Prop := meshAcrossRow.holds Tryz.pinned (OpenSpec.ofChange meshAcrossSpec)

/-- ITS FALSE NEIGHBOUR: 'it returns false'. Refute it at one input. -/
def meshAcrossWrong : ChangeSpec := { name := "meshAcross", fn := fun _ => fun
  | [d1, d2, d3] => { results := [.lit (.bool false)], args := [d1, d2, d3] }
  | _ => none }
def MeshAcrossWrongFalsely : Prop := meshAcrossRow.holds Tryz.pinned (OpenSpec.ofChange meshAcrossWrong)

/- THE SECOND FORM. 'bulk': how many values and letters a reading holds, each counted each time it is reached (what is shared counts as often as it is met; a slice's spare places count too). A statement '..UptoSaid' is the law's where the arguments, and the package variables that the reading takes, are together of bulk at most 1048576: NARROWER than '..Said'. Prove '..Said' where nothing that the law and all that it calls make is longer than what came in: it says more and counts as full. Else prove '..UptoSaid'. A law counts once. -/
mutual
def uptoBulk {H : Type} : DataW H → Nat
  | .lit (.string bytes) => bytes.length + 1
  | .lit _ => 1
  | .nil => 1
  | .ptr d => uptoBulk d + 1
  | .slice elems spare => uptoBulkAll elems + uptoBulkAll spare + 1
  | .agg parts => uptoBulkAll parts + 1
  | .iface _ d => uptoBulk d + 1
  | .map entries => uptoBulkEntries entries + 1
  | .held _ => 1
def uptoBulkAll {H : Type} : List (DataW H) → Nat
  | [] => 0
  | d :: r => uptoBulk d + uptoBulkAll r
def uptoBulkEntries {H : Type} : List (Lit × DataW H) → Nat
  | [] => 0
  | x :: r => uptoBulkEntry x + uptoBulkEntries r
def uptoBulkEntry {H : Type} : Lit × DataW H → Nat
  | (.string bytes, d) => bytes.length + uptoBulk d + 1
  | (_, d) => uptoBulk d + 1
 end
def uptoSmall : (H : Type) → List (DataW H) → Bool := fun _ ds => decide (uptoBulkAll ds ≤ 1048576)
def OpenSpec.upto (s : _root_.Go.ChangeSpec) : _root_.Go.OpenSpec := { _root_.Go.OpenSpec.ofChange s with cond := some uptoSmall }

/-- 'zelligelaw11.MeshActs', WHERE WHAT IT READS IS OF BULK AT MOST 1048576: true; the input reads as it did. -/
def meshActsUptoRow : OpenClaim := { program := "ytjdeehffbgpenaagreat", sum := "bd5a30f83222e4ed0aa06e46b2b47adc6d83bfcde62f4128e75f656ec0d762b6", func := "zellige/zelligelaw11.MeshActs", spec := "meshActs", inPlace := ["math/bits.Sub64", "math/bits.Add64"], unfollowed := true, recurses := true, plainKeys := false, apart := false, narrowed := true }
def MeshActsUptoSaid : Prop := meshActsUptoRow.holds Tryz.pinned (OpenSpec.upto meshActsSpec)

/-- 'zelligelaw11.MeshLooks', WHERE WHAT IT READS IS OF BULK AT MOST 1048576: true; the input reads as it did. -/
def meshLooksUptoRow : OpenClaim := { program := "ytjdeehffbgpenaagreat", sum := "bd5a30f83222e4ed0aa06e46b2b47adc6d83bfcde62f4128e75f656ec0d762b6", func := "zellige/zelligelaw11.MeshLooks", spec := "meshLooks", inPlace := ["math/bits.Sub64", "math/bits.Add64"], unfollowed := true, recurses := true, plainKeys := false, apart := false, narrowed := true }
def MeshLooksUptoSaid : Prop := meshLooksUptoRow.holds Tryz.pinned (OpenSpec.upto meshLooksSpec)

/-- 'zelligelaw11.MeshAcross', WHERE WHAT IT READS IS OF BULK AT MOST 1048576: true; the input reads as it did. -/
def meshAcrossUptoRow : OpenClaim := { program := "ytjdeehffbgpenaagreat", sum := "bd5a30f83222e4ed0aa06e46b2b47adc6d83bfcde62f4128e75f656ec0d762b6", func := "zellige/zelligelaw11.MeshAcross", spec := "meshAcross", inPlace := ["math/bits.Sub64", "math/bits.Add64"], unfollowed := true, recurses := true, plainKeys := false, apart := false, narrowed := true }
def MeshAcrossUptoSaid : Prop := meshAcrossUptoRow.holds Tryz.pinned (OpenSpec.upto meshAcrossSpec)

end Rows
end Go.Proofs.YtjdeehffbgpenaaGreat
