/-
  No cell of these rows narrows 'for every input' (looked for: loops, veiled, ifaces, maps, wideKeys, modest, calm, conditions, laid).
  DERIVED. THE GIVEN ROWS OF THIS SEAT. 6 by the template 'for every input the law returns true; each argument reads behind the call as it read before'; 0 by the template 'total and deterministic' (their statements: YtjmhfdimoeaplaaGreatTotals.lean).
  GIVEN WITH THE SEED: the statements are not yours to turn. If you find one false, say at which input.
  Laid BY PROGRAM, IN A SANDBOX (cutbox-rows.mjs): the forced cells as the released guide's own fill.sh prints them over the translation e278aa812a337943… (all of the seat's roots in one cut). By AI agents, Wed Nov 11 2026. No macro, syntax, notation, axiom, sorry.
-/
import Derived.Test.YtjmhfdimoeaplaaGreatChecked
import GoSem.Claim
import GoSem.ClaimJoined
import GoSem.ClaimMapViews
import Derived.JoinedTies
import Derived.KernelRfl
namespace Go.Proofs.YtjmhfdimoeaplaaGreat
/- THE CELL 'sum', in the pinned program and in every row, IS THE sha256 OF THE DUMP (.gsa) THAT YtjmhfdimoeaplaaGreatProg.lean LOADS. Nothing in Lean hashes anything: it is a label: what it is worth is what the hold of that sum in a sandbox is worth. -/
noncomputable def Tryz.pinned : Pinned := { name := "ytjmhfdimoeaplaagreat", sum := "e278aa812a337943574b59711f0c2a3c6f0295ee7ea7113cd106cd3c48bdd0e1", checked := Tryz.checked }
namespace Rows
def none {H : Type} : Left H := { results := [], args := [] }

/-- 'zelligelaw12.StarHits': WHATEVER THE INPUT: true; the input reads as it did. -/
def starHitsSpec : ChangeSpec := { name := "starHits", fn := fun _ => fun
  | [d1, d2, d3] => { results := [.lit (.bool true)], args := [d1, d2, d3] }
  | _ => none }
def starHitsRow : OpenClaim := { program := "ytjmhfdimoeaplaagreat", sum := "e278aa812a337943574b59711f0c2a3c6f0295ee7ea7113cd106cd3c48bdd0e1", func := "zellige/zelligelaw12.StarHits", spec := "starHits", inPlace := ["math/bits.Sub64", "math/bits.Add64"], unfollowed := true, recurses := true, plainKeys := false, apart := false }
def StarHitsSaid : Prop := starHitsRow.holds Tryz.pinned (OpenSpec.ofChange starHitsSpec)

/-- ITS FALSE NEIGHBOUR: 'it returns false'. Refute it at one input. -/
def starHitsWrong : ChangeSpec := { name := "starHits", fn := fun _ => fun
  | [d1, d2, d3] => { results := [.lit (.bool false)], args := [d1, d2, d3] }
  | _ => none }
def StarHitsWrongFalsely : Prop := starHitsRow.holds Tryz.pinned (OpenSpec.ofChange starHitsWrong)

/-- 'zelligelaw12.StarMisses': WHATEVER THE INPUT: true; the input reads as it did. -/
def starMissesSpec : ChangeSpec := { name := "starMisses", fn := fun _ => fun
  | [d1, d2, d3] => { results := [.lit (.bool true)], args := [d1, d2, d3] }
  | _ => none }
def starMissesRow : OpenClaim := { program := "ytjmhfdimoeaplaagreat", sum := "e278aa812a337943574b59711f0c2a3c6f0295ee7ea7113cd106cd3c48bdd0e1", func := "zellige/zelligelaw12.StarMisses", spec := "starMisses", inPlace := ["math/bits.Sub64", "math/bits.Add64"], unfollowed := true, recurses := true, plainKeys := false, apart := false }
def StarMissesSaid : Prop := starMissesRow.holds Tryz.pinned (OpenSpec.ofChange starMissesSpec)

/-- ITS FALSE NEIGHBOUR: 'it returns false'. Refute it at one input. -/
def starMissesWrong : ChangeSpec := { name := "starMisses", fn := fun _ => fun
  | [d1, d2, d3] => { results := [.lit (.bool false)], args := [d1, d2, d3] }
  | _ => none }
def StarMissesWrongFalsely : Prop := starMissesRow.holds Tryz.pinned (OpenSpec.ofChange starMissesWrong)

/-- 'zelligelaw12.StarInserts': WHATEVER THE INPUT: true; the input reads as it did. -/
def starInsertsSpec : ChangeSpec := { name := "starInserts", fn := fun _ => fun
  | [d1, d2, d3] => { results := [.lit (.bool true)], args := [d1, d2, d3] }
  | _ => none }
def starInsertsRow : OpenClaim := { program := "ytjmhfdimoeaplaagreat", sum := "e278aa812a337943574b59711f0c2a3c6f0295ee7ea7113cd106cd3c48bdd0e1", func := "zellige/zelligelaw12.StarInserts", spec := "starInserts", inPlace := ["math/bits.Sub64", "math/bits.Add64"], unfollowed := true, recurses := true, plainKeys := false, apart := false }
def StarInsertsSaid : Prop := starInsertsRow.holds Tryz.pinned (OpenSpec.ofChange starInsertsSpec)

/-- ITS FALSE NEIGHBOUR: 'it returns false'. Refute it at one input. -/
def starInsertsWrong : ChangeSpec := { name := "starInserts", fn := fun _ => fun
  | [d1, d2, d3] => { results := [.lit (.bool false)], args := [d1, d2, d3] }
  | _ => none }
def StarInsertsWrongFalsely : Prop := starInsertsRow.holds Tryz.pinned (OpenSpec.ofChange starInsertsWrong)

/-- 'zelligelaw12.StarTwice': WHATEVER THE INPUT: true; the input reads as it did. -/
def starTwiceSpec : ChangeSpec := { name := "starTwice", fn := fun _ => fun
  | [d1, d2, d3] => { results := [.lit (.bool true)], args := [d1, d2, d3] }
  | _ => none }
def starTwiceRow : OpenClaim := { program := "ytjmhfdimoeaplaagreat", sum := "e278aa812a337943574b59711f0c2a3c6f0295ee7ea7113cd106cd3c48bdd0e1", func := "zellige/zelligelaw12.StarTwice", spec := "starTwice", inPlace := ["math/bits.Sub64", "math/bits.Add64"], unfollowed := true, recurses := true, plainKeys := false, apart := false }
def StarTwiceSaid : Prop := starTwiceRow.holds Tryz.pinned (OpenSpec.ofChange starTwiceSpec)

/-- ITS FALSE NEIGHBOUR: 'it returns false'. Refute it at one input. -/
def starTwiceWrong : ChangeSpec := { name := "starTwice", fn := fun _ => fun
  | [d1, d2, d3] => { results := [.lit (.bool false)], args := [d1, d2, d3] }
  | _ => none }
def StarTwiceWrongFalsely : Prop := starTwiceRow.holds Tryz.pinned (OpenSpec.ofChange starTwiceWrong)

/-- 'zelligelaw13.HoleRings': WHATEVER THE INPUT: true; the input reads as it did. -/
def holeRingsSpec : ChangeSpec := { name := "holeRings", fn := fun _ => fun
  | [d1, d2, d3] => { results := [.lit (.bool true)], args := [d1, d2, d3] }
  | _ => none }
def holeRingsRow : OpenClaim := { program := "ytjmhfdimoeaplaagreat", sum := "e278aa812a337943574b59711f0c2a3c6f0295ee7ea7113cd106cd3c48bdd0e1", func := "zellige/zelligelaw13.HoleRings", spec := "holeRings", inPlace := ["math/bits.Sub64", "math/bits.Add64"], unfollowed := true, recurses := true, plainKeys := false, apart := false }
def HoleRingsSaid : Prop := holeRingsRow.holds Tryz.pinned (OpenSpec.ofChange holeRingsSpec)

/-- ITS FALSE NEIGHBOUR: 'it returns false'. Refute it at one input. -/
def holeRingsWrong : ChangeSpec := { name := "holeRings", fn := fun _ => fun
  | [d1, d2, d3] => { results := [.lit (.bool false)], args := [d1, d2, d3] }
  | _ => none }
def HoleRingsWrongFalsely : Prop := holeRingsRow.holds Tryz.pinned (OpenSpec.ofChange holeRingsWrong)

/-- 'zelligelaw13.HoleAbout': WHATEVER THE INPUT: true; the input reads as it did. -/
def holeAboutSpec : ChangeSpec := { name := "holeAbout", fn := fun _ => fun
  | [d1, d2, d3] => { results := [.lit (.bool true)], args := [d1, d2, d3] }
  | _ => none }
def holeAboutRow : OpenClaim := { program := "ytjmhfdimoeaplaagreat", sum := "e278aa812a337943574b59711f0c2a3c6f0295ee7ea7113cd106cd3c48bdd0e1", func := "zellige/zelligelaw13.HoleAbout", spec := "holeAbout", inPlace := ["math/bits.Sub64", "math/bits.Add64"], unfollowed := true, recurses := true, plainKeys := false, apart := false }
def HoleAboutSaid : Prop := holeAboutRow.holds Tryz.pinned (OpenSpec.ofChange holeAboutSpec)

/-- ITS FALSE NEIGHBOUR: 'it returns false'. Refute it at one input. -/
def holeAboutWrong : ChangeSpec := { name := "holeAbout", fn := fun _ => fun
  | [d1, d2, d3] => { results := [.lit (.bool false)], args := [d1, d2, d3] }
  | _ => none }
def HoleAboutWrongFalsely : Prop := holeAboutRow.holds Tryz.pinned (OpenSpec.ofChange holeAboutWrong)

/- THE SECOND FORM. 'bulk': how many values and letters a reading holds, each counted each time it is reached (what is shared counts as often as it is met; a slice's spare places count too). A statement '..UptoSaid' is the law's where the arguments, and the package variables that the reading takes, are together of bulk at most 1048576: NARROWER than '..Said'. Prove '..Said' where nothing that the law and all that it calls make is longer than what came in: it says more and counts as full. Else prove '..UptoSaid'. A law counts once. -/
mutual
def uptoBulk {H : Type} : DataW H → Nat
  | .lit (.string bytes) => bytes.length + 1
  | .lit _ => 1
  | .nil => 1
  | .ptr d => uptoBulk d + 1
  | .slice elems spare => uptoBulkAll elems + uptoBulkAll spare + 1
  | .agg parts => uptoBulkAll parts + 1
  | .iface _ d => uptoBulk d + 1
  | .map entries => uptoBulkEntries entries + 1
  | .held _ => 1
def uptoBulkAll {H : Type} : List (DataW H) → Nat
  | [] => 0
  | d :: r => uptoBulk d + uptoBulkAll r
def uptoBulkEntries {H : Type} : List (Lit × DataW H) → Nat
  | [] => 0
  | x :: r => uptoBulkEntry x + uptoBulkEntries r
def uptoBulkEntry {H : Type} : Lit × DataW H → Nat
  | (.string bytes, d) => bytes.length + uptoBulk d + 1
  | (_, d) => uptoBulk d + 1
 end
def uptoSmall : (H : Type) → List (DataW H) → Bool := fun _ ds => decide (uptoBulkAll ds ≤ 1048576)
def OpenSpec.upto (s : _root_.Go.ChangeSpec) : _root_.Go.OpenSpec := { _root_.Go.OpenSpec.ofChange s with cond := some uptoSmall }

/-- 'zelligelaw12.StarHits', WHERE WHAT IT READS IS OF BULK AT MOST 1048576: true; the input reads as it did. -/
def starHitsUptoRow : OpenClaim := { program := "ytjmhfdimoeaplaagreat", sum := "e278aa812a337943574b59711f0c2a3c6f0295ee7ea7113cd106cd3c48bdd0e1", func := "zellige/zelligelaw12.StarHits", spec := "starHits", inPlace := ["math/bits.Sub64", "math/bits.Add64"], unfollowed := true, recurses := true, plainKeys := false, apart := false, narrowed := true }
def StarHitsUptoSaid : Prop := starHitsUptoRow.holds Tryz.pinned (OpenSpec.upto starHitsSpec)

/-- 'zelligelaw12.StarMisses', WHERE WHAT IT READS IS OF BULK AT MOST 1048576: true; the input reads as it did. -/
def starMissesUptoRow : OpenClaim := { program := "ytjmhfdimoeaplaagreat", sum := "e278aa812a337943574b59711f0c2a3c6f0295ee7ea7113cd106cd3c48bdd0e1", func := "zellige/zelligelaw12.StarMisses", spec := "starMisses", inPlace := ["math/bits.Sub64", "math/bits.Add64"], unfollowed := true, recurses := true, plainKeys := false, apart := false, narrowed := true }
def StarMissesUptoSaid : Prop := starMissesUptoRow.holds Tryz.pinned (OpenSpec.upto starMissesSpec)

/-- 'zelligelaw12.StarInserts', WHERE WHAT IT READS IS OF BULK AT MOST 1048576: true; the input reads as it did. -/
def starInsertsUptoRow : OpenClaim := { program := "ytjmhfdimoeaplaagreat", sum := "e278aa812a337943574b59711f0c2a3c6f0295ee7ea7113cd106cd3c48bdd0e1", func := "zellige/zelligelaw12.StarInserts", spec := "starInserts", inPlace := ["math/bits.Sub64", "math/bits.Add64"], unfollowed := true, recurses := true, plainKeys := false, apart := false, narrowed := true }
def StarInsertsUptoSaid : Prop := starInsertsUptoRow.holds Tryz.pinned (OpenSpec.upto starInsertsSpec)

/-- 'zelligelaw12.StarTwice', WHERE WHAT IT READS IS OF BULK AT MOST 1048576: true; the input reads as it did. -/
def starTwiceUptoRow : OpenClaim := { program := "ytjmhfdimoeaplaagreat", sum := "e278aa812a337943574b59711f0c2a3c6f0295ee7ea7113cd106cd3c48bdd0e1", func := "zellige/zelligelaw12.StarTwice", spec := "starTwice", inPlace := ["math/bits.Sub64", "math/bits.Add64"], unfollowed := true, recurses := true, plainKeys := false, apart := false, narrowed := true }
def StarTwiceUptoSaid : Prop := starTwiceUptoRow.holds Tryz.pinned (OpenSpec.upto starTwiceSpec)

/-- 'zelligelaw13.HoleRings', WHERE WHAT IT READS IS OF BULK AT MOST 1048576: true; the input reads as it did. -/
def holeRingsUptoRow : OpenClaim := { program := "ytjmhfdimoeaplaagreat", sum := "e278aa812a337943574b59711f0c2a3c6f0295ee7ea7113cd106cd3c48bdd0e1", func := "zellige/zelligelaw13.HoleRings", spec := "holeRings", inPlace := ["math/bits.Sub64", "math/bits.Add64"], unfollowed := true, recurses := true, plainKeys := false, apart := false, narrowed := true }
def HoleRingsUptoSaid : Prop := holeRingsUptoRow.holds Tryz.pinned (OpenSpec.upto holeRingsSpec)

/-- 'zelligelaw13.HoleAbout', WHERE WHAT IT READS IS OF BULK AT MOST 1048576: true; the input reads as it did. -/
def holeAboutUptoRow : OpenClaim := { program := "ytjmhfdimoeaplaagreat", sum := "e278aa812a337943574b59711f0c2a3c6f0295ee7ea7113cd106cd3c48bdd0e1", func := "zellige/zelligelaw13.HoleAbout", spec := "holeAbout", inPlace := ["math/bits.Sub64", "math/bits.Add64"], unfollowed := true, recurses := true, plainKeys := false, apart := false, narrowed := true }
def HoleAboutUptoSaid : Prop := holeAboutUptoRow.holds Tryz.pinned (OpenSpec.upto holeAboutSpec)

end Rows
end Go.Proofs.YtjmhfdimoeaplaaGreat
