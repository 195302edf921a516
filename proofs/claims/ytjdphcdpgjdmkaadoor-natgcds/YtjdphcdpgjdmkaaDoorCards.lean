/-
  DERIVED. GIVEN WITH THE SEED: THE CARDS: each row of YtjdphcdpgjdmkaaDoorRows.lean that lists a variable, with what it lists TIED to the program's text (the seventh form; the later family's looks); each row that meets fmt, with fmt's text TOLD by the authors' own Lean function (tested against real Go, not proved from fmt's source: count such statements apart). THE CARD IS WHAT COUNTS. Prove the row's statement (the work); the ties are given (YtjdphcdpgjdmkaaDoorTie.lean); close each card by the builder's one call (the guide's Derived/Test/ToyasCard.lean, 'card_holds'). Laid BY PROGRAM, IN A SANDBOX (cutbox-door.mjs). By AI agents, Wed Nov 11 2026. No macro, syntax, notation, axiom, sorry.
-/
import Derived.Test.YtjdphcdpgjdmkaaDoorRows
import GoSem.ClaimSeven
namespace Go.Proofs.YtjdphcdpgjdmkaaDoor
namespace Rows

/-- THE TIED CARD OF 'zelligelaw03.NatGcds'. -/
def natGcdsCard : Claim7 := { stood := { row := natGcdsRow, standIns := [], harness := (true, "b0e95ad8139fdc0847b7a22562f318b862ddd9b4695d16ea958cf2ff7bef29f7"), looks := false }, kinds := [], alts := [], laidByText := true, laidKinds := [.data, .pinned], laidTests := true, laidLooks := .later }
def NatGcdsCardSaid : Prop := Claim7.holds Tryd.pinned (.plain (OpenSpec.ofChange natGcdsSpec)) natGcdsCard

/-- THE TIED CARD OF 'zelligelaw03.NatCoprime'. -/
def natCoprimeCard : Claim7 := { stood := { row := natCoprimeRow, standIns := [], harness := (true, "b0e95ad8139fdc0847b7a22562f318b862ddd9b4695d16ea958cf2ff7bef29f7"), looks := false }, kinds := [], alts := [], laidByText := true, laidKinds := [.data, .pinned], laidTests := true, laidLooks := .later }
def NatCoprimeCardSaid : Prop := Claim7.holds Tryd.pinned (.plain (OpenSpec.ofChange natCoprimeSpec)) natCoprimeCard

/-- THE SECOND FORM's CARD OF 'zelligelaw03.NatGcds'. -/
def natGcdsUptoCard : Claim7 := { stood := { row := natGcdsUptoRow, standIns := [], harness := (true, "b0e95ad8139fdc0847b7a22562f318b862ddd9b4695d16ea958cf2ff7bef29f7"), looks := false }, kinds := [], alts := [], laidByText := true, laidKinds := [.data, .pinned], laidTests := true, laidLooks := .later }
def NatGcdsUptoCardSaid : Prop := Claim7.holds Tryd.pinned (.plain (OpenSpec.upto natGcdsSpec)) natGcdsUptoCard

/-- THE SECOND FORM's CARD OF 'zelligelaw03.NatCoprime'. -/
def natCoprimeUptoCard : Claim7 := { stood := { row := natCoprimeUptoRow, standIns := [], harness := (true, "b0e95ad8139fdc0847b7a22562f318b862ddd9b4695d16ea958cf2ff7bef29f7"), looks := false }, kinds := [], alts := [], laidByText := true, laidKinds := [.data, .pinned], laidTests := true, laidLooks := .later }
def NatCoprimeUptoCardSaid : Prop := Claim7.holds Tryd.pinned (.plain (OpenSpec.upto natCoprimeSpec)) natCoprimeUptoCard
end Rows
end Go.Proofs.YtjdphcdpgjdmkaaDoor
