/-
  DERIVED. GIVEN WITH THE SEED: THE CARDS: each row of YteoepelmapjhcabDoorRows.lean that lists a variable, with what it lists TIED to the program's text (the seventh form; the later family's looks); each row that meets fmt, with fmt's text TOLD by the authors' own Lean function (tested against real Go, not proved from fmt's source: count such statements apart). THE CARD IS WHAT COUNTS. Prove the row's statement (the work); the ties are given (YteoepelmapjhcabDoorTie.lean); close each card by the builder's one call (the guide's Derived/Test/ToyasCard.lean, 'card_holds'). Laid BY PROGRAM, IN A SANDBOX (cutbox-door.mjs). By AI agents, Wed Nov 11 2026. No macro, syntax, notation, axiom, sorry.
-/
import Derived.Test.YteoepelmapjhcabDoorRows
import GoSem.ClaimSeven
namespace Go.Proofs.YteoepelmapjhcabDoor
namespace Rows

/-- THE TIED CARD OF 'zelligelaw03.NatBack'. -/
def natBackCard : Claim7 := { stood := { row := natBackRow, standIns := [], harness := (true, "0ddbd6d5010ff4e4fc2d711e4553d1dd611216bcc909cb9df7db06538ec7edcb"), looks := false }, kinds := [], alts := [], laidByText := true, laidKinds := [.data, .pinned], laidTests := true, laidLooks := .later }
def NatBackCardSaid : Prop := Claim7.holds Tryd.pinned (.plain (OpenSpec.ofChange natBackSpec)) natBackCard

/-- THE TIED CARD OF 'zelligelaw03.NatCoprime'. -/
def natCoprimeCard : Claim7 := { stood := { row := natCoprimeRow, standIns := [], harness := (true, "0ddbd6d5010ff4e4fc2d711e4553d1dd611216bcc909cb9df7db06538ec7edcb"), looks := false }, kinds := [], alts := [], laidByText := true, laidKinds := [.data, .pinned], laidTests := true, laidLooks := .later }
def NatCoprimeCardSaid : Prop := Claim7.holds Tryd.pinned (.plain (OpenSpec.ofChange natCoprimeSpec)) natCoprimeCard

/-- THE SECOND FORM's CARD OF 'zelligelaw03.NatBack'. -/
def natBackUptoCard : Claim7 := { stood := { row := natBackUptoRow, standIns := [], harness := (true, "0ddbd6d5010ff4e4fc2d711e4553d1dd611216bcc909cb9df7db06538ec7edcb"), looks := false }, kinds := [], alts := [], laidByText := true, laidKinds := [.data, .pinned], laidTests := true, laidLooks := .later }
def NatBackUptoCardSaid : Prop := Claim7.holds Tryd.pinned (.plain (OpenSpec.upto natBackSpec)) natBackUptoCard

/-- THE SECOND FORM's CARD OF 'zelligelaw03.NatCoprime'. -/
def natCoprimeUptoCard : Claim7 := { stood := { row := natCoprimeUptoRow, standIns := [], harness := (true, "0ddbd6d5010ff4e4fc2d711e4553d1dd611216bcc909cb9df7db06538ec7edcb"), looks := false }, kinds := [], alts := [], laidByText := true, laidKinds := [.data, .pinned], laidTests := true, laidLooks := .later }
def NatCoprimeUptoCardSaid : Prop := Claim7.holds Tryd.pinned (.plain (OpenSpec.upto natCoprimeSpec)) natCoprimeUptoCard
end Rows
end Go.Proofs.YteoepelmapjhcabDoor
