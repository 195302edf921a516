/-
  DERIVED. GIVEN WITH THE SEED: THE CARDS: each row of YtpkcjgkgabemoabDoorRows.lean that lists a variable, with what it lists TIED to the program's text (the seventh form; the later family's looks); each row that meets fmt, with fmt's text TOLD by the authors' own Lean function (tested against real Go, not proved from fmt's source: count such statements apart). THE CARD IS WHAT COUNTS. Prove the row's statement (the work); the ties are given (YtpkcjgkgabemoabDoorTie.lean); close each card by the builder's one call (the guide's Derived/Test/ToyasCard.lean, 'card_holds'). Laid BY PROGRAM, IN A SANDBOX (cutbox-door.mjs). By AI agents, Wed Nov 11 2026. No macro, syntax, notation, axiom, sorry.
-/
import Derived.Test.YtpkcjgkgabemoabDoorRows
import GoSem.ClaimSeven
namespace Go.Proofs.YtpkcjgkgabemoabDoor
namespace Rows

/-- THE TIED CARD OF 'zelligelaw04.WholeRings'. -/
def wholeRingsCard : Claim7 := { stood := { row := wholeRingsRow, standIns := [], harness := (true, "4f273a5c108393b4eab1ea5f582c6e8b94278ba31bbf1a83c2cb8d486d435d08"), looks := false }, kinds := [], alts := [], laidByText := true, laidKinds := [.data, .pinned], laidTests := true, laidLooks := .later }
def WholeRingsCardSaid : Prop := Claim7.holds Tryd.pinned (.plain (OpenSpec.ofChange wholeRingsSpec)) wholeRingsCard

/-- THE SECOND FORM's CARD OF 'zelligelaw04.WholeRings'. -/
def wholeRingsUptoCard : Claim7 := { stood := { row := wholeRingsUptoRow, standIns := [], harness := (true, "4f273a5c108393b4eab1ea5f582c6e8b94278ba31bbf1a83c2cb8d486d435d08"), looks := false }, kinds := [], alts := [], laidByText := true, laidKinds := [.data, .pinned], laidTests := true, laidLooks := .later }
def WholeRingsUptoCardSaid : Prop := Claim7.holds Tryd.pinned (.plain (OpenSpec.upto wholeRingsSpec)) wholeRingsUptoCard
end Rows
end Go.Proofs.YtpkcjgkgabemoabDoor
