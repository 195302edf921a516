/-
  DERIVED. GIVEN WITH THE SEED: THE CARDS: each row of YtaekgomplkkocabDoorRows.lean that lists a variable, with what it lists TIED to the program's text (the seventh form; the later family's looks); each row that meets fmt, with fmt's text TOLD by the authors' own Lean function (tested against real Go, not proved from fmt's source: count such statements apart). THE CARD IS WHAT COUNTS. Prove the row's statement (the work); the ties are given (YtaekgomplkkocabDoorTie.lean); close each card by the builder's one call (the guide's Derived/Test/ToyasCard.lean, 'card_holds'). Laid BY PROGRAM, IN A SANDBOX (cutbox-door.mjs). By AI agents, Wed Nov 11 2026. No macro, syntax, notation, axiom, sorry.
-/
import Derived.Test.YtaekgomplkkocabDoorRows
import GoSem.ClaimSeven
namespace Go.Proofs.YtaekgomplkkocabDoor
namespace Rows

/-- THE TIED CARD OF 'zelligelaw05.RatFields'. -/
def ratFieldsCard : Claim7 := { stood := { row := ratFieldsRow, standIns := [], harness := (true, "ee34f1c4ad09440f8edcf5944d1595dab5d327b7f43f53b8d899972a61f2aa1f"), looks := false }, kinds := [], alts := [], laidByText := true, laidKinds := [.data, .pinned], laidTests := true, laidLooks := .later }
def RatFieldsCardSaid : Prop := Claim7.holds Tryd.pinned (.plain (OpenSpec.ofChange ratFieldsSpec)) ratFieldsCard

/-- THE SECOND FORM's CARD OF 'zelligelaw05.RatFields'. -/
def ratFieldsUptoCard : Claim7 := { stood := { row := ratFieldsUptoRow, standIns := [], harness := (true, "ee34f1c4ad09440f8edcf5944d1595dab5d327b7f43f53b8d899972a61f2aa1f"), looks := false }, kinds := [], alts := [], laidByText := true, laidKinds := [.data, .pinned], laidTests := true, laidLooks := .later }
def RatFieldsUptoCardSaid : Prop := Claim7.holds Tryd.pinned (.plain (OpenSpec.upto ratFieldsSpec)) ratFieldsUptoCard
end Rows
end Go.Proofs.YtaekgomplkkocabDoor
