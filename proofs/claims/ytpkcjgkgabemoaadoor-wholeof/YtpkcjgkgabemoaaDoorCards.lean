/-
  DERIVED. GIVEN WITH THE SEED: THE CARDS: each row of YtpkcjgkgabemoaaDoorRows.lean that lists a variable, with what it lists TIED to the program's text (the seventh form; the later family's looks); each row that meets fmt, with fmt's text TOLD by the authors' own Lean function (tested against real Go, not proved from fmt's source: count such statements apart). THE CARD IS WHAT COUNTS. Prove the row's statement (the work); the ties are given (YtpkcjgkgabemoaaDoorTie.lean); close each card by the builder's one call (the guide's Derived/Test/ToyasCard.lean, 'card_holds'). Laid BY PROGRAM, IN A SANDBOX (cutbox-door.mjs). By AI agents, Wed Nov 11 2026. No macro, syntax, notation, axiom, sorry.
-/
import Derived.Test.YtpkcjgkgabemoaaDoorRows
import GoSem.ClaimSeven
namespace Go.Proofs.YtpkcjgkgabemoaaDoor
namespace Rows

/-- THE TIED CARD OF 'zelligelaw04.WholeAdds'. -/
def wholeAddsCard : Claim7 := { stood := { row := wholeAddsRow, standIns := [], harness := (true, "d384aad35b93f27f7139e309b5f41f43df4b57e29f69d91ea1ae020f896913a4"), looks := false }, kinds := [], alts := [], laidByText := true, laidKinds := [.data, .pinned], laidTests := true, laidLooks := .later }
def WholeAddsCardSaid : Prop := Claim7.holds Tryd.pinned (.plain (OpenSpec.ofChange wholeAddsSpec)) wholeAddsCard

/-- THE TIED CARD OF 'zelligelaw04.WholeFloors'. -/
def wholeFloorsCard : Claim7 := { stood := { row := wholeFloorsRow, standIns := [], harness := (true, "d384aad35b93f27f7139e309b5f41f43df4b57e29f69d91ea1ae020f896913a4"), looks := false }, kinds := [], alts := [], laidByText := true, laidKinds := [.data, .pinned], laidTests := true, laidLooks := .later }
def WholeFloorsCardSaid : Prop := Claim7.holds Tryd.pinned (.plain (OpenSpec.ofChange wholeFloorsSpec)) wholeFloorsCard

/-- THE TIED CARD OF 'zelligelaw04.WholeOrders'. -/
def wholeOrdersCard : Claim7 := { stood := { row := wholeOrdersRow, standIns := [], harness := (true, "d384aad35b93f27f7139e309b5f41f43df4b57e29f69d91ea1ae020f896913a4"), looks := false }, kinds := [], alts := [], laidByText := true, laidKinds := [.data, .pinned], laidTests := true, laidLooks := .later }
def WholeOrdersCardSaid : Prop := Claim7.holds Tryd.pinned (.plain (OpenSpec.ofChange wholeOrdersSpec)) wholeOrdersCard

/-- THE TIED CARD OF 'zelligelaw04.WholeOf'. -/
def wholeOfCard : Claim7 := { stood := { row := wholeOfRow, standIns := [], harness := (true, "d384aad35b93f27f7139e309b5f41f43df4b57e29f69d91ea1ae020f896913a4"), looks := false }, kinds := [], alts := [], laidByText := true, laidKinds := [.data, .pinned], laidTests := true, laidLooks := .later }
def WholeOfCardSaid : Prop := Claim7.holds Tryd.pinned (.plain (OpenSpec.ofChange wholeOfSpec)) wholeOfCard

/-- THE TIED CARD OF 'zelligelaw04.WholeShows'. -/
def wholeShowsCard : Claim7 := { stood := { row := wholeShowsRow, standIns := [], harness := (true, "d384aad35b93f27f7139e309b5f41f43df4b57e29f69d91ea1ae020f896913a4"), looks := false }, kinds := [], alts := [], laidByText := true, laidKinds := [.data, .pinned], laidTests := true, laidLooks := .later }
def WholeShowsCardSaid : Prop := Claim7.holds Tryd.pinned (.plain (OpenSpec.ofChange wholeShowsSpec)) wholeShowsCard

/-- THE TIED CARD OF 'zelligelaw04.WholeParses'. -/
def wholeParsesCard : Claim7 := { stood := { row := wholeParsesRow, standIns := [], harness := (true, "d384aad35b93f27f7139e309b5f41f43df4b57e29f69d91ea1ae020f896913a4"), looks := false }, kinds := [], alts := [], laidByText := true, laidKinds := [.data, .pinned], laidTests := true, laidLooks := .later }
def WholeParsesCardSaid : Prop := Claim7.holds Tryd.pinned (.plain (OpenSpec.ofChange wholeParsesSpec)) wholeParsesCard

/-- THE SECOND FORM's CARD OF 'zelligelaw04.WholeAdds'. -/
def wholeAddsUptoCard : Claim7 := { stood := { row := wholeAddsUptoRow, standIns := [], harness := (true, "d384aad35b93f27f7139e309b5f41f43df4b57e29f69d91ea1ae020f896913a4"), looks := false }, kinds := [], alts := [], laidByText := true, laidKinds := [.data, .pinned], laidTests := true, laidLooks := .later }
def WholeAddsUptoCardSaid : Prop := Claim7.holds Tryd.pinned (.plain (OpenSpec.upto wholeAddsSpec)) wholeAddsUptoCard

/-- THE SECOND FORM's CARD OF 'zelligelaw04.WholeFloors'. -/
def wholeFloorsUptoCard : Claim7 := { stood := { row := wholeFloorsUptoRow, standIns := [], harness := (true, "d384aad35b93f27f7139e309b5f41f43df4b57e29f69d91ea1ae020f896913a4"), looks := false }, kinds := [], alts := [], laidByText := true, laidKinds := [.data, .pinned], laidTests := true, laidLooks := .later }
def WholeFloorsUptoCardSaid : Prop := Claim7.holds Tryd.pinned (.plain (OpenSpec.upto wholeFloorsSpec)) wholeFloorsUptoCard

/-- THE SECOND FORM's CARD OF 'zelligelaw04.WholeOrders'. -/
def wholeOrdersUptoCard : Claim7 := { stood := { row := wholeOrdersUptoRow, standIns := [], harness := (true, "d384aad35b93f27f7139e309b5f41f43df4b57e29f69d91ea1ae020f896913a4"), looks := false }, kinds := [], alts := [], laidByText := true, laidKinds := [.data, .pinned], laidTests := true, laidLooks := .later }
def WholeOrdersUptoCardSaid : Prop := Claim7.holds Tryd.pinned (.plain (OpenSpec.upto wholeOrdersSpec)) wholeOrdersUptoCard

/-- THE SECOND FORM's CARD OF 'zelligelaw04.WholeOf'. -/
def wholeOfUptoCard : Claim7 := { stood := { row := wholeOfUptoRow, standIns := [], harness := (true, "d384aad35b93f27f7139e309b5f41f43df4b57e29f69d91ea1ae020f896913a4"), looks := false }, kinds := [], alts := [], laidByText := true, laidKinds := [.data, .pinned], laidTests := true, laidLooks := .later }
def WholeOfUptoCardSaid : Prop := Claim7.holds Tryd.pinned (.plain (OpenSpec.upto wholeOfSpec)) wholeOfUptoCard

/-- THE SECOND FORM's CARD OF 'zelligelaw04.WholeShows'. -/
def wholeShowsUptoCard : Claim7 := { stood := { row := wholeShowsUptoRow, standIns := [], harness := (true, "d384aad35b93f27f7139e309b5f41f43df4b57e29f69d91ea1ae020f896913a4"), looks := false }, kinds := [], alts := [], laidByText := true, laidKinds := [.data, .pinned], laidTests := true, laidLooks := .later }
def WholeShowsUptoCardSaid : Prop := Claim7.holds Tryd.pinned (.plain (OpenSpec.upto wholeShowsSpec)) wholeShowsUptoCard

/-- THE SECOND FORM's CARD OF 'zelligelaw04.WholeParses'. -/
def wholeParsesUptoCard : Claim7 := { stood := { row := wholeParsesUptoRow, standIns := [], harness := (true, "d384aad35b93f27f7139e309b5f41f43df4b57e29f69d91ea1ae020f896913a4"), looks := false }, kinds := [], alts := [], laidByText := true, laidKinds := [.data, .pinned], laidTests := true, laidLooks := .later }
def WholeParsesUptoCardSaid : Prop := Claim7.holds Tryd.pinned (.plain (OpenSpec.upto wholeParsesSpec)) wholeParsesUptoCard
end Rows
end Go.Proofs.YtpkcjgkgabemoaaDoor
