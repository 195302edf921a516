/-
  DERIVED. GIVEN WITH THE SEED: THE CARDS: each row of YtaekgomplkkocaaGreatDoorRows.lean that lists a variable, with what it lists TIED to the program's text (the seventh form; the later family's looks); each row that meets fmt, with fmt's text TOLD by the authors' own Lean function (tested against real Go, not proved from fmt's source: count such statements apart). THE CARD IS WHAT COUNTS. Prove the row's statement (the work); the ties are given (YtaekgomplkkocaaGreatDoorTie.lean); close each card by the builder's one call (the guide's Derived/Test/ToyasCard.lean, 'card_holds'). Laid BY PROGRAM, IN A SANDBOX (cutbox-door.mjs). By AI agents, Wed Nov 11 2026. No macro, syntax, notation, axiom, sorry.
-/
import Derived.Test.YtaekgomplkkocaaGreatDoorRows
import GoSem.ClaimSeven
namespace Go.Proofs.YtaekgomplkkocaaGreatDoor
namespace Rows

/-- THE TIED CARD OF 'zelligelaw05.RatAdds'. -/
def ratAddsCard : Claim7 := { stood := { row := ratAddsRow, standIns := [], harness := (true, "26bac7eef357ee7de48e20f6eff8e34610766603ff7db4bbdbd511f88f30d088"), looks := false }, kinds := [], alts := [], laidByText := true, laidKinds := [.data, .pinned], laidTests := true, laidLooks := .later }
def RatAddsCardSaid : Prop := Claim7.holds Tryz.pinned (.plain (OpenSpec.ofChange ratAddsSpec)) ratAddsCard

/-- THE TIED CARD OF 'zelligelaw05.RatMuls'. -/
def ratMulsCard : Claim7 := { stood := { row := ratMulsRow, standIns := [], harness := (true, "26bac7eef357ee7de48e20f6eff8e34610766603ff7db4bbdbd511f88f30d088"), looks := false }, kinds := [], alts := [], laidByText := true, laidKinds := [.data, .pinned], laidTests := true, laidLooks := .later }
def RatMulsCardSaid : Prop := Claim7.holds Tryz.pinned (.plain (OpenSpec.ofChange ratMulsSpec)) ratMulsCard

/-- THE TIED CARD OF 'zelligelaw05.RatRounds'. -/
def ratRoundsCard : Claim7 := { stood := { row := ratRoundsRow, standIns := [], harness := (true, "26bac7eef357ee7de48e20f6eff8e34610766603ff7db4bbdbd511f88f30d088"), looks := false }, kinds := [], alts := [], laidByText := true, laidKinds := [.data, .pinned], laidTests := true, laidLooks := .later }
def RatRoundsCardSaid : Prop := Claim7.holds Tryz.pinned (.plain (OpenSpec.ofChange ratRoundsSpec)) ratRoundsCard

/-- THE TIED CARD OF 'zelligelaw05.RatShows'. -/
def ratShowsCard : Claim7 := { stood := { row := ratShowsRow, standIns := [], harness := (true, "26bac7eef357ee7de48e20f6eff8e34610766603ff7db4bbdbd511f88f30d088"), looks := false }, kinds := [], alts := [], laidByText := true, laidKinds := [.data, .pinned], laidTests := true, laidLooks := .later }
def RatShowsCardSaid : Prop := Claim7.holds Tryz.pinned (.plain (OpenSpec.ofChange ratShowsSpec)) ratShowsCard

/-- THE SECOND FORM's CARD OF 'zelligelaw05.RatAdds'. -/
def ratAddsUptoCard : Claim7 := { stood := { row := ratAddsUptoRow, standIns := [], harness := (true, "26bac7eef357ee7de48e20f6eff8e34610766603ff7db4bbdbd511f88f30d088"), looks := false }, kinds := [], alts := [], laidByText := true, laidKinds := [.data, .pinned], laidTests := true, laidLooks := .later }
def RatAddsUptoCardSaid : Prop := Claim7.holds Tryz.pinned (.plain (OpenSpec.upto ratAddsSpec)) ratAddsUptoCard

/-- THE SECOND FORM's CARD OF 'zelligelaw05.RatMuls'. -/
def ratMulsUptoCard : Claim7 := { stood := { row := ratMulsUptoRow, standIns := [], harness := (true, "26bac7eef357ee7de48e20f6eff8e34610766603ff7db4bbdbd511f88f30d088"), looks := false }, kinds := [], alts := [], laidByText := true, laidKinds := [.data, .pinned], laidTests := true, laidLooks := .later }
def RatMulsUptoCardSaid : Prop := Claim7.holds Tryz.pinned (.plain (OpenSpec.upto ratMulsSpec)) ratMulsUptoCard

/-- THE SECOND FORM's CARD OF 'zelligelaw05.RatRounds'. -/
def ratRoundsUptoCard : Claim7 := { stood := { row := ratRoundsUptoRow, standIns := [], harness := (true, "26bac7eef357ee7de48e20f6eff8e34610766603ff7db4bbdbd511f88f30d088"), looks := false }, kinds := [], alts := [], laidByText := true, laidKinds := [.data, .pinned], laidTests := true, laidLooks := .later }
def RatRoundsUptoCardSaid : Prop := Claim7.holds Tryz.pinned (.plain (OpenSpec.upto ratRoundsSpec)) ratRoundsUptoCard

/-- THE SECOND FORM's CARD OF 'zelligelaw05.RatShows'. -/
def ratShowsUptoCard : Claim7 := { stood := { row := ratShowsUptoRow, standIns := [], harness := (true, "26bac7eef357ee7de48e20f6eff8e34610766603ff7db4bbdbd511f88f30d088"), looks := false }, kinds := [], alts := [], laidByText := true, laidKinds := [.data, .pinned], laidTests := true, laidLooks := .later }
def RatShowsUptoCardSaid : Prop := Claim7.holds Tryz.pinned (.plain (OpenSpec.upto ratShowsSpec)) ratShowsUptoCard
end Rows
end Go.Proofs.YtaekgomplkkocaaGreatDoor
