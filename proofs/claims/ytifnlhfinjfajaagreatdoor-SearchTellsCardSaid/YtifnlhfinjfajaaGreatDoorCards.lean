/-
  DERIVED. GIVEN WITH THE SEED: THE CARDS: each row of YtifnlhfinjfajaaGreatDoorRows.lean that lists a variable, with what it lists TIED to the program's text (the seventh form; the later family's looks); each row that meets fmt, with fmt's text TOLD by the authors' own Lean function (tested against real Go, not proved from fmt's source: count such statements apart). THE CARD IS WHAT COUNTS. Prove the row's statement (the work); the ties are given (YtifnlhfinjfajaaGreatDoorTie.lean); close each card by the builder's one call (the guide's Derived/Test/ToyasCard.lean, 'card_holds'). Laid BY PROGRAM, IN A SANDBOX (cutbox-door.mjs). By AI agents, Wed Nov 11 2026. No macro, syntax, notation, axiom, sorry.
-/
import Derived.Test.YtifnlhfinjfajaaGreatDoorRows
import GoSem.ClaimSeven
namespace Go.Proofs.YtifnlhfinjfajaaGreatDoor
namespace Rows

/-- THE TIED CARD OF 'lockbarlaw14.SearchTells'. -/
def searchTellsCard : Claim7 := { stood := { row := searchTellsRow, standIns := [], harness := (true, "9faf0412ac5d86ebdcf11d209b63c90bf89f096bdec41b4b45be2013cda252f2"), looks := false }, kinds := [], alts := [], laidByText := true, laidKinds := [.data], laidTests := true, laidLooks := .later }
def SearchTellsCardSaid : Prop := Claim7.holds Tryz.pinned (.plain (OpenSpec.ofChange searchTellsSpec)) searchTellsCard

/-- THE TIED CARD OF 'lockbarlaw14.SearchWhole'. -/
def searchWholeCard : Claim7 := { stood := { row := searchWholeRow, standIns := [], harness := (true, "9faf0412ac5d86ebdcf11d209b63c90bf89f096bdec41b4b45be2013cda252f2"), looks := false }, kinds := [], alts := [], laidByText := true, laidKinds := [.data], laidTests := true, laidLooks := .later }
def SearchWholeCardSaid : Prop := Claim7.holds Tryz.pinned (.plain (OpenSpec.ofChange searchWholeSpec)) searchWholeCard

/-- THE TIED CARD OF 'lockbarlaw14.SearchTurns'. -/
def searchTurnsCard : Claim7 := { stood := { row := searchTurnsRow, standIns := [], harness := (true, "9faf0412ac5d86ebdcf11d209b63c90bf89f096bdec41b4b45be2013cda252f2"), looks := false }, kinds := [], alts := [], laidByText := true, laidKinds := [.data], laidTests := true, laidLooks := .later }
def SearchTurnsCardSaid : Prop := Claim7.holds Tryz.pinned (.plain (OpenSpec.ofChange searchTurnsSpec)) searchTurnsCard

/-- THE TIED CARD OF 'lockbarlaw14.SearchVias'. -/
def searchViasCard : Claim7 := { stood := { row := searchViasRow, standIns := [], harness := (true, "9faf0412ac5d86ebdcf11d209b63c90bf89f096bdec41b4b45be2013cda252f2"), looks := false }, kinds := [], alts := [], laidByText := true, laidKinds := [.data], laidTests := true, laidLooks := .later }
def SearchViasCardSaid : Prop := Claim7.holds Tryz.pinned (.plain (OpenSpec.ofChange searchViasSpec)) searchViasCard

/-- THE TIED CARD OF 'lockbarlaw14.SearchExits'. -/
def searchExitsCard : Claim7 := { stood := { row := searchExitsRow, standIns := [], harness := (true, "9faf0412ac5d86ebdcf11d209b63c90bf89f096bdec41b4b45be2013cda252f2"), looks := false }, kinds := [], alts := [], laidByText := true, laidKinds := [.data], laidTests := true, laidLooks := .later }
def SearchExitsCardSaid : Prop := Claim7.holds Tryz.pinned (.plain (OpenSpec.ofChange searchExitsSpec)) searchExitsCard

/-- THE SECOND FORM's CARD OF 'lockbarlaw14.SearchTells'. -/
def searchTellsUptoCard : Claim7 := { stood := { row := searchTellsUptoRow, standIns := [], harness := (true, "9faf0412ac5d86ebdcf11d209b63c90bf89f096bdec41b4b45be2013cda252f2"), looks := false }, kinds := [], alts := [], laidByText := true, laidKinds := [.data], laidTests := true, laidLooks := .later }
def SearchTellsUptoCardSaid : Prop := Claim7.holds Tryz.pinned (.plain (OpenSpec.upto searchTellsSpec)) searchTellsUptoCard

/-- THE SECOND FORM's CARD OF 'lockbarlaw14.SearchWhole'. -/
def searchWholeUptoCard : Claim7 := { stood := { row := searchWholeUptoRow, standIns := [], harness := (true, "9faf0412ac5d86ebdcf11d209b63c90bf89f096bdec41b4b45be2013cda252f2"), looks := false }, kinds := [], alts := [], laidByText := true, laidKinds := [.data], laidTests := true, laidLooks := .later }
def SearchWholeUptoCardSaid : Prop := Claim7.holds Tryz.pinned (.plain (OpenSpec.upto searchWholeSpec)) searchWholeUptoCard

/-- THE SECOND FORM's CARD OF 'lockbarlaw14.SearchTurns'. -/
def searchTurnsUptoCard : Claim7 := { stood := { row := searchTurnsUptoRow, standIns := [], harness := (true, "9faf0412ac5d86ebdcf11d209b63c90bf89f096bdec41b4b45be2013cda252f2"), looks := false }, kinds := [], alts := [], laidByText := true, laidKinds := [.data], laidTests := true, laidLooks := .later }
def SearchTurnsUptoCardSaid : Prop := Claim7.holds Tryz.pinned (.plain (OpenSpec.upto searchTurnsSpec)) searchTurnsUptoCard

/-- THE SECOND FORM's CARD OF 'lockbarlaw14.SearchVias'. -/
def searchViasUptoCard : Claim7 := { stood := { row := searchViasUptoRow, standIns := [], harness := (true, "9faf0412ac5d86ebdcf11d209b63c90bf89f096bdec41b4b45be2013cda252f2"), looks := false }, kinds := [], alts := [], laidByText := true, laidKinds := [.data], laidTests := true, laidLooks := .later }
def SearchViasUptoCardSaid : Prop := Claim7.holds Tryz.pinned (.plain (OpenSpec.upto searchViasSpec)) searchViasUptoCard

/-- THE SECOND FORM's CARD OF 'lockbarlaw14.SearchExits'. -/
def searchExitsUptoCard : Claim7 := { stood := { row := searchExitsUptoRow, standIns := [], harness := (true, "9faf0412ac5d86ebdcf11d209b63c90bf89f096bdec41b4b45be2013cda252f2"), looks := false }, kinds := [], alts := [], laidByText := true, laidKinds := [.data], laidTests := true, laidLooks := .later }
def SearchExitsUptoCardSaid : Prop := Claim7.holds Tryz.pinned (.plain (OpenSpec.upto searchExitsSpec)) searchExitsUptoCard
end Rows
end Go.Proofs.YtifnlhfinjfajaaGreatDoor
