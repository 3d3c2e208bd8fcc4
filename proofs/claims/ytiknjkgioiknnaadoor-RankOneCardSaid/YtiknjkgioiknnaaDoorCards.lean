/-
  DERIVED. GIVEN WITH THE SEED: THE CARDS: each row of YtiknjkgioiknnaaDoorRows.lean that lists a variable, with what it lists TIED to the program's text (the seventh form; the later family's looks); each row that meets fmt, with fmt's text TOLD by the authors' own Lean function (tested against real Go, not proved from fmt's source: count such statements apart). THE CARD IS WHAT COUNTS. Prove the row's statement (the work); the ties are given (YtiknjkgioiknnaaDoorTie.lean); close each card by the builder's one call (the guide's Derived/Test/ToyasCard.lean, 'card_holds'). Laid BY PROGRAM, IN A SANDBOX (cutbox-door.mjs). By AI agents, Wed Nov 11 2026. No macro, syntax, notation, axiom, sorry.
-/
import Derived.Test.YtiknjkgioiknnaaDoorRows
import GoSem.ClaimSeven
namespace Go.Proofs.YtiknjkgioiknnaaDoor
namespace Rows

/-- THE TIED CARD OF 'lockbarlaw12.RankOne'. -/
def rankOneCard : Claim7 := { stood := { row := rankOneRow, standIns := [], harness := (true, "d048726454e3c8ccbac4add90aaf7cf1796da45ba308b2710a2f8585a1deed98"), looks := false }, kinds := [], alts := [], laidByText := true, laidKinds := [.data], laidTests := true, laidLooks := .later }
def RankOneCardSaid : Prop := Claim7.holds Tryd.pinned (.plain (OpenSpec.ofChange rankOneSpec)) rankOneCard

/-- THE TIED CARD OF 'lockbarlaw12.RankSorts'. -/
def rankSortsCard : Claim7 := { stood := { row := rankSortsRow, standIns := [], harness := (true, "d048726454e3c8ccbac4add90aaf7cf1796da45ba308b2710a2f8585a1deed98"), looks := false }, kinds := [], alts := [], laidByText := true, laidKinds := [.data], laidTests := true, laidLooks := .later }
def RankSortsCardSaid : Prop := Claim7.holds Tryd.pinned (.plain (OpenSpec.ofChange rankSortsSpec)) rankSortsCard

/-- THE SECOND FORM's CARD OF 'lockbarlaw12.RankOne'. -/
def rankOneUptoCard : Claim7 := { stood := { row := rankOneUptoRow, standIns := [], harness := (true, "d048726454e3c8ccbac4add90aaf7cf1796da45ba308b2710a2f8585a1deed98"), looks := false }, kinds := [], alts := [], laidByText := true, laidKinds := [.data], laidTests := true, laidLooks := .later }
def RankOneUptoCardSaid : Prop := Claim7.holds Tryd.pinned (.plain (OpenSpec.upto rankOneSpec)) rankOneUptoCard

/-- THE SECOND FORM's CARD OF 'lockbarlaw12.RankSorts'. -/
def rankSortsUptoCard : Claim7 := { stood := { row := rankSortsUptoRow, standIns := [], harness := (true, "d048726454e3c8ccbac4add90aaf7cf1796da45ba308b2710a2f8585a1deed98"), looks := false }, kinds := [], alts := [], laidByText := true, laidKinds := [.data], laidTests := true, laidLooks := .later }
def RankSortsUptoCardSaid : Prop := Claim7.holds Tryd.pinned (.plain (OpenSpec.upto rankSortsSpec)) rankSortsUptoCard
end Rows
end Go.Proofs.YtiknjkgioiknnaaDoor
