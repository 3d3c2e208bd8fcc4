/-
  DERIVED. GIVEN WITH THE SEED: THE CARDS: each row of YteicpjhfglkchaaDoorRows.lean that lists a variable, with what it lists TIED to the program's text (the seventh form; the later family's looks); each row that meets fmt, with fmt's text TOLD by the authors' own Lean function (tested against real Go, not proved from fmt's source: count such statements apart). THE CARD IS WHAT COUNTS. Prove the row's statement (the work); the ties are given (YteicpjhfglkchaaDoorTie.lean); close each card by the builder's one call (the guide's Derived/Test/ToyasCard.lean, 'card_holds'). Laid BY PROGRAM, IN A SANDBOX (cutbox-door.mjs). By AI agents, Wed Nov 11 2026. No macro, syntax, notation, axiom, sorry.
-/
import Derived.Test.YteicpjhfglkchaaDoorRows
import GoSem.ClaimSeven
namespace Go.Proofs.YteicpjhfglkchaaDoor
namespace Rows

/-- THE TIED CARD OF 'lockbarlaw03.TickTells'. -/
def tickTellsCard : Claim7 := { stood := { row := tickTellsRow, standIns := [], harness := (true, "4f1a985af01364b5f2fcf97af0528c6fe98c1769d74997c42b39b81867f8ba43"), looks := false }, kinds := [], alts := [], laidByText := true, laidKinds := [.data], laidTests := true, laidLooks := .later }
def TickTellsCardSaid : Prop := Claim7.holds Tryd.pinned (.plain (OpenSpec.ofChange tickTellsSpec)) tickTellsCard

/-- THE TIED CARD OF 'lockbarlaw03.TickStays'. -/
def tickStaysCard : Claim7 := { stood := { row := tickStaysRow, standIns := [], harness := (true, "4f1a985af01364b5f2fcf97af0528c6fe98c1769d74997c42b39b81867f8ba43"), looks := false }, kinds := [], alts := [], laidByText := true, laidKinds := [.data], laidTests := true, laidLooks := .later }
def TickStaysCardSaid : Prop := Claim7.holds Tryd.pinned (.plain (OpenSpec.ofChange tickStaysSpec)) tickStaysCard

/-- THE TIED CARD OF 'lockbarlaw03.TickParts'. -/
def tickPartsCard : Claim7 := { stood := { row := tickPartsRow, standIns := [], harness := (true, "4f1a985af01364b5f2fcf97af0528c6fe98c1769d74997c42b39b81867f8ba43"), looks := false }, kinds := [], alts := [], laidByText := true, laidKinds := [.data], laidTests := true, laidLooks := .later }
def TickPartsCardSaid : Prop := Claim7.holds Tryd.pinned (.plain (OpenSpec.ofChange tickPartsSpec)) tickPartsCard

/-- THE TIED CARD OF 'lockbarlaw03.TickDown'. -/
def tickDownCard : Claim7 := { stood := { row := tickDownRow, standIns := [], harness := (true, "4f1a985af01364b5f2fcf97af0528c6fe98c1769d74997c42b39b81867f8ba43"), looks := false }, kinds := [], alts := [], laidByText := true, laidKinds := [.data], laidTests := true, laidLooks := .later }
def TickDownCardSaid : Prop := Claim7.holds Tryd.pinned (.plain (OpenSpec.ofChange tickDownSpec)) tickDownCard

/-- THE TIED CARD OF 'lockbarlaw03.TickRow'. -/
def tickRowCard : Claim7 := { stood := { row := tickRowRow, standIns := [], harness := (true, "4f1a985af01364b5f2fcf97af0528c6fe98c1769d74997c42b39b81867f8ba43"), looks := false }, kinds := [], alts := [], laidByText := true, laidKinds := [.data], laidTests := true, laidLooks := .later }
def TickRowCardSaid : Prop := Claim7.holds Tryd.pinned (.plain (OpenSpec.ofChange tickRowSpec)) tickRowCard

/-- THE SECOND FORM's CARD OF 'lockbarlaw03.TickTells'. -/
def tickTellsUptoCard : Claim7 := { stood := { row := tickTellsUptoRow, standIns := [], harness := (true, "4f1a985af01364b5f2fcf97af0528c6fe98c1769d74997c42b39b81867f8ba43"), looks := false }, kinds := [], alts := [], laidByText := true, laidKinds := [.data], laidTests := true, laidLooks := .later }
def TickTellsUptoCardSaid : Prop := Claim7.holds Tryd.pinned (.plain (OpenSpec.upto tickTellsSpec)) tickTellsUptoCard

/-- THE SECOND FORM's CARD OF 'lockbarlaw03.TickStays'. -/
def tickStaysUptoCard : Claim7 := { stood := { row := tickStaysUptoRow, standIns := [], harness := (true, "4f1a985af01364b5f2fcf97af0528c6fe98c1769d74997c42b39b81867f8ba43"), looks := false }, kinds := [], alts := [], laidByText := true, laidKinds := [.data], laidTests := true, laidLooks := .later }
def TickStaysUptoCardSaid : Prop := Claim7.holds Tryd.pinned (.plain (OpenSpec.upto tickStaysSpec)) tickStaysUptoCard

/-- THE SECOND FORM's CARD OF 'lockbarlaw03.TickParts'. -/
def tickPartsUptoCard : Claim7 := { stood := { row := tickPartsUptoRow, standIns := [], harness := (true, "4f1a985af01364b5f2fcf97af0528c6fe98c1769d74997c42b39b81867f8ba43"), looks := false }, kinds := [], alts := [], laidByText := true, laidKinds := [.data], laidTests := true, laidLooks := .later }
def TickPartsUptoCardSaid : Prop := Claim7.holds Tryd.pinned (.plain (OpenSpec.upto tickPartsSpec)) tickPartsUptoCard

/-- THE SECOND FORM's CARD OF 'lockbarlaw03.TickDown'. -/
def tickDownUptoCard : Claim7 := { stood := { row := tickDownUptoRow, standIns := [], harness := (true, "4f1a985af01364b5f2fcf97af0528c6fe98c1769d74997c42b39b81867f8ba43"), looks := false }, kinds := [], alts := [], laidByText := true, laidKinds := [.data], laidTests := true, laidLooks := .later }
def TickDownUptoCardSaid : Prop := Claim7.holds Tryd.pinned (.plain (OpenSpec.upto tickDownSpec)) tickDownUptoCard

/-- THE SECOND FORM's CARD OF 'lockbarlaw03.TickRow'. -/
def tickRowUptoCard : Claim7 := { stood := { row := tickRowUptoRow, standIns := [], harness := (true, "4f1a985af01364b5f2fcf97af0528c6fe98c1769d74997c42b39b81867f8ba43"), looks := false }, kinds := [], alts := [], laidByText := true, laidKinds := [.data], laidTests := true, laidLooks := .later }
def TickRowUptoCardSaid : Prop := Claim7.holds Tryd.pinned (.plain (OpenSpec.upto tickRowSpec)) tickRowUptoCard
end Rows
end Go.Proofs.YteicpjhfglkchaaDoor
