/-
  DERIVED. GIVEN WITH THE SEED: THE CARDS: each row of YthjnhigcheakaaaDoorRows.lean that lists a variable, with what it lists TIED to the program's text (the seventh form; the later family's looks); each row that meets fmt, with fmt's text TOLD by the authors' own Lean function (tested against real Go, not proved from fmt's source: count such statements apart). THE CARD IS WHAT COUNTS. Prove the row's statement (the work); the ties are given (YthjnhigcheakaaaDoorTie.lean); close each card by the builder's one call (the guide's Derived/Test/ToyasCard.lean, 'card_holds'). Laid BY PROGRAM, IN A SANDBOX (cutbox-door.mjs). By AI agents, Wed Nov 11 2026. No macro, syntax, notation, axiom, sorry.
-/
import Derived.Test.YthjnhigcheakaaaDoorRows
import GoSem.ClaimSeven
namespace Go.Proofs.YthjnhigcheakaaaDoor
namespace Rows

/-- THE TIED CARD OF 'lockbarlaw10.BeyondTells'. -/
def beyondTellsCard : Claim7 := { stood := { row := beyondTellsRow, standIns := [], harness := (true, "8473892cc81b29dad22c818800626b88627befdddf3fe8cdb9f580fcd92fb090"), looks := false }, kinds := [], alts := [], laidByText := true, laidKinds := [.data], laidTests := true, laidLooks := .later }
def BeyondTellsCardSaid : Prop := Claim7.holds Tryd.pinned (.plain (OpenSpec.ofChange beyondTellsSpec)) beyondTellsCard

/-- THE TIED CARD OF 'lockbarlaw10.BeyondGoes'. -/
def beyondGoesCard : Claim7 := { stood := { row := beyondGoesRow, standIns := [], harness := (true, "8473892cc81b29dad22c818800626b88627befdddf3fe8cdb9f580fcd92fb090"), looks := false }, kinds := [], alts := [], laidByText := true, laidKinds := [.data], laidTests := true, laidLooks := .later }
def BeyondGoesCardSaid : Prop := Claim7.holds Tryd.pinned (.plain (OpenSpec.ofChange beyondGoesSpec)) beyondGoesCard

/-- THE TIED CARD OF 'lockbarlaw10.BeyondWants'. -/
def beyondWantsCard : Claim7 := { stood := { row := beyondWantsRow, standIns := [], harness := (true, "8473892cc81b29dad22c818800626b88627befdddf3fe8cdb9f580fcd92fb090"), looks := false }, kinds := [], alts := [], laidByText := true, laidKinds := [.data], laidTests := true, laidLooks := .later }
def BeyondWantsCardSaid : Prop := Claim7.holds Tryd.pinned (.plain (OpenSpec.ofChange beyondWantsSpec)) beyondWantsCard

/-- THE TIED CARD OF 'lockbarlaw10.BeyondMask'. -/
def beyondMaskCard : Claim7 := { stood := { row := beyondMaskRow, standIns := [], harness := (true, "8473892cc81b29dad22c818800626b88627befdddf3fe8cdb9f580fcd92fb090"), looks := false }, kinds := [], alts := [], laidByText := true, laidKinds := [.data], laidTests := true, laidLooks := .later }
def BeyondMaskCardSaid : Prop := Claim7.holds Tryd.pinned (.plain (OpenSpec.ofChange beyondMaskSpec)) beyondMaskCard

/-- THE TIED CARD OF 'lockbarlaw10.BeyondRear'. -/
def beyondRearCard : Claim7 := { stood := { row := beyondRearRow, standIns := [], harness := (true, "8473892cc81b29dad22c818800626b88627befdddf3fe8cdb9f580fcd92fb090"), looks := false }, kinds := [], alts := [], laidByText := true, laidKinds := [.data], laidTests := true, laidLooks := .later }
def BeyondRearCardSaid : Prop := Claim7.holds Tryd.pinned (.plain (OpenSpec.ofChange beyondRearSpec)) beyondRearCard

/-- THE SECOND FORM's CARD OF 'lockbarlaw10.BeyondTells'. -/
def beyondTellsUptoCard : Claim7 := { stood := { row := beyondTellsUptoRow, standIns := [], harness := (true, "8473892cc81b29dad22c818800626b88627befdddf3fe8cdb9f580fcd92fb090"), looks := false }, kinds := [], alts := [], laidByText := true, laidKinds := [.data], laidTests := true, laidLooks := .later }
def BeyondTellsUptoCardSaid : Prop := Claim7.holds Tryd.pinned (.plain (OpenSpec.upto beyondTellsSpec)) beyondTellsUptoCard

/-- THE SECOND FORM's CARD OF 'lockbarlaw10.BeyondGoes'. -/
def beyondGoesUptoCard : Claim7 := { stood := { row := beyondGoesUptoRow, standIns := [], harness := (true, "8473892cc81b29dad22c818800626b88627befdddf3fe8cdb9f580fcd92fb090"), looks := false }, kinds := [], alts := [], laidByText := true, laidKinds := [.data], laidTests := true, laidLooks := .later }
def BeyondGoesUptoCardSaid : Prop := Claim7.holds Tryd.pinned (.plain (OpenSpec.upto beyondGoesSpec)) beyondGoesUptoCard

/-- THE SECOND FORM's CARD OF 'lockbarlaw10.BeyondWants'. -/
def beyondWantsUptoCard : Claim7 := { stood := { row := beyondWantsUptoRow, standIns := [], harness := (true, "8473892cc81b29dad22c818800626b88627befdddf3fe8cdb9f580fcd92fb090"), looks := false }, kinds := [], alts := [], laidByText := true, laidKinds := [.data], laidTests := true, laidLooks := .later }
def BeyondWantsUptoCardSaid : Prop := Claim7.holds Tryd.pinned (.plain (OpenSpec.upto beyondWantsSpec)) beyondWantsUptoCard

/-- THE SECOND FORM's CARD OF 'lockbarlaw10.BeyondMask'. -/
def beyondMaskUptoCard : Claim7 := { stood := { row := beyondMaskUptoRow, standIns := [], harness := (true, "8473892cc81b29dad22c818800626b88627befdddf3fe8cdb9f580fcd92fb090"), looks := false }, kinds := [], alts := [], laidByText := true, laidKinds := [.data], laidTests := true, laidLooks := .later }
def BeyondMaskUptoCardSaid : Prop := Claim7.holds Tryd.pinned (.plain (OpenSpec.upto beyondMaskSpec)) beyondMaskUptoCard

/-- THE SECOND FORM's CARD OF 'lockbarlaw10.BeyondRear'. -/
def beyondRearUptoCard : Claim7 := { stood := { row := beyondRearUptoRow, standIns := [], harness := (true, "8473892cc81b29dad22c818800626b88627befdddf3fe8cdb9f580fcd92fb090"), looks := false }, kinds := [], alts := [], laidByText := true, laidKinds := [.data], laidTests := true, laidLooks := .later }
def BeyondRearUptoCardSaid : Prop := Claim7.holds Tryd.pinned (.plain (OpenSpec.upto beyondRearSpec)) beyondRearUptoCard
end Rows
end Go.Proofs.YthjnhigcheakaaaDoor
