/-
  DERIVED. GIVEN WITH THE SEED: THE CARDS: each row of YtniihmafbeplaaaDoorRows.lean that lists a variable, with what it lists TIED to the program's text (the seventh form; the later family's looks); each row that meets fmt, with fmt's text TOLD by the authors' own Lean function (tested against real Go, not proved from fmt's source: count such statements apart). THE CARD IS WHAT COUNTS. Prove the row's statement (the work); the ties are given (YtniihmafbeplaaaDoorTie.lean); close each card by the builder's one call (the guide's Derived/Test/ToyasCard.lean, 'card_holds'). Laid BY PROGRAM, IN A SANDBOX (cutbox-door.mjs). By AI agents, Wed Nov 11 2026. No macro, syntax, notation, axiom, sorry.
-/
import Derived.Test.YtniihmafbeplaaaDoorRows
import GoSem.ClaimSeven
namespace Go.Proofs.YtniihmafbeplaaaDoor
namespace Rows

/-- THE TIED CARD OF 'lockbarlaw15.ImageTells'. -/
def imageTellsCard : Claim7 := { stood := { row := imageTellsRow, standIns := [], harness := (true, "c8e11e486a8d91efe47a73361c761eead0c2605d2b12a6040f9ed23953ebdf75"), looks := false }, kinds := [], alts := [], laidByText := true, laidKinds := [.data], laidTests := true, laidLooks := .later }
def ImageTellsCardSaid : Prop := Claim7.holds Tryd.pinned (.plain (OpenSpec.ofChange imageTellsSpec)) imageTellsCard

/-- THE TIED CARD OF 'lockbarlaw15.ImageWorst'. -/
def imageWorstCard : Claim7 := { stood := { row := imageWorstRow, standIns := [], harness := (true, "c8e11e486a8d91efe47a73361c761eead0c2605d2b12a6040f9ed23953ebdf75"), looks := false }, kinds := [], alts := [], laidByText := true, laidKinds := [.data], laidTests := true, laidLooks := .later }
def ImageWorstCardSaid : Prop := Claim7.holds Tryd.pinned (.plain (OpenSpec.ofChange imageWorstSpec)) imageWorstCard

/-- THE TIED CARD OF 'lockbarlaw15.ImageClear'. -/
def imageClearCard : Claim7 := { stood := { row := imageClearRow, standIns := [], harness := (true, "c8e11e486a8d91efe47a73361c761eead0c2605d2b12a6040f9ed23953ebdf75"), looks := false }, kinds := [], alts := [], laidByText := true, laidKinds := [.data], laidTests := true, laidLooks := .later }
def ImageClearCardSaid : Prop := Claim7.holds Tryd.pinned (.plain (OpenSpec.ofChange imageClearSpec)) imageClearCard

/-- THE TIED CARD OF 'lockbarlaw15.ImageTicks'. -/
def imageTicksCard : Claim7 := { stood := { row := imageTicksRow, standIns := [], harness := (true, "c8e11e486a8d91efe47a73361c761eead0c2605d2b12a6040f9ed23953ebdf75"), looks := false }, kinds := [], alts := [], laidByText := true, laidKinds := [.data], laidTests := true, laidLooks := .later }
def ImageTicksCardSaid : Prop := Claim7.holds Tryd.pinned (.plain (OpenSpec.ofChange imageTicksSpec)) imageTicksCard

/-- THE TIED CARD OF 'lockbarlaw15.ImageOnly'. -/
def imageOnlyCard : Claim7 := { stood := { row := imageOnlyRow, standIns := [], harness := (true, "c8e11e486a8d91efe47a73361c761eead0c2605d2b12a6040f9ed23953ebdf75"), looks := false }, kinds := [], alts := [], laidByText := true, laidKinds := [.data], laidTests := true, laidLooks := .later }
def ImageOnlyCardSaid : Prop := Claim7.holds Tryd.pinned (.plain (OpenSpec.ofChange imageOnlySpec)) imageOnlyCard

/-- THE SECOND FORM's CARD OF 'lockbarlaw15.ImageTells'. -/
def imageTellsUptoCard : Claim7 := { stood := { row := imageTellsUptoRow, standIns := [], harness := (true, "c8e11e486a8d91efe47a73361c761eead0c2605d2b12a6040f9ed23953ebdf75"), looks := false }, kinds := [], alts := [], laidByText := true, laidKinds := [.data], laidTests := true, laidLooks := .later }
def ImageTellsUptoCardSaid : Prop := Claim7.holds Tryd.pinned (.plain (OpenSpec.upto imageTellsSpec)) imageTellsUptoCard

/-- THE SECOND FORM's CARD OF 'lockbarlaw15.ImageWorst'. -/
def imageWorstUptoCard : Claim7 := { stood := { row := imageWorstUptoRow, standIns := [], harness := (true, "c8e11e486a8d91efe47a73361c761eead0c2605d2b12a6040f9ed23953ebdf75"), looks := false }, kinds := [], alts := [], laidByText := true, laidKinds := [.data], laidTests := true, laidLooks := .later }
def ImageWorstUptoCardSaid : Prop := Claim7.holds Tryd.pinned (.plain (OpenSpec.upto imageWorstSpec)) imageWorstUptoCard

/-- THE SECOND FORM's CARD OF 'lockbarlaw15.ImageClear'. -/
def imageClearUptoCard : Claim7 := { stood := { row := imageClearUptoRow, standIns := [], harness := (true, "c8e11e486a8d91efe47a73361c761eead0c2605d2b12a6040f9ed23953ebdf75"), looks := false }, kinds := [], alts := [], laidByText := true, laidKinds := [.data], laidTests := true, laidLooks := .later }
def ImageClearUptoCardSaid : Prop := Claim7.holds Tryd.pinned (.plain (OpenSpec.upto imageClearSpec)) imageClearUptoCard

/-- THE SECOND FORM's CARD OF 'lockbarlaw15.ImageTicks'. -/
def imageTicksUptoCard : Claim7 := { stood := { row := imageTicksUptoRow, standIns := [], harness := (true, "c8e11e486a8d91efe47a73361c761eead0c2605d2b12a6040f9ed23953ebdf75"), looks := false }, kinds := [], alts := [], laidByText := true, laidKinds := [.data], laidTests := true, laidLooks := .later }
def ImageTicksUptoCardSaid : Prop := Claim7.holds Tryd.pinned (.plain (OpenSpec.upto imageTicksSpec)) imageTicksUptoCard

/-- THE SECOND FORM's CARD OF 'lockbarlaw15.ImageOnly'. -/
def imageOnlyUptoCard : Claim7 := { stood := { row := imageOnlyUptoRow, standIns := [], harness := (true, "c8e11e486a8d91efe47a73361c761eead0c2605d2b12a6040f9ed23953ebdf75"), looks := false }, kinds := [], alts := [], laidByText := true, laidKinds := [.data], laidTests := true, laidLooks := .later }
def ImageOnlyUptoCardSaid : Prop := Claim7.holds Tryd.pinned (.plain (OpenSpec.upto imageOnlySpec)) imageOnlyUptoCard
end Rows
end Go.Proofs.YtniihmafbeplaaaDoor
