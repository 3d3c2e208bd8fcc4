/-
  DERIVED. GIVEN WITH THE SEED: THE CARDS: each row of YtbdbgoploednbaaDoorRows.lean that lists a variable, with what it lists TIED to the program's text (the seventh form; the later family's looks); each row that meets fmt, with fmt's text TOLD by the authors' own Lean function (tested against real Go, not proved from fmt's source: count such statements apart). THE CARD IS WHAT COUNTS. Prove the row's statement (the work); the ties are given (YtbdbgoploednbaaDoorTie.lean); close each card by the builder's one call (the guide's Derived/Test/ToyasCard.lean, 'card_holds'). Laid BY PROGRAM, IN A SANDBOX (cutbox-door.mjs). By AI agents, Wed Nov 11 2026. No macro, syntax, notation, axiom, sorry.
-/
import Derived.Test.YtbdbgoploednbaaDoorRows
import GoSem.ClaimSeven
namespace Go.Proofs.YtbdbgoploednbaaDoor
namespace Rows

/-- THE TIED CARD OF 'lockbarlaw13.NeedTells'. -/
def needTellsCard : Claim7 := { stood := { row := needTellsRow, standIns := [], harness := (true, "efaf9ea8dcd3ee9adaef4ad63b33453e3ba4fa54c02a3a12ef2f9bc42fb2155f"), looks := false }, kinds := [], alts := [], laidByText := true, laidKinds := [.data], laidTests := true, laidLooks := .later }
def NeedTellsCardSaid : Prop := Claim7.holds Tryd.pinned (.plain (OpenSpec.ofChange needTellsSpec)) needTellsCard

/-- THE TIED CARD OF 'lockbarlaw13.NeedOne'. -/
def needOneCard : Claim7 := { stood := { row := needOneRow, standIns := [], harness := (true, "efaf9ea8dcd3ee9adaef4ad63b33453e3ba4fa54c02a3a12ef2f9bc42fb2155f"), looks := false }, kinds := [], alts := [], laidByText := true, laidKinds := [.data], laidTests := true, laidLooks := .later }
def NeedOneCardSaid : Prop := Claim7.holds Tryd.pinned (.plain (OpenSpec.ofChange needOneSpec)) needOneCard

/-- THE TIED CARD OF 'lockbarlaw13.NeedParts'. -/
def needPartsCard : Claim7 := { stood := { row := needPartsRow, standIns := [], harness := (true, "efaf9ea8dcd3ee9adaef4ad63b33453e3ba4fa54c02a3a12ef2f9bc42fb2155f"), looks := false }, kinds := [], alts := [], laidByText := true, laidKinds := [.data], laidTests := true, laidLooks := .later }
def NeedPartsCardSaid : Prop := Claim7.holds Tryd.pinned (.plain (OpenSpec.ofChange needPartsSpec)) needPartsCard

/-- THE TIED CARD OF 'lockbarlaw13.NeedClash'. -/
def needClashCard : Claim7 := { stood := { row := needClashRow, standIns := [], harness := (true, "efaf9ea8dcd3ee9adaef4ad63b33453e3ba4fa54c02a3a12ef2f9bc42fb2155f"), looks := false }, kinds := [], alts := [], laidByText := true, laidKinds := [.data], laidTests := true, laidLooks := .later }
def NeedClashCardSaid : Prop := Claim7.holds Tryd.pinned (.plain (OpenSpec.ofChange needClashSpec)) needClashCard

/-- THE TIED CARD OF 'lockbarlaw13.NeedPoints'. -/
def needPointsCard : Claim7 := { stood := { row := needPointsRow, standIns := [], harness := (true, "efaf9ea8dcd3ee9adaef4ad63b33453e3ba4fa54c02a3a12ef2f9bc42fb2155f"), looks := false }, kinds := [], alts := [], laidByText := true, laidKinds := [.data], laidTests := true, laidLooks := .later }
def NeedPointsCardSaid : Prop := Claim7.holds Tryd.pinned (.plain (OpenSpec.ofChange needPointsSpec)) needPointsCard

/-- THE SECOND FORM's CARD OF 'lockbarlaw13.NeedTells'. -/
def needTellsUptoCard : Claim7 := { stood := { row := needTellsUptoRow, standIns := [], harness := (true, "efaf9ea8dcd3ee9adaef4ad63b33453e3ba4fa54c02a3a12ef2f9bc42fb2155f"), looks := false }, kinds := [], alts := [], laidByText := true, laidKinds := [.data], laidTests := true, laidLooks := .later }
def NeedTellsUptoCardSaid : Prop := Claim7.holds Tryd.pinned (.plain (OpenSpec.upto needTellsSpec)) needTellsUptoCard

/-- THE SECOND FORM's CARD OF 'lockbarlaw13.NeedOne'. -/
def needOneUptoCard : Claim7 := { stood := { row := needOneUptoRow, standIns := [], harness := (true, "efaf9ea8dcd3ee9adaef4ad63b33453e3ba4fa54c02a3a12ef2f9bc42fb2155f"), looks := false }, kinds := [], alts := [], laidByText := true, laidKinds := [.data], laidTests := true, laidLooks := .later }
def NeedOneUptoCardSaid : Prop := Claim7.holds Tryd.pinned (.plain (OpenSpec.upto needOneSpec)) needOneUptoCard

/-- THE SECOND FORM's CARD OF 'lockbarlaw13.NeedParts'. -/
def needPartsUptoCard : Claim7 := { stood := { row := needPartsUptoRow, standIns := [], harness := (true, "efaf9ea8dcd3ee9adaef4ad63b33453e3ba4fa54c02a3a12ef2f9bc42fb2155f"), looks := false }, kinds := [], alts := [], laidByText := true, laidKinds := [.data], laidTests := true, laidLooks := .later }
def NeedPartsUptoCardSaid : Prop := Claim7.holds Tryd.pinned (.plain (OpenSpec.upto needPartsSpec)) needPartsUptoCard

/-- THE SECOND FORM's CARD OF 'lockbarlaw13.NeedClash'. -/
def needClashUptoCard : Claim7 := { stood := { row := needClashUptoRow, standIns := [], harness := (true, "efaf9ea8dcd3ee9adaef4ad63b33453e3ba4fa54c02a3a12ef2f9bc42fb2155f"), looks := false }, kinds := [], alts := [], laidByText := true, laidKinds := [.data], laidTests := true, laidLooks := .later }
def NeedClashUptoCardSaid : Prop := Claim7.holds Tryd.pinned (.plain (OpenSpec.upto needClashSpec)) needClashUptoCard

/-- THE SECOND FORM's CARD OF 'lockbarlaw13.NeedPoints'. -/
def needPointsUptoCard : Claim7 := { stood := { row := needPointsUptoRow, standIns := [], harness := (true, "efaf9ea8dcd3ee9adaef4ad63b33453e3ba4fa54c02a3a12ef2f9bc42fb2155f"), looks := false }, kinds := [], alts := [], laidByText := true, laidKinds := [.data], laidTests := true, laidLooks := .later }
def NeedPointsUptoCardSaid : Prop := Claim7.holds Tryd.pinned (.plain (OpenSpec.upto needPointsSpec)) needPointsUptoCard
end Rows
end Go.Proofs.YtbdbgoploednbaaDoor
