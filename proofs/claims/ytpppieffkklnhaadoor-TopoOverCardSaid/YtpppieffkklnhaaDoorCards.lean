/-
  DERIVED. GIVEN WITH THE SEED: THE CARDS: each row of YtpppieffkklnhaaDoorRows.lean that lists a variable, with what it lists TIED to the program's text (the seventh form; the later family's looks); each row that meets fmt, with fmt's text TOLD by the authors' own Lean function (tested against real Go, not proved from fmt's source: count such statements apart). THE CARD IS WHAT COUNTS. Prove the row's statement (the work); the ties are given (YtpppieffkklnhaaDoorTie.lean); close each card by the builder's one call (the guide's Derived/Test/ToyasCard.lean, 'card_holds'). Laid BY PROGRAM, IN A SANDBOX (cutbox-door.mjs). By AI agents, Wed Nov 11 2026. No macro, syntax, notation, axiom, sorry.
-/
import Derived.Test.YtpppieffkklnhaaDoorRows
import GoSem.ClaimSeven
namespace Go.Proofs.YtpppieffkklnhaaDoor
namespace Rows

/-- THE TIED CARD OF 'lockbarlaw09.TopoOver'. -/
def topoOverCard : Claim7 := { stood := { row := topoOverRow, standIns := [], harness := (true, "16236e0fa840915d6e3e9a0ce21152486d27846e76305ac59149b418a50711f8"), looks := false }, kinds := [], alts := [], laidByText := true, laidKinds := [.data], laidTests := true, laidLooks := .later }
def TopoOverCardSaid : Prop := Claim7.holds Tryd.pinned (.plain (OpenSpec.ofChange topoOverSpec)) topoOverCard

/-- THE TIED CARD OF 'lockbarlaw09.TopoOnce'. -/
def topoOnceCard : Claim7 := { stood := { row := topoOnceRow, standIns := [], harness := (true, "16236e0fa840915d6e3e9a0ce21152486d27846e76305ac59149b418a50711f8"), looks := false }, kinds := [], alts := [], laidByText := true, laidKinds := [.data], laidTests := true, laidLooks := .later }
def TopoOnceCardSaid : Prop := Claim7.holds Tryd.pinned (.plain (OpenSpec.ofChange topoOnceSpec)) topoOnceCard

/-- THE TIED CARD OF 'lockbarlaw09.TopoFirst'. -/
def topoFirstCard : Claim7 := { stood := { row := topoFirstRow, standIns := [], harness := (true, "16236e0fa840915d6e3e9a0ce21152486d27846e76305ac59149b418a50711f8"), looks := false }, kinds := [], alts := [], laidByText := true, laidKinds := [.data], laidTests := true, laidLooks := .later }
def TopoFirstCardSaid : Prop := Claim7.holds Tryd.pinned (.plain (OpenSpec.ofChange topoFirstSpec)) topoFirstCard

/-- THE TIED CARD OF 'lockbarlaw09.TopoLess'. -/
def topoLessCard : Claim7 := { stood := { row := topoLessRow, standIns := [], harness := (true, "16236e0fa840915d6e3e9a0ce21152486d27846e76305ac59149b418a50711f8"), looks := false }, kinds := [], alts := [], laidByText := true, laidKinds := [.data], laidTests := true, laidLooks := .later }
def TopoLessCardSaid : Prop := Claim7.holds Tryd.pinned (.plain (OpenSpec.ofChange topoLessSpec)) topoLessCard

/-- THE SECOND FORM's CARD OF 'lockbarlaw09.TopoOver'. -/
def topoOverUptoCard : Claim7 := { stood := { row := topoOverUptoRow, standIns := [], harness := (true, "16236e0fa840915d6e3e9a0ce21152486d27846e76305ac59149b418a50711f8"), looks := false }, kinds := [], alts := [], laidByText := true, laidKinds := [.data], laidTests := true, laidLooks := .later }
def TopoOverUptoCardSaid : Prop := Claim7.holds Tryd.pinned (.plain (OpenSpec.upto topoOverSpec)) topoOverUptoCard

/-- THE SECOND FORM's CARD OF 'lockbarlaw09.TopoOnce'. -/
def topoOnceUptoCard : Claim7 := { stood := { row := topoOnceUptoRow, standIns := [], harness := (true, "16236e0fa840915d6e3e9a0ce21152486d27846e76305ac59149b418a50711f8"), looks := false }, kinds := [], alts := [], laidByText := true, laidKinds := [.data], laidTests := true, laidLooks := .later }
def TopoOnceUptoCardSaid : Prop := Claim7.holds Tryd.pinned (.plain (OpenSpec.upto topoOnceSpec)) topoOnceUptoCard

/-- THE SECOND FORM's CARD OF 'lockbarlaw09.TopoFirst'. -/
def topoFirstUptoCard : Claim7 := { stood := { row := topoFirstUptoRow, standIns := [], harness := (true, "16236e0fa840915d6e3e9a0ce21152486d27846e76305ac59149b418a50711f8"), looks := false }, kinds := [], alts := [], laidByText := true, laidKinds := [.data], laidTests := true, laidLooks := .later }
def TopoFirstUptoCardSaid : Prop := Claim7.holds Tryd.pinned (.plain (OpenSpec.upto topoFirstSpec)) topoFirstUptoCard

/-- THE SECOND FORM's CARD OF 'lockbarlaw09.TopoLess'. -/
def topoLessUptoCard : Claim7 := { stood := { row := topoLessUptoRow, standIns := [], harness := (true, "16236e0fa840915d6e3e9a0ce21152486d27846e76305ac59149b418a50711f8"), looks := false }, kinds := [], alts := [], laidByText := true, laidKinds := [.data], laidTests := true, laidLooks := .later }
def TopoLessUptoCardSaid : Prop := Claim7.holds Tryd.pinned (.plain (OpenSpec.upto topoLessSpec)) topoLessUptoCard
end Rows
end Go.Proofs.YtpppieffkklnhaaDoor
