/-
  DERIVED. GIVEN WITH THE SEED: THE CARDS: each row of YtpppieffkklnhaaGreatDoorRows.lean that lists a variable, with what it lists TIED to the program's text (the seventh form; the later family's looks); each row that meets fmt, with fmt's text TOLD by the authors' own Lean function (tested against real Go, not proved from fmt's source: count such statements apart). THE CARD IS WHAT COUNTS. Prove the row's statement (the work); the ties are given (YtpppieffkklnhaaGreatDoorTie.lean); close each card by the builder's one call (the guide's Derived/Test/ToyasCard.lean, 'card_holds'). Laid BY PROGRAM, IN A SANDBOX (cutbox-door.mjs). By AI agents, Wed Nov 11 2026. No macro, syntax, notation, axiom, sorry.
-/
import Derived.Test.YtpppieffkklnhaaGreatDoorRows
import GoSem.ClaimSeven
namespace Go.Proofs.YtpppieffkklnhaaGreatDoor
namespace Rows

/-- THE TIED CARD OF 'lockbarlaw09.TopoTells'. -/
def topoTellsCard : Claim7 := { stood := { row := topoTellsRow, standIns := [], harness := (true, "fdbc078af93f0ba387dc317b0546d5ef91965fbe4fb65f63732fb4125728a812"), looks := false }, kinds := [], alts := [], laidByText := true, laidKinds := [.data], laidTests := true, laidLooks := .later }
def TopoTellsCardSaid : Prop := Claim7.holds Tryz.pinned (.plain (OpenSpec.ofChange topoTellsSpec)) topoTellsCard

/-- THE SECOND FORM's CARD OF 'lockbarlaw09.TopoTells'. -/
def topoTellsUptoCard : Claim7 := { stood := { row := topoTellsUptoRow, standIns := [], harness := (true, "fdbc078af93f0ba387dc317b0546d5ef91965fbe4fb65f63732fb4125728a812"), looks := false }, kinds := [], alts := [], laidByText := true, laidKinds := [.data], laidTests := true, laidLooks := .later }
def TopoTellsUptoCardSaid : Prop := Claim7.holds Tryz.pinned (.plain (OpenSpec.upto topoTellsSpec)) topoTellsUptoCard
end Rows
end Go.Proofs.YtpppieffkklnhaaGreatDoor
