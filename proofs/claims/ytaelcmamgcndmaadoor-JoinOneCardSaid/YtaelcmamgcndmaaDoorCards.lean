/-
  DERIVED. GIVEN WITH THE SEED: THE CARDS: each row of YtaelcmamgcndmaaDoorRows.lean that lists a variable, with what it lists TIED to the program's text (the seventh form; the later family's looks); each row that meets fmt, with fmt's text TOLD by the authors' own Lean function (tested against real Go, not proved from fmt's source: count such statements apart). THE CARD IS WHAT COUNTS. Prove the row's statement (the work); the ties are given (YtaelcmamgcndmaaDoorTie.lean); close each card by the builder's one call (the guide's Derived/Test/ToyasCard.lean, 'card_holds'). Laid BY PROGRAM, IN A SANDBOX (cutbox-door.mjs). By AI agents, Wed Nov 11 2026. No macro, syntax, notation, axiom, sorry.
-/
import Derived.Test.YtaelcmamgcndmaaDoorRows
import GoSem.ClaimSeven
namespace Go.Proofs.YtaelcmamgcndmaaDoor
namespace Rows

/-- THE TIED CARD OF 'lockbarlaw07.JoinTells'. -/
def joinTellsCard : Claim7 := { stood := { row := joinTellsRow, standIns := [], harness := (true, "6e7cb919c7af4c60ba86299dcc4edd4e27e558e5331c650fcb16e0dcd2922536"), looks := false }, kinds := [], alts := [], laidByText := true, laidKinds := [.data], laidTests := true, laidLooks := .later }
def JoinTellsCardSaid : Prop := Claim7.holds Tryd.pinned (.plain (OpenSpec.ofChange joinTellsSpec)) joinTellsCard

/-- THE TIED CARD OF 'lockbarlaw07.JoinBack'. -/
def joinBackCard : Claim7 := { stood := { row := joinBackRow, standIns := [], harness := (true, "6e7cb919c7af4c60ba86299dcc4edd4e27e558e5331c650fcb16e0dcd2922536"), looks := false }, kinds := [], alts := [], laidByText := true, laidKinds := [.data], laidTests := true, laidLooks := .later }
def JoinBackCardSaid : Prop := Claim7.holds Tryd.pinned (.plain (OpenSpec.ofChange joinBackSpec)) joinBackCard

/-- THE TIED CARD OF 'lockbarlaw07.JoinSteps'. -/
def joinStepsCard : Claim7 := { stood := { row := joinStepsRow, standIns := [], harness := (true, "6e7cb919c7af4c60ba86299dcc4edd4e27e558e5331c650fcb16e0dcd2922536"), looks := false }, kinds := [], alts := [], laidByText := true, laidKinds := [.data], laidTests := true, laidLooks := .later }
def JoinStepsCardSaid : Prop := Claim7.holds Tryd.pinned (.plain (OpenSpec.ofChange joinStepsSpec)) joinStepsCard

/-- THE TIED CARD OF 'lockbarlaw07.JoinAll'. -/
def joinAllCard : Claim7 := { stood := { row := joinAllRow, standIns := [], harness := (true, "6e7cb919c7af4c60ba86299dcc4edd4e27e558e5331c650fcb16e0dcd2922536"), looks := false }, kinds := [], alts := [], laidByText := true, laidKinds := [.data], laidTests := true, laidLooks := .later }
def JoinAllCardSaid : Prop := Claim7.holds Tryd.pinned (.plain (OpenSpec.ofChange joinAllSpec)) joinAllCard

/-- THE TIED CARD OF 'lockbarlaw07.JoinOne'. -/
def joinOneCard : Claim7 := { stood := { row := joinOneRow, standIns := [], harness := (true, "6e7cb919c7af4c60ba86299dcc4edd4e27e558e5331c650fcb16e0dcd2922536"), looks := false }, kinds := [], alts := [], laidByText := true, laidKinds := [.data], laidTests := true, laidLooks := .later }
def JoinOneCardSaid : Prop := Claim7.holds Tryd.pinned (.plain (OpenSpec.ofChange joinOneSpec)) joinOneCard

/-- THE SECOND FORM's CARD OF 'lockbarlaw07.JoinTells'. -/
def joinTellsUptoCard : Claim7 := { stood := { row := joinTellsUptoRow, standIns := [], harness := (true, "6e7cb919c7af4c60ba86299dcc4edd4e27e558e5331c650fcb16e0dcd2922536"), looks := false }, kinds := [], alts := [], laidByText := true, laidKinds := [.data], laidTests := true, laidLooks := .later }
def JoinTellsUptoCardSaid : Prop := Claim7.holds Tryd.pinned (.plain (OpenSpec.upto joinTellsSpec)) joinTellsUptoCard

/-- THE SECOND FORM's CARD OF 'lockbarlaw07.JoinBack'. -/
def joinBackUptoCard : Claim7 := { stood := { row := joinBackUptoRow, standIns := [], harness := (true, "6e7cb919c7af4c60ba86299dcc4edd4e27e558e5331c650fcb16e0dcd2922536"), looks := false }, kinds := [], alts := [], laidByText := true, laidKinds := [.data], laidTests := true, laidLooks := .later }
def JoinBackUptoCardSaid : Prop := Claim7.holds Tryd.pinned (.plain (OpenSpec.upto joinBackSpec)) joinBackUptoCard

/-- THE SECOND FORM's CARD OF 'lockbarlaw07.JoinSteps'. -/
def joinStepsUptoCard : Claim7 := { stood := { row := joinStepsUptoRow, standIns := [], harness := (true, "6e7cb919c7af4c60ba86299dcc4edd4e27e558e5331c650fcb16e0dcd2922536"), looks := false }, kinds := [], alts := [], laidByText := true, laidKinds := [.data], laidTests := true, laidLooks := .later }
def JoinStepsUptoCardSaid : Prop := Claim7.holds Tryd.pinned (.plain (OpenSpec.upto joinStepsSpec)) joinStepsUptoCard

/-- THE SECOND FORM's CARD OF 'lockbarlaw07.JoinAll'. -/
def joinAllUptoCard : Claim7 := { stood := { row := joinAllUptoRow, standIns := [], harness := (true, "6e7cb919c7af4c60ba86299dcc4edd4e27e558e5331c650fcb16e0dcd2922536"), looks := false }, kinds := [], alts := [], laidByText := true, laidKinds := [.data], laidTests := true, laidLooks := .later }
def JoinAllUptoCardSaid : Prop := Claim7.holds Tryd.pinned (.plain (OpenSpec.upto joinAllSpec)) joinAllUptoCard

/-- THE SECOND FORM's CARD OF 'lockbarlaw07.JoinOne'. -/
def joinOneUptoCard : Claim7 := { stood := { row := joinOneUptoRow, standIns := [], harness := (true, "6e7cb919c7af4c60ba86299dcc4edd4e27e558e5331c650fcb16e0dcd2922536"), looks := false }, kinds := [], alts := [], laidByText := true, laidKinds := [.data], laidTests := true, laidLooks := .later }
def JoinOneUptoCardSaid : Prop := Claim7.holds Tryd.pinned (.plain (OpenSpec.upto joinOneSpec)) joinOneUptoCard
end Rows
end Go.Proofs.YtaelcmamgcndmaaDoor
