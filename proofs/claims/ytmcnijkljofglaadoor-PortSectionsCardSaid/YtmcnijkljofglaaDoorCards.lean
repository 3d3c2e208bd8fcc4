/-
  DERIVED. GIVEN WITH THE SEED: THE CARDS: each row of YtmcnijkljofglaaDoorRows.lean that lists a variable, with what it lists TIED to the program's text (the seventh form; the later family's looks); each row that meets fmt, with fmt's text TOLD by the authors' own Lean function (tested against real Go, not proved from fmt's source: count such statements apart). THE CARD IS WHAT COUNTS. Prove the row's statement (the work); the ties are given (YtmcnijkljofglaaDoorTie.lean); close each card by the builder's one call (the guide's Derived/Test/ToyasCard.lean, 'card_holds'). Laid BY PROGRAM, IN A SANDBOX (cutbox-door.mjs). By AI agents, Wed Nov 11 2026. No macro, syntax, notation, axiom, sorry.
-/
import Derived.Test.YtmcnijkljofglaaDoorRows
import GoSem.ClaimSeven
namespace Go.Proofs.YtmcnijkljofglaaDoor
namespace Rows

/-- THE TIED CARD OF 'lockbarlaw05.PortTells'. -/
def portTellsCard : Claim7 := { stood := { row := portTellsRow, standIns := [], harness := (true, "0ab810d69d9c93746683c75bd1d064dd9f17811866f40386d3fb62b1633ea040"), looks := false }, kinds := [], alts := [], laidByText := true, laidKinds := [.data], laidTests := true, laidLooks := .later }
def PortTellsCardSaid : Prop := Claim7.holds Tryd.pinned (.plain (OpenSpec.ofChange portTellsSpec)) portTellsCard

/-- THE TIED CARD OF 'lockbarlaw05.PortWays'. -/
def portWaysCard : Claim7 := { stood := { row := portWaysRow, standIns := [], harness := (true, "0ab810d69d9c93746683c75bd1d064dd9f17811866f40386d3fb62b1633ea040"), looks := false }, kinds := [], alts := [], laidByText := true, laidKinds := [.data], laidTests := true, laidLooks := .later }
def PortWaysCardSaid : Prop := Claim7.holds Tryd.pinned (.plain (OpenSpec.ofChange portWaysSpec)) portWaysCard

/-- THE TIED CARD OF 'lockbarlaw05.PortKinds'. -/
def portKindsCard : Claim7 := { stood := { row := portKindsRow, standIns := [], harness := (true, "0ab810d69d9c93746683c75bd1d064dd9f17811866f40386d3fb62b1633ea040"), looks := false }, kinds := [], alts := [], laidByText := true, laidKinds := [.data], laidTests := true, laidLooks := .later }
def PortKindsCardSaid : Prop := Claim7.holds Tryd.pinned (.plain (OpenSpec.ofChange portKindsSpec)) portKindsCard

/-- THE TIED CARD OF 'lockbarlaw05.PortPos'. -/
def portPosCard : Claim7 := { stood := { row := portPosRow, standIns := [], harness := (true, "0ab810d69d9c93746683c75bd1d064dd9f17811866f40386d3fb62b1633ea040"), looks := false }, kinds := [], alts := [], laidByText := true, laidKinds := [.data], laidTests := true, laidLooks := .later }
def PortPosCardSaid : Prop := Claim7.holds Tryd.pinned (.plain (OpenSpec.ofChange portPosSpec)) portPosCard

/-- THE TIED CARD OF 'lockbarlaw05.PortSections'. -/
def portSectionsCard : Claim7 := { stood := { row := portSectionsRow, standIns := [], harness := (true, "0ab810d69d9c93746683c75bd1d064dd9f17811866f40386d3fb62b1633ea040"), looks := false }, kinds := [], alts := [], laidByText := true, laidKinds := [.data], laidTests := true, laidLooks := .later }
def PortSectionsCardSaid : Prop := Claim7.holds Tryd.pinned (.plain (OpenSpec.ofChange portSectionsSpec)) portSectionsCard

/-- THE SECOND FORM's CARD OF 'lockbarlaw05.PortTells'. -/
def portTellsUptoCard : Claim7 := { stood := { row := portTellsUptoRow, standIns := [], harness := (true, "0ab810d69d9c93746683c75bd1d064dd9f17811866f40386d3fb62b1633ea040"), looks := false }, kinds := [], alts := [], laidByText := true, laidKinds := [.data], laidTests := true, laidLooks := .later }
def PortTellsUptoCardSaid : Prop := Claim7.holds Tryd.pinned (.plain (OpenSpec.upto portTellsSpec)) portTellsUptoCard

/-- THE SECOND FORM's CARD OF 'lockbarlaw05.PortWays'. -/
def portWaysUptoCard : Claim7 := { stood := { row := portWaysUptoRow, standIns := [], harness := (true, "0ab810d69d9c93746683c75bd1d064dd9f17811866f40386d3fb62b1633ea040"), looks := false }, kinds := [], alts := [], laidByText := true, laidKinds := [.data], laidTests := true, laidLooks := .later }
def PortWaysUptoCardSaid : Prop := Claim7.holds Tryd.pinned (.plain (OpenSpec.upto portWaysSpec)) portWaysUptoCard

/-- THE SECOND FORM's CARD OF 'lockbarlaw05.PortKinds'. -/
def portKindsUptoCard : Claim7 := { stood := { row := portKindsUptoRow, standIns := [], harness := (true, "0ab810d69d9c93746683c75bd1d064dd9f17811866f40386d3fb62b1633ea040"), looks := false }, kinds := [], alts := [], laidByText := true, laidKinds := [.data], laidTests := true, laidLooks := .later }
def PortKindsUptoCardSaid : Prop := Claim7.holds Tryd.pinned (.plain (OpenSpec.upto portKindsSpec)) portKindsUptoCard

/-- THE SECOND FORM's CARD OF 'lockbarlaw05.PortPos'. -/
def portPosUptoCard : Claim7 := { stood := { row := portPosUptoRow, standIns := [], harness := (true, "0ab810d69d9c93746683c75bd1d064dd9f17811866f40386d3fb62b1633ea040"), looks := false }, kinds := [], alts := [], laidByText := true, laidKinds := [.data], laidTests := true, laidLooks := .later }
def PortPosUptoCardSaid : Prop := Claim7.holds Tryd.pinned (.plain (OpenSpec.upto portPosSpec)) portPosUptoCard

/-- THE SECOND FORM's CARD OF 'lockbarlaw05.PortSections'. -/
def portSectionsUptoCard : Claim7 := { stood := { row := portSectionsUptoRow, standIns := [], harness := (true, "0ab810d69d9c93746683c75bd1d064dd9f17811866f40386d3fb62b1633ea040"), looks := false }, kinds := [], alts := [], laidByText := true, laidKinds := [.data], laidTests := true, laidLooks := .later }
def PortSectionsUptoCardSaid : Prop := Claim7.holds Tryd.pinned (.plain (OpenSpec.upto portSectionsSpec)) portSectionsUptoCard
end Rows
end Go.Proofs.YtmcnijkljofglaaDoor
