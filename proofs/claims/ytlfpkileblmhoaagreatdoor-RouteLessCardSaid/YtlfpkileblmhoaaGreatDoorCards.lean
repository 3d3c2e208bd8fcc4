/-
  DERIVED. GIVEN WITH THE SEED: THE CARDS: each row of YtlfpkileblmhoaaGreatDoorRows.lean that lists a variable, with what it lists TIED to the program's text (the seventh form; the later family's looks); each row that meets fmt, with fmt's text TOLD by the authors' own Lean function (tested against real Go, not proved from fmt's source: count such statements apart). THE CARD IS WHAT COUNTS. Prove the row's statement (the work); the ties are given (YtlfpkileblmhoaaGreatDoorTie.lean); close each card by the builder's one call (the guide's Derived/Test/ToyasCard.lean, 'card_holds'). Laid BY PROGRAM, IN A SANDBOX (cutbox-door.mjs). By AI agents, Wed Nov 11 2026. No macro, syntax, notation, axiom, sorry.
-/
import Derived.Test.YtlfpkileblmhoaaGreatDoorRows
import GoSem.ClaimSeven
namespace Go.Proofs.YtlfpkileblmhoaaGreatDoor
namespace Rows

/-- THE TIED CARD OF 'lockbarlaw11.RouteTells'. -/
def routeTellsCard : Claim7 := { stood := { row := routeTellsRow, standIns := [], harness := (true, "7bab9606f7b2820fdc4c0d8a9c7097334957cf0467ee73681176bb60bab098fe"), looks := false }, kinds := [], alts := [], laidByText := true, laidKinds := [.data], laidTests := true, laidLooks := .later }
def RouteTellsCardSaid : Prop := Claim7.holds Tryz.pinned (.plain (OpenSpec.ofChange routeTellsSpec)) routeTellsCard

/-- THE TIED CARD OF 'lockbarlaw11.RoutePath'. -/
def routePathCard : Claim7 := { stood := { row := routePathRow, standIns := [], harness := (true, "7bab9606f7b2820fdc4c0d8a9c7097334957cf0467ee73681176bb60bab098fe"), looks := false }, kinds := [], alts := [], laidByText := true, laidKinds := [.data], laidTests := true, laidLooks := .later }
def RoutePathCardSaid : Prop := Claim7.holds Tryz.pinned (.plain (OpenSpec.ofChange routePathSpec)) routePathCard

/-- THE TIED CARD OF 'lockbarlaw11.RouteLess'. -/
def routeLessCard : Claim7 := { stood := { row := routeLessRow, standIns := [], harness := (true, "7bab9606f7b2820fdc4c0d8a9c7097334957cf0467ee73681176bb60bab098fe"), looks := false }, kinds := [], alts := [], laidByText := true, laidKinds := [.data], laidTests := true, laidLooks := .later }
def RouteLessCardSaid : Prop := Claim7.holds Tryz.pinned (.plain (OpenSpec.ofChange routeLessSpec)) routeLessCard

/-- THE TIED CARD OF 'lockbarlaw11.RouteParts'. -/
def routePartsCard : Claim7 := { stood := { row := routePartsRow, standIns := [], harness := (true, "7bab9606f7b2820fdc4c0d8a9c7097334957cf0467ee73681176bb60bab098fe"), looks := false }, kinds := [], alts := [], laidByText := true, laidKinds := [.data], laidTests := true, laidLooks := .later }
def RoutePartsCardSaid : Prop := Claim7.holds Tryz.pinned (.plain (OpenSpec.ofChange routePartsSpec)) routePartsCard

/-- THE TIED CARD OF 'lockbarlaw11.RouteGoes'. -/
def routeGoesCard : Claim7 := { stood := { row := routeGoesRow, standIns := [], harness := (true, "7bab9606f7b2820fdc4c0d8a9c7097334957cf0467ee73681176bb60bab098fe"), looks := false }, kinds := [], alts := [], laidByText := true, laidKinds := [.data], laidTests := true, laidLooks := .later }
def RouteGoesCardSaid : Prop := Claim7.holds Tryz.pinned (.plain (OpenSpec.ofChange routeGoesSpec)) routeGoesCard

/-- THE SECOND FORM's CARD OF 'lockbarlaw11.RouteTells'. -/
def routeTellsUptoCard : Claim7 := { stood := { row := routeTellsUptoRow, standIns := [], harness := (true, "7bab9606f7b2820fdc4c0d8a9c7097334957cf0467ee73681176bb60bab098fe"), looks := false }, kinds := [], alts := [], laidByText := true, laidKinds := [.data], laidTests := true, laidLooks := .later }
def RouteTellsUptoCardSaid : Prop := Claim7.holds Tryz.pinned (.plain (OpenSpec.upto routeTellsSpec)) routeTellsUptoCard

/-- THE SECOND FORM's CARD OF 'lockbarlaw11.RoutePath'. -/
def routePathUptoCard : Claim7 := { stood := { row := routePathUptoRow, standIns := [], harness := (true, "7bab9606f7b2820fdc4c0d8a9c7097334957cf0467ee73681176bb60bab098fe"), looks := false }, kinds := [], alts := [], laidByText := true, laidKinds := [.data], laidTests := true, laidLooks := .later }
def RoutePathUptoCardSaid : Prop := Claim7.holds Tryz.pinned (.plain (OpenSpec.upto routePathSpec)) routePathUptoCard

/-- THE SECOND FORM's CARD OF 'lockbarlaw11.RouteLess'. -/
def routeLessUptoCard : Claim7 := { stood := { row := routeLessUptoRow, standIns := [], harness := (true, "7bab9606f7b2820fdc4c0d8a9c7097334957cf0467ee73681176bb60bab098fe"), looks := false }, kinds := [], alts := [], laidByText := true, laidKinds := [.data], laidTests := true, laidLooks := .later }
def RouteLessUptoCardSaid : Prop := Claim7.holds Tryz.pinned (.plain (OpenSpec.upto routeLessSpec)) routeLessUptoCard

/-- THE SECOND FORM's CARD OF 'lockbarlaw11.RouteParts'. -/
def routePartsUptoCard : Claim7 := { stood := { row := routePartsUptoRow, standIns := [], harness := (true, "7bab9606f7b2820fdc4c0d8a9c7097334957cf0467ee73681176bb60bab098fe"), looks := false }, kinds := [], alts := [], laidByText := true, laidKinds := [.data], laidTests := true, laidLooks := .later }
def RoutePartsUptoCardSaid : Prop := Claim7.holds Tryz.pinned (.plain (OpenSpec.upto routePartsSpec)) routePartsUptoCard

/-- THE SECOND FORM's CARD OF 'lockbarlaw11.RouteGoes'. -/
def routeGoesUptoCard : Claim7 := { stood := { row := routeGoesUptoRow, standIns := [], harness := (true, "7bab9606f7b2820fdc4c0d8a9c7097334957cf0467ee73681176bb60bab098fe"), looks := false }, kinds := [], alts := [], laidByText := true, laidKinds := [.data], laidTests := true, laidLooks := .later }
def RouteGoesUptoCardSaid : Prop := Claim7.holds Tryz.pinned (.plain (OpenSpec.upto routeGoesSpec)) routeGoesUptoCard
end Rows
end Go.Proofs.YtlfpkileblmhoaaGreatDoor
