/-
  DERIVED. GIVEN WITH THE SEED: THE CARDS: each row of YtlleafhfogfngaaDoorRows.lean that lists a variable, with what it lists TIED to the program's text (the seventh form; the later family's looks); each row that meets fmt, with fmt's text TOLD by the authors' own Lean function (tested against real Go, not proved from fmt's source: count such statements apart). THE CARD IS WHAT COUNTS. Prove the row's statement (the work); the ties are given (YtlleafhfogfngaaDoorTie.lean); close each card by the builder's one call (the guide's Derived/Test/ToyasCard.lean, 'card_holds'). Laid BY PROGRAM, IN A SANDBOX (cutbox-door.mjs). By AI agents, Wed Nov 11 2026. No macro, syntax, notation, axiom, sorry.
-/
import Derived.Test.YtlleafhfogfngaaDoorRows
import GoSem.ClaimSeven
namespace Go.Proofs.YtlleafhfogfngaaDoor
namespace Rows

/-- THE TIED CARD OF 'siltlaw06.RegionCodes'. -/
def regionCodesCard : Claim7 := { stood := { row := regionCodesRow, standIns := [], harness := (true, "ce9cce2425c2ffbdc7af82dd0a31f2f79332ae676e9cdb762a3d40fd154c4855"), looks := true }, kinds := [], alts := [], laidByText := true, laidKinds := [.data, .data, .data, .handle], laidTests := true, laidLooks := .later }
def RegionCodesCardSaid : Prop := Claim7.holds Tryd.pinned (.plain (OpenSpec.ofChange regionCodesSpec)) regionCodesCard

/-- THE TIED CARD OF 'siltlaw06.RegionTorn'. -/
def regionTornCard : Claim7 := { stood := { row := regionTornRow, standIns := [], harness := (true, "ce9cce2425c2ffbdc7af82dd0a31f2f79332ae676e9cdb762a3d40fd154c4855"), looks := true }, kinds := [], alts := [], laidByText := true, laidKinds := [.data, .data, .data, .handle], laidTests := true, laidLooks := .later }
def RegionTornCardSaid : Prop := Claim7.holds Tryd.pinned (.plain (OpenSpec.ofChange regionTornSpec)) regionTornCard

/-- THE TIED CARD OF 'siltlaw06.RegionPlaces'. -/
def regionPlacesCard : Claim7 := { stood := { row := regionPlacesRow, standIns := [], harness := (true, "ce9cce2425c2ffbdc7af82dd0a31f2f79332ae676e9cdb762a3d40fd154c4855"), looks := true }, kinds := [], alts := [], laidByText := true, laidKinds := [.data, .data, .data, .handle], laidTests := true, laidLooks := .later }
def RegionPlacesCardSaid : Prop := Claim7.holds Tryd.pinned (.plain (OpenSpec.ofChange regionPlacesSpec)) regionPlacesCard

/-- THE TIED CARD OF 'siltlaw06.RegionRoots'. -/
def regionRootsCard : Claim7 := { stood := { row := regionRootsRow, standIns := [], harness := (true, "ce9cce2425c2ffbdc7af82dd0a31f2f79332ae676e9cdb762a3d40fd154c4855"), looks := true }, kinds := [], alts := [], laidByText := true, laidKinds := [.data, .data, .data, .handle], laidTests := true, laidLooks := .later }
def RegionRootsCardSaid : Prop := Claim7.holds Tryd.pinned (.plain (OpenSpec.ofChange regionRootsSpec)) regionRootsCard

/-- THE SECOND FORM's CARD OF 'siltlaw06.RegionCodes'. -/
def regionCodesUptoCard : Claim7 := { stood := { row := regionCodesUptoRow, standIns := [], harness := (true, "ce9cce2425c2ffbdc7af82dd0a31f2f79332ae676e9cdb762a3d40fd154c4855"), looks := true }, kinds := [], alts := [], laidByText := true, laidKinds := [.data, .data, .data, .handle], laidTests := true, laidLooks := .later }
def RegionCodesUptoCardSaid : Prop := Claim7.holds Tryd.pinned (.plain (OpenSpec.upto regionCodesSpec)) regionCodesUptoCard

/-- THE SECOND FORM's CARD OF 'siltlaw06.RegionTorn'. -/
def regionTornUptoCard : Claim7 := { stood := { row := regionTornUptoRow, standIns := [], harness := (true, "ce9cce2425c2ffbdc7af82dd0a31f2f79332ae676e9cdb762a3d40fd154c4855"), looks := true }, kinds := [], alts := [], laidByText := true, laidKinds := [.data, .data, .data, .handle], laidTests := true, laidLooks := .later }
def RegionTornUptoCardSaid : Prop := Claim7.holds Tryd.pinned (.plain (OpenSpec.upto regionTornSpec)) regionTornUptoCard

/-- THE SECOND FORM's CARD OF 'siltlaw06.RegionPlaces'. -/
def regionPlacesUptoCard : Claim7 := { stood := { row := regionPlacesUptoRow, standIns := [], harness := (true, "ce9cce2425c2ffbdc7af82dd0a31f2f79332ae676e9cdb762a3d40fd154c4855"), looks := true }, kinds := [], alts := [], laidByText := true, laidKinds := [.data, .data, .data, .handle], laidTests := true, laidLooks := .later }
def RegionPlacesUptoCardSaid : Prop := Claim7.holds Tryd.pinned (.plain (OpenSpec.upto regionPlacesSpec)) regionPlacesUptoCard

/-- THE SECOND FORM's CARD OF 'siltlaw06.RegionRoots'. -/
def regionRootsUptoCard : Claim7 := { stood := { row := regionRootsUptoRow, standIns := [], harness := (true, "ce9cce2425c2ffbdc7af82dd0a31f2f79332ae676e9cdb762a3d40fd154c4855"), looks := true }, kinds := [], alts := [], laidByText := true, laidKinds := [.data, .data, .data, .handle], laidTests := true, laidLooks := .later }
def RegionRootsUptoCardSaid : Prop := Claim7.holds Tryd.pinned (.plain (OpenSpec.upto regionRootsSpec)) regionRootsUptoCard
end Rows
end Go.Proofs.YtlleafhfogfngaaDoor
