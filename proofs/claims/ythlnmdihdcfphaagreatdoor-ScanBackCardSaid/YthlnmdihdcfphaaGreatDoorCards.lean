/-
  DERIVED. GIVEN WITH THE SEED: THE CARDS: each row of YthlnmdihdcfphaaGreatDoorRows.lean that lists a variable, with what it lists TIED to the program's text (the seventh form; the later family's looks); each row that meets fmt, with fmt's text TOLD by the authors' own Lean function (tested against real Go, not proved from fmt's source: count such statements apart). THE CARD IS WHAT COUNTS. Prove the row's statement (the work); the ties are given (YthlnmdihdcfphaaGreatDoorTie.lean); close each card by the builder's one call (the guide's Derived/Test/ToyasCard.lean, 'card_holds'). Laid BY PROGRAM, IN A SANDBOX (cutbox-door.mjs). By AI agents, Wed Nov 11 2026. No macro, syntax, notation, axiom, sorry.
-/
import Derived.Test.YthlnmdihdcfphaaGreatDoorRows
import GoSem.ClaimSeven
namespace Go.Proofs.YthlnmdihdcfphaaGreatDoor
namespace Rows

/-- THE TIED CARD OF 'siltlaw15.ScanBack'. -/
def scanBackCard : Claim7 := { stood := { row := scanBackRow, standIns := [], harness := (true, "11603f017fea9b2c78756142a06d05a95fde5d33c88787b6064889d1351fec8a"), looks := true }, kinds := [], alts := [], laidByText := true, laidKinds := [.data, .data, .data, .handle], laidTests := true, laidLooks := .later }
def ScanBackCardSaid : Prop := Claim7.holds Tryz.pinned (.plain (OpenSpec.ofChange scanBackSpec)) scanBackCard

/-- THE TIED CARD OF 'siltlaw15.ScanNone'. -/
def scanNoneCard : Claim7 := { stood := { row := scanNoneRow, standIns := [], harness := (true, "11603f017fea9b2c78756142a06d05a95fde5d33c88787b6064889d1351fec8a"), looks := true }, kinds := [], alts := [], laidByText := true, laidKinds := [.data, .data, .data, .handle], laidTests := true, laidLooks := .later }
def ScanNoneCardSaid : Prop := Claim7.holds Tryz.pinned (.plain (OpenSpec.ofChange scanNoneSpec)) scanNoneCard

/-- THE TIED CARD OF 'siltlaw15.ScanStale'. -/
def scanStaleCard : Claim7 := { stood := { row := scanStaleRow, standIns := [], harness := (true, "11603f017fea9b2c78756142a06d05a95fde5d33c88787b6064889d1351fec8a"), looks := true }, kinds := [], alts := [], laidByText := true, laidKinds := [.data, .data, .data, .handle], laidTests := true, laidLooks := .later }
def ScanStaleCardSaid : Prop := Claim7.holds Tryz.pinned (.plain (OpenSpec.ofChange scanStaleSpec)) scanStaleCard

/-- THE TIED CARD OF 'siltlaw15.ScanFrom'. -/
def scanFromCard : Claim7 := { stood := { row := scanFromRow, standIns := [], harness := (true, "11603f017fea9b2c78756142a06d05a95fde5d33c88787b6064889d1351fec8a"), looks := true }, kinds := [], alts := [], laidByText := true, laidKinds := [.data, .data, .data, .handle], laidTests := true, laidLooks := .later }
def ScanFromCardSaid : Prop := Claim7.holds Tryz.pinned (.plain (OpenSpec.ofChange scanFromSpec)) scanFromCard

/-- THE SECOND FORM's CARD OF 'siltlaw15.ScanBack'. -/
def scanBackUptoCard : Claim7 := { stood := { row := scanBackUptoRow, standIns := [], harness := (true, "11603f017fea9b2c78756142a06d05a95fde5d33c88787b6064889d1351fec8a"), looks := true }, kinds := [], alts := [], laidByText := true, laidKinds := [.data, .data, .data, .handle], laidTests := true, laidLooks := .later }
def ScanBackUptoCardSaid : Prop := Claim7.holds Tryz.pinned (.plain (OpenSpec.upto scanBackSpec)) scanBackUptoCard

/-- THE SECOND FORM's CARD OF 'siltlaw15.ScanNone'. -/
def scanNoneUptoCard : Claim7 := { stood := { row := scanNoneUptoRow, standIns := [], harness := (true, "11603f017fea9b2c78756142a06d05a95fde5d33c88787b6064889d1351fec8a"), looks := true }, kinds := [], alts := [], laidByText := true, laidKinds := [.data, .data, .data, .handle], laidTests := true, laidLooks := .later }
def ScanNoneUptoCardSaid : Prop := Claim7.holds Tryz.pinned (.plain (OpenSpec.upto scanNoneSpec)) scanNoneUptoCard

/-- THE SECOND FORM's CARD OF 'siltlaw15.ScanStale'. -/
def scanStaleUptoCard : Claim7 := { stood := { row := scanStaleUptoRow, standIns := [], harness := (true, "11603f017fea9b2c78756142a06d05a95fde5d33c88787b6064889d1351fec8a"), looks := true }, kinds := [], alts := [], laidByText := true, laidKinds := [.data, .data, .data, .handle], laidTests := true, laidLooks := .later }
def ScanStaleUptoCardSaid : Prop := Claim7.holds Tryz.pinned (.plain (OpenSpec.upto scanStaleSpec)) scanStaleUptoCard

/-- THE SECOND FORM's CARD OF 'siltlaw15.ScanFrom'. -/
def scanFromUptoCard : Claim7 := { stood := { row := scanFromUptoRow, standIns := [], harness := (true, "11603f017fea9b2c78756142a06d05a95fde5d33c88787b6064889d1351fec8a"), looks := true }, kinds := [], alts := [], laidByText := true, laidKinds := [.data, .data, .data, .handle], laidTests := true, laidLooks := .later }
def ScanFromUptoCardSaid : Prop := Claim7.holds Tryz.pinned (.plain (OpenSpec.upto scanFromSpec)) scanFromUptoCard
end Rows
end Go.Proofs.YthlnmdihdcfphaaGreatDoor
