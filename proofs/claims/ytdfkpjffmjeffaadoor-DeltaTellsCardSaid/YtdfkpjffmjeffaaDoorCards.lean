/-
  DERIVED. GIVEN WITH THE SEED: THE CARDS: each row of YtdfkpjffmjeffaaDoorRows.lean that lists a variable, with what it lists TIED to the program's text (the seventh form; the later family's looks); each row that meets fmt, with fmt's text TOLD by the authors' own Lean function (tested against real Go, not proved from fmt's source: count such statements apart). THE CARD IS WHAT COUNTS. Prove the row's statement (the work); the ties are given (YtdfkpjffmjeffaaDoorTie.lean); close each card by the builder's one call (the guide's Derived/Test/ToyasCard.lean, 'card_holds'). Laid BY PROGRAM, IN A SANDBOX (cutbox-door.mjs). By AI agents, Wed Nov 11 2026. No macro, syntax, notation, axiom, sorry.
-/
import Derived.Test.YtdfkpjffmjeffaaDoorRows
import GoSem.ClaimSeven
namespace Go.Proofs.YtdfkpjffmjeffaaDoor
namespace Rows

/-- THE TIED CARD OF 'siltlaw07.DeltaTells'. -/
def deltaTellsCard : Claim7 := { stood := { row := deltaTellsRow, standIns := [], harness := (true, "76d1797d21991466074b66818c20a0cec90fb06036435fa2403a7b301fc5b740"), looks := true }, kinds := [], alts := [], laidByText := true, laidKinds := [.handle], laidTests := true, laidLooks := .later }
def DeltaTellsCardSaid : Prop := Claim7.holds Tryd.pinned (.plain (OpenSpec.ofChange deltaTellsSpec)) deltaTellsCard

/-- THE TIED CARD OF 'siltlaw07.DeltaBack'. -/
def deltaBackCard : Claim7 := { stood := { row := deltaBackRow, standIns := [], harness := (true, "76d1797d21991466074b66818c20a0cec90fb06036435fa2403a7b301fc5b740"), looks := true }, kinds := [], alts := [], laidByText := true, laidKinds := [.handle], laidTests := true, laidLooks := .later }
def DeltaBackCardSaid : Prop := Claim7.holds Tryd.pinned (.plain (OpenSpec.ofChange deltaBackSpec)) deltaBackCard

/-- THE TIED CARD OF 'siltlaw07.DeltaLays'. -/
def deltaLaysCard : Claim7 := { stood := { row := deltaLaysRow, standIns := [], harness := (true, "76d1797d21991466074b66818c20a0cec90fb06036435fa2403a7b301fc5b740"), looks := true }, kinds := [], alts := [], laidByText := true, laidKinds := [.handle], laidTests := true, laidLooks := .later }
def DeltaLaysCardSaid : Prop := Claim7.holds Tryd.pinned (.plain (OpenSpec.ofChange deltaLaysSpec)) deltaLaysCard

/-- THE TIED CARD OF 'siltlaw07.DeltaTwice'. -/
def deltaTwiceCard : Claim7 := { stood := { row := deltaTwiceRow, standIns := [], harness := (true, "76d1797d21991466074b66818c20a0cec90fb06036435fa2403a7b301fc5b740"), looks := true }, kinds := [], alts := [], laidByText := true, laidKinds := [.handle], laidTests := true, laidLooks := .later }
def DeltaTwiceCardSaid : Prop := Claim7.holds Tryd.pinned (.plain (OpenSpec.ofChange deltaTwiceSpec)) deltaTwiceCard

/-- THE SECOND FORM's CARD OF 'siltlaw07.DeltaTells'. -/
def deltaTellsUptoCard : Claim7 := { stood := { row := deltaTellsUptoRow, standIns := [], harness := (true, "76d1797d21991466074b66818c20a0cec90fb06036435fa2403a7b301fc5b740"), looks := true }, kinds := [], alts := [], laidByText := true, laidKinds := [.handle], laidTests := true, laidLooks := .later }
def DeltaTellsUptoCardSaid : Prop := Claim7.holds Tryd.pinned (.plain (OpenSpec.upto deltaTellsSpec)) deltaTellsUptoCard

/-- THE SECOND FORM's CARD OF 'siltlaw07.DeltaBack'. -/
def deltaBackUptoCard : Claim7 := { stood := { row := deltaBackUptoRow, standIns := [], harness := (true, "76d1797d21991466074b66818c20a0cec90fb06036435fa2403a7b301fc5b740"), looks := true }, kinds := [], alts := [], laidByText := true, laidKinds := [.handle], laidTests := true, laidLooks := .later }
def DeltaBackUptoCardSaid : Prop := Claim7.holds Tryd.pinned (.plain (OpenSpec.upto deltaBackSpec)) deltaBackUptoCard

/-- THE SECOND FORM's CARD OF 'siltlaw07.DeltaLays'. -/
def deltaLaysUptoCard : Claim7 := { stood := { row := deltaLaysUptoRow, standIns := [], harness := (true, "76d1797d21991466074b66818c20a0cec90fb06036435fa2403a7b301fc5b740"), looks := true }, kinds := [], alts := [], laidByText := true, laidKinds := [.handle], laidTests := true, laidLooks := .later }
def DeltaLaysUptoCardSaid : Prop := Claim7.holds Tryd.pinned (.plain (OpenSpec.upto deltaLaysSpec)) deltaLaysUptoCard

/-- THE SECOND FORM's CARD OF 'siltlaw07.DeltaTwice'. -/
def deltaTwiceUptoCard : Claim7 := { stood := { row := deltaTwiceUptoRow, standIns := [], harness := (true, "76d1797d21991466074b66818c20a0cec90fb06036435fa2403a7b301fc5b740"), looks := true }, kinds := [], alts := [], laidByText := true, laidKinds := [.handle], laidTests := true, laidLooks := .later }
def DeltaTwiceUptoCardSaid : Prop := Claim7.holds Tryd.pinned (.plain (OpenSpec.upto deltaTwiceSpec)) deltaTwiceUptoCard
end Rows
end Go.Proofs.YtdfkpjffmjeffaaDoor
