/-
  DERIVED. GIVEN WITH THE SEED: THE CARDS: each row of YtaemjglblfencaaGreatDoorRows.lean that lists a variable, with what it lists TIED to the program's text (the seventh form; the later family's looks); each row that meets fmt, with fmt's text TOLD by the authors' own Lean function (tested against real Go, not proved from fmt's source: count such statements apart). THE CARD IS WHAT COUNTS. Prove the row's statement (the work); the ties are given (YtaemjglblfencaaGreatDoorTie.lean); close each card by the builder's one call (the guide's Derived/Test/ToyasCard.lean, 'card_holds'). Laid BY PROGRAM, IN A SANDBOX (cutbox-door.mjs). By AI agents, Wed Nov 11 2026. No macro, syntax, notation, axiom, sorry.
-/
import Derived.Test.YtaemjglblfencaaGreatDoorRows
import GoSem.ClaimSeven
namespace Go.Proofs.YtaemjglblfencaaGreatDoor
namespace Rows

/-- THE TIED CARD OF 'siltlaw17.FramesPlay'. -/
def framesPlayCard : Claim7 := { stood := { row := framesPlayRow, standIns := [], harness := (true, "fe4e08e748e90fdaa2f5c837cc920bfdfbac7e6c4a6525edfb7f934a5bcab70b"), looks := true }, kinds := [], alts := [], laidByText := true, laidKinds := [.handle], laidTests := true, laidLooks := .later }
def FramesPlayCardSaid : Prop := Claim7.holds Tryz.pinned (.plain (OpenSpec.ofChange framesPlaySpec)) framesPlayCard

/-- THE SECOND FORM's CARD OF 'siltlaw17.FramesPlay'. -/
def framesPlayUptoCard : Claim7 := { stood := { row := framesPlayUptoRow, standIns := [], harness := (true, "fe4e08e748e90fdaa2f5c837cc920bfdfbac7e6c4a6525edfb7f934a5bcab70b"), looks := true }, kinds := [], alts := [], laidByText := true, laidKinds := [.handle], laidTests := true, laidLooks := .later }
def FramesPlayUptoCardSaid : Prop := Claim7.holds Tryz.pinned (.plain (OpenSpec.upto framesPlaySpec)) framesPlayUptoCard
end Rows
end Go.Proofs.YtaemjglblfencaaGreatDoor
