/-
  DERIVED. GIVEN WITH THE SEED: THE CARDS: each row of YtlmehhjgagddoaaDoorRows.lean that lists a variable, with what it lists TIED to the program's text (the seventh form; the later family's looks); each row that meets fmt, with fmt's text TOLD by the authors' own Lean function (tested against real Go, not proved from fmt's source: count such statements apart). THE CARD IS WHAT COUNTS. Prove the row's statement (the work); the ties are given (YtlmehhjgagddoaaDoorTie.lean); close each card by the builder's one call (the guide's Derived/Test/ToyasCard.lean, 'card_holds'). Laid BY PROGRAM, IN A SANDBOX (cutbox-door.mjs). By AI agents, Wed Nov 11 2026. No macro, syntax, notation, axiom, sorry.
-/
import Derived.Test.YtlmehhjgagddoaaDoorRows
import GoSem.ClaimSeven
namespace Go.Proofs.YtlmehhjgagddoaaDoor
namespace Rows

/-- THE TIED CARD OF 'siltlaw10.MapBack'. -/
def mapBackCard : Claim7 := { stood := { row := mapBackRow, standIns := [], harness := (true, "4804a5b5a7476415576bbc585f8f24258411fdc7b91f7c4be72b0dd2cb78d3d4"), looks := true }, kinds := [], alts := [], laidByText := true, laidKinds := [.data, .data, .data, .handle], laidTests := true, laidLooks := .later }
def MapBackCardSaid : Prop := Claim7.holds Tryd.pinned (.plain (OpenSpec.ofChange mapBackSpec)) mapBackCard

/-- THE TIED CARD OF 'siltlaw10.MapPages'. -/
def mapPagesCard : Claim7 := { stood := { row := mapPagesRow, standIns := [], harness := (true, "4804a5b5a7476415576bbc585f8f24258411fdc7b91f7c4be72b0dd2cb78d3d4"), looks := true }, kinds := [], alts := [], laidByText := true, laidKinds := [.data, .data, .data, .handle], laidTests := true, laidLooks := .later }
def MapPagesCardSaid : Prop := Claim7.holds Tryd.pinned (.plain (OpenSpec.ofChange mapPagesSpec)) mapPagesCard

/-- THE SECOND FORM's CARD OF 'siltlaw10.MapBack'. -/
def mapBackUptoCard : Claim7 := { stood := { row := mapBackUptoRow, standIns := [], harness := (true, "4804a5b5a7476415576bbc585f8f24258411fdc7b91f7c4be72b0dd2cb78d3d4"), looks := true }, kinds := [], alts := [], laidByText := true, laidKinds := [.data, .data, .data, .handle], laidTests := true, laidLooks := .later }
def MapBackUptoCardSaid : Prop := Claim7.holds Tryd.pinned (.plain (OpenSpec.upto mapBackSpec)) mapBackUptoCard

/-- THE SECOND FORM's CARD OF 'siltlaw10.MapPages'. -/
def mapPagesUptoCard : Claim7 := { stood := { row := mapPagesUptoRow, standIns := [], harness := (true, "4804a5b5a7476415576bbc585f8f24258411fdc7b91f7c4be72b0dd2cb78d3d4"), looks := true }, kinds := [], alts := [], laidByText := true, laidKinds := [.data, .data, .data, .handle], laidTests := true, laidLooks := .later }
def MapPagesUptoCardSaid : Prop := Claim7.holds Tryd.pinned (.plain (OpenSpec.upto mapPagesSpec)) mapPagesUptoCard
end Rows
end Go.Proofs.YtlmehhjgagddoaaDoor
