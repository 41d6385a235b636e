/-
  DERIVED. GIVEN WITH THE SEED: THE CARDS: each row of YtoiekieddkadmaaDoorRows.lean that lists a variable, with what it lists TIED to the program's text (the seventh form; the later family's looks); each row that meets fmt, with fmt's text TOLD by the authors' own Lean function (tested against real Go, not proved from fmt's source: count such statements apart). THE CARD IS WHAT COUNTS. Prove the row's statement (the work); the ties are given (YtoiekieddkadmaaDoorTie.lean); close each card by the builder's one call (the guide's Derived/Test/ToyasCard.lean, 'card_holds'). Laid BY PROGRAM, IN A SANDBOX (cutbox-door.mjs). By AI agents, Wed Nov 11 2026. No macro, syntax, notation, axiom, sorry.
-/
import Derived.Test.YtoiekieddkadmaaDoorRows
import GoSem.ClaimSeven
namespace Go.Proofs.YtoiekieddkadmaaDoor
namespace Rows

/-- THE TIED CARD OF 'siltlaw19.AnchorNone'. -/
def anchorNoneCard : Claim7 := { stood := { row := anchorNoneRow, standIns := [], harness := (true, "59987dddab2a07385b81b4b692030d7015368df49aaa11d43b6d92cb87e611d1"), looks := true }, kinds := [], alts := [], laidByText := true, laidKinds := [.data, .data, .data, .handle], laidTests := true, laidLooks := .later }
def AnchorNoneCardSaid : Prop := Claim7.holds Tryd.pinned (.plain (OpenSpec.ofChange anchorNoneSpec)) anchorNoneCard

/-- THE SECOND FORM's CARD OF 'siltlaw19.AnchorNone'. -/
def anchorNoneUptoCard : Claim7 := { stood := { row := anchorNoneUptoRow, standIns := [], harness := (true, "59987dddab2a07385b81b4b692030d7015368df49aaa11d43b6d92cb87e611d1"), looks := true }, kinds := [], alts := [], laidByText := true, laidKinds := [.data, .data, .data, .handle], laidTests := true, laidLooks := .later }
def AnchorNoneUptoCardSaid : Prop := Claim7.holds Tryd.pinned (.plain (OpenSpec.upto anchorNoneSpec)) anchorNoneUptoCard
end Rows
end Go.Proofs.YtoiekieddkadmaaDoor
