/-
  DERIVED. GIVEN WITH THE SEED: THE CARDS: each row of YtdbfmikeaoaebaaGreatDoorRows.lean that lists a variable, with what it lists TIED to the program's text (the seventh form; the later family's looks); each row that meets fmt, with fmt's text TOLD by the authors' own Lean function (tested against real Go, not proved from fmt's source: count such statements apart). THE CARD IS WHAT COUNTS. Prove the row's statement (the work); the ties are given (YtdbfmikeaoaebaaGreatDoorTie.lean); close each card by the builder's one call (the guide's Derived/Test/ToyasCard.lean, 'card_holds'). Laid BY PROGRAM, IN A SANDBOX (cutbox-door.mjs). By AI agents, Wed Nov 11 2026. No macro, syntax, notation, axiom, sorry.
-/
import Derived.Test.YtdbfmikeaoaebaaGreatDoorRows
import GoSem.ClaimSeven
namespace Go.Proofs.YtdbfmikeaoaebaaGreatDoor
namespace Rows

/-- THE TIED CARD OF 'siltlaw20.ChainReads'. -/
def chainReadsCard : Claim7 := { stood := { row := chainReadsRow, standIns := [], harness := (true, "98170564edb145c9066f110f09e1af82b2940ae39d06d5763be28d138e45c0b5"), looks := true }, kinds := [], alts := [], laidByText := true, laidKinds := [.data, .data, .data, .handle], laidTests := true, laidLooks := .later }
def ChainReadsCardSaid : Prop := Claim7.holds Tryz.pinned (.plain (OpenSpec.ofChange chainReadsSpec)) chainReadsCard

/-- THE TIED CARD OF 'siltlaw20.LoadNone'. -/
def loadNoneCard : Claim7 := { stood := { row := loadNoneRow, standIns := [], harness := (true, "98170564edb145c9066f110f09e1af82b2940ae39d06d5763be28d138e45c0b5"), looks := true }, kinds := [], alts := [], laidByText := true, laidKinds := [.data, .data, .data, .handle], laidTests := true, laidLooks := .later }
def LoadNoneCardSaid : Prop := Claim7.holds Tryz.pinned (.plain (OpenSpec.ofChange loadNoneSpec)) loadNoneCard

/-- THE TIED CARD OF 'siltlaw20.LoadRolls'. -/
def loadRollsCard : Claim7 := { stood := { row := loadRollsRow, standIns := [], harness := (true, "98170564edb145c9066f110f09e1af82b2940ae39d06d5763be28d138e45c0b5"), looks := true }, kinds := [], alts := [], laidByText := true, laidKinds := [.data, .data, .data, .handle], laidTests := true, laidLooks := .later }
def LoadRollsCardSaid : Prop := Claim7.holds Tryz.pinned (.plain (OpenSpec.ofChange loadRollsSpec)) loadRollsCard

/-- THE TIED CARD OF 'siltlaw20.LoadSpoilt'. -/
def loadSpoiltCard : Claim7 := { stood := { row := loadSpoiltRow, standIns := [], harness := (true, "98170564edb145c9066f110f09e1af82b2940ae39d06d5763be28d138e45c0b5"), looks := true }, kinds := [], alts := [], laidByText := true, laidKinds := [.data, .data, .data, .handle], laidTests := true, laidLooks := .later }
def LoadSpoiltCardSaid : Prop := Claim7.holds Tryz.pinned (.plain (OpenSpec.ofChange loadSpoiltSpec)) loadSpoiltCard

/-- THE TIED CARD OF 'siltlaw20.ChainDeltas'. -/
def chainDeltasCard : Claim7 := { stood := { row := chainDeltasRow, standIns := [], harness := (true, "98170564edb145c9066f110f09e1af82b2940ae39d06d5763be28d138e45c0b5"), looks := true }, kinds := [], alts := [], laidByText := true, laidKinds := [.data, .data, .data, .handle], laidTests := true, laidLooks := .later }
def ChainDeltasCardSaid : Prop := Claim7.holds Tryz.pinned (.plain (OpenSpec.ofChange chainDeltasSpec)) chainDeltasCard

/-- THE SECOND FORM's CARD OF 'siltlaw20.ChainReads'. -/
def chainReadsUptoCard : Claim7 := { stood := { row := chainReadsUptoRow, standIns := [], harness := (true, "98170564edb145c9066f110f09e1af82b2940ae39d06d5763be28d138e45c0b5"), looks := true }, kinds := [], alts := [], laidByText := true, laidKinds := [.data, .data, .data, .handle], laidTests := true, laidLooks := .later }
def ChainReadsUptoCardSaid : Prop := Claim7.holds Tryz.pinned (.plain (OpenSpec.upto chainReadsSpec)) chainReadsUptoCard

/-- THE SECOND FORM's CARD OF 'siltlaw20.LoadNone'. -/
def loadNoneUptoCard : Claim7 := { stood := { row := loadNoneUptoRow, standIns := [], harness := (true, "98170564edb145c9066f110f09e1af82b2940ae39d06d5763be28d138e45c0b5"), looks := true }, kinds := [], alts := [], laidByText := true, laidKinds := [.data, .data, .data, .handle], laidTests := true, laidLooks := .later }
def LoadNoneUptoCardSaid : Prop := Claim7.holds Tryz.pinned (.plain (OpenSpec.upto loadNoneSpec)) loadNoneUptoCard

/-- THE SECOND FORM's CARD OF 'siltlaw20.LoadRolls'. -/
def loadRollsUptoCard : Claim7 := { stood := { row := loadRollsUptoRow, standIns := [], harness := (true, "98170564edb145c9066f110f09e1af82b2940ae39d06d5763be28d138e45c0b5"), looks := true }, kinds := [], alts := [], laidByText := true, laidKinds := [.data, .data, .data, .handle], laidTests := true, laidLooks := .later }
def LoadRollsUptoCardSaid : Prop := Claim7.holds Tryz.pinned (.plain (OpenSpec.upto loadRollsSpec)) loadRollsUptoCard

/-- THE SECOND FORM's CARD OF 'siltlaw20.LoadSpoilt'. -/
def loadSpoiltUptoCard : Claim7 := { stood := { row := loadSpoiltUptoRow, standIns := [], harness := (true, "98170564edb145c9066f110f09e1af82b2940ae39d06d5763be28d138e45c0b5"), looks := true }, kinds := [], alts := [], laidByText := true, laidKinds := [.data, .data, .data, .handle], laidTests := true, laidLooks := .later }
def LoadSpoiltUptoCardSaid : Prop := Claim7.holds Tryz.pinned (.plain (OpenSpec.upto loadSpoiltSpec)) loadSpoiltUptoCard

/-- THE SECOND FORM's CARD OF 'siltlaw20.ChainDeltas'. -/
def chainDeltasUptoCard : Claim7 := { stood := { row := chainDeltasUptoRow, standIns := [], harness := (true, "98170564edb145c9066f110f09e1af82b2940ae39d06d5763be28d138e45c0b5"), looks := true }, kinds := [], alts := [], laidByText := true, laidKinds := [.data, .data, .data, .handle], laidTests := true, laidLooks := .later }
def ChainDeltasUptoCardSaid : Prop := Claim7.holds Tryz.pinned (.plain (OpenSpec.upto chainDeltasSpec)) chainDeltasUptoCard
end Rows
end Go.Proofs.YtdbfmikeaoaebaaGreatDoor
