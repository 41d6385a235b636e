/-
  DERIVED. GIVEN WITH THE SEED: THE CARDS: each row of YtmlniannilnmhaaGreatDoorRows.lean that lists a variable, with what it lists TIED to the program's text (the seventh form; the later family's looks); each row that meets fmt, with fmt's text TOLD by the authors' own Lean function (tested against real Go, not proved from fmt's source: count such statements apart). THE CARD IS WHAT COUNTS. Prove the row's statement (the work); the ties are given (YtmlniannilnmhaaGreatDoorTie.lean); close each card by the builder's one call (the guide's Derived/Test/ToyasCard.lean, 'card_holds'). Laid BY PROGRAM, IN A SANDBOX (cutbox-door.mjs). By AI agents, Wed Nov 11 2026. No macro, syntax, notation, axiom, sorry.
-/
import Derived.Test.YtmlniannilnmhaaGreatDoorRows
import GoSem.ClaimSeven
namespace Go.Proofs.YtmlniannilnmhaaGreatDoor
namespace Rows

/-- THE TIED CARD OF 'siltlaw14.JournalPlays'. -/
def journalPlaysCard : Claim7 := { stood := { row := journalPlaysRow, standIns := [], harness := (true, "03b99529109b4ee50ab8f968a19da9fc58f1b7188c66339312ae2690f61cb520"), looks := true }, kinds := [], alts := [], laidByText := true, laidKinds := [.data, .data, .data, .handle], laidTests := true, laidLooks := .later }
def JournalPlaysCardSaid : Prop := Claim7.holds Tryz.pinned (.plain (OpenSpec.ofChange journalPlaysSpec)) journalPlaysCard

/-- THE TIED CARD OF 'siltlaw14.JournalApart'. -/
def journalApartCard : Claim7 := { stood := { row := journalApartRow, standIns := [], harness := (true, "03b99529109b4ee50ab8f968a19da9fc58f1b7188c66339312ae2690f61cb520"), looks := true }, kinds := [], alts := [], laidByText := true, laidKinds := [.data, .data, .data, .handle], laidTests := true, laidLooks := .later }
def JournalApartCardSaid : Prop := Claim7.holds Tryz.pinned (.plain (OpenSpec.ofChange journalApartSpec)) journalApartCard

/-- THE TIED CARD OF 'siltlaw14.JournalNone'. -/
def journalNoneCard : Claim7 := { stood := { row := journalNoneRow, standIns := [], harness := (true, "03b99529109b4ee50ab8f968a19da9fc58f1b7188c66339312ae2690f61cb520"), looks := true }, kinds := [], alts := [], laidByText := true, laidKinds := [.data, .data, .data, .handle], laidTests := true, laidLooks := .later }
def JournalNoneCardSaid : Prop := Claim7.holds Tryz.pinned (.plain (OpenSpec.ofChange journalNoneSpec)) journalNoneCard

/-- THE TIED CARD OF 'siltlaw14.JournalRoom'. -/
def journalRoomCard : Claim7 := { stood := { row := journalRoomRow, standIns := [], harness := (true, "03b99529109b4ee50ab8f968a19da9fc58f1b7188c66339312ae2690f61cb520"), looks := true }, kinds := [], alts := [], laidByText := true, laidKinds := [.data, .data, .data, .handle], laidTests := true, laidLooks := .later }
def JournalRoomCardSaid : Prop := Claim7.holds Tryz.pinned (.plain (OpenSpec.ofChange journalRoomSpec)) journalRoomCard

/-- THE TIED CARD OF 'siltlaw14.JournalFails'. -/
def journalFailsCard : Claim7 := { stood := { row := journalFailsRow, standIns := [], harness := (true, "03b99529109b4ee50ab8f968a19da9fc58f1b7188c66339312ae2690f61cb520"), looks := true }, kinds := [], alts := [], laidByText := true, laidKinds := [.data, .data, .data, .handle], laidTests := true, laidLooks := .later }
def JournalFailsCardSaid : Prop := Claim7.holds Tryz.pinned (.plain (OpenSpec.ofChange journalFailsSpec)) journalFailsCard

/-- THE TIED CARD OF 'siltlaw14.JournalSets'. -/
def journalSetsCard : Claim7 := { stood := { row := journalSetsRow, standIns := [], harness := (true, "03b99529109b4ee50ab8f968a19da9fc58f1b7188c66339312ae2690f61cb520"), looks := true }, kinds := [], alts := [], laidByText := true, laidKinds := [.data, .data, .data, .handle], laidTests := true, laidLooks := .later }
def JournalSetsCardSaid : Prop := Claim7.holds Tryz.pinned (.plain (OpenSpec.ofChange journalSetsSpec)) journalSetsCard

/-- THE SECOND FORM's CARD OF 'siltlaw14.JournalPlays'. -/
def journalPlaysUptoCard : Claim7 := { stood := { row := journalPlaysUptoRow, standIns := [], harness := (true, "03b99529109b4ee50ab8f968a19da9fc58f1b7188c66339312ae2690f61cb520"), looks := true }, kinds := [], alts := [], laidByText := true, laidKinds := [.data, .data, .data, .handle], laidTests := true, laidLooks := .later }
def JournalPlaysUptoCardSaid : Prop := Claim7.holds Tryz.pinned (.plain (OpenSpec.upto journalPlaysSpec)) journalPlaysUptoCard

/-- THE SECOND FORM's CARD OF 'siltlaw14.JournalApart'. -/
def journalApartUptoCard : Claim7 := { stood := { row := journalApartUptoRow, standIns := [], harness := (true, "03b99529109b4ee50ab8f968a19da9fc58f1b7188c66339312ae2690f61cb520"), looks := true }, kinds := [], alts := [], laidByText := true, laidKinds := [.data, .data, .data, .handle], laidTests := true, laidLooks := .later }
def JournalApartUptoCardSaid : Prop := Claim7.holds Tryz.pinned (.plain (OpenSpec.upto journalApartSpec)) journalApartUptoCard

/-- THE SECOND FORM's CARD OF 'siltlaw14.JournalNone'. -/
def journalNoneUptoCard : Claim7 := { stood := { row := journalNoneUptoRow, standIns := [], harness := (true, "03b99529109b4ee50ab8f968a19da9fc58f1b7188c66339312ae2690f61cb520"), looks := true }, kinds := [], alts := [], laidByText := true, laidKinds := [.data, .data, .data, .handle], laidTests := true, laidLooks := .later }
def JournalNoneUptoCardSaid : Prop := Claim7.holds Tryz.pinned (.plain (OpenSpec.upto journalNoneSpec)) journalNoneUptoCard

/-- THE SECOND FORM's CARD OF 'siltlaw14.JournalRoom'. -/
def journalRoomUptoCard : Claim7 := { stood := { row := journalRoomUptoRow, standIns := [], harness := (true, "03b99529109b4ee50ab8f968a19da9fc58f1b7188c66339312ae2690f61cb520"), looks := true }, kinds := [], alts := [], laidByText := true, laidKinds := [.data, .data, .data, .handle], laidTests := true, laidLooks := .later }
def JournalRoomUptoCardSaid : Prop := Claim7.holds Tryz.pinned (.plain (OpenSpec.upto journalRoomSpec)) journalRoomUptoCard

/-- THE SECOND FORM's CARD OF 'siltlaw14.JournalFails'. -/
def journalFailsUptoCard : Claim7 := { stood := { row := journalFailsUptoRow, standIns := [], harness := (true, "03b99529109b4ee50ab8f968a19da9fc58f1b7188c66339312ae2690f61cb520"), looks := true }, kinds := [], alts := [], laidByText := true, laidKinds := [.data, .data, .data, .handle], laidTests := true, laidLooks := .later }
def JournalFailsUptoCardSaid : Prop := Claim7.holds Tryz.pinned (.plain (OpenSpec.upto journalFailsSpec)) journalFailsUptoCard

/-- THE SECOND FORM's CARD OF 'siltlaw14.JournalSets'. -/
def journalSetsUptoCard : Claim7 := { stood := { row := journalSetsUptoRow, standIns := [], harness := (true, "03b99529109b4ee50ab8f968a19da9fc58f1b7188c66339312ae2690f61cb520"), looks := true }, kinds := [], alts := [], laidByText := true, laidKinds := [.data, .data, .data, .handle], laidTests := true, laidLooks := .later }
def JournalSetsUptoCardSaid : Prop := Claim7.holds Tryz.pinned (.plain (OpenSpec.upto journalSetsSpec)) journalSetsUptoCard
end Rows
end Go.Proofs.YtmlniannilnmhaaGreatDoor
