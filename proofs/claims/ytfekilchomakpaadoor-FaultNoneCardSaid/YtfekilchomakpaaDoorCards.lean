/-
  DERIVED. GIVEN WITH THE SEED: THE CARDS: each row of YtfekilchomakpaaDoorRows.lean that lists a variable, with what it lists TIED to the program's text (the seventh form; the later family's looks); each row that meets fmt, with fmt's text TOLD by the authors' own Lean function (tested against real Go, not proved from fmt's source: count such statements apart). THE CARD IS WHAT COUNTS. Prove the row's statement (the work); the ties are given (YtfekilchomakpaaDoorTie.lean); close each card by the builder's one call (the guide's Derived/Test/ToyasCard.lean, 'card_holds'). Laid BY PROGRAM, IN A SANDBOX (cutbox-door.mjs). By AI agents, Wed Nov 11 2026. No macro, syntax, notation, axiom, sorry.
-/
import Derived.Test.YtfekilchomakpaaDoorRows
import GoSem.ClaimSeven
namespace Go.Proofs.YtfekilchomakpaaDoor
namespace Rows

/-- THE TIED CARD OF 'siltlaw01.FaultKeeps'. -/
def faultKeepsCard : Claim7 := { stood := { row := faultKeepsRow, standIns := [], harness := (true, "8a6897b9f27f04cb6f1a5b98611bcb152b56b8da760ab6eac0a9af69cec4fc06"), looks := true }, kinds := [], alts := [], laidByText := true, laidKinds := [.data, .data, .data, .handle], laidTests := true, laidLooks := .later }
def FaultKeepsCardSaid : Prop := Claim7.holds Tryd.pinned (.plain (OpenSpec.ofChange faultKeepsSpec)) faultKeepsCard

/-- THE TIED CARD OF 'siltlaw01.FaultNone'. -/
def faultNoneCard : Claim7 := { stood := { row := faultNoneRow, standIns := [], harness := (true, "8a6897b9f27f04cb6f1a5b98611bcb152b56b8da760ab6eac0a9af69cec4fc06"), looks := true }, kinds := [], alts := [], laidByText := true, laidKinds := [.data, .data, .data, .handle], laidTests := true, laidLooks := .later }
def FaultNoneCardSaid : Prop := Claim7.holds Tryd.pinned (.plain (OpenSpec.ofChange faultNoneSpec)) faultNoneCard

/-- THE TIED CARD OF 'siltlaw01.FaultTwo'. -/
def faultTwoCard : Claim7 := { stood := { row := faultTwoRow, standIns := [], harness := (true, "8a6897b9f27f04cb6f1a5b98611bcb152b56b8da760ab6eac0a9af69cec4fc06"), looks := true }, kinds := [], alts := [], laidByText := true, laidKinds := [.data, .data, .data, .handle], laidTests := true, laidLooks := .later }
def FaultTwoCardSaid : Prop := Claim7.holds Tryd.pinned (.plain (OpenSpec.ofChange faultTwoSpec)) faultTwoCard

/-- THE TIED CARD OF 'siltlaw01.FaultTexts'. -/
def faultTextsCard : Claim7 := { stood := { row := faultTextsRow, standIns := [], harness := (true, "8a6897b9f27f04cb6f1a5b98611bcb152b56b8da760ab6eac0a9af69cec4fc06"), looks := true }, kinds := [], alts := [], laidByText := true, laidKinds := [.data, .data, .data, .handle], laidTests := true, laidLooks := .later }
def FaultTextsCardSaid : Prop := Claim7.holds Tryd.pinned (.plain (OpenSpec.ofChange faultTextsSpec)) faultTextsCard

/-- THE SECOND FORM's CARD OF 'siltlaw01.FaultKeeps'. -/
def faultKeepsUptoCard : Claim7 := { stood := { row := faultKeepsUptoRow, standIns := [], harness := (true, "8a6897b9f27f04cb6f1a5b98611bcb152b56b8da760ab6eac0a9af69cec4fc06"), looks := true }, kinds := [], alts := [], laidByText := true, laidKinds := [.data, .data, .data, .handle], laidTests := true, laidLooks := .later }
def FaultKeepsUptoCardSaid : Prop := Claim7.holds Tryd.pinned (.plain (OpenSpec.upto faultKeepsSpec)) faultKeepsUptoCard

/-- THE SECOND FORM's CARD OF 'siltlaw01.FaultNone'. -/
def faultNoneUptoCard : Claim7 := { stood := { row := faultNoneUptoRow, standIns := [], harness := (true, "8a6897b9f27f04cb6f1a5b98611bcb152b56b8da760ab6eac0a9af69cec4fc06"), looks := true }, kinds := [], alts := [], laidByText := true, laidKinds := [.data, .data, .data, .handle], laidTests := true, laidLooks := .later }
def FaultNoneUptoCardSaid : Prop := Claim7.holds Tryd.pinned (.plain (OpenSpec.upto faultNoneSpec)) faultNoneUptoCard

/-- THE SECOND FORM's CARD OF 'siltlaw01.FaultTwo'. -/
def faultTwoUptoCard : Claim7 := { stood := { row := faultTwoUptoRow, standIns := [], harness := (true, "8a6897b9f27f04cb6f1a5b98611bcb152b56b8da760ab6eac0a9af69cec4fc06"), looks := true }, kinds := [], alts := [], laidByText := true, laidKinds := [.data, .data, .data, .handle], laidTests := true, laidLooks := .later }
def FaultTwoUptoCardSaid : Prop := Claim7.holds Tryd.pinned (.plain (OpenSpec.upto faultTwoSpec)) faultTwoUptoCard

/-- THE SECOND FORM's CARD OF 'siltlaw01.FaultTexts'. -/
def faultTextsUptoCard : Claim7 := { stood := { row := faultTextsUptoRow, standIns := [], harness := (true, "8a6897b9f27f04cb6f1a5b98611bcb152b56b8da760ab6eac0a9af69cec4fc06"), looks := true }, kinds := [], alts := [], laidByText := true, laidKinds := [.data, .data, .data, .handle], laidTests := true, laidLooks := .later }
def FaultTextsUptoCardSaid : Prop := Claim7.holds Tryd.pinned (.plain (OpenSpec.upto faultTextsSpec)) faultTextsUptoCard
end Rows
end Go.Proofs.YtfekilchomakpaaDoor
