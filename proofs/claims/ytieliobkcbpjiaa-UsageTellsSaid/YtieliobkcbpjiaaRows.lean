/-
  No cell of these rows narrows 'for every input' (looked for: loops, veiled, ifaces, maps, wideKeys, modest, calm, conditions, laid).
  DERIVED. THE GIVEN ROWS OF THIS SEAT. 3 by the template 'for every input the law returns true; each argument reads behind the call as it read before'; 0 by the template 'total and deterministic' (their statements: YtieliobkcbpjiaaTotals.lean).
  GIVEN WITH THE SEED: the statements are not yours to turn. If you find one false, say at which input.
  Laid BY PROGRAM, IN A SANDBOX (cutbox-rows.mjs): the forced cells as the released guide's own fill.sh prints them over the translation 8680dca69ec80391… (all of the seat's roots in one cut). By AI agents, Wed Nov 11 2026. No macro, syntax, notation, axiom, sorry.
-/
import Derived.Test.YtieliobkcbpjiaaChecked
import GoSem.Claim
import GoSem.ClaimJoined
import GoSem.ClaimMapViews
import Derived.JoinedTies
import Derived.KernelRfl
namespace Go.Proofs.Ytieliobkcbpjiaa
/- THE CELL 'sum', in the pinned program and in every row, IS THE sha256 OF THE DUMP (.gsa) THAT YtieliobkcbpjiaaProg.lean LOADS. Nothing in Lean hashes anything: it is a label: what it is worth is what the hold of that sum in a sandbox is worth. -/
noncomputable def Try.pinned : Pinned := { name := "ytieliobkcbpjiaa", sum := "8680dca69ec803912dddfc734f3f56b06ff04ff8a94c7aec196c5d4da4aadc67", checked := Try.checked }
namespace Rows
def none {H : Type} : Left H := { results := [], args := [] }

/-- 'siltlaw11.UsageTells': WHATEVER THE INPUT: true; the input reads as it did. -/
def usageTellsSpec : ChangeSpec := { name := "usageTells", fn := fun _ => fun
  | [d1, d2, d3] => { results := [.lit (.bool true)], args := [d1, d2, d3] }
  | _ => none }
def usageTellsRow : OpenClaim := { program := "ytieliobkcbpjiaa", sum := "8680dca69ec803912dddfc734f3f56b06ff04ff8a94c7aec196c5d4da4aadc67", func := "silt/siltlaw11.UsageTells", spec := "usageTells", apart := false }
def UsageTellsSaid : Prop := usageTellsRow.holds Try.pinned (OpenSpec.ofChange usageTellsSpec)

/-- ITS FALSE NEIGHBOUR: 'it returns false'. Refute it at one input. -/
def usageTellsWrong : ChangeSpec := { name := "usageTells", fn := fun _ => fun
  | [d1, d2, d3] => { results := [.lit (.bool false)], args := [d1, d2, d3] }
  | _ => none }
def UsageTellsWrongFalsely : Prop := usageTellsRow.holds Try.pinned (OpenSpec.ofChange usageTellsWrong)

/-- 'siltlaw11.UsageApart': WHATEVER THE INPUT: true; the input reads as it did. -/
def usageApartSpec : ChangeSpec := { name := "usageApart", fn := fun _ => fun
  | [d1, d2, d3] => { results := [.lit (.bool true)], args := [d1, d2, d3] }
  | _ => none }
def usageApartRow : OpenClaim := { program := "ytieliobkcbpjiaa", sum := "8680dca69ec803912dddfc734f3f56b06ff04ff8a94c7aec196c5d4da4aadc67", func := "silt/siltlaw11.UsageApart", spec := "usageApart", apart := false }
def UsageApartSaid : Prop := usageApartRow.holds Try.pinned (OpenSpec.ofChange usageApartSpec)

/-- ITS FALSE NEIGHBOUR: 'it returns false'. Refute it at one input. -/
def usageApartWrong : ChangeSpec := { name := "usageApart", fn := fun _ => fun
  | [d1, d2, d3] => { results := [.lit (.bool false)], args := [d1, d2, d3] }
  | _ => none }
def UsageApartWrongFalsely : Prop := usageApartRow.holds Try.pinned (OpenSpec.ofChange usageApartWrong)

/-- 'siltlaw11.UsageAdds': WHATEVER THE INPUT: true; the input reads as it did. -/
def usageAddsSpec : ChangeSpec := { name := "usageAdds", fn := fun _ => fun
  | [d1, d2, d3] => { results := [.lit (.bool true)], args := [d1, d2, d3] }
  | _ => none }
def usageAddsRow : OpenClaim := { program := "ytieliobkcbpjiaa", sum := "8680dca69ec803912dddfc734f3f56b06ff04ff8a94c7aec196c5d4da4aadc67", func := "silt/siltlaw11.UsageAdds", spec := "usageAdds", apart := false }
def UsageAddsSaid : Prop := usageAddsRow.holds Try.pinned (OpenSpec.ofChange usageAddsSpec)

/-- ITS FALSE NEIGHBOUR: 'it returns false'. Refute it at one input. -/
def usageAddsWrong : ChangeSpec := { name := "usageAdds", fn := fun _ => fun
  | [d1, d2, d3] => { results := [.lit (.bool false)], args := [d1, d2, d3] }
  | _ => none }
def UsageAddsWrongFalsely : Prop := usageAddsRow.holds Try.pinned (OpenSpec.ofChange usageAddsWrong)

/- THE SECOND FORM. 'bulk': how many values and letters a reading holds, each counted each time it is reached (what is shared counts as often as it is met; a slice's spare places count too). A statement '..UptoSaid' is the law's where the arguments, and the package variables that the reading takes, are together of bulk at most 1048576: NARROWER than '..Said'. Prove '..Said' where nothing that the law and all that it calls make is longer than what came in: it says more and counts as full. Else prove '..UptoSaid'. A law counts once. -/
mutual
def uptoBulk {H : Type} : DataW H → Nat
  | .lit (.string bytes) => bytes.length + 1
  | .lit _ => 1
  | .nil => 1
  | .ptr d => uptoBulk d + 1
  | .slice elems spare => uptoBulkAll elems + uptoBulkAll spare + 1
  | .agg parts => uptoBulkAll parts + 1
  | .iface _ d => uptoBulk d + 1
  | .map entries => uptoBulkEntries entries + 1
  | .held _ => 1
def uptoBulkAll {H : Type} : List (DataW H) → Nat
  | [] => 0
  | d :: r => uptoBulk d + uptoBulkAll r
def uptoBulkEntries {H : Type} : List (Lit × DataW H) → Nat
  | [] => 0
  | x :: r => uptoBulkEntry x + uptoBulkEntries r
def uptoBulkEntry {H : Type} : Lit × DataW H → Nat
  | (.string bytes, d) => bytes.length + uptoBulk d + 1
  | (_, d) => uptoBulk d + 1
 end
def uptoSmall : (H : Type) → List (DataW H) → Bool := fun _ ds => decide (uptoBulkAll ds ≤ 1048576)
def OpenSpec.upto (s : _root_.Go.ChangeSpec) : _root_.Go.OpenSpec := { _root_.Go.OpenSpec.ofChange s with cond := some uptoSmall }

/-- 'siltlaw11.UsageTells', WHERE WHAT IT READS IS OF BULK AT MOST 1048576: true; the input reads as it did. -/
def usageTellsUptoRow : OpenClaim := { program := "ytieliobkcbpjiaa", sum := "8680dca69ec803912dddfc734f3f56b06ff04ff8a94c7aec196c5d4da4aadc67", func := "silt/siltlaw11.UsageTells", spec := "usageTells", apart := false, narrowed := true }
def UsageTellsUptoSaid : Prop := usageTellsUptoRow.holds Try.pinned (OpenSpec.upto usageTellsSpec)

/-- 'siltlaw11.UsageApart', WHERE WHAT IT READS IS OF BULK AT MOST 1048576: true; the input reads as it did. -/
def usageApartUptoRow : OpenClaim := { program := "ytieliobkcbpjiaa", sum := "8680dca69ec803912dddfc734f3f56b06ff04ff8a94c7aec196c5d4da4aadc67", func := "silt/siltlaw11.UsageApart", spec := "usageApart", apart := false, narrowed := true }
def UsageApartUptoSaid : Prop := usageApartUptoRow.holds Try.pinned (OpenSpec.upto usageApartSpec)

/-- 'siltlaw11.UsageAdds', WHERE WHAT IT READS IS OF BULK AT MOST 1048576: true; the input reads as it did. -/
def usageAddsUptoRow : OpenClaim := { program := "ytieliobkcbpjiaa", sum := "8680dca69ec803912dddfc734f3f56b06ff04ff8a94c7aec196c5d4da4aadc67", func := "silt/siltlaw11.UsageAdds", spec := "usageAdds", apart := false, narrowed := true }
def UsageAddsUptoSaid : Prop := usageAddsUptoRow.holds Try.pinned (OpenSpec.upto usageAddsSpec)

end Rows
end Go.Proofs.Ytieliobkcbpjiaa
