/-
  No cell of these rows narrows 'for every input' (looked for: loops, veiled, ifaces, maps, wideKeys, modest, calm, conditions, laid).
  DERIVED. THE GIVEN ROWS OF THIS SEAT. 6 by the template 'for every input the law returns true; each argument reads behind the call as it read before'; 0 by the template 'total and deterministic' (their statements: YtbhaifdhmfmeoaaTotals.lean).
  GIVEN WITH THE SEED: the statements are not yours to turn. If you find one false, say at which input.
  Laid BY PROGRAM, IN A SANDBOX (cutbox-rows.mjs): the forced cells as the released guide's own fill.sh prints them over the translation 0670d00b0abbd7c3… (all of the seat's roots in one cut). By AI agents, Wed Nov 11 2026. No macro, syntax, notation, axiom, sorry.
-/
import Derived.Test.YtbhaifdhmfmeoaaChecked
import GoSem.Claim
import GoSem.ClaimJoined
import GoSem.ClaimMapViews
import Derived.JoinedTies
import Derived.KernelRfl
namespace Go.Proofs.Ytbhaifdhmfmeoaa
/- THE CELL 'sum', in the pinned program and in every row, IS THE sha256 OF THE DUMP (.gsa) THAT YtbhaifdhmfmeoaaProg.lean LOADS. Nothing in Lean hashes anything: it is a label: what it is worth is what the hold of that sum in a sandbox is worth. -/
noncomputable def Try.pinned : Pinned := { name := "ytbhaifdhmfmeoaa", sum := "0670d00b0abbd7c37553b6238d07e8bd151ea95a04f2b0ac2e34d0c1c6ed158d", checked := Try.checked }
namespace Rows
def none {H : Type} : Left H := { results := [], args := [] }

/-- 'siltlaw13.GroupTells': WHATEVER THE INPUT: true; the input reads as it did. -/
def groupTellsSpec : ChangeSpec := { name := "groupTells", fn := fun _ => fun
  | [d1, d2, d3] => { results := [.lit (.bool true)], args := [d1, d2, d3] }
  | _ => none }
def groupTellsRow : OpenClaim := { program := "ytbhaifdhmfmeoaa", sum := "0670d00b0abbd7c37553b6238d07e8bd151ea95a04f2b0ac2e34d0c1c6ed158d", func := "silt/siltlaw13.GroupTells", spec := "groupTells", apart := false }
def GroupTellsSaid : Prop := groupTellsRow.holds Try.pinned (OpenSpec.ofChange groupTellsSpec)

/-- ITS FALSE NEIGHBOUR: 'it returns false'. Refute it at one input. -/
def groupTellsWrong : ChangeSpec := { name := "groupTells", fn := fun _ => fun
  | [d1, d2, d3] => { results := [.lit (.bool false)], args := [d1, d2, d3] }
  | _ => none }
def GroupTellsWrongFalsely : Prop := groupTellsRow.holds Try.pinned (OpenSpec.ofChange groupTellsWrong)

/-- 'siltlaw13.GroupBack': WHATEVER THE INPUT: true; the input reads as it did. -/
def groupBackSpec : ChangeSpec := { name := "groupBack", fn := fun _ => fun
  | [d1, d2, d3] => { results := [.lit (.bool true)], args := [d1, d2, d3] }
  | _ => none }
def groupBackRow : OpenClaim := { program := "ytbhaifdhmfmeoaa", sum := "0670d00b0abbd7c37553b6238d07e8bd151ea95a04f2b0ac2e34d0c1c6ed158d", func := "silt/siltlaw13.GroupBack", spec := "groupBack", apart := false }
def GroupBackSaid : Prop := groupBackRow.holds Try.pinned (OpenSpec.ofChange groupBackSpec)

/-- ITS FALSE NEIGHBOUR: 'it returns false'. Refute it at one input. -/
def groupBackWrong : ChangeSpec := { name := "groupBack", fn := fun _ => fun
  | [d1, d2, d3] => { results := [.lit (.bool false)], args := [d1, d2, d3] }
  | _ => none }
def GroupBackWrongFalsely : Prop := groupBackRow.holds Try.pinned (OpenSpec.ofChange groupBackWrong)

/-- 'siltlaw13.GroupSizes': WHATEVER THE INPUT: true; the input reads as it did. -/
def groupSizesSpec : ChangeSpec := { name := "groupSizes", fn := fun _ => fun
  | [d1, d2] => { results := [.lit (.bool true)], args := [d1, d2] }
  | _ => none }
def groupSizesRow : OpenClaim := { program := "ytbhaifdhmfmeoaa", sum := "0670d00b0abbd7c37553b6238d07e8bd151ea95a04f2b0ac2e34d0c1c6ed158d", func := "silt/siltlaw13.GroupSizes", spec := "groupSizes", apart := false }
def GroupSizesSaid : Prop := groupSizesRow.holds Try.pinned (OpenSpec.ofChange groupSizesSpec)

/-- ITS FALSE NEIGHBOUR: 'it returns false'. Refute it at one input. -/
def groupSizesWrong : ChangeSpec := { name := "groupSizes", fn := fun _ => fun
  | [d1, d2] => { results := [.lit (.bool false)], args := [d1, d2] }
  | _ => none }
def GroupSizesWrongFalsely : Prop := groupSizesRow.holds Try.pinned (OpenSpec.ofChange groupSizesWrong)

/-- 'siltlaw13.GroupRow': WHATEVER THE INPUT: true; the input reads as it did. -/
def groupRowSpec : ChangeSpec := { name := "groupRow", fn := fun _ => fun
  | [d1, d2, d3] => { results := [.lit (.bool true)], args := [d1, d2, d3] }
  | _ => none }
def groupRowRow : OpenClaim := { program := "ytbhaifdhmfmeoaa", sum := "0670d00b0abbd7c37553b6238d07e8bd151ea95a04f2b0ac2e34d0c1c6ed158d", func := "silt/siltlaw13.GroupRow", spec := "groupRow", apart := false }
def GroupRowSaid : Prop := groupRowRow.holds Try.pinned (OpenSpec.ofChange groupRowSpec)

/-- ITS FALSE NEIGHBOUR: 'it returns false'. Refute it at one input. -/
def groupRowWrong : ChangeSpec := { name := "groupRow", fn := fun _ => fun
  | [d1, d2, d3] => { results := [.lit (.bool false)], args := [d1, d2, d3] }
  | _ => none }
def GroupRowWrongFalsely : Prop := groupRowRow.holds Try.pinned (OpenSpec.ofChange groupRowWrong)

/-- 'siltlaw13.GroupMarks': WHATEVER THE INPUT: true; the input reads as it did. -/
def groupMarksSpec : ChangeSpec := { name := "groupMarks", fn := fun _ => fun
  | [d1, d2, d3] => { results := [.lit (.bool true)], args := [d1, d2, d3] }
  | _ => none }
def groupMarksRow : OpenClaim := { program := "ytbhaifdhmfmeoaa", sum := "0670d00b0abbd7c37553b6238d07e8bd151ea95a04f2b0ac2e34d0c1c6ed158d", func := "silt/siltlaw13.GroupMarks", spec := "groupMarks", apart := false }
def GroupMarksSaid : Prop := groupMarksRow.holds Try.pinned (OpenSpec.ofChange groupMarksSpec)

/-- ITS FALSE NEIGHBOUR: 'it returns false'. Refute it at one input. -/
def groupMarksWrong : ChangeSpec := { name := "groupMarks", fn := fun _ => fun
  | [d1, d2, d3] => { results := [.lit (.bool false)], args := [d1, d2, d3] }
  | _ => none }
def GroupMarksWrongFalsely : Prop := groupMarksRow.holds Try.pinned (OpenSpec.ofChange groupMarksWrong)

/-- 'siltlaw13.GroupNumbers': WHATEVER THE INPUT: true; the input reads as it did. -/
def groupNumbersSpec : ChangeSpec := { name := "groupNumbers", fn := fun _ => fun
  | [d1, d2] => { results := [.lit (.bool true)], args := [d1, d2] }
  | _ => none }
def groupNumbersRow : OpenClaim := { program := "ytbhaifdhmfmeoaa", sum := "0670d00b0abbd7c37553b6238d07e8bd151ea95a04f2b0ac2e34d0c1c6ed158d", func := "silt/siltlaw13.GroupNumbers", spec := "groupNumbers", apart := false }
def GroupNumbersSaid : Prop := groupNumbersRow.holds Try.pinned (OpenSpec.ofChange groupNumbersSpec)

/-- ITS FALSE NEIGHBOUR: 'it returns false'. Refute it at one input. -/
def groupNumbersWrong : ChangeSpec := { name := "groupNumbers", fn := fun _ => fun
  | [d1, d2] => { results := [.lit (.bool false)], args := [d1, d2] }
  | _ => none }
def GroupNumbersWrongFalsely : Prop := groupNumbersRow.holds Try.pinned (OpenSpec.ofChange groupNumbersWrong)

/- THE SECOND FORM. 'bulk': how many values and letters a reading holds, each counted each time it is reached (what is shared counts as often as it is met; a slice's spare places count too). A statement '..UptoSaid' is the law's where the arguments, and the package variables that the reading takes, are together of bulk at most 1048576: NARROWER than '..Said'. Prove '..Said' where nothing that the law and all that it calls make is longer than what came in: it says more and counts as full. Else prove '..UptoSaid'. A law counts once. -/
mutual
def uptoBulk {H : Type} : DataW H → Nat
  | .lit (.string bytes) => bytes.length + 1
  | .lit _ => 1
  | .nil => 1
  | .ptr d => uptoBulk d + 1
  | .slice elems spare => uptoBulkAll elems + uptoBulkAll spare + 1
  | .agg parts => uptoBulkAll parts + 1
  | .iface _ d => uptoBulk d + 1
  | .map entries => uptoBulkEntries entries + 1
  | .held _ => 1
def uptoBulkAll {H : Type} : List (DataW H) → Nat
  | [] => 0
  | d :: r => uptoBulk d + uptoBulkAll r
def uptoBulkEntries {H : Type} : List (Lit × DataW H) → Nat
  | [] => 0
  | x :: r => uptoBulkEntry x + uptoBulkEntries r
def uptoBulkEntry {H : Type} : Lit × DataW H → Nat
  | (.string bytes, d) => bytes.length + uptoBulk d + 1
  | (_, d) => uptoBulk d + 1
 end
def uptoSmall : (H : Type) → List (DataW H) → Bool := fun _ ds => decide (uptoBulkAll ds ≤ 1048576)
def OpenSpec.upto (s : _root_.Go.ChangeSpec) : _root_.Go.OpenSpec := { _root_.Go.OpenSpec.ofChange s with cond := some uptoSmall }

/-- 'siltlaw13.GroupTells', WHERE WHAT IT READS IS OF BULK AT MOST 1048576: true; the input reads as it did. -/
def groupTellsUptoRow : OpenClaim := { program := "ytbhaifdhmfmeoaa", sum := "0670d00b0abbd7c37553b6238d07e8bd151ea95a04f2b0ac2e34d0c1c6ed158d", func := "silt/siltlaw13.GroupTells", spec := "groupTells", apart := false, narrowed := true }
def GroupTellsUptoSaid : Prop := groupTellsUptoRow.holds Try.pinned (OpenSpec.upto groupTellsSpec)

/-- 'siltlaw13.GroupBack', WHERE WHAT IT READS IS OF BULK AT MOST 1048576: true; the input reads as it did. -/
def groupBackUptoRow : OpenClaim := { program := "ytbhaifdhmfmeoaa", sum := "0670d00b0abbd7c37553b6238d07e8bd151ea95a04f2b0ac2e34d0c1c6ed158d", func := "silt/siltlaw13.GroupBack", spec := "groupBack", apart := false, narrowed := true }
def GroupBackUptoSaid : Prop := groupBackUptoRow.holds Try.pinned (OpenSpec.upto groupBackSpec)

/-- 'siltlaw13.GroupSizes', WHERE WHAT IT READS IS OF BULK AT MOST 1048576: true; the input reads as it did. -/
def groupSizesUptoRow : OpenClaim := { program := "ytbhaifdhmfmeoaa", sum := "0670d00b0abbd7c37553b6238d07e8bd151ea95a04f2b0ac2e34d0c1c6ed158d", func := "silt/siltlaw13.GroupSizes", spec := "groupSizes", apart := false, narrowed := true }
def GroupSizesUptoSaid : Prop := groupSizesUptoRow.holds Try.pinned (OpenSpec.upto groupSizesSpec)

/-- 'siltlaw13.GroupRow', WHERE WHAT IT READS IS OF BULK AT MOST 1048576: true; the input reads as it did. -/
def groupRowUptoRow : OpenClaim := { program := "ytbhaifdhmfmeoaa", sum := "0670d00b0abbd7c37553b6238d07e8bd151ea95a04f2b0ac2e34d0c1c6ed158d", func := "silt/siltlaw13.GroupRow", spec := "groupRow", apart := false, narrowed := true }
def GroupRowUptoSaid : Prop := groupRowUptoRow.holds Try.pinned (OpenSpec.upto groupRowSpec)

/-- 'siltlaw13.GroupMarks', WHERE WHAT IT READS IS OF BULK AT MOST 1048576: true; the input reads as it did. -/
def groupMarksUptoRow : OpenClaim := { program := "ytbhaifdhmfmeoaa", sum := "0670d00b0abbd7c37553b6238d07e8bd151ea95a04f2b0ac2e34d0c1c6ed158d", func := "silt/siltlaw13.GroupMarks", spec := "groupMarks", apart := false, narrowed := true }
def GroupMarksUptoSaid : Prop := groupMarksUptoRow.holds Try.pinned (OpenSpec.upto groupMarksSpec)

/-- 'siltlaw13.GroupNumbers', WHERE WHAT IT READS IS OF BULK AT MOST 1048576: true; the input reads as it did. -/
def groupNumbersUptoRow : OpenClaim := { program := "ytbhaifdhmfmeoaa", sum := "0670d00b0abbd7c37553b6238d07e8bd151ea95a04f2b0ac2e34d0c1c6ed158d", func := "silt/siltlaw13.GroupNumbers", spec := "groupNumbers", apart := false, narrowed := true }
def GroupNumbersUptoSaid : Prop := groupNumbersUptoRow.holds Try.pinned (OpenSpec.upto groupNumbersSpec)

end Rows
end Go.Proofs.Ytbhaifdhmfmeoaa
