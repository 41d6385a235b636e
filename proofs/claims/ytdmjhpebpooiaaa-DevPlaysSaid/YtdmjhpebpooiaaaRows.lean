/-
  No cell of these rows narrows 'for every input' (looked for: loops, veiled, ifaces, maps, wideKeys, modest, calm, conditions, laid).
  DERIVED. THE GIVEN ROWS OF THIS SEAT. 7 by the template 'for every input the law returns true; each argument reads behind the call as it read before'; 0 by the template 'total and deterministic' (their statements: YtdmjhpebpooiaaaTotals.lean).
  GIVEN WITH THE SEED: the statements are not yours to turn. If you find one false, say at which input.
  Laid BY PROGRAM, IN A SANDBOX (cutbox-rows.mjs): the forced cells as the released guide's own fill.sh prints them over the translation 46d92b193a6cbf4c… (all of the seat's roots in one cut). By AI agents, Wed Nov 11 2026. No macro, syntax, notation, axiom, sorry.
-/
import Derived.Test.YtdmjhpebpooiaaaChecked
import GoSem.Claim
import GoSem.ClaimJoined
import GoSem.ClaimMapViews
import Derived.JoinedTies
import Derived.KernelRfl
namespace Go.Proofs.Ytdmjhpebpooiaaa
/- THE CELL 'sum', in the pinned program and in every row, IS THE sha256 OF THE DUMP (.gsa) THAT YtdmjhpebpooiaaaProg.lean LOADS. Nothing in Lean hashes anything: it is a label: what it is worth is what the hold of that sum in a sandbox is worth. -/
noncomputable def Try.pinned : Pinned := { name := "ytdmjhpebpooiaaa", sum := "46d92b193a6cbf4ce76f4da4d623839bc7f9eb24862395434d3119c16b498880", checked := Try.checked }
namespace Rows
def none {H : Type} : Left H := { results := [], args := [] }

/-- 'siltlaw02.DevPlays': WHATEVER THE INPUT: true; the input reads as it did. -/
def devPlaysSpec : ChangeSpec := { name := "devPlays", fn := fun _ => fun
  | [d1, d2] => { results := [.lit (.bool true)], args := [d1, d2] }
  | _ => none }
def devPlaysRow : OpenClaim := { program := "ytdmjhpebpooiaaa", sum := "46d92b193a6cbf4ce76f4da4d623839bc7f9eb24862395434d3119c16b498880", func := "silt/siltlaw02.DevPlays", spec := "devPlays", unfollowed := true, recurses := true, apart := false }
def DevPlaysSaid : Prop := devPlaysRow.holds Try.pinned (OpenSpec.ofChange devPlaysSpec)

/-- ITS FALSE NEIGHBOUR: 'it returns false'. Refute it at one input. -/
def devPlaysWrong : ChangeSpec := { name := "devPlays", fn := fun _ => fun
  | [d1, d2] => { results := [.lit (.bool false)], args := [d1, d2] }
  | _ => none }
def DevPlaysWrongFalsely : Prop := devPlaysRow.holds Try.pinned (OpenSpec.ofChange devPlaysWrong)

/-- 'siltlaw02.DevSafe': WHATEVER THE INPUT: true; the input reads as it did. -/
def devSafeSpec : ChangeSpec := { name := "devSafe", fn := fun _ => fun
  | [d1, d2, d3] => { results := [.lit (.bool true)], args := [d1, d2, d3] }
  | _ => none }
def devSafeRow : OpenClaim := { program := "ytdmjhpebpooiaaa", sum := "46d92b193a6cbf4ce76f4da4d623839bc7f9eb24862395434d3119c16b498880", func := "silt/siltlaw02.DevSafe", spec := "devSafe", unfollowed := true, recurses := true, apart := false }
def DevSafeSaid : Prop := devSafeRow.holds Try.pinned (OpenSpec.ofChange devSafeSpec)

/-- ITS FALSE NEIGHBOUR: 'it returns false'. Refute it at one input. -/
def devSafeWrong : ChangeSpec := { name := "devSafe", fn := fun _ => fun
  | [d1, d2, d3] => { results := [.lit (.bool false)], args := [d1, d2, d3] }
  | _ => none }
def DevSafeWrongFalsely : Prop := devSafeRow.holds Try.pinned (OpenSpec.ofChange devSafeWrong)

/-- 'siltlaw02.DevFails': WHATEVER THE INPUT: true; the input reads as it did. -/
def devFailsSpec : ChangeSpec := { name := "devFails", fn := fun _ => fun
  | [d1, d2] => { results := [.lit (.bool true)], args := [d1, d2] }
  | _ => none }
def devFailsRow : OpenClaim := { program := "ytdmjhpebpooiaaa", sum := "46d92b193a6cbf4ce76f4da4d623839bc7f9eb24862395434d3119c16b498880", func := "silt/siltlaw02.DevFails", spec := "devFails", unfollowed := true, recurses := true, apart := false }
def DevFailsSaid : Prop := devFailsRow.holds Try.pinned (OpenSpec.ofChange devFailsSpec)

/-- ITS FALSE NEIGHBOUR: 'it returns false'. Refute it at one input. -/
def devFailsWrong : ChangeSpec := { name := "devFails", fn := fun _ => fun
  | [d1, d2] => { results := [.lit (.bool false)], args := [d1, d2] }
  | _ => none }
def DevFailsWrongFalsely : Prop := devFailsRow.holds Try.pinned (OpenSpec.ofChange devFailsWrong)

/-- 'siltlaw02.DevNone': WHATEVER THE INPUT: true; the input reads as it did. -/
def devNoneSpec : ChangeSpec := { name := "devNone", fn := fun _ => fun
  | [d] => { results := [.lit (.bool true)], args := [d] }
  | _ => none }
def devNoneRow : OpenClaim := { program := "ytdmjhpebpooiaaa", sum := "46d92b193a6cbf4ce76f4da4d623839bc7f9eb24862395434d3119c16b498880", func := "silt/siltlaw02.DevNone", spec := "devNone", unfollowed := true, recurses := true, apart := false }
def DevNoneSaid : Prop := devNoneRow.holds Try.pinned (OpenSpec.ofChange devNoneSpec)

/-- ITS FALSE NEIGHBOUR: 'it returns false'. Refute it at one input. -/
def devNoneWrong : ChangeSpec := { name := "devNone", fn := fun _ => fun
  | [d] => { results := [.lit (.bool false)], args := [d] }
  | _ => none }
def DevNoneWrongFalsely : Prop := devNoneRow.holds Try.pinned (OpenSpec.ofChange devNoneWrong)

/-- 'siltlaw02.DevReads': WHATEVER THE INPUT: true; the input reads as it did. -/
def devReadsSpec : ChangeSpec := { name := "devReads", fn := fun _ => fun
  | [d] => { results := [.lit (.bool true)], args := [d] }
  | _ => none }
def devReadsRow : OpenClaim := { program := "ytdmjhpebpooiaaa", sum := "46d92b193a6cbf4ce76f4da4d623839bc7f9eb24862395434d3119c16b498880", func := "silt/siltlaw02.DevReads", spec := "devReads", unfollowed := true, recurses := true, apart := false }
def DevReadsSaid : Prop := devReadsRow.holds Try.pinned (OpenSpec.ofChange devReadsSpec)

/-- ITS FALSE NEIGHBOUR: 'it returns false'. Refute it at one input. -/
def devReadsWrong : ChangeSpec := { name := "devReads", fn := fun _ => fun
  | [d] => { results := [.lit (.bool false)], args := [d] }
  | _ => none }
def DevReadsWrongFalsely : Prop := devReadsRow.holds Try.pinned (OpenSpec.ofChange devReadsWrong)

/-- 'siltlaw02.DevOrder': WHATEVER THE INPUT: true; the input reads as it did. -/
def devOrderSpec : ChangeSpec := { name := "devOrder", fn := fun _ => fun
  | [d1, d2, d3] => { results := [.lit (.bool true)], args := [d1, d2, d3] }
  | _ => none }
def devOrderRow : OpenClaim := { program := "ytdmjhpebpooiaaa", sum := "46d92b193a6cbf4ce76f4da4d623839bc7f9eb24862395434d3119c16b498880", func := "silt/siltlaw02.DevOrder", spec := "devOrder", unfollowed := true, recurses := true, apart := false }
def DevOrderSaid : Prop := devOrderRow.holds Try.pinned (OpenSpec.ofChange devOrderSpec)

/-- ITS FALSE NEIGHBOUR: 'it returns false'. Refute it at one input. -/
def devOrderWrong : ChangeSpec := { name := "devOrder", fn := fun _ => fun
  | [d1, d2, d3] => { results := [.lit (.bool false)], args := [d1, d2, d3] }
  | _ => none }
def DevOrderWrongFalsely : Prop := devOrderRow.holds Try.pinned (OpenSpec.ofChange devOrderWrong)

/-- 'siltlaw02.DevCounts': WHATEVER THE INPUT: true; the input reads as it did. -/
def devCountsSpec : ChangeSpec := { name := "devCounts", fn := fun _ => fun
  | [d] => { results := [.lit (.bool true)], args := [d] }
  | _ => none }
def devCountsRow : OpenClaim := { program := "ytdmjhpebpooiaaa", sum := "46d92b193a6cbf4ce76f4da4d623839bc7f9eb24862395434d3119c16b498880", func := "silt/siltlaw02.DevCounts", spec := "devCounts", unfollowed := true, recurses := true, apart := false }
def DevCountsSaid : Prop := devCountsRow.holds Try.pinned (OpenSpec.ofChange devCountsSpec)

/-- ITS FALSE NEIGHBOUR: 'it returns false'. Refute it at one input. -/
def devCountsWrong : ChangeSpec := { name := "devCounts", fn := fun _ => fun
  | [d] => { results := [.lit (.bool false)], args := [d] }
  | _ => none }
def DevCountsWrongFalsely : Prop := devCountsRow.holds Try.pinned (OpenSpec.ofChange devCountsWrong)

/- THE SECOND FORM. 'bulk': how many values and letters a reading holds, each counted each time it is reached (what is shared counts as often as it is met; a slice's spare places count too). A statement '..UptoSaid' is the law's where the arguments, and the package variables that the reading takes, are together of bulk at most 1048576: NARROWER than '..Said'. Prove '..Said' where nothing that the law and all that it calls make is longer than what came in: it says more and counts as full. Else prove '..UptoSaid'. A law counts once. -/
mutual
def uptoBulk {H : Type} : DataW H → Nat
  | .lit (.string bytes) => bytes.length + 1
  | .lit _ => 1
  | .nil => 1
  | .ptr d => uptoBulk d + 1
  | .slice elems spare => uptoBulkAll elems + uptoBulkAll spare + 1
  | .agg parts => uptoBulkAll parts + 1
  | .iface _ d => uptoBulk d + 1
  | .map entries => uptoBulkEntries entries + 1
  | .held _ => 1
def uptoBulkAll {H : Type} : List (DataW H) → Nat
  | [] => 0
  | d :: r => uptoBulk d + uptoBulkAll r
def uptoBulkEntries {H : Type} : List (Lit × DataW H) → Nat
  | [] => 0
  | x :: r => uptoBulkEntry x + uptoBulkEntries r
def uptoBulkEntry {H : Type} : Lit × DataW H → Nat
  | (.string bytes, d) => bytes.length + uptoBulk d + 1
  | (_, d) => uptoBulk d + 1
 end
def uptoSmall : (H : Type) → List (DataW H) → Bool := fun _ ds => decide (uptoBulkAll ds ≤ 1048576)
def OpenSpec.upto (s : _root_.Go.ChangeSpec) : _root_.Go.OpenSpec := { _root_.Go.OpenSpec.ofChange s with cond := some uptoSmall }

/-- 'siltlaw02.DevPlays', WHERE WHAT IT READS IS OF BULK AT MOST 1048576: true; the input reads as it did. -/
def devPlaysUptoRow : OpenClaim := { program := "ytdmjhpebpooiaaa", sum := "46d92b193a6cbf4ce76f4da4d623839bc7f9eb24862395434d3119c16b498880", func := "silt/siltlaw02.DevPlays", spec := "devPlays", unfollowed := true, recurses := true, apart := false, narrowed := true }
def DevPlaysUptoSaid : Prop := devPlaysUptoRow.holds Try.pinned (OpenSpec.upto devPlaysSpec)

/-- 'siltlaw02.DevSafe', WHERE WHAT IT READS IS OF BULK AT MOST 1048576: true; the input reads as it did. -/
def devSafeUptoRow : OpenClaim := { program := "ytdmjhpebpooiaaa", sum := "46d92b193a6cbf4ce76f4da4d623839bc7f9eb24862395434d3119c16b498880", func := "silt/siltlaw02.DevSafe", spec := "devSafe", unfollowed := true, recurses := true, apart := false, narrowed := true }
def DevSafeUptoSaid : Prop := devSafeUptoRow.holds Try.pinned (OpenSpec.upto devSafeSpec)

/-- 'siltlaw02.DevFails', WHERE WHAT IT READS IS OF BULK AT MOST 1048576: true; the input reads as it did. -/
def devFailsUptoRow : OpenClaim := { program := "ytdmjhpebpooiaaa", sum := "46d92b193a6cbf4ce76f4da4d623839bc7f9eb24862395434d3119c16b498880", func := "silt/siltlaw02.DevFails", spec := "devFails", unfollowed := true, recurses := true, apart := false, narrowed := true }
def DevFailsUptoSaid : Prop := devFailsUptoRow.holds Try.pinned (OpenSpec.upto devFailsSpec)

/-- 'siltlaw02.DevNone', WHERE WHAT IT READS IS OF BULK AT MOST 1048576: true; the input reads as it did. -/
def devNoneUptoRow : OpenClaim := { program := "ytdmjhpebpooiaaa", sum := "46d92b193a6cbf4ce76f4da4d623839bc7f9eb24862395434d3119c16b498880", func := "silt/siltlaw02.DevNone", spec := "devNone", unfollowed := true, recurses := true, apart := false, narrowed := true }
def DevNoneUptoSaid : Prop := devNoneUptoRow.holds Try.pinned (OpenSpec.upto devNoneSpec)

/-- 'siltlaw02.DevReads', WHERE WHAT IT READS IS OF BULK AT MOST 1048576: true; the input reads as it did. -/
def devReadsUptoRow : OpenClaim := { program := "ytdmjhpebpooiaaa", sum := "46d92b193a6cbf4ce76f4da4d623839bc7f9eb24862395434d3119c16b498880", func := "silt/siltlaw02.DevReads", spec := "devReads", unfollowed := true, recurses := true, apart := false, narrowed := true }
def DevReadsUptoSaid : Prop := devReadsUptoRow.holds Try.pinned (OpenSpec.upto devReadsSpec)

/-- 'siltlaw02.DevOrder', WHERE WHAT IT READS IS OF BULK AT MOST 1048576: true; the input reads as it did. -/
def devOrderUptoRow : OpenClaim := { program := "ytdmjhpebpooiaaa", sum := "46d92b193a6cbf4ce76f4da4d623839bc7f9eb24862395434d3119c16b498880", func := "silt/siltlaw02.DevOrder", spec := "devOrder", unfollowed := true, recurses := true, apart := false, narrowed := true }
def DevOrderUptoSaid : Prop := devOrderUptoRow.holds Try.pinned (OpenSpec.upto devOrderSpec)

/-- 'siltlaw02.DevCounts', WHERE WHAT IT READS IS OF BULK AT MOST 1048576: true; the input reads as it did. -/
def devCountsUptoRow : OpenClaim := { program := "ytdmjhpebpooiaaa", sum := "46d92b193a6cbf4ce76f4da4d623839bc7f9eb24862395434d3119c16b498880", func := "silt/siltlaw02.DevCounts", spec := "devCounts", unfollowed := true, recurses := true, apart := false, narrowed := true }
def DevCountsUptoSaid : Prop := devCountsUptoRow.holds Try.pinned (OpenSpec.upto devCountsSpec)

end Rows
end Go.Proofs.Ytdmjhpebpooiaaa
