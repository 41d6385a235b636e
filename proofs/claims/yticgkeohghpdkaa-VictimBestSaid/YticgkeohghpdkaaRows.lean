/-
  No cell of these rows narrows 'for every input' (looked for: loops, veiled, ifaces, maps, wideKeys, modest, calm, conditions, laid).
  DERIVED. THE GIVEN ROWS OF THIS SEAT. 2 by the template 'for every input the law returns true; each argument reads behind the call as it read before'; 0 by the template 'total and deterministic' (their statements: YticgkeohghpdkaaTotals.lean).
  GIVEN WITH THE SEED: the statements are not yours to turn. If you find one false, say at which input.
  Laid BY PROGRAM, IN A SANDBOX (cutbox-rows.mjs): the forced cells as the released guide's own fill.sh prints them over the translation c844befc651d9962… (all of the seat's roots in one cut). By AI agents, Wed Nov 11 2026. No macro, syntax, notation, axiom, sorry.
-/
import Derived.Test.YticgkeohghpdkaaChecked
import GoSem.Claim
import GoSem.ClaimJoined
import GoSem.ClaimMapViews
import Derived.JoinedTies
import Derived.KernelRfl
namespace Go.Proofs.Yticgkeohghpdkaa
/- THE CELL 'sum', in the pinned program and in every row, IS THE sha256 OF THE DUMP (.gsa) THAT YticgkeohghpdkaaProg.lean LOADS. Nothing in Lean hashes anything: it is a label: what it is worth is what the hold of that sum in a sandbox is worth. -/
noncomputable def Try.pinned : Pinned := { name := "yticgkeohghpdkaa", sum := "c844befc651d9962995bc02a04bbc01ba08ed6e8e7f35e4e52988ecf603e3c61", checked := Try.checked }
namespace Rows
def none {H : Type} : Left H := { results := [], args := [] }

/-- 'siltlaw12.VictimTwo': WHATEVER THE INPUT: true; the input reads as it did. -/
def victimTwoSpec : ChangeSpec := { name := "victimTwo", fn := fun _ => fun
  | [d1, d2] => { results := [.lit (.bool true)], args := [d1, d2] }
  | _ => none }
def victimTwoRow : OpenClaim := { program := "yticgkeohghpdkaa", sum := "c844befc651d9962995bc02a04bbc01ba08ed6e8e7f35e4e52988ecf603e3c61", func := "silt/siltlaw12.VictimTwo", spec := "victimTwo", apart := false }
def VictimTwoSaid : Prop := victimTwoRow.holds Try.pinned (OpenSpec.ofChange victimTwoSpec)

/-- ITS FALSE NEIGHBOUR: 'it returns false'. Refute it at one input. -/
def victimTwoWrong : ChangeSpec := { name := "victimTwo", fn := fun _ => fun
  | [d1, d2] => { results := [.lit (.bool false)], args := [d1, d2] }
  | _ => none }
def VictimTwoWrongFalsely : Prop := victimTwoRow.holds Try.pinned (OpenSpec.ofChange victimTwoWrong)

/-- 'siltlaw12.VictimBest': WHATEVER THE INPUT: true; the input reads as it did. -/
def victimBestSpec : ChangeSpec := { name := "victimBest", fn := fun _ => fun
  | [d1, d2] => { results := [.lit (.bool true)], args := [d1, d2] }
  | _ => none }
def victimBestRow : OpenClaim := { program := "yticgkeohghpdkaa", sum := "c844befc651d9962995bc02a04bbc01ba08ed6e8e7f35e4e52988ecf603e3c61", func := "silt/siltlaw12.VictimBest", spec := "victimBest", apart := false }
def VictimBestSaid : Prop := victimBestRow.holds Try.pinned (OpenSpec.ofChange victimBestSpec)

/-- ITS FALSE NEIGHBOUR: 'it returns false'. Refute it at one input. -/
def victimBestWrong : ChangeSpec := { name := "victimBest", fn := fun _ => fun
  | [d1, d2] => { results := [.lit (.bool false)], args := [d1, d2] }
  | _ => none }
def VictimBestWrongFalsely : Prop := victimBestRow.holds Try.pinned (OpenSpec.ofChange victimBestWrong)

/- THE SECOND FORM. 'bulk': how many values and letters a reading holds, each counted each time it is reached (what is shared counts as often as it is met; a slice's spare places count too). A statement '..UptoSaid' is the law's where the arguments, and the package variables that the reading takes, are together of bulk at most 1048576: NARROWER than '..Said'. Prove '..Said' where nothing that the law and all that it calls make is longer than what came in: it says more and counts as full. Else prove '..UptoSaid'. A law counts once. -/
mutual
def uptoBulk {H : Type} : DataW H → Nat
  | .lit (.string bytes) => bytes.length + 1
  | .lit _ => 1
  | .nil => 1
  | .ptr d => uptoBulk d + 1
  | .slice elems spare => uptoBulkAll elems + uptoBulkAll spare + 1
  | .agg parts => uptoBulkAll parts + 1
  | .iface _ d => uptoBulk d + 1
  | .map entries => uptoBulkEntries entries + 1
  | .held _ => 1
def uptoBulkAll {H : Type} : List (DataW H) → Nat
  | [] => 0
  | d :: r => uptoBulk d + uptoBulkAll r
def uptoBulkEntries {H : Type} : List (Lit × DataW H) → Nat
  | [] => 0
  | x :: r => uptoBulkEntry x + uptoBulkEntries r
def uptoBulkEntry {H : Type} : Lit × DataW H → Nat
  | (.string bytes, d) => bytes.length + uptoBulk d + 1
  | (_, d) => uptoBulk d + 1
 end
def uptoSmall : (H : Type) → List (DataW H) → Bool := fun _ ds => decide (uptoBulkAll ds ≤ 1048576)
def OpenSpec.upto (s : _root_.Go.ChangeSpec) : _root_.Go.OpenSpec := { _root_.Go.OpenSpec.ofChange s with cond := some uptoSmall }

/-- 'siltlaw12.VictimTwo', WHERE WHAT IT READS IS OF BULK AT MOST 1048576: true; the input reads as it did. -/
def victimTwoUptoRow : OpenClaim := { program := "yticgkeohghpdkaa", sum := "c844befc651d9962995bc02a04bbc01ba08ed6e8e7f35e4e52988ecf603e3c61", func := "silt/siltlaw12.VictimTwo", spec := "victimTwo", apart := false, narrowed := true }
def VictimTwoUptoSaid : Prop := victimTwoUptoRow.holds Try.pinned (OpenSpec.upto victimTwoSpec)

/-- 'siltlaw12.VictimBest', WHERE WHAT IT READS IS OF BULK AT MOST 1048576: true; the input reads as it did. -/
def victimBestUptoRow : OpenClaim := { program := "yticgkeohghpdkaa", sum := "c844befc651d9962995bc02a04bbc01ba08ed6e8e7f35e4e52988ecf603e3c61", func := "silt/siltlaw12.VictimBest", spec := "victimBest", apart := false, narrowed := true }
def VictimBestUptoSaid : Prop := victimBestUptoRow.holds Try.pinned (OpenSpec.upto victimBestSpec)

end Rows
end Go.Proofs.Yticgkeohghpdkaa
