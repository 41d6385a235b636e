/- Dm: texts of elder seats turned: what the stage needs of them. -/
import Derived.Test.YtmlniannilnmhaaGreatDoorGa
import Derived.Test.YtmlniannilnmhaaGreatDoorGb
import Derived.WalkKit
import Derived.WalkSpells
import Derived.WalkLawsBesides
import Derived.Deep.AppendLies
import Derived.Deep.LoopGhost
import Derived.Laws.CopyRow
import Derived.Laws.Rows
import Derived.Laws.StructEq
import Derived.Lib.Hide
import Derived.Deep.DeepFit
import Derived.Deep.DeepMust
namespace Go.Proofs.YtmlniannilnmhaaGreatDoor
set_option linter.unusedSimpArgs false
set_option linter.unusedVariables false
open Go.RowKit

theorem Blk.rowOther {w : World} {b : Nat} {l : List Value} (h : Blk w b l) {g : Nat} (hne : b ≠ g) (cs : Array Value) : Blk (w.setRow g cs) b l :=
  h.of_block (setRow_other w g b cs hne)
theorem Only.of_below {S : Nat → Prop} {a b : World} (h : Below a.heap.size a b) : Only S a b := ⟨h.os, h.tape, h.output, h.size, fun i hi _ => h.block i hi⟩
section
variable {P : Program}
end

end Go.Proofs.YtmlniannilnmhaaGreatDoor
