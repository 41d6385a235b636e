/- Steps of a walk at operations of many cells: boxes, new variables, loads, stores, arrays built and compared; slices of bytes; the world behind each is told by what it holds. -/
import Derived.Test.YtbhaifdhmfmeoaaSums
import Derived.Lib.EndianBits
import Derived.OrdersHeld
import Derived.Deep.Upon
import Derived.Lib.AppendZeros
namespace Go.Proofs.Ytbhaifdhmfmeoaa
set_option linter.unusedSimpArgs false
set_option linter.unusedVariables false
open Go.RowKit










section
variable {P : Program}















end
















section
variable {ops : Array Oper} {rest : List Oper} {dst : Option Tmp} {x : Operand} {t2 : TypeId} {pos : String} {after : Array Edge} {guard : Option (Nat × Bool)} {a : Act} {w : World} {Q : Exit → Act → World → Prop}






end

section
variable {P : Program}





end





section
variable {P : Program}

end
section
variable {ops : Array Oper} {rest : List Oper} {dst : Option Tmp} {x y : Operand} {t2 : TypeId} {pos : String} {after : Array Edge} {guard : Option (Nat × Bool)} {a : Act} {w : World} {Q : Exit → Act → World → Prop}

end


theorem slayI_zeros (l : List Int) : layI (zeros 64) 0 l = l ++ zeros (64 - l.length) := by rw [layI, Nat.zero_add, zeros_drop]; rfl
end Go.Proofs.Ytbhaifdhmfmeoaa
