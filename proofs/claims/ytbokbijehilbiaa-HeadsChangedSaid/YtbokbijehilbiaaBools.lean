/- A slice of bools in memory. -/
import Derived.Test.YtbokbijehilbiaaInts
namespace Go.Proofs.Ytbokbijehilbiaa
/-- A slice of bools in memory. -/
def BoolsAt (w : World) (sv : Value) (l : List Bool) : Prop := ∃ a cap, sv = .slice a l.length cap ∧ ∀ i x, l[i]? = some x → ∃ b o, a = some ⟨b, o, none⟩ ∧ w.cell? ⟨b, o + i, none⟩ = some (.bool x)
end Go.Proofs.Ytbokbijehilbiaa
