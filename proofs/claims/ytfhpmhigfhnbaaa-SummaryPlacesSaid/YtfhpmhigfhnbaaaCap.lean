/- A summary's marks that came in: no more than there is room. -/
import Derived.Test.YtfhpmhigfhnbaaaFrame
namespace Go.Proofs.Ytfhpmhigfhnbaaa
open Go.ChangeShapes Go.WideShapes Go.ChangeAt Go.RowKit Go.Deep Go.Joins
set_option linter.unusedSimpArgs false
set_option linter.unusedVariables false

theorem cap_of {H : Type} {enc : TypeId × Value → H} {W : World} {x y : Value} {a : Option Addr} {n cap : Nat} {d : DataW H} {p : List MemPlace} (h : DataW.Trod enc Try.prog W 0 (fun _ => true) true 25 (.agg #[x, y, .slice a n cap]) d p) : n ≤ cap := by
  obtain ⟨fuel, hf⟩ := h
  obtain ⟨xs, m, _, _, hl, hxs, hel⟩ := DataW.trod_struct Try.underlying25 hf
  simp only [Value.cells] at hl hel
  have hx3 : xs.length = 3 := hxs
  obtain ⟨y2, g2⟩ : ∃ z, DataW.trod enc Try.prog W 0 (fun _ => true) true m 23 (([x, y, .slice a n cap].drop 2).take (Try.prog.cellsOf 23)) = some z := ⟨xs[2], (hel 2 _ rfl).trans (List.getElem?_eq_getElem (by omega))⟩
  rw [cells23] at g2
  rcases open_slice Try.underlying23 g2 with ⟨hcs, _⟩ | ⟨a', len, cap', m', n', D, Pl, hcs, _, hle, _⟩
  · simp at hcs
    omega
  · simp at hcs
    omega
end Go.Proofs.Ytfhpmhigfhnbaaa
