/- Steps and truth values as the statements are given them. -/
import Derived.Test.YtblfpakokhlkgaaSpec
namespace Go.Proofs.Ytblfpakokhlkgaa
set_option linter.unusedSimpArgs false
set_option linter.unusedVariables false
open Go.RowKit

/-- A call, as the statements have it. -/
structure St where
  kind : Int
  frame : Int
  key : Int
structure St.Wf (x : St) : Prop where
  kind : Small x.kind
  frame : Small x.frame
  key : Small x.key
structure StepAt (w : World) (b o : Nat) (x : St) : Prop where
  kind : w.cell? ⟨b, o, none⟩ = some (.int .i64 x.kind)
  frame : w.cell? ⟨b, o + 1, none⟩ = some (.int .i64 x.frame)
  key : w.cell? ⟨b, o + 2, none⟩ = some (.int .i64 x.key)
def StepsAt (w : World) (sv : Value) (l : List St) : Prop := ∃ a cap, sv = .slice a l.length cap ∧ ∀ i x, l[i]? = some x → x.Wf ∧ ∃ b o, a = some ⟨b, o, none⟩ ∧ StepAt w b (o + i * 3) x
theorem StepAt.below {w w' : World} {b o : Nat} {x : St} (h : StepAt w b o x) (hb : Below w.heap.size w w') : StepAt w' b o x :=
  ⟨(hb.cell (block_lt_of_cell h.kind)).trans h.kind, (hb.cell (block_lt_of_cell h.frame)).trans h.frame, (hb.cell (block_lt_of_cell h.key)).trans h.key⟩
theorem StepsAt.below {w w' : World} {sv : Value} {l : List St} (h : StepsAt w sv l) (hb : Below w.heap.size w w') : StepsAt w' sv l := by
  obtain ⟨a, cap, e, hc⟩ := h
  refine ⟨a, cap, e, fun i x hx => ?_⟩
  obtain ⟨hw, b, o, e2, h2⟩ := hc i x hx
  exact ⟨hw, b, o, e2, h2.below hb⟩
def BoolsAt (w : World) (sv : Value) (l : List Bool) : Prop := ∃ a cap, sv = .slice a l.length cap ∧ ∀ i x, l[i]? = some x → ∃ b o, a = some ⟨b, o, none⟩ ∧ w.cell? ⟨b, o + i, none⟩ = some (.bool x)
theorem BoolsAt.below {w w' : World} {sv : Value} {l : List Bool} (h : BoolsAt w sv l) (hb : Below w.heap.size w w') : BoolsAt w' sv l := by
  obtain ⟨a, cap, e, hc⟩ := h
  refine ⟨a, cap, e, fun i x hx => ?_⟩
  obtain ⟨b, o, e2, h2⟩ := hc i x hx
  exact ⟨b, o, e2, (hb.cell (block_lt_of_cell h2)).trans h2⟩

end Go.Proofs.Ytblfpakokhlkgaa
