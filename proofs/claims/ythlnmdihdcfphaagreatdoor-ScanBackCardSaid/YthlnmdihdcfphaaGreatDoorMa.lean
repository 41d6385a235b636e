/- Gc: texts of elder seats turned: what the stage needs of them. Ge: texts of elder seats turned: what the stage needs of them. -/
import Derived.Test.YthlnmdihdcfphaaGreatDoorGb
import Derived.Deep.Cut
import Derived.Deep.CutRange
import Derived.Test.YthlnmdihdcfphaaGreatDoorGd
namespace Go.Proofs.YthlnmdihdcfphaaGreatDoor
set_option linter.unusedSimpArgs false
set_option linter.unusedVariables false
open Go.RowKit

theorem ES.grow {W w w' : World} {g r B : Nat} {b : Bk} {sv : Value} (h : ES W w g r b sv) (hg : g < B) (hr : r < B) (hb : Below B w w') (hB : B ≤ w.heap.size) : ES W w' g r b sv :=
  ⟨h.bat.below hb hg, h.res.below hb hr, ⟨hb.os.trans h.bel.os, hb.tape.trans h.bel.tape, hb.output.trans h.bel.output, Nat.le_trans h.bel.size hb.size, fun k hk => (hb.block k (by have := h.g0; omega)).trans (h.bel.block k hk)⟩, h.g0, h.gr⟩
end Go.Proofs.YthlnmdihdcfphaaGreatDoor
namespace Go.Proofs.YthlnmdihdcfphaaGreatDoor
set_option linter.unusedSimpArgs false
set_option linter.unusedVariables false
open Go.RowKit

/-- A store into bytes of one's own. -/
theorem Own.set {w : World} {B g n cap : Nat} {l : List Int} (h : Own w B (.slice (some ⟨g, 0, none⟩) n cap) l) (i : Nat) (v : Int) (hi : i < l.length) : Own (w.setCell ⟨g, i, none⟩ (.int .u8 v)) B (.slice (some ⟨g, 0, none⟩) n cap) (l.set i v) := by
  rcases h.2 with ⟨e, _⟩ | ⟨g', cap', cur, e, hb, hg, hn, hm, hs, ht⟩
  · cases e
  · cases e
    refine ⟨by simp, .inr ⟨g, cap, cur.setIfInBounds i (.int .u8 v), by rw [List.length_set], hb, ?_, by rw [List.length_set]; exact hn, hm, by simpa using hs, ?_⟩⟩
    · rw [heap_setCell_same w g i cur 5 (.int .u8 v) hg]
    · have e2 : (cur.setIfInBounds i (.int .u8 v)).toList = cur.toList.set i (.int .u8 v) := by simp
      rw [e2, List.length_set, List.take_set, ht]
      simp
/-- Bytes behind a step that turned one row alone. -/
theorem BytesAt.grown {w w' : World} {row : Option Nat} {sv : Value} {l : List Int} (h : BytesAt w sv l) (hg : w.grownBy w' row) (hne : ∀ b o n c, sv = .slice (some ⟨b, o, none⟩) n c → row ≠ some b) : BytesAt w' sv l := by
  obtain ⟨a, cap, rfl, hc⟩ := h
  refine ⟨a, cap, rfl, fun i x hx => ?_⟩
  obtain ⟨b, o, rfl, hx2⟩ := hc i x hx
  exact ⟨b, o, rfl, by rw [← hx2]; exact cell_same (hg.block b (block_lt_of_cell hx2) fun e => hne _ _ _ _ rfl e.symm)⟩
abbrev Sm.rcells (s : Sm) (sv : Value) (e0 : Int) : List Value := [.int .u32 s.seq, .bool s.more, sv, .int .i64 e0]
/-- The statements' summary in a variable (g), the result's variable (r), both made behind W. -/
structure RS (W w : World) (g r : Nat) (s : Sm) (sv : Value) (e0 : Int) : Prop where
  sm : Blk w g (s.rcells sv e0)
  res : Blk w r (u8s (zeros 64))
  mark : MarksAt w sv s.marks
  bel : Below W.heap.size W w
  g0 : W.heap.size ≤ g
  gr : g < r
theorem RS.below {W w w' : World} {g r : Nat} {s : Sm} {sv : Value} {e0 : Int} (h : RS W w g r s sv e0) (hb : Below w.heap.size w w') : RS W w' g r s sv e0 :=
  ⟨h.sm.below hb h.sm.lt, h.res.below hb h.res.lt, h.mark.below hb, h.bel.trans (hb.mono h.bel.size), h.g0, h.gr⟩
theorem swp_skipTo {P : Program} {o : Oper} {a : Act} {w : World} {K : Act → World → Prop} {Q : Exit → Act → World → Prop} (dst : Option Tmp) (hd : o.dst = dst) (w' : World) (hr : (execOp a.eval o).run P w = .ok .skip w') (h : K (a.put dst undef) w') : o.wp P a w K Q := by
  subst hd
  unfold Oper.wp
  rw [hr]
  exact h
end Go.Proofs.YthlnmdihdcfphaaGreatDoor
