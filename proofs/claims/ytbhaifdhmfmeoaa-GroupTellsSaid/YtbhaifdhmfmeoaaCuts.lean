/- Parts of slices of items and of sectors. -/
import Derived.Test.YtbhaifdhmfmeoaaParts
namespace Go.Proofs.Ytbhaifdhmfmeoaa
set_option linter.unusedSimpArgs false
set_option linter.unusedVariables false
open Go.RowKit

theorem el22 : Try.prog.underlying 22 = some (.slice (Try.prog.elem 22)) ∧ Try.prog.elem 22 = 72 := ⟨by kernel_rfl, by kernel_rfl⟩
theorem el24 : Try.prog.underlying 24 = some (.slice (Try.prog.elem 24)) ∧ Try.prog.elem 24 = 50 := ⟨by kernel_rfl, by kernel_rfl⟩
/-- Where a part of a slice begins. -/
def cutA (a : Option Addr) (f cap s : Nat) : Option Addr := if cap = f then a else a.map (·.add (f * s))
theorem size72 (w : World) : (Go.sizeOf 72).run Try.prog w = .ok 47 w := by
  obtain ⟨i, hi, hs⟩ := size_of info72
  simp [Go.sizeOf, typeInfo, hi, hs]
theorem size50 (w : World) : (Go.sizeOf 50).run Try.prog w = .ok 64 w := by
  obtain ⟨i, hi, hs⟩ := size_of info50
  simp [Go.sizeOf, typeInfo, hi, hs]
theorem run_cut22 (w : World) (a : Option Addr) (n cap f e : Nat) (h1 : f ≤ e) (h2 : e ≤ cap) : (Instr.sliceAt 22 (.slice a n cap) (some (.int .i64 f)) (some (.int .i64 e)) none).run Try.prog w = .ok (.slice (cutA a f cap 47) (e - f) (cap - f)) w := by
  rw [run_sliceAt_slice w 22 _ _ _ _ el22.1, run_slice_lh w 22 a n cap el22.1 .i64 .i64 f e (by omega) (by omega) (by omega), el22.2, size72]
  rfl
theorem run_from24 (w : World) (a : Option Addr) (n cap f : Nat) (h1 : f ≤ n) : (Instr.sliceAt 24 (.slice a n cap) (some (.int .i64 f)) none none).run Try.prog w = .ok (.slice (cutA a f cap 64) (n - f) (cap - f)) w := by
  rw [run_sliceAt_slice w 24 _ _ _ _ el24.1, run_slice_l w 24 a n cap el24.1 .i64 f (by omega) (by omega), el24.2, size50]
  rfl
theorem run_upto24 (w : World) (a : Option Addr) (n cap e : Nat) (h2 : e ≤ cap) : (Instr.sliceAt 24 (.slice a n cap) none (some (.int .i64 e)) none).run Try.prog w = .ok (.slice (cutA a 0 cap 64) e cap) w := by
  rw [run_sliceAt_slice w 24 _ _ _ _ el24.1, run_slice_h w 24 a n cap el24.1 .i64 e (by omega) (by omega), el24.2, size50]
  rfl
theorem exec_cut22 (w : World) (ev : Operand → Value) (op : Oper) (x y z : Operand) (ho : op.op = .slice 22 x (some y) (some z) none) (a : Option Addr) (n cap f e : Nat) (hx : ev x = .slice a n cap) (hy : ev y = .int .i64 f) (hz : ev z = .int .i64 e) (h1 : f ≤ e) (h2 : e ≤ cap) : (execOp ev op).run Try.prog w = .ok (.value (.slice (cutA a f cap 47) (e - f) (cap - f))) w := by
  unfold execOp
  simp only [ho, hx, hy, hz, Option.map_some, Option.map_none, Sem.run_bind, run_cut22 w a n cap f e h1 h2, Result.andThen_ok, Sem.run_pure]
theorem exec_from24 (w : World) (ev : Operand → Value) (op : Oper) (x y : Operand) (ho : op.op = .slice 24 x (some y) none none) (a : Option Addr) (n cap f : Nat) (hx : ev x = .slice a n cap) (hy : ev y = .int .i64 f) (h1 : f ≤ n) : (execOp ev op).run Try.prog w = .ok (.value (.slice (cutA a f cap 64) (n - f) (cap - f))) w := by
  unfold execOp
  simp only [ho, hx, hy, Option.map_some, Option.map_none, Sem.run_bind, run_from24 w a n cap f h1, Result.andThen_ok, Sem.run_pure]
theorem exec_upto24 (w : World) (ev : Operand → Value) (op : Oper) (x z : Operand) (ho : op.op = .slice 24 x none (some z) none) (a : Option Addr) (n cap e : Nat) (hx : ev x = .slice a n cap) (hz : ev z = .int .i64 e) (h2 : e ≤ cap) : (execOp ev op).run Try.prog w = .ok (.value (.slice (cutA a 0 cap 64) e cap)) w := by
  unfold execOp
  simp only [ho, hx, hz, Option.map_some, Option.map_none, Sem.run_bind, run_upto24 w a n cap e h2, Result.andThen_ok, Sem.run_pure]
theorem ItemsAt.cut {w : World} {a : Option Addr} {n cap : Nat} {l : List (It × Value)} (h : ItemsAt w (.slice a n cap) l) (f e : Nat) (h1 : f ≤ e) (h2 : e ≤ n) (m : List (It × Value)) (hm : m = (l.drop f).take (e - f)) : ItemsAt w (.slice (cutA a f cap 47) (e - f) (cap - f)) m := by
  subst hm
  obtain ⟨a', cap', e', hcap, hc⟩ := h
  cases e'
  have hlen : ((l.drop f).take (e - f)).length = e - f := by simp; omega
  refine ⟨_, _, by rw [hlen], by rw [hlen]; omega, fun i x hx => ?_⟩
  have hik : i < e - f := by have := (List.getElem?_eq_some_iff.1 hx).1; omega
  have hx2 : l[f + i]? = some x := by
    rw [List.getElem?_take, if_pos hik, List.getElem?_drop] at hx
    exact hx
  obtain ⟨k1, k2, g', o', rfl, k4⟩ := hc _ x hx2
  refine ⟨k1, k2, g', o' + f * 47, ?_, ?_⟩
  · unfold cutA
    rw [if_neg (by omega)]
    simp [Addr.add]
  rw [show o' + f * 47 + i * 47 = o' + (f + i) * 47 by omega]
  exact k4
theorem SecsAt.cut {w : World} {a : Option Addr} {n cap : Nat} {l : List (List Int)} (h : SecsAt w (.slice a n cap) l) (f e : Nat) (h1 : f ≤ e) (h2 : e ≤ n) (m : List (List Int)) (hm : m = (l.drop f).take (e - f)) : SecsAt w (.slice (cutA a f cap 64) (e - f) (cap - f)) m := by
  subst hm
  obtain ⟨a', cap', e', hcap, hc⟩ := h
  cases e'
  have hlen : ((l.drop f).take (e - f)).length = e - f := by simp; omega
  refine ⟨_, _, by rw [hlen], by rw [hlen]; omega, fun i x hx => ?_⟩
  have hik : i < e - f := by have := (List.getElem?_eq_some_iff.1 hx).1; omega
  have hx2 : l[f + i]? = some x := by
    rw [List.getElem?_take, if_pos hik, List.getElem?_drop] at hx
    exact hx
  obtain ⟨k1, g', o', rfl, k4⟩ := hc _ x hx2
  refine ⟨k1, g', o' + f * 64, ?_, ?_⟩
  · unfold cutA
    rw [if_neg (by omega)]
    simp [Addr.add]
  rw [show o' + f * 64 + i * 64 = o' + (f + i) * 64 by omega]
  exact k4

theorem exec_cut22c (w : World) (ev : Operand → Value) (op : Oper) (x y z : Operand) (ho : op.op = .slice 22 x (some y) (some z) none) (a : Option Addr) (n cap f e c g o : Nat) (hx : ev x = .slice a n cap) (hy : ev y = .int .i64 f) (hz : ev z = .int .i64 e) (h1 : e = f + c) (h2 : e ≤ cap) (ha : cutA a f cap 47 = some ⟨g, o, none⟩) : (execOp ev op).run Try.prog w = .ok (.value (.slice (some ⟨g, o, none⟩) c (cap - f))) w := by
  have := exec_cut22 w ev op x y z ho a n cap f e hx hy hz (by omega) h2
  rw [ha, show e - f = c by omega] at this
  exact this

end Go.Proofs.Ytbhaifdhmfmeoaa
