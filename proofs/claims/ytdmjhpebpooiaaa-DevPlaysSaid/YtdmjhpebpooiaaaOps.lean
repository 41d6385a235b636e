/- Operations on many cells, as steps of a walk and of a region that draws its order. -/
import Derived.Test.YtdmjhpebpooiaaaFill
import Derived.StillTailTactics
import Derived.Deep.QuietTactic
import Derived.BigQuiet
import Derived.RegionTactic
import Derived.BigRegion
namespace Go.Proofs.Ytdmjhpebpooiaaa
open Go.RowKit
section
variable {P : Program}
theorem wpList_run {ops : Array Oper} {rest : List Oper} {o : Oper} {a : Act} {w : World} {Q : Exit → Act → World → Prop} (v : Value) (w' : World) (hw : Region.wanted o (yielded ops a.tmps) = true)
    (hr : (execOp a.eval o).run P w = .ok (.value v) w') (h : wpList P ops Q rest (a.put o.dst v) w') : wpList P ops Q (o :: rest) a w :=
  wpList_op hw fun K hK => by
    unfold Oper.wp
    rw [hr]
    exact hK _ _ h
theorem wpStill_run {ops : Array Oper} {rest : List Oper} {o : Oper} {a : Act} {w : World} {Q : Act → Prop} (v : Value) (hw : Region.wanted o (yielded ops a.tmps) = true)
    (hr : (execOp a.eval o).run P w = .ok (.value v) w) (h : wpStill P ops w Q rest (a.put o.dst v)) : wpStill P ops w Q (o :: rest) a :=
  wpStill_step fun K hK => by
    rw [if_pos hw]
    unfold Oper.still
    rw [hr, Oper.stillUpon_value]
    exact hK _ h
theorem exec_load_at (w : World) (ev : Operand → Value) (o : Oper) (ty : TypeId) (x : Operand) (ho : o.op = .load ty x) (g off : Nat) (hx : ev x = .pointer (some ⟨g, off, none⟩)) (cs : Array Value) (d : TypeDesc)
    (hu : P.underlying ty = some d) (hd : (match d with | .struct _ | .array _ _ => true | _ => false) = true) (hi : (P.info? ty).map (·.size) = some cs.size)
    (hc : ∀ j (h : j < cs.size), w.cell? ⟨g, off + j, none⟩ = some cs[j]) : (execOp ev o).run P w = .ok (.value (.agg cs)) w := by
  unfold execOp
  simp only [ho, hx, Instr.loadAt, Instr.sureAddr, Sem.run_bind, Sem.run_pure, Result.andThen_ok, run_load_at w g off ty cs d hu hd hi hc]

theorem exec_load1 (w : World) (ev : Operand → Value) (o : Oper) (ty : TypeId) (x : Operand) (ho : o.op = .load ty x) (a : Addr) (hx : ev x = .pointer (some a)) (v : Value) (d : TypeDesc)
    (hu : P.underlying ty = some d) (hd : (match d with | .struct _ | .array _ _ => true | _ => false) = false) (hc : w.cell? a = some v) : (execOp ev o).run P w = .ok (.value v) w := by
  have hagg : (isAgg ty).run P w = .ok false w := by
    unfold isAgg
    rw [Sem.run_bind, run_underlying hu w]
    cases d <;> simp_all
  unfold execOp
  simp [ho, hx, Instr.loadAt, Instr.sureAddr, loadVar, Sem.run_bind, hagg, hc]
theorem exec_alloc (w : World) (ev : Operand → Value) (o : Oper) (t : TypeId) (ho : o.op = .alloc t) (cs : Array Value) (hz : (P.info? t).bind (·.zero) = some (.agg cs)) :
    (execOp ev o).run P w = .ok (.value (.pointer (some ⟨w.heap.size, 0, none⟩))) (w.alloc (.cells cs t)) := by
  cases hq : P.info? t with
  | none => simp [hq] at hz
  | some i =>
    have hz' : i.zero = some (.agg cs) := by simpa [hq] using hz
    unfold execOp
    simp [ho, Instr.alloc, zeroValue, typeInfo, hq, hz', newVar, newRow, Value.cells]
theorem exec_build (w w' : World) (ev : Operand → Value) (o : Oper) (t : TypeId) (parts : Array (Nat × Operand)) (ho : o.op = .build t parts) (vals : Array (Nat × Value)) (hp : parts.map (fun x => (x.1, ev x.2)) = vals)
    (v : Value) (hr : (Instr.build t vals).run P w = .ok v w') : (execOp ev o).run P w = .ok (.value v) w' := by
  unfold execOp
  simp only [ho, Sem.run_bind, hp, hr, Result.andThen_ok, Sem.run_pure]
theorem exec_buildSlice (w w' : World) (ev : Operand → Value) (o : Oper) (t : TypeId) (n : Nat) (parts : Array (Nat × Operand)) (ho : o.op = .buildSlice t n parts) (vals : Array (Nat × Value)) (hp : parts.map (fun x => (x.1, ev x.2)) = vals)
    (v : Value) (hr : (Instr.buildSlice t n vals).run P w = .ok v w') : (execOp ev o).run P w = .ok (.value v) w' := by
  unfold execOp
  simp only [ho, Sem.run_bind, hp, hr, Result.andThen_ok, Sem.run_pure]

theorem any_op {ops : Array Oper} {md : Region.Mode} {Q : Exit → Act → World → Prop} {fuel : Nat} {listed : Array Bool} {a : Act} {w : World} {i : Nat} {o : Oper} (hi : ops[i]? = some o) (hw : Region.wanted o (yielded ops a.tmps) = true) (dst : Option Tmp) (hd : o.dst = dst) (v : Value) (w' : World)
    (hr : (execOp a.eval o).run P w = .ok (.value v) w') (h : wpAny P md ops Q fuel (listed.setIfInBounds i true) (a.put dst v) w') : wpOp P ops Q i (wpAny P md ops Q fuel (listed.setIfInBounds i true)) a w :=
  wpOp_step hi fun K hK => by
    rw [if_pos hw]
    unfold Oper.wp
    rw [hr]
    subst hd
    exact hK _ _ h
theorem any_skip {ops : Array Oper} {md : Region.Mode} {Q : Exit → Act → World → Prop} {fuel : Nat} {listed : Array Bool} {a : Act} {w : World} {i : Nat} {o : Oper} (hi : ops[i]? = some o) (hw : Region.wanted o (yielded ops a.tmps) = true) (dst : Option Tmp) (hd : o.dst = dst) (w' : World)
    (hr : (execOp a.eval o).run P w = .ok .skip w') (h : wpAny P md ops Q fuel (listed.setIfInBounds i true) (a.put dst undef) w') : wpOp P ops Q i (wpAny P md ops Q fuel (listed.setIfInBounds i true)) a w :=
  wpOp_step hi fun K hK => by
    rw [if_pos hw]
    unfold Oper.wp
    rw [hr]
    subst hd
    exact hK _ _ h
theorem any_take {ops : Array Oper} {md : Region.Mode} {Q : Exit → Act → World → Prop} (i : Nat) {oi : Oper} (dst : Option Tmp) (v : Value) {fuel : Nat} {listed : Array Bool} {a : Act} {w : World} (hi : ops[i]? = some oi) (hd : oi.dst = dst)
    (hs : Region.noSelect ops = true) (hf : Region.free md ops listed i = true) (hr : (Region.ready md ops listed).contains i = true)
    (hQ : ∀ c a w, Q (.panic c) (a.put dst v) w → Q (.panic c) a w) (hw : Region.wanted oi (yielded ops a.tmps) = true) (hy : ∀ w, (execOp a.eval oi).run P w = .ok (.value v) w)
    (h : wpAny P md ops Q fuel (listed.setIfInBounds i true) (a.put dst v) w) : wpAny P md ops Q (fuel + 1) listed a w := by
  subst hd
  exact wpAny_take hi hs hf hr hQ (.inl ⟨hw, hy⟩) h
theorem any_one {ops : Array Oper} {md : Region.Mode} {Q : Exit → Act → World → Prop} {fuel : Nat} {listed : Array Bool} {a : Act} {w : World} (i : Nat) (hr : Region.ready md ops listed = [i])
    (h : wpOp P ops Q i (wpAny P md ops Q fuel (listed.setIfInBounds i true)) a w) : wpAny P md ops Q (fuel + 1) listed a w :=
  wpAny_all hr (by simp) fun j hj => by rw [List.mem_singleton.1 hj]; exact h
theorem any_two {ops : Array Oper} {md : Region.Mode} {Q : Exit → Act → World → Prop} {fuel : Nat} {listed : Array Bool} {a : Act} {w : World} (i k : Nat) (hr : Region.ready md ops listed = [i, k])
    (h : wpOp P ops Q i (wpAny P md ops Q fuel (listed.setIfInBounds i true)) a w) (h2 : wpOp P ops Q k (wpAny P md ops Q fuel (listed.setIfInBounds k true)) a w) : wpAny P md ops Q (fuel + 1) listed a w :=
  wpAny_all hr (by simp) fun j hj => by
    rcases List.mem_cons.1 hj with rfl | hj
    · exact h
    · rw [List.mem_singleton.1 hj]; exact h2

theorem foldl_cells (off : Nat) : ∀ (vs : List Value) (k : Nat) (cells : Array Value), off + k + vs.length ≤ cells.size →
    ((vs.zipIdx k).foldl (fun cs p => cs.setIfInBounds (off + p.2) p.1) cells).toList = cells.toList.take (off + k) ++ vs ++ cells.toList.drop (off + k + vs.length)
  | [], k, cells, _ => by simp
  | v :: vs, k, cells, h => by
    have hl : off + k + (vs.length + 1) ≤ cells.size := by simpa using h
    rw [List.zipIdx_cons, List.foldl_cons, foldl_cells off vs (k + 1) _ (by simp; omega)]
    have e := list_seg_step cells.toList (off + k) v vs (by simpa using hl)
    simpa [Array.toList_setIfInBounds, Nat.add_assoc] using e
theorem fill_whole (cells vs : Array Value) (h : vs.size = cells.size) : (vs.zipIdx.foldl (fun cs p => cs.setIfInBounds (0 + p.2) p.1) cells) = vs := by
  have := foldl_cells 0 vs.toList 0 cells (by simp; omega)
  apply Array.ext'
  rw [← Array.foldl_toList, Array.toList_zipIdx, this]
  simp [h]

theorem built_struct {t : TypeId} {parts : List (Nat × Value)} {fs : Array Field} {z : Value} {places : List (Nat × Nat)} (hu : P.underlying t = some (.struct fs)) (hz : (P.info? t).bind (·.zero) = some z)
    (hp : fs.toList.mapM (fun f => (P.info? f.type).map fun i => (f.offset, i.size)) = some places) : P.built t parts = Instr.fill (places.toArray[·]?) z.cells parts := by
  unfold Program.built
  cases hq : P.info? t with
  | none => simp [hq] at hz
  | some it =>
    have : it.zero = some z := by simpa [hq] using hz
    simp [hu, this, hp]
theorem fill_pair (i : Int) (cs zs : Array Value) (n : Nat) (h : cs.size = n) (hz : zs.size = 1 + n) : Instr.fill ([(0, 1), (1, n)].toArray[·]?) zs [(0, .int .i64 i), (1, .agg cs)] = some (#[.int .i64 i] ++ cs) := by
  subst h
  have h1 := foldl_cells 1 cs.toList 0 (zs.setIfInBounds 0 (.int .i64 i)) (by simp; omega)
  have h2 : (cs.zipIdx.foldl (fun cs p => cs.setIfInBounds (1 + p.2) p.1) (zs.setIfInBounds 0 (.int .i64 i))) = #[.int .i64 i] ++ cs := by
    apply Array.ext'
    rw [← Array.foldl_toList, Array.toList_zipIdx, h1]
    obtain ⟨l⟩ := zs
    cases l with
    | nil => simp at hz; omega
    | cons z l =>
      simp at hz
      simp
      omega
  have hne : zs.size ≠ 0 := by omega
  simp only [Array.size_zipIdx] at h2
  simp [Instr.fill, Value.cells]
  exact ⟨fun h => hne (by simp [h]), by omega, h2⟩
theorem run_buildSlice_one (w : World) (t e : TypeId) (i : TypeInfo) (z : Value) (cs : Array Value) (ht : P.underlying t = some (.slice e)) (hi : P.info? e = some i) (hz : i.zero = some z) (hs : i.size = cs.size) (hpos : 0 < cs.size) (hle : cs.size ≤ 2 ^ 24) :
    (Instr.buildSlice t 1 #[(0, .agg cs)]).run P w = .ok (.slice (some ⟨w.heap.size, 0, none⟩) 1 1) (w.alloc (.cells cs e)) := by
  have h2 := fill_whole ((Array.range cs.size).map (z.cells[· % z.cells.size]!)) cs (by simp)
  have n1 : ¬ (2 ^ 24 < cs.size) := by omega
  have n2 : ¬ (cs.size = 0) := by omega
  simp [Instr.buildSlice, run_underlying ht, sizeOf, typeInfo, hi, hs, n1, n2, zeroValue, hz, Instr.fill, Value.cells, newRow]
  congr 2
  simp only [Array.size_zipIdx, Nat.zero_add] at h2
  exact h2
end
theorem info69z : (Try.prog.info? 69).bind (·.zero) = some (.agg (#[.int .i64 0] ++ fillA 0)) := by kernel_rfl
theorem places69 : (Try.prog.underlying 69).map (fun | .struct fs => fs.toList.mapM (fun f => (Try.prog.info? f.type).map fun i => (f.offset, i.size)) | _ => none) = some (some [(0, 1), (1, 64)]) := by kernel_rfl
theorem built69 (i : Int) (cs : Array Value) (h : cs.size = 64) : Try.prog.built 69 [(0, .int .i64 i), (1, .agg cs)] = some (#[.int .i64 i] ++ cs) := by
  have hp := places69
  rw [Try.underlying69] at hp
  rw [built_struct Try.underlying69 info69z (Option.some.inj hp)]
  exact fill_pair i cs _ 64 h (by simp [Value.cells, fillA])
theorem build69 (w : World) (i : Int) (cs : Array Value) (h : cs.size = 64) : (Instr.build 69 #[(0, .int .i64 i), (1, .agg cs)]).run Try.prog w = .ok (.agg (#[.int .i64 i] ++ cs)) w := run_build w 69 _ _ (built69 i cs h)
theorem info69s : (Try.prog.info? 69).map (fun i => (i.zero, i.size, i.bytes)) = some (some (.agg (#[.int .i64 0] ++ fillA 0)), 65, 72) := by kernel_rfl
theorem row63 (w : World) (cs : Array Value) (h : cs.size = 65) : (Instr.buildSlice 63 1 #[(0, .agg cs)]).run Try.prog w = .ok (.slice (some ⟨w.heap.size, 0, none⟩) 1 1) (w.alloc (.cells cs 69)) := by
  obtain ⟨i, hi, hz, hs, _⟩ := info_parts info69s
  exact run_buildSlice_one w 63 69 i _ cs Try.underlying63 hi hz (by omega) (by omega) (by rw [h]; decide)
end Go.Proofs.Ytdmjhpebpooiaaa
