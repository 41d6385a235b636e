/- Steps of a walk at operations of many cells: boxes, new variables, loads, stores, arrays built and compared; the world behind each is told by what it holds. -/
import Derived.Test.YtbhaifdhmfmeoaaNum
import Derived.OrdersHeld
namespace Go.Proofs.Ytbhaifdhmfmeoaa
set_option linter.unusedSimpArgs false
set_option linter.unusedVariables false
open Go.RowKit

section
variable {P : Program}
theorem wpList_run {ops : Array Oper} {rest : List Oper} {o : Oper} {a : Act} {w : World} {Q : Exit → Act → World → Prop} (v : Value) (w' : World) (hw : Region.wanted o (yielded ops a.tmps) = true)
    (hr : (execOp a.eval o).run P w = .ok (.value v) w') (h : wpList P ops Q rest (a.put o.dst v) w') : wpList P ops Q (o :: rest) a w :=
  wpList_op hw fun K hK => by
    unfold Oper.wp
    rw [hr]
    exact hK _ _ h
/-- Where a walk is to stop. -/
structure Stop (p : Prop) : Prop where
  go : p
theorem stopR {id : Nat} {ops : Array Oper} {d : Bool} {Q : Exit → Act → World → Prop} {a : Act} {w : World} (h : Stop ((Code.region id ops d).wp P Q a w)) : (Code.region id ops d).wp P Q a w := h.go
theorem takeL {ops : Array Oper} {rest : List Oper} {o : Oper} {a : Act} {w : World} {Q : Exit → Act → World → Prop} (v : Value) (hw : Region.wanted o (yielded ops a.tmps) = true)
    (hr : (execOp a.eval o).run P w = .ok (.value v) w) (h : wpList P ops Q rest (a.put o.dst v) w) : wpList P ops Q (o :: rest) a w := wpList_run v w hw hr h
theorem passL {ops : Array Oper} {rest : List Oper} {o : Oper} {a : Act} {w : World} {Q : Exit → Act → World → Prop} (hw : Region.wanted o (yielded ops a.tmps) = false)
    (h : wpList P ops Q rest (a.put o.dst undef) w) : wpList P ops Q (o :: rest) a w := wpList_step fun K hK => by rw [if_neg (by simp [hw])]; exact hK _ _ h
theorem skipL {ops : Array Oper} {rest : List Oper} {o : Oper} {a : Act} {w : World} {Q : Exit → Act → World → Prop} (w' : World) (hw : Region.wanted o (yielded ops a.tmps) = true)
    (hr : (execOp a.eval o).run P w = .ok .skip w') (h : wpList P ops Q rest (a.put o.dst undef) w') : wpList P ops Q (o :: rest) a w :=
  wpList_op hw fun K hK => by
    unfold Oper.wp
    rw [hr]
    exact hK _ _ h
theorem exec_load_at (w : World) (ev : Operand → Value) (o : Oper) (ty : TypeId) (x : Operand) (ho : o.op = .load ty x) (g off : Nat) (hx : ev x = .pointer (some ⟨g, off, none⟩)) (cs : Array Value) (d : TypeDesc)
    (hu : P.underlying ty = some d) (hd : (match d with | .struct _ | .array _ _ => true | _ => false) = true) (hi : (P.info? ty).map (·.size) = some cs.size)
    (hc : ∀ j (h : j < cs.size), w.cell? ⟨g, off + j, none⟩ = some cs[j]) : (execOp ev o).run P w = .ok (.value (.agg cs)) w := by
  unfold execOp
  simp only [ho, hx, Instr.loadAt, Instr.sureAddr, Sem.run_bind, Sem.run_pure, Result.andThen_ok, run_load_at w g off ty cs d hu hd hi hc]

theorem exec_load1 (w : World) (ev : Operand → Value) (o : Oper) (ty : TypeId) (x : Operand) (ho : o.op = .load ty x) (a : Addr) (hx : ev x = .pointer (some a)) (v : Value) (d : TypeDesc)
    (hu : P.underlying ty = some d) (hd : (match d with | .struct _ | .array _ _ => true | _ => false) = false) (hc : w.cell? a = some v) : (execOp ev o).run P w = .ok (.value v) w := by
  have hagg : (isAgg ty).run P w = .ok false w := by
    unfold isAgg
    rw [Sem.run_bind, run_underlying hu w]
    cases d <;> simp_all
  unfold execOp
  simp [ho, hx, Instr.loadAt, Instr.sureAddr, loadVar, Sem.run_bind, hagg, hc]
theorem exec_alloc (w : World) (ev : Operand → Value) (o : Oper) (t : TypeId) (ho : o.op = .alloc t) (cs : Array Value) (hz : (P.info? t).bind (·.zero) = some (.agg cs)) :
    (execOp ev o).run P w = .ok (.value (.pointer (some ⟨w.heap.size, 0, none⟩))) (w.alloc (.cells cs t)) := by
  cases hq : P.info? t with
  | none => simp [hq] at hz
  | some i =>
    have hz' : i.zero = some (.agg cs) := by simpa [hq] using hz
    unfold execOp
    simp [ho, Instr.alloc, zeroValue, typeInfo, hq, hz', newVar, newRow, Value.cells]
theorem exec_build (w w' : World) (ev : Operand → Value) (o : Oper) (t : TypeId) (parts : Array (Nat × Operand)) (ho : o.op = .build t parts) (vals : Array (Nat × Value)) (hp : parts.map (fun x => (x.1, ev x.2)) = vals)
    (v : Value) (hr : (Instr.build t vals).run P w = .ok v w') : (execOp ev o).run P w = .ok (.value v) w' := by
  unfold execOp
  simp only [ho, Sem.run_bind, hp, hr, Result.andThen_ok, Sem.run_pure]
theorem exec_buildSlice (w w' : World) (ev : Operand → Value) (o : Oper) (t : TypeId) (n : Nat) (parts : Array (Nat × Operand)) (ho : o.op = .buildSlice t n parts) (vals : Array (Nat × Value)) (hp : parts.map (fun x => (x.1, ev x.2)) = vals)
    (v : Value) (hr : (Instr.buildSlice t n vals).run P w = .ok v w') : (execOp ev o).run P w = .ok (.value v) w' := by
  unfold execOp
  simp only [ho, Sem.run_bind, hp, hr, Result.andThen_ok, Sem.run_pure]
theorem takeH {ops : Array Oper} {md : Region.Mode} {Q : Exit → Act → World → Prop} {S : World → Prop} (i : Nat) {oi : Oper} (dst : Option Tmp) (v : Value) {fuel : Nat} {listed : Array Bool} {a : Act} {w : World} (hi : ops[i]? = some oi) (hd : oi.dst = dst)
    (hs : Region.noSelect ops = true) (hf : Region.free md ops listed i = true) (hr : (Region.ready md ops listed).contains i = true)
    (hQ : ∀ c a w, Q (.panic c) (a.put dst v) w → Q (.panic c) a w) (hw : Region.wanted oi (yielded ops a.tmps) = true) (hy : ∀ w, S w → (execOp a.eval oi).run P w = .ok (.value v) w) (hS : S w)
    (h : wpAnyH P md ops Q S fuel (listed.setIfInBounds i true) (a.put dst v) w) : wpAnyH P md ops Q S (fuel + 1) listed a w := by
  subst hd
  exact wpAnyH_take hi hs hf hr hQ (.inl ⟨hw, hy⟩) hS h
theorem passH {ops : Array Oper} {md : Region.Mode} {Q : Exit → Act → World → Prop} {S : World → Prop} (i : Nat) {oi : Oper} (dst : Option Tmp) {fuel : Nat} {listed : Array Bool} {a : Act} {w : World} (hi : ops[i]? = some oi) (hd : oi.dst = dst)
    (hs : Region.noSelect ops = true) (hf : Region.free md ops listed i = true) (hr : (Region.ready md ops listed).contains i = true)
    (hQ : ∀ c a w, Q (.panic c) (a.put dst undef) w → Q (.panic c) a w) (hw : Region.wanted oi (yielded ops a.tmps) = false) (hS : S w)
    (h : wpAnyH P md ops Q S fuel (listed.setIfInBounds i true) (a.put dst undef) w) : wpAnyH P md ops Q S (fuel + 1) listed a w := by
  subst hd
  exact wpAnyH_take hi hs hf hr hQ (.inr ⟨hw, rfl⟩) hS h
theorem oneH {ops : Array Oper} {md : Region.Mode} {Q : Exit → Act → World → Prop} {S : World → Prop} {fuel : Nat} {listed : Array Bool} {a : Act} {w : World} (i : Nat) {o : Oper} (hr : Region.ready md ops listed = [i]) (hi : ops[i]? = some o)
    (hw : Region.wanted o (yielded ops a.tmps) = true)
    (h : ∀ K : Act → World → Prop, (∀ a w, S w → wpAnyH P md ops Q S fuel (listed.setIfInBounds i true) a w → K a w) → Oper.wp P o a w K Q) : wpAnyH P md ops Q S (fuel + 1) listed a w :=
  wpAnyH_all hr (by simp) fun j hj => by
    rw [List.mem_singleton.1 hj]
    exact wpOp_step hi fun K hK => by rw [if_pos hw]; exact h K fun a w hS hA => hK a w ⟨hS, hA⟩
theorem startH {ops : Array Oper} {Q : Exit → Act → World → Prop} (S : World → Prop) {id : Nat} {a : Act} {w : World} (hm : P.follows .mixedOrders = true)
    (h : wpAnyH P .any ops Q S ops.size (Array.replicate ops.size false) a w.drew) : (Code.region id ops true).wp P Q a w := wp_region_held (S := S) hm h
end
/-- Nothing that was there has turned, and behind a call that turns nothing neither. -/
theorem stay {W w w1 : World} (h : Below W.heap.size W w) (hb : Below w.heap.size w w1) : Below W.heap.size W w1 := h.trans (hb.mono h.size)
theorem drewN_below {B : Nat} {a w : World} (h : Below B a w) (n : Nat) : Below B a (w.drewN n) := ⟨h.os, h.tape, h.output, h.size, h.block⟩
abbrev u8s (l : List Int) : List Value := l.map (Value.int .u8)
abbrev i64s (l : List Int) : List Value := l.map (Value.int .i64)
/-- Cells cs lie from off on. -/
def At (w : World) (g off : Nat) (cs : Array Value) : Prop := ∀ j (h : j < cs.size), w.cell? ⟨g, off + j, none⟩ = some cs[j]
theorem info5 : (Try.prog.info? 5).map (fun i => (i.zero, i.size, i.bytes)) = some (some (.int .u8 0), 1, 1) := by kernel_rfl
theorem info3 : (Try.prog.info? 3).map (·.size) = some 1 := by kernel_rfl
theorem info5s : (Try.prog.info? 5).map (·.size) = some 1 := by kernel_rfl
theorem info55 : (Try.prog.info? 55).map (·.size) = some 8 := by kernel_rfl
theorem info53 : (Try.prog.info? 53).map (·.size) = some 32 := by kernel_rfl
theorem info57 : (Try.prog.info? 57).map (·.size) = some 45 := by kernel_rfl
theorem info50 : (Try.prog.info? 50).map (·.size) = some 64 := by kernel_rfl
theorem size_of {t : TypeId} {n : Nat} (h : (Try.prog.info? t).map (·.size) = some n) : ∃ i, Try.prog.info? t = some i ∧ i.size = n := by
  cases hq : Try.prog.info? t with
  | none => simp [hq] at h
  | some i => exact ⟨i, rfl, by simpa [hq] using h⟩
theorem zero57 : (Try.prog.info? 57).bind (·.zero) = some (.agg (#[.int .i64 0, .int .i64 0] ++ Array.replicate 32 (.int .u8 0) ++ #[.int .i64 0, .slice none 0 0, .int .i64 0] ++ Array.replicate 8 (.int .i64 0))) := by kernel_rfl
theorem zero50 : (Try.prog.info? 50).bind (·.zero) = some (.agg (u8s (zeros 64)).toArray) := by kernel_rfl
theorem built53 : Try.prog.built 53 [] = some (u8s (zeros 32)).toArray := by kernel_rfl
theorem build53 (w : World) : (Instr.build 53 #[]).run Try.prog w = .ok (.agg (u8s (zeros 32)).toArray) w := run_build w 53 _ _ built53
theorem built55 : Try.prog.built 55 [] = some (i64s (zeros 8)).toArray := by kernel_rfl
theorem build55 (w : World) : (Instr.build 55 #[]).run Try.prog w = .ok (.agg (i64s (zeros 8)).toArray) w := run_build w 55 _ _ built55
theorem built50 : Try.prog.built 50 [] = some (u8s (zeros 64)).toArray := by kernel_rfl
theorem build50 (w : World) : (Instr.build 50 #[]).run Try.prog w = .ok (.agg (u8s (zeros 64)).toArray) w := run_build w 50 _ _ built50
theorem Blk.newAt {w : World} {cs : Array Value} (t : TypeId) (n : Nat) (l : List Value) (hn : n = w.heap.size) (hl : l = cs.toList) : Blk (w.alloc (.cells cs t)) n l := by
  subst hn
  subst hl
  exact Blk.new w cs t
theorem splice_all (l : List Value) (cs : Array Value) (h : l.length = cs.size) : splice l 0 cs = cs := by
  unfold splice
  rw [List.take_zero, List.drop_of_length_le (by omega)]
  simp
theorem Blk.all {w : World} {g : Nat} {l : List Value} (h : Blk w g l) {cs : Array Value} (e : l = cs.toList) : At w g 0 cs := fun j hj => h.cell (by subst e; simp [hj])
section
variable {ops : Array Oper} {rest : List Oper} {dst : Option Tmp} {x : Operand} {t2 : TypeId} {pos : String} {after : Array Edge} {guard : Option (Nat × Bool)} {a : Act} {w : World} {Q : Exit → Act → World → Prop}
theorem load55 {g off : Nat} {cs : Array Value} (hA : At w g off cs) (hs : cs.size = 8) (hx : a.eval x = .pointer (some ⟨g, off, none⟩)) (hw : Region.wanted ⟨dst, .load 55 x, t2, pos, after, guard⟩ (yielded ops a.tmps) = true)
    (h : wpList Try.prog ops Q rest (a.put dst (.agg cs)) w) : wpList Try.prog ops Q (⟨dst, .load 55 x, t2, pos, after, guard⟩ :: rest) a w :=
  wpList_load_at hw 55 x rfl g off hx cs _ Try.underlying55 rfl (by rw [hs]; exact info55) hA h
theorem load53 {g off : Nat} {cs : Array Value} (hA : At w g off cs) (hs : cs.size = 32) (hx : a.eval x = .pointer (some ⟨g, off, none⟩)) (hw : Region.wanted ⟨dst, .load 53 x, t2, pos, after, guard⟩ (yielded ops a.tmps) = true)
    (h : wpList Try.prog ops Q rest (a.put dst (.agg cs)) w) : wpList Try.prog ops Q (⟨dst, .load 53 x, t2, pos, after, guard⟩ :: rest) a w :=
  wpList_load_at hw 53 x rfl g off hx cs _ Try.underlying53 rfl (by rw [hs]; exact info53) hA h
theorem load57 {g off : Nat} {cs : Array Value} (hA : At w g off cs) (hs : cs.size = 45) (hx : a.eval x = .pointer (some ⟨g, off, none⟩)) (hw : Region.wanted ⟨dst, .load 57 x, t2, pos, after, guard⟩ (yielded ops a.tmps) = true)
    (h : wpList Try.prog ops Q rest (a.put dst (.agg cs)) w) : wpList Try.prog ops Q (⟨dst, .load 57 x, t2, pos, after, guard⟩ :: rest) a w :=
  wpList_load_at hw 57 x rfl g off hx cs _ Try.underlying57 rfl (by rw [hs]; exact info57) hA h
theorem load50 {g off : Nat} {cs : Array Value} (hA : At w g off cs) (hs : cs.size = 64) (hx : a.eval x = .pointer (some ⟨g, off, none⟩)) (hw : Region.wanted ⟨dst, .load 50 x, t2, pos, after, guard⟩ (yielded ops a.tmps) = true)
    (h : wpList Try.prog ops Q rest (a.put dst (.agg cs)) w) : wpList Try.prog ops Q (⟨dst, .load 50 x, t2, pos, after, guard⟩ :: rest) a w :=
  wpList_load_at hw 50 x rfl g off hx cs _ Try.underlying50 rfl (by rw [hs]; exact info50) hA h
theorem box_g {t : TypeId} {cs : Array Value} (hx : a.eval x = .agg cs) (hw : Region.wanted ⟨dst, .box t x, t2, pos, after, guard⟩ (yielded ops a.tmps) = true)
    (h : ∀ wX, Blk wX w.heap.size cs.toList → Below w.heap.size w wX → w.heap.size < wX.heap.size → wpList Try.prog ops Q rest (a.put dst (.pointer (some ⟨w.heap.size, 0, none⟩))) wX) : wpList Try.prog ops Q (⟨dst, .box t x, t2, pos, after, guard⟩ :: rest) a w := by
  refine wpList_op hw fun K hK => ?_
  unfold Oper.wp execOp
  simp only [hx, Value.cells, Sem.run_bind, Instr.box, newVar, newRow, run_newObj_alloc, Sem.run_pure, Result.andThen_ok]
  exact hK _ _ (h _ (Blk.new w cs t) ((Below.refl _ _).alloc (Nat.le_refl _) _) (by simp))
theorem alloc_g {t : TypeId} {cs : Array Value} (hz : (Try.prog.info? t).bind (·.zero) = some (.agg cs)) (hw : Region.wanted ⟨dst, .alloc t, t2, pos, after, guard⟩ (yielded ops a.tmps) = true)
    (h : ∀ wX, Blk wX w.heap.size cs.toList → Below w.heap.size w wX → w.heap.size < wX.heap.size → wpList Try.prog ops Q rest (a.put dst (.pointer (some ⟨w.heap.size, 0, none⟩))) wX) : wpList Try.prog ops Q (⟨dst, .alloc t, t2, pos, after, guard⟩ :: rest) a w :=
  wpList_run _ _ hw (exec_alloc _ _ _ t rfl cs hz) (h _ (Blk.new w cs t) ((Below.refl _ _).alloc (Nat.le_refl _) _) (by simp))
theorem store_g {t : TypeId} {y : Operand} {g off : Nat} {l : List Value} {cs : Array Value} (hb : Blk w g l) (hi : (Try.prog.info? t).map (·.size) = some cs.size) (hfit : off + cs.size ≤ l.length) (h1 : ∀ v ∈ cs, v.oneCell' = true)
    (hx : a.eval x = .pointer (some ⟨g, off, none⟩)) (hy : a.eval y = .agg cs) (hw : Region.wanted ⟨dst, .store t x y, t2, pos, after, guard⟩ (yielded ops a.tmps) = true)
    (h : ∀ wX, Blk wX g (splice l off cs).toList → Only (fun k => k = g) w wX → wX.heap.size = w.heap.size → wpList Try.prog ops Q rest (a.put dst undef) wX) : wpList Try.prog ops Q (⟨dst, .store t x y, t2, pos, after, guard⟩ :: rest) a w :=
  wpList_store_at hw t x y rfl g off cs hx hy l hb hi hfit h1 (h _ (hb.row _) ((Only.refl (fun k => k = g) w).setRow (.inl rfl) _) (by simp))
/-- A store over all of a variable. -/
theorem store_all {t : TypeId} {y : Operand} {g : Nat} {l : List Value} {cs : Array Value} (hb : Blk w g l) (hl : l.length = cs.size) (hi : (Try.prog.info? t).map (·.size) = some cs.size) (h1 : ∀ v ∈ cs, v.oneCell' = true)
    (hx : a.eval x = .pointer (some ⟨g, 0, none⟩)) (hy : a.eval y = .agg cs) (hw : Region.wanted ⟨dst, .store t x y, t2, pos, after, guard⟩ (yielded ops a.tmps) = true)
    (h : ∀ wX, Blk wX g cs.toList → Only (fun k => k = g) w wX → wX.heap.size = w.heap.size → wpList Try.prog ops Q rest (a.put dst undef) wX) : wpList Try.prog ops Q (⟨dst, .store t x y, t2, pos, after, guard⟩ :: rest) a w :=
  store_g hb hi (by omega) h1 hx hy hw (by rw [splice_all _ _ hl]; exact h)
theorem build_g {t : TypeId} {v : Value} (hr : (Instr.build t #[]).run Try.prog w = .ok v w) (hw : Region.wanted ⟨dst, .build t #[], t2, pos, after, guard⟩ (yielded ops a.tmps) = true)
    (h : wpList Try.prog ops Q rest (a.put dst v) w) : wpList Try.prog ops Q (⟨dst, .build t #[], t2, pos, after, guard⟩ :: rest) a w := wpList_run v w hw (exec_build w w a.eval _ t #[] rfl #[] (by simp) v hr) h
end
end Go.Proofs.Ytbhaifdhmfmeoaa
