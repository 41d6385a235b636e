/- Steps of a walk at operations of many cells: boxes, new variables, loads, stores, arrays built and compared; slices of bytes; the world behind each is told by what it holds. -/
import Derived.Lib.EndianBits
import Derived.OrdersHeld
import Derived.Deep.Upon
import Derived.Lib.AppendZeros
import Derived.Test.YtoiekieddkadmaaDoorMem
import Derived.Test.YtoiekieddkadmaaDoorSp
namespace Go.Proofs.YtoiekieddkadmaaDoor
set_option linter.unusedSimpArgs false
set_option linter.unusedVariables false
open Go.RowKit

theorem ret_bool {a b : Bool} (h : a = b) : Ending.returned (.bool a) = Ending.returned (.bool b) := by rw [h]
/-- Bytes laid over l from o on. -/
def lay (l : List Value) (o : Nat) (bs : List Int) : List Value := l.take o ++ bs.map (Value.int .u8) ++ l.drop (o + bs.length)
theorem lay_length (l : List Value) (o : Nat) (bs : List Int) (h : o + bs.length ≤ l.length) : (lay l o bs).length = l.length := by
  simp [lay]
  omega
theorem lay_nil (l : List Value) (o : Nat) : lay l o [] = l := by simp [lay]
theorem lay_snoc (l : List Value) (o : Nat) (bs : List Int) (x : Int) (h : o + bs.length < l.length) : (lay l o bs).set (o + bs.length) (.int .u8 x) = lay l o (bs ++ [x]) := by
  have h1 : (l.take o).length = o := by simp; omega
  unfold lay
  rw [List.set_append_right _ _ (by simp; omega)]
  simp only [List.length_append, h1, List.length_map, Nat.sub_self, List.map_append, List.map_cons, List.map_nil]
  rw [List.append_assoc, List.append_assoc, List.append_assoc]
  congr 1
  rw [show l.drop (o + bs.length) = l[o + bs.length] :: l.drop (o + bs.length + 1) from List.drop_eq_getElem_cons h]
  simp [Nat.add_assoc]
theorem lay_at (l : List Value) (o : Nat) (bs : List Int) (k : Nat) (h1 : o + bs.length ≤ k) : (lay l o bs)[k]? = l[k]? := by
  unfold lay
  by_cases hk : k < l.length
  · have h2 : (l.take o).length = o := by simp; omega
    rw [List.getElem?_append_right (by simp; omega)]
    simp only [List.length_append, h2, List.length_map, List.getElem?_drop]
    congr 1
    omega
  · rw [List.getElem?_eq_none (by simp; omega), List.getElem?_eq_none (by omega)]

theorem u32_or0 (x : Int) (h : 0 ≤ x ∧ x < 4294967296) : bits .or .u32 0 x = x := by
  have := bits_join_low .u32 32 (by decide) wraps_u32 0 0 x (by decide) (by decide) (by decide) h.1 (by omega) (by omega)
  omega
theorem le4 (v : Int) : le 4 v = [v % 256, v / 256 % 256, v / 65536 % 256, v / 16777216 % 256] := by
  simp only [le, List.cons.injEq, and_true, true_and]
  omega
theorem le2 (v : Int) : le 2 v = [v % 256, v / 256 % 256] := rfl
section
variable {P : Program}
theorem wpList_run {ops : Array Oper} {rest : List Oper} {o : Oper} {a : Act} {w : World} {Q : Exit → Act → World → Prop} (v : Value) (w' : World) (hw : Region.wanted o (yielded ops a.tmps) = true)
    (hr : (execOp a.eval o).run P w = .ok (.value v) w') (h : wpList P ops Q rest (a.put o.dst v) w') : wpList P ops Q (o :: rest) a w :=
  wpList_op hw fun K hK => by
    unfold Oper.wp
    rw [hr]
    exact hK _ _ h
/-- Where a walk is to stop. -/
structure Stop (p : Prop) : Prop where
  go : p
theorem stopR {id : Nat} {ops : Array Oper} {d : Bool} {Q : Exit → Act → World → Prop} {a : Act} {w : World} (h : Stop ((Code.region id ops d).wp P Q a w)) : (Code.region id ops d).wp P Q a w := h.go
theorem takeL {ops : Array Oper} {rest : List Oper} {o : Oper} {a : Act} {w : World} {Q : Exit → Act → World → Prop} (v : Value) (hw : Region.wanted o (yielded ops a.tmps) = true)
    (hr : (execOp a.eval o).run P w = .ok (.value v) w) (h : wpList P ops Q rest (a.put o.dst v) w) : wpList P ops Q (o :: rest) a w := wpList_run v w hw hr h
theorem passL {ops : Array Oper} {rest : List Oper} {o : Oper} {a : Act} {w : World} {Q : Exit → Act → World → Prop} (hw : Region.wanted o (yielded ops a.tmps) = false)
    (h : wpList P ops Q rest (a.put o.dst undef) w) : wpList P ops Q (o :: rest) a w := wpList_step fun K hK => by rw [if_neg (by simp [hw])]; exact hK _ _ h
theorem skipL {ops : Array Oper} {rest : List Oper} {o : Oper} {a : Act} {w : World} {Q : Exit → Act → World → Prop} (w' : World) (hw : Region.wanted o (yielded ops a.tmps) = true)
    (hr : (execOp a.eval o).run P w = .ok .skip w') (h : wpList P ops Q rest (a.put o.dst undef) w') : wpList P ops Q (o :: rest) a w :=
  wpList_op hw fun K hK => by
    unfold Oper.wp
    rw [hr]
    exact hK _ _ h
theorem exec_load_at (w : World) (ev : Operand → Value) (o : Oper) (ty : TypeId) (x : Operand) (ho : o.op = .load ty x) (g off : Nat) (hx : ev x = .pointer (some ⟨g, off, none⟩)) (cs : Array Value) (d : TypeDesc)
    (hu : P.underlying ty = some d) (hd : (match d with | .struct _ | .array _ _ => true | _ => false) = true) (hi : (P.info? ty).map (·.size) = some cs.size)
    (hc : ∀ j (h : j < cs.size), w.cell? ⟨g, off + j, none⟩ = some cs[j]) : (execOp ev o).run P w = .ok (.value (.agg cs)) w := by
  unfold execOp
  simp only [ho, hx, Instr.loadAt, Instr.sureAddr, Sem.run_bind, Sem.run_pure, Result.andThen_ok, run_load_at w g off ty cs d hu hd hi hc]

theorem exec_load1 (w : World) (ev : Operand → Value) (o : Oper) (ty : TypeId) (x : Operand) (ho : o.op = .load ty x) (a : Addr) (hx : ev x = .pointer (some a)) (v : Value) (d : TypeDesc)
    (hu : P.underlying ty = some d) (hd : (match d with | .struct _ | .array _ _ => true | _ => false) = false) (hc : w.cell? a = some v) : (execOp ev o).run P w = .ok (.value v) w := by
  have hagg : (isAgg ty).run P w = .ok false w := by
    unfold isAgg
    rw [Sem.run_bind, run_underlying hu w]
    cases d <;> simp_all
  unfold execOp
  simp [ho, hx, Instr.loadAt, Instr.sureAddr, loadVar, Sem.run_bind, hagg, hc]
theorem exec_alloc (w : World) (ev : Operand → Value) (o : Oper) (t : TypeId) (ho : o.op = .alloc t) (cs : Array Value) (hz : (P.info? t).bind (·.zero) = some (.agg cs)) :
    (execOp ev o).run P w = .ok (.value (.pointer (some ⟨w.heap.size, 0, none⟩))) (w.alloc (.cells cs t)) := by
  cases hq : P.info? t with
  | none => simp [hq] at hz
  | some i =>
    have hz' : i.zero = some (.agg cs) := by simpa [hq] using hz
    unfold execOp
    simp [ho, Instr.alloc, zeroValue, typeInfo, hq, hz', newVar, newRow, Value.cells]
theorem exec_build (w w' : World) (ev : Operand → Value) (o : Oper) (t : TypeId) (parts : Array (Nat × Operand)) (ho : o.op = .build t parts) (vals : Array (Nat × Value)) (hp : parts.map (fun x => (x.1, ev x.2)) = vals)
    (v : Value) (hr : (Instr.build t vals).run P w = .ok v w') : (execOp ev o).run P w = .ok (.value v) w' := by
  unfold execOp
  simp only [ho, Sem.run_bind, hp, hr, Result.andThen_ok, Sem.run_pure]
theorem exec_buildSlice (w w' : World) (ev : Operand → Value) (o : Oper) (t : TypeId) (n : Nat) (parts : Array (Nat × Operand)) (ho : o.op = .buildSlice t n parts) (vals : Array (Nat × Value)) (hp : parts.map (fun x => (x.1, ev x.2)) = vals)
    (v : Value) (hr : (Instr.buildSlice t n vals).run P w = .ok v w') : (execOp ev o).run P w = .ok (.value v) w' := by
  unfold execOp
  simp only [ho, Sem.run_bind, hp, hr, Result.andThen_ok, Sem.run_pure]
theorem takeH {ops : Array Oper} {md : Region.Mode} {Q : Exit → Act → World → Prop} {S : World → Prop} (i : Nat) {oi : Oper} (dst : Option Tmp) (v : Value) {fuel : Nat} {listed : Array Bool} {a : Act} {w : World} (hi : ops[i]? = some oi) (hd : oi.dst = dst)
    (hs : Region.noSelect ops = true) (hf : Region.free md ops listed i = true) (hr : (Region.ready md ops listed).contains i = true)
    (hQ : ∀ c a w, Q (.panic c) (a.put dst v) w → Q (.panic c) a w) (hw : Region.wanted oi (yielded ops a.tmps) = true) (hy : ∀ w, S w → (execOp a.eval oi).run P w = .ok (.value v) w) (hS : S w)
    (h : wpAnyH P md ops Q S fuel (listed.setIfInBounds i true) (a.put dst v) w) : wpAnyH P md ops Q S (fuel + 1) listed a w := by
  subst hd
  exact wpAnyH_take hi hs hf hr hQ (.inl ⟨hw, hy⟩) hS h
theorem passH {ops : Array Oper} {md : Region.Mode} {Q : Exit → Act → World → Prop} {S : World → Prop} (i : Nat) {oi : Oper} (dst : Option Tmp) {fuel : Nat} {listed : Array Bool} {a : Act} {w : World} (hi : ops[i]? = some oi) (hd : oi.dst = dst)
    (hs : Region.noSelect ops = true) (hf : Region.free md ops listed i = true) (hr : (Region.ready md ops listed).contains i = true)
    (hQ : ∀ c a w, Q (.panic c) (a.put dst undef) w → Q (.panic c) a w) (hw : Region.wanted oi (yielded ops a.tmps) = false) (hS : S w)
    (h : wpAnyH P md ops Q S fuel (listed.setIfInBounds i true) (a.put dst undef) w) : wpAnyH P md ops Q S (fuel + 1) listed a w := by
  subst hd
  exact wpAnyH_take hi hs hf hr hQ (.inr ⟨hw, rfl⟩) hS h
theorem oneH {ops : Array Oper} {md : Region.Mode} {Q : Exit → Act → World → Prop} {S : World → Prop} {fuel : Nat} {listed : Array Bool} {a : Act} {w : World} (i : Nat) {o : Oper} (hr : Region.ready md ops listed = [i]) (hi : ops[i]? = some o)
    (hw : Region.wanted o (yielded ops a.tmps) = true)
    (h : ∀ K : Act → World → Prop, (∀ a w, S w → wpAnyH P md ops Q S fuel (listed.setIfInBounds i true) a w → K a w) → Oper.wp P o a w K Q) : wpAnyH P md ops Q S (fuel + 1) listed a w :=
  wpAnyH_all hr (by simp) fun j hj => by
    rw [List.mem_singleton.1 hj]
    exact wpOp_step hi fun K hK => by rw [if_pos hw]; exact h K fun a w hS hA => hK a w ⟨hS, hA⟩
theorem startH {ops : Array Oper} {Q : Exit → Act → World → Prop} (S : World → Prop) {id : Nat} {a : Act} {w : World} (hm : P.follows .mixedOrders = true)
    (h : wpAnyH P .any ops Q S ops.size (Array.replicate ops.size false) a w.drew) : (Code.region id ops true).wp P Q a w := wp_region_held (S := S) hm h
end
/-- Nothing that was there has turned, and behind a call that turns nothing neither. -/
theorem stay {W w w1 : World} (h : Below W.heap.size W w) (hb : Below w.heap.size w w1) : Below W.heap.size W w1 := h.trans (hb.mono h.size)
theorem drewN_below {B : Nat} {a w : World} (h : Below B a w) (n : Nat) : Below B a (w.drewN n) := ⟨h.os, h.tape, h.output, h.size, h.block⟩
abbrev u8s (l : List Int) : List Value := l.map (Value.int .u8)
abbrev i64s (l : List Int) : List Value := l.map (Value.int .i64)
/-- Cells cs lie from off on. -/
def At (w : World) (g off : Nat) (cs : Array Value) : Prop := ∀ j (h : j < cs.size), w.cell? ⟨g, off + j, none⟩ = some cs[j]
theorem info5 : (Tryd.prog.info? 5).map (fun i => (i.zero, i.size, i.bytes)) = some (some (.int .u8 0), 1, 1) := by kernel_rfl
theorem info3 : (Tryd.prog.info? 3).map (·.size) = some 1 := by kernel_rfl
theorem info5s : (Tryd.prog.info? 5).map (·.size) = some 1 := by kernel_rfl
theorem info49 : (Tryd.prog.info? 49).map (·.size) = some 64 := by kernel_rfl
theorem size_of {t : TypeId} {n : Nat} (h : (Tryd.prog.info? t).map (·.size) = some n) : ∃ i, Tryd.prog.info? t = some i ∧ i.size = n := by
  cases hq : Tryd.prog.info? t with
  | none => simp [hq] at h
  | some i => exact ⟨i, rfl, by simpa [hq] using h⟩
theorem zero49 : (Tryd.prog.info? 49).bind (·.zero) = some (.agg (u8s (zeros 64)).toArray) := by kernel_rfl
theorem built49 : Tryd.prog.built 49 [] = some (u8s (zeros 64)).toArray := by kernel_rfl
theorem build49 (w : World) : (Instr.build 49 #[]).run Tryd.prog w = .ok (.agg (u8s (zeros 64)).toArray) w := run_build w 49 _ _ built49
theorem Blk.newAt {w : World} {cs : Array Value} (t : TypeId) (n : Nat) (l : List Value) (hn : n = w.heap.size) (hl : l = cs.toList) : Blk (w.alloc (.cells cs t)) n l := by
  subst hn
  subst hl
  exact Blk.new w cs t
theorem splice_all (l : List Value) (cs : Array Value) (h : l.length = cs.size) : splice l 0 cs = cs := by
  unfold splice
  rw [List.take_zero, List.drop_of_length_le (by omega)]
  simp
theorem Blk.all {w : World} {g : Nat} {l : List Value} (h : Blk w g l) {cs : Array Value} (e : l = cs.toList) : At w g 0 cs := fun j hj => h.cell (by subst e; simp [hj])
section
variable {ops : Array Oper} {rest : List Oper} {dst : Option Tmp} {x : Operand} {t2 : TypeId} {pos : String} {after : Array Edge} {guard : Option (Nat × Bool)} {a : Act} {w : World} {Q : Exit → Act → World → Prop}
theorem load49 {g off : Nat} {cs : Array Value} (hA : At w g off cs) (hs : cs.size = 64) (hx : a.eval x = .pointer (some ⟨g, off, none⟩)) (hw : Region.wanted ⟨dst, .load 49 x, t2, pos, after, guard⟩ (yielded ops a.tmps) = true)
    (h : wpList Tryd.prog ops Q rest (a.put dst (.agg cs)) w) : wpList Tryd.prog ops Q (⟨dst, .load 49 x, t2, pos, after, guard⟩ :: rest) a w :=
  wpList_load_at hw 49 x rfl g off hx cs _ Tryd.underlying49 rfl (by rw [hs]; exact info49) hA h
theorem box_g {t : TypeId} {cs : Array Value} (hx : a.eval x = .agg cs) (hw : Region.wanted ⟨dst, .box t x, t2, pos, after, guard⟩ (yielded ops a.tmps) = true)
    (h : ∀ wX, Blk wX w.heap.size cs.toList → Below w.heap.size w wX → w.heap.size < wX.heap.size → wpList Tryd.prog ops Q rest (a.put dst (.pointer (some ⟨w.heap.size, 0, none⟩))) wX) : wpList Tryd.prog ops Q (⟨dst, .box t x, t2, pos, after, guard⟩ :: rest) a w := by
  refine wpList_op hw fun K hK => ?_
  unfold Oper.wp execOp
  simp only [hx, Value.cells, Sem.run_bind, Instr.box, newVar, newRow, run_newObj_alloc, Sem.run_pure, Result.andThen_ok]
  exact hK _ _ (h _ (Blk.new w cs t) ((Below.refl _ _).alloc (Nat.le_refl _) _) (by simp))
theorem alloc_g {t : TypeId} {cs : Array Value} (hz : (Tryd.prog.info? t).bind (·.zero) = some (.agg cs)) (hw : Region.wanted ⟨dst, .alloc t, t2, pos, after, guard⟩ (yielded ops a.tmps) = true)
    (h : ∀ wX, Blk wX w.heap.size cs.toList → Below w.heap.size w wX → w.heap.size < wX.heap.size → wpList Tryd.prog ops Q rest (a.put dst (.pointer (some ⟨w.heap.size, 0, none⟩))) wX) : wpList Tryd.prog ops Q (⟨dst, .alloc t, t2, pos, after, guard⟩ :: rest) a w :=
  wpList_run _ _ hw (exec_alloc _ _ _ t rfl cs hz) (h _ (Blk.new w cs t) ((Below.refl _ _).alloc (Nat.le_refl _) _) (by simp))
theorem store_g {t : TypeId} {y : Operand} {g off : Nat} {l : List Value} {cs : Array Value} (hb : Blk w g l) (hi : (Tryd.prog.info? t).map (·.size) = some cs.size) (hfit : off + cs.size ≤ l.length) (h1 : ∀ v ∈ cs, v.oneCell' = true)
    (hx : a.eval x = .pointer (some ⟨g, off, none⟩)) (hy : a.eval y = .agg cs) (hw : Region.wanted ⟨dst, .store t x y, t2, pos, after, guard⟩ (yielded ops a.tmps) = true)
    (h : ∀ wX, Blk wX g (splice l off cs).toList → Only (fun k => k = g) w wX → wX.heap.size = w.heap.size → wpList Tryd.prog ops Q rest (a.put dst undef) wX) : wpList Tryd.prog ops Q (⟨dst, .store t x y, t2, pos, after, guard⟩ :: rest) a w :=
  wpList_store_at hw t x y rfl g off cs hx hy l hb hi hfit h1 (h _ (hb.row _) ((Only.refl (fun k => k = g) w).setRow (.inl rfl) _) (by simp))
/-- A store over all of a variable. -/
theorem store_all {t : TypeId} {y : Operand} {g : Nat} {l : List Value} {cs : Array Value} (hb : Blk w g l) (hl : l.length = cs.size) (hi : (Tryd.prog.info? t).map (·.size) = some cs.size) (h1 : ∀ v ∈ cs, v.oneCell' = true)
    (hx : a.eval x = .pointer (some ⟨g, 0, none⟩)) (hy : a.eval y = .agg cs) (hw : Region.wanted ⟨dst, .store t x y, t2, pos, after, guard⟩ (yielded ops a.tmps) = true)
    (h : ∀ wX, Blk wX g cs.toList → Only (fun k => k = g) w wX → wX.heap.size = w.heap.size → wpList Tryd.prog ops Q rest (a.put dst undef) wX) : wpList Tryd.prog ops Q (⟨dst, .store t x y, t2, pos, after, guard⟩ :: rest) a w :=
  store_g hb hi (by omega) h1 hx hy hw (by rw [splice_all _ _ hl]; exact h)
theorem build_g {t : TypeId} {v : Value} (hr : (Instr.build t #[]).run Tryd.prog w = .ok v w) (hw : Region.wanted ⟨dst, .build t #[], t2, pos, after, guard⟩ (yielded ops a.tmps) = true)
    (h : wpList Tryd.prog ops Q rest (a.put dst v) w) : wpList Tryd.prog ops Q (⟨dst, .build t #[], t2, pos, after, guard⟩ :: rest) a w := wpList_run v w hw (exec_build w w a.eval _ t #[] rfl #[] (by simp) v hr) h
end
def Len (sv : Value) (n : Nat) : Prop := ∃ a cap, sv = .slice a n cap
/-- A slice whose values are l. -/
def BytesAt (w : World) (sv : Value) (l : List Int) : Prop := ∃ a cap, sv = .slice a l.length cap ∧ ∀ i x, l[i]? = some x → ∃ b o, a = some ⟨b, o, none⟩ ∧ w.cell? ⟨b, o + i, none⟩ = some (.int .u8 x)
theorem BytesAt.len {w : World} {sv : Value} {l : List Int} (h : BytesAt w sv l) : Len sv l.length := let ⟨a, cap, h, _⟩ := h; ⟨a, cap, h⟩
theorem BytesAt.below {w w' : World} {sv : Value} {l : List Int} (h : BytesAt w sv l) (hb : Below w.heap.size w w') : BytesAt w' sv l := by
  obtain ⟨a, cap, e, hc⟩ := h
  refine ⟨a, cap, e, fun i x hx => ?_⟩
  obtain ⟨b, o, e2, hx2⟩ := hc i x hx
  exact ⟨b, o, e2, (hb.cell (block_lt_of_cell hx2)).trans hx2⟩
theorem BytesAt.nil (w : World) (cap : Nat) (a : Option Addr) : BytesAt w (.slice a 0 cap) [] := ⟨a, cap, rfl, fun i x h => by simp at h⟩
theorem BytesAt.has {w : World} {sv : Value} {l : List Int} (h : BytesAt w sv l) (hl : 0 < l.length) : ∃ b o cap, sv = .slice (some ⟨b, o, none⟩) l.length cap ∧ ∀ i x, l[i]? = some x → w.cell? ⟨b, o + i, none⟩ = some (.int .u8 x) := by
  obtain ⟨a, cap, e, hc⟩ := h
  obtain ⟨b, o, e2, _⟩ := hc 0 l[0] (by simp [hl])
  subst e2
  refine ⟨b, o, cap, e, fun i x hx => ?_⟩
  obtain ⟨b', o', e3, hx2⟩ := hc i x hx
  cases e3
  exact hx2

theorem wrap8 {n : Int} (h0 : 0 ≤ n) (h1 : n < 256) : IntKind.u8.wrap n = n := by rw [IntKind.wrap_u8]; omega
theorem wrap32 {n : Int} (h0 : 0 ≤ n) (h1 : n < 4294967296) : IntKind.u32.wrap n = n := by rw [IntKind.wrap_u32]; omega
theorem wrap64 {n : Int} (h0 : 0 ≤ n) (h1 : n < 4294967296) : IntKind.i64.wrap n = n := by rw [IntKind.wrap_i64]; omega
/-- Numbers laid over L from o on. -/
def layI (L : List Int) (o : Nat) (bs : List Int) : List Int := L.take o ++ bs ++ L.drop (o + bs.length)
theorem lay_u8s (L : List Int) (o : Nat) (bs : List Int) : lay (u8s L) o bs = u8s (layI L o bs) := by simp [lay, layI]
theorem layI_length {L : List Int} {o : Nat} {bs : List Int} (h : o + bs.length ≤ L.length) : (layI L o bs).length = L.length := by
  simp [layI]
  omega

theorem layI_snoc {L : List Int} {o : Nat} {bs cs : List Int} (h : o + bs.length + cs.length ≤ L.length) : layI (layI L o bs) (o + bs.length) cs = layI L o (bs ++ cs) := by
  have h1 : (L.take o).length = o := by simp; omega
  have h2 : (L.take o ++ bs).length = o + bs.length := by simp; omega
  unfold layI
  rw [List.take_append_of_le_length (by omega), List.take_of_length_le (by omega), List.drop_append, List.drop_of_length_le (by omega), h2]
  simp only [List.nil_append, List.drop_drop, List.length_append, List.append_assoc]
  congr 4
  omega
theorem layI_front {H T bs : List Int} {o : Nat} (h : H.length = o) : layI (H ++ T) o bs = H ++ (bs ++ T.drop bs.length) := by
  subst h
  unfold layI
  rw [List.take_left', List.drop_append, List.drop_of_length_le (by omega)]
  · simp
  · rfl
theorem zeros_drop (n m : Nat) : (zeros n).drop m = zeros (n - m) := by simp [zeros]
theorem zeros_add (n m : Nat) : zeros (n + m) = zeros n ++ zeros m := by simp [zeros]
theorem layI_nil (L : List Int) (o : Nat) : layI L o [] = L := by simp [layI]
section
variable {P : Program}
theorem wp_run {o : Oper} {a : Act} {w : World} {K : Act → World → Prop} {Q : Exit → Act → World → Prop} (v : Value) (w' : World) (hr : (execOp a.eval o).run P w = .ok (.value v) w') (h : K (a.put o.dst v) w') : o.wp P a w K Q := by
  unfold Oper.wp
  rw [hr]
  exact h
/-- A copy of l into block g, from o on. -/
theorem exec_copy (w : World) (ev : Operand → Value) (op : Oper) (x y : Operand) (ho : op.op = .call { callee := .builtin .copy, args := #[x, y], argTypes := #[107, 107] }) (hu : P.underlying 107 = some (.slice 5)) (hs : (P.info? 5).map (·.size) = some 1)
    (g o dLen dCap : Nat) (ab ao sLen sCap : Nat) (hx : ev x = .slice (some ⟨g, o, none⟩) dLen dCap) (hy : ev y = .slice (some ⟨ab, ao, none⟩) sLen sCap) (L : List Value) (l : List Int)
    (hg : Blk w g L) (hn : l.length = Nat.min sLen dLen) (hsrc : ∀ j v, l[j]? = some v → w.cell? ⟨ab, ao + j, none⟩ = some (.int .u8 v)) (hfit : o + l.length ≤ L.length) :
    ∃ w', (execOp ev op).run P w = .ok (.value (goInt l.length)) w' ∧ Blk w' g (lay L o l) ∧ Only (fun k => k = g) w w' := by
  have hg' := hg
  obtain ⟨t, ht⟩ := hg
  refine ⟨w.setRow g (lay L o l).toArray, ?_, ?_, ?_⟩
  · unfold execOp
    have := run_copy_row P w 107 107 op.type 5 g o dLen dCap ⟨ab, ao, none⟩ sLen sCap L.toArray t (l.map (Value.int .u8)) hu hs ht (by simpa using hn) (fun j v hv => by
      rw [List.getElem?_map] at hv
      cases e : l[j]? with
      | none => simp [e] at hv
      | some z =>
        simp [e] at hv
        subst hv
        have := hsrc j z e
        rwa [show (⟨ab, ao, none⟩ : Addr).add j = ⟨ab, ao + j, none⟩ by unfold Addr.add; split <;> simp_all]) (by simpa using hfit) (fun v hv => by
      obtain ⟨z, _, rfl⟩ := List.mem_map.1 hv
      rfl)
    simp only [ho, resolve, invoke, builtin, Sem.run_bind, Sem.run_pure, Result.andThen_ok, List.map_toArray, List.map_cons, List.map_nil, hx, hy, this]
    simp [lay]
  · exact hg'.row _
  · exact (Only.refl (fun k => k = g) w).setRow (.inl rfl) _
theorem wp_copy {op : Oper} {a : Act} {w : World} {K : Act → World → Prop} {Q : Exit → Act → World → Prop} (x y : Operand) (ho : op.op = .call { callee := .builtin .copy, args := #[x, y], argTypes := #[107, 107] }) (hu : P.underlying 107 = some (.slice 5)) (hs : (P.info? 5).map (·.size) = some 1)
    (g o dLen dCap : Nat) (ab ao sLen sCap : Nat) (hx : a.eval x = .slice (some ⟨g, o, none⟩) dLen dCap) (hy : a.eval y = .slice (some ⟨ab, ao, none⟩) sLen sCap) (L : List Value) (l : List Int)
    (hg : Blk w g L) (hn : l.length = Nat.min sLen dLen) (hsrc : ∀ j v, l[j]? = some v → w.cell? ⟨ab, ao + j, none⟩ = some (.int .u8 v)) (hfit : o + l.length ≤ L.length)
    (dst : Option Tmp) (hd : op.dst = dst) (h : ∀ w', Blk w' g (lay L o l) → Only (fun k => k = g) w w' → K (a.put dst (.int .i64 l.length)) w') : op.wp P a w K Q := by
  subst hd
  obtain ⟨w', hr, hb, hO⟩ := exec_copy w a.eval op x y ho hu hs g o dLen dCap ab ao sLen sCap hx hy L l hg hn hsrc hfit
  exact wp_run _ w' hr (h w' hb hO)
theorem results_cell_at {fn : Func} {p : Tmp} {ty : TypeId} (h : fn.results = #[.cell p ty]) (tmps : Array Value) (w : World) (g off : Nat) (cs : Array Value) (d : TypeDesc)
    (hp : tmps.getD p undef = .pointer (some ⟨g, off, none⟩)) (hu : P.underlying ty = some d) (hd : (match d with | .struct _ | .array _ _ => true | _ => false) = true) (hi : (P.info? ty).map (·.size) = some cs.size)
    (hc : ∀ j (h : j < cs.size), w.cell? ⟨g, off + j, none⟩ = some cs[j]) :
    (results fn tmps).run P w = .ok (.agg cs) w := by
  have hp' : tmps[p]?.getD undef = .pointer (some ⟨g, off, none⟩) := by simpa using hp
  simp [results, h, hp', asAddr, run_load_at w g off ty cs d hu hd hi hc]
theorem results_cell_tmp {fn : Func} {p q : Tmp} {ty : TypeId} (h : fn.results = #[.cell p ty, .tmp q]) (tmps : Array Value) (w : World) (g off : Nat) (cs : Array Value) (d : TypeDesc) (v : Value)
    (hp : tmps.getD p undef = .pointer (some ⟨g, off, none⟩)) (hv : tmps.getD q undef = v) (hu : P.underlying ty = some d) (hd : (match d with | .struct _ | .array _ _ => true | _ => false) = true) (hi : (P.info? ty).map (·.size) = some cs.size)
    (hc : ∀ j (h : j < cs.size), w.cell? ⟨g, off + j, none⟩ = some cs[j]) :
    (results fn tmps).run P w = .ok (.tuple #[.agg cs, v]) w := by
  have hp' : tmps[p]?.getD undef = .pointer (some ⟨g, off, none⟩) := by simpa using hp
  have hv' : tmps[q]?.getD undef = v := by simpa using hv
  simp [results, h, hp', hv', asAddr, run_load_at w g off ty cs d hu hd hi hc]
end
theorem u8s_one (l : List Int) : ∀ v ∈ (u8s l).toArray, v.oneCell' = true := fun v hv => by
  obtain ⟨z, _, rfl⟩ := List.mem_map.1 (by simpa using hv)
  rfl
theorem u8s_size (l : List Int) : (u8s l).toArray.size = l.length := by simp
theorem wp_runTo {P : Program} {o : Oper} {a : Act} {w : World} {K : Act → World → Prop} {Q : Exit → Act → World → Prop} (dst : Option Tmp) (hd : o.dst = dst) (v : Value) (w' : World) (hr : (execOp a.eval o).run P w = .ok (.value v) w') (h : K (a.put dst v) w') : o.wp P a w K Q := by
  subst hd
  exact wp_run v w' hr h
theorem twoH {P : Program} {ops : Array Oper} {md : Region.Mode} {Q : Exit → Act → World → Prop} {S : World → Prop} {fuel : Nat} {listed : Array Bool} {a : Act} {w : World} (i j : Nat) {o p : Oper} (hr : Region.ready md ops listed = [i, j]) (hi : ops[i]? = some o) (hj : ops[j]? = some p)
    (hw : Region.wanted o (yielded ops a.tmps) = true) (hx : Region.wanted p (yielded ops a.tmps) = true)
    (h : ∀ K : Act → World → Prop, (∀ a w, S w → wpAnyH P md ops Q S fuel (listed.setIfInBounds i true) a w → K a w) → Oper.wp P o a w K Q)
    (k : ∀ K : Act → World → Prop, (∀ a w, S w → wpAnyH P md ops Q S fuel (listed.setIfInBounds j true) a w → K a w) → Oper.wp P p a w K Q) : wpAnyH P md ops Q S (fuel + 1) listed a w :=
  wpAnyH_all hr (by simp) fun m hm => by
    rcases (show m = i ∨ m = j by simpa using hm) with rfl | rfl
    · exact wpOp_step hi fun K hK => by rw [if_pos hw]; exact h K fun a w hS hA => hK a w ⟨hS, hA⟩
    · exact wpOp_step hj fun K hK => by rw [if_pos hx]; exact k K fun a w hS hA => hK a w ⟨hS, hA⟩
theorem BytesAt.only {w w' : World} {sv : Value} {l : List Int} {t : Nat} (h : BytesAt w sv l) (ho : Only (fun k => k = t) w w') (ht : ∀ b o n c, sv = .slice (some ⟨b, o, none⟩) n c → b ≠ t) : BytesAt w' sv l := by
  obtain ⟨a, cap, e, hc⟩ := h
  refine ⟨a, cap, e, fun i x hx => ?_⟩
  obtain ⟨b, o, e2, hx2⟩ := hc i x hx
  refine ⟨b, o, e2, ?_⟩
  have hne : b ≠ t := ht b o _ _ (by rw [e, e2])
  have hb := ho.block b (block_lt_of_cell hx2) hne
  rw [← hx2]
  simp only [World.cell?, hb]
theorem BytesAt.lt {w : World} {sv : Value} {l : List Int} (h : BytesAt w sv l) (hl : 0 < l.length) {b o n c : Nat} (e : sv = .slice (some ⟨b, o, none⟩) n c) : b < w.heap.size := by
  obtain ⟨b', o', c', e', hc⟩ := h.has hl
  rw [e] at e'
  cases e'
  exact block_lt_of_cell (hc 0 l[0] (by simp [hl]))

/-- A slice of one's own: its row was made from B on. -/
def Own (w : World) (B : Nat) (sv : Value) (l : List Int) : Prop := w.ownsRow B 5 1 sv l.length (u8s l)
theorem Own.nil (w : World) (B : Nat) : Own w B (.slice none 0 0) [] := World.ownsRow_nil w B 5 1
theorem Own.bytes {w : World} {B : Nat} {sv : Value} {l : List Int} (h : Own w B sv l) : BytesAt w sv l := by
  rcases h.2 with ⟨rfl, h0⟩ | ⟨g, cap, cur, rfl, hb, hg, hn, hm, hs, ht⟩
  · have : l = [] := List.eq_nil_of_length_eq_zero h0
    subst this
    exact BytesAt.nil _ _ _
  · refine ⟨_, cap, rfl, fun i x hx => ⟨g, 0, rfl, ?_⟩⟩
    rw [Nat.zero_add, World.ownsRow.cellAt h i (by have := (List.getElem?_eq_some_iff.1 hx).1; omega), List.getElem?_map, hx]
    rfl
theorem Own.lt {w : World} {B : Nat} {sv : Value} {l : List Int} (h : Own w B sv l) : ∀ k, sv.ownBlock = some k → B ≤ k ∧ k < w.heap.size := World.ownsRow.lt h
theorem Own.below {w w' : World} {B : Nat} {sv : Value} {l : List Int} (h : Own w B sv l) (hb : Below w.heap.size w w') : Own w' B sv l := by
  refine ⟨h.1, ?_⟩
  rcases h.2 with hn | ⟨g, cap, cur, e, hB, hg, r⟩
  · exact .inl hn
  · exact .inr ⟨g, cap, cur, e, hB, (hb.block g (Array.getElem?_eq_some_iff.1 hg).1).trans hg, r⟩
theorem Own.mono {w : World} {B C : Nat} {sv : Value} {l : List Int} (h : Own w B sv l) (hc : C ≤ B) : Own w C sv l := World.ownsRow.mono h hc
theorem grown_below {w w' : World} {row : Option Nat} {B : Nat} (h : w.grownBy w' row) (hB : B ≤ w.heap.size) (hr : ∀ k, row = some k → B ≤ k) : Below B w w' :=
  ⟨h.os, h.tape, h.output, h.size, fun k hk => h.block k (by omega) fun e => by have := hr k e.symm; omega⟩
theorem inf5 : ∃ i, Tryd.prog.info? 5 = some i ∧ i.zero = some (.int .u8 0) ∧ i.size = 1 ∧ i.bytes = 1 := by
  have := info5
  cases hq : Tryd.prog.info? 5 with
  | none => simp [hq] at this
  | some i => simp [hq] at this; exact ⟨i, rfl, this⟩
/-- Bytes appended. -/
theorem app_own {w : World} {B : Nat} {sv tv : Value} {l m : List Int} (h : Own w B sv l) (hB : B ≤ w.heap.size) (k : BytesAt w tv m) (hlen : l.length + m.length ≤ 1000000) (ty : TypeId) :
    ∃ sv' w', (Builtin.append_ #[107, 107] ty #[sv, tv]).run Tryd.prog w = .ok sv' w' ∧ Own w' B sv' (l ++ m) ∧ w.grownBy w' sv.ownBlock := by
  obtain ⟨i, hi, hz, hs, hby⟩ := inf5
  cases m with
  | nil =>
    have hsl : ∃ a c, sv = .slice a l.length c ∧ l.length ≤ c := by
      rcases h.2 with ⟨e, h0⟩ | ⟨g, cap, cur, e, _, _, hn, _⟩
      · exact ⟨none, 0, by rw [e, h0], by omega⟩
      · exact ⟨_, cap, e, hn⟩
    obtain ⟨a, c, rfl, hle⟩ := hsl
    obtain ⟨ta, tc, rfl, _⟩ := k
    refine ⟨_, w, run_append_nothing w 107 107 ty 5 i Tryd.underlying107 hi a l.length c hle _ ⟨.inl ⟨5, Tryd.underlying107⟩, fun _ => by rfl, ?_, ?_, by simp, fun u hu => by cases hu⟩, by rw [List.append_nil]; exact h, ⟨rfl, rfl, rfl, Nat.le_refl _, fun _ _ _ => rfl⟩⟩
    · cases ta <;> simp [Builtin.firstCells, hs, loadCells, loadCellsFrom]
    · cases ta <;> simp [Builtin.firstCells, hs, loadCells, loadCellsFrom]
  | cons x m =>
    obtain ⟨b, o, c, rfl, hc⟩ := k.has (by simp)
    obtain ⟨v', w', hr, h2, h3, _⟩ := run_append_own (P := Tryd.prog) w B 107 ty 5 i (.int .u8 0) 1 1 Tryd.underlying107 hi hz hs hby rfl (by decide) sv l.length (u8s l) h ⟨b, o, none⟩ (x :: m).length c (u8s (x :: m)) (by simp) (fun j u hu => by
      rw [List.getElem?_map] at hu
      cases hz : (x :: m)[j]? with
      | none => simp [hz] at hu
      | some z =>
        simp [hz] at hu
        subst hu
        rw [show (⟨b, o, none⟩ : Addr).add j = ⟨b, o + j, none⟩ by unfold Addr.add; split <;> simp_all]
        exact hc j z hz) (fun u hu => by obtain ⟨z, _, rfl⟩ := List.mem_map.1 hu; rfl) (by simp only [maxLen]; omega) (by omega) hB
    refine ⟨v', w', hr, ?_, h3⟩
    unfold Own
    rw [List.length_append, show u8s (l ++ x :: m) = u8s l ++ u8s (x :: m) by simp]
    exact h2
section
variable {P : Program}
theorem exec_app {w w' : World} (ev : Operand → Value) (op : Oper) (x y : Operand) (t1 t2 : TypeId) (ho : op.op = .call { callee := .builtin .append, args := #[x, y], argTypes := #[t1, t2] }) (vx vy v' : Value) (hx : ev x = vx) (hy : ev y = vy)
    (hr : (Builtin.append_ #[t1, t2] op.type #[vx, vy]).run P w = .ok v' w') : (execOp ev op).run P w = .ok (.value v') w' := by
  unfold execOp
  simp only [ho, resolve, invoke, builtin, Sem.run_bind, Sem.run_pure, Result.andThen_ok, List.map_toArray, List.map_cons, List.map_nil, hx, hy, hr]
end
section
variable {ops : Array Oper} {rest : List Oper} {dst : Option Tmp} {x y : Operand} {t2 : TypeId} {pos : String} {after : Array Edge} {guard : Option (Nat × Bool)} {a : Act} {w : World} {Q : Exit → Act → World → Prop}
theorem app_L {B : Nat} {sv tv : Value} {l m : List Int} (h : Own w B sv l) (hB : B ≤ w.heap.size) (k : BytesAt w tv m) (hlen : l.length + m.length ≤ 1000000) (hx : a.eval x = sv) (hy : a.eval y = tv)
    (hw : Region.wanted ⟨dst, .call { callee := .builtin .append, args := #[x, y], argTypes := #[107, 107] }, t2, pos, after, guard⟩ (yielded ops a.tmps) = true)
    (hh : ∀ sv' w', Own w' B sv' (l ++ m) → Below B w w' → wpList Tryd.prog ops Q rest (a.put dst sv') w') : wpList Tryd.prog ops Q (⟨dst, .call { callee := .builtin .append, args := #[x, y], argTypes := #[107, 107] }, t2, pos, after, guard⟩ :: rest) a w := by
  obtain ⟨sv', w', hr, ho, hg⟩ := app_own h hB k hlen t2
  exact wpList_run sv' w' hw (exec_app a.eval _ x y 107 107 rfl sv tv sv' hx hy hr) (hh sv' w' ho (grown_below hg hB fun k hk => (h.lt k hk).1))
end
theorem app_W {B : Nat} {sv tv : Value} {l m : List Int} {o : Oper} {a : Act} {w : World} {K : Act → World → Prop} {Q : Exit → Act → World → Prop} (x y : Operand) (dst : Option Tmp) (hd : o.dst = dst) (ho : o.op = .call { callee := .builtin .append, args := #[x, y], argTypes := #[107, 107] })
    (h : Own w B sv l) (hB : B ≤ w.heap.size) (k : BytesAt w tv m) (hlen : l.length + m.length ≤ 1000000) (hx : a.eval x = sv) (hy : a.eval y = tv)
    (hh : ∀ sv' w', Own w' B sv' (l ++ m) → Below B w w' → K (a.put dst sv') w') : o.wp Tryd.prog a w K Q := by
  obtain ⟨sv', w', hr, hO, hg⟩ := app_own h hB k hlen o.type
  exact wp_runTo dst hd sv' w' (exec_app a.eval o x y 107 107 ho sv tv sv' hx hy hr) (hh sv' w' hO (grown_below hg hB fun k hk => (h.lt k hk).1))
theorem Own.lit (w : World) (B : Nat) (hB : B ≤ w.heap.size) (l : List Int) (hl : l.length ≤ 1000000) (cs : Array Value) (hc : cs = (u8s l).toArray) : Own (w.alloc (.cells cs 5)) B (.slice (some ⟨w.heap.size, 0, none⟩) l.length l.length) l := by
  subst hc
  exact ⟨by simp, .inr ⟨w.heap.size, l.length, _, rfl, hB, heap_alloc_new w _, Nat.le_refl _, by simp only [maxLen]; omega, by simp, List.take_of_length_le (by simp)⟩⟩
theorem layI_zeros (l : List Int) : layI (zeros 64) 0 l = l ++ zeros (64 - l.length) := by rw [layI, Nat.zero_add, zeros_drop]; rfl
theorem info24 : (Tryd.prog.info? 24).map (·.size) = some 4 := by kernel_rfl
theorem info25 : (Tryd.prog.info? 25).map (·.size) = some 8 := by kernel_rfl
theorem info27 : (Tryd.prog.info? 27).map (·.size) = some 16 := by kernel_rfl
theorem info50 : (Tryd.prog.info? 50).map (·.size) = some 128 := by kernel_rfl
theorem info109 : (Tryd.prog.info? 109).map (·.size) = some 6 := by kernel_rfl
theorem zero50 : (Tryd.prog.info? 50).bind (·.zero) = some (.agg (u8s (zeros 128)).toArray) := by kernel_rfl
theorem built50 : Tryd.prog.built 50 [] = some (u8s (zeros 128)).toArray := by kernel_rfl
theorem build50 (w : World) : (Instr.build 50 #[]).run Tryd.prog w = .ok (.agg (u8s (zeros 128)).toArray) w := run_build w 50 _ _ built50
theorem zero27 : (Tryd.prog.info? 27).bind (·.zero) = some (.agg Rg.none.cells.toArray) := by kernel_rfl
theorem built27 : Tryd.prog.built 27 [] = some Rg.none.cells.toArray := by kernel_rfl
theorem build27 (w : World) : (Instr.build 27 #[]).run Tryd.prog w = .ok (.agg Rg.none.cells.toArray) w := run_build w 27 _ _ built27
section
variable {ops : Array Oper} {rest : List Oper} {dst : Option Tmp} {x : Operand} {t2 : TypeId} {pos : String} {after : Array Edge} {guard : Option (Nat × Bool)} {a : Act} {w : World} {Q : Exit → Act → World → Prop}
theorem load24 {g off : Nat} {cs : Array Value} (hA : At w g off cs) (hs : cs.size = 4) (hx : a.eval x = .pointer (some ⟨g, off, none⟩)) (hw : Region.wanted ⟨dst, .load 24 x, t2, pos, after, guard⟩ (yielded ops a.tmps) = true)
    (h : wpList Tryd.prog ops Q rest (a.put dst (.agg cs)) w) : wpList Tryd.prog ops Q (⟨dst, .load 24 x, t2, pos, after, guard⟩ :: rest) a w :=
  wpList_load_at hw 24 x rfl g off hx cs _ Tryd.underlying24 rfl (by rw [hs]; exact info24) hA h
theorem load25 {g off : Nat} {cs : Array Value} (hA : At w g off cs) (hs : cs.size = 8) (hx : a.eval x = .pointer (some ⟨g, off, none⟩)) (hw : Region.wanted ⟨dst, .load 25 x, t2, pos, after, guard⟩ (yielded ops a.tmps) = true)
    (h : wpList Tryd.prog ops Q rest (a.put dst (.agg cs)) w) : wpList Tryd.prog ops Q (⟨dst, .load 25 x, t2, pos, after, guard⟩ :: rest) a w :=
  wpList_load_at hw 25 x rfl g off hx cs _ Tryd.underlying25 rfl (by rw [hs]; exact info25) hA h
theorem load27 {g off : Nat} {cs : Array Value} (hA : At w g off cs) (hs : cs.size = 16) (hx : a.eval x = .pointer (some ⟨g, off, none⟩)) (hw : Region.wanted ⟨dst, .load 27 x, t2, pos, after, guard⟩ (yielded ops a.tmps) = true)
    (h : wpList Tryd.prog ops Q rest (a.put dst (.agg cs)) w) : wpList Tryd.prog ops Q (⟨dst, .load 27 x, t2, pos, after, guard⟩ :: rest) a w :=
  wpList_load_at hw 27 x rfl g off hx cs _ Tryd.underlying27 rfl (by rw [hs]; exact info27) hA h
theorem load50 {g off : Nat} {cs : Array Value} (hA : At w g off cs) (hs : cs.size = 128) (hx : a.eval x = .pointer (some ⟨g, off, none⟩)) (hw : Region.wanted ⟨dst, .load 50 x, t2, pos, after, guard⟩ (yielded ops a.tmps) = true)
    (h : wpList Tryd.prog ops Q rest (a.put dst (.agg cs)) w) : wpList Tryd.prog ops Q (⟨dst, .load 50 x, t2, pos, after, guard⟩ :: rest) a w :=
  wpList_load_at hw 50 x rfl g off hx cs _ Tryd.underlying50 rfl (by rw [hs]; exact info50) hA h
end
/-- A part of a variable. -/
theorem Blk.sub {w : World} {g : Nat} {l : List Value} (h : Blk w g l) (o : Nat) {cs : Array Value} (e : ∀ j (hj : j < cs.size), l[o + j]? = some cs[j]) : At w g o cs := fun j hj => h.cell (e j hj)
theorem Blk.part {w : World} {g : Nat} {l : List Int} (h : Blk w g (u8s l)) (o n : Nat) (hn : o + n ≤ l.length) : At w g o (u8s ((l.drop o).take n)).toArray := h.sub o fun j hj => by
  simp only [List.size_toArray, List.length_map, List.length_take, List.length_drop] at hj
  simp only [List.getElem_toArray, List.getElem_map, List.getElem_take, List.getElem_drop, List.getElem?_map]
  rw [List.getElem?_eq_getElem (by omega)]
  rfl
end Go.Proofs.YtoiekieddkadmaaDoor
