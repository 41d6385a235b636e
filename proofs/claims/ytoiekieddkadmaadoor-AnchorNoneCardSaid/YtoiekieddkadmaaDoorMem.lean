/- Blocks of memory known whole; worlds that differ at some blocks alone; loads and stores of many cells at once; arrays compared with themselves. -/
import Derived.WalkKit
import Derived.WalkSpells
import Derived.WalkLawsBesides
import Derived.Deep.AppendLies
import Derived.Deep.LoopGhost
import Derived.Laws.CopyRow
import Derived.Laws.Rows
import Derived.Laws.StructEq
import Derived.Lib.Hide
import Derived.Deep.DeepFit
import Derived.Deep.DeepMust
import Derived.Test.YtoiekieddkadmaaDoorProg
namespace Go.Proofs.YtoiekieddkadmaaDoor
set_option linter.unusedSimpArgs false
set_option linter.unusedVariables false
open Go.RowKit

/-- Block b holds just these cells, and none of them is frozen. -/
def Blk (w : World) (b : Nat) (l : List Value) : Prop := ∃ t, w.heap[b]? = some (.cells l.toArray t (0, 0))

theorem Blk.cell {w : World} {b : Nat} {l : List Value} (h : Blk w b l) {i : Nat} {v : Value} (hi : l[i]? = some v) : w.cell? ⟨b, i, none⟩ = some v := by
  obtain ⟨t, ht⟩ := h
  rw [cell_of_row w b i _ t _ ht]
  simpa using hi
theorem Blk.frozen {w : World} {b : Nat} {l : List Value} (h : Blk w b l) (i : Nat) : w.frozen? ⟨b, i, none⟩ = false := by
  obtain ⟨t, ht⟩ := h
  exact frozen_of_row w b i _ t ht
theorem Blk.lt {w : World} {b : Nat} {l : List Value} (h : Blk w b l) : b < w.heap.size := by
  obtain ⟨t, ht⟩ := h
  exact (Array.getElem?_eq_some_iff.1 ht).1
theorem Blk.of_block {w w' : World} {b : Nat} {l : List Value} (h : Blk w b l) (e : w'.heap[b]? = w.heap[b]?) : Blk w' b l := by
  obtain ⟨t, ht⟩ := h
  exact ⟨t, e.trans ht⟩
theorem Blk.set {w : World} {b : Nat} {l : List Value} (h : Blk w b l) (i : Nat) (v : Value) : Blk (w.setCell ⟨b, i, none⟩ v) b (l.set i v) := by
  obtain ⟨t, ht⟩ := h
  refine ⟨t, ?_⟩
  rw [heap_setCell_same w b i _ t v ht]
  simp
theorem Blk.setOther {w : World} {b : Nat} {l : List Value} (h : Blk w b l) {a : Addr} (hne : b ≠ a.block) (v : Value) : Blk (w.setCell a v) b l :=
  h.of_block (heap_setCell_other w a b v hne)
theorem Blk.alloc {w : World} {b : Nat} {l : List Value} (h : Blk w b l) (o : Obj) : Blk (w.alloc o) b l := h.of_block (heap_alloc_old w o h.lt)
theorem Blk.new (w : World) (cs : Array Value) (t : TypeId) : Blk (w.alloc (.cells cs t)) w.heap.size cs.toList := ⟨t, by simpa using heap_alloc_new w (.cells cs t)⟩
theorem Blk.drew {w : World} {b : Nat} {l : List Value} (h : Blk w b l) : Blk w.drew b l := h
theorem Blk.drewN {w : World} {b : Nat} {l : List Value} (h : Blk w b l) (n : Nat) : Blk (w.drewN n) b l := by
  refine h.of_block ?_
  rw [show (w.drewN n).heap = w.heap from by induction n generalizing w with | zero => rfl | succ n ih => simp_all [World.drewN]]
theorem Blk.row {w : World} {b : Nat} {l : List Value} (h : Blk w b l) (cs : Array Value) : Blk (w.setRow b cs) b cs.toList := by
  obtain ⟨t, ht⟩ := h
  exact ⟨t, by simpa using setRow_heap w b _ cs t _ ht⟩
theorem Blk.rowOther {w : World} {b : Nat} {l : List Value} (h : Blk w b l) {g : Nat} (hne : b ≠ g) (cs : Array Value) : Blk (w.setRow g cs) b l :=
  h.of_block (setRow_other w g b cs hne)

/-- The world differs at blocks of S alone, and by new blocks. -/
structure Only (S : Nat → Prop) (w w' : World) : Prop where
  os : w'.os = w.os
  tape : w'.tape = w.tape
  output : w'.output = w.output
  size : w.heap.size ≤ w'.heap.size
  block : ∀ k, k < w.heap.size → ¬ S k → w'.heap[k]? = w.heap[k]?

theorem Only.refl (S : Nat → Prop) (w : World) : Only S w w := ⟨rfl, rfl, rfl, Nat.le_refl _, fun _ _ _ => rfl⟩
theorem Only.trans {S : Nat → Prop} {a b c : World} (h : Only S a b) (k : Only S b c) : Only S a c :=
  ⟨k.os.trans h.os, k.tape.trans h.tape, k.output.trans h.output, Nat.le_trans h.size k.size, fun i hi hs => (k.block i (Nat.lt_of_lt_of_le hi h.size) hs).trans (h.block i hi hs)⟩
theorem Only.more {S T : Nat → Prop} {a b : World} (h : Only S a b) (hT : ∀ k, k < a.heap.size → S k → T k) : Only T a b :=
  ⟨h.os, h.tape, h.output, h.size, fun i hi hs => h.block i hi fun hS => hs (hT i hi hS)⟩
theorem Only.of_below {S : Nat → Prop} {a b : World} (h : Below a.heap.size a b) : Only S a b := ⟨h.os, h.tape, h.output, h.size, fun i hi _ => h.block i hi⟩
theorem Only.below {S : Nat → Prop} {a b : World} {B : Nat} (h : Only S a b) (hB : B ≤ a.heap.size) (hS : ∀ k, S k → B ≤ k) : Below B a b :=
  ⟨h.os, h.tape, h.output, h.size, fun i hi => h.block i (by omega) fun hs => by have := hS i hs; omega⟩
theorem Only.alloc {S : Nat → Prop} {a w : World} (h : Only S a w) (o : Obj) : Only S a (w.alloc o) :=
  h.trans ⟨rfl, rfl, rfl, by simp, fun k hk _ => heap_alloc_old w o hk⟩
theorem Only.drew {S : Nat → Prop} {a w : World} (h : Only S a w) : Only S a w.drew := ⟨h.os, h.tape, h.output, h.size, h.block⟩
theorem Only.setCell {S : Nat → Prop} {a w : World} (h : Only S a w) {p : Addr} (hp : S p.block ∨ a.heap.size ≤ p.block) (v : Value) : Only S a (w.setCell p v) := by
  refine ⟨h.os, h.tape, h.output, by simpa using h.size, fun k hk hs => ?_⟩
  have hne : k ≠ p.block := by
    rintro rfl
    rcases hp with h1 | h1
    · exact hs h1
    · omega
  exact (heap_setCell_other w p k v hne).trans (h.block k hk hs)
theorem Only.setRow {S : Nat → Prop} {a w : World} (h : Only S a w) {g : Nat} (hp : S g ∨ a.heap.size ≤ g) (cs : Array Value) : Only S a (w.setRow g cs) := by
  refine ⟨h.os, h.tape, h.output, by simpa using h.size, fun k hk hs => ?_⟩
  have hne : k ≠ g := by
    rintro rfl
    rcases hp with h1 | h1
    · exact hs h1
    · omega
  exact (setRow_other w g k cs hne).trans (h.block k hk hs)
theorem Only.grown {S : Nat → Prop} {a w w' : World} {row : Option Nat} (h : Only S a w) (hg : w.grownBy w' row) (hr : ∀ k, row = some k → S k ∨ a.heap.size ≤ k) : Only S a w' :=
  ⟨hg.os.trans h.os, hg.tape.trans h.tape, hg.output.trans h.output, Nat.le_trans h.size hg.size, fun k hk hs => (hg.block k (Nat.lt_of_lt_of_le hk h.size) fun e => by
    rcases hr k e.symm with h1 | h1
    · exact hs h1
    · omega).trans (h.block k hk hs)⟩
theorem Blk.only {S : Nat → Prop} {w w' : World} {b : Nat} {l : List Value} (h : Blk w b l) (ho : Only S w w') (hs : ¬ S b) : Blk w' b l := h.of_block (ho.block b h.lt hs)
theorem Blk.below {B : Nat} {w w' : World} {b : Nat} {l : List Value} (h : Blk w b l) (ho : Below B w w') (hs : b < B) : Blk w' b l := h.of_block (ho.block b hs)

section
variable {P : Program}
theorem run_load_at (w : World) (g off : Nat) (ty : TypeId) (cs : Array Value) (d : TypeDesc) (hu : P.underlying ty = some d) (hd : (match d with | .struct _ | .array _ _ => true | _ => false) = true)
    (hi : (P.info? ty).map (·.size) = some cs.size) (hc : ∀ j (h : j < cs.size), w.cell? ⟨g, off + j, none⟩ = some cs[j]) : (loadVar ty ⟨g, off, none⟩).run P w = .ok (.agg cs) w := by
  have hl : (loadCells ⟨g, off, none⟩ cs.toList.length).run P w = .ok cs.toList.toArray w :=
    run_loadCells_list (P := P) w ⟨g, off, none⟩ cs.toList (fun j v hv => by
      have hadd : (⟨g, off, none⟩ : Addr).add j = ⟨g, off + j, none⟩ := by unfold Addr.add; split <;> simp_all
      obtain ⟨hj, rfl⟩ := List.getElem?_eq_some_iff.1 hv
      rw [hadd, hc j (by simpa using hj)]
      simp)
  cases hq : P.info? ty with
  | none => simp [hq] at hi
  | some i =>
    have hs : i.size = cs.size := by simpa [hq] using hi
    have hagg : (isAgg ty).run P w = .ok true w := by
      unfold isAgg
      rw [Sem.run_bind, run_underlying hu w]
      cases d <;> simp_all
    simp only [Array.length_toList, Array.toArray_toList] at hl
    simp [loadVar, Sem.run_bind, hagg, sizeOf, typeInfo, hq, hs, hl]

theorem wp_load_at {o : Oper} {a : Act} {w : World} {K : Act → World → Prop} {Q : Exit → Act → World → Prop} (ty : TypeId) (x : Operand) (ho : o.op = .load ty x)
    (g off : Nat) (hx : a.eval x = .pointer (some ⟨g, off, none⟩)) (cs : Array Value) (d : TypeDesc)
    (hu : P.underlying ty = some d) (hd : (match d with | .struct _ | .array _ _ => true | _ => false) = true) (hi : (P.info? ty).map (·.size) = some cs.size)
    (hc : ∀ j (h : j < cs.size), w.cell? ⟨g, off + j, none⟩ = some cs[j])
    (h : K (a.put o.dst (.agg cs)) w) : o.wp P a w K Q := by
  unfold Oper.wp execOp
  simp only [ho, hx, Instr.loadAt, Instr.sureAddr, Sem.run_bind, Sem.run_pure, Result.andThen_ok, run_load_at w g off ty cs d hu hd hi hc]
  exact h

theorem wpList_op {ops : Array Oper} {rest : List Oper} {o : Oper} {a : Act} {w : World} {Q : Exit → Act → World → Prop} (hw : Region.wanted o (yielded ops a.tmps) = true)
    (h : ∀ K : Act → World → Prop, (∀ a w, wpList P ops Q rest a w → K a w) → o.wp P a w K Q) : wpList P ops Q (o :: rest) a w :=
  wpList_step fun K hK => by rw [if_pos hw]; exact h K hK

theorem wpList_load_at {ops : Array Oper} {rest : List Oper} {o : Oper} {a : Act} {w : World} {Q : Exit → Act → World → Prop} (hw : Region.wanted o (yielded ops a.tmps) = true) (ty : TypeId) (x : Operand) (ho : o.op = .load ty x)
    (g off : Nat) (hx : a.eval x = .pointer (some ⟨g, off, none⟩)) (cs : Array Value) (d : TypeDesc)
    (hu : P.underlying ty = some d) (hd : (match d with | .struct _ | .array _ _ => true | _ => false) = true) (hi : (P.info? ty).map (·.size) = some cs.size)
    (hc : ∀ j (h : j < cs.size), w.cell? ⟨g, off + j, none⟩ = some cs[j])
    (h : wpList P ops Q rest (a.put o.dst (.agg cs)) w) : wpList P ops Q (o :: rest) a w :=
  wpList_op hw fun _ hK => wp_load_at ty x ho g off hx cs d hu hd hi hc (hK _ _ h)

/-- Cells cs laid over l from off on. -/
def splice (l : List Value) (off : Nat) (cs : Array Value) : Array Value := (l.take off ++ cs.toList ++ l.drop (off + cs.size)).toArray

theorem run_store_at (w : World) (g off : Nat) (ty : TypeId) (l : List Value) (cs : Array Value) (hg : Blk w g l) (hi : (P.info? ty).map (·.size) = some cs.size)
    (hfit : off + cs.size ≤ l.length) (h1 : ∀ v ∈ cs, v.oneCell' = true) :
    (storeVar ty ⟨g, off, none⟩ (.agg cs)).run P w = .ok () (w.setRow g (splice l off cs)) := by
  obtain ⟨t, ht⟩ := hg
  have := run_storeCells_at P g off t cs.toList 0 l.toArray w ht (by simpa using hfit) (fun v hv => h1 v (by simpa using hv))
  cases hq : P.info? ty with
  | none => simp [hq] at hi
  | some i =>
    have hs : cs.size = i.size := by simp [hq] at hi; omega
    simp only [Nat.add_zero, Array.length_toList] at this
    simp only [storeVar, sizeOf, typeInfo, Value.cells, hs, Sem.run_bind, splice] at this ⊢
    simp [this, hq]

theorem wp_store_at {o : Oper} {a : Act} {w : World} {K : Act → World → Prop} {Q : Exit → Act → World → Prop} (ty : TypeId) (x y : Operand) (ho : o.op = .store ty x y)
    (g off : Nat) (cs : Array Value) (hx : a.eval x = .pointer (some ⟨g, off, none⟩)) (hy : a.eval y = .agg cs)
    (l : List Value) (hg : Blk w g l) (hi : (P.info? ty).map (·.size) = some cs.size) (hfit : off + cs.size ≤ l.length) (h1 : ∀ v ∈ cs, v.oneCell' = true)
    (h : K (a.put o.dst undef) (w.setRow g (splice l off cs))) : o.wp P a w K Q := by
  unfold Oper.wp execOp
  simp only [ho, hx, hy, Instr.storeAt, Instr.sureAddr, Sem.run_bind, Sem.run_pure, Result.andThen_ok, run_store_at w g off ty l cs hg hi hfit h1]
  exact h

theorem wpList_store_at {ops : Array Oper} {rest : List Oper} {o : Oper} {a : Act} {w : World} {Q : Exit → Act → World → Prop} (hw : Region.wanted o (yielded ops a.tmps) = true) (ty : TypeId) (x y : Operand) (ho : o.op = .store ty x y)
    (g off : Nat) (cs : Array Value) (hx : a.eval x = .pointer (some ⟨g, off, none⟩)) (hy : a.eval y = .agg cs)
    (l : List Value) (hg : Blk w g l) (hi : (P.info? ty).map (·.size) = some cs.size) (hfit : off + cs.size ≤ l.length) (h1 : ∀ v ∈ cs, v.oneCell' = true)
    (h : wpList P ops Q rest (a.put o.dst undef) (w.setRow g (splice l off cs))) : wpList P ops Q (o :: rest) a w :=
  wpList_op hw fun _ hK => wp_store_at ty x y ho g off cs hx hy l hg hi hfit h1 (hK _ _ h)

theorem run_part_self (w : World) (e : TypeId) (k : IntKind) (i : TypeInfo) (cs : Array Value) (he : P.underlying e = some (.int k)) (hi : P.info? e = some i) (hs : i.size = 1) (j : Nat) (hj : j < cs.size) :
    (part e cs j).run P w = .ok cs[j] w := by
  have hagg : (isAgg e).run P w = .ok false w := by
    unfold isAgg
    rw [Sem.run_bind, run_underlying he w]
    rfl
  simp [part, Sem.run_bind, hagg, sizeOf, typeInfo, hi, hs, hj]

/-- An array of numbers, held against itself. -/
theorem run_equalIn_self (w : World) (d : Nat) (t e : TypeId) (n : Nat) (k : IntKind) (i : TypeInfo) (cs : Array Value) (ht : P.underlying t = some (.array n e)) (he : P.underlying e = some (.int k)) (hi : P.info? e = some i) (hs : i.size = 1)
    (hn : cs.size = n) (hc : ∀ v ∈ cs, ∃ m, v = .int .u8 m) : (Op.equalIn (d + 2) t (.agg cs) (.agg cs)).run P w = .ok true w := by
  unfold Op.equalIn
  simp only [Sem.run_bind, run_underlying ht, Result.andThen_ok, sizeOf, typeInfo, run_program, hi, Sem.run_pure, hs, Std.Legacy.Range.forIn_eq_forIn_range', Std.Legacy.Range.size, Nat.sub_zero, Nat.add_sub_cancel, Nat.div_one, Nat.mul_one]
  have hl : ∀ j ∈ List.range' 0 n, j < cs.size := fun j hj => by have := List.mem_range'_1.1 hj; omega
  generalize List.range' 0 n = l at hl
  induction l with
  | nil => simp
  | cons j l ih =>
    have hj := hl j (by simp)
    have hp := run_part_self (P := P) w e k i cs he hi hs j hj
    obtain ⟨m, hm⟩ := hc cs[j] (by simp)
    have he' := run_equalIn_int (P := P) w d e .u8 k m m he
    simp only [List.forIn_cons, Sem.run_bind, hp, Result.andThen_ok, hm, he', beq_self_eq_true, Bool.not_true, Bool.false_eq_true, if_false, Sem.run_pure]
    exact ih fun x hx => hl x (by simp [hx])

theorem run_eql_self (w : World) (t e : TypeId) (n : Nat) (k : IntKind) (i : TypeInfo) (cs : Array Value) (ht : P.underlying t = some (.array n e)) (he : P.underlying e = some (.int k)) (hi : P.info? e = some i) (hs : i.size = 1)
    (hn : cs.size = n) (hc : ∀ v ∈ cs, ∃ m, v = .int .u8 m) : (binOp .eql t (.agg cs) (.agg cs)).run P w = .ok (.bool true) w := by
  have h := run_equalIn_self (P := P) w 9998 t e n k i cs ht he hi hs hn hc
  simp only [binOp]
  simp [Op.equal, Op.maxDepth, h]
theorem run_neq_self (w : World) (t e : TypeId) (n : Nat) (k : IntKind) (i : TypeInfo) (cs : Array Value) (ht : P.underlying t = some (.array n e)) (he : P.underlying e = some (.int k)) (hi : P.info? e = some i) (hs : i.size = 1)
    (hn : cs.size = n) (hc : ∀ v ∈ cs, ∃ m, v = .int .u8 m) : (binOp .neq t (.agg cs) (.agg cs)).run P w = .ok (.bool false) w := by
  have h := run_equalIn_self (P := P) w 9998 t e n k i cs ht he hi hs hn hc
  simp only [binOp]
  simp [Op.equal, Op.maxDepth, h]
end
theorem run_equalIn_ints {P : Program} (w : World) (d : Nat) (t e : TypeId) (n : Nat) (k q : IntKind) (i : TypeInfo) (l m : List Int) (ht : P.underlying t = some (.array n e)) (he : P.underlying e = some (.int k)) (hi : P.info? e = some i) (hs : i.size = 1)
    (hl : l.length = n) (hm : m.length = n) : (Op.equalIn (d + 2) t (.agg (l.map (Value.int q)).toArray) (.agg (m.map (Value.int q)).toArray)).run P w = .ok (decide (l = m)) w := by
  have key : ∀ js : List Nat, (∀ j ∈ js, j < n) → (Sem.run P
          (forIn js ((none : Option Bool), ()) fun i __s => do
            let __do_lift ← part e (List.map (Value.int q) l).toArray i
            let __do_lift_1 ← part e (List.map (Value.int q) m).toArray i
            let __do_lift ← Op.equalIn (d + 1) e __do_lift __do_lift_1
            if (!__do_lift) = true then pure (ForInStep.done (some false, ())) else pure (ForInStep.yield (none, ())))
          w) = .ok (if ∀ j ∈ js, l[j]? = m[j]? then (none, ()) else (some false, ())) w := by
    intro js hj
    induction js with
    | nil => simp
    | cons j js ih =>
      have h1 : j < l.length := by rw [hl]; exact hj j (by simp)
      have h2 : j < m.length := by rw [hm]; exact hj j (by simp)
      have p1 := run_part_self (P := P) w e k i (l.map (Value.int q)).toArray he hi hs j (by simpa using h1)
      have p2 := run_part_self (P := P) w e k i (m.map (Value.int q)).toArray he hi hs j (by simpa using h2)
      simp only [List.getElem_toArray, List.getElem_map] at p1 p2
      have he' := run_equalIn_int (P := P) w d e q k l[j] m[j] he
      simp only [List.forIn_cons, Sem.run_bind, p1, p2, Result.andThen_ok, he']
      by_cases hjm : l[j] = m[j]
      · have hb : (l[j] == m[j]) = true := by simpa using hjm
        simp only [hb, Bool.not_true, Bool.false_eq_true, if_false, Sem.run_pure, Result.andThen_ok]
        rw [ih fun x hx => hj x (by simp [hx])]
        simp [h1, h2, hjm]
      · have hb : (l[j] == m[j]) = false := by simpa using hjm
        simp only [hb, Bool.not_false, if_true, Sem.run_pure, Result.andThen_ok]
        rw [if_neg]
        intro hall
        have := hall j (by simp)
        rw [List.getElem?_eq_getElem h1, List.getElem?_eq_getElem h2] at this
        exact hjm (Option.some.inj this)
  unfold Op.equalIn
  simp only [Sem.run_bind, run_underlying ht, Result.andThen_ok, sizeOf, typeInfo, run_program, hi, Sem.run_pure, hs, Std.Legacy.Range.forIn_eq_forIn_range', Std.Legacy.Range.size, Nat.sub_zero, Nat.add_sub_cancel, Nat.div_one, Nat.mul_one]
  rw [key _ fun j hj => by have := List.mem_range'_1.1 hj; omega]
  have heq : (∀ j ∈ List.range' 0 n, l[j]? = m[j]?) ↔ l = m := by
    constructor
    · intro h
      apply List.ext_getElem?
      intro j
      by_cases hj : j < n
      · exact h j (List.mem_range'_1.2 (by omega))
      · rw [List.getElem?_eq_none (by omega), List.getElem?_eq_none (by omega)]
    · rintro rfl j _
      rfl
  by_cases h : l = m
  · rw [if_pos (heq.2 h)]
    simp [h]
  · rw [if_neg fun hh => h (heq.1 hh)]
    simp [h]
theorem run_eql_ints {P : Program} (w : World) (t e : TypeId) (n : Nat) (k q : IntKind) (i : TypeInfo) (l m : List Int) (ht : P.underlying t = some (.array n e)) (he : P.underlying e = some (.int k)) (hi : P.info? e = some i) (hs : i.size = 1)
    (hl : l.length = n) (hm : m.length = n) : (binOp .eql t (.agg (l.map (Value.int q)).toArray) (.agg (m.map (Value.int q)).toArray)).run P w = .ok (.bool (decide (l = m))) w := by
  have h := run_equalIn_ints (P := P) w 9998 t e n k q i l m ht he hi hs hl hm
  simp only [binOp]
  simp [Op.equal, Op.maxDepth, h]
theorem run_neq_ints {P : Program} (w : World) (t e : TypeId) (n : Nat) (k q : IntKind) (i : TypeInfo) (l m : List Int) (ht : P.underlying t = some (.array n e)) (he : P.underlying e = some (.int k)) (hi : P.info? e = some i) (hs : i.size = 1)
    (hl : l.length = n) (hm : m.length = n) : (binOp .neq t (.agg (l.map (Value.int q)).toArray) (.agg (m.map (Value.int q)).toArray)).run P w = .ok (.bool (!decide (l = m))) w := by
  have h := run_equalIn_ints (P := P) w 9998 t e n k q i l m ht he hi hs hl hm
  simp only [binOp]
  simp [Op.equal, Op.maxDepth, h]
theorem run_index_ints {P : Program} (w : World) (t e : TypeId) (n : Nat) (k q : IntKind) (i : TypeInfo) (l : List Int) (ht : P.underlying t = some (.array n e)) (he : P.underlying e = some (.int k)) (hi : P.info? e = some i) (hs : i.size = 1)
    (hl : l.length = n) (j : Nat) (x : Int) (hx : l[j]? = some x) : (Instr.index t (.agg (l.map (Value.int q)).toArray) (.int .i64 j)).run P w = .ok (.int q x) w := by
  obtain ⟨hj, rfl⟩ := List.getElem?_eq_some_iff.1 hx
  have p1 := run_part_self (P := P) w e k i (l.map (Value.int q)).toArray he hi hs j (by simpa using hj)
  simp only [List.getElem_toArray, List.getElem_map] at p1
  have h1 : (0 : Int) ≤ (j : Int) ∧ (j : Int) < (n : Int) := by omega
  simp [Instr.index, run_underlying ht, asIntOf, h1, sizeOf, typeInfo, hi, hs, p1, Sem.run_bind]
  intro hnj
  omega
end Go.Proofs.YtoiekieddkadmaaDoor
