/- A slice of blocks of one's own: built out of one block, or two; blocks appended. -/
import Derived.Test.YtjejodgjakjeiaaDoorFold
import Derived.Great.BuildSlice
import Derived.Great.FillDense
namespace Go.Proofs.YtjejodgjakjeiaaDoor
set_option linter.unusedSimpArgs false
set_option linter.unusedVariables false
open Go.RowKit

def blkCells (l : List (Bk × Value)) : List Value := l.flatMap fun x => x.1.cells x.2
theorem blkCells_length {l : List (Bk × Value)} (h : ∀ x ∈ l, x.1.Wf) : (blkCells l).length = l.length * 45 := by
  induction l with
  | nil => rfl
  | cons x r ih =>
    have h1 := ih fun y hy => h y (List.mem_cons_of_mem _ hy)
    have h2 := x.1.cells_length (h x (by simp)) x.2
    simp only [blkCells, List.flatMap_cons, List.length_append, List.length_cons] at h1 h2 ⊢
    omega
theorem blkCells_at {l : List (Bk × Value)} (h : ∀ x ∈ l, x.1.Wf) {i j : Nat} (hj : j < 45) : (blkCells l)[i * 45 + j]? = (l[i]?).bind fun x => (x.1.cells x.2)[j]? := by
  induction l generalizing i with
  | nil => simp [blkCells]
  | cons x r ih =>
    have hl := x.1.cells_length (h x (by simp)) x.2
    have ih := fun {i} => ih (i := i) fun y hy => h y (List.mem_cons_of_mem _ hy)
    simp only [blkCells, List.flatMap_cons] at ih ⊢
    cases i with
    | zero =>
      rw [Nat.zero_mul, Nat.zero_add, List.getElem?_append_left (by omega)]
      rfl
    | succ i =>
      rw [List.getElem?_append_right (by omega), hl, show (i + 1) * 45 + j - 45 = i * 45 + j by omega, ih]
      rfl
theorem blkCells_one {l : List (Bk × Value)} (h : ∀ x ∈ l, x.2.oneCell' = true) : ∀ v ∈ blkCells l, v.oneCell' = true := fun v hv => by
  obtain ⟨x, hx, hv⟩ := List.mem_flatMap.1 hv
  exact Bk.arr_one (h x hx) v (by simpa [Bk.arr] using hv)
/-- A slice's bytes lie ahead of B, or in a row of bytes. -/
def Apart (w : World) (B : Nat) (sv : Value) (l : List Int) : Prop := ∀ b o n c, sv = .slice (some ⟨b, o, none⟩) n c → 0 < l.length → b < B ∨ ∃ cur fz, w.heap[b]? = some (Obj.cells cur 5 fz)
/-- Blocks of one's own: their row was made from B on. -/
structure OwnB (w : World) (B : Nat) (sv : Value) (l : List (Bk × Value)) : Prop where
  row : w.ownsRow B 30 45 sv l.length (blkCells l)
  all : ∀ x ∈ l, x.1.Wf ∧ BytesAt w x.2 x.1.bytes ∧ Apart w B x.2 x.1.bytes
theorem OwnB.nil (w : World) (B : Nat) : OwnB w B (.slice none 0 0) [] := ⟨World.ownsRow_nil w B 30 45, fun x hx => by cases hx⟩
theorem OwnB.blks {w : World} {B : Nat} {sv : Value} {l : List (Bk × Value)} (h : OwnB w B sv l) : BlksAt w sv l := by
  have hr := h.row
  rcases hr.2 with ⟨rfl, h0⟩ | ⟨g, cap, cur, rfl, hb, hg, hn, hm, hs, ht⟩
  · have : l = [] := List.eq_nil_of_length_eq_zero h0
    subst this
    exact BlksAt.nil _ _ _
  · refine ⟨_, cap, rfl, fun i x hx => ?_⟩
    obtain ⟨h1, h2, -⟩ := h.all x (List.mem_of_getElem? hx)
    refine ⟨h1, h2, g, 0, rfl, fun j hj => ?_⟩
    have hi := (List.getElem?_eq_some_iff.1 hx).1
    rw [Bk.arr_size h1] at hj
    rw [Nat.zero_add, World.ownsRow.cellAt hr (i * 45 + j) (by omega), blkCells_at (fun y hy => (h.all y hy).1) hj, hx]
    show (x.1.cells x.2)[j]? = _
    rw [List.getElem?_eq_getElem (by rw [Bk.cells_length h1]; exact hj)]
    rfl
theorem OwnB.lt {w : World} {B : Nat} {sv : Value} {l : List (Bk × Value)} (h : OwnB w B sv l) : ∀ k, sv.ownBlock = some k → B ≤ k ∧ k < w.heap.size := World.ownsRow.lt h.row
theorem Apart.kept {w w' : World} {B : Nat} {sv : Value} {l : List Int} (h : Apart w B sv l) (hb : ∀ (b : Nat) (cur : Array Value) (fz : Nat × Nat), w.heap[b]? = some (Obj.cells cur 5 fz) → w'.heap[b]? = w.heap[b]?) : Apart w' B sv l := fun b o n c e hl => by
  rcases h b o n c e hl with h1 | ⟨cur, fz, h2⟩
  · exact .inl h1
  · exact .inr ⟨cur, fz, (hb b cur fz h2).trans h2⟩
theorem OwnB.below {w w' : World} {B : Nat} {sv : Value} {l : List (Bk × Value)} (h : OwnB w B sv l) (hb : Below w.heap.size w w') : OwnB w' B sv l := by
  refine ⟨⟨h.row.1, ?_⟩, fun x hx => ?_⟩
  · rcases h.row.2 with hn | ⟨g, cap, cur, e, hB, hg, r⟩
    · exact .inl hn
    · exact .inr ⟨g, cap, cur, e, hB, (hb.block g (Array.getElem?_eq_some_iff.1 hg).1).trans hg, r⟩
  · obtain ⟨h1, h2, h3⟩ := h.all x hx
    exact ⟨h1, h2.below hb, h3.kept fun b cur fz hb2 => hb.block b (Array.getElem?_eq_some_iff.1 hb2).1⟩
/-- Bytes of blocks lie on where a row of blocks is turned. -/
theorem bytes_kept {w w' : World} {B g : Nat} {sv : Value} {l : List Int} (h : BytesAt w sv l) (k : Apart w B sv l) (hg : B ≤ g) (hrow : ∀ cur fz, w.heap[g]? ≠ some (Obj.cells cur 5 fz)) (hb : ∀ b, b < w.heap.size → b ≠ g → w'.heap[b]? = w.heap[b]?) : BytesAt w' sv l := by
  obtain ⟨a, cap, e, hc⟩ := h
  refine ⟨a, cap, e, fun i x hx => ?_⟩
  obtain ⟨b, o, e2, hx2⟩ := hc i x hx
  have hne : b ≠ g := by
    rintro rfl
    rcases k b o _ _ (by rw [e, e2]) (by have := (List.getElem?_eq_some_iff.1 hx).1; omega) with h1 | ⟨cur, fz, h2⟩
    · omega
    · exact hrow cur fz h2
  refine ⟨b, o, e2, ?_⟩
  rw [← hx2]
  simp only [World.cell?, hb b (block_lt_of_cell hx2) hne]
theorem info30a : (Tryd.prog.info? 30).map (fun i => (i.size, i.bytes)) = some (45, 152) := by kernel_rfl
theorem inf30 : ∃ i, Tryd.prog.info? 30 = some i ∧ i.zero = some (.agg (Bk.none.arr (.slice none 0 0))) ∧ i.size = 45 ∧ i.bytes = 152 := by
  have h1 := info30a
  have h2 := zero30b
  cases hq : Tryd.prog.info? 30 with
  | none => simp [hq] at h1
  | some i => simp [hq] at h1 h2; exact ⟨i, rfl, h2, h1⟩
theorem blks_cells {w : World} {b o : Nat} {m : List (Bk × Value)} (hw : ∀ x ∈ m, x.1.Wf) (hc : ∀ i x, m[i]? = some x → At w b (o + i * 45) (x.1.arr x.2)) (j : Nat) (u : Value) (hu : (blkCells m)[j]? = some u) : w.cell? ((⟨b, o, none⟩ : Addr).add j) = some u := by
  rw [show (⟨b, o, none⟩ : Addr).add j = ⟨b, o + j, none⟩ by unfold Addr.add; split <;> simp_all]
  have e : j = j / 45 * 45 + j % 45 := by omega
  have hj : j % 45 < 45 := Nat.mod_lt _ (by decide)
  rw [e, blkCells_at hw hj] at hu
  obtain ⟨x, hx, hu⟩ := Option.bind_eq_some_iff.1 hu
  have h1 := hc _ x hx (j % 45) (by rw [Bk.arr_size (hw x (List.mem_of_getElem? hx))]; exact hj)
  rw [show o + j / 45 * 45 + j % 45 = o + j by omega] at h1
  rw [h1, ← hu]
  rw [List.getElem?_eq_getElem (by rw [Bk.cells_length (hw x (List.mem_of_getElem? hx))]; exact hj)]
  rfl
/-- Blocks appended. -/
theorem app_ownB {w : World} {B : Nat} {sv tv : Value} {l m : List (Bk × Value)} (h : OwnB w B sv l) (hB : B ≤ w.heap.size) (k : BlksAt w tv m) (hk : ∀ x ∈ m, Apart w B x.2 x.1.bytes) (hlen : l.length + m.length ≤ 1000) (ty : TypeId) :
    ∃ sv' w', (Builtin.append_ #[22, 22] ty #[sv, tv]).run Tryd.prog w = .ok sv' w' ∧ OwnB w' B sv' (l ++ m) ∧ w.grownBy w' sv.ownBlock := by
  obtain ⟨i, hi, hz, hs, hby⟩ := inf30
  cases m with
  | nil =>
    have hsl : ∃ a c, sv = .slice a l.length c ∧ l.length ≤ c := by
      rcases h.row.2 with ⟨e, h0⟩ | ⟨g, cap, cur, e, _, _, hn, _⟩
      · exact ⟨none, 0, by rw [e, h0], by omega⟩
      · exact ⟨_, cap, e, hn⟩
    obtain ⟨a, c, rfl, hle⟩ := hsl
    obtain ⟨ta, tc, rfl, _⟩ := k
    refine ⟨_, w, run_append_nothing w 22 22 ty 30 i Tryd.underlying22 hi a l.length c hle _ ⟨.inl ⟨30, Tryd.underlying22⟩, fun _ => by rfl, ?_, ?_, by simp, fun u hu => by cases hu⟩, by rw [List.append_nil]; exact h, ⟨rfl, rfl, rfl, Nat.le_refl _, fun _ _ _ => rfl⟩⟩
    · cases ta <;> simp [Builtin.firstCells, hs, loadCells, loadCellsFrom]
    · cases ta <;> simp [Builtin.firstCells, hs, loadCells, loadCellsFrom]
  | cons x m =>
    obtain ⟨b, o, c, rfl, hbl, hc⟩ := k.has (by simp)
    have hw : ∀ y ∈ x :: m, y.1.Wf := fun y hy => by
      obtain ⟨j, hj⟩ := List.getElem?_of_mem hy
      exact (hc j y hj).1
    have hby2 : ∀ y ∈ x :: m, BytesAt w y.2 y.1.bytes := fun y hy => by
      obtain ⟨j, hj⟩ := List.getElem?_of_mem hy
      exact (hc j y hj).2.1
    obtain ⟨v', w', hr, h2, h3, _⟩ := run_append_own (P := Tryd.prog) w B 22 ty 30 i (.agg (Bk.none.arr (.slice none 0 0))) 45 152 Tryd.underlying22 hi hz hs hby (Bk.arr_size Bk.none_wf _) (by decide) sv l.length (blkCells l) h.row ⟨b, o, none⟩ (x :: m).length c (blkCells (x :: m)) (blkCells_length hw) (blks_cells hw fun j y hj => (hc j y hj).2.2) (blkCells_one fun y hy => slice_one (hby2 y hy).len) (by simp only [maxLen]; omega) (by omega) hB
    have hkept : ∀ y : Bk × Value, BytesAt w y.2 y.1.bytes → Apart w B y.2 y.1.bytes → BytesAt w' y.2 y.1.bytes ∧ Apart w' B y.2 y.1.bytes := fun y hy hap => by
      rcases h.row.2 with ⟨rfl, -⟩ | ⟨g, cap, cur, e, hbg, hg, -⟩
      · have hbb : Below w.heap.size w w' := grown_below h3 (Nat.le_refl _) (fun k hk => by cases hk)
        exact ⟨hy.below hbb, hap.kept fun b cur fz hb2 => hbb.block b (Array.getElem?_eq_some_iff.1 hb2).1⟩
      · have hrow : ∀ cur fz, w.heap[g]? ≠ some (Obj.cells cur 5 fz) := fun cur fz e2 => by rw [hg] at e2; cases e2
        have hbk : ∀ b, b < w.heap.size → b ≠ g → w'.heap[b]? = w.heap[b]? := fun b hb hne => h3.block b hb (by rw [e]; simp [Value.ownBlock]; exact hne)
        exact ⟨bytes_kept hy hap hbg hrow hbk, hap.kept fun b cur2 fz hb2 => hbk b (Array.getElem?_eq_some_iff.1 hb2).1 fun e2 => by subst e2; exact hrow _ _ hb2⟩
    refine ⟨v', w', hr, ⟨?_, fun y hy => ?_⟩, h3⟩
    · rw [List.length_append, show blkCells (l ++ x :: m) = blkCells l ++ blkCells (x :: m) from List.flatMap_append]
      exact h2
    · rcases List.mem_append.1 hy with hy | hy
      · obtain ⟨q1, q2, q3⟩ := h.all y hy
        obtain ⟨q4, q5⟩ := hkept y q2 q3
        exact ⟨q1, q4, q5⟩
      · obtain ⟨q4, q5⟩ := hkept y (hby2 y hy) (hk y hy)
        exact ⟨hw y hy, q4, q5⟩
/-- A slice's literal of blocks. -/
theorem run_lit (w : World) (l : List (Bk × Value)) (hw : ∀ x ∈ l, x.1.Wf) (hpos : 0 < l.length) (hl : l.length ≤ 1000) : (Instr.buildSlice 22 l.length ((l.map fun x => Value.agg (x.1.arr x.2)).zipIdx.map fun x => (x.2, x.1)).toArray).run Tryd.prog w = .ok (.slice (some ⟨w.heap.size, 0, none⟩) l.length l.length) (w.alloc (.cells (blkCells l).toArray 30)) := by
  obtain ⟨i, hi, hz, hs, -⟩ := inf30
  have hv : ∀ v ∈ l.map (fun x => Value.agg (x.1.arr x.2)), v.cells.size = 45 := fun v hv => by
    obtain ⟨x, hx, rfl⟩ := List.mem_map.1 hv
    exact Bk.arr_size (hw x hx) _
  obtain ⟨r, hr, hrs, hk⟩ := Go.Great.fill_dense (s := 45) (by decide) (l.map fun x => Value.agg (x.1.arr x.2)) 0 ((Array.range (l.length * 45)).map fun k => (Value.agg (Bk.none.arr (.slice none 0 0))).cells[k % (Value.agg (Bk.none.arr (.slice none 0 0))).cells.size]!) hv (by simp)
  have hcells : r = (blkCells l).toArray := by
    apply Array.ext_getElem?
    intro k
    rw [hk k]
    simp only [List.length_map, Nat.zero_add, Nat.zero_mul, Nat.zero_le, true_and, Nat.sub_zero, List.getElem?_toArray]
    by_cases h : k < l.length * 45
    · rw [if_pos h]
      have e := blkCells_at hw (i := k / 45) (j := k % 45) (Nat.mod_lt _ (by decide))
      rw [show k / 45 * 45 + k % 45 = k by omega] at e
      rw [e, List.getElem?_map]
      cases l[k / 45]? with
      | none => rfl
      | some x => simp [Bk.arr, Value.cells]
    · rw [if_neg h, List.getElem?_eq_none (by rw [blkCells_length hw]; omega)]
      simp
      omega
  rw [← hcells]
  refine Go.run_buildSlice (P := Tryd.prog) w 22 30 l.length _ r i _ Tryd.underlying22 hi hz (by rw [hs]; omega) (by rw [hs]; omega) ?_
  rw [hs]
  simpa using hr
theorem OwnB.lit {w : World} {l : List (Bk × Value)} (hw : ∀ x ∈ l, x.1.Wf) (hb : ∀ x ∈ l, BytesAt w x.2 x.1.bytes) (hl : l.length ≤ 1000) : OwnB (w.alloc (.cells (blkCells l).toArray 30)) w.heap.size (.slice (some ⟨w.heap.size, 0, none⟩) l.length l.length) l := by
  have hlen := blkCells_length hw
  have hbl : Below w.heap.size w (w.alloc (.cells (blkCells l).toArray 30)) := (Below.refl _ _).alloc (Nat.le_refl _) _
  refine ⟨⟨hlen, .inr ⟨w.heap.size, l.length, _, rfl, Nat.le_refl _, heap_alloc_new w _, Nat.le_refl _, by simp only [maxLen]; omega, by simpa using hlen, List.take_of_length_le (by simp; omega)⟩⟩, fun x hx => ⟨hw x hx, (hb x hx).below hbl, fun b o n c e hpos => ?_⟩⟩
  exact .inl ((hb x hx).lt hpos e)
section
variable {ops : Array Oper} {rest : List Oper} {dst : Option Tmp} {x y : Operand} {t2 : TypeId} {pos : String} {after : Array Edge} {guard : Option (Nat × Bool)} {a : Act} {w : World} {Q : Exit → Act → World → Prop}
theorem app_LB {B : Nat} {sv tv : Value} {l m : List (Bk × Value)} (h : OwnB w B sv l) (hB : B ≤ w.heap.size) (k : BlksAt w tv m) (hk : ∀ x ∈ m, Apart w B x.2 x.1.bytes) (hlen : l.length + m.length ≤ 1000) (hx : a.eval x = sv) (hy : a.eval y = tv)
    (hw : Region.wanted ⟨dst, .call { callee := .builtin .append, args := #[x, y], argTypes := #[22, 22] }, t2, pos, after, guard⟩ (yielded ops a.tmps) = true)
    (hh : ∀ sv' w', OwnB w' B sv' (l ++ m) → Below B w w' → wpList Tryd.prog ops Q rest (a.put dst sv') w') : wpList Tryd.prog ops Q (⟨dst, .call { callee := .builtin .append, args := #[x, y], argTypes := #[22, 22] }, t2, pos, after, guard⟩ :: rest) a w := by
  obtain ⟨sv', w', hr, ho, hg⟩ := app_ownB h hB k hk hlen t2
  exact wpList_run sv' w' hw (exec_app a.eval _ x y 22 22 rfl sv tv sv' hx hy hr) (hh sv' w' ho (grown_below hg hB fun k hk => (h.lt k hk).1))
theorem lit_L1 {b : Bk} {bv : Value} (hb : b.Wf) (hby : BytesAt w bv b.bytes) (hx : a.eval x = .agg (b.arr bv))
    (hw : Region.wanted ⟨dst, .buildSlice 22 1 #[(0, x)], t2, pos, after, guard⟩ (yielded ops a.tmps) = true)
    (hh : ∀ sv w', OwnB w' w.heap.size sv [(b, bv)] → Below w.heap.size w w' → wpList Tryd.prog ops Q rest (a.put dst sv) w') : wpList Tryd.prog ops Q (⟨dst, .buildSlice 22 1 #[(0, x)], t2, pos, after, guard⟩ :: rest) a w := by
  have h1 : ∀ y ∈ [(b, bv)], y.1.Wf := fun y hy => by simp at hy; subst hy; exact hb
  have h2 : ∀ y ∈ [(b, bv)], BytesAt w y.2 y.1.bytes := fun y hy => by simp at hy; subst hy; exact hby
  have hr := run_lit w [(b, bv)] h1 (by simp) (by simp)
  exact wpList_run _ _ hw (exec_buildSlice _ _ a.eval _ 22 1 _ rfl #[(0, .agg (b.arr bv))] (by simp [hx]) _ hr) (hh _ _ (OwnB.lit h1 h2 (by simp)) ((Below.refl _ _).alloc (Nat.le_refl _) _))
theorem lit_L2 {b c : Bk} {bv cv : Value} (hb : b.Wf) (hc : c.Wf) (hby : BytesAt w bv b.bytes) (hcy : BytesAt w cv c.bytes) (hx : a.eval x = .agg (b.arr bv)) (hy : a.eval y = .agg (c.arr cv))
    (hw : Region.wanted ⟨dst, .buildSlice 22 2 #[(0, x), (1, y)], t2, pos, after, guard⟩ (yielded ops a.tmps) = true)
    (hh : ∀ sv w', OwnB w' w.heap.size sv [(b, bv), (c, cv)] → Below w.heap.size w w' → wpList Tryd.prog ops Q rest (a.put dst sv) w') : wpList Tryd.prog ops Q (⟨dst, .buildSlice 22 2 #[(0, x), (1, y)], t2, pos, after, guard⟩ :: rest) a w := by
  have h1 : ∀ y ∈ [(b, bv), (c, cv)], y.1.Wf := fun y hy => by
    rcases List.mem_cons.1 hy with rfl | hy
    · exact hb
    · simp at hy; subst hy; exact hc
  have h2 : ∀ y ∈ [(b, bv), (c, cv)], BytesAt w y.2 y.1.bytes := fun y hy => by
    rcases List.mem_cons.1 hy with rfl | hy
    · exact hby
    · simp at hy; subst hy; exact hcy
  have hr := run_lit w [(b, bv), (c, cv)] h1 (by simp) (by simp)
  exact wpList_run _ _ hw (exec_buildSlice _ _ a.eval _ 22 2 _ rfl #[(0, .agg (b.arr bv)), (1, .agg (c.arr cv))] (by simp [hx, hy]) _ hr) (hh _ _ (OwnB.lit h1 h2 (by simp)) ((Below.refl _ _).alloc (Nat.le_refl _) _))
end
end Go.Proofs.YtjejodgjakjeiaaDoor
