/- Items as they lie in memory; items of one's own, appended to and stored into. -/
import Derived.Test.YtbhaifdhmfmeoaaGrp
import Derived.Test.YtbhaifdhmfmeoaaOwn
import Derived.Test.YtbhaifdhmfmeoaaSown
import Derived.Maps.AppendAt
import Derived.Great.BuildSlice
import Derived.Great.FillDense
namespace Go.Proofs.Ytbhaifdhmfmeoaa
set_option linter.unusedSimpArgs false
set_option linter.unusedVariables false
open Go.RowKit

def It.cells (x : It) (sv : Value) : List Value := .int .i64 x.mark.1 :: .int .i64 x.mark.2 :: x.blk.cells sv
def It.arr (x : It) (sv : Value) : Array Value := (x.cells sv).toArray
theorem It.cells_length {x : It} (h : x.Wf) (sv : Value) : (x.cells sv).length = 47 := by simp [It.cells, Bk.cells_length h.b]
theorem It.arr_size {x : It} (h : x.Wf) (sv : Value) : (x.arr sv).size = 47 := by simpa [It.arr] using x.cells_length h sv
def It.none : It := ⟨(0, 0), Bk.none⟩
theorem It.none_wf : It.none.Wf := ⟨small0, small0, Go.Proofs.Ytbhaifdhmfmeoaa.none_wf⟩
theorem slice_one {sv : Value} {n : Nat} (h : Len sv n) : sv.oneCell' = true := by
  obtain ⟨a, c, rfl⟩ := h
  rfl
theorem Bk.arr_one {b : Bk} {sv : Value} (h : sv.oneCell' = true) : ∀ v ∈ b.arr sv, v.oneCell' = true := fun v hv => by
  simp only [Bk.arr, Bk.cells, List.mem_toArray, List.mem_cons, List.mem_append, List.mem_map] at hv
  rcases hv with rfl | rfl | ⟨z, _, rfl⟩ | rfl | rfl | rfl | ⟨z, _, rfl⟩ <;> first | rfl | exact h
theorem It.arr_one {x : It} {sv : Value} (h : sv.oneCell' = true) : ∀ v ∈ x.arr sv, v.oneCell' = true := fun v hv => by
  simp only [It.arr, It.cells, List.mem_toArray, List.mem_cons] at hv
  rcases hv with rfl | rfl | hv
  · rfl
  · rfl
  · exact Bk.arr_one (b := x.blk) h v (by simpa [Bk.arr] using hv)
theorem At.below {w w' : World} {B g off : Nat} {cs : Array Value} (h : At w g off cs) (hb : Below B w w') (hg : g < B) : At w' g off cs := fun j hj => (hb.cell (p := ⟨g, off + j, Option.none⟩) hg).trans (h j hj)
theorem At.lt {w : World} {g off : Nat} {cs : Array Value} (h : At w g off cs) (hc : 0 < cs.size) : g < w.heap.size := by
  have := h 0 hc
  exact block_lt_of_cell this
/-- An item in a variable, its parts. -/
structure ItAt (w : World) (g off : Nat) (x : It) (sv : Value) : Prop where
  all : At w g off (x.arr sv)
  c0 : w.cell? ⟨g, off, Option.none⟩ = some (.int .i64 x.mark.1)
  c1 : w.cell? ⟨g, off + 1, Option.none⟩ = some (.int .i64 x.mark.2)
  blk : At w g (off + 2) (x.blk.arr sv)
theorem ItAt.of {w : World} {g off : Nat} {x : It} {sv : Value} (h : At w g off (x.arr sv)) : ItAt w g off x sv := by
  refine ⟨h, ?_, ?_, fun j hj => ?_⟩
  · have := h 0 (by simp [It.arr, It.cells])
    simpa [It.arr, It.cells] using this
  · have := h 1 (by simp [It.arr, It.cells])
    simpa [It.arr, It.cells] using this
  · have h2 : j < (x.blk.cells sv).length := by simpa [Bk.arr] using hj
    have := h (j + 2) (by simp [It.arr, It.cells]; omega)
    rw [show off + (j + 2) = off + 2 + j by omega] at this
    rw [this]
    simp [It.arr, It.cells, Bk.arr]
theorem ItAt.below {w w' : World} {B g off : Nat} {x : It} {sv : Value} (h : ItAt w g off x sv) (hb : Below B w w') (hg : g < B) : ItAt w' g off x sv := ItAt.of (h.all.below hb hg)
/-- A slice of items, each with its slice of bytes. -/
def ItemsAt (w : World) (sv : Value) (l : List (It × Value)) : Prop := ∃ a cap, sv = .slice a l.length cap ∧ l.length ≤ cap ∧ ∀ i x, l[i]? = some x → x.1.Wf ∧ BytesAt w x.2 x.1.blk.bytes ∧ ∃ g o, a = some ⟨g, o, Option.none⟩ ∧ At w g (o + i * 47) (x.1.arr x.2)
theorem ItemsAt.below {w w' : World} {sv : Value} {l : List (It × Value)} (h : ItemsAt w sv l) (hb : Below w.heap.size w w') : ItemsAt w' sv l := by
  obtain ⟨a, cap, e, hcap, hc⟩ := h
  refine ⟨a, cap, e, hcap, fun i x hx => ?_⟩
  obtain ⟨h1, h2, g, o, h3, h4⟩ := hc i x hx
  exact ⟨h1, h2.below hb, g, o, h3, h4.below hb (h4.lt (by rw [It.arr_size h1]; decide))⟩
theorem ItemsAt.nil (w : World) (a : Option Addr) (cap : Nat) : ItemsAt w (.slice a 0 cap) [] := ⟨a, cap, rfl, Nat.zero_le _, fun i x h => by simp at h⟩
theorem ItemsAt.wf {w : World} {sv : Value} {l : List (It × Value)} (h : ItemsAt w sv l) : ∀ b ∈ l.map (·.1), b.Wf := fun b hb => by
  obtain ⟨a, cap, e, -, hc⟩ := h
  obtain ⟨x, hx, rfl⟩ := List.mem_map.1 hb
  obtain ⟨i, hi⟩ := List.getElem?_of_mem hx
  exact (hc i x hi).1
theorem ItemsAt.bytes {w : World} {sv : Value} {l : List (It × Value)} (h : ItemsAt w sv l) : ∀ x ∈ l, x.1.Wf ∧ BytesAt w x.2 x.1.blk.bytes := fun x hx => by
  obtain ⟨a, cap, e, -, hc⟩ := h
  obtain ⟨i, hi⟩ := List.getElem?_of_mem hx
  exact ⟨(hc i x hi).1, (hc i x hi).2.1⟩
/-- Where they lie, if there are any. -/
theorem ItemsAt.has {w : World} {sv : Value} {l : List (It × Value)} (h : ItemsAt w sv l) (hl : 0 < l.length) : ∃ g o cap, sv = .slice (some ⟨g, o, Option.none⟩) l.length cap ∧ l.length ≤ cap ∧ g < w.heap.size ∧ ∀ i x, l[i]? = some x → x.1.Wf ∧ BytesAt w x.2 x.1.blk.bytes ∧ At w g (o + i * 47) (x.1.arr x.2) := by
  obtain ⟨a, cap, e, hcap, hc⟩ := h
  obtain ⟨h1, -, g, o, h3, h4⟩ := hc 0 l[0] (by simp [hl])
  refine ⟨g, o, cap, by rw [e, h3], hcap, h4.lt (by rw [It.arr_size h1]; decide), fun i x hx => ?_⟩
  obtain ⟨k1, k2, g', o', k3, k4⟩ := hc i x hx
  rw [h3] at k3
  cases k3
  exact ⟨k1, k2, k4⟩
/-- A part of a slice. -/
theorem ItemsAt.part {w : World} {g o n cap : Nat} {l : List (It × Value)} (h : ItemsAt w (.slice (some ⟨g, o, Option.none⟩) n cap) l) (a k : Nat) (hk : a + k ≤ l.length) : ItemsAt w (.slice (some ⟨g, o + a * 47, Option.none⟩) k (cap - a)) ((l.drop a).take k) := by
  obtain ⟨a', cap', e, hcap, hc⟩ := h
  have hlen : ((l.drop a).take k).length = k := by simp; omega
  cases e
  refine ⟨_, _, by rw [hlen], by rw [hlen]; omega, fun i x hx => ?_⟩
  have hik : i < k := by have := (List.getElem?_eq_some_iff.1 hx).1; omega
  have hx2 : l[a + i]? = some x := by
    rw [List.getElem?_take, if_pos hik, List.getElem?_drop] at hx
    exact hx
  obtain ⟨k1, k2, g', o', k3, k4⟩ := hc _ x hx2
  cases k3
  refine ⟨k1, k2, g, o + a * 47, rfl, ?_⟩
  rw [show o + a * 47 + i * 47 = o + (a + i) * 47 by omega]
  exact k4
def itCells (l : List (It × Value)) : List Value := l.flatMap fun x => x.1.cells x.2
theorem itCells_length {l : List (It × Value)} (h : ∀ x ∈ l, x.1.Wf) : (itCells l).length = l.length * 47 := by
  induction l with
  | nil => rfl
  | cons x r ih =>
    have h1 := ih fun y hy => h y (List.mem_cons_of_mem _ hy)
    have h2 := x.1.cells_length (h x (by simp)) x.2
    simp only [itCells, List.flatMap_cons, List.length_append, List.length_cons] at h1 h2 ⊢
    omega
theorem itCells_at {l : List (It × Value)} (h : ∀ x ∈ l, x.1.Wf) {i j : Nat} (hj : j < 47) : (itCells l)[i * 47 + j]? = (l[i]?).bind fun x => (x.1.cells x.2)[j]? := by
  induction l generalizing i with
  | nil => simp [itCells]
  | cons x r ih =>
    have hl := x.1.cells_length (h x (by simp)) x.2
    have ih := fun {i} => ih (i := i) fun y hy => h y (List.mem_cons_of_mem _ hy)
    simp only [itCells, List.flatMap_cons] at ih ⊢
    cases i with
    | zero =>
      rw [Nat.zero_mul, Nat.zero_add, List.getElem?_append_left (by omega)]
      rfl
    | succ i =>
      rw [List.getElem?_append_right (by omega), hl, show (i + 1) * 47 + j - 47 = i * 47 + j by omega, ih]
      rfl
theorem itCells_one {l : List (It × Value)} (h : ∀ x ∈ l, x.2.oneCell' = true) : ∀ v ∈ itCells l, v.oneCell' = true := fun v hv => by
  obtain ⟨x, hx, hv⟩ := List.mem_flatMap.1 hv
  exact It.arr_one (h x hx) v (by simpa [It.arr] using hv)
/-- Bytes do not lie in block g. -/
def Off (g : Option Nat) (sv : Value) (l : List Int) : Prop := 0 < l.length → ∀ b o n c, sv = .slice (some ⟨b, o, Option.none⟩) n c → some b ≠ g
theorem Off.fresh {g : Option Nat} {B : Nat} {sv : Value} {l : List Int} (h : Fresh B sv) (hg : ∀ k, g = some k → k < B) : Off g sv l := fun _ b o n c e hn => by
  have h1 := h b o n c e
  have h2 := hg b hn.symm
  omega
theorem Off.none (sv : Value) (l : List Int) : Off Option.none sv l := fun _ b o n c e hn => by cases hn
/-- Bytes lie on where another block is turned. -/
theorem bytes_kept {w w' : World} {row : Option Nat} {sv : Value} {l : List Int} (h : BytesAt w sv l) (k : Off row sv l) (hb : ∀ b, b < w.heap.size → some b ≠ row → w'.heap[b]? = w.heap[b]?) : BytesAt w' sv l := by
  obtain ⟨a, cap, e, hc⟩ := h
  refine ⟨a, cap, e, fun i x hx => ?_⟩
  obtain ⟨b, o, e2, hx2⟩ := hc i x hx
  have hne : some b ≠ row := k (by have := (List.getElem?_eq_some_iff.1 hx).1; omega) b o _ _ (by rw [e, e2])
  refine ⟨b, o, e2, ?_⟩
  rw [← hx2]
  simp only [World.cell?, hb b (block_lt_of_cell hx2) hne]
theorem Off.moved {w : World} {row row' : Option Nat} {sv : Value} {l : List Int} (h : BytesAt w sv l) (k : Off row sv l) (hr : row' = row ∨ row' = some w.heap.size) : Off row' sv l := fun hp b o n c e => by
  rcases hr with rfl | rfl
  · exact k hp b o n c e
  · have := h.lt hp e
    intro h2
    have := Option.some.inj h2
    omega
/-- Items of one's own: their row was made from B on. -/
structure OwnI (w : World) (B : Nat) (sv : Value) (l : List (It × Value)) : Prop where
  row : w.ownsRow B 72 47 sv l.length (itCells l)
  all : ∀ x ∈ l, x.1.Wf ∧ BytesAt w x.2 x.1.blk.bytes ∧ Off sv.ownBlock x.2 x.1.blk.bytes
theorem OwnI.nil (w : World) (B : Nat) : OwnI w B (.slice Option.none 0 0) [] := ⟨World.ownsRow_nil w B 72 47, fun x hx => by cases hx⟩
theorem OwnI.items {w : World} {B : Nat} {sv : Value} {l : List (It × Value)} (h : OwnI w B sv l) : ItemsAt w sv l := by
  have hr := h.row
  rcases hr.2 with ⟨rfl, h0⟩ | ⟨g, cap, cur, rfl, hb, hg, hn, hm, hs, ht⟩
  · have : l = [] := List.eq_nil_of_length_eq_zero h0
    subst this
    exact ItemsAt.nil _ _ _
  · refine ⟨_, cap, rfl, hn, fun i x hx => ?_⟩
    obtain ⟨h1, h2, -⟩ := h.all x (List.mem_of_getElem? hx)
    refine ⟨h1, h2, g, 0, rfl, fun j hj => ?_⟩
    have hi := (List.getElem?_eq_some_iff.1 hx).1
    rw [It.arr_size h1] at hj
    rw [Nat.zero_add, World.ownsRow.cellAt hr (i * 47 + j) (by omega), itCells_at (fun y hy => (h.all y hy).1) hj, hx]
    show (x.1.cells x.2)[j]? = _
    rw [List.getElem?_eq_getElem (by rw [It.cells_length h1]; exact hj)]
    rfl
theorem OwnI.lt {w : World} {B : Nat} {sv : Value} {l : List (It × Value)} (h : OwnI w B sv l) : ∀ k, sv.ownBlock = some k → B ≤ k ∧ k < w.heap.size := World.ownsRow.lt h.row
theorem OwnI.len {w : World} {B : Nat} {sv : Value} {l : List (It × Value)} (h : OwnI w B sv l) : ∃ a c, sv = .slice a l.length c ∧ l.length ≤ c := by
  rcases h.row.2 with ⟨e, h0⟩ | ⟨g, cap, cur, e, _, _, hn, _⟩
  · exact ⟨Option.none, 0, by rw [e, h0], by omega⟩
  · exact ⟨_, cap, e, hn⟩
theorem OwnI.below {w w' : World} {B : Nat} {sv : Value} {l : List (It × Value)} (h : OwnI w B sv l) (hb : Below w.heap.size w w') : OwnI w' B sv l := by
  refine ⟨⟨h.row.1, ?_⟩, fun x hx => ?_⟩
  · rcases h.row.2 with hn | ⟨g, cap, cur, e, hB, hg, r⟩
    · exact .inl hn
    · exact .inr ⟨g, cap, cur, e, hB, (hb.block g (Array.getElem?_eq_some_iff.1 hg).1).trans hg, r⟩
  · obtain ⟨h1, h2, h3⟩ := h.all x hx
    exact ⟨h1, h2.below hb, h3⟩
theorem OwnI.mono {w : World} {B C : Nat} {sv : Value} {l : List (It × Value)} (h : OwnI w B sv l) (hc : C ≤ B) : OwnI w C sv l := ⟨World.ownsRow.mono h.row hc, h.all⟩
theorem info72a : (Try.prog.info? 72).map (fun i => (i.size, i.bytes)) = some (47, 168) := by kernel_rfl
theorem zero72b : (Try.prog.info? 72).bind (·.zero) = some (.agg (It.none.arr (.slice Option.none 0 0))) := by kernel_rfl
theorem info72 : (Try.prog.info? 72).map (·.size) = some 47 := by kernel_rfl
theorem inf72 : ∃ i, Try.prog.info? 72 = some i ∧ i.zero = some (.agg (It.none.arr (.slice Option.none 0 0))) ∧ i.size = 47 ∧ i.bytes = 168 := by
  have h1 := info72a
  have h2 := zero72b
  cases hq : Try.prog.info? 72 with
  | none => simp [hq] at h1
  | some i => simp [hq] at h1 h2; exact ⟨i, rfl, h2, h1⟩
theorem it_cells {w : World} {b o : Nat} {m : List (It × Value)} (hw : ∀ x ∈ m, x.1.Wf) (hc : ∀ i x, m[i]? = some x → At w b (o + i * 47) (x.1.arr x.2)) (j : Nat) (u : Value) (hu : (itCells m)[j]? = some u) : w.cell? ((⟨b, o, Option.none⟩ : Addr).add j) = some u := by
  rw [show (⟨b, o, Option.none⟩ : Addr).add j = ⟨b, o + j, Option.none⟩ by unfold Addr.add; split <;> simp_all]
  have e : j = j / 47 * 47 + j % 47 := by omega
  have hj : j % 47 < 47 := Nat.mod_lt _ (by decide)
  rw [e, itCells_at hw hj] at hu
  obtain ⟨x, hx, hu⟩ := Option.bind_eq_some_iff.1 hu
  have h1 := hc _ x hx (j % 47) (by rw [It.arr_size (hw x (List.mem_of_getElem? hx))]; exact hj)
  rw [show o + j / 47 * 47 + j % 47 = o + j by omega] at h1
  rw [h1, ← hu]
  rw [List.getElem?_eq_getElem (by rw [It.cells_length (hw x (List.mem_of_getElem? hx))]; exact hj)]
  rfl
/-- Items appended. -/
theorem app_ownI {w : World} {B : Nat} {sv tv : Value} {l m : List (It × Value)} (h : OwnI w B sv l) (hB : B ≤ w.heap.size) (k : ItemsAt w tv m) (hk : ∀ x ∈ m, Off sv.ownBlock x.2 x.1.blk.bytes) (hlen : l.length + m.length ≤ 1000) (ty : TypeId) :
    ∃ sv' w', (Builtin.append_ #[22, 22] ty #[sv, tv]).run Try.prog w = .ok sv' w' ∧ OwnI w' B sv' (l ++ m) ∧ w.grownBy w' sv.ownBlock ∧ (sv'.ownBlock = sv.ownBlock ∨ sv'.ownBlock = some w.heap.size) := by
  obtain ⟨i, hi, hz, hs, hby⟩ := inf72
  cases m with
  | nil =>
    obtain ⟨a, c, rfl, hle⟩ := h.len
    obtain ⟨ta, tc, rfl, _⟩ := k
    refine ⟨_, w, run_append_nothing w 22 22 ty 72 i Try.underlying22 hi a l.length c hle _ ⟨.inl ⟨72, Try.underlying22⟩, fun _ => by rfl, ?_, ?_, by simp, fun u hu => by cases hu⟩, by rw [List.append_nil]; exact h, ⟨rfl, rfl, rfl, Nat.le_refl _, fun _ _ _ => rfl⟩, .inl rfl⟩
    · cases ta <;> simp [Builtin.firstCells, hs, loadCells, loadCellsFrom]
    · cases ta <;> simp [Builtin.firstCells, hs, loadCells, loadCellsFrom]
  | cons x m =>
    obtain ⟨b, o, c, rfl, hcap, hbl, hc⟩ := k.has (by simp)
    have hw : ∀ y ∈ x :: m, y.1.Wf := fun y hy => by
      obtain ⟨j, hj⟩ := List.getElem?_of_mem hy
      exact (hc j y hj).1
    have hby2 : ∀ y ∈ x :: m, BytesAt w y.2 y.1.blk.bytes := fun y hy => by
      obtain ⟨j, hj⟩ := List.getElem?_of_mem hy
      exact (hc j y hj).2.1
    obtain ⟨v', w', hr, h2, h3, _, h5⟩ := run_append_own_at (P := Try.prog) w B 22 ty 72 i (.agg (It.none.arr (.slice Option.none 0 0))) 47 168 Try.underlying22 hi hz hs hby (It.arr_size It.none_wf _) (by decide) sv l.length (itCells l) h.row ⟨b, o, Option.none⟩ (x :: m).length c (itCells (x :: m)) (itCells_length hw) (it_cells hw fun j y hj => (hc j y hj).2.2) (itCells_one fun y hy => slice_one (hby2 y hy).len) (by simp only [maxLen]; omega) (by omega) hB
    have hkept : ∀ y : It × Value, BytesAt w y.2 y.1.blk.bytes → Off sv.ownBlock y.2 y.1.blk.bytes → BytesAt w' y.2 y.1.blk.bytes ∧ Off v'.ownBlock y.2 y.1.blk.bytes := fun y hy hap =>
      ⟨bytes_kept hy hap h3.block, hap.moved hy h5⟩
    refine ⟨v', w', hr, ⟨?_, fun y hy => ?_⟩, h3, h5⟩
    · rw [List.length_append, show itCells (l ++ x :: m) = itCells l ++ itCells (x :: m) from List.flatMap_append]
      exact h2
    · rcases List.mem_append.1 hy with hy | hy
      · obtain ⟨q1, q2, q3⟩ := h.all y hy
        obtain ⟨q4, q5⟩ := hkept y q2 q3
        exact ⟨q1, q4, q5⟩
      · obtain ⟨q4, q5⟩ := hkept y (hby2 y hy) (hk y hy)
        exact ⟨hw y hy, q4, q5⟩
/-- A slice's literal of items. -/
theorem run_litI (w : World) (l : List (It × Value)) (hw : ∀ x ∈ l, x.1.Wf) (hpos : 0 < l.length) (hl : l.length ≤ 1000) : (Instr.buildSlice 22 l.length ((l.map fun x => Value.agg (x.1.arr x.2)).zipIdx.map fun x => (x.2, x.1)).toArray).run Try.prog w = .ok (.slice (some ⟨w.heap.size, 0, Option.none⟩) l.length l.length) (w.alloc (.cells (itCells l).toArray 72)) := by
  obtain ⟨i, hi, hz, hs, -⟩ := inf72
  have hv : ∀ v ∈ l.map (fun x => Value.agg (x.1.arr x.2)), v.cells.size = 47 := fun v hv => by
    obtain ⟨x, hx, rfl⟩ := List.mem_map.1 hv
    exact It.arr_size (hw x hx) _
  obtain ⟨r, hr, hrs, hk⟩ := Go.Great.fill_dense (s := 47) (by decide) (l.map fun x => Value.agg (x.1.arr x.2)) 0 ((Array.range (l.length * 47)).map fun k => (Value.agg (It.none.arr (.slice Option.none 0 0))).cells[k % (Value.agg (It.none.arr (.slice Option.none 0 0))).cells.size]!) hv (by simp)
  have hcells : r = (itCells l).toArray := by
    apply Array.ext_getElem?
    intro k
    rw [hk k]
    simp only [List.length_map, Nat.zero_add, Nat.zero_mul, Nat.zero_le, true_and, Nat.sub_zero, List.getElem?_toArray]
    by_cases h : k < l.length * 47
    · rw [if_pos h]
      have e := itCells_at hw (i := k / 47) (j := k % 47) (Nat.mod_lt _ (by decide))
      rw [show k / 47 * 47 + k % 47 = k by omega] at e
      rw [e, List.getElem?_map]
      cases l[k / 47]? with
      | none => rfl
      | some x => simp [It.arr, Value.cells]
    · rw [if_neg h, List.getElem?_eq_none (by rw [itCells_length hw]; omega)]
      simp
      omega
  rw [← hcells]
  refine Go.run_buildSlice (P := Try.prog) w 22 72 l.length _ r i _ Try.underlying22 hi hz (by rw [hs]; omega) (by rw [hs]; omega) ?_
  rw [hs]
  simpa using hr
theorem OwnI.lit {w : World} {l : List (It × Value)} (hw : ∀ x ∈ l, x.1.Wf) (hb : ∀ x ∈ l, BytesAt w x.2 x.1.blk.bytes) (hl : l.length ≤ 1000) : OwnI (w.alloc (.cells (itCells l).toArray 72)) w.heap.size (.slice (some ⟨w.heap.size, 0, Option.none⟩) l.length l.length) l := by
  have hlen := itCells_length hw
  have hbl : Below w.heap.size w (w.alloc (.cells (itCells l).toArray 72)) := (Below.refl _ _).alloc (Nat.le_refl _) _
  refine ⟨⟨hlen, .inr ⟨w.heap.size, l.length, _, rfl, Nat.le_refl _, heap_alloc_new w _, Nat.le_refl _, by simp only [maxLen]; omega, by simpa using hlen, List.take_of_length_le (by simp; omega)⟩⟩, fun x hx => ⟨hw x hx, (hb x hx).below hbl, fun hpos b o n c e => ?_⟩⟩
  have := (hb x hx).lt hpos e
  intro h2
  have := Option.some.inj h2
  simp only at this
  omega
section
variable {ops : Array Oper} {rest : List Oper} {dst : Option Tmp} {x y : Operand} {t2 : TypeId} {pos : String} {after : Array Edge} {guard : Option (Nat × Bool)} {a : Act} {w : World} {Q : Exit → Act → World → Prop}
theorem load72 {g off : Nat} {cs : Array Value} (hA : At w g off cs) (hs : cs.size = 47) (hx : a.eval x = .pointer (some ⟨g, off, Option.none⟩)) (hw : Region.wanted ⟨dst, .load 72 x, t2, pos, after, guard⟩ (yielded ops a.tmps) = true)
    (h : wpList Try.prog ops Q rest (a.put dst (.agg cs)) w) : wpList Try.prog ops Q (⟨dst, .load 72 x, t2, pos, after, guard⟩ :: rest) a w :=
  wpList_load_at hw 72 x rfl g off hx cs _ Try.underlying72 rfl (by rw [hs]; exact info72) hA h
theorem app_LI {B : Nat} {sv tv : Value} {l m : List (It × Value)} (h : OwnI w B sv l) (hB : B ≤ w.heap.size) (k : ItemsAt w tv m) (hk : ∀ x ∈ m, Off sv.ownBlock x.2 x.1.blk.bytes) (hlen : l.length + m.length ≤ 1000) (hx : a.eval x = sv) (hy : a.eval y = tv)
    (hw : Region.wanted ⟨dst, .call { callee := .builtin .append, args := #[x, y], argTypes := #[22, 22] }, t2, pos, after, guard⟩ (yielded ops a.tmps) = true)
    (hh : ∀ sv' w', OwnI w' B sv' (l ++ m) → w.grownBy w' sv.ownBlock → (sv'.ownBlock = sv.ownBlock ∨ sv'.ownBlock = some w.heap.size) → wpList Try.prog ops Q rest (a.put dst sv') w') : wpList Try.prog ops Q (⟨dst, .call { callee := .builtin .append, args := #[x, y], argTypes := #[22, 22] }, t2, pos, after, guard⟩ :: rest) a w := by
  obtain ⟨sv', w', hr, ho, hg, h5⟩ := app_ownI h hB k hk hlen t2
  exact wpList_run sv' w' hw (exec_app a.eval _ x y 22 22 rfl sv tv sv' hx hy hr) (hh sv' w' ho hg h5)
end
theorem info72s {x : It} (h : x.Wf) (sv : Value) : (Try.prog.info? 72).map (·.size) = some (x.arr sv).size := by rw [x.arr_size h]; exact info72
theorem info57s {b : Bk} (h : b.Wf) (sv : Value) : (Try.prog.info? 57).map (·.size) = some (b.arr sv).size := by rw [b.arr_size h]; exact info57
theorem same72 {b c : It} (h : b.Wf) (k : c.Wf) (sv cv : Value) : (b.cells sv).length = (c.arr cv).size := by rw [b.cells_length h, c.arr_size k]
end Go.Proofs.Ytbhaifdhmfmeoaa
