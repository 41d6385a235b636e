/- Slices of ints and of sectors; such slices of one's own, appended to. -/
import Derived.Test.YtbhaifdhmfmeoaaIts
namespace Go.Proofs.Ytbhaifdhmfmeoaa
set_option linter.unusedSimpArgs false
set_option linter.unusedVariables false
open Go.RowKit

theorem info3z : (Try.prog.info? 3).map (fun i => (i.zero, i.size, i.bytes)) = some (some (.int .i64 0), 1, 8) := by kernel_rfl
/-- A slice whose values are l. -/
def IntsAt (w : World) (sv : Value) (l : List Int) : Prop := ∃ a cap, sv = .slice a l.length cap ∧ ∀ i x, l[i]? = some x → ∃ b o, a = some ⟨b, o, none⟩ ∧ w.cell? ⟨b, o + i, none⟩ = some (.int .i64 x)
theorem IntsAt.len {w : World} {sv : Value} {l : List Int} (h : IntsAt w sv l) : Len sv l.length := let ⟨a, cap, h, _⟩ := h; ⟨a, cap, h⟩
theorem IntsAt.below {w w' : World} {sv : Value} {l : List Int} (h : IntsAt w sv l) (hb : Below w.heap.size w w') : IntsAt w' sv l := by
  obtain ⟨a, cap, e, hc⟩ := h
  refine ⟨a, cap, e, fun i x hx => ?_⟩
  obtain ⟨b, o, e2, hx2⟩ := hc i x hx
  exact ⟨b, o, e2, (hb.cell (block_lt_of_cell hx2)).trans hx2⟩
theorem IntsAt.nil (w : World) (cap : Nat) (a : Option Addr) : IntsAt w (.slice a 0 cap) [] := ⟨a, cap, rfl, fun i x h => by simp at h⟩
theorem IntsAt.has {w : World} {sv : Value} {l : List Int} (h : IntsAt w sv l) (hl : 0 < l.length) : ∃ b o cap, sv = .slice (some ⟨b, o, none⟩) l.length cap ∧ ∀ i x, l[i]? = some x → w.cell? ⟨b, o + i, none⟩ = some (.int .i64 x) := by
  obtain ⟨a, cap, e, hc⟩ := h
  obtain ⟨b, o, e2, _⟩ := hc 0 l[0] (by simp [hl])
  subst e2
  refine ⟨b, o, cap, e, fun i x hx => ?_⟩
  obtain ⟨b', o', e3, hx2⟩ := hc i x hx
  cases e3
  exact hx2

theorem IntsAt.only {w w' : World} {sv : Value} {l : List Int} {t : Nat} (h : IntsAt w sv l) (ho : Only (fun k => k = t) w w') (ht : ∀ b o n c, sv = .slice (some ⟨b, o, none⟩) n c → b ≠ t) : IntsAt w' sv l := by
  obtain ⟨a, cap, e, hc⟩ := h
  refine ⟨a, cap, e, fun i x hx => ?_⟩
  obtain ⟨b, o, e2, hx2⟩ := hc i x hx
  refine ⟨b, o, e2, ?_⟩
  have hne : b ≠ t := ht b o _ _ (by rw [e, e2])
  have hb := ho.block b (block_lt_of_cell hx2) hne
  rw [← hx2]
  simp only [World.cell?, hb]
theorem IntsAt.lt {w : World} {sv : Value} {l : List Int} (h : IntsAt w sv l) (hl : 0 < l.length) {b o n c : Nat} (e : sv = .slice (some ⟨b, o, none⟩) n c) : b < w.heap.size := by
  obtain ⟨b', o', c', e', hc⟩ := h.has hl
  rw [e] at e'
  cases e'
  exact block_lt_of_cell (hc 0 l[0] (by simp [hl]))

/-- A slice of one's own: its row was made from B on. -/
def OwnN (w : World) (B : Nat) (sv : Value) (l : List Int) : Prop := w.ownsRow B 3 1 sv l.length (i64s l)
theorem OwnN.nil (w : World) (B : Nat) : OwnN w B (.slice none 0 0) [] := World.ownsRow_nil w B 3 1
theorem OwnN.ints {w : World} {B : Nat} {sv : Value} {l : List Int} (h : OwnN w B sv l) : IntsAt w sv l := by
  rcases h.2 with ⟨rfl, h0⟩ | ⟨g, cap, cur, rfl, hb, hg, hn, hm, hs, ht⟩
  · have : l = [] := List.eq_nil_of_length_eq_zero h0
    subst this
    exact IntsAt.nil _ _ _
  · refine ⟨_, cap, rfl, fun i x hx => ⟨g, 0, rfl, ?_⟩⟩
    rw [Nat.zero_add, World.ownsRow.cellAt h i (by have := (List.getElem?_eq_some_iff.1 hx).1; omega), List.getElem?_map, hx]
    rfl
theorem OwnN.lt {w : World} {B : Nat} {sv : Value} {l : List Int} (h : OwnN w B sv l) : ∀ k, sv.ownBlock = some k → B ≤ k ∧ k < w.heap.size := World.ownsRow.lt h
theorem OwnN.below {w w' : World} {B : Nat} {sv : Value} {l : List Int} (h : OwnN w B sv l) (hb : Below w.heap.size w w') : OwnN w' B sv l := by
  refine ⟨h.1, ?_⟩
  rcases h.2 with hn | ⟨g, cap, cur, e, hB, hg, r⟩
  · exact .inl hn
  · exact .inr ⟨g, cap, cur, e, hB, (hb.block g (Array.getElem?_eq_some_iff.1 hg).1).trans hg, r⟩
theorem OwnN.mono {w : World} {B C : Nat} {sv : Value} {l : List Int} (h : OwnN w B sv l) (hc : C ≤ B) : OwnN w C sv l := World.ownsRow.mono h hc
theorem inf3 : ∃ i, Try.prog.info? 3 = some i ∧ i.zero = some (.int .i64 0) ∧ i.size = 1 ∧ i.bytes = 8 := by
  have := info3z
  cases hq : Try.prog.info? 3 with
  | none => simp [hq] at this
  | some i => simp [hq] at this; exact ⟨i, rfl, this⟩
/-- Ints appended. -/
theorem app_ownN {w : World} {B : Nat} {sv tv : Value} {l m : List Int} (h : OwnN w B sv l) (hB : B ≤ w.heap.size) (k : IntsAt w tv m) (hlen : l.length + m.length ≤ 1000000) (ty : TypeId) :
    ∃ sv' w', (Builtin.append_ #[28, 28] ty #[sv, tv]).run Try.prog w = .ok sv' w' ∧ OwnN w' B sv' (l ++ m) ∧ w.grownBy w' sv.ownBlock := by
  obtain ⟨i, hi, hz, hs, hby⟩ := inf3
  cases m with
  | nil =>
    have hsl : ∃ a c, sv = .slice a l.length c ∧ l.length ≤ c := by
      rcases h.2 with ⟨e, h0⟩ | ⟨g, cap, cur, e, _, _, hn, _⟩
      · exact ⟨none, 0, by rw [e, h0], by omega⟩
      · exact ⟨_, cap, e, hn⟩
    obtain ⟨a, c, rfl, hle⟩ := hsl
    obtain ⟨ta, tc, rfl, _⟩ := k
    refine ⟨_, w, run_append_nothing w 28 28 ty 3 i Try.underlying28 hi a l.length c hle _ ⟨.inl ⟨3, Try.underlying28⟩, fun _ => by rfl, ?_, ?_, by simp, fun u hu => by cases hu⟩, by rw [List.append_nil]; exact h, ⟨rfl, rfl, rfl, Nat.le_refl _, fun _ _ _ => rfl⟩⟩
    · cases ta <;> simp [Builtin.firstCells, hs, loadCells, loadCellsFrom]
    · cases ta <;> simp [Builtin.firstCells, hs, loadCells, loadCellsFrom]
  | cons x m =>
    obtain ⟨b, o, c, rfl, hc⟩ := k.has (by simp)
    obtain ⟨v', w', hr, h2, h3, _⟩ := run_append_own (P := Try.prog) w B 28 ty 3 i (.int .i64 0) 1 8 Try.underlying28 hi hz hs hby rfl (by decide) sv l.length (i64s l) h ⟨b, o, none⟩ (x :: m).length c (i64s (x :: m)) (by simp) (fun j u hu => by
      rw [List.getElem?_map] at hu
      cases hz : (x :: m)[j]? with
      | none => simp [hz] at hu
      | some z =>
        simp [hz] at hu
        subst hu
        rw [show (⟨b, o, none⟩ : Addr).add j = ⟨b, o + j, none⟩ by unfold Addr.add; split <;> simp_all]
        exact hc j z hz) (fun u hu => by obtain ⟨z, _, rfl⟩ := List.mem_map.1 hu; rfl) (by simp only [maxLen]; omega) (by omega) hB
    refine ⟨v', w', hr, ?_, h3⟩
    unfold OwnN
    rw [List.length_append, show i64s (l ++ x :: m) = i64s l ++ i64s (x :: m) by simp]
    exact h2
section
variable {ops : Array Oper} {rest : List Oper} {dst : Option Tmp} {x y : Operand} {t2 : TypeId} {pos : String} {after : Array Edge} {guard : Option (Nat × Bool)} {a : Act} {w : World} {Q : Exit → Act → World → Prop}
theorem app_LN {B : Nat} {sv tv : Value} {l m : List Int} (h : OwnN w B sv l) (hB : B ≤ w.heap.size) (k : IntsAt w tv m) (hlen : l.length + m.length ≤ 1000000) (hx : a.eval x = sv) (hy : a.eval y = tv)
    (hw : Region.wanted ⟨dst, .call { callee := .builtin .append, args := #[x, y], argTypes := #[28, 28] }, t2, pos, after, guard⟩ (yielded ops a.tmps) = true)
    (hh : ∀ sv' w', OwnN w' B sv' (l ++ m) → Below B w w' → wpList Try.prog ops Q rest (a.put dst sv') w') : wpList Try.prog ops Q (⟨dst, .call { callee := .builtin .append, args := #[x, y], argTypes := #[28, 28] }, t2, pos, after, guard⟩ :: rest) a w := by
  obtain ⟨sv', w', hr, ho, hg⟩ := app_ownN h hB k hlen t2
  exact wpList_run sv' w' hw (exec_app a.eval _ x y 28 28 rfl sv tv sv' hx hy hr) (hh sv' w' ho (grown_below hg hB fun k hk => (h.lt k hk).1))
end
theorem app_WN {B : Nat} {sv tv : Value} {l m : List Int} {o : Oper} {a : Act} {w : World} {K : Act → World → Prop} {Q : Exit → Act → World → Prop} (x y : Operand) (dst : Option Tmp) (hd : o.dst = dst) (ho : o.op = .call { callee := .builtin .append, args := #[x, y], argTypes := #[28, 28] })
    (h : OwnN w B sv l) (hB : B ≤ w.heap.size) (k : IntsAt w tv m) (hlen : l.length + m.length ≤ 1000000) (hx : a.eval x = sv) (hy : a.eval y = tv)
    (hh : ∀ sv' w', OwnN w' B sv' (l ++ m) → Below B w w' → K (a.put dst sv') w') : o.wp Try.prog a w K Q := by
  obtain ⟨sv', w', hr, hO, hg⟩ := app_ownN h hB k hlen o.type
  exact wp_runTo dst hd sv' w' (exec_app a.eval o x y 28 28 ho sv tv sv' hx hy hr) (hh sv' w' hO (grown_below hg hB fun k hk => (h.lt k hk).1))
theorem OwnN.lit (w : World) (B : Nat) (hB : B ≤ w.heap.size) (l : List Int) (hl : l.length ≤ 1000000) (cs : Array Value) (hc : cs = (i64s l).toArray) : OwnN (w.alloc (.cells cs 3)) B (.slice (some ⟨w.heap.size, 0, none⟩) l.length l.length) l := by
  subst hc
  exact ⟨by simp, .inr ⟨w.heap.size, l.length, _, rfl, hB, heap_alloc_new w _, Nat.le_refl _, by simp only [maxLen]; omega, by simp, List.take_of_length_le (by simp)⟩⟩
theorem OwnN.set {w : World} {B g n cap : Nat} {l : List Int} (h : OwnN w B (.slice (some ⟨g, 0, none⟩) n cap) l) (i : Nat) (v : Int) (hi : i < l.length) : OwnN (w.setCell ⟨g, i, none⟩ (.int .i64 v)) B (.slice (some ⟨g, 0, none⟩) n cap) (l.set i v) := by
  rcases h.2 with ⟨e, _⟩ | ⟨g', cap', cur, e, hb, hg, hn, hm, hs, ht⟩
  · cases e
  · cases e
    refine ⟨by simp, .inr ⟨g, cap, cur.setIfInBounds i (.int .i64 v), by rw [List.length_set], hb, ?_, by rw [List.length_set]; exact hn, hm, by simpa using hs, ?_⟩⟩
    · rw [heap_setCell_same w g i cur 3 (.int .i64 v) hg]
    · have e2 : (cur.setIfInBounds i (.int .i64 v)).toList = cur.toList.set i (.int .i64 v) := by simp
      rw [e2, List.length_set, List.take_set, ht]
      simp
/-- A slice of sectors. -/
def SecsAt (w : World) (sv : Value) (l : List (List Int)) : Prop := ∃ a cap, sv = .slice a l.length cap ∧ l.length ≤ cap ∧ ∀ i y, l[i]? = some y → Sc y ∧ ∃ g o, a = some ⟨g, o, none⟩ ∧ At w g (o + i * 64) (u8s y).toArray
theorem Sc.size {y : List Int} (h : Sc y) : (u8s y).toArray.size = 64 := by rw [u8s_size, h.length]
theorem SecsAt.below {w w' : World} {sv : Value} {l : List (List Int)} (h : SecsAt w sv l) (hb : Below w.heap.size w w') : SecsAt w' sv l := by
  obtain ⟨a, cap, e, hcap, hc⟩ := h
  refine ⟨a, cap, e, hcap, fun i x hx => ?_⟩
  obtain ⟨h1, g, o, h3, h4⟩ := hc i x hx
  exact ⟨h1, g, o, h3, h4.below hb (h4.lt (by rw [h1.size]; decide))⟩
theorem SecsAt.nil (w : World) (a : Option Addr) (cap : Nat) : SecsAt w (.slice a 0 cap) [] := ⟨a, cap, rfl, Nat.zero_le _, fun i x h => by simp at h⟩
theorem SecsAt.sc {w : World} {sv : Value} {l : List (List Int)} (h : SecsAt w sv l) : ∀ y ∈ l, Sc y := fun y hy => by
  obtain ⟨a, cap, e, -, hc⟩ := h
  obtain ⟨i, hi⟩ := List.getElem?_of_mem hy
  exact (hc i y hi).1
theorem SecsAt.has {w : World} {sv : Value} {l : List (List Int)} (h : SecsAt w sv l) (hl : 0 < l.length) : ∃ g o cap, sv = .slice (some ⟨g, o, none⟩) l.length cap ∧ l.length ≤ cap ∧ g < w.heap.size ∧ ∀ i y, l[i]? = some y → Sc y ∧ At w g (o + i * 64) (u8s y).toArray := by
  obtain ⟨a, cap, e, hcap, hc⟩ := h
  obtain ⟨h1, g, o, h3, h4⟩ := hc 0 l[0] (by simp [hl])
  refine ⟨g, o, cap, by rw [e, h3], hcap, h4.lt (by rw [h1.size]; decide), fun i x hx => ?_⟩
  obtain ⟨k1, g', o', k3, k4⟩ := hc i x hx
  rw [h3] at k3
  cases k3
  exact ⟨k1, k4⟩
/-- What stands behind a place of a slice, and ahead of another. -/
theorem SecsAt.part {w : World} {g o n cap : Nat} {l : List (List Int)} (h : SecsAt w (.slice (some ⟨g, o, none⟩) n cap) l) (a k : Nat) (hk : a + k ≤ l.length) (m : List (List Int)) (hm : m = (l.drop a).take k) : SecsAt w (.slice (some ⟨g, o + a * 64, none⟩) k (cap - a)) m := by
  subst hm
  obtain ⟨a', cap', e, hcap, hc⟩ := h
  have hlen : ((l.drop a).take k).length = k := by simp; omega
  cases e
  refine ⟨_, _, by rw [hlen], by rw [hlen]; omega, fun i x hx => ?_⟩
  have hik : i < k := by have := (List.getElem?_eq_some_iff.1 hx).1; omega
  have hx2 : l[a + i]? = some x := by
    rw [List.getElem?_take, if_pos hik, List.getElem?_drop] at hx
    exact hx
  obtain ⟨k1, g', o', k3, k4⟩ := hc _ x hx2
  cases k3
  refine ⟨k1, g, o + a * 64, rfl, ?_⟩
  rw [show o + a * 64 + i * 64 = o + (a + i) * 64 by omega]
  exact k4
def secCells (l : List (List Int)) : List Value := l.flatMap u8s
theorem secCells_length {l : List (List Int)} (h : ∀ y ∈ l, Sc y) : (secCells l).length = l.length * 64 := by
  induction l with
  | nil => rfl
  | cons x r ih =>
    have h1 := ih fun y hy => h y (List.mem_cons_of_mem _ hy)
    have h2 := (h x (by simp)).length
    simp only [secCells, List.flatMap_cons, List.length_append, List.length_cons, List.length_map] at h1 h2 ⊢
    omega
theorem secCells_at {l : List (List Int)} (h : ∀ y ∈ l, Sc y) {i j : Nat} (hj : j < 64) : (secCells l)[i * 64 + j]? = (l[i]?).bind fun y => (u8s y)[j]? := by
  induction l generalizing i with
  | nil => simp [secCells]
  | cons x r ih =>
    have hl : (u8s x).length = 64 := by rw [List.length_map, (h x (by simp)).length]
    have ih := fun {i} => ih (i := i) fun y hy => h y (List.mem_cons_of_mem _ hy)
    simp only [secCells, List.flatMap_cons] at ih ⊢
    cases i with
    | zero =>
      rw [Nat.zero_mul, Nat.zero_add, List.getElem?_append_left (by omega)]
      rfl
    | succ i =>
      rw [List.getElem?_append_right (by omega), hl, show (i + 1) * 64 + j - 64 = i * 64 + j by omega, ih]
      rfl
theorem secCells_one (l : List (List Int)) : ∀ v ∈ secCells l, v.oneCell' = true := fun v hv => by
  obtain ⟨x, hx, hv⟩ := List.mem_flatMap.1 hv
  obtain ⟨z, _, rfl⟩ := List.mem_map.1 hv
  rfl
/-- Sectors of one's own: their row was made from B on. -/
structure OwnS (w : World) (B : Nat) (sv : Value) (l : List (List Int)) : Prop where
  row : w.ownsRow B 50 64 sv l.length (secCells l)
  all : ∀ y ∈ l, Sc y
theorem OwnS.nil (w : World) (B : Nat) : OwnS w B (.slice none 0 0) [] := ⟨World.ownsRow_nil w B 50 64, fun x hx => by cases hx⟩
theorem OwnS.secs {w : World} {B : Nat} {sv : Value} {l : List (List Int)} (h : OwnS w B sv l) : SecsAt w sv l := by
  have hr := h.row
  rcases hr.2 with ⟨rfl, h0⟩ | ⟨g, cap, cur, rfl, hb, hg, hn, hm, hs, ht⟩
  · have : l = [] := List.eq_nil_of_length_eq_zero h0
    subst this
    exact SecsAt.nil _ _ _
  · refine ⟨_, cap, rfl, hn, fun i x hx => ?_⟩
    have h1 := h.all x (List.mem_of_getElem? hx)
    refine ⟨h1, g, 0, rfl, fun j hj => ?_⟩
    have hi := (List.getElem?_eq_some_iff.1 hx).1
    rw [h1.size] at hj
    rw [Nat.zero_add, World.ownsRow.cellAt hr (i * 64 + j) (by omega), secCells_at h.all hj, hx]
    show (u8s x)[j]? = _
    rw [List.getElem?_eq_getElem (by rw [List.length_map, h1.length]; exact hj)]
    rfl
theorem OwnS.lt {w : World} {B : Nat} {sv : Value} {l : List (List Int)} (h : OwnS w B sv l) : ∀ k, sv.ownBlock = some k → B ≤ k ∧ k < w.heap.size := World.ownsRow.lt h.row
theorem OwnS.len {w : World} {B : Nat} {sv : Value} {l : List (List Int)} (h : OwnS w B sv l) : ∃ a c, sv = .slice a l.length c ∧ l.length ≤ c := by
  rcases h.row.2 with ⟨e, h0⟩ | ⟨g, cap, cur, e, _, _, hn, _⟩
  · exact ⟨none, 0, by rw [e, h0], by omega⟩
  · exact ⟨_, cap, e, hn⟩
theorem OwnS.below {w w' : World} {B : Nat} {sv : Value} {l : List (List Int)} (h : OwnS w B sv l) (hb : Below w.heap.size w w') : OwnS w' B sv l := by
  refine ⟨⟨h.row.1, ?_⟩, h.all⟩
  rcases h.row.2 with hn | ⟨g, cap, cur, e, hB, hg, r⟩
  · exact .inl hn
  · exact .inr ⟨g, cap, cur, e, hB, (hb.block g (Array.getElem?_eq_some_iff.1 hg).1).trans hg, r⟩
theorem OwnS.mono {w : World} {B C : Nat} {sv : Value} {l : List (List Int)} (h : OwnS w B sv l) (hc : C ≤ B) : OwnS w C sv l := ⟨World.ownsRow.mono h.row hc, h.all⟩
/-- A row of such a type is a slice's own. -/
def RowOf (w : World) (t : TypeId) (row : Option Nat) : Prop := ∀ k, row = some k → ∃ cur fz, w.heap[k]? = some (Obj.cells cur t fz)
theorem ownsRow_type {w : World} {B : Nat} {e : TypeId} {s n : Nat} {sv : Value} {xs : List Value} (h : w.ownsRow B e s sv n xs) : RowOf w e sv.ownBlock := fun k hk => by
  rcases h.2 with ⟨rfl, _⟩ | ⟨g, cap, cur, rfl, _, hg, _⟩
  · cases hk
  · cases hk
    exact ⟨cur, _, hg⟩
theorem ownsRow_keep {w w' : World} {B : Nat} {e t : TypeId} {s n : Nat} {sv : Value} {xs : List Value} {row : Option Nat} (h : w.ownsRow B e s sv n xs) (hg : w.grownBy w' row) (ht : RowOf w t row) (hne : t ≠ e) : w'.ownsRow B e s sv n xs := by
  refine ⟨h.1, ?_⟩
  rcases h.2 with hn | ⟨g, cap, cur, e1, hB, hgg, r⟩
  · exact .inl hn
  · refine .inr ⟨g, cap, cur, e1, hB, (hg.block g (Array.getElem?_eq_some_iff.1 hgg).1 fun hk => ?_).trans hgg, r⟩
    obtain ⟨cur2, fz2, h2⟩ := ht g hk.symm
    rw [hgg] at h2
    cases h2
    exact hne rfl
theorem OwnS.keep {w w' : World} {B : Nat} {t : TypeId} {sv : Value} {l : List (List Int)} {row : Option Nat} (h : OwnS w B sv l) (hg : w.grownBy w' row) (ht : RowOf w t row) (hne : t ≠ 50) : OwnS w' B sv l := ⟨ownsRow_keep h.row hg ht hne, h.all⟩
theorem OwnN.keep {w w' : World} {B : Nat} {t : TypeId} {sv : Value} {l : List Int} {row : Option Nat} (h : OwnN w B sv l) (hg : w.grownBy w' row) (ht : RowOf w t row) (hne : t ≠ 3) : OwnN w' B sv l := ownsRow_keep h hg ht hne
theorem info50a : (Try.prog.info? 50).map (fun i => (i.size, i.bytes)) = some (64, 64) := by kernel_rfl
theorem zero50b : (Try.prog.info? 50).bind (·.zero) = some (.agg (u8s (zeros 64)).toArray) := by kernel_rfl
theorem inf50 : ∃ i, Try.prog.info? 50 = some i ∧ i.zero = some (.agg (u8s (zeros 64)).toArray) ∧ i.size = 64 ∧ i.bytes = 64 := by
  have h1 := info50a
  have h2 := zero50b
  cases hq : Try.prog.info? 50 with
  | none => simp [hq] at h1
  | some i => simp [hq] at h1 h2; exact ⟨i, rfl, by simpa using h2, h1⟩
theorem sec_cells {w : World} {b o : Nat} {m : List (List Int)} (hw : ∀ y ∈ m, Sc y) (hc : ∀ i y, m[i]? = some y → At w b (o + i * 64) (u8s y).toArray) (j : Nat) (u : Value) (hu : (secCells m)[j]? = some u) : w.cell? ((⟨b, o, none⟩ : Addr).add j) = some u := by
  rw [show (⟨b, o, none⟩ : Addr).add j = ⟨b, o + j, none⟩ by unfold Addr.add; split <;> simp_all]
  have e : j = j / 64 * 64 + j % 64 := by omega
  have hj : j % 64 < 64 := Nat.mod_lt _ (by decide)
  rw [e, secCells_at hw hj] at hu
  obtain ⟨x, hx, hu⟩ := Option.bind_eq_some_iff.1 hu
  have h1 := hc _ x hx (j % 64) (by rw [(hw x (List.mem_of_getElem? hx)).size]; exact hj)
  rw [show o + j / 64 * 64 + j % 64 = o + j by omega] at h1
  rw [h1, ← hu]
  rw [List.getElem?_eq_getElem (by rw [List.length_map, (hw x (List.mem_of_getElem? hx)).length]; exact hj)]
  rfl
theorem zeros_sc : Sc (zeros 64) := ⟨zeros_length 64, zeros_byte 64⟩
/-- Sectors appended. -/
theorem app_ownS {w : World} {B : Nat} {sv tv : Value} {l m : List (List Int)} (h : OwnS w B sv l) (hB : B ≤ w.heap.size) (k : SecsAt w tv m) (hlen : l.length + m.length ≤ 100000) (ty : TypeId) :
    ∃ sv' w', (Builtin.append_ #[24, 24] ty #[sv, tv]).run Try.prog w = .ok sv' w' ∧ OwnS w' B sv' (l ++ m) ∧ w.grownBy w' sv.ownBlock := by
  obtain ⟨i, hi, hz, hs, hby⟩ := inf50
  cases m with
  | nil =>
    obtain ⟨a, c, rfl, hle⟩ := h.len
    obtain ⟨ta, tc, rfl, _⟩ := k
    refine ⟨_, w, run_append_nothing w 24 24 ty 50 i Try.underlying24 hi a l.length c hle _ ⟨.inl ⟨50, Try.underlying24⟩, fun _ => by rfl, ?_, ?_, by simp, fun u hu => by cases hu⟩, by rw [List.append_nil]; exact h, ⟨rfl, rfl, rfl, Nat.le_refl _, fun _ _ _ => rfl⟩⟩
    · cases ta <;> simp [Builtin.firstCells, hs, loadCells, loadCellsFrom]
    · cases ta <;> simp [Builtin.firstCells, hs, loadCells, loadCellsFrom]
  | cons x m =>
    obtain ⟨b, o, c, rfl, hcap, hbl, hc⟩ := k.has (by simp)
    have hw : ∀ y ∈ x :: m, Sc y := k.sc
    obtain ⟨v', w', hr, h2, h3, _⟩ := run_append_own (P := Try.prog) w B 24 ty 50 i (.agg (u8s (zeros 64)).toArray) 64 64 Try.underlying24 hi hz hs hby (zeros_sc.size) (by decide) sv l.length (secCells l) h.row ⟨b, o, none⟩ (x :: m).length c (secCells (x :: m)) (secCells_length hw) (sec_cells hw fun j y hj => (hc j y hj).2) (secCells_one _) (by simp only [maxLen]; omega) (by omega) hB
    refine ⟨v', w', hr, ⟨?_, fun y hy => ?_⟩, h3⟩
    · rw [List.length_append, show secCells (l ++ x :: m) = secCells l ++ secCells (x :: m) from List.flatMap_append]
      exact h2
    · rcases List.mem_append.1 hy with hy | hy
      · exact h.all y hy
      · exact hw y hy
/-- A slice's literal of one sector. -/
theorem run_litS (w : World) (y : List Int) (hy : Sc y) : (Instr.buildSlice 24 1 #[(0, Value.agg (u8s y).toArray)]).run Try.prog w = .ok (.slice (some ⟨w.heap.size, 0, none⟩) 1 1) (w.alloc (.cells (secCells [y]).toArray 50)) := by
  obtain ⟨i, hi, hz, hs, -⟩ := inf50
  have hv : ∀ v ∈ [Value.agg (u8s y).toArray], v.cells.size = 64 := fun v hv => by
    obtain rfl := List.mem_singleton.1 hv
    exact hy.size
  obtain ⟨r, hr, hrs, hk⟩ := Go.Great.fill_dense (s := 64) (by decide) [Value.agg (u8s y).toArray] 0 ((Array.range (1 * 64)).map fun k => (Value.agg (u8s (zeros 64)).toArray).cells[k % (Value.agg (u8s (zeros 64)).toArray).cells.size]!) hv (by simp)
  have hcells : r = (secCells [y]).toArray := by
    apply Array.ext_getElem?
    intro k
    rw [hk k]
    simp only [List.length_cons, List.length_nil, Nat.zero_add, Nat.zero_mul, Nat.zero_le, true_and, Nat.sub_zero, List.getElem?_toArray, Nat.one_mul]
    by_cases h : k < 64
    · rw [if_pos h]
      have e0 : k / 64 = 0 := by omega
      have e1 : k % 64 = k := by omega
      simp only [e0, e1, List.getElem?_cons_zero, Option.bind_some]
      simp [secCells, Value.cells]
    · rw [if_neg h, List.getElem?_eq_none (by rw [secCells_length (fun z hz => by obtain rfl := List.mem_singleton.1 hz; exact hy)]; simp; omega)]
      simp
      omega
  rw [← hcells]
  refine Go.run_buildSlice (P := Try.prog) w 24 50 1 _ r i _ Try.underlying24 hi hz (by rw [hs]; omega) (by rw [hs]; omega) ?_
  rw [hs]
  simpa using hr
theorem litS_secs {w : World} {y : List Int} (hy : Sc y) : SecsAt (w.alloc (.cells (secCells [y]).toArray 50)) (.slice (some ⟨w.heap.size, 0, none⟩) 1 1) [y] := by
  refine ⟨_, 1, rfl, Nat.le_refl _, fun i x hx => ?_⟩
  cases i with
  | succ i => simp at hx
  | zero =>
    simp only [List.getElem?_cons_zero, Option.some.injEq] at hx
    subst hx
    refine ⟨hy, w.heap.size, 0, rfl, fun j hj => ?_⟩
    have hb := Blk.new w (secCells [y]).toArray 50
    have e : (secCells [y]).toArray.toList = u8s y := by simp [secCells]
    rw [e] at hb
    rw [Nat.zero_mul, Nat.add_zero, Nat.zero_add]
    exact hb.cell (by simp only [List.size_toArray] at hj; simp [hj])
section
variable {ops : Array Oper} {rest : List Oper} {dst : Option Tmp} {x y : Operand} {t2 : TypeId} {pos : String} {after : Array Edge} {guard : Option (Nat × Bool)} {a : Act} {w : World} {Q : Exit → Act → World → Prop}
theorem app_LS {B : Nat} {sv tv : Value} {l m : List (List Int)} (h : OwnS w B sv l) (hB : B ≤ w.heap.size) (k : SecsAt w tv m) (hlen : l.length + m.length ≤ 100000) (hx : a.eval x = sv) (hy : a.eval y = tv)
    (hw : Region.wanted ⟨dst, .call { callee := .builtin .append, args := #[x, y], argTypes := #[24, 24] }, t2, pos, after, guard⟩ (yielded ops a.tmps) = true)
    (hh : ∀ sv' w', OwnS w' B sv' (l ++ m) → w.grownBy w' sv.ownBlock → wpList Try.prog ops Q rest (a.put dst sv') w') : wpList Try.prog ops Q (⟨dst, .call { callee := .builtin .append, args := #[x, y], argTypes := #[24, 24] }, t2, pos, after, guard⟩ :: rest) a w := by
  obtain ⟨sv', w', hr, ho, hg⟩ := app_ownS h hB k hlen t2
  exact wpList_run sv' w' hw (exec_app a.eval _ x y 24 24 rfl sv tv sv' hx hy hr) (hh sv' w' ho hg)
theorem app_LNg {B : Nat} {sv tv : Value} {l m : List Int} (h : OwnN w B sv l) (hB : B ≤ w.heap.size) (k : IntsAt w tv m) (hlen : l.length + m.length ≤ 1000000) (hx : a.eval x = sv) (hy : a.eval y = tv)
    (hw : Region.wanted ⟨dst, .call { callee := .builtin .append, args := #[x, y], argTypes := #[28, 28] }, t2, pos, after, guard⟩ (yielded ops a.tmps) = true)
    (hh : ∀ sv' w', OwnN w' B sv' (l ++ m) → w.grownBy w' sv.ownBlock → wpList Try.prog ops Q rest (a.put dst sv') w') : wpList Try.prog ops Q (⟨dst, .call { callee := .builtin .append, args := #[x, y], argTypes := #[28, 28] }, t2, pos, after, guard⟩ :: rest) a w := by
  obtain ⟨sv', w', hr, ho, hg⟩ := app_ownN h hB k hlen t2
  exact wpList_run sv' w' hw (exec_app a.eval _ x y 28 28 rfl sv tv sv' hx hy hr) (hh sv' w' ho hg)
theorem lit_LS {s : List Int} (hs : Sc s) (hx : a.eval x = .agg (u8s s).toArray)
    (hw : Region.wanted ⟨dst, .buildSlice 24 1 #[(0, x)], t2, pos, after, guard⟩ (yielded ops a.tmps) = true)
    (hh : ∀ w', SecsAt w' (.slice (some ⟨w.heap.size, 0, none⟩) 1 1) [s] → Below w.heap.size w w' → wpList Try.prog ops Q rest (a.put dst (.slice (some ⟨w.heap.size, 0, none⟩) 1 1)) w') : wpList Try.prog ops Q (⟨dst, .buildSlice 24 1 #[(0, x)], t2, pos, after, guard⟩ :: rest) a w :=
  wpList_run _ _ hw (exec_buildSlice _ _ a.eval _ 24 1 _ rfl #[(0, .agg (u8s s).toArray)] (by simp [hx]) _ (run_litS w s hs)) (hh _ (litS_secs hs) ((Below.refl _ _).alloc (Nat.le_refl _) _))
end
theorem IntsAt.form {w : World} {sv : Value} {l : List Int} (h : IntsAt w sv l) : ∃ a cap, sv = .slice a l.length cap := let ⟨a, cap, h, _⟩ := h; ⟨a, cap, h⟩

end Go.Proofs.Ytbhaifdhmfmeoaa
