/- What the fields of a sector say: the contract of the function that reads them. -/
import Derived.Test.YtbhaifdhmfmeoaaEnc
namespace Go.Proofs.Ytbhaifdhmfmeoaa
set_option linter.unusedSimpArgs false
set_option linter.unusedVariables false
open Go.RowKit

/-- A slice whose values were made behind the block B. -/
def Fresh (B : Nat) (sv : Value) : Prop := ∀ b o n c, sv = .slice (some ⟨b, o, none⟩) n c → B ≤ b
theorem Fresh.nil (B : Nat) : Fresh B (.slice none 0 0) := fun _ _ _ _ h => by cases h
abbrev nilv : Value := .slice none 0 0
theorem zero57b : (Try.prog.info? 57).bind (·.zero) = some (.agg (Bk.none.arr nilv)) := by kernel_rfl
theorem built57k (k i : Int) : Try.prog.built 57 [(0, .int .i64 k), (1, .int .i64 i)] = some (Bk.arr ⟨k, i, zeros 32, 0, [], 0, zeros 8⟩ nilv) := by kernel_rfl
theorem build57k (k i : Int) (w : World) : (Instr.build 57 #[(0, .int .i64 k), (1, .int .i64 i)]).run Try.prog w = .ok (.agg (Bk.arr ⟨k, i, zeros 32, 0, [], 0, zeros 8⟩ nilv)) w := run_build w 57 _ _ (built57k k i)
theorem sc_cell {s : List Int} (h : Sc s) {i : Nat} (hi : i < 64) : (u8s s)[i]? = some (.int .u8 (s.getD i 0)) := by
  rw [List.getElem?_map, List.getD_eq_getElem?_getD, List.getElem?_eq_getElem (by rw [h.length]; exact hi)]
  rfl
theorem sc_byte {s : List Int} (h : Sc s) (i : Nat) : 0 ≤ s.getD i 0 ∧ s.getD i 0 < 256 := by
  rw [List.getD_eq_getElem?_getD]
  cases e : s[i]? with
  | none => exact ⟨by decide, by decide⟩
  | some x => exact h.bytes x (List.mem_of_getElem? e)
theorem cells_one (b : Bk) (a : Option Addr) (n cap : Nat) : ∀ v ∈ b.arr (.slice a n cap), v.oneCell' = true := fun v hv => by
  simp only [Bk.arr, Bk.cells, List.mem_toArray, List.mem_cons, List.mem_append, List.mem_map] at hv
  rcases hv with rfl | rfl | ⟨z, _, rfl⟩ | rfl | rfl | rfl | ⟨z, _, rfl⟩ <;> rfl
theorem byte_small {x : Int} (h : 0 ≤ x ∧ x < 256) : Small x := ⟨by omega, by omega⟩

/-- A sector in a variable (g), the result's variable (r), the block's (t), all made behind W. -/
structure RT (W w : World) (g r t : Nat) (s : List Int) (b : Bk) (sv : Value) : Prop where
  sec : Blk w g (u8s s)
  res : Blk w r (Bk.none.cells nilv)
  blk : Blk w t (b.cells sv)
  bel : Below W.heap.size W w
  g0 : W.heap.size ≤ g
  gr : g < r
  rt : r < t
theorem RT.below {W w w' : World} {g r t : Nat} {s : List Int} {b : Bk} {sv : Value} (h : RT W w g r t s b sv) (hb : Below w.heap.size w w') : RT W w' g r t s b sv :=
  ⟨h.sec.below hb h.sec.lt, h.res.below hb h.res.lt, h.blk.below hb h.blk.lt, h.bel.trans (hb.mono h.bel.size), h.g0, h.gr, h.rt⟩
theorem RT.drew {W w : World} {g r t : Nat} {s : List Int} {b : Bk} {sv : Value} (h : RT W w g r t s b sv) : RT W w.drew g r t s b sv := h.below (Below.refl _ _).drew
theorem RT.put {W w w' : World} {g r t : Nat} {s : List Int} {b c : Bk} {sv cv : Value} (h : RT W w g r t s b sv) (hs : Blk w' t (c.cells cv)) (ho : Only (fun k => k = t) w w') : RT W w' g r t s c cv :=
  ⟨h.sec.only ho (by have := h.gr; have := h.rt; omega), h.res.only ho (by have := h.rt; omega), hs, h.bel.trans (ho.below h.bel.size (fun k hk => by have := h.g0; have := h.gr; have := h.rt; omega)), h.g0, h.gr, h.rt⟩
theorem RT.set {W w : World} {g r t : Nat} {s : List Int} {b c : Bk} {sv cv : Value} (h : RT W w g r t s b sv) (i : Nat) (x : Value) (e : (b.cells sv).set i x = c.cells cv) : RT W (w.setCell ⟨t, i, none⟩ x) g r t s c cv :=
  h.put (by have := h.blk.set i x; rwa [e] at this) ((Only.refl (fun k => k = t) w).setCell (p := ⟨t, i, none⟩) (.inl rfl) _)
theorem RT.seg {W w : World} {g r t : Nat} {s : List Int} {b : Bk} {sv : Value} (h : RT W w g r t s b sv) (o n : Nat) (j : Nat) (v : Int) (hv : ((s.drop o).take n)[j]? = some v) : w.cell? ⟨g, o + j, none⟩ = some (.int .u8 v) := h.sec.cell (by
  have hj : j < n := by
    have := (List.getElem?_eq_some_iff.1 hv).1
    simp at this
    omega
  rw [List.getElem?_take_of_lt hj, List.getElem?_drop] at hv
  rw [List.getElem?_map, hv]
  rfl)
theorem cells_set34 (b : Bk) (hp : b.page.length = 32) (sv : Value) (x : Int) : (b.cells sv).set 34 (.int .i64 x) = Bk.cells { b with off := x } sv := by
  unfold Bk.cells
  simp only [List.set_cons_succ]
  rw [List.set_append_right _ _ (by simp [hp])]
  simp [hp]
theorem cells_set35 (b : Bk) (hp : b.page.length = 32) (sv cv : Value) (l : List Int) : (b.cells sv).set 35 cv = Bk.cells { b with bytes := l } cv := by
  unfold Bk.cells
  simp only [List.set_cons_succ]
  rw [List.set_append_right _ _ (by simp [hp])]
  simp [hp]
theorem cells_set36 (b : Bk) (hp : b.page.length = 32) (sv : Value) (x : Int) : (b.cells sv).set 36 (.int .i64 x) = Bk.cells { b with prev := x } sv := by
  unfold Bk.cells
  simp only [List.set_cons_succ]
  rw [List.set_append_right _ _ (by simp [hp])]
  simp [hp]
theorem cells_setH (b : Bk) (hp : b.page.length = 32) (sv : Value) (k : Nat) (x : Int) : (b.cells sv).set (37 + k) (.int .i64 x) = Bk.cells { b with heads := b.heads.set k x } sv := by
  unfold Bk.cells
  rw [show 37 + k = (k + 35) + 1 + 1 by omega]
  simp only [List.set_cons_succ]
  rw [List.set_append_right _ _ (by simp [hp])]
  simp only [List.length_map, hp]
  rw [show k + 35 - 32 = k + 1 + 1 + 1 by omega]
  simp only [List.set_cons_succ, List.map_set]
theorem cells_page (b : Bk) (hp : b.page.length = 32) (sv : Value) (l : List Int) (hl : l.length = 32) : lay (b.cells sv) 2 l = Bk.cells { b with page := l } sv := by
  unfold Bk.cells lay
  simp [hl, hp]
theorem cell_at34 (b : Bk) (hp : b.page.length = 32) (sv : Value) (k : Nat) : (b.cells sv)[34 + k]? = (.int .i64 b.off :: sv :: .int .i64 b.prev :: i64s b.heads)[k]? := by
  unfold Bk.cells
  rw [show 34 + k = (32 + k) + 1 + 1 by omega]
  simp only [List.getElem?_cons_succ]
  rw [List.getElem?_append_right (by simp [hp])]
  simp only [List.length_map, hp]
  congr 1
  omega
theorem made_zeros (n : Nat) : (madeCells (#[.int .u8 0] : Array Value) n).toList = u8s (zeros n) := by
  unfold madeCells
  apply List.ext_getElem?
  intro i
  by_cases h : i < n <;> simp [zeros, h, Nat.mod_one]
section
variable {ops : Array Oper} {rest : List Oper} {dst : Option Tmp} {x : Operand} {t2 : TypeId} {pos : String} {after : Array Edge} {guard : Option (Nat × Bool)} {a : Act} {w : World} {Q : Exit → Act → World → Prop}
theorem make_g {y : Operand} {n : Nat} (hx : a.eval x = .int .i64 n) (hy : a.eval y = .int .i64 n) (hn : n < 256) (hw : Region.wanted ⟨dst, .makeSlice 54 x y, t2, pos, after, guard⟩ (yielded ops a.tmps) = true)
    (h : ∀ wX, Blk wX w.heap.size (u8s (zeros n)) → Below w.heap.size w wX → w.heap.size < wX.heap.size → wpList Try.prog ops Q rest (a.put dst (.slice (some ⟨w.heap.size, 0, none⟩) n n)) wX) : wpList Try.prog ops Q (⟨dst, .makeSlice 54 x y, t2, pos, after, guard⟩ :: rest) a w := by
  obtain ⟨i, hi, hz, hs, hb⟩ : ∃ i, Try.prog.info? 5 = some i ∧ i.zero = some (.int .u8 0) ∧ i.size = 1 ∧ i.bytes = 1 := by
    have := info5
    cases hq : Try.prog.info? 5 with
    | none => simp [hq] at this
    | some i => simp [hq] at this; exact ⟨i, rfl, this⟩
  have hr := run_makeSlice (P := Try.prog) w 54 5 i (.int .u8 0) Try.underlying54 hi hz .i64 .i64 n n (by omega) (Int.le_refl _) (by rw [hs]; omega) (by rw [hb]; omega) (by omega)
  refine wpList_run _ _ hw ?_ (h _ ?_ ((Below.refl _ _).alloc (Nat.le_refl _) (.cells (madeCells #[.int .u8 0] n) 5)) (by simp))
  · unfold execOp
    simp only [hx, hy, Sem.run_bind, hr, Result.andThen_ok, Sem.run_pure, Int.toNat_natCast, hs, Nat.mul_one]
    rfl
  · have := Blk.new w (madeCells #[.int .u8 0] n) 5
    rwa [made_zeros] at this
end
theorem BytesAt.of_blk {w : World} {m cap : Nat} {l : List Int} (h : Blk w m (u8s l)) : BytesAt w (.slice (some ⟨m, 0, none⟩) l.length cap) l :=
  ⟨_, cap, rfl, fun i x hx => ⟨m, 0, rfl, by rw [Nat.zero_add]; exact h.cell (by rw [List.getElem?_map, hx]; rfl)⟩⟩

set_option maxRecDepth 100000 in
theorem read_oth (s : List Int) (hs : Sc s) (hk : kindOf s ≠ 1 ∧ kindOf s ≠ 2 ∧ kindOf s ≠ 3) (w : World) : Calls Try.prog 67 #[.agg (u8s s).toArray] w fun e w' => ∃ sv, e = .returned (.agg ((readOf s).arr sv)) ∧ BytesAt w' sv (readOf s).bytes ∧ Below w.heap.size w w' ∧ Fresh w.heap.size sv := by
  have HS := Lib.hid hs
  obtain ⟨hi1, hi2⟩ := sc_byte hs 1
  obtain ⟨id, hid⟩ : ∃ i, s.getD 1 0 = i := ⟨_, rfl⟩
  rw [hid] at hi1 hi2
  have HID := Lib.hid hid
  obtain ⟨hk1, hk2, hk3⟩ := hk
  have hk0 := sc_byte hs 0
  rw [show s.getD 0 0 = kindOf s from rfl] at hk0
  go_enter Try.func67, Try.ntmps67
  repeat (first | (with_reducible refine stopR (id := 0) ?_) | go_values | go_skip | go_guarded | go_step | go_upon | go_back)
  refine Stop.mk (wp_region_lit ?_)
  refine box_g rfl rfl ?_
  intro wA hA hB hl
  try simp only [Act.put, List.setIfInBounds_toArray, List.set_cons_succ, List.set_cons_zero]
  refine alloc_g zero57b rfl ?_
  intro wB hR hB2 hl2
  try simp only [Act.put, List.setIfInBounds_toArray, List.set_cons_succ, List.set_cons_zero]
  have hA2 := hA.below hB2 hl
  have hBB := hB.trans (hB2.mono hB.size)
  refine wpList_nil ?_
  repeat (first | (with_reducible refine stopR (id := 1) ?_) | go_values | go_skip | go_guarded | go_step | go_upon | go_back)
  refine Stop.mk (wp_region_lit ?_)
  have c0 : wB.cell? ⟨w.heap.size, 0, none⟩ = some (.int .u8 (kindOf s)) := hA2.cell (sc_cell HS.out (by decide))
  have c1 : wB.cell? ⟨w.heap.size, 1, none⟩ = some (.int .u8 id) := by rw [← HID.out]; exact hA2.cell (sc_cell HS.out (by decide))
  refine takeL (.pointer (some ⟨w.heap.size, 0, none⟩)) rfl (by go_simp) ?_
  try simp only [Act.put, List.setIfInBounds_toArray, List.set_cons_succ, List.set_cons_zero]
  refine takeL (.int .u8 (kindOf s)) rfl (by go_simp) ?_
  try simp only [Act.put, List.setIfInBounds_toArray, List.set_cons_succ, List.set_cons_zero]
  refine takeL (.int .i64 (kindOf s)) rfl (by go_simp; exact wrap64 hk0.1 (by omega)) ?_
  try simp only [Act.put, List.setIfInBounds_toArray, List.set_cons_succ, List.set_cons_zero]
  refine takeL (.pointer (some ⟨w.heap.size, 1, none⟩)) rfl (by go_simp) ?_
  try simp only [Act.put, List.setIfInBounds_toArray, List.set_cons_succ, List.set_cons_zero]
  refine takeL (.int .u8 (id)) rfl (by go_simp) ?_
  try simp only [Act.put, List.setIfInBounds_toArray, List.set_cons_succ, List.set_cons_zero]
  refine takeL (.int .i64 id) rfl (by go_simp; exact wrap64 hi1 (by omega)) ?_
  try simp only [Act.put, List.setIfInBounds_toArray, List.set_cons_succ, List.set_cons_zero]
  refine takeL (.agg (Bk.arr ⟨(kindOf s), id, zeros 32, 0, [], 0, zeros 8⟩ nilv)) rfl (exec_build _ _ _ _ 57 #[(0, .tmp 7), (1, .tmp 10)] rfl #[(0, .int .i64 (kindOf s)), (1, .int .i64 (id))] (by simp only [List.map_toArray, List.map_cons, List.map_nil]; rfl) _ (build57k (kindOf s) (id) _)) ?_
  try simp only [Act.put, List.setIfInBounds_toArray, List.set_cons_succ, List.set_cons_zero]
  refine alloc_g zero57b rfl ?_
  intro wC hC hBC hlC
  try simp only [Act.put, List.setIfInBounds_toArray, List.set_cons_succ, List.set_cons_zero]
  refine store_all hC (by rfl) (by exact info57) (cells_one _ _ _ _) rfl rfl rfl ?_
  intro wD hD hOD hlD
  try simp only [Act.put, List.setIfInBounds_toArray, List.set_cons_succ, List.set_cons_zero]
  have hBD := hBC.trans (hOD.below hBC.size (fun k hk => Nat.le_of_eq hk.symm))
  have H1 : Hid (RT w wD w.heap.size wA.heap.size wB.heap.size s ⟨(kindOf s), id, zeros 32, 0, [], 0, zeros 8⟩ nilv) := Lib.hid
    ⟨hA2.below hBD hA2.lt, hR.below hBD hR.lt, hD, hBB.trans (hBD.mono hBB.size), Nat.le_refl _, hl, hl2⟩
  clear c0 c1 hA hB hl hR hB2 hl2 hA2 hBB hC hBC hlC hD hOD hlD hBD
  generalize hgg : w.heap.size = g at *
  generalize wA.heap.size = r at *
  generalize wB.heap.size = t at *
  have HGG := Lib.hid hgg
  clear hgg wA wB wC
  have ck : wD.cell? ⟨t, 0, none⟩ = some (.int .i64 (kindOf s)) := H1.out.blk.cell rfl
  refine wpList_nil ?_
  repeat (first | (with_reducible refine stopR (id := 16) ?_) | go_values | go_skip | go_guarded | go_step | go_upon | go_back)
  refine Stop.mk (wp_region_lit ?_)
  have HB := Lib.hid H1.out.blk
  have HRW := Lib.hid (readOf_wf HS.out)
  rw [(show (⟨kindOf s, id, zeros 32, 0, [], 0, zeros 8⟩ : Bk) = readOf s from by rw [← HID.out]; unfold readOf; simp [hk1, hk2, hk3])] at HB
  refine load57 (cs := (readOf s).arr nilv) (Blk.all HB.out rfl) ((readOf s).arr_size HRW.out _) rfl rfl ?_
  try simp only [Act.put, List.setIfInBounds_toArray, List.set_cons_succ, List.set_cons_zero]
  refine store_all (cs := (readOf s).arr nilv) H1.out.res (by rw [(readOf s).arr_size HRW.out]; rfl) (by rw [(readOf s).arr_size HRW.out]; exact info57) (cells_one _ _ _ _) rfl rfl rfl ?_
  intro wZ hZ hOZ hlZ
  try simp only [Act.put, List.setIfInBounds_toArray, List.set_cons_succ, List.set_cons_zero]
  have HF := Lib.hid (H1.out.bel.trans (hOZ.below H1.out.bel.size (fun k hk => by have := H1.out.g0; have := H1.out.gr; omega)))
  refine wpList_nil ?_
  go_wp2_with fail
  refine bodyPost_ret (v := .agg ((readOf s).arr nilv)) (results_cell_at rfl _ _ r 0 _ _ rfl Try.underlying57 rfl (by rw [(readOf s).arr_size HRW.out]; exact info57) (Blk.all hZ rfl)) rfl ⟨_, rfl, ?_, HF.out, Fresh.nil _⟩
  rw [show (readOf s).bytes = [] from by unfold readOf; simp [hk2]]
  exact BytesAt.nil _ _ _
set_option maxRecDepth 100000 in
theorem read_img (s : List Int) (hs : Sc s) (hk : kindOf s = 1) (w : World) : Calls Try.prog 67 #[.agg (u8s s).toArray] w fun e w' => ∃ sv, e = .returned (.agg ((readOf s).arr sv)) ∧ BytesAt w' sv (readOf s).bytes ∧ Below w.heap.size w w' ∧ Fresh w.heap.size sv := by
  have HS := Lib.hid hs
  obtain ⟨hi1, hi2⟩ := sc_byte hs 1
  obtain ⟨id, hid⟩ : ∃ i, s.getD 1 0 = i := ⟨_, rfl⟩
  rw [hid] at hi1 hi2
  have HID := Lib.hid hid
  have HK := Lib.hid hk
  have hk0 := sc_byte hs 0
  clear hk0
  go_enter Try.func67, Try.ntmps67
  repeat (first | (with_reducible refine stopR (id := 0) ?_) | go_values | go_skip | go_guarded | go_step | go_upon | go_back)
  refine Stop.mk (wp_region_lit ?_)
  refine box_g rfl rfl ?_
  intro wA hA hB hl
  try simp only [Act.put, List.setIfInBounds_toArray, List.set_cons_succ, List.set_cons_zero]
  refine alloc_g zero57b rfl ?_
  intro wB hR hB2 hl2
  try simp only [Act.put, List.setIfInBounds_toArray, List.set_cons_succ, List.set_cons_zero]
  have hA2 := hA.below hB2 hl
  have hBB := hB.trans (hB2.mono hB.size)
  refine wpList_nil ?_
  repeat (first | (with_reducible refine stopR (id := 1) ?_) | go_values | go_skip | go_guarded | go_step | go_upon | go_back)
  refine Stop.mk (wp_region_lit ?_)
  have c0 : wB.cell? ⟨w.heap.size, 0, none⟩ = some (.int .u8 (kindOf s)) := hA2.cell (sc_cell HS.out (by decide))
  rw [HK.out] at c0
  have c1 : wB.cell? ⟨w.heap.size, 1, none⟩ = some (.int .u8 id) := by rw [← HID.out]; exact hA2.cell (sc_cell HS.out (by decide))
  refine takeL (.pointer (some ⟨w.heap.size, 0, none⟩)) rfl (by go_simp) ?_
  try simp only [Act.put, List.setIfInBounds_toArray, List.set_cons_succ, List.set_cons_zero]
  refine takeL (.int .u8 1) rfl (by go_simp) ?_
  try simp only [Act.put, List.setIfInBounds_toArray, List.set_cons_succ, List.set_cons_zero]
  refine takeL (.int .i64 1) rfl (by go_simp; rfl) ?_
  try simp only [Act.put, List.setIfInBounds_toArray, List.set_cons_succ, List.set_cons_zero]
  refine takeL (.pointer (some ⟨w.heap.size, 1, none⟩)) rfl (by go_simp) ?_
  try simp only [Act.put, List.setIfInBounds_toArray, List.set_cons_succ, List.set_cons_zero]
  refine takeL (.int .u8 (id)) rfl (by go_simp) ?_
  try simp only [Act.put, List.setIfInBounds_toArray, List.set_cons_succ, List.set_cons_zero]
  refine takeL (.int .i64 id) rfl (by go_simp; exact wrap64 hi1 (by omega)) ?_
  try simp only [Act.put, List.setIfInBounds_toArray, List.set_cons_succ, List.set_cons_zero]
  refine takeL (.agg (Bk.arr ⟨1, id, zeros 32, 0, [], 0, zeros 8⟩ nilv)) rfl (exec_build _ _ _ _ 57 #[(0, .tmp 7), (1, .tmp 10)] rfl #[(0, .int .i64 1), (1, .int .i64 (id))] (by simp only [List.map_toArray, List.map_cons, List.map_nil]; rfl) _ (build57k 1 (id) _)) ?_
  try simp only [Act.put, List.setIfInBounds_toArray, List.set_cons_succ, List.set_cons_zero]
  refine alloc_g zero57b rfl ?_
  intro wC hC hBC hlC
  try simp only [Act.put, List.setIfInBounds_toArray, List.set_cons_succ, List.set_cons_zero]
  refine store_all hC (by rfl) (by exact info57) (cells_one _ _ _ _) rfl rfl rfl ?_
  intro wD hD hOD hlD
  try simp only [Act.put, List.setIfInBounds_toArray, List.set_cons_succ, List.set_cons_zero]
  have hBD := hBC.trans (hOD.below hBC.size (fun k hk => Nat.le_of_eq hk.symm))
  have H1 : Hid (RT w wD w.heap.size wA.heap.size wB.heap.size s ⟨1, id, zeros 32, 0, [], 0, zeros 8⟩ nilv) := Lib.hid
    ⟨hA2.below hBD hA2.lt, hR.below hBD hR.lt, hD, hBB.trans (hBD.mono hBB.size), Nat.le_refl _, hl, hl2⟩
  clear c0 c1 hA hB hl hR hB2 hl2 hA2 hBB hC hBC hlC hD hOD hlD hBD
  generalize hgg : w.heap.size = g at *
  generalize wA.heap.size = r at *
  generalize wB.heap.size = t at *
  have HGG := Lib.hid hgg
  clear hgg wA wB wC
  have ck : wD.cell? ⟨t, 0, none⟩ = some (.int .i64 1) := H1.out.blk.cell rfl
  refine wpList_nil ?_
  go_wp2_with fail
  refine startH (fun _ => True) (by kernel_rfl) ?_
  refine takeH 0 (some 16) (.pointer (some ⟨t, 2, none⟩)) rfl rfl (by kernel_rfl) (by kernel_rfl) (by kernel_rfl) (fun _ _ _ h => h) rfl (fun w _ => by go_simp) trivial ?_
  try simp only [Act.put, List.setIfInBounds_toArray, List.set_cons_succ, List.set_cons_zero]
  refine takeH 1 (some 17) (.slice (some ⟨t, 2, none⟩) 32 32) rfl rfl (by kernel_rfl) (by kernel_rfl) (by kernel_rfl) (fun _ _ _ h => h) rfl (fun w _ => by go_simp) trivial ?_
  try simp only [Act.put, List.setIfInBounds_toArray, List.set_cons_succ, List.set_cons_zero]
  refine takeH 2 (some 18) (.slice (some ⟨g, 6, none⟩) 58 58) rfl rfl (by kernel_rfl) (by kernel_rfl) (by kernel_rfl) (fun _ _ _ h => h) rfl (fun w _ => by go_simp) trivial ?_
  try simp only [Act.put, List.setIfInBounds_toArray, List.set_cons_succ, List.set_cons_zero]
  refine oneH 3 (by kernel_rfl) rfl rfl fun K hK => ?_
  have hl32 : ((s.drop 6).take 32).length = 32 := by simp [HS.out.length]
  refine wp_copy _ _ rfl Try.underlying54 info5s t 2 32 32 g 6 58 58 rfl rfl _ ((s.drop 6).take 32) H1.out.drew.blk (by rw [hl32]; rfl) (fun j v hv => H1.out.drew.seg 6 32 j v hv) (by rw [hl32]; simp [Bk.cells, zeros]) (some 19) rfl fun wC hb ho => ?_
  rw [cells_page _ rfl _ _ hl32] at hb
  have H2 := Lib.hid (H1.out.drew.put hb ho)
  refine hK _ _ trivial ?_
  clear hK K hb ho
  try simp only [Act.put, List.setIfInBounds_toArray, List.set_cons_succ, List.set_cons_zero]
  refine wpAnyH_done (by kernel_rfl) ?_ _
  repeat (first | (with_reducible refine stopR (id := 16) ?_) | go_values | go_skip | go_guarded | go_step | go_upon | go_back)
  refine Stop.mk (wp_region_lit ?_)
  have HB := Lib.hid H2.out.blk
  have HRW := Lib.hid (readOf_wf HS.out)
  rw [(show ({ (⟨1, id, zeros 32, 0, [], 0, zeros 8⟩ : Bk) with page := (s.drop 6).take 32 }) = readOf s from by rw [← HID.out]; unfold readOf; simp [HK.out])] at HB
  refine load57 (cs := (readOf s).arr nilv) (Blk.all HB.out rfl) ((readOf s).arr_size HRW.out _) rfl rfl ?_
  try simp only [Act.put, List.setIfInBounds_toArray, List.set_cons_succ, List.set_cons_zero]
  refine store_all (cs := (readOf s).arr nilv) H2.out.res (by rw [(readOf s).arr_size HRW.out]; rfl) (by rw [(readOf s).arr_size HRW.out]; exact info57) (cells_one _ _ _ _) rfl rfl rfl ?_
  intro wZ hZ hOZ hlZ
  try simp only [Act.put, List.setIfInBounds_toArray, List.set_cons_succ, List.set_cons_zero]
  have HF := Lib.hid (H2.out.bel.trans (hOZ.below H2.out.bel.size (fun k hk => by have := H2.out.g0; have := H2.out.gr; omega)))
  refine wpList_nil ?_
  go_wp2_with fail
  refine bodyPost_ret (v := .agg ((readOf s).arr nilv)) (results_cell_at rfl _ _ r 0 _ _ rfl Try.underlying57 rfl (by rw [(readOf s).arr_size HRW.out]; exact info57) (Blk.all hZ rfl)) rfl ⟨_, rfl, ?_, HF.out, Fresh.nil _⟩
  rw [show (readOf s).bytes = [] from by unfold readOf; simp [HK.out]]
  exact BytesAt.nil _ _ _
theorem RT.other {W w w' : World} {g r t m : Nat} {s : List Int} {b : Bk} {sv : Value} (h : RT W w g r t s b sv) (ho : Only (fun k => k = m) w w') (hm : t < m) : RT W w' g r t s b sv :=
  ⟨h.sec.only ho (by have := h.gr; have := h.rt; omega), h.res.only ho (by have := h.rt; omega), h.blk.only ho (by omega), h.bel.trans (ho.below h.bel.size (fun k hk => by have := h.g0; have := h.gr; have := h.rt; omega)), h.g0, h.gr, h.rt⟩
theorem layI_zeros (n : Nat) (l : List Int) : layI (zeros n) 0 l = l ++ zeros (n - l.length) := by simp [layI, zeros]
theorem RT.cell34 {W w : World} {g r t : Nat} {s : List Int} {b : Bk} {sv : Value} (h : RT W w g r t s b sv) (hp : b.page.length = 32) : w.cell? ⟨t, 34, none⟩ = some (.int .i64 b.off) := h.blk.cell (cell_at34 b hp sv 0)
theorem RT.cell35 {W w : World} {g r t : Nat} {s : List Int} {b : Bk} {sv : Value} (h : RT W w g r t s b sv) (hp : b.page.length = 32) : w.cell? ⟨t, 35, none⟩ = some sv := h.blk.cell (cell_at34 b hp sv 1)
theorem RT.cell36 {W w : World} {g r t : Nat} {s : List Int} {b : Bk} {sv : Value} (h : RT W w g r t s b sv) (hp : b.page.length = 32) : w.cell? ⟨t, 36, none⟩ = some (.int .i64 b.prev) := h.blk.cell (cell_at34 b hp sv 2)
theorem RT.cellH {W w : World} {g r t : Nat} {s : List Int} {b : Bk} {sv : Value} (h : RT W w g r t s b sv) (hp : b.page.length = 32) (k : Nat) : w.cell? ⟨t, 37 + k, none⟩ = (i64s b.heads)[k]? := by
  obtain ⟨ty, e⟩ := h.blk
  rw [cell_of_row w t _ _ ty _ e, List.getElem?_toArray]
  have := cell_at34 b hp sv (k + 3)
  rwa [show 34 + (k + 3) = 37 + k by omega] at this
theorem sc_seg {s : List Int} (h : Sc s) (o n : Nat) : ∀ x ∈ (s.drop o).take n, Byte x := fun x hx => h.bytes x (List.mem_of_mem_drop (List.mem_of_mem_take hx))
/-- The block of a delta's sector. -/
def dltOf (id : Int) (o : Int) (n : Nat) (s : List Int) (p : Int) : Bk := ⟨2, id, zeros 32, o, (s.drop 8).take (min 16 n) ++ zeros (n - 16), p, zeros 8⟩
theorem dlt_eq {s : List Int} (hk : kindOf s = 2) {id o p : Int} {n : Nat} (h1 : s.getD 1 0 = id) (h6 : s.getD 6 0 = o) (h7 : s.getD 7 0 = (n : Int)) (hp : num ((s.drop 24).take 2) = p) : dltOf id o n s p = readOf s := by
  subst h1 h6 hp
  have e : (s.getD 7 0).toNat = n := by rw [h7]; rfl
  unfold dltOf readOf
  rw [e]
  simp [hk]

set_option maxRecDepth 100000 in
theorem read_dlt (s : List Int) (hs : Sc s) (hk : kindOf s = 2) (w : World) : Calls Try.prog 67 #[.agg (u8s s).toArray] w fun e w' => ∃ sv, e = .returned (.agg ((readOf s).arr sv)) ∧ BytesAt w' sv (readOf s).bytes ∧ Below w.heap.size w w' ∧ Fresh w.heap.size sv := by
  have HS := Lib.hid hs
  obtain ⟨hi1, hi2⟩ := sc_byte hs 1
  obtain ⟨id, hid⟩ : ∃ i, s.getD 1 0 = i := ⟨_, rfl⟩
  rw [hid] at hi1 hi2
  have HID := Lib.hid hid
  have HK := Lib.hid hk
  have hk0 := sc_byte hs 0
  clear hk0
  go_enter Try.func67, Try.ntmps67
  repeat (first | (with_reducible refine stopR (id := 0) ?_) | go_values | go_skip | go_guarded | go_step | go_upon | go_back)
  refine Stop.mk (wp_region_lit ?_)
  refine box_g rfl rfl ?_
  intro wA hA hB hl
  try simp only [Act.put, List.setIfInBounds_toArray, List.set_cons_succ, List.set_cons_zero]
  refine alloc_g zero57b rfl ?_
  intro wB hR hB2 hl2
  try simp only [Act.put, List.setIfInBounds_toArray, List.set_cons_succ, List.set_cons_zero]
  have hA2 := hA.below hB2 hl
  have hBB := hB.trans (hB2.mono hB.size)
  refine wpList_nil ?_
  repeat (first | (with_reducible refine stopR (id := 1) ?_) | go_values | go_skip | go_guarded | go_step | go_upon | go_back)
  refine Stop.mk (wp_region_lit ?_)
  have c0 : wB.cell? ⟨w.heap.size, 0, none⟩ = some (.int .u8 (kindOf s)) := hA2.cell (sc_cell HS.out (by decide))
  rw [HK.out] at c0
  have c1 : wB.cell? ⟨w.heap.size, 1, none⟩ = some (.int .u8 id) := by rw [← HID.out]; exact hA2.cell (sc_cell HS.out (by decide))
  refine takeL (.pointer (some ⟨w.heap.size, 0, none⟩)) rfl (by go_simp) ?_
  try simp only [Act.put, List.setIfInBounds_toArray, List.set_cons_succ, List.set_cons_zero]
  refine takeL (.int .u8 2) rfl (by go_simp) ?_
  try simp only [Act.put, List.setIfInBounds_toArray, List.set_cons_succ, List.set_cons_zero]
  refine takeL (.int .i64 2) rfl (by go_simp; rfl) ?_
  try simp only [Act.put, List.setIfInBounds_toArray, List.set_cons_succ, List.set_cons_zero]
  refine takeL (.pointer (some ⟨w.heap.size, 1, none⟩)) rfl (by go_simp) ?_
  try simp only [Act.put, List.setIfInBounds_toArray, List.set_cons_succ, List.set_cons_zero]
  refine takeL (.int .u8 (id)) rfl (by go_simp) ?_
  try simp only [Act.put, List.setIfInBounds_toArray, List.set_cons_succ, List.set_cons_zero]
  refine takeL (.int .i64 id) rfl (by go_simp; exact wrap64 hi1 (by omega)) ?_
  try simp only [Act.put, List.setIfInBounds_toArray, List.set_cons_succ, List.set_cons_zero]
  refine takeL (.agg (Bk.arr ⟨2, id, zeros 32, 0, [], 0, zeros 8⟩ nilv)) rfl (exec_build _ _ _ _ 57 #[(0, .tmp 7), (1, .tmp 10)] rfl #[(0, .int .i64 2), (1, .int .i64 (id))] (by simp only [List.map_toArray, List.map_cons, List.map_nil]; rfl) _ (build57k 2 (id) _)) ?_
  try simp only [Act.put, List.setIfInBounds_toArray, List.set_cons_succ, List.set_cons_zero]
  refine alloc_g zero57b rfl ?_
  intro wC hC hBC hlC
  try simp only [Act.put, List.setIfInBounds_toArray, List.set_cons_succ, List.set_cons_zero]
  refine store_all hC (by rfl) (by exact info57) (cells_one _ _ _ _) rfl rfl rfl ?_
  intro wD hD hOD hlD
  try simp only [Act.put, List.setIfInBounds_toArray, List.set_cons_succ, List.set_cons_zero]
  have hBD := hBC.trans (hOD.below hBC.size (fun k hk => Nat.le_of_eq hk.symm))
  have H1 : Hid (RT w wD w.heap.size wA.heap.size wB.heap.size s ⟨2, id, zeros 32, 0, [], 0, zeros 8⟩ nilv) := Lib.hid
    ⟨hA2.below hBD hA2.lt, hR.below hBD hR.lt, hD, hBB.trans (hBD.mono hBB.size), Nat.le_refl _, hl, hl2⟩
  clear c0 c1 hA hB hl hR hB2 hl2 hA2 hBB hC hBC hlC hD hOD hlD hBD
  generalize hgg : w.heap.size = g at *
  generalize wA.heap.size = r at *
  generalize wB.heap.size = t at *
  have HGG := Lib.hid hgg
  clear hgg wA wB wC
  have ck : wD.cell? ⟨t, 0, none⟩ = some (.int .i64 2) := H1.out.blk.cell rfl
  refine wpList_nil ?_
  repeat (first | (with_reducible refine stopR (id := 6) ?_) | go_values | go_skip | go_guarded | go_step | go_upon | go_back)
  refine Stop.mk (wp_region_lit ?_)
  obtain ⟨ho1, ho2⟩ := sc_byte hs 6
  obtain ⟨hm1, hm2⟩ := sc_byte hs 7
  obtain ⟨o, ho⟩ : ∃ i, s.getD 6 0 = i := ⟨_, rfl⟩
  obtain ⟨n, hn⟩ : ∃ n : Nat, s.getD 7 0 = (n : Int) := ⟨(s.getD 7 0).toNat, by omega⟩
  rw [ho] at ho1 ho2
  rw [hn] at hm2
  have HO := Lib.hid ho
  have HNN := Lib.hid hn
  clear ho hn hm1
  have hn256 : n < 256 := by omega
  have c6 : wD.cell? ⟨g, 6, none⟩ = some (.int .u8 o) := by rw [← HO.out]; exact H1.out.sec.cell (sc_cell HS.out (by decide))
  have c34 := H1.out.cell34 rfl
  have hf := H1.out.blk.frozen 34
  refine takeL (.pointer (some ⟨g, 6, none⟩)) rfl (by go_simp) ?_
  try simp only [Act.put, List.setIfInBounds_toArray, List.set_cons_succ, List.set_cons_zero]
  refine takeL (.int .u8 o) rfl (by go_simp) ?_
  try simp only [Act.put, List.setIfInBounds_toArray, List.set_cons_succ, List.set_cons_zero]
  refine takeL (.int .i64 o) rfl (by go_simp; exact wrap64 ho1 (by omega)) ?_
  try simp only [Act.put, List.setIfInBounds_toArray, List.set_cons_succ, List.set_cons_zero]
  refine takeL (.pointer (some ⟨t, 34, none⟩)) rfl (by go_simp) ?_
  try simp only [Act.put, List.setIfInBounds_toArray, List.set_cons_succ, List.set_cons_zero]
  refine skipL (wD.setCell ⟨t, 34, none⟩ (.int .i64 o)) rfl (by go_simp) ?_
  try simp only [Act.put, List.setIfInBounds_toArray, List.set_cons_succ, List.set_cons_zero]
  have H2 := Lib.hid (H1.out.set 34 (.int .i64 o) (cells_set34 _ rfl _ o))
  clear ck c6 c34 hf
  generalize wD.setCell ⟨t, 34, none⟩ (.int .i64 o) = wE at *
  refine wpList_nil ?_
  repeat (first | (with_reducible refine stopR (id := 7) ?_) | go_values | go_skip | go_guarded | go_step | go_upon | go_back)
  refine Stop.mk (wp_region_lit ?_)
  have c7 : wE.cell? ⟨g, 7, none⟩ = some (.int .u8 (n : Int)) := by rw [← HNN.out]; exact H2.out.sec.cell (sc_cell HS.out (by decide))
  refine takeL (.pointer (some ⟨g, 7, none⟩)) rfl (by go_simp) ?_
  try simp only [Act.put, List.setIfInBounds_toArray, List.set_cons_succ, List.set_cons_zero]
  refine takeL (.int .u8 (n : Int)) rfl (by go_simp) ?_
  try simp only [Act.put, List.setIfInBounds_toArray, List.set_cons_succ, List.set_cons_zero]
  refine takeL (.int .i64 (n : Int)) rfl (by go_simp; exact wrap64 (by omega) (by omega)) ?_
  try simp only [Act.put, List.setIfInBounds_toArray, List.set_cons_succ, List.set_cons_zero]
  refine make_g (n := n) rfl rfl hn256 rfl ?_
  intro wF hM hBM hlM
  try simp only [Act.put, List.setIfInBounds_toArray, List.set_cons_succ, List.set_cons_zero]
  have H3 := Lib.hid (H2.out.below hBM)
  have hmt : t < wE.heap.size := H2.out.blk.lt
  generalize wE.heap.size = m at *
  clear c7 hBM
  have c35 := H3.out.cell35 rfl
  have hf := H3.out.blk.frozen 35
  refine takeL (.pointer (some ⟨t, 35, none⟩)) rfl (by go_simp) ?_
  try simp only [Act.put, List.setIfInBounds_toArray, List.set_cons_succ, List.set_cons_zero]
  refine skipL (wF.setCell ⟨t, 35, none⟩ (.slice (some ⟨m, 0, none⟩) n n)) rfl (by go_simp) ?_
  try simp only [Act.put, List.setIfInBounds_toArray, List.set_cons_succ, List.set_cons_zero]
  have H4 := Lib.hid (H3.out.set 35 (.slice (some ⟨m, 0, none⟩) n n) (cells_set35 _ rfl _ _ ((s.drop 8).take (min 16 n) ++ zeros (n - 16))))
  have HM4 := Lib.hid (hM.setOther (a := ⟨t, 35, none⟩) (by simp only; omega) (.slice (some ⟨m, 0, none⟩) n n))
  clear c35 hf hM H3
  generalize wF.setCell ⟨t, 35, none⟩ (.slice (some ⟨m, 0, none⟩) n n) = wG at *
  refine wpList_nil ?_
  go_wp2_with fail
  have c35 := H4.out.drew.cell35 rfl
  refine startH (fun wq => wq.cell? ⟨t, 35, none⟩ = some (.slice (some ⟨m, 0, none⟩) n n)) (by kernel_rfl) ?_
  refine takeH 0 (some 31) (.pointer (some ⟨t, 35, none⟩)) rfl rfl (by kernel_rfl) (by kernel_rfl) (by kernel_rfl) (fun _ _ _ h => h) rfl (fun w _ => by go_simp) c35 ?_
  try simp only [Act.put, List.setIfInBounds_toArray, List.set_cons_succ, List.set_cons_zero]
  refine takeH 1 (some 32) (.slice (some ⟨m, 0, none⟩) n n) rfl rfl (by kernel_rfl) (by kernel_rfl) (by kernel_rfl) (fun _ _ _ h => h) rfl (fun w hS => by go_simp) c35 ?_
  try simp only [Act.put, List.setIfInBounds_toArray, List.set_cons_succ, List.set_cons_zero]
  refine takeH 2 (some 33) (.slice (some ⟨g, 8, none⟩) 16 56) rfl rfl (by kernel_rfl) (by kernel_rfl) (by kernel_rfl) (fun _ _ _ h => h) rfl (fun w _ => by go_simp) c35 ?_
  try simp only [Act.put, List.setIfInBounds_toArray, List.set_cons_succ, List.set_cons_zero]
  refine oneH 3 (by kernel_rfl) rfl rfl fun K hK => ?_
  have hl16 : ((s.drop 8).take (min 16 n)).length = min 16 n := by
    rw [List.length_take, List.length_drop, HS.out.length]
    omega
  refine wp_copy _ _ rfl Try.underlying54 info5s m 0 n n g 8 16 56 rfl rfl _ ((s.drop 8).take (min 16 n)) HM4.out.drew (by rw [hl16]) (fun j v hv => H4.out.drew.seg 8 (min 16 n) j v hv) (by rw [hl16, List.length_map, zeros_length]; omega) (some 34) rfl fun wC hb ho => ?_
  rw [lay_u8s, layI_zeros, hl16, show n - min 16 n = n - 16 by omega] at hb
  have H5 := Lib.hid (H4.out.drew.other ho hmt)
  have HM5 := Lib.hid hb
  refine hK _ _ (H5.out.cell35 rfl) ?_
  clear hK K hb ho c35 H4 HM4 hl16
  try simp only [Act.put, List.setIfInBounds_toArray, List.set_cons_succ, List.set_cons_zero]
  refine wpAnyH_done (by kernel_rfl) ?_ _
  repeat (first | (with_reducible refine stopR (id := 9) ?_) | go_values | go_skip | go_guarded | go_step | go_upon | go_back)
  refine Stop.mk (wp_region_lit ?_)
  refine takeL (.slice (some ⟨g, 24, none⟩) 2 40) rfl (by go_simp) ?_
  try simp only [Act.put, List.setIfInBounds_toArray, List.set_cons_succ, List.set_cons_zero]
  refine wpList_op rfl fun K hK => ?_
  go_simp
  have hp2 := num_range _ (sc_seg HS.out 24 2)
  have hp3 : ((s.drop 24).take 2).length = 2 := by simp [HS.out.length]
  rw [hp3] at hp2
  refine (get2_any _ g 24 40 ((s.drop 24).take 2) hp3 (sc_seg HS.out 24 2) (fun i x hx => H5.out.seg 24 2 i x hx)).mono ?_
  rintro e w6 ⟨rfl, rfl⟩
  refine hK _ _ ?_
  clear hK K
  try simp only [Act.put, List.setIfInBounds_toArray, List.set_cons_succ, List.set_cons_zero]
  obtain ⟨hp4, hp5⟩ := hp2
  generalize hpp : num ((s.drop 24).take 2) = p at *
  have HPP := Lib.hid hpp
  have hp6 : p < 65536 := hp5
  clear hpp hp3 hp5
  have c36 := H5.out.cell36 rfl
  have hf := H5.out.blk.frozen 36
  refine takeL (.int .i64 p) rfl (by go_simp; exact wrap64 hp4 (by omega)) ?_
  try simp only [Act.put, List.setIfInBounds_toArray, List.set_cons_succ, List.set_cons_zero]
  refine takeL (.pointer (some ⟨t, 36, none⟩)) rfl (by go_simp) ?_
  try simp only [Act.put, List.setIfInBounds_toArray, List.set_cons_succ, List.set_cons_zero]
  refine skipL (wC.setCell ⟨t, 36, none⟩ (.int .i64 p)) rfl (by go_simp) ?_
  try simp only [Act.put, List.setIfInBounds_toArray, List.set_cons_succ, List.set_cons_zero]
  have H6 : Hid (RT w _ g r t s (dltOf id o n s p) (.slice (some ⟨m, 0, none⟩) n n)) := Lib.hid (H5.out.set 36 (.int .i64 p) (cells_set36 _ rfl _ p))
  have HM6 := Lib.hid (HM5.out.setOther (a := ⟨t, 36, none⟩) (by simp only; omega) (.int .i64 p))
  clear c36 hf H5 HM5
  generalize wC.setCell ⟨t, 36, none⟩ (.int .i64 p) = wH at *
  have hmlt : m < wH.heap.size := HM6.out.lt
  refine wpList_nil ?_
  repeat (first | (with_reducible refine stopR (id := 16) ?_) | go_values | go_skip | go_guarded | go_step | go_upon | go_back)
  refine Stop.mk (wp_region_lit ?_)
  have HB := Lib.hid H6.out.blk
  have HRW := Lib.hid (readOf_wf HS.out)
  rw [(dlt_eq HK.out HID.out HO.out HNN.out HPP.out)] at HB
  refine load57 (cs := (readOf s).arr (.slice (some ⟨m, 0, none⟩) n n)) (Blk.all HB.out rfl) ((readOf s).arr_size HRW.out _) rfl rfl ?_
  try simp only [Act.put, List.setIfInBounds_toArray, List.set_cons_succ, List.set_cons_zero]
  refine store_all (cs := (readOf s).arr (.slice (some ⟨m, 0, none⟩) n n)) H6.out.res (by rw [(readOf s).arr_size HRW.out]; rfl) (by rw [(readOf s).arr_size HRW.out]; exact info57) (cells_one _ _ _ _) rfl rfl rfl ?_
  intro wZ hZ hOZ hlZ
  try simp only [Act.put, List.setIfInBounds_toArray, List.set_cons_succ, List.set_cons_zero]
  have HF := Lib.hid (H6.out.bel.trans (hOZ.below H6.out.bel.size (fun k hk => by have := H6.out.g0; have := H6.out.gr; omega)))
  refine wpList_nil ?_
  go_wp2_with fail
  refine bodyPost_ret (v := .agg ((readOf s).arr (.slice (some ⟨m, 0, none⟩) n n))) (results_cell_at rfl _ _ r 0 _ _ rfl Try.underlying57 rfl (by rw [(readOf s).arr_size HRW.out]; exact info57) (Blk.all hZ rfl)) rfl ⟨_, rfl, ?_, HF.out, fun b o k c h => by cases h; have := H6.out.g0; have := H6.out.gr; have := H6.out.rt; omega⟩
  have hz := HM6.out.only hOZ (by have := H6.out.rt; omega)
  have hb := BytesAt.of_blk (cap := n) hz
  have e : readOf s = dltOf id o n s p := (dlt_eq HK.out HID.out HO.out HNN.out HPP.out).symm
  rw [e]
  have el : ((s.drop 8).take (min 16 n) ++ zeros (n - 16)).length = n := by
    simp [HS.out.length, zeros]
    omega
  rw [el] at hb
  exact hb
set_option maxRecDepth 100000 in
theorem read_map (s : List Int) (hs : Sc s) (hk : kindOf s = 3) (w : World) : Calls Try.prog 67 #[.agg (u8s s).toArray] w fun e w' => ∃ sv, e = .returned (.agg ((readOf s).arr sv)) ∧ BytesAt w' sv (readOf s).bytes ∧ Below w.heap.size w w' ∧ Fresh w.heap.size sv := by
  have HS := Lib.hid hs
  obtain ⟨hi1, hi2⟩ := sc_byte hs 1
  obtain ⟨id, hid⟩ : ∃ i, s.getD 1 0 = i := ⟨_, rfl⟩
  rw [hid] at hi1 hi2
  have HID := Lib.hid hid
  have HK := Lib.hid hk
  have hk0 := sc_byte hs 0
  clear hk0
  go_enter Try.func67, Try.ntmps67
  repeat (first | (with_reducible refine stopR (id := 0) ?_) | go_values | go_skip | go_guarded | go_step | go_upon | go_back)
  refine Stop.mk (wp_region_lit ?_)
  refine box_g rfl rfl ?_
  intro wA hA hB hl
  try simp only [Act.put, List.setIfInBounds_toArray, List.set_cons_succ, List.set_cons_zero]
  refine alloc_g zero57b rfl ?_
  intro wB hR hB2 hl2
  try simp only [Act.put, List.setIfInBounds_toArray, List.set_cons_succ, List.set_cons_zero]
  have hA2 := hA.below hB2 hl
  have hBB := hB.trans (hB2.mono hB.size)
  refine wpList_nil ?_
  repeat (first | (with_reducible refine stopR (id := 1) ?_) | go_values | go_skip | go_guarded | go_step | go_upon | go_back)
  refine Stop.mk (wp_region_lit ?_)
  have c0 : wB.cell? ⟨w.heap.size, 0, none⟩ = some (.int .u8 (kindOf s)) := hA2.cell (sc_cell HS.out (by decide))
  rw [HK.out] at c0
  have c1 : wB.cell? ⟨w.heap.size, 1, none⟩ = some (.int .u8 id) := by rw [← HID.out]; exact hA2.cell (sc_cell HS.out (by decide))
  refine takeL (.pointer (some ⟨w.heap.size, 0, none⟩)) rfl (by go_simp) ?_
  try simp only [Act.put, List.setIfInBounds_toArray, List.set_cons_succ, List.set_cons_zero]
  refine takeL (.int .u8 3) rfl (by go_simp) ?_
  try simp only [Act.put, List.setIfInBounds_toArray, List.set_cons_succ, List.set_cons_zero]
  refine takeL (.int .i64 3) rfl (by go_simp; rfl) ?_
  try simp only [Act.put, List.setIfInBounds_toArray, List.set_cons_succ, List.set_cons_zero]
  refine takeL (.pointer (some ⟨w.heap.size, 1, none⟩)) rfl (by go_simp) ?_
  try simp only [Act.put, List.setIfInBounds_toArray, List.set_cons_succ, List.set_cons_zero]
  refine takeL (.int .u8 (id)) rfl (by go_simp) ?_
  try simp only [Act.put, List.setIfInBounds_toArray, List.set_cons_succ, List.set_cons_zero]
  refine takeL (.int .i64 id) rfl (by go_simp; exact wrap64 hi1 (by omega)) ?_
  try simp only [Act.put, List.setIfInBounds_toArray, List.set_cons_succ, List.set_cons_zero]
  refine takeL (.agg (Bk.arr ⟨3, id, zeros 32, 0, [], 0, zeros 8⟩ nilv)) rfl (exec_build _ _ _ _ 57 #[(0, .tmp 7), (1, .tmp 10)] rfl #[(0, .int .i64 3), (1, .int .i64 (id))] (by simp only [List.map_toArray, List.map_cons, List.map_nil]; rfl) _ (build57k 3 (id) _)) ?_
  try simp only [Act.put, List.setIfInBounds_toArray, List.set_cons_succ, List.set_cons_zero]
  refine alloc_g zero57b rfl ?_
  intro wC hC hBC hlC
  try simp only [Act.put, List.setIfInBounds_toArray, List.set_cons_succ, List.set_cons_zero]
  refine store_all hC (by rfl) (by exact info57) (cells_one _ _ _ _) rfl rfl rfl ?_
  intro wD hD hOD hlD
  try simp only [Act.put, List.setIfInBounds_toArray, List.set_cons_succ, List.set_cons_zero]
  have hBD := hBC.trans (hOD.below hBC.size (fun k hk => Nat.le_of_eq hk.symm))
  have H1 : Hid (RT w wD w.heap.size wA.heap.size wB.heap.size s ⟨3, id, zeros 32, 0, [], 0, zeros 8⟩ nilv) := Lib.hid
    ⟨hA2.below hBD hA2.lt, hR.below hBD hR.lt, hD, hBB.trans (hBD.mono hBB.size), Nat.le_refl _, hl, hl2⟩
  clear c0 c1 hA hB hl hR hB2 hl2 hA2 hBB hC hBC hlC hD hOD hlD hBD
  generalize hgg : w.heap.size = g at *
  generalize wA.heap.size = r at *
  generalize wB.heap.size = t at *
  have HGG := Lib.hid hgg
  clear hgg wA wB wC
  have ck : wD.cell? ⟨t, 0, none⟩ = some (.int .i64 3) := H1.out.blk.cell rfl
  refine wpList_nil ?_
  go_wp2_with fail
  go_loopg [41] 8 (fun q i wr => ∃ k : Nat, 8 - k ≤ q ∧ k ≤ 8 ∧ i = .int .i64 k ∧ RT w wr g r t s ⟨3, id, zeros 32, 0, [], 0, (List.range k).map (headOf s) ++ zeros (8 - k)⟩ nilv)
  case atStart => exact ⟨0, by omega, by omega, rfl, H1.out⟩
  case round =>
    obtain ⟨k, hg, hk, rfl, hrt⟩ := hrel
    have HR := Lib.hid hrt
    clear hrt H1
    by_cases hlt : k < 8
    · have hcell := HR.out.cellH rfl k
      rw [show (i64s ((List.range k).map (headOf s) ++ zeros (8 - k)))[k]? = some (.int .i64 0) from by
        rw [List.getElem?_map, List.getElem?_append_right (by simp), zeros, List.getElem?_replicate, if_pos (by rw [List.length_map, List.length_range]; omega)]
        rfl] at hcell
      have hfro := HR.out.blk.frozen (37 + k)
      have hp2 := num_range _ (sc_seg HS.out (6 + 2 * k) 2)
      have hp3 : ((s.drop (6 + 2 * k)).take 2).length = 2 := by
        rw [List.length_take, List.length_drop, HS.out.length]
        omega
      rw [hp3] at hp2
      obtain ⟨hp4, hp5⟩ := hp2
      have HG2 := Lib.hid (get2_any wr g (6 + 2 * k) (64 - (6 + 2 * k)) ((s.drop (6 + 2 * k)).take 2) hp3 (sc_seg HS.out (6 + 2 * k) 2) (fun i x hx => HR.out.seg (6 + 2 * k) 2 i x hx))
      generalize hpp : num ((s.drop (6 + 2 * k)).take 2) = p at *
      have HPP := Lib.hid hpp
      have hp6 : p < 65536 := hp5
      clear hpp hp3 hp5
      go_wp2_with fail
      refine (headOf_any wr g k hlt).mono ?_
      rintro e w6 ⟨rfl, rfl⟩
      go_wp2_with fail
      refine HG2.out.mono ?_
      rintro e w7 ⟨rfl, rfl⟩
      go_wp2_with fail
      go_roundg (8 - (k + 1))
      case measure => omega
      case rel =>
        refine ⟨k + 1, by omega, by omega, by go_num, ?_⟩
        refine HR.out.set (37 + k) (.int .i64 p) ?_
        rw [cells_setH _ rfl]
        congr 1
        simp only [Bk.mk.injEq, true_and]
        rw [List.set_append_right _ _ (by simp), List.range_succ, show 8 - k = (8 - (k + 1)) + 1 by omega, show zeros ((8 - (k + 1)) + 1) = 0 :: zeros (8 - (k + 1)) from rfl]
        simp [headOf, HPP.out]
    · have H9 : Hid (RT w wr g r t s ⟨3, id, zeros 32, 0, [], 0, (List.range 8).map (headOf s)⟩ nilv) := Lib.hid (by
        obtain rfl : k = 8 := by omega
        have := HR.out
        simpa [zeros] using this)
      have hk8 : k = 8 := by omega
      clear HR
      subst hk8
      repeat (first | (with_reducible refine stopR (id := 16) ?_) | go_values | go_skip | go_guarded | go_step | go_upon | go_back)
      refine Stop.mk (wp_region_lit ?_)
      have HB := Lib.hid H9.out.blk
      have HRW := Lib.hid (readOf_wf HS.out)
      rw [(show (⟨3, id, zeros 32, 0, [], 0, (List.range 8).map (headOf s)⟩ : Bk) = readOf s from by rw [← HID.out]; unfold readOf; simp [HK.out])] at HB
      refine load57 (cs := (readOf s).arr nilv) (Blk.all HB.out rfl) ((readOf s).arr_size HRW.out _) rfl rfl ?_
      try simp only [Act.put, List.setIfInBounds_toArray, List.set_cons_succ, List.set_cons_zero]
      refine store_all (cs := (readOf s).arr nilv) H9.out.res (by rw [(readOf s).arr_size HRW.out]; rfl) (by rw [(readOf s).arr_size HRW.out]; exact info57) (cells_one _ _ _ _) rfl rfl rfl ?_
      intro wZ hZ hOZ hlZ
      try simp only [Act.put, List.setIfInBounds_toArray, List.set_cons_succ, List.set_cons_zero]
      have HF := Lib.hid (H9.out.bel.trans (hOZ.below H9.out.bel.size (fun k hk => by have := H9.out.g0; have := H9.out.gr; omega)))
      refine wpList_nil ?_
      go_wp2_with fail
      refine bodyPost_ret (v := .agg ((readOf s).arr nilv)) (results_cell_at rfl _ _ r 0 _ _ rfl Try.underlying57 rfl (by rw [(readOf s).arr_size HRW.out]; exact info57) (Blk.all hZ rfl)) rfl ⟨_, rfl, ?_, HF.out, Fresh.nil _⟩
      rw [show (readOf s).bytes = [] from by unfold readOf; simp [HK.out]]
      exact BytesAt.nil _ _ _
theorem read_any (s : List Int) (hs : Sc s) (w : World) : Calls Try.prog 67 #[.agg (u8s s).toArray] w fun e w' => ∃ sv, e = .returned (.agg ((readOf s).arr sv)) ∧ BytesAt w' sv (readOf s).bytes ∧ Below w.heap.size w w' ∧ Fresh w.heap.size sv := by
  by_cases k1 : kindOf s = 1
  · exact read_img s hs k1 w
  · by_cases k2 : kindOf s = 2
    · exact read_dlt s hs k2 w
    · by_cases k3 : kindOf s = 3
      · exact read_map s hs k3 w
      · exact read_oth s hs ⟨k1, k2, k3⟩ w
end Go.Proofs.Ytbhaifdhmfmeoaa
