/- Hk: stage 13's texts turned: group.Read and what it calls; items compared. -/
import Derived.Test.YthlnmdihdcfphaaGreatDoorHb
import Derived.Laws.BytesArg
namespace Go.Proofs.YthlnmdihdcfphaaGreatDoor
set_option linter.unusedSimpArgs false
set_option linter.unusedVariables false
open Go.RowKit

theorem conv_bytes {w : World} {sv : Value} {l : List Int} (h : BytesAt w sv l) : (convert 25 9 sv).run Tryz.prog w = .ok (.string (strOfNums l)) w := by
  obtain ⟨a, cap, rfl, hc⟩ := h
  rw [run_convert_bytes_string w 25 9 5 a l.length cap Tryz.underlying25 Tryz.underlying5 Tryz.underlying9]
  cases l with
  | nil =>
    cases a with
    | none => rfl
    | some a =>
      have := run_bytesToString (P := Tryz.prog) w a 0 cap [] (by rfl)
      rw [List.length_nil, this]
      rfl
  | cons x l =>
    obtain ⟨b, o, e, _⟩ := hc 0 x rfl
    subst e
    have := run_bytesToString (P := Tryz.prog) w ⟨b, o, none⟩ (x :: l).length cap (x :: l) (by
      have hl := run_loadCells_list (P := Tryz.prog) w ⟨b, o, none⟩ ((x :: l).map (Value.int .u8)) (fun j v hv => by
        rw [List.getElem?_map] at hv
        cases hz : (x :: l)[j]? with
        | none => simp [hz] at hv
        | some z =>
          simp [hz] at hv
          subst hv
          obtain ⟨b', o', e', hx⟩ := hc j z hz
          cases e'
          rwa [show (⟨b, o, none⟩ : Addr).add j = ⟨b, o + j, none⟩ by unfold Addr.add; split <;> simp_all])
      simpa using hl)
    rw [this, foldl_push_bytes]
    simp [strOfNums, ByteArray.empty, ByteArray.emptyWithCapacity]
    rfl
theorem byte_inj {x y : Int} (hx : Byte x) (hy : Byte y) (h : UInt8.ofNat x.toNat = UInt8.ofNat y.toNat) : x = y := by
  obtain ⟨h1, h2⟩ := hx
  obtain ⟨h3, h4⟩ := hy
  have := congrArg UInt8.toNat h
  simp only [UInt8.toNat_ofNat'] at this
  omega
theorem str_inj {l m : List Int} (hl : ∀ x ∈ l, Byte x) (hm : ∀ x ∈ m, Byte x) : ((strOfNums l).toList == (strOfNums m).toList) = decide (l = m) := by
  rw [ByteArray.toList_eq, ByteArray.toList_eq, strOfNums_data, strOfNums_data]
  by_cases h : l = m
  · subst h
    simp
  · rw [decide_eq_false h]
    refine beq_eq_false_iff_ne.2 fun e => h ?_
    have e2 := e
    have key : ∀ (l m : List Int), (∀ x ∈ l, Byte x) → (∀ x ∈ m, Byte x) → (l.map fun n => UInt8.ofNat n.toNat) = (m.map fun n => UInt8.ofNat n.toNat) → l = m := by
      intro l
      induction l with
      | nil => intro m _ _ h; cases m with
        | nil => rfl
        | cons y m => simp at h
      | cons x l ih => intro m hl hm h; cases m with
        | nil => simp at h
        | cons y m =>
          simp only [List.map_cons, List.cons.injEq] at h
          rw [byte_inj (hl x (by simp)) (hm y (by simp)) h.1, ih m (fun z hz => hl z (by simp [hz])) (fun z hz => hm z (by simp [hz])) h.2]
    exact key l m hl hm e2
theorem bytes_any {w : World} {sv cv : Value} {l m : List Int} (h : BytesAt w sv l) (k : BytesAt w cv m) (hl : ∀ x ∈ l, Byte x) (hm : ∀ x ∈ m, Byte x) : Calls Tryz.prog 52 #[sv, cv] w fun e w' => e = .returned (.bool (decide (l = m))) ∧ w = w' := by
  have HL := Lib.hid (conv_bytes h)
  have HM := Lib.hid (conv_bytes k)
  have HE := Lib.hid (str_inj hl hm)
  clear h k hl hm
  go_enter Tryz.func52, Tryz.ntmps52
  repeat (first | (with_reducible refine stopR (id := 1) ?_) | go_values | go_skip | go_guarded | go_step | go_upon | go_back)
  refine Stop.mk (wp_region_lit ?_)
  refine takeL sv rfl (by go_simp) ?_
  try simp only [Act.put, List.setIfInBounds_toArray, List.set_cons_succ, List.set_cons_zero]
  refine takeL (.string (strOfNums l)) rfl (by have hq := HL.out; go_simp) ?_
  try simp only [Act.put, List.setIfInBounds_toArray, List.set_cons_succ, List.set_cons_zero]
  refine takeL cv rfl (by go_simp) ?_
  try simp only [Act.put, List.setIfInBounds_toArray, List.set_cons_succ, List.set_cons_zero]
  refine takeL (.string (strOfNums m)) rfl (by have hq := HM.out; go_simp) ?_
  try simp only [Act.put, List.setIfInBounds_toArray, List.set_cons_succ, List.set_cons_zero]
  refine takeL (.bool (decide (l = m))) rfl (by have hq := HE.out; go_simp) ?_
  try simp only [Act.put, List.setIfInBounds_toArray, List.set_cons_succ, List.set_cons_zero]
  refine takeL (.bool (decide (l = m))) rfl (by go_simp) ?_
  try simp only [Act.put, List.setIfInBounds_toArray, List.set_cons_succ, List.set_cons_zero]
  refine wpList_nil ?_
  go_wp2_with fail
  go_ret
  exact ⟨rfl, rfl⟩
/-- Are two blocks the same? -/
def Bk.same (b c : Bk) : Bool := decide (b.kind = c.kind) && decide (b.id = c.id) && decide (b.page = c.page) && decide (b.off = c.off) && decide (b.bytes = c.bytes) && decide (b.prev = c.prev) && decide (b.heads = c.heads)
theorem Bk.same_iff (b c : Bk) : b.same c = true ↔ b = c := by
  obtain ⟨k, i, p, o, y, v, h⟩ := b
  obtain ⟨k', i', p', o', y', v', h'⟩ := c
  simp [Bk.same, Bk.mk.injEq, and_assoc]
theorem box2 {b c : Bk} {sv cv : Value} (hb : b.Wf) (hc : c.Wf) {w : World} {wA wB : World} (hA : Blk wA w.heap.size (b.cells sv)) (hBA : Below w.heap.size w wA) (hB : Blk wB wA.heap.size (c.cells cv)) (hBB : Below wA.heap.size wA wB) :
    BAt wB w.heap.size b sv ∧ BAt wB wA.heap.size c cv ∧ Below w.heap.size w wB :=
  ⟨⟨hA.below hBB hA.lt, hb⟩, ⟨hB, hc⟩, hBA.trans (hBB.mono hBA.size)⟩
set_option maxRecDepth 100000 in
theorem block_0 (b c : Bk) (h0 : ¬ b.kind = c.kind) (sv cv : Value) (hb : b.Wf) (hc : c.Wf) (w : World) (hsv : BytesAt w sv b.bytes) (hcv : BytesAt w cv c.bytes) : Calls Tryz.prog 33 #[.agg (b.arr sv), .agg (c.arr cv)] w fun e w' => e = .returned (.bool (b.same c)) ∧ Below w.heap.size w w' := by
  have HPb : Hid ((u8s b.page).toArray.size = 32) := Lib.hid (by simpa using hb.page)
  have HPc : Hid ((u8s c.page).toArray.size = 32) := Lib.hid (by simpa using hc.page)
  have HHb : Hid ((i64s b.heads).toArray.size = 8) := Lib.hid (by simpa using hb.heads)
  have HHc : Hid ((i64s c.heads).toArray.size = 8) := Lib.hid (by simpa using hc.heads)
  have HEP := Lib.hid fun w => eql70 w b.page c.page hb.page hc.page
  have HEH := Lib.hid fun w => eql71 w b.heads c.heads hb.heads hc.heads
  have HSV := Lib.hid hsv
  have HCV := Lib.hid hcv
  have HWB := Lib.hid hb
  have HWC := Lib.hid hc
  clear hsv hcv hb hc
  go_enter Tryz.func33, Tryz.ntmps33
  repeat (first | (with_reducible refine stopR (id := 0) ?_) | go_values | go_skip | go_guarded | go_step | go_upon | go_back)
  refine Stop.mk (wp_region_lit ?_)
  refine box_g rfl rfl ?_
  intro wA hA hBA hl
  try simp only [Act.put, List.setIfInBounds_toArray, List.set_cons_succ, List.set_cons_zero]
  refine box_g rfl rfl ?_
  intro wB hB hBB hl2
  try simp only [Act.put, List.setIfInBounds_toArray, List.set_cons_succ, List.set_cons_zero]
  refine takeL (.bool false) rfl (by go_simp) ?_
  try simp only [Act.put, List.setIfInBounds_toArray, List.set_cons_succ, List.set_cons_zero]
  have HX := Lib.hid (box2 HWB.out HWC.out hA hBA hB hBB)
  have HEB := Lib.hid (bytes_any ((HSV.out.below hBA).below hBB) ((HCV.out.below hBA).below hBB) HWB.out.bytess HWC.out.bytess)
  clear hA hBA hB hBB hl hl2 HSV HCV
  generalize hgg : w.heap.size = g at *
  generalize wA.heap.size = r at *
  have HGG := Lib.hid hgg
  clear wA hgg
  refine wpList_nil ?_
  repeat (first | (with_reducible refine stopR (id := 1) ?_) | go_values | go_skip | go_guarded | go_step | go_upon | go_back)
  refine Stop.mk (wp_region_lit ?_)
  have HQ0 : Hid ((b.kind == c.kind) = false) := Lib.hid (by simpa using h0)
  have HRES : Hid (false = b.same c) := Lib.hid (by unfold Bk.same; simp [h0])
  clear h0
  refine takeL (.pointer (some ⟨g, 0, none⟩)) rfl (by go_simp) ?_
  try simp only [Act.put, List.setIfInBounds_toArray, List.set_cons_succ, List.set_cons_zero]
  refine takeL (.int .i64 b.kind) rfl (by have hq := HX.out.1.c0; go_simp) ?_
  try simp only [Act.put, List.setIfInBounds_toArray, List.set_cons_succ, List.set_cons_zero]
  refine takeL (.pointer (some ⟨r, 0, none⟩)) rfl (by go_simp) ?_
  try simp only [Act.put, List.setIfInBounds_toArray, List.set_cons_succ, List.set_cons_zero]
  refine takeL (.int .i64 c.kind) rfl (by have hq := HX.out.2.1.c0; go_simp) ?_
  try simp only [Act.put, List.setIfInBounds_toArray, List.set_cons_succ, List.set_cons_zero]
  refine takeL (.bool false) rfl (by have hq := HQ0.out; go_simp) ?_
  try simp only [Act.put, List.setIfInBounds_toArray, List.set_cons_succ, List.set_cons_zero]
  refine takeL (.bool false) rfl (by go_simp) ?_
  try simp only [Act.put, List.setIfInBounds_toArray, List.set_cons_succ, List.set_cons_zero]
  refine passL rfl ?_
  try simp only [Act.put, List.setIfInBounds_toArray, List.set_cons_succ, List.set_cons_zero]
  refine passL rfl ?_
  try simp only [Act.put, List.setIfInBounds_toArray, List.set_cons_succ, List.set_cons_zero]
  refine passL rfl ?_
  try simp only [Act.put, List.setIfInBounds_toArray, List.set_cons_succ, List.set_cons_zero]
  refine passL rfl ?_
  try simp only [Act.put, List.setIfInBounds_toArray, List.set_cons_succ, List.set_cons_zero]
  refine passL rfl ?_
  try simp only [Act.put, List.setIfInBounds_toArray, List.set_cons_succ, List.set_cons_zero]
  refine takeL (.bool false) rfl (by go_simp) ?_
  try simp only [Act.put, List.setIfInBounds_toArray, List.set_cons_succ, List.set_cons_zero]
  refine takeL (.bool false) rfl (by go_simp) ?_
  try simp only [Act.put, List.setIfInBounds_toArray, List.set_cons_succ, List.set_cons_zero]
  refine passL rfl ?_
  try simp only [Act.put, List.setIfInBounds_toArray, List.set_cons_succ, List.set_cons_zero]
  refine passL rfl ?_
  try simp only [Act.put, List.setIfInBounds_toArray, List.set_cons_succ, List.set_cons_zero]
  refine passL rfl ?_
  try simp only [Act.put, List.setIfInBounds_toArray, List.set_cons_succ, List.set_cons_zero]
  refine passL rfl ?_
  try simp only [Act.put, List.setIfInBounds_toArray, List.set_cons_succ, List.set_cons_zero]
  refine passL rfl ?_
  try simp only [Act.put, List.setIfInBounds_toArray, List.set_cons_succ, List.set_cons_zero]
  refine takeL (.bool false) rfl (by go_simp) ?_
  try simp only [Act.put, List.setIfInBounds_toArray, List.set_cons_succ, List.set_cons_zero]
  refine takeL (.bool false) rfl (by go_simp) ?_
  try simp only [Act.put, List.setIfInBounds_toArray, List.set_cons_succ, List.set_cons_zero]
  refine passL rfl ?_
  try simp only [Act.put, List.setIfInBounds_toArray, List.set_cons_succ, List.set_cons_zero]
  refine passL rfl ?_
  try simp only [Act.put, List.setIfInBounds_toArray, List.set_cons_succ, List.set_cons_zero]
  refine passL rfl ?_
  try simp only [Act.put, List.setIfInBounds_toArray, List.set_cons_succ, List.set_cons_zero]
  refine passL rfl ?_
  try simp only [Act.put, List.setIfInBounds_toArray, List.set_cons_succ, List.set_cons_zero]
  refine passL rfl ?_
  try simp only [Act.put, List.setIfInBounds_toArray, List.set_cons_succ, List.set_cons_zero]
  refine takeL (.bool false) rfl (by go_simp) ?_
  try simp only [Act.put, List.setIfInBounds_toArray, List.set_cons_succ, List.set_cons_zero]
  refine takeL (.bool false) rfl (by go_simp) ?_
  try simp only [Act.put, List.setIfInBounds_toArray, List.set_cons_succ, List.set_cons_zero]
  refine passL rfl ?_
  try simp only [Act.put, List.setIfInBounds_toArray, List.set_cons_succ, List.set_cons_zero]
  refine passL rfl ?_
  try simp only [Act.put, List.setIfInBounds_toArray, List.set_cons_succ, List.set_cons_zero]
  refine passL rfl ?_
  try simp only [Act.put, List.setIfInBounds_toArray, List.set_cons_succ, List.set_cons_zero]
  refine passL rfl ?_
  try simp only [Act.put, List.setIfInBounds_toArray, List.set_cons_succ, List.set_cons_zero]
  refine passL rfl ?_
  try simp only [Act.put, List.setIfInBounds_toArray, List.set_cons_succ, List.set_cons_zero]
  refine takeL (.bool false) rfl (by go_simp) ?_
  try simp only [Act.put, List.setIfInBounds_toArray, List.set_cons_succ, List.set_cons_zero]
  refine takeL (.bool false) rfl (by go_simp) ?_
  try simp only [Act.put, List.setIfInBounds_toArray, List.set_cons_succ, List.set_cons_zero]
  refine passL rfl ?_
  try simp only [Act.put, List.setIfInBounds_toArray, List.set_cons_succ, List.set_cons_zero]
  refine passL rfl ?_
  try simp only [Act.put, List.setIfInBounds_toArray, List.set_cons_succ, List.set_cons_zero]
  refine passL rfl ?_
  try simp only [Act.put, List.setIfInBounds_toArray, List.set_cons_succ, List.set_cons_zero]
  refine passL rfl ?_
  try simp only [Act.put, List.setIfInBounds_toArray, List.set_cons_succ, List.set_cons_zero]
  refine passL rfl ?_
  try simp only [Act.put, List.setIfInBounds_toArray, List.set_cons_succ, List.set_cons_zero]
  refine takeL (.bool false) rfl (by go_simp) ?_
  try simp only [Act.put, List.setIfInBounds_toArray, List.set_cons_succ, List.set_cons_zero]
  refine takeL (.bool false) rfl (by go_simp) ?_
  try simp only [Act.put, List.setIfInBounds_toArray, List.set_cons_succ, List.set_cons_zero]
  refine passL rfl ?_
  try simp only [Act.put, List.setIfInBounds_toArray, List.set_cons_succ, List.set_cons_zero]
  refine passL rfl ?_
  try simp only [Act.put, List.setIfInBounds_toArray, List.set_cons_succ, List.set_cons_zero]
  refine passL rfl ?_
  try simp only [Act.put, List.setIfInBounds_toArray, List.set_cons_succ, List.set_cons_zero]
  refine passL rfl ?_
  try simp only [Act.put, List.setIfInBounds_toArray, List.set_cons_succ, List.set_cons_zero]
  refine passL rfl ?_
  try simp only [Act.put, List.setIfInBounds_toArray, List.set_cons_succ, List.set_cons_zero]
  refine takeL (.bool false) rfl (by go_simp) ?_
  try simp only [Act.put, List.setIfInBounds_toArray, List.set_cons_succ, List.set_cons_zero]
  refine takeL (.bool false) rfl (by go_simp) ?_
  try simp only [Act.put, List.setIfInBounds_toArray, List.set_cons_succ, List.set_cons_zero]
  refine wpList_nil ?_
  go_wp2_with fail
  go_ret
  exact ⟨ret_bool HRES.out, by rw [HGG.out]; exact HX.out.2.2⟩
set_option maxRecDepth 100000 in
theorem block_1 (b c : Bk) (h0 : b.kind = c.kind) (h1 : ¬ b.id = c.id) (sv cv : Value) (hb : b.Wf) (hc : c.Wf) (w : World) (hsv : BytesAt w sv b.bytes) (hcv : BytesAt w cv c.bytes) : Calls Tryz.prog 33 #[.agg (b.arr sv), .agg (c.arr cv)] w fun e w' => e = .returned (.bool (b.same c)) ∧ Below w.heap.size w w' := by
  have HPb : Hid ((u8s b.page).toArray.size = 32) := Lib.hid (by simpa using hb.page)
  have HPc : Hid ((u8s c.page).toArray.size = 32) := Lib.hid (by simpa using hc.page)
  have HHb : Hid ((i64s b.heads).toArray.size = 8) := Lib.hid (by simpa using hb.heads)
  have HHc : Hid ((i64s c.heads).toArray.size = 8) := Lib.hid (by simpa using hc.heads)
  have HEP := Lib.hid fun w => eql70 w b.page c.page hb.page hc.page
  have HEH := Lib.hid fun w => eql71 w b.heads c.heads hb.heads hc.heads
  have HSV := Lib.hid hsv
  have HCV := Lib.hid hcv
  have HWB := Lib.hid hb
  have HWC := Lib.hid hc
  clear hsv hcv hb hc
  go_enter Tryz.func33, Tryz.ntmps33
  repeat (first | (with_reducible refine stopR (id := 0) ?_) | go_values | go_skip | go_guarded | go_step | go_upon | go_back)
  refine Stop.mk (wp_region_lit ?_)
  refine box_g rfl rfl ?_
  intro wA hA hBA hl
  try simp only [Act.put, List.setIfInBounds_toArray, List.set_cons_succ, List.set_cons_zero]
  refine box_g rfl rfl ?_
  intro wB hB hBB hl2
  try simp only [Act.put, List.setIfInBounds_toArray, List.set_cons_succ, List.set_cons_zero]
  refine takeL (.bool false) rfl (by go_simp) ?_
  try simp only [Act.put, List.setIfInBounds_toArray, List.set_cons_succ, List.set_cons_zero]
  have HX := Lib.hid (box2 HWB.out HWC.out hA hBA hB hBB)
  have HEB := Lib.hid (bytes_any ((HSV.out.below hBA).below hBB) ((HCV.out.below hBA).below hBB) HWB.out.bytess HWC.out.bytess)
  clear hA hBA hB hBB hl hl2 HSV HCV
  generalize hgg : w.heap.size = g at *
  generalize wA.heap.size = r at *
  have HGG := Lib.hid hgg
  clear wA hgg
  refine wpList_nil ?_
  repeat (first | (with_reducible refine stopR (id := 1) ?_) | go_values | go_skip | go_guarded | go_step | go_upon | go_back)
  refine Stop.mk (wp_region_lit ?_)
  have HQ0 : Hid ((b.kind == c.kind) = true) := Lib.hid (by simpa using h0)
  have HQ1 : Hid ((b.id == c.id) = false) := Lib.hid (by simpa using h1)
  have HRES : Hid (false = b.same c) := Lib.hid (by unfold Bk.same; simp [h0, h1])
  clear h0 h1
  refine takeL (.pointer (some ⟨g, 0, none⟩)) rfl (by go_simp) ?_
  try simp only [Act.put, List.setIfInBounds_toArray, List.set_cons_succ, List.set_cons_zero]
  refine takeL (.int .i64 b.kind) rfl (by have hq := HX.out.1.c0; go_simp) ?_
  try simp only [Act.put, List.setIfInBounds_toArray, List.set_cons_succ, List.set_cons_zero]
  refine takeL (.pointer (some ⟨r, 0, none⟩)) rfl (by go_simp) ?_
  try simp only [Act.put, List.setIfInBounds_toArray, List.set_cons_succ, List.set_cons_zero]
  refine takeL (.int .i64 c.kind) rfl (by have hq := HX.out.2.1.c0; go_simp) ?_
  try simp only [Act.put, List.setIfInBounds_toArray, List.set_cons_succ, List.set_cons_zero]
  refine takeL (.bool true) rfl (by have hq := HQ0.out; go_simp) ?_
  try simp only [Act.put, List.setIfInBounds_toArray, List.set_cons_succ, List.set_cons_zero]
  refine takeL (.bool true) rfl (by go_simp) ?_
  try simp only [Act.put, List.setIfInBounds_toArray, List.set_cons_succ, List.set_cons_zero]
  refine takeL (.pointer (some ⟨g, 1, none⟩)) rfl (by go_simp) ?_
  try simp only [Act.put, List.setIfInBounds_toArray, List.set_cons_succ, List.set_cons_zero]
  refine takeL (.int .i64 b.id) rfl (by have hq := HX.out.1.c1; go_simp) ?_
  try simp only [Act.put, List.setIfInBounds_toArray, List.set_cons_succ, List.set_cons_zero]
  refine takeL (.pointer (some ⟨r, 1, none⟩)) rfl (by go_simp) ?_
  try simp only [Act.put, List.setIfInBounds_toArray, List.set_cons_succ, List.set_cons_zero]
  refine takeL (.int .i64 c.id) rfl (by have hq := HX.out.2.1.c1; go_simp) ?_
  try simp only [Act.put, List.setIfInBounds_toArray, List.set_cons_succ, List.set_cons_zero]
  refine takeL (.bool false) rfl (by have hq := HQ1.out; go_simp) ?_
  try simp only [Act.put, List.setIfInBounds_toArray, List.set_cons_succ, List.set_cons_zero]
  refine takeL (.bool false) rfl (by go_simp) ?_
  try simp only [Act.put, List.setIfInBounds_toArray, List.set_cons_succ, List.set_cons_zero]
  refine takeL (.bool false) rfl (by go_simp) ?_
  try simp only [Act.put, List.setIfInBounds_toArray, List.set_cons_succ, List.set_cons_zero]
  refine passL rfl ?_
  try simp only [Act.put, List.setIfInBounds_toArray, List.set_cons_succ, List.set_cons_zero]
  refine passL rfl ?_
  try simp only [Act.put, List.setIfInBounds_toArray, List.set_cons_succ, List.set_cons_zero]
  refine passL rfl ?_
  try simp only [Act.put, List.setIfInBounds_toArray, List.set_cons_succ, List.set_cons_zero]
  refine passL rfl ?_
  try simp only [Act.put, List.setIfInBounds_toArray, List.set_cons_succ, List.set_cons_zero]
  refine passL rfl ?_
  try simp only [Act.put, List.setIfInBounds_toArray, List.set_cons_succ, List.set_cons_zero]
  refine takeL (.bool false) rfl (by go_simp) ?_
  try simp only [Act.put, List.setIfInBounds_toArray, List.set_cons_succ, List.set_cons_zero]
  refine takeL (.bool false) rfl (by go_simp) ?_
  try simp only [Act.put, List.setIfInBounds_toArray, List.set_cons_succ, List.set_cons_zero]
  refine passL rfl ?_
  try simp only [Act.put, List.setIfInBounds_toArray, List.set_cons_succ, List.set_cons_zero]
  refine passL rfl ?_
  try simp only [Act.put, List.setIfInBounds_toArray, List.set_cons_succ, List.set_cons_zero]
  refine passL rfl ?_
  try simp only [Act.put, List.setIfInBounds_toArray, List.set_cons_succ, List.set_cons_zero]
  refine passL rfl ?_
  try simp only [Act.put, List.setIfInBounds_toArray, List.set_cons_succ, List.set_cons_zero]
  refine passL rfl ?_
  try simp only [Act.put, List.setIfInBounds_toArray, List.set_cons_succ, List.set_cons_zero]
  refine takeL (.bool false) rfl (by go_simp) ?_
  try simp only [Act.put, List.setIfInBounds_toArray, List.set_cons_succ, List.set_cons_zero]
  refine takeL (.bool false) rfl (by go_simp) ?_
  try simp only [Act.put, List.setIfInBounds_toArray, List.set_cons_succ, List.set_cons_zero]
  refine passL rfl ?_
  try simp only [Act.put, List.setIfInBounds_toArray, List.set_cons_succ, List.set_cons_zero]
  refine passL rfl ?_
  try simp only [Act.put, List.setIfInBounds_toArray, List.set_cons_succ, List.set_cons_zero]
  refine passL rfl ?_
  try simp only [Act.put, List.setIfInBounds_toArray, List.set_cons_succ, List.set_cons_zero]
  refine passL rfl ?_
  try simp only [Act.put, List.setIfInBounds_toArray, List.set_cons_succ, List.set_cons_zero]
  refine passL rfl ?_
  try simp only [Act.put, List.setIfInBounds_toArray, List.set_cons_succ, List.set_cons_zero]
  refine takeL (.bool false) rfl (by go_simp) ?_
  try simp only [Act.put, List.setIfInBounds_toArray, List.set_cons_succ, List.set_cons_zero]
  refine takeL (.bool false) rfl (by go_simp) ?_
  try simp only [Act.put, List.setIfInBounds_toArray, List.set_cons_succ, List.set_cons_zero]
  refine passL rfl ?_
  try simp only [Act.put, List.setIfInBounds_toArray, List.set_cons_succ, List.set_cons_zero]
  refine passL rfl ?_
  try simp only [Act.put, List.setIfInBounds_toArray, List.set_cons_succ, List.set_cons_zero]
  refine passL rfl ?_
  try simp only [Act.put, List.setIfInBounds_toArray, List.set_cons_succ, List.set_cons_zero]
  refine passL rfl ?_
  try simp only [Act.put, List.setIfInBounds_toArray, List.set_cons_succ, List.set_cons_zero]
  refine passL rfl ?_
  try simp only [Act.put, List.setIfInBounds_toArray, List.set_cons_succ, List.set_cons_zero]
  refine takeL (.bool false) rfl (by go_simp) ?_
  try simp only [Act.put, List.setIfInBounds_toArray, List.set_cons_succ, List.set_cons_zero]
  refine takeL (.bool false) rfl (by go_simp) ?_
  try simp only [Act.put, List.setIfInBounds_toArray, List.set_cons_succ, List.set_cons_zero]
  refine passL rfl ?_
  try simp only [Act.put, List.setIfInBounds_toArray, List.set_cons_succ, List.set_cons_zero]
  refine passL rfl ?_
  try simp only [Act.put, List.setIfInBounds_toArray, List.set_cons_succ, List.set_cons_zero]
  refine passL rfl ?_
  try simp only [Act.put, List.setIfInBounds_toArray, List.set_cons_succ, List.set_cons_zero]
  refine passL rfl ?_
  try simp only [Act.put, List.setIfInBounds_toArray, List.set_cons_succ, List.set_cons_zero]
  refine passL rfl ?_
  try simp only [Act.put, List.setIfInBounds_toArray, List.set_cons_succ, List.set_cons_zero]
  refine takeL (.bool false) rfl (by go_simp) ?_
  try simp only [Act.put, List.setIfInBounds_toArray, List.set_cons_succ, List.set_cons_zero]
  refine takeL (.bool false) rfl (by go_simp) ?_
  try simp only [Act.put, List.setIfInBounds_toArray, List.set_cons_succ, List.set_cons_zero]
  refine wpList_nil ?_
  go_wp2_with fail
  go_ret
  exact ⟨ret_bool HRES.out, by rw [HGG.out]; exact HX.out.2.2⟩
set_option maxRecDepth 100000 in
theorem block_2 (b c : Bk) (h0 : b.kind = c.kind) (h1 : b.id = c.id) (h2 : ¬ b.page = c.page) (sv cv : Value) (hb : b.Wf) (hc : c.Wf) (w : World) (hsv : BytesAt w sv b.bytes) (hcv : BytesAt w cv c.bytes) : Calls Tryz.prog 33 #[.agg (b.arr sv), .agg (c.arr cv)] w fun e w' => e = .returned (.bool (b.same c)) ∧ Below w.heap.size w w' := by
  have HPb : Hid ((u8s b.page).toArray.size = 32) := Lib.hid (by simpa using hb.page)
  have HPc : Hid ((u8s c.page).toArray.size = 32) := Lib.hid (by simpa using hc.page)
  have HHb : Hid ((i64s b.heads).toArray.size = 8) := Lib.hid (by simpa using hb.heads)
  have HHc : Hid ((i64s c.heads).toArray.size = 8) := Lib.hid (by simpa using hc.heads)
  have HEP := Lib.hid fun w => eql70 w b.page c.page hb.page hc.page
  have HEH := Lib.hid fun w => eql71 w b.heads c.heads hb.heads hc.heads
  have HSV := Lib.hid hsv
  have HCV := Lib.hid hcv
  have HWB := Lib.hid hb
  have HWC := Lib.hid hc
  clear hsv hcv hb hc
  go_enter Tryz.func33, Tryz.ntmps33
  repeat (first | (with_reducible refine stopR (id := 0) ?_) | go_values | go_skip | go_guarded | go_step | go_upon | go_back)
  refine Stop.mk (wp_region_lit ?_)
  refine box_g rfl rfl ?_
  intro wA hA hBA hl
  try simp only [Act.put, List.setIfInBounds_toArray, List.set_cons_succ, List.set_cons_zero]
  refine box_g rfl rfl ?_
  intro wB hB hBB hl2
  try simp only [Act.put, List.setIfInBounds_toArray, List.set_cons_succ, List.set_cons_zero]
  refine takeL (.bool false) rfl (by go_simp) ?_
  try simp only [Act.put, List.setIfInBounds_toArray, List.set_cons_succ, List.set_cons_zero]
  have HX := Lib.hid (box2 HWB.out HWC.out hA hBA hB hBB)
  have HEB := Lib.hid (bytes_any ((HSV.out.below hBA).below hBB) ((HCV.out.below hBA).below hBB) HWB.out.bytess HWC.out.bytess)
  clear hA hBA hB hBB hl hl2 HSV HCV
  generalize hgg : w.heap.size = g at *
  generalize wA.heap.size = r at *
  have HGG := Lib.hid hgg
  clear wA hgg
  refine wpList_nil ?_
  repeat (first | (with_reducible refine stopR (id := 1) ?_) | go_values | go_skip | go_guarded | go_step | go_upon | go_back)
  refine Stop.mk (wp_region_lit ?_)
  have HQ0 : Hid ((b.kind == c.kind) = true) := Lib.hid (by simpa using h0)
  have HQ1 : Hid ((b.id == c.id) = true) := Lib.hid (by simpa using h1)
  have h2' := decide_eq_false h2
  rw [h2'] at HEP
  clear h2'
  have HRES : Hid (false = b.same c) := Lib.hid (by unfold Bk.same; simp [h0, h1, h2])
  clear h0 h1 h2
  refine takeL (.pointer (some ⟨g, 0, none⟩)) rfl (by go_simp) ?_
  try simp only [Act.put, List.setIfInBounds_toArray, List.set_cons_succ, List.set_cons_zero]
  refine takeL (.int .i64 b.kind) rfl (by have hq := HX.out.1.c0; go_simp) ?_
  try simp only [Act.put, List.setIfInBounds_toArray, List.set_cons_succ, List.set_cons_zero]
  refine takeL (.pointer (some ⟨r, 0, none⟩)) rfl (by go_simp) ?_
  try simp only [Act.put, List.setIfInBounds_toArray, List.set_cons_succ, List.set_cons_zero]
  refine takeL (.int .i64 c.kind) rfl (by have hq := HX.out.2.1.c0; go_simp) ?_
  try simp only [Act.put, List.setIfInBounds_toArray, List.set_cons_succ, List.set_cons_zero]
  refine takeL (.bool true) rfl (by have hq := HQ0.out; go_simp) ?_
  try simp only [Act.put, List.setIfInBounds_toArray, List.set_cons_succ, List.set_cons_zero]
  refine takeL (.bool true) rfl (by go_simp) ?_
  try simp only [Act.put, List.setIfInBounds_toArray, List.set_cons_succ, List.set_cons_zero]
  refine takeL (.pointer (some ⟨g, 1, none⟩)) rfl (by go_simp) ?_
  try simp only [Act.put, List.setIfInBounds_toArray, List.set_cons_succ, List.set_cons_zero]
  refine takeL (.int .i64 b.id) rfl (by have hq := HX.out.1.c1; go_simp) ?_
  try simp only [Act.put, List.setIfInBounds_toArray, List.set_cons_succ, List.set_cons_zero]
  refine takeL (.pointer (some ⟨r, 1, none⟩)) rfl (by go_simp) ?_
  try simp only [Act.put, List.setIfInBounds_toArray, List.set_cons_succ, List.set_cons_zero]
  refine takeL (.int .i64 c.id) rfl (by have hq := HX.out.2.1.c1; go_simp) ?_
  try simp only [Act.put, List.setIfInBounds_toArray, List.set_cons_succ, List.set_cons_zero]
  refine takeL (.bool true) rfl (by have hq := HQ1.out; go_simp) ?_
  try simp only [Act.put, List.setIfInBounds_toArray, List.set_cons_succ, List.set_cons_zero]
  refine takeL (.bool true) rfl (by go_simp) ?_
  try simp only [Act.put, List.setIfInBounds_toArray, List.set_cons_succ, List.set_cons_zero]
  refine takeL (.bool true) rfl (by go_simp) ?_
  try simp only [Act.put, List.setIfInBounds_toArray, List.set_cons_succ, List.set_cons_zero]
  refine takeL (.pointer (some ⟨g, 2, none⟩)) rfl (by go_simp) ?_
  try simp only [Act.put, List.setIfInBounds_toArray, List.set_cons_succ, List.set_cons_zero]
  refine load70 HX.out.1.page HPb.out rfl rfl ?_
  try simp only [Act.put, List.setIfInBounds_toArray, List.set_cons_succ, List.set_cons_zero]
  refine takeL (.pointer (some ⟨r, 2, none⟩)) rfl (by go_simp) ?_
  try simp only [Act.put, List.setIfInBounds_toArray, List.set_cons_succ, List.set_cons_zero]
  refine load70 HX.out.2.1.page HPc.out rfl rfl ?_
  try simp only [Act.put, List.setIfInBounds_toArray, List.set_cons_succ, List.set_cons_zero]
  refine takeL (.bool false) rfl (by have hq := HEP.out; go_simp) ?_
  try simp only [Act.put, List.setIfInBounds_toArray, List.set_cons_succ, List.set_cons_zero]
  refine takeL (.bool false) rfl (by go_simp) ?_
  try simp only [Act.put, List.setIfInBounds_toArray, List.set_cons_succ, List.set_cons_zero]
  refine takeL (.bool false) rfl (by go_simp) ?_
  try simp only [Act.put, List.setIfInBounds_toArray, List.set_cons_succ, List.set_cons_zero]
  refine passL rfl ?_
  try simp only [Act.put, List.setIfInBounds_toArray, List.set_cons_succ, List.set_cons_zero]
  refine passL rfl ?_
  try simp only [Act.put, List.setIfInBounds_toArray, List.set_cons_succ, List.set_cons_zero]
  refine passL rfl ?_
  try simp only [Act.put, List.setIfInBounds_toArray, List.set_cons_succ, List.set_cons_zero]
  refine passL rfl ?_
  try simp only [Act.put, List.setIfInBounds_toArray, List.set_cons_succ, List.set_cons_zero]
  refine passL rfl ?_
  try simp only [Act.put, List.setIfInBounds_toArray, List.set_cons_succ, List.set_cons_zero]
  refine takeL (.bool false) rfl (by go_simp) ?_
  try simp only [Act.put, List.setIfInBounds_toArray, List.set_cons_succ, List.set_cons_zero]
  refine takeL (.bool false) rfl (by go_simp) ?_
  try simp only [Act.put, List.setIfInBounds_toArray, List.set_cons_succ, List.set_cons_zero]
  refine passL rfl ?_
  try simp only [Act.put, List.setIfInBounds_toArray, List.set_cons_succ, List.set_cons_zero]
  refine passL rfl ?_
  try simp only [Act.put, List.setIfInBounds_toArray, List.set_cons_succ, List.set_cons_zero]
  refine passL rfl ?_
  try simp only [Act.put, List.setIfInBounds_toArray, List.set_cons_succ, List.set_cons_zero]
  refine passL rfl ?_
  try simp only [Act.put, List.setIfInBounds_toArray, List.set_cons_succ, List.set_cons_zero]
  refine passL rfl ?_
  try simp only [Act.put, List.setIfInBounds_toArray, List.set_cons_succ, List.set_cons_zero]
  refine takeL (.bool false) rfl (by go_simp) ?_
  try simp only [Act.put, List.setIfInBounds_toArray, List.set_cons_succ, List.set_cons_zero]
  refine takeL (.bool false) rfl (by go_simp) ?_
  try simp only [Act.put, List.setIfInBounds_toArray, List.set_cons_succ, List.set_cons_zero]
  refine passL rfl ?_
  try simp only [Act.put, List.setIfInBounds_toArray, List.set_cons_succ, List.set_cons_zero]
  refine passL rfl ?_
  try simp only [Act.put, List.setIfInBounds_toArray, List.set_cons_succ, List.set_cons_zero]
  refine passL rfl ?_
  try simp only [Act.put, List.setIfInBounds_toArray, List.set_cons_succ, List.set_cons_zero]
  refine passL rfl ?_
  try simp only [Act.put, List.setIfInBounds_toArray, List.set_cons_succ, List.set_cons_zero]
  refine passL rfl ?_
  try simp only [Act.put, List.setIfInBounds_toArray, List.set_cons_succ, List.set_cons_zero]
  refine takeL (.bool false) rfl (by go_simp) ?_
  try simp only [Act.put, List.setIfInBounds_toArray, List.set_cons_succ, List.set_cons_zero]
  refine takeL (.bool false) rfl (by go_simp) ?_
  try simp only [Act.put, List.setIfInBounds_toArray, List.set_cons_succ, List.set_cons_zero]
  refine passL rfl ?_
  try simp only [Act.put, List.setIfInBounds_toArray, List.set_cons_succ, List.set_cons_zero]
  refine passL rfl ?_
  try simp only [Act.put, List.setIfInBounds_toArray, List.set_cons_succ, List.set_cons_zero]
  refine passL rfl ?_
  try simp only [Act.put, List.setIfInBounds_toArray, List.set_cons_succ, List.set_cons_zero]
  refine passL rfl ?_
  try simp only [Act.put, List.setIfInBounds_toArray, List.set_cons_succ, List.set_cons_zero]
  refine passL rfl ?_
  try simp only [Act.put, List.setIfInBounds_toArray, List.set_cons_succ, List.set_cons_zero]
  refine takeL (.bool false) rfl (by go_simp) ?_
  try simp only [Act.put, List.setIfInBounds_toArray, List.set_cons_succ, List.set_cons_zero]
  refine takeL (.bool false) rfl (by go_simp) ?_
  try simp only [Act.put, List.setIfInBounds_toArray, List.set_cons_succ, List.set_cons_zero]
  refine wpList_nil ?_
  go_wp2_with fail
  go_ret
  exact ⟨ret_bool HRES.out, by rw [HGG.out]; exact HX.out.2.2⟩
set_option maxRecDepth 100000 in
theorem block_3 (b c : Bk) (h0 : b.kind = c.kind) (h1 : b.id = c.id) (h2 : b.page = c.page) (h3 : ¬ b.off = c.off) (sv cv : Value) (hb : b.Wf) (hc : c.Wf) (w : World) (hsv : BytesAt w sv b.bytes) (hcv : BytesAt w cv c.bytes) : Calls Tryz.prog 33 #[.agg (b.arr sv), .agg (c.arr cv)] w fun e w' => e = .returned (.bool (b.same c)) ∧ Below w.heap.size w w' := by
  have HPb : Hid ((u8s b.page).toArray.size = 32) := Lib.hid (by simpa using hb.page)
  have HPc : Hid ((u8s c.page).toArray.size = 32) := Lib.hid (by simpa using hc.page)
  have HHb : Hid ((i64s b.heads).toArray.size = 8) := Lib.hid (by simpa using hb.heads)
  have HHc : Hid ((i64s c.heads).toArray.size = 8) := Lib.hid (by simpa using hc.heads)
  have HEP := Lib.hid fun w => eql70 w b.page c.page hb.page hc.page
  have HEH := Lib.hid fun w => eql71 w b.heads c.heads hb.heads hc.heads
  have HSV := Lib.hid hsv
  have HCV := Lib.hid hcv
  have HWB := Lib.hid hb
  have HWC := Lib.hid hc
  clear hsv hcv hb hc
  go_enter Tryz.func33, Tryz.ntmps33
  repeat (first | (with_reducible refine stopR (id := 0) ?_) | go_values | go_skip | go_guarded | go_step | go_upon | go_back)
  refine Stop.mk (wp_region_lit ?_)
  refine box_g rfl rfl ?_
  intro wA hA hBA hl
  try simp only [Act.put, List.setIfInBounds_toArray, List.set_cons_succ, List.set_cons_zero]
  refine box_g rfl rfl ?_
  intro wB hB hBB hl2
  try simp only [Act.put, List.setIfInBounds_toArray, List.set_cons_succ, List.set_cons_zero]
  refine takeL (.bool false) rfl (by go_simp) ?_
  try simp only [Act.put, List.setIfInBounds_toArray, List.set_cons_succ, List.set_cons_zero]
  have HX := Lib.hid (box2 HWB.out HWC.out hA hBA hB hBB)
  have HEB := Lib.hid (bytes_any ((HSV.out.below hBA).below hBB) ((HCV.out.below hBA).below hBB) HWB.out.bytess HWC.out.bytess)
  clear hA hBA hB hBB hl hl2 HSV HCV
  generalize hgg : w.heap.size = g at *
  generalize wA.heap.size = r at *
  have HGG := Lib.hid hgg
  clear wA hgg
  refine wpList_nil ?_
  repeat (first | (with_reducible refine stopR (id := 1) ?_) | go_values | go_skip | go_guarded | go_step | go_upon | go_back)
  refine Stop.mk (wp_region_lit ?_)
  have HQ0 : Hid ((b.kind == c.kind) = true) := Lib.hid (by simpa using h0)
  have HQ1 : Hid ((b.id == c.id) = true) := Lib.hid (by simpa using h1)
  have h2' := decide_eq_true h2
  rw [h2'] at HEP
  clear h2'
  have HQ3 : Hid ((b.off == c.off) = false) := Lib.hid (by simpa using h3)
  have HRES : Hid (false = b.same c) := Lib.hid (by unfold Bk.same; simp [h0, h1, h2, h3])
  clear h0 h1 h2 h3
  refine takeL (.pointer (some ⟨g, 0, none⟩)) rfl (by go_simp) ?_
  try simp only [Act.put, List.setIfInBounds_toArray, List.set_cons_succ, List.set_cons_zero]
  refine takeL (.int .i64 b.kind) rfl (by have hq := HX.out.1.c0; go_simp) ?_
  try simp only [Act.put, List.setIfInBounds_toArray, List.set_cons_succ, List.set_cons_zero]
  refine takeL (.pointer (some ⟨r, 0, none⟩)) rfl (by go_simp) ?_
  try simp only [Act.put, List.setIfInBounds_toArray, List.set_cons_succ, List.set_cons_zero]
  refine takeL (.int .i64 c.kind) rfl (by have hq := HX.out.2.1.c0; go_simp) ?_
  try simp only [Act.put, List.setIfInBounds_toArray, List.set_cons_succ, List.set_cons_zero]
  refine takeL (.bool true) rfl (by have hq := HQ0.out; go_simp) ?_
  try simp only [Act.put, List.setIfInBounds_toArray, List.set_cons_succ, List.set_cons_zero]
  refine takeL (.bool true) rfl (by go_simp) ?_
  try simp only [Act.put, List.setIfInBounds_toArray, List.set_cons_succ, List.set_cons_zero]
  refine takeL (.pointer (some ⟨g, 1, none⟩)) rfl (by go_simp) ?_
  try simp only [Act.put, List.setIfInBounds_toArray, List.set_cons_succ, List.set_cons_zero]
  refine takeL (.int .i64 b.id) rfl (by have hq := HX.out.1.c1; go_simp) ?_
  try simp only [Act.put, List.setIfInBounds_toArray, List.set_cons_succ, List.set_cons_zero]
  refine takeL (.pointer (some ⟨r, 1, none⟩)) rfl (by go_simp) ?_
  try simp only [Act.put, List.setIfInBounds_toArray, List.set_cons_succ, List.set_cons_zero]
  refine takeL (.int .i64 c.id) rfl (by have hq := HX.out.2.1.c1; go_simp) ?_
  try simp only [Act.put, List.setIfInBounds_toArray, List.set_cons_succ, List.set_cons_zero]
  refine takeL (.bool true) rfl (by have hq := HQ1.out; go_simp) ?_
  try simp only [Act.put, List.setIfInBounds_toArray, List.set_cons_succ, List.set_cons_zero]
  refine takeL (.bool true) rfl (by go_simp) ?_
  try simp only [Act.put, List.setIfInBounds_toArray, List.set_cons_succ, List.set_cons_zero]
  refine takeL (.bool true) rfl (by go_simp) ?_
  try simp only [Act.put, List.setIfInBounds_toArray, List.set_cons_succ, List.set_cons_zero]
  refine takeL (.pointer (some ⟨g, 2, none⟩)) rfl (by go_simp) ?_
  try simp only [Act.put, List.setIfInBounds_toArray, List.set_cons_succ, List.set_cons_zero]
  refine load70 HX.out.1.page HPb.out rfl rfl ?_
  try simp only [Act.put, List.setIfInBounds_toArray, List.set_cons_succ, List.set_cons_zero]
  refine takeL (.pointer (some ⟨r, 2, none⟩)) rfl (by go_simp) ?_
  try simp only [Act.put, List.setIfInBounds_toArray, List.set_cons_succ, List.set_cons_zero]
  refine load70 HX.out.2.1.page HPc.out rfl rfl ?_
  try simp only [Act.put, List.setIfInBounds_toArray, List.set_cons_succ, List.set_cons_zero]
  refine takeL (.bool true) rfl (by have hq := HEP.out; go_simp) ?_
  try simp only [Act.put, List.setIfInBounds_toArray, List.set_cons_succ, List.set_cons_zero]
  refine takeL (.bool true) rfl (by go_simp) ?_
  try simp only [Act.put, List.setIfInBounds_toArray, List.set_cons_succ, List.set_cons_zero]
  refine takeL (.bool true) rfl (by go_simp) ?_
  try simp only [Act.put, List.setIfInBounds_toArray, List.set_cons_succ, List.set_cons_zero]
  refine takeL (.pointer (some ⟨g, 34, none⟩)) rfl (by go_simp) ?_
  try simp only [Act.put, List.setIfInBounds_toArray, List.set_cons_succ, List.set_cons_zero]
  refine takeL (.int .i64 b.off) rfl (by have hq := HX.out.1.c34; go_simp) ?_
  try simp only [Act.put, List.setIfInBounds_toArray, List.set_cons_succ, List.set_cons_zero]
  refine takeL (.pointer (some ⟨r, 34, none⟩)) rfl (by go_simp) ?_
  try simp only [Act.put, List.setIfInBounds_toArray, List.set_cons_succ, List.set_cons_zero]
  refine takeL (.int .i64 c.off) rfl (by have hq := HX.out.2.1.c34; go_simp) ?_
  try simp only [Act.put, List.setIfInBounds_toArray, List.set_cons_succ, List.set_cons_zero]
  refine takeL (.bool false) rfl (by have hq := HQ3.out; go_simp) ?_
  try simp only [Act.put, List.setIfInBounds_toArray, List.set_cons_succ, List.set_cons_zero]
  refine takeL (.bool false) rfl (by go_simp) ?_
  try simp only [Act.put, List.setIfInBounds_toArray, List.set_cons_succ, List.set_cons_zero]
  refine takeL (.bool false) rfl (by go_simp) ?_
  try simp only [Act.put, List.setIfInBounds_toArray, List.set_cons_succ, List.set_cons_zero]
  refine passL rfl ?_
  try simp only [Act.put, List.setIfInBounds_toArray, List.set_cons_succ, List.set_cons_zero]
  refine passL rfl ?_
  try simp only [Act.put, List.setIfInBounds_toArray, List.set_cons_succ, List.set_cons_zero]
  refine passL rfl ?_
  try simp only [Act.put, List.setIfInBounds_toArray, List.set_cons_succ, List.set_cons_zero]
  refine passL rfl ?_
  try simp only [Act.put, List.setIfInBounds_toArray, List.set_cons_succ, List.set_cons_zero]
  refine passL rfl ?_
  try simp only [Act.put, List.setIfInBounds_toArray, List.set_cons_succ, List.set_cons_zero]
  refine takeL (.bool false) rfl (by go_simp) ?_
  try simp only [Act.put, List.setIfInBounds_toArray, List.set_cons_succ, List.set_cons_zero]
  refine takeL (.bool false) rfl (by go_simp) ?_
  try simp only [Act.put, List.setIfInBounds_toArray, List.set_cons_succ, List.set_cons_zero]
  refine passL rfl ?_
  try simp only [Act.put, List.setIfInBounds_toArray, List.set_cons_succ, List.set_cons_zero]
  refine passL rfl ?_
  try simp only [Act.put, List.setIfInBounds_toArray, List.set_cons_succ, List.set_cons_zero]
  refine passL rfl ?_
  try simp only [Act.put, List.setIfInBounds_toArray, List.set_cons_succ, List.set_cons_zero]
  refine passL rfl ?_
  try simp only [Act.put, List.setIfInBounds_toArray, List.set_cons_succ, List.set_cons_zero]
  refine passL rfl ?_
  try simp only [Act.put, List.setIfInBounds_toArray, List.set_cons_succ, List.set_cons_zero]
  refine takeL (.bool false) rfl (by go_simp) ?_
  try simp only [Act.put, List.setIfInBounds_toArray, List.set_cons_succ, List.set_cons_zero]
  refine takeL (.bool false) rfl (by go_simp) ?_
  try simp only [Act.put, List.setIfInBounds_toArray, List.set_cons_succ, List.set_cons_zero]
  refine passL rfl ?_
  try simp only [Act.put, List.setIfInBounds_toArray, List.set_cons_succ, List.set_cons_zero]
  refine passL rfl ?_
  try simp only [Act.put, List.setIfInBounds_toArray, List.set_cons_succ, List.set_cons_zero]
  refine passL rfl ?_
  try simp only [Act.put, List.setIfInBounds_toArray, List.set_cons_succ, List.set_cons_zero]
  refine passL rfl ?_
  try simp only [Act.put, List.setIfInBounds_toArray, List.set_cons_succ, List.set_cons_zero]
  refine passL rfl ?_
  try simp only [Act.put, List.setIfInBounds_toArray, List.set_cons_succ, List.set_cons_zero]
  refine takeL (.bool false) rfl (by go_simp) ?_
  try simp only [Act.put, List.setIfInBounds_toArray, List.set_cons_succ, List.set_cons_zero]
  refine takeL (.bool false) rfl (by go_simp) ?_
  try simp only [Act.put, List.setIfInBounds_toArray, List.set_cons_succ, List.set_cons_zero]
  refine wpList_nil ?_
  go_wp2_with fail
  go_ret
  exact ⟨ret_bool HRES.out, by rw [HGG.out]; exact HX.out.2.2⟩
set_option maxRecDepth 100000 in
theorem block_4 (b c : Bk) (h0 : b.kind = c.kind) (h1 : b.id = c.id) (h2 : b.page = c.page) (h3 : b.off = c.off) (h4 : ¬ b.bytes = c.bytes) (sv cv : Value) (hb : b.Wf) (hc : c.Wf) (w : World) (hsv : BytesAt w sv b.bytes) (hcv : BytesAt w cv c.bytes) : Calls Tryz.prog 33 #[.agg (b.arr sv), .agg (c.arr cv)] w fun e w' => e = .returned (.bool (b.same c)) ∧ Below w.heap.size w w' := by
  have HPb : Hid ((u8s b.page).toArray.size = 32) := Lib.hid (by simpa using hb.page)
  have HPc : Hid ((u8s c.page).toArray.size = 32) := Lib.hid (by simpa using hc.page)
  have HHb : Hid ((i64s b.heads).toArray.size = 8) := Lib.hid (by simpa using hb.heads)
  have HHc : Hid ((i64s c.heads).toArray.size = 8) := Lib.hid (by simpa using hc.heads)
  have HEP := Lib.hid fun w => eql70 w b.page c.page hb.page hc.page
  have HEH := Lib.hid fun w => eql71 w b.heads c.heads hb.heads hc.heads
  have HSV := Lib.hid hsv
  have HCV := Lib.hid hcv
  have HWB := Lib.hid hb
  have HWC := Lib.hid hc
  clear hsv hcv hb hc
  go_enter Tryz.func33, Tryz.ntmps33
  repeat (first | (with_reducible refine stopR (id := 0) ?_) | go_values | go_skip | go_guarded | go_step | go_upon | go_back)
  refine Stop.mk (wp_region_lit ?_)
  refine box_g rfl rfl ?_
  intro wA hA hBA hl
  try simp only [Act.put, List.setIfInBounds_toArray, List.set_cons_succ, List.set_cons_zero]
  refine box_g rfl rfl ?_
  intro wB hB hBB hl2
  try simp only [Act.put, List.setIfInBounds_toArray, List.set_cons_succ, List.set_cons_zero]
  refine takeL (.bool false) rfl (by go_simp) ?_
  try simp only [Act.put, List.setIfInBounds_toArray, List.set_cons_succ, List.set_cons_zero]
  have HX := Lib.hid (box2 HWB.out HWC.out hA hBA hB hBB)
  have HEB := Lib.hid (bytes_any ((HSV.out.below hBA).below hBB) ((HCV.out.below hBA).below hBB) HWB.out.bytess HWC.out.bytess)
  clear hA hBA hB hBB hl hl2 HSV HCV
  generalize hgg : w.heap.size = g at *
  generalize wA.heap.size = r at *
  have HGG := Lib.hid hgg
  clear wA hgg
  refine wpList_nil ?_
  repeat (first | (with_reducible refine stopR (id := 1) ?_) | go_values | go_skip | go_guarded | go_step | go_upon | go_back)
  refine Stop.mk (wp_region_lit ?_)
  have HQ0 : Hid ((b.kind == c.kind) = true) := Lib.hid (by simpa using h0)
  have HQ1 : Hid ((b.id == c.id) = true) := Lib.hid (by simpa using h1)
  have h2' := decide_eq_true h2
  rw [h2'] at HEP
  clear h2'
  have HQ3 : Hid ((b.off == c.off) = true) := Lib.hid (by simpa using h3)
  have h4' := decide_eq_false h4
  rw [h4'] at HEB
  clear h4'
  have HRES : Hid (false = b.same c) := Lib.hid (by unfold Bk.same; simp [h0, h1, h2, h3, h4])
  clear h0 h1 h2 h3 h4
  refine takeL (.pointer (some ⟨g, 0, none⟩)) rfl (by go_simp) ?_
  try simp only [Act.put, List.setIfInBounds_toArray, List.set_cons_succ, List.set_cons_zero]
  refine takeL (.int .i64 b.kind) rfl (by have hq := HX.out.1.c0; go_simp) ?_
  try simp only [Act.put, List.setIfInBounds_toArray, List.set_cons_succ, List.set_cons_zero]
  refine takeL (.pointer (some ⟨r, 0, none⟩)) rfl (by go_simp) ?_
  try simp only [Act.put, List.setIfInBounds_toArray, List.set_cons_succ, List.set_cons_zero]
  refine takeL (.int .i64 c.kind) rfl (by have hq := HX.out.2.1.c0; go_simp) ?_
  try simp only [Act.put, List.setIfInBounds_toArray, List.set_cons_succ, List.set_cons_zero]
  refine takeL (.bool true) rfl (by have hq := HQ0.out; go_simp) ?_
  try simp only [Act.put, List.setIfInBounds_toArray, List.set_cons_succ, List.set_cons_zero]
  refine takeL (.bool true) rfl (by go_simp) ?_
  try simp only [Act.put, List.setIfInBounds_toArray, List.set_cons_succ, List.set_cons_zero]
  refine takeL (.pointer (some ⟨g, 1, none⟩)) rfl (by go_simp) ?_
  try simp only [Act.put, List.setIfInBounds_toArray, List.set_cons_succ, List.set_cons_zero]
  refine takeL (.int .i64 b.id) rfl (by have hq := HX.out.1.c1; go_simp) ?_
  try simp only [Act.put, List.setIfInBounds_toArray, List.set_cons_succ, List.set_cons_zero]
  refine takeL (.pointer (some ⟨r, 1, none⟩)) rfl (by go_simp) ?_
  try simp only [Act.put, List.setIfInBounds_toArray, List.set_cons_succ, List.set_cons_zero]
  refine takeL (.int .i64 c.id) rfl (by have hq := HX.out.2.1.c1; go_simp) ?_
  try simp only [Act.put, List.setIfInBounds_toArray, List.set_cons_succ, List.set_cons_zero]
  refine takeL (.bool true) rfl (by have hq := HQ1.out; go_simp) ?_
  try simp only [Act.put, List.setIfInBounds_toArray, List.set_cons_succ, List.set_cons_zero]
  refine takeL (.bool true) rfl (by go_simp) ?_
  try simp only [Act.put, List.setIfInBounds_toArray, List.set_cons_succ, List.set_cons_zero]
  refine takeL (.bool true) rfl (by go_simp) ?_
  try simp only [Act.put, List.setIfInBounds_toArray, List.set_cons_succ, List.set_cons_zero]
  refine takeL (.pointer (some ⟨g, 2, none⟩)) rfl (by go_simp) ?_
  try simp only [Act.put, List.setIfInBounds_toArray, List.set_cons_succ, List.set_cons_zero]
  refine load70 HX.out.1.page HPb.out rfl rfl ?_
  try simp only [Act.put, List.setIfInBounds_toArray, List.set_cons_succ, List.set_cons_zero]
  refine takeL (.pointer (some ⟨r, 2, none⟩)) rfl (by go_simp) ?_
  try simp only [Act.put, List.setIfInBounds_toArray, List.set_cons_succ, List.set_cons_zero]
  refine load70 HX.out.2.1.page HPc.out rfl rfl ?_
  try simp only [Act.put, List.setIfInBounds_toArray, List.set_cons_succ, List.set_cons_zero]
  refine takeL (.bool true) rfl (by have hq := HEP.out; go_simp) ?_
  try simp only [Act.put, List.setIfInBounds_toArray, List.set_cons_succ, List.set_cons_zero]
  refine takeL (.bool true) rfl (by go_simp) ?_
  try simp only [Act.put, List.setIfInBounds_toArray, List.set_cons_succ, List.set_cons_zero]
  refine takeL (.bool true) rfl (by go_simp) ?_
  try simp only [Act.put, List.setIfInBounds_toArray, List.set_cons_succ, List.set_cons_zero]
  refine takeL (.pointer (some ⟨g, 34, none⟩)) rfl (by go_simp) ?_
  try simp only [Act.put, List.setIfInBounds_toArray, List.set_cons_succ, List.set_cons_zero]
  refine takeL (.int .i64 b.off) rfl (by have hq := HX.out.1.c34; go_simp) ?_
  try simp only [Act.put, List.setIfInBounds_toArray, List.set_cons_succ, List.set_cons_zero]
  refine takeL (.pointer (some ⟨r, 34, none⟩)) rfl (by go_simp) ?_
  try simp only [Act.put, List.setIfInBounds_toArray, List.set_cons_succ, List.set_cons_zero]
  refine takeL (.int .i64 c.off) rfl (by have hq := HX.out.2.1.c34; go_simp) ?_
  try simp only [Act.put, List.setIfInBounds_toArray, List.set_cons_succ, List.set_cons_zero]
  refine takeL (.bool true) rfl (by have hq := HQ3.out; go_simp) ?_
  try simp only [Act.put, List.setIfInBounds_toArray, List.set_cons_succ, List.set_cons_zero]
  refine takeL (.bool true) rfl (by go_simp) ?_
  try simp only [Act.put, List.setIfInBounds_toArray, List.set_cons_succ, List.set_cons_zero]
  refine takeL (.bool true) rfl (by go_simp) ?_
  try simp only [Act.put, List.setIfInBounds_toArray, List.set_cons_succ, List.set_cons_zero]
  refine takeL (.pointer (some ⟨g, 35, none⟩)) rfl (by go_simp) ?_
  try simp only [Act.put, List.setIfInBounds_toArray, List.set_cons_succ, List.set_cons_zero]
  refine takeL (sv) rfl (by have hq := HX.out.1.c35; go_simp) ?_
  try simp only [Act.put, List.setIfInBounds_toArray, List.set_cons_succ, List.set_cons_zero]
  refine takeL (.pointer (some ⟨r, 35, none⟩)) rfl (by go_simp) ?_
  try simp only [Act.put, List.setIfInBounds_toArray, List.set_cons_succ, List.set_cons_zero]
  refine takeL (cv) rfl (by have hq := HX.out.2.1.c35; go_simp) ?_
  try simp only [Act.put, List.setIfInBounds_toArray, List.set_cons_succ, List.set_cons_zero]
  refine wpList_op rfl fun K hK => ?_
  go_simp
  refine (HEB.out).mono ?_
  rintro e w2 ⟨rfl, rfl⟩
  refine hK _ _ ?_
  clear hK K
  try simp only [Act.put, List.setIfInBounds_toArray, List.set_cons_succ, List.set_cons_zero]
  refine takeL (.bool false) rfl (by go_simp) ?_
  try simp only [Act.put, List.setIfInBounds_toArray, List.set_cons_succ, List.set_cons_zero]
  refine takeL (.bool false) rfl (by go_simp) ?_
  try simp only [Act.put, List.setIfInBounds_toArray, List.set_cons_succ, List.set_cons_zero]
  refine passL rfl ?_
  try simp only [Act.put, List.setIfInBounds_toArray, List.set_cons_succ, List.set_cons_zero]
  refine passL rfl ?_
  try simp only [Act.put, List.setIfInBounds_toArray, List.set_cons_succ, List.set_cons_zero]
  refine passL rfl ?_
  try simp only [Act.put, List.setIfInBounds_toArray, List.set_cons_succ, List.set_cons_zero]
  refine passL rfl ?_
  try simp only [Act.put, List.setIfInBounds_toArray, List.set_cons_succ, List.set_cons_zero]
  refine passL rfl ?_
  try simp only [Act.put, List.setIfInBounds_toArray, List.set_cons_succ, List.set_cons_zero]
  refine takeL (.bool false) rfl (by go_simp) ?_
  try simp only [Act.put, List.setIfInBounds_toArray, List.set_cons_succ, List.set_cons_zero]
  refine takeL (.bool false) rfl (by go_simp) ?_
  try simp only [Act.put, List.setIfInBounds_toArray, List.set_cons_succ, List.set_cons_zero]
  refine passL rfl ?_
  try simp only [Act.put, List.setIfInBounds_toArray, List.set_cons_succ, List.set_cons_zero]
  refine passL rfl ?_
  try simp only [Act.put, List.setIfInBounds_toArray, List.set_cons_succ, List.set_cons_zero]
  refine passL rfl ?_
  try simp only [Act.put, List.setIfInBounds_toArray, List.set_cons_succ, List.set_cons_zero]
  refine passL rfl ?_
  try simp only [Act.put, List.setIfInBounds_toArray, List.set_cons_succ, List.set_cons_zero]
  refine passL rfl ?_
  try simp only [Act.put, List.setIfInBounds_toArray, List.set_cons_succ, List.set_cons_zero]
  refine takeL (.bool false) rfl (by go_simp) ?_
  try simp only [Act.put, List.setIfInBounds_toArray, List.set_cons_succ, List.set_cons_zero]
  refine takeL (.bool false) rfl (by go_simp) ?_
  try simp only [Act.put, List.setIfInBounds_toArray, List.set_cons_succ, List.set_cons_zero]
  refine wpList_nil ?_
  go_wp2_with fail
  go_ret
  exact ⟨ret_bool HRES.out, by rw [HGG.out]; exact HX.out.2.2⟩
set_option maxRecDepth 100000 in
theorem block_5 (b c : Bk) (h0 : b.kind = c.kind) (h1 : b.id = c.id) (h2 : b.page = c.page) (h3 : b.off = c.off) (h4 : b.bytes = c.bytes) (h5 : ¬ b.prev = c.prev) (sv cv : Value) (hb : b.Wf) (hc : c.Wf) (w : World) (hsv : BytesAt w sv b.bytes) (hcv : BytesAt w cv c.bytes) : Calls Tryz.prog 33 #[.agg (b.arr sv), .agg (c.arr cv)] w fun e w' => e = .returned (.bool (b.same c)) ∧ Below w.heap.size w w' := by
  have HPb : Hid ((u8s b.page).toArray.size = 32) := Lib.hid (by simpa using hb.page)
  have HPc : Hid ((u8s c.page).toArray.size = 32) := Lib.hid (by simpa using hc.page)
  have HHb : Hid ((i64s b.heads).toArray.size = 8) := Lib.hid (by simpa using hb.heads)
  have HHc : Hid ((i64s c.heads).toArray.size = 8) := Lib.hid (by simpa using hc.heads)
  have HEP := Lib.hid fun w => eql70 w b.page c.page hb.page hc.page
  have HEH := Lib.hid fun w => eql71 w b.heads c.heads hb.heads hc.heads
  have HSV := Lib.hid hsv
  have HCV := Lib.hid hcv
  have HWB := Lib.hid hb
  have HWC := Lib.hid hc
  clear hsv hcv hb hc
  go_enter Tryz.func33, Tryz.ntmps33
  repeat (first | (with_reducible refine stopR (id := 0) ?_) | go_values | go_skip | go_guarded | go_step | go_upon | go_back)
  refine Stop.mk (wp_region_lit ?_)
  refine box_g rfl rfl ?_
  intro wA hA hBA hl
  try simp only [Act.put, List.setIfInBounds_toArray, List.set_cons_succ, List.set_cons_zero]
  refine box_g rfl rfl ?_
  intro wB hB hBB hl2
  try simp only [Act.put, List.setIfInBounds_toArray, List.set_cons_succ, List.set_cons_zero]
  refine takeL (.bool false) rfl (by go_simp) ?_
  try simp only [Act.put, List.setIfInBounds_toArray, List.set_cons_succ, List.set_cons_zero]
  have HX := Lib.hid (box2 HWB.out HWC.out hA hBA hB hBB)
  have HEB := Lib.hid (bytes_any ((HSV.out.below hBA).below hBB) ((HCV.out.below hBA).below hBB) HWB.out.bytess HWC.out.bytess)
  clear hA hBA hB hBB hl hl2 HSV HCV
  generalize hgg : w.heap.size = g at *
  generalize wA.heap.size = r at *
  have HGG := Lib.hid hgg
  clear wA hgg
  refine wpList_nil ?_
  repeat (first | (with_reducible refine stopR (id := 1) ?_) | go_values | go_skip | go_guarded | go_step | go_upon | go_back)
  refine Stop.mk (wp_region_lit ?_)
  have HQ0 : Hid ((b.kind == c.kind) = true) := Lib.hid (by simpa using h0)
  have HQ1 : Hid ((b.id == c.id) = true) := Lib.hid (by simpa using h1)
  have h2' := decide_eq_true h2
  rw [h2'] at HEP
  clear h2'
  have HQ3 : Hid ((b.off == c.off) = true) := Lib.hid (by simpa using h3)
  have h4' := decide_eq_true h4
  rw [h4'] at HEB
  clear h4'
  have HQ5 : Hid ((b.prev == c.prev) = false) := Lib.hid (by simpa using h5)
  have HRES : Hid (false = b.same c) := Lib.hid (by unfold Bk.same; simp [h0, h1, h2, h3, h4, h5])
  clear h0 h1 h2 h3 h4 h5
  refine takeL (.pointer (some ⟨g, 0, none⟩)) rfl (by go_simp) ?_
  try simp only [Act.put, List.setIfInBounds_toArray, List.set_cons_succ, List.set_cons_zero]
  refine takeL (.int .i64 b.kind) rfl (by have hq := HX.out.1.c0; go_simp) ?_
  try simp only [Act.put, List.setIfInBounds_toArray, List.set_cons_succ, List.set_cons_zero]
  refine takeL (.pointer (some ⟨r, 0, none⟩)) rfl (by go_simp) ?_
  try simp only [Act.put, List.setIfInBounds_toArray, List.set_cons_succ, List.set_cons_zero]
  refine takeL (.int .i64 c.kind) rfl (by have hq := HX.out.2.1.c0; go_simp) ?_
  try simp only [Act.put, List.setIfInBounds_toArray, List.set_cons_succ, List.set_cons_zero]
  refine takeL (.bool true) rfl (by have hq := HQ0.out; go_simp) ?_
  try simp only [Act.put, List.setIfInBounds_toArray, List.set_cons_succ, List.set_cons_zero]
  refine takeL (.bool true) rfl (by go_simp) ?_
  try simp only [Act.put, List.setIfInBounds_toArray, List.set_cons_succ, List.set_cons_zero]
  refine takeL (.pointer (some ⟨g, 1, none⟩)) rfl (by go_simp) ?_
  try simp only [Act.put, List.setIfInBounds_toArray, List.set_cons_succ, List.set_cons_zero]
  refine takeL (.int .i64 b.id) rfl (by have hq := HX.out.1.c1; go_simp) ?_
  try simp only [Act.put, List.setIfInBounds_toArray, List.set_cons_succ, List.set_cons_zero]
  refine takeL (.pointer (some ⟨r, 1, none⟩)) rfl (by go_simp) ?_
  try simp only [Act.put, List.setIfInBounds_toArray, List.set_cons_succ, List.set_cons_zero]
  refine takeL (.int .i64 c.id) rfl (by have hq := HX.out.2.1.c1; go_simp) ?_
  try simp only [Act.put, List.setIfInBounds_toArray, List.set_cons_succ, List.set_cons_zero]
  refine takeL (.bool true) rfl (by have hq := HQ1.out; go_simp) ?_
  try simp only [Act.put, List.setIfInBounds_toArray, List.set_cons_succ, List.set_cons_zero]
  refine takeL (.bool true) rfl (by go_simp) ?_
  try simp only [Act.put, List.setIfInBounds_toArray, List.set_cons_succ, List.set_cons_zero]
  refine takeL (.bool true) rfl (by go_simp) ?_
  try simp only [Act.put, List.setIfInBounds_toArray, List.set_cons_succ, List.set_cons_zero]
  refine takeL (.pointer (some ⟨g, 2, none⟩)) rfl (by go_simp) ?_
  try simp only [Act.put, List.setIfInBounds_toArray, List.set_cons_succ, List.set_cons_zero]
  refine load70 HX.out.1.page HPb.out rfl rfl ?_
  try simp only [Act.put, List.setIfInBounds_toArray, List.set_cons_succ, List.set_cons_zero]
  refine takeL (.pointer (some ⟨r, 2, none⟩)) rfl (by go_simp) ?_
  try simp only [Act.put, List.setIfInBounds_toArray, List.set_cons_succ, List.set_cons_zero]
  refine load70 HX.out.2.1.page HPc.out rfl rfl ?_
  try simp only [Act.put, List.setIfInBounds_toArray, List.set_cons_succ, List.set_cons_zero]
  refine takeL (.bool true) rfl (by have hq := HEP.out; go_simp) ?_
  try simp only [Act.put, List.setIfInBounds_toArray, List.set_cons_succ, List.set_cons_zero]
  refine takeL (.bool true) rfl (by go_simp) ?_
  try simp only [Act.put, List.setIfInBounds_toArray, List.set_cons_succ, List.set_cons_zero]
  refine takeL (.bool true) rfl (by go_simp) ?_
  try simp only [Act.put, List.setIfInBounds_toArray, List.set_cons_succ, List.set_cons_zero]
  refine takeL (.pointer (some ⟨g, 34, none⟩)) rfl (by go_simp) ?_
  try simp only [Act.put, List.setIfInBounds_toArray, List.set_cons_succ, List.set_cons_zero]
  refine takeL (.int .i64 b.off) rfl (by have hq := HX.out.1.c34; go_simp) ?_
  try simp only [Act.put, List.setIfInBounds_toArray, List.set_cons_succ, List.set_cons_zero]
  refine takeL (.pointer (some ⟨r, 34, none⟩)) rfl (by go_simp) ?_
  try simp only [Act.put, List.setIfInBounds_toArray, List.set_cons_succ, List.set_cons_zero]
  refine takeL (.int .i64 c.off) rfl (by have hq := HX.out.2.1.c34; go_simp) ?_
  try simp only [Act.put, List.setIfInBounds_toArray, List.set_cons_succ, List.set_cons_zero]
  refine takeL (.bool true) rfl (by have hq := HQ3.out; go_simp) ?_
  try simp only [Act.put, List.setIfInBounds_toArray, List.set_cons_succ, List.set_cons_zero]
  refine takeL (.bool true) rfl (by go_simp) ?_
  try simp only [Act.put, List.setIfInBounds_toArray, List.set_cons_succ, List.set_cons_zero]
  refine takeL (.bool true) rfl (by go_simp) ?_
  try simp only [Act.put, List.setIfInBounds_toArray, List.set_cons_succ, List.set_cons_zero]
  refine takeL (.pointer (some ⟨g, 35, none⟩)) rfl (by go_simp) ?_
  try simp only [Act.put, List.setIfInBounds_toArray, List.set_cons_succ, List.set_cons_zero]
  refine takeL (sv) rfl (by have hq := HX.out.1.c35; go_simp) ?_
  try simp only [Act.put, List.setIfInBounds_toArray, List.set_cons_succ, List.set_cons_zero]
  refine takeL (.pointer (some ⟨r, 35, none⟩)) rfl (by go_simp) ?_
  try simp only [Act.put, List.setIfInBounds_toArray, List.set_cons_succ, List.set_cons_zero]
  refine takeL (cv) rfl (by have hq := HX.out.2.1.c35; go_simp) ?_
  try simp only [Act.put, List.setIfInBounds_toArray, List.set_cons_succ, List.set_cons_zero]
  refine wpList_op rfl fun K hK => ?_
  go_simp
  refine (HEB.out).mono ?_
  rintro e w2 ⟨rfl, rfl⟩
  refine hK _ _ ?_
  clear hK K
  try simp only [Act.put, List.setIfInBounds_toArray, List.set_cons_succ, List.set_cons_zero]
  refine takeL (.bool true) rfl (by go_simp) ?_
  try simp only [Act.put, List.setIfInBounds_toArray, List.set_cons_succ, List.set_cons_zero]
  refine takeL (.bool true) rfl (by go_simp) ?_
  try simp only [Act.put, List.setIfInBounds_toArray, List.set_cons_succ, List.set_cons_zero]
  refine takeL (.pointer (some ⟨g, 36, none⟩)) rfl (by go_simp) ?_
  try simp only [Act.put, List.setIfInBounds_toArray, List.set_cons_succ, List.set_cons_zero]
  refine takeL (.int .i64 b.prev) rfl (by have hq := HX.out.1.c36; go_simp) ?_
  try simp only [Act.put, List.setIfInBounds_toArray, List.set_cons_succ, List.set_cons_zero]
  refine takeL (.pointer (some ⟨r, 36, none⟩)) rfl (by go_simp) ?_
  try simp only [Act.put, List.setIfInBounds_toArray, List.set_cons_succ, List.set_cons_zero]
  refine takeL (.int .i64 c.prev) rfl (by have hq := HX.out.2.1.c36; go_simp) ?_
  try simp only [Act.put, List.setIfInBounds_toArray, List.set_cons_succ, List.set_cons_zero]
  refine takeL (.bool false) rfl (by have hq := HQ5.out; go_simp) ?_
  try simp only [Act.put, List.setIfInBounds_toArray, List.set_cons_succ, List.set_cons_zero]
  refine takeL (.bool false) rfl (by go_simp) ?_
  try simp only [Act.put, List.setIfInBounds_toArray, List.set_cons_succ, List.set_cons_zero]
  refine takeL (.bool false) rfl (by go_simp) ?_
  try simp only [Act.put, List.setIfInBounds_toArray, List.set_cons_succ, List.set_cons_zero]
  refine passL rfl ?_
  try simp only [Act.put, List.setIfInBounds_toArray, List.set_cons_succ, List.set_cons_zero]
  refine passL rfl ?_
  try simp only [Act.put, List.setIfInBounds_toArray, List.set_cons_succ, List.set_cons_zero]
  refine passL rfl ?_
  try simp only [Act.put, List.setIfInBounds_toArray, List.set_cons_succ, List.set_cons_zero]
  refine passL rfl ?_
  try simp only [Act.put, List.setIfInBounds_toArray, List.set_cons_succ, List.set_cons_zero]
  refine passL rfl ?_
  try simp only [Act.put, List.setIfInBounds_toArray, List.set_cons_succ, List.set_cons_zero]
  refine takeL (.bool false) rfl (by go_simp) ?_
  try simp only [Act.put, List.setIfInBounds_toArray, List.set_cons_succ, List.set_cons_zero]
  refine takeL (.bool false) rfl (by go_simp) ?_
  try simp only [Act.put, List.setIfInBounds_toArray, List.set_cons_succ, List.set_cons_zero]
  refine wpList_nil ?_
  go_wp2_with fail
  go_ret
  exact ⟨ret_bool HRES.out, by rw [HGG.out]; exact HX.out.2.2⟩
set_option maxRecDepth 100000 in
theorem block_6 (b c : Bk) (h0 : b.kind = c.kind) (h1 : b.id = c.id) (h2 : b.page = c.page) (h3 : b.off = c.off) (h4 : b.bytes = c.bytes) (h5 : b.prev = c.prev) (sv cv : Value) (hb : b.Wf) (hc : c.Wf) (w : World) (hsv : BytesAt w sv b.bytes) (hcv : BytesAt w cv c.bytes) : Calls Tryz.prog 33 #[.agg (b.arr sv), .agg (c.arr cv)] w fun e w' => e = .returned (.bool (b.same c)) ∧ Below w.heap.size w w' := by
  have HPb : Hid ((u8s b.page).toArray.size = 32) := Lib.hid (by simpa using hb.page)
  have HPc : Hid ((u8s c.page).toArray.size = 32) := Lib.hid (by simpa using hc.page)
  have HHb : Hid ((i64s b.heads).toArray.size = 8) := Lib.hid (by simpa using hb.heads)
  have HHc : Hid ((i64s c.heads).toArray.size = 8) := Lib.hid (by simpa using hc.heads)
  have HEP := Lib.hid fun w => eql70 w b.page c.page hb.page hc.page
  have HEH := Lib.hid fun w => eql71 w b.heads c.heads hb.heads hc.heads
  have HSV := Lib.hid hsv
  have HCV := Lib.hid hcv
  have HWB := Lib.hid hb
  have HWC := Lib.hid hc
  clear hsv hcv hb hc
  go_enter Tryz.func33, Tryz.ntmps33
  repeat (first | (with_reducible refine stopR (id := 0) ?_) | go_values | go_skip | go_guarded | go_step | go_upon | go_back)
  refine Stop.mk (wp_region_lit ?_)
  refine box_g rfl rfl ?_
  intro wA hA hBA hl
  try simp only [Act.put, List.setIfInBounds_toArray, List.set_cons_succ, List.set_cons_zero]
  refine box_g rfl rfl ?_
  intro wB hB hBB hl2
  try simp only [Act.put, List.setIfInBounds_toArray, List.set_cons_succ, List.set_cons_zero]
  refine takeL (.bool false) rfl (by go_simp) ?_
  try simp only [Act.put, List.setIfInBounds_toArray, List.set_cons_succ, List.set_cons_zero]
  have HX := Lib.hid (box2 HWB.out HWC.out hA hBA hB hBB)
  have HEB := Lib.hid (bytes_any ((HSV.out.below hBA).below hBB) ((HCV.out.below hBA).below hBB) HWB.out.bytess HWC.out.bytess)
  clear hA hBA hB hBB hl hl2 HSV HCV
  generalize hgg : w.heap.size = g at *
  generalize wA.heap.size = r at *
  have HGG := Lib.hid hgg
  clear wA hgg
  refine wpList_nil ?_
  repeat (first | (with_reducible refine stopR (id := 1) ?_) | go_values | go_skip | go_guarded | go_step | go_upon | go_back)
  refine Stop.mk (wp_region_lit ?_)
  have HQ0 : Hid ((b.kind == c.kind) = true) := Lib.hid (by simpa using h0)
  have HQ1 : Hid ((b.id == c.id) = true) := Lib.hid (by simpa using h1)
  have h2' := decide_eq_true h2
  rw [h2'] at HEP
  clear h2'
  have HQ3 : Hid ((b.off == c.off) = true) := Lib.hid (by simpa using h3)
  have h4' := decide_eq_true h4
  rw [h4'] at HEB
  clear h4'
  have HQ5 : Hid ((b.prev == c.prev) = true) := Lib.hid (by simpa using h5)
  have HRES : Hid (decide (b.heads = c.heads) = b.same c) := Lib.hid (by unfold Bk.same; simp [h0, h1, h2, h3, h4, h5])
  clear h0 h1 h2 h3 h4 h5
  refine takeL (.pointer (some ⟨g, 0, none⟩)) rfl (by go_simp) ?_
  try simp only [Act.put, List.setIfInBounds_toArray, List.set_cons_succ, List.set_cons_zero]
  refine takeL (.int .i64 b.kind) rfl (by have hq := HX.out.1.c0; go_simp) ?_
  try simp only [Act.put, List.setIfInBounds_toArray, List.set_cons_succ, List.set_cons_zero]
  refine takeL (.pointer (some ⟨r, 0, none⟩)) rfl (by go_simp) ?_
  try simp only [Act.put, List.setIfInBounds_toArray, List.set_cons_succ, List.set_cons_zero]
  refine takeL (.int .i64 c.kind) rfl (by have hq := HX.out.2.1.c0; go_simp) ?_
  try simp only [Act.put, List.setIfInBounds_toArray, List.set_cons_succ, List.set_cons_zero]
  refine takeL (.bool true) rfl (by have hq := HQ0.out; go_simp) ?_
  try simp only [Act.put, List.setIfInBounds_toArray, List.set_cons_succ, List.set_cons_zero]
  refine takeL (.bool true) rfl (by go_simp) ?_
  try simp only [Act.put, List.setIfInBounds_toArray, List.set_cons_succ, List.set_cons_zero]
  refine takeL (.pointer (some ⟨g, 1, none⟩)) rfl (by go_simp) ?_
  try simp only [Act.put, List.setIfInBounds_toArray, List.set_cons_succ, List.set_cons_zero]
  refine takeL (.int .i64 b.id) rfl (by have hq := HX.out.1.c1; go_simp) ?_
  try simp only [Act.put, List.setIfInBounds_toArray, List.set_cons_succ, List.set_cons_zero]
  refine takeL (.pointer (some ⟨r, 1, none⟩)) rfl (by go_simp) ?_
  try simp only [Act.put, List.setIfInBounds_toArray, List.set_cons_succ, List.set_cons_zero]
  refine takeL (.int .i64 c.id) rfl (by have hq := HX.out.2.1.c1; go_simp) ?_
  try simp only [Act.put, List.setIfInBounds_toArray, List.set_cons_succ, List.set_cons_zero]
  refine takeL (.bool true) rfl (by have hq := HQ1.out; go_simp) ?_
  try simp only [Act.put, List.setIfInBounds_toArray, List.set_cons_succ, List.set_cons_zero]
  refine takeL (.bool true) rfl (by go_simp) ?_
  try simp only [Act.put, List.setIfInBounds_toArray, List.set_cons_succ, List.set_cons_zero]
  refine takeL (.bool true) rfl (by go_simp) ?_
  try simp only [Act.put, List.setIfInBounds_toArray, List.set_cons_succ, List.set_cons_zero]
  refine takeL (.pointer (some ⟨g, 2, none⟩)) rfl (by go_simp) ?_
  try simp only [Act.put, List.setIfInBounds_toArray, List.set_cons_succ, List.set_cons_zero]
  refine load70 HX.out.1.page HPb.out rfl rfl ?_
  try simp only [Act.put, List.setIfInBounds_toArray, List.set_cons_succ, List.set_cons_zero]
  refine takeL (.pointer (some ⟨r, 2, none⟩)) rfl (by go_simp) ?_
  try simp only [Act.put, List.setIfInBounds_toArray, List.set_cons_succ, List.set_cons_zero]
  refine load70 HX.out.2.1.page HPc.out rfl rfl ?_
  try simp only [Act.put, List.setIfInBounds_toArray, List.set_cons_succ, List.set_cons_zero]
  refine takeL (.bool true) rfl (by have hq := HEP.out; go_simp) ?_
  try simp only [Act.put, List.setIfInBounds_toArray, List.set_cons_succ, List.set_cons_zero]
  refine takeL (.bool true) rfl (by go_simp) ?_
  try simp only [Act.put, List.setIfInBounds_toArray, List.set_cons_succ, List.set_cons_zero]
  refine takeL (.bool true) rfl (by go_simp) ?_
  try simp only [Act.put, List.setIfInBounds_toArray, List.set_cons_succ, List.set_cons_zero]
  refine takeL (.pointer (some ⟨g, 34, none⟩)) rfl (by go_simp) ?_
  try simp only [Act.put, List.setIfInBounds_toArray, List.set_cons_succ, List.set_cons_zero]
  refine takeL (.int .i64 b.off) rfl (by have hq := HX.out.1.c34; go_simp) ?_
  try simp only [Act.put, List.setIfInBounds_toArray, List.set_cons_succ, List.set_cons_zero]
  refine takeL (.pointer (some ⟨r, 34, none⟩)) rfl (by go_simp) ?_
  try simp only [Act.put, List.setIfInBounds_toArray, List.set_cons_succ, List.set_cons_zero]
  refine takeL (.int .i64 c.off) rfl (by have hq := HX.out.2.1.c34; go_simp) ?_
  try simp only [Act.put, List.setIfInBounds_toArray, List.set_cons_succ, List.set_cons_zero]
  refine takeL (.bool true) rfl (by have hq := HQ3.out; go_simp) ?_
  try simp only [Act.put, List.setIfInBounds_toArray, List.set_cons_succ, List.set_cons_zero]
  refine takeL (.bool true) rfl (by go_simp) ?_
  try simp only [Act.put, List.setIfInBounds_toArray, List.set_cons_succ, List.set_cons_zero]
  refine takeL (.bool true) rfl (by go_simp) ?_
  try simp only [Act.put, List.setIfInBounds_toArray, List.set_cons_succ, List.set_cons_zero]
  refine takeL (.pointer (some ⟨g, 35, none⟩)) rfl (by go_simp) ?_
  try simp only [Act.put, List.setIfInBounds_toArray, List.set_cons_succ, List.set_cons_zero]
  refine takeL (sv) rfl (by have hq := HX.out.1.c35; go_simp) ?_
  try simp only [Act.put, List.setIfInBounds_toArray, List.set_cons_succ, List.set_cons_zero]
  refine takeL (.pointer (some ⟨r, 35, none⟩)) rfl (by go_simp) ?_
  try simp only [Act.put, List.setIfInBounds_toArray, List.set_cons_succ, List.set_cons_zero]
  refine takeL (cv) rfl (by have hq := HX.out.2.1.c35; go_simp) ?_
  try simp only [Act.put, List.setIfInBounds_toArray, List.set_cons_succ, List.set_cons_zero]
  refine wpList_op rfl fun K hK => ?_
  go_simp
  refine (HEB.out).mono ?_
  rintro e w2 ⟨rfl, rfl⟩
  refine hK _ _ ?_
  clear hK K
  try simp only [Act.put, List.setIfInBounds_toArray, List.set_cons_succ, List.set_cons_zero]
  refine takeL (.bool true) rfl (by go_simp) ?_
  try simp only [Act.put, List.setIfInBounds_toArray, List.set_cons_succ, List.set_cons_zero]
  refine takeL (.bool true) rfl (by go_simp) ?_
  try simp only [Act.put, List.setIfInBounds_toArray, List.set_cons_succ, List.set_cons_zero]
  refine takeL (.pointer (some ⟨g, 36, none⟩)) rfl (by go_simp) ?_
  try simp only [Act.put, List.setIfInBounds_toArray, List.set_cons_succ, List.set_cons_zero]
  refine takeL (.int .i64 b.prev) rfl (by have hq := HX.out.1.c36; go_simp) ?_
  try simp only [Act.put, List.setIfInBounds_toArray, List.set_cons_succ, List.set_cons_zero]
  refine takeL (.pointer (some ⟨r, 36, none⟩)) rfl (by go_simp) ?_
  try simp only [Act.put, List.setIfInBounds_toArray, List.set_cons_succ, List.set_cons_zero]
  refine takeL (.int .i64 c.prev) rfl (by have hq := HX.out.2.1.c36; go_simp) ?_
  try simp only [Act.put, List.setIfInBounds_toArray, List.set_cons_succ, List.set_cons_zero]
  refine takeL (.bool true) rfl (by have hq := HQ5.out; go_simp) ?_
  try simp only [Act.put, List.setIfInBounds_toArray, List.set_cons_succ, List.set_cons_zero]
  refine takeL (.bool true) rfl (by go_simp) ?_
  try simp only [Act.put, List.setIfInBounds_toArray, List.set_cons_succ, List.set_cons_zero]
  refine takeL (.bool true) rfl (by go_simp) ?_
  try simp only [Act.put, List.setIfInBounds_toArray, List.set_cons_succ, List.set_cons_zero]
  refine takeL (.pointer (some ⟨g, 37, none⟩)) rfl (by go_simp) ?_
  try simp only [Act.put, List.setIfInBounds_toArray, List.set_cons_succ, List.set_cons_zero]
  refine load71 HX.out.1.heads HHb.out rfl rfl ?_
  try simp only [Act.put, List.setIfInBounds_toArray, List.set_cons_succ, List.set_cons_zero]
  refine takeL (.pointer (some ⟨r, 37, none⟩)) rfl (by go_simp) ?_
  try simp only [Act.put, List.setIfInBounds_toArray, List.set_cons_succ, List.set_cons_zero]
  refine load71 HX.out.2.1.heads HHc.out rfl rfl ?_
  try simp only [Act.put, List.setIfInBounds_toArray, List.set_cons_succ, List.set_cons_zero]
  refine takeL (.bool (decide (b.heads = c.heads))) rfl (by have hq := HEH.out; go_simp) ?_
  try simp only [Act.put, List.setIfInBounds_toArray, List.set_cons_succ, List.set_cons_zero]
  refine takeL (.bool (decide (b.heads = c.heads))) rfl (by go_simp) ?_
  try simp only [Act.put, List.setIfInBounds_toArray, List.set_cons_succ, List.set_cons_zero]
  refine takeL (.bool (decide (b.heads = c.heads))) rfl (by go_simp) ?_
  try simp only [Act.put, List.setIfInBounds_toArray, List.set_cons_succ, List.set_cons_zero]
  refine wpList_nil ?_
  go_wp2_with fail
  go_ret
  exact ⟨ret_bool HRES.out, by rw [HGG.out]; exact HX.out.2.2⟩
theorem block_any (b c : Bk) (sv cv : Value) (hb : b.Wf) (hc : c.Wf) (w : World) (hsv : BytesAt w sv b.bytes) (hcv : BytesAt w cv c.bytes) : Calls Tryz.prog 33 #[.agg (b.arr sv), .agg (c.arr cv)] w fun e w' => e = .returned (.bool (b.same c)) ∧ Below w.heap.size w w' := by
  by_cases h0 : b.kind = c.kind
  case neg => exact block_0 b c h0 sv cv hb hc w hsv hcv
  by_cases h1 : b.id = c.id
  case neg => exact block_1 b c h0 h1 sv cv hb hc w hsv hcv
  by_cases h2 : b.page = c.page
  case neg => exact block_2 b c h0 h1 h2 sv cv hb hc w hsv hcv
  by_cases h3 : b.off = c.off
  case neg => exact block_3 b c h0 h1 h2 h3 sv cv hb hc w hsv hcv
  by_cases h4 : b.bytes = c.bytes
  case neg => exact block_4 b c h0 h1 h2 h3 h4 sv cv hb hc w hsv hcv
  by_cases h5 : b.prev = c.prev
  case neg => exact block_5 b c h0 h1 h2 h3 h4 h5 sv cv hb hc w hsv hcv
  exact block_6 b c h0 h1 h2 h3 h4 h5 sv cv hb hc w hsv hcv
set_option maxRecDepth 100000 in
theorem equal_any (sv tv : Value) (l m : List (List Int)) (hl : l.length ≤ 100000) (hm : m.length ≤ 100000) (w : World) (h : SecsAt w sv l) (k : SecsAt w tv m) : Calls Tryz.prog 84 #[sv, tv] w fun e w' => e = .returned (.bool (decide (l = m))) ∧ Below w.heap.size w w' := by
  obtain ⟨a, c, rfl, hc1, hc⟩ := h
  obtain ⟨b, d, rfl, hd1, hd⟩ := k
  by_cases hlm : l.length = m.length
  · have HC := Lib.hid hc
    have HD := Lib.hid hd
    obtain ⟨n, hn⟩ : ∃ n, m.length = n := ⟨_, rfl⟩
    rw [hlm, hn]
    rw [hn] at hlm hm
    have HL := Lib.hid hlm
    have HM := Lib.hid hn
    clear hc hd hc1 hd1 hl hlm hn
    go_enter Tryz.func84, Tryz.ntmps84
    go_wp2_with fail
    go_loopg [13] n (fun q i wr => ∃ k : Nat, n - k ≤ q ∧ k ≤ n ∧ i = .int .i64 k ∧ l.take k = m.take k ∧ Below w.heap.size w wr)
    case atStart => exact ⟨0, by omega, by omega, rfl, rfl, Below.refl _ _⟩
    case round =>
      obtain ⟨k, hq, hk, rfl, hsame, hb⟩ := hrel
      have HS := Lib.hid hsame
      have HB := Lib.hid hb
      clear hsame hb
      by_cases hlt : k < n
      · obtain ⟨y, hy⟩ : ∃ y, l[k]? = some y := ⟨_, List.getElem?_eq_getElem (by have := HL.out; omega)⟩
        obtain ⟨z, hz⟩ : ∃ z, m[k]? = some z := ⟨_, List.getElem?_eq_getElem (by have := HM.out; omega)⟩
        obtain ⟨y1, g, o, rfl, y2⟩ := HC.out k y hy
        obtain ⟨z1, g2, o2, rfl, z2⟩ := HD.out k z hz
        have HY1 := Lib.hid y1
        have HZ1 := Lib.hid z1
        have HYA := Lib.hid (y2.below HB.out (y2.lt (by rw [y1.size]; decide)))
        have HZA := Lib.hid (z2.below HB.out (z2.lt (by rw [z1.size]; decide)))
        have HYL := Lib.hid (HYA.out.lt (by rw [y1.size]; decide))
        have HZL := Lib.hid (HZA.out.lt (by rw [z1.size]; decide))
        have HYK := Lib.hid hy
        have HZK := Lib.hid hz
        have HN := Lib.hid fun w => neq115 w y z y1.length z1.length
        have gk : decide ((k : Int) < (n : Int)) = true := decide_eq_true (by omega)
        have hk0 : (k : Int) < (n : Int) := by omega
        clear y1 y2 z1 z2 hy hz
        go_upto_region 6 with fail
        refine startH (fun wq => Below wr.heap.size wr wq) (by kernel_rfl) ?_
        refine takeH 0 (some 16) (.slice (some ⟨g, o, none⟩) n c) rfl rfl (by kernel_rfl) (by kernel_rfl) (by kernel_rfl) (fun _ _ _ h => h) rfl (fun wq hS => by go_simp) (Below.refl _ _).drew ?_
        try simp only [Act.put, List.setIfInBounds_toArray, List.set_cons_succ, List.set_cons_zero]
        refine takeH 1 (some 17) (.int .i64 k) rfl rfl (by kernel_rfl) (by kernel_rfl) (by kernel_rfl) (fun _ _ _ h => h) rfl (fun wq hS => by go_simp) (Below.refl _ _).drew ?_
        try simp only [Act.put, List.setIfInBounds_toArray, List.set_cons_succ, List.set_cons_zero]
        refine takeH 2 (some 18) (.pointer (some ⟨g, o + k * 64, none⟩)) rfl rfl (by kernel_rfl) (by kernel_rfl) (by kernel_rfl) (fun _ _ _ h => h) rfl (fun wq hS => by go_simp) (Below.refl _ _).drew ?_
        try simp only [Act.put, List.setIfInBounds_toArray, List.set_cons_succ, List.set_cons_zero]
        refine takeH 3 (some 19) (.agg ((u8s y).toArray)) rfl rfl (by kernel_rfl) (by kernel_rfl) (by kernel_rfl) (fun _ _ _ h => h) rfl (fun wq hS => exec_load_at wq _ _ 115 _ rfl (g) (o + k * 64) rfl ((u8s y).toArray) _ Tryz.underlying115 rfl (by rw [HY1.out.size]; exact info115) (HYA.out.below hS HYL.out)) (Below.refl _ _).drew ?_
        try simp only [Act.put, List.setIfInBounds_toArray, List.set_cons_succ, List.set_cons_zero]
        refine takeH 4 (some 20) (.slice (some ⟨g2, o2, none⟩) n d) rfl rfl (by kernel_rfl) (by kernel_rfl) (by kernel_rfl) (fun _ _ _ h => h) rfl (fun wq hS => by go_simp) (Below.refl _ _).drew ?_
        try simp only [Act.put, List.setIfInBounds_toArray, List.set_cons_succ, List.set_cons_zero]
        refine takeH 5 (some 21) (.int .i64 k) rfl rfl (by kernel_rfl) (by kernel_rfl) (by kernel_rfl) (fun _ _ _ h => h) rfl (fun wq hS => by go_simp) (Below.refl _ _).drew ?_
        try simp only [Act.put, List.setIfInBounds_toArray, List.set_cons_succ, List.set_cons_zero]
        refine takeH 6 (some 22) (.pointer (some ⟨g2, o2 + k * 64, none⟩)) rfl rfl (by kernel_rfl) (by kernel_rfl) (by kernel_rfl) (fun _ _ _ h => h) rfl (fun wq hS => by go_simp) (Below.refl _ _).drew ?_
        try simp only [Act.put, List.setIfInBounds_toArray, List.set_cons_succ, List.set_cons_zero]
        refine takeH 7 (some 23) (.agg ((u8s z).toArray)) rfl rfl (by kernel_rfl) (by kernel_rfl) (by kernel_rfl) (fun _ _ _ h => h) rfl (fun wq hS => exec_load_at wq _ _ 115 _ rfl (g2) (o2 + k * 64) rfl ((u8s z).toArray) _ Tryz.underlying115 rfl (by rw [HZ1.out.size]; exact info115) (HZA.out.below hS HZL.out)) (Below.refl _ _).drew ?_
        try simp only [Act.put, List.setIfInBounds_toArray, List.set_cons_succ, List.set_cons_zero]
        by_cases e : y = z
        · have gn : (!decide (y = z)) = false := by simp [e]
          rw [gn] at HN
          have HEQ := Lib.hid e
          clear gn e
          refine takeH 8 (some 24) (.bool false) rfl rfl (by kernel_rfl) (by kernel_rfl) (by kernel_rfl) (fun _ _ _ h => h) rfl (fun wq hS => by have hq := HN.out; go_simp) (Below.refl _ _).drew ?_
          try simp only [Act.put, List.setIfInBounds_toArray, List.set_cons_succ, List.set_cons_zero]
          refine wpAnyH_done (by kernel_rfl) ?_ _
          have HST : Hid (l.take (k + 1) = m.take (k + 1)) := Lib.hid (by rw [List.take_add_one, List.take_add_one, HS.out, HYK.out, HZK.out, HEQ.out])
          have HB2 : Hid (Below w.heap.size w wr.drew) := Lib.hid HB.out.drew
          go_wp2_with fail
          go_roundg (n - (k + 1))
          case measure => omega
          case rel => exact ⟨k + 1, by omega, by omega, by go_num, HST.out, by first | exact HB2.out | exact HB.out.drew⟩
        · have gn : (!decide (y = z)) = true := by simp [e]
          rw [gn] at HN
          refine takeH 8 (some 24) (.bool true) rfl rfl (by kernel_rfl) (by kernel_rfl) (by kernel_rfl) (fun _ _ _ h => h) rfl (fun wq hS => by have hq := HN.out; go_simp) (Below.refl _ _).drew ?_
          try simp only [Act.put, List.setIfInBounds_toArray, List.set_cons_succ, List.set_cons_zero]
          refine wpAnyH_done (by kernel_rfl) ?_ _
          have HX : Hid (decide (l = m) = false) := Lib.hid (decide_eq_false fun h => by
            subst h
            have := HYK.out.symm.trans HZK.out
            exact e (Option.some.inj this))
          have HB2 : Hid (Below w.heap.size w wr.drew) := Lib.hid HB.out.drew
          clear gn e
          go_wp2_with fail
          go_ret
          exact ⟨ret_bool HX.out.symm, HB2.out⟩
      · obtain rfl : k = n := by omega
        have HX : Hid (decide (l = m) = true) := Lib.hid (decide_eq_true (by
          have := HS.out
          rwa [List.take_of_length_le (by have := HL.out; omega), List.take_of_length_le (by have := HM.out; omega)] at this))
        have gk : decide ((k : Int) < (k : Int)) = false := decide_eq_false (by omega)
        go_wp2_with fail
        go_ret
        exact ⟨ret_bool HX.out.symm, HB.out⟩
  · have HX : Hid (decide (l = m) = false) := Lib.hid (decide_eq_false fun h => hlm (by rw [h]))
    rw [HX.out]
    have gn : ((l.length : Int) != (m.length : Int)) = true := by simp; omega
    obtain ⟨n1, h1⟩ : ∃ n, l.length = n := ⟨_, rfl⟩
    obtain ⟨n2, h2⟩ : ∃ n, m.length = n := ⟨_, rfl⟩
    rw [h1, h2] at gn hlm
    rw [h1, h2]
    clear hc hd hc1 hd1 hl hm h1 h2
    go_enter Tryz.func84, Tryz.ntmps84
    go_wp2_with fail
    go_ret
    exact ⟨rfl, Below.refl _ _⟩
def sameIts : List It → List It → Bool
  | [], [] => true
  | x :: r, y :: s => decide (x.mark = y.mark) && x.blk.same y.blk && sameIts r s
  | _, _ => false
theorem sameIts_iff (l m : List It) : sameIts l m = true ↔ l = m := by
  induction l generalizing m with
  | nil => cases m <;> simp [sameIts]
  | cons x r ih =>
    cases m with
    | nil => simp [sameIts]
    | cons y s =>
      obtain ⟨a, b⟩ := x
      obtain ⟨c, d⟩ := y
      simp [sameIts, ih, Bk.same_iff]
theorem sameIts_yes {l m : List It} (h : l = m) : sameIts l m = true := (sameIts_iff l m).2 h
theorem sameIts_no {l m : List It} (h : ¬ l = m) : sameIts l m = false := by rw [← Bool.not_eq_true, sameIts_iff]; exact h
set_option maxRecDepth 100000 in
set_option maxHeartbeats 2000000 in
theorem items_any (sv tv : Value) (l m : List (It × Value)) (hl : l.length ≤ 100000) (hm : m.length ≤ 100000) (w : World) (h : ItemsAt w sv l) (k : ItemsAt w tv m) : Calls Tryz.prog 17 #[sv, tv] w fun e w' => e = .returned (.bool (sameIts (l.map (·.1)) (m.map (·.1)))) ∧ Below w.heap.size w w' := by
  obtain ⟨a, c, rfl, hc1, hc⟩ := h
  obtain ⟨b, d, rfl, hd1, hd⟩ := k
  by_cases hlm : l.length = m.length
  · have HC := Lib.hid hc
    have HD := Lib.hid hd
    obtain ⟨n, hn⟩ : ∃ n, m.length = n := ⟨_, rfl⟩
    rw [hlm, hn]
    rw [hn] at hlm hm
    have HL := Lib.hid hlm
    have HM := Lib.hid hn
    clear hc hd hc1 hd1 hl hlm hn
    go_enter Tryz.func17, Tryz.ntmps17
    go_wp2_with fail
    go_loopg [5] n (fun q i wr => ∃ k : Nat, n - k ≤ q ∧ k ≤ n ∧ i = .int .i64 k ∧ (l.map (·.1)).take k = (m.map (·.1)).take k ∧ Below w.heap.size w wr)
    case atStart => exact ⟨0, by omega, by omega, rfl, rfl, Below.refl _ _⟩
    case round =>
      obtain ⟨k, hq, hk, rfl, hsame, hb⟩ := hrel
      have HS := Lib.hid hsame
      have HB := Lib.hid hb
      clear hsame hb
      by_cases hlt : k < n
      · obtain ⟨xv, hx⟩ : ∃ x, l[k]? = some x := ⟨_, List.getElem?_eq_getElem (by have := HL.out; omega)⟩
        obtain ⟨yv, hy⟩ : ∃ y, m[k]? = some y := ⟨_, List.getElem?_eq_getElem (by have := HM.out; omega)⟩
        obtain ⟨x, bx⟩ := xv
        obtain ⟨y, bY⟩ := yv
        obtain ⟨x1, x2, g, o, rfl, x3⟩ := HC.out k _ hx
        obtain ⟨y1, y2, g2, o2, rfl, y3⟩ := HD.out k _ hy
        have HX := Lib.hid (ItAt.of (x3.below HB.out (x3.lt (by rw [It.arr_size x1]; decide))))
        have HY := Lib.hid (ItAt.of (y3.below HB.out (y3.lt (by rw [It.arr_size y1]; decide))))
        have HXL : Hid (g < wr.heap.size) := Lib.hid (HX.out.all.lt (by rw [It.arr_size x1]; decide))
        have HYL : Hid (g2 < wr.heap.size) := Lib.hid (HY.out.all.lt (by rw [It.arr_size y1]; decide))
        have HXW := Lib.hid x1
        have HYW := Lib.hid y1
        have HXB := Lib.hid (x2.below HB.out)
        have HYB := Lib.hid (y2.below HB.out)
        have HXK : Hid ((l.map (·.1))[k]? = some x) := Lib.hid (by rw [List.getElem?_map, hx]; rfl)
        have HYK : Hid ((m.map (·.1))[k]? = some y) := Lib.hid (by rw [List.getElem?_map, hy]; rfl)
        have HBA := Lib.hid fun w h1 h2 => block_any x.blk y.blk bx bY x1.b y1.b w h1 h2
        have HNO : Hid (x ≠ y → ¬ (l.map (·.1) = m.map (·.1))) := Lib.hid fun hne h => by
          have h2 := HXK.out
          rw [h, HYK.out] at h2
          exact hne (Option.some.inj h2).symm
        have gk : decide ((k : Int) < (n : Int)) = true := decide_eq_true (by omega)
        have hk0 : (k : Int) < (n : Int) := by omega
        have HXS := Lib.hid (x.blk.arr_size x1.b bx)
        have HYS := Lib.hid (y.blk.arr_size y1.b bY)
        clear x1 x2 x3 y1 y2 y3 hx hy
        obtain ⟨⟨xk, xi⟩, xb⟩ := x
        obtain ⟨⟨yk, yi⟩, yb⟩ := y
        simp only at *
        by_cases hmk : xk = yk ∧ xi = yi
        · obtain ⟨rfl, rfl⟩ := hmk
          have gm : ((xk != xk) = false) := by simp
          have gm2 : ((xi != xi) = false) := by simp
          go_upto_region 6 with fail
          refine startH (fun wq => Below wr.heap.size wr wq) (by kernel_rfl) ?_
          refine takeH 0 (some 17) (.slice (some ⟨g, o, none⟩) n c) rfl rfl (by kernel_rfl) (by kernel_rfl) (by kernel_rfl) (fun _ _ _ h => h) rfl (fun wq hS => by go_simp) (Below.refl _ _).drew ?_
          try simp only [Act.put, List.setIfInBounds_toArray, List.set_cons_succ, List.set_cons_zero]
          refine takeH 1 (some 18) (.int .i64 k) rfl rfl (by kernel_rfl) (by kernel_rfl) (by kernel_rfl) (fun _ _ _ h => h) rfl (fun wq hS => by go_simp) (Below.refl _ _).drew ?_
          try simp only [Act.put, List.setIfInBounds_toArray, List.set_cons_succ, List.set_cons_zero]
          refine takeH 2 (some 19) (.pointer (some ⟨g, o + k * 47, none⟩)) rfl rfl (by kernel_rfl) (by kernel_rfl) (by kernel_rfl) (fun _ _ _ h => h) rfl (fun wq hS => by go_simp) (Below.refl _ _).drew ?_
          try simp only [Act.put, List.setIfInBounds_toArray, List.set_cons_succ, List.set_cons_zero]
          refine takeH 3 (some 20) (.pointer (some ⟨g, o + k * 47, none⟩)) rfl rfl (by kernel_rfl) (by kernel_rfl) (by kernel_rfl) (fun _ _ _ h => h) rfl (fun wq hS => by go_simp) (Below.refl _ _).drew ?_
          try simp only [Act.put, List.setIfInBounds_toArray, List.set_cons_succ, List.set_cons_zero]
          refine takeH 4 (some 21) (.agg #[.int .i64 xk, .int .i64 xi]) rfl rfl (by kernel_rfl) (by kernel_rfl) (by kernel_rfl) (fun _ _ _ h => h) rfl (fun wq hS => by have q := HX.out.below hS HXL.out; have c0 := q.c0; have c1 := q.c1; go_simp) (Below.refl _ _).drew ?_
          try simp only [Act.put, List.setIfInBounds_toArray, List.set_cons_succ, List.set_cons_zero]
          refine takeH 5 (some 22) (.slice (some ⟨g2, o2, none⟩) n d) rfl rfl (by kernel_rfl) (by kernel_rfl) (by kernel_rfl) (fun _ _ _ h => h) rfl (fun wq hS => by go_simp) (Below.refl _ _).drew ?_
          try simp only [Act.put, List.setIfInBounds_toArray, List.set_cons_succ, List.set_cons_zero]
          refine takeH 6 (some 23) (.int .i64 k) rfl rfl (by kernel_rfl) (by kernel_rfl) (by kernel_rfl) (fun _ _ _ h => h) rfl (fun wq hS => by go_simp) (Below.refl _ _).drew ?_
          try simp only [Act.put, List.setIfInBounds_toArray, List.set_cons_succ, List.set_cons_zero]
          refine takeH 7 (some 24) (.pointer (some ⟨g2, o2 + k * 47, none⟩)) rfl rfl (by kernel_rfl) (by kernel_rfl) (by kernel_rfl) (fun _ _ _ h => h) rfl (fun wq hS => by go_simp) (Below.refl _ _).drew ?_
          try simp only [Act.put, List.setIfInBounds_toArray, List.set_cons_succ, List.set_cons_zero]
          refine takeH 8 (some 25) (.pointer (some ⟨g2, o2 + k * 47, none⟩)) rfl rfl (by kernel_rfl) (by kernel_rfl) (by kernel_rfl) (fun _ _ _ h => h) rfl (fun wq hS => by go_simp) (Below.refl _ _).drew ?_
          try simp only [Act.put, List.setIfInBounds_toArray, List.set_cons_succ, List.set_cons_zero]
          refine takeH 9 (some 26) (.agg #[.int .i64 xk, .int .i64 xi]) rfl rfl (by kernel_rfl) (by kernel_rfl) (by kernel_rfl) (fun _ _ _ h => h) rfl (fun wq hS => by have q := HY.out.below hS HYL.out; have c0 := q.c0; have c1 := q.c1; go_simp) (Below.refl _ _).drew ?_
          try simp only [Act.put, List.setIfInBounds_toArray, List.set_cons_succ, List.set_cons_zero]
          refine takeH 10 (some 27) (.bool false) rfl rfl (by kernel_rfl) (by kernel_rfl) (by kernel_rfl) (fun _ _ _ h => h) rfl (fun wq hS => by go_simp) (Below.refl _ _).drew ?_
          try simp only [Act.put, List.setIfInBounds_toArray, List.set_cons_succ, List.set_cons_zero]
          refine takeH 11 (some 28) (.bool false) rfl rfl (by kernel_rfl) (by kernel_rfl) (by kernel_rfl) (fun _ _ _ h => h) rfl (fun wq hS => by go_simp) (Below.refl _ _).drew ?_
          try simp only [Act.put, List.setIfInBounds_toArray, List.set_cons_succ, List.set_cons_zero]
          refine takeH 12 (some 29) (.slice (some ⟨g, o, none⟩) n c) rfl rfl (by kernel_rfl) (by kernel_rfl) (by kernel_rfl) (fun _ _ _ h => h) rfl (fun wq hS => by go_simp) (Below.refl _ _).drew ?_
          try simp only [Act.put, List.setIfInBounds_toArray, List.set_cons_succ, List.set_cons_zero]
          refine takeH 13 (some 30) (.int .i64 k) rfl rfl (by kernel_rfl) (by kernel_rfl) (by kernel_rfl) (fun _ _ _ h => h) rfl (fun wq hS => by go_simp) (Below.refl _ _).drew ?_
          try simp only [Act.put, List.setIfInBounds_toArray, List.set_cons_succ, List.set_cons_zero]
          refine takeH 14 (some 31) (.pointer (some ⟨g, o + k * 47, none⟩)) rfl rfl (by kernel_rfl) (by kernel_rfl) (by kernel_rfl) (fun _ _ _ h => h) rfl (fun wq hS => by go_simp) (Below.refl _ _).drew ?_
          try simp only [Act.put, List.setIfInBounds_toArray, List.set_cons_succ, List.set_cons_zero]
          refine takeH 15 (some 32) (.pointer (some ⟨g, o + k * 47 + 2, none⟩)) rfl rfl (by kernel_rfl) (by kernel_rfl) (by kernel_rfl) (fun _ _ _ h => h) rfl (fun wq hS => by go_simp) (Below.refl _ _).drew ?_
          try simp only [Act.put, List.setIfInBounds_toArray, List.set_cons_succ, List.set_cons_zero]
          refine takeH 16 (some 33) (.agg (xb.arr bx)) rfl rfl (by kernel_rfl) (by kernel_rfl) (by kernel_rfl) (fun _ _ _ h => h) rfl (fun wq hS => exec_load_at wq _ _ 73 _ rfl (g) (o + k * 47 + 2) rfl (xb.arr bx) _ Tryz.underlying73 rfl (by rw [HXS.out]; exact info73) ((HX.out.below hS HXL.out).blk)) (Below.refl _ _).drew ?_
          try simp only [Act.put, List.setIfInBounds_toArray, List.set_cons_succ, List.set_cons_zero]
          refine takeH 17 (some 34) (.slice (some ⟨g2, o2, none⟩) n d) rfl rfl (by kernel_rfl) (by kernel_rfl) (by kernel_rfl) (fun _ _ _ h => h) rfl (fun wq hS => by go_simp) (Below.refl _ _).drew ?_
          try simp only [Act.put, List.setIfInBounds_toArray, List.set_cons_succ, List.set_cons_zero]
          refine takeH 18 (some 35) (.int .i64 k) rfl rfl (by kernel_rfl) (by kernel_rfl) (by kernel_rfl) (fun _ _ _ h => h) rfl (fun wq hS => by go_simp) (Below.refl _ _).drew ?_
          try simp only [Act.put, List.setIfInBounds_toArray, List.set_cons_succ, List.set_cons_zero]
          refine takeH 19 (some 36) (.pointer (some ⟨g2, o2 + k * 47, none⟩)) rfl rfl (by kernel_rfl) (by kernel_rfl) (by kernel_rfl) (fun _ _ _ h => h) rfl (fun wq hS => by go_simp) (Below.refl _ _).drew ?_
          try simp only [Act.put, List.setIfInBounds_toArray, List.set_cons_succ, List.set_cons_zero]
          refine takeH 20 (some 37) (.pointer (some ⟨g2, o2 + k * 47 + 2, none⟩)) rfl rfl (by kernel_rfl) (by kernel_rfl) (by kernel_rfl) (fun _ _ _ h => h) rfl (fun wq hS => by go_simp) (Below.refl _ _).drew ?_
          try simp only [Act.put, List.setIfInBounds_toArray, List.set_cons_succ, List.set_cons_zero]
          refine takeH 21 (some 38) (.agg (yb.arr bY)) rfl rfl (by kernel_rfl) (by kernel_rfl) (by kernel_rfl) (fun _ _ _ h => h) rfl (fun wq hS => exec_load_at wq _ _ 73 _ rfl (g2) (o2 + k * 47 + 2) rfl (yb.arr bY) _ Tryz.underlying73 rfl (by rw [HYS.out]; exact info73) ((HY.out.below hS HYL.out).blk)) (Below.refl _ _).drew ?_
          try simp only [Act.put, List.setIfInBounds_toArray, List.set_cons_succ, List.set_cons_zero]
          refine oneH 22 (by kernel_rfl) rfl rfl fun K hK => ?_
          go_simp
          refine (HBA.out _ (HXB.out.below (Below.refl _ _).drew) (HYB.out.below (Below.refl _ _).drew)).mono ?_
          rintro e w2 ⟨rfl, hb⟩
          have HS2 := Lib.hid (stay (Below.refl wr.heap.size wr).drew hb)
          refine hK _ _ HS2.out ?_
          clear hK K hb HBA
          try simp only [Act.put, List.setIfInBounds_toArray, List.set_cons_succ, List.set_cons_zero]
          have HB2 := Lib.hid (stay HB.out HS2.out)
          by_cases hbk : xb = yb
          · have hsm : xb.same yb = true := (Bk.same_iff _ _).2 hbk
            rw [hsm]
            have HST : Hid ((l.map (·.1)).take (k + 1) = (m.map (·.1)).take (k + 1)) := Lib.hid (by rw [List.take_add_one, List.take_add_one, HS.out, HXK.out, HYK.out, hbk])
            clear hsm hbk gm gm2
            refine takeH 23 (some 40) (.bool false) rfl rfl (by kernel_rfl) (by kernel_rfl) (by kernel_rfl) (fun _ _ _ h => h) rfl (fun wq hS => by go_simp) HS2.out ?_
            try simp only [Act.put, List.setIfInBounds_toArray, List.set_cons_succ, List.set_cons_zero]
            refine takeH 24 (some 41) (.bool false) rfl rfl (by kernel_rfl) (by kernel_rfl) (by kernel_rfl) (fun _ _ _ h => h) rfl (fun wq hS => by go_simp) HS2.out ?_
            try simp only [Act.put, List.setIfInBounds_toArray, List.set_cons_succ, List.set_cons_zero]
            refine wpAnyH_done (by kernel_rfl) ?_ _
            go_wp2_with fail
            go_roundg (n - (k + 1))
            case measure => omega
            case rel => exact ⟨k + 1, by omega, by omega, by go_num, HST.out, HB2.out⟩
          · have hsm : xb.same yb = false := by rw [← Bool.not_eq_true, Bk.same_iff]; exact hbk
            rw [hsm]
            have HX2 := Lib.hid (HNO.out fun h => hbk (by cases h; rfl))
            clear hsm hbk gm gm2
            refine takeH 23 (some 40) (.bool true) rfl rfl (by kernel_rfl) (by kernel_rfl) (by kernel_rfl) (fun _ _ _ h => h) rfl (fun wq hS => by go_simp) HS2.out ?_
            try simp only [Act.put, List.setIfInBounds_toArray, List.set_cons_succ, List.set_cons_zero]
            refine takeH 24 (some 41) (.bool true) rfl rfl (by kernel_rfl) (by kernel_rfl) (by kernel_rfl) (fun _ _ _ h => h) rfl (fun wq hS => by go_simp) HS2.out ?_
            try simp only [Act.put, List.setIfInBounds_toArray, List.set_cons_succ, List.set_cons_zero]
            refine wpAnyH_done (by kernel_rfl) ?_ _
            go_wp2_with fail
            go_ret
            exact ⟨ret_bool (sameIts_no HX2.out).symm, HB2.out⟩
        · have hne : Hid (¬ ((xk, xi), xb).1 = ((yk, yi), yb).1) := Lib.hid fun h => hmk (by simpa using h)
          have HX2 := Lib.hid (HNO.out fun h => hmk (by cases h; exact ⟨rfl, rfl⟩))
          have HMK := Lib.hid hmk
          clear hmk
          go_upto_region 6 with fail
          refine startH (fun wq => Below wr.heap.size wr wq) (by kernel_rfl) ?_
          refine takeH 0 (some 17) (.slice (some ⟨g, o, none⟩) n c) rfl rfl (by kernel_rfl) (by kernel_rfl) (by kernel_rfl) (fun _ _ _ h => h) rfl (fun wq hS => by go_simp) (Below.refl _ _).drew ?_
          try simp only [Act.put, List.setIfInBounds_toArray, List.set_cons_succ, List.set_cons_zero]
          refine takeH 1 (some 18) (.int .i64 k) rfl rfl (by kernel_rfl) (by kernel_rfl) (by kernel_rfl) (fun _ _ _ h => h) rfl (fun wq hS => by go_simp) (Below.refl _ _).drew ?_
          try simp only [Act.put, List.setIfInBounds_toArray, List.set_cons_succ, List.set_cons_zero]
          refine takeH 2 (some 19) (.pointer (some ⟨g, o + k * 47, none⟩)) rfl rfl (by kernel_rfl) (by kernel_rfl) (by kernel_rfl) (fun _ _ _ h => h) rfl (fun wq hS => by go_simp) (Below.refl _ _).drew ?_
          try simp only [Act.put, List.setIfInBounds_toArray, List.set_cons_succ, List.set_cons_zero]
          refine takeH 3 (some 20) (.pointer (some ⟨g, o + k * 47, none⟩)) rfl rfl (by kernel_rfl) (by kernel_rfl) (by kernel_rfl) (fun _ _ _ h => h) rfl (fun wq hS => by go_simp) (Below.refl _ _).drew ?_
          try simp only [Act.put, List.setIfInBounds_toArray, List.set_cons_succ, List.set_cons_zero]
          refine takeH 4 (some 21) (.agg #[.int .i64 xk, .int .i64 xi]) rfl rfl (by kernel_rfl) (by kernel_rfl) (by kernel_rfl) (fun _ _ _ h => h) rfl (fun wq hS => by have q := HX.out.below hS HXL.out; have c0 := q.c0; have c1 := q.c1; go_simp) (Below.refl _ _).drew ?_
          try simp only [Act.put, List.setIfInBounds_toArray, List.set_cons_succ, List.set_cons_zero]
          refine takeH 5 (some 22) (.slice (some ⟨g2, o2, none⟩) n d) rfl rfl (by kernel_rfl) (by kernel_rfl) (by kernel_rfl) (fun _ _ _ h => h) rfl (fun wq hS => by go_simp) (Below.refl _ _).drew ?_
          try simp only [Act.put, List.setIfInBounds_toArray, List.set_cons_succ, List.set_cons_zero]
          refine takeH 6 (some 23) (.int .i64 k) rfl rfl (by kernel_rfl) (by kernel_rfl) (by kernel_rfl) (fun _ _ _ h => h) rfl (fun wq hS => by go_simp) (Below.refl _ _).drew ?_
          try simp only [Act.put, List.setIfInBounds_toArray, List.set_cons_succ, List.set_cons_zero]
          refine takeH 7 (some 24) (.pointer (some ⟨g2, o2 + k * 47, none⟩)) rfl rfl (by kernel_rfl) (by kernel_rfl) (by kernel_rfl) (fun _ _ _ h => h) rfl (fun wq hS => by go_simp) (Below.refl _ _).drew ?_
          try simp only [Act.put, List.setIfInBounds_toArray, List.set_cons_succ, List.set_cons_zero]
          refine takeH 8 (some 25) (.pointer (some ⟨g2, o2 + k * 47, none⟩)) rfl rfl (by kernel_rfl) (by kernel_rfl) (by kernel_rfl) (fun _ _ _ h => h) rfl (fun wq hS => by go_simp) (Below.refl _ _).drew ?_
          try simp only [Act.put, List.setIfInBounds_toArray, List.set_cons_succ, List.set_cons_zero]
          refine takeH 9 (some 26) (.agg #[.int .i64 yk, .int .i64 yi]) rfl rfl (by kernel_rfl) (by kernel_rfl) (by kernel_rfl) (fun _ _ _ h => h) rfl (fun wq hS => by have q := HY.out.below hS HYL.out; have c0 := q.c0; have c1 := q.c1; go_simp) (Below.refl _ _).drew ?_
          try simp only [Act.put, List.setIfInBounds_toArray, List.set_cons_succ, List.set_cons_zero]
          refine takeH 10 (some 27) (.bool true) rfl rfl (by kernel_rfl) (by kernel_rfl) (by kernel_rfl) (fun _ _ _ h => h) rfl (fun wq hS => by go_simp; exact fun a b => HMK.out ⟨a, b⟩) (Below.refl _ _).drew ?_
          try simp only [Act.put, List.setIfInBounds_toArray, List.set_cons_succ, List.set_cons_zero]
          refine takeH 11 (some 28) (.bool true) rfl rfl (by kernel_rfl) (by kernel_rfl) (by kernel_rfl) (fun _ _ _ h => h) rfl (fun wq hS => by go_simp) (Below.refl _ _).drew ?_
          try simp only [Act.put, List.setIfInBounds_toArray, List.set_cons_succ, List.set_cons_zero]
          refine passH 12 (some 29) rfl rfl (by kernel_rfl) (by kernel_rfl) (by kernel_rfl) (fun _ _ _ h => h) rfl (Below.refl _ _).drew ?_
          try simp only [Act.put, List.setIfInBounds_toArray, List.set_cons_succ, List.set_cons_zero]
          refine passH 13 (some 30) rfl rfl (by kernel_rfl) (by kernel_rfl) (by kernel_rfl) (fun _ _ _ h => h) rfl (Below.refl _ _).drew ?_
          try simp only [Act.put, List.setIfInBounds_toArray, List.set_cons_succ, List.set_cons_zero]
          refine passH 14 (some 31) rfl rfl (by kernel_rfl) (by kernel_rfl) (by kernel_rfl) (fun _ _ _ h => h) rfl (Below.refl _ _).drew ?_
          try simp only [Act.put, List.setIfInBounds_toArray, List.set_cons_succ, List.set_cons_zero]
          refine passH 15 (some 32) rfl rfl (by kernel_rfl) (by kernel_rfl) (by kernel_rfl) (fun _ _ _ h => h) rfl (Below.refl _ _).drew ?_
          try simp only [Act.put, List.setIfInBounds_toArray, List.set_cons_succ, List.set_cons_zero]
          refine passH 16 (some 33) rfl rfl (by kernel_rfl) (by kernel_rfl) (by kernel_rfl) (fun _ _ _ h => h) rfl (Below.refl _ _).drew ?_
          try simp only [Act.put, List.setIfInBounds_toArray, List.set_cons_succ, List.set_cons_zero]
          refine passH 17 (some 34) rfl rfl (by kernel_rfl) (by kernel_rfl) (by kernel_rfl) (fun _ _ _ h => h) rfl (Below.refl _ _).drew ?_
          try simp only [Act.put, List.setIfInBounds_toArray, List.set_cons_succ, List.set_cons_zero]
          refine passH 18 (some 35) rfl rfl (by kernel_rfl) (by kernel_rfl) (by kernel_rfl) (fun _ _ _ h => h) rfl (Below.refl _ _).drew ?_
          try simp only [Act.put, List.setIfInBounds_toArray, List.set_cons_succ, List.set_cons_zero]
          refine passH 19 (some 36) rfl rfl (by kernel_rfl) (by kernel_rfl) (by kernel_rfl) (fun _ _ _ h => h) rfl (Below.refl _ _).drew ?_
          try simp only [Act.put, List.setIfInBounds_toArray, List.set_cons_succ, List.set_cons_zero]
          refine passH 20 (some 37) rfl rfl (by kernel_rfl) (by kernel_rfl) (by kernel_rfl) (fun _ _ _ h => h) rfl (Below.refl _ _).drew ?_
          try simp only [Act.put, List.setIfInBounds_toArray, List.set_cons_succ, List.set_cons_zero]
          refine passH 21 (some 38) rfl rfl (by kernel_rfl) (by kernel_rfl) (by kernel_rfl) (fun _ _ _ h => h) rfl (Below.refl _ _).drew ?_
          try simp only [Act.put, List.setIfInBounds_toArray, List.set_cons_succ, List.set_cons_zero]
          refine passH 22 (some 39) rfl rfl (by kernel_rfl) (by kernel_rfl) (by kernel_rfl) (fun _ _ _ h => h) rfl (Below.refl _ _).drew ?_
          try simp only [Act.put, List.setIfInBounds_toArray, List.set_cons_succ, List.set_cons_zero]
          refine passH 23 (some 40) rfl rfl (by kernel_rfl) (by kernel_rfl) (by kernel_rfl) (fun _ _ _ h => h) rfl (Below.refl _ _).drew ?_
          try simp only [Act.put, List.setIfInBounds_toArray, List.set_cons_succ, List.set_cons_zero]
          refine takeH 24 (some 41) (.bool true) rfl rfl (by kernel_rfl) (by kernel_rfl) (by kernel_rfl) (fun _ _ _ h => h) rfl (fun wq hS => by go_simp) (Below.refl _ _).drew ?_
          try simp only [Act.put, List.setIfInBounds_toArray, List.set_cons_succ, List.set_cons_zero]
          refine wpAnyH_done (by kernel_rfl) ?_ _
          have HB2 : Hid (Below w.heap.size w wr.drew) := Lib.hid HB.out.drew
          go_wp2_with fail
          go_ret
          exact ⟨ret_bool (sameIts_no HX2.out).symm, HB2.out⟩
      · obtain rfl : k = n := by omega
        have HX : Hid (l.map (·.1) = m.map (·.1)) := Lib.hid (by
          have := HS.out
          rwa [List.take_of_length_le (by rw [List.length_map]; have := HL.out; omega), List.take_of_length_le (by rw [List.length_map]; have := HM.out; omega)] at this)
        have gk : decide ((k : Int) < (k : Int)) = false := decide_eq_false (by omega)
        go_wp2_with fail
        go_ret
        exact ⟨ret_bool (sameIts_yes HX.out).symm, HB.out⟩
  · have HX : Hid (¬ (l.map (·.1) = m.map (·.1))) := Lib.hid fun h => hlm (by have := congrArg List.length h; simpa using this)
    have gn : ((l.length : Int) != (m.length : Int)) = true := by simp; omega
    obtain ⟨n1, h1⟩ : ∃ n, l.length = n := ⟨_, rfl⟩
    obtain ⟨n2, h2⟩ : ∃ n, m.length = n := ⟨_, rfl⟩
    rw [h1, h2] at gn hlm
    rw [h1, h2]
    clear hc hd hc1 hd1 hl hm h1 h2
    go_enter Tryz.func17, Tryz.ntmps17
    go_wp2_with fail
    go_ret
    exact ⟨ret_bool (sameIts_no HX.out).symm, Below.refl _ _⟩

end Go.Proofs.YthlnmdihdcfphaaGreatDoor
