/- GroupMarks' walk. -/
import Derived.Test.YtbhaifdhmfmeoaaWakes
namespace Go.Proofs.Ytbhaifdhmfmeoaa
set_option linter.unusedSimpArgs false
set_option linter.unusedVariables false
open Go.RowKit

def mapB (id : Int) : Bk := ⟨3, id, zeros 32, 0, [], 0, zeros 8⟩
def mapI (id : Int) : It := ⟨(3, id), mapB id⟩
theorem built57m (id : Int) : Try.prog.built 57 [(0, .int .i64 3), (1, .int .i64 id)] = some ((mapB id).arr (.slice none 0 0)) := by kernel_rfl
theorem built72p (id : Int) : Try.prog.built 72 [(0, .agg #[.int .i64 3, .int .i64 id]), (1, .agg ((mapB id).arr (.slice none 0 0)))] = some ((mapI id).arr (.slice none 0 0)) := by kernel_rfl
theorem mapI_wf {id : Int} (h : Small id) : (mapI id).Wf := ⟨smallN 3 (by decide), h, ⟨smallN 3 (by decide), h, small0, small0, by simp [mapI, mapB, zeros], zeros_byte 32, Nat.zero_le _, (fun x hx => by cases hx), zeros_length 8, zeros_small 8⟩⟩
theorem mapI_ok {id : Int} (h : 0 ≤ id ∧ id < 8) : (mapI id).ok = true := by
  have h1 : okMark (3, id) = true := okMark_iff.2 ⟨by simp, by simp, h.1, by simp only; omega, fun _ => h.2⟩
  have h2 : within id 0 7 = true := by simp [within]; omega
  have h3 : (zeros 8).all isHead = true := by decide
  simp [It.ok, It.fits, It.has, mapI, mapB, h1, hasBlock, Bk.good, Bk.plain, h2]
  exact fun x hx => List.all_eq_true.1 h3 x hx
/-- An item in a variable of one's own. -/
structure VarI (w : World) (g : Nat) (x : It) : Prop where
  blk : Blk w g (x.cells nb)
  wf : x.Wf
  nob : x.blk.bytes = []
theorem VarI.at {w : World} {g : Nat} {x : It} (h : VarI w g x) : At w g 0 (x.arr nb) := h.blk.all rfl
theorem VarI.below {w w' : World} {g : Nat} {x : It} (h : VarI w g x) (hb : Below w.heap.size w w') : VarI w' g x := ⟨h.blk.below hb h.blk.lt, h.wf, h.nob⟩
theorem VarI.item {w : World} {g : Nat} {x : It} (h : VarI w g x) : x.Wf ∧ BytesAt w nb x.blk.bytes := ⟨h.wf, by rw [h.nob]; exact BytesAt.nil _ _ _⟩
theorem lit1_run (W : World) {x : It} (hx : x.Wf) : (Instr.buildSlice 22 1 #[(0, .agg (x.arr nb))]).run Try.prog W = .ok (.slice (some ⟨W.heap.size, 0, none⟩) 1 1) (W.alloc (.cells (itCells [(x, nb)]).toArray 72)) := run_litI W [(x, nb)] (fun y hy => by obtain rfl := List.mem_singleton.1 hy; exact hx) (by simp) (by simp)
theorem lit2_run (W : World) {x y : It} (hx : x.Wf) (hy : y.Wf) : (Instr.buildSlice 22 2 #[(0, .agg (x.arr nb)), (1, .agg (y.arr nb))]).run Try.prog W = .ok (.slice (some ⟨W.heap.size, 0, none⟩) 2 2) (W.alloc (.cells (itCells [(x, nb), (y, nb)]).toArray 72)) := run_litI W [(x, nb), (y, nb)] (fun z hz => by simp at hz; rcases hz with rfl | rfl; exact hx; exact hy) (by simp) (by simp)
theorem lit3_run (W : World) {x y z : It} (hx : x.Wf) (hy : y.Wf) (hz : z.Wf) : (Instr.buildSlice 22 3 #[(0, .agg (x.arr nb)), (1, .agg (y.arr nb)), (2, .agg (z.arr nb))]).run Try.prog W = .ok (.slice (some ⟨W.heap.size, 0, none⟩) 3 3) (W.alloc (.cells (itCells [(x, nb), (y, nb), (z, nb)]).toArray 72)) := run_litI W [(x, nb), (y, nb), (z, nb)] (fun u hu => by simp at hu; rcases hu with rfl | rfl | rfl; exact hx; exact hy; exact hz) (by simp) (by simp)
theorem lit_its (W : World) {l : List (It × Value)} (h : ∀ x ∈ l, x.1.Wf ∧ BytesAt W x.2 x.1.blk.bytes) (n : Nat) (hn : l.length = n) (hl : n ≤ 1000) : ItemsAt (W.alloc (.cells (itCells l).toArray 72)) (.slice (some ⟨W.heap.size, 0, none⟩) n n) l := by
  subst hn
  exact (OwnI.lit (fun x hx => (h x hx).1) (fun x hx => (h x hx).2) hl).items
theorem slot_img (k v : Int) : slotOf (imgI k v).mark = k := by simp [slotOf, imgI]
theorem slot_map (k : Int) : slotOf (mapI k).mark = 64 + k := by simp [slotOf, mapI]
theorem slot_mark {k id : Int} (h : k ≠ 3) : slotOf (markI k id).mark = id := by simp [slotOf, markI, h]
theorem may_om {k v : Int} (h : 0 ≤ k ∧ k < 8) : mayBe [imgI k v, mapI k] = true := mayBe_iff.2 ⟨by simp, by simp, fun x hx => by
  simp only [List.mem_cons, List.not_mem_nil, or_false] at hx
  rcases hx with rfl | rfl
  · exact imgI_ok (by omega)
  · exact mapI_ok h, by
  have : ¬ (k = 64 + k) := by omega
  simp [slots, slot_img, slot_map, this]⟩
theorem may_dup {x y : It} (h : slotOf x.mark = slotOf y.mark) : mayBe [x, y] = false := by
  rw [← Bool.not_eq_true, mayBe_iff]
  rintro ⟨-, -, -, hd⟩
  simp [slots, h] at hd
theorem may_dup3 {x y : It} : mayBe [x, y, x] = false := by
  rw [← Bool.not_eq_true, mayBe_iff]
  rintro ⟨-, -, -, hd⟩
  simp [slots] at hd
theorem may_one {x : It} (h : x.ok = true) : mayBe [x] = true := mayBe_iff.2 ⟨by simp, by simp, fun y hy => by obtain rfl := List.mem_singleton.1 hy; exact h, by simp [slots]⟩
theorem size_om {k v : Int} (h : 0 ≤ k ∧ k < 8) : sizeOf' [imgI k v, mapI k] = 3 := by
  unfold sizeOf'
  rw [may_om h, if_pos rfl]
  simp [parts, blocks, marks, imgI, mapI, hasBlock]
theorem size_dup {x y : It} (h : slotOf x.mark = slotOf y.mark) : sizeOf' [x, y] = 0 := by unfold sizeOf'; rw [may_dup h]; exact if_neg Bool.false_ne_true
theorem size_dup3 {x y : It} : sizeOf' [x, y, x] = 0 := by unfold sizeOf'; rw [may_dup3]; exact if_neg Bool.false_ne_true
theorem parts_one {x : It} (h : x.ok = true) : partsN [x] = 1 := by unfold partsN; rw [may_one h, if_pos rfl]; simp [parts]
/-- The three variables. -/
structure Vs (w wx : World) (g8 g9 g10 : Nat) (m x y : It) : Prop where
  m : VarI wx g8 m
  x : VarI wx g9 x
  y : VarI wx g10 y
  bel : Below w.heap.size w wx
theorem Vs.below {w wx wy : World} {g8 g9 g10 : Nat} {m x y : It} (h : Vs w wx g8 g9 g10 m x y) (hb : Below wx.heap.size wx wy) : Vs w wy g8 g9 g10 m x y := ⟨h.m.below hb, h.x.below hb, h.y.below hb, stay h.bel hb⟩
set_option maxRecDepth 100000 in
set_option maxHeartbeats 4000000 in
theorem dots_any (id v0 v1 q0 q1 : Int) (hid : Byte id) (h0 : Byte v0) (h1 : Byte v1) (hq0 : Byte q0) (hq1 : Byte q1) (w : World) : Calls Try.prog 7 #[.int .u8 id, .agg #[.int .u8 v0, .int .u8 v1], .agg #[.int .u8 q0, .int .u8 q1]] w fun e w' => e = .returned (.bool true) ∧ Below w.heap.size w w' := by
  obtain ⟨hi1, hi2⟩ := hid
  obtain ⟨ha1, ha2⟩ := hq0
  obtain ⟨hb1, hb2⟩ := hq1
  obtain ⟨k, hk⟩ : ∃ k : Int, id % 8 = k := ⟨_, rfl⟩
  have hk1 : 0 ≤ k ∧ k < 8 := by omega
  have HKK := Lib.hid hk1
  have gk : Hid (id.tmod 8 = k) := Lib.hid (by rw [← hk, Int.tmod_eq_emod_of_nonneg hi1])
  have HI0 := Lib.hid fun w => image_any k v0 ⟨by omega, by omega⟩ h0 w
  have HI1 := Lib.hid fun w => image_any k v1 ⟨by omega, by omega⟩ h1 w
  have HW0 := Lib.hid (imgI_wf (id := k) (v := v0) ⟨by omega, by omega⟩ h0)
  have HW1 := Lib.hid (imgI_wf (id := k) (v := v1) ⟨by omega, by omega⟩ h1)
  have HWM := Lib.hid (mapI_wf (id := k) ⟨by omega, by omega⟩)
  have HWK := Lib.hid wakes_any
  clear h0 h1
  go_enter Try.func7, Try.ntmps7
  go_upto_region 2 with fail
  rw [hk]
  have HV : Hid (Blk ((w.alloc (.cells #[.int .u8 v0, .int .u8 v1] 48)).alloc (.cells #[.int .u8 q0, .int .u8 q1] 48)) w.heap.size [.int .u8 v0, .int .u8 v1]) := Lib.hid ((Blk.new w #[.int .u8 v0, .int .u8 v1] 48).alloc _)
  have HQ : Hid (Blk ((w.alloc (.cells #[.int .u8 v0, .int .u8 v1] 48)).alloc (.cells #[.int .u8 q0, .int .u8 q1] 48)) (w.heap.size + 1) [.int .u8 q0, .int .u8 q1]) := Lib.hid (Blk.newAt _ _ _ (by simp) rfl)
  have HB : Hid (Below w.heap.size w ((w.alloc (.cells #[.int .u8 v0, .int .u8 v1] 48)).alloc (.cells #[.int .u8 q0, .int .u8 q1] 48))) := Lib.hid (((Below.refl _ _).alloc (Nat.le_refl _) _).alloc (by simp) _)
  generalize (w.alloc (.cells #[.int .u8 v0, .int .u8 v1] 48)).alloc (.cells #[.int .u8 q0, .int .u8 q1] 48) = w1 at *
  clear hk
  refine wp_region_lit ?_
  refine takeL (.int .i64 k) rfl (by go_simp) ?_
  try simp only [Act.put, List.setIfInBounds_toArray, List.set_cons_succ, List.set_cons_zero]
  refine takeL (.agg #[.int .i64 3, .int .i64 k]) rfl (exec_build _ _ _ _ 70 _ rfl #[(0, .int .i64 3), (1, .int .i64 k)] (by simp only [List.map_toArray, List.map_cons, List.map_nil]; rfl) _ (run_build w1 70 _ _ (built70 _ _))) ?_
  try simp only [Act.put, List.setIfInBounds_toArray, List.set_cons_succ, List.set_cons_zero]
  refine takeL (.int .i64 k) rfl (by go_simp) ?_
  try simp only [Act.put, List.setIfInBounds_toArray, List.set_cons_succ, List.set_cons_zero]
  refine takeL (.agg ((mapB k).arr nb)) rfl (exec_build _ _ _ _ 57 _ rfl #[(0, .int .i64 3), (1, .int .i64 k)] (by simp only [List.map_toArray, List.map_cons, List.map_nil]; rfl) _ (run_build w1 57 _ _ (built57m _))) ?_
  try simp only [Act.put, List.setIfInBounds_toArray, List.set_cons_succ, List.set_cons_zero]
  refine takeL (.agg ((mapI k).arr nb)) rfl (exec_build _ _ _ _ 72 _ rfl #[(0, .agg #[.int .i64 3, .int .i64 k]), (1, .agg ((mapB k).arr nb))] (by simp only [List.map_toArray, List.map_cons, List.map_nil]; rfl) _ (run_build w1 72 _ _ (built72p _))) ?_
  try simp only [Act.put, List.setIfInBounds_toArray, List.set_cons_succ, List.set_cons_zero]
  refine alloc_g zero72b rfl ?_
  intro w2 hA hb hl
  try simp only [Act.put, List.setIfInBounds_toArray, List.set_cons_succ, List.set_cons_zero]
  refine store_all (cs := (mapI k).arr nb) hA (same72 It.none_wf HWM.out _ _) (info72s HWM.out _) (It.arr_one rfl) rfl rfl rfl ?_
  intro w3 hD hO hlD
  try simp only [Act.put, List.setIfInBounds_toArray, List.set_cons_succ, List.set_cons_zero]
  have hbb : Below w1.heap.size w1 w3 := hb.trans (hO.below hb.size fun k hk => Nat.le_of_eq hk.symm)
  have HM : Hid (VarI w3 w1.heap.size (mapI k)) := Lib.hid ⟨hD, HWM.out, rfl⟩
  have HV3 := Lib.hid (HV.out.below hbb HV.out.lt)
  have HQ3 := Lib.hid (HQ.out.below hbb HQ.out.lt)
  have HB3 := Lib.hid (stay HB.out hbb)
  generalize w1.heap.size = g8 at *
  clear hA hb hl hD hO hlD hbb HV HQ HB
  refine wpList_nil ?_
  have c0 : w3.cell? ⟨w.heap.size, 0, none⟩ = some (.int .u8 v0) := HV3.out.cell rfl
  go_upto_region 3 with fail
  refine wp_region_lit ?_
  refine takeL (.int .i64 k) rfl (by go_simp) ?_
  try simp only [Act.put, List.setIfInBounds_toArray, List.set_cons_succ, List.set_cons_zero]
  refine takeL (.pointer (some ⟨w.heap.size, 0, none⟩)) rfl (by go_simp) ?_
  try simp only [Act.put, List.setIfInBounds_toArray, List.set_cons_succ, List.set_cons_zero]
  refine takeL (.int .u8 v0) rfl (by go_simp) ?_
  try simp only [Act.put, List.setIfInBounds_toArray, List.set_cons_succ, List.set_cons_zero]
  clear c0
  refine wpList_op rfl fun K hK => ?_
  go_simp
  refine (HI0.out _).mono ?_
  rintro e w4 ⟨rfl, hb⟩
  have HV4 := Lib.hid (HV3.out.below hb HV3.out.lt)
  have HQ4 := Lib.hid (HQ3.out.below hb HQ3.out.lt)
  have HB4 := Lib.hid (stay HB3.out hb)
  have HM4 := Lib.hid (HM.out.below hb)
  clear hb HV3 HQ3 HB3 HM HI0
  refine hK _ _ ?_
  clear hK K
  try simp only [Act.put, List.setIfInBounds_toArray, List.set_cons_succ, List.set_cons_zero]
  refine alloc_g zero72b rfl ?_
  intro w5 hA hb hl
  try simp only [Act.put, List.setIfInBounds_toArray, List.set_cons_succ, List.set_cons_zero]
  refine store_all (cs := (imgI k v0).arr nb) hA (same72 It.none_wf HW0.out _ _) (info72s HW0.out _) (It.arr_one rfl) rfl rfl rfl ?_
  intro w6 hD hO hlD
  try simp only [Act.put, List.setIfInBounds_toArray, List.set_cons_succ, List.set_cons_zero]
  have hbb : Below w4.heap.size w4 w6 := hb.trans (hO.below hb.size fun k hk => Nat.le_of_eq hk.symm)
  have HX : Hid (VarI w6 w4.heap.size (imgI k v0)) := Lib.hid ⟨hD, HW0.out, rfl⟩
  have HM6 := Lib.hid (HM4.out.below hbb)
  have HV6 := Lib.hid (HV4.out.below hbb HV4.out.lt)
  have HQ6 := Lib.hid (HQ4.out.below hbb HQ4.out.lt)
  have HB6 := Lib.hid (stay HB4.out hbb)
  generalize w4.heap.size = g9 at *
  clear hA hb hl hD hO hlD hbb HV4 HQ4 HB4 HM4
  refine wpList_nil ?_
  have c1 : w6.cell? ⟨w.heap.size, 1, none⟩ = some (.int .u8 v1) := HV6.out.cell rfl
  go_upto_region 4 with fail
  refine wp_region_lit ?_
  refine takeL (.int .i64 k) rfl (by go_simp) ?_
  try simp only [Act.put, List.setIfInBounds_toArray, List.set_cons_succ, List.set_cons_zero]
  refine takeL (.pointer (some ⟨w.heap.size, 1, none⟩)) rfl (by go_simp) ?_
  try simp only [Act.put, List.setIfInBounds_toArray, List.set_cons_succ, List.set_cons_zero]
  refine takeL (.int .u8 v1) rfl (by go_simp) ?_
  try simp only [Act.put, List.setIfInBounds_toArray, List.set_cons_succ, List.set_cons_zero]
  clear c1
  refine wpList_op rfl fun K hK => ?_
  go_simp
  refine (HI1.out _).mono ?_
  rintro e w7 ⟨rfl, hb⟩
  have HQ7 := Lib.hid (HQ6.out.below hb HQ6.out.lt)
  have HB7 := Lib.hid (stay HB6.out hb)
  have HM7 := Lib.hid (HM6.out.below hb)
  have HX7 := Lib.hid (HX.out.below hb)
  clear hb HV6 HQ6 HB6 HM6 HX HI1
  refine hK _ _ ?_
  clear hK K
  try simp only [Act.put, List.setIfInBounds_toArray, List.set_cons_succ, List.set_cons_zero]
  refine alloc_g zero72b rfl ?_
  intro w8 hA hb hl
  try simp only [Act.put, List.setIfInBounds_toArray, List.set_cons_succ, List.set_cons_zero]
  refine store_all (cs := (imgI k v1).arr nb) hA (same72 It.none_wf HW1.out _ _) (info72s HW1.out _) (It.arr_one rfl) rfl rfl rfl ?_
  intro w9 hD hO hlD
  try simp only [Act.put, List.setIfInBounds_toArray, List.set_cons_succ, List.set_cons_zero]
  have hbb : Below w7.heap.size w7 w9 := hb.trans (hO.below hb.size fun k hk => Nat.le_of_eq hk.symm)
  have HY : Hid (VarI w9 w7.heap.size (imgI k v1)) := Lib.hid ⟨hD, HW1.out, rfl⟩
  have HM9 := Lib.hid (HM7.out.below hbb)
  have HX9 := Lib.hid (HX7.out.below hbb)
  have HQ9 := Lib.hid (HQ7.out.below hbb HQ7.out.lt)
  have HB9 := Lib.hid (stay HB7.out hbb)
  generalize hg10 : w7.heap.size = g10 at *
  have HN8 : Hid (g8 ≠ g10 ∧ g9 ≠ g10 ∧ w.heap.size ≤ g10) := Lib.hid (by have h1 := HM7.out.blk.lt; have h2 := HX7.out.blk.lt; have h3 := HB7.out.size; omega)
  clear hA hb hl hD hO hlD hbb HQ7 HB7 HM7 HX7 hg10
  refine wpList_nil ?_
  have c0 : w9.cell? ⟨w.heap.size + 1, 0, none⟩ = some (.int .u8 q0) := HQ9.out.cell rfl
  have c1 : w9.cell? ⟨w.heap.size + 1, 1, none⟩ = some (.int .u8 q1) := HQ9.out.cell rfl
  have HVS := Lib.hid (Vs.mk HM9.out HX9.out HY.out HB9.out)
  clear HM9 HX9 HY HB9 HQ9
  refine (Decidable.em (q0 % 2 = 1)).elim (fun hq => ?_) (fun hq => ?_)
  · obtain ⟨r, hr⟩ : ∃ r : Int, q1 % 2 = r := ⟨_, rfl⟩
    have hr1 : r = 0 ∨ r = 1 := by omega
    have HWY := Lib.hid (markI_wf (k := 4 + r) (id := k) ⟨by omega, by omega⟩ ⟨by have := HKK.out; omega, by have := HKK.out; omega⟩)
    have HOKY := Lib.hid (markI_ok (k := 4 + r) (id := k) (by omega) ⟨by have := HKK.out; omega, by have := HKK.out; omega⟩)
    have HSL := Lib.hid (slot_mark (k := 4 + r) (id := k) (by omega))
    have HRR : Hid (q1.tmod 2 = r) := Lib.hid (by rw [Int.tmod_eq_emod_of_nonneg hb1, hr])
    clear hr
    go_upto_region 6 with fail
    refine wp_region_lit ?_
    refine takeL (.pointer (some ⟨w.heap.size + 1, 1, none⟩)) rfl (by go_simp) ?_
    try simp only [Act.put, List.setIfInBounds_toArray, List.set_cons_succ, List.set_cons_zero]
    refine takeL (.int .u8 q1) rfl (by go_simp) ?_
    try simp only [Act.put, List.setIfInBounds_toArray, List.set_cons_succ, List.set_cons_zero]
    refine takeL (.int .u8 r) rfl (by have g := HRR.out; go_simp) ?_
    try simp only [Act.put, List.setIfInBounds_toArray, List.set_cons_succ, List.set_cons_zero]
    refine takeL (.int .i64 r) rfl (by go_simp; exact wrap64 (by omega) (by omega)) ?_
    try simp only [Act.put, List.setIfInBounds_toArray, List.set_cons_succ, List.set_cons_zero]
    refine takeL (.int .i64 (4 + r)) rfl (by go_simp; exact wrap64 (by omega) (by omega)) ?_
    try simp only [Act.put, List.setIfInBounds_toArray, List.set_cons_succ, List.set_cons_zero]
    refine takeL (.int .i64 k) rfl (by go_simp) ?_
    try simp only [Act.put, List.setIfInBounds_toArray, List.set_cons_succ, List.set_cons_zero]
    refine takeL (.agg #[.int .i64 (4 + r), .int .i64 k]) rfl (exec_build _ _ _ _ 70 _ rfl #[(0, .int .i64 (4 + r)), (1, .int .i64 k)] (by simp only [List.map_toArray, List.map_cons, List.map_nil]; rfl) _ (run_build w9 70 _ _ (built70 _ _))) ?_
    try simp only [Act.put, List.setIfInBounds_toArray, List.set_cons_succ, List.set_cons_zero]
    refine takeL (.agg ((markI (4 + r) k).arr nb)) rfl (exec_build _ _ _ _ 72 _ rfl #[(0, .agg #[.int .i64 (4 + r), .int .i64 k])] (by simp only [List.map_toArray, List.map_cons, List.map_nil]; rfl) _ (run_build w9 72 _ _ (built72m _ _))) ?_
    try simp only [Act.put, List.setIfInBounds_toArray, List.set_cons_succ, List.set_cons_zero]
    refine store_all (cs := (markI (4 + r) k).arr nb) HVS.out.y.blk (same72 HW1.out HWY.out _ _) (info72s HWY.out _) (It.arr_one rfl) rfl rfl rfl ?_
    intro w10 hD hO hlD
    try simp only [Act.put, List.setIfInBounds_toArray, List.set_cons_succ, List.set_cons_zero]
    have HVT : Hid (Vs w w10 g8 g9 g10 (mapI k) (imgI k v0) (markI (4 + r) k)) := Lib.hid ⟨⟨HVS.out.m.blk.only hO HN8.out.1, HVS.out.m.wf, rfl⟩, ⟨HVS.out.x.blk.only hO HN8.out.2.1, HVS.out.x.wf, rfl⟩, ⟨hD, HWY.out, rfl⟩, HVS.out.bel.trans (hO.below HVS.out.bel.size fun k hk => by have := HN8.out.2.2; omega)⟩
    clear HVS hD hO hlD c0 c1
    have HVS := Lib.hid HVT.out
    clear HVT
    refine wpList_nil ?_
    go_upto_region 7 with fail
    refine wp_region_lit ?_
    refine load72 HVS.out.x.at ((imgI k v0).arr_size HW0.out nb) rfl rfl ?_
    try simp only [Act.put, List.setIfInBounds_toArray, List.set_cons_succ, List.set_cons_zero]
    refine load72 HVS.out.m.at ((mapI k).arr_size HWM.out nb) rfl rfl ?_
    try simp only [Act.put, List.setIfInBounds_toArray, List.set_cons_succ, List.set_cons_zero]
    refine wpList_run _ _ rfl (exec_buildSlice _ _ _ _ 22 2 _ rfl #[(0, .agg ((imgI k v0).arr nb)), (1, .agg ((mapI k).arr nb))] (by simp only [List.map_toArray, List.map_cons, List.map_nil]; rfl) _ (lit2_run _ HW0.out HWM.out)) ?_
    try simp only [Act.put, List.setIfInBounds_toArray, List.set_cons_succ, List.set_cons_zero]
    have HZ1 := Lib.hid (sizeG_any [(imgI k v0, nb), (mapI k, nb)] [imgI k v0, mapI k] rfl _ (by simp) _ (lit_its _ (fun x hx => by simp at hx; rcases hx with rfl | rfl; exact HVS.out.x.item; exact HVS.out.m.item) 2 rfl (by decide)))
    rw [size_om HKK.out] at HZ1
    have HVA := Lib.hid (HVS.out.below (alloc_bel _ (.cells (itCells [(imgI k v0, nb), (mapI k, nb)]).toArray 72)))
    clear HVS
    refine wpList_op rfl fun K hK => ?_
    go_simp
    refine (HZ1.out).mono ?_
    rintro e wb ⟨rfl, hb⟩
    have HVS := Lib.hid (HVA.out.below hb)
    clear hb HVA HZ1
    refine hK _ _ ?_
    clear hK K
    try simp only [Act.put, List.setIfInBounds_toArray, List.set_cons_succ, List.set_cons_zero]
    refine takeL (.int .i64 3) rfl (by go_simp) ?_
    try simp only [Act.put, List.setIfInBounds_toArray, List.set_cons_succ, List.set_cons_zero]
    refine wpList_nil ?_
    go_upto_region 8 with fail
    refine wp_region_lit ?_
    refine load72 HVS.out.x.at ((imgI k v0).arr_size HW0.out nb) rfl rfl ?_
    try simp only [Act.put, List.setIfInBounds_toArray, List.set_cons_succ, List.set_cons_zero]
    refine load72 HVS.out.y.at ((markI (4 + r) k).arr_size HVS.out.y.wf nb) rfl rfl ?_
    try simp only [Act.put, List.setIfInBounds_toArray, List.set_cons_succ, List.set_cons_zero]
    refine wpList_run _ _ rfl (exec_buildSlice _ _ _ _ 22 2 _ rfl #[(0, .agg ((imgI k v0).arr nb)), (1, .agg ((markI (4 + r) k).arr nb))] (by simp only [List.map_toArray, List.map_cons, List.map_nil]; rfl) _ (lit2_run _ HW0.out HVS.out.y.wf)) ?_
    try simp only [Act.put, List.setIfInBounds_toArray, List.set_cons_succ, List.set_cons_zero]
    have HZ2 := Lib.hid (sizeG_any [(imgI k v0, nb), (markI (4 + r) k, nb)] [imgI k v0, markI (4 + r) k] rfl _ (by simp) _ (lit_its _ (fun x hx => by simp at hx; rcases hx with rfl | rfl; exact HVS.out.x.item; exact HVS.out.y.item) 2 rfl (by decide)))
    rw [size_dup (x := imgI k v0) (y := markI (4 + r) k) (by rw [slot_img]; exact HSL.out.symm)] at HZ2
    have HVA := Lib.hid (HVS.out.below (alloc_bel _ (.cells (itCells [(imgI k v0, nb), (markI (4 + r) k, nb)]).toArray 72)))
    clear HVS
    refine wpList_op rfl fun K hK => ?_
    go_simp
    refine (HZ2.out).mono ?_
    rintro e wc ⟨rfl, hb⟩
    have HVS := Lib.hid (HVA.out.below hb)
    clear hb HVA HZ2
    refine hK _ _ ?_
    clear hK K
    try simp only [Act.put, List.setIfInBounds_toArray, List.set_cons_succ, List.set_cons_zero]
    refine takeL (.int .i64 0) rfl (by go_simp) ?_
    try simp only [Act.put, List.setIfInBounds_toArray, List.set_cons_succ, List.set_cons_zero]
    refine wpList_nil ?_
    go_upto_region 9 with fail
    refine wp_region_lit ?_
    refine load72 HVS.out.m.at ((mapI k).arr_size HWM.out nb) rfl rfl ?_
    try simp only [Act.put, List.setIfInBounds_toArray, List.set_cons_succ, List.set_cons_zero]
    refine load72 HVS.out.x.at ((imgI k v0).arr_size HW0.out nb) rfl rfl ?_
    try simp only [Act.put, List.setIfInBounds_toArray, List.set_cons_succ, List.set_cons_zero]
    refine load72 HVS.out.m.at ((mapI k).arr_size HWM.out nb) rfl rfl ?_
    try simp only [Act.put, List.setIfInBounds_toArray, List.set_cons_succ, List.set_cons_zero]
    refine wpList_run _ _ rfl (exec_buildSlice _ _ _ _ 22 3 _ rfl #[(0, .agg ((mapI k).arr nb)), (1, .agg ((imgI k v0).arr nb)), (2, .agg ((mapI k).arr nb))] (by simp only [List.map_toArray, List.map_cons, List.map_nil]; rfl) _ (lit3_run _ HWM.out HW0.out HWM.out)) ?_
    try simp only [Act.put, List.setIfInBounds_toArray, List.set_cons_succ, List.set_cons_zero]
    have HZ3 := Lib.hid (sizeG_any [(mapI k, nb), (imgI k v0, nb), (mapI k, nb)] [mapI k, imgI k v0, mapI k] rfl _ (by simp) _ (lit_its _ (fun x hx => by simp at hx; rcases hx with rfl | rfl | rfl; exact HVS.out.m.item; exact HVS.out.x.item; exact HVS.out.m.item) 3 rfl (by decide)))
    rw [size_dup3] at HZ3
    have HVA := Lib.hid (HVS.out.below (alloc_bel _ (.cells (itCells [(mapI k, nb), (imgI k v0, nb), (mapI k, nb)]).toArray 72)))
    clear HVS
    refine wpList_op rfl fun K hK => ?_
    go_simp
    refine (HZ3.out).mono ?_
    rintro e wd ⟨rfl, hb⟩
    have HVS := Lib.hid (HVA.out.below hb)
    clear hb HVA HZ3
    refine hK _ _ ?_
    clear hK K
    try simp only [Act.put, List.setIfInBounds_toArray, List.set_cons_succ, List.set_cons_zero]
    refine takeL (.int .i64 0) rfl (by go_simp) ?_
    try simp only [Act.put, List.setIfInBounds_toArray, List.set_cons_succ, List.set_cons_zero]
    refine wpList_nil ?_
    go_upto_region 10 with fail
    refine wp_region_lit ?_
    refine load72 HVS.out.y.at ((markI (4 + r) k).arr_size HVS.out.y.wf nb) rfl rfl ?_
    try simp only [Act.put, List.setIfInBounds_toArray, List.set_cons_succ, List.set_cons_zero]
    refine wpList_run _ _ rfl (exec_buildSlice _ _ _ _ 22 1 _ rfl #[(0, .agg ((markI (4 + r) k).arr nb))] (by simp only [List.map_toArray, List.map_cons, List.map_nil]; rfl) _ (lit1_run _ HVS.out.y.wf)) ?_
    try simp only [Act.put, List.setIfInBounds_toArray, List.set_cons_succ, List.set_cons_zero]
    have HZ4 := Lib.hid (partsG_any [(markI (4 + r) k, nb)] [markI (4 + r) k] rfl _ (by simp) _ (lit_its _ (fun x hx => by obtain rfl := List.mem_singleton.1 hx; exact HVS.out.y.item) 1 rfl (by decide)))
    rw [parts_one HOKY.out] at HZ4
    have HVA := Lib.hid (HVS.out.below (alloc_bel _ (.cells (itCells [(markI (4 + r) k, nb)]).toArray 72)))
    clear HVS
    refine wpList_op rfl fun K hK => ?_
    go_simp
    refine (HZ4.out).mono ?_
    rintro e we ⟨rfl, hb⟩
    have HVS := Lib.hid (HVA.out.below hb)
    clear hb HVA HZ4
    refine hK _ _ ?_
    clear hK K
    try simp only [Act.put, List.setIfInBounds_toArray, List.set_cons_succ, List.set_cons_zero]
    refine takeL (.int .i64 1) rfl (by go_simp) ?_
    try simp only [Act.put, List.setIfInBounds_toArray, List.set_cons_succ, List.set_cons_zero]
    refine wpList_nil ?_
    go_wp2_with fail
    refine (HWK.out _).mono ?_
    rintro e wf ⟨rfl, hb⟩
    have HBF := Lib.hid (stay HVS.out.bel hb)
    clear hb HVS
    go_wp2_with fail
    go_ret
    exact ⟨rfl, HBF.out⟩
  · have HOKY := Lib.hid (imgI_ok (id := k) (v := v1) ⟨by have := HKK.out; omega, by have := HKK.out; omega⟩)
    have HSL := Lib.hid (slot_img k v1)
    go_upto_region 7 with fail
    refine wp_region_lit ?_
    refine load72 HVS.out.x.at ((imgI k v0).arr_size HW0.out nb) rfl rfl ?_
    try simp only [Act.put, List.setIfInBounds_toArray, List.set_cons_succ, List.set_cons_zero]
    refine load72 HVS.out.m.at ((mapI k).arr_size HWM.out nb) rfl rfl ?_
    try simp only [Act.put, List.setIfInBounds_toArray, List.set_cons_succ, List.set_cons_zero]
    refine wpList_run _ _ rfl (exec_buildSlice _ _ _ _ 22 2 _ rfl #[(0, .agg ((imgI k v0).arr nb)), (1, .agg ((mapI k).arr nb))] (by simp only [List.map_toArray, List.map_cons, List.map_nil]; rfl) _ (lit2_run _ HW0.out HWM.out)) ?_
    try simp only [Act.put, List.setIfInBounds_toArray, List.set_cons_succ, List.set_cons_zero]
    have HZ1 := Lib.hid (sizeG_any [(imgI k v0, nb), (mapI k, nb)] [imgI k v0, mapI k] rfl _ (by simp) _ (lit_its _ (fun x hx => by simp at hx; rcases hx with rfl | rfl; exact HVS.out.x.item; exact HVS.out.m.item) 2 rfl (by decide)))
    rw [size_om HKK.out] at HZ1
    have HVA := Lib.hid (HVS.out.below (alloc_bel _ (.cells (itCells [(imgI k v0, nb), (mapI k, nb)]).toArray 72)))
    clear HVS
    refine wpList_op rfl fun K hK => ?_
    go_simp
    refine (HZ1.out).mono ?_
    rintro e wb ⟨rfl, hb⟩
    have HVS := Lib.hid (HVA.out.below hb)
    clear hb HVA HZ1
    refine hK _ _ ?_
    clear hK K
    try simp only [Act.put, List.setIfInBounds_toArray, List.set_cons_succ, List.set_cons_zero]
    refine takeL (.int .i64 3) rfl (by go_simp) ?_
    try simp only [Act.put, List.setIfInBounds_toArray, List.set_cons_succ, List.set_cons_zero]
    refine wpList_nil ?_
    go_upto_region 8 with fail
    refine wp_region_lit ?_
    refine load72 HVS.out.x.at ((imgI k v0).arr_size HW0.out nb) rfl rfl ?_
    try simp only [Act.put, List.setIfInBounds_toArray, List.set_cons_succ, List.set_cons_zero]
    refine load72 HVS.out.y.at ((imgI k v1).arr_size HVS.out.y.wf nb) rfl rfl ?_
    try simp only [Act.put, List.setIfInBounds_toArray, List.set_cons_succ, List.set_cons_zero]
    refine wpList_run _ _ rfl (exec_buildSlice _ _ _ _ 22 2 _ rfl #[(0, .agg ((imgI k v0).arr nb)), (1, .agg ((imgI k v1).arr nb))] (by simp only [List.map_toArray, List.map_cons, List.map_nil]; rfl) _ (lit2_run _ HW0.out HVS.out.y.wf)) ?_
    try simp only [Act.put, List.setIfInBounds_toArray, List.set_cons_succ, List.set_cons_zero]
    have HZ2 := Lib.hid (sizeG_any [(imgI k v0, nb), (imgI k v1, nb)] [imgI k v0, imgI k v1] rfl _ (by simp) _ (lit_its _ (fun x hx => by simp at hx; rcases hx with rfl | rfl; exact HVS.out.x.item; exact HVS.out.y.item) 2 rfl (by decide)))
    rw [size_dup (x := imgI k v0) (y := imgI k v1) (by rw [slot_img]; exact HSL.out.symm)] at HZ2
    have HVA := Lib.hid (HVS.out.below (alloc_bel _ (.cells (itCells [(imgI k v0, nb), (imgI k v1, nb)]).toArray 72)))
    clear HVS
    refine wpList_op rfl fun K hK => ?_
    go_simp
    refine (HZ2.out).mono ?_
    rintro e wc ⟨rfl, hb⟩
    have HVS := Lib.hid (HVA.out.below hb)
    clear hb HVA HZ2
    refine hK _ _ ?_
    clear hK K
    try simp only [Act.put, List.setIfInBounds_toArray, List.set_cons_succ, List.set_cons_zero]
    refine takeL (.int .i64 0) rfl (by go_simp) ?_
    try simp only [Act.put, List.setIfInBounds_toArray, List.set_cons_succ, List.set_cons_zero]
    refine wpList_nil ?_
    go_upto_region 9 with fail
    refine wp_region_lit ?_
    refine load72 HVS.out.m.at ((mapI k).arr_size HWM.out nb) rfl rfl ?_
    try simp only [Act.put, List.setIfInBounds_toArray, List.set_cons_succ, List.set_cons_zero]
    refine load72 HVS.out.x.at ((imgI k v0).arr_size HW0.out nb) rfl rfl ?_
    try simp only [Act.put, List.setIfInBounds_toArray, List.set_cons_succ, List.set_cons_zero]
    refine load72 HVS.out.m.at ((mapI k).arr_size HWM.out nb) rfl rfl ?_
    try simp only [Act.put, List.setIfInBounds_toArray, List.set_cons_succ, List.set_cons_zero]
    refine wpList_run _ _ rfl (exec_buildSlice _ _ _ _ 22 3 _ rfl #[(0, .agg ((mapI k).arr nb)), (1, .agg ((imgI k v0).arr nb)), (2, .agg ((mapI k).arr nb))] (by simp only [List.map_toArray, List.map_cons, List.map_nil]; rfl) _ (lit3_run _ HWM.out HW0.out HWM.out)) ?_
    try simp only [Act.put, List.setIfInBounds_toArray, List.set_cons_succ, List.set_cons_zero]
    have HZ3 := Lib.hid (sizeG_any [(mapI k, nb), (imgI k v0, nb), (mapI k, nb)] [mapI k, imgI k v0, mapI k] rfl _ (by simp) _ (lit_its _ (fun x hx => by simp at hx; rcases hx with rfl | rfl | rfl; exact HVS.out.m.item; exact HVS.out.x.item; exact HVS.out.m.item) 3 rfl (by decide)))
    rw [size_dup3] at HZ3
    have HVA := Lib.hid (HVS.out.below (alloc_bel _ (.cells (itCells [(mapI k, nb), (imgI k v0, nb), (mapI k, nb)]).toArray 72)))
    clear HVS
    refine wpList_op rfl fun K hK => ?_
    go_simp
    refine (HZ3.out).mono ?_
    rintro e wd ⟨rfl, hb⟩
    have HVS := Lib.hid (HVA.out.below hb)
    clear hb HVA HZ3
    refine hK _ _ ?_
    clear hK K
    try simp only [Act.put, List.setIfInBounds_toArray, List.set_cons_succ, List.set_cons_zero]
    refine takeL (.int .i64 0) rfl (by go_simp) ?_
    try simp only [Act.put, List.setIfInBounds_toArray, List.set_cons_succ, List.set_cons_zero]
    refine wpList_nil ?_
    go_upto_region 10 with fail
    refine wp_region_lit ?_
    refine load72 HVS.out.y.at ((imgI k v1).arr_size HVS.out.y.wf nb) rfl rfl ?_
    try simp only [Act.put, List.setIfInBounds_toArray, List.set_cons_succ, List.set_cons_zero]
    refine wpList_run _ _ rfl (exec_buildSlice _ _ _ _ 22 1 _ rfl #[(0, .agg ((imgI k v1).arr nb))] (by simp only [List.map_toArray, List.map_cons, List.map_nil]; rfl) _ (lit1_run _ HVS.out.y.wf)) ?_
    try simp only [Act.put, List.setIfInBounds_toArray, List.set_cons_succ, List.set_cons_zero]
    have HZ4 := Lib.hid (partsG_any [(imgI k v1, nb)] [imgI k v1] rfl _ (by simp) _ (lit_its _ (fun x hx => by obtain rfl := List.mem_singleton.1 hx; exact HVS.out.y.item) 1 rfl (by decide)))
    rw [parts_one HOKY.out] at HZ4
    have HVA := Lib.hid (HVS.out.below (alloc_bel _ (.cells (itCells [(imgI k v1, nb)]).toArray 72)))
    clear HVS
    refine wpList_op rfl fun K hK => ?_
    go_simp
    refine (HZ4.out).mono ?_
    rintro e we ⟨rfl, hb⟩
    have HVS := Lib.hid (HVA.out.below hb)
    clear hb HVA HZ4
    refine hK _ _ ?_
    clear hK K
    try simp only [Act.put, List.setIfInBounds_toArray, List.set_cons_succ, List.set_cons_zero]
    refine takeL (.int .i64 1) rfl (by go_simp) ?_
    try simp only [Act.put, List.setIfInBounds_toArray, List.set_cons_succ, List.set_cons_zero]
    refine wpList_nil ?_
    go_wp2_with fail
    refine (HWK.out _).mono ?_
    rintro e wf ⟨rfl, hb⟩
    have HBF := Lib.hid (stay HVS.out.bel hb)
    clear hb HVS
    go_wp2_with fail
    go_ret
    exact ⟨rfl, HBF.out⟩

end Go.Proofs.Ytbhaifdhmfmeoaa
