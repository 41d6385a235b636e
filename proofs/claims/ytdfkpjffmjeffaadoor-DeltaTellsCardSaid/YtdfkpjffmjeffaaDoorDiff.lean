/- What differs between two pages: package delta's Diff, with slices.Clone. -/
import Derived.Test.YtdfkpjffmjeffaaDoorSpan
namespace Go.Proofs.YtdfkpjffmjeffaaDoor
set_option linter.unusedSimpArgs false
set_option linter.unusedVariables false
open Go.RowKit

theorem arr23 : Tryd.prog.underlying 23 = some (.array (Tryd.prog.arrayLen 23) (Tryd.prog.elem 23)) ∧ Tryd.prog.arrayLen 23 = 32 ∧ Tryd.prog.elem 23 = 5 := ⟨by kernel_rfl, by kernel_rfl, by kernel_rfl⟩
/-- Part of a page, as a slice. -/
theorem slice_mid (w : World) (g o e : Nat) (h : o ≤ e) (k : e ≤ 32) (l : o < 32) : (Instr.sliceAt 23 (.pointer (some ⟨g, 0, none⟩)) (some (.int .i64 o)) (some (.int .i64 e)) none).run Tryd.prog w = .ok (.slice (some ⟨g, o, none⟩) (e - o) (32 - o)) w := by
  obtain ⟨i, hi, hs⟩ := size_of info5s
  rw [run_sliceAt_array_lh w 23 ⟨g, 0, none⟩ arr23.1 .i64 .i64 o e (by omega) (by omega) (by rw [arr23.2.1]; omega), arr23.2.2, arr23.2.1]
  simp only [sizeOf, typeInfo, Sem.run_bind, run_program, hi, Result.andThen_ok, Sem.run_pure, hs, slicedAt, Int.toNat_natCast]
  rw [if_neg (by omega)]
  simp [Addr.add]
  omega
theorem slice_from (w : World) (g : Nat) (o : Nat) (l : o < 32) : (Instr.sliceAt 23 (.pointer (some ⟨g, 0, none⟩)) (some (.int .i64 o)) none none).run Tryd.prog w = .ok (.slice (some ⟨g, o, none⟩) (32 - o) (32 - o)) w := by
  obtain ⟨i, hi, hs⟩ := size_of info5s
  rw [run_sliceAt_array_l w 23 ⟨g, 0, none⟩ arr23.1 .i64 o (by omega) (by rw [arr23.2.1]; omega), arr23.2.2, arr23.2.1]
  simp only [sizeOf, typeInfo, Sem.run_bind, run_program, hi, Result.andThen_ok, Sem.run_pure, hs, slicedAt, Int.toNat_natCast]
  rw [if_neg (by omega)]
  simp [Addr.add]
  omega
theorem exec_slice_mid (w : World) (ev : Operand → Value) (op : Oper) (x y z : Operand) (ho : op.op = .slice 23 x (some y) (some z) none) (g o e : Nat) (hx : ev x = .pointer (some ⟨g, 0, none⟩)) (hy : ev y = .int .i64 o) (hz : ev z = .int .i64 e) (h : o ≤ e) (k : e ≤ 32) (l : o < 32) :
    (execOp ev op).run Tryd.prog w = .ok (.value (.slice (some ⟨g, o, none⟩) (e - o) (32 - o))) w := by
  unfold execOp
  simp only [ho, hx, hy, hz, Option.map_some, Option.map_none, Sem.run_bind, slice_mid w g o e h k l, Result.andThen_ok, Sem.run_pure]
theorem exec_slice_from (w : World) (ev : Operand → Value) (op : Oper) (x y : Operand) (ho : op.op = .slice 23 x (some y) none none) (g o : Nat) (hx : ev x = .pointer (some ⟨g, 0, none⟩)) (hy : ev y = .int .i64 o) (l : o < 32) :
    (execOp ev op).run Tryd.prog w = .ok (.value (.slice (some ⟨g, o, none⟩) (32 - o) (32 - o))) w := by
  unfold execOp
  simp only [ho, hx, hy, Option.map_some, Option.map_none, Sem.run_bind, slice_from w g o l, Result.andThen_ok, Sem.run_pure]
theorem BytesAt.of_part {w : World} {g : Nat} {L l : List Int} (o cap : Nat) (h : Blk w g (u8s L)) (hl : ∀ (j : Nat) (x : Int), l[j]? = some x → L[o + j]? = some x) : BytesAt w (.slice (some ⟨g, o, none⟩) l.length cap) l :=
  ⟨_, cap, rfl, fun i x hx => ⟨g, o, rfl, h.cell (by rw [List.getElem?_map, hl i x hx]; rfl)⟩⟩
theorem BytesAt.mid {w : World} {g : Nat} {b : List Int} (hb : Pg b) (h : Blk w g (u8s b)) {o e : Nat} (hoe : o ≤ e) (he : e ≤ 32) (cap : Nat) : BytesAt w (.slice (some ⟨g, o, none⟩) (e - o) cap) (mid b o e) := by
  have := BytesAt.of_part (l := Go.Proofs.YtdfkpjffmjeffaaDoor.mid b o e) o cap h fun j x hx => by
    have hj : j < e - o := by
      have := (List.getElem?_eq_some_iff.1 hx).1
      rwa [mid_length hb hoe he] at this
    rwa [mid_at hj] at hx
  rwa [mid_length hb hoe he] at this

theorem equalIn_nil {P : Program} (w : World) (d : Nat) (t e : TypeId) (a : Addr) (l c : Nat) (h : P.underlying t = some (.slice e)) : (Op.equalIn (d + 1) t (.slice (some a) l c) (.slice none 0 0)).run P w = .ok false w := by
  simp [Op.equalIn, run_underlying h]
theorem eql_nil (w : World) (a : Addr) (l c : Nat) : (binOp .eql 24 (.slice (some a) l c) (.slice none 0 0)).run Tryd.prog w = .ok (.bool false) w := by
  have h : (Op.equal 24 (.slice (some a) l c) (.slice none 0 0)).run Tryd.prog w = .ok false w := equalIn_nil w 9999 24 5 a l c Tryd.underlying24
  simp [binOp, h]
set_option maxRecDepth 100000 in
theorem clone_any (l : List Int) (hl : 0 < l.length) (hn : l.length ≤ 1000) (sv : Value) (w : World) (h : BytesAt w sv l) : Calls Tryd.prog 14 #[sv] w fun r w' => ∃ sv', r = .returned sv' ∧ Own w' w.heap.size sv' l ∧ Below w.heap.size w w' := by
  have HY := Lib.hid h
  obtain ⟨b, o, c, rfl, -⟩ := h.has hl
  clear h
  have hq := fun w => eql_nil w ⟨b, o, none⟩ l.length c
  go_enter Tryd.func14, Tryd.ntmps14
  go_upto_region 3 with fail
  refine wp_region_lit ?_
  refine wpList_run (.slice (some ⟨w.heap.size, 0, none⟩) 0 0) (w.alloc (.cells #[] 5)) rfl (by go_simp) ?_
  try simp only [Act.put, List.setIfInBounds_toArray, List.set_cons_succ, List.set_cons_zero]
  have hb1 := (Below.refl w.heap.size w).alloc (Nat.le_refl _) (.cells #[] 5)
  have hO := Own.lit w w.heap.size (Nat.le_refl _) [] (by simp) #[] rfl
  refine takeL (.slice (some ⟨b, o, none⟩) l.length c) rfl (by go_simp) ?_
  try simp only [Act.put, List.setIfInBounds_toArray, List.set_cons_succ, List.set_cons_zero]
  refine app_L hO hb1.size (HY.out.below hb1) (by simp; omega) rfl rfl rfl ?_
  intro sv' w3 hO3 hB3
  try simp only [Act.put, List.setIfInBounds_toArray, List.set_cons_succ, List.set_cons_zero]
  rw [List.nil_append] at hO3
  have HO := Lib.hid hO3
  have HB := Lib.hid (hb1.trans hB3)
  clear hb1 hO hO3 hB3
  obtain ⟨sa, sc, hsf, -⟩ := HO.out.bytes
  have HE := Lib.hid hsf
  refine takeL sv' rfl (by have hq := HE.out; rw [hq]; go_simp) ?_
  try simp only [Act.put, List.setIfInBounds_toArray, List.set_cons_succ, List.set_cons_zero]
  refine wpList_nil ?_
  go_wp2_with fail
  go_ret
  exact ⟨_, rfl, HO.out, HB.out⟩

set_option maxRecDepth 100000 in
theorem diff_no (a b : List Int) (ha : Pg a) (hb : Pg b) (o e : Nat) (hs : Span a b o e) (h : o = e ∨ 16 < e - o) (w : World) : Calls Tryd.prog 8 #[.agg (u8s a).toArray, .agg (u8s b).toArray] w fun r w' => r = .returned (.tuple #[.int .i64 0, .slice none 0 0, .bool false]) ∧ Below w.heap.size w w' := by
  have HA := Lib.hid ha.length
  have HB := Lib.hid hb.length
  have HS := Lib.hid fun w => span_any a b ha hb o e hs w
  have h1 := hs.le
  have h2 := hs.up
  clear ha hb hs
  go_enter Tryd.func8, Tryd.ntmps8
  go_upto_region 0 with fail
  refine wp_region_lit ?_
  refine box_g rfl rfl ?_
  intro w1 hA hb hl
  try simp only [Act.put, List.setIfInBounds_toArray, List.set_cons_succ, List.set_cons_zero]
  refine box_g rfl rfl ?_
  intro w2 hA2 hb2 hl2
  try simp only [Act.put, List.setIfInBounds_toArray, List.set_cons_succ, List.set_cons_zero]
  have F1 : Hid (Blk w2 w.heap.size (u8s a)) := Lib.hid (Blk.below hA hb2 hl)
  have F2 : Hid (Blk w2 w1.heap.size (u8s b)) := Lib.hid hA2
  have F3 : Hid (Below w.heap.size w w2) := Lib.hid (stay hb hb2)
  clear hA hb hl hA2 hb2 hl2
  generalize w1.heap.size = j at *
  clear w1
  refine takeL (.int .i64 0) rfl (by go_simp) ?_
  try simp only [Act.put, List.setIfInBounds_toArray, List.set_cons_succ, List.set_cons_zero]
  refine takeL (.slice none 0 0) rfl (by go_simp) ?_
  try simp only [Act.put, List.setIfInBounds_toArray, List.set_cons_succ, List.set_cons_zero]
  refine takeL (.bool false) rfl (by go_simp) ?_
  try simp only [Act.put, List.setIfInBounds_toArray, List.set_cons_succ, List.set_cons_zero]
  refine wpList_nil ?_
  go_upto_region 1 with fail
  refine wp_region_lit ?_
  refine load23 (cs := (u8s a).toArray) (Blk.all F1.out rfl) (by rw [u8s_size, HA.out]) rfl rfl ?_
  try simp only [Act.put, List.setIfInBounds_toArray, List.set_cons_succ, List.set_cons_zero]
  refine load23 (cs := (u8s b).toArray) (Blk.all F2.out rfl) (by rw [u8s_size, HB.out]) rfl rfl ?_
  try simp only [Act.put, List.setIfInBounds_toArray, List.set_cons_succ, List.set_cons_zero]
  refine wpList_op rfl fun K hK => ?_
  go_simp
  refine (HS.out _).mono ?_
  rintro r w3 ⟨rfl, hb⟩
  have G2 : Hid (Blk w3 j (u8s b)) := Lib.hid (F2.out.below hb F2.out.lt)
  have G3 : Hid (Below w.heap.size w w3) := Lib.hid (stay F3.out hb)
  clear hb F1 F2 F3
  refine hK _ _ ?_
  clear hK K
  try simp only [Act.put, List.setIfInBounds_toArray, List.set_cons_succ, List.set_cons_zero]
  refine takeL (.tuple #[.int .i64 o, .int .i64 e]) rfl (by go_simp) ?_
  try simp only [Act.put, List.setIfInBounds_toArray, List.set_cons_succ, List.set_cons_zero]
  refine takeL (.int .i64 o) rfl (by go_simp) ?_
  try simp only [Act.put, List.setIfInBounds_toArray, List.set_cons_succ, List.set_cons_zero]
  refine takeL (.int .i64 e) rfl (by go_simp) ?_
  try simp only [Act.put, List.setIfInBounds_toArray, List.set_cons_succ, List.set_cons_zero]
  refine takeL (.int .i64 o) rfl (by go_simp) ?_
  try simp only [Act.put, List.setIfInBounds_toArray, List.set_cons_succ, List.set_cons_zero]
  refine takeL (.int .i64 e) rfl (by go_simp) ?_
  try simp only [Act.put, List.setIfInBounds_toArray, List.set_cons_succ, List.set_cons_zero]
  refine wpList_nil ?_
  by_cases h3 : o = e
  · have g1 : ((o : Int) == (e : Int)) = true := by rw [beq_iff_eq]; omega
    clear h h3
    go_wp2_with fail
    go_ret3
    exact ⟨rfl, G3.out⟩
  · have g1 : ((o : Int) == (e : Int)) = false := by rw [beq_eq_false_iff_ne]; omega
    have g2 : IntKind.i64.wrap ((e : Int) - (o : Int)) = (e : Int) - (o : Int) := wrap64 (by omega) (by omega)
    have g3 : decide (16 < (e : Int) - (o : Int)) = true := decide_eq_true (by omega)
    clear h h3
    go_wp2_with fail
    go_ret3
    exact ⟨rfl, G3.out⟩
set_option maxRecDepth 100000 in
theorem diff_yes (a b : List Int) (ha : Pg a) (hb : Pg b) (o e : Nat) (hs : Span a b o e) (h : o < e ∧ e - o ≤ 16) (w : World) : Calls Tryd.prog 8 #[.agg (u8s a).toArray, .agg (u8s b).toArray] w fun r w' => ∃ sv, r = .returned (.tuple #[.int .i64 o, sv, .bool true]) ∧ BytesAt w' sv (mid b o e) ∧ Below w.heap.size w w' := by
  have HA := Lib.hid ha.length
  have HB := Lib.hid hb.length
  have HP := Lib.hid hb
  have HS := Lib.hid fun w => span_any a b ha hb o e hs w
  have h1 := hs.le
  have h2 := hs.up
  have HM := Lib.hid (mid_length hb h1 h2)
  clear ha hb hs
  go_enter Tryd.func8, Tryd.ntmps8
  go_upto_region 0 with fail
  refine wp_region_lit ?_
  refine box_g rfl rfl ?_
  intro w1 hA hb hl
  try simp only [Act.put, List.setIfInBounds_toArray, List.set_cons_succ, List.set_cons_zero]
  refine box_g rfl rfl ?_
  intro w2 hA2 hb2 hl2
  try simp only [Act.put, List.setIfInBounds_toArray, List.set_cons_succ, List.set_cons_zero]
  have F1 : Hid (Blk w2 w.heap.size (u8s a)) := Lib.hid (Blk.below hA hb2 hl)
  have F2 : Hid (Blk w2 w1.heap.size (u8s b)) := Lib.hid hA2
  have F3 : Hid (Below w.heap.size w w2) := Lib.hid (stay hb hb2)
  clear hA hb hl hA2 hb2 hl2
  generalize w1.heap.size = j at *
  clear w1
  refine takeL (.int .i64 0) rfl (by go_simp) ?_
  try simp only [Act.put, List.setIfInBounds_toArray, List.set_cons_succ, List.set_cons_zero]
  refine takeL (.slice none 0 0) rfl (by go_simp) ?_
  try simp only [Act.put, List.setIfInBounds_toArray, List.set_cons_succ, List.set_cons_zero]
  refine takeL (.bool false) rfl (by go_simp) ?_
  try simp only [Act.put, List.setIfInBounds_toArray, List.set_cons_succ, List.set_cons_zero]
  refine wpList_nil ?_
  go_upto_region 1 with fail
  refine wp_region_lit ?_
  refine load23 (cs := (u8s a).toArray) (Blk.all F1.out rfl) (by rw [u8s_size, HA.out]) rfl rfl ?_
  try simp only [Act.put, List.setIfInBounds_toArray, List.set_cons_succ, List.set_cons_zero]
  refine load23 (cs := (u8s b).toArray) (Blk.all F2.out rfl) (by rw [u8s_size, HB.out]) rfl rfl ?_
  try simp only [Act.put, List.setIfInBounds_toArray, List.set_cons_succ, List.set_cons_zero]
  refine wpList_op rfl fun K hK => ?_
  go_simp
  refine (HS.out _).mono ?_
  rintro r w3 ⟨rfl, hb⟩
  have G2 : Hid (Blk w3 j (u8s b)) := Lib.hid (F2.out.below hb F2.out.lt)
  have G3 : Hid (Below w.heap.size w w3) := Lib.hid (stay F3.out hb)
  clear hb F1 F2 F3
  refine hK _ _ ?_
  clear hK K
  try simp only [Act.put, List.setIfInBounds_toArray, List.set_cons_succ, List.set_cons_zero]
  refine takeL (.tuple #[.int .i64 o, .int .i64 e]) rfl (by go_simp) ?_
  try simp only [Act.put, List.setIfInBounds_toArray, List.set_cons_succ, List.set_cons_zero]
  refine takeL (.int .i64 o) rfl (by go_simp) ?_
  try simp only [Act.put, List.setIfInBounds_toArray, List.set_cons_succ, List.set_cons_zero]
  refine takeL (.int .i64 e) rfl (by go_simp) ?_
  try simp only [Act.put, List.setIfInBounds_toArray, List.set_cons_succ, List.set_cons_zero]
  refine takeL (.int .i64 o) rfl (by go_simp) ?_
  try simp only [Act.put, List.setIfInBounds_toArray, List.set_cons_succ, List.set_cons_zero]
  refine takeL (.int .i64 e) rfl (by go_simp) ?_
  try simp only [Act.put, List.setIfInBounds_toArray, List.set_cons_succ, List.set_cons_zero]
  refine wpList_nil ?_
  obtain ⟨h3, h4⟩ := h
  have g1 : ((o : Int) == (e : Int)) = false := by rw [beq_eq_false_iff_ne]; omega
  have g2 : IntKind.i64.wrap ((e : Int) - (o : Int)) = (e : Int) - (o : Int) := wrap64 (by omega) (by omega)
  have g3 : decide (16 < (e : Int) - (o : Int)) = false := decide_eq_false (by omega)
  have HC := Lib.hid (clone_any (mid b o e) (by rw [HM.out]; omega) (by rw [HM.out]; omega) _ w3 (BytesAt.mid HP.out G2.out h1 h2 (32 - o)))
  go_upto_region 4 with fail
  refine wp_region_lit ?_
  refine takeL (.int .i64 o) rfl (by go_simp) ?_
  try simp only [Act.put, List.setIfInBounds_toArray, List.set_cons_succ, List.set_cons_zero]
  refine takeL (.int .i64 o) rfl (by go_simp) ?_
  try simp only [Act.put, List.setIfInBounds_toArray, List.set_cons_succ, List.set_cons_zero]
  refine takeL (.int .i64 e) rfl (by go_simp) ?_
  try simp only [Act.put, List.setIfInBounds_toArray, List.set_cons_succ, List.set_cons_zero]
  refine takeL (.slice (some ⟨j, o, none⟩) (e - o) (32 - o)) rfl (exec_slice_mid _ _ _ _ _ _ rfl j o e rfl rfl rfl h1 h2 (by omega)) ?_
  try simp only [Act.put, List.setIfInBounds_toArray, List.set_cons_succ, List.set_cons_zero]
  refine wpList_op rfl fun K hK => ?_
  go_simp
  refine HC.out.mono ?_
  rintro r w4 ⟨sv, rfl, hO, hb⟩
  have HO := Lib.hid hO.bytes
  have G4 : Hid (Below w.heap.size w w4) := Lib.hid (stay G3.out hb)
  clear hb hO
  refine hK _ _ ?_
  clear hK K
  try simp only [Act.put, List.setIfInBounds_toArray, List.set_cons_succ, List.set_cons_zero]
  obtain ⟨sa, sc, hsf, -⟩ := HO.out
  have HE := Lib.hid hsf
  clear hsf
  refine takeL (.int .i64 o) rfl (by go_simp) ?_
  try simp only [Act.put, List.setIfInBounds_toArray, List.set_cons_succ, List.set_cons_zero]
  refine takeL sv rfl (by have hq := HE.out; rw [hq]; go_simp) ?_
  try simp only [Act.put, List.setIfInBounds_toArray, List.set_cons_succ, List.set_cons_zero]
  refine takeL (.bool true) rfl (by go_simp) ?_
  try simp only [Act.put, List.setIfInBounds_toArray, List.set_cons_succ, List.set_cons_zero]
  refine wpList_nil ?_
  go_wp2_with fail
  go_ret3
  exact ⟨_, rfl, HO.out, G4.out⟩
end Go.Proofs.YtdfkpjffmjeffaaDoor
