/- The statement DeltaTwice's walk: whatever the page and the bytes, the call returns true. -/
import Derived.Test.YtdfkpjffmjeffaaDoorLays
namespace Go.Proofs.YtdfkpjffmjeffaaDoor
set_option linter.unusedSimpArgs false
set_option linter.unusedVariables false
open Go.RowKit

theorem exec_pageN {l m : List Int} {v : Bool} (hv : decide (l = m) = !v) (hl : l.length = 32) (hm : m.length = 32) (ev : Operand → Value) (o : Oper) (w : World) {x y : Operand} {t : TypeId} (ho : o.op = .binOp .neq 23 x y t) (hx : ev x = .agg (u8s l).toArray) (hy : ev y = .agg (u8s m).toArray) : (execOp ev o).run Tryd.prog w = .ok (.value (.bool v)) w := by
  obtain ⟨i5, hi5, hs5⟩ := size_of info5s
  have hb := run_neq_ints (P := Tryd.prog) w 23 5 32 _ .u8 i5 l m Tryd.underlying23 Tryd.underlying5 hi5 hs5 hl hm
  rw [hv, Bool.not_not] at hb
  unfold execOp
  simp only [ho, hx, hy, Sem.run_bind, run_eqGuard_agg w .neq 23 x y _ _ guard23, Result.andThen_ok, hb, Sem.run_pure]
theorem apply_as {p l r : List Int} {o : Nat} (hr : layI p o l = r) (hp : p.length = 32) (sv : Value) (hl : l.length ≤ 1000) (h : Fits o l) (w : World) (hbs : BytesAt w sv l) (hev : ErrVar w) : Calls Tryd.prog 10 #[.agg (u8s p).toArray, .int .i64 o, sv] w fun e w' => e = .returned (.tuple #[.agg (u8s r).toArray, .int .i64 0]) ∧ Below w.heap.size w w' := hr ▸ apply_yes p l hp o sv hl h w hbs hev
set_option maxRecDepth 100000 in
set_option maxHeartbeats 1000000 in
theorem twice_long1 (a : List Int) (ha : a.length = 32) (ox : Int) (sx : Value) (x : List Int) (oy : Int) (sy : Value) (y : List Int) (n m : Nat) (hn : x.length = n) (hm : y.length = m) (h : 100 < n) (w : World) (hbx : BytesAt w sx x) (hby : BytesAt w sy y) (hev : ErrVar w) : Calls Tryd.prog 6 #[.agg (u8s a).toArray, .agg #[.int .i64 ox, sx], .agg #[.int .i64 oy, sy]] w fun e w' => e = .returned (.bool true) ∧ Below w.heap.size w w' := by
  have HZ32 := Lib.hid (zeros_length 32)
  have HA := Lib.hid ha
  have HBX := Lib.hid hbx
  have HBY := Lib.hid hby
  obtain ⟨ax, cx, he, -⟩ := hbx
  have HEX : Hid (sx = .slice ax n cx) := Lib.hid (hn ▸ he)
  have HN := Lib.hid hn
  clear he hn
  obtain ⟨ay, cy, he, -⟩ := hby
  have HEY : Hid (sy = .slice ay m cy) := Lib.hid (hm ▸ he)
  have HM := Lib.hid hm
  clear he hm
  have HBL : Hid (Below w.heap.size w w) := Lib.hid (Below.refl _ _)
  have HEV := Lib.hid hev
  clear hev ha
  go_enter Tryd.func6, Tryd.ntmps6
  go_upto_region 0 with fail
  refine wp_region_lit ?_
  refine box_g (cs := (u8s a).toArray) rfl rfl ?_
  intro w1 hA hb hl
  try simp only [Act.put, List.setIfInBounds_toArray, List.set_cons_succ, List.set_cons_zero]
  clear hl
  have F2 := Lib.hid (HBL.out.trans (hb.mono HBL.out.size))
  have F3 := Lib.hid (HEV.out.below (Nat.le_refl _) hb)
  clear HBL HEV
  have F4 : Hid (Blk w1 w.heap.size (u8s a)) := Lib.hid hA
  clear hA hb
  refine box_g (cs := #[.int .i64 ox, sx]) rfl rfl ?_
  intro w5 hA hb hl
  try simp only [Act.put, List.setIfInBounds_toArray, List.set_cons_succ, List.set_cons_zero]
  clear hl
  have F6 := Lib.hid (F2.out.trans (hb.mono F2.out.size))
  have F7 := Lib.hid (F3.out.below (Nat.le_refl _) hb)
  have F8 := Lib.hid (F4.out.below hb F4.out.lt)
  clear F2 F3 F4
  have F9 : Hid (Blk w5 w1.heap.size [.int .i64 ox, sx]) := Lib.hid hA
  clear hA hb
  generalize w1.heap.size = g10 at *
  clear w1
  refine box_g (cs := #[.int .i64 oy, sy]) rfl rfl ?_
  intro w11 hA hb hl
  try simp only [Act.put, List.setIfInBounds_toArray, List.set_cons_succ, List.set_cons_zero]
  clear hl
  have F12 := Lib.hid (F6.out.trans (hb.mono F6.out.size))
  have F13 := Lib.hid (F7.out.below (Nat.le_refl _) hb)
  have F14 := Lib.hid (F8.out.below hb F8.out.lt)
  have F15 := Lib.hid (F9.out.below hb F9.out.lt)
  clear F6 F7 F8 F9
  have F16 : Hid (Blk w11 w5.heap.size [.int .i64 oy, sy]) := Lib.hid hA
  clear hA hb
  generalize w5.heap.size = g17 at *
  clear w5
  refine takeL (.bool false) rfl (by go_simp) ?_
  try simp only [Act.put, List.setIfInBounds_toArray, List.set_cons_succ, List.set_cons_zero]
  refine wpList_nil ?_
  go_upto_region 1 with fail
  refine wp_region_lit ?_
  try simp only [List.append_eq, List.cons_append, List.nil_append]
  refine takeL (.pointer (some ⟨g10, 1, none⟩)) rfl (by go_simp) ?_
  try simp only [Act.put, List.setIfInBounds_toArray, List.set_cons_succ, List.set_cons_zero]
  refine takeL (sx) rfl (by have hq := F15.out.cell (i := 1) (v := sx) rfl; go_simp) ?_
  try simp only [Act.put, List.setIfInBounds_toArray, List.set_cons_succ, List.set_cons_zero]
  refine takeL (.int .i64 n) rfl (by have hq := HEX.out; rw [hq]; go_simp) ?_
  try simp only [Act.put, List.setIfInBounds_toArray, List.set_cons_succ, List.set_cons_zero]
  refine takeL (.bool true) rfl (by go_simp <;> omega) ?_
  try simp only [Act.put, List.setIfInBounds_toArray, List.set_cons_succ, List.set_cons_zero]
  refine takeL (.bool true) rfl (by go_simp) ?_
  try simp only [Act.put, List.setIfInBounds_toArray, List.set_cons_succ, List.set_cons_zero]
  refine passL rfl ?_
  try simp only [Act.put, List.setIfInBounds_toArray, List.set_cons_succ, List.set_cons_zero]
  refine passL rfl ?_
  try simp only [Act.put, List.setIfInBounds_toArray, List.set_cons_succ, List.set_cons_zero]
  refine passL rfl ?_
  try simp only [Act.put, List.setIfInBounds_toArray, List.set_cons_succ, List.set_cons_zero]
  refine passL rfl ?_
  try simp only [Act.put, List.setIfInBounds_toArray, List.set_cons_succ, List.set_cons_zero]
  refine takeL (.bool true) rfl (by go_simp) ?_
  try simp only [Act.put, List.setIfInBounds_toArray, List.set_cons_succ, List.set_cons_zero]
  refine wpList_nil ?_
  go_upto_region 2 with fail
  refine wp_region_lit ?_
  try simp only [List.append_eq, List.cons_append, List.nil_append]
  refine wpList_op rfl fun K hK => ?_
  go_simp
  refine (wakes_any _ F13.out).mono ?_
  rintro e w18 ⟨rfl, hb⟩
  have F19 := Lib.hid (F12.out.trans (hb.mono F12.out.size))
  have F20 := Lib.hid (F13.out.below (Nat.le_refl _) hb)
  have F21 := Lib.hid (F14.out.below hb F14.out.lt)
  have F22 := Lib.hid (F15.out.below hb F15.out.lt)
  have F23 := Lib.hid (F16.out.below hb F16.out.lt)
  clear F12 F13 F14 F15 F16
  clear hb
  refine hK _ _ ?_
  clear hK K
  try simp only [Act.put, List.setIfInBounds_toArray, List.set_cons_succ, List.set_cons_zero]
  refine takeL (.bool true) rfl (by go_simp) ?_
  try simp only [Act.put, List.setIfInBounds_toArray, List.set_cons_succ, List.set_cons_zero]
  refine wpList_nil ?_
  go_wp2_with fail
  go_ret
  exact ⟨rfl, F19.out⟩
set_option maxRecDepth 100000 in
set_option maxHeartbeats 1000000 in
theorem twice_long2 (a : List Int) (ha : a.length = 32) (ox : Int) (sx : Value) (x : List Int) (oy : Int) (sy : Value) (y : List Int) (n m : Nat) (hn : x.length = n) (hm : y.length = m) (h : n ≤ 100) (h2 : 100 < m) (w : World) (hbx : BytesAt w sx x) (hby : BytesAt w sy y) (hev : ErrVar w) : Calls Tryd.prog 6 #[.agg (u8s a).toArray, .agg #[.int .i64 ox, sx], .agg #[.int .i64 oy, sy]] w fun e w' => e = .returned (.bool true) ∧ Below w.heap.size w w' := by
  have HZ32 := Lib.hid (zeros_length 32)
  have HA := Lib.hid ha
  have HBX := Lib.hid hbx
  have HBY := Lib.hid hby
  obtain ⟨ax, cx, he, -⟩ := hbx
  have HEX : Hid (sx = .slice ax n cx) := Lib.hid (hn ▸ he)
  have HN := Lib.hid hn
  clear he hn
  obtain ⟨ay, cy, he, -⟩ := hby
  have HEY : Hid (sy = .slice ay m cy) := Lib.hid (hm ▸ he)
  have HM := Lib.hid hm
  clear he hm
  have HBL : Hid (Below w.heap.size w w) := Lib.hid (Below.refl _ _)
  have HEV := Lib.hid hev
  clear hev ha
  go_enter Tryd.func6, Tryd.ntmps6
  go_upto_region 0 with fail
  refine wp_region_lit ?_
  refine box_g (cs := (u8s a).toArray) rfl rfl ?_
  intro w1 hA hb hl
  try simp only [Act.put, List.setIfInBounds_toArray, List.set_cons_succ, List.set_cons_zero]
  clear hl
  have F2 := Lib.hid (HBL.out.trans (hb.mono HBL.out.size))
  have F3 := Lib.hid (HEV.out.below (Nat.le_refl _) hb)
  clear HBL HEV
  have F4 : Hid (Blk w1 w.heap.size (u8s a)) := Lib.hid hA
  clear hA hb
  refine box_g (cs := #[.int .i64 ox, sx]) rfl rfl ?_
  intro w5 hA hb hl
  try simp only [Act.put, List.setIfInBounds_toArray, List.set_cons_succ, List.set_cons_zero]
  clear hl
  have F6 := Lib.hid (F2.out.trans (hb.mono F2.out.size))
  have F7 := Lib.hid (F3.out.below (Nat.le_refl _) hb)
  have F8 := Lib.hid (F4.out.below hb F4.out.lt)
  clear F2 F3 F4
  have F9 : Hid (Blk w5 w1.heap.size [.int .i64 ox, sx]) := Lib.hid hA
  clear hA hb
  generalize w1.heap.size = g10 at *
  clear w1
  refine box_g (cs := #[.int .i64 oy, sy]) rfl rfl ?_
  intro w11 hA hb hl
  try simp only [Act.put, List.setIfInBounds_toArray, List.set_cons_succ, List.set_cons_zero]
  clear hl
  have F12 := Lib.hid (F6.out.trans (hb.mono F6.out.size))
  have F13 := Lib.hid (F7.out.below (Nat.le_refl _) hb)
  have F14 := Lib.hid (F8.out.below hb F8.out.lt)
  have F15 := Lib.hid (F9.out.below hb F9.out.lt)
  clear F6 F7 F8 F9
  have F16 : Hid (Blk w11 w5.heap.size [.int .i64 oy, sy]) := Lib.hid hA
  clear hA hb
  generalize w5.heap.size = g17 at *
  clear w5
  refine takeL (.bool false) rfl (by go_simp) ?_
  try simp only [Act.put, List.setIfInBounds_toArray, List.set_cons_succ, List.set_cons_zero]
  refine wpList_nil ?_
  go_upto_region 1 with fail
  refine wp_region_lit ?_
  try simp only [List.append_eq, List.cons_append, List.nil_append]
  refine takeL (.pointer (some ⟨g10, 1, none⟩)) rfl (by go_simp) ?_
  try simp only [Act.put, List.setIfInBounds_toArray, List.set_cons_succ, List.set_cons_zero]
  refine takeL (sx) rfl (by have hq := F15.out.cell (i := 1) (v := sx) rfl; go_simp) ?_
  try simp only [Act.put, List.setIfInBounds_toArray, List.set_cons_succ, List.set_cons_zero]
  refine takeL (.int .i64 n) rfl (by have hq := HEX.out; rw [hq]; go_simp) ?_
  try simp only [Act.put, List.setIfInBounds_toArray, List.set_cons_succ, List.set_cons_zero]
  refine takeL (.bool false) rfl (by go_simp <;> omega) ?_
  try simp only [Act.put, List.setIfInBounds_toArray, List.set_cons_succ, List.set_cons_zero]
  refine takeL (.bool false) rfl (by go_simp) ?_
  try simp only [Act.put, List.setIfInBounds_toArray, List.set_cons_succ, List.set_cons_zero]
  refine takeL (.pointer (some ⟨g17, 1, none⟩)) rfl (by go_simp) ?_
  try simp only [Act.put, List.setIfInBounds_toArray, List.set_cons_succ, List.set_cons_zero]
  refine takeL (sy) rfl (by have hq := F16.out.cell (i := 1) (v := sy) rfl; go_simp) ?_
  try simp only [Act.put, List.setIfInBounds_toArray, List.set_cons_succ, List.set_cons_zero]
  refine takeL (.int .i64 m) rfl (by have hq := HEY.out; rw [hq]; go_simp) ?_
  try simp only [Act.put, List.setIfInBounds_toArray, List.set_cons_succ, List.set_cons_zero]
  refine takeL (.bool true) rfl (by go_simp <;> omega) ?_
  try simp only [Act.put, List.setIfInBounds_toArray, List.set_cons_succ, List.set_cons_zero]
  refine takeL (.bool true) rfl (by go_simp) ?_
  try simp only [Act.put, List.setIfInBounds_toArray, List.set_cons_succ, List.set_cons_zero]
  refine wpList_nil ?_
  go_upto_region 2 with fail
  refine wp_region_lit ?_
  try simp only [List.append_eq, List.cons_append, List.nil_append]
  refine wpList_op rfl fun K hK => ?_
  go_simp
  refine (wakes_any _ F13.out).mono ?_
  rintro e w18 ⟨rfl, hb⟩
  have F19 := Lib.hid (F12.out.trans (hb.mono F12.out.size))
  have F20 := Lib.hid (F13.out.below (Nat.le_refl _) hb)
  have F21 := Lib.hid (F14.out.below hb F14.out.lt)
  have F22 := Lib.hid (F15.out.below hb F15.out.lt)
  have F23 := Lib.hid (F16.out.below hb F16.out.lt)
  clear F12 F13 F14 F15 F16
  clear hb
  refine hK _ _ ?_
  clear hK K
  try simp only [Act.put, List.setIfInBounds_toArray, List.set_cons_succ, List.set_cons_zero]
  refine takeL (.bool true) rfl (by go_simp) ?_
  try simp only [Act.put, List.setIfInBounds_toArray, List.set_cons_succ, List.set_cons_zero]
  refine wpList_nil ?_
  go_wp2_with fail
  go_ret
  exact ⟨rfl, F19.out⟩
set_option maxRecDepth 100000 in
set_option maxHeartbeats 1000000 in
theorem twice_out (a : List Int) (ha : a.length = 32) (ox : Int) (sx : Value) (x : List Int) (oy : Int) (sy : Value) (y : List Int) (n m : Nat) (hn : x.length = n) (hm : y.length = m) (h : n ≤ 100) (h2 : m ≤ 100) (hf : ¬ Fits ox x) (w : World) (hbx : BytesAt w sx x) (hby : BytesAt w sy y) (hev : ErrVar w) : Calls Tryd.prog 6 #[.agg (u8s a).toArray, .agg #[.int .i64 ox, sx], .agg #[.int .i64 oy, sy]] w fun e w' => e = .returned (.bool true) ∧ Below w.heap.size w w' := by
  have HZ32 := Lib.hid (zeros_length 32)
  have HA := Lib.hid ha
  have HBX := Lib.hid hbx
  have HBY := Lib.hid hby
  obtain ⟨ax, cx, he, -⟩ := hbx
  have HEX : Hid (sx = .slice ax n cx) := Lib.hid (hn ▸ he)
  have HN := Lib.hid hn
  clear he hn
  obtain ⟨ay, cy, he, -⟩ := hby
  have HEY : Hid (sy = .slice ay m cy) := Lib.hid (hm ▸ he)
  have HM := Lib.hid hm
  clear he hm
  have HBL : Hid (Below w.heap.size w w) := Lib.hid (Below.refl _ _)
  have HEV := Lib.hid hev
  clear hev ha
  have HF := Lib.hid hf
  clear hf
  go_enter Tryd.func6, Tryd.ntmps6
  go_upto_region 0 with fail
  refine wp_region_lit ?_
  refine box_g (cs := (u8s a).toArray) rfl rfl ?_
  intro w1 hA hb hl
  try simp only [Act.put, List.setIfInBounds_toArray, List.set_cons_succ, List.set_cons_zero]
  clear hl
  have F2 := Lib.hid (HBL.out.trans (hb.mono HBL.out.size))
  have F3 := Lib.hid (HEV.out.below (Nat.le_refl _) hb)
  clear HBL HEV
  have F4 : Hid (Blk w1 w.heap.size (u8s a)) := Lib.hid hA
  clear hA hb
  refine box_g (cs := #[.int .i64 ox, sx]) rfl rfl ?_
  intro w5 hA hb hl
  try simp only [Act.put, List.setIfInBounds_toArray, List.set_cons_succ, List.set_cons_zero]
  clear hl
  have F6 := Lib.hid (F2.out.trans (hb.mono F2.out.size))
  have F7 := Lib.hid (F3.out.below (Nat.le_refl _) hb)
  have F8 := Lib.hid (F4.out.below hb F4.out.lt)
  clear F2 F3 F4
  have F9 : Hid (Blk w5 w1.heap.size [.int .i64 ox, sx]) := Lib.hid hA
  clear hA hb
  generalize w1.heap.size = g10 at *
  clear w1
  refine box_g (cs := #[.int .i64 oy, sy]) rfl rfl ?_
  intro w11 hA hb hl
  try simp only [Act.put, List.setIfInBounds_toArray, List.set_cons_succ, List.set_cons_zero]
  clear hl
  have F12 := Lib.hid (F6.out.trans (hb.mono F6.out.size))
  have F13 := Lib.hid (F7.out.below (Nat.le_refl _) hb)
  have F14 := Lib.hid (F8.out.below hb F8.out.lt)
  have F15 := Lib.hid (F9.out.below hb F9.out.lt)
  clear F6 F7 F8 F9
  have F16 : Hid (Blk w11 w5.heap.size [.int .i64 oy, sy]) := Lib.hid hA
  clear hA hb
  generalize w5.heap.size = g17 at *
  clear w5
  refine takeL (.bool false) rfl (by go_simp) ?_
  try simp only [Act.put, List.setIfInBounds_toArray, List.set_cons_succ, List.set_cons_zero]
  refine wpList_nil ?_
  go_upto_region 1 with fail
  refine wp_region_lit ?_
  try simp only [List.append_eq, List.cons_append, List.nil_append]
  refine takeL (.pointer (some ⟨g10, 1, none⟩)) rfl (by go_simp) ?_
  try simp only [Act.put, List.setIfInBounds_toArray, List.set_cons_succ, List.set_cons_zero]
  refine takeL (sx) rfl (by have hq := F15.out.cell (i := 1) (v := sx) rfl; go_simp) ?_
  try simp only [Act.put, List.setIfInBounds_toArray, List.set_cons_succ, List.set_cons_zero]
  refine takeL (.int .i64 n) rfl (by have hq := HEX.out; rw [hq]; go_simp) ?_
  try simp only [Act.put, List.setIfInBounds_toArray, List.set_cons_succ, List.set_cons_zero]
  refine takeL (.bool false) rfl (by go_simp <;> omega) ?_
  try simp only [Act.put, List.setIfInBounds_toArray, List.set_cons_succ, List.set_cons_zero]
  refine takeL (.bool false) rfl (by go_simp) ?_
  try simp only [Act.put, List.setIfInBounds_toArray, List.set_cons_succ, List.set_cons_zero]
  refine takeL (.pointer (some ⟨g17, 1, none⟩)) rfl (by go_simp) ?_
  try simp only [Act.put, List.setIfInBounds_toArray, List.set_cons_succ, List.set_cons_zero]
  refine takeL (sy) rfl (by have hq := F16.out.cell (i := 1) (v := sy) rfl; go_simp) ?_
  try simp only [Act.put, List.setIfInBounds_toArray, List.set_cons_succ, List.set_cons_zero]
  refine takeL (.int .i64 m) rfl (by have hq := HEY.out; rw [hq]; go_simp) ?_
  try simp only [Act.put, List.setIfInBounds_toArray, List.set_cons_succ, List.set_cons_zero]
  refine takeL (.bool false) rfl (by go_simp <;> omega) ?_
  try simp only [Act.put, List.setIfInBounds_toArray, List.set_cons_succ, List.set_cons_zero]
  refine takeL (.bool false) rfl (by go_simp) ?_
  try simp only [Act.put, List.setIfInBounds_toArray, List.set_cons_succ, List.set_cons_zero]
  refine wpList_nil ?_
  go_upto_region 3 with fail
  refine wp_region_lit ?_
  try simp only [List.append_eq, List.cons_append, List.nil_append]
  refine load23 (cs := (u8s a).toArray) (Blk.all F14.out rfl) (by rw [u8s_size, HA.out]) rfl rfl ?_
  try simp only [Act.put, List.setIfInBounds_toArray, List.set_cons_succ, List.set_cons_zero]
  refine takeL (.pointer (some ⟨g10, 0, none⟩)) rfl (by go_simp) ?_
  try simp only [Act.put, List.setIfInBounds_toArray, List.set_cons_succ, List.set_cons_zero]
  refine takeL (.int .i64 ox) rfl (by have hq := F15.out.cell (i := 0) (v := .int .i64 ox) rfl; go_simp) ?_
  try simp only [Act.put, List.setIfInBounds_toArray, List.set_cons_succ, List.set_cons_zero]
  refine takeL (.pointer (some ⟨g10, 1, none⟩)) rfl (by go_simp) ?_
  try simp only [Act.put, List.setIfInBounds_toArray, List.set_cons_succ, List.set_cons_zero]
  refine takeL (sx) rfl (by have hq := F15.out.cell (i := 1) (v := sx) rfl; go_simp) ?_
  try simp only [Act.put, List.setIfInBounds_toArray, List.set_cons_succ, List.set_cons_zero]
  refine wpList_op rfl fun K hK => ?_
  go_simp
  refine (apply_no a x HA.out ox _ (by rw [HN.out]; omega) HF.out _ (HBX.out.below F12.out) F13.out).mono ?_
  rintro e w18 ⟨rfl, hb⟩
  have F19 := Lib.hid (F12.out.trans (hb.mono F12.out.size))
  have F20 := Lib.hid (F13.out.below (Nat.le_refl _) hb)
  have F21 := Lib.hid (F14.out.below hb F14.out.lt)
  have F22 := Lib.hid (F15.out.below hb F15.out.lt)
  have F23 := Lib.hid (F16.out.below hb F16.out.lt)
  clear F12 F13 F14 F15 F16
  clear hb
  refine hK _ _ ?_
  clear hK K
  try simp only [Act.put, List.setIfInBounds_toArray, List.set_cons_succ, List.set_cons_zero]
  refine takeL (.tuple #[.agg (u8s (zeros 32)).toArray, .int .i64 1]) rfl (by go_simp) ?_
  try simp only [Act.put, List.setIfInBounds_toArray, List.set_cons_succ, List.set_cons_zero]
  refine takeL (.agg (u8s (zeros 32)).toArray) rfl (by go_simp) ?_
  try simp only [Act.put, List.setIfInBounds_toArray, List.set_cons_succ, List.set_cons_zero]
  refine takeL (.int .i64 1) rfl (by go_simp) ?_
  try simp only [Act.put, List.setIfInBounds_toArray, List.set_cons_succ, List.set_cons_zero]
  refine alloc_g zero23 rfl ?_
  intro w24 hA hb hl
  try simp only [Act.put, List.setIfInBounds_toArray, List.set_cons_succ, List.set_cons_zero]
  clear hl
  refine store_all (cs := (u8s (zeros 32)).toArray) hA (by simp only [u8s_size, List.size_toArray, List.length_append, List.length_singleton, List.length_map, HZ32.out]) (by rw [u8s_size, HZ32.out]; exact info23) (u8s_one _) rfl rfl rfl ?_
  intro w25 hD hO hlD
  try simp only [Act.put, List.setIfInBounds_toArray, List.set_cons_succ, List.set_cons_zero]
  clear hlD hA
  have hbb : Below w18.heap.size w18 w25 := hb.trans (hO.below hb.size fun k hk => Nat.le_of_eq hk.symm)
  clear hb hO
  have F26 := Lib.hid (F19.out.trans (hbb.mono F19.out.size))
  have F27 := Lib.hid (F20.out.below (Nat.le_refl _) hbb)
  have F28 := Lib.hid (F21.out.below hbb F21.out.lt)
  have F29 := Lib.hid (F22.out.below hbb F22.out.lt)
  have F30 := Lib.hid (F23.out.below hbb F23.out.lt)
  clear F19 F20 F21 F22 F23
  have F31 : Hid (Blk w25 w18.heap.size (u8s (zeros 32))) := Lib.hid hD
  clear hD hbb w24
  generalize w18.heap.size = g32 at *
  clear w18
  refine takeL (.int .i64 1) rfl (by go_simp) ?_
  try simp only [Act.put, List.setIfInBounds_toArray, List.set_cons_succ, List.set_cons_zero]
  refine wpList_nil ?_
  go_upto_region 4 with fail
  refine wp_region_lit ?_
  try simp only [List.append_eq, List.cons_append, List.nil_append]
  refine takeL (.int .i64 1) rfl (by go_simp) ?_
  try simp only [Act.put, List.setIfInBounds_toArray, List.set_cons_succ, List.set_cons_zero]
  refine takeL (.bool true) rfl (by go_simp) ?_
  try simp only [Act.put, List.setIfInBounds_toArray, List.set_cons_succ, List.set_cons_zero]
  refine wpList_nil ?_
  go_upto_region 5 with fail
  refine wp_region_lit ?_
  try simp only [List.append_eq, List.cons_append, List.nil_append]
  refine wpList_op rfl fun K hK => ?_
  go_simp
  refine (wakes_any _ F27.out).mono ?_
  rintro e w33 ⟨rfl, hb⟩
  have F34 := Lib.hid (F26.out.trans (hb.mono F26.out.size))
  have F35 := Lib.hid (F27.out.below (Nat.le_refl _) hb)
  have F36 := Lib.hid (F28.out.below hb F28.out.lt)
  have F37 := Lib.hid (F29.out.below hb F29.out.lt)
  have F38 := Lib.hid (F30.out.below hb F30.out.lt)
  have F39 := Lib.hid (F31.out.below hb F31.out.lt)
  clear F26 F27 F28 F29 F30 F31
  clear hb
  refine hK _ _ ?_
  clear hK K
  try simp only [Act.put, List.setIfInBounds_toArray, List.set_cons_succ, List.set_cons_zero]
  refine takeL (.bool true) rfl (by go_simp) ?_
  try simp only [Act.put, List.setIfInBounds_toArray, List.set_cons_succ, List.set_cons_zero]
  refine wpList_nil ?_
  go_wp2_with fail
  go_ret
  exact ⟨rfl, F34.out⟩
set_option maxRecDepth 100000 in
set_option maxHeartbeats 1000000 in
theorem twice_one (a : List Int) (ha : a.length = 32) (o : Nat) (sx : Value) (x : List Int) (oy : Int) (sy : Value) (y : List Int) (n m : Nat) (hn : x.length = n) (hm : y.length = m) (h : n ≤ 100) (h2 : m ≤ 100) (hf : Fits o x) (hg : ¬ Fits oy y) (w : World) (hbx : BytesAt w sx x) (hby : BytesAt w sy y) (hev : ErrVar w) : Calls Tryd.prog 6 #[.agg (u8s a).toArray, .agg #[.int .i64 o, sx], .agg #[.int .i64 oy, sy]] w fun e w' => e = .returned (.bool true) ∧ Below w.heap.size w w' := by
  have HZ32 := Lib.hid (zeros_length 32)
  have HA := Lib.hid ha
  have HBX := Lib.hid hbx
  have HBY := Lib.hid hby
  obtain ⟨ax, cx, he, -⟩ := hbx
  have HEX : Hid (sx = .slice ax n cx) := Lib.hid (hn ▸ he)
  have HN := Lib.hid hn
  clear he hn
  obtain ⟨ay, cy, he, -⟩ := hby
  have HEY : Hid (sy = .slice ay m cy) := Lib.hid (hm ▸ he)
  have HM := Lib.hid hm
  clear he hm
  have HBL : Hid (Below w.heap.size w w) := Lib.hid (Below.refl _ _)
  have HEV := Lib.hid hev
  clear hev ha
  have HF := Lib.hid hf
  obtain ⟨p1, hp1⟩ : ∃ p, layI a o x = p := ⟨_, rfl⟩
  have H1 : Hid (p1.length = 32) := Lib.hid (hp1 ▸ lay_size HA.out o hf)
  have H11 : Hid (layI p1 o x = p1) := Lib.hid (hp1 ▸ lay_twice (by rw [HA.out]; have := hf.2.2; omega))
  have HP1 := Lib.hid hp1
  have hf1 : 0 < n := HN.out ▸ hf.2.1
  have hf2 : (o : Int) + n ≤ 32 := HN.out ▸ hf.2.2
  clear hf hp1
  have HG := Lib.hid hg
  clear hg
  go_enter Tryd.func6, Tryd.ntmps6
  go_upto_region 0 with fail
  refine wp_region_lit ?_
  refine box_g (cs := (u8s a).toArray) rfl rfl ?_
  intro w1 hA hb hl
  try simp only [Act.put, List.setIfInBounds_toArray, List.set_cons_succ, List.set_cons_zero]
  clear hl
  have F2 := Lib.hid (HBL.out.trans (hb.mono HBL.out.size))
  have F3 := Lib.hid (HEV.out.below (Nat.le_refl _) hb)
  clear HBL HEV
  have F4 : Hid (Blk w1 w.heap.size (u8s a)) := Lib.hid hA
  clear hA hb
  refine box_g (cs := #[.int .i64 o, sx]) rfl rfl ?_
  intro w5 hA hb hl
  try simp only [Act.put, List.setIfInBounds_toArray, List.set_cons_succ, List.set_cons_zero]
  clear hl
  have F6 := Lib.hid (F2.out.trans (hb.mono F2.out.size))
  have F7 := Lib.hid (F3.out.below (Nat.le_refl _) hb)
  have F8 := Lib.hid (F4.out.below hb F4.out.lt)
  clear F2 F3 F4
  have F9 : Hid (Blk w5 w1.heap.size [.int .i64 o, sx]) := Lib.hid hA
  clear hA hb
  generalize w1.heap.size = g10 at *
  clear w1
  refine box_g (cs := #[.int .i64 oy, sy]) rfl rfl ?_
  intro w11 hA hb hl
  try simp only [Act.put, List.setIfInBounds_toArray, List.set_cons_succ, List.set_cons_zero]
  clear hl
  have F12 := Lib.hid (F6.out.trans (hb.mono F6.out.size))
  have F13 := Lib.hid (F7.out.below (Nat.le_refl _) hb)
  have F14 := Lib.hid (F8.out.below hb F8.out.lt)
  have F15 := Lib.hid (F9.out.below hb F9.out.lt)
  clear F6 F7 F8 F9
  have F16 : Hid (Blk w11 w5.heap.size [.int .i64 oy, sy]) := Lib.hid hA
  clear hA hb
  generalize w5.heap.size = g17 at *
  clear w5
  refine takeL (.bool false) rfl (by go_simp) ?_
  try simp only [Act.put, List.setIfInBounds_toArray, List.set_cons_succ, List.set_cons_zero]
  refine wpList_nil ?_
  go_upto_region 1 with fail
  refine wp_region_lit ?_
  try simp only [List.append_eq, List.cons_append, List.nil_append]
  refine takeL (.pointer (some ⟨g10, 1, none⟩)) rfl (by go_simp) ?_
  try simp only [Act.put, List.setIfInBounds_toArray, List.set_cons_succ, List.set_cons_zero]
  refine takeL (sx) rfl (by have hq := F15.out.cell (i := 1) (v := sx) rfl; go_simp) ?_
  try simp only [Act.put, List.setIfInBounds_toArray, List.set_cons_succ, List.set_cons_zero]
  refine takeL (.int .i64 n) rfl (by have hq := HEX.out; rw [hq]; go_simp) ?_
  try simp only [Act.put, List.setIfInBounds_toArray, List.set_cons_succ, List.set_cons_zero]
  refine takeL (.bool false) rfl (by go_simp <;> omega) ?_
  try simp only [Act.put, List.setIfInBounds_toArray, List.set_cons_succ, List.set_cons_zero]
  refine takeL (.bool false) rfl (by go_simp) ?_
  try simp only [Act.put, List.setIfInBounds_toArray, List.set_cons_succ, List.set_cons_zero]
  refine takeL (.pointer (some ⟨g17, 1, none⟩)) rfl (by go_simp) ?_
  try simp only [Act.put, List.setIfInBounds_toArray, List.set_cons_succ, List.set_cons_zero]
  refine takeL (sy) rfl (by have hq := F16.out.cell (i := 1) (v := sy) rfl; go_simp) ?_
  try simp only [Act.put, List.setIfInBounds_toArray, List.set_cons_succ, List.set_cons_zero]
  refine takeL (.int .i64 m) rfl (by have hq := HEY.out; rw [hq]; go_simp) ?_
  try simp only [Act.put, List.setIfInBounds_toArray, List.set_cons_succ, List.set_cons_zero]
  refine takeL (.bool false) rfl (by go_simp <;> omega) ?_
  try simp only [Act.put, List.setIfInBounds_toArray, List.set_cons_succ, List.set_cons_zero]
  refine takeL (.bool false) rfl (by go_simp) ?_
  try simp only [Act.put, List.setIfInBounds_toArray, List.set_cons_succ, List.set_cons_zero]
  refine wpList_nil ?_
  go_upto_region 3 with fail
  refine wp_region_lit ?_
  try simp only [List.append_eq, List.cons_append, List.nil_append]
  refine load23 (cs := (u8s a).toArray) (Blk.all F14.out rfl) (by rw [u8s_size, HA.out]) rfl rfl ?_
  try simp only [Act.put, List.setIfInBounds_toArray, List.set_cons_succ, List.set_cons_zero]
  refine takeL (.pointer (some ⟨g10, 0, none⟩)) rfl (by go_simp) ?_
  try simp only [Act.put, List.setIfInBounds_toArray, List.set_cons_succ, List.set_cons_zero]
  refine takeL (.int .i64 o) rfl (by have hq := F15.out.cell (i := 0) (v := .int .i64 o) rfl; go_simp) ?_
  try simp only [Act.put, List.setIfInBounds_toArray, List.set_cons_succ, List.set_cons_zero]
  refine takeL (.pointer (some ⟨g10, 1, none⟩)) rfl (by go_simp) ?_
  try simp only [Act.put, List.setIfInBounds_toArray, List.set_cons_succ, List.set_cons_zero]
  refine takeL (sx) rfl (by have hq := F15.out.cell (i := 1) (v := sx) rfl; go_simp) ?_
  try simp only [Act.put, List.setIfInBounds_toArray, List.set_cons_succ, List.set_cons_zero]
  refine wpList_op rfl fun K hK => ?_
  go_simp
  refine (apply_as HP1.out HA.out _ (by rw [HN.out]; omega) HF.out _ (HBX.out.below F12.out) F13.out).mono ?_
  rintro e w18 ⟨rfl, hb⟩
  have F19 := Lib.hid (F12.out.trans (hb.mono F12.out.size))
  have F20 := Lib.hid (F13.out.below (Nat.le_refl _) hb)
  have F21 := Lib.hid (F14.out.below hb F14.out.lt)
  have F22 := Lib.hid (F15.out.below hb F15.out.lt)
  have F23 := Lib.hid (F16.out.below hb F16.out.lt)
  clear F12 F13 F14 F15 F16
  clear hb
  refine hK _ _ ?_
  clear hK K
  try simp only [Act.put, List.setIfInBounds_toArray, List.set_cons_succ, List.set_cons_zero]
  refine takeL (.tuple #[.agg (u8s p1).toArray, .int .i64 0]) rfl (by go_simp) ?_
  try simp only [Act.put, List.setIfInBounds_toArray, List.set_cons_succ, List.set_cons_zero]
  refine takeL (.agg (u8s p1).toArray) rfl (by go_simp) ?_
  try simp only [Act.put, List.setIfInBounds_toArray, List.set_cons_succ, List.set_cons_zero]
  refine takeL (.int .i64 0) rfl (by go_simp) ?_
  try simp only [Act.put, List.setIfInBounds_toArray, List.set_cons_succ, List.set_cons_zero]
  refine alloc_g zero23 rfl ?_
  intro w24 hA hb hl
  try simp only [Act.put, List.setIfInBounds_toArray, List.set_cons_succ, List.set_cons_zero]
  clear hl
  refine store_all (cs := (u8s p1).toArray) hA (by simp only [u8s_size, List.size_toArray, List.length_append, List.length_singleton, List.length_map, H1.out, HZ32.out]) (by rw [u8s_size, H1.out]; exact info23) (u8s_one _) rfl rfl rfl ?_
  intro w25 hD hO hlD
  try simp only [Act.put, List.setIfInBounds_toArray, List.set_cons_succ, List.set_cons_zero]
  clear hlD hA
  have hbb : Below w18.heap.size w18 w25 := hb.trans (hO.below hb.size fun k hk => Nat.le_of_eq hk.symm)
  clear hb hO
  have F26 := Lib.hid (F19.out.trans (hbb.mono F19.out.size))
  have F27 := Lib.hid (F20.out.below (Nat.le_refl _) hbb)
  have F28 := Lib.hid (F21.out.below hbb F21.out.lt)
  have F29 := Lib.hid (F22.out.below hbb F22.out.lt)
  have F30 := Lib.hid (F23.out.below hbb F23.out.lt)
  clear F19 F20 F21 F22 F23
  have F31 : Hid (Blk w25 w18.heap.size (u8s p1)) := Lib.hid hD
  clear hD hbb w24
  generalize w18.heap.size = g32 at *
  clear w18
  refine takeL (.int .i64 0) rfl (by go_simp) ?_
  try simp only [Act.put, List.setIfInBounds_toArray, List.set_cons_succ, List.set_cons_zero]
  refine wpList_nil ?_
  go_upto_region 4 with fail
  refine wp_region_lit ?_
  try simp only [List.append_eq, List.cons_append, List.nil_append]
  refine takeL (.int .i64 0) rfl (by go_simp) ?_
  try simp only [Act.put, List.setIfInBounds_toArray, List.set_cons_succ, List.set_cons_zero]
  refine takeL (.bool false) rfl (by go_simp) ?_
  try simp only [Act.put, List.setIfInBounds_toArray, List.set_cons_succ, List.set_cons_zero]
  refine wpList_nil ?_
  go_upto_region 6 with fail
  refine wp_region_lit ?_
  try simp only [List.append_eq, List.cons_append, List.nil_append]
  refine load23 (cs := (u8s p1).toArray) (Blk.all F31.out rfl) (by rw [u8s_size, H1.out]) rfl rfl ?_
  try simp only [Act.put, List.setIfInBounds_toArray, List.set_cons_succ, List.set_cons_zero]
  refine takeL (.pointer (some ⟨g10, 0, none⟩)) rfl (by go_simp) ?_
  try simp only [Act.put, List.setIfInBounds_toArray, List.set_cons_succ, List.set_cons_zero]
  refine takeL (.int .i64 o) rfl (by have hq := F29.out.cell (i := 0) (v := .int .i64 o) rfl; go_simp) ?_
  try simp only [Act.put, List.setIfInBounds_toArray, List.set_cons_succ, List.set_cons_zero]
  refine takeL (.pointer (some ⟨g10, 1, none⟩)) rfl (by go_simp) ?_
  try simp only [Act.put, List.setIfInBounds_toArray, List.set_cons_succ, List.set_cons_zero]
  refine takeL (sx) rfl (by have hq := F29.out.cell (i := 1) (v := sx) rfl; go_simp) ?_
  try simp only [Act.put, List.setIfInBounds_toArray, List.set_cons_succ, List.set_cons_zero]
  refine wpList_op rfl fun K hK => ?_
  go_simp
  refine (apply_as H11.out H1.out _ (by rw [HN.out]; omega) HF.out _ (HBX.out.below F26.out) F27.out).mono ?_
  rintro e w33 ⟨rfl, hb⟩
  have F34 := Lib.hid (F26.out.trans (hb.mono F26.out.size))
  have F35 := Lib.hid (F27.out.below (Nat.le_refl _) hb)
  have F36 := Lib.hid (F28.out.below hb F28.out.lt)
  have F37 := Lib.hid (F29.out.below hb F29.out.lt)
  have F38 := Lib.hid (F30.out.below hb F30.out.lt)
  have F39 := Lib.hid (F31.out.below hb F31.out.lt)
  clear F26 F27 F28 F29 F30 F31
  clear hb
  refine hK _ _ ?_
  clear hK K
  try simp only [Act.put, List.setIfInBounds_toArray, List.set_cons_succ, List.set_cons_zero]
  refine takeL (.tuple #[.agg (u8s p1).toArray, .int .i64 0]) rfl (by go_simp) ?_
  try simp only [Act.put, List.setIfInBounds_toArray, List.set_cons_succ, List.set_cons_zero]
  refine takeL (.agg (u8s p1).toArray) rfl (by go_simp) ?_
  try simp only [Act.put, List.setIfInBounds_toArray, List.set_cons_succ, List.set_cons_zero]
  refine takeL (.int .i64 0) rfl (by go_simp) ?_
  try simp only [Act.put, List.setIfInBounds_toArray, List.set_cons_succ, List.set_cons_zero]
  refine alloc_g zero23 rfl ?_
  intro w40 hA hb hl
  try simp only [Act.put, List.setIfInBounds_toArray, List.set_cons_succ, List.set_cons_zero]
  clear hl
  refine store_all (cs := (u8s p1).toArray) hA (by simp only [u8s_size, List.size_toArray, List.length_append, List.length_singleton, List.length_map, H1.out, HZ32.out]) (by rw [u8s_size, H1.out]; exact info23) (u8s_one _) rfl rfl rfl ?_
  intro w41 hD hO hlD
  try simp only [Act.put, List.setIfInBounds_toArray, List.set_cons_succ, List.set_cons_zero]
  clear hlD hA
  have hbb : Below w33.heap.size w33 w41 := hb.trans (hO.below hb.size fun k hk => Nat.le_of_eq hk.symm)
  clear hb hO
  have F42 := Lib.hid (F34.out.trans (hbb.mono F34.out.size))
  have F43 := Lib.hid (F35.out.below (Nat.le_refl _) hbb)
  have F44 := Lib.hid (F36.out.below hbb F36.out.lt)
  have F45 := Lib.hid (F37.out.below hbb F37.out.lt)
  have F46 := Lib.hid (F38.out.below hbb F38.out.lt)
  have F47 := Lib.hid (F39.out.below hbb F39.out.lt)
  clear F34 F35 F36 F37 F38 F39
  have F48 : Hid (Blk w41 w33.heap.size (u8s p1)) := Lib.hid hD
  clear hD hbb w40
  generalize w33.heap.size = g49 at *
  clear w33
  refine takeL (.int .i64 0) rfl (by go_simp) ?_
  try simp only [Act.put, List.setIfInBounds_toArray, List.set_cons_succ, List.set_cons_zero]
  refine wpList_nil ?_
  go_upto_region 7 with fail
  refine wp_region_lit ?_
  try simp only [List.append_eq, List.cons_append, List.nil_append]
  refine takeL (.int .i64 0) rfl (by go_simp) ?_
  try simp only [Act.put, List.setIfInBounds_toArray, List.set_cons_succ, List.set_cons_zero]
  refine takeL (.bool false) rfl (by go_simp) ?_
  try simp only [Act.put, List.setIfInBounds_toArray, List.set_cons_succ, List.set_cons_zero]
  refine takeL (.bool false) rfl (by go_simp) ?_
  try simp only [Act.put, List.setIfInBounds_toArray, List.set_cons_succ, List.set_cons_zero]
  refine load23 (cs := (u8s p1).toArray) (Blk.all F47.out rfl) (by rw [u8s_size, H1.out]) rfl rfl ?_
  try simp only [Act.put, List.setIfInBounds_toArray, List.set_cons_succ, List.set_cons_zero]
  refine load23 (cs := (u8s p1).toArray) (Blk.all F48.out rfl) (by rw [u8s_size, H1.out]) rfl rfl ?_
  try simp only [Act.put, List.setIfInBounds_toArray, List.set_cons_succ, List.set_cons_zero]
  refine takeL (.bool false) rfl (by exact exec_pageN (decide_eq_true rfl) H1.out H1.out _ _ _ rfl rfl rfl) ?_
  try simp only [Act.put, List.setIfInBounds_toArray, List.set_cons_succ, List.set_cons_zero]
  refine takeL (.bool false) rfl (by go_simp) ?_
  try simp only [Act.put, List.setIfInBounds_toArray, List.set_cons_succ, List.set_cons_zero]
  refine wpList_nil ?_
  go_upto_region 9 with fail
  refine wp_region_lit ?_
  try simp only [List.append_eq, List.cons_append, List.nil_append]
  refine load23 (cs := (u8s p1).toArray) (Blk.all F47.out rfl) (by rw [u8s_size, H1.out]) rfl rfl ?_
  try simp only [Act.put, List.setIfInBounds_toArray, List.set_cons_succ, List.set_cons_zero]
  refine takeL (.pointer (some ⟨g17, 0, none⟩)) rfl (by go_simp) ?_
  try simp only [Act.put, List.setIfInBounds_toArray, List.set_cons_succ, List.set_cons_zero]
  refine takeL (.int .i64 oy) rfl (by have hq := F46.out.cell (i := 0) (v := .int .i64 oy) rfl; go_simp) ?_
  try simp only [Act.put, List.setIfInBounds_toArray, List.set_cons_succ, List.set_cons_zero]
  refine takeL (.pointer (some ⟨g17, 1, none⟩)) rfl (by go_simp) ?_
  try simp only [Act.put, List.setIfInBounds_toArray, List.set_cons_succ, List.set_cons_zero]
  refine takeL (sy) rfl (by have hq := F46.out.cell (i := 1) (v := sy) rfl; go_simp) ?_
  try simp only [Act.put, List.setIfInBounds_toArray, List.set_cons_succ, List.set_cons_zero]
  refine wpList_op rfl fun K hK => ?_
  go_simp
  refine (apply_no p1 y H1.out oy _ (by rw [HM.out]; omega) HG.out _ (HBY.out.below F42.out) F43.out).mono ?_
  rintro e w50 ⟨rfl, hb⟩
  have F51 := Lib.hid (F42.out.trans (hb.mono F42.out.size))
  have F52 := Lib.hid (F43.out.below (Nat.le_refl _) hb)
  have F53 := Lib.hid (F44.out.below hb F44.out.lt)
  have F54 := Lib.hid (F45.out.below hb F45.out.lt)
  have F55 := Lib.hid (F46.out.below hb F46.out.lt)
  have F56 := Lib.hid (F47.out.below hb F47.out.lt)
  have F57 := Lib.hid (F48.out.below hb F48.out.lt)
  clear F42 F43 F44 F45 F46 F47 F48
  clear hb
  refine hK _ _ ?_
  clear hK K
  try simp only [Act.put, List.setIfInBounds_toArray, List.set_cons_succ, List.set_cons_zero]
  refine takeL (.tuple #[.agg (u8s (zeros 32)).toArray, .int .i64 1]) rfl (by go_simp) ?_
  try simp only [Act.put, List.setIfInBounds_toArray, List.set_cons_succ, List.set_cons_zero]
  refine takeL (.agg (u8s (zeros 32)).toArray) rfl (by go_simp) ?_
  try simp only [Act.put, List.setIfInBounds_toArray, List.set_cons_succ, List.set_cons_zero]
  refine takeL (.int .i64 1) rfl (by go_simp) ?_
  try simp only [Act.put, List.setIfInBounds_toArray, List.set_cons_succ, List.set_cons_zero]
  refine alloc_g zero23 rfl ?_
  intro w58 hA hb hl
  try simp only [Act.put, List.setIfInBounds_toArray, List.set_cons_succ, List.set_cons_zero]
  clear hl
  refine store_all (cs := (u8s (zeros 32)).toArray) hA (by simp only [u8s_size, List.size_toArray, List.length_append, List.length_singleton, List.length_map, HZ32.out]) (by rw [u8s_size, HZ32.out]; exact info23) (u8s_one _) rfl rfl rfl ?_
  intro w59 hD hO hlD
  try simp only [Act.put, List.setIfInBounds_toArray, List.set_cons_succ, List.set_cons_zero]
  clear hlD hA
  have hbb : Below w50.heap.size w50 w59 := hb.trans (hO.below hb.size fun k hk => Nat.le_of_eq hk.symm)
  clear hb hO
  have F60 := Lib.hid (F51.out.trans (hbb.mono F51.out.size))
  have F61 := Lib.hid (F52.out.below (Nat.le_refl _) hbb)
  have F62 := Lib.hid (F53.out.below hbb F53.out.lt)
  have F63 := Lib.hid (F54.out.below hbb F54.out.lt)
  have F64 := Lib.hid (F55.out.below hbb F55.out.lt)
  have F65 := Lib.hid (F56.out.below hbb F56.out.lt)
  have F66 := Lib.hid (F57.out.below hbb F57.out.lt)
  clear F51 F52 F53 F54 F55 F56 F57
  have F67 : Hid (Blk w59 w50.heap.size (u8s (zeros 32))) := Lib.hid hD
  clear hD hbb w58
  generalize w50.heap.size = g68 at *
  clear w50
  refine takeL (.int .i64 1) rfl (by go_simp) ?_
  try simp only [Act.put, List.setIfInBounds_toArray, List.set_cons_succ, List.set_cons_zero]
  refine wpList_nil ?_
  go_upto_region 10 with fail
  refine wp_region_lit ?_
  try simp only [List.append_eq, List.cons_append, List.nil_append]
  refine load23 (cs := (u8s a).toArray) (Blk.all F62.out rfl) (by rw [u8s_size, HA.out]) rfl rfl ?_
  try simp only [Act.put, List.setIfInBounds_toArray, List.set_cons_succ, List.set_cons_zero]
  refine takeL (.pointer (some ⟨g17, 0, none⟩)) rfl (by go_simp) ?_
  try simp only [Act.put, List.setIfInBounds_toArray, List.set_cons_succ, List.set_cons_zero]
  refine takeL (.int .i64 oy) rfl (by have hq := F64.out.cell (i := 0) (v := .int .i64 oy) rfl; go_simp) ?_
  try simp only [Act.put, List.setIfInBounds_toArray, List.set_cons_succ, List.set_cons_zero]
  refine takeL (.pointer (some ⟨g17, 1, none⟩)) rfl (by go_simp) ?_
  try simp only [Act.put, List.setIfInBounds_toArray, List.set_cons_succ, List.set_cons_zero]
  refine takeL (sy) rfl (by have hq := F64.out.cell (i := 1) (v := sy) rfl; go_simp) ?_
  try simp only [Act.put, List.setIfInBounds_toArray, List.set_cons_succ, List.set_cons_zero]
  refine wpList_op rfl fun K hK => ?_
  go_simp
  refine (apply_no a y HA.out oy _ (by rw [HM.out]; omega) HG.out _ (HBY.out.below F60.out) F61.out).mono ?_
  rintro e w69 ⟨rfl, hb⟩
  have F70 := Lib.hid (F60.out.trans (hb.mono F60.out.size))
  have F71 := Lib.hid (F61.out.below (Nat.le_refl _) hb)
  have F72 := Lib.hid (F62.out.below hb F62.out.lt)
  have F73 := Lib.hid (F63.out.below hb F63.out.lt)
  have F74 := Lib.hid (F64.out.below hb F64.out.lt)
  have F75 := Lib.hid (F65.out.below hb F65.out.lt)
  have F76 := Lib.hid (F66.out.below hb F66.out.lt)
  have F77 := Lib.hid (F67.out.below hb F67.out.lt)
  clear F60 F61 F62 F63 F64 F65 F66 F67
  clear hb
  refine hK _ _ ?_
  clear hK K
  try simp only [Act.put, List.setIfInBounds_toArray, List.set_cons_succ, List.set_cons_zero]
  refine takeL (.tuple #[.agg (u8s (zeros 32)).toArray, .int .i64 1]) rfl (by go_simp) ?_
  try simp only [Act.put, List.setIfInBounds_toArray, List.set_cons_succ, List.set_cons_zero]
  refine takeL (.agg (u8s (zeros 32)).toArray) rfl (by go_simp) ?_
  try simp only [Act.put, List.setIfInBounds_toArray, List.set_cons_succ, List.set_cons_zero]
  refine takeL (.int .i64 1) rfl (by go_simp) ?_
  try simp only [Act.put, List.setIfInBounds_toArray, List.set_cons_succ, List.set_cons_zero]
  refine alloc_g zero23 rfl ?_
  intro w78 hA hb hl
  try simp only [Act.put, List.setIfInBounds_toArray, List.set_cons_succ, List.set_cons_zero]
  clear hl
  refine store_all (cs := (u8s (zeros 32)).toArray) hA (by simp only [u8s_size, List.size_toArray, List.length_append, List.length_singleton, List.length_map, HZ32.out]) (by rw [u8s_size, HZ32.out]; exact info23) (u8s_one _) rfl rfl rfl ?_
  intro w79 hD hO hlD
  try simp only [Act.put, List.setIfInBounds_toArray, List.set_cons_succ, List.set_cons_zero]
  clear hlD hA
  have hbb : Below w69.heap.size w69 w79 := hb.trans (hO.below hb.size fun k hk => Nat.le_of_eq hk.symm)
  clear hb hO
  have F80 := Lib.hid (F70.out.trans (hbb.mono F70.out.size))
  have F81 := Lib.hid (F71.out.below (Nat.le_refl _) hbb)
  have F82 := Lib.hid (F72.out.below hbb F72.out.lt)
  have F83 := Lib.hid (F73.out.below hbb F73.out.lt)
  have F84 := Lib.hid (F74.out.below hbb F74.out.lt)
  have F85 := Lib.hid (F75.out.below hbb F75.out.lt)
  have F86 := Lib.hid (F76.out.below hbb F76.out.lt)
  have F87 := Lib.hid (F77.out.below hbb F77.out.lt)
  clear F70 F71 F72 F73 F74 F75 F76 F77
  have F88 : Hid (Blk w79 w69.heap.size (u8s (zeros 32))) := Lib.hid hD
  clear hD hbb w78
  generalize w69.heap.size = g89 at *
  clear w69
  refine takeL (.int .i64 1) rfl (by go_simp) ?_
  try simp only [Act.put, List.setIfInBounds_toArray, List.set_cons_succ, List.set_cons_zero]
  refine wpList_nil ?_
  go_upto_region 11 with fail
  refine wp_region_lit ?_
  try simp only [List.append_eq, List.cons_append, List.nil_append]
  refine takeL (.int .i64 1) rfl (by go_simp) ?_
  try simp only [Act.put, List.setIfInBounds_toArray, List.set_cons_succ, List.set_cons_zero]
  refine takeL (.int .i64 1) rfl (by go_simp) ?_
  try simp only [Act.put, List.setIfInBounds_toArray, List.set_cons_succ, List.set_cons_zero]
  refine takeL (.bool false) rfl (by go_simp) ?_
  try simp only [Act.put, List.setIfInBounds_toArray, List.set_cons_succ, List.set_cons_zero]
  refine wpList_nil ?_
  have cx0 := F83.out.cell (i := 0) (v := .int .i64 o) rfl
  have cx1 := F83.out.cell (i := 1) (v := sx) rfl
  rw [HEX.out] at cx1
  have cy0 := F84.out.cell (i := 0) (v := .int .i64 oy) rfl
  have cy1 := F84.out.cell (i := 1) (v := sy) rfl
  rw [HEY.out] at cy1
  go_upto_region 14 with fail
  refine wp_region_lit ?_
  try simp only [List.append_eq, List.cons_append, List.nil_append]
  clear cx0 cx1 cy0 cy1
  refine wpList_op rfl fun K hK => ?_
  go_simp
  refine (wakes_any _ F81.out).mono ?_
  rintro e w90 ⟨rfl, hb⟩
  have F91 := Lib.hid (F80.out.trans (hb.mono F80.out.size))
  have F92 := Lib.hid (F81.out.below (Nat.le_refl _) hb)
  have F93 := Lib.hid (F82.out.below hb F82.out.lt)
  have F94 := Lib.hid (F83.out.below hb F83.out.lt)
  have F95 := Lib.hid (F84.out.below hb F84.out.lt)
  have F96 := Lib.hid (F85.out.below hb F85.out.lt)
  have F97 := Lib.hid (F86.out.below hb F86.out.lt)
  have F98 := Lib.hid (F87.out.below hb F87.out.lt)
  have F99 := Lib.hid (F88.out.below hb F88.out.lt)
  clear F80 F81 F82 F83 F84 F85 F86 F87 F88
  clear hb
  refine hK _ _ ?_
  clear hK K
  try simp only [Act.put, List.setIfInBounds_toArray, List.set_cons_succ, List.set_cons_zero]
  refine takeL (.bool true) rfl (by go_simp) ?_
  try simp only [Act.put, List.setIfInBounds_toArray, List.set_cons_succ, List.set_cons_zero]
  refine wpList_nil ?_
  go_wp2_with fail
  go_ret
  exact ⟨rfl, F91.out⟩
set_option maxRecDepth 100000 in
set_option maxHeartbeats 1000000 in
theorem twice_over (a : List Int) (ha : a.length = 32) (o : Nat) (sx : Value) (x : List Int) (q : Nat) (sy : Value) (y : List Int) (n m : Nat) (hn : x.length = n) (hm : y.length = m) (h : n ≤ 100) (h2 : m ≤ 100) (hf : Fits o x) (hg : Fits q y) (hd : q < o + n) (hd2 : o < q + m) (w : World) (hbx : BytesAt w sx x) (hby : BytesAt w sy y) (hev : ErrVar w) : Calls Tryd.prog 6 #[.agg (u8s a).toArray, .agg #[.int .i64 o, sx], .agg #[.int .i64 q, sy]] w fun e w' => e = .returned (.bool true) ∧ Below w.heap.size w w' := by
  have HZ32 := Lib.hid (zeros_length 32)
  have HA := Lib.hid ha
  have HBX := Lib.hid hbx
  have HBY := Lib.hid hby
  obtain ⟨ax, cx, he, -⟩ := hbx
  have HEX : Hid (sx = .slice ax n cx) := Lib.hid (hn ▸ he)
  have HN := Lib.hid hn
  clear he hn
  obtain ⟨ay, cy, he, -⟩ := hby
  have HEY : Hid (sy = .slice ay m cy) := Lib.hid (hm ▸ he)
  have HM := Lib.hid hm
  clear he hm
  have HBL : Hid (Below w.heap.size w w) := Lib.hid (Below.refl _ _)
  have HEV := Lib.hid hev
  clear hev ha
  have HF := Lib.hid hf
  obtain ⟨p1, hp1⟩ : ∃ p, layI a o x = p := ⟨_, rfl⟩
  have H1 : Hid (p1.length = 32) := Lib.hid (hp1 ▸ lay_size HA.out o hf)
  have H11 : Hid (layI p1 o x = p1) := Lib.hid (hp1 ▸ lay_twice (by rw [HA.out]; have := hf.2.2; omega))
  have HP1 := Lib.hid hp1
  have hf1 : 0 < n := HN.out ▸ hf.2.1
  have hf2 : (o : Int) + n ≤ 32 := HN.out ▸ hf.2.2
  clear hf hp1
  have HG := Lib.hid hg
  have hg1 : 0 < m := HM.out ▸ hg.2.1
  have hg2 : (q : Int) + m ≤ 32 := HM.out ▸ hg.2.2
  obtain ⟨pc, hpc⟩ : ∃ p, layI p1 q y = p := ⟨_, rfl⟩
  have HC : Hid (pc.length = 32) := Lib.hid (hpc ▸ lay_size H1.out q hg)
  have HPC := Lib.hid hpc
  obtain ⟨pd, hpd⟩ : ∃ p, layI a q y = p := ⟨_, rfl⟩
  have HD : Hid (pd.length = 32) := Lib.hid (hpd ▸ lay_size HA.out q hg)
  have HPD := Lib.hid hpd
  clear hg hpc hpd
  go_enter Tryd.func6, Tryd.ntmps6
  go_upto_region 0 with fail
  refine wp_region_lit ?_
  refine box_g (cs := (u8s a).toArray) rfl rfl ?_
  intro w1 hA hb hl
  try simp only [Act.put, List.setIfInBounds_toArray, List.set_cons_succ, List.set_cons_zero]
  clear hl
  have F2 := Lib.hid (HBL.out.trans (hb.mono HBL.out.size))
  have F3 := Lib.hid (HEV.out.below (Nat.le_refl _) hb)
  clear HBL HEV
  have F4 : Hid (Blk w1 w.heap.size (u8s a)) := Lib.hid hA
  clear hA hb
  refine box_g (cs := #[.int .i64 o, sx]) rfl rfl ?_
  intro w5 hA hb hl
  try simp only [Act.put, List.setIfInBounds_toArray, List.set_cons_succ, List.set_cons_zero]
  clear hl
  have F6 := Lib.hid (F2.out.trans (hb.mono F2.out.size))
  have F7 := Lib.hid (F3.out.below (Nat.le_refl _) hb)
  have F8 := Lib.hid (F4.out.below hb F4.out.lt)
  clear F2 F3 F4
  have F9 : Hid (Blk w5 w1.heap.size [.int .i64 o, sx]) := Lib.hid hA
  clear hA hb
  generalize w1.heap.size = g10 at *
  clear w1
  refine box_g (cs := #[.int .i64 q, sy]) rfl rfl ?_
  intro w11 hA hb hl
  try simp only [Act.put, List.setIfInBounds_toArray, List.set_cons_succ, List.set_cons_zero]
  clear hl
  have F12 := Lib.hid (F6.out.trans (hb.mono F6.out.size))
  have F13 := Lib.hid (F7.out.below (Nat.le_refl _) hb)
  have F14 := Lib.hid (F8.out.below hb F8.out.lt)
  have F15 := Lib.hid (F9.out.below hb F9.out.lt)
  clear F6 F7 F8 F9
  have F16 : Hid (Blk w11 w5.heap.size [.int .i64 q, sy]) := Lib.hid hA
  clear hA hb
  generalize w5.heap.size = g17 at *
  clear w5
  refine takeL (.bool false) rfl (by go_simp) ?_
  try simp only [Act.put, List.setIfInBounds_toArray, List.set_cons_succ, List.set_cons_zero]
  refine wpList_nil ?_
  go_upto_region 1 with fail
  refine wp_region_lit ?_
  try simp only [List.append_eq, List.cons_append, List.nil_append]
  refine takeL (.pointer (some ⟨g10, 1, none⟩)) rfl (by go_simp) ?_
  try simp only [Act.put, List.setIfInBounds_toArray, List.set_cons_succ, List.set_cons_zero]
  refine takeL (sx) rfl (by have hq := F15.out.cell (i := 1) (v := sx) rfl; go_simp) ?_
  try simp only [Act.put, List.setIfInBounds_toArray, List.set_cons_succ, List.set_cons_zero]
  refine takeL (.int .i64 n) rfl (by have hq := HEX.out; rw [hq]; go_simp) ?_
  try simp only [Act.put, List.setIfInBounds_toArray, List.set_cons_succ, List.set_cons_zero]
  refine takeL (.bool false) rfl (by go_simp <;> omega) ?_
  try simp only [Act.put, List.setIfInBounds_toArray, List.set_cons_succ, List.set_cons_zero]
  refine takeL (.bool false) rfl (by go_simp) ?_
  try simp only [Act.put, List.setIfInBounds_toArray, List.set_cons_succ, List.set_cons_zero]
  refine takeL (.pointer (some ⟨g17, 1, none⟩)) rfl (by go_simp) ?_
  try simp only [Act.put, List.setIfInBounds_toArray, List.set_cons_succ, List.set_cons_zero]
  refine takeL (sy) rfl (by have hq := F16.out.cell (i := 1) (v := sy) rfl; go_simp) ?_
  try simp only [Act.put, List.setIfInBounds_toArray, List.set_cons_succ, List.set_cons_zero]
  refine takeL (.int .i64 m) rfl (by have hq := HEY.out; rw [hq]; go_simp) ?_
  try simp only [Act.put, List.setIfInBounds_toArray, List.set_cons_succ, List.set_cons_zero]
  refine takeL (.bool false) rfl (by go_simp <;> omega) ?_
  try simp only [Act.put, List.setIfInBounds_toArray, List.set_cons_succ, List.set_cons_zero]
  refine takeL (.bool false) rfl (by go_simp) ?_
  try simp only [Act.put, List.setIfInBounds_toArray, List.set_cons_succ, List.set_cons_zero]
  refine wpList_nil ?_
  go_upto_region 3 with fail
  refine wp_region_lit ?_
  try simp only [List.append_eq, List.cons_append, List.nil_append]
  refine load23 (cs := (u8s a).toArray) (Blk.all F14.out rfl) (by rw [u8s_size, HA.out]) rfl rfl ?_
  try simp only [Act.put, List.setIfInBounds_toArray, List.set_cons_succ, List.set_cons_zero]
  refine takeL (.pointer (some ⟨g10, 0, none⟩)) rfl (by go_simp) ?_
  try simp only [Act.put, List.setIfInBounds_toArray, List.set_cons_succ, List.set_cons_zero]
  refine takeL (.int .i64 o) rfl (by have hq := F15.out.cell (i := 0) (v := .int .i64 o) rfl; go_simp) ?_
  try simp only [Act.put, List.setIfInBounds_toArray, List.set_cons_succ, List.set_cons_zero]
  refine takeL (.pointer (some ⟨g10, 1, none⟩)) rfl (by go_simp) ?_
  try simp only [Act.put, List.setIfInBounds_toArray, List.set_cons_succ, List.set_cons_zero]
  refine takeL (sx) rfl (by have hq := F15.out.cell (i := 1) (v := sx) rfl; go_simp) ?_
  try simp only [Act.put, List.setIfInBounds_toArray, List.set_cons_succ, List.set_cons_zero]
  refine wpList_op rfl fun K hK => ?_
  go_simp
  refine (apply_as HP1.out HA.out _ (by rw [HN.out]; omega) HF.out _ (HBX.out.below F12.out) F13.out).mono ?_
  rintro e w18 ⟨rfl, hb⟩
  have F19 := Lib.hid (F12.out.trans (hb.mono F12.out.size))
  have F20 := Lib.hid (F13.out.below (Nat.le_refl _) hb)
  have F21 := Lib.hid (F14.out.below hb F14.out.lt)
  have F22 := Lib.hid (F15.out.below hb F15.out.lt)
  have F23 := Lib.hid (F16.out.below hb F16.out.lt)
  clear F12 F13 F14 F15 F16
  clear hb
  refine hK _ _ ?_
  clear hK K
  try simp only [Act.put, List.setIfInBounds_toArray, List.set_cons_succ, List.set_cons_zero]
  refine takeL (.tuple #[.agg (u8s p1).toArray, .int .i64 0]) rfl (by go_simp) ?_
  try simp only [Act.put, List.setIfInBounds_toArray, List.set_cons_succ, List.set_cons_zero]
  refine takeL (.agg (u8s p1).toArray) rfl (by go_simp) ?_
  try simp only [Act.put, List.setIfInBounds_toArray, List.set_cons_succ, List.set_cons_zero]
  refine takeL (.int .i64 0) rfl (by go_simp) ?_
  try simp only [Act.put, List.setIfInBounds_toArray, List.set_cons_succ, List.set_cons_zero]
  refine alloc_g zero23 rfl ?_
  intro w24 hA hb hl
  try simp only [Act.put, List.setIfInBounds_toArray, List.set_cons_succ, List.set_cons_zero]
  clear hl
  refine store_all (cs := (u8s p1).toArray) hA (by simp only [u8s_size, List.size_toArray, List.length_append, List.length_singleton, List.length_map, H1.out, HZ32.out]) (by rw [u8s_size, H1.out]; exact info23) (u8s_one _) rfl rfl rfl ?_
  intro w25 hD hO hlD
  try simp only [Act.put, List.setIfInBounds_toArray, List.set_cons_succ, List.set_cons_zero]
  clear hlD hA
  have hbb : Below w18.heap.size w18 w25 := hb.trans (hO.below hb.size fun k hk => Nat.le_of_eq hk.symm)
  clear hb hO
  have F26 := Lib.hid (F19.out.trans (hbb.mono F19.out.size))
  have F27 := Lib.hid (F20.out.below (Nat.le_refl _) hbb)
  have F28 := Lib.hid (F21.out.below hbb F21.out.lt)
  have F29 := Lib.hid (F22.out.below hbb F22.out.lt)
  have F30 := Lib.hid (F23.out.below hbb F23.out.lt)
  clear F19 F20 F21 F22 F23
  have F31 : Hid (Blk w25 w18.heap.size (u8s p1)) := Lib.hid hD
  clear hD hbb w24
  generalize w18.heap.size = g32 at *
  clear w18
  refine takeL (.int .i64 0) rfl (by go_simp) ?_
  try simp only [Act.put, List.setIfInBounds_toArray, List.set_cons_succ, List.set_cons_zero]
  refine wpList_nil ?_
  go_upto_region 4 with fail
  refine wp_region_lit ?_
  try simp only [List.append_eq, List.cons_append, List.nil_append]
  refine takeL (.int .i64 0) rfl (by go_simp) ?_
  try simp only [Act.put, List.setIfInBounds_toArray, List.set_cons_succ, List.set_cons_zero]
  refine takeL (.bool false) rfl (by go_simp) ?_
  try simp only [Act.put, List.setIfInBounds_toArray, List.set_cons_succ, List.set_cons_zero]
  refine wpList_nil ?_
  go_upto_region 6 with fail
  refine wp_region_lit ?_
  try simp only [List.append_eq, List.cons_append, List.nil_append]
  refine load23 (cs := (u8s p1).toArray) (Blk.all F31.out rfl) (by rw [u8s_size, H1.out]) rfl rfl ?_
  try simp only [Act.put, List.setIfInBounds_toArray, List.set_cons_succ, List.set_cons_zero]
  refine takeL (.pointer (some ⟨g10, 0, none⟩)) rfl (by go_simp) ?_
  try simp only [Act.put, List.setIfInBounds_toArray, List.set_cons_succ, List.set_cons_zero]
  refine takeL (.int .i64 o) rfl (by have hq := F29.out.cell (i := 0) (v := .int .i64 o) rfl; go_simp) ?_
  try simp only [Act.put, List.setIfInBounds_toArray, List.set_cons_succ, List.set_cons_zero]
  refine takeL (.pointer (some ⟨g10, 1, none⟩)) rfl (by go_simp) ?_
  try simp only [Act.put, List.setIfInBounds_toArray, List.set_cons_succ, List.set_cons_zero]
  refine takeL (sx) rfl (by have hq := F29.out.cell (i := 1) (v := sx) rfl; go_simp) ?_
  try simp only [Act.put, List.setIfInBounds_toArray, List.set_cons_succ, List.set_cons_zero]
  refine wpList_op rfl fun K hK => ?_
  go_simp
  refine (apply_as H11.out H1.out _ (by rw [HN.out]; omega) HF.out _ (HBX.out.below F26.out) F27.out).mono ?_
  rintro e w33 ⟨rfl, hb⟩
  have F34 := Lib.hid (F26.out.trans (hb.mono F26.out.size))
  have F35 := Lib.hid (F27.out.below (Nat.le_refl _) hb)
  have F36 := Lib.hid (F28.out.below hb F28.out.lt)
  have F37 := Lib.hid (F29.out.below hb F29.out.lt)
  have F38 := Lib.hid (F30.out.below hb F30.out.lt)
  have F39 := Lib.hid (F31.out.below hb F31.out.lt)
  clear F26 F27 F28 F29 F30 F31
  clear hb
  refine hK _ _ ?_
  clear hK K
  try simp only [Act.put, List.setIfInBounds_toArray, List.set_cons_succ, List.set_cons_zero]
  refine takeL (.tuple #[.agg (u8s p1).toArray, .int .i64 0]) rfl (by go_simp) ?_
  try simp only [Act.put, List.setIfInBounds_toArray, List.set_cons_succ, List.set_cons_zero]
  refine takeL (.agg (u8s p1).toArray) rfl (by go_simp) ?_
  try simp only [Act.put, List.setIfInBounds_toArray, List.set_cons_succ, List.set_cons_zero]
  refine takeL (.int .i64 0) rfl (by go_simp) ?_
  try simp only [Act.put, List.setIfInBounds_toArray, List.set_cons_succ, List.set_cons_zero]
  refine alloc_g zero23 rfl ?_
  intro w40 hA hb hl
  try simp only [Act.put, List.setIfInBounds_toArray, List.set_cons_succ, List.set_cons_zero]
  clear hl
  refine store_all (cs := (u8s p1).toArray) hA (by simp only [u8s_size, List.size_toArray, List.length_append, List.length_singleton, List.length_map, H1.out, HZ32.out]) (by rw [u8s_size, H1.out]; exact info23) (u8s_one _) rfl rfl rfl ?_
  intro w41 hD hO hlD
  try simp only [Act.put, List.setIfInBounds_toArray, List.set_cons_succ, List.set_cons_zero]
  clear hlD hA
  have hbb : Below w33.heap.size w33 w41 := hb.trans (hO.below hb.size fun k hk => Nat.le_of_eq hk.symm)
  clear hb hO
  have F42 := Lib.hid (F34.out.trans (hbb.mono F34.out.size))
  have F43 := Lib.hid (F35.out.below (Nat.le_refl _) hbb)
  have F44 := Lib.hid (F36.out.below hbb F36.out.lt)
  have F45 := Lib.hid (F37.out.below hbb F37.out.lt)
  have F46 := Lib.hid (F38.out.below hbb F38.out.lt)
  have F47 := Lib.hid (F39.out.below hbb F39.out.lt)
  clear F34 F35 F36 F37 F38 F39
  have F48 : Hid (Blk w41 w33.heap.size (u8s p1)) := Lib.hid hD
  clear hD hbb w40
  generalize w33.heap.size = g49 at *
  clear w33
  refine takeL (.int .i64 0) rfl (by go_simp) ?_
  try simp only [Act.put, List.setIfInBounds_toArray, List.set_cons_succ, List.set_cons_zero]
  refine wpList_nil ?_
  go_upto_region 7 with fail
  refine wp_region_lit ?_
  try simp only [List.append_eq, List.cons_append, List.nil_append]
  refine takeL (.int .i64 0) rfl (by go_simp) ?_
  try simp only [Act.put, List.setIfInBounds_toArray, List.set_cons_succ, List.set_cons_zero]
  refine takeL (.bool false) rfl (by go_simp) ?_
  try simp only [Act.put, List.setIfInBounds_toArray, List.set_cons_succ, List.set_cons_zero]
  refine takeL (.bool false) rfl (by go_simp) ?_
  try simp only [Act.put, List.setIfInBounds_toArray, List.set_cons_succ, List.set_cons_zero]
  refine load23 (cs := (u8s p1).toArray) (Blk.all F47.out rfl) (by rw [u8s_size, H1.out]) rfl rfl ?_
  try simp only [Act.put, List.setIfInBounds_toArray, List.set_cons_succ, List.set_cons_zero]
  refine load23 (cs := (u8s p1).toArray) (Blk.all F48.out rfl) (by rw [u8s_size, H1.out]) rfl rfl ?_
  try simp only [Act.put, List.setIfInBounds_toArray, List.set_cons_succ, List.set_cons_zero]
  refine takeL (.bool false) rfl (by exact exec_pageN (decide_eq_true rfl) H1.out H1.out _ _ _ rfl rfl rfl) ?_
  try simp only [Act.put, List.setIfInBounds_toArray, List.set_cons_succ, List.set_cons_zero]
  refine takeL (.bool false) rfl (by go_simp) ?_
  try simp only [Act.put, List.setIfInBounds_toArray, List.set_cons_succ, List.set_cons_zero]
  refine wpList_nil ?_
  go_upto_region 9 with fail
  refine wp_region_lit ?_
  try simp only [List.append_eq, List.cons_append, List.nil_append]
  refine load23 (cs := (u8s p1).toArray) (Blk.all F47.out rfl) (by rw [u8s_size, H1.out]) rfl rfl ?_
  try simp only [Act.put, List.setIfInBounds_toArray, List.set_cons_succ, List.set_cons_zero]
  refine takeL (.pointer (some ⟨g17, 0, none⟩)) rfl (by go_simp) ?_
  try simp only [Act.put, List.setIfInBounds_toArray, List.set_cons_succ, List.set_cons_zero]
  refine takeL (.int .i64 q) rfl (by have hq := F46.out.cell (i := 0) (v := .int .i64 q) rfl; go_simp) ?_
  try simp only [Act.put, List.setIfInBounds_toArray, List.set_cons_succ, List.set_cons_zero]
  refine takeL (.pointer (some ⟨g17, 1, none⟩)) rfl (by go_simp) ?_
  try simp only [Act.put, List.setIfInBounds_toArray, List.set_cons_succ, List.set_cons_zero]
  refine takeL (sy) rfl (by have hq := F46.out.cell (i := 1) (v := sy) rfl; go_simp) ?_
  try simp only [Act.put, List.setIfInBounds_toArray, List.set_cons_succ, List.set_cons_zero]
  refine wpList_op rfl fun K hK => ?_
  go_simp
  refine (apply_as HPC.out H1.out _ (by rw [HM.out]; omega) HG.out _ (HBY.out.below F42.out) F43.out).mono ?_
  rintro e w50 ⟨rfl, hb⟩
  have F51 := Lib.hid (F42.out.trans (hb.mono F42.out.size))
  have F52 := Lib.hid (F43.out.below (Nat.le_refl _) hb)
  have F53 := Lib.hid (F44.out.below hb F44.out.lt)
  have F54 := Lib.hid (F45.out.below hb F45.out.lt)
  have F55 := Lib.hid (F46.out.below hb F46.out.lt)
  have F56 := Lib.hid (F47.out.below hb F47.out.lt)
  have F57 := Lib.hid (F48.out.below hb F48.out.lt)
  clear F42 F43 F44 F45 F46 F47 F48
  clear hb
  refine hK _ _ ?_
  clear hK K
  try simp only [Act.put, List.setIfInBounds_toArray, List.set_cons_succ, List.set_cons_zero]
  refine takeL (.tuple #[.agg (u8s pc).toArray, .int .i64 0]) rfl (by go_simp) ?_
  try simp only [Act.put, List.setIfInBounds_toArray, List.set_cons_succ, List.set_cons_zero]
  refine takeL (.agg (u8s pc).toArray) rfl (by go_simp) ?_
  try simp only [Act.put, List.setIfInBounds_toArray, List.set_cons_succ, List.set_cons_zero]
  refine takeL (.int .i64 0) rfl (by go_simp) ?_
  try simp only [Act.put, List.setIfInBounds_toArray, List.set_cons_succ, List.set_cons_zero]
  refine alloc_g zero23 rfl ?_
  intro w58 hA hb hl
  try simp only [Act.put, List.setIfInBounds_toArray, List.set_cons_succ, List.set_cons_zero]
  clear hl
  refine store_all (cs := (u8s pc).toArray) hA (by simp only [u8s_size, List.size_toArray, List.length_append, List.length_singleton, List.length_map, HC.out, HZ32.out]) (by rw [u8s_size, HC.out]; exact info23) (u8s_one _) rfl rfl rfl ?_
  intro w59 hD hO hlD
  try simp only [Act.put, List.setIfInBounds_toArray, List.set_cons_succ, List.set_cons_zero]
  clear hlD hA
  have hbb : Below w50.heap.size w50 w59 := hb.trans (hO.below hb.size fun k hk => Nat.le_of_eq hk.symm)
  clear hb hO
  have F60 := Lib.hid (F51.out.trans (hbb.mono F51.out.size))
  have F61 := Lib.hid (F52.out.below (Nat.le_refl _) hbb)
  have F62 := Lib.hid (F53.out.below hbb F53.out.lt)
  have F63 := Lib.hid (F54.out.below hbb F54.out.lt)
  have F64 := Lib.hid (F55.out.below hbb F55.out.lt)
  have F65 := Lib.hid (F56.out.below hbb F56.out.lt)
  have F66 := Lib.hid (F57.out.below hbb F57.out.lt)
  clear F51 F52 F53 F54 F55 F56 F57
  have F67 : Hid (Blk w59 w50.heap.size (u8s pc)) := Lib.hid hD
  clear hD hbb w58
  generalize w50.heap.size = g68 at *
  clear w50
  refine takeL (.int .i64 0) rfl (by go_simp) ?_
  try simp only [Act.put, List.setIfInBounds_toArray, List.set_cons_succ, List.set_cons_zero]
  refine wpList_nil ?_
  go_upto_region 10 with fail
  refine wp_region_lit ?_
  try simp only [List.append_eq, List.cons_append, List.nil_append]
  refine load23 (cs := (u8s a).toArray) (Blk.all F62.out rfl) (by rw [u8s_size, HA.out]) rfl rfl ?_
  try simp only [Act.put, List.setIfInBounds_toArray, List.set_cons_succ, List.set_cons_zero]
  refine takeL (.pointer (some ⟨g17, 0, none⟩)) rfl (by go_simp) ?_
  try simp only [Act.put, List.setIfInBounds_toArray, List.set_cons_succ, List.set_cons_zero]
  refine takeL (.int .i64 q) rfl (by have hq := F64.out.cell (i := 0) (v := .int .i64 q) rfl; go_simp) ?_
  try simp only [Act.put, List.setIfInBounds_toArray, List.set_cons_succ, List.set_cons_zero]
  refine takeL (.pointer (some ⟨g17, 1, none⟩)) rfl (by go_simp) ?_
  try simp only [Act.put, List.setIfInBounds_toArray, List.set_cons_succ, List.set_cons_zero]
  refine takeL (sy) rfl (by have hq := F64.out.cell (i := 1) (v := sy) rfl; go_simp) ?_
  try simp only [Act.put, List.setIfInBounds_toArray, List.set_cons_succ, List.set_cons_zero]
  refine wpList_op rfl fun K hK => ?_
  go_simp
  refine (apply_as HPD.out HA.out _ (by rw [HM.out]; omega) HG.out _ (HBY.out.below F60.out) F61.out).mono ?_
  rintro e w69 ⟨rfl, hb⟩
  have F70 := Lib.hid (F60.out.trans (hb.mono F60.out.size))
  have F71 := Lib.hid (F61.out.below (Nat.le_refl _) hb)
  have F72 := Lib.hid (F62.out.below hb F62.out.lt)
  have F73 := Lib.hid (F63.out.below hb F63.out.lt)
  have F74 := Lib.hid (F64.out.below hb F64.out.lt)
  have F75 := Lib.hid (F65.out.below hb F65.out.lt)
  have F76 := Lib.hid (F66.out.below hb F66.out.lt)
  have F77 := Lib.hid (F67.out.below hb F67.out.lt)
  clear F60 F61 F62 F63 F64 F65 F66 F67
  clear hb
  refine hK _ _ ?_
  clear hK K
  try simp only [Act.put, List.setIfInBounds_toArray, List.set_cons_succ, List.set_cons_zero]
  refine takeL (.tuple #[.agg (u8s pd).toArray, .int .i64 0]) rfl (by go_simp) ?_
  try simp only [Act.put, List.setIfInBounds_toArray, List.set_cons_succ, List.set_cons_zero]
  refine takeL (.agg (u8s pd).toArray) rfl (by go_simp) ?_
  try simp only [Act.put, List.setIfInBounds_toArray, List.set_cons_succ, List.set_cons_zero]
  refine takeL (.int .i64 0) rfl (by go_simp) ?_
  try simp only [Act.put, List.setIfInBounds_toArray, List.set_cons_succ, List.set_cons_zero]
  refine alloc_g zero23 rfl ?_
  intro w78 hA hb hl
  try simp only [Act.put, List.setIfInBounds_toArray, List.set_cons_succ, List.set_cons_zero]
  clear hl
  refine store_all (cs := (u8s pd).toArray) hA (by simp only [u8s_size, List.size_toArray, List.length_append, List.length_singleton, List.length_map, HD.out, HZ32.out]) (by rw [u8s_size, HD.out]; exact info23) (u8s_one _) rfl rfl rfl ?_
  intro w79 hD hO hlD
  try simp only [Act.put, List.setIfInBounds_toArray, List.set_cons_succ, List.set_cons_zero]
  clear hlD hA
  have hbb : Below w69.heap.size w69 w79 := hb.trans (hO.below hb.size fun k hk => Nat.le_of_eq hk.symm)
  clear hb hO
  have F80 := Lib.hid (F70.out.trans (hbb.mono F70.out.size))
  have F81 := Lib.hid (F71.out.below (Nat.le_refl _) hbb)
  have F82 := Lib.hid (F72.out.below hbb F72.out.lt)
  have F83 := Lib.hid (F73.out.below hbb F73.out.lt)
  have F84 := Lib.hid (F74.out.below hbb F74.out.lt)
  have F85 := Lib.hid (F75.out.below hbb F75.out.lt)
  have F86 := Lib.hid (F76.out.below hbb F76.out.lt)
  have F87 := Lib.hid (F77.out.below hbb F77.out.lt)
  clear F70 F71 F72 F73 F74 F75 F76 F77
  have F88 : Hid (Blk w79 w69.heap.size (u8s pd)) := Lib.hid hD
  clear hD hbb w78
  generalize w69.heap.size = g89 at *
  clear w69
  refine takeL (.int .i64 0) rfl (by go_simp) ?_
  try simp only [Act.put, List.setIfInBounds_toArray, List.set_cons_succ, List.set_cons_zero]
  refine wpList_nil ?_
  go_upto_region 11 with fail
  refine wp_region_lit ?_
  try simp only [List.append_eq, List.cons_append, List.nil_append]
  refine takeL (.int .i64 0) rfl (by go_simp) ?_
  try simp only [Act.put, List.setIfInBounds_toArray, List.set_cons_succ, List.set_cons_zero]
  refine takeL (.int .i64 0) rfl (by go_simp) ?_
  try simp only [Act.put, List.setIfInBounds_toArray, List.set_cons_succ, List.set_cons_zero]
  refine takeL (.bool false) rfl (by go_simp) ?_
  try simp only [Act.put, List.setIfInBounds_toArray, List.set_cons_succ, List.set_cons_zero]
  refine wpList_nil ?_
  have cx0 := F83.out.cell (i := 0) (v := .int .i64 o) rfl
  have cx1 := F83.out.cell (i := 1) (v := sx) rfl
  rw [HEX.out] at cx1
  have cy0 := F84.out.cell (i := 0) (v := .int .i64 q) rfl
  have cy1 := F84.out.cell (i := 1) (v := sy) rfl
  rw [HEY.out] at cy1
  have w1 : IntKind.i64.wrap ((o : Int) + n) = (o : Int) + n := wrap64 (by omega) (by omega)
  have w2 : IntKind.i64.wrap ((q : Int) + m) = (q : Int) + m := wrap64 (by omega) (by omega)
  have d1 : decide ((q : Int) < (o : Int) + n) = true := decide_eq_true (by omega)
  have e1 : (q : Int) < (o : Int) + n := by omega
  have d2 : decide ((o : Int) < (q : Int) + m) = true := decide_eq_true (by omega)
  have e2 : (o : Int) < (q : Int) + m := by omega
  go_upto_region 14 with fail
  refine wp_region_lit ?_
  try simp only [List.append_eq, List.cons_append, List.nil_append]
  clear cx0 cx1 cy0 cy1 w1 w2 d1 e1 d2 e2
  refine wpList_op rfl fun K hK => ?_
  go_simp
  refine (wakes_any _ F81.out).mono ?_
  rintro e w90 ⟨rfl, hb⟩
  have F91 := Lib.hid (F80.out.trans (hb.mono F80.out.size))
  have F92 := Lib.hid (F81.out.below (Nat.le_refl _) hb)
  have F93 := Lib.hid (F82.out.below hb F82.out.lt)
  have F94 := Lib.hid (F83.out.below hb F83.out.lt)
  have F95 := Lib.hid (F84.out.below hb F84.out.lt)
  have F96 := Lib.hid (F85.out.below hb F85.out.lt)
  have F97 := Lib.hid (F86.out.below hb F86.out.lt)
  have F98 := Lib.hid (F87.out.below hb F87.out.lt)
  have F99 := Lib.hid (F88.out.below hb F88.out.lt)
  clear F80 F81 F82 F83 F84 F85 F86 F87 F88
  clear hb
  refine hK _ _ ?_
  clear hK K
  try simp only [Act.put, List.setIfInBounds_toArray, List.set_cons_succ, List.set_cons_zero]
  refine takeL (.bool true) rfl (by go_simp) ?_
  try simp only [Act.put, List.setIfInBounds_toArray, List.set_cons_succ, List.set_cons_zero]
  refine wpList_nil ?_
  go_wp2_with fail
  go_ret
  exact ⟨rfl, F91.out⟩
set_option maxRecDepth 100000 in
set_option maxHeartbeats 1000000 in
theorem twice_ahead (a : List Int) (ha : a.length = 32) (o : Nat) (sx : Value) (x : List Int) (q : Nat) (sy : Value) (y : List Int) (n m : Nat) (hn : x.length = n) (hm : y.length = m) (h : n ≤ 100) (h2 : m ≤ 100) (hf : Fits o x) (hg : Fits q y) (hd : o + n ≤ q) (w : World) (hbx : BytesAt w sx x) (hby : BytesAt w sy y) (hev : ErrVar w) : Calls Tryd.prog 6 #[.agg (u8s a).toArray, .agg #[.int .i64 o, sx], .agg #[.int .i64 q, sy]] w fun e w' => e = .returned (.bool true) ∧ Below w.heap.size w w' := by
  have HZ32 := Lib.hid (zeros_length 32)
  have HA := Lib.hid ha
  have HBX := Lib.hid hbx
  have HBY := Lib.hid hby
  obtain ⟨ax, cx, he, -⟩ := hbx
  have HEX : Hid (sx = .slice ax n cx) := Lib.hid (hn ▸ he)
  have HN := Lib.hid hn
  clear he hn
  obtain ⟨ay, cy, he, -⟩ := hby
  have HEY : Hid (sy = .slice ay m cy) := Lib.hid (hm ▸ he)
  have HM := Lib.hid hm
  clear he hm
  have HBL : Hid (Below w.heap.size w w) := Lib.hid (Below.refl _ _)
  have HEV := Lib.hid hev
  clear hev ha
  have HF := Lib.hid hf
  obtain ⟨p1, hp1⟩ : ∃ p, layI a o x = p := ⟨_, rfl⟩
  have H1 : Hid (p1.length = 32) := Lib.hid (hp1 ▸ lay_size HA.out o hf)
  have H11 : Hid (layI p1 o x = p1) := Lib.hid (hp1 ▸ lay_twice (by rw [HA.out]; have := hf.2.2; omega))
  have HP1 := Lib.hid hp1
  have hf1 : 0 < n := HN.out ▸ hf.2.1
  have hf2 : (o : Int) + n ≤ 32 := HN.out ▸ hf.2.2
  clear hf hp1
  have HG := Lib.hid hg
  have hg1 : 0 < m := HM.out ▸ hg.2.1
  have hg2 : (q : Int) + m ≤ 32 := HM.out ▸ hg.2.2
  obtain ⟨pc, hpc⟩ : ∃ p, layI p1 q y = p := ⟨_, rfl⟩
  have HC : Hid (pc.length = 32) := Lib.hid (hpc ▸ lay_size H1.out q hg)
  have HPC := Lib.hid hpc
  obtain ⟨pd, hpd⟩ : ∃ p, layI a q y = p := ⟨_, rfl⟩
  have HD : Hid (pd.length = 32) := Lib.hid (hpd ▸ lay_size HA.out q hg)
  have HPD := Lib.hid hpd
  clear hg hpc hpd
  have HSW : Hid (layI pd o x = pc) := Lib.hid (by rw [← HPD.out, ← HPC.out, ← HP1.out]; exact lay_swap (by rw [HA.out, HN.out]; omega) (by rw [HA.out, HM.out]; omega) (by rw [HN.out, HM.out]; omega))
  go_enter Tryd.func6, Tryd.ntmps6
  go_upto_region 0 with fail
  refine wp_region_lit ?_
  refine box_g (cs := (u8s a).toArray) rfl rfl ?_
  intro w1 hA hb hl
  try simp only [Act.put, List.setIfInBounds_toArray, List.set_cons_succ, List.set_cons_zero]
  clear hl
  have F2 := Lib.hid (HBL.out.trans (hb.mono HBL.out.size))
  have F3 := Lib.hid (HEV.out.below (Nat.le_refl _) hb)
  clear HBL HEV
  have F4 : Hid (Blk w1 w.heap.size (u8s a)) := Lib.hid hA
  clear hA hb
  refine box_g (cs := #[.int .i64 o, sx]) rfl rfl ?_
  intro w5 hA hb hl
  try simp only [Act.put, List.setIfInBounds_toArray, List.set_cons_succ, List.set_cons_zero]
  clear hl
  have F6 := Lib.hid (F2.out.trans (hb.mono F2.out.size))
  have F7 := Lib.hid (F3.out.below (Nat.le_refl _) hb)
  have F8 := Lib.hid (F4.out.below hb F4.out.lt)
  clear F2 F3 F4
  have F9 : Hid (Blk w5 w1.heap.size [.int .i64 o, sx]) := Lib.hid hA
  clear hA hb
  generalize w1.heap.size = g10 at *
  clear w1
  refine box_g (cs := #[.int .i64 q, sy]) rfl rfl ?_
  intro w11 hA hb hl
  try simp only [Act.put, List.setIfInBounds_toArray, List.set_cons_succ, List.set_cons_zero]
  clear hl
  have F12 := Lib.hid (F6.out.trans (hb.mono F6.out.size))
  have F13 := Lib.hid (F7.out.below (Nat.le_refl _) hb)
  have F14 := Lib.hid (F8.out.below hb F8.out.lt)
  have F15 := Lib.hid (F9.out.below hb F9.out.lt)
  clear F6 F7 F8 F9
  have F16 : Hid (Blk w11 w5.heap.size [.int .i64 q, sy]) := Lib.hid hA
  clear hA hb
  generalize w5.heap.size = g17 at *
  clear w5
  refine takeL (.bool false) rfl (by go_simp) ?_
  try simp only [Act.put, List.setIfInBounds_toArray, List.set_cons_succ, List.set_cons_zero]
  refine wpList_nil ?_
  go_upto_region 1 with fail
  refine wp_region_lit ?_
  try simp only [List.append_eq, List.cons_append, List.nil_append]
  refine takeL (.pointer (some ⟨g10, 1, none⟩)) rfl (by go_simp) ?_
  try simp only [Act.put, List.setIfInBounds_toArray, List.set_cons_succ, List.set_cons_zero]
  refine takeL (sx) rfl (by have hq := F15.out.cell (i := 1) (v := sx) rfl; go_simp) ?_
  try simp only [Act.put, List.setIfInBounds_toArray, List.set_cons_succ, List.set_cons_zero]
  refine takeL (.int .i64 n) rfl (by have hq := HEX.out; rw [hq]; go_simp) ?_
  try simp only [Act.put, List.setIfInBounds_toArray, List.set_cons_succ, List.set_cons_zero]
  refine takeL (.bool false) rfl (by go_simp <;> omega) ?_
  try simp only [Act.put, List.setIfInBounds_toArray, List.set_cons_succ, List.set_cons_zero]
  refine takeL (.bool false) rfl (by go_simp) ?_
  try simp only [Act.put, List.setIfInBounds_toArray, List.set_cons_succ, List.set_cons_zero]
  refine takeL (.pointer (some ⟨g17, 1, none⟩)) rfl (by go_simp) ?_
  try simp only [Act.put, List.setIfInBounds_toArray, List.set_cons_succ, List.set_cons_zero]
  refine takeL (sy) rfl (by have hq := F16.out.cell (i := 1) (v := sy) rfl; go_simp) ?_
  try simp only [Act.put, List.setIfInBounds_toArray, List.set_cons_succ, List.set_cons_zero]
  refine takeL (.int .i64 m) rfl (by have hq := HEY.out; rw [hq]; go_simp) ?_
  try simp only [Act.put, List.setIfInBounds_toArray, List.set_cons_succ, List.set_cons_zero]
  refine takeL (.bool false) rfl (by go_simp <;> omega) ?_
  try simp only [Act.put, List.setIfInBounds_toArray, List.set_cons_succ, List.set_cons_zero]
  refine takeL (.bool false) rfl (by go_simp) ?_
  try simp only [Act.put, List.setIfInBounds_toArray, List.set_cons_succ, List.set_cons_zero]
  refine wpList_nil ?_
  go_upto_region 3 with fail
  refine wp_region_lit ?_
  try simp only [List.append_eq, List.cons_append, List.nil_append]
  refine load23 (cs := (u8s a).toArray) (Blk.all F14.out rfl) (by rw [u8s_size, HA.out]) rfl rfl ?_
  try simp only [Act.put, List.setIfInBounds_toArray, List.set_cons_succ, List.set_cons_zero]
  refine takeL (.pointer (some ⟨g10, 0, none⟩)) rfl (by go_simp) ?_
  try simp only [Act.put, List.setIfInBounds_toArray, List.set_cons_succ, List.set_cons_zero]
  refine takeL (.int .i64 o) rfl (by have hq := F15.out.cell (i := 0) (v := .int .i64 o) rfl; go_simp) ?_
  try simp only [Act.put, List.setIfInBounds_toArray, List.set_cons_succ, List.set_cons_zero]
  refine takeL (.pointer (some ⟨g10, 1, none⟩)) rfl (by go_simp) ?_
  try simp only [Act.put, List.setIfInBounds_toArray, List.set_cons_succ, List.set_cons_zero]
  refine takeL (sx) rfl (by have hq := F15.out.cell (i := 1) (v := sx) rfl; go_simp) ?_
  try simp only [Act.put, List.setIfInBounds_toArray, List.set_cons_succ, List.set_cons_zero]
  refine wpList_op rfl fun K hK => ?_
  go_simp
  refine (apply_as HP1.out HA.out _ (by rw [HN.out]; omega) HF.out _ (HBX.out.below F12.out) F13.out).mono ?_
  rintro e w18 ⟨rfl, hb⟩
  have F19 := Lib.hid (F12.out.trans (hb.mono F12.out.size))
  have F20 := Lib.hid (F13.out.below (Nat.le_refl _) hb)
  have F21 := Lib.hid (F14.out.below hb F14.out.lt)
  have F22 := Lib.hid (F15.out.below hb F15.out.lt)
  have F23 := Lib.hid (F16.out.below hb F16.out.lt)
  clear F12 F13 F14 F15 F16
  clear hb
  refine hK _ _ ?_
  clear hK K
  try simp only [Act.put, List.setIfInBounds_toArray, List.set_cons_succ, List.set_cons_zero]
  refine takeL (.tuple #[.agg (u8s p1).toArray, .int .i64 0]) rfl (by go_simp) ?_
  try simp only [Act.put, List.setIfInBounds_toArray, List.set_cons_succ, List.set_cons_zero]
  refine takeL (.agg (u8s p1).toArray) rfl (by go_simp) ?_
  try simp only [Act.put, List.setIfInBounds_toArray, List.set_cons_succ, List.set_cons_zero]
  refine takeL (.int .i64 0) rfl (by go_simp) ?_
  try simp only [Act.put, List.setIfInBounds_toArray, List.set_cons_succ, List.set_cons_zero]
  refine alloc_g zero23 rfl ?_
  intro w24 hA hb hl
  try simp only [Act.put, List.setIfInBounds_toArray, List.set_cons_succ, List.set_cons_zero]
  clear hl
  refine store_all (cs := (u8s p1).toArray) hA (by simp only [u8s_size, List.size_toArray, List.length_append, List.length_singleton, List.length_map, H1.out, HZ32.out]) (by rw [u8s_size, H1.out]; exact info23) (u8s_one _) rfl rfl rfl ?_
  intro w25 hD hO hlD
  try simp only [Act.put, List.setIfInBounds_toArray, List.set_cons_succ, List.set_cons_zero]
  clear hlD hA
  have hbb : Below w18.heap.size w18 w25 := hb.trans (hO.below hb.size fun k hk => Nat.le_of_eq hk.symm)
  clear hb hO
  have F26 := Lib.hid (F19.out.trans (hbb.mono F19.out.size))
  have F27 := Lib.hid (F20.out.below (Nat.le_refl _) hbb)
  have F28 := Lib.hid (F21.out.below hbb F21.out.lt)
  have F29 := Lib.hid (F22.out.below hbb F22.out.lt)
  have F30 := Lib.hid (F23.out.below hbb F23.out.lt)
  clear F19 F20 F21 F22 F23
  have F31 : Hid (Blk w25 w18.heap.size (u8s p1)) := Lib.hid hD
  clear hD hbb w24
  generalize w18.heap.size = g32 at *
  clear w18
  refine takeL (.int .i64 0) rfl (by go_simp) ?_
  try simp only [Act.put, List.setIfInBounds_toArray, List.set_cons_succ, List.set_cons_zero]
  refine wpList_nil ?_
  go_upto_region 4 with fail
  refine wp_region_lit ?_
  try simp only [List.append_eq, List.cons_append, List.nil_append]
  refine takeL (.int .i64 0) rfl (by go_simp) ?_
  try simp only [Act.put, List.setIfInBounds_toArray, List.set_cons_succ, List.set_cons_zero]
  refine takeL (.bool false) rfl (by go_simp) ?_
  try simp only [Act.put, List.setIfInBounds_toArray, List.set_cons_succ, List.set_cons_zero]
  refine wpList_nil ?_
  go_upto_region 6 with fail
  refine wp_region_lit ?_
  try simp only [List.append_eq, List.cons_append, List.nil_append]
  refine load23 (cs := (u8s p1).toArray) (Blk.all F31.out rfl) (by rw [u8s_size, H1.out]) rfl rfl ?_
  try simp only [Act.put, List.setIfInBounds_toArray, List.set_cons_succ, List.set_cons_zero]
  refine takeL (.pointer (some ⟨g10, 0, none⟩)) rfl (by go_simp) ?_
  try simp only [Act.put, List.setIfInBounds_toArray, List.set_cons_succ, List.set_cons_zero]
  refine takeL (.int .i64 o) rfl (by have hq := F29.out.cell (i := 0) (v := .int .i64 o) rfl; go_simp) ?_
  try simp only [Act.put, List.setIfInBounds_toArray, List.set_cons_succ, List.set_cons_zero]
  refine takeL (.pointer (some ⟨g10, 1, none⟩)) rfl (by go_simp) ?_
  try simp only [Act.put, List.setIfInBounds_toArray, List.set_cons_succ, List.set_cons_zero]
  refine takeL (sx) rfl (by have hq := F29.out.cell (i := 1) (v := sx) rfl; go_simp) ?_
  try simp only [Act.put, List.setIfInBounds_toArray, List.set_cons_succ, List.set_cons_zero]
  refine wpList_op rfl fun K hK => ?_
  go_simp
  refine (apply_as H11.out H1.out _ (by rw [HN.out]; omega) HF.out _ (HBX.out.below F26.out) F27.out).mono ?_
  rintro e w33 ⟨rfl, hb⟩
  have F34 := Lib.hid (F26.out.trans (hb.mono F26.out.size))
  have F35 := Lib.hid (F27.out.below (Nat.le_refl _) hb)
  have F36 := Lib.hid (F28.out.below hb F28.out.lt)
  have F37 := Lib.hid (F29.out.below hb F29.out.lt)
  have F38 := Lib.hid (F30.out.below hb F30.out.lt)
  have F39 := Lib.hid (F31.out.below hb F31.out.lt)
  clear F26 F27 F28 F29 F30 F31
  clear hb
  refine hK _ _ ?_
  clear hK K
  try simp only [Act.put, List.setIfInBounds_toArray, List.set_cons_succ, List.set_cons_zero]
  refine takeL (.tuple #[.agg (u8s p1).toArray, .int .i64 0]) rfl (by go_simp) ?_
  try simp only [Act.put, List.setIfInBounds_toArray, List.set_cons_succ, List.set_cons_zero]
  refine takeL (.agg (u8s p1).toArray) rfl (by go_simp) ?_
  try simp only [Act.put, List.setIfInBounds_toArray, List.set_cons_succ, List.set_cons_zero]
  refine takeL (.int .i64 0) rfl (by go_simp) ?_
  try simp only [Act.put, List.setIfInBounds_toArray, List.set_cons_succ, List.set_cons_zero]
  refine alloc_g zero23 rfl ?_
  intro w40 hA hb hl
  try simp only [Act.put, List.setIfInBounds_toArray, List.set_cons_succ, List.set_cons_zero]
  clear hl
  refine store_all (cs := (u8s p1).toArray) hA (by simp only [u8s_size, List.size_toArray, List.length_append, List.length_singleton, List.length_map, H1.out, HZ32.out]) (by rw [u8s_size, H1.out]; exact info23) (u8s_one _) rfl rfl rfl ?_
  intro w41 hD hO hlD
  try simp only [Act.put, List.setIfInBounds_toArray, List.set_cons_succ, List.set_cons_zero]
  clear hlD hA
  have hbb : Below w33.heap.size w33 w41 := hb.trans (hO.below hb.size fun k hk => Nat.le_of_eq hk.symm)
  clear hb hO
  have F42 := Lib.hid (F34.out.trans (hbb.mono F34.out.size))
  have F43 := Lib.hid (F35.out.below (Nat.le_refl _) hbb)
  have F44 := Lib.hid (F36.out.below hbb F36.out.lt)
  have F45 := Lib.hid (F37.out.below hbb F37.out.lt)
  have F46 := Lib.hid (F38.out.below hbb F38.out.lt)
  have F47 := Lib.hid (F39.out.below hbb F39.out.lt)
  clear F34 F35 F36 F37 F38 F39
  have F48 : Hid (Blk w41 w33.heap.size (u8s p1)) := Lib.hid hD
  clear hD hbb w40
  generalize w33.heap.size = g49 at *
  clear w33
  refine takeL (.int .i64 0) rfl (by go_simp) ?_
  try simp only [Act.put, List.setIfInBounds_toArray, List.set_cons_succ, List.set_cons_zero]
  refine wpList_nil ?_
  go_upto_region 7 with fail
  refine wp_region_lit ?_
  try simp only [List.append_eq, List.cons_append, List.nil_append]
  refine takeL (.int .i64 0) rfl (by go_simp) ?_
  try simp only [Act.put, List.setIfInBounds_toArray, List.set_cons_succ, List.set_cons_zero]
  refine takeL (.bool false) rfl (by go_simp) ?_
  try simp only [Act.put, List.setIfInBounds_toArray, List.set_cons_succ, List.set_cons_zero]
  refine takeL (.bool false) rfl (by go_simp) ?_
  try simp only [Act.put, List.setIfInBounds_toArray, List.set_cons_succ, List.set_cons_zero]
  refine load23 (cs := (u8s p1).toArray) (Blk.all F47.out rfl) (by rw [u8s_size, H1.out]) rfl rfl ?_
  try simp only [Act.put, List.setIfInBounds_toArray, List.set_cons_succ, List.set_cons_zero]
  refine load23 (cs := (u8s p1).toArray) (Blk.all F48.out rfl) (by rw [u8s_size, H1.out]) rfl rfl ?_
  try simp only [Act.put, List.setIfInBounds_toArray, List.set_cons_succ, List.set_cons_zero]
  refine takeL (.bool false) rfl (by exact exec_pageN (decide_eq_true rfl) H1.out H1.out _ _ _ rfl rfl rfl) ?_
  try simp only [Act.put, List.setIfInBounds_toArray, List.set_cons_succ, List.set_cons_zero]
  refine takeL (.bool false) rfl (by go_simp) ?_
  try simp only [Act.put, List.setIfInBounds_toArray, List.set_cons_succ, List.set_cons_zero]
  refine wpList_nil ?_
  go_upto_region 9 with fail
  refine wp_region_lit ?_
  try simp only [List.append_eq, List.cons_append, List.nil_append]
  refine load23 (cs := (u8s p1).toArray) (Blk.all F47.out rfl) (by rw [u8s_size, H1.out]) rfl rfl ?_
  try simp only [Act.put, List.setIfInBounds_toArray, List.set_cons_succ, List.set_cons_zero]
  refine takeL (.pointer (some ⟨g17, 0, none⟩)) rfl (by go_simp) ?_
  try simp only [Act.put, List.setIfInBounds_toArray, List.set_cons_succ, List.set_cons_zero]
  refine takeL (.int .i64 q) rfl (by have hq := F46.out.cell (i := 0) (v := .int .i64 q) rfl; go_simp) ?_
  try simp only [Act.put, List.setIfInBounds_toArray, List.set_cons_succ, List.set_cons_zero]
  refine takeL (.pointer (some ⟨g17, 1, none⟩)) rfl (by go_simp) ?_
  try simp only [Act.put, List.setIfInBounds_toArray, List.set_cons_succ, List.set_cons_zero]
  refine takeL (sy) rfl (by have hq := F46.out.cell (i := 1) (v := sy) rfl; go_simp) ?_
  try simp only [Act.put, List.setIfInBounds_toArray, List.set_cons_succ, List.set_cons_zero]
  refine wpList_op rfl fun K hK => ?_
  go_simp
  refine (apply_as HPC.out H1.out _ (by rw [HM.out]; omega) HG.out _ (HBY.out.below F42.out) F43.out).mono ?_
  rintro e w50 ⟨rfl, hb⟩
  have F51 := Lib.hid (F42.out.trans (hb.mono F42.out.size))
  have F52 := Lib.hid (F43.out.below (Nat.le_refl _) hb)
  have F53 := Lib.hid (F44.out.below hb F44.out.lt)
  have F54 := Lib.hid (F45.out.below hb F45.out.lt)
  have F55 := Lib.hid (F46.out.below hb F46.out.lt)
  have F56 := Lib.hid (F47.out.below hb F47.out.lt)
  have F57 := Lib.hid (F48.out.below hb F48.out.lt)
  clear F42 F43 F44 F45 F46 F47 F48
  clear hb
  refine hK _ _ ?_
  clear hK K
  try simp only [Act.put, List.setIfInBounds_toArray, List.set_cons_succ, List.set_cons_zero]
  refine takeL (.tuple #[.agg (u8s pc).toArray, .int .i64 0]) rfl (by go_simp) ?_
  try simp only [Act.put, List.setIfInBounds_toArray, List.set_cons_succ, List.set_cons_zero]
  refine takeL (.agg (u8s pc).toArray) rfl (by go_simp) ?_
  try simp only [Act.put, List.setIfInBounds_toArray, List.set_cons_succ, List.set_cons_zero]
  refine takeL (.int .i64 0) rfl (by go_simp) ?_
  try simp only [Act.put, List.setIfInBounds_toArray, List.set_cons_succ, List.set_cons_zero]
  refine alloc_g zero23 rfl ?_
  intro w58 hA hb hl
  try simp only [Act.put, List.setIfInBounds_toArray, List.set_cons_succ, List.set_cons_zero]
  clear hl
  refine store_all (cs := (u8s pc).toArray) hA (by simp only [u8s_size, List.size_toArray, List.length_append, List.length_singleton, List.length_map, HC.out, HZ32.out]) (by rw [u8s_size, HC.out]; exact info23) (u8s_one _) rfl rfl rfl ?_
  intro w59 hD hO hlD
  try simp only [Act.put, List.setIfInBounds_toArray, List.set_cons_succ, List.set_cons_zero]
  clear hlD hA
  have hbb : Below w50.heap.size w50 w59 := hb.trans (hO.below hb.size fun k hk => Nat.le_of_eq hk.symm)
  clear hb hO
  have F60 := Lib.hid (F51.out.trans (hbb.mono F51.out.size))
  have F61 := Lib.hid (F52.out.below (Nat.le_refl _) hbb)
  have F62 := Lib.hid (F53.out.below hbb F53.out.lt)
  have F63 := Lib.hid (F54.out.below hbb F54.out.lt)
  have F64 := Lib.hid (F55.out.below hbb F55.out.lt)
  have F65 := Lib.hid (F56.out.below hbb F56.out.lt)
  have F66 := Lib.hid (F57.out.below hbb F57.out.lt)
  clear F51 F52 F53 F54 F55 F56 F57
  have F67 : Hid (Blk w59 w50.heap.size (u8s pc)) := Lib.hid hD
  clear hD hbb w58
  generalize w50.heap.size = g68 at *
  clear w50
  refine takeL (.int .i64 0) rfl (by go_simp) ?_
  try simp only [Act.put, List.setIfInBounds_toArray, List.set_cons_succ, List.set_cons_zero]
  refine wpList_nil ?_
  go_upto_region 10 with fail
  refine wp_region_lit ?_
  try simp only [List.append_eq, List.cons_append, List.nil_append]
  refine load23 (cs := (u8s a).toArray) (Blk.all F62.out rfl) (by rw [u8s_size, HA.out]) rfl rfl ?_
  try simp only [Act.put, List.setIfInBounds_toArray, List.set_cons_succ, List.set_cons_zero]
  refine takeL (.pointer (some ⟨g17, 0, none⟩)) rfl (by go_simp) ?_
  try simp only [Act.put, List.setIfInBounds_toArray, List.set_cons_succ, List.set_cons_zero]
  refine takeL (.int .i64 q) rfl (by have hq := F64.out.cell (i := 0) (v := .int .i64 q) rfl; go_simp) ?_
  try simp only [Act.put, List.setIfInBounds_toArray, List.set_cons_succ, List.set_cons_zero]
  refine takeL (.pointer (some ⟨g17, 1, none⟩)) rfl (by go_simp) ?_
  try simp only [Act.put, List.setIfInBounds_toArray, List.set_cons_succ, List.set_cons_zero]
  refine takeL (sy) rfl (by have hq := F64.out.cell (i := 1) (v := sy) rfl; go_simp) ?_
  try simp only [Act.put, List.setIfInBounds_toArray, List.set_cons_succ, List.set_cons_zero]
  refine wpList_op rfl fun K hK => ?_
  go_simp
  refine (apply_as HPD.out HA.out _ (by rw [HM.out]; omega) HG.out _ (HBY.out.below F60.out) F61.out).mono ?_
  rintro e w69 ⟨rfl, hb⟩
  have F70 := Lib.hid (F60.out.trans (hb.mono F60.out.size))
  have F71 := Lib.hid (F61.out.below (Nat.le_refl _) hb)
  have F72 := Lib.hid (F62.out.below hb F62.out.lt)
  have F73 := Lib.hid (F63.out.below hb F63.out.lt)
  have F74 := Lib.hid (F64.out.below hb F64.out.lt)
  have F75 := Lib.hid (F65.out.below hb F65.out.lt)
  have F76 := Lib.hid (F66.out.below hb F66.out.lt)
  have F77 := Lib.hid (F67.out.below hb F67.out.lt)
  clear F60 F61 F62 F63 F64 F65 F66 F67
  clear hb
  refine hK _ _ ?_
  clear hK K
  try simp only [Act.put, List.setIfInBounds_toArray, List.set_cons_succ, List.set_cons_zero]
  refine takeL (.tuple #[.agg (u8s pd).toArray, .int .i64 0]) rfl (by go_simp) ?_
  try simp only [Act.put, List.setIfInBounds_toArray, List.set_cons_succ, List.set_cons_zero]
  refine takeL (.agg (u8s pd).toArray) rfl (by go_simp) ?_
  try simp only [Act.put, List.setIfInBounds_toArray, List.set_cons_succ, List.set_cons_zero]
  refine takeL (.int .i64 0) rfl (by go_simp) ?_
  try simp only [Act.put, List.setIfInBounds_toArray, List.set_cons_succ, List.set_cons_zero]
  refine alloc_g zero23 rfl ?_
  intro w78 hA hb hl
  try simp only [Act.put, List.setIfInBounds_toArray, List.set_cons_succ, List.set_cons_zero]
  clear hl
  refine store_all (cs := (u8s pd).toArray) hA (by simp only [u8s_size, List.size_toArray, List.length_append, List.length_singleton, List.length_map, HD.out, HZ32.out]) (by rw [u8s_size, HD.out]; exact info23) (u8s_one _) rfl rfl rfl ?_
  intro w79 hD hO hlD
  try simp only [Act.put, List.setIfInBounds_toArray, List.set_cons_succ, List.set_cons_zero]
  clear hlD hA
  have hbb : Below w69.heap.size w69 w79 := hb.trans (hO.below hb.size fun k hk => Nat.le_of_eq hk.symm)
  clear hb hO
  have F80 := Lib.hid (F70.out.trans (hbb.mono F70.out.size))
  have F81 := Lib.hid (F71.out.below (Nat.le_refl _) hbb)
  have F82 := Lib.hid (F72.out.below hbb F72.out.lt)
  have F83 := Lib.hid (F73.out.below hbb F73.out.lt)
  have F84 := Lib.hid (F74.out.below hbb F74.out.lt)
  have F85 := Lib.hid (F75.out.below hbb F75.out.lt)
  have F86 := Lib.hid (F76.out.below hbb F76.out.lt)
  have F87 := Lib.hid (F77.out.below hbb F77.out.lt)
  clear F70 F71 F72 F73 F74 F75 F76 F77
  have F88 : Hid (Blk w79 w69.heap.size (u8s pd)) := Lib.hid hD
  clear hD hbb w78
  generalize w69.heap.size = g89 at *
  clear w69
  refine takeL (.int .i64 0) rfl (by go_simp) ?_
  try simp only [Act.put, List.setIfInBounds_toArray, List.set_cons_succ, List.set_cons_zero]
  refine wpList_nil ?_
  go_upto_region 11 with fail
  refine wp_region_lit ?_
  try simp only [List.append_eq, List.cons_append, List.nil_append]
  refine takeL (.int .i64 0) rfl (by go_simp) ?_
  try simp only [Act.put, List.setIfInBounds_toArray, List.set_cons_succ, List.set_cons_zero]
  refine takeL (.int .i64 0) rfl (by go_simp) ?_
  try simp only [Act.put, List.setIfInBounds_toArray, List.set_cons_succ, List.set_cons_zero]
  refine takeL (.bool false) rfl (by go_simp) ?_
  try simp only [Act.put, List.setIfInBounds_toArray, List.set_cons_succ, List.set_cons_zero]
  refine wpList_nil ?_
  have cx0 := F83.out.cell (i := 0) (v := .int .i64 o) rfl
  have cx1 := F83.out.cell (i := 1) (v := sx) rfl
  rw [HEX.out] at cx1
  have cy0 := F84.out.cell (i := 0) (v := .int .i64 q) rfl
  have cy1 := F84.out.cell (i := 1) (v := sy) rfl
  rw [HEY.out] at cy1
  have w1 : IntKind.i64.wrap ((o : Int) + n) = (o : Int) + n := wrap64 (by omega) (by omega)
  have w2 : IntKind.i64.wrap ((q : Int) + m) = (q : Int) + m := wrap64 (by omega) (by omega)
  have d1 : decide ((q : Int) < (o : Int) + n) = false := decide_eq_false (by omega)
  have e1 : ¬ (q : Int) < (o : Int) + n := by omega
  go_upto_region 15 with fail
  refine wp_region_lit ?_
  try simp only [List.append_eq, List.cons_append, List.nil_append]
  clear cx0 cx1 cy0 cy1 w1 w2 d1 e1
  refine load23 (cs := (u8s pd).toArray) (Blk.all F88.out rfl) (by rw [u8s_size, HD.out]) rfl rfl ?_
  try simp only [Act.put, List.setIfInBounds_toArray, List.set_cons_succ, List.set_cons_zero]
  refine takeL (.pointer (some ⟨g10, 0, none⟩)) rfl (by go_simp) ?_
  try simp only [Act.put, List.setIfInBounds_toArray, List.set_cons_succ, List.set_cons_zero]
  refine takeL (.int .i64 o) rfl (by have hq := F83.out.cell (i := 0) (v := .int .i64 o) rfl; go_simp) ?_
  try simp only [Act.put, List.setIfInBounds_toArray, List.set_cons_succ, List.set_cons_zero]
  refine takeL (.pointer (some ⟨g10, 1, none⟩)) rfl (by go_simp) ?_
  try simp only [Act.put, List.setIfInBounds_toArray, List.set_cons_succ, List.set_cons_zero]
  refine takeL (sx) rfl (by have hq := F83.out.cell (i := 1) (v := sx) rfl; go_simp) ?_
  try simp only [Act.put, List.setIfInBounds_toArray, List.set_cons_succ, List.set_cons_zero]
  refine wpList_op rfl fun K hK => ?_
  go_simp
  refine (apply_as HSW.out HD.out _ (by rw [HN.out]; omega) HF.out _ (HBX.out.below F80.out) F81.out).mono ?_
  rintro e w90 ⟨rfl, hb⟩
  have F91 := Lib.hid (F80.out.trans (hb.mono F80.out.size))
  have F92 := Lib.hid (F81.out.below (Nat.le_refl _) hb)
  have F93 := Lib.hid (F82.out.below hb F82.out.lt)
  have F94 := Lib.hid (F83.out.below hb F83.out.lt)
  have F95 := Lib.hid (F84.out.below hb F84.out.lt)
  have F96 := Lib.hid (F85.out.below hb F85.out.lt)
  have F97 := Lib.hid (F86.out.below hb F86.out.lt)
  have F98 := Lib.hid (F87.out.below hb F87.out.lt)
  have F99 := Lib.hid (F88.out.below hb F88.out.lt)
  clear F80 F81 F82 F83 F84 F85 F86 F87 F88
  clear hb
  refine hK _ _ ?_
  clear hK K
  try simp only [Act.put, List.setIfInBounds_toArray, List.set_cons_succ, List.set_cons_zero]
  refine takeL (.tuple #[.agg (u8s pc).toArray, .int .i64 0]) rfl (by go_simp) ?_
  try simp only [Act.put, List.setIfInBounds_toArray, List.set_cons_succ, List.set_cons_zero]
  refine takeL (.agg (u8s pc).toArray) rfl (by go_simp) ?_
  try simp only [Act.put, List.setIfInBounds_toArray, List.set_cons_succ, List.set_cons_zero]
  refine takeL (.int .i64 0) rfl (by go_simp) ?_
  try simp only [Act.put, List.setIfInBounds_toArray, List.set_cons_succ, List.set_cons_zero]
  refine alloc_g zero23 rfl ?_
  intro w100 hA hb hl
  try simp only [Act.put, List.setIfInBounds_toArray, List.set_cons_succ, List.set_cons_zero]
  clear hl
  refine store_all (cs := (u8s pc).toArray) hA (by simp only [u8s_size, List.size_toArray, List.length_append, List.length_singleton, List.length_map, HC.out, HZ32.out]) (by rw [u8s_size, HC.out]; exact info23) (u8s_one _) rfl rfl rfl ?_
  intro w101 hD hO hlD
  try simp only [Act.put, List.setIfInBounds_toArray, List.set_cons_succ, List.set_cons_zero]
  clear hlD hA
  have hbb : Below w90.heap.size w90 w101 := hb.trans (hO.below hb.size fun k hk => Nat.le_of_eq hk.symm)
  clear hb hO
  have F102 := Lib.hid (F91.out.trans (hbb.mono F91.out.size))
  have F103 := Lib.hid (F92.out.below (Nat.le_refl _) hbb)
  have F104 := Lib.hid (F93.out.below hbb F93.out.lt)
  have F105 := Lib.hid (F94.out.below hbb F94.out.lt)
  have F106 := Lib.hid (F95.out.below hbb F95.out.lt)
  have F107 := Lib.hid (F96.out.below hbb F96.out.lt)
  have F108 := Lib.hid (F97.out.below hbb F97.out.lt)
  have F109 := Lib.hid (F98.out.below hbb F98.out.lt)
  have F110 := Lib.hid (F99.out.below hbb F99.out.lt)
  clear F91 F92 F93 F94 F95 F96 F97 F98 F99
  have F111 : Hid (Blk w101 w90.heap.size (u8s pc)) := Lib.hid hD
  clear hD hbb w100
  generalize w90.heap.size = g112 at *
  clear w90
  refine takeL (.int .i64 0) rfl (by go_simp) ?_
  try simp only [Act.put, List.setIfInBounds_toArray, List.set_cons_succ, List.set_cons_zero]
  refine wpList_nil ?_
  go_upto_region 16 with fail
  refine wp_region_lit ?_
  try simp only [List.append_eq, List.cons_append, List.nil_append]
  refine takeL (.int .i64 0) rfl (by go_simp) ?_
  try simp only [Act.put, List.setIfInBounds_toArray, List.set_cons_succ, List.set_cons_zero]
  refine takeL (.bool true) rfl (by go_simp) ?_
  try simp only [Act.put, List.setIfInBounds_toArray, List.set_cons_succ, List.set_cons_zero]
  refine takeL (.bool true) rfl (by go_simp) ?_
  try simp only [Act.put, List.setIfInBounds_toArray, List.set_cons_succ, List.set_cons_zero]
  refine load23 (cs := (u8s pc).toArray) (Blk.all F111.out rfl) (by rw [u8s_size, HC.out]) rfl rfl ?_
  try simp only [Act.put, List.setIfInBounds_toArray, List.set_cons_succ, List.set_cons_zero]
  refine load23 (cs := (u8s pc).toArray) (Blk.all F109.out rfl) (by rw [u8s_size, HC.out]) rfl rfl ?_
  try simp only [Act.put, List.setIfInBounds_toArray, List.set_cons_succ, List.set_cons_zero]
  refine takeL (.bool true) rfl (by exact exec_page (decide_eq_true rfl) HC.out HC.out _ _ _ rfl rfl rfl) ?_
  try simp only [Act.put, List.setIfInBounds_toArray, List.set_cons_succ, List.set_cons_zero]
  refine takeL (.bool true) rfl (by go_simp) ?_
  try simp only [Act.put, List.setIfInBounds_toArray, List.set_cons_succ, List.set_cons_zero]
  refine takeL (.bool true) rfl (by go_simp) ?_
  try simp only [Act.put, List.setIfInBounds_toArray, List.set_cons_succ, List.set_cons_zero]
  refine wpList_op rfl fun K hK => ?_
  go_simp
  refine (wakes_any _ F103.out).mono ?_
  rintro e w113 ⟨rfl, hb⟩
  have F114 := Lib.hid (F102.out.trans (hb.mono F102.out.size))
  have F115 := Lib.hid (F103.out.below (Nat.le_refl _) hb)
  have F116 := Lib.hid (F104.out.below hb F104.out.lt)
  have F117 := Lib.hid (F105.out.below hb F105.out.lt)
  have F118 := Lib.hid (F106.out.below hb F106.out.lt)
  have F119 := Lib.hid (F107.out.below hb F107.out.lt)
  have F120 := Lib.hid (F108.out.below hb F108.out.lt)
  have F121 := Lib.hid (F109.out.below hb F109.out.lt)
  have F122 := Lib.hid (F110.out.below hb F110.out.lt)
  have F123 := Lib.hid (F111.out.below hb F111.out.lt)
  clear F102 F103 F104 F105 F106 F107 F108 F109 F110 F111
  clear hb
  refine hK _ _ ?_
  clear hK K
  try simp only [Act.put, List.setIfInBounds_toArray, List.set_cons_succ, List.set_cons_zero]
  refine takeL (.bool true) rfl (by go_simp) ?_
  try simp only [Act.put, List.setIfInBounds_toArray, List.set_cons_succ, List.set_cons_zero]
  refine takeL (.bool true) rfl (by go_simp) ?_
  try simp only [Act.put, List.setIfInBounds_toArray, List.set_cons_succ, List.set_cons_zero]
  refine wpList_nil ?_
  go_wp2_with fail
  go_ret
  exact ⟨rfl, F114.out⟩
set_option maxRecDepth 100000 in
set_option maxHeartbeats 1000000 in
theorem twice_behind (a : List Int) (ha : a.length = 32) (o : Nat) (sx : Value) (x : List Int) (q : Nat) (sy : Value) (y : List Int) (n m : Nat) (hn : x.length = n) (hm : y.length = m) (h : n ≤ 100) (h2 : m ≤ 100) (hf : Fits o x) (hg : Fits q y) (hd : q < o + n) (hd2 : q + m ≤ o) (w : World) (hbx : BytesAt w sx x) (hby : BytesAt w sy y) (hev : ErrVar w) : Calls Tryd.prog 6 #[.agg (u8s a).toArray, .agg #[.int .i64 o, sx], .agg #[.int .i64 q, sy]] w fun e w' => e = .returned (.bool true) ∧ Below w.heap.size w w' := by
  have HZ32 := Lib.hid (zeros_length 32)
  have HA := Lib.hid ha
  have HBX := Lib.hid hbx
  have HBY := Lib.hid hby
  obtain ⟨ax, cx, he, -⟩ := hbx
  have HEX : Hid (sx = .slice ax n cx) := Lib.hid (hn ▸ he)
  have HN := Lib.hid hn
  clear he hn
  obtain ⟨ay, cy, he, -⟩ := hby
  have HEY : Hid (sy = .slice ay m cy) := Lib.hid (hm ▸ he)
  have HM := Lib.hid hm
  clear he hm
  have HBL : Hid (Below w.heap.size w w) := Lib.hid (Below.refl _ _)
  have HEV := Lib.hid hev
  clear hev ha
  have HF := Lib.hid hf
  obtain ⟨p1, hp1⟩ : ∃ p, layI a o x = p := ⟨_, rfl⟩
  have H1 : Hid (p1.length = 32) := Lib.hid (hp1 ▸ lay_size HA.out o hf)
  have H11 : Hid (layI p1 o x = p1) := Lib.hid (hp1 ▸ lay_twice (by rw [HA.out]; have := hf.2.2; omega))
  have HP1 := Lib.hid hp1
  have hf1 : 0 < n := HN.out ▸ hf.2.1
  have hf2 : (o : Int) + n ≤ 32 := HN.out ▸ hf.2.2
  clear hf hp1
  have HG := Lib.hid hg
  have hg1 : 0 < m := HM.out ▸ hg.2.1
  have hg2 : (q : Int) + m ≤ 32 := HM.out ▸ hg.2.2
  obtain ⟨pc, hpc⟩ : ∃ p, layI p1 q y = p := ⟨_, rfl⟩
  have HC : Hid (pc.length = 32) := Lib.hid (hpc ▸ lay_size H1.out q hg)
  have HPC := Lib.hid hpc
  obtain ⟨pd, hpd⟩ : ∃ p, layI a q y = p := ⟨_, rfl⟩
  have HD : Hid (pd.length = 32) := Lib.hid (hpd ▸ lay_size HA.out q hg)
  have HPD := Lib.hid hpd
  clear hg hpc hpd
  have HSW : Hid (layI pd o x = pc) := Lib.hid (by rw [← HPD.out, ← HPC.out, ← HP1.out]; exact lay_swap (by rw [HA.out, HN.out]; omega) (by rw [HA.out, HM.out]; omega) (by rw [HN.out, HM.out]; omega))
  go_enter Tryd.func6, Tryd.ntmps6
  go_upto_region 0 with fail
  refine wp_region_lit ?_
  refine box_g (cs := (u8s a).toArray) rfl rfl ?_
  intro w1 hA hb hl
  try simp only [Act.put, List.setIfInBounds_toArray, List.set_cons_succ, List.set_cons_zero]
  clear hl
  have F2 := Lib.hid (HBL.out.trans (hb.mono HBL.out.size))
  have F3 := Lib.hid (HEV.out.below (Nat.le_refl _) hb)
  clear HBL HEV
  have F4 : Hid (Blk w1 w.heap.size (u8s a)) := Lib.hid hA
  clear hA hb
  refine box_g (cs := #[.int .i64 o, sx]) rfl rfl ?_
  intro w5 hA hb hl
  try simp only [Act.put, List.setIfInBounds_toArray, List.set_cons_succ, List.set_cons_zero]
  clear hl
  have F6 := Lib.hid (F2.out.trans (hb.mono F2.out.size))
  have F7 := Lib.hid (F3.out.below (Nat.le_refl _) hb)
  have F8 := Lib.hid (F4.out.below hb F4.out.lt)
  clear F2 F3 F4
  have F9 : Hid (Blk w5 w1.heap.size [.int .i64 o, sx]) := Lib.hid hA
  clear hA hb
  generalize w1.heap.size = g10 at *
  clear w1
  refine box_g (cs := #[.int .i64 q, sy]) rfl rfl ?_
  intro w11 hA hb hl
  try simp only [Act.put, List.setIfInBounds_toArray, List.set_cons_succ, List.set_cons_zero]
  clear hl
  have F12 := Lib.hid (F6.out.trans (hb.mono F6.out.size))
  have F13 := Lib.hid (F7.out.below (Nat.le_refl _) hb)
  have F14 := Lib.hid (F8.out.below hb F8.out.lt)
  have F15 := Lib.hid (F9.out.below hb F9.out.lt)
  clear F6 F7 F8 F9
  have F16 : Hid (Blk w11 w5.heap.size [.int .i64 q, sy]) := Lib.hid hA
  clear hA hb
  generalize w5.heap.size = g17 at *
  clear w5
  refine takeL (.bool false) rfl (by go_simp) ?_
  try simp only [Act.put, List.setIfInBounds_toArray, List.set_cons_succ, List.set_cons_zero]
  refine wpList_nil ?_
  go_upto_region 1 with fail
  refine wp_region_lit ?_
  try simp only [List.append_eq, List.cons_append, List.nil_append]
  refine takeL (.pointer (some ⟨g10, 1, none⟩)) rfl (by go_simp) ?_
  try simp only [Act.put, List.setIfInBounds_toArray, List.set_cons_succ, List.set_cons_zero]
  refine takeL (sx) rfl (by have hq := F15.out.cell (i := 1) (v := sx) rfl; go_simp) ?_
  try simp only [Act.put, List.setIfInBounds_toArray, List.set_cons_succ, List.set_cons_zero]
  refine takeL (.int .i64 n) rfl (by have hq := HEX.out; rw [hq]; go_simp) ?_
  try simp only [Act.put, List.setIfInBounds_toArray, List.set_cons_succ, List.set_cons_zero]
  refine takeL (.bool false) rfl (by go_simp <;> omega) ?_
  try simp only [Act.put, List.setIfInBounds_toArray, List.set_cons_succ, List.set_cons_zero]
  refine takeL (.bool false) rfl (by go_simp) ?_
  try simp only [Act.put, List.setIfInBounds_toArray, List.set_cons_succ, List.set_cons_zero]
  refine takeL (.pointer (some ⟨g17, 1, none⟩)) rfl (by go_simp) ?_
  try simp only [Act.put, List.setIfInBounds_toArray, List.set_cons_succ, List.set_cons_zero]
  refine takeL (sy) rfl (by have hq := F16.out.cell (i := 1) (v := sy) rfl; go_simp) ?_
  try simp only [Act.put, List.setIfInBounds_toArray, List.set_cons_succ, List.set_cons_zero]
  refine takeL (.int .i64 m) rfl (by have hq := HEY.out; rw [hq]; go_simp) ?_
  try simp only [Act.put, List.setIfInBounds_toArray, List.set_cons_succ, List.set_cons_zero]
  refine takeL (.bool false) rfl (by go_simp <;> omega) ?_
  try simp only [Act.put, List.setIfInBounds_toArray, List.set_cons_succ, List.set_cons_zero]
  refine takeL (.bool false) rfl (by go_simp) ?_
  try simp only [Act.put, List.setIfInBounds_toArray, List.set_cons_succ, List.set_cons_zero]
  refine wpList_nil ?_
  go_upto_region 3 with fail
  refine wp_region_lit ?_
  try simp only [List.append_eq, List.cons_append, List.nil_append]
  refine load23 (cs := (u8s a).toArray) (Blk.all F14.out rfl) (by rw [u8s_size, HA.out]) rfl rfl ?_
  try simp only [Act.put, List.setIfInBounds_toArray, List.set_cons_succ, List.set_cons_zero]
  refine takeL (.pointer (some ⟨g10, 0, none⟩)) rfl (by go_simp) ?_
  try simp only [Act.put, List.setIfInBounds_toArray, List.set_cons_succ, List.set_cons_zero]
  refine takeL (.int .i64 o) rfl (by have hq := F15.out.cell (i := 0) (v := .int .i64 o) rfl; go_simp) ?_
  try simp only [Act.put, List.setIfInBounds_toArray, List.set_cons_succ, List.set_cons_zero]
  refine takeL (.pointer (some ⟨g10, 1, none⟩)) rfl (by go_simp) ?_
  try simp only [Act.put, List.setIfInBounds_toArray, List.set_cons_succ, List.set_cons_zero]
  refine takeL (sx) rfl (by have hq := F15.out.cell (i := 1) (v := sx) rfl; go_simp) ?_
  try simp only [Act.put, List.setIfInBounds_toArray, List.set_cons_succ, List.set_cons_zero]
  refine wpList_op rfl fun K hK => ?_
  go_simp
  refine (apply_as HP1.out HA.out _ (by rw [HN.out]; omega) HF.out _ (HBX.out.below F12.out) F13.out).mono ?_
  rintro e w18 ⟨rfl, hb⟩
  have F19 := Lib.hid (F12.out.trans (hb.mono F12.out.size))
  have F20 := Lib.hid (F13.out.below (Nat.le_refl _) hb)
  have F21 := Lib.hid (F14.out.below hb F14.out.lt)
  have F22 := Lib.hid (F15.out.below hb F15.out.lt)
  have F23 := Lib.hid (F16.out.below hb F16.out.lt)
  clear F12 F13 F14 F15 F16
  clear hb
  refine hK _ _ ?_
  clear hK K
  try simp only [Act.put, List.setIfInBounds_toArray, List.set_cons_succ, List.set_cons_zero]
  refine takeL (.tuple #[.agg (u8s p1).toArray, .int .i64 0]) rfl (by go_simp) ?_
  try simp only [Act.put, List.setIfInBounds_toArray, List.set_cons_succ, List.set_cons_zero]
  refine takeL (.agg (u8s p1).toArray) rfl (by go_simp) ?_
  try simp only [Act.put, List.setIfInBounds_toArray, List.set_cons_succ, List.set_cons_zero]
  refine takeL (.int .i64 0) rfl (by go_simp) ?_
  try simp only [Act.put, List.setIfInBounds_toArray, List.set_cons_succ, List.set_cons_zero]
  refine alloc_g zero23 rfl ?_
  intro w24 hA hb hl
  try simp only [Act.put, List.setIfInBounds_toArray, List.set_cons_succ, List.set_cons_zero]
  clear hl
  refine store_all (cs := (u8s p1).toArray) hA (by simp only [u8s_size, List.size_toArray, List.length_append, List.length_singleton, List.length_map, H1.out, HZ32.out]) (by rw [u8s_size, H1.out]; exact info23) (u8s_one _) rfl rfl rfl ?_
  intro w25 hD hO hlD
  try simp only [Act.put, List.setIfInBounds_toArray, List.set_cons_succ, List.set_cons_zero]
  clear hlD hA
  have hbb : Below w18.heap.size w18 w25 := hb.trans (hO.below hb.size fun k hk => Nat.le_of_eq hk.symm)
  clear hb hO
  have F26 := Lib.hid (F19.out.trans (hbb.mono F19.out.size))
  have F27 := Lib.hid (F20.out.below (Nat.le_refl _) hbb)
  have F28 := Lib.hid (F21.out.below hbb F21.out.lt)
  have F29 := Lib.hid (F22.out.below hbb F22.out.lt)
  have F30 := Lib.hid (F23.out.below hbb F23.out.lt)
  clear F19 F20 F21 F22 F23
  have F31 : Hid (Blk w25 w18.heap.size (u8s p1)) := Lib.hid hD
  clear hD hbb w24
  generalize w18.heap.size = g32 at *
  clear w18
  refine takeL (.int .i64 0) rfl (by go_simp) ?_
  try simp only [Act.put, List.setIfInBounds_toArray, List.set_cons_succ, List.set_cons_zero]
  refine wpList_nil ?_
  go_upto_region 4 with fail
  refine wp_region_lit ?_
  try simp only [List.append_eq, List.cons_append, List.nil_append]
  refine takeL (.int .i64 0) rfl (by go_simp) ?_
  try simp only [Act.put, List.setIfInBounds_toArray, List.set_cons_succ, List.set_cons_zero]
  refine takeL (.bool false) rfl (by go_simp) ?_
  try simp only [Act.put, List.setIfInBounds_toArray, List.set_cons_succ, List.set_cons_zero]
  refine wpList_nil ?_
  go_upto_region 6 with fail
  refine wp_region_lit ?_
  try simp only [List.append_eq, List.cons_append, List.nil_append]
  refine load23 (cs := (u8s p1).toArray) (Blk.all F31.out rfl) (by rw [u8s_size, H1.out]) rfl rfl ?_
  try simp only [Act.put, List.setIfInBounds_toArray, List.set_cons_succ, List.set_cons_zero]
  refine takeL (.pointer (some ⟨g10, 0, none⟩)) rfl (by go_simp) ?_
  try simp only [Act.put, List.setIfInBounds_toArray, List.set_cons_succ, List.set_cons_zero]
  refine takeL (.int .i64 o) rfl (by have hq := F29.out.cell (i := 0) (v := .int .i64 o) rfl; go_simp) ?_
  try simp only [Act.put, List.setIfInBounds_toArray, List.set_cons_succ, List.set_cons_zero]
  refine takeL (.pointer (some ⟨g10, 1, none⟩)) rfl (by go_simp) ?_
  try simp only [Act.put, List.setIfInBounds_toArray, List.set_cons_succ, List.set_cons_zero]
  refine takeL (sx) rfl (by have hq := F29.out.cell (i := 1) (v := sx) rfl; go_simp) ?_
  try simp only [Act.put, List.setIfInBounds_toArray, List.set_cons_succ, List.set_cons_zero]
  refine wpList_op rfl fun K hK => ?_
  go_simp
  refine (apply_as H11.out H1.out _ (by rw [HN.out]; omega) HF.out _ (HBX.out.below F26.out) F27.out).mono ?_
  rintro e w33 ⟨rfl, hb⟩
  have F34 := Lib.hid (F26.out.trans (hb.mono F26.out.size))
  have F35 := Lib.hid (F27.out.below (Nat.le_refl _) hb)
  have F36 := Lib.hid (F28.out.below hb F28.out.lt)
  have F37 := Lib.hid (F29.out.below hb F29.out.lt)
  have F38 := Lib.hid (F30.out.below hb F30.out.lt)
  have F39 := Lib.hid (F31.out.below hb F31.out.lt)
  clear F26 F27 F28 F29 F30 F31
  clear hb
  refine hK _ _ ?_
  clear hK K
  try simp only [Act.put, List.setIfInBounds_toArray, List.set_cons_succ, List.set_cons_zero]
  refine takeL (.tuple #[.agg (u8s p1).toArray, .int .i64 0]) rfl (by go_simp) ?_
  try simp only [Act.put, List.setIfInBounds_toArray, List.set_cons_succ, List.set_cons_zero]
  refine takeL (.agg (u8s p1).toArray) rfl (by go_simp) ?_
  try simp only [Act.put, List.setIfInBounds_toArray, List.set_cons_succ, List.set_cons_zero]
  refine takeL (.int .i64 0) rfl (by go_simp) ?_
  try simp only [Act.put, List.setIfInBounds_toArray, List.set_cons_succ, List.set_cons_zero]
  refine alloc_g zero23 rfl ?_
  intro w40 hA hb hl
  try simp only [Act.put, List.setIfInBounds_toArray, List.set_cons_succ, List.set_cons_zero]
  clear hl
  refine store_all (cs := (u8s p1).toArray) hA (by simp only [u8s_size, List.size_toArray, List.length_append, List.length_singleton, List.length_map, H1.out, HZ32.out]) (by rw [u8s_size, H1.out]; exact info23) (u8s_one _) rfl rfl rfl ?_
  intro w41 hD hO hlD
  try simp only [Act.put, List.setIfInBounds_toArray, List.set_cons_succ, List.set_cons_zero]
  clear hlD hA
  have hbb : Below w33.heap.size w33 w41 := hb.trans (hO.below hb.size fun k hk => Nat.le_of_eq hk.symm)
  clear hb hO
  have F42 := Lib.hid (F34.out.trans (hbb.mono F34.out.size))
  have F43 := Lib.hid (F35.out.below (Nat.le_refl _) hbb)
  have F44 := Lib.hid (F36.out.below hbb F36.out.lt)
  have F45 := Lib.hid (F37.out.below hbb F37.out.lt)
  have F46 := Lib.hid (F38.out.below hbb F38.out.lt)
  have F47 := Lib.hid (F39.out.below hbb F39.out.lt)
  clear F34 F35 F36 F37 F38 F39
  have F48 : Hid (Blk w41 w33.heap.size (u8s p1)) := Lib.hid hD
  clear hD hbb w40
  generalize w33.heap.size = g49 at *
  clear w33
  refine takeL (.int .i64 0) rfl (by go_simp) ?_
  try simp only [Act.put, List.setIfInBounds_toArray, List.set_cons_succ, List.set_cons_zero]
  refine wpList_nil ?_
  go_upto_region 7 with fail
  refine wp_region_lit ?_
  try simp only [List.append_eq, List.cons_append, List.nil_append]
  refine takeL (.int .i64 0) rfl (by go_simp) ?_
  try simp only [Act.put, List.setIfInBounds_toArray, List.set_cons_succ, List.set_cons_zero]
  refine takeL (.bool false) rfl (by go_simp) ?_
  try simp only [Act.put, List.setIfInBounds_toArray, List.set_cons_succ, List.set_cons_zero]
  refine takeL (.bool false) rfl (by go_simp) ?_
  try simp only [Act.put, List.setIfInBounds_toArray, List.set_cons_succ, List.set_cons_zero]
  refine load23 (cs := (u8s p1).toArray) (Blk.all F47.out rfl) (by rw [u8s_size, H1.out]) rfl rfl ?_
  try simp only [Act.put, List.setIfInBounds_toArray, List.set_cons_succ, List.set_cons_zero]
  refine load23 (cs := (u8s p1).toArray) (Blk.all F48.out rfl) (by rw [u8s_size, H1.out]) rfl rfl ?_
  try simp only [Act.put, List.setIfInBounds_toArray, List.set_cons_succ, List.set_cons_zero]
  refine takeL (.bool false) rfl (by exact exec_pageN (decide_eq_true rfl) H1.out H1.out _ _ _ rfl rfl rfl) ?_
  try simp only [Act.put, List.setIfInBounds_toArray, List.set_cons_succ, List.set_cons_zero]
  refine takeL (.bool false) rfl (by go_simp) ?_
  try simp only [Act.put, List.setIfInBounds_toArray, List.set_cons_succ, List.set_cons_zero]
  refine wpList_nil ?_
  go_upto_region 9 with fail
  refine wp_region_lit ?_
  try simp only [List.append_eq, List.cons_append, List.nil_append]
  refine load23 (cs := (u8s p1).toArray) (Blk.all F47.out rfl) (by rw [u8s_size, H1.out]) rfl rfl ?_
  try simp only [Act.put, List.setIfInBounds_toArray, List.set_cons_succ, List.set_cons_zero]
  refine takeL (.pointer (some ⟨g17, 0, none⟩)) rfl (by go_simp) ?_
  try simp only [Act.put, List.setIfInBounds_toArray, List.set_cons_succ, List.set_cons_zero]
  refine takeL (.int .i64 q) rfl (by have hq := F46.out.cell (i := 0) (v := .int .i64 q) rfl; go_simp) ?_
  try simp only [Act.put, List.setIfInBounds_toArray, List.set_cons_succ, List.set_cons_zero]
  refine takeL (.pointer (some ⟨g17, 1, none⟩)) rfl (by go_simp) ?_
  try simp only [Act.put, List.setIfInBounds_toArray, List.set_cons_succ, List.set_cons_zero]
  refine takeL (sy) rfl (by have hq := F46.out.cell (i := 1) (v := sy) rfl; go_simp) ?_
  try simp only [Act.put, List.setIfInBounds_toArray, List.set_cons_succ, List.set_cons_zero]
  refine wpList_op rfl fun K hK => ?_
  go_simp
  refine (apply_as HPC.out H1.out _ (by rw [HM.out]; omega) HG.out _ (HBY.out.below F42.out) F43.out).mono ?_
  rintro e w50 ⟨rfl, hb⟩
  have F51 := Lib.hid (F42.out.trans (hb.mono F42.out.size))
  have F52 := Lib.hid (F43.out.below (Nat.le_refl _) hb)
  have F53 := Lib.hid (F44.out.below hb F44.out.lt)
  have F54 := Lib.hid (F45.out.below hb F45.out.lt)
  have F55 := Lib.hid (F46.out.below hb F46.out.lt)
  have F56 := Lib.hid (F47.out.below hb F47.out.lt)
  have F57 := Lib.hid (F48.out.below hb F48.out.lt)
  clear F42 F43 F44 F45 F46 F47 F48
  clear hb
  refine hK _ _ ?_
  clear hK K
  try simp only [Act.put, List.setIfInBounds_toArray, List.set_cons_succ, List.set_cons_zero]
  refine takeL (.tuple #[.agg (u8s pc).toArray, .int .i64 0]) rfl (by go_simp) ?_
  try simp only [Act.put, List.setIfInBounds_toArray, List.set_cons_succ, List.set_cons_zero]
  refine takeL (.agg (u8s pc).toArray) rfl (by go_simp) ?_
  try simp only [Act.put, List.setIfInBounds_toArray, List.set_cons_succ, List.set_cons_zero]
  refine takeL (.int .i64 0) rfl (by go_simp) ?_
  try simp only [Act.put, List.setIfInBounds_toArray, List.set_cons_succ, List.set_cons_zero]
  refine alloc_g zero23 rfl ?_
  intro w58 hA hb hl
  try simp only [Act.put, List.setIfInBounds_toArray, List.set_cons_succ, List.set_cons_zero]
  clear hl
  refine store_all (cs := (u8s pc).toArray) hA (by simp only [u8s_size, List.size_toArray, List.length_append, List.length_singleton, List.length_map, HC.out, HZ32.out]) (by rw [u8s_size, HC.out]; exact info23) (u8s_one _) rfl rfl rfl ?_
  intro w59 hD hO hlD
  try simp only [Act.put, List.setIfInBounds_toArray, List.set_cons_succ, List.set_cons_zero]
  clear hlD hA
  have hbb : Below w50.heap.size w50 w59 := hb.trans (hO.below hb.size fun k hk => Nat.le_of_eq hk.symm)
  clear hb hO
  have F60 := Lib.hid (F51.out.trans (hbb.mono F51.out.size))
  have F61 := Lib.hid (F52.out.below (Nat.le_refl _) hbb)
  have F62 := Lib.hid (F53.out.below hbb F53.out.lt)
  have F63 := Lib.hid (F54.out.below hbb F54.out.lt)
  have F64 := Lib.hid (F55.out.below hbb F55.out.lt)
  have F65 := Lib.hid (F56.out.below hbb F56.out.lt)
  have F66 := Lib.hid (F57.out.below hbb F57.out.lt)
  clear F51 F52 F53 F54 F55 F56 F57
  have F67 : Hid (Blk w59 w50.heap.size (u8s pc)) := Lib.hid hD
  clear hD hbb w58
  generalize w50.heap.size = g68 at *
  clear w50
  refine takeL (.int .i64 0) rfl (by go_simp) ?_
  try simp only [Act.put, List.setIfInBounds_toArray, List.set_cons_succ, List.set_cons_zero]
  refine wpList_nil ?_
  go_upto_region 10 with fail
  refine wp_region_lit ?_
  try simp only [List.append_eq, List.cons_append, List.nil_append]
  refine load23 (cs := (u8s a).toArray) (Blk.all F62.out rfl) (by rw [u8s_size, HA.out]) rfl rfl ?_
  try simp only [Act.put, List.setIfInBounds_toArray, List.set_cons_succ, List.set_cons_zero]
  refine takeL (.pointer (some ⟨g17, 0, none⟩)) rfl (by go_simp) ?_
  try simp only [Act.put, List.setIfInBounds_toArray, List.set_cons_succ, List.set_cons_zero]
  refine takeL (.int .i64 q) rfl (by have hq := F64.out.cell (i := 0) (v := .int .i64 q) rfl; go_simp) ?_
  try simp only [Act.put, List.setIfInBounds_toArray, List.set_cons_succ, List.set_cons_zero]
  refine takeL (.pointer (some ⟨g17, 1, none⟩)) rfl (by go_simp) ?_
  try simp only [Act.put, List.setIfInBounds_toArray, List.set_cons_succ, List.set_cons_zero]
  refine takeL (sy) rfl (by have hq := F64.out.cell (i := 1) (v := sy) rfl; go_simp) ?_
  try simp only [Act.put, List.setIfInBounds_toArray, List.set_cons_succ, List.set_cons_zero]
  refine wpList_op rfl fun K hK => ?_
  go_simp
  refine (apply_as HPD.out HA.out _ (by rw [HM.out]; omega) HG.out _ (HBY.out.below F60.out) F61.out).mono ?_
  rintro e w69 ⟨rfl, hb⟩
  have F70 := Lib.hid (F60.out.trans (hb.mono F60.out.size))
  have F71 := Lib.hid (F61.out.below (Nat.le_refl _) hb)
  have F72 := Lib.hid (F62.out.below hb F62.out.lt)
  have F73 := Lib.hid (F63.out.below hb F63.out.lt)
  have F74 := Lib.hid (F64.out.below hb F64.out.lt)
  have F75 := Lib.hid (F65.out.below hb F65.out.lt)
  have F76 := Lib.hid (F66.out.below hb F66.out.lt)
  have F77 := Lib.hid (F67.out.below hb F67.out.lt)
  clear F60 F61 F62 F63 F64 F65 F66 F67
  clear hb
  refine hK _ _ ?_
  clear hK K
  try simp only [Act.put, List.setIfInBounds_toArray, List.set_cons_succ, List.set_cons_zero]
  refine takeL (.tuple #[.agg (u8s pd).toArray, .int .i64 0]) rfl (by go_simp) ?_
  try simp only [Act.put, List.setIfInBounds_toArray, List.set_cons_succ, List.set_cons_zero]
  refine takeL (.agg (u8s pd).toArray) rfl (by go_simp) ?_
  try simp only [Act.put, List.setIfInBounds_toArray, List.set_cons_succ, List.set_cons_zero]
  refine takeL (.int .i64 0) rfl (by go_simp) ?_
  try simp only [Act.put, List.setIfInBounds_toArray, List.set_cons_succ, List.set_cons_zero]
  refine alloc_g zero23 rfl ?_
  intro w78 hA hb hl
  try simp only [Act.put, List.setIfInBounds_toArray, List.set_cons_succ, List.set_cons_zero]
  clear hl
  refine store_all (cs := (u8s pd).toArray) hA (by simp only [u8s_size, List.size_toArray, List.length_append, List.length_singleton, List.length_map, HD.out, HZ32.out]) (by rw [u8s_size, HD.out]; exact info23) (u8s_one _) rfl rfl rfl ?_
  intro w79 hD hO hlD
  try simp only [Act.put, List.setIfInBounds_toArray, List.set_cons_succ, List.set_cons_zero]
  clear hlD hA
  have hbb : Below w69.heap.size w69 w79 := hb.trans (hO.below hb.size fun k hk => Nat.le_of_eq hk.symm)
  clear hb hO
  have F80 := Lib.hid (F70.out.trans (hbb.mono F70.out.size))
  have F81 := Lib.hid (F71.out.below (Nat.le_refl _) hbb)
  have F82 := Lib.hid (F72.out.below hbb F72.out.lt)
  have F83 := Lib.hid (F73.out.below hbb F73.out.lt)
  have F84 := Lib.hid (F74.out.below hbb F74.out.lt)
  have F85 := Lib.hid (F75.out.below hbb F75.out.lt)
  have F86 := Lib.hid (F76.out.below hbb F76.out.lt)
  have F87 := Lib.hid (F77.out.below hbb F77.out.lt)
  clear F70 F71 F72 F73 F74 F75 F76 F77
  have F88 : Hid (Blk w79 w69.heap.size (u8s pd)) := Lib.hid hD
  clear hD hbb w78
  generalize w69.heap.size = g89 at *
  clear w69
  refine takeL (.int .i64 0) rfl (by go_simp) ?_
  try simp only [Act.put, List.setIfInBounds_toArray, List.set_cons_succ, List.set_cons_zero]
  refine wpList_nil ?_
  go_upto_region 11 with fail
  refine wp_region_lit ?_
  try simp only [List.append_eq, List.cons_append, List.nil_append]
  refine takeL (.int .i64 0) rfl (by go_simp) ?_
  try simp only [Act.put, List.setIfInBounds_toArray, List.set_cons_succ, List.set_cons_zero]
  refine takeL (.int .i64 0) rfl (by go_simp) ?_
  try simp only [Act.put, List.setIfInBounds_toArray, List.set_cons_succ, List.set_cons_zero]
  refine takeL (.bool false) rfl (by go_simp) ?_
  try simp only [Act.put, List.setIfInBounds_toArray, List.set_cons_succ, List.set_cons_zero]
  refine wpList_nil ?_
  have cx0 := F83.out.cell (i := 0) (v := .int .i64 o) rfl
  have cx1 := F83.out.cell (i := 1) (v := sx) rfl
  rw [HEX.out] at cx1
  have cy0 := F84.out.cell (i := 0) (v := .int .i64 q) rfl
  have cy1 := F84.out.cell (i := 1) (v := sy) rfl
  rw [HEY.out] at cy1
  have w1 : IntKind.i64.wrap ((o : Int) + n) = (o : Int) + n := wrap64 (by omega) (by omega)
  have w2 : IntKind.i64.wrap ((q : Int) + m) = (q : Int) + m := wrap64 (by omega) (by omega)
  have d1 : decide ((q : Int) < (o : Int) + n) = true := decide_eq_true (by omega)
  have e1 : (q : Int) < (o : Int) + n := by omega
  have d2 : decide ((o : Int) < (q : Int) + m) = false := decide_eq_false (by omega)
  have e2 : ¬ (o : Int) < (q : Int) + m := by omega
  go_upto_region 15 with fail
  refine wp_region_lit ?_
  try simp only [List.append_eq, List.cons_append, List.nil_append]
  clear cx0 cx1 cy0 cy1 w1 w2 d1 e1 d2 e2
  refine load23 (cs := (u8s pd).toArray) (Blk.all F88.out rfl) (by rw [u8s_size, HD.out]) rfl rfl ?_
  try simp only [Act.put, List.setIfInBounds_toArray, List.set_cons_succ, List.set_cons_zero]
  refine takeL (.pointer (some ⟨g10, 0, none⟩)) rfl (by go_simp) ?_
  try simp only [Act.put, List.setIfInBounds_toArray, List.set_cons_succ, List.set_cons_zero]
  refine takeL (.int .i64 o) rfl (by have hq := F83.out.cell (i := 0) (v := .int .i64 o) rfl; go_simp) ?_
  try simp only [Act.put, List.setIfInBounds_toArray, List.set_cons_succ, List.set_cons_zero]
  refine takeL (.pointer (some ⟨g10, 1, none⟩)) rfl (by go_simp) ?_
  try simp only [Act.put, List.setIfInBounds_toArray, List.set_cons_succ, List.set_cons_zero]
  refine takeL (sx) rfl (by have hq := F83.out.cell (i := 1) (v := sx) rfl; go_simp) ?_
  try simp only [Act.put, List.setIfInBounds_toArray, List.set_cons_succ, List.set_cons_zero]
  refine wpList_op rfl fun K hK => ?_
  go_simp
  refine (apply_as HSW.out HD.out _ (by rw [HN.out]; omega) HF.out _ (HBX.out.below F80.out) F81.out).mono ?_
  rintro e w90 ⟨rfl, hb⟩
  have F91 := Lib.hid (F80.out.trans (hb.mono F80.out.size))
  have F92 := Lib.hid (F81.out.below (Nat.le_refl _) hb)
  have F93 := Lib.hid (F82.out.below hb F82.out.lt)
  have F94 := Lib.hid (F83.out.below hb F83.out.lt)
  have F95 := Lib.hid (F84.out.below hb F84.out.lt)
  have F96 := Lib.hid (F85.out.below hb F85.out.lt)
  have F97 := Lib.hid (F86.out.below hb F86.out.lt)
  have F98 := Lib.hid (F87.out.below hb F87.out.lt)
  have F99 := Lib.hid (F88.out.below hb F88.out.lt)
  clear F80 F81 F82 F83 F84 F85 F86 F87 F88
  clear hb
  refine hK _ _ ?_
  clear hK K
  try simp only [Act.put, List.setIfInBounds_toArray, List.set_cons_succ, List.set_cons_zero]
  refine takeL (.tuple #[.agg (u8s pc).toArray, .int .i64 0]) rfl (by go_simp) ?_
  try simp only [Act.put, List.setIfInBounds_toArray, List.set_cons_succ, List.set_cons_zero]
  refine takeL (.agg (u8s pc).toArray) rfl (by go_simp) ?_
  try simp only [Act.put, List.setIfInBounds_toArray, List.set_cons_succ, List.set_cons_zero]
  refine takeL (.int .i64 0) rfl (by go_simp) ?_
  try simp only [Act.put, List.setIfInBounds_toArray, List.set_cons_succ, List.set_cons_zero]
  refine alloc_g zero23 rfl ?_
  intro w100 hA hb hl
  try simp only [Act.put, List.setIfInBounds_toArray, List.set_cons_succ, List.set_cons_zero]
  clear hl
  refine store_all (cs := (u8s pc).toArray) hA (by simp only [u8s_size, List.size_toArray, List.length_append, List.length_singleton, List.length_map, HC.out, HZ32.out]) (by rw [u8s_size, HC.out]; exact info23) (u8s_one _) rfl rfl rfl ?_
  intro w101 hD hO hlD
  try simp only [Act.put, List.setIfInBounds_toArray, List.set_cons_succ, List.set_cons_zero]
  clear hlD hA
  have hbb : Below w90.heap.size w90 w101 := hb.trans (hO.below hb.size fun k hk => Nat.le_of_eq hk.symm)
  clear hb hO
  have F102 := Lib.hid (F91.out.trans (hbb.mono F91.out.size))
  have F103 := Lib.hid (F92.out.below (Nat.le_refl _) hbb)
  have F104 := Lib.hid (F93.out.below hbb F93.out.lt)
  have F105 := Lib.hid (F94.out.below hbb F94.out.lt)
  have F106 := Lib.hid (F95.out.below hbb F95.out.lt)
  have F107 := Lib.hid (F96.out.below hbb F96.out.lt)
  have F108 := Lib.hid (F97.out.below hbb F97.out.lt)
  have F109 := Lib.hid (F98.out.below hbb F98.out.lt)
  have F110 := Lib.hid (F99.out.below hbb F99.out.lt)
  clear F91 F92 F93 F94 F95 F96 F97 F98 F99
  have F111 : Hid (Blk w101 w90.heap.size (u8s pc)) := Lib.hid hD
  clear hD hbb w100
  generalize w90.heap.size = g112 at *
  clear w90
  refine takeL (.int .i64 0) rfl (by go_simp) ?_
  try simp only [Act.put, List.setIfInBounds_toArray, List.set_cons_succ, List.set_cons_zero]
  refine wpList_nil ?_
  go_upto_region 16 with fail
  refine wp_region_lit ?_
  try simp only [List.append_eq, List.cons_append, List.nil_append]
  refine takeL (.int .i64 0) rfl (by go_simp) ?_
  try simp only [Act.put, List.setIfInBounds_toArray, List.set_cons_succ, List.set_cons_zero]
  refine takeL (.bool true) rfl (by go_simp) ?_
  try simp only [Act.put, List.setIfInBounds_toArray, List.set_cons_succ, List.set_cons_zero]
  refine takeL (.bool true) rfl (by go_simp) ?_
  try simp only [Act.put, List.setIfInBounds_toArray, List.set_cons_succ, List.set_cons_zero]
  refine load23 (cs := (u8s pc).toArray) (Blk.all F111.out rfl) (by rw [u8s_size, HC.out]) rfl rfl ?_
  try simp only [Act.put, List.setIfInBounds_toArray, List.set_cons_succ, List.set_cons_zero]
  refine load23 (cs := (u8s pc).toArray) (Blk.all F109.out rfl) (by rw [u8s_size, HC.out]) rfl rfl ?_
  try simp only [Act.put, List.setIfInBounds_toArray, List.set_cons_succ, List.set_cons_zero]
  refine takeL (.bool true) rfl (by exact exec_page (decide_eq_true rfl) HC.out HC.out _ _ _ rfl rfl rfl) ?_
  try simp only [Act.put, List.setIfInBounds_toArray, List.set_cons_succ, List.set_cons_zero]
  refine takeL (.bool true) rfl (by go_simp) ?_
  try simp only [Act.put, List.setIfInBounds_toArray, List.set_cons_succ, List.set_cons_zero]
  refine takeL (.bool true) rfl (by go_simp) ?_
  try simp only [Act.put, List.setIfInBounds_toArray, List.set_cons_succ, List.set_cons_zero]
  refine wpList_op rfl fun K hK => ?_
  go_simp
  refine (wakes_any _ F103.out).mono ?_
  rintro e w113 ⟨rfl, hb⟩
  have F114 := Lib.hid (F102.out.trans (hb.mono F102.out.size))
  have F115 := Lib.hid (F103.out.below (Nat.le_refl _) hb)
  have F116 := Lib.hid (F104.out.below hb F104.out.lt)
  have F117 := Lib.hid (F105.out.below hb F105.out.lt)
  have F118 := Lib.hid (F106.out.below hb F106.out.lt)
  have F119 := Lib.hid (F107.out.below hb F107.out.lt)
  have F120 := Lib.hid (F108.out.below hb F108.out.lt)
  have F121 := Lib.hid (F109.out.below hb F109.out.lt)
  have F122 := Lib.hid (F110.out.below hb F110.out.lt)
  have F123 := Lib.hid (F111.out.below hb F111.out.lt)
  clear F102 F103 F104 F105 F106 F107 F108 F109 F110 F111
  clear hb
  refine hK _ _ ?_
  clear hK K
  try simp only [Act.put, List.setIfInBounds_toArray, List.set_cons_succ, List.set_cons_zero]
  refine takeL (.bool true) rfl (by go_simp) ?_
  try simp only [Act.put, List.setIfInBounds_toArray, List.set_cons_succ, List.set_cons_zero]
  refine takeL (.bool true) rfl (by go_simp) ?_
  try simp only [Act.put, List.setIfInBounds_toArray, List.set_cons_succ, List.set_cons_zero]
  refine wpList_nil ?_
  go_wp2_with fail
  go_ret
  exact ⟨rfl, F114.out⟩
theorem twice_any (a : List Int) (ha : Pg a) (ox : Int) (hox : Small ox) (sx : Value) (x : List Int) (hyx : ∀ z ∈ x, Byte z) (hnx : x.length ≤ 9223372036854775807) (oy : Int) (hoy : Small oy) (sy : Value) (y : List Int) (hyy : ∀ z ∈ y, Byte z) (hny : y.length ≤ 9223372036854775807) (w : World) (hbx : BytesAt w sx x) (hby : BytesAt w sy y) (hev : ErrVar w) : Calls Tryd.prog 6 #[.agg (u8s a).toArray, .agg #[.int .i64 ox, sx], .agg #[.int .i64 oy, sy]] w fun e w' => e = .returned (.bool true) ∧ Below w.heap.size w w' := by
  have hA := ha.length
  obtain ⟨n, hn⟩ : ∃ n, x.length = n := ⟨_, rfl⟩
  obtain ⟨m, hm⟩ : ∃ m, y.length = m := ⟨_, rfl⟩
  rcases Nat.lt_or_ge 100 n with h | h
  · exact twice_long1 a hA ox sx x oy sy y n m hn hm h w hbx hby hev
  rcases Nat.lt_or_ge 100 m with h2 | h2
  · exact twice_long2 a hA ox sx x oy sy y n m hn hm h h2 w hbx hby hev
  by_cases hf : Fits ox x
  · obtain ⟨o, rfl⟩ := fits_nat hf
    by_cases hg : Fits oy y
    · obtain ⟨q, rfl⟩ := fits_nat hg
      rcases Nat.lt_or_ge q (o + n) with h3 | h3
      · rcases Nat.lt_or_ge o (q + m) with h4 | h4
        · exact twice_over a hA o sx x q sy y n m hn hm h h2 hf hg h3 h4 w hbx hby hev
        · exact twice_behind a hA o sx x q sy y n m hn hm h h2 hf hg h3 h4 w hbx hby hev
      · exact twice_ahead a hA o sx x q sy y n m hn hm h h2 hf hg h3 w hbx hby hev
    · exact twice_one a hA o sx x oy sy y n m hn hm h h2 hf hg w hbx hby hev
  · exact twice_out a hA ox sx x oy sy y n m hn hm h h2 hf w hbx hby hev
end Go.Proofs.YtdfkpjffmjeffaaDoor
