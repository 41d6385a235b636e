/- The statement DeltaLays's walk: whatever the page and the bytes, the call returns true. -/
import Derived.Test.YtdfkpjffmjeffaaDoorWakes
namespace Go.Proofs.YtdfkpjffmjeffaaDoor
set_option linter.unusedSimpArgs false
set_option linter.unusedVariables false
open Go.RowKit

theorem bytes_at {w : World} {sv : Value} {l : List Int} (h : BytesAt w sv l) {i : Nat} {x : Int} (hx : l[i]? = some x) : ∃ p q c, sv = .slice (some ⟨p, q, none⟩) l.length c ∧ w.cell? ⟨p, q + i, none⟩ = some (.int .u8 x) := by
  obtain ⟨a, cap, e, hc⟩ := h
  obtain ⟨b, o, e2, h2⟩ := hc i x hx
  subst e2
  exact ⟨b, o, cap, e, h2⟩
theorem lay_get {L l : List Int} {o : Nat} (h : o + l.length ≤ L.length) (i : Nat) : (layI L o l)[i]? = if o ≤ i ∧ i < o + l.length then l[i - o]? else L[i]? := by
  have ho : (L.take o).length = o := by rw [List.length_take]; omega
  unfold layI
  rw [List.append_assoc]
  by_cases k1 : i < o
  · rw [List.getElem?_append_left (by omega), List.getElem?_take_of_lt k1, if_neg (by omega)]
  · rw [List.getElem?_append_right (by omega), ho]
    by_cases k2 : i < o + l.length
    · rw [List.getElem?_append_left (by omega), if_pos (by omega)]
    · rw [List.getElem?_append_right (by omega), List.getElem?_drop, if_neg (by omega), show o + l.length + (i - o - l.length) = i by omega]
theorem lay_twice {L l : List Int} {o : Nat} (h : o + l.length ≤ L.length) : layI (layI L o l) o l = layI L o l := by
  have h2 := layI_length (L := L) (o := o) (bs := l) h
  apply List.ext_getElem?
  intro i
  rw [lay_get (by omega), lay_get h]
  split <;> rfl
theorem lay_swap {L x y : List Int} {o q : Nat} (h : o + x.length ≤ L.length) (k : q + y.length ≤ L.length) (hd : o + x.length ≤ q ∨ q + y.length ≤ o) : layI (layI L q y) o x = layI (layI L o x) q y := by
  have h2 := layI_length (L := L) (o := o) (bs := x) h
  have k2 := layI_length (L := L) (o := q) (bs := y) k
  apply List.ext_getElem?
  intro i
  rw [lay_get (by omega), lay_get k, lay_get (by omega), lay_get h]
  by_cases c1 : o ≤ i ∧ i < o + x.length
  · rw [if_pos c1, if_neg (by omega), if_pos c1]
  · rw [if_neg c1, if_neg c1]
set_option maxRecDepth 100000 in
set_option maxHeartbeats 1000000 in
theorem lays_long (a : List Int) (ha : a.length = 32) (ox : Int) (sx : Value) (x : List Int) (n : Nat) (hn : x.length = n) (h : 300 < n) (w : World) (hbx : BytesAt w sx x) (hev : ErrVar w) : Calls Tryd.prog 5 #[.agg (u8s a).toArray, .agg #[.int .i64 ox, sx]] w fun e w' => e = .returned (.bool true) ∧ Below w.heap.size w w' := by
  have HZ32 := Lib.hid (zeros_length 32)
  have HA := Lib.hid ha
  have HBX := Lib.hid hbx
  obtain ⟨ax, cx, he, -⟩ := hbx
  have HEX : Hid (sx = .slice ax n cx) := Lib.hid (hn ▸ he)
  have HN := Lib.hid hn
  clear he hn
  have HBL : Hid (Below w.heap.size w w) := Lib.hid (Below.refl _ _)
  have HEV := Lib.hid hev
  clear hev ha
  go_enter Tryd.func5, Tryd.ntmps5
  go_upto_region 0 with fail
  refine wp_region_lit ?_
  refine box_g (cs := (u8s a).toArray) rfl rfl ?_
  intro w1 hA hb hl
  try simp only [Act.put, List.setIfInBounds_toArray, List.set_cons_succ, List.set_cons_zero]
  clear hl
  have F2 := Lib.hid (HBL.out.trans (hb.mono HBL.out.size))
  have F3 := Lib.hid (HEV.out.below (Nat.le_refl _) hb)
  clear HBL HEV
  have F4 : Hid (Blk w1 w.heap.size (u8s a)) := Lib.hid hA
  clear hA hb
  refine box_g (cs := #[.int .i64 ox, sx]) rfl rfl ?_
  intro w5 hA hb hl
  try simp only [Act.put, List.setIfInBounds_toArray, List.set_cons_succ, List.set_cons_zero]
  clear hl
  have F6 := Lib.hid (F2.out.trans (hb.mono F2.out.size))
  have F7 := Lib.hid (F3.out.below (Nat.le_refl _) hb)
  have F8 := Lib.hid (F4.out.below hb F4.out.lt)
  clear F2 F3 F4
  have F9 : Hid (Blk w5 w1.heap.size [.int .i64 ox, sx]) := Lib.hid hA
  clear hA hb
  generalize w1.heap.size = g10 at *
  clear w1
  refine takeL (.bool false) rfl (by go_simp) ?_
  try simp only [Act.put, List.setIfInBounds_toArray, List.set_cons_succ, List.set_cons_zero]
  refine wpList_nil ?_
  go_upto_region 1 with fail
  refine wp_region_lit ?_
  try simp only [List.append_eq, List.cons_append, List.nil_append]
  refine takeL (.pointer (some ⟨g10, 1, none⟩)) rfl (by go_simp) ?_
  try simp only [Act.put, List.setIfInBounds_toArray, List.set_cons_succ, List.set_cons_zero]
  refine takeL (sx) rfl (by have hq := F9.out.cell (i := 1) (v := sx) rfl; go_simp) ?_
  try simp only [Act.put, List.setIfInBounds_toArray, List.set_cons_succ, List.set_cons_zero]
  refine takeL (.int .i64 n) rfl (by have hq := HEX.out; rw [hq]; go_simp) ?_
  try simp only [Act.put, List.setIfInBounds_toArray, List.set_cons_succ, List.set_cons_zero]
  refine takeL (.bool true) rfl (by go_simp <;> omega) ?_
  try simp only [Act.put, List.setIfInBounds_toArray, List.set_cons_succ, List.set_cons_zero]
  refine wpList_nil ?_
  go_upto_region 2 with fail
  refine wp_region_lit ?_
  try simp only [List.append_eq, List.cons_append, List.nil_append]
  refine wpList_op rfl fun K hK => ?_
  go_simp
  refine (wakes_any _ F7.out).mono ?_
  rintro e w11 ⟨rfl, hb⟩
  have F12 := Lib.hid (F6.out.trans (hb.mono F6.out.size))
  have F13 := Lib.hid (F7.out.below (Nat.le_refl _) hb)
  have F14 := Lib.hid (F8.out.below hb F8.out.lt)
  have F15 := Lib.hid (F9.out.below hb F9.out.lt)
  clear F6 F7 F8 F9
  clear hb
  refine hK _ _ ?_
  clear hK K
  try simp only [Act.put, List.setIfInBounds_toArray, List.set_cons_succ, List.set_cons_zero]
  refine takeL (.bool true) rfl (by go_simp) ?_
  try simp only [Act.put, List.setIfInBounds_toArray, List.set_cons_succ, List.set_cons_zero]
  refine wpList_nil ?_
  go_wp2_with fail
  go_ret
  exact ⟨rfl, F12.out⟩
set_option maxRecDepth 100000 in
set_option maxHeartbeats 1000000 in
theorem lays_no0 (a : List Int) (ha : a.length = 32) (ox : Int) (sx : Value) (x : List Int) (n : Nat) (hn : x.length = n) (h : n ≤ 300) (hf : ¬ Fits ox x) (hz : n = 0) (w : World) (hbx : BytesAt w sx x) (hev : ErrVar w) : Calls Tryd.prog 5 #[.agg (u8s a).toArray, .agg #[.int .i64 ox, sx]] w fun e w' => e = .returned (.bool true) ∧ Below w.heap.size w w' := by
  have HZ32 := Lib.hid (zeros_length 32)
  have HA := Lib.hid ha
  have HBX := Lib.hid hbx
  obtain ⟨ax, cx, he, -⟩ := hbx
  have HEX : Hid (sx = .slice ax n cx) := Lib.hid (hn ▸ he)
  have HN := Lib.hid hn
  clear he hn
  have HBL : Hid (Below w.heap.size w w) := Lib.hid (Below.refl _ _)
  have HEV := Lib.hid hev
  clear hev ha
  have HF := Lib.hid hf
  clear hf
  go_enter Tryd.func5, Tryd.ntmps5
  go_upto_region 0 with fail
  refine wp_region_lit ?_
  refine box_g (cs := (u8s a).toArray) rfl rfl ?_
  intro w1 hA hb hl
  try simp only [Act.put, List.setIfInBounds_toArray, List.set_cons_succ, List.set_cons_zero]
  clear hl
  have F2 := Lib.hid (HBL.out.trans (hb.mono HBL.out.size))
  have F3 := Lib.hid (HEV.out.below (Nat.le_refl _) hb)
  clear HBL HEV
  have F4 : Hid (Blk w1 w.heap.size (u8s a)) := Lib.hid hA
  clear hA hb
  refine box_g (cs := #[.int .i64 ox, sx]) rfl rfl ?_
  intro w5 hA hb hl
  try simp only [Act.put, List.setIfInBounds_toArray, List.set_cons_succ, List.set_cons_zero]
  clear hl
  have F6 := Lib.hid (F2.out.trans (hb.mono F2.out.size))
  have F7 := Lib.hid (F3.out.below (Nat.le_refl _) hb)
  have F8 := Lib.hid (F4.out.below hb F4.out.lt)
  clear F2 F3 F4
  have F9 : Hid (Blk w5 w1.heap.size [.int .i64 ox, sx]) := Lib.hid hA
  clear hA hb
  generalize w1.heap.size = g10 at *
  clear w1
  refine takeL (.bool false) rfl (by go_simp) ?_
  try simp only [Act.put, List.setIfInBounds_toArray, List.set_cons_succ, List.set_cons_zero]
  refine wpList_nil ?_
  go_upto_region 1 with fail
  refine wp_region_lit ?_
  try simp only [List.append_eq, List.cons_append, List.nil_append]
  refine takeL (.pointer (some ⟨g10, 1, none⟩)) rfl (by go_simp) ?_
  try simp only [Act.put, List.setIfInBounds_toArray, List.set_cons_succ, List.set_cons_zero]
  refine takeL (sx) rfl (by have hq := F9.out.cell (i := 1) (v := sx) rfl; go_simp) ?_
  try simp only [Act.put, List.setIfInBounds_toArray, List.set_cons_succ, List.set_cons_zero]
  refine takeL (.int .i64 n) rfl (by have hq := HEX.out; rw [hq]; go_simp) ?_
  try simp only [Act.put, List.setIfInBounds_toArray, List.set_cons_succ, List.set_cons_zero]
  refine takeL (.bool false) rfl (by go_simp <;> omega) ?_
  try simp only [Act.put, List.setIfInBounds_toArray, List.set_cons_succ, List.set_cons_zero]
  refine wpList_nil ?_
  go_upto_region 3 with fail
  refine wp_region_lit ?_
  try simp only [List.append_eq, List.cons_append, List.nil_append]
  refine load23 (cs := (u8s a).toArray) (Blk.all F8.out rfl) (by rw [u8s_size, HA.out]) rfl rfl ?_
  try simp only [Act.put, List.setIfInBounds_toArray, List.set_cons_succ, List.set_cons_zero]
  refine takeL (.pointer (some ⟨g10, 0, none⟩)) rfl (by go_simp) ?_
  try simp only [Act.put, List.setIfInBounds_toArray, List.set_cons_succ, List.set_cons_zero]
  refine takeL (.int .i64 ox) rfl (by have hq := F9.out.cell (i := 0) (v := .int .i64 ox) rfl; go_simp) ?_
  try simp only [Act.put, List.setIfInBounds_toArray, List.set_cons_succ, List.set_cons_zero]
  refine takeL (.pointer (some ⟨g10, 1, none⟩)) rfl (by go_simp) ?_
  try simp only [Act.put, List.setIfInBounds_toArray, List.set_cons_succ, List.set_cons_zero]
  refine takeL (sx) rfl (by have hq := F9.out.cell (i := 1) (v := sx) rfl; go_simp) ?_
  try simp only [Act.put, List.setIfInBounds_toArray, List.set_cons_succ, List.set_cons_zero]
  refine wpList_op rfl fun K hK => ?_
  go_simp
  refine (apply_no a x HA.out ox _ (by rw [HN.out]; omega) HF.out _ (HBX.out.below F6.out) F7.out).mono ?_
  rintro e w11 ⟨rfl, hb⟩
  have F12 := Lib.hid (F6.out.trans (hb.mono F6.out.size))
  have F13 := Lib.hid (F7.out.below (Nat.le_refl _) hb)
  have F14 := Lib.hid (F8.out.below hb F8.out.lt)
  have F15 := Lib.hid (F9.out.below hb F9.out.lt)
  clear F6 F7 F8 F9
  clear hb
  refine hK _ _ ?_
  clear hK K
  try simp only [Act.put, List.setIfInBounds_toArray, List.set_cons_succ, List.set_cons_zero]
  refine takeL (.tuple #[.agg (u8s (zeros 32)).toArray, .int .i64 1]) rfl (by go_simp) ?_
  try simp only [Act.put, List.setIfInBounds_toArray, List.set_cons_succ, List.set_cons_zero]
  refine takeL (.agg (u8s (zeros 32)).toArray) rfl (by go_simp) ?_
  try simp only [Act.put, List.setIfInBounds_toArray, List.set_cons_succ, List.set_cons_zero]
  refine takeL (.int .i64 1) rfl (by go_simp) ?_
  try simp only [Act.put, List.setIfInBounds_toArray, List.set_cons_succ, List.set_cons_zero]
  refine alloc_g zero23 rfl ?_
  intro w16 hA hb hl
  try simp only [Act.put, List.setIfInBounds_toArray, List.set_cons_succ, List.set_cons_zero]
  clear hl
  refine store_all (cs := (u8s (zeros 32)).toArray) hA (by simp only [u8s_size, List.size_toArray, List.length_append, List.length_singleton, List.length_map, HZ32.out]) (by rw [u8s_size, HZ32.out]; exact info23) (u8s_one _) rfl rfl rfl ?_
  intro w17 hD hO hlD
  try simp only [Act.put, List.setIfInBounds_toArray, List.set_cons_succ, List.set_cons_zero]
  clear hlD hA
  have hbb : Below w11.heap.size w11 w17 := hb.trans (hO.below hb.size fun k hk => Nat.le_of_eq hk.symm)
  clear hb hO
  have F18 := Lib.hid (F12.out.trans (hbb.mono F12.out.size))
  have F19 := Lib.hid (F13.out.below (Nat.le_refl _) hbb)
  have F20 := Lib.hid (F14.out.below hbb F14.out.lt)
  have F21 := Lib.hid (F15.out.below hbb F15.out.lt)
  clear F12 F13 F14 F15
  have F22 : Hid (Blk w17 w11.heap.size (u8s (zeros 32))) := Lib.hid hD
  clear hD hbb w16
  generalize w11.heap.size = g23 at *
  clear w11
  refine takeL (.int .i64 1) rfl (by go_simp) ?_
  try simp only [Act.put, List.setIfInBounds_toArray, List.set_cons_succ, List.set_cons_zero]
  refine wpList_nil ?_
  go_upto_region 4 with fail
  refine wp_region_lit ?_
  try simp only [List.append_eq, List.cons_append, List.nil_append]
  refine takeL (.int .i64 1) rfl (by go_simp) ?_
  try simp only [Act.put, List.setIfInBounds_toArray, List.set_cons_succ, List.set_cons_zero]
  refine takeL (.bool true) rfl (by go_simp) ?_
  try simp only [Act.put, List.setIfInBounds_toArray, List.set_cons_succ, List.set_cons_zero]
  refine wpList_nil ?_
  go_upto_region 5 with fail
  refine wp_region_lit ?_
  try simp only [List.append_eq, List.cons_append, List.nil_append]
  refine load23 (cs := (u8s (zeros 32)).toArray) (Blk.all F22.out rfl) (by rw [u8s_size, HZ32.out]) rfl rfl ?_
  try simp only [Act.put, List.setIfInBounds_toArray, List.set_cons_succ, List.set_cons_zero]
  refine build_g (build23 _) rfl ?_
  try simp only [Act.put, List.setIfInBounds_toArray, List.set_cons_succ, List.set_cons_zero]
  refine takeL (.bool true) rfl (by exact exec_page (decide_eq_true rfl) HZ32.out HZ32.out _ _ _ rfl rfl rfl) ?_
  try simp only [Act.put, List.setIfInBounds_toArray, List.set_cons_succ, List.set_cons_zero]
  have cx0 := F21.out.cell (i := 0) (v := .int .i64 ox) rfl
  have cx1 := F21.out.cell (i := 1) (v := sx) rfl
  rw [HEX.out] at cx1
  have g0 : ((n : Int) == 0) = true := by rw [beq_iff_eq]; omega
  clear hz
  go_wp2_with fail
  refine (wakes_any _ F19.out).mono ?_
  rintro e w9 ⟨rfl, hb⟩
  have HB9 := Lib.hid (F18.out.trans (hb.mono F18.out.size))
  clear hb
  go_wp2_with fail
  go_ret
  exact ⟨rfl, HB9.out⟩
set_option maxRecDepth 100000 in
set_option maxHeartbeats 1000000 in
theorem lays_no1 (a : List Int) (ha : a.length = 32) (ox : Int) (sx : Value) (x : List Int) (n : Nat) (hn : x.length = n) (h : n ≤ 300) (hf : ¬ Fits ox x) (hz : 0 < n) (h1 : ox < 0) (w : World) (hbx : BytesAt w sx x) (hev : ErrVar w) : Calls Tryd.prog 5 #[.agg (u8s a).toArray, .agg #[.int .i64 ox, sx]] w fun e w' => e = .returned (.bool true) ∧ Below w.heap.size w w' := by
  have HZ32 := Lib.hid (zeros_length 32)
  have HA := Lib.hid ha
  have HBX := Lib.hid hbx
  obtain ⟨ax, cx, he, -⟩ := hbx
  have HEX : Hid (sx = .slice ax n cx) := Lib.hid (hn ▸ he)
  have HN := Lib.hid hn
  clear he hn
  have HBL : Hid (Below w.heap.size w w) := Lib.hid (Below.refl _ _)
  have HEV := Lib.hid hev
  clear hev ha
  have HF := Lib.hid hf
  clear hf
  go_enter Tryd.func5, Tryd.ntmps5
  go_upto_region 0 with fail
  refine wp_region_lit ?_
  refine box_g (cs := (u8s a).toArray) rfl rfl ?_
  intro w1 hA hb hl
  try simp only [Act.put, List.setIfInBounds_toArray, List.set_cons_succ, List.set_cons_zero]
  clear hl
  have F2 := Lib.hid (HBL.out.trans (hb.mono HBL.out.size))
  have F3 := Lib.hid (HEV.out.below (Nat.le_refl _) hb)
  clear HBL HEV
  have F4 : Hid (Blk w1 w.heap.size (u8s a)) := Lib.hid hA
  clear hA hb
  refine box_g (cs := #[.int .i64 ox, sx]) rfl rfl ?_
  intro w5 hA hb hl
  try simp only [Act.put, List.setIfInBounds_toArray, List.set_cons_succ, List.set_cons_zero]
  clear hl
  have F6 := Lib.hid (F2.out.trans (hb.mono F2.out.size))
  have F7 := Lib.hid (F3.out.below (Nat.le_refl _) hb)
  have F8 := Lib.hid (F4.out.below hb F4.out.lt)
  clear F2 F3 F4
  have F9 : Hid (Blk w5 w1.heap.size [.int .i64 ox, sx]) := Lib.hid hA
  clear hA hb
  generalize w1.heap.size = g10 at *
  clear w1
  refine takeL (.bool false) rfl (by go_simp) ?_
  try simp only [Act.put, List.setIfInBounds_toArray, List.set_cons_succ, List.set_cons_zero]
  refine wpList_nil ?_
  go_upto_region 1 with fail
  refine wp_region_lit ?_
  try simp only [List.append_eq, List.cons_append, List.nil_append]
  refine takeL (.pointer (some ⟨g10, 1, none⟩)) rfl (by go_simp) ?_
  try simp only [Act.put, List.setIfInBounds_toArray, List.set_cons_succ, List.set_cons_zero]
  refine takeL (sx) rfl (by have hq := F9.out.cell (i := 1) (v := sx) rfl; go_simp) ?_
  try simp only [Act.put, List.setIfInBounds_toArray, List.set_cons_succ, List.set_cons_zero]
  refine takeL (.int .i64 n) rfl (by have hq := HEX.out; rw [hq]; go_simp) ?_
  try simp only [Act.put, List.setIfInBounds_toArray, List.set_cons_succ, List.set_cons_zero]
  refine takeL (.bool false) rfl (by go_simp <;> omega) ?_
  try simp only [Act.put, List.setIfInBounds_toArray, List.set_cons_succ, List.set_cons_zero]
  refine wpList_nil ?_
  go_upto_region 3 with fail
  refine wp_region_lit ?_
  try simp only [List.append_eq, List.cons_append, List.nil_append]
  refine load23 (cs := (u8s a).toArray) (Blk.all F8.out rfl) (by rw [u8s_size, HA.out]) rfl rfl ?_
  try simp only [Act.put, List.setIfInBounds_toArray, List.set_cons_succ, List.set_cons_zero]
  refine takeL (.pointer (some ⟨g10, 0, none⟩)) rfl (by go_simp) ?_
  try simp only [Act.put, List.setIfInBounds_toArray, List.set_cons_succ, List.set_cons_zero]
  refine takeL (.int .i64 ox) rfl (by have hq := F9.out.cell (i := 0) (v := .int .i64 ox) rfl; go_simp) ?_
  try simp only [Act.put, List.setIfInBounds_toArray, List.set_cons_succ, List.set_cons_zero]
  refine takeL (.pointer (some ⟨g10, 1, none⟩)) rfl (by go_simp) ?_
  try simp only [Act.put, List.setIfInBounds_toArray, List.set_cons_succ, List.set_cons_zero]
  refine takeL (sx) rfl (by have hq := F9.out.cell (i := 1) (v := sx) rfl; go_simp) ?_
  try simp only [Act.put, List.setIfInBounds_toArray, List.set_cons_succ, List.set_cons_zero]
  refine wpList_op rfl fun K hK => ?_
  go_simp
  refine (apply_no a x HA.out ox _ (by rw [HN.out]; omega) HF.out _ (HBX.out.below F6.out) F7.out).mono ?_
  rintro e w11 ⟨rfl, hb⟩
  have F12 := Lib.hid (F6.out.trans (hb.mono F6.out.size))
  have F13 := Lib.hid (F7.out.below (Nat.le_refl _) hb)
  have F14 := Lib.hid (F8.out.below hb F8.out.lt)
  have F15 := Lib.hid (F9.out.below hb F9.out.lt)
  clear F6 F7 F8 F9
  clear hb
  refine hK _ _ ?_
  clear hK K
  try simp only [Act.put, List.setIfInBounds_toArray, List.set_cons_succ, List.set_cons_zero]
  refine takeL (.tuple #[.agg (u8s (zeros 32)).toArray, .int .i64 1]) rfl (by go_simp) ?_
  try simp only [Act.put, List.setIfInBounds_toArray, List.set_cons_succ, List.set_cons_zero]
  refine takeL (.agg (u8s (zeros 32)).toArray) rfl (by go_simp) ?_
  try simp only [Act.put, List.setIfInBounds_toArray, List.set_cons_succ, List.set_cons_zero]
  refine takeL (.int .i64 1) rfl (by go_simp) ?_
  try simp only [Act.put, List.setIfInBounds_toArray, List.set_cons_succ, List.set_cons_zero]
  refine alloc_g zero23 rfl ?_
  intro w16 hA hb hl
  try simp only [Act.put, List.setIfInBounds_toArray, List.set_cons_succ, List.set_cons_zero]
  clear hl
  refine store_all (cs := (u8s (zeros 32)).toArray) hA (by simp only [u8s_size, List.size_toArray, List.length_append, List.length_singleton, List.length_map, HZ32.out]) (by rw [u8s_size, HZ32.out]; exact info23) (u8s_one _) rfl rfl rfl ?_
  intro w17 hD hO hlD
  try simp only [Act.put, List.setIfInBounds_toArray, List.set_cons_succ, List.set_cons_zero]
  clear hlD hA
  have hbb : Below w11.heap.size w11 w17 := hb.trans (hO.below hb.size fun k hk => Nat.le_of_eq hk.symm)
  clear hb hO
  have F18 := Lib.hid (F12.out.trans (hbb.mono F12.out.size))
  have F19 := Lib.hid (F13.out.below (Nat.le_refl _) hbb)
  have F20 := Lib.hid (F14.out.below hbb F14.out.lt)
  have F21 := Lib.hid (F15.out.below hbb F15.out.lt)
  clear F12 F13 F14 F15
  have F22 : Hid (Blk w17 w11.heap.size (u8s (zeros 32))) := Lib.hid hD
  clear hD hbb w16
  generalize w11.heap.size = g23 at *
  clear w11
  refine takeL (.int .i64 1) rfl (by go_simp) ?_
  try simp only [Act.put, List.setIfInBounds_toArray, List.set_cons_succ, List.set_cons_zero]
  refine wpList_nil ?_
  go_upto_region 4 with fail
  refine wp_region_lit ?_
  try simp only [List.append_eq, List.cons_append, List.nil_append]
  refine takeL (.int .i64 1) rfl (by go_simp) ?_
  try simp only [Act.put, List.setIfInBounds_toArray, List.set_cons_succ, List.set_cons_zero]
  refine takeL (.bool true) rfl (by go_simp) ?_
  try simp only [Act.put, List.setIfInBounds_toArray, List.set_cons_succ, List.set_cons_zero]
  refine wpList_nil ?_
  go_upto_region 5 with fail
  refine wp_region_lit ?_
  try simp only [List.append_eq, List.cons_append, List.nil_append]
  refine load23 (cs := (u8s (zeros 32)).toArray) (Blk.all F22.out rfl) (by rw [u8s_size, HZ32.out]) rfl rfl ?_
  try simp only [Act.put, List.setIfInBounds_toArray, List.set_cons_succ, List.set_cons_zero]
  refine build_g (build23 _) rfl ?_
  try simp only [Act.put, List.setIfInBounds_toArray, List.set_cons_succ, List.set_cons_zero]
  refine takeL (.bool true) rfl (by exact exec_page (decide_eq_true rfl) HZ32.out HZ32.out _ _ _ rfl rfl rfl) ?_
  try simp only [Act.put, List.setIfInBounds_toArray, List.set_cons_succ, List.set_cons_zero]
  have cx0 := F21.out.cell (i := 0) (v := .int .i64 ox) rfl
  have cx1 := F21.out.cell (i := 1) (v := sx) rfl
  rw [HEX.out] at cx1
  have g0 : ((n : Int) == 0) = false := by rw [beq_eq_false_iff_ne]; omega
  have g1 : decide (ox < 0) = true := decide_eq_true h1
  clear hz h1
  go_wp2_with fail
  refine (wakes_any _ F19.out).mono ?_
  rintro e w9 ⟨rfl, hb⟩
  have HB9 := Lib.hid (F18.out.trans (hb.mono F18.out.size))
  clear hb
  go_wp2_with fail
  go_ret
  exact ⟨rfl, HB9.out⟩
set_option maxRecDepth 100000 in
set_option maxHeartbeats 1000000 in
theorem lays_no2 (a : List Int) (ha : a.length = 32) (ox : Int) (sx : Value) (x : List Int) (n : Nat) (hn : x.length = n) (h : n ≤ 300) (hf : ¬ Fits ox x) (hz : 0 < n) (h1 : 32 ≤ ox) (w : World) (hbx : BytesAt w sx x) (hev : ErrVar w) : Calls Tryd.prog 5 #[.agg (u8s a).toArray, .agg #[.int .i64 ox, sx]] w fun e w' => e = .returned (.bool true) ∧ Below w.heap.size w w' := by
  have HZ32 := Lib.hid (zeros_length 32)
  have HA := Lib.hid ha
  have HBX := Lib.hid hbx
  obtain ⟨ax, cx, he, -⟩ := hbx
  have HEX : Hid (sx = .slice ax n cx) := Lib.hid (hn ▸ he)
  have HN := Lib.hid hn
  clear he hn
  have HBL : Hid (Below w.heap.size w w) := Lib.hid (Below.refl _ _)
  have HEV := Lib.hid hev
  clear hev ha
  have HF := Lib.hid hf
  clear hf
  go_enter Tryd.func5, Tryd.ntmps5
  go_upto_region 0 with fail
  refine wp_region_lit ?_
  refine box_g (cs := (u8s a).toArray) rfl rfl ?_
  intro w1 hA hb hl
  try simp only [Act.put, List.setIfInBounds_toArray, List.set_cons_succ, List.set_cons_zero]
  clear hl
  have F2 := Lib.hid (HBL.out.trans (hb.mono HBL.out.size))
  have F3 := Lib.hid (HEV.out.below (Nat.le_refl _) hb)
  clear HBL HEV
  have F4 : Hid (Blk w1 w.heap.size (u8s a)) := Lib.hid hA
  clear hA hb
  refine box_g (cs := #[.int .i64 ox, sx]) rfl rfl ?_
  intro w5 hA hb hl
  try simp only [Act.put, List.setIfInBounds_toArray, List.set_cons_succ, List.set_cons_zero]
  clear hl
  have F6 := Lib.hid (F2.out.trans (hb.mono F2.out.size))
  have F7 := Lib.hid (F3.out.below (Nat.le_refl _) hb)
  have F8 := Lib.hid (F4.out.below hb F4.out.lt)
  clear F2 F3 F4
  have F9 : Hid (Blk w5 w1.heap.size [.int .i64 ox, sx]) := Lib.hid hA
  clear hA hb
  generalize w1.heap.size = g10 at *
  clear w1
  refine takeL (.bool false) rfl (by go_simp) ?_
  try simp only [Act.put, List.setIfInBounds_toArray, List.set_cons_succ, List.set_cons_zero]
  refine wpList_nil ?_
  go_upto_region 1 with fail
  refine wp_region_lit ?_
  try simp only [List.append_eq, List.cons_append, List.nil_append]
  refine takeL (.pointer (some ⟨g10, 1, none⟩)) rfl (by go_simp) ?_
  try simp only [Act.put, List.setIfInBounds_toArray, List.set_cons_succ, List.set_cons_zero]
  refine takeL (sx) rfl (by have hq := F9.out.cell (i := 1) (v := sx) rfl; go_simp) ?_
  try simp only [Act.put, List.setIfInBounds_toArray, List.set_cons_succ, List.set_cons_zero]
  refine takeL (.int .i64 n) rfl (by have hq := HEX.out; rw [hq]; go_simp) ?_
  try simp only [Act.put, List.setIfInBounds_toArray, List.set_cons_succ, List.set_cons_zero]
  refine takeL (.bool false) rfl (by go_simp <;> omega) ?_
  try simp only [Act.put, List.setIfInBounds_toArray, List.set_cons_succ, List.set_cons_zero]
  refine wpList_nil ?_
  go_upto_region 3 with fail
  refine wp_region_lit ?_
  try simp only [List.append_eq, List.cons_append, List.nil_append]
  refine load23 (cs := (u8s a).toArray) (Blk.all F8.out rfl) (by rw [u8s_size, HA.out]) rfl rfl ?_
  try simp only [Act.put, List.setIfInBounds_toArray, List.set_cons_succ, List.set_cons_zero]
  refine takeL (.pointer (some ⟨g10, 0, none⟩)) rfl (by go_simp) ?_
  try simp only [Act.put, List.setIfInBounds_toArray, List.set_cons_succ, List.set_cons_zero]
  refine takeL (.int .i64 ox) rfl (by have hq := F9.out.cell (i := 0) (v := .int .i64 ox) rfl; go_simp) ?_
  try simp only [Act.put, List.setIfInBounds_toArray, List.set_cons_succ, List.set_cons_zero]
  refine takeL (.pointer (some ⟨g10, 1, none⟩)) rfl (by go_simp) ?_
  try simp only [Act.put, List.setIfInBounds_toArray, List.set_cons_succ, List.set_cons_zero]
  refine takeL (sx) rfl (by have hq := F9.out.cell (i := 1) (v := sx) rfl; go_simp) ?_
  try simp only [Act.put, List.setIfInBounds_toArray, List.set_cons_succ, List.set_cons_zero]
  refine wpList_op rfl fun K hK => ?_
  go_simp
  refine (apply_no a x HA.out ox _ (by rw [HN.out]; omega) HF.out _ (HBX.out.below F6.out) F7.out).mono ?_
  rintro e w11 ⟨rfl, hb⟩
  have F12 := Lib.hid (F6.out.trans (hb.mono F6.out.size))
  have F13 := Lib.hid (F7.out.below (Nat.le_refl _) hb)
  have F14 := Lib.hid (F8.out.below hb F8.out.lt)
  have F15 := Lib.hid (F9.out.below hb F9.out.lt)
  clear F6 F7 F8 F9
  clear hb
  refine hK _ _ ?_
  clear hK K
  try simp only [Act.put, List.setIfInBounds_toArray, List.set_cons_succ, List.set_cons_zero]
  refine takeL (.tuple #[.agg (u8s (zeros 32)).toArray, .int .i64 1]) rfl (by go_simp) ?_
  try simp only [Act.put, List.setIfInBounds_toArray, List.set_cons_succ, List.set_cons_zero]
  refine takeL (.agg (u8s (zeros 32)).toArray) rfl (by go_simp) ?_
  try simp only [Act.put, List.setIfInBounds_toArray, List.set_cons_succ, List.set_cons_zero]
  refine takeL (.int .i64 1) rfl (by go_simp) ?_
  try simp only [Act.put, List.setIfInBounds_toArray, List.set_cons_succ, List.set_cons_zero]
  refine alloc_g zero23 rfl ?_
  intro w16 hA hb hl
  try simp only [Act.put, List.setIfInBounds_toArray, List.set_cons_succ, List.set_cons_zero]
  clear hl
  refine store_all (cs := (u8s (zeros 32)).toArray) hA (by simp only [u8s_size, List.size_toArray, List.length_append, List.length_singleton, List.length_map, HZ32.out]) (by rw [u8s_size, HZ32.out]; exact info23) (u8s_one _) rfl rfl rfl ?_
  intro w17 hD hO hlD
  try simp only [Act.put, List.setIfInBounds_toArray, List.set_cons_succ, List.set_cons_zero]
  clear hlD hA
  have hbb : Below w11.heap.size w11 w17 := hb.trans (hO.below hb.size fun k hk => Nat.le_of_eq hk.symm)
  clear hb hO
  have F18 := Lib.hid (F12.out.trans (hbb.mono F12.out.size))
  have F19 := Lib.hid (F13.out.below (Nat.le_refl _) hbb)
  have F20 := Lib.hid (F14.out.below hbb F14.out.lt)
  have F21 := Lib.hid (F15.out.below hbb F15.out.lt)
  clear F12 F13 F14 F15
  have F22 : Hid (Blk w17 w11.heap.size (u8s (zeros 32))) := Lib.hid hD
  clear hD hbb w16
  generalize w11.heap.size = g23 at *
  clear w11
  refine takeL (.int .i64 1) rfl (by go_simp) ?_
  try simp only [Act.put, List.setIfInBounds_toArray, List.set_cons_succ, List.set_cons_zero]
  refine wpList_nil ?_
  go_upto_region 4 with fail
  refine wp_region_lit ?_
  try simp only [List.append_eq, List.cons_append, List.nil_append]
  refine takeL (.int .i64 1) rfl (by go_simp) ?_
  try simp only [Act.put, List.setIfInBounds_toArray, List.set_cons_succ, List.set_cons_zero]
  refine takeL (.bool true) rfl (by go_simp) ?_
  try simp only [Act.put, List.setIfInBounds_toArray, List.set_cons_succ, List.set_cons_zero]
  refine wpList_nil ?_
  go_upto_region 5 with fail
  refine wp_region_lit ?_
  try simp only [List.append_eq, List.cons_append, List.nil_append]
  refine load23 (cs := (u8s (zeros 32)).toArray) (Blk.all F22.out rfl) (by rw [u8s_size, HZ32.out]) rfl rfl ?_
  try simp only [Act.put, List.setIfInBounds_toArray, List.set_cons_succ, List.set_cons_zero]
  refine build_g (build23 _) rfl ?_
  try simp only [Act.put, List.setIfInBounds_toArray, List.set_cons_succ, List.set_cons_zero]
  refine takeL (.bool true) rfl (by exact exec_page (decide_eq_true rfl) HZ32.out HZ32.out _ _ _ rfl rfl rfl) ?_
  try simp only [Act.put, List.setIfInBounds_toArray, List.set_cons_succ, List.set_cons_zero]
  have cx0 := F21.out.cell (i := 0) (v := .int .i64 ox) rfl
  have cx1 := F21.out.cell (i := 1) (v := sx) rfl
  rw [HEX.out] at cx1
  have g0 : ((n : Int) == 0) = false := by rw [beq_eq_false_iff_ne]; omega
  have g1 : decide (ox < 0) = false := decide_eq_false (by omega)
  have g2 : decide (32 ≤ ox) = true := decide_eq_true h1
  clear hz h1
  go_wp2_with fail
  refine (wakes_any _ F19.out).mono ?_
  rintro e w9 ⟨rfl, hb⟩
  have HB9 := Lib.hid (F18.out.trans (hb.mono F18.out.size))
  clear hb
  go_wp2_with fail
  go_ret
  exact ⟨rfl, HB9.out⟩
set_option maxRecDepth 100000 in
set_option maxHeartbeats 1000000 in
theorem lays_no3 (a : List Int) (ha : a.length = 32) (ox : Int) (sx : Value) (x : List Int) (n : Nat) (hn : x.length = n) (h : n ≤ 300) (hf : ¬ Fits ox x) (hz : 0 < n) (h1 : 0 ≤ ox) (h2 : ox < 32) (h3 : 32 < ox + n) (w : World) (hbx : BytesAt w sx x) (hev : ErrVar w) : Calls Tryd.prog 5 #[.agg (u8s a).toArray, .agg #[.int .i64 ox, sx]] w fun e w' => e = .returned (.bool true) ∧ Below w.heap.size w w' := by
  have HZ32 := Lib.hid (zeros_length 32)
  have HA := Lib.hid ha
  have HBX := Lib.hid hbx
  obtain ⟨ax, cx, he, -⟩ := hbx
  have HEX : Hid (sx = .slice ax n cx) := Lib.hid (hn ▸ he)
  have HN := Lib.hid hn
  clear he hn
  have HBL : Hid (Below w.heap.size w w) := Lib.hid (Below.refl _ _)
  have HEV := Lib.hid hev
  clear hev ha
  have HF := Lib.hid hf
  clear hf
  go_enter Tryd.func5, Tryd.ntmps5
  go_upto_region 0 with fail
  refine wp_region_lit ?_
  refine box_g (cs := (u8s a).toArray) rfl rfl ?_
  intro w1 hA hb hl
  try simp only [Act.put, List.setIfInBounds_toArray, List.set_cons_succ, List.set_cons_zero]
  clear hl
  have F2 := Lib.hid (HBL.out.trans (hb.mono HBL.out.size))
  have F3 := Lib.hid (HEV.out.below (Nat.le_refl _) hb)
  clear HBL HEV
  have F4 : Hid (Blk w1 w.heap.size (u8s a)) := Lib.hid hA
  clear hA hb
  refine box_g (cs := #[.int .i64 ox, sx]) rfl rfl ?_
  intro w5 hA hb hl
  try simp only [Act.put, List.setIfInBounds_toArray, List.set_cons_succ, List.set_cons_zero]
  clear hl
  have F6 := Lib.hid (F2.out.trans (hb.mono F2.out.size))
  have F7 := Lib.hid (F3.out.below (Nat.le_refl _) hb)
  have F8 := Lib.hid (F4.out.below hb F4.out.lt)
  clear F2 F3 F4
  have F9 : Hid (Blk w5 w1.heap.size [.int .i64 ox, sx]) := Lib.hid hA
  clear hA hb
  generalize w1.heap.size = g10 at *
  clear w1
  refine takeL (.bool false) rfl (by go_simp) ?_
  try simp only [Act.put, List.setIfInBounds_toArray, List.set_cons_succ, List.set_cons_zero]
  refine wpList_nil ?_
  go_upto_region 1 with fail
  refine wp_region_lit ?_
  try simp only [List.append_eq, List.cons_append, List.nil_append]
  refine takeL (.pointer (some ⟨g10, 1, none⟩)) rfl (by go_simp) ?_
  try simp only [Act.put, List.setIfInBounds_toArray, List.set_cons_succ, List.set_cons_zero]
  refine takeL (sx) rfl (by have hq := F9.out.cell (i := 1) (v := sx) rfl; go_simp) ?_
  try simp only [Act.put, List.setIfInBounds_toArray, List.set_cons_succ, List.set_cons_zero]
  refine takeL (.int .i64 n) rfl (by have hq := HEX.out; rw [hq]; go_simp) ?_
  try simp only [Act.put, List.setIfInBounds_toArray, List.set_cons_succ, List.set_cons_zero]
  refine takeL (.bool false) rfl (by go_simp <;> omega) ?_
  try simp only [Act.put, List.setIfInBounds_toArray, List.set_cons_succ, List.set_cons_zero]
  refine wpList_nil ?_
  go_upto_region 3 with fail
  refine wp_region_lit ?_
  try simp only [List.append_eq, List.cons_append, List.nil_append]
  refine load23 (cs := (u8s a).toArray) (Blk.all F8.out rfl) (by rw [u8s_size, HA.out]) rfl rfl ?_
  try simp only [Act.put, List.setIfInBounds_toArray, List.set_cons_succ, List.set_cons_zero]
  refine takeL (.pointer (some ⟨g10, 0, none⟩)) rfl (by go_simp) ?_
  try simp only [Act.put, List.setIfInBounds_toArray, List.set_cons_succ, List.set_cons_zero]
  refine takeL (.int .i64 ox) rfl (by have hq := F9.out.cell (i := 0) (v := .int .i64 ox) rfl; go_simp) ?_
  try simp only [Act.put, List.setIfInBounds_toArray, List.set_cons_succ, List.set_cons_zero]
  refine takeL (.pointer (some ⟨g10, 1, none⟩)) rfl (by go_simp) ?_
  try simp only [Act.put, List.setIfInBounds_toArray, List.set_cons_succ, List.set_cons_zero]
  refine takeL (sx) rfl (by have hq := F9.out.cell (i := 1) (v := sx) rfl; go_simp) ?_
  try simp only [Act.put, List.setIfInBounds_toArray, List.set_cons_succ, List.set_cons_zero]
  refine wpList_op rfl fun K hK => ?_
  go_simp
  refine (apply_no a x HA.out ox _ (by rw [HN.out]; omega) HF.out _ (HBX.out.below F6.out) F7.out).mono ?_
  rintro e w11 ⟨rfl, hb⟩
  have F12 := Lib.hid (F6.out.trans (hb.mono F6.out.size))
  have F13 := Lib.hid (F7.out.below (Nat.le_refl _) hb)
  have F14 := Lib.hid (F8.out.below hb F8.out.lt)
  have F15 := Lib.hid (F9.out.below hb F9.out.lt)
  clear F6 F7 F8 F9
  clear hb
  refine hK _ _ ?_
  clear hK K
  try simp only [Act.put, List.setIfInBounds_toArray, List.set_cons_succ, List.set_cons_zero]
  refine takeL (.tuple #[.agg (u8s (zeros 32)).toArray, .int .i64 1]) rfl (by go_simp) ?_
  try simp only [Act.put, List.setIfInBounds_toArray, List.set_cons_succ, List.set_cons_zero]
  refine takeL (.agg (u8s (zeros 32)).toArray) rfl (by go_simp) ?_
  try simp only [Act.put, List.setIfInBounds_toArray, List.set_cons_succ, List.set_cons_zero]
  refine takeL (.int .i64 1) rfl (by go_simp) ?_
  try simp only [Act.put, List.setIfInBounds_toArray, List.set_cons_succ, List.set_cons_zero]
  refine alloc_g zero23 rfl ?_
  intro w16 hA hb hl
  try simp only [Act.put, List.setIfInBounds_toArray, List.set_cons_succ, List.set_cons_zero]
  clear hl
  refine store_all (cs := (u8s (zeros 32)).toArray) hA (by simp only [u8s_size, List.size_toArray, List.length_append, List.length_singleton, List.length_map, HZ32.out]) (by rw [u8s_size, HZ32.out]; exact info23) (u8s_one _) rfl rfl rfl ?_
  intro w17 hD hO hlD
  try simp only [Act.put, List.setIfInBounds_toArray, List.set_cons_succ, List.set_cons_zero]
  clear hlD hA
  have hbb : Below w11.heap.size w11 w17 := hb.trans (hO.below hb.size fun k hk => Nat.le_of_eq hk.symm)
  clear hb hO
  have F18 := Lib.hid (F12.out.trans (hbb.mono F12.out.size))
  have F19 := Lib.hid (F13.out.below (Nat.le_refl _) hbb)
  have F20 := Lib.hid (F14.out.below hbb F14.out.lt)
  have F21 := Lib.hid (F15.out.below hbb F15.out.lt)
  clear F12 F13 F14 F15
  have F22 : Hid (Blk w17 w11.heap.size (u8s (zeros 32))) := Lib.hid hD
  clear hD hbb w16
  generalize w11.heap.size = g23 at *
  clear w11
  refine takeL (.int .i64 1) rfl (by go_simp) ?_
  try simp only [Act.put, List.setIfInBounds_toArray, List.set_cons_succ, List.set_cons_zero]
  refine wpList_nil ?_
  go_upto_region 4 with fail
  refine wp_region_lit ?_
  try simp only [List.append_eq, List.cons_append, List.nil_append]
  refine takeL (.int .i64 1) rfl (by go_simp) ?_
  try simp only [Act.put, List.setIfInBounds_toArray, List.set_cons_succ, List.set_cons_zero]
  refine takeL (.bool true) rfl (by go_simp) ?_
  try simp only [Act.put, List.setIfInBounds_toArray, List.set_cons_succ, List.set_cons_zero]
  refine wpList_nil ?_
  go_upto_region 5 with fail
  refine wp_region_lit ?_
  try simp only [List.append_eq, List.cons_append, List.nil_append]
  refine load23 (cs := (u8s (zeros 32)).toArray) (Blk.all F22.out rfl) (by rw [u8s_size, HZ32.out]) rfl rfl ?_
  try simp only [Act.put, List.setIfInBounds_toArray, List.set_cons_succ, List.set_cons_zero]
  refine build_g (build23 _) rfl ?_
  try simp only [Act.put, List.setIfInBounds_toArray, List.set_cons_succ, List.set_cons_zero]
  refine takeL (.bool true) rfl (by exact exec_page (decide_eq_true rfl) HZ32.out HZ32.out _ _ _ rfl rfl rfl) ?_
  try simp only [Act.put, List.setIfInBounds_toArray, List.set_cons_succ, List.set_cons_zero]
  have cx0 := F21.out.cell (i := 0) (v := .int .i64 ox) rfl
  have cx1 := F21.out.cell (i := 1) (v := sx) rfl
  rw [HEX.out] at cx1
  have g0 : ((n : Int) == 0) = false := by rw [beq_eq_false_iff_ne]; omega
  have g1 : decide (ox < 0) = false := decide_eq_false (by omega)
  have g2 : decide (32 ≤ ox) = false := decide_eq_false (by omega)
  have g4 : IntKind.i64.wrap (32 - ox) = 32 - ox := wrap64 (by omega) (by omega)
  have g3 : decide (32 - ox < (n : Int)) = true := decide_eq_true (by omega)
  clear hz h1 h2 h3
  go_wp2_with fail
  refine (wakes_any _ F19.out).mono ?_
  rintro e w9 ⟨rfl, hb⟩
  have HB9 := Lib.hid (F18.out.trans (hb.mono F18.out.size))
  clear hb
  go_wp2_with fail
  go_ret
  exact ⟨rfl, HB9.out⟩
set_option maxRecDepth 100000 in
set_option maxHeartbeats 1000000 in
theorem lays_yes (a : List Int) (ha : a.length = 32) (o : Nat) (sx : Value) (x : List Int) (n : Nat) (hn : x.length = n) (h : n ≤ 300) (hf : Fits o x) (w : World) (hbx : BytesAt w sx x) (hev : ErrVar w) : Calls Tryd.prog 5 #[.agg (u8s a).toArray, .agg #[.int .i64 o, sx]] w fun e w' => e = .returned (.bool true) ∧ Below w.heap.size w w' := by
  have HZ32 := Lib.hid (zeros_length 32)
  have HA := Lib.hid ha
  have HBX := Lib.hid hbx
  obtain ⟨ax, cx, he, -⟩ := hbx
  have HEX : Hid (sx = .slice ax n cx) := Lib.hid (hn ▸ he)
  have HN := Lib.hid hn
  clear he hn
  have HBL : Hid (Below w.heap.size w w) := Lib.hid (Below.refl _ _)
  have HEV := Lib.hid hev
  clear hev ha
  have HF := Lib.hid hf
  obtain ⟨p1, hp1⟩ : ∃ p, layI a o x = p := ⟨_, rfl⟩
  have H1 : Hid (p1.length = 32) := Lib.hid (hp1 ▸ lay_size HA.out o hf)
  have HG : Hid (∀ i, p1[i]? = if o ≤ i ∧ i < o + n then x[i - o]? else a[i]?) := Lib.hid fun i => HN.out ▸ hp1 ▸ lay_get (by rw [HA.out]; have := hf.2.2; omega) i
  have HP1 := Lib.hid hp1
  have hf1 : 0 < n := HN.out ▸ hf.2.1
  have hf2 : (o : Int) + n ≤ 32 := HN.out ▸ hf.2.2
  clear hf hp1
  go_enter Tryd.func5, Tryd.ntmps5
  go_upto_region 0 with fail
  refine wp_region_lit ?_
  refine box_g (cs := (u8s a).toArray) rfl rfl ?_
  intro w1 hA hb hl
  try simp only [Act.put, List.setIfInBounds_toArray, List.set_cons_succ, List.set_cons_zero]
  clear hl
  have F2 := Lib.hid (HBL.out.trans (hb.mono HBL.out.size))
  have F3 := Lib.hid (HEV.out.below (Nat.le_refl _) hb)
  clear HBL HEV
  have F4 : Hid (Blk w1 w.heap.size (u8s a)) := Lib.hid hA
  clear hA hb
  refine box_g (cs := #[.int .i64 o, sx]) rfl rfl ?_
  intro w5 hA hb hl
  try simp only [Act.put, List.setIfInBounds_toArray, List.set_cons_succ, List.set_cons_zero]
  clear hl
  have F6 := Lib.hid (F2.out.trans (hb.mono F2.out.size))
  have F7 := Lib.hid (F3.out.below (Nat.le_refl _) hb)
  have F8 := Lib.hid (F4.out.below hb F4.out.lt)
  clear F2 F3 F4
  have F9 : Hid (Blk w5 w1.heap.size [.int .i64 o, sx]) := Lib.hid hA
  clear hA hb
  generalize w1.heap.size = g10 at *
  clear w1
  refine takeL (.bool false) rfl (by go_simp) ?_
  try simp only [Act.put, List.setIfInBounds_toArray, List.set_cons_succ, List.set_cons_zero]
  refine wpList_nil ?_
  go_upto_region 1 with fail
  refine wp_region_lit ?_
  try simp only [List.append_eq, List.cons_append, List.nil_append]
  refine takeL (.pointer (some ⟨g10, 1, none⟩)) rfl (by go_simp) ?_
  try simp only [Act.put, List.setIfInBounds_toArray, List.set_cons_succ, List.set_cons_zero]
  refine takeL (sx) rfl (by have hq := F9.out.cell (i := 1) (v := sx) rfl; go_simp) ?_
  try simp only [Act.put, List.setIfInBounds_toArray, List.set_cons_succ, List.set_cons_zero]
  refine takeL (.int .i64 n) rfl (by have hq := HEX.out; rw [hq]; go_simp) ?_
  try simp only [Act.put, List.setIfInBounds_toArray, List.set_cons_succ, List.set_cons_zero]
  refine takeL (.bool false) rfl (by go_simp <;> omega) ?_
  try simp only [Act.put, List.setIfInBounds_toArray, List.set_cons_succ, List.set_cons_zero]
  refine wpList_nil ?_
  go_upto_region 3 with fail
  refine wp_region_lit ?_
  try simp only [List.append_eq, List.cons_append, List.nil_append]
  refine load23 (cs := (u8s a).toArray) (Blk.all F8.out rfl) (by rw [u8s_size, HA.out]) rfl rfl ?_
  try simp only [Act.put, List.setIfInBounds_toArray, List.set_cons_succ, List.set_cons_zero]
  refine takeL (.pointer (some ⟨g10, 0, none⟩)) rfl (by go_simp) ?_
  try simp only [Act.put, List.setIfInBounds_toArray, List.set_cons_succ, List.set_cons_zero]
  refine takeL (.int .i64 o) rfl (by have hq := F9.out.cell (i := 0) (v := .int .i64 o) rfl; go_simp) ?_
  try simp only [Act.put, List.setIfInBounds_toArray, List.set_cons_succ, List.set_cons_zero]
  refine takeL (.pointer (some ⟨g10, 1, none⟩)) rfl (by go_simp) ?_
  try simp only [Act.put, List.setIfInBounds_toArray, List.set_cons_succ, List.set_cons_zero]
  refine takeL (sx) rfl (by have hq := F9.out.cell (i := 1) (v := sx) rfl; go_simp) ?_
  try simp only [Act.put, List.setIfInBounds_toArray, List.set_cons_succ, List.set_cons_zero]
  refine wpList_op rfl fun K hK => ?_
  go_simp
  refine (HP1.out ▸ apply_yes a x HA.out o _ (by rw [HN.out]; omega) HF.out _ (HBX.out.below F6.out) F7.out).mono ?_
  rintro e w11 ⟨rfl, hb⟩
  have F12 := Lib.hid (F6.out.trans (hb.mono F6.out.size))
  have F13 := Lib.hid (F7.out.below (Nat.le_refl _) hb)
  have F14 := Lib.hid (F8.out.below hb F8.out.lt)
  have F15 := Lib.hid (F9.out.below hb F9.out.lt)
  clear F6 F7 F8 F9
  clear hb
  refine hK _ _ ?_
  clear hK K
  try simp only [Act.put, List.setIfInBounds_toArray, List.set_cons_succ, List.set_cons_zero]
  refine takeL (.tuple #[.agg (u8s p1).toArray, .int .i64 0]) rfl (by go_simp) ?_
  try simp only [Act.put, List.setIfInBounds_toArray, List.set_cons_succ, List.set_cons_zero]
  refine takeL (.agg (u8s p1).toArray) rfl (by go_simp) ?_
  try simp only [Act.put, List.setIfInBounds_toArray, List.set_cons_succ, List.set_cons_zero]
  refine takeL (.int .i64 0) rfl (by go_simp) ?_
  try simp only [Act.put, List.setIfInBounds_toArray, List.set_cons_succ, List.set_cons_zero]
  refine alloc_g zero23 rfl ?_
  intro w16 hA hb hl
  try simp only [Act.put, List.setIfInBounds_toArray, List.set_cons_succ, List.set_cons_zero]
  clear hl
  refine store_all (cs := (u8s p1).toArray) hA (by simp only [u8s_size, List.size_toArray, List.length_append, List.length_singleton, List.length_map, H1.out, HZ32.out]) (by rw [u8s_size, H1.out]; exact info23) (u8s_one _) rfl rfl rfl ?_
  intro w17 hD hO hlD
  try simp only [Act.put, List.setIfInBounds_toArray, List.set_cons_succ, List.set_cons_zero]
  clear hlD hA
  have hbb : Below w11.heap.size w11 w17 := hb.trans (hO.below hb.size fun k hk => Nat.le_of_eq hk.symm)
  clear hb hO
  have F18 := Lib.hid (F12.out.trans (hbb.mono F12.out.size))
  have F19 := Lib.hid (F13.out.below (Nat.le_refl _) hbb)
  have F20 := Lib.hid (F14.out.below hbb F14.out.lt)
  have F21 := Lib.hid (F15.out.below hbb F15.out.lt)
  clear F12 F13 F14 F15
  have F22 : Hid (Blk w17 w11.heap.size (u8s p1)) := Lib.hid hD
  clear hD hbb w16
  generalize w11.heap.size = g23 at *
  clear w11
  refine takeL (.int .i64 0) rfl (by go_simp) ?_
  try simp only [Act.put, List.setIfInBounds_toArray, List.set_cons_succ, List.set_cons_zero]
  refine wpList_nil ?_
  go_upto_region 4 with fail
  refine wp_region_lit ?_
  try simp only [List.append_eq, List.cons_append, List.nil_append]
  refine takeL (.int .i64 0) rfl (by go_simp) ?_
  try simp only [Act.put, List.setIfInBounds_toArray, List.set_cons_succ, List.set_cons_zero]
  refine takeL (.bool false) rfl (by go_simp) ?_
  try simp only [Act.put, List.setIfInBounds_toArray, List.set_cons_succ, List.set_cons_zero]
  refine wpList_nil ?_
  go_wp2_with fail
  go_loopg [7] 32 (fun q i wr => ∃ k : Nat, 32 - k ≤ q ∧ k ≤ 32 ∧ i = .int .i64 k ∧ w17 = wr)
  case atStart => exact ⟨0, by omega, by omega, rfl, rfl⟩
  case round =>
    obtain ⟨k, hq, hk, rfl, rfl⟩ := hrel
    by_cases h3 : k < 32
    · have hi : (k : Int) < 32 := by omega
      have hg : decide ((k : Int) < 32) = true := decide_eq_true hi
      obtain ⟨z, e1⟩ : ∃ z, a[k]? = some z := ⟨_, List.getElem?_eq_getElem (by rw [HA.out]; omega)⟩
      have c1 := F20.out.cell (u8_cell e1)
      have cx0 := F21.out.cell (i := 0) (v := .int .i64 o) rfl
      have cx1 := F21.out.cell (i := 1) (v := sx) rfl
      have hgk := HG.out k
      have END : ∀ (v : Int), p1[k]? = some v → w17.cell? ⟨g23, k, none⟩ = some (.int .u8 v) := fun v hv => by simpa using F22.out.cell (u8_cell hv)
      by_cases h4 : o ≤ k
      · obtain ⟨j, hj⟩ : ∃ j, k = o + j := ⟨k - o, by omega⟩
        have HJ := Lib.hid hj
        have g1 : decide ((o : Int) ≤ k) = true := decide_eq_true (by omega)
        have hsub : (k : Int) - (o : Int) = (j : Int) := by omega
        have hw : IntKind.i64.wrap (j : Int) = j := wrap64 (by omega) (by omega)
        by_cases h5 : j < n
        · have g2 : decide ((j : Int) < (n : Int)) = true := decide_eq_true (by omega)
          have hjn : (j : Int) < (n : Int) := by omega
          obtain ⟨v, ev⟩ : ∃ v, x[j]? = some v := ⟨_, List.getElem?_eq_getElem (by rw [HN.out]; exact h5)⟩
          rw [if_pos (by omega), show k - o = j by omega, ev] at hgk
          have c2 := END v hgk
          obtain ⟨p', q', c', hs, c3⟩ := bytes_at (HBX.out.below F18.out) ev
          rw [hs, HN.out] at cx1
          have hvv : (v == v) = true := by simp
          clear hs hgk END ev e1 hj h4 h5
          go_wp2_with fail
          go_roundg (32 - (k + 1))
          case measure => omega
          case rel => exact ⟨k + 1, by omega, by omega, by go_num, rfl⟩
        · have g2 : decide ((j : Int) < (n : Int)) = false := decide_eq_false (by omega)
          have hjn : ¬ (j : Int) < (n : Int) := by omega
          rw [if_neg (by omega), e1] at hgk
          have c2 := END z hgk
          rw [HEX.out] at cx1
          have hvv : (z == z) = true := by simp
          clear hgk END e1 hj h4 h5
          go_wp2_with fail
          go_roundg (32 - (k + 1))
          case measure => omega
          case rel => exact ⟨k + 1, by omega, by omega, by go_num, rfl⟩
      · have g1 : decide ((o : Int) ≤ k) = false := decide_eq_false (by omega)
        have hok : ¬ (o : Int) ≤ k := by omega
        rw [if_neg (by omega), e1] at hgk
        have c2 := END z hgk
        rw [HEX.out] at cx1
        have hvv : (z == z) = true := by simp
        clear hgk END e1 h4
        go_wp2_with fail
        go_roundg (32 - (k + 1))
        case measure => omega
        case rel => exact ⟨k + 1, by omega, by omega, by go_num, rfl⟩
    · obtain rfl : k = 32 := by omega
      clear h3
      go_wp2_with fail
      refine (wakes_any _ F19.out).mono ?_
      rintro e w9 ⟨rfl, hb⟩
      have HB9 := Lib.hid (F18.out.trans (hb.mono F18.out.size))
      clear hb
      go_wp2_with fail
      go_ret
      exact ⟨rfl, HB9.out⟩
theorem fits_nat {off : Int} {l : List Int} (h : Fits off l) : ∃ o : Nat, off = (o : Int) := ⟨off.toNat, by have := h.1; omega⟩
theorem lays_any (a : List Int) (ha : Pg a) (ox : Int) (hox : Small ox) (sx : Value) (x : List Int) (hyx : ∀ z ∈ x, Byte z) (hnx : x.length ≤ 9223372036854775807) (w : World) (hbx : BytesAt w sx x) (hev : ErrVar w) : Calls Tryd.prog 5 #[.agg (u8s a).toArray, .agg #[.int .i64 ox, sx]] w fun e w' => e = .returned (.bool true) ∧ Below w.heap.size w w' := by
  have hA := ha.length
  obtain ⟨n, hn⟩ : ∃ n, x.length = n := ⟨_, rfl⟩
  rcases Nat.lt_or_ge 300 n with h | h
  · exact lays_long a hA ox sx x n hn h w hbx hev
  by_cases hf : Fits ox x
  · obtain ⟨o, rfl⟩ := fits_nat hf
    exact lays_yes a hA o sx x n hn h hf w hbx hev
  · by_cases h0 : n = 0
    · exact lays_no0 a hA ox sx x n hn h hf h0 w hbx hev
    · by_cases h1 : ox < 0
      · exact lays_no1 a hA ox sx x n hn h hf (by omega) h1 w hbx hev
      · by_cases h2 : 32 ≤ ox
        · exact lays_no2 a hA ox sx x n hn h hf (by omega) h2 w hbx hev
        · exact lays_no3 a hA ox sx x n hn h hf (by omega) (by omega) (by omega) (by unfold Fits at hf; omega) w hbx hev
end Go.Proofs.YtdfkpjffmjeffaaDoor
