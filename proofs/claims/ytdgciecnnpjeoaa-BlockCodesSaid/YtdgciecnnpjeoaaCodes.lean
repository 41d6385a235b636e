/- The statement BlockCodes' walk. -/
import Derived.Test.YtdgciecnnpjeoaaRdec
namespace Go.Proofs.Ytdgciecnnpjeoaa
set_option linter.unusedSimpArgs false
set_option linter.unusedVariables false
open Go.RowKit

theorem got_at {w : World} {g : Nat} {b : Bk} {sv : Value} {n e : Int} (h : Blk w g (gotA b sv n e).toList) : At w g 0 (b.arr sv) := fun j hj => h.cell (by
  simp only [gotA, Bk.arr, Nat.zero_add]
  rw [List.getElem?_append_left (by simpa [Bk.arr] using hj)]
  exact List.getElem?_eq_getElem _)
theorem got_n {b : Bk} (hw : b.Wf) (sv : Value) (n e : Int) : (gotA b sv n e).toList[45]? = some (.int .u32 n) := by
  simp only [gotA]
  rw [List.getElem?_append_right (by rw [b.cells_length hw]; omega), b.cells_length hw]
  rfl
theorem got_e {b : Bk} (hw : b.Wf) (sv : Value) (n e : Int) : (gotA b sv n e).toList[46]? = some (.int .i64 e) := by
  simp only [gotA]
  rw [List.getElem?_append_right (by rw [b.cells_length hw]; omega), b.cells_length hw]
  rfl
set_option maxHeartbeats 4000000 in
set_option maxRecDepth 100000 in
theorem codes_long (b : Bk) (sv : Value) (hb : b.Wf) (n : Int) (hn : 0 ≤ n ∧ n < 4294967296) (s : List Int) (hs : Sc s) (hl : 300 < b.bytes.length) (w : World) (hbs : BytesAt w sv b.bytes) : Calls Try.prog 3 #[.agg (b.arr sv), .int .u32 n, .agg (u8s s).toArray] w fun e w' => e = .returned (.bool true) ∧ Below w.heap.size w w' := by
  have HWb := Lib.hid hb
  have HZb := Lib.hid fun v => b.arr_size hb v
  have HZ0 := Lib.hid (b.arr_size hb sv)
  have HXb := Lib.hid (sec_length hb n)
  have HSb : Hid ((u8s (b.sec n)).toArray.size = 64) := Lib.hid (by rw [u8s_size, HXb.out])
  have HSL : Hid ((u8s s).toArray.size = 64) := Lib.hid (by rw [u8s_size, hs.length])
  have HNN := Lib.hid hn
  have HSS := Lib.hid hs
  have HWD := Lib.hid (decB_wf hs)
  have HEQ := Lib.hid fun w => eql30 w (b.sec n) (b.sec n) (sec_length hb n) (sec_length hb n)
  rw [decide_eq_true (rfl : b.sec n = b.sec n)] at HEQ
  obtain ⟨ab, capb, hsvb⟩ := hbs.len
  have HSVb := Lib.hid hsvb
  have FYB := Lib.hid hbs
  have HBL : Hid (Below w.heap.size w w) := Lib.hid (Below.refl _ _)
  have hl2 : (300 : Int) < b.bytes.length := by omega
  clear hb hn hs hbs hsvb
  go_enter Try.func3, Try.ntmps3
  repeat (first | (with_reducible refine stopR (id := 0) ?_) | go_values | go_skip | go_guarded | go_step | go_upon | go_back)
  refine Stop.mk (wp_region_lit ?_)
  refine box_g rfl rfl ?_
  intro w1 hA hb hl
  try simp only [Act.put, List.setIfInBounds_toArray, List.set_cons_succ, List.set_cons_zero]
  clear hl
  have F2 := Lib.hid (HBL.out.trans (hb.mono HBL.out.size))
  have F3 := Lib.hid (FYB.out.below hb)
  clear HBL FYB
  have F4 := Lib.hid (show BAt _ _ b sv from ⟨hA, HWb.out⟩)
  clear hA hb
  refine box_g rfl rfl ?_
  intro w5 hA hb hl
  try simp only [Act.put, List.setIfInBounds_toArray, List.set_cons_succ, List.set_cons_zero]
  clear hl
  have F6 := Lib.hid (F2.out.trans (hb.mono F2.out.size))
  have F7 := Lib.hid (F3.out.below hb)
  have F8 := Lib.hid (F4.out.below hb F4.out.lt)
  clear F2 F3 F4
  have F9 := Lib.hid hA
  clear hA hb
  generalize w1.heap.size = g10 at *
  clear w1
  refine takeL (.bool false) rfl (by go_simp) ?_
  try simp only [Act.put, List.setIfInBounds_toArray, List.set_cons_succ, List.set_cons_zero]
  refine wpList_nil ?_
  repeat (first | (with_reducible refine stopR (id := 1) ?_) | go_values | go_skip | go_guarded | go_step | go_upon | go_back)
  refine Stop.mk (wp_region_lit ?_)
  refine takeL (.pointer (some ⟨w.heap.size, 35, none⟩)) rfl (by go_simp) ?_
  try simp only [Act.put, List.setIfInBounds_toArray, List.set_cons_succ, List.set_cons_zero]
  refine takeL (.slice ab b.bytes.length capb) rfl (by have hq := F8.out.c35.trans (congrArg some HSVb.out); go_simp) ?_
  try simp only [Act.put, List.setIfInBounds_toArray, List.set_cons_succ, List.set_cons_zero]
  refine takeL (.int .i64 (b.bytes.length)) rfl (by go_simp) ?_
  try simp only [Act.put, List.setIfInBounds_toArray, List.set_cons_succ, List.set_cons_zero]
  refine takeL (.bool true) rfl (by go_simp) ?_
  try simp only [Act.put, List.setIfInBounds_toArray, List.set_cons_succ, List.set_cons_zero]
  refine wpList_nil ?_
  repeat (first | (with_reducible refine stopR (id := 2) ?_) | go_values | go_skip | go_guarded | go_step | go_upon | go_back)
  refine Stop.mk (wp_region_lit ?_)
  refine wpList_op rfl fun K hK => ?_
  go_simp
  refine (wakes_any _).mono ?_
  rintro e w11 ⟨rfl, hb⟩
  have F12 := Lib.hid (F6.out.trans (hb.mono F6.out.size))
  have F13 := Lib.hid (F7.out.below hb)
  have F14 := Lib.hid (F8.out.below hb F8.out.lt)
  have F15 := Lib.hid (F9.out.below hb F9.out.lt)
  clear F6 F7 F8 F9
  clear hb
  refine hK _ _ ?_
  clear hK K
  try simp only [Act.put, List.setIfInBounds_toArray, List.set_cons_succ, List.set_cons_zero]
  refine takeL (.bool true) rfl (by go_simp) ?_
  try simp only [Act.put, List.setIfInBounds_toArray, List.set_cons_succ, List.set_cons_zero]
  refine wpList_nil ?_
  go_wp2_with fail
  go_ret
  exact ⟨rfl, F12.out⟩
set_option maxHeartbeats 4000000 in
set_option maxRecDepth 100000 in
theorem codes_short (b : Bk) (sv : Value) (hb : b.Wf) (n : Int) (hn : 0 ≤ n ∧ n < 4294967296) (s : List Int) (hs : Sc s) (hl : b.bytes.length ≤ 300) (w : World) (hbs : BytesAt w sv b.bytes) : Calls Try.prog 3 #[.agg (b.arr sv), .int .u32 n, .agg (u8s s).toArray] w fun e w' => e = .returned (.bool true) ∧ Below w.heap.size w w' := by
  have HWb := Lib.hid hb
  have HZb := Lib.hid fun v => b.arr_size hb v
  have HZ0 := Lib.hid (b.arr_size hb sv)
  have HXb := Lib.hid (sec_length hb n)
  have HSb : Hid ((u8s (b.sec n)).toArray.size = 64) := Lib.hid (by rw [u8s_size, HXb.out])
  have HSL : Hid ((u8s s).toArray.size = 64) := Lib.hid (by rw [u8s_size, hs.length])
  have HNN := Lib.hid hn
  have HSS := Lib.hid hs
  have HWD := Lib.hid (decB_wf hs)
  have HEQ := Lib.hid fun w => eql30 w (b.sec n) (b.sec n) (sec_length hb n) (sec_length hb n)
  rw [decide_eq_true (rfl : b.sec n = b.sec n)] at HEQ
  obtain ⟨ab, capb, hsvb⟩ := hbs.len
  have HSVb := Lib.hid hsvb
  have FYB := Lib.hid hbs
  have HBL : Hid (Below w.heap.size w w) := Lib.hid (Below.refl _ _)
  have hl1 : ¬ (300 : Int) < b.bytes.length := by omega
  clear hb hn hs hbs hsvb
  go_enter Try.func3, Try.ntmps3
  repeat (first | (with_reducible refine stopR (id := 0) ?_) | go_values | go_skip | go_guarded | go_step | go_upon | go_back)
  refine Stop.mk (wp_region_lit ?_)
  refine box_g rfl rfl ?_
  intro w1 hA hb hl
  try simp only [Act.put, List.setIfInBounds_toArray, List.set_cons_succ, List.set_cons_zero]
  clear hl
  have F2 := Lib.hid (HBL.out.trans (hb.mono HBL.out.size))
  have F3 := Lib.hid (FYB.out.below hb)
  clear HBL FYB
  have F4 := Lib.hid (show BAt _ _ b sv from ⟨hA, HWb.out⟩)
  clear hA hb
  refine box_g rfl rfl ?_
  intro w5 hA hb hl
  try simp only [Act.put, List.setIfInBounds_toArray, List.set_cons_succ, List.set_cons_zero]
  clear hl
  have F6 := Lib.hid (F2.out.trans (hb.mono F2.out.size))
  have F7 := Lib.hid (F3.out.below hb)
  have F8 := Lib.hid (F4.out.below hb F4.out.lt)
  clear F2 F3 F4
  have F9 := Lib.hid hA
  clear hA hb
  generalize w1.heap.size = g10 at *
  clear w1
  refine takeL (.bool false) rfl (by go_simp) ?_
  try simp only [Act.put, List.setIfInBounds_toArray, List.set_cons_succ, List.set_cons_zero]
  refine wpList_nil ?_
  repeat (first | (with_reducible refine stopR (id := 1) ?_) | go_values | go_skip | go_guarded | go_step | go_upon | go_back)
  refine Stop.mk (wp_region_lit ?_)
  refine takeL (.pointer (some ⟨w.heap.size, 35, none⟩)) rfl (by go_simp) ?_
  try simp only [Act.put, List.setIfInBounds_toArray, List.set_cons_succ, List.set_cons_zero]
  refine takeL (.slice ab b.bytes.length capb) rfl (by have hq := F8.out.c35.trans (congrArg some HSVb.out); go_simp) ?_
  try simp only [Act.put, List.setIfInBounds_toArray, List.set_cons_succ, List.set_cons_zero]
  refine takeL (.int .i64 (b.bytes.length)) rfl (by go_simp) ?_
  try simp only [Act.put, List.setIfInBounds_toArray, List.set_cons_succ, List.set_cons_zero]
  refine takeL (.bool false) rfl (by go_simp) ?_
  try simp only [Act.put, List.setIfInBounds_toArray, List.set_cons_succ, List.set_cons_zero]
  refine wpList_nil ?_
  repeat (first | (with_reducible refine stopR (id := 3) ?_) | go_values | go_skip | go_guarded | go_step | go_upon | go_back)
  refine Stop.mk (wp_region_lit ?_)
  refine load27 (cs := (b.arr sv)) F8.out.all HZ0.out rfl rfl ?_
  try simp only [Act.put, List.setIfInBounds_toArray, List.set_cons_succ, List.set_cons_zero]
  refine wpList_op rfl fun K hK => ?_
  go_simp
  refine (own_any b sv HWb.out hl _ F7.out).mono ?_
  rintro e w11 ⟨ov, rfl, hby, hb⟩
  have F12 := Lib.hid (F6.out.trans (hb.mono F6.out.size))
  have F13 := Lib.hid (F7.out.below hb)
  have F14 := Lib.hid (F8.out.below hb F8.out.lt)
  have F15 := Lib.hid (F9.out.below hb F9.out.lt)
  clear F6 F7 F8 F9
  have F16 := Lib.hid hby
  clear hb hby
  refine hK _ _ ?_
  clear hK K
  try simp only [Act.put, List.setIfInBounds_toArray, List.set_cons_succ, List.set_cons_zero]
  refine alloc_g zero27b rfl ?_
  intro w17 hC hBC hlC
  try simp only [Act.put, List.setIfInBounds_toArray, List.set_cons_succ, List.set_cons_zero]
  have HZo := Lib.hid (HZb.out ov)
  refine store_all (cs := (b.arr ov)) hC (by rw [HZo.out]; rfl) (by rw [HZo.out]; exact info27) (arr_form _ F16.out) rfl rfl rfl ?_
  intro w18 hD hOD hlD
  try simp only [Act.put, List.setIfInBounds_toArray, List.set_cons_succ, List.set_cons_zero]
  have hb := hBC.trans (hOD.below hBC.size (fun k hk => Nat.le_of_eq hk.symm))
  have F19 := Lib.hid (F12.out.trans (hb.mono F12.out.size))
  have F20 := Lib.hid (F13.out.below hb)
  have F21 := Lib.hid (F14.out.below hb F14.out.lt)
  have F22 := Lib.hid (F15.out.below hb F15.out.lt)
  have F23 := Lib.hid (F16.out.below hb)
  clear F12 F13 F14 F15 F16
  have F24 := Lib.hid (show BAt _ _ b ov from ⟨hD, HWb.out⟩)
  clear hC hBC hlC hD hOD hlD hb
  generalize w11.heap.size = g25 at *
  clear w17 w11
  refine wpList_nil ?_
  repeat (first | (with_reducible refine stopR (id := 4) ?_) | go_values | go_skip | go_guarded | go_step | go_upon | go_back)
  refine Stop.mk (wp_region_lit ?_)
  refine load27 (cs := (b.arr ov)) F24.out.all HZo.out rfl rfl ?_
  try simp only [Act.put, List.setIfInBounds_toArray, List.set_cons_succ, List.set_cons_zero]
  refine takeL (.int .u32 n) rfl (by go_simp) ?_
  try simp only [Act.put, List.setIfInBounds_toArray, List.set_cons_succ, List.set_cons_zero]
  refine wpList_op rfl fun K hK => ?_
  go_simp
  refine (encode_any b ov n _ F23.out HWb.out HNN.out).mono ?_
  rintro e w26 ⟨rfl, hb⟩
  have F27 := Lib.hid (F19.out.trans (hb.mono F19.out.size))
  have F28 := Lib.hid (F20.out.below hb)
  have F29 := Lib.hid (F21.out.below hb F21.out.lt)
  have F30 := Lib.hid (F22.out.below hb F22.out.lt)
  have F31 := Lib.hid (F23.out.below hb)
  have F32 := Lib.hid (F24.out.below hb F24.out.lt)
  clear F19 F20 F21 F22 F23 F24
  clear hb
  refine hK _ _ ?_
  clear hK K
  try simp only [Act.put, List.setIfInBounds_toArray, List.set_cons_succ, List.set_cons_zero]
  refine takeL (.tuple #[.agg (u8s (b.sec n)).toArray, .int .i64 b.err]) rfl (by go_simp) ?_
  try simp only [Act.put, List.setIfInBounds_toArray, List.set_cons_succ, List.set_cons_zero]
  refine takeL (.agg (u8s (b.sec n)).toArray) rfl (by go_simp) ?_
  try simp only [Act.put, List.setIfInBounds_toArray, List.set_cons_succ, List.set_cons_zero]
  refine takeL (.int .i64 b.err) rfl (by go_simp) ?_
  try simp only [Act.put, List.setIfInBounds_toArray, List.set_cons_succ, List.set_cons_zero]
  refine alloc_g zero30 rfl ?_
  intro w33 hC hBC hlC
  try simp only [Act.put, List.setIfInBounds_toArray, List.set_cons_succ, List.set_cons_zero]
  refine store_all (cs := (u8s (b.sec n)).toArray) hC (by rw [HSb.out]; simp [zeros]) (by rw [HSb.out]; exact info30) (u8s_one _) rfl rfl rfl ?_
  intro w34 hD hOD hlD
  try simp only [Act.put, List.setIfInBounds_toArray, List.set_cons_succ, List.set_cons_zero]
  have hb := hBC.trans (hOD.below hBC.size (fun k hk => Nat.le_of_eq hk.symm))
  have F35 := Lib.hid (F27.out.trans (hb.mono F27.out.size))
  have F36 := Lib.hid (F28.out.below hb)
  have F37 := Lib.hid (F29.out.below hb F29.out.lt)
  have F38 := Lib.hid (F30.out.below hb F30.out.lt)
  have F39 := Lib.hid (F31.out.below hb)
  have F40 := Lib.hid (F32.out.below hb F32.out.lt)
  clear F27 F28 F29 F30 F31 F32
  have F41 := Lib.hid hD
  clear hC hBC hlC hD hOD hlD hb
  generalize w26.heap.size = g42 at *
  clear w33 w26
  refine takeL (.int .i64 b.err) rfl (by go_simp) ?_
  try simp only [Act.put, List.setIfInBounds_toArray, List.set_cons_succ, List.set_cons_zero]
  refine wpList_nil ?_
  repeat (first | (with_reducible refine stopR (id := 5) ?_) | go_values | go_skip | go_guarded | go_step | go_upon | go_back)
  refine Stop.mk (wp_region_lit ?_)
  refine load27 (cs := (b.arr sv)) F37.out.all HZ0.out rfl rfl ?_
  try simp only [Act.put, List.setIfInBounds_toArray, List.set_cons_succ, List.set_cons_zero]
  refine takeL (.int .u32 n) rfl (by go_simp) ?_
  try simp only [Act.put, List.setIfInBounds_toArray, List.set_cons_succ, List.set_cons_zero]
  refine wpList_op rfl fun K hK => ?_
  go_simp
  refine (rencode_any b sv n _ F36.out HWb.out HNN.out).mono ?_
  rintro e w43 ⟨rfl, hb⟩
  have F44 := Lib.hid (F35.out.trans (hb.mono F35.out.size))
  have F45 := Lib.hid (F36.out.below hb)
  have F46 := Lib.hid (F37.out.below hb F37.out.lt)
  have F47 := Lib.hid (F38.out.below hb F38.out.lt)
  have F48 := Lib.hid (F39.out.below hb)
  have F49 := Lib.hid (F40.out.below hb F40.out.lt)
  have F50 := Lib.hid (F41.out.below hb F41.out.lt)
  clear F35 F36 F37 F38 F39 F40 F41
  clear hb
  refine hK _ _ ?_
  clear hK K
  try simp only [Act.put, List.setIfInBounds_toArray, List.set_cons_succ, List.set_cons_zero]
  refine takeL (.tuple #[.agg (u8s (b.sec n)).toArray, .int .i64 b.err]) rfl (by go_simp) ?_
  try simp only [Act.put, List.setIfInBounds_toArray, List.set_cons_succ, List.set_cons_zero]
  refine takeL (.agg (u8s (b.sec n)).toArray) rfl (by go_simp) ?_
  try simp only [Act.put, List.setIfInBounds_toArray, List.set_cons_succ, List.set_cons_zero]
  refine takeL (.int .i64 b.err) rfl (by go_simp) ?_
  try simp only [Act.put, List.setIfInBounds_toArray, List.set_cons_succ, List.set_cons_zero]
  refine alloc_g zero30 rfl ?_
  intro w51 hC hBC hlC
  try simp only [Act.put, List.setIfInBounds_toArray, List.set_cons_succ, List.set_cons_zero]
  refine store_all (cs := (u8s (b.sec n)).toArray) hC (by rw [HSb.out]; simp [zeros]) (by rw [HSb.out]; exact info30) (u8s_one _) rfl rfl rfl ?_
  intro w52 hD hOD hlD
  try simp only [Act.put, List.setIfInBounds_toArray, List.set_cons_succ, List.set_cons_zero]
  have hb := hBC.trans (hOD.below hBC.size (fun k hk => Nat.le_of_eq hk.symm))
  have F53 := Lib.hid (F44.out.trans (hb.mono F44.out.size))
  have F54 := Lib.hid (F45.out.below hb)
  have F55 := Lib.hid (F46.out.below hb F46.out.lt)
  have F56 := Lib.hid (F47.out.below hb F47.out.lt)
  have F57 := Lib.hid (F48.out.below hb)
  have F58 := Lib.hid (F49.out.below hb F49.out.lt)
  have F59 := Lib.hid (F50.out.below hb F50.out.lt)
  clear F44 F45 F46 F47 F48 F49 F50
  have F60 := Lib.hid hD
  clear hC hBC hlC hD hOD hlD hb
  generalize w43.heap.size = g61 at *
  clear w51 w43
  refine takeL (.int .i64 b.err) rfl (by go_simp) ?_
  try simp only [Act.put, List.setIfInBounds_toArray, List.set_cons_succ, List.set_cons_zero]
  refine wpList_nil ?_
  repeat (first | (with_reducible refine stopR (id := 6) ?_) | go_values | go_skip | go_guarded | go_step | go_upon | go_back)
  refine Stop.mk (wp_region_lit ?_)
  refine load30 (cs := (u8s s).toArray) (Blk.all F56.out rfl) HSL.out rfl rfl ?_
  try simp only [Act.put, List.setIfInBounds_toArray, List.set_cons_succ, List.set_cons_zero]
  refine wpList_op rfl fun K hK => ?_
  go_simp
  refine (decode_any s HSS.out _).mono ?_
  rintro e w62 ⟨dv, rfl, hby, hb⟩
  have F63 := Lib.hid (F53.out.trans (hb.mono F53.out.size))
  have F64 := Lib.hid (F54.out.below hb)
  have F65 := Lib.hid (F55.out.below hb F55.out.lt)
  have F66 := Lib.hid (F56.out.below hb F56.out.lt)
  have F67 := Lib.hid (F57.out.below hb)
  have F68 := Lib.hid (F58.out.below hb F58.out.lt)
  have F69 := Lib.hid (F59.out.below hb F59.out.lt)
  have F70 := Lib.hid (F60.out.below hb F60.out.lt)
  clear F53 F54 F55 F56 F57 F58 F59 F60
  have F71 := Lib.hid hby
  clear hb hby
  refine hK _ _ ?_
  clear hK K
  try simp only [Act.put, List.setIfInBounds_toArray, List.set_cons_succ, List.set_cons_zero]
  refine takeL (.tuple #[.agg ((decB s).arr dv), .int .u32 (decN s), .int .i64 (decE s)]) rfl (by go_simp) ?_
  try simp only [Act.put, List.setIfInBounds_toArray, List.set_cons_succ, List.set_cons_zero]
  refine takeL (.agg ((decB s).arr dv)) rfl (by go_simp) ?_
  try simp only [Act.put, List.setIfInBounds_toArray, List.set_cons_succ, List.set_cons_zero]
  refine takeL (.int .u32 (decN s)) rfl (by go_simp) ?_
  try simp only [Act.put, List.setIfInBounds_toArray, List.set_cons_succ, List.set_cons_zero]
  refine takeL (.int .i64 (decE s)) rfl (by go_simp) ?_
  try simp only [Act.put, List.setIfInBounds_toArray, List.set_cons_succ, List.set_cons_zero]
  refine alloc_g zero27b rfl ?_
  intro w72 hC hBC hlC
  try simp only [Act.put, List.setIfInBounds_toArray, List.set_cons_succ, List.set_cons_zero]
  have HZd := Lib.hid ((decB s).arr_size HWD.out dv)
  refine store_all (cs := ((decB s).arr dv)) hC (by rw [HZd.out]; rfl) (by rw [HZd.out]; exact info27) (arr_form _ F71.out) rfl rfl rfl ?_
  intro w73 hD hOD hlD
  try simp only [Act.put, List.setIfInBounds_toArray, List.set_cons_succ, List.set_cons_zero]
  have hb := hBC.trans (hOD.below hBC.size (fun k hk => Nat.le_of_eq hk.symm))
  have F74 := Lib.hid (F63.out.trans (hb.mono F63.out.size))
  have F75 := Lib.hid (F64.out.below hb)
  have F76 := Lib.hid (F65.out.below hb F65.out.lt)
  have F77 := Lib.hid (F66.out.below hb F66.out.lt)
  have F78 := Lib.hid (F67.out.below hb)
  have F79 := Lib.hid (F68.out.below hb F68.out.lt)
  have F80 := Lib.hid (F69.out.below hb F69.out.lt)
  have F81 := Lib.hid (F70.out.below hb F70.out.lt)
  have F82 := Lib.hid (F71.out.below hb)
  clear F63 F64 F65 F66 F67 F68 F69 F70 F71
  have F83 := Lib.hid (show BAt _ _ (decB s) dv from ⟨hD, HWD.out⟩)
  clear hC hBC hlC hD hOD hlD hb
  generalize w62.heap.size = g84 at *
  clear w72 w62
  refine takeL (.int .u32 (decN s)) rfl (by go_simp) ?_
  try simp only [Act.put, List.setIfInBounds_toArray, List.set_cons_succ, List.set_cons_zero]
  refine takeL (.int .i64 (decE s)) rfl (by go_simp) ?_
  try simp only [Act.put, List.setIfInBounds_toArray, List.set_cons_succ, List.set_cons_zero]
  refine wpList_nil ?_
  repeat (first | (with_reducible refine stopR (id := 7) ?_) | go_values | go_skip | go_guarded | go_step | go_upon | go_back)
  refine Stop.mk (wp_region_lit ?_)
  refine load30 (cs := (u8s s).toArray) (Blk.all F77.out rfl) HSL.out rfl rfl ?_
  try simp only [Act.put, List.setIfInBounds_toArray, List.set_cons_succ, List.set_cons_zero]
  refine wpList_op rfl fun K hK => ?_
  go_simp
  refine (rdecode_any s HSS.out _).mono ?_
  rintro e w85 ⟨rv, rfl, hby, hb⟩
  have F86 := Lib.hid (F74.out.trans (hb.mono F74.out.size))
  have F87 := Lib.hid (F75.out.below hb)
  have F88 := Lib.hid (F76.out.below hb F76.out.lt)
  have F89 := Lib.hid (F77.out.below hb F77.out.lt)
  have F90 := Lib.hid (F78.out.below hb)
  have F91 := Lib.hid (F79.out.below hb F79.out.lt)
  have F92 := Lib.hid (F80.out.below hb F80.out.lt)
  have F93 := Lib.hid (F81.out.below hb F81.out.lt)
  have F94 := Lib.hid (F82.out.below hb)
  have F95 := Lib.hid (F83.out.below hb F83.out.lt)
  clear F74 F75 F76 F77 F78 F79 F80 F81 F82 F83
  have F96 := Lib.hid hby
  clear hb hby
  refine hK _ _ ?_
  clear hK K
  try simp only [Act.put, List.setIfInBounds_toArray, List.set_cons_succ, List.set_cons_zero]
  refine alloc_g zero41b rfl ?_
  intro w97 hC hBC hlC
  try simp only [Act.put, List.setIfInBounds_toArray, List.set_cons_succ, List.set_cons_zero]
  have HZr := Lib.hid (gotA_size HWD.out rv (decN s) (decE s))
  have HZr2 := Lib.hid ((decB s).arr_size HWD.out rv)
  refine store_all (cs := (gotA (decB s) rv (decN s) (decE s))) hC (by rw [HZr.out]; rfl) (by rw [HZr.out]; exact info41) (gotA_one _ F96.out _ _) rfl rfl rfl ?_
  intro w98 hD hOD hlD
  try simp only [Act.put, List.setIfInBounds_toArray, List.set_cons_succ, List.set_cons_zero]
  have hb := hBC.trans (hOD.below hBC.size (fun k hk => Nat.le_of_eq hk.symm))
  have F99 := Lib.hid (F86.out.trans (hb.mono F86.out.size))
  have F100 := Lib.hid (F87.out.below hb)
  have F101 := Lib.hid (F88.out.below hb F88.out.lt)
  have F102 := Lib.hid (F89.out.below hb F89.out.lt)
  have F103 := Lib.hid (F90.out.below hb)
  have F104 := Lib.hid (F91.out.below hb F91.out.lt)
  have F105 := Lib.hid (F92.out.below hb F92.out.lt)
  have F106 := Lib.hid (F93.out.below hb F93.out.lt)
  have F107 := Lib.hid (F94.out.below hb)
  have F108 := Lib.hid (F95.out.below hb F95.out.lt)
  have F109 := Lib.hid (F96.out.below hb)
  clear F86 F87 F88 F89 F90 F91 F92 F93 F94 F95 F96
  have F110 := Lib.hid hD
  clear hC hBC hlC hD hOD hlD hb
  generalize w85.heap.size = g111 at *
  clear w97 w85
  refine wpList_nil ?_
  go_upto_region 8 with fail
  refine startH (fun wq => Below w98.heap.size w98 wq) (by kernel_rfl) ?_
  refine takeH 0 (some 43) (.agg (b.arr ov)) rfl rfl (by kernel_rfl) (by kernel_rfl) (by kernel_rfl) (fun _ _ _ h => h) rfl (fun wq hS => by exact exec_load_at wq _ _ 27 _ rfl g25 0 rfl (b.arr ov) _ Try.underlying27 rfl (by rw [HZo.out]; exact info27) (F104.out.below hS F104.out.lt).all) (Below.refl _ _).drew ?_
  try simp only [Act.put, List.setIfInBounds_toArray, List.set_cons_succ, List.set_cons_zero]
  refine takeH 2 (some 45) (.agg (b.arr sv)) rfl rfl (by kernel_rfl) (by kernel_rfl) (by kernel_rfl) (fun _ _ _ h => h) rfl (fun wq hS => by exact exec_load_at wq _ _ 27 _ rfl w.heap.size 0 rfl (b.arr sv) _ Try.underlying27 rfl (by rw [HZ0.out]; exact info27) (F101.out.below hS F101.out.lt).all) (Below.refl _ _).drew ?_
  try simp only [Act.put, List.setIfInBounds_toArray, List.set_cons_succ, List.set_cons_zero]
  refine oneH 1 (by kernel_rfl) rfl rfl fun K hK => ?_
  go_simp
  refine (good_any b ov (F103.out.below (Below.refl _ _).drew).len HWb.out _).mono ?_
  rintro e w112 ⟨rfl, hb⟩
  have HS113 := Lib.hid (stay (Below.refl _ _).drew hb)
  clear hb
  refine hK _ _ HS113.out ?_
  clear hK K
  try simp only [Act.put, List.setIfInBounds_toArray, List.set_cons_succ, List.set_cons_zero]
  refine oneH 3 (by kernel_rfl) rfl rfl fun K hK => ?_
  go_simp
  refine (rgood_any b sv (F100.out.below HS113.out).len HWb.out _).mono ?_
  rintro e w114 ⟨rfl, hb⟩
  have HS115 := Lib.hid (stay HS113.out hb)
  clear hb
  refine hK _ _ HS115.out ?_
  clear hK K
  try simp only [Act.put, List.setIfInBounds_toArray, List.set_cons_succ, List.set_cons_zero]
  refine takeH 4 (some 47) (.bool true) rfl rfl (by kernel_rfl) (by kernel_rfl) (by kernel_rfl) (fun _ _ _ h => h) rfl (fun wq hS => by go_simp) HS115.out ?_
  try simp only [Act.put, List.setIfInBounds_toArray, List.set_cons_succ, List.set_cons_zero]
  refine takeH 5 (some 48) (.bool true) rfl rfl (by kernel_rfl) (by kernel_rfl) (by kernel_rfl) (fun _ _ _ h => h) rfl (fun wq hS => by go_simp) HS115.out ?_
  try simp only [Act.put, List.setIfInBounds_toArray, List.set_cons_succ, List.set_cons_zero]
  refine takeH 6 (some 49) (.agg (u8s (b.sec n)).toArray) rfl rfl (by kernel_rfl) (by kernel_rfl) (by kernel_rfl) (fun _ _ _ h => h) rfl (fun wq hS => by exact exec_load_at wq _ _ 30 _ rfl g42 0 rfl (u8s (b.sec n)).toArray _ Try.underlying30 rfl (by rw [HSb.out]; exact info30) (Blk.all (F105.out.below hS F105.out.lt) rfl)) HS115.out ?_
  try simp only [Act.put, List.setIfInBounds_toArray, List.set_cons_succ, List.set_cons_zero]
  refine takeH 7 (some 50) (.agg (u8s (b.sec n)).toArray) rfl rfl (by kernel_rfl) (by kernel_rfl) (by kernel_rfl) (fun _ _ _ h => h) rfl (fun wq hS => by exact exec_load_at wq _ _ 30 _ rfl g61 0 rfl (u8s (b.sec n)).toArray _ Try.underlying30 rfl (by rw [HSb.out]; exact info30) (Blk.all (F106.out.below hS F106.out.lt) rfl)) HS115.out ?_
  try simp only [Act.put, List.setIfInBounds_toArray, List.set_cons_succ, List.set_cons_zero]
  refine takeH 8 (some 51) (.bool true) rfl rfl (by kernel_rfl) (by kernel_rfl) (by kernel_rfl) (fun _ _ _ h => h) rfl (fun wq hS => by have hq := HEQ.out; go_simp) HS115.out ?_
  try simp only [Act.put, List.setIfInBounds_toArray, List.set_cons_succ, List.set_cons_zero]
  refine takeH 9 (some 52) (.bool true) rfl rfl (by kernel_rfl) (by kernel_rfl) (by kernel_rfl) (fun _ _ _ h => h) rfl (fun wq hS => by go_simp) HS115.out ?_
  try simp only [Act.put, List.setIfInBounds_toArray, List.set_cons_succ, List.set_cons_zero]
  refine takeH 10 (some 53) (.bool true) rfl rfl (by kernel_rfl) (by kernel_rfl) (by kernel_rfl) (fun _ _ _ h => h) rfl (fun wq hS => by go_simp) HS115.out ?_
  try simp only [Act.put, List.setIfInBounds_toArray, List.set_cons_succ, List.set_cons_zero]
  refine takeH 11 (some 54) (.int .i64 b.err) rfl rfl (by kernel_rfl) (by kernel_rfl) (by kernel_rfl) (fun _ _ _ h => h) rfl (fun wq hS => by go_simp) HS115.out ?_
  try simp only [Act.put, List.setIfInBounds_toArray, List.set_cons_succ, List.set_cons_zero]
  refine takeH 12 (some 55) (.int .i64 b.err) rfl rfl (by kernel_rfl) (by kernel_rfl) (by kernel_rfl) (fun _ _ _ h => h) rfl (fun wq hS => by go_simp) HS115.out ?_
  try simp only [Act.put, List.setIfInBounds_toArray, List.set_cons_succ, List.set_cons_zero]
  refine takeH 13 (some 56) (.bool true) rfl rfl (by kernel_rfl) (by kernel_rfl) (by kernel_rfl) (fun _ _ _ h => h) rfl (fun wq hS => by go_simp) HS115.out ?_
  try simp only [Act.put, List.setIfInBounds_toArray, List.set_cons_succ, List.set_cons_zero]
  refine takeH 14 (some 57) (.bool true) rfl rfl (by kernel_rfl) (by kernel_rfl) (by kernel_rfl) (fun _ _ _ h => h) rfl (fun wq hS => by go_simp) HS115.out ?_
  try simp only [Act.put, List.setIfInBounds_toArray, List.set_cons_succ, List.set_cons_zero]
  refine takeH 15 (some 58) (.bool true) rfl rfl (by kernel_rfl) (by kernel_rfl) (by kernel_rfl) (fun _ _ _ h => h) rfl (fun wq hS => by go_simp) HS115.out ?_
  try simp only [Act.put, List.setIfInBounds_toArray, List.set_cons_succ, List.set_cons_zero]
  refine takeH 16 (some 59) (.agg ((decB s).arr dv)) rfl rfl (by kernel_rfl) (by kernel_rfl) (by kernel_rfl) (fun _ _ _ h => h) rfl (fun wq hS => by exact exec_load_at wq _ _ 27 _ rfl g84 0 rfl ((decB s).arr dv) _ Try.underlying27 rfl (by rw [HZd.out]; exact info27) (F108.out.below hS F108.out.lt).all) HS115.out ?_
  try simp only [Act.put, List.setIfInBounds_toArray, List.set_cons_succ, List.set_cons_zero]
  refine takeH 17 (some 60) (.pointer (some ⟨g111, 0, none⟩)) rfl rfl (by kernel_rfl) (by kernel_rfl) (by kernel_rfl) (fun _ _ _ h => h) rfl (fun wq hS => by go_simp) HS115.out ?_
  try simp only [Act.put, List.setIfInBounds_toArray, List.set_cons_succ, List.set_cons_zero]
  refine takeH 18 (some 61) (.agg ((decB s).arr rv)) rfl rfl (by kernel_rfl) (by kernel_rfl) (by kernel_rfl) (fun _ _ _ h => h) rfl (fun wq hS => by exact exec_load_at wq _ _ 27 _ rfl g111 0 rfl ((decB s).arr rv) _ Try.underlying27 rfl (by rw [HZr2.out]; exact info27) (got_at (F110.out.below hS F110.out.lt))) HS115.out ?_
  try simp only [Act.put, List.setIfInBounds_toArray, List.set_cons_succ, List.set_cons_zero]
  refine oneH 19 (by kernel_rfl) rfl rfl fun K hK => ?_
  go_simp
  refine (block_self HWD.out dv rv _ (F107.out.below HS115.out) (F109.out.below HS115.out)).mono ?_
  rintro e w116 ⟨rfl, hb⟩
  have HS117 := Lib.hid (stay HS115.out hb)
  clear hb
  refine hK _ _ HS117.out ?_
  clear hK K
  try simp only [Act.put, List.setIfInBounds_toArray, List.set_cons_succ, List.set_cons_zero]
  refine takeH 20 (some 63) (.bool true) rfl rfl (by kernel_rfl) (by kernel_rfl) (by kernel_rfl) (fun _ _ _ h => h) rfl (fun wq hS => by go_simp) HS117.out ?_
  try simp only [Act.put, List.setIfInBounds_toArray, List.set_cons_succ, List.set_cons_zero]
  refine takeH 21 (some 64) (.bool true) rfl rfl (by kernel_rfl) (by kernel_rfl) (by kernel_rfl) (fun _ _ _ h => h) rfl (fun wq hS => by go_simp) HS117.out ?_
  try simp only [Act.put, List.setIfInBounds_toArray, List.set_cons_succ, List.set_cons_zero]
  refine takeH 22 (some 65) (.int .u32 (decN s)) rfl rfl (by kernel_rfl) (by kernel_rfl) (by kernel_rfl) (fun _ _ _ h => h) rfl (fun wq hS => by go_simp) HS117.out ?_
  try simp only [Act.put, List.setIfInBounds_toArray, List.set_cons_succ, List.set_cons_zero]
  refine takeH 23 (some 66) (.pointer (some ⟨g111, 45, none⟩)) rfl rfl (by kernel_rfl) (by kernel_rfl) (by kernel_rfl) (fun _ _ _ h => h) rfl (fun wq hS => by go_simp) HS117.out ?_
  try simp only [Act.put, List.setIfInBounds_toArray, List.set_cons_succ, List.set_cons_zero]
  refine takeH 24 (some 67) (.int .u32 (decN s)) rfl rfl (by kernel_rfl) (by kernel_rfl) (by kernel_rfl) (fun _ _ _ h => h) rfl (fun wq hS => by have hq := (F110.out.below hS F110.out.lt).cell (got_n HWD.out rv (decN s) (decE s)); go_simp) HS117.out ?_
  try simp only [Act.put, List.setIfInBounds_toArray, List.set_cons_succ, List.set_cons_zero]
  refine takeH 25 (some 68) (.bool true) rfl rfl (by kernel_rfl) (by kernel_rfl) (by kernel_rfl) (fun _ _ _ h => h) rfl (fun wq hS => by go_simp) HS117.out ?_
  try simp only [Act.put, List.setIfInBounds_toArray, List.set_cons_succ, List.set_cons_zero]
  refine takeH 26 (some 69) (.bool true) rfl rfl (by kernel_rfl) (by kernel_rfl) (by kernel_rfl) (fun _ _ _ h => h) rfl (fun wq hS => by go_simp) HS117.out ?_
  try simp only [Act.put, List.setIfInBounds_toArray, List.set_cons_succ, List.set_cons_zero]
  refine takeH 27 (some 70) (.bool true) rfl rfl (by kernel_rfl) (by kernel_rfl) (by kernel_rfl) (fun _ _ _ h => h) rfl (fun wq hS => by go_simp) HS117.out ?_
  try simp only [Act.put, List.setIfInBounds_toArray, List.set_cons_succ, List.set_cons_zero]
  refine takeH 28 (some 71) (.int .i64 (decE s)) rfl rfl (by kernel_rfl) (by kernel_rfl) (by kernel_rfl) (fun _ _ _ h => h) rfl (fun wq hS => by go_simp) HS117.out ?_
  try simp only [Act.put, List.setIfInBounds_toArray, List.set_cons_succ, List.set_cons_zero]
  refine takeH 29 (some 72) (.pointer (some ⟨g111, 46, none⟩)) rfl rfl (by kernel_rfl) (by kernel_rfl) (by kernel_rfl) (fun _ _ _ h => h) rfl (fun wq hS => by go_simp) HS117.out ?_
  try simp only [Act.put, List.setIfInBounds_toArray, List.set_cons_succ, List.set_cons_zero]
  refine takeH 30 (some 73) (.int .i64 (decE s)) rfl rfl (by kernel_rfl) (by kernel_rfl) (by kernel_rfl) (fun _ _ _ h => h) rfl (fun wq hS => by have hq := (F110.out.below hS F110.out.lt).cell (got_e HWD.out rv (decN s) (decE s)); go_simp) HS117.out ?_
  try simp only [Act.put, List.setIfInBounds_toArray, List.set_cons_succ, List.set_cons_zero]
  refine takeH 31 (some 74) (.bool true) rfl rfl (by kernel_rfl) (by kernel_rfl) (by kernel_rfl) (fun _ _ _ h => h) rfl (fun wq hS => by go_simp) HS117.out ?_
  try simp only [Act.put, List.setIfInBounds_toArray, List.set_cons_succ, List.set_cons_zero]
  refine takeH 32 (some 75) (.bool true) rfl rfl (by kernel_rfl) (by kernel_rfl) (by kernel_rfl) (fun _ _ _ h => h) rfl (fun wq hS => by go_simp) HS117.out ?_
  try simp only [Act.put, List.setIfInBounds_toArray, List.set_cons_succ, List.set_cons_zero]
  refine takeH 33 (some 76) (.bool true) rfl rfl (by kernel_rfl) (by kernel_rfl) (by kernel_rfl) (fun _ _ _ h => h) rfl (fun wq hS => by go_simp) HS117.out ?_
  try simp only [Act.put, List.setIfInBounds_toArray, List.set_cons_succ, List.set_cons_zero]
  refine takeH 34 (some 77) (.agg (b.arr ov)) rfl rfl (by kernel_rfl) (by kernel_rfl) (by kernel_rfl) (fun _ _ _ h => h) rfl (fun wq hS => by exact exec_load_at wq _ _ 27 _ rfl g25 0 rfl (b.arr ov) _ Try.underlying27 rfl (by rw [HZo.out]; exact info27) (F104.out.below hS F104.out.lt).all) HS117.out ?_
  try simp only [Act.put, List.setIfInBounds_toArray, List.set_cons_succ, List.set_cons_zero]
  refine takeH 35 (some 78) (.agg (b.arr sv)) rfl rfl (by kernel_rfl) (by kernel_rfl) (by kernel_rfl) (fun _ _ _ h => h) rfl (fun wq hS => by exact exec_load_at wq _ _ 27 _ rfl w.heap.size 0 rfl (b.arr sv) _ Try.underlying27 rfl (by rw [HZ0.out]; exact info27) (F101.out.below hS F101.out.lt).all) HS117.out ?_
  try simp only [Act.put, List.setIfInBounds_toArray, List.set_cons_succ, List.set_cons_zero]
  refine oneH 36 (by kernel_rfl) rfl rfl fun K hK => ?_
  go_simp
  refine (block_self HWb.out ov sv _ (F103.out.below HS117.out) (F100.out.below HS117.out)).mono ?_
  rintro e w118 ⟨rfl, hb⟩
  have HS119 := Lib.hid (stay HS117.out hb)
  clear hb
  refine hK _ _ HS119.out ?_
  clear hK K
  try simp only [Act.put, List.setIfInBounds_toArray, List.set_cons_succ, List.set_cons_zero]
  refine takeH 37 (some 80) (.bool true) rfl rfl (by kernel_rfl) (by kernel_rfl) (by kernel_rfl) (fun _ _ _ h => h) rfl (fun wq hS => by go_simp) HS119.out ?_
  try simp only [Act.put, List.setIfInBounds_toArray, List.set_cons_succ, List.set_cons_zero]
  refine takeH 38 (some 81) (.bool true) rfl rfl (by kernel_rfl) (by kernel_rfl) (by kernel_rfl) (fun _ _ _ h => h) rfl (fun wq hS => by go_simp) HS119.out ?_
  try simp only [Act.put, List.setIfInBounds_toArray, List.set_cons_succ, List.set_cons_zero]
  refine oneH 39 (by kernel_rfl) rfl rfl fun K hK => ?_
  go_simp
  refine (wakes_any _).mono ?_
  rintro e w120 ⟨rfl, hb⟩
  have HS121 := Lib.hid (stay HS119.out hb)
  clear hb
  refine hK _ _ HS121.out ?_
  clear hK K
  try simp only [Act.put, List.setIfInBounds_toArray, List.set_cons_succ, List.set_cons_zero]
  refine takeH 40 (some 83) (.bool true) rfl rfl (by kernel_rfl) (by kernel_rfl) (by kernel_rfl) (fun _ _ _ h => h) rfl (fun wq hS => by go_simp) HS121.out ?_
  try simp only [Act.put, List.setIfInBounds_toArray, List.set_cons_succ, List.set_cons_zero]
  refine takeH 41 (some 6) (.bool true) rfl rfl (by kernel_rfl) (by kernel_rfl) (by kernel_rfl) (fun _ _ _ h => h) rfl (fun wq hS => by go_simp) HS121.out ?_
  try simp only [Act.put, List.setIfInBounds_toArray, List.set_cons_succ, List.set_cons_zero]
  refine wpAnyH_done (by kernel_rfl) ?_ _
  go_wp2_with fail
  go_ret
  exact ⟨rfl, F99.out.trans (HS121.out.mono F99.out.size)⟩
theorem codes_any (b : Bk) (sv : Value) (hb : b.Wf) (n : Int) (hn : 0 ≤ n ∧ n < 4294967296) (s : List Int) (hs : Sc s) (w : World) (hbs : BytesAt w sv b.bytes) : Calls Try.prog 3 #[.agg (b.arr sv), .int .u32 n, .agg (u8s s).toArray] w fun e w' => e = .returned (.bool true) ∧ Below w.heap.size w w' := by
  by_cases h1 : b.bytes.length ≤ 300
  · exact codes_short b sv hb n hn s hs h1 w hbs
  · exact codes_long b sv hb n hn s hs (by omega) w hbs
end Go.Proofs.Ytdgciecnnpjeoaa
