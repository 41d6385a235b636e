/- The statement RegionCodes' walk. -/
import Derived.Test.YtlleafhfogfngaaDoorRdec
namespace Go.Proofs.YtlleafhfogfngaaDoor
set_option linter.unusedSimpArgs false
set_option linter.unusedVariables false
open Go.RowKit

set_option maxHeartbeats 1000000 in
set_option maxRecDepth 100000 in
theorem codes_any (r : Rg) (hr : r.Wf) (x : List Int) (hx : Sc2 x) (w : World) (hev : ErrVar w) : Calls Tryd.prog 3 #[.agg r.cells.toArray, .agg (u8s x).toArray] w fun e w' => e = .returned (.bool true) ∧ Below w.heap.size w w' := by
  have HWN := Lib.hid none_wf
  have HZ128 := Lib.hid (zeros_length 128)
  have HWR := Lib.hid hr
  have HSC := Lib.hid hx
  have HXL := Lib.hid hx.length
  have HRS := Lib.hid (sec_length hr.len)
  have HWD := Lib.hid (dec_wf hx)
  have HBL : Hid (Below w.heap.size w w) := Lib.hid (Below.refl _ _)
  have HEV := Lib.hid hev
  have HE0 := Lib.hid hev.lt
  clear hev hr hx
  go_enter Tryd.func3, Tryd.ntmps3
  go_upto_region 0 with fail
  refine wp_region_lit ?_
  refine box_g rfl rfl ?_
  intro w1 hA hb hl
  try simp only [Act.put, List.setIfInBounds_toArray, List.set_cons_succ, List.set_cons_zero]
  clear hl
  have HG2 : Hid (w.heap.size ≤ w.heap.size) := Lib.hid HBL.out.size
  have F3 := Lib.hid (HBL.out.trans (hb.mono HBL.out.size))
  have F4 := Lib.hid (HEV.out.below (Nat.le_refl _) hb)
  clear HBL HEV
  have F5 : Hid (Blk w1 w.heap.size r.cells) := Lib.hid hA
  clear hA hb
  refine box_g rfl rfl ?_
  intro w6 hA hb hl
  try simp only [Act.put, List.setIfInBounds_toArray, List.set_cons_succ, List.set_cons_zero]
  clear hl
  have HN7 := Lib.hid (Nat.ne_of_lt F5.out.lt)
  have HG8 : Hid (w.heap.size ≤ w1.heap.size) := Lib.hid F3.out.size
  have F9 := Lib.hid (F3.out.trans (hb.mono F3.out.size))
  have F10 := Lib.hid (F4.out.below (Nat.le_refl _) hb)
  have F11 := Lib.hid (F5.out.below hb F5.out.lt)
  clear F3 F4 F5
  have F12 : Hid (Blk w6 w1.heap.size (u8s x)) := Lib.hid hA
  clear hA hb
  generalize w1.heap.size = g13 at *
  clear w1
  refine takeL (.bool false) rfl (by go_simp) ?_
  try simp only [Act.put, List.setIfInBounds_toArray, List.set_cons_succ, List.set_cons_zero]
  refine wpList_nil ?_
  go_upto_region 1 with fail
  refine wp_region_lit ?_
  refine load27 (cs := r.cells.toArray) (Blk.all F11.out rfl) (by rw [List.size_toArray]; exact HWR.out.cells) rfl rfl ?_
  try simp only [Act.put, List.setIfInBounds_toArray, List.set_cons_succ, List.set_cons_zero]
  refine wpList_op rfl fun K hK => ?_
  go_simp
  refine (encode_any r HWR.out _ F10.out).mono ?_
  rintro e w14 ⟨rfl, hb⟩
  have F15 := Lib.hid (F9.out.trans (hb.mono F9.out.size))
  have F16 := Lib.hid (F10.out.below (Nat.le_refl _) hb)
  have F17 := Lib.hid (F11.out.below hb F11.out.lt)
  have F18 := Lib.hid (F12.out.below hb F12.out.lt)
  clear F9 F10 F11 F12
  clear hb
  refine hK _ _ ?_
  clear hK K
  try simp only [Act.put, List.setIfInBounds_toArray, List.set_cons_succ, List.set_cons_zero]
  refine takeL (.tuple #[.agg (u8s r.sec).toArray, .int .i64 r.err]) rfl (by go_simp) ?_
  try simp only [Act.put, List.setIfInBounds_toArray, List.set_cons_succ, List.set_cons_zero]
  refine takeL (.agg (u8s r.sec).toArray) rfl (by go_simp) ?_
  try simp only [Act.put, List.setIfInBounds_toArray, List.set_cons_succ, List.set_cons_zero]
  refine takeL (.int .i64 r.err) rfl (by go_simp) ?_
  try simp only [Act.put, List.setIfInBounds_toArray, List.set_cons_succ, List.set_cons_zero]
  refine alloc_g zero30 rfl ?_
  intro w19 hA hb hl
  try simp only [Act.put, List.setIfInBounds_toArray, List.set_cons_succ, List.set_cons_zero]
  clear hl
  have HN20 := Lib.hid (Nat.ne_of_lt F17.out.lt)
  have HN21 := Lib.hid (Nat.ne_of_lt F18.out.lt)
  have HG22 : Hid (w.heap.size ≤ w14.heap.size) := Lib.hid F15.out.size
  have F23 := Lib.hid (F15.out.trans (hb.mono F15.out.size))
  have F24 := Lib.hid (F16.out.below (Nat.le_refl _) hb)
  have F25 := Lib.hid (F17.out.below hb F17.out.lt)
  have F26 := Lib.hid (F18.out.below hb F18.out.lt)
  clear F15 F16 F17 F18
  have F27 : Hid (Blk w19 w14.heap.size (u8s (zeros 128))) := Lib.hid hA
  clear hA hb
  generalize w14.heap.size = g28 at *
  clear w14
  refine store_all (cs := (u8s r.sec).toArray) F27.out (by simp only [u8s_size, List.size_toArray, List.length_map, HZ128.out, HRS.out]) (by rw [u8s_size, HRS.out]; exact info30) (u8s_one _) rfl rfl rfl ?_
  intro w29 hD hO hlD
  try simp only [Act.put, List.setIfInBounds_toArray, List.set_cons_succ, List.set_cons_zero]
  clear hlD
  have F30 := Lib.hid (F23.out.trans (hO.below F23.out.size (fun k hk => by rw [hk]; exact HG22.out)))
  have F31 := Lib.hid (F24.out.keep hO HG22.out HE0.out)
  have F32 := Lib.hid (F25.out.only hO (HN20.out))
  have F33 := Lib.hid (F26.out.only hO (HN21.out))
  clear F23 F24 F25 F26 F27
  have F27' : Hid (Blk w29 g28 (u8s r.sec)) := Lib.hid hD
  clear hD hO 
  refine takeL (.int .i64 r.err) rfl (by go_simp) ?_
  try simp only [Act.put, List.setIfInBounds_toArray, List.set_cons_succ, List.set_cons_zero]
  refine wpList_nil ?_
  go_upto_region 2 with fail
  refine wp_region_lit ?_
  refine load27 (cs := r.cells.toArray) (Blk.all F32.out rfl) (by rw [List.size_toArray]; exact HWR.out.cells) rfl rfl ?_
  try simp only [Act.put, List.setIfInBounds_toArray, List.set_cons_succ, List.set_cons_zero]
  refine wpList_op rfl fun K hK => ?_
  go_simp
  refine (rencode_any r HWR.out _).mono ?_
  rintro e w34 ⟨rfl, hb⟩
  have F35 := Lib.hid (F30.out.trans (hb.mono F30.out.size))
  have F36 := Lib.hid (F31.out.below (Nat.le_refl _) hb)
  have F37 := Lib.hid (F32.out.below hb F32.out.lt)
  have F38 := Lib.hid (F33.out.below hb F33.out.lt)
  have F39 := Lib.hid (F27'.out.below hb F27'.out.lt)
  clear F30 F31 F32 F33 F27'
  clear hb
  refine hK _ _ ?_
  clear hK K
  try simp only [Act.put, List.setIfInBounds_toArray, List.set_cons_succ, List.set_cons_zero]
  refine takeL (.tuple #[.agg (u8s r.sec).toArray, .int .i64 r.err]) rfl (by go_simp) ?_
  try simp only [Act.put, List.setIfInBounds_toArray, List.set_cons_succ, List.set_cons_zero]
  refine takeL (.agg (u8s r.sec).toArray) rfl (by go_simp) ?_
  try simp only [Act.put, List.setIfInBounds_toArray, List.set_cons_succ, List.set_cons_zero]
  refine takeL (.int .i64 r.err) rfl (by go_simp) ?_
  try simp only [Act.put, List.setIfInBounds_toArray, List.set_cons_succ, List.set_cons_zero]
  refine alloc_g zero30 rfl ?_
  intro w40 hA hb hl
  try simp only [Act.put, List.setIfInBounds_toArray, List.set_cons_succ, List.set_cons_zero]
  clear hl
  have HN41 := Lib.hid (Nat.ne_of_lt F37.out.lt)
  have HN42 := Lib.hid (Nat.ne_of_lt F38.out.lt)
  have HN43 := Lib.hid (Nat.ne_of_lt F39.out.lt)
  have HG44 : Hid (w.heap.size ≤ w34.heap.size) := Lib.hid F35.out.size
  have F45 := Lib.hid (F35.out.trans (hb.mono F35.out.size))
  have F46 := Lib.hid (F36.out.below (Nat.le_refl _) hb)
  have F47 := Lib.hid (F37.out.below hb F37.out.lt)
  have F48 := Lib.hid (F38.out.below hb F38.out.lt)
  have F49 := Lib.hid (F39.out.below hb F39.out.lt)
  clear F35 F36 F37 F38 F39
  have F50 : Hid (Blk w40 w34.heap.size (u8s (zeros 128))) := Lib.hid hA
  clear hA hb
  generalize w34.heap.size = g51 at *
  clear w34
  refine store_all (cs := (u8s r.sec).toArray) F50.out (by simp only [u8s_size, List.size_toArray, List.length_map, HZ128.out, HRS.out]) (by rw [u8s_size, HRS.out]; exact info30) (u8s_one _) rfl rfl rfl ?_
  intro w52 hD hO hlD
  try simp only [Act.put, List.setIfInBounds_toArray, List.set_cons_succ, List.set_cons_zero]
  clear hlD
  have F53 := Lib.hid (F45.out.trans (hO.below F45.out.size (fun k hk => by rw [hk]; exact HG44.out)))
  have F54 := Lib.hid (F46.out.keep hO HG44.out HE0.out)
  have F55 := Lib.hid (F47.out.only hO (HN41.out))
  have F56 := Lib.hid (F48.out.only hO (HN42.out))
  have F57 := Lib.hid (F49.out.only hO (HN43.out))
  clear F45 F46 F47 F48 F49 F50
  have F50' : Hid (Blk w52 g51 (u8s r.sec)) := Lib.hid hD
  clear hD hO 
  refine takeL (.int .i64 r.err) rfl (by go_simp) ?_
  try simp only [Act.put, List.setIfInBounds_toArray, List.set_cons_succ, List.set_cons_zero]
  refine wpList_nil ?_
  go_upto_region 3 with fail
  refine wp_region_lit ?_
  refine load30 (cs := (u8s x).toArray) (Blk.all F56.out rfl) (by rw [u8s_size, HXL.out]) rfl rfl ?_
  try simp only [Act.put, List.setIfInBounds_toArray, List.set_cons_succ, List.set_cons_zero]
  refine wpList_op rfl fun K hK => ?_
  go_simp
  refine (decode_any x HSC.out _ F54.out).mono ?_
  rintro e w58 ⟨rfl, hb⟩
  have F59 := Lib.hid (F53.out.trans (hb.mono F53.out.size))
  have F60 := Lib.hid (F54.out.below (Nat.le_refl _) hb)
  have F61 := Lib.hid (F55.out.below hb F55.out.lt)
  have F62 := Lib.hid (F56.out.below hb F56.out.lt)
  have F63 := Lib.hid (F57.out.below hb F57.out.lt)
  have F64 := Lib.hid (F50'.out.below hb F50'.out.lt)
  clear F53 F54 F55 F56 F57 F50'
  clear hb
  refine hK _ _ ?_
  clear hK K
  try simp only [Act.put, List.setIfInBounds_toArray, List.set_cons_succ, List.set_cons_zero]
  refine takeL (.tuple #[.agg (dec x).cells.toArray, .int .i64 (decE x)]) rfl (by go_simp) ?_
  try simp only [Act.put, List.setIfInBounds_toArray, List.set_cons_succ, List.set_cons_zero]
  refine takeL (.agg (dec x).cells.toArray) rfl (by go_simp) ?_
  try simp only [Act.put, List.setIfInBounds_toArray, List.set_cons_succ, List.set_cons_zero]
  refine takeL (.int .i64 (decE x)) rfl (by go_simp) ?_
  try simp only [Act.put, List.setIfInBounds_toArray, List.set_cons_succ, List.set_cons_zero]
  refine alloc_g zero27 rfl ?_
  intro w65 hA hb hl
  try simp only [Act.put, List.setIfInBounds_toArray, List.set_cons_succ, List.set_cons_zero]
  clear hl
  have HN66 := Lib.hid (Nat.ne_of_lt F61.out.lt)
  have HN67 := Lib.hid (Nat.ne_of_lt F62.out.lt)
  have HN68 := Lib.hid (Nat.ne_of_lt F63.out.lt)
  have HN69 := Lib.hid (Nat.ne_of_lt F64.out.lt)
  have HG70 : Hid (w.heap.size ≤ w58.heap.size) := Lib.hid F59.out.size
  have F71 := Lib.hid (F59.out.trans (hb.mono F59.out.size))
  have F72 := Lib.hid (F60.out.below (Nat.le_refl _) hb)
  have F73 := Lib.hid (F61.out.below hb F61.out.lt)
  have F74 := Lib.hid (F62.out.below hb F62.out.lt)
  have F75 := Lib.hid (F63.out.below hb F63.out.lt)
  have F76 := Lib.hid (F64.out.below hb F64.out.lt)
  clear F59 F60 F61 F62 F63 F64
  have F77 : Hid (Blk w65 w58.heap.size Rg.none.cells) := Lib.hid hA
  clear hA hb
  generalize w58.heap.size = g78 at *
  clear w58
  refine store_all (cs := (dec x).cells.toArray) F77.out (by simp only [u8s_size, List.size_toArray, List.length_map, HWN.out.cells, HWD.out.cells]) (by rw [List.size_toArray, HWD.out.cells]; exact info27) (fun v hv => Rg.cell_one _ v (by simpa using hv)) rfl rfl rfl ?_
  intro w79 hD hO hlD
  try simp only [Act.put, List.setIfInBounds_toArray, List.set_cons_succ, List.set_cons_zero]
  clear hlD
  have F80 := Lib.hid (F71.out.trans (hO.below F71.out.size (fun k hk => by rw [hk]; exact HG70.out)))
  have F81 := Lib.hid (F72.out.keep hO HG70.out HE0.out)
  have F82 := Lib.hid (F73.out.only hO (HN66.out))
  have F83 := Lib.hid (F74.out.only hO (HN67.out))
  have F84 := Lib.hid (F75.out.only hO (HN68.out))
  have F85 := Lib.hid (F76.out.only hO (HN69.out))
  clear F71 F72 F73 F74 F75 F76 F77
  have F77' : Hid (Blk w79 g78 (dec x).cells) := Lib.hid hD
  clear hD hO 
  refine takeL (.int .i64 (decE x)) rfl (by go_simp) ?_
  try simp only [Act.put, List.setIfInBounds_toArray, List.set_cons_succ, List.set_cons_zero]
  refine wpList_nil ?_
  go_upto_region 4 with fail
  refine wp_region_lit ?_
  refine load30 (cs := (u8s x).toArray) (Blk.all F83.out rfl) (by rw [u8s_size, HXL.out]) rfl rfl ?_
  try simp only [Act.put, List.setIfInBounds_toArray, List.set_cons_succ, List.set_cons_zero]
  refine wpList_op rfl fun K hK => ?_
  go_simp
  refine (rdecode_any x HSC.out _).mono ?_
  rintro e w86 ⟨rfl, hb⟩
  have F87 := Lib.hid (F80.out.trans (hb.mono F80.out.size))
  have F88 := Lib.hid (F81.out.below (Nat.le_refl _) hb)
  have F89 := Lib.hid (F82.out.below hb F82.out.lt)
  have F90 := Lib.hid (F83.out.below hb F83.out.lt)
  have F91 := Lib.hid (F84.out.below hb F84.out.lt)
  have F92 := Lib.hid (F85.out.below hb F85.out.lt)
  have F93 := Lib.hid (F77'.out.below hb F77'.out.lt)
  clear F80 F81 F82 F83 F84 F85 F77'
  clear hb
  refine hK _ _ ?_
  clear hK K
  try simp only [Act.put, List.setIfInBounds_toArray, List.set_cons_succ, List.set_cons_zero]
  refine takeL (.tuple #[.agg (dec x).cells.toArray, .int .i64 (decE x)]) rfl (by go_simp) ?_
  try simp only [Act.put, List.setIfInBounds_toArray, List.set_cons_succ, List.set_cons_zero]
  refine takeL (.agg (dec x).cells.toArray) rfl (by go_simp) ?_
  try simp only [Act.put, List.setIfInBounds_toArray, List.set_cons_succ, List.set_cons_zero]
  refine takeL (.int .i64 (decE x)) rfl (by go_simp) ?_
  try simp only [Act.put, List.setIfInBounds_toArray, List.set_cons_succ, List.set_cons_zero]
  refine alloc_g zero27 rfl ?_
  intro w94 hA hb hl
  try simp only [Act.put, List.setIfInBounds_toArray, List.set_cons_succ, List.set_cons_zero]
  clear hl
  have HN95 := Lib.hid (Nat.ne_of_lt F89.out.lt)
  have HN96 := Lib.hid (Nat.ne_of_lt F90.out.lt)
  have HN97 := Lib.hid (Nat.ne_of_lt F91.out.lt)
  have HN98 := Lib.hid (Nat.ne_of_lt F92.out.lt)
  have HN99 := Lib.hid (Nat.ne_of_lt F93.out.lt)
  have HG100 : Hid (w.heap.size ≤ w86.heap.size) := Lib.hid F87.out.size
  have F101 := Lib.hid (F87.out.trans (hb.mono F87.out.size))
  have F102 := Lib.hid (F88.out.below (Nat.le_refl _) hb)
  have F103 := Lib.hid (F89.out.below hb F89.out.lt)
  have F104 := Lib.hid (F90.out.below hb F90.out.lt)
  have F105 := Lib.hid (F91.out.below hb F91.out.lt)
  have F106 := Lib.hid (F92.out.below hb F92.out.lt)
  have F107 := Lib.hid (F93.out.below hb F93.out.lt)
  clear F87 F88 F89 F90 F91 F92 F93
  have F108 : Hid (Blk w94 w86.heap.size Rg.none.cells) := Lib.hid hA
  clear hA hb
  generalize w86.heap.size = g109 at *
  clear w86
  refine store_all (cs := (dec x).cells.toArray) F108.out (by simp only [u8s_size, List.size_toArray, List.length_map, HWN.out.cells, HWD.out.cells]) (by rw [List.size_toArray, HWD.out.cells]; exact info27) (fun v hv => Rg.cell_one _ v (by simpa using hv)) rfl rfl rfl ?_
  intro w110 hD hO hlD
  try simp only [Act.put, List.setIfInBounds_toArray, List.set_cons_succ, List.set_cons_zero]
  clear hlD
  have F111 := Lib.hid (F101.out.trans (hO.below F101.out.size (fun k hk => by rw [hk]; exact HG100.out)))
  have F112 := Lib.hid (F102.out.keep hO HG100.out HE0.out)
  have F113 := Lib.hid (F103.out.only hO (HN95.out))
  have F114 := Lib.hid (F104.out.only hO (HN96.out))
  have F115 := Lib.hid (F105.out.only hO (HN97.out))
  have F116 := Lib.hid (F106.out.only hO (HN98.out))
  have F117 := Lib.hid (F107.out.only hO (HN99.out))
  clear F101 F102 F103 F104 F105 F106 F107 F108
  have F108' : Hid (Blk w110 g109 (dec x).cells) := Lib.hid hD
  clear hD hO 
  refine takeL (.int .i64 (decE x)) rfl (by go_simp) ?_
  try simp only [Act.put, List.setIfInBounds_toArray, List.set_cons_succ, List.set_cons_zero]
  refine wpList_nil ?_
  go_upto_region 5 with fail
  refine startH (fun wq => Below w110.heap.size w110 wq) (by kernel_rfl) ?_
  refine takeH 0 (some 33) (.agg r.cells.toArray) rfl rfl (by kernel_rfl) (by kernel_rfl) (by kernel_rfl) (fun _ _ _ h => h) rfl (fun wq hS => by exact exec_load_at wq _ _ 27 _ rfl w.heap.size 0 rfl (r.cells.toArray) _ Tryd.underlying27 rfl (by rw [List.size_toArray, HWR.out.cells]; exact info27) (Blk.all (F113.out.below hS F113.out.lt) rfl)) (Below.refl _ _).drew ?_
  try simp only [Act.put, List.setIfInBounds_toArray, List.set_cons_succ, List.set_cons_zero]
  refine takeH 2 (some 35) (.agg r.cells.toArray) rfl rfl (by kernel_rfl) (by kernel_rfl) (by kernel_rfl) (fun _ _ _ h => h) rfl (fun wq hS => by exact exec_load_at wq _ _ 27 _ rfl w.heap.size 0 rfl (r.cells.toArray) _ Tryd.underlying27 rfl (by rw [List.size_toArray, HWR.out.cells]; exact info27) (Blk.all (F113.out.below hS F113.out.lt) rfl)) (Below.refl _ _).drew ?_
  try simp only [Act.put, List.setIfInBounds_toArray, List.set_cons_succ, List.set_cons_zero]
  refine oneH 1 (by kernel_rfl) rfl rfl fun K hK => ?_
  go_simp
  refine (good_any r HWR.out _).mono ?_
  rintro e w118 ⟨rfl, hb⟩
  have HS119 := Lib.hid (stay (Below.refl _ _).drew hb)
  clear hb
  refine hK _ _ HS119.out ?_
  clear hK K
  try simp only [Act.put, List.setIfInBounds_toArray, List.set_cons_succ, List.set_cons_zero]
  refine oneH 3 (by kernel_rfl) rfl rfl fun K hK => ?_
  go_simp
  refine (rregion_any r HWR.out _).mono ?_
  rintro e w120 ⟨rfl, hb⟩
  have HS121 := Lib.hid (stay HS119.out hb)
  clear hb
  refine hK _ _ HS121.out ?_
  clear hK K
  try simp only [Act.put, List.setIfInBounds_toArray, List.set_cons_succ, List.set_cons_zero]
  refine takeH 4 (some 37) (.bool true) rfl rfl (by kernel_rfl) (by kernel_rfl) (by kernel_rfl) (fun _ _ _ h => h) rfl (fun wq hS => by go_simp) HS121.out ?_
  try simp only [Act.put, List.setIfInBounds_toArray, List.set_cons_succ, List.set_cons_zero]
  refine takeH 5 (some 38) (.bool true) rfl rfl (by kernel_rfl) (by kernel_rfl) (by kernel_rfl) (fun _ _ _ h => h) rfl (fun wq hS => by go_simp) HS121.out ?_
  try simp only [Act.put, List.setIfInBounds_toArray, List.set_cons_succ, List.set_cons_zero]
  refine takeH 6 (some 39) (.agg (u8s r.sec).toArray) rfl rfl (by kernel_rfl) (by kernel_rfl) (by kernel_rfl) (fun _ _ _ h => h) rfl (fun wq hS => by exact exec_load_at wq _ _ 30 _ rfl g28 0 rfl ((u8s r.sec).toArray) _ Tryd.underlying30 rfl (by rw [u8s_size, HRS.out]; exact info30) (Blk.all (F115.out.below hS F115.out.lt) rfl)) HS121.out ?_
  try simp only [Act.put, List.setIfInBounds_toArray, List.set_cons_succ, List.set_cons_zero]
  refine takeH 7 (some 40) (.agg (u8s r.sec).toArray) rfl rfl (by kernel_rfl) (by kernel_rfl) (by kernel_rfl) (fun _ _ _ h => h) rfl (fun wq hS => by exact exec_load_at wq _ _ 30 _ rfl g51 0 rfl ((u8s r.sec).toArray) _ Tryd.underlying30 rfl (by rw [u8s_size, HRS.out]; exact info30) (Blk.all (F116.out.below hS F116.out.lt) rfl)) HS121.out ?_
  try simp only [Act.put, List.setIfInBounds_toArray, List.set_cons_succ, List.set_cons_zero]
  refine takeH 8 (some 41) (.bool true) rfl rfl (by kernel_rfl) (by kernel_rfl) (by kernel_rfl) (fun _ _ _ h => h) rfl (fun wq hS => by exact run_eql_two (v := true) (decide_eq_true rfl) HRS.out HRS.out _ _ _ rfl rfl rfl) HS121.out ?_
  try simp only [Act.put, List.setIfInBounds_toArray, List.set_cons_succ, List.set_cons_zero]
  refine takeH 9 (some 42) (.bool true) rfl rfl (by kernel_rfl) (by kernel_rfl) (by kernel_rfl) (fun _ _ _ h => h) rfl (fun wq hS => by go_simp) HS121.out ?_
  try simp only [Act.put, List.setIfInBounds_toArray, List.set_cons_succ, List.set_cons_zero]
  refine takeH 10 (some 43) (.bool true) rfl rfl (by kernel_rfl) (by kernel_rfl) (by kernel_rfl) (fun _ _ _ h => h) rfl (fun wq hS => by go_simp) HS121.out ?_
  try simp only [Act.put, List.setIfInBounds_toArray, List.set_cons_succ, List.set_cons_zero]
  refine takeH 11 (some 44) (.int .i64 r.err) rfl rfl (by kernel_rfl) (by kernel_rfl) (by kernel_rfl) (fun _ _ _ h => h) rfl (fun wq hS => by go_simp) HS121.out ?_
  try simp only [Act.put, List.setIfInBounds_toArray, List.set_cons_succ, List.set_cons_zero]
  refine takeH 12 (some 45) (.int .i64 r.err) rfl rfl (by kernel_rfl) (by kernel_rfl) (by kernel_rfl) (fun _ _ _ h => h) rfl (fun wq hS => by go_simp) HS121.out ?_
  try simp only [Act.put, List.setIfInBounds_toArray, List.set_cons_succ, List.set_cons_zero]
  refine takeH 13 (some 46) (.bool true) rfl rfl (by kernel_rfl) (by kernel_rfl) (by kernel_rfl) (fun _ _ _ h => h) rfl (fun wq hS => by go_simp) HS121.out ?_
  try simp only [Act.put, List.setIfInBounds_toArray, List.set_cons_succ, List.set_cons_zero]
  refine takeH 14 (some 47) (.bool true) rfl rfl (by kernel_rfl) (by kernel_rfl) (by kernel_rfl) (fun _ _ _ h => h) rfl (fun wq hS => by go_simp) HS121.out ?_
  try simp only [Act.put, List.setIfInBounds_toArray, List.set_cons_succ, List.set_cons_zero]
  refine takeH 15 (some 48) (.bool true) rfl rfl (by kernel_rfl) (by kernel_rfl) (by kernel_rfl) (fun _ _ _ h => h) rfl (fun wq hS => by go_simp) HS121.out ?_
  try simp only [Act.put, List.setIfInBounds_toArray, List.set_cons_succ, List.set_cons_zero]
  refine takeH 16 (some 49) (.agg (dec x).cells.toArray) rfl rfl (by kernel_rfl) (by kernel_rfl) (by kernel_rfl) (fun _ _ _ h => h) rfl (fun wq hS => by exact exec_load_at wq _ _ 27 _ rfl g78 0 rfl ((dec x).cells.toArray) _ Tryd.underlying27 rfl (by rw [List.size_toArray, HWD.out.cells]; exact info27) (Blk.all (F117.out.below hS F117.out.lt) rfl)) HS121.out ?_
  try simp only [Act.put, List.setIfInBounds_toArray, List.set_cons_succ, List.set_cons_zero]
  refine takeH 17 (some 50) (.agg (dec x).cells.toArray) rfl rfl (by kernel_rfl) (by kernel_rfl) (by kernel_rfl) (fun _ _ _ h => h) rfl (fun wq hS => by exact exec_load_at wq _ _ 27 _ rfl g109 0 rfl ((dec x).cells.toArray) _ Tryd.underlying27 rfl (by rw [List.size_toArray, HWD.out.cells]; exact info27) (Blk.all (F108'.out.below hS F108'.out.lt) rfl)) HS121.out ?_
  try simp only [Act.put, List.setIfInBounds_toArray, List.set_cons_succ, List.set_cons_zero]
  refine takeH 18 (some 51) (.bool true) rfl rfl (by kernel_rfl) (by kernel_rfl) (by kernel_rfl) (fun _ _ _ h => h) rfl (fun wq hS => by exact run_eql_reg HWD.out.len _ _ _ rfl rfl rfl) HS121.out ?_
  try simp only [Act.put, List.setIfInBounds_toArray, List.set_cons_succ, List.set_cons_zero]
  refine takeH 19 (some 52) (.bool true) rfl rfl (by kernel_rfl) (by kernel_rfl) (by kernel_rfl) (fun _ _ _ h => h) rfl (fun wq hS => by go_simp) HS121.out ?_
  try simp only [Act.put, List.setIfInBounds_toArray, List.set_cons_succ, List.set_cons_zero]
  refine takeH 20 (some 53) (.bool true) rfl rfl (by kernel_rfl) (by kernel_rfl) (by kernel_rfl) (fun _ _ _ h => h) rfl (fun wq hS => by go_simp) HS121.out ?_
  try simp only [Act.put, List.setIfInBounds_toArray, List.set_cons_succ, List.set_cons_zero]
  refine takeH 21 (some 54) (.int .i64 (decE x)) rfl rfl (by kernel_rfl) (by kernel_rfl) (by kernel_rfl) (fun _ _ _ h => h) rfl (fun wq hS => by go_simp) HS121.out ?_
  try simp only [Act.put, List.setIfInBounds_toArray, List.set_cons_succ, List.set_cons_zero]
  refine takeH 22 (some 55) (.int .i64 (decE x)) rfl rfl (by kernel_rfl) (by kernel_rfl) (by kernel_rfl) (fun _ _ _ h => h) rfl (fun wq hS => by go_simp) HS121.out ?_
  try simp only [Act.put, List.setIfInBounds_toArray, List.set_cons_succ, List.set_cons_zero]
  refine takeH 23 (some 56) (.bool true) rfl rfl (by kernel_rfl) (by kernel_rfl) (by kernel_rfl) (fun _ _ _ h => h) rfl (fun wq hS => by go_simp) HS121.out ?_
  try simp only [Act.put, List.setIfInBounds_toArray, List.set_cons_succ, List.set_cons_zero]
  refine takeH 24 (some 57) (.bool true) rfl rfl (by kernel_rfl) (by kernel_rfl) (by kernel_rfl) (fun _ _ _ h => h) rfl (fun wq hS => by go_simp) HS121.out ?_
  try simp only [Act.put, List.setIfInBounds_toArray, List.set_cons_succ, List.set_cons_zero]
  refine takeH 25 (some 58) (.bool true) rfl rfl (by kernel_rfl) (by kernel_rfl) (by kernel_rfl) (fun _ _ _ h => h) rfl (fun wq hS => by go_simp) HS121.out ?_
  try simp only [Act.put, List.setIfInBounds_toArray, List.set_cons_succ, List.set_cons_zero]
  refine oneH 26 (by kernel_rfl) rfl rfl fun K hK => ?_
  go_simp
  refine (wakes_any _ (F112.out.below (Nat.le_refl _) HS121.out)).mono ?_
  rintro e w122 ⟨rfl, hb⟩
  have HS123 := Lib.hid (stay HS121.out hb)
  clear hb
  refine hK _ _ HS123.out ?_
  clear hK K
  try simp only [Act.put, List.setIfInBounds_toArray, List.set_cons_succ, List.set_cons_zero]
  refine takeH 27 (some 60) (.bool true) rfl rfl (by kernel_rfl) (by kernel_rfl) (by kernel_rfl) (fun _ _ _ h => h) rfl (fun wq hS => by go_simp) HS123.out ?_
  try simp only [Act.put, List.setIfInBounds_toArray, List.set_cons_succ, List.set_cons_zero]
  refine takeH 28 (some 4) (.bool true) rfl rfl (by kernel_rfl) (by kernel_rfl) (by kernel_rfl) (fun _ _ _ h => h) rfl (fun wq hS => by go_simp) HS123.out ?_
  try simp only [Act.put, List.setIfInBounds_toArray, List.set_cons_succ, List.set_cons_zero]
  refine wpAnyH_done (by kernel_rfl) ?_ _
  have hb := HS123.out
  have F124 := Lib.hid (F111.out.trans (hb.mono F111.out.size))
  have F125 := Lib.hid (F112.out.below (Nat.le_refl _) hb)
  have F126 := Lib.hid (F113.out.below hb F113.out.lt)
  have F127 := Lib.hid (F114.out.below hb F114.out.lt)
  have F128 := Lib.hid (F115.out.below hb F115.out.lt)
  have F129 := Lib.hid (F116.out.below hb F116.out.lt)
  have F130 := Lib.hid (F117.out.below hb F117.out.lt)
  have F131 := Lib.hid (F108'.out.below hb F108'.out.lt)
  clear F111 F112 F113 F114 F115 F116 F117 F108'
  clear hb
  go_wp2_with fail
  go_ret
  exact ⟨rfl, F124.out⟩
end Go.Proofs.YtlleafhfogfngaaDoor
