/- The statements' first calls: what an ordinary region comes to. -/
import Derived.Test.YtlleafhfogfngaaDoorDec
import Derived.Test.YtlleafhfogfngaaDoorWhere
namespace Go.Proofs.YtlleafhfogfngaaDoor
set_option linter.unusedSimpArgs false
set_option linter.unusedVariables false
open Go.RowKit

def rX0 : Rg := ⟨258, 16, 8, 24, 4, 3, 5, 7, zeros 8⟩
def rX : Rg := ⟨258, 16, 8, 24, 4, 3, 5, 7, [0, 30, 0, 0, 0, 0, 0, 0]⟩
theorem rX0_wf : rX0.Wf where
  gen := ⟨by decide, by decide⟩
  p := ⟨by decide, by decide⟩
  s := ⟨by decide, by decide⟩
  l := ⟨by decide, by decide⟩
  f := ⟨by decide, by decide⟩
  seg := ⟨by decide, by decide⟩
  off := ⟨by decide, by decide⟩
  seq := ⟨by decide, by decide⟩
  len := rfl
  rs := fun x hx => byte_small (zeros_byte 8 x hx)
theorem rX_wf : rX.Wf where
  gen := ⟨by decide, by decide⟩
  p := ⟨by decide, by decide⟩
  s := ⟨by decide, by decide⟩
  l := ⟨by decide, by decide⟩
  f := ⟨by decide, by decide⟩
  seg := ⟨by decide, by decide⟩
  off := ⟨by decide, by decide⟩
  seq := ⟨by decide, by decide⟩
  len := rfl
  rs := fun x hx => by
    simp only [rX, List.mem_cons, List.not_mem_nil, or_false] at hx
    rcases hx with rfl | rfl | rfl | rfl | rfl | rfl | rfl | rfl <;> exact ⟨by decide, by decide⟩
theorem rX_good : rX.good = true := by kernel_rfl
theorem rX_set : rX0.cells.set 9 (.int .i64 30) = rX.cells := rfl
theorem Sc2.set {x : List Int} (h : Sc2 x) (i : Nat) {v : Int} (hv : Byte v) : Sc2 (x.set i v) := ⟨by rw [List.length_set]; exact h.length, fun y hy => by
  rcases List.mem_or_eq_of_mem_set hy with h1 | rfl
  · exact h.bytes y h1
  · exact hv⟩
def xT : List Int := rX.enc.set 66 3
theorem xT_sc : Sc2 xT := (enc_sc rX_good rfl).set 66 ⟨by decide, by decide⟩
theorem xT_no : isReg xT = false := by kernel_rfl
theorem built27w : Tryd.prog.built 27 [(0, .int .u32 258), (1, .agg #[.int .i64 16, .int .i64 8, .int .i64 24, .int .i64 4]), (2, .int .i64 3), (3, .int .i64 5), (4, .int .u32 7)] = some rX0.cells.toArray := by kernel_rfl
theorem encX (w : World) (hev : ErrVar w) : Calls Tryd.prog 7 #[.agg rX.cells.toArray] w fun e w' => e = .returned (.tuple #[.agg (u8s rX.enc).toArray, .int .i64 0]) ∧ Below w.heap.size w w' := encode_yes rX_good rX_wf w hev
theorem decX (w : World) (hev : ErrVar w) : Calls Tryd.prog 9 #[.agg (u8s rX.enc).toArray] w fun e w' => e = .returned (.tuple #[.agg rX.cells.toArray, .int .i64 0]) ∧ Below w.heap.size w w' := by
  have := decode_yes (enc_sc rX_good rfl) (isReg_enc rX_good rX_wf) w hev
  rwa [read_enc rX_good rX_wf] at this
set_option maxRecDepth 100000 in
theorem wakes_any (w : World) (hev : ErrVar w) : Calls Tryd.prog 13 #[] w fun e w' => e = .returned (.bool true) ∧ Below w.heap.size w w' := by
  have HZ128 := Lib.hid (zeros_length 128)
  have HWN := Lib.hid none_wf
  have HW0 := Lib.hid rX0_wf
  have HWX := Lib.hid rX_wf
  have HXE : Hid (rX.enc.length = 128) := Lib.hid (enc_length rfl)
  have HXT : Hid (xT.length = 128) := Lib.hid xT_sc.length
  have HBL : Hid (Below w.heap.size w w) := Lib.hid (Below.refl _ _)
  have HEV := Lib.hid hev
  have HE0 := Lib.hid hev.lt
  clear hev
  go_enter Tryd.func13, Tryd.ntmps13
  go_upto_region 1 with fail
  refine wp_region_lit ?_
  refine wpList_op rfl fun K hK => ?_
  go_simp
  refine (small_any _).mono ?_
  rintro e w1 ⟨rfl, hb⟩
  have F2 := Lib.hid (HBL.out.trans (hb.mono HBL.out.size))
  have F3 := Lib.hid (HEV.out.below (Nat.le_refl _) hb)
  clear HBL HEV
  clear hb
  refine hK _ _ ?_
  clear hK K
  try simp only [Act.put, List.setIfInBounds_toArray, List.set_cons_succ, List.set_cons_zero]
  refine takeL (.agg rX0.cells.toArray) rfl (exec_build _ _ _ _ 27 _ rfl #[(0, .int .u32 258), (1, .agg #[.int .i64 16, .int .i64 8, .int .i64 24, .int .i64 4]), (2, .int .i64 3), (3, .int .i64 5), (4, .int .u32 7)] (by simp only [List.map_toArray, List.map_cons, List.map_nil]; rfl) _ (run_build _ 27 _ _ built27w)) ?_
  try simp only [Act.put, List.setIfInBounds_toArray, List.set_cons_succ, List.set_cons_zero]
  refine alloc_g zero27 rfl ?_
  intro w4 hA hb hl
  try simp only [Act.put, List.setIfInBounds_toArray, List.set_cons_succ, List.set_cons_zero]
  clear hl
  have HG5 : Hid (w.heap.size ≤ w1.heap.size) := Lib.hid F2.out.size
  have F6 := Lib.hid (F2.out.trans (hb.mono F2.out.size))
  have F7 := Lib.hid (F3.out.below (Nat.le_refl _) hb)
  clear F2 F3
  have F8 : Hid (Blk w4 w1.heap.size Rg.none.cells) := Lib.hid hA
  clear hA hb
  generalize w1.heap.size = g9 at *
  clear w1
  refine store_all (cs := rX0.cells.toArray) F8.out (by simp only [u8s_size, List.size_toArray, List.length_map, HWN.out.cells, HW0.out.cells]) (by rw [List.size_toArray, HW0.out.cells]; exact info27) (fun v hv => Rg.cell_one _ v (by simpa using hv)) rfl rfl rfl ?_
  intro w10 hD hO hlD
  try simp only [Act.put, List.setIfInBounds_toArray, List.set_cons_succ, List.set_cons_zero]
  clear hlD
  have F11 := Lib.hid (F6.out.trans (hO.below F6.out.size (fun k hk => by rw [hk]; exact HG5.out)))
  have F12 := Lib.hid (F7.out.keep hO HG5.out HE0.out)
  clear F6 F7 F8
  have F8' : Hid (Blk w10 g9 rX0.cells) := Lib.hid hD
  clear hD hO 
  refine wpList_nil ?_
  go_upto_region 2 with fail
  refine wp_region_lit ?_
  refine takeL (.pointer (some ⟨g9, 8, none⟩)) rfl (by go_simp) ?_
  try simp only [Act.put, List.setIfInBounds_toArray, List.set_cons_succ, List.set_cons_zero]
  refine takeL (.pointer (some ⟨g9, 9, none⟩)) rfl (by go_simp) ?_
  try simp only [Act.put, List.setIfInBounds_toArray, List.set_cons_succ, List.set_cons_zero]
  refine skipL (w10.setCell ⟨g9, 9, none⟩ (.int .i64 30)) rfl (by have hq := F8'.out.cell (i := 9) (v := .int .i64 0) rfl; have hf := F8'.out.frozen 9; go_simp) ?_
  try simp only [Act.put, List.setIfInBounds_toArray, List.set_cons_succ, List.set_cons_zero]
  have hO : Only (fun k => k = g9) w10 (w10.setCell ⟨g9, 9, none⟩ (.int .i64 30)) := (Only.refl (fun k => k = g9) w10).setCell (p := ⟨g9, 9, none⟩) (.inl rfl) _
  have hD := F8'.out.set 9 (.int .i64 30)
  generalize w10.setCell ⟨g9, 9, none⟩ (.int .i64 30) = w13 at *
  have F14 := Lib.hid (F11.out.trans (hO.below F11.out.size (fun k hk => by rw [hk]; exact HG5.out)))
  have F15 := Lib.hid (F12.out.keep hO HG5.out HE0.out)
  clear F11 F12 F8'
  have F8'' : Hid (Blk w13 g9 rX.cells) := Lib.hid (rX_set ▸ hD)
  clear hD hO
  refine wpList_nil ?_
  go_upto_region 3 with fail
  refine wp_region_lit ?_
  refine load27 (cs := rX.cells.toArray) (Blk.all F8''.out rfl) (by rw [List.size_toArray]; exact HWX.out.cells) rfl rfl ?_
  try simp only [Act.put, List.setIfInBounds_toArray, List.set_cons_succ, List.set_cons_zero]
  refine wpList_op rfl fun K hK => ?_
  go_simp
  refine (encX _ F15.out).mono ?_
  rintro e w16 ⟨rfl, hb⟩
  have F17 := Lib.hid (F14.out.trans (hb.mono F14.out.size))
  have F18 := Lib.hid (F15.out.below (Nat.le_refl _) hb)
  have F19 := Lib.hid (F8''.out.below hb F8''.out.lt)
  clear F14 F15 F8''
  clear hb
  refine hK _ _ ?_
  clear hK K
  try simp only [Act.put, List.setIfInBounds_toArray, List.set_cons_succ, List.set_cons_zero]
  refine takeL (.tuple #[.agg (u8s rX.enc).toArray, .int .i64 0]) rfl (by go_simp) ?_
  try simp only [Act.put, List.setIfInBounds_toArray, List.set_cons_succ, List.set_cons_zero]
  refine takeL (.agg (u8s rX.enc).toArray) rfl (by go_simp) ?_
  try simp only [Act.put, List.setIfInBounds_toArray, List.set_cons_succ, List.set_cons_zero]
  refine takeL (.int .i64 0) rfl (by go_simp) ?_
  try simp only [Act.put, List.setIfInBounds_toArray, List.set_cons_succ, List.set_cons_zero]
  refine alloc_g zero30 rfl ?_
  intro w20 hA hb hl
  try simp only [Act.put, List.setIfInBounds_toArray, List.set_cons_succ, List.set_cons_zero]
  clear hl
  have HN21 := Lib.hid (Nat.ne_of_lt F19.out.lt)
  have HG22 : Hid (w.heap.size ≤ w16.heap.size) := Lib.hid F17.out.size
  have F23 := Lib.hid (F17.out.trans (hb.mono F17.out.size))
  have F24 := Lib.hid (F18.out.below (Nat.le_refl _) hb)
  have F25 := Lib.hid (F19.out.below hb F19.out.lt)
  clear F17 F18 F19
  have F26 : Hid (Blk w20 w16.heap.size (u8s (zeros 128))) := Lib.hid hA
  clear hA hb
  generalize w16.heap.size = g27 at *
  clear w16
  refine store_all (cs := (u8s rX.enc).toArray) F26.out (by simp only [u8s_size, List.size_toArray, List.length_map, HZ128.out, HXE.out]) (by rw [u8s_size, HXE.out]; exact info30) (u8s_one _) rfl rfl rfl ?_
  intro w28 hD hO hlD
  try simp only [Act.put, List.setIfInBounds_toArray, List.set_cons_succ, List.set_cons_zero]
  clear hlD
  have F29 := Lib.hid (F23.out.trans (hO.below F23.out.size (fun k hk => by rw [hk]; exact HG22.out)))
  have F30 := Lib.hid (F24.out.keep hO HG22.out HE0.out)
  have F31 := Lib.hid (F25.out.only hO (HN21.out))
  clear F23 F24 F25 F26
  have F26' : Hid (Blk w28 g27 (u8s rX.enc)) := Lib.hid hD
  clear hD hO 
  refine takeL (.int .i64 0) rfl (by go_simp) ?_
  try simp only [Act.put, List.setIfInBounds_toArray, List.set_cons_succ, List.set_cons_zero]
  refine wpList_nil ?_
  go_upto_region 4 with fail
  refine wp_region_lit ?_
  refine load30 (cs := (u8s rX.enc).toArray) (Blk.all F26'.out rfl) (by rw [u8s_size, HXE.out]) rfl rfl ?_
  try simp only [Act.put, List.setIfInBounds_toArray, List.set_cons_succ, List.set_cons_zero]
  refine wpList_op rfl fun K hK => ?_
  go_simp
  refine (decX _ F30.out).mono ?_
  rintro e w32 ⟨rfl, hb⟩
  have F33 := Lib.hid (F29.out.trans (hb.mono F29.out.size))
  have F34 := Lib.hid (F30.out.below (Nat.le_refl _) hb)
  have F35 := Lib.hid (F31.out.below hb F31.out.lt)
  have F36 := Lib.hid (F26'.out.below hb F26'.out.lt)
  clear F29 F30 F31 F26'
  clear hb
  refine hK _ _ ?_
  clear hK K
  try simp only [Act.put, List.setIfInBounds_toArray, List.set_cons_succ, List.set_cons_zero]
  refine takeL (.tuple #[.agg rX.cells.toArray, .int .i64 0]) rfl (by go_simp) ?_
  try simp only [Act.put, List.setIfInBounds_toArray, List.set_cons_succ, List.set_cons_zero]
  refine takeL (.agg rX.cells.toArray) rfl (by go_simp) ?_
  try simp only [Act.put, List.setIfInBounds_toArray, List.set_cons_succ, List.set_cons_zero]
  refine takeL (.int .i64 0) rfl (by go_simp) ?_
  try simp only [Act.put, List.setIfInBounds_toArray, List.set_cons_succ, List.set_cons_zero]
  refine alloc_g zero27 rfl ?_
  intro w37 hA hb hl
  try simp only [Act.put, List.setIfInBounds_toArray, List.set_cons_succ, List.set_cons_zero]
  clear hl
  have HN38 := Lib.hid (Nat.ne_of_lt F35.out.lt)
  have HN39 := Lib.hid (Nat.ne_of_lt F36.out.lt)
  have HG40 : Hid (w.heap.size ≤ w32.heap.size) := Lib.hid F33.out.size
  have F41 := Lib.hid (F33.out.trans (hb.mono F33.out.size))
  have F42 := Lib.hid (F34.out.below (Nat.le_refl _) hb)
  have F43 := Lib.hid (F35.out.below hb F35.out.lt)
  have F44 := Lib.hid (F36.out.below hb F36.out.lt)
  clear F33 F34 F35 F36
  have F45 : Hid (Blk w37 w32.heap.size Rg.none.cells) := Lib.hid hA
  clear hA hb
  generalize w32.heap.size = g46 at *
  clear w32
  refine store_all (cs := rX.cells.toArray) F45.out (by simp only [u8s_size, List.size_toArray, List.length_map, HWN.out.cells, HWX.out.cells]) (by rw [List.size_toArray, HWX.out.cells]; exact info27) (fun v hv => Rg.cell_one _ v (by simpa using hv)) rfl rfl rfl ?_
  intro w47 hD hO hlD
  try simp only [Act.put, List.setIfInBounds_toArray, List.set_cons_succ, List.set_cons_zero]
  clear hlD
  have F48 := Lib.hid (F41.out.trans (hO.below F41.out.size (fun k hk => by rw [hk]; exact HG40.out)))
  have F49 := Lib.hid (F42.out.keep hO HG40.out HE0.out)
  have F50 := Lib.hid (F43.out.only hO (HN38.out))
  have F51 := Lib.hid (F44.out.only hO (HN39.out))
  clear F41 F42 F43 F44 F45
  have F45' : Hid (Blk w47 g46 rX.cells) := Lib.hid hD
  clear hD hO 
  refine takeL (.int .i64 0) rfl (by go_simp) ?_
  try simp only [Act.put, List.setIfInBounds_toArray, List.set_cons_succ, List.set_cons_zero]
  refine wpList_nil ?_
  go_upto_region 5 with fail
  refine wp_region_lit ?_
  refine takeL (.pointer (some ⟨g27, 64, none⟩)) rfl (by go_simp) ?_
  try simp only [Act.put, List.setIfInBounds_toArray, List.set_cons_succ, List.set_cons_zero]
  refine takeL (.pointer (some ⟨g27, 66, none⟩)) rfl (by go_simp) ?_
  try simp only [Act.put, List.setIfInBounds_toArray, List.set_cons_succ, List.set_cons_zero]
  refine takeL (.int .u8 2) rfl (by have hq := F51.out.cell (i := 66) (v := .int .u8 2) (by kernel_rfl); go_simp) ?_
  try simp only [Act.put, List.setIfInBounds_toArray, List.set_cons_succ, List.set_cons_zero]
  refine takeL (.int .u8 3) rfl (by go_simp <;> rfl) ?_
  try simp only [Act.put, List.setIfInBounds_toArray, List.set_cons_succ, List.set_cons_zero]
  refine takeL (.pointer (some ⟨g27, 64, none⟩)) rfl (by go_simp) ?_
  try simp only [Act.put, List.setIfInBounds_toArray, List.set_cons_succ, List.set_cons_zero]
  refine takeL (.pointer (some ⟨g27, 66, none⟩)) rfl (by go_simp) ?_
  try simp only [Act.put, List.setIfInBounds_toArray, List.set_cons_succ, List.set_cons_zero]
  refine skipL (w47.setCell ⟨g27, 66, none⟩ (.int .u8 3)) rfl (by have hq := F51.out.cell (i := 66) (v := .int .u8 2) (by kernel_rfl); have hf := F51.out.frozen 66; go_simp) ?_
  try simp only [Act.put, List.setIfInBounds_toArray, List.set_cons_succ, List.set_cons_zero]
  have hO : Only (fun k => k = g27) w47 (w47.setCell ⟨g27, 66, none⟩ (.int .u8 3)) := (Only.refl (fun k => k = g27) w47).setCell (p := ⟨g27, 66, none⟩) (.inl rfl) _
  have hD := F51.out.set 66 (.int .u8 3)
  generalize w47.setCell ⟨g27, 66, none⟩ (.int .u8 3) = w52 at *
  have F53 := Lib.hid (F48.out.trans (hO.below F48.out.size (fun k hk => by rw [hk]; exact HG22.out)))
  have F54 := Lib.hid (F49.out.keep hO HG22.out HE0.out)
  have F55 := Lib.hid (F50.out.only hO (HN21.out))
  have F56 := Lib.hid (F45'.out.only hO (HN39.out.symm))
  clear F48 F49 F50 F45' F51
  have F26'' : Hid (Blk w52 g27 (u8s xT)) := Lib.hid (by rw [u8s_set] at hD; exact hD)
  clear hD hO
  refine wpList_nil ?_
  go_upto_region 6 with fail
  refine wp_region_lit ?_
  refine load30 (cs := (u8s xT).toArray) (Blk.all F26''.out rfl) (by rw [u8s_size, HXT.out]) rfl rfl ?_
  try simp only [Act.put, List.setIfInBounds_toArray, List.set_cons_succ, List.set_cons_zero]
  refine wpList_op rfl fun K hK => ?_
  go_simp
  refine (decode_no xT_sc xT_no _ F54.out).mono ?_
  rintro e w57 ⟨rfl, hb⟩
  have F58 := Lib.hid (F53.out.trans (hb.mono F53.out.size))
  have F59 := Lib.hid (F54.out.below (Nat.le_refl _) hb)
  have F60 := Lib.hid (F55.out.below hb F55.out.lt)
  have F61 := Lib.hid (F56.out.below hb F56.out.lt)
  have F62 := Lib.hid (F26''.out.below hb F26''.out.lt)
  clear F53 F54 F55 F56 F26''
  clear hb
  refine hK _ _ ?_
  clear hK K
  try simp only [Act.put, List.setIfInBounds_toArray, List.set_cons_succ, List.set_cons_zero]
  refine takeL (.tuple #[.agg Rg.none.cells.toArray, .int .i64 11]) rfl (by go_simp) ?_
  try simp only [Act.put, List.setIfInBounds_toArray, List.set_cons_succ, List.set_cons_zero]
  refine takeL (.agg Rg.none.cells.toArray) rfl (by go_simp) ?_
  try simp only [Act.put, List.setIfInBounds_toArray, List.set_cons_succ, List.set_cons_zero]
  refine takeL (.int .i64 11) rfl (by go_simp) ?_
  try simp only [Act.put, List.setIfInBounds_toArray, List.set_cons_succ, List.set_cons_zero]
  refine alloc_g zero27 rfl ?_
  intro w63 hA hb hl
  try simp only [Act.put, List.setIfInBounds_toArray, List.set_cons_succ, List.set_cons_zero]
  clear hl
  have HN64 := Lib.hid (Nat.ne_of_lt F60.out.lt)
  have HN65 := Lib.hid (Nat.ne_of_lt F62.out.lt)
  have HN66 := Lib.hid (Nat.ne_of_lt F61.out.lt)
  have HG67 : Hid (w.heap.size ≤ w57.heap.size) := Lib.hid F58.out.size
  have F68 := Lib.hid (F58.out.trans (hb.mono F58.out.size))
  have F69 := Lib.hid (F59.out.below (Nat.le_refl _) hb)
  have F70 := Lib.hid (F60.out.below hb F60.out.lt)
  have F71 := Lib.hid (F61.out.below hb F61.out.lt)
  have F72 := Lib.hid (F62.out.below hb F62.out.lt)
  clear F58 F59 F60 F61 F62
  have F73 : Hid (Blk w63 w57.heap.size Rg.none.cells) := Lib.hid hA
  clear hA hb
  generalize w57.heap.size = g74 at *
  clear w57
  refine store_all (cs := Rg.none.cells.toArray) F73.out (by simp only [u8s_size, List.size_toArray, List.length_map, HWN.out.cells, HWN.out.cells]) (by rw [List.size_toArray, HWN.out.cells]; exact info27) (fun v hv => Rg.cell_one _ v (by simpa using hv)) rfl rfl rfl ?_
  intro w75 hD hO hlD
  try simp only [Act.put, List.setIfInBounds_toArray, List.set_cons_succ, List.set_cons_zero]
  clear hlD
  have F76 := Lib.hid (F68.out.trans (hO.below F68.out.size (fun k hk => by rw [hk]; exact HG67.out)))
  have F77 := Lib.hid (F69.out.keep hO HG67.out HE0.out)
  have F78 := Lib.hid (F70.out.only hO (HN64.out))
  have F79 := Lib.hid (F71.out.only hO (HN66.out))
  have F80 := Lib.hid (F72.out.only hO (HN65.out))
  clear F68 F69 F70 F71 F72 F73
  have F73' : Hid (Blk w75 g74 Rg.none.cells) := Lib.hid hD
  clear hD hO 
  refine takeL (.int .i64 11) rfl (by go_simp) ?_
  try simp only [Act.put, List.setIfInBounds_toArray, List.set_cons_succ, List.set_cons_zero]
  refine wpList_nil ?_
  go_upto_region 7 with fail
  refine wp_region_lit ?_
  refine build_g (build30 _) rfl ?_
  try simp only [Act.put, List.setIfInBounds_toArray, List.set_cons_succ, List.set_cons_zero]
  refine wpList_op rfl fun K hK => ?_
  go_simp
  refine (decode_no zeros_sc isReg_zeros _ F77.out).mono ?_
  rintro e w81 ⟨rfl, hb⟩
  have F82 := Lib.hid (F76.out.trans (hb.mono F76.out.size))
  have F83 := Lib.hid (F77.out.below (Nat.le_refl _) hb)
  have F84 := Lib.hid (F78.out.below hb F78.out.lt)
  have F85 := Lib.hid (F79.out.below hb F79.out.lt)
  have F86 := Lib.hid (F80.out.below hb F80.out.lt)
  have F87 := Lib.hid (F73'.out.below hb F73'.out.lt)
  clear F76 F77 F78 F79 F80 F73'
  clear hb
  refine hK _ _ ?_
  clear hK K
  try simp only [Act.put, List.setIfInBounds_toArray, List.set_cons_succ, List.set_cons_zero]
  refine takeL (.tuple #[.agg Rg.none.cells.toArray, .int .i64 11]) rfl (by go_simp) ?_
  try simp only [Act.put, List.setIfInBounds_toArray, List.set_cons_succ, List.set_cons_zero]
  refine takeL (.agg Rg.none.cells.toArray) rfl (by go_simp) ?_
  try simp only [Act.put, List.setIfInBounds_toArray, List.set_cons_succ, List.set_cons_zero]
  refine takeL (.int .i64 11) rfl (by go_simp) ?_
  try simp only [Act.put, List.setIfInBounds_toArray, List.set_cons_succ, List.set_cons_zero]
  refine alloc_g zero27 rfl ?_
  intro w88 hA hb hl
  try simp only [Act.put, List.setIfInBounds_toArray, List.set_cons_succ, List.set_cons_zero]
  clear hl
  have HN89 := Lib.hid (Nat.ne_of_lt F84.out.lt)
  have HN90 := Lib.hid (Nat.ne_of_lt F86.out.lt)
  have HN91 := Lib.hid (Nat.ne_of_lt F85.out.lt)
  have HN92 := Lib.hid (Nat.ne_of_lt F87.out.lt)
  have HG93 : Hid (w.heap.size ≤ w81.heap.size) := Lib.hid F82.out.size
  have F94 := Lib.hid (F82.out.trans (hb.mono F82.out.size))
  have F95 := Lib.hid (F83.out.below (Nat.le_refl _) hb)
  have F96 := Lib.hid (F84.out.below hb F84.out.lt)
  have F97 := Lib.hid (F85.out.below hb F85.out.lt)
  have F98 := Lib.hid (F86.out.below hb F86.out.lt)
  have F99 := Lib.hid (F87.out.below hb F87.out.lt)
  clear F82 F83 F84 F85 F86 F87
  have F100 : Hid (Blk w88 w81.heap.size Rg.none.cells) := Lib.hid hA
  clear hA hb
  generalize w81.heap.size = g101 at *
  clear w81
  refine store_all (cs := Rg.none.cells.toArray) F100.out (by simp only [u8s_size, List.size_toArray, List.length_map, HWN.out.cells, HWN.out.cells]) (by rw [List.size_toArray, HWN.out.cells]; exact info27) (fun v hv => Rg.cell_one _ v (by simpa using hv)) rfl rfl rfl ?_
  intro w102 hD hO hlD
  try simp only [Act.put, List.setIfInBounds_toArray, List.set_cons_succ, List.set_cons_zero]
  clear hlD
  have F103 := Lib.hid (F94.out.trans (hO.below F94.out.size (fun k hk => by rw [hk]; exact HG93.out)))
  have F104 := Lib.hid (F95.out.keep hO HG93.out HE0.out)
  have F105 := Lib.hid (F96.out.only hO (HN89.out))
  have F106 := Lib.hid (F97.out.only hO (HN91.out))
  have F107 := Lib.hid (F98.out.only hO (HN90.out))
  have F108 := Lib.hid (F99.out.only hO (HN92.out))
  clear F94 F95 F96 F97 F98 F99 F100
  have F100' : Hid (Blk w102 g101 Rg.none.cells) := Lib.hid hD
  clear hD hO 
  refine takeL (.int .i64 11) rfl (by go_simp) ?_
  try simp only [Act.put, List.setIfInBounds_toArray, List.set_cons_succ, List.set_cons_zero]
  refine wpList_nil ?_
  go_upto_region 8 with fail
  refine wp_region_lit ?_
  try simp only [List.append_eq, List.cons_append, List.nil_append]
  refine takeL (.int .i64 0) rfl (by go_simp) ?_
  try simp only [Act.put, List.setIfInBounds_toArray, List.set_cons_succ, List.set_cons_zero]
  refine takeL (.bool true) rfl (by go_simp) ?_
  try simp only [Act.put, List.setIfInBounds_toArray, List.set_cons_succ, List.set_cons_zero]
  refine takeL (.bool true) rfl (by go_simp) ?_
  try simp only [Act.put, List.setIfInBounds_toArray, List.set_cons_succ, List.set_cons_zero]
  refine takeL (.pointer (some ⟨g27, 0, none⟩)) rfl (by go_simp) ?_
  try simp only [Act.put, List.setIfInBounds_toArray, List.set_cons_succ, List.set_cons_zero]
  refine takeL (.pointer (some ⟨g27, 0, none⟩)) rfl (by go_simp) ?_
  try simp only [Act.put, List.setIfInBounds_toArray, List.set_cons_succ, List.set_cons_zero]
  refine takeL (.int .u8 82) rfl (by have hq := F107.out.cell (i := 0) (v := .int .u8 82) (by kernel_rfl); go_simp) ?_
  try simp only [Act.put, List.setIfInBounds_toArray, List.set_cons_succ, List.set_cons_zero]
  refine takeL (.bool true) rfl (by go_simp) ?_
  try simp only [Act.put, List.setIfInBounds_toArray, List.set_cons_succ, List.set_cons_zero]
  refine takeL (.bool true) rfl (by go_simp) ?_
  try simp only [Act.put, List.setIfInBounds_toArray, List.set_cons_succ, List.set_cons_zero]
  refine takeL (.bool true) rfl (by go_simp) ?_
  try simp only [Act.put, List.setIfInBounds_toArray, List.set_cons_succ, List.set_cons_zero]
  refine takeL (.pointer (some ⟨g27, 0, none⟩)) rfl (by go_simp) ?_
  try simp only [Act.put, List.setIfInBounds_toArray, List.set_cons_succ, List.set_cons_zero]
  refine takeL (.pointer (some ⟨g27, 2, none⟩)) rfl (by go_simp) ?_
  try simp only [Act.put, List.setIfInBounds_toArray, List.set_cons_succ, List.set_cons_zero]
  refine takeL (.int .u8 2) rfl (by have hq := F107.out.cell (i := 2) (v := .int .u8 2) (by kernel_rfl); go_simp) ?_
  try simp only [Act.put, List.setIfInBounds_toArray, List.set_cons_succ, List.set_cons_zero]
  refine takeL (.bool true) rfl (by go_simp) ?_
  try simp only [Act.put, List.setIfInBounds_toArray, List.set_cons_succ, List.set_cons_zero]
  refine takeL (.bool true) rfl (by go_simp) ?_
  try simp only [Act.put, List.setIfInBounds_toArray, List.set_cons_succ, List.set_cons_zero]
  refine takeL (.bool true) rfl (by go_simp) ?_
  try simp only [Act.put, List.setIfInBounds_toArray, List.set_cons_succ, List.set_cons_zero]
  refine takeL (.pointer (some ⟨g27, 0, none⟩)) rfl (by go_simp) ?_
  try simp only [Act.put, List.setIfInBounds_toArray, List.set_cons_succ, List.set_cons_zero]
  refine takeL (.pointer (some ⟨g27, 3, none⟩)) rfl (by go_simp) ?_
  try simp only [Act.put, List.setIfInBounds_toArray, List.set_cons_succ, List.set_cons_zero]
  refine takeL (.int .u8 1) rfl (by have hq := F107.out.cell (i := 3) (v := .int .u8 1) (by kernel_rfl); go_simp) ?_
  try simp only [Act.put, List.setIfInBounds_toArray, List.set_cons_succ, List.set_cons_zero]
  refine takeL (.bool true) rfl (by go_simp) ?_
  try simp only [Act.put, List.setIfInBounds_toArray, List.set_cons_succ, List.set_cons_zero]
  refine takeL (.bool true) rfl (by go_simp) ?_
  try simp only [Act.put, List.setIfInBounds_toArray, List.set_cons_succ, List.set_cons_zero]
  refine takeL (.bool true) rfl (by go_simp) ?_
  try simp only [Act.put, List.setIfInBounds_toArray, List.set_cons_succ, List.set_cons_zero]
  refine takeL (.pointer (some ⟨g27, 0, none⟩)) rfl (by go_simp) ?_
  try simp only [Act.put, List.setIfInBounds_toArray, List.set_cons_succ, List.set_cons_zero]
  refine takeL (.pointer (some ⟨g27, 6, none⟩)) rfl (by go_simp) ?_
  try simp only [Act.put, List.setIfInBounds_toArray, List.set_cons_succ, List.set_cons_zero]
  refine takeL (.int .u8 16) rfl (by have hq := F107.out.cell (i := 6) (v := .int .u8 16) (by kernel_rfl); go_simp) ?_
  try simp only [Act.put, List.setIfInBounds_toArray, List.set_cons_succ, List.set_cons_zero]
  refine takeL (.bool true) rfl (by go_simp) ?_
  try simp only [Act.put, List.setIfInBounds_toArray, List.set_cons_succ, List.set_cons_zero]
  refine takeL (.bool true) rfl (by go_simp) ?_
  try simp only [Act.put, List.setIfInBounds_toArray, List.set_cons_succ, List.set_cons_zero]
  refine takeL (.bool true) rfl (by go_simp) ?_
  try simp only [Act.put, List.setIfInBounds_toArray, List.set_cons_succ, List.set_cons_zero]
  refine takeL (.pointer (some ⟨g27, 0, none⟩)) rfl (by go_simp) ?_
  try simp only [Act.put, List.setIfInBounds_toArray, List.set_cons_succ, List.set_cons_zero]
  refine takeL (.pointer (some ⟨g27, 10, none⟩)) rfl (by go_simp) ?_
  try simp only [Act.put, List.setIfInBounds_toArray, List.set_cons_succ, List.set_cons_zero]
  refine takeL (.int .u8 3) rfl (by have hq := F107.out.cell (i := 10) (v := .int .u8 3) (by kernel_rfl); go_simp) ?_
  try simp only [Act.put, List.setIfInBounds_toArray, List.set_cons_succ, List.set_cons_zero]
  refine takeL (.bool true) rfl (by go_simp) ?_
  try simp only [Act.put, List.setIfInBounds_toArray, List.set_cons_succ, List.set_cons_zero]
  refine takeL (.bool true) rfl (by go_simp) ?_
  try simp only [Act.put, List.setIfInBounds_toArray, List.set_cons_succ, List.set_cons_zero]
  refine takeL (.bool true) rfl (by go_simp) ?_
  try simp only [Act.put, List.setIfInBounds_toArray, List.set_cons_succ, List.set_cons_zero]
  refine takeL (.pointer (some ⟨g27, 0, none⟩)) rfl (by go_simp) ?_
  try simp only [Act.put, List.setIfInBounds_toArray, List.set_cons_succ, List.set_cons_zero]
  refine takeL (.pointer (some ⟨g27, 12, none⟩)) rfl (by go_simp) ?_
  try simp only [Act.put, List.setIfInBounds_toArray, List.set_cons_succ, List.set_cons_zero]
  refine takeL (.int .u8 7) rfl (by have hq := F107.out.cell (i := 12) (v := .int .u8 7) (by kernel_rfl); go_simp) ?_
  try simp only [Act.put, List.setIfInBounds_toArray, List.set_cons_succ, List.set_cons_zero]
  refine takeL (.bool true) rfl (by go_simp) ?_
  try simp only [Act.put, List.setIfInBounds_toArray, List.set_cons_succ, List.set_cons_zero]
  refine takeL (.bool true) rfl (by go_simp) ?_
  try simp only [Act.put, List.setIfInBounds_toArray, List.set_cons_succ, List.set_cons_zero]
  refine takeL (.bool true) rfl (by go_simp) ?_
  try simp only [Act.put, List.setIfInBounds_toArray, List.set_cons_succ, List.set_cons_zero]
  refine takeL (.pointer (some ⟨g27, 64, none⟩)) rfl (by go_simp) ?_
  try simp only [Act.put, List.setIfInBounds_toArray, List.set_cons_succ, List.set_cons_zero]
  refine takeL (.pointer (some ⟨g27, 65, none⟩)) rfl (by go_simp) ?_
  try simp only [Act.put, List.setIfInBounds_toArray, List.set_cons_succ, List.set_cons_zero]
  refine takeL (.int .u8 1) rfl (by have hq := F107.out.cell (i := 65) (v := .int .u8 1) (by kernel_rfl); go_simp) ?_
  try simp only [Act.put, List.setIfInBounds_toArray, List.set_cons_succ, List.set_cons_zero]
  refine takeL (.bool true) rfl (by go_simp) ?_
  try simp only [Act.put, List.setIfInBounds_toArray, List.set_cons_succ, List.set_cons_zero]
  refine takeL (.bool true) rfl (by go_simp) ?_
  try simp only [Act.put, List.setIfInBounds_toArray, List.set_cons_succ, List.set_cons_zero]
  refine takeL (.bool true) rfl (by go_simp) ?_
  try simp only [Act.put, List.setIfInBounds_toArray, List.set_cons_succ, List.set_cons_zero]
  refine takeL (.pointer (some ⟨g27, 64, none⟩)) rfl (by go_simp) ?_
  try simp only [Act.put, List.setIfInBounds_toArray, List.set_cons_succ, List.set_cons_zero]
  refine takeL (.pointer (some ⟨g27, 72, none⟩)) rfl (by go_simp) ?_
  try simp only [Act.put, List.setIfInBounds_toArray, List.set_cons_succ, List.set_cons_zero]
  refine takeL (.int .u8 30) rfl (by have hq := F107.out.cell (i := 72) (v := .int .u8 30) (by kernel_rfl); go_simp) ?_
  try simp only [Act.put, List.setIfInBounds_toArray, List.set_cons_succ, List.set_cons_zero]
  refine takeL (.bool true) rfl (by go_simp) ?_
  try simp only [Act.put, List.setIfInBounds_toArray, List.set_cons_succ, List.set_cons_zero]
  refine takeL (.bool true) rfl (by go_simp) ?_
  try simp only [Act.put, List.setIfInBounds_toArray, List.set_cons_succ, List.set_cons_zero]
  refine takeL (.bool true) rfl (by go_simp) ?_
  try simp only [Act.put, List.setIfInBounds_toArray, List.set_cons_succ, List.set_cons_zero]
  refine takeL (.int .i64 0) rfl (by go_simp) ?_
  try simp only [Act.put, List.setIfInBounds_toArray, List.set_cons_succ, List.set_cons_zero]
  refine takeL (.bool true) rfl (by go_simp) ?_
  try simp only [Act.put, List.setIfInBounds_toArray, List.set_cons_succ, List.set_cons_zero]
  refine takeL (.bool true) rfl (by go_simp) ?_
  try simp only [Act.put, List.setIfInBounds_toArray, List.set_cons_succ, List.set_cons_zero]
  refine takeL (.bool true) rfl (by go_simp) ?_
  try simp only [Act.put, List.setIfInBounds_toArray, List.set_cons_succ, List.set_cons_zero]
  refine load27 (cs := rX.cells.toArray) (Blk.all F106.out rfl) (by rw [List.size_toArray]; exact HWX.out.cells) rfl rfl ?_
  try simp only [Act.put, List.setIfInBounds_toArray, List.set_cons_succ, List.set_cons_zero]
  refine load27 (cs := rX.cells.toArray) (Blk.all F105.out rfl) (by rw [List.size_toArray]; exact HWX.out.cells) rfl rfl ?_
  try simp only [Act.put, List.setIfInBounds_toArray, List.set_cons_succ, List.set_cons_zero]
  refine takeL (.bool true) rfl (by exact run_eql_reg rfl _ _ _ rfl rfl rfl) ?_
  try simp only [Act.put, List.setIfInBounds_toArray, List.set_cons_succ, List.set_cons_zero]
  refine takeL (.bool true) rfl (by go_simp) ?_
  try simp only [Act.put, List.setIfInBounds_toArray, List.set_cons_succ, List.set_cons_zero]
  refine takeL (.bool true) rfl (by go_simp) ?_
  try simp only [Act.put, List.setIfInBounds_toArray, List.set_cons_succ, List.set_cons_zero]
  refine takeL (.int .i64 11) rfl (by go_simp) ?_
  try simp only [Act.put, List.setIfInBounds_toArray, List.set_cons_succ, List.set_cons_zero]
  refine takeL (.bool true) rfl (by go_simp) ?_
  try simp only [Act.put, List.setIfInBounds_toArray, List.set_cons_succ, List.set_cons_zero]
  refine takeL (.bool true) rfl (by go_simp) ?_
  try simp only [Act.put, List.setIfInBounds_toArray, List.set_cons_succ, List.set_cons_zero]
  refine takeL (.bool true) rfl (by go_simp) ?_
  try simp only [Act.put, List.setIfInBounds_toArray, List.set_cons_succ, List.set_cons_zero]
  refine takeL (.int .i64 11) rfl (by go_simp) ?_
  try simp only [Act.put, List.setIfInBounds_toArray, List.set_cons_succ, List.set_cons_zero]
  refine takeL (.bool true) rfl (by go_simp) ?_
  try simp only [Act.put, List.setIfInBounds_toArray, List.set_cons_succ, List.set_cons_zero]
  refine takeL (.bool true) rfl (by go_simp) ?_
  try simp only [Act.put, List.setIfInBounds_toArray, List.set_cons_succ, List.set_cons_zero]
  refine takeL (.bool true) rfl (by go_simp) ?_
  try simp only [Act.put, List.setIfInBounds_toArray, List.set_cons_succ, List.set_cons_zero]
  refine load27 (cs := rX.cells.toArray) (Blk.all F105.out rfl) (by rw [List.size_toArray]; exact HWX.out.cells) rfl rfl ?_
  try simp only [Act.put, List.setIfInBounds_toArray, List.set_cons_succ, List.set_cons_zero]
  refine wpList_op rfl fun K hK => ?_
  go_simp
  refine (good_is rX_good rX_wf _).mono ?_
  rintro e w109 ⟨rfl, hb⟩
  have F110 := Lib.hid (F103.out.trans (hb.mono F103.out.size))
  have F111 := Lib.hid (F104.out.below (Nat.le_refl _) hb)
  have F112 := Lib.hid (F105.out.below hb F105.out.lt)
  have F113 := Lib.hid (F106.out.below hb F106.out.lt)
  have F114 := Lib.hid (F107.out.below hb F107.out.lt)
  have F115 := Lib.hid (F108.out.below hb F108.out.lt)
  have F116 := Lib.hid (F100'.out.below hb F100'.out.lt)
  clear F103 F104 F105 F106 F107 F108 F100'
  clear hb
  refine hK _ _ ?_
  clear hK K
  try simp only [Act.put, List.setIfInBounds_toArray, List.set_cons_succ, List.set_cons_zero]
  refine takeL (.bool true) rfl (by go_simp) ?_
  try simp only [Act.put, List.setIfInBounds_toArray, List.set_cons_succ, List.set_cons_zero]
  refine takeL (.bool true) rfl (by go_simp) ?_
  try simp only [Act.put, List.setIfInBounds_toArray, List.set_cons_succ, List.set_cons_zero]
  refine wpList_nil ?_
  go_wp2_with fail
  go_ret
  exact ⟨rfl, F110.out⟩
end Go.Proofs.YtlleafhfogfngaaDoor
