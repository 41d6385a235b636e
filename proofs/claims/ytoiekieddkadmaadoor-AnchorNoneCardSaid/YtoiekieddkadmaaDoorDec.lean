/- Package region's regionOf and Decode. -/
import Derived.Test.YtoiekieddkadmaaDoorEql
namespace Go.Proofs.YtoiekieddkadmaaDoor
set_option linter.unusedSimpArgs false
set_option linter.unusedVariables false
open Go.RowKit

theorem dec_yes {x : List Int} (h : isReg x = true) : dec x = readOf x ∧ decE x = 0 := by unfold dec decE; rw [h]; exact ⟨rfl, rfl⟩
theorem dec_no {x : List Int} (h : isReg x = false) : dec x = Rg.none ∧ decE x = 11 := by unfold dec decE; rw [h]; exact ⟨rfl, rfl⟩
set_option maxRecDepth 100000 in
theorem regionOf_yes (x : List Int) (hx : Sc2 x) (h : isReg x = true) (w : World) : Calls Tryd.prog 30 #[.agg (u8s x).toArray] w fun e w' => e = .returned (.tuple #[.agg (readOf x).cells.toArray, .nilIface]) ∧ Below w.heap.size w w' := by
  have HZ128 := Lib.hid (zeros_length 128)
  have HWN := Lib.hid none_wf
  have HBL : Hid (Below w.heap.size w w) := Lib.hid (Below.refl _ _)
  have HSC := Lib.hid hx
  have HXL := Lib.hid hx.length
  have HWF := Lib.hid (readOf_wf hx)
  have HE := Lib.hid (enc_length (readOf_wf hx).len)
  clear hx
  have HGD := Lib.hid (isReg_parts h).1
  have HEX := Lib.hid (isReg_parts h).2
  clear h
  go_enter Tryd.func30, Tryd.ntmps30
  go_upto_region 0 with fail
  refine wp_region_lit ?_
  refine box_g rfl rfl ?_
  intro w1 hA hb hl
  try simp only [Act.put, List.setIfInBounds_toArray, List.set_cons_succ, List.set_cons_zero]
  clear hl
  have HG2 : Hid (w.heap.size ≤ w.heap.size) := Lib.hid HBL.out.size
  have F3 := Lib.hid (HBL.out.trans (hb.mono HBL.out.size))
  clear HBL
  have F4 : Hid (Blk w1 w.heap.size (u8s x)) := Lib.hid hA
  clear hA hb
  refine alloc_g zero27 rfl ?_
  intro w5 hA hb hl
  try simp only [Act.put, List.setIfInBounds_toArray, List.set_cons_succ, List.set_cons_zero]
  clear hl
  have HN6 := Lib.hid (Nat.ne_of_lt F4.out.lt)
  have HG7 : Hid (w.heap.size ≤ w1.heap.size) := Lib.hid F3.out.size
  have F8 := Lib.hid (F3.out.trans (hb.mono F3.out.size))
  have F9 := Lib.hid (F4.out.below hb F4.out.lt)
  clear F3 F4
  have F10 : Hid (Blk w5 w1.heap.size Rg.none.cells) := Lib.hid hA
  clear hA hb
  generalize w1.heap.size = g11 at *
  clear w1
  refine takeL (Value.nilIface) rfl (by go_simp) ?_
  try simp only [Act.put, List.setIfInBounds_toArray, List.set_cons_succ, List.set_cons_zero]
  refine wpList_nil ?_
  go_upto_region 1 with fail
  refine wp_region_lit ?_
  refine load50 (cs := (u8s x).toArray) (Blk.all F9.out rfl) (by rw [u8s_size, HXL.out]) rfl rfl ?_
  try simp only [Act.put, List.setIfInBounds_toArray, List.set_cons_succ, List.set_cons_zero]
  refine wpList_op rfl fun K hK => ?_
  go_simp
  refine (read_any x HSC.out _).mono ?_
  rintro e w12 ⟨rfl, hb⟩
  have F13 := Lib.hid (F8.out.trans (hb.mono F8.out.size))
  have F14 := Lib.hid (F9.out.below hb F9.out.lt)
  have F15 := Lib.hid (F10.out.below hb F10.out.lt)
  clear F8 F9 F10
  clear hb
  refine hK _ _ ?_
  clear hK K
  try simp only [Act.put, List.setIfInBounds_toArray, List.set_cons_succ, List.set_cons_zero]
  refine alloc_g zero27 rfl ?_
  intro w16 hA hb hl
  try simp only [Act.put, List.setIfInBounds_toArray, List.set_cons_succ, List.set_cons_zero]
  clear hl
  have HN17 := Lib.hid (Nat.ne_of_lt F14.out.lt)
  have HN18 := Lib.hid (Nat.ne_of_lt F15.out.lt)
  have HG19 : Hid (w.heap.size ≤ w12.heap.size) := Lib.hid F13.out.size
  have F20 := Lib.hid (F13.out.trans (hb.mono F13.out.size))
  have F21 := Lib.hid (F14.out.below hb F14.out.lt)
  have F22 := Lib.hid (F15.out.below hb F15.out.lt)
  clear F13 F14 F15
  have F23 : Hid (Blk w16 w12.heap.size Rg.none.cells) := Lib.hid hA
  clear hA hb
  generalize w12.heap.size = g24 at *
  clear w12
  refine store_all (cs := (readOf x).cells.toArray) F23.out (by simp only [u8s_size, List.size_toArray, List.length_map, HWN.out.cells, HWF.out.cells]) (by rw [List.size_toArray, HWF.out.cells]; exact info27) (fun v hv => Rg.cell_one _ v (by simpa using hv)) rfl rfl rfl ?_
  intro w25 hD hO hlD
  try simp only [Act.put, List.setIfInBounds_toArray, List.set_cons_succ, List.set_cons_zero]
  clear hlD
  have F26 := Lib.hid (F20.out.trans (hO.below F20.out.size (fun k hk => by rw [hk]; exact HG19.out)))
  have F27 := Lib.hid (F21.out.only hO (HN17.out))
  have F28 := Lib.hid (F22.out.only hO (HN18.out))
  clear F20 F21 F22 F23
  have F23' : Hid (Blk w25 g24 (readOf x).cells) := Lib.hid hD
  clear hD hO 
  refine wpList_nil ?_
  go_upto_region 2 with fail
  refine wp_region_lit ?_
  refine load27 (cs := (readOf x).cells.toArray) (Blk.all F23'.out rfl) (by rw [List.size_toArray]; exact HWF.out.cells) rfl rfl ?_
  try simp only [Act.put, List.setIfInBounds_toArray, List.set_cons_succ, List.set_cons_zero]
  refine wpList_op rfl fun K hK => ?_
  go_simp
  refine (sectors_yes HGD.out HWF.out _).mono ?_
  rintro e w29 ⟨rfl, hb⟩
  have F30 := Lib.hid (F26.out.trans (hb.mono F26.out.size))
  have F31 := Lib.hid (F27.out.below hb F27.out.lt)
  have F32 := Lib.hid (F28.out.below hb F28.out.lt)
  have F33 := Lib.hid (F23'.out.below hb F23'.out.lt)
  clear F26 F27 F28 F23'
  clear hb
  refine hK _ _ ?_
  clear hK K
  try simp only [Act.put, List.setIfInBounds_toArray, List.set_cons_succ, List.set_cons_zero]
  refine takeL (.tuple #[.agg (u8s (readOf x).enc).toArray, Value.nilIface]) rfl (by go_simp) ?_
  try simp only [Act.put, List.setIfInBounds_toArray, List.set_cons_succ, List.set_cons_zero]
  refine takeL (.agg (u8s (readOf x).enc).toArray) rfl (by go_simp) ?_
  try simp only [Act.put, List.setIfInBounds_toArray, List.set_cons_succ, List.set_cons_zero]
  refine takeL (Value.nilIface) rfl (by go_simp) ?_
  try simp only [Act.put, List.setIfInBounds_toArray, List.set_cons_succ, List.set_cons_zero]
  refine alloc_g zero50 rfl ?_
  intro w34 hA hb hl
  try simp only [Act.put, List.setIfInBounds_toArray, List.set_cons_succ, List.set_cons_zero]
  clear hl
  have HN35 := Lib.hid (Nat.ne_of_lt F31.out.lt)
  have HN36 := Lib.hid (Nat.ne_of_lt F32.out.lt)
  have HN37 := Lib.hid (Nat.ne_of_lt F33.out.lt)
  have HG38 : Hid (w.heap.size ≤ w29.heap.size) := Lib.hid F30.out.size
  have F39 := Lib.hid (F30.out.trans (hb.mono F30.out.size))
  have F40 := Lib.hid (F31.out.below hb F31.out.lt)
  have F41 := Lib.hid (F32.out.below hb F32.out.lt)
  have F42 := Lib.hid (F33.out.below hb F33.out.lt)
  clear F30 F31 F32 F33
  have F43 : Hid (Blk w34 w29.heap.size (u8s (zeros 128))) := Lib.hid hA
  clear hA hb
  generalize w29.heap.size = g44 at *
  clear w29
  refine store_all (cs := (u8s (readOf x).enc).toArray) F43.out (by simp only [u8s_size, List.size_toArray, List.length_map, HZ128.out, HE.out]) (by rw [u8s_size, HE.out]; exact info50) (u8s_one _) rfl rfl rfl ?_
  intro w45 hD hO hlD
  try simp only [Act.put, List.setIfInBounds_toArray, List.set_cons_succ, List.set_cons_zero]
  clear hlD
  have F46 := Lib.hid (F39.out.trans (hO.below F39.out.size (fun k hk => by rw [hk]; exact HG38.out)))
  have F47 := Lib.hid (F40.out.only hO (HN35.out))
  have F48 := Lib.hid (F41.out.only hO (HN36.out))
  have F49 := Lib.hid (F42.out.only hO (HN37.out))
  clear F39 F40 F41 F42 F43
  have F43' : Hid (Blk w45 g44 (u8s (readOf x).enc)) := Lib.hid hD
  clear hD hO 
  refine takeL (Value.nilIface) rfl (by go_simp) ?_
  try simp only [Act.put, List.setIfInBounds_toArray, List.set_cons_succ, List.set_cons_zero]
  refine wpList_nil ?_
  go_upto_region 3 with fail
  refine wp_region_lit ?_
  refine takeL (Value.nilIface) rfl (by go_simp) ?_
  try simp only [Act.put, List.setIfInBounds_toArray, List.set_cons_succ, List.set_cons_zero]
  refine takeL (.bool false) rfl (by go_simp) ?_
  try simp only [Act.put, List.setIfInBounds_toArray, List.set_cons_succ, List.set_cons_zero]
  refine wpList_nil ?_
  go_upto_region 5 with fail
  refine wp_region_lit ?_
  refine load50 (cs := (u8s (readOf x).enc).toArray) (Blk.all F43'.out rfl) (by rw [u8s_size, HE.out]) rfl rfl ?_
  try simp only [Act.put, List.setIfInBounds_toArray, List.set_cons_succ, List.set_cons_zero]
  refine load50 (cs := (u8s x).toArray) (Blk.all F47.out rfl) (by rw [u8s_size, HXL.out]) rfl rfl ?_
  try simp only [Act.put, List.setIfInBounds_toArray, List.set_cons_succ, List.set_cons_zero]
  refine takeL (.bool false) rfl (by exact run_neq_two (v := false) (decide_eq_true HEX.out) HE.out HXL.out _ _ _ rfl rfl rfl) ?_
  try simp only [Act.put, List.setIfInBounds_toArray, List.set_cons_succ, List.set_cons_zero]
  refine wpList_nil ?_
  go_upto_region 7 with fail
  refine wp_region_lit ?_
  refine load27 (cs := (readOf x).cells.toArray) (Blk.all F49.out rfl) (by rw [List.size_toArray]; exact HWF.out.cells) rfl rfl ?_
  try simp only [Act.put, List.setIfInBounds_toArray, List.set_cons_succ, List.set_cons_zero]
  refine store_all (cs := (readOf x).cells.toArray) F48.out (by simp only [u8s_size, List.size_toArray, List.length_map, HWN.out.cells, HWF.out.cells]) (by rw [List.size_toArray, HWF.out.cells]; exact info27) (fun v hv => Rg.cell_one _ v (by simpa using hv)) rfl rfl rfl ?_
  intro w50 hD hO hlD
  try simp only [Act.put, List.setIfInBounds_toArray, List.set_cons_succ, List.set_cons_zero]
  clear hlD
  have F51 := Lib.hid (F46.out.trans (hO.below F46.out.size (fun k hk => by rw [hk]; exact HG7.out)))
  have F52 := Lib.hid (F47.out.only hO (HN6.out))
  have F53 := Lib.hid (F49.out.only hO (HN18.out.symm))
  have F54 := Lib.hid (F43'.out.only hO (HN36.out.symm))
  clear F46 F47 F49 F43' F48
  have F10' : Hid (Blk w50 g11 (readOf x).cells) := Lib.hid hD
  clear hD hO 
  refine takeL (Value.nilIface) rfl (by go_simp) ?_
  try simp only [Act.put, List.setIfInBounds_toArray, List.set_cons_succ, List.set_cons_zero]
  refine wpList_nil ?_
  go_wp2_with fail
  exact bodyPost_ret (v := .tuple #[.agg (readOf x).cells.toArray, Value.nilIface]) (results_cell_tmp rfl _ _ g11 0 _ _ _ rfl rfl Tryd.underlying27 rfl (by rw [List.size_toArray, HWF.out.cells]; exact info27) (Blk.all F10'.out rfl)) rfl ⟨rfl, F51.out⟩
set_option maxRecDepth 100000 in
theorem regionOf_bad (x : List Int) (hx : Sc2 x) (hg : (readOf x).good = false) (w : World) : Calls Tryd.prog 30 #[.agg (u8s x).toArray] w fun e w' => ∃ T d t ts, e = .returned (.tuple #[.agg Rg.none.cells.toArray, .iface T d]) ∧ Chain w' 11 (t :: ts) (.iface T d) ∧ Below w.heap.size w w' := by
  have HZ128 := Lib.hid (zeros_length 128)
  have HWN := Lib.hid none_wf
  have HBL : Hid (Below w.heap.size w w) := Lib.hid (Below.refl _ _)
  have HSC := Lib.hid hx
  have HXL := Lib.hid hx.length
  have HWF := Lib.hid (readOf_wf hx)
  have HE := Lib.hid (enc_length (readOf_wf hx).len)
  clear hx
  have HGD := Lib.hid hg
  clear hg
  go_enter Tryd.func30, Tryd.ntmps30
  go_upto_region 0 with fail
  refine wp_region_lit ?_
  refine box_g rfl rfl ?_
  intro w1 hA hb hl
  try simp only [Act.put, List.setIfInBounds_toArray, List.set_cons_succ, List.set_cons_zero]
  clear hl
  have HG2 : Hid (w.heap.size ≤ w.heap.size) := Lib.hid HBL.out.size
  have F3 := Lib.hid (HBL.out.trans (hb.mono HBL.out.size))
  clear HBL
  have F4 : Hid (Blk w1 w.heap.size (u8s x)) := Lib.hid hA
  clear hA hb
  refine alloc_g zero27 rfl ?_
  intro w5 hA hb hl
  try simp only [Act.put, List.setIfInBounds_toArray, List.set_cons_succ, List.set_cons_zero]
  clear hl
  have HN6 := Lib.hid (Nat.ne_of_lt F4.out.lt)
  have HG7 : Hid (w.heap.size ≤ w1.heap.size) := Lib.hid F3.out.size
  have F8 := Lib.hid (F3.out.trans (hb.mono F3.out.size))
  have F9 := Lib.hid (F4.out.below hb F4.out.lt)
  clear F3 F4
  have F10 : Hid (Blk w5 w1.heap.size Rg.none.cells) := Lib.hid hA
  clear hA hb
  generalize w1.heap.size = g11 at *
  clear w1
  refine takeL (Value.nilIface) rfl (by go_simp) ?_
  try simp only [Act.put, List.setIfInBounds_toArray, List.set_cons_succ, List.set_cons_zero]
  refine wpList_nil ?_
  go_upto_region 1 with fail
  refine wp_region_lit ?_
  refine load50 (cs := (u8s x).toArray) (Blk.all F9.out rfl) (by rw [u8s_size, HXL.out]) rfl rfl ?_
  try simp only [Act.put, List.setIfInBounds_toArray, List.set_cons_succ, List.set_cons_zero]
  refine wpList_op rfl fun K hK => ?_
  go_simp
  refine (read_any x HSC.out _).mono ?_
  rintro e w12 ⟨rfl, hb⟩
  have F13 := Lib.hid (F8.out.trans (hb.mono F8.out.size))
  have F14 := Lib.hid (F9.out.below hb F9.out.lt)
  have F15 := Lib.hid (F10.out.below hb F10.out.lt)
  clear F8 F9 F10
  clear hb
  refine hK _ _ ?_
  clear hK K
  try simp only [Act.put, List.setIfInBounds_toArray, List.set_cons_succ, List.set_cons_zero]
  refine alloc_g zero27 rfl ?_
  intro w16 hA hb hl
  try simp only [Act.put, List.setIfInBounds_toArray, List.set_cons_succ, List.set_cons_zero]
  clear hl
  have HN17 := Lib.hid (Nat.ne_of_lt F14.out.lt)
  have HN18 := Lib.hid (Nat.ne_of_lt F15.out.lt)
  have HG19 : Hid (w.heap.size ≤ w12.heap.size) := Lib.hid F13.out.size
  have F20 := Lib.hid (F13.out.trans (hb.mono F13.out.size))
  have F21 := Lib.hid (F14.out.below hb F14.out.lt)
  have F22 := Lib.hid (F15.out.below hb F15.out.lt)
  clear F13 F14 F15
  have F23 : Hid (Blk w16 w12.heap.size Rg.none.cells) := Lib.hid hA
  clear hA hb
  generalize w12.heap.size = g24 at *
  clear w12
  refine store_all (cs := (readOf x).cells.toArray) F23.out (by simp only [u8s_size, List.size_toArray, List.length_map, HWN.out.cells, HWF.out.cells]) (by rw [List.size_toArray, HWF.out.cells]; exact info27) (fun v hv => Rg.cell_one _ v (by simpa using hv)) rfl rfl rfl ?_
  intro w25 hD hO hlD
  try simp only [Act.put, List.setIfInBounds_toArray, List.set_cons_succ, List.set_cons_zero]
  clear hlD
  have F26 := Lib.hid (F20.out.trans (hO.below F20.out.size (fun k hk => by rw [hk]; exact HG19.out)))
  have F27 := Lib.hid (F21.out.only hO (HN17.out))
  have F28 := Lib.hid (F22.out.only hO (HN18.out))
  clear F20 F21 F22 F23
  have F23' : Hid (Blk w25 g24 (readOf x).cells) := Lib.hid hD
  clear hD hO 
  refine wpList_nil ?_
  go_upto_region 2 with fail
  refine wp_region_lit ?_
  refine load27 (cs := (readOf x).cells.toArray) (Blk.all F23'.out rfl) (by rw [List.size_toArray]; exact HWF.out.cells) rfl rfl ?_
  try simp only [Act.put, List.setIfInBounds_toArray, List.set_cons_succ, List.set_cons_zero]
  refine wpList_op rfl fun K hK => ?_
  go_simp
  refine (sectors_no HGD.out HWF.out _).mono ?_
  rintro e w29 ⟨Tw29, dw29, tw29, tsw29, rfl, hc, hb⟩
  have F30 := Lib.hid (F26.out.trans (hb.mono F26.out.size))
  have F31 := Lib.hid (F27.out.below hb F27.out.lt)
  have F32 := Lib.hid (F28.out.below hb F28.out.lt)
  have F33 := Lib.hid (F23'.out.below hb F23'.out.lt)
  clear F26 F27 F28 F23'
  have F34 := Lib.hid hc
  clear hb hc
  refine hK _ _ ?_
  clear hK K
  try simp only [Act.put, List.setIfInBounds_toArray, List.set_cons_succ, List.set_cons_zero]
  refine takeL (.tuple #[.agg (u8s (zeros 128)).toArray, .iface Tw29 dw29]) rfl (by go_simp) ?_
  try simp only [Act.put, List.setIfInBounds_toArray, List.set_cons_succ, List.set_cons_zero]
  refine takeL (.agg (u8s (zeros 128)).toArray) rfl (by go_simp) ?_
  try simp only [Act.put, List.setIfInBounds_toArray, List.set_cons_succ, List.set_cons_zero]
  refine takeL (.iface Tw29 dw29) rfl (by go_simp) ?_
  try simp only [Act.put, List.setIfInBounds_toArray, List.set_cons_succ, List.set_cons_zero]
  refine alloc_g zero50 rfl ?_
  intro w35 hA hb hl
  try simp only [Act.put, List.setIfInBounds_toArray, List.set_cons_succ, List.set_cons_zero]
  clear hl
  have HN36 := Lib.hid (Nat.ne_of_lt F31.out.lt)
  have HN37 := Lib.hid (Nat.ne_of_lt F32.out.lt)
  have HN38 := Lib.hid (Nat.ne_of_lt F33.out.lt)
  have HG39 : Hid (w.heap.size ≤ w29.heap.size) := Lib.hid F30.out.size
  have F40 := Lib.hid (F30.out.trans (hb.mono F30.out.size))
  have F41 := Lib.hid (F31.out.below hb F31.out.lt)
  have F42 := Lib.hid (F32.out.below hb F32.out.lt)
  have F43 := Lib.hid (F33.out.below hb F33.out.lt)
  have F44 := Lib.hid (F34.out.below (Nat.le_refl _) hb)
  clear F30 F31 F32 F33 F34
  have F45 : Hid (Blk w35 w29.heap.size (u8s (zeros 128))) := Lib.hid hA
  clear hA hb
  generalize w29.heap.size = g46 at *
  clear w29
  refine store_all (cs := (u8s (zeros 128)).toArray) F45.out (by simp only [u8s_size, List.size_toArray, List.length_map, HZ128.out, HZ128.out]) (by rw [u8s_size, HZ128.out]; exact info50) (u8s_one _) rfl rfl rfl ?_
  intro w47 hD hO hlD
  try simp only [Act.put, List.setIfInBounds_toArray, List.set_cons_succ, List.set_cons_zero]
  clear hlD
  have F48 := Lib.hid (F40.out.trans (hO.below F40.out.size (fun k hk => by rw [hk]; exact HG39.out)))
  have F49 := Lib.hid (F41.out.only hO (HN36.out))
  have F50 := Lib.hid (F42.out.only hO (HN37.out))
  have F51 := Lib.hid (F43.out.only hO (HN38.out))
  have F52 := Lib.hid (F44.out.keep hO (Blk.noStr F45.out (u8s_noStr _)))
  clear F40 F41 F42 F43 F44 F45
  have F45' : Hid (Blk w47 g46 (u8s (zeros 128))) := Lib.hid hD
  clear hD hO 
  refine takeL (.iface Tw29 dw29) rfl (by go_simp) ?_
  try simp only [Act.put, List.setIfInBounds_toArray, List.set_cons_succ, List.set_cons_zero]
  refine wpList_nil ?_
  go_upto_region 3 with fail
  refine wp_region_lit ?_
  refine takeL (.iface Tw29 dw29) rfl (by go_simp) ?_
  try simp only [Act.put, List.setIfInBounds_toArray, List.set_cons_succ, List.set_cons_zero]
  refine takeL (.bool true) rfl (by go_simp) ?_
  try simp only [Act.put, List.setIfInBounds_toArray, List.set_cons_succ, List.set_cons_zero]
  refine wpList_nil ?_
  go_upto_region 4 with fail
  refine wp_region_lit ?_
  refine build_g (build27 _) rfl ?_
  try simp only [Act.put, List.setIfInBounds_toArray, List.set_cons_succ, List.set_cons_zero]
  refine takeL (.iface Tw29 dw29) rfl (by go_simp) ?_
  try simp only [Act.put, List.setIfInBounds_toArray, List.set_cons_succ, List.set_cons_zero]
  refine wpList_op rfl fun K hK => ?_
  go_simp
  refine (wrap_err _ _ _ _ _ _ F52.out).mono ?_
  rintro e w53 ⟨Tw53, dw53, tw53, tsw53, rfl, hc, hb⟩
  have F54 := Lib.hid (F48.out.trans (hb.mono F48.out.size))
  have F55 := Lib.hid (F49.out.below hb F49.out.lt)
  have F56 := Lib.hid (F50.out.below hb F50.out.lt)
  have F57 := Lib.hid (F51.out.below hb F51.out.lt)
  have F58 := Lib.hid (F52.out.below (Nat.le_refl _) hb)
  have F59 := Lib.hid (F45'.out.below hb F45'.out.lt)
  clear F48 F49 F50 F51 F52 F45'
  have F60 := Lib.hid hc
  clear hb hc
  refine hK _ _ ?_
  clear hK K
  try simp only [Act.put, List.setIfInBounds_toArray, List.set_cons_succ, List.set_cons_zero]
  refine store_all (cs := Rg.none.cells.toArray) F56.out (by simp only [u8s_size, List.size_toArray, List.length_map, HWN.out.cells, HWN.out.cells]) (by rw [List.size_toArray, HWN.out.cells]; exact info27) (fun v hv => Rg.cell_one _ v (by simpa using hv)) rfl rfl rfl ?_
  intro w61 hD hO hlD
  try simp only [Act.put, List.setIfInBounds_toArray, List.set_cons_succ, List.set_cons_zero]
  clear hlD
  have F62 := Lib.hid (F54.out.trans (hO.below F54.out.size (fun k hk => by rw [hk]; exact HG7.out)))
  have F63 := Lib.hid (F55.out.only hO (HN6.out))
  have F64 := Lib.hid (F57.out.only hO (HN18.out.symm))
  have F65 := Lib.hid (F58.out.keep hO (Blk.noStr F56.out (Rg.noStr _)))
  have F66 := Lib.hid (F59.out.only hO (HN37.out.symm))
  have F67 := Lib.hid (F60.out.keep hO (Blk.noStr F56.out (Rg.noStr _)))
  clear F54 F55 F57 F58 F59 F60 F56
  have F10' : Hid (Blk w61 g11 Rg.none.cells) := Lib.hid hD
  clear hD hO 
  refine takeL (.iface Tw53 dw53) rfl (by go_simp) ?_
  try simp only [Act.put, List.setIfInBounds_toArray, List.set_cons_succ, List.set_cons_zero]
  refine wpList_nil ?_
  go_wp2_with fail
  exact bodyPost_ret (v := .tuple #[.agg Rg.none.cells.toArray, .iface Tw53 dw53]) (results_cell_tmp rfl _ _ g11 0 _ _ _ rfl rfl Tryd.underlying27 rfl (by rw [List.size_toArray, HWN.out.cells]; exact info27) (Blk.all F10'.out rfl)) rfl ⟨_, _, _, _, rfl, F67.out, F62.out⟩
set_option maxRecDepth 100000 in
theorem regionOf_ne (x : List Int) (hx : Sc2 x) (hg : (readOf x).good = true) (he : ¬ (readOf x).enc = x) (w : World) : Calls Tryd.prog 30 #[.agg (u8s x).toArray] w fun e w' => ∃ T d t ts, e = .returned (.tuple #[.agg Rg.none.cells.toArray, .iface T d]) ∧ Chain w' 11 (t :: ts) (.iface T d) ∧ Below w.heap.size w w' := by
  have HZ128 := Lib.hid (zeros_length 128)
  have HWN := Lib.hid none_wf
  have HBL : Hid (Below w.heap.size w w) := Lib.hid (Below.refl _ _)
  have HSC := Lib.hid hx
  have HXL := Lib.hid hx.length
  have HWF := Lib.hid (readOf_wf hx)
  have HE := Lib.hid (enc_length (readOf_wf hx).len)
  clear hx
  have HGD := Lib.hid hg
  have HEX := Lib.hid he
  clear hg he
  go_enter Tryd.func30, Tryd.ntmps30
  go_upto_region 0 with fail
  refine wp_region_lit ?_
  refine box_g rfl rfl ?_
  intro w1 hA hb hl
  try simp only [Act.put, List.setIfInBounds_toArray, List.set_cons_succ, List.set_cons_zero]
  clear hl
  have HG2 : Hid (w.heap.size ≤ w.heap.size) := Lib.hid HBL.out.size
  have F3 := Lib.hid (HBL.out.trans (hb.mono HBL.out.size))
  clear HBL
  have F4 : Hid (Blk w1 w.heap.size (u8s x)) := Lib.hid hA
  clear hA hb
  refine alloc_g zero27 rfl ?_
  intro w5 hA hb hl
  try simp only [Act.put, List.setIfInBounds_toArray, List.set_cons_succ, List.set_cons_zero]
  clear hl
  have HN6 := Lib.hid (Nat.ne_of_lt F4.out.lt)
  have HG7 : Hid (w.heap.size ≤ w1.heap.size) := Lib.hid F3.out.size
  have F8 := Lib.hid (F3.out.trans (hb.mono F3.out.size))
  have F9 := Lib.hid (F4.out.below hb F4.out.lt)
  clear F3 F4
  have F10 : Hid (Blk w5 w1.heap.size Rg.none.cells) := Lib.hid hA
  clear hA hb
  generalize w1.heap.size = g11 at *
  clear w1
  refine takeL (Value.nilIface) rfl (by go_simp) ?_
  try simp only [Act.put, List.setIfInBounds_toArray, List.set_cons_succ, List.set_cons_zero]
  refine wpList_nil ?_
  go_upto_region 1 with fail
  refine wp_region_lit ?_
  refine load50 (cs := (u8s x).toArray) (Blk.all F9.out rfl) (by rw [u8s_size, HXL.out]) rfl rfl ?_
  try simp only [Act.put, List.setIfInBounds_toArray, List.set_cons_succ, List.set_cons_zero]
  refine wpList_op rfl fun K hK => ?_
  go_simp
  refine (read_any x HSC.out _).mono ?_
  rintro e w12 ⟨rfl, hb⟩
  have F13 := Lib.hid (F8.out.trans (hb.mono F8.out.size))
  have F14 := Lib.hid (F9.out.below hb F9.out.lt)
  have F15 := Lib.hid (F10.out.below hb F10.out.lt)
  clear F8 F9 F10
  clear hb
  refine hK _ _ ?_
  clear hK K
  try simp only [Act.put, List.setIfInBounds_toArray, List.set_cons_succ, List.set_cons_zero]
  refine alloc_g zero27 rfl ?_
  intro w16 hA hb hl
  try simp only [Act.put, List.setIfInBounds_toArray, List.set_cons_succ, List.set_cons_zero]
  clear hl
  have HN17 := Lib.hid (Nat.ne_of_lt F14.out.lt)
  have HN18 := Lib.hid (Nat.ne_of_lt F15.out.lt)
  have HG19 : Hid (w.heap.size ≤ w12.heap.size) := Lib.hid F13.out.size
  have F20 := Lib.hid (F13.out.trans (hb.mono F13.out.size))
  have F21 := Lib.hid (F14.out.below hb F14.out.lt)
  have F22 := Lib.hid (F15.out.below hb F15.out.lt)
  clear F13 F14 F15
  have F23 : Hid (Blk w16 w12.heap.size Rg.none.cells) := Lib.hid hA
  clear hA hb
  generalize w12.heap.size = g24 at *
  clear w12
  refine store_all (cs := (readOf x).cells.toArray) F23.out (by simp only [u8s_size, List.size_toArray, List.length_map, HWN.out.cells, HWF.out.cells]) (by rw [List.size_toArray, HWF.out.cells]; exact info27) (fun v hv => Rg.cell_one _ v (by simpa using hv)) rfl rfl rfl ?_
  intro w25 hD hO hlD
  try simp only [Act.put, List.setIfInBounds_toArray, List.set_cons_succ, List.set_cons_zero]
  clear hlD
  have F26 := Lib.hid (F20.out.trans (hO.below F20.out.size (fun k hk => by rw [hk]; exact HG19.out)))
  have F27 := Lib.hid (F21.out.only hO (HN17.out))
  have F28 := Lib.hid (F22.out.only hO (HN18.out))
  clear F20 F21 F22 F23
  have F23' : Hid (Blk w25 g24 (readOf x).cells) := Lib.hid hD
  clear hD hO 
  refine wpList_nil ?_
  go_upto_region 2 with fail
  refine wp_region_lit ?_
  refine load27 (cs := (readOf x).cells.toArray) (Blk.all F23'.out rfl) (by rw [List.size_toArray]; exact HWF.out.cells) rfl rfl ?_
  try simp only [Act.put, List.setIfInBounds_toArray, List.set_cons_succ, List.set_cons_zero]
  refine wpList_op rfl fun K hK => ?_
  go_simp
  refine (sectors_yes HGD.out HWF.out _).mono ?_
  rintro e w29 ⟨rfl, hb⟩
  have F30 := Lib.hid (F26.out.trans (hb.mono F26.out.size))
  have F31 := Lib.hid (F27.out.below hb F27.out.lt)
  have F32 := Lib.hid (F28.out.below hb F28.out.lt)
  have F33 := Lib.hid (F23'.out.below hb F23'.out.lt)
  clear F26 F27 F28 F23'
  clear hb
  refine hK _ _ ?_
  clear hK K
  try simp only [Act.put, List.setIfInBounds_toArray, List.set_cons_succ, List.set_cons_zero]
  refine takeL (.tuple #[.agg (u8s (readOf x).enc).toArray, Value.nilIface]) rfl (by go_simp) ?_
  try simp only [Act.put, List.setIfInBounds_toArray, List.set_cons_succ, List.set_cons_zero]
  refine takeL (.agg (u8s (readOf x).enc).toArray) rfl (by go_simp) ?_
  try simp only [Act.put, List.setIfInBounds_toArray, List.set_cons_succ, List.set_cons_zero]
  refine takeL (Value.nilIface) rfl (by go_simp) ?_
  try simp only [Act.put, List.setIfInBounds_toArray, List.set_cons_succ, List.set_cons_zero]
  refine alloc_g zero50 rfl ?_
  intro w34 hA hb hl
  try simp only [Act.put, List.setIfInBounds_toArray, List.set_cons_succ, List.set_cons_zero]
  clear hl
  have HN35 := Lib.hid (Nat.ne_of_lt F31.out.lt)
  have HN36 := Lib.hid (Nat.ne_of_lt F32.out.lt)
  have HN37 := Lib.hid (Nat.ne_of_lt F33.out.lt)
  have HG38 : Hid (w.heap.size ≤ w29.heap.size) := Lib.hid F30.out.size
  have F39 := Lib.hid (F30.out.trans (hb.mono F30.out.size))
  have F40 := Lib.hid (F31.out.below hb F31.out.lt)
  have F41 := Lib.hid (F32.out.below hb F32.out.lt)
  have F42 := Lib.hid (F33.out.below hb F33.out.lt)
  clear F30 F31 F32 F33
  have F43 : Hid (Blk w34 w29.heap.size (u8s (zeros 128))) := Lib.hid hA
  clear hA hb
  generalize w29.heap.size = g44 at *
  clear w29
  refine store_all (cs := (u8s (readOf x).enc).toArray) F43.out (by simp only [u8s_size, List.size_toArray, List.length_map, HZ128.out, HE.out]) (by rw [u8s_size, HE.out]; exact info50) (u8s_one _) rfl rfl rfl ?_
  intro w45 hD hO hlD
  try simp only [Act.put, List.setIfInBounds_toArray, List.set_cons_succ, List.set_cons_zero]
  clear hlD
  have F46 := Lib.hid (F39.out.trans (hO.below F39.out.size (fun k hk => by rw [hk]; exact HG38.out)))
  have F47 := Lib.hid (F40.out.only hO (HN35.out))
  have F48 := Lib.hid (F41.out.only hO (HN36.out))
  have F49 := Lib.hid (F42.out.only hO (HN37.out))
  clear F39 F40 F41 F42 F43
  have F43' : Hid (Blk w45 g44 (u8s (readOf x).enc)) := Lib.hid hD
  clear hD hO 
  refine takeL (Value.nilIface) rfl (by go_simp) ?_
  try simp only [Act.put, List.setIfInBounds_toArray, List.set_cons_succ, List.set_cons_zero]
  refine wpList_nil ?_
  go_upto_region 3 with fail
  refine wp_region_lit ?_
  refine takeL (Value.nilIface) rfl (by go_simp) ?_
  try simp only [Act.put, List.setIfInBounds_toArray, List.set_cons_succ, List.set_cons_zero]
  refine takeL (.bool false) rfl (by go_simp) ?_
  try simp only [Act.put, List.setIfInBounds_toArray, List.set_cons_succ, List.set_cons_zero]
  refine wpList_nil ?_
  go_upto_region 5 with fail
  refine wp_region_lit ?_
  refine load50 (cs := (u8s (readOf x).enc).toArray) (Blk.all F43'.out rfl) (by rw [u8s_size, HE.out]) rfl rfl ?_
  try simp only [Act.put, List.setIfInBounds_toArray, List.set_cons_succ, List.set_cons_zero]
  refine load50 (cs := (u8s x).toArray) (Blk.all F47.out rfl) (by rw [u8s_size, HXL.out]) rfl rfl ?_
  try simp only [Act.put, List.setIfInBounds_toArray, List.set_cons_succ, List.set_cons_zero]
  refine takeL (.bool true) rfl (by exact run_neq_two (v := true) (decide_eq_false HEX.out) HE.out HXL.out _ _ _ rfl rfl rfl) ?_
  try simp only [Act.put, List.setIfInBounds_toArray, List.set_cons_succ, List.set_cons_zero]
  refine wpList_nil ?_
  go_upto_region 6 with fail
  refine wp_region_lit ?_
  refine build_g (build27 _) rfl ?_
  try simp only [Act.put, List.setIfInBounds_toArray, List.set_cons_succ, List.set_cons_zero]
  refine wpList_op rfl fun K hK => ?_
  go_simp
  refine (new_err _ _).mono ?_
  rintro e w50 ⟨Tw50, dw50, tw50, tsw50, rfl, hc, hb⟩
  have F51 := Lib.hid (F46.out.trans (hb.mono F46.out.size))
  have F52 := Lib.hid (F47.out.below hb F47.out.lt)
  have F53 := Lib.hid (F48.out.below hb F48.out.lt)
  have F54 := Lib.hid (F49.out.below hb F49.out.lt)
  have F55 := Lib.hid (F43'.out.below hb F43'.out.lt)
  clear F46 F47 F48 F49 F43'
  have F56 := Lib.hid hc
  clear hb hc
  refine hK _ _ ?_
  clear hK K
  try simp only [Act.put, List.setIfInBounds_toArray, List.set_cons_succ, List.set_cons_zero]
  refine store_all (cs := Rg.none.cells.toArray) F53.out (by simp only [u8s_size, List.size_toArray, List.length_map, HWN.out.cells, HWN.out.cells]) (by rw [List.size_toArray, HWN.out.cells]; exact info27) (fun v hv => Rg.cell_one _ v (by simpa using hv)) rfl rfl rfl ?_
  intro w57 hD hO hlD
  try simp only [Act.put, List.setIfInBounds_toArray, List.set_cons_succ, List.set_cons_zero]
  clear hlD
  have F58 := Lib.hid (F51.out.trans (hO.below F51.out.size (fun k hk => by rw [hk]; exact HG7.out)))
  have F59 := Lib.hid (F52.out.only hO (HN6.out))
  have F60 := Lib.hid (F54.out.only hO (HN18.out.symm))
  have F61 := Lib.hid (F55.out.only hO (HN36.out.symm))
  have F62 := Lib.hid (F56.out.keep hO (Blk.noStr F53.out (Rg.noStr _)))
  clear F51 F52 F54 F55 F56 F53
  have F10' : Hid (Blk w57 g11 Rg.none.cells) := Lib.hid hD
  clear hD hO 
  refine takeL (.iface Tw50 dw50) rfl (by go_simp) ?_
  try simp only [Act.put, List.setIfInBounds_toArray, List.set_cons_succ, List.set_cons_zero]
  refine wpList_nil ?_
  go_wp2_with fail
  exact bodyPost_ret (v := .tuple #[.agg Rg.none.cells.toArray, .iface Tw50 dw50]) (results_cell_tmp rfl _ _ g11 0 _ _ _ rfl rfl Tryd.underlying27 rfl (by rw [List.size_toArray, HWN.out.cells]; exact info27) (Blk.all F10'.out rfl)) rfl ⟨_, _, _, _, rfl, F62.out, F58.out⟩
theorem regionOf_no (x : List Int) (hx : Sc2 x) (h : isReg x = false) (w : World) : Calls Tryd.prog 30 #[.agg (u8s x).toArray] w fun e w' => ∃ T d t ts, e = .returned (.tuple #[.agg Rg.none.cells.toArray, .iface T d]) ∧ Chain w' 11 (t :: ts) (.iface T d) ∧ Below w.heap.size w w' := by
  cases hg : (readOf x).good with
  | false => exact regionOf_bad x hx hg w
  | true =>
    refine regionOf_ne x hx hg (fun he => ?_) w
    rw [isReg, hg, decide_eq_true he] at h
    cases h
set_option maxRecDepth 100000 in
theorem decode_yes {x : List Int} (hx : Sc2 x) (h : isReg x = true) (w : World) (hev : ErrVar w) : Calls Tryd.prog 18 #[.agg (u8s x).toArray] w fun e w' => e = .returned (.tuple #[.agg (readOf x).cells.toArray, .int .i64 0]) ∧ Below w.heap.size w w' := by
  have HZ128 := Lib.hid (zeros_length 128)
  have HWN := Lib.hid none_wf
  have HBL : Hid (Below w.heap.size w w) := Lib.hid (Below.refl _ _)
  have HEV := Lib.hid hev
  have HE0 := Lib.hid hev.lt
  clear hev
  have HSC := Lib.hid hx
  have HXL := Lib.hid hx.length
  have HWF := Lib.hid (readOf_wf hx)
  have HE := Lib.hid (enc_length (readOf_wf hx).len)
  clear hx
  have HR := Lib.hid h
  clear h
  go_enter Tryd.func18, Tryd.ntmps18
  go_upto_region 0 with fail
  refine wp_region_lit ?_
  refine box_g rfl rfl ?_
  intro w1 hA hb hl
  try simp only [Act.put, List.setIfInBounds_toArray, List.set_cons_succ, List.set_cons_zero]
  clear hl
  have HG2 : Hid (w.heap.size ≤ w.heap.size) := Lib.hid HBL.out.size
  have F3 := Lib.hid (HBL.out.trans (hb.mono HBL.out.size))
  have F4 := Lib.hid (HEV.out.below (Nat.le_refl _) hb)
  clear HBL HEV
  have F5 : Hid (Blk w1 w.heap.size (u8s x)) := Lib.hid hA
  clear hA hb
  refine alloc_g zero27 rfl ?_
  intro w6 hA hb hl
  try simp only [Act.put, List.setIfInBounds_toArray, List.set_cons_succ, List.set_cons_zero]
  clear hl
  have HN7 := Lib.hid (Nat.ne_of_lt F5.out.lt)
  have HG8 : Hid (w.heap.size ≤ w1.heap.size) := Lib.hid F3.out.size
  have F9 := Lib.hid (F3.out.trans (hb.mono F3.out.size))
  have F10 := Lib.hid (F4.out.below (Nat.le_refl _) hb)
  have F11 := Lib.hid (F5.out.below hb F5.out.lt)
  clear F3 F4 F5
  have F12 : Hid (Blk w6 w1.heap.size Rg.none.cells) := Lib.hid hA
  clear hA hb
  generalize w1.heap.size = g13 at *
  clear w1
  refine takeL (.int .i64 0) rfl (by go_simp) ?_
  try simp only [Act.put, List.setIfInBounds_toArray, List.set_cons_succ, List.set_cons_zero]
  refine wpList_nil ?_
  go_upto_region 1 with fail
  refine wp_region_lit ?_
  refine load50 (cs := (u8s x).toArray) (Blk.all F11.out rfl) (by rw [u8s_size, HXL.out]) rfl rfl ?_
  try simp only [Act.put, List.setIfInBounds_toArray, List.set_cons_succ, List.set_cons_zero]
  refine wpList_op rfl fun K hK => ?_
  go_simp
  refine (regionOf_yes x HSC.out HR.out _).mono ?_
  rintro e w14 ⟨rfl, hb⟩
  have F15 := Lib.hid (F9.out.trans (hb.mono F9.out.size))
  have F16 := Lib.hid (F10.out.below (Nat.le_refl _) hb)
  have F17 := Lib.hid (F11.out.below hb F11.out.lt)
  have F18 := Lib.hid (F12.out.below hb F12.out.lt)
  clear F9 F10 F11 F12
  clear hb
  refine hK _ _ ?_
  clear hK K
  try simp only [Act.put, List.setIfInBounds_toArray, List.set_cons_succ, List.set_cons_zero]
  refine takeL (.tuple #[.agg (readOf x).cells.toArray, Value.nilIface]) rfl (by go_simp) ?_
  try simp only [Act.put, List.setIfInBounds_toArray, List.set_cons_succ, List.set_cons_zero]
  refine takeL (.agg (readOf x).cells.toArray) rfl (by go_simp) ?_
  try simp only [Act.put, List.setIfInBounds_toArray, List.set_cons_succ, List.set_cons_zero]
  refine takeL (Value.nilIface) rfl (by go_simp) ?_
  try simp only [Act.put, List.setIfInBounds_toArray, List.set_cons_succ, List.set_cons_zero]
  refine alloc_g zero27 rfl ?_
  intro w19 hA hb hl
  try simp only [Act.put, List.setIfInBounds_toArray, List.set_cons_succ, List.set_cons_zero]
  clear hl
  have HN20 := Lib.hid (Nat.ne_of_lt F17.out.lt)
  have HN21 := Lib.hid (Nat.ne_of_lt F18.out.lt)
  have HG22 : Hid (w.heap.size ≤ w14.heap.size) := Lib.hid F15.out.size
  have F23 := Lib.hid (F15.out.trans (hb.mono F15.out.size))
  have F24 := Lib.hid (F16.out.below (Nat.le_refl _) hb)
  have F25 := Lib.hid (F17.out.below hb F17.out.lt)
  have F26 := Lib.hid (F18.out.below hb F18.out.lt)
  clear F15 F16 F17 F18
  have F27 : Hid (Blk w19 w14.heap.size Rg.none.cells) := Lib.hid hA
  clear hA hb
  generalize w14.heap.size = g28 at *
  clear w14
  refine store_all (cs := (readOf x).cells.toArray) F27.out (by simp only [u8s_size, List.size_toArray, List.length_map, HWN.out.cells, HWF.out.cells]) (by rw [List.size_toArray, HWF.out.cells]; exact info27) (fun v hv => Rg.cell_one _ v (by simpa using hv)) rfl rfl rfl ?_
  intro w29 hD hO hlD
  try simp only [Act.put, List.setIfInBounds_toArray, List.set_cons_succ, List.set_cons_zero]
  clear hlD
  have F30 := Lib.hid (F23.out.trans (hO.below F23.out.size (fun k hk => by rw [hk]; exact HG22.out)))
  have F31 := Lib.hid (F24.out.keep hO HG22.out HE0.out)
  have F32 := Lib.hid (F25.out.only hO (HN20.out))
  have F33 := Lib.hid (F26.out.only hO (HN21.out))
  clear F23 F24 F25 F26 F27
  have F27' : Hid (Blk w29 g28 (readOf x).cells) := Lib.hid hD
  clear hD hO 
  refine takeL (Value.nilIface) rfl (by go_simp) ?_
  try simp only [Act.put, List.setIfInBounds_toArray, List.set_cons_succ, List.set_cons_zero]
  refine wpList_nil ?_
  go_upto_region 2 with fail
  refine startH (fun wq => Only (fun k => k = g13) w29 wq) (by kernel_rfl) ?_
  refine takeH 0 (some 11) (.agg (readOf x).cells.toArray) rfl rfl (by kernel_rfl) (by kernel_rfl) (by kernel_rfl) (fun _ _ _ h => h) rfl (fun wq hS => by exact exec_load_at wq _ _ 27 _ rfl g28 0 rfl ((readOf x).cells.toArray) _ Tryd.underlying27 rfl (by rw [List.size_toArray, HWF.out.cells]; exact info27) (Blk.all (F27'.out.only hS (HN21.out.symm)) rfl)) (Only.refl _ _).drew ?_
  try simp only [Act.put, List.setIfInBounds_toArray, List.set_cons_succ, List.set_cons_zero]
  refine takeH 1 (some 12) (Value.nilIface) rfl rfl (by kernel_rfl) (by kernel_rfl) (by kernel_rfl) (fun _ _ _ h => h) rfl (fun wq hS => by go_simp) (Only.refl _ _).drew ?_
  try simp only [Act.put, List.setIfInBounds_toArray, List.set_cons_succ, List.set_cons_zero]
  refine oneH 2 (by kernel_rfl) rfl rfl fun K hK => ?_
  go_simp
  refine (of_none _).mono ?_
  rintro e wx ⟨rfl, hb⟩
  have HS1 := Lib.hid (((Only.refl (fun k => k = g13) w29).drew).trans (Only.of_below hb))
  have HB1 := Lib.hid ((F33.out.drew).below hb F33.out.drew.lt)
  clear hb
  refine hK _ _ HS1.out ?_
  clear hK K
  try simp only [Act.put, List.setIfInBounds_toArray, List.set_cons_succ, List.set_cons_zero]
  refine oneH 3 (by kernel_rfl) rfl rfl fun K hK => ?_
  refine store_W none rfl rfl HB1.out (by simp only [u8s_size, List.size_toArray, List.length_map, HWN.out.cells, HWF.out.cells]) (by rw [List.size_toArray, HWF.out.cells]; exact info27) (fun v hv => Rg.cell_one _ v (by simpa using hv)) rfl rfl fun wy hD hO => ?_
  have HS2 := Lib.hid (HS1.out.trans hO)
  have HD2 := Lib.hid hD
  clear hD hO
  refine hK _ _ HS2.out ?_
  clear hK K
  try simp only [Act.put, List.setIfInBounds_toArray, List.set_cons_succ, List.set_cons_zero]
  refine takeH 4 (some 3) (.int .i64 0) rfl rfl (by kernel_rfl) (by kernel_rfl) (by kernel_rfl) (fun _ _ _ h => h) rfl (fun wq hS => by go_simp) HS2.out ?_
  try simp only [Act.put, List.setIfInBounds_toArray, List.set_cons_succ, List.set_cons_zero]
  refine wpAnyH_done (by kernel_rfl) ?_ _
  go_wp2_with fail
  exact bodyPost_ret (v := .tuple #[.agg (readOf x).cells.toArray, .int .i64 0]) (results_cell_tmp rfl _ _ g13 0 _ _ _ rfl rfl Tryd.underlying27 rfl (by rw [List.size_toArray, HWF.out.cells]; exact info27) (Blk.all HD2.out rfl)) rfl ⟨rfl, (F30.out.trans (HS2.out.below F30.out.size (fun k hk => by rw [hk]; exact HG8.out)))⟩
set_option maxRecDepth 100000 in
theorem decode_no {x : List Int} (hx : Sc2 x) (h : isReg x = false) (w : World) (hev : ErrVar w) : Calls Tryd.prog 18 #[.agg (u8s x).toArray] w fun e w' => e = .returned (.tuple #[.agg Rg.none.cells.toArray, .int .i64 11]) ∧ Below w.heap.size w w' := by
  have HZ128 := Lib.hid (zeros_length 128)
  have HWN := Lib.hid none_wf
  have HBL : Hid (Below w.heap.size w w) := Lib.hid (Below.refl _ _)
  have HEV := Lib.hid hev
  have HE0 := Lib.hid hev.lt
  clear hev
  have HSC := Lib.hid hx
  have HXL := Lib.hid hx.length
  have HWF := Lib.hid (readOf_wf hx)
  have HE := Lib.hid (enc_length (readOf_wf hx).len)
  clear hx
  have HR := Lib.hid h
  clear h
  go_enter Tryd.func18, Tryd.ntmps18
  go_upto_region 0 with fail
  refine wp_region_lit ?_
  refine box_g rfl rfl ?_
  intro w1 hA hb hl
  try simp only [Act.put, List.setIfInBounds_toArray, List.set_cons_succ, List.set_cons_zero]
  clear hl
  have HG2 : Hid (w.heap.size ≤ w.heap.size) := Lib.hid HBL.out.size
  have F3 := Lib.hid (HBL.out.trans (hb.mono HBL.out.size))
  have F4 := Lib.hid (HEV.out.below (Nat.le_refl _) hb)
  clear HBL HEV
  have F5 : Hid (Blk w1 w.heap.size (u8s x)) := Lib.hid hA
  clear hA hb
  refine alloc_g zero27 rfl ?_
  intro w6 hA hb hl
  try simp only [Act.put, List.setIfInBounds_toArray, List.set_cons_succ, List.set_cons_zero]
  clear hl
  have HN7 := Lib.hid (Nat.ne_of_lt F5.out.lt)
  have HG8 : Hid (w.heap.size ≤ w1.heap.size) := Lib.hid F3.out.size
  have F9 := Lib.hid (F3.out.trans (hb.mono F3.out.size))
  have F10 := Lib.hid (F4.out.below (Nat.le_refl _) hb)
  have F11 := Lib.hid (F5.out.below hb F5.out.lt)
  clear F3 F4 F5
  have F12 : Hid (Blk w6 w1.heap.size Rg.none.cells) := Lib.hid hA
  clear hA hb
  generalize w1.heap.size = g13 at *
  clear w1
  refine takeL (.int .i64 0) rfl (by go_simp) ?_
  try simp only [Act.put, List.setIfInBounds_toArray, List.set_cons_succ, List.set_cons_zero]
  refine wpList_nil ?_
  go_upto_region 1 with fail
  refine wp_region_lit ?_
  refine load50 (cs := (u8s x).toArray) (Blk.all F11.out rfl) (by rw [u8s_size, HXL.out]) rfl rfl ?_
  try simp only [Act.put, List.setIfInBounds_toArray, List.set_cons_succ, List.set_cons_zero]
  refine wpList_op rfl fun K hK => ?_
  go_simp
  refine (regionOf_no x HSC.out HR.out _).mono ?_
  rintro e w14 ⟨Tw14, dw14, tw14, tsw14, rfl, hc, hb⟩
  have F15 := Lib.hid (F9.out.trans (hb.mono F9.out.size))
  have F16 := Lib.hid (F10.out.below (Nat.le_refl _) hb)
  have F17 := Lib.hid (F11.out.below hb F11.out.lt)
  have F18 := Lib.hid (F12.out.below hb F12.out.lt)
  clear F9 F10 F11 F12
  have F19 := Lib.hid hc
  clear hb hc
  refine hK _ _ ?_
  clear hK K
  try simp only [Act.put, List.setIfInBounds_toArray, List.set_cons_succ, List.set_cons_zero]
  refine takeL (.tuple #[.agg Rg.none.cells.toArray, .iface Tw14 dw14]) rfl (by go_simp) ?_
  try simp only [Act.put, List.setIfInBounds_toArray, List.set_cons_succ, List.set_cons_zero]
  refine takeL (.agg Rg.none.cells.toArray) rfl (by go_simp) ?_
  try simp only [Act.put, List.setIfInBounds_toArray, List.set_cons_succ, List.set_cons_zero]
  refine takeL (.iface Tw14 dw14) rfl (by go_simp) ?_
  try simp only [Act.put, List.setIfInBounds_toArray, List.set_cons_succ, List.set_cons_zero]
  refine alloc_g zero27 rfl ?_
  intro w20 hA hb hl
  try simp only [Act.put, List.setIfInBounds_toArray, List.set_cons_succ, List.set_cons_zero]
  clear hl
  have HN21 := Lib.hid (Nat.ne_of_lt F17.out.lt)
  have HN22 := Lib.hid (Nat.ne_of_lt F18.out.lt)
  have HG23 : Hid (w.heap.size ≤ w14.heap.size) := Lib.hid F15.out.size
  have F24 := Lib.hid (F15.out.trans (hb.mono F15.out.size))
  have F25 := Lib.hid (F16.out.below (Nat.le_refl _) hb)
  have F26 := Lib.hid (F17.out.below hb F17.out.lt)
  have F27 := Lib.hid (F18.out.below hb F18.out.lt)
  have F28 := Lib.hid (F19.out.below (Nat.le_refl _) hb)
  clear F15 F16 F17 F18 F19
  have F29 : Hid (Blk w20 w14.heap.size Rg.none.cells) := Lib.hid hA
  clear hA hb
  generalize w14.heap.size = g30 at *
  clear w14
  refine store_all (cs := Rg.none.cells.toArray) F29.out (by simp only [u8s_size, List.size_toArray, List.length_map, HWN.out.cells, HWN.out.cells]) (by rw [List.size_toArray, HWN.out.cells]; exact info27) (fun v hv => Rg.cell_one _ v (by simpa using hv)) rfl rfl rfl ?_
  intro w31 hD hO hlD
  try simp only [Act.put, List.setIfInBounds_toArray, List.set_cons_succ, List.set_cons_zero]
  clear hlD
  have F32 := Lib.hid (F24.out.trans (hO.below F24.out.size (fun k hk => by rw [hk]; exact HG23.out)))
  have F33 := Lib.hid (F25.out.keep hO HG23.out HE0.out)
  have F34 := Lib.hid (F26.out.only hO (HN21.out))
  have F35 := Lib.hid (F27.out.only hO (HN22.out))
  have F36 := Lib.hid (F28.out.keep hO (Blk.noStr F29.out (Rg.noStr _)))
  clear F24 F25 F26 F27 F28 F29
  have F29' : Hid (Blk w31 g30 Rg.none.cells) := Lib.hid hD
  clear hD hO 
  refine takeL (.iface Tw14 dw14) rfl (by go_simp) ?_
  try simp only [Act.put, List.setIfInBounds_toArray, List.set_cons_succ, List.set_cons_zero]
  refine wpList_nil ?_
  go_upto_region 2 with fail
  refine startH (fun wq => Only (fun k => k = g13) w31 wq) (by kernel_rfl) ?_
  refine takeH 0 (some 11) (.agg Rg.none.cells.toArray) rfl rfl (by kernel_rfl) (by kernel_rfl) (by kernel_rfl) (fun _ _ _ h => h) rfl (fun wq hS => by exact exec_load_at wq _ _ 27 _ rfl g30 0 rfl (Rg.none.cells.toArray) _ Tryd.underlying27 rfl (by rw [List.size_toArray, HWN.out.cells]; exact info27) (Blk.all (F29'.out.only hS (HN22.out.symm)) rfl)) (Only.refl _ _).drew ?_
  try simp only [Act.put, List.setIfInBounds_toArray, List.set_cons_succ, List.set_cons_zero]
  refine takeH 1 (some 12) (.iface Tw14 dw14) rfl rfl (by kernel_rfl) (by kernel_rfl) (by kernel_rfl) (fun _ _ _ h => h) rfl (fun wq hS => by go_simp) (Only.refl _ _).drew ?_
  try simp only [Act.put, List.setIfInBounds_toArray, List.set_cons_succ, List.set_cons_zero]
  refine oneH 2 (by kernel_rfl) rfl rfl fun K hK => ?_
  go_simp
  refine (of_err _ _ _ _ _ (F33.out.below (Nat.le_refl _) (Below.refl _ _).drew) (F36.out.below (Nat.le_refl _) (Below.refl _ _).drew)).mono ?_
  rintro e wx ⟨rfl, hb⟩
  have HS1 := Lib.hid (((Only.refl (fun k => k = g13) w31).drew).trans (Only.of_below hb))
  have HB1 := Lib.hid ((F35.out.drew).below hb F35.out.drew.lt)
  clear hb
  refine hK _ _ HS1.out ?_
  clear hK K
  try simp only [Act.put, List.setIfInBounds_toArray, List.set_cons_succ, List.set_cons_zero]
  refine oneH 3 (by kernel_rfl) rfl rfl fun K hK => ?_
  refine store_W none rfl rfl HB1.out (by simp only [u8s_size, List.size_toArray, List.length_map, HWN.out.cells, HWN.out.cells]) (by rw [List.size_toArray, HWN.out.cells]; exact info27) (fun v hv => Rg.cell_one _ v (by simpa using hv)) rfl rfl fun wy hD hO => ?_
  have HS2 := Lib.hid (HS1.out.trans hO)
  have HD2 := Lib.hid hD
  clear hD hO
  refine hK _ _ HS2.out ?_
  clear hK K
  try simp only [Act.put, List.setIfInBounds_toArray, List.set_cons_succ, List.set_cons_zero]
  refine takeH 4 (some 3) (.int .i64 11) rfl rfl (by kernel_rfl) (by kernel_rfl) (by kernel_rfl) (fun _ _ _ h => h) rfl (fun wq hS => by go_simp) HS2.out ?_
  try simp only [Act.put, List.setIfInBounds_toArray, List.set_cons_succ, List.set_cons_zero]
  refine wpAnyH_done (by kernel_rfl) ?_ _
  go_wp2_with fail
  exact bodyPost_ret (v := .tuple #[.agg Rg.none.cells.toArray, .int .i64 11]) (results_cell_tmp rfl _ _ g13 0 _ _ _ rfl rfl Tryd.underlying27 rfl (by rw [List.size_toArray, HWN.out.cells]; exact info27) (Blk.all HD2.out rfl)) rfl ⟨rfl, (F32.out.trans (HS2.out.below F32.out.size (fun k hk => by rw [hk]; exact HG8.out)))⟩
theorem decode_any (x : List Int) (hx : Sc2 x) (w : World) (hev : ErrVar w) : Calls Tryd.prog 18 #[.agg (u8s x).toArray] w fun e w' => e = .returned (.tuple #[.agg (dec x).cells.toArray, .int .i64 (decE x)]) ∧ Below w.heap.size w w' := by
  cases h : isReg x with
  | true => rw [(dec_yes h).1, (dec_yes h).2]; exact decode_yes hx h w hev
  | false => rw [(dec_no h).1, (dec_no h).2]; exact decode_no hx h w hev
end Go.Proofs.YtoiekieddkadmaaDoor
