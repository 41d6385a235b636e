/- The statement RegionTorn's walk. -/
import Derived.Test.YtlleafhfogfngaaDoorPair
namespace Go.Proofs.YtlleafhfogfngaaDoor
set_option linter.unusedSimpArgs false
set_option linter.unusedVariables false
open Go.RowKit

set_option maxHeartbeats 1000000 in
set_option maxRecDepth 100000 in
theorem torn_none (r q : Rg) (hr : r.Wf) (hq : q.Wf) (gr : r.good = false) (w : World) (hev : ErrVar w) : Calls Tryd.prog 4 #[.agg r.cells.toArray, .agg q.cells.toArray] w fun e w' => e = .returned (.bool true) ∧ Below w.heap.size w w' := by
  have HZ128 := Lib.hid (zeros_length 128)
  have HWN := Lib.hid none_wf
  have HWR := Lib.hid hr
  have HWQ := Lib.hid hq
  have HRE := Lib.hid (enc_length hr.len)
  have HQE := Lib.hid (enc_length hq.len)
  have HQS := Lib.hid (sec_length hq.len)
  have HBL : Hid (Below w.heap.size w w) := Lib.hid (Below.refl _ _)
  have HEV := Lib.hid hev
  have HE0 := Lib.hid hev.lt
  clear hev hr hq
  have HGR := Lib.hid gr
  clear gr
  go_enter Tryd.func4, Tryd.ntmps4
  go_upto_region 0 with fail
  refine wp_region_lit ?_
  refine box_g rfl rfl ?_
  intro w1 hA hb hl
  try simp only [Act.put, List.setIfInBounds_toArray, List.set_cons_succ, List.set_cons_zero]
  clear hl
  have HG2 : Hid (w.heap.size ≤ w.heap.size) := Lib.hid HBL.out.size
  have F3 := Lib.hid (HBL.out.trans (hb.mono HBL.out.size))
  have F4 := Lib.hid (HEV.out.below (Nat.le_refl _) hb)
  clear HBL HEV
  have F5 : Hid (Blk w1 w.heap.size r.cells) := Lib.hid hA
  clear hA hb
  refine box_g rfl rfl ?_
  intro w6 hA hb hl
  try simp only [Act.put, List.setIfInBounds_toArray, List.set_cons_succ, List.set_cons_zero]
  clear hl
  have HN7 := Lib.hid (Nat.ne_of_lt F5.out.lt)
  have HG8 : Hid (w.heap.size ≤ w1.heap.size) := Lib.hid F3.out.size
  have F9 := Lib.hid (F3.out.trans (hb.mono F3.out.size))
  have F10 := Lib.hid (F4.out.below (Nat.le_refl _) hb)
  have F11 := Lib.hid (F5.out.below hb F5.out.lt)
  clear F3 F4 F5
  have F12 : Hid (Blk w6 w1.heap.size q.cells) := Lib.hid hA
  clear hA hb
  generalize w1.heap.size = g13 at *
  clear w1
  refine takeL (.bool false) rfl (by go_simp) ?_
  try simp only [Act.put, List.setIfInBounds_toArray, List.set_cons_succ, List.set_cons_zero]
  refine wpList_nil ?_
  go_upto_region 1 with fail
  refine wp_region_lit ?_
  refine load27 (cs := r.cells.toArray) (Blk.all F11.out rfl) (by rw [List.size_toArray]; exact HWR.out.cells) rfl rfl ?_
  try simp only [Act.put, List.setIfInBounds_toArray, List.set_cons_succ, List.set_cons_zero]
  refine wpList_op rfl fun K hK => ?_
  go_simp
  refine (encode_no HGR.out HWR.out _ F10.out).mono ?_
  rintro e w14 ⟨rfl, hb⟩
  have F15 := Lib.hid (F9.out.trans (hb.mono F9.out.size))
  have F16 := Lib.hid (F10.out.below (Nat.le_refl _) hb)
  have F17 := Lib.hid (F11.out.below hb F11.out.lt)
  have F18 := Lib.hid (F12.out.below hb F12.out.lt)
  clear F9 F10 F11 F12
  clear hb
  refine hK _ _ ?_
  clear hK K
  try simp only [Act.put, List.setIfInBounds_toArray, List.set_cons_succ, List.set_cons_zero]
  refine takeL (.tuple #[.agg (u8s (zeros 128)).toArray, .int .i64 11]) rfl (by go_simp) ?_
  try simp only [Act.put, List.setIfInBounds_toArray, List.set_cons_succ, List.set_cons_zero]
  refine takeL (.agg (u8s (zeros 128)).toArray) rfl (by go_simp) ?_
  try simp only [Act.put, List.setIfInBounds_toArray, List.set_cons_succ, List.set_cons_zero]
  refine takeL (.int .i64 11) rfl (by go_simp) ?_
  try simp only [Act.put, List.setIfInBounds_toArray, List.set_cons_succ, List.set_cons_zero]
  refine alloc_g zero30 rfl ?_
  intro w19 hA hb hl
  try simp only [Act.put, List.setIfInBounds_toArray, List.set_cons_succ, List.set_cons_zero]
  clear hl
  have HN20 := Lib.hid (Nat.ne_of_lt F17.out.lt)
  have HN21 := Lib.hid (Nat.ne_of_lt F18.out.lt)
  have HG22 : Hid (w.heap.size ≤ w14.heap.size) := Lib.hid F15.out.size
  have F23 := Lib.hid (F15.out.trans (hb.mono F15.out.size))
  have F24 := Lib.hid (F16.out.below (Nat.le_refl _) hb)
  have F25 := Lib.hid (F17.out.below hb F17.out.lt)
  have F26 := Lib.hid (F18.out.below hb F18.out.lt)
  clear F15 F16 F17 F18
  have F27 : Hid (Blk w19 w14.heap.size (u8s (zeros 128))) := Lib.hid hA
  clear hA hb
  generalize w14.heap.size = g28 at *
  clear w14
  refine store_all (cs := (u8s (zeros 128)).toArray) F27.out (by simp only [u8s_size, List.size_toArray, List.length_map, HZ128.out, HZ128.out]) (by rw [u8s_size, HZ128.out]; exact info30) (u8s_one _) rfl rfl rfl ?_
  intro w29 hD hO hlD
  try simp only [Act.put, List.setIfInBounds_toArray, List.set_cons_succ, List.set_cons_zero]
  clear hlD
  have F30 := Lib.hid (F23.out.trans (hO.below F23.out.size (fun k hk => by rw [hk]; exact HG22.out)))
  have F31 := Lib.hid (F24.out.keep hO HG22.out HE0.out)
  have F32 := Lib.hid (F25.out.only hO (HN20.out))
  have F33 := Lib.hid (F26.out.only hO (HN21.out))
  clear F23 F24 F25 F26 F27
  have F27' : Hid (Blk w29 g28 (u8s (zeros 128))) := Lib.hid hD
  clear hD hO 
  refine takeL (.int .i64 11) rfl (by go_simp) ?_
  try simp only [Act.put, List.setIfInBounds_toArray, List.set_cons_succ, List.set_cons_zero]
  refine wpList_nil ?_
  go_upto_region 2 with fail
  refine wp_region_lit ?_
  refine load27 (cs := q.cells.toArray) (Blk.all F33.out rfl) (by rw [List.size_toArray]; exact HWQ.out.cells) rfl rfl ?_
  try simp only [Act.put, List.setIfInBounds_toArray, List.set_cons_succ, List.set_cons_zero]
  refine wpList_op rfl fun K hK => ?_
  go_simp
  refine (encode_any q HWQ.out _ F31.out).mono ?_
  rintro e w34 ⟨rfl, hb⟩
  have F35 := Lib.hid (F30.out.trans (hb.mono F30.out.size))
  have F36 := Lib.hid (F31.out.below (Nat.le_refl _) hb)
  have F37 := Lib.hid (F32.out.below hb F32.out.lt)
  have F38 := Lib.hid (F33.out.below hb F33.out.lt)
  have F39 := Lib.hid (F27'.out.below hb F27'.out.lt)
  clear F30 F31 F32 F33 F27'
  clear hb
  refine hK _ _ ?_
  clear hK K
  try simp only [Act.put, List.setIfInBounds_toArray, List.set_cons_succ, List.set_cons_zero]
  refine takeL (.tuple #[.agg (u8s q.sec).toArray, .int .i64 q.err]) rfl (by go_simp) ?_
  try simp only [Act.put, List.setIfInBounds_toArray, List.set_cons_succ, List.set_cons_zero]
  refine takeL (.agg (u8s q.sec).toArray) rfl (by go_simp) ?_
  try simp only [Act.put, List.setIfInBounds_toArray, List.set_cons_succ, List.set_cons_zero]
  refine takeL (.int .i64 q.err) rfl (by go_simp) ?_
  try simp only [Act.put, List.setIfInBounds_toArray, List.set_cons_succ, List.set_cons_zero]
  refine alloc_g zero30 rfl ?_
  intro w40 hA hb hl
  try simp only [Act.put, List.setIfInBounds_toArray, List.set_cons_succ, List.set_cons_zero]
  clear hl
  have HN41 := Lib.hid (Nat.ne_of_lt F37.out.lt)
  have HN42 := Lib.hid (Nat.ne_of_lt F38.out.lt)
  have HN43 := Lib.hid (Nat.ne_of_lt F39.out.lt)
  have HG44 : Hid (w.heap.size ≤ w34.heap.size) := Lib.hid F35.out.size
  have F45 := Lib.hid (F35.out.trans (hb.mono F35.out.size))
  have F46 := Lib.hid (F36.out.below (Nat.le_refl _) hb)
  have F47 := Lib.hid (F37.out.below hb F37.out.lt)
  have F48 := Lib.hid (F38.out.below hb F38.out.lt)
  have F49 := Lib.hid (F39.out.below hb F39.out.lt)
  clear F35 F36 F37 F38 F39
  have F50 : Hid (Blk w40 w34.heap.size (u8s (zeros 128))) := Lib.hid hA
  clear hA hb
  generalize w34.heap.size = g51 at *
  clear w34
  refine store_all (cs := (u8s q.sec).toArray) F50.out (by simp only [u8s_size, List.size_toArray, List.length_map, HZ128.out, HQS.out]) (by rw [u8s_size, HQS.out]; exact info30) (u8s_one _) rfl rfl rfl ?_
  intro w52 hD hO hlD
  try simp only [Act.put, List.setIfInBounds_toArray, List.set_cons_succ, List.set_cons_zero]
  clear hlD
  have F53 := Lib.hid (F45.out.trans (hO.below F45.out.size (fun k hk => by rw [hk]; exact HG44.out)))
  have F54 := Lib.hid (F46.out.keep hO HG44.out HE0.out)
  have F55 := Lib.hid (F47.out.only hO (HN41.out))
  have F56 := Lib.hid (F48.out.only hO (HN42.out))
  have F57 := Lib.hid (F49.out.only hO (HN43.out))
  clear F45 F46 F47 F48 F49 F50
  have F50' : Hid (Blk w52 g51 (u8s q.sec)) := Lib.hid hD
  clear hD hO 
  refine takeL (.int .i64 q.err) rfl (by go_simp) ?_
  try simp only [Act.put, List.setIfInBounds_toArray, List.set_cons_succ, List.set_cons_zero]
  refine wpList_nil ?_
  go_upto_region 3 with fail
  refine wp_region_lit ?_
  refine takeL (.int .i64 11) rfl (by go_simp) ?_
  try simp only [Act.put, List.setIfInBounds_toArray, List.set_cons_succ, List.set_cons_zero]
  refine takeL (.bool true) rfl (by go_simp) ?_
  try simp only [Act.put, List.setIfInBounds_toArray, List.set_cons_succ, List.set_cons_zero]
  refine wpList_nil ?_
  go_upto_region 4 with fail
  refine wp_region_lit ?_
  refine takeL (.int .i64 11) rfl (by go_simp) ?_
  try simp only [Act.put, List.setIfInBounds_toArray, List.set_cons_succ, List.set_cons_zero]
  refine takeL (.bool true) rfl (by go_simp) ?_
  try simp only [Act.put, List.setIfInBounds_toArray, List.set_cons_succ, List.set_cons_zero]
  refine takeL (.bool true) rfl (by go_simp) ?_
  try simp only [Act.put, List.setIfInBounds_toArray, List.set_cons_succ, List.set_cons_zero]
  refine wpList_op rfl fun K hK => ?_
  go_simp
  refine (wakes_any _ F54.out).mono ?_
  rintro e w58 ⟨rfl, hb⟩
  have F59 := Lib.hid (F53.out.trans (hb.mono F53.out.size))
  have F60 := Lib.hid (F54.out.below (Nat.le_refl _) hb)
  have F61 := Lib.hid (F55.out.below hb F55.out.lt)
  have F62 := Lib.hid (F56.out.below hb F56.out.lt)
  have F63 := Lib.hid (F57.out.below hb F57.out.lt)
  have F64 := Lib.hid (F50'.out.below hb F50'.out.lt)
  clear F53 F54 F55 F56 F57 F50'
  clear hb
  refine hK _ _ ?_
  clear hK K
  try simp only [Act.put, List.setIfInBounds_toArray, List.set_cons_succ, List.set_cons_zero]
  refine takeL (.bool true) rfl (by go_simp) ?_
  try simp only [Act.put, List.setIfInBounds_toArray, List.set_cons_succ, List.set_cons_zero]
  refine takeL (.bool true) rfl (by go_simp) ?_
  try simp only [Act.put, List.setIfInBounds_toArray, List.set_cons_succ, List.set_cons_zero]
  refine wpList_nil ?_
  go_wp2_with fail
  go_ret
  exact ⟨rfl, F59.out⟩
theorem dec_of {r : Rg} (hg : r.good = true) (hw : r.Wf) (w : World) (hev : ErrVar w) : Calls Tryd.prog 9 #[.agg (u8s r.enc).toArray] w fun e w' => e = .returned (.tuple #[.agg r.cells.toArray, .int .i64 0]) ∧ Below w.heap.size w w' := by
  have := decode_yes (enc_sc hg hw.len) (isReg_enc hg hw) w hev
  rwa [read_enc hg hw] at this
set_option maxHeartbeats 1000000 in
set_option maxRecDepth 100000 in
theorem torn_one (r q : Rg) (hr : r.Wf) (hq : q.Wf) (gr : r.good = true) (gq : q.good = false) (w : World) (hev : ErrVar w) : Calls Tryd.prog 4 #[.agg r.cells.toArray, .agg q.cells.toArray] w fun e w' => e = .returned (.bool true) ∧ Below w.heap.size w w' := by
  have HZ128 := Lib.hid (zeros_length 128)
  have HWN := Lib.hid none_wf
  have HWR := Lib.hid hr
  have HWQ := Lib.hid hq
  have HRE := Lib.hid (enc_length hr.len)
  have HQE := Lib.hid (enc_length hq.len)
  have HQS := Lib.hid (sec_length hq.len)
  have HBL : Hid (Below w.heap.size w w) := Lib.hid (Below.refl _ _)
  have HEV := Lib.hid hev
  have HE0 := Lib.hid hev.lt
  clear hev hr hq
  have HGR := Lib.hid gr
  have HGQ := Lib.hid gq
  clear gr gq
  have Hr0 := Lib.hid (s0_length r)
  have Hr1 := Lib.hid (s1_length HWR.out.len)
  have Hq0 := Lib.hid (s0_length q)
  have Hq1 := Lib.hid (s1_length HWQ.out.len)
  obtain ⟨y0, hy0⟩ : ∃ y, r.s1 ++ r.s0 = y := ⟨_, rfl⟩
  have HC0 := Lib.hid (hy0 ▸ round_sc HGR.out HWR.out.len)
  have HN0 := Lib.hid (hy0 ▸ isReg_round r r r.s0)
  have HY0 := Lib.hid hy0
  clear hy0
  go_enter Tryd.func4, Tryd.ntmps4
  go_upto_region 0 with fail
  refine wp_region_lit ?_
  refine box_g rfl rfl ?_
  intro w1 hA hb hl
  try simp only [Act.put, List.setIfInBounds_toArray, List.set_cons_succ, List.set_cons_zero]
  clear hl
  have HG2 : Hid (w.heap.size ≤ w.heap.size) := Lib.hid HBL.out.size
  have F3 := Lib.hid (HBL.out.trans (hb.mono HBL.out.size))
  have F4 := Lib.hid (HEV.out.below (Nat.le_refl _) hb)
  clear HBL HEV
  have F5 : Hid (Blk w1 w.heap.size r.cells) := Lib.hid hA
  clear hA hb
  refine box_g rfl rfl ?_
  intro w6 hA hb hl
  try simp only [Act.put, List.setIfInBounds_toArray, List.set_cons_succ, List.set_cons_zero]
  clear hl
  have HN7 := Lib.hid (Nat.ne_of_lt F5.out.lt)
  have HG8 : Hid (w.heap.size ≤ w1.heap.size) := Lib.hid F3.out.size
  have F9 := Lib.hid (F3.out.trans (hb.mono F3.out.size))
  have F10 := Lib.hid (F4.out.below (Nat.le_refl _) hb)
  have F11 := Lib.hid (F5.out.below hb F5.out.lt)
  clear F3 F4 F5
  have F12 : Hid (Blk w6 w1.heap.size q.cells) := Lib.hid hA
  clear hA hb
  generalize w1.heap.size = g13 at *
  clear w1
  refine takeL (.bool false) rfl (by go_simp) ?_
  try simp only [Act.put, List.setIfInBounds_toArray, List.set_cons_succ, List.set_cons_zero]
  refine wpList_nil ?_
  go_upto_region 1 with fail
  refine wp_region_lit ?_
  refine load27 (cs := r.cells.toArray) (Blk.all F11.out rfl) (by rw [List.size_toArray]; exact HWR.out.cells) rfl rfl ?_
  try simp only [Act.put, List.setIfInBounds_toArray, List.set_cons_succ, List.set_cons_zero]
  refine wpList_op rfl fun K hK => ?_
  go_simp
  refine (encode_yes HGR.out HWR.out _ F10.out).mono ?_
  rintro e w14 ⟨rfl, hb⟩
  have F15 := Lib.hid (F9.out.trans (hb.mono F9.out.size))
  have F16 := Lib.hid (F10.out.below (Nat.le_refl _) hb)
  have F17 := Lib.hid (F11.out.below hb F11.out.lt)
  have F18 := Lib.hid (F12.out.below hb F12.out.lt)
  clear F9 F10 F11 F12
  clear hb
  refine hK _ _ ?_
  clear hK K
  try simp only [Act.put, List.setIfInBounds_toArray, List.set_cons_succ, List.set_cons_zero]
  refine takeL (.tuple #[.agg (u8s r.enc).toArray, .int .i64 0]) rfl (by go_simp) ?_
  try simp only [Act.put, List.setIfInBounds_toArray, List.set_cons_succ, List.set_cons_zero]
  refine takeL (.agg (u8s r.enc).toArray) rfl (by go_simp) ?_
  try simp only [Act.put, List.setIfInBounds_toArray, List.set_cons_succ, List.set_cons_zero]
  refine takeL (.int .i64 0) rfl (by go_simp) ?_
  try simp only [Act.put, List.setIfInBounds_toArray, List.set_cons_succ, List.set_cons_zero]
  refine alloc_g zero30 rfl ?_
  intro w19 hA hb hl
  try simp only [Act.put, List.setIfInBounds_toArray, List.set_cons_succ, List.set_cons_zero]
  clear hl
  have HN20 := Lib.hid (Nat.ne_of_lt F17.out.lt)
  have HN21 := Lib.hid (Nat.ne_of_lt F18.out.lt)
  have HG22 : Hid (w.heap.size ≤ w14.heap.size) := Lib.hid F15.out.size
  have F23 := Lib.hid (F15.out.trans (hb.mono F15.out.size))
  have F24 := Lib.hid (F16.out.below (Nat.le_refl _) hb)
  have F25 := Lib.hid (F17.out.below hb F17.out.lt)
  have F26 := Lib.hid (F18.out.below hb F18.out.lt)
  clear F15 F16 F17 F18
  have F27 : Hid (Blk w19 w14.heap.size (u8s (zeros 128))) := Lib.hid hA
  clear hA hb
  generalize w14.heap.size = g28 at *
  clear w14
  refine store_all (cs := (u8s r.enc).toArray) F27.out (by simp only [u8s_size, List.size_toArray, List.length_map, HZ128.out, HRE.out]) (by rw [u8s_size, HRE.out]; exact info30) (u8s_one _) rfl rfl rfl ?_
  intro w29 hD hO hlD
  try simp only [Act.put, List.setIfInBounds_toArray, List.set_cons_succ, List.set_cons_zero]
  clear hlD
  have F30 := Lib.hid (F23.out.trans (hO.below F23.out.size (fun k hk => by rw [hk]; exact HG22.out)))
  have F31 := Lib.hid (F24.out.keep hO HG22.out HE0.out)
  have F32 := Lib.hid (F25.out.only hO (HN20.out))
  have F33 := Lib.hid (F26.out.only hO (HN21.out))
  clear F23 F24 F25 F26 F27
  have F27' : Hid (Blk w29 g28 (u8s r.enc)) := Lib.hid hD
  clear hD hO 
  refine takeL (.int .i64 0) rfl (by go_simp) ?_
  try simp only [Act.put, List.setIfInBounds_toArray, List.set_cons_succ, List.set_cons_zero]
  refine wpList_nil ?_
  go_upto_region 2 with fail
  refine wp_region_lit ?_
  refine load27 (cs := q.cells.toArray) (Blk.all F33.out rfl) (by rw [List.size_toArray]; exact HWQ.out.cells) rfl rfl ?_
  try simp only [Act.put, List.setIfInBounds_toArray, List.set_cons_succ, List.set_cons_zero]
  refine wpList_op rfl fun K hK => ?_
  go_simp
  refine (encode_no HGQ.out HWQ.out _ F31.out).mono ?_
  rintro e w34 ⟨rfl, hb⟩
  have F35 := Lib.hid (F30.out.trans (hb.mono F30.out.size))
  have F36 := Lib.hid (F31.out.below (Nat.le_refl _) hb)
  have F37 := Lib.hid (F32.out.below hb F32.out.lt)
  have F38 := Lib.hid (F33.out.below hb F33.out.lt)
  have F39 := Lib.hid (F27'.out.below hb F27'.out.lt)
  clear F30 F31 F32 F33 F27'
  clear hb
  refine hK _ _ ?_
  clear hK K
  try simp only [Act.put, List.setIfInBounds_toArray, List.set_cons_succ, List.set_cons_zero]
  refine takeL (.tuple #[.agg (u8s (zeros 128)).toArray, .int .i64 11]) rfl (by go_simp) ?_
  try simp only [Act.put, List.setIfInBounds_toArray, List.set_cons_succ, List.set_cons_zero]
  refine takeL (.agg (u8s (zeros 128)).toArray) rfl (by go_simp) ?_
  try simp only [Act.put, List.setIfInBounds_toArray, List.set_cons_succ, List.set_cons_zero]
  refine takeL (.int .i64 11) rfl (by go_simp) ?_
  try simp only [Act.put, List.setIfInBounds_toArray, List.set_cons_succ, List.set_cons_zero]
  refine alloc_g zero30 rfl ?_
  intro w40 hA hb hl
  try simp only [Act.put, List.setIfInBounds_toArray, List.set_cons_succ, List.set_cons_zero]
  clear hl
  have HN41 := Lib.hid (Nat.ne_of_lt F37.out.lt)
  have HN42 := Lib.hid (Nat.ne_of_lt F38.out.lt)
  have HN43 := Lib.hid (Nat.ne_of_lt F39.out.lt)
  have HG44 : Hid (w.heap.size ≤ w34.heap.size) := Lib.hid F35.out.size
  have F45 := Lib.hid (F35.out.trans (hb.mono F35.out.size))
  have F46 := Lib.hid (F36.out.below (Nat.le_refl _) hb)
  have F47 := Lib.hid (F37.out.below hb F37.out.lt)
  have F48 := Lib.hid (F38.out.below hb F38.out.lt)
  have F49 := Lib.hid (F39.out.below hb F39.out.lt)
  clear F35 F36 F37 F38 F39
  have F50 : Hid (Blk w40 w34.heap.size (u8s (zeros 128))) := Lib.hid hA
  clear hA hb
  generalize w34.heap.size = g51 at *
  clear w34
  refine store_all (cs := (u8s (zeros 128)).toArray) F50.out (by simp only [u8s_size, List.size_toArray, List.length_map, HZ128.out, HZ128.out]) (by rw [u8s_size, HZ128.out]; exact info30) (u8s_one _) rfl rfl rfl ?_
  intro w52 hD hO hlD
  try simp only [Act.put, List.setIfInBounds_toArray, List.set_cons_succ, List.set_cons_zero]
  clear hlD
  have F53 := Lib.hid (F45.out.trans (hO.below F45.out.size (fun k hk => by rw [hk]; exact HG44.out)))
  have F54 := Lib.hid (F46.out.keep hO HG44.out HE0.out)
  have F55 := Lib.hid (F47.out.only hO (HN41.out))
  have F56 := Lib.hid (F48.out.only hO (HN42.out))
  have F57 := Lib.hid (F49.out.only hO (HN43.out))
  clear F45 F46 F47 F48 F49 F50
  have F50' : Hid (Blk w52 g51 (u8s (zeros 128))) := Lib.hid hD
  clear hD hO 
  refine takeL (.int .i64 11) rfl (by go_simp) ?_
  try simp only [Act.put, List.setIfInBounds_toArray, List.set_cons_succ, List.set_cons_zero]
  refine wpList_nil ?_
  go_upto_region 3 with fail
  refine wp_region_lit ?_
  refine takeL (.int .i64 0) rfl (by go_simp) ?_
  try simp only [Act.put, List.setIfInBounds_toArray, List.set_cons_succ, List.set_cons_zero]
  refine takeL (.bool false) rfl (by go_simp) ?_
  try simp only [Act.put, List.setIfInBounds_toArray, List.set_cons_succ, List.set_cons_zero]
  refine wpList_nil ?_
  go_upto_region 5 with fail
  refine wp_region_lit ?_
  refine load30 (cs := (u8s r.enc).toArray) (Blk.all F57.out rfl) (by rw [u8s_size, HRE.out]) rfl rfl ?_
  try simp only [Act.put, List.setIfInBounds_toArray, List.set_cons_succ, List.set_cons_zero]
  refine wpList_op rfl fun K hK => ?_
  go_simp
  refine (dec_of HGR.out HWR.out _ F54.out).mono ?_
  rintro e w58 ⟨rfl, hb⟩
  have F59 := Lib.hid (F53.out.trans (hb.mono F53.out.size))
  have F60 := Lib.hid (F54.out.below (Nat.le_refl _) hb)
  have F61 := Lib.hid (F55.out.below hb F55.out.lt)
  have F62 := Lib.hid (F56.out.below hb F56.out.lt)
  have F63 := Lib.hid (F57.out.below hb F57.out.lt)
  have F64 := Lib.hid (F50'.out.below hb F50'.out.lt)
  clear F53 F54 F55 F56 F57 F50'
  clear hb
  refine hK _ _ ?_
  clear hK K
  try simp only [Act.put, List.setIfInBounds_toArray, List.set_cons_succ, List.set_cons_zero]
  refine takeL (.tuple #[.agg r.cells.toArray, .int .i64 0]) rfl (by go_simp) ?_
  try simp only [Act.put, List.setIfInBounds_toArray, List.set_cons_succ, List.set_cons_zero]
  refine takeL (.agg r.cells.toArray) rfl (by go_simp) ?_
  try simp only [Act.put, List.setIfInBounds_toArray, List.set_cons_succ, List.set_cons_zero]
  refine takeL (.int .i64 0) rfl (by go_simp) ?_
  try simp only [Act.put, List.setIfInBounds_toArray, List.set_cons_succ, List.set_cons_zero]
  refine alloc_g zero27 rfl ?_
  intro w65 hA hb hl
  try simp only [Act.put, List.setIfInBounds_toArray, List.set_cons_succ, List.set_cons_zero]
  clear hl
  have HN66 := Lib.hid (Nat.ne_of_lt F61.out.lt)
  have HN67 := Lib.hid (Nat.ne_of_lt F62.out.lt)
  have HN68 := Lib.hid (Nat.ne_of_lt F63.out.lt)
  have HN69 := Lib.hid (Nat.ne_of_lt F64.out.lt)
  have HG70 : Hid (w.heap.size ≤ w58.heap.size) := Lib.hid F59.out.size
  have F71 := Lib.hid (F59.out.trans (hb.mono F59.out.size))
  have F72 := Lib.hid (F60.out.below (Nat.le_refl _) hb)
  have F73 := Lib.hid (F61.out.below hb F61.out.lt)
  have F74 := Lib.hid (F62.out.below hb F62.out.lt)
  have F75 := Lib.hid (F63.out.below hb F63.out.lt)
  have F76 := Lib.hid (F64.out.below hb F64.out.lt)
  clear F59 F60 F61 F62 F63 F64
  have F77 : Hid (Blk w65 w58.heap.size Rg.none.cells) := Lib.hid hA
  clear hA hb
  generalize w58.heap.size = g78 at *
  clear w58
  refine store_all (cs := r.cells.toArray) F77.out (by simp only [u8s_size, List.size_toArray, List.length_map, HWN.out.cells, HWR.out.cells]) (by rw [List.size_toArray, HWR.out.cells]; exact info27) (fun v hv => Rg.cell_one _ v (by simpa using hv)) rfl rfl rfl ?_
  intro w79 hD hO hlD
  try simp only [Act.put, List.setIfInBounds_toArray, List.set_cons_succ, List.set_cons_zero]
  clear hlD
  have F80 := Lib.hid (F71.out.trans (hO.below F71.out.size (fun k hk => by rw [hk]; exact HG70.out)))
  have F81 := Lib.hid (F72.out.keep hO HG70.out HE0.out)
  have F82 := Lib.hid (F73.out.only hO (HN66.out))
  have F83 := Lib.hid (F74.out.only hO (HN67.out))
  have F84 := Lib.hid (F75.out.only hO (HN68.out))
  have F85 := Lib.hid (F76.out.only hO (HN69.out))
  clear F71 F72 F73 F74 F75 F76 F77
  have F77' : Hid (Blk w79 g78 r.cells) := Lib.hid hD
  clear hD hO 
  refine takeL (.int .i64 0) rfl (by go_simp) ?_
  try simp only [Act.put, List.setIfInBounds_toArray, List.set_cons_succ, List.set_cons_zero]
  refine wpList_nil ?_
  go_upto_region 6 with fail
  refine wp_region_lit ?_
  refine takeL (.pointer (some ⟨g28, 64, none⟩)) rfl (by go_simp) ?_
  try simp only [Act.put, List.setIfInBounds_toArray, List.set_cons_succ, List.set_cons_zero]
  refine load29 (cs := (u8s r.s1).toArray) (enc_at1 F84.out HWR.out.len) (by rw [u8s_size, Hr1.out]) rfl rfl ?_
  try simp only [Act.put, List.setIfInBounds_toArray, List.set_cons_succ, List.set_cons_zero]
  refine takeL (.pointer (some ⟨g28, 0, none⟩)) rfl (by go_simp) ?_
  try simp only [Act.put, List.setIfInBounds_toArray, List.set_cons_succ, List.set_cons_zero]
  refine load29 (cs := (u8s r.s0).toArray) (enc_at0 F84.out HWR.out.len) (by rw [u8s_size, Hr0.out]) rfl rfl ?_
  try simp only [Act.put, List.setIfInBounds_toArray, List.set_cons_succ, List.set_cons_zero]
  refine takeL (.agg (u8s y0).toArray) rfl (exec_build _ _ _ _ 30 _ rfl #[(0, .agg (u8s r.s1).toArray), (1, .agg (u8s r.s0).toArray)] (by simp only [List.map_toArray, List.map_cons, List.map_nil]; rfl) _ (build_pair HY0.out Hr1.out Hr0.out _)) ?_
  try simp only [Act.put, List.setIfInBounds_toArray, List.set_cons_succ, List.set_cons_zero]
  refine wpList_op rfl fun K hK => ?_
  go_simp
  refine (decode_no HC0.out HN0.out _ F81.out).mono ?_
  rintro e w86 ⟨rfl, hb⟩
  have F87 := Lib.hid (F80.out.trans (hb.mono F80.out.size))
  have F88 := Lib.hid (F81.out.below (Nat.le_refl _) hb)
  have F89 := Lib.hid (F82.out.below hb F82.out.lt)
  have F90 := Lib.hid (F83.out.below hb F83.out.lt)
  have F91 := Lib.hid (F84.out.below hb F84.out.lt)
  have F92 := Lib.hid (F85.out.below hb F85.out.lt)
  have F93 := Lib.hid (F77'.out.below hb F77'.out.lt)
  clear F80 F81 F82 F83 F84 F85 F77'
  clear hb
  refine hK _ _ ?_
  clear hK K
  try simp only [Act.put, List.setIfInBounds_toArray, List.set_cons_succ, List.set_cons_zero]
  refine takeL (.tuple #[.agg Rg.none.cells.toArray, .int .i64 11]) rfl (by go_simp) ?_
  try simp only [Act.put, List.setIfInBounds_toArray, List.set_cons_succ, List.set_cons_zero]
  refine takeL (.agg Rg.none.cells.toArray) rfl (by go_simp) ?_
  try simp only [Act.put, List.setIfInBounds_toArray, List.set_cons_succ, List.set_cons_zero]
  refine takeL (.int .i64 11) rfl (by go_simp) ?_
  try simp only [Act.put, List.setIfInBounds_toArray, List.set_cons_succ, List.set_cons_zero]
  refine alloc_g zero27 rfl ?_
  intro w94 hA hb hl
  try simp only [Act.put, List.setIfInBounds_toArray, List.set_cons_succ, List.set_cons_zero]
  clear hl
  have HN95 := Lib.hid (Nat.ne_of_lt F89.out.lt)
  have HN96 := Lib.hid (Nat.ne_of_lt F90.out.lt)
  have HN97 := Lib.hid (Nat.ne_of_lt F91.out.lt)
  have HN98 := Lib.hid (Nat.ne_of_lt F92.out.lt)
  have HN99 := Lib.hid (Nat.ne_of_lt F93.out.lt)
  have HG100 : Hid (w.heap.size ≤ w86.heap.size) := Lib.hid F87.out.size
  have F101 := Lib.hid (F87.out.trans (hb.mono F87.out.size))
  have F102 := Lib.hid (F88.out.below (Nat.le_refl _) hb)
  have F103 := Lib.hid (F89.out.below hb F89.out.lt)
  have F104 := Lib.hid (F90.out.below hb F90.out.lt)
  have F105 := Lib.hid (F91.out.below hb F91.out.lt)
  have F106 := Lib.hid (F92.out.below hb F92.out.lt)
  have F107 := Lib.hid (F93.out.below hb F93.out.lt)
  clear F87 F88 F89 F90 F91 F92 F93
  have F108 : Hid (Blk w94 w86.heap.size Rg.none.cells) := Lib.hid hA
  clear hA hb
  generalize w86.heap.size = g109 at *
  clear w86
  refine store_all (cs := Rg.none.cells.toArray) F108.out (by simp only [u8s_size, List.size_toArray, List.length_map, HWN.out.cells, HWN.out.cells]) (by rw [List.size_toArray, HWN.out.cells]; exact info27) (fun v hv => Rg.cell_one _ v (by simpa using hv)) rfl rfl rfl ?_
  intro w110 hD hO hlD
  try simp only [Act.put, List.setIfInBounds_toArray, List.set_cons_succ, List.set_cons_zero]
  clear hlD
  have F111 := Lib.hid (F101.out.trans (hO.below F101.out.size (fun k hk => by rw [hk]; exact HG100.out)))
  have F112 := Lib.hid (F102.out.keep hO HG100.out HE0.out)
  have F113 := Lib.hid (F103.out.only hO (HN95.out))
  have F114 := Lib.hid (F104.out.only hO (HN96.out))
  have F115 := Lib.hid (F105.out.only hO (HN97.out))
  have F116 := Lib.hid (F106.out.only hO (HN98.out))
  have F117 := Lib.hid (F107.out.only hO (HN99.out))
  clear F101 F102 F103 F104 F105 F106 F107 F108
  have F108' : Hid (Blk w110 g109 Rg.none.cells) := Lib.hid hD
  clear hD hO 
  refine takeL (.int .i64 11) rfl (by go_simp) ?_
  try simp only [Act.put, List.setIfInBounds_toArray, List.set_cons_succ, List.set_cons_zero]
  refine wpList_nil ?_
  go_upto_region 7 with fail
  refine wp_region_lit ?_
  refine takeL (.int .i64 0) rfl (by go_simp) ?_
  try simp only [Act.put, List.setIfInBounds_toArray, List.set_cons_succ, List.set_cons_zero]
  refine takeL (.bool false) rfl (by go_simp) ?_
  try simp only [Act.put, List.setIfInBounds_toArray, List.set_cons_succ, List.set_cons_zero]
  refine takeL (.bool false) rfl (by go_simp) ?_
  try simp only [Act.put, List.setIfInBounds_toArray, List.set_cons_succ, List.set_cons_zero]
  refine load27 (cs := r.cells.toArray) (Blk.all F117.out rfl) (by rw [List.size_toArray]; exact HWR.out.cells) rfl rfl ?_
  try simp only [Act.put, List.setIfInBounds_toArray, List.set_cons_succ, List.set_cons_zero]
  refine load27 (cs := r.cells.toArray) (Blk.all F113.out rfl) (by rw [List.size_toArray]; exact HWR.out.cells) rfl rfl ?_
  try simp only [Act.put, List.setIfInBounds_toArray, List.set_cons_succ, List.set_cons_zero]
  refine takeL (.bool false) rfl (by exact run_neq_reg HWR.out.len _ _ _ rfl rfl rfl) ?_
  try simp only [Act.put, List.setIfInBounds_toArray, List.set_cons_succ, List.set_cons_zero]
  refine takeL (.bool false) rfl (by go_simp) ?_
  try simp only [Act.put, List.setIfInBounds_toArray, List.set_cons_succ, List.set_cons_zero]
  refine takeL (.bool false) rfl (by go_simp) ?_
  try simp only [Act.put, List.setIfInBounds_toArray, List.set_cons_succ, List.set_cons_zero]
  refine takeL (.int .i64 11) rfl (by go_simp) ?_
  try simp only [Act.put, List.setIfInBounds_toArray, List.set_cons_succ, List.set_cons_zero]
  refine takeL (.bool false) rfl (by go_simp) ?_
  try simp only [Act.put, List.setIfInBounds_toArray, List.set_cons_succ, List.set_cons_zero]
  refine takeL (.bool false) rfl (by go_simp) ?_
  try simp only [Act.put, List.setIfInBounds_toArray, List.set_cons_succ, List.set_cons_zero]
  refine wpList_nil ?_
  go_upto_region 9 with fail
  refine wp_region_lit ?_
  refine takeL (.int .i64 11) rfl (by go_simp) ?_
  try simp only [Act.put, List.setIfInBounds_toArray, List.set_cons_succ, List.set_cons_zero]
  refine takeL (.bool true) rfl (by go_simp) ?_
  try simp only [Act.put, List.setIfInBounds_toArray, List.set_cons_succ, List.set_cons_zero]
  refine takeL (.bool true) rfl (by go_simp) ?_
  try simp only [Act.put, List.setIfInBounds_toArray, List.set_cons_succ, List.set_cons_zero]
  refine passL rfl ?_
  try simp only [Act.put, List.setIfInBounds_toArray, List.set_cons_succ, List.set_cons_zero]
  refine passL rfl ?_
  try simp only [Act.put, List.setIfInBounds_toArray, List.set_cons_succ, List.set_cons_zero]
  refine passL rfl ?_
  try simp only [Act.put, List.setIfInBounds_toArray, List.set_cons_succ, List.set_cons_zero]
  refine passL rfl ?_
  try simp only [Act.put, List.setIfInBounds_toArray, List.set_cons_succ, List.set_cons_zero]
  refine passL rfl ?_
  try simp only [Act.put, List.setIfInBounds_toArray, List.set_cons_succ, List.set_cons_zero]
  refine takeL (.bool true) rfl (by go_simp) ?_
  try simp only [Act.put, List.setIfInBounds_toArray, List.set_cons_succ, List.set_cons_zero]
  refine wpList_nil ?_
  go_upto_region 10 with fail
  refine wp_region_lit ?_
  refine wpList_op rfl fun K hK => ?_
  go_simp
  refine (wakes_any _ F112.out).mono ?_
  rintro e w118 ⟨rfl, hb⟩
  have F119 := Lib.hid (F111.out.trans (hb.mono F111.out.size))
  have F120 := Lib.hid (F112.out.below (Nat.le_refl _) hb)
  have F121 := Lib.hid (F113.out.below hb F113.out.lt)
  have F122 := Lib.hid (F114.out.below hb F114.out.lt)
  have F123 := Lib.hid (F115.out.below hb F115.out.lt)
  have F124 := Lib.hid (F116.out.below hb F116.out.lt)
  have F125 := Lib.hid (F117.out.below hb F117.out.lt)
  have F126 := Lib.hid (F108'.out.below hb F108'.out.lt)
  clear F111 F112 F113 F114 F115 F116 F117 F108'
  clear hb
  refine hK _ _ ?_
  clear hK K
  try simp only [Act.put, List.setIfInBounds_toArray, List.set_cons_succ, List.set_cons_zero]
  refine takeL (.bool true) rfl (by go_simp) ?_
  try simp only [Act.put, List.setIfInBounds_toArray, List.set_cons_succ, List.set_cons_zero]
  refine wpList_nil ?_
  go_wp2_with fail
  go_ret
  exact ⟨rfl, F119.out⟩
set_option maxHeartbeats 1000000 in
set_option maxRecDepth 100000 in
theorem torn_same (r q : Rg) (hr : r.Wf) (hq : q.Wf) (gr : r.good = true) (gq : q.good = true) (he : q.gen = r.gen) (w : World) (hev : ErrVar w) : Calls Tryd.prog 4 #[.agg r.cells.toArray, .agg q.cells.toArray] w fun e w' => e = .returned (.bool true) ∧ Below w.heap.size w w' := by
  have HZ128 := Lib.hid (zeros_length 128)
  have HWN := Lib.hid none_wf
  have HWR := Lib.hid hr
  have HWQ := Lib.hid hq
  have HRE := Lib.hid (enc_length hr.len)
  have HQE := Lib.hid (enc_length hq.len)
  have HQS := Lib.hid (sec_length hq.len)
  have HBL : Hid (Below w.heap.size w w) := Lib.hid (Below.refl _ _)
  have HEV := Lib.hid hev
  have HE0 := Lib.hid hev.lt
  clear hev hr hq
  have HGR := Lib.hid gr
  have HGQ := Lib.hid gq
  clear gr gq
  have Hr0 := Lib.hid (s0_length r)
  have Hr1 := Lib.hid (s1_length HWR.out.len)
  have Hq0 := Lib.hid (s0_length q)
  have Hq1 := Lib.hid (s1_length HWQ.out.len)
  obtain ⟨y0, hy0⟩ : ∃ y, r.s1 ++ r.s0 = y := ⟨_, rfl⟩
  have HC0 := Lib.hid (hy0 ▸ round_sc HGR.out HWR.out.len)
  have HN0 := Lib.hid (hy0 ▸ isReg_round r r r.s0)
  have HY0 := Lib.hid hy0
  clear hy0
  have HGE := Lib.hid he
  clear he
  go_enter Tryd.func4, Tryd.ntmps4
  go_upto_region 0 with fail
  refine wp_region_lit ?_
  refine box_g rfl rfl ?_
  intro w1 hA hb hl
  try simp only [Act.put, List.setIfInBounds_toArray, List.set_cons_succ, List.set_cons_zero]
  clear hl
  have HG2 : Hid (w.heap.size ≤ w.heap.size) := Lib.hid HBL.out.size
  have F3 := Lib.hid (HBL.out.trans (hb.mono HBL.out.size))
  have F4 := Lib.hid (HEV.out.below (Nat.le_refl _) hb)
  clear HBL HEV
  have F5 : Hid (Blk w1 w.heap.size r.cells) := Lib.hid hA
  clear hA hb
  refine box_g rfl rfl ?_
  intro w6 hA hb hl
  try simp only [Act.put, List.setIfInBounds_toArray, List.set_cons_succ, List.set_cons_zero]
  clear hl
  have HN7 := Lib.hid (Nat.ne_of_lt F5.out.lt)
  have HG8 : Hid (w.heap.size ≤ w1.heap.size) := Lib.hid F3.out.size
  have F9 := Lib.hid (F3.out.trans (hb.mono F3.out.size))
  have F10 := Lib.hid (F4.out.below (Nat.le_refl _) hb)
  have F11 := Lib.hid (F5.out.below hb F5.out.lt)
  clear F3 F4 F5
  have F12 : Hid (Blk w6 w1.heap.size q.cells) := Lib.hid hA
  clear hA hb
  generalize w1.heap.size = g13 at *
  clear w1
  refine takeL (.bool false) rfl (by go_simp) ?_
  try simp only [Act.put, List.setIfInBounds_toArray, List.set_cons_succ, List.set_cons_zero]
  refine wpList_nil ?_
  go_upto_region 1 with fail
  refine wp_region_lit ?_
  refine load27 (cs := r.cells.toArray) (Blk.all F11.out rfl) (by rw [List.size_toArray]; exact HWR.out.cells) rfl rfl ?_
  try simp only [Act.put, List.setIfInBounds_toArray, List.set_cons_succ, List.set_cons_zero]
  refine wpList_op rfl fun K hK => ?_
  go_simp
  refine (encode_yes HGR.out HWR.out _ F10.out).mono ?_
  rintro e w14 ⟨rfl, hb⟩
  have F15 := Lib.hid (F9.out.trans (hb.mono F9.out.size))
  have F16 := Lib.hid (F10.out.below (Nat.le_refl _) hb)
  have F17 := Lib.hid (F11.out.below hb F11.out.lt)
  have F18 := Lib.hid (F12.out.below hb F12.out.lt)
  clear F9 F10 F11 F12
  clear hb
  refine hK _ _ ?_
  clear hK K
  try simp only [Act.put, List.setIfInBounds_toArray, List.set_cons_succ, List.set_cons_zero]
  refine takeL (.tuple #[.agg (u8s r.enc).toArray, .int .i64 0]) rfl (by go_simp) ?_
  try simp only [Act.put, List.setIfInBounds_toArray, List.set_cons_succ, List.set_cons_zero]
  refine takeL (.agg (u8s r.enc).toArray) rfl (by go_simp) ?_
  try simp only [Act.put, List.setIfInBounds_toArray, List.set_cons_succ, List.set_cons_zero]
  refine takeL (.int .i64 0) rfl (by go_simp) ?_
  try simp only [Act.put, List.setIfInBounds_toArray, List.set_cons_succ, List.set_cons_zero]
  refine alloc_g zero30 rfl ?_
  intro w19 hA hb hl
  try simp only [Act.put, List.setIfInBounds_toArray, List.set_cons_succ, List.set_cons_zero]
  clear hl
  have HN20 := Lib.hid (Nat.ne_of_lt F17.out.lt)
  have HN21 := Lib.hid (Nat.ne_of_lt F18.out.lt)
  have HG22 : Hid (w.heap.size ≤ w14.heap.size) := Lib.hid F15.out.size
  have F23 := Lib.hid (F15.out.trans (hb.mono F15.out.size))
  have F24 := Lib.hid (F16.out.below (Nat.le_refl _) hb)
  have F25 := Lib.hid (F17.out.below hb F17.out.lt)
  have F26 := Lib.hid (F18.out.below hb F18.out.lt)
  clear F15 F16 F17 F18
  have F27 : Hid (Blk w19 w14.heap.size (u8s (zeros 128))) := Lib.hid hA
  clear hA hb
  generalize w14.heap.size = g28 at *
  clear w14
  refine store_all (cs := (u8s r.enc).toArray) F27.out (by simp only [u8s_size, List.size_toArray, List.length_map, HZ128.out, HRE.out]) (by rw [u8s_size, HRE.out]; exact info30) (u8s_one _) rfl rfl rfl ?_
  intro w29 hD hO hlD
  try simp only [Act.put, List.setIfInBounds_toArray, List.set_cons_succ, List.set_cons_zero]
  clear hlD
  have F30 := Lib.hid (F23.out.trans (hO.below F23.out.size (fun k hk => by rw [hk]; exact HG22.out)))
  have F31 := Lib.hid (F24.out.keep hO HG22.out HE0.out)
  have F32 := Lib.hid (F25.out.only hO (HN20.out))
  have F33 := Lib.hid (F26.out.only hO (HN21.out))
  clear F23 F24 F25 F26 F27
  have F27' : Hid (Blk w29 g28 (u8s r.enc)) := Lib.hid hD
  clear hD hO 
  refine takeL (.int .i64 0) rfl (by go_simp) ?_
  try simp only [Act.put, List.setIfInBounds_toArray, List.set_cons_succ, List.set_cons_zero]
  refine wpList_nil ?_
  go_upto_region 2 with fail
  refine wp_region_lit ?_
  refine load27 (cs := q.cells.toArray) (Blk.all F33.out rfl) (by rw [List.size_toArray]; exact HWQ.out.cells) rfl rfl ?_
  try simp only [Act.put, List.setIfInBounds_toArray, List.set_cons_succ, List.set_cons_zero]
  refine wpList_op rfl fun K hK => ?_
  go_simp
  refine (encode_yes HGQ.out HWQ.out _ F31.out).mono ?_
  rintro e w34 ⟨rfl, hb⟩
  have F35 := Lib.hid (F30.out.trans (hb.mono F30.out.size))
  have F36 := Lib.hid (F31.out.below (Nat.le_refl _) hb)
  have F37 := Lib.hid (F32.out.below hb F32.out.lt)
  have F38 := Lib.hid (F33.out.below hb F33.out.lt)
  have F39 := Lib.hid (F27'.out.below hb F27'.out.lt)
  clear F30 F31 F32 F33 F27'
  clear hb
  refine hK _ _ ?_
  clear hK K
  try simp only [Act.put, List.setIfInBounds_toArray, List.set_cons_succ, List.set_cons_zero]
  refine takeL (.tuple #[.agg (u8s q.enc).toArray, .int .i64 0]) rfl (by go_simp) ?_
  try simp only [Act.put, List.setIfInBounds_toArray, List.set_cons_succ, List.set_cons_zero]
  refine takeL (.agg (u8s q.enc).toArray) rfl (by go_simp) ?_
  try simp only [Act.put, List.setIfInBounds_toArray, List.set_cons_succ, List.set_cons_zero]
  refine takeL (.int .i64 0) rfl (by go_simp) ?_
  try simp only [Act.put, List.setIfInBounds_toArray, List.set_cons_succ, List.set_cons_zero]
  refine alloc_g zero30 rfl ?_
  intro w40 hA hb hl
  try simp only [Act.put, List.setIfInBounds_toArray, List.set_cons_succ, List.set_cons_zero]
  clear hl
  have HN41 := Lib.hid (Nat.ne_of_lt F37.out.lt)
  have HN42 := Lib.hid (Nat.ne_of_lt F38.out.lt)
  have HN43 := Lib.hid (Nat.ne_of_lt F39.out.lt)
  have HG44 : Hid (w.heap.size ≤ w34.heap.size) := Lib.hid F35.out.size
  have F45 := Lib.hid (F35.out.trans (hb.mono F35.out.size))
  have F46 := Lib.hid (F36.out.below (Nat.le_refl _) hb)
  have F47 := Lib.hid (F37.out.below hb F37.out.lt)
  have F48 := Lib.hid (F38.out.below hb F38.out.lt)
  have F49 := Lib.hid (F39.out.below hb F39.out.lt)
  clear F35 F36 F37 F38 F39
  have F50 : Hid (Blk w40 w34.heap.size (u8s (zeros 128))) := Lib.hid hA
  clear hA hb
  generalize w34.heap.size = g51 at *
  clear w34
  refine store_all (cs := (u8s q.enc).toArray) F50.out (by simp only [u8s_size, List.size_toArray, List.length_map, HZ128.out, HQE.out]) (by rw [u8s_size, HQE.out]; exact info30) (u8s_one _) rfl rfl rfl ?_
  intro w52 hD hO hlD
  try simp only [Act.put, List.setIfInBounds_toArray, List.set_cons_succ, List.set_cons_zero]
  clear hlD
  have F53 := Lib.hid (F45.out.trans (hO.below F45.out.size (fun k hk => by rw [hk]; exact HG44.out)))
  have F54 := Lib.hid (F46.out.keep hO HG44.out HE0.out)
  have F55 := Lib.hid (F47.out.only hO (HN41.out))
  have F56 := Lib.hid (F48.out.only hO (HN42.out))
  have F57 := Lib.hid (F49.out.only hO (HN43.out))
  clear F45 F46 F47 F48 F49 F50
  have F50' : Hid (Blk w52 g51 (u8s q.enc)) := Lib.hid hD
  clear hD hO 
  refine takeL (.int .i64 0) rfl (by go_simp) ?_
  try simp only [Act.put, List.setIfInBounds_toArray, List.set_cons_succ, List.set_cons_zero]
  refine wpList_nil ?_
  go_upto_region 3 with fail
  refine wp_region_lit ?_
  refine takeL (.int .i64 0) rfl (by go_simp) ?_
  try simp only [Act.put, List.setIfInBounds_toArray, List.set_cons_succ, List.set_cons_zero]
  refine takeL (.bool false) rfl (by go_simp) ?_
  try simp only [Act.put, List.setIfInBounds_toArray, List.set_cons_succ, List.set_cons_zero]
  refine wpList_nil ?_
  go_upto_region 5 with fail
  refine wp_region_lit ?_
  refine load30 (cs := (u8s r.enc).toArray) (Blk.all F57.out rfl) (by rw [u8s_size, HRE.out]) rfl rfl ?_
  try simp only [Act.put, List.setIfInBounds_toArray, List.set_cons_succ, List.set_cons_zero]
  refine wpList_op rfl fun K hK => ?_
  go_simp
  refine (dec_of HGR.out HWR.out _ F54.out).mono ?_
  rintro e w58 ⟨rfl, hb⟩
  have F59 := Lib.hid (F53.out.trans (hb.mono F53.out.size))
  have F60 := Lib.hid (F54.out.below (Nat.le_refl _) hb)
  have F61 := Lib.hid (F55.out.below hb F55.out.lt)
  have F62 := Lib.hid (F56.out.below hb F56.out.lt)
  have F63 := Lib.hid (F57.out.below hb F57.out.lt)
  have F64 := Lib.hid (F50'.out.below hb F50'.out.lt)
  clear F53 F54 F55 F56 F57 F50'
  clear hb
  refine hK _ _ ?_
  clear hK K
  try simp only [Act.put, List.setIfInBounds_toArray, List.set_cons_succ, List.set_cons_zero]
  refine takeL (.tuple #[.agg r.cells.toArray, .int .i64 0]) rfl (by go_simp) ?_
  try simp only [Act.put, List.setIfInBounds_toArray, List.set_cons_succ, List.set_cons_zero]
  refine takeL (.agg r.cells.toArray) rfl (by go_simp) ?_
  try simp only [Act.put, List.setIfInBounds_toArray, List.set_cons_succ, List.set_cons_zero]
  refine takeL (.int .i64 0) rfl (by go_simp) ?_
  try simp only [Act.put, List.setIfInBounds_toArray, List.set_cons_succ, List.set_cons_zero]
  refine alloc_g zero27 rfl ?_
  intro w65 hA hb hl
  try simp only [Act.put, List.setIfInBounds_toArray, List.set_cons_succ, List.set_cons_zero]
  clear hl
  have HN66 := Lib.hid (Nat.ne_of_lt F61.out.lt)
  have HN67 := Lib.hid (Nat.ne_of_lt F62.out.lt)
  have HN68 := Lib.hid (Nat.ne_of_lt F63.out.lt)
  have HN69 := Lib.hid (Nat.ne_of_lt F64.out.lt)
  have HG70 : Hid (w.heap.size ≤ w58.heap.size) := Lib.hid F59.out.size
  have F71 := Lib.hid (F59.out.trans (hb.mono F59.out.size))
  have F72 := Lib.hid (F60.out.below (Nat.le_refl _) hb)
  have F73 := Lib.hid (F61.out.below hb F61.out.lt)
  have F74 := Lib.hid (F62.out.below hb F62.out.lt)
  have F75 := Lib.hid (F63.out.below hb F63.out.lt)
  have F76 := Lib.hid (F64.out.below hb F64.out.lt)
  clear F59 F60 F61 F62 F63 F64
  have F77 : Hid (Blk w65 w58.heap.size Rg.none.cells) := Lib.hid hA
  clear hA hb
  generalize w58.heap.size = g78 at *
  clear w58
  refine store_all (cs := r.cells.toArray) F77.out (by simp only [u8s_size, List.size_toArray, List.length_map, HWN.out.cells, HWR.out.cells]) (by rw [List.size_toArray, HWR.out.cells]; exact info27) (fun v hv => Rg.cell_one _ v (by simpa using hv)) rfl rfl rfl ?_
  intro w79 hD hO hlD
  try simp only [Act.put, List.setIfInBounds_toArray, List.set_cons_succ, List.set_cons_zero]
  clear hlD
  have F80 := Lib.hid (F71.out.trans (hO.below F71.out.size (fun k hk => by rw [hk]; exact HG70.out)))
  have F81 := Lib.hid (F72.out.keep hO HG70.out HE0.out)
  have F82 := Lib.hid (F73.out.only hO (HN66.out))
  have F83 := Lib.hid (F74.out.only hO (HN67.out))
  have F84 := Lib.hid (F75.out.only hO (HN68.out))
  have F85 := Lib.hid (F76.out.only hO (HN69.out))
  clear F71 F72 F73 F74 F75 F76 F77
  have F77' : Hid (Blk w79 g78 r.cells) := Lib.hid hD
  clear hD hO 
  refine takeL (.int .i64 0) rfl (by go_simp) ?_
  try simp only [Act.put, List.setIfInBounds_toArray, List.set_cons_succ, List.set_cons_zero]
  refine wpList_nil ?_
  go_upto_region 6 with fail
  refine wp_region_lit ?_
  refine takeL (.pointer (some ⟨g28, 64, none⟩)) rfl (by go_simp) ?_
  try simp only [Act.put, List.setIfInBounds_toArray, List.set_cons_succ, List.set_cons_zero]
  refine load29 (cs := (u8s r.s1).toArray) (enc_at1 F84.out HWR.out.len) (by rw [u8s_size, Hr1.out]) rfl rfl ?_
  try simp only [Act.put, List.setIfInBounds_toArray, List.set_cons_succ, List.set_cons_zero]
  refine takeL (.pointer (some ⟨g28, 0, none⟩)) rfl (by go_simp) ?_
  try simp only [Act.put, List.setIfInBounds_toArray, List.set_cons_succ, List.set_cons_zero]
  refine load29 (cs := (u8s r.s0).toArray) (enc_at0 F84.out HWR.out.len) (by rw [u8s_size, Hr0.out]) rfl rfl ?_
  try simp only [Act.put, List.setIfInBounds_toArray, List.set_cons_succ, List.set_cons_zero]
  refine takeL (.agg (u8s y0).toArray) rfl (exec_build _ _ _ _ 30 _ rfl #[(0, .agg (u8s r.s1).toArray), (1, .agg (u8s r.s0).toArray)] (by simp only [List.map_toArray, List.map_cons, List.map_nil]; rfl) _ (build_pair HY0.out Hr1.out Hr0.out _)) ?_
  try simp only [Act.put, List.setIfInBounds_toArray, List.set_cons_succ, List.set_cons_zero]
  refine wpList_op rfl fun K hK => ?_
  go_simp
  refine (decode_no HC0.out HN0.out _ F81.out).mono ?_
  rintro e w86 ⟨rfl, hb⟩
  have F87 := Lib.hid (F80.out.trans (hb.mono F80.out.size))
  have F88 := Lib.hid (F81.out.below (Nat.le_refl _) hb)
  have F89 := Lib.hid (F82.out.below hb F82.out.lt)
  have F90 := Lib.hid (F83.out.below hb F83.out.lt)
  have F91 := Lib.hid (F84.out.below hb F84.out.lt)
  have F92 := Lib.hid (F85.out.below hb F85.out.lt)
  have F93 := Lib.hid (F77'.out.below hb F77'.out.lt)
  clear F80 F81 F82 F83 F84 F85 F77'
  clear hb
  refine hK _ _ ?_
  clear hK K
  try simp only [Act.put, List.setIfInBounds_toArray, List.set_cons_succ, List.set_cons_zero]
  refine takeL (.tuple #[.agg Rg.none.cells.toArray, .int .i64 11]) rfl (by go_simp) ?_
  try simp only [Act.put, List.setIfInBounds_toArray, List.set_cons_succ, List.set_cons_zero]
  refine takeL (.agg Rg.none.cells.toArray) rfl (by go_simp) ?_
  try simp only [Act.put, List.setIfInBounds_toArray, List.set_cons_succ, List.set_cons_zero]
  refine takeL (.int .i64 11) rfl (by go_simp) ?_
  try simp only [Act.put, List.setIfInBounds_toArray, List.set_cons_succ, List.set_cons_zero]
  refine alloc_g zero27 rfl ?_
  intro w94 hA hb hl
  try simp only [Act.put, List.setIfInBounds_toArray, List.set_cons_succ, List.set_cons_zero]
  clear hl
  have HN95 := Lib.hid (Nat.ne_of_lt F89.out.lt)
  have HN96 := Lib.hid (Nat.ne_of_lt F90.out.lt)
  have HN97 := Lib.hid (Nat.ne_of_lt F91.out.lt)
  have HN98 := Lib.hid (Nat.ne_of_lt F92.out.lt)
  have HN99 := Lib.hid (Nat.ne_of_lt F93.out.lt)
  have HG100 : Hid (w.heap.size ≤ w86.heap.size) := Lib.hid F87.out.size
  have F101 := Lib.hid (F87.out.trans (hb.mono F87.out.size))
  have F102 := Lib.hid (F88.out.below (Nat.le_refl _) hb)
  have F103 := Lib.hid (F89.out.below hb F89.out.lt)
  have F104 := Lib.hid (F90.out.below hb F90.out.lt)
  have F105 := Lib.hid (F91.out.below hb F91.out.lt)
  have F106 := Lib.hid (F92.out.below hb F92.out.lt)
  have F107 := Lib.hid (F93.out.below hb F93.out.lt)
  clear F87 F88 F89 F90 F91 F92 F93
  have F108 : Hid (Blk w94 w86.heap.size Rg.none.cells) := Lib.hid hA
  clear hA hb
  generalize w86.heap.size = g109 at *
  clear w86
  refine store_all (cs := Rg.none.cells.toArray) F108.out (by simp only [u8s_size, List.size_toArray, List.length_map, HWN.out.cells, HWN.out.cells]) (by rw [List.size_toArray, HWN.out.cells]; exact info27) (fun v hv => Rg.cell_one _ v (by simpa using hv)) rfl rfl rfl ?_
  intro w110 hD hO hlD
  try simp only [Act.put, List.setIfInBounds_toArray, List.set_cons_succ, List.set_cons_zero]
  clear hlD
  have F111 := Lib.hid (F101.out.trans (hO.below F101.out.size (fun k hk => by rw [hk]; exact HG100.out)))
  have F112 := Lib.hid (F102.out.keep hO HG100.out HE0.out)
  have F113 := Lib.hid (F103.out.only hO (HN95.out))
  have F114 := Lib.hid (F104.out.only hO (HN96.out))
  have F115 := Lib.hid (F105.out.only hO (HN97.out))
  have F116 := Lib.hid (F106.out.only hO (HN98.out))
  have F117 := Lib.hid (F107.out.only hO (HN99.out))
  clear F101 F102 F103 F104 F105 F106 F107 F108
  have F108' : Hid (Blk w110 g109 Rg.none.cells) := Lib.hid hD
  clear hD hO 
  refine takeL (.int .i64 11) rfl (by go_simp) ?_
  try simp only [Act.put, List.setIfInBounds_toArray, List.set_cons_succ, List.set_cons_zero]
  refine wpList_nil ?_
  go_upto_region 7 with fail
  refine wp_region_lit ?_
  refine takeL (.int .i64 0) rfl (by go_simp) ?_
  try simp only [Act.put, List.setIfInBounds_toArray, List.set_cons_succ, List.set_cons_zero]
  refine takeL (.bool false) rfl (by go_simp) ?_
  try simp only [Act.put, List.setIfInBounds_toArray, List.set_cons_succ, List.set_cons_zero]
  refine takeL (.bool false) rfl (by go_simp) ?_
  try simp only [Act.put, List.setIfInBounds_toArray, List.set_cons_succ, List.set_cons_zero]
  refine load27 (cs := r.cells.toArray) (Blk.all F117.out rfl) (by rw [List.size_toArray]; exact HWR.out.cells) rfl rfl ?_
  try simp only [Act.put, List.setIfInBounds_toArray, List.set_cons_succ, List.set_cons_zero]
  refine load27 (cs := r.cells.toArray) (Blk.all F113.out rfl) (by rw [List.size_toArray]; exact HWR.out.cells) rfl rfl ?_
  try simp only [Act.put, List.setIfInBounds_toArray, List.set_cons_succ, List.set_cons_zero]
  refine takeL (.bool false) rfl (by exact run_neq_reg HWR.out.len _ _ _ rfl rfl rfl) ?_
  try simp only [Act.put, List.setIfInBounds_toArray, List.set_cons_succ, List.set_cons_zero]
  refine takeL (.bool false) rfl (by go_simp) ?_
  try simp only [Act.put, List.setIfInBounds_toArray, List.set_cons_succ, List.set_cons_zero]
  refine takeL (.bool false) rfl (by go_simp) ?_
  try simp only [Act.put, List.setIfInBounds_toArray, List.set_cons_succ, List.set_cons_zero]
  refine takeL (.int .i64 11) rfl (by go_simp) ?_
  try simp only [Act.put, List.setIfInBounds_toArray, List.set_cons_succ, List.set_cons_zero]
  refine takeL (.bool false) rfl (by go_simp) ?_
  try simp only [Act.put, List.setIfInBounds_toArray, List.set_cons_succ, List.set_cons_zero]
  refine takeL (.bool false) rfl (by go_simp) ?_
  try simp only [Act.put, List.setIfInBounds_toArray, List.set_cons_succ, List.set_cons_zero]
  refine wpList_nil ?_
  go_upto_region 9 with fail
  refine wp_region_lit ?_
  refine takeL (.int .i64 0) rfl (by go_simp) ?_
  try simp only [Act.put, List.setIfInBounds_toArray, List.set_cons_succ, List.set_cons_zero]
  refine takeL (.bool false) rfl (by go_simp) ?_
  try simp only [Act.put, List.setIfInBounds_toArray, List.set_cons_succ, List.set_cons_zero]
  refine takeL (.bool false) rfl (by go_simp) ?_
  try simp only [Act.put, List.setIfInBounds_toArray, List.set_cons_succ, List.set_cons_zero]
  refine takeL (.pointer (some ⟨g13, 0, none⟩)) rfl (by go_simp) ?_
  try simp only [Act.put, List.setIfInBounds_toArray, List.set_cons_succ, List.set_cons_zero]
  refine takeL (.int .u32 q.gen) rfl (by have hq := F114.out.cell (i := 0) (v := .int .u32 q.gen) rfl; go_simp) ?_
  try simp only [Act.put, List.setIfInBounds_toArray, List.set_cons_succ, List.set_cons_zero]
  refine takeL (.pointer (some ⟨w.heap.size, 0, none⟩)) rfl (by go_simp) ?_
  try simp only [Act.put, List.setIfInBounds_toArray, List.set_cons_succ, List.set_cons_zero]
  refine takeL (.int .u32 r.gen) rfl (by have hq := F113.out.cell (i := 0) (v := .int .u32 r.gen) rfl; go_simp) ?_
  try simp only [Act.put, List.setIfInBounds_toArray, List.set_cons_succ, List.set_cons_zero]
  refine takeL (.bool true) rfl (by have hq : (q.gen == r.gen) = true := beq_iff_eq.2 HGE.out; go_simp) ?_
  try simp only [Act.put, List.setIfInBounds_toArray, List.set_cons_succ, List.set_cons_zero]
  refine takeL (.bool true) rfl (by go_simp) ?_
  try simp only [Act.put, List.setIfInBounds_toArray, List.set_cons_succ, List.set_cons_zero]
  refine wpList_nil ?_
  go_upto_region 10 with fail
  refine wp_region_lit ?_
  refine wpList_op rfl fun K hK => ?_
  go_simp
  refine (wakes_any _ F112.out).mono ?_
  rintro e w118 ⟨rfl, hb⟩
  have F119 := Lib.hid (F111.out.trans (hb.mono F111.out.size))
  have F120 := Lib.hid (F112.out.below (Nat.le_refl _) hb)
  have F121 := Lib.hid (F113.out.below hb F113.out.lt)
  have F122 := Lib.hid (F114.out.below hb F114.out.lt)
  have F123 := Lib.hid (F115.out.below hb F115.out.lt)
  have F124 := Lib.hid (F116.out.below hb F116.out.lt)
  have F125 := Lib.hid (F117.out.below hb F117.out.lt)
  have F126 := Lib.hid (F108'.out.below hb F108'.out.lt)
  clear F111 F112 F113 F114 F115 F116 F117 F108'
  clear hb
  refine hK _ _ ?_
  clear hK K
  try simp only [Act.put, List.setIfInBounds_toArray, List.set_cons_succ, List.set_cons_zero]
  refine takeL (.bool true) rfl (by go_simp) ?_
  try simp only [Act.put, List.setIfInBounds_toArray, List.set_cons_succ, List.set_cons_zero]
  refine wpList_nil ?_
  go_wp2_with fail
  go_ret
  exact ⟨rfl, F119.out⟩
set_option maxHeartbeats 1000000 in
set_option maxRecDepth 100000 in
theorem torn_two (r q : Rg) (hr : r.Wf) (hq : q.Wf) (gr : r.good = true) (gq : q.good = true) (he : q.gen ≠ r.gen) (w : World) (hev : ErrVar w) : Calls Tryd.prog 4 #[.agg r.cells.toArray, .agg q.cells.toArray] w fun e w' => e = .returned (.bool true) ∧ Below w.heap.size w w' := by
  have HZ128 := Lib.hid (zeros_length 128)
  have HWN := Lib.hid none_wf
  have HWR := Lib.hid hr
  have HWQ := Lib.hid hq
  have HRE := Lib.hid (enc_length hr.len)
  have HQE := Lib.hid (enc_length hq.len)
  have HQS := Lib.hid (sec_length hq.len)
  have HBL : Hid (Below w.heap.size w w) := Lib.hid (Below.refl _ _)
  have HEV := Lib.hid hev
  have HE0 := Lib.hid hev.lt
  clear hev hr hq
  have HGR := Lib.hid gr
  have HGQ := Lib.hid gq
  clear gr gq
  have Hr0 := Lib.hid (s0_length r)
  have Hr1 := Lib.hid (s1_length HWR.out.len)
  have Hq0 := Lib.hid (s0_length q)
  have Hq1 := Lib.hid (s1_length HWQ.out.len)
  obtain ⟨y0, hy0⟩ : ∃ y, r.s1 ++ r.s0 = y := ⟨_, rfl⟩
  have HC0 := Lib.hid (hy0 ▸ round_sc HGR.out HWR.out.len)
  have HN0 := Lib.hid (hy0 ▸ isReg_round r r r.s0)
  have HY0 := Lib.hid hy0
  clear hy0
  have HGE := Lib.hid he
  clear he
  obtain ⟨y1, hy1⟩ : ∃ y, r.s0 ++ q.s1 = y := ⟨_, rfl⟩
  have HC1 := Lib.hid (hy1 ▸ torn_sc HGR.out HGQ.out HWQ.out.len)
  have HN1 := Lib.hid (hy1 ▸ isReg_torn HWR.out HWQ.out HGE.out)
  have HY1 := Lib.hid hy1
  clear hy1
  obtain ⟨y2, hy2⟩ : ∃ y, q.s0 ++ r.s1 = y := ⟨_, rfl⟩
  have HC2 := Lib.hid (hy2 ▸ torn_sc HGQ.out HGR.out HWR.out.len)
  have HN2 := Lib.hid (hy2 ▸ isReg_torn HWQ.out HWR.out (Ne.symm HGE.out))
  have HY2 := Lib.hid hy2
  clear hy2
  go_enter Tryd.func4, Tryd.ntmps4
  go_upto_region 0 with fail
  refine wp_region_lit ?_
  refine box_g rfl rfl ?_
  intro w1 hA hb hl
  try simp only [Act.put, List.setIfInBounds_toArray, List.set_cons_succ, List.set_cons_zero]
  clear hl
  have HG2 : Hid (w.heap.size ≤ w.heap.size) := Lib.hid HBL.out.size
  have F3 := Lib.hid (HBL.out.trans (hb.mono HBL.out.size))
  have F4 := Lib.hid (HEV.out.below (Nat.le_refl _) hb)
  clear HBL HEV
  have F5 : Hid (Blk w1 w.heap.size r.cells) := Lib.hid hA
  clear hA hb
  refine box_g rfl rfl ?_
  intro w6 hA hb hl
  try simp only [Act.put, List.setIfInBounds_toArray, List.set_cons_succ, List.set_cons_zero]
  clear hl
  have HN7 := Lib.hid (Nat.ne_of_lt F5.out.lt)
  have HG8 : Hid (w.heap.size ≤ w1.heap.size) := Lib.hid F3.out.size
  have F9 := Lib.hid (F3.out.trans (hb.mono F3.out.size))
  have F10 := Lib.hid (F4.out.below (Nat.le_refl _) hb)
  have F11 := Lib.hid (F5.out.below hb F5.out.lt)
  clear F3 F4 F5
  have F12 : Hid (Blk w6 w1.heap.size q.cells) := Lib.hid hA
  clear hA hb
  generalize w1.heap.size = g13 at *
  clear w1
  refine takeL (.bool false) rfl (by go_simp) ?_
  try simp only [Act.put, List.setIfInBounds_toArray, List.set_cons_succ, List.set_cons_zero]
  refine wpList_nil ?_
  go_upto_region 1 with fail
  refine wp_region_lit ?_
  refine load27 (cs := r.cells.toArray) (Blk.all F11.out rfl) (by rw [List.size_toArray]; exact HWR.out.cells) rfl rfl ?_
  try simp only [Act.put, List.setIfInBounds_toArray, List.set_cons_succ, List.set_cons_zero]
  refine wpList_op rfl fun K hK => ?_
  go_simp
  refine (encode_yes HGR.out HWR.out _ F10.out).mono ?_
  rintro e w14 ⟨rfl, hb⟩
  have F15 := Lib.hid (F9.out.trans (hb.mono F9.out.size))
  have F16 := Lib.hid (F10.out.below (Nat.le_refl _) hb)
  have F17 := Lib.hid (F11.out.below hb F11.out.lt)
  have F18 := Lib.hid (F12.out.below hb F12.out.lt)
  clear F9 F10 F11 F12
  clear hb
  refine hK _ _ ?_
  clear hK K
  try simp only [Act.put, List.setIfInBounds_toArray, List.set_cons_succ, List.set_cons_zero]
  refine takeL (.tuple #[.agg (u8s r.enc).toArray, .int .i64 0]) rfl (by go_simp) ?_
  try simp only [Act.put, List.setIfInBounds_toArray, List.set_cons_succ, List.set_cons_zero]
  refine takeL (.agg (u8s r.enc).toArray) rfl (by go_simp) ?_
  try simp only [Act.put, List.setIfInBounds_toArray, List.set_cons_succ, List.set_cons_zero]
  refine takeL (.int .i64 0) rfl (by go_simp) ?_
  try simp only [Act.put, List.setIfInBounds_toArray, List.set_cons_succ, List.set_cons_zero]
  refine alloc_g zero30 rfl ?_
  intro w19 hA hb hl
  try simp only [Act.put, List.setIfInBounds_toArray, List.set_cons_succ, List.set_cons_zero]
  clear hl
  have HN20 := Lib.hid (Nat.ne_of_lt F17.out.lt)
  have HN21 := Lib.hid (Nat.ne_of_lt F18.out.lt)
  have HG22 : Hid (w.heap.size ≤ w14.heap.size) := Lib.hid F15.out.size
  have F23 := Lib.hid (F15.out.trans (hb.mono F15.out.size))
  have F24 := Lib.hid (F16.out.below (Nat.le_refl _) hb)
  have F25 := Lib.hid (F17.out.below hb F17.out.lt)
  have F26 := Lib.hid (F18.out.below hb F18.out.lt)
  clear F15 F16 F17 F18
  have F27 : Hid (Blk w19 w14.heap.size (u8s (zeros 128))) := Lib.hid hA
  clear hA hb
  generalize w14.heap.size = g28 at *
  clear w14
  refine store_all (cs := (u8s r.enc).toArray) F27.out (by simp only [u8s_size, List.size_toArray, List.length_map, HZ128.out, HRE.out]) (by rw [u8s_size, HRE.out]; exact info30) (u8s_one _) rfl rfl rfl ?_
  intro w29 hD hO hlD
  try simp only [Act.put, List.setIfInBounds_toArray, List.set_cons_succ, List.set_cons_zero]
  clear hlD
  have F30 := Lib.hid (F23.out.trans (hO.below F23.out.size (fun k hk => by rw [hk]; exact HG22.out)))
  have F31 := Lib.hid (F24.out.keep hO HG22.out HE0.out)
  have F32 := Lib.hid (F25.out.only hO (HN20.out))
  have F33 := Lib.hid (F26.out.only hO (HN21.out))
  clear F23 F24 F25 F26 F27
  have F27' : Hid (Blk w29 g28 (u8s r.enc)) := Lib.hid hD
  clear hD hO 
  refine takeL (.int .i64 0) rfl (by go_simp) ?_
  try simp only [Act.put, List.setIfInBounds_toArray, List.set_cons_succ, List.set_cons_zero]
  refine wpList_nil ?_
  go_upto_region 2 with fail
  refine wp_region_lit ?_
  refine load27 (cs := q.cells.toArray) (Blk.all F33.out rfl) (by rw [List.size_toArray]; exact HWQ.out.cells) rfl rfl ?_
  try simp only [Act.put, List.setIfInBounds_toArray, List.set_cons_succ, List.set_cons_zero]
  refine wpList_op rfl fun K hK => ?_
  go_simp
  refine (encode_yes HGQ.out HWQ.out _ F31.out).mono ?_
  rintro e w34 ⟨rfl, hb⟩
  have F35 := Lib.hid (F30.out.trans (hb.mono F30.out.size))
  have F36 := Lib.hid (F31.out.below (Nat.le_refl _) hb)
  have F37 := Lib.hid (F32.out.below hb F32.out.lt)
  have F38 := Lib.hid (F33.out.below hb F33.out.lt)
  have F39 := Lib.hid (F27'.out.below hb F27'.out.lt)
  clear F30 F31 F32 F33 F27'
  clear hb
  refine hK _ _ ?_
  clear hK K
  try simp only [Act.put, List.setIfInBounds_toArray, List.set_cons_succ, List.set_cons_zero]
  refine takeL (.tuple #[.agg (u8s q.enc).toArray, .int .i64 0]) rfl (by go_simp) ?_
  try simp only [Act.put, List.setIfInBounds_toArray, List.set_cons_succ, List.set_cons_zero]
  refine takeL (.agg (u8s q.enc).toArray) rfl (by go_simp) ?_
  try simp only [Act.put, List.setIfInBounds_toArray, List.set_cons_succ, List.set_cons_zero]
  refine takeL (.int .i64 0) rfl (by go_simp) ?_
  try simp only [Act.put, List.setIfInBounds_toArray, List.set_cons_succ, List.set_cons_zero]
  refine alloc_g zero30 rfl ?_
  intro w40 hA hb hl
  try simp only [Act.put, List.setIfInBounds_toArray, List.set_cons_succ, List.set_cons_zero]
  clear hl
  have HN41 := Lib.hid (Nat.ne_of_lt F37.out.lt)
  have HN42 := Lib.hid (Nat.ne_of_lt F38.out.lt)
  have HN43 := Lib.hid (Nat.ne_of_lt F39.out.lt)
  have HG44 : Hid (w.heap.size ≤ w34.heap.size) := Lib.hid F35.out.size
  have F45 := Lib.hid (F35.out.trans (hb.mono F35.out.size))
  have F46 := Lib.hid (F36.out.below (Nat.le_refl _) hb)
  have F47 := Lib.hid (F37.out.below hb F37.out.lt)
  have F48 := Lib.hid (F38.out.below hb F38.out.lt)
  have F49 := Lib.hid (F39.out.below hb F39.out.lt)
  clear F35 F36 F37 F38 F39
  have F50 : Hid (Blk w40 w34.heap.size (u8s (zeros 128))) := Lib.hid hA
  clear hA hb
  generalize w34.heap.size = g51 at *
  clear w34
  refine store_all (cs := (u8s q.enc).toArray) F50.out (by simp only [u8s_size, List.size_toArray, List.length_map, HZ128.out, HQE.out]) (by rw [u8s_size, HQE.out]; exact info30) (u8s_one _) rfl rfl rfl ?_
  intro w52 hD hO hlD
  try simp only [Act.put, List.setIfInBounds_toArray, List.set_cons_succ, List.set_cons_zero]
  clear hlD
  have F53 := Lib.hid (F45.out.trans (hO.below F45.out.size (fun k hk => by rw [hk]; exact HG44.out)))
  have F54 := Lib.hid (F46.out.keep hO HG44.out HE0.out)
  have F55 := Lib.hid (F47.out.only hO (HN41.out))
  have F56 := Lib.hid (F48.out.only hO (HN42.out))
  have F57 := Lib.hid (F49.out.only hO (HN43.out))
  clear F45 F46 F47 F48 F49 F50
  have F50' : Hid (Blk w52 g51 (u8s q.enc)) := Lib.hid hD
  clear hD hO 
  refine takeL (.int .i64 0) rfl (by go_simp) ?_
  try simp only [Act.put, List.setIfInBounds_toArray, List.set_cons_succ, List.set_cons_zero]
  refine wpList_nil ?_
  go_upto_region 3 with fail
  refine wp_region_lit ?_
  refine takeL (.int .i64 0) rfl (by go_simp) ?_
  try simp only [Act.put, List.setIfInBounds_toArray, List.set_cons_succ, List.set_cons_zero]
  refine takeL (.bool false) rfl (by go_simp) ?_
  try simp only [Act.put, List.setIfInBounds_toArray, List.set_cons_succ, List.set_cons_zero]
  refine wpList_nil ?_
  go_upto_region 5 with fail
  refine wp_region_lit ?_
  refine load30 (cs := (u8s r.enc).toArray) (Blk.all F57.out rfl) (by rw [u8s_size, HRE.out]) rfl rfl ?_
  try simp only [Act.put, List.setIfInBounds_toArray, List.set_cons_succ, List.set_cons_zero]
  refine wpList_op rfl fun K hK => ?_
  go_simp
  refine (dec_of HGR.out HWR.out _ F54.out).mono ?_
  rintro e w58 ⟨rfl, hb⟩
  have F59 := Lib.hid (F53.out.trans (hb.mono F53.out.size))
  have F60 := Lib.hid (F54.out.below (Nat.le_refl _) hb)
  have F61 := Lib.hid (F55.out.below hb F55.out.lt)
  have F62 := Lib.hid (F56.out.below hb F56.out.lt)
  have F63 := Lib.hid (F57.out.below hb F57.out.lt)
  have F64 := Lib.hid (F50'.out.below hb F50'.out.lt)
  clear F53 F54 F55 F56 F57 F50'
  clear hb
  refine hK _ _ ?_
  clear hK K
  try simp only [Act.put, List.setIfInBounds_toArray, List.set_cons_succ, List.set_cons_zero]
  refine takeL (.tuple #[.agg r.cells.toArray, .int .i64 0]) rfl (by go_simp) ?_
  try simp only [Act.put, List.setIfInBounds_toArray, List.set_cons_succ, List.set_cons_zero]
  refine takeL (.agg r.cells.toArray) rfl (by go_simp) ?_
  try simp only [Act.put, List.setIfInBounds_toArray, List.set_cons_succ, List.set_cons_zero]
  refine takeL (.int .i64 0) rfl (by go_simp) ?_
  try simp only [Act.put, List.setIfInBounds_toArray, List.set_cons_succ, List.set_cons_zero]
  refine alloc_g zero27 rfl ?_
  intro w65 hA hb hl
  try simp only [Act.put, List.setIfInBounds_toArray, List.set_cons_succ, List.set_cons_zero]
  clear hl
  have HN66 := Lib.hid (Nat.ne_of_lt F61.out.lt)
  have HN67 := Lib.hid (Nat.ne_of_lt F62.out.lt)
  have HN68 := Lib.hid (Nat.ne_of_lt F63.out.lt)
  have HN69 := Lib.hid (Nat.ne_of_lt F64.out.lt)
  have HG70 : Hid (w.heap.size ≤ w58.heap.size) := Lib.hid F59.out.size
  have F71 := Lib.hid (F59.out.trans (hb.mono F59.out.size))
  have F72 := Lib.hid (F60.out.below (Nat.le_refl _) hb)
  have F73 := Lib.hid (F61.out.below hb F61.out.lt)
  have F74 := Lib.hid (F62.out.below hb F62.out.lt)
  have F75 := Lib.hid (F63.out.below hb F63.out.lt)
  have F76 := Lib.hid (F64.out.below hb F64.out.lt)
  clear F59 F60 F61 F62 F63 F64
  have F77 : Hid (Blk w65 w58.heap.size Rg.none.cells) := Lib.hid hA
  clear hA hb
  generalize w58.heap.size = g78 at *
  clear w58
  refine store_all (cs := r.cells.toArray) F77.out (by simp only [u8s_size, List.size_toArray, List.length_map, HWN.out.cells, HWR.out.cells]) (by rw [List.size_toArray, HWR.out.cells]; exact info27) (fun v hv => Rg.cell_one _ v (by simpa using hv)) rfl rfl rfl ?_
  intro w79 hD hO hlD
  try simp only [Act.put, List.setIfInBounds_toArray, List.set_cons_succ, List.set_cons_zero]
  clear hlD
  have F80 := Lib.hid (F71.out.trans (hO.below F71.out.size (fun k hk => by rw [hk]; exact HG70.out)))
  have F81 := Lib.hid (F72.out.keep hO HG70.out HE0.out)
  have F82 := Lib.hid (F73.out.only hO (HN66.out))
  have F83 := Lib.hid (F74.out.only hO (HN67.out))
  have F84 := Lib.hid (F75.out.only hO (HN68.out))
  have F85 := Lib.hid (F76.out.only hO (HN69.out))
  clear F71 F72 F73 F74 F75 F76 F77
  have F77' : Hid (Blk w79 g78 r.cells) := Lib.hid hD
  clear hD hO 
  refine takeL (.int .i64 0) rfl (by go_simp) ?_
  try simp only [Act.put, List.setIfInBounds_toArray, List.set_cons_succ, List.set_cons_zero]
  refine wpList_nil ?_
  go_upto_region 6 with fail
  refine wp_region_lit ?_
  refine takeL (.pointer (some ⟨g28, 64, none⟩)) rfl (by go_simp) ?_
  try simp only [Act.put, List.setIfInBounds_toArray, List.set_cons_succ, List.set_cons_zero]
  refine load29 (cs := (u8s r.s1).toArray) (enc_at1 F84.out HWR.out.len) (by rw [u8s_size, Hr1.out]) rfl rfl ?_
  try simp only [Act.put, List.setIfInBounds_toArray, List.set_cons_succ, List.set_cons_zero]
  refine takeL (.pointer (some ⟨g28, 0, none⟩)) rfl (by go_simp) ?_
  try simp only [Act.put, List.setIfInBounds_toArray, List.set_cons_succ, List.set_cons_zero]
  refine load29 (cs := (u8s r.s0).toArray) (enc_at0 F84.out HWR.out.len) (by rw [u8s_size, Hr0.out]) rfl rfl ?_
  try simp only [Act.put, List.setIfInBounds_toArray, List.set_cons_succ, List.set_cons_zero]
  refine takeL (.agg (u8s y0).toArray) rfl (exec_build _ _ _ _ 30 _ rfl #[(0, .agg (u8s r.s1).toArray), (1, .agg (u8s r.s0).toArray)] (by simp only [List.map_toArray, List.map_cons, List.map_nil]; rfl) _ (build_pair HY0.out Hr1.out Hr0.out _)) ?_
  try simp only [Act.put, List.setIfInBounds_toArray, List.set_cons_succ, List.set_cons_zero]
  refine wpList_op rfl fun K hK => ?_
  go_simp
  refine (decode_no HC0.out HN0.out _ F81.out).mono ?_
  rintro e w86 ⟨rfl, hb⟩
  have F87 := Lib.hid (F80.out.trans (hb.mono F80.out.size))
  have F88 := Lib.hid (F81.out.below (Nat.le_refl _) hb)
  have F89 := Lib.hid (F82.out.below hb F82.out.lt)
  have F90 := Lib.hid (F83.out.below hb F83.out.lt)
  have F91 := Lib.hid (F84.out.below hb F84.out.lt)
  have F92 := Lib.hid (F85.out.below hb F85.out.lt)
  have F93 := Lib.hid (F77'.out.below hb F77'.out.lt)
  clear F80 F81 F82 F83 F84 F85 F77'
  clear hb
  refine hK _ _ ?_
  clear hK K
  try simp only [Act.put, List.setIfInBounds_toArray, List.set_cons_succ, List.set_cons_zero]
  refine takeL (.tuple #[.agg Rg.none.cells.toArray, .int .i64 11]) rfl (by go_simp) ?_
  try simp only [Act.put, List.setIfInBounds_toArray, List.set_cons_succ, List.set_cons_zero]
  refine takeL (.agg Rg.none.cells.toArray) rfl (by go_simp) ?_
  try simp only [Act.put, List.setIfInBounds_toArray, List.set_cons_succ, List.set_cons_zero]
  refine takeL (.int .i64 11) rfl (by go_simp) ?_
  try simp only [Act.put, List.setIfInBounds_toArray, List.set_cons_succ, List.set_cons_zero]
  refine alloc_g zero27 rfl ?_
  intro w94 hA hb hl
  try simp only [Act.put, List.setIfInBounds_toArray, List.set_cons_succ, List.set_cons_zero]
  clear hl
  have HN95 := Lib.hid (Nat.ne_of_lt F89.out.lt)
  have HN96 := Lib.hid (Nat.ne_of_lt F90.out.lt)
  have HN97 := Lib.hid (Nat.ne_of_lt F91.out.lt)
  have HN98 := Lib.hid (Nat.ne_of_lt F92.out.lt)
  have HN99 := Lib.hid (Nat.ne_of_lt F93.out.lt)
  have HG100 : Hid (w.heap.size ≤ w86.heap.size) := Lib.hid F87.out.size
  have F101 := Lib.hid (F87.out.trans (hb.mono F87.out.size))
  have F102 := Lib.hid (F88.out.below (Nat.le_refl _) hb)
  have F103 := Lib.hid (F89.out.below hb F89.out.lt)
  have F104 := Lib.hid (F90.out.below hb F90.out.lt)
  have F105 := Lib.hid (F91.out.below hb F91.out.lt)
  have F106 := Lib.hid (F92.out.below hb F92.out.lt)
  have F107 := Lib.hid (F93.out.below hb F93.out.lt)
  clear F87 F88 F89 F90 F91 F92 F93
  have F108 : Hid (Blk w94 w86.heap.size Rg.none.cells) := Lib.hid hA
  clear hA hb
  generalize w86.heap.size = g109 at *
  clear w86
  refine store_all (cs := Rg.none.cells.toArray) F108.out (by simp only [u8s_size, List.size_toArray, List.length_map, HWN.out.cells, HWN.out.cells]) (by rw [List.size_toArray, HWN.out.cells]; exact info27) (fun v hv => Rg.cell_one _ v (by simpa using hv)) rfl rfl rfl ?_
  intro w110 hD hO hlD
  try simp only [Act.put, List.setIfInBounds_toArray, List.set_cons_succ, List.set_cons_zero]
  clear hlD
  have F111 := Lib.hid (F101.out.trans (hO.below F101.out.size (fun k hk => by rw [hk]; exact HG100.out)))
  have F112 := Lib.hid (F102.out.keep hO HG100.out HE0.out)
  have F113 := Lib.hid (F103.out.only hO (HN95.out))
  have F114 := Lib.hid (F104.out.only hO (HN96.out))
  have F115 := Lib.hid (F105.out.only hO (HN97.out))
  have F116 := Lib.hid (F106.out.only hO (HN98.out))
  have F117 := Lib.hid (F107.out.only hO (HN99.out))
  clear F101 F102 F103 F104 F105 F106 F107 F108
  have F108' : Hid (Blk w110 g109 Rg.none.cells) := Lib.hid hD
  clear hD hO 
  refine takeL (.int .i64 11) rfl (by go_simp) ?_
  try simp only [Act.put, List.setIfInBounds_toArray, List.set_cons_succ, List.set_cons_zero]
  refine wpList_nil ?_
  go_upto_region 7 with fail
  refine wp_region_lit ?_
  refine takeL (.int .i64 0) rfl (by go_simp) ?_
  try simp only [Act.put, List.setIfInBounds_toArray, List.set_cons_succ, List.set_cons_zero]
  refine takeL (.bool false) rfl (by go_simp) ?_
  try simp only [Act.put, List.setIfInBounds_toArray, List.set_cons_succ, List.set_cons_zero]
  refine takeL (.bool false) rfl (by go_simp) ?_
  try simp only [Act.put, List.setIfInBounds_toArray, List.set_cons_succ, List.set_cons_zero]
  refine load27 (cs := r.cells.toArray) (Blk.all F117.out rfl) (by rw [List.size_toArray]; exact HWR.out.cells) rfl rfl ?_
  try simp only [Act.put, List.setIfInBounds_toArray, List.set_cons_succ, List.set_cons_zero]
  refine load27 (cs := r.cells.toArray) (Blk.all F113.out rfl) (by rw [List.size_toArray]; exact HWR.out.cells) rfl rfl ?_
  try simp only [Act.put, List.setIfInBounds_toArray, List.set_cons_succ, List.set_cons_zero]
  refine takeL (.bool false) rfl (by exact run_neq_reg HWR.out.len _ _ _ rfl rfl rfl) ?_
  try simp only [Act.put, List.setIfInBounds_toArray, List.set_cons_succ, List.set_cons_zero]
  refine takeL (.bool false) rfl (by go_simp) ?_
  try simp only [Act.put, List.setIfInBounds_toArray, List.set_cons_succ, List.set_cons_zero]
  refine takeL (.bool false) rfl (by go_simp) ?_
  try simp only [Act.put, List.setIfInBounds_toArray, List.set_cons_succ, List.set_cons_zero]
  refine takeL (.int .i64 11) rfl (by go_simp) ?_
  try simp only [Act.put, List.setIfInBounds_toArray, List.set_cons_succ, List.set_cons_zero]
  refine takeL (.bool false) rfl (by go_simp) ?_
  try simp only [Act.put, List.setIfInBounds_toArray, List.set_cons_succ, List.set_cons_zero]
  refine takeL (.bool false) rfl (by go_simp) ?_
  try simp only [Act.put, List.setIfInBounds_toArray, List.set_cons_succ, List.set_cons_zero]
  refine wpList_nil ?_
  go_upto_region 9 with fail
  refine wp_region_lit ?_
  refine takeL (.int .i64 0) rfl (by go_simp) ?_
  try simp only [Act.put, List.setIfInBounds_toArray, List.set_cons_succ, List.set_cons_zero]
  refine takeL (.bool false) rfl (by go_simp) ?_
  try simp only [Act.put, List.setIfInBounds_toArray, List.set_cons_succ, List.set_cons_zero]
  refine takeL (.bool false) rfl (by go_simp) ?_
  try simp only [Act.put, List.setIfInBounds_toArray, List.set_cons_succ, List.set_cons_zero]
  refine takeL (.pointer (some ⟨g13, 0, none⟩)) rfl (by go_simp) ?_
  try simp only [Act.put, List.setIfInBounds_toArray, List.set_cons_succ, List.set_cons_zero]
  refine takeL (.int .u32 q.gen) rfl (by have hq := F114.out.cell (i := 0) (v := .int .u32 q.gen) rfl; go_simp) ?_
  try simp only [Act.put, List.setIfInBounds_toArray, List.set_cons_succ, List.set_cons_zero]
  refine takeL (.pointer (some ⟨w.heap.size, 0, none⟩)) rfl (by go_simp) ?_
  try simp only [Act.put, List.setIfInBounds_toArray, List.set_cons_succ, List.set_cons_zero]
  refine takeL (.int .u32 r.gen) rfl (by have hq := F113.out.cell (i := 0) (v := .int .u32 r.gen) rfl; go_simp) ?_
  try simp only [Act.put, List.setIfInBounds_toArray, List.set_cons_succ, List.set_cons_zero]
  refine takeL (.bool false) rfl (by have hq : (q.gen == r.gen) = false := beq_eq_false_iff_ne.2 HGE.out; go_simp) ?_
  try simp only [Act.put, List.setIfInBounds_toArray, List.set_cons_succ, List.set_cons_zero]
  refine takeL (.bool false) rfl (by go_simp) ?_
  try simp only [Act.put, List.setIfInBounds_toArray, List.set_cons_succ, List.set_cons_zero]
  refine wpList_nil ?_
  go_upto_region 11 with fail
  refine wp_region_lit ?_
  refine takeL (.pointer (some ⟨g28, 0, none⟩)) rfl (by go_simp) ?_
  try simp only [Act.put, List.setIfInBounds_toArray, List.set_cons_succ, List.set_cons_zero]
  refine load29 (cs := (u8s r.s0).toArray) (enc_at0 F115.out HWR.out.len) (by rw [u8s_size, Hr0.out]) rfl rfl ?_
  try simp only [Act.put, List.setIfInBounds_toArray, List.set_cons_succ, List.set_cons_zero]
  refine takeL (.pointer (some ⟨g51, 64, none⟩)) rfl (by go_simp) ?_
  try simp only [Act.put, List.setIfInBounds_toArray, List.set_cons_succ, List.set_cons_zero]
  refine load29 (cs := (u8s q.s1).toArray) (enc_at1 F116.out HWQ.out.len) (by rw [u8s_size, Hq1.out]) rfl rfl ?_
  try simp only [Act.put, List.setIfInBounds_toArray, List.set_cons_succ, List.set_cons_zero]
  refine takeL (.agg (u8s y1).toArray) rfl (exec_build _ _ _ _ 30 _ rfl #[(0, .agg (u8s r.s0).toArray), (1, .agg (u8s q.s1).toArray)] (by simp only [List.map_toArray, List.map_cons, List.map_nil]; rfl) _ (build_pair HY1.out Hr0.out Hq1.out _)) ?_
  try simp only [Act.put, List.setIfInBounds_toArray, List.set_cons_succ, List.set_cons_zero]
  refine wpList_op rfl fun K hK => ?_
  go_simp
  refine (decode_no HC1.out HN1.out _ F112.out).mono ?_
  rintro e w118 ⟨rfl, hb⟩
  have F119 := Lib.hid (F111.out.trans (hb.mono F111.out.size))
  have F120 := Lib.hid (F112.out.below (Nat.le_refl _) hb)
  have F121 := Lib.hid (F113.out.below hb F113.out.lt)
  have F122 := Lib.hid (F114.out.below hb F114.out.lt)
  have F123 := Lib.hid (F115.out.below hb F115.out.lt)
  have F124 := Lib.hid (F116.out.below hb F116.out.lt)
  have F125 := Lib.hid (F117.out.below hb F117.out.lt)
  have F126 := Lib.hid (F108'.out.below hb F108'.out.lt)
  clear F111 F112 F113 F114 F115 F116 F117 F108'
  clear hb
  refine hK _ _ ?_
  clear hK K
  try simp only [Act.put, List.setIfInBounds_toArray, List.set_cons_succ, List.set_cons_zero]
  refine takeL (.tuple #[.agg Rg.none.cells.toArray, .int .i64 11]) rfl (by go_simp) ?_
  try simp only [Act.put, List.setIfInBounds_toArray, List.set_cons_succ, List.set_cons_zero]
  refine takeL (.agg Rg.none.cells.toArray) rfl (by go_simp) ?_
  try simp only [Act.put, List.setIfInBounds_toArray, List.set_cons_succ, List.set_cons_zero]
  refine takeL (.int .i64 11) rfl (by go_simp) ?_
  try simp only [Act.put, List.setIfInBounds_toArray, List.set_cons_succ, List.set_cons_zero]
  refine alloc_g zero27 rfl ?_
  intro w127 hA hb hl
  try simp only [Act.put, List.setIfInBounds_toArray, List.set_cons_succ, List.set_cons_zero]
  clear hl
  have HN128 := Lib.hid (Nat.ne_of_lt F121.out.lt)
  have HN129 := Lib.hid (Nat.ne_of_lt F122.out.lt)
  have HN130 := Lib.hid (Nat.ne_of_lt F123.out.lt)
  have HN131 := Lib.hid (Nat.ne_of_lt F124.out.lt)
  have HN132 := Lib.hid (Nat.ne_of_lt F125.out.lt)
  have HN133 := Lib.hid (Nat.ne_of_lt F126.out.lt)
  have HG134 : Hid (w.heap.size ≤ w118.heap.size) := Lib.hid F119.out.size
  have F135 := Lib.hid (F119.out.trans (hb.mono F119.out.size))
  have F136 := Lib.hid (F120.out.below (Nat.le_refl _) hb)
  have F137 := Lib.hid (F121.out.below hb F121.out.lt)
  have F138 := Lib.hid (F122.out.below hb F122.out.lt)
  have F139 := Lib.hid (F123.out.below hb F123.out.lt)
  have F140 := Lib.hid (F124.out.below hb F124.out.lt)
  have F141 := Lib.hid (F125.out.below hb F125.out.lt)
  have F142 := Lib.hid (F126.out.below hb F126.out.lt)
  clear F119 F120 F121 F122 F123 F124 F125 F126
  have F143 : Hid (Blk w127 w118.heap.size Rg.none.cells) := Lib.hid hA
  clear hA hb
  generalize w118.heap.size = g144 at *
  clear w118
  refine store_all (cs := Rg.none.cells.toArray) F143.out (by simp only [u8s_size, List.size_toArray, List.length_map, HWN.out.cells, HWN.out.cells]) (by rw [List.size_toArray, HWN.out.cells]; exact info27) (fun v hv => Rg.cell_one _ v (by simpa using hv)) rfl rfl rfl ?_
  intro w145 hD hO hlD
  try simp only [Act.put, List.setIfInBounds_toArray, List.set_cons_succ, List.set_cons_zero]
  clear hlD
  have F146 := Lib.hid (F135.out.trans (hO.below F135.out.size (fun k hk => by rw [hk]; exact HG134.out)))
  have F147 := Lib.hid (F136.out.keep hO HG134.out HE0.out)
  have F148 := Lib.hid (F137.out.only hO (HN128.out))
  have F149 := Lib.hid (F138.out.only hO (HN129.out))
  have F150 := Lib.hid (F139.out.only hO (HN130.out))
  have F151 := Lib.hid (F140.out.only hO (HN131.out))
  have F152 := Lib.hid (F141.out.only hO (HN132.out))
  have F153 := Lib.hid (F142.out.only hO (HN133.out))
  clear F135 F136 F137 F138 F139 F140 F141 F142 F143
  have F143' : Hid (Blk w145 g144 Rg.none.cells) := Lib.hid hD
  clear hD hO 
  refine takeL (.int .i64 11) rfl (by go_simp) ?_
  try simp only [Act.put, List.setIfInBounds_toArray, List.set_cons_succ, List.set_cons_zero]
  refine wpList_nil ?_
  go_upto_region 12 with fail
  refine wp_region_lit ?_
  refine takeL (.pointer (some ⟨g51, 0, none⟩)) rfl (by go_simp) ?_
  try simp only [Act.put, List.setIfInBounds_toArray, List.set_cons_succ, List.set_cons_zero]
  refine load29 (cs := (u8s q.s0).toArray) (enc_at0 F151.out HWQ.out.len) (by rw [u8s_size, Hq0.out]) rfl rfl ?_
  try simp only [Act.put, List.setIfInBounds_toArray, List.set_cons_succ, List.set_cons_zero]
  refine takeL (.pointer (some ⟨g28, 64, none⟩)) rfl (by go_simp) ?_
  try simp only [Act.put, List.setIfInBounds_toArray, List.set_cons_succ, List.set_cons_zero]
  refine load29 (cs := (u8s r.s1).toArray) (enc_at1 F150.out HWR.out.len) (by rw [u8s_size, Hr1.out]) rfl rfl ?_
  try simp only [Act.put, List.setIfInBounds_toArray, List.set_cons_succ, List.set_cons_zero]
  refine takeL (.agg (u8s y2).toArray) rfl (exec_build _ _ _ _ 30 _ rfl #[(0, .agg (u8s q.s0).toArray), (1, .agg (u8s r.s1).toArray)] (by simp only [List.map_toArray, List.map_cons, List.map_nil]; rfl) _ (build_pair HY2.out Hq0.out Hr1.out _)) ?_
  try simp only [Act.put, List.setIfInBounds_toArray, List.set_cons_succ, List.set_cons_zero]
  refine wpList_op rfl fun K hK => ?_
  go_simp
  refine (decode_no HC2.out HN2.out _ F147.out).mono ?_
  rintro e w154 ⟨rfl, hb⟩
  have F155 := Lib.hid (F146.out.trans (hb.mono F146.out.size))
  have F156 := Lib.hid (F147.out.below (Nat.le_refl _) hb)
  have F157 := Lib.hid (F148.out.below hb F148.out.lt)
  have F158 := Lib.hid (F149.out.below hb F149.out.lt)
  have F159 := Lib.hid (F150.out.below hb F150.out.lt)
  have F160 := Lib.hid (F151.out.below hb F151.out.lt)
  have F161 := Lib.hid (F152.out.below hb F152.out.lt)
  have F162 := Lib.hid (F153.out.below hb F153.out.lt)
  have F163 := Lib.hid (F143'.out.below hb F143'.out.lt)
  clear F146 F147 F148 F149 F150 F151 F152 F153 F143'
  clear hb
  refine hK _ _ ?_
  clear hK K
  try simp only [Act.put, List.setIfInBounds_toArray, List.set_cons_succ, List.set_cons_zero]
  refine takeL (.tuple #[.agg Rg.none.cells.toArray, .int .i64 11]) rfl (by go_simp) ?_
  try simp only [Act.put, List.setIfInBounds_toArray, List.set_cons_succ, List.set_cons_zero]
  refine takeL (.agg Rg.none.cells.toArray) rfl (by go_simp) ?_
  try simp only [Act.put, List.setIfInBounds_toArray, List.set_cons_succ, List.set_cons_zero]
  refine takeL (.int .i64 11) rfl (by go_simp) ?_
  try simp only [Act.put, List.setIfInBounds_toArray, List.set_cons_succ, List.set_cons_zero]
  refine alloc_g zero27 rfl ?_
  intro w164 hA hb hl
  try simp only [Act.put, List.setIfInBounds_toArray, List.set_cons_succ, List.set_cons_zero]
  clear hl
  have HN165 := Lib.hid (Nat.ne_of_lt F157.out.lt)
  have HN166 := Lib.hid (Nat.ne_of_lt F158.out.lt)
  have HN167 := Lib.hid (Nat.ne_of_lt F159.out.lt)
  have HN168 := Lib.hid (Nat.ne_of_lt F160.out.lt)
  have HN169 := Lib.hid (Nat.ne_of_lt F161.out.lt)
  have HN170 := Lib.hid (Nat.ne_of_lt F162.out.lt)
  have HN171 := Lib.hid (Nat.ne_of_lt F163.out.lt)
  have HG172 : Hid (w.heap.size ≤ w154.heap.size) := Lib.hid F155.out.size
  have F173 := Lib.hid (F155.out.trans (hb.mono F155.out.size))
  have F174 := Lib.hid (F156.out.below (Nat.le_refl _) hb)
  have F175 := Lib.hid (F157.out.below hb F157.out.lt)
  have F176 := Lib.hid (F158.out.below hb F158.out.lt)
  have F177 := Lib.hid (F159.out.below hb F159.out.lt)
  have F178 := Lib.hid (F160.out.below hb F160.out.lt)
  have F179 := Lib.hid (F161.out.below hb F161.out.lt)
  have F180 := Lib.hid (F162.out.below hb F162.out.lt)
  have F181 := Lib.hid (F163.out.below hb F163.out.lt)
  clear F155 F156 F157 F158 F159 F160 F161 F162 F163
  have F182 : Hid (Blk w164 w154.heap.size Rg.none.cells) := Lib.hid hA
  clear hA hb
  generalize w154.heap.size = g183 at *
  clear w154
  refine store_all (cs := Rg.none.cells.toArray) F182.out (by simp only [u8s_size, List.size_toArray, List.length_map, HWN.out.cells, HWN.out.cells]) (by rw [List.size_toArray, HWN.out.cells]; exact info27) (fun v hv => Rg.cell_one _ v (by simpa using hv)) rfl rfl rfl ?_
  intro w184 hD hO hlD
  try simp only [Act.put, List.setIfInBounds_toArray, List.set_cons_succ, List.set_cons_zero]
  clear hlD
  have F185 := Lib.hid (F173.out.trans (hO.below F173.out.size (fun k hk => by rw [hk]; exact HG172.out)))
  have F186 := Lib.hid (F174.out.keep hO HG172.out HE0.out)
  have F187 := Lib.hid (F175.out.only hO (HN165.out))
  have F188 := Lib.hid (F176.out.only hO (HN166.out))
  have F189 := Lib.hid (F177.out.only hO (HN167.out))
  have F190 := Lib.hid (F178.out.only hO (HN168.out))
  have F191 := Lib.hid (F179.out.only hO (HN169.out))
  have F192 := Lib.hid (F180.out.only hO (HN170.out))
  have F193 := Lib.hid (F181.out.only hO (HN171.out))
  clear F173 F174 F175 F176 F177 F178 F179 F180 F181 F182
  have F182' : Hid (Blk w184 g183 Rg.none.cells) := Lib.hid hD
  clear hD hO 
  refine takeL (.int .i64 11) rfl (by go_simp) ?_
  try simp only [Act.put, List.setIfInBounds_toArray, List.set_cons_succ, List.set_cons_zero]
  refine wpList_nil ?_
  go_upto_region 13 with fail
  refine wp_region_lit ?_
  refine takeL (.int .i64 11) rfl (by go_simp) ?_
  try simp only [Act.put, List.setIfInBounds_toArray, List.set_cons_succ, List.set_cons_zero]
  refine takeL (.bool true) rfl (by go_simp) ?_
  try simp only [Act.put, List.setIfInBounds_toArray, List.set_cons_succ, List.set_cons_zero]
  refine takeL (.bool true) rfl (by go_simp) ?_
  try simp only [Act.put, List.setIfInBounds_toArray, List.set_cons_succ, List.set_cons_zero]
  refine takeL (.int .i64 11) rfl (by go_simp) ?_
  try simp only [Act.put, List.setIfInBounds_toArray, List.set_cons_succ, List.set_cons_zero]
  refine takeL (.bool true) rfl (by go_simp) ?_
  try simp only [Act.put, List.setIfInBounds_toArray, List.set_cons_succ, List.set_cons_zero]
  refine takeL (.bool true) rfl (by go_simp) ?_
  try simp only [Act.put, List.setIfInBounds_toArray, List.set_cons_succ, List.set_cons_zero]
  refine takeL (.bool true) rfl (by go_simp) ?_
  try simp only [Act.put, List.setIfInBounds_toArray, List.set_cons_succ, List.set_cons_zero]
  refine wpList_op rfl fun K hK => ?_
  go_simp
  refine (wakes_any _ F186.out).mono ?_
  rintro e w194 ⟨rfl, hb⟩
  have F195 := Lib.hid (F185.out.trans (hb.mono F185.out.size))
  have F196 := Lib.hid (F186.out.below (Nat.le_refl _) hb)
  have F197 := Lib.hid (F187.out.below hb F187.out.lt)
  have F198 := Lib.hid (F188.out.below hb F188.out.lt)
  have F199 := Lib.hid (F189.out.below hb F189.out.lt)
  have F200 := Lib.hid (F190.out.below hb F190.out.lt)
  have F201 := Lib.hid (F191.out.below hb F191.out.lt)
  have F202 := Lib.hid (F192.out.below hb F192.out.lt)
  have F203 := Lib.hid (F193.out.below hb F193.out.lt)
  have F204 := Lib.hid (F182'.out.below hb F182'.out.lt)
  clear F185 F186 F187 F188 F189 F190 F191 F192 F193 F182'
  clear hb
  refine hK _ _ ?_
  clear hK K
  try simp only [Act.put, List.setIfInBounds_toArray, List.set_cons_succ, List.set_cons_zero]
  refine takeL (.bool true) rfl (by go_simp) ?_
  try simp only [Act.put, List.setIfInBounds_toArray, List.set_cons_succ, List.set_cons_zero]
  refine takeL (.bool true) rfl (by go_simp) ?_
  try simp only [Act.put, List.setIfInBounds_toArray, List.set_cons_succ, List.set_cons_zero]
  refine wpList_nil ?_
  go_wp2_with fail
  go_ret
  exact ⟨rfl, F195.out⟩
theorem torn_any (r q : Rg) (hr : r.Wf) (hq : q.Wf) (w : World) (hev : ErrVar w) : Calls Tryd.prog 4 #[.agg r.cells.toArray, .agg q.cells.toArray] w fun e w' => e = .returned (.bool true) ∧ Below w.heap.size w w' := by
  cases gr : r.good with
  | false => exact torn_none r q hr hq gr w hev
  | true =>
    cases gq : q.good with
    | false => exact torn_one r q hr hq gr gq w hev
    | true =>
      by_cases he : q.gen = r.gen
      · exact torn_same r q hr hq gr gq he w hev
      · exact torn_two r q hr hq gr gq he w hev
end Go.Proofs.YtlleafhfogfngaaDoor
