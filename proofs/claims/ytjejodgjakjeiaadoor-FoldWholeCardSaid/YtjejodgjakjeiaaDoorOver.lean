/- What a block makes of the page that was: package fold's over. -/
import Derived.Test.YtjejodgjakjeiaaDoorNoch
namespace Go.Proofs.YtjejodgjakjeiaaDoor
set_option linter.unusedSimpArgs false
set_option linter.unusedVariables false
open Go.RowKit

theorem Blk.page {w : World} {g : Nat} {b : Bk} {sv : Value} (h : Blk w g (b.cells sv)) (hw : b.Wf) : At w g 2 (u8s b.page).toArray := (BAt.mk h hw).page
set_option maxRecDepth 100000 in
set_option maxHeartbeats 1000000 in
theorem over_image (p : List Int) (hp : p.length = 32) (b : Bk) (bv : Value) (hw : b.Wf) (hk : b.kind = 1) (w : World) (hby : BytesAt w bv b.bytes) (hev : ErrVar w) : Calls Tryd.prog 23 #[.agg (u8s p).toArray, .agg (b.arr bv)] w fun e w' => e = .returned (.tuple #[.agg (u8s (b.over p)).toArray, .nilIface]) ∧ Below w.heap.size w w' := by
  have HZ32 := Lib.hid (zeros_length 32)
  have HP := Lib.hid hp
  have HW := Lib.hid hw
  have HLN := Lib.hid hby.len
  have HBY := Lib.hid hby
  have HEV := Lib.hid hev
  have HBL : Hid (Below w.heap.size w w) := Lib.hid (Below.refl _ _)
  have HPG := Lib.hid hw.page
  have ho : b.over p = b.page := by unfold Bk.over; rw [if_pos hk]
  rw [ho]
  have g1 : (b.kind == 1) = true := by simp [hk]
  clear ho hk
  clear hp hw hby hev
  go_enter Tryd.func23, Tryd.ntmps23
  go_upto_region 0 with fail
  refine wp_region_lit ?_
  refine box_g (cs := (u8s p).toArray) rfl rfl ?_
  intro w1 hA hb hl
  try simp only [Act.put, List.setIfInBounds_toArray, List.set_cons_succ, List.set_cons_zero]
  clear hl
  have HG2 : Hid (w.heap.size ≤ w.heap.size) := Lib.hid HBL.out.size
  have F3 := Lib.hid (HBL.out.trans (hb.mono HBL.out.size))
  clear HBL
  have F4 : Hid (Blk w1 w.heap.size (u8s p)) := Lib.hid hA
  clear hA hb
  refine box_g (cs := (b.arr bv)) rfl rfl ?_
  intro w5 hA hb hl
  try simp only [Act.put, List.setIfInBounds_toArray, List.set_cons_succ, List.set_cons_zero]
  clear hl
  have HN6 := Lib.hid (Nat.ne_of_lt F4.out.lt)
  have HG7 : Hid (w.heap.size ≤ w1.heap.size) := Lib.hid F3.out.size
  have F8 := Lib.hid (F3.out.trans (hb.mono F3.out.size))
  have F9 := Lib.hid (F4.out.below hb F4.out.lt)
  clear F3 F4
  have F10 : Hid (Blk w5 w1.heap.size (b.cells bv)) := Lib.hid hA
  clear hA hb
  generalize w1.heap.size = g11 at *
  clear w1
  refine alloc_g zero26 rfl ?_
  intro w12 hA hb hl
  try simp only [Act.put, List.setIfInBounds_toArray, List.set_cons_succ, List.set_cons_zero]
  clear hl
  have HN13 := Lib.hid (Nat.ne_of_lt F9.out.lt)
  have HN14 := Lib.hid (Nat.ne_of_lt F10.out.lt)
  have HG15 : Hid (w.heap.size ≤ w5.heap.size) := Lib.hid F8.out.size
  have F16 := Lib.hid (F8.out.trans (hb.mono F8.out.size))
  have F17 := Lib.hid (F9.out.below hb F9.out.lt)
  have F18 := Lib.hid (F10.out.below hb F10.out.lt)
  clear F8 F9 F10
  have F19 : Hid (Blk w12 w5.heap.size (u8s (zeros 32))) := Lib.hid hA
  clear hA hb
  generalize w5.heap.size = g20 at *
  clear w5
  refine takeL (Value.nilIface) rfl (by go_simp) ?_
  try simp only [Act.put, List.setIfInBounds_toArray, List.set_cons_succ, List.set_cons_zero]
  refine wpList_nil ?_
  go_upto_region 1 with fail
  refine wp_region_lit ?_
  refine takeL (.pointer (some ⟨g11, 0, none⟩)) rfl (by go_simp) ?_
  try simp only [Act.put, List.setIfInBounds_toArray, List.set_cons_succ, List.set_cons_zero]
  refine takeL (.int .i64 b.kind) rfl (by have hq := F18.out.cell (i := 0) (v := .int .i64 b.kind) (b.at0 _); go_simp) ?_
  try simp only [Act.put, List.setIfInBounds_toArray, List.set_cons_succ, List.set_cons_zero]
  refine takeL (.bool true) rfl (by go_simp) ?_
  try simp only [Act.put, List.setIfInBounds_toArray, List.set_cons_succ, List.set_cons_zero]
  refine wpList_nil ?_
  go_upto_region 2 with fail
  refine wp_region_lit ?_
  refine takeL (.pointer (some ⟨g11, 2, none⟩)) rfl (by go_simp) ?_
  try simp only [Act.put, List.setIfInBounds_toArray, List.set_cons_succ, List.set_cons_zero]
  refine load26 (cs := (u8s b.page).toArray) (Blk.page F18.out HW.out) (by rw [u8s_size, HW.out.page]) rfl rfl ?_
  try simp only [Act.put, List.setIfInBounds_toArray, List.set_cons_succ, List.set_cons_zero]
  refine store_all (cs := (u8s b.page).toArray) F19.out (by simp only [u8s_size, List.size_toArray, List.length_append, List.length_singleton, List.length_map, HPG.out, HZ32.out]) (by rw [u8s_size, HPG.out]; exact info26) (u8s_one _) rfl rfl rfl ?_
  intro w21 hD hO hlD
  try simp only [Act.put, List.setIfInBounds_toArray, List.set_cons_succ, List.set_cons_zero]
  clear hlD
  have F22 := Lib.hid (F16.out.trans (hO.below F16.out.size (fun k hk => by rw [hk]; exact HG15.out)))
  have F23 := Lib.hid (F17.out.only hO (HN13.out))
  have F24 := Lib.hid (F18.out.only hO (HN14.out))
  clear F16 F17 F18 F19
  have F19' : Hid (Blk w21 g20 (u8s b.page)) := Lib.hid hD
  clear hD hO
  refine takeL (Value.nilIface) rfl (by go_simp) ?_
  try simp only [Act.put, List.setIfInBounds_toArray, List.set_cons_succ, List.set_cons_zero]
  refine wpList_nil ?_
  go_wp2_with fail
  exact bodyPost_ret (v := .tuple #[.agg (u8s b.page).toArray, .nilIface]) (results_cell_tmp rfl _ _ g20 0 _ _ _ rfl rfl Tryd.underlying26 rfl (by rw [u8s_size, HPG.out]; exact info26) (Blk.all F19'.out rfl)) rfl ⟨rfl, F22.out⟩
set_option maxRecDepth 100000 in
set_option maxHeartbeats 1000000 in
theorem over_delta (p : List Int) (hp : p.length = 32) (b : Bk) (bv : Value) (hw : b.Wf) (hk : ¬ b.kind = 1) (hf : Fits b.off b.bytes) (w : World) (hby : BytesAt w bv b.bytes) (hev : ErrVar w) : Calls Tryd.prog 23 #[.agg (u8s p).toArray, .agg (b.arr bv)] w fun e w' => e = .returned (.tuple #[.agg (u8s (b.over p)).toArray, .nilIface]) ∧ Below w.heap.size w w' := by
  have HZ32 := Lib.hid (zeros_length 32)
  have HP := Lib.hid hp
  have HW := Lib.hid hw
  have HLN := Lib.hid hby.len
  have HBY := Lib.hid hby
  have HEV := Lib.hid hev
  have HBL : Hid (Below w.heap.size w w) := Lib.hid (Below.refl _ _)
  have HPG := Lib.hid hw.page
  have ho : b.over p = layI p b.off.toNat b.bytes := by unfold Bk.over; rw [if_neg hk]
  obtain ⟨q, hq⟩ : ∃ q, layI p b.off.toNat b.bytes = q := ⟨_, rfl⟩
  rw [ho, hq]
  have g1 : (b.kind == 1) = false := by simp [hk]
  obtain ⟨o, ho2⟩ : ∃ o : Nat, b.off = (o : Int) := ⟨b.off.toNat, by have := hf.1; omega⟩
  rw [ho2, Int.toNat_natCast] at hq
  rw [ho2] at hf
  have HF := Lib.hid hf
  have HO := Lib.hid ho2
  have HQ := Lib.hid hq
  have HQL : Hid (q.length = 32) := Lib.hid (by rw [← hq]; exact lay_size hp o hf)
  have HBN : Hid (b.bytes.length ≤ 1000) := Lib.hid (by have := hf.2.2; omega)
  clear ho hk ho2 hq hf
  clear hp hw hby hev
  go_enter Tryd.func23, Tryd.ntmps23
  go_upto_region 0 with fail
  refine wp_region_lit ?_
  refine box_g (cs := (u8s p).toArray) rfl rfl ?_
  intro w1 hA hb hl
  try simp only [Act.put, List.setIfInBounds_toArray, List.set_cons_succ, List.set_cons_zero]
  clear hl
  have HG2 : Hid (w.heap.size ≤ w.heap.size) := Lib.hid HBL.out.size
  have F3 := Lib.hid (HBL.out.trans (hb.mono HBL.out.size))
  clear HBL
  have F4 : Hid (Blk w1 w.heap.size (u8s p)) := Lib.hid hA
  clear hA hb
  refine box_g (cs := (b.arr bv)) rfl rfl ?_
  intro w5 hA hb hl
  try simp only [Act.put, List.setIfInBounds_toArray, List.set_cons_succ, List.set_cons_zero]
  clear hl
  have HN6 := Lib.hid (Nat.ne_of_lt F4.out.lt)
  have HG7 : Hid (w.heap.size ≤ w1.heap.size) := Lib.hid F3.out.size
  have F8 := Lib.hid (F3.out.trans (hb.mono F3.out.size))
  have F9 := Lib.hid (F4.out.below hb F4.out.lt)
  clear F3 F4
  have F10 : Hid (Blk w5 w1.heap.size (b.cells bv)) := Lib.hid hA
  clear hA hb
  generalize w1.heap.size = g11 at *
  clear w1
  refine alloc_g zero26 rfl ?_
  intro w12 hA hb hl
  try simp only [Act.put, List.setIfInBounds_toArray, List.set_cons_succ, List.set_cons_zero]
  clear hl
  have HN13 := Lib.hid (Nat.ne_of_lt F9.out.lt)
  have HN14 := Lib.hid (Nat.ne_of_lt F10.out.lt)
  have HG15 : Hid (w.heap.size ≤ w5.heap.size) := Lib.hid F8.out.size
  have F16 := Lib.hid (F8.out.trans (hb.mono F8.out.size))
  have F17 := Lib.hid (F9.out.below hb F9.out.lt)
  have F18 := Lib.hid (F10.out.below hb F10.out.lt)
  clear F8 F9 F10
  have F19 : Hid (Blk w12 w5.heap.size (u8s (zeros 32))) := Lib.hid hA
  clear hA hb
  generalize w5.heap.size = g20 at *
  clear w5
  refine takeL (Value.nilIface) rfl (by go_simp) ?_
  try simp only [Act.put, List.setIfInBounds_toArray, List.set_cons_succ, List.set_cons_zero]
  refine wpList_nil ?_
  go_upto_region 1 with fail
  refine wp_region_lit ?_
  refine takeL (.pointer (some ⟨g11, 0, none⟩)) rfl (by go_simp) ?_
  try simp only [Act.put, List.setIfInBounds_toArray, List.set_cons_succ, List.set_cons_zero]
  refine takeL (.int .i64 b.kind) rfl (by have hq := F18.out.cell (i := 0) (v := .int .i64 b.kind) (b.at0 _); go_simp) ?_
  try simp only [Act.put, List.setIfInBounds_toArray, List.set_cons_succ, List.set_cons_zero]
  refine takeL (.bool false) rfl (by go_simp) ?_
  try simp only [Act.put, List.setIfInBounds_toArray, List.set_cons_succ, List.set_cons_zero]
  refine wpList_nil ?_
  go_upto_region 3 with fail
  refine wp_region_lit ?_
  refine load26 (cs := (u8s p).toArray) (Blk.all F17.out rfl) (by rw [u8s_size, HP.out]) rfl rfl ?_
  try simp only [Act.put, List.setIfInBounds_toArray, List.set_cons_succ, List.set_cons_zero]
  refine takeL (.pointer (some ⟨g11, 34, none⟩)) rfl (by go_simp) ?_
  try simp only [Act.put, List.setIfInBounds_toArray, List.set_cons_succ, List.set_cons_zero]
  refine takeL (.int .i64 b.off) rfl (by have hq := F18.out.cell (i := 34) (v := .int .i64 b.off) (b.at34 HW.out _); go_simp) ?_
  try simp only [Act.put, List.setIfInBounds_toArray, List.set_cons_succ, List.set_cons_zero]
  refine takeL (.pointer (some ⟨g11, 35, none⟩)) rfl (by go_simp) ?_
  try simp only [Act.put, List.setIfInBounds_toArray, List.set_cons_succ, List.set_cons_zero]
  refine takeL (bv) rfl (by have hq := F18.out.cell (i := 35) (v := bv) (b.at35 HW.out _); go_simp) ?_
  try simp only [Act.put, List.setIfInBounds_toArray, List.set_cons_succ, List.set_cons_zero]
  have hq11 := apply_yes p b.bytes HP.out o bv HBN.out HF.out _ (HBY.out.below F16.out) (HEV.out.below (Nat.le_refl _) F16.out)
  rw [HQ.out, ← HO.out] at hq11
  refine wpList_op rfl fun K hK => ?_
  go_simp
  refine hq11.mono ?_
  clear hq11
  rintro e w21 ⟨rfl, hb⟩
  have F22 := Lib.hid (F16.out.trans (hb.mono F16.out.size))
  have F23 := Lib.hid (F17.out.below hb F17.out.lt)
  have F24 := Lib.hid (F18.out.below hb F18.out.lt)
  have F25 := Lib.hid (F19.out.below hb F19.out.lt)
  clear F16 F17 F18 F19
  clear hb
  refine hK _ _ ?_
  clear hK K
  try simp only [Act.put, List.setIfInBounds_toArray, List.set_cons_succ, List.set_cons_zero]
  refine takeL (.tuple #[.agg (u8s q).toArray, .int .i64 0]) rfl (by go_simp) ?_
  try simp only [Act.put, List.setIfInBounds_toArray, List.set_cons_succ, List.set_cons_zero]
  refine takeL (.agg (u8s q).toArray) rfl (by go_simp) ?_
  try simp only [Act.put, List.setIfInBounds_toArray, List.set_cons_succ, List.set_cons_zero]
  refine takeL (.int .i64 0) rfl (by go_simp) ?_
  try simp only [Act.put, List.setIfInBounds_toArray, List.set_cons_succ, List.set_cons_zero]
  refine store_all (cs := (u8s q).toArray) F23.out (by simp only [u8s_size, List.size_toArray, List.length_append, List.length_singleton, List.length_map, HP.out, HQL.out]) (by rw [u8s_size, HQL.out]; exact info26) (u8s_one _) rfl rfl rfl ?_
  intro w26 hD hO hlD
  try simp only [Act.put, List.setIfInBounds_toArray, List.set_cons_succ, List.set_cons_zero]
  clear hlD
  have F27 := Lib.hid (F22.out.trans (hO.below F22.out.size (fun k hk => by rw [hk]; exact HG2.out)))
  have F28 := Lib.hid (F24.out.only hO (HN6.out.symm))
  have F29 := Lib.hid (F25.out.only hO (HN13.out.symm))
  clear F22 F24 F25 F23
  have F4' : Hid (Blk w26 w.heap.size (u8s q)) := Lib.hid hD
  clear hD hO
  refine takeL (.int .i64 0) rfl (by go_simp) ?_
  try simp only [Act.put, List.setIfInBounds_toArray, List.set_cons_succ, List.set_cons_zero]
  refine wpList_nil ?_
  go_upto_region 4 with fail
  refine wp_region_lit ?_
  refine takeL (.int .i64 0) rfl (by go_simp) ?_
  try simp only [Act.put, List.setIfInBounds_toArray, List.set_cons_succ, List.set_cons_zero]
  refine takeL (.bool false) rfl (by go_simp) ?_
  try simp only [Act.put, List.setIfInBounds_toArray, List.set_cons_succ, List.set_cons_zero]
  refine wpList_nil ?_
  go_upto_region 6 with fail
  refine wp_region_lit ?_
  refine load26 (cs := (u8s q).toArray) (Blk.all F4'.out rfl) (by rw [u8s_size, HQL.out]) rfl rfl ?_
  try simp only [Act.put, List.setIfInBounds_toArray, List.set_cons_succ, List.set_cons_zero]
  refine store_all (cs := (u8s q).toArray) F29.out (by simp only [u8s_size, List.size_toArray, List.length_append, List.length_singleton, List.length_map, HQL.out, HZ32.out]) (by rw [u8s_size, HQL.out]; exact info26) (u8s_one _) rfl rfl rfl ?_
  intro w30 hD hO hlD
  try simp only [Act.put, List.setIfInBounds_toArray, List.set_cons_succ, List.set_cons_zero]
  clear hlD
  have F31 := Lib.hid (F27.out.trans (hO.below F27.out.size (fun k hk => by rw [hk]; exact HG15.out)))
  have F32 := Lib.hid (F28.out.only hO (HN14.out))
  have F33 := Lib.hid (F4'.out.only hO (HN13.out))
  clear F27 F28 F4' F29
  have F19' : Hid (Blk w30 g20 (u8s q)) := Lib.hid hD
  clear hD hO
  refine takeL (Value.nilIface) rfl (by go_simp) ?_
  try simp only [Act.put, List.setIfInBounds_toArray, List.set_cons_succ, List.set_cons_zero]
  refine wpList_nil ?_
  go_wp2_with fail
  exact bodyPost_ret (v := .tuple #[.agg (u8s q).toArray, .nilIface]) (results_cell_tmp rfl _ _ g20 0 _ _ _ rfl rfl Tryd.underlying26 rfl (by rw [u8s_size, HQL.out]; exact info26) (Blk.all F19'.out rfl)) rfl ⟨rfl, F31.out⟩
theorem over_any (p : List Int) (hp : p.length = 32) (b : Bk) (bv : Value) (hw : b.Wf) (hf : ¬ b.kind = 1 → Fits b.off b.bytes) (w : World) (hby : BytesAt w bv b.bytes) (hev : ErrVar w) : Calls Tryd.prog 23 #[.agg (u8s p).toArray, .agg (b.arr bv)] w fun e w' => e = .returned (.tuple #[.agg (u8s (b.over p)).toArray, .nilIface]) ∧ Below w.heap.size w w' := by
  by_cases hk : b.kind = 1
  · exact over_image p hp b bv hw hk w hby hev
  · exact over_delta p hp b bv hw hk (hf hk) w hby hev
end Go.Proofs.YtjejodgjakjeiaaDoor
