/- The statements' own sectors of a region. -/
import Derived.Test.YtlleafhfogfngaaDoorRgood
import Derived.Test.YtlleafhfogfngaaDoorPair
import Derived.Test.YtlleafhfogfngaaDoorRef
namespace Go.Proofs.YtlleafhfogfngaaDoor
set_option linter.unusedSimpArgs false
set_option linter.unusedVariables false
open Go.RowKit

theorem rreg_is {r : Rg} {v : Bool} (h : r.good = v) (hw : r.Wf) (w : World) : Calls Tryd.prog 12 #[.agg r.cells.toArray] w fun e w' => e = .returned (.bool v) ∧ Below w.heap.size w w' := h ▸ rregion_any r hw w
theorem b0_is (r : Rg) : (([82, 0] ++ le 4 r.gen) ++ r.six) ++ le 4 r.seq = r.b0 := by simp [Rg.b0]
theorem six_of {r : Rg} (h : r.good = true) : (Byte r.p ∧ Byte r.s ∧ Byte r.l) ∧ Byte r.f ∧ Byte r.seg ∧ Byte r.off := by
  have := six_byte h
  simp only [Rg.six, List.mem_cons, List.not_mem_nil, or_false, forall_eq_or_imp, forall_eq] at this
  obtain ⟨h1, h2, h3, h4, h5, h6⟩ := this
  exact ⟨⟨h1, h2, h3⟩, h4, h5, h6⟩
/-- The second sector's bytes, up to root k. -/
def Rg.bk (r : Rg) (k : Nat) : List Int := ([82, 1] ++ le 4 r.gen) ++ flat2 (r.rs.take k)
theorem bk_next {r : Rg} {k : Nat} {x : Int} (h : r.rs[k]? = some x) : r.bk k ++ le 2 x = r.bk (k + 1) := by
  unfold Rg.bk
  rw [flat2_snoc h, List.append_assoc]
theorem bk_zero (r : Rg) : [82, 1] ++ le 4 r.gen = r.bk 0 := by simp [Rg.bk, flat2]
theorem bk_length (r : Rg) (k : Nat) (hl : r.rs.length = 8) (hk : k ≤ 8) : (r.bk k).length = 6 + 2 * k := by
  simp [Rg.bk, le_length, flat2_length, hl]
  omega
theorem bk_eight {r : Rg} (hl : r.rs.length = 8) : r.bk 8 ++ zeros (64 - (r.bk 8).length) = r.s1 := by
  rw [bk_length r 8 hl (Nat.le_refl _)]
  unfold Rg.bk Rg.s1 Rg.b1
  rw [List.take_of_length_le (by omega)]
  simp
theorem b0_zeros (r : Rg) : r.b0 ++ zeros (64 - r.b0.length) = r.s0 := by rw [b0_length]; rfl
theorem rsec0 (r : Rg) (sv : Value) (w : World) (h : BytesAt w sv r.b0) : Calls Tryd.prog 17 #[sv] w fun e w' => e = .returned (.agg (u8s r.s0).toArray) ∧ Below w.heap.size w w' := by
  have := rsector_any sv r.b0 (by rw [b0_length]; decide) (by rw [b0_length]; decide) w h
  rwa [b0_zeros] at this
theorem rsec1 (r : Rg) (hl : r.rs.length = 8) (sv : Value) (w : World) (h : BytesAt w sv (r.bk 8)) : Calls Tryd.prog 17 #[sv] w fun e w' => e = .returned (.agg (u8s r.s1).toArray) ∧ Below w.heap.size w w' := by
  have := rsector_any sv (r.bk 8) (by rw [bk_length r 8 hl (Nat.le_refl _)]; decide) (by rw [bk_length r 8 hl (Nat.le_refl _)]; decide) w h
  rwa [bk_eight hl] at this

set_option maxRecDepth 100000 in
theorem rencode_no {r : Rg} (hg : r.good = false) (hw : r.Wf) (w : World) : Calls Tryd.prog 8 #[.agg r.cells.toArray] w fun e w' => e = .returned (.tuple #[.agg (u8s (zeros 128)).toArray, .int .i64 11]) ∧ Below w.heap.size w w' := by
  have HZ128 := Lib.hid (zeros_length 128)
  have HWN := Lib.hid none_wf
  have HWF := Lib.hid hw
  have HGD := Lib.hid hg
  have HBL : Hid (Below w.heap.size w w) := Lib.hid (Below.refl _ _)
  clear hw hg
  go_enter Tryd.func8, Tryd.ntmps8
  go_upto_region 0 with fail
  refine wp_region_lit ?_
  refine box_g rfl rfl ?_
  intro w1 hA hb hl
  try simp only [Act.put, List.setIfInBounds_toArray, List.set_cons_succ, List.set_cons_zero]
  clear hl
  have HG2 : Hid (w.heap.size ≤ w.heap.size) := Lib.hid HBL.out.size
  have F3 := Lib.hid (HBL.out.trans (hb.mono HBL.out.size))
  clear HBL
  have F4 : Hid (Blk w1 w.heap.size r.cells) := Lib.hid hA
  clear hA hb
  refine alloc_g zero30 rfl ?_
  intro w5 hA hb hl
  try simp only [Act.put, List.setIfInBounds_toArray, List.set_cons_succ, List.set_cons_zero]
  clear hl
  have HN6 := Lib.hid (Nat.ne_of_lt F4.out.lt)
  have HG7 : Hid (w.heap.size ≤ w1.heap.size) := Lib.hid F3.out.size
  have F8 := Lib.hid (F3.out.trans (hb.mono F3.out.size))
  have F9 := Lib.hid (F4.out.below hb F4.out.lt)
  clear F3 F4
  have F10 : Hid (Blk w5 w1.heap.size (u8s (zeros 128))) := Lib.hid hA
  clear hA hb
  generalize w1.heap.size = g11 at *
  clear w1
  refine takeL (.int .i64 0) rfl (by go_simp) ?_
  try simp only [Act.put, List.setIfInBounds_toArray, List.set_cons_succ, List.set_cons_zero]
  refine wpList_nil ?_
  go_upto_region 1 with fail
  refine wp_region_lit ?_
  refine load27 (cs := r.cells.toArray) (Blk.all F9.out rfl) (by rw [List.size_toArray]; exact HWF.out.cells) rfl rfl ?_
  try simp only [Act.put, List.setIfInBounds_toArray, List.set_cons_succ, List.set_cons_zero]
  refine wpList_op rfl fun K hK => ?_
  go_simp
  refine (rreg_is HGD.out HWF.out _).mono ?_
  rintro e w12 ⟨rfl, hb⟩
  have F13 := Lib.hid (F8.out.trans (hb.mono F8.out.size))
  have F14 := Lib.hid (F9.out.below hb F9.out.lt)
  have F15 := Lib.hid (F10.out.below hb F10.out.lt)
  clear F8 F9 F10
  clear hb
  refine hK _ _ ?_
  clear hK K
  try simp only [Act.put, List.setIfInBounds_toArray, List.set_cons_succ, List.set_cons_zero]
  refine takeL (.bool true) rfl (by go_simp) ?_
  try simp only [Act.put, List.setIfInBounds_toArray, List.set_cons_succ, List.set_cons_zero]
  refine wpList_nil ?_
  go_upto_region 2 with fail
  refine wp_region_lit ?_
  refine build_g (build30 _) rfl ?_
  try simp only [Act.put, List.setIfInBounds_toArray, List.set_cons_succ, List.set_cons_zero]
  refine store_all (cs := (u8s (zeros 128)).toArray) F15.out (by simp only [u8s_size, List.size_toArray, List.length_map, HZ128.out, HZ128.out]) (by rw [u8s_size, HZ128.out]; exact info30) (u8s_one _) rfl rfl rfl ?_
  intro w16 hD hO hlD
  try simp only [Act.put, List.setIfInBounds_toArray, List.set_cons_succ, List.set_cons_zero]
  clear hlD
  have F17 := Lib.hid (F13.out.trans (hO.below F13.out.size (fun k hk => by rw [hk]; exact HG7.out)))
  have F18 := Lib.hid (F14.out.only hO (HN6.out))
  clear F13 F14 F15
  have F10' : Hid (Blk w16 g11 (u8s (zeros 128))) := Lib.hid hD
  clear hD hO 
  refine takeL (.int .i64 11) rfl (by go_simp) ?_
  try simp only [Act.put, List.setIfInBounds_toArray, List.set_cons_succ, List.set_cons_zero]
  refine wpList_nil ?_
  go_wp2_with fail
  exact bodyPost_ret (v := .tuple #[.agg (u8s (zeros 128)).toArray, .int .i64 11]) (results_cell_tmp rfl _ _ g11 0 _ _ _ rfl rfl Tryd.underlying30 rfl (by rw [u8s_size, HZ128.out]; exact info30) (Blk.all F10'.out rfl)) rfl ⟨rfl, F17.out⟩
set_option maxHeartbeats 1000000 in
set_option maxRecDepth 100000 in
theorem rencode_yes {r : Rg} (hg : r.good = true) (hw : r.Wf) (w : World) : Calls Tryd.prog 8 #[.agg r.cells.toArray] w fun e w' => e = .returned (.tuple #[.agg (u8s r.enc).toArray, .int .i64 0]) ∧ Below w.heap.size w w' := by
  have HZ128 := Lib.hid (zeros_length 128)
  have HWN := Lib.hid none_wf
  have HWF := Lib.hid hw
  have HGD := Lib.hid hg
  have HBL : Hid (Below w.heap.size w w) := Lib.hid (Below.refl _ _)
  clear hw hg
  have HE := Lib.hid (enc_length HWF.out.len)
  have Hr0 := Lib.hid (s0_length r)
  have Hr1 := Lib.hid (s1_length HWF.out.len)
  have HSX := Lib.hid (six_of HGD.out)
  go_enter Tryd.func8, Tryd.ntmps8
  go_upto_region 0 with fail
  refine wp_region_lit ?_
  refine box_g rfl rfl ?_
  intro w1 hA hb hl
  try simp only [Act.put, List.setIfInBounds_toArray, List.set_cons_succ, List.set_cons_zero]
  clear hl
  have HG2 : Hid (w.heap.size ≤ w.heap.size) := Lib.hid HBL.out.size
  have F3 := Lib.hid (HBL.out.trans (hb.mono HBL.out.size))
  clear HBL
  have F4 : Hid (Blk w1 w.heap.size r.cells) := Lib.hid hA
  clear hA hb
  refine alloc_g zero30 rfl ?_
  intro w5 hA hb hl
  try simp only [Act.put, List.setIfInBounds_toArray, List.set_cons_succ, List.set_cons_zero]
  clear hl
  have HN6 := Lib.hid (Nat.ne_of_lt F4.out.lt)
  have HG7 : Hid (w.heap.size ≤ w1.heap.size) := Lib.hid F3.out.size
  have F8 := Lib.hid (F3.out.trans (hb.mono F3.out.size))
  have F9 := Lib.hid (F4.out.below hb F4.out.lt)
  clear F3 F4
  have F10 : Hid (Blk w5 w1.heap.size (u8s (zeros 128))) := Lib.hid hA
  clear hA hb
  generalize w1.heap.size = g11 at *
  clear w1
  refine takeL (.int .i64 0) rfl (by go_simp) ?_
  try simp only [Act.put, List.setIfInBounds_toArray, List.set_cons_succ, List.set_cons_zero]
  refine wpList_nil ?_
  go_upto_region 1 with fail
  refine wp_region_lit ?_
  refine load27 (cs := r.cells.toArray) (Blk.all F9.out rfl) (by rw [List.size_toArray]; exact HWF.out.cells) rfl rfl ?_
  try simp only [Act.put, List.setIfInBounds_toArray, List.set_cons_succ, List.set_cons_zero]
  refine wpList_op rfl fun K hK => ?_
  go_simp
  refine (rreg_is HGD.out HWF.out _).mono ?_
  rintro e w12 ⟨rfl, hb⟩
  have F13 := Lib.hid (F8.out.trans (hb.mono F8.out.size))
  have F14 := Lib.hid (F9.out.below hb F9.out.lt)
  have F15 := Lib.hid (F10.out.below hb F10.out.lt)
  clear F8 F9 F10
  clear hb
  refine hK _ _ ?_
  clear hK K
  try simp only [Act.put, List.setIfInBounds_toArray, List.set_cons_succ, List.set_cons_zero]
  refine takeL (.bool false) rfl (by go_simp) ?_
  try simp only [Act.put, List.setIfInBounds_toArray, List.set_cons_succ, List.set_cons_zero]
  refine wpList_nil ?_
  have HCz1 : Hid (Below w12.heap.size w12 w12) := Lib.hid (Below.refl _ _)
  go_upto_region 3 with fail
  refine wp_region_lit ?_
  refine wpList_run (.slice (some ⟨w12.heap.size, 0, none⟩) 2 2) (w12.alloc (.cells #[.int .u8 82, .int .u8 0] 5)) rfl (by go_simp) ?_
  try simp only [Act.put, List.setIfInBounds_toArray, List.set_cons_succ, List.set_cons_zero]
  have hb := (Below.refl w12.heap.size w12).alloc (Nat.le_refl _) (.cells #[.int .u8 82, .int .u8 0] 5)
  have hO := Own.lit w12 w12.heap.size HCz1.out.size [82, 0] (by simp [Rg.six]) #[.int .u8 82, .int .u8 0] rfl
  simp only [Rg.six, List.length_cons, List.length_nil, Nat.reduceAdd] at hO
  generalize w12.alloc (.cells #[.int .u8 82, .int .u8 0] 5) = wz2 at *
  have HCz3 := Lib.hid (HCz1.out.trans (hb.mono HCz1.out.size))
  clear HCz1
  have HOz4 : Hid (Own wz2 w12.heap.size (.slice (some ⟨w12.heap.size, 0, none⟩) 2 2) [82, 0]) := Lib.hid hO
  clear hb hO
  refine takeL (.pointer (some ⟨w.heap.size, 0, none⟩)) rfl (by go_simp) ?_
  try simp only [Act.put, List.setIfInBounds_toArray, List.set_cons_succ, List.set_cons_zero]
  refine takeL (.int .u32 r.gen) rfl (by have hq := (F14.out.below HCz3.out F14.out.lt).cell (i := 0) (v := .int .u32 r.gen) rfl; go_simp) ?_
  try simp only [Act.put, List.setIfInBounds_toArray, List.set_cons_succ, List.set_cons_zero]
  refine wpList_op rfl fun K hK => ?_
  go_simp
  refine (rput4_any r.gen HWF.out.gen _).mono ?_
  rintro e wz5 ⟨svz6, rfl, hP, hb⟩
  have HCz7 := Lib.hid (HCz3.out.trans (hb.mono HCz3.out.size))
  have HOz8 := Lib.hid (HOz4.out.below hb)
  clear HOz4
  clear HCz3
  have HPz9 : Hid (BytesAt wz5 svz6 (le 4 r.gen)) := Lib.hid hP.bytes
  clear hb hP
  refine hK _ _ ?_
  clear hK K
  try simp only [Act.put, List.setIfInBounds_toArray, List.set_cons_succ, List.set_cons_zero]
  refine app_L (B := w12.heap.size) HOz8.out HCz7.out.size HPz9.out (by simp [le_length, Rg.six]) rfl rfl rfl ?_
  intro svz11 wz10 hO hb
  try simp only [Act.put, List.setIfInBounds_toArray, List.set_cons_succ, List.set_cons_zero]
  have HOz12 : Hid (Own wz10 w12.heap.size svz11 ([82, 0] ++ le 4 r.gen)) := Lib.hid hO
  clear hO HOz8
  have HCz13 := Lib.hid (HCz7.out.trans hb)
  clear HCz7
  clear hb
  refine takeL (svz11) rfl (by go_simp) ?_
  try simp only [Act.put, List.setIfInBounds_toArray, List.set_cons_succ, List.set_cons_zero]
  refine wpList_nil ?_
  go_upto_region 4 with fail
  refine wp_region_lit ?_
  refine takeL (svz11) rfl (by go_simp) ?_
  try simp only [Act.put, List.setIfInBounds_toArray, List.set_cons_succ, List.set_cons_zero]
  refine takeL (.pointer (some ⟨w.heap.size, 1, none⟩)) rfl (by go_simp) ?_
  try simp only [Act.put, List.setIfInBounds_toArray, List.set_cons_succ, List.set_cons_zero]
  refine takeL (.pointer (some ⟨w.heap.size, 1, none⟩)) rfl (by go_simp) ?_
  try simp only [Act.put, List.setIfInBounds_toArray, List.set_cons_succ, List.set_cons_zero]
  refine takeL (.int .i64 r.p) rfl (by have hq := (F14.out.below HCz13.out F14.out.lt).cell (i := 1) (v := .int .i64 r.p) rfl; go_simp) ?_
  try simp only [Act.put, List.setIfInBounds_toArray, List.set_cons_succ, List.set_cons_zero]
  refine takeL (.int .u8 r.p) rfl (by have hq : Byte r.p := HSX.out.1.1; go_simp <;> exact wrap8 hq.1 hq.2) ?_
  try simp only [Act.put, List.setIfInBounds_toArray, List.set_cons_succ, List.set_cons_zero]
  refine takeL (.pointer (some ⟨w.heap.size, 1, none⟩)) rfl (by go_simp) ?_
  try simp only [Act.put, List.setIfInBounds_toArray, List.set_cons_succ, List.set_cons_zero]
  refine takeL (.pointer (some ⟨w.heap.size, 2, none⟩)) rfl (by go_simp) ?_
  try simp only [Act.put, List.setIfInBounds_toArray, List.set_cons_succ, List.set_cons_zero]
  refine takeL (.int .i64 r.s) rfl (by have hq := (F14.out.below HCz13.out F14.out.lt).cell (i := 2) (v := .int .i64 r.s) rfl; go_simp) ?_
  try simp only [Act.put, List.setIfInBounds_toArray, List.set_cons_succ, List.set_cons_zero]
  refine takeL (.int .u8 r.s) rfl (by have hq : Byte r.s := HSX.out.1.2.1; go_simp <;> exact wrap8 hq.1 hq.2) ?_
  try simp only [Act.put, List.setIfInBounds_toArray, List.set_cons_succ, List.set_cons_zero]
  refine takeL (.pointer (some ⟨w.heap.size, 1, none⟩)) rfl (by go_simp) ?_
  try simp only [Act.put, List.setIfInBounds_toArray, List.set_cons_succ, List.set_cons_zero]
  refine takeL (.pointer (some ⟨w.heap.size, 3, none⟩)) rfl (by go_simp) ?_
  try simp only [Act.put, List.setIfInBounds_toArray, List.set_cons_succ, List.set_cons_zero]
  refine takeL (.int .i64 r.l) rfl (by have hq := (F14.out.below HCz13.out F14.out.lt).cell (i := 3) (v := .int .i64 r.l) rfl; go_simp) ?_
  try simp only [Act.put, List.setIfInBounds_toArray, List.set_cons_succ, List.set_cons_zero]
  refine takeL (.int .u8 r.l) rfl (by have hq : Byte r.l := HSX.out.1.2.2; go_simp <;> exact wrap8 hq.1 hq.2) ?_
  try simp only [Act.put, List.setIfInBounds_toArray, List.set_cons_succ, List.set_cons_zero]
  refine takeL (.pointer (some ⟨w.heap.size, 1, none⟩)) rfl (by go_simp) ?_
  try simp only [Act.put, List.setIfInBounds_toArray, List.set_cons_succ, List.set_cons_zero]
  refine takeL (.pointer (some ⟨w.heap.size, 4, none⟩)) rfl (by go_simp) ?_
  try simp only [Act.put, List.setIfInBounds_toArray, List.set_cons_succ, List.set_cons_zero]
  refine takeL (.int .i64 r.f) rfl (by have hq := (F14.out.below HCz13.out F14.out.lt).cell (i := 4) (v := .int .i64 r.f) rfl; go_simp) ?_
  try simp only [Act.put, List.setIfInBounds_toArray, List.set_cons_succ, List.set_cons_zero]
  refine takeL (.int .u8 r.f) rfl (by have hq : Byte r.f := HSX.out.2.1; go_simp <;> exact wrap8 hq.1 hq.2) ?_
  try simp only [Act.put, List.setIfInBounds_toArray, List.set_cons_succ, List.set_cons_zero]
  refine takeL (.pointer (some ⟨w.heap.size, 5, none⟩)) rfl (by go_simp) ?_
  try simp only [Act.put, List.setIfInBounds_toArray, List.set_cons_succ, List.set_cons_zero]
  refine takeL (.int .i64 r.seg) rfl (by have hq := (F14.out.below HCz13.out F14.out.lt).cell (i := 5) (v := .int .i64 r.seg) rfl; go_simp) ?_
  try simp only [Act.put, List.setIfInBounds_toArray, List.set_cons_succ, List.set_cons_zero]
  refine takeL (.int .u8 r.seg) rfl (by have hq : Byte r.seg := HSX.out.2.2.1; go_simp <;> exact wrap8 hq.1 hq.2) ?_
  try simp only [Act.put, List.setIfInBounds_toArray, List.set_cons_succ, List.set_cons_zero]
  refine takeL (.pointer (some ⟨w.heap.size, 6, none⟩)) rfl (by go_simp) ?_
  try simp only [Act.put, List.setIfInBounds_toArray, List.set_cons_succ, List.set_cons_zero]
  refine takeL (.int .i64 r.off) rfl (by have hq := (F14.out.below HCz13.out F14.out.lt).cell (i := 6) (v := .int .i64 r.off) rfl; go_simp) ?_
  try simp only [Act.put, List.setIfInBounds_toArray, List.set_cons_succ, List.set_cons_zero]
  refine takeL (.int .u8 r.off) rfl (by have hq : Byte r.off := HSX.out.2.2.2; go_simp <;> exact wrap8 hq.1 hq.2) ?_
  try simp only [Act.put, List.setIfInBounds_toArray, List.set_cons_succ, List.set_cons_zero]
  refine wpList_run (.slice (some ⟨wz10.heap.size, 0, none⟩) 6 6) (wz10.alloc (.cells #[.int .u8 r.p, .int .u8 r.s, .int .u8 r.l, .int .u8 r.f, .int .u8 r.seg, .int .u8 r.off] 5)) rfl (by go_simp) ?_
  try simp only [Act.put, List.setIfInBounds_toArray, List.set_cons_succ, List.set_cons_zero]
  have hb := (Below.refl wz10.heap.size wz10).alloc (Nat.le_refl _) (.cells #[.int .u8 r.p, .int .u8 r.s, .int .u8 r.l, .int .u8 r.f, .int .u8 r.seg, .int .u8 r.off] 5)
  have hO := Own.lit wz10 w12.heap.size HCz13.out.size r.six (by simp [Rg.six]) #[.int .u8 r.p, .int .u8 r.s, .int .u8 r.l, .int .u8 r.f, .int .u8 r.seg, .int .u8 r.off] rfl
  simp only [Rg.six, List.length_cons, List.length_nil, Nat.reduceAdd] at hO
  generalize wz10.alloc (.cells #[.int .u8 r.p, .int .u8 r.s, .int .u8 r.l, .int .u8 r.f, .int .u8 r.seg, .int .u8 r.off] 5) = wz14 at *
  have HCz15 := Lib.hid (HCz13.out.trans (hb.mono HCz13.out.size))
  have HOz16 := Lib.hid (HOz12.out.below hb)
  clear HOz12
  clear HCz13
  have HOz17 : Hid (Own wz14 w12.heap.size (.slice (some ⟨wz10.heap.size, 0, none⟩) 6 6) r.six) := Lib.hid hO
  clear hb hO
  refine app_L (B := w12.heap.size) HOz16.out HCz15.out.size HOz17.out.bytes (by simp [le_length, Rg.six]) rfl rfl rfl ?_
  intro svz19 wz18 hO hb
  try simp only [Act.put, List.setIfInBounds_toArray, List.set_cons_succ, List.set_cons_zero]
  have HOz20 : Hid (Own wz18 w12.heap.size svz19 (([82, 0] ++ le 4 r.gen) ++ r.six)) := Lib.hid hO
  clear hO HOz16
  have HCz21 := Lib.hid (HCz15.out.trans hb)
  clear HCz15
  clear hb
  refine takeL (svz19) rfl (by go_simp) ?_
  try simp only [Act.put, List.setIfInBounds_toArray, List.set_cons_succ, List.set_cons_zero]
  refine wpList_nil ?_
  go_upto_region 5 with fail
  refine wp_region_lit ?_
  refine takeL (svz19) rfl (by go_simp) ?_
  try simp only [Act.put, List.setIfInBounds_toArray, List.set_cons_succ, List.set_cons_zero]
  refine takeL (.pointer (some ⟨w.heap.size, 7, none⟩)) rfl (by go_simp) ?_
  try simp only [Act.put, List.setIfInBounds_toArray, List.set_cons_succ, List.set_cons_zero]
  refine takeL (.int .u32 r.seq) rfl (by have hq := (F14.out.below HCz21.out F14.out.lt).cell (i := 7) (v := .int .u32 r.seq) rfl; go_simp) ?_
  try simp only [Act.put, List.setIfInBounds_toArray, List.set_cons_succ, List.set_cons_zero]
  refine wpList_op rfl fun K hK => ?_
  go_simp
  refine (rput4_any r.seq HWF.out.seq _).mono ?_
  rintro e wz22 ⟨svz23, rfl, hP, hb⟩
  have HCz24 := Lib.hid (HCz21.out.trans (hb.mono HCz21.out.size))
  have HOz25 := Lib.hid (HOz20.out.below hb)
  clear HOz20
  clear HCz21
  have HPz26 : Hid (BytesAt wz22 svz23 (le 4 r.seq)) := Lib.hid hP.bytes
  clear hb hP
  refine hK _ _ ?_
  clear hK K
  try simp only [Act.put, List.setIfInBounds_toArray, List.set_cons_succ, List.set_cons_zero]
  refine app_L (B := w12.heap.size) HOz25.out HCz24.out.size HPz26.out (by simp [le_length, Rg.six]) rfl rfl rfl ?_
  intro svz28 wz27 hO hb
  try simp only [Act.put, List.setIfInBounds_toArray, List.set_cons_succ, List.set_cons_zero]
  have HOz29 : Hid (Own wz27 w12.heap.size svz28 ((([82, 0] ++ le 4 r.gen) ++ r.six) ++ le 4 r.seq)) := Lib.hid hO
  clear hO HOz25
  have HCz30 := Lib.hid (HCz24.out.trans hb)
  clear HCz24
  clear hb
  refine takeL (svz28) rfl (by go_simp) ?_
  try simp only [Act.put, List.setIfInBounds_toArray, List.set_cons_succ, List.set_cons_zero]
  refine wpList_nil ?_
  have HS0 : Hid (BytesAt wz27 svz28 r.b0) := Lib.hid (by have := HOz29.out.bytes; rwa [b0_is] at this)
  have FA := Lib.hid (F14.out.below HCz30.out F14.out.lt)
  have FB := Lib.hid (F15.out.below HCz30.out F15.out.lt)
  have FL := Lib.hid (F13.out.trans (HCz30.out.mono F13.out.size))
  clear F14 F15 F13 HCz30 HOz29
  have HCz31 : Hid (Below wz27.heap.size wz27 wz27) := Lib.hid (Below.refl _ _)
  go_upto_region 6 with fail
  refine wp_region_lit ?_
  refine wpList_run (.slice (some ⟨wz27.heap.size, 0, none⟩) 2 2) (wz27.alloc (.cells #[.int .u8 82, .int .u8 1] 5)) rfl (by go_simp) ?_
  try simp only [Act.put, List.setIfInBounds_toArray, List.set_cons_succ, List.set_cons_zero]
  have hb := (Below.refl wz27.heap.size wz27).alloc (Nat.le_refl _) (.cells #[.int .u8 82, .int .u8 1] 5)
  have hO := Own.lit wz27 wz27.heap.size HCz31.out.size [82, 1] (by simp [Rg.six]) #[.int .u8 82, .int .u8 1] rfl
  simp only [Rg.six, List.length_cons, List.length_nil, Nat.reduceAdd] at hO
  generalize wz27.alloc (.cells #[.int .u8 82, .int .u8 1] 5) = wz32 at *
  have HCz33 := Lib.hid (HCz31.out.trans (hb.mono HCz31.out.size))
  clear HCz31
  have HOz34 : Hid (Own wz32 wz27.heap.size (.slice (some ⟨wz27.heap.size, 0, none⟩) 2 2) [82, 1]) := Lib.hid hO
  clear hb hO
  refine takeL (.pointer (some ⟨w.heap.size, 0, none⟩)) rfl (by go_simp) ?_
  try simp only [Act.put, List.setIfInBounds_toArray, List.set_cons_succ, List.set_cons_zero]
  refine takeL (.int .u32 r.gen) rfl (by have hq := (FA.out.below HCz33.out FA.out.lt).cell (i := 0) (v := .int .u32 r.gen) rfl; go_simp) ?_
  try simp only [Act.put, List.setIfInBounds_toArray, List.set_cons_succ, List.set_cons_zero]
  refine wpList_op rfl fun K hK => ?_
  go_simp
  refine (rput4_any r.gen HWF.out.gen _).mono ?_
  rintro e wz35 ⟨svz36, rfl, hP, hb⟩
  have HCz37 := Lib.hid (HCz33.out.trans (hb.mono HCz33.out.size))
  have HOz38 := Lib.hid (HOz34.out.below hb)
  clear HOz34
  clear HCz33
  have HPz39 : Hid (BytesAt wz35 svz36 (le 4 r.gen)) := Lib.hid hP.bytes
  clear hb hP
  refine hK _ _ ?_
  clear hK K
  try simp only [Act.put, List.setIfInBounds_toArray, List.set_cons_succ, List.set_cons_zero]
  refine app_L (B := wz27.heap.size) HOz38.out HCz37.out.size HPz39.out (by simp [le_length, Rg.six]) rfl rfl rfl ?_
  intro svz41 wz40 hO hb
  try simp only [Act.put, List.setIfInBounds_toArray, List.set_cons_succ, List.set_cons_zero]
  have HOz42 : Hid (Own wz40 wz27.heap.size svz41 ([82, 1] ++ le 4 r.gen)) := Lib.hid hO
  clear hO HOz38
  have HCz43 := Lib.hid (HCz37.out.trans hb)
  clear HCz37
  clear hb
  refine takeL (svz41) rfl (by go_simp) ?_
  try simp only [Act.put, List.setIfInBounds_toArray, List.set_cons_succ, List.set_cons_zero]
  refine wpList_nil ?_
  go_wp2_with fail
  go_loopg [5, 6] 8 (fun q s i wr => ∃ k : Nat, 8 - k ≤ q ∧ k ≤ 8 ∧ i = .int .i64 k ∧ Own wr wz27.heap.size s (r.bk k) ∧ Below wz27.heap.size wz27 wr)
  case atStart => exact ⟨0, by omega, by omega, rfl, bk_zero r ▸ HOz42.out, HCz43.out⟩
  case round =>
    obtain ⟨k, hq, hk, rfl, hown, hbel⟩ := hrel
    have HO := Lib.hid hown
    have HC := Lib.hid hbel
    clear hown hbel HOz42 HCz43
    by_cases h8 : k < 8
    · obtain ⟨x, hx⟩ : ∃ x, r.rs[k]? = some x := ⟨_, List.getElem?_eq_getElem (by rw [HWF.out.len]; exact h8)⟩
      have HX := Lib.hid hx
      obtain ⟨x0, x1⟩ := good_all HGD.out HWF.out.len x (List.mem_of_getElem? hx)
      clear hx
      go_upto_region 10 with fail
      refine wp_region_lit ?_
      refine takeL (u5) rfl (by go_simp) ?_
      try simp only [Act.put, List.setIfInBounds_toArray, List.set_cons_succ, List.set_cons_zero]
      refine takeL (.int .i64 k) rfl (by go_simp) ?_
      try simp only [Act.put, List.setIfInBounds_toArray, List.set_cons_succ, List.set_cons_zero]
      refine takeL (.pointer (some ⟨w.heap.size, 8, none⟩)) rfl (by go_simp) ?_
      try simp only [Act.put, List.setIfInBounds_toArray, List.set_cons_succ, List.set_cons_zero]
      refine takeL (.pointer (some ⟨w.heap.size, 8 + k, none⟩)) rfl (by go_simp <;> (intro _; omega)) ?_
      try simp only [Act.put, List.setIfInBounds_toArray, List.set_cons_succ, List.set_cons_zero]
      refine takeL (.int .i64 x) rfl (by have hq := rootCell (FA.out.below HC.out FA.out.lt) HX.out; go_simp) ?_
      try simp only [Act.put, List.setIfInBounds_toArray, List.set_cons_succ, List.set_cons_zero]
      refine takeL (.int .u32 x) rfl (by go_simp <;> exact wrap32 x0 (by omega)) ?_
      try simp only [Act.put, List.setIfInBounds_toArray, List.set_cons_succ, List.set_cons_zero]
      refine wpList_op rfl fun K hK => ?_
      go_simp
      refine (rput2_any x ⟨x0, by omega⟩ _).mono ?_
      rintro e wz44 ⟨svz45, rfl, hP, hb⟩
      have HCz46 := Lib.hid (HC.out.trans (hb.mono HC.out.size))
      have HOz47 := Lib.hid (HO.out.below hb)
      clear HO
      clear HC
      have HPz48 : Hid (BytesAt wz44 svz45 (le 2 x)) := Lib.hid hP.bytes
      clear hb hP
      refine hK _ _ ?_
      clear hK K
      try simp only [Act.put, List.setIfInBounds_toArray, List.set_cons_succ, List.set_cons_zero]
      refine app_L (B := wz27.heap.size) HOz47.out HCz46.out.size HPz48.out (by rw [bk_length r k HWF.out.len (by omega), le_length]; omega) rfl rfl rfl ?_
      intro svz50 wz49 hO hb
      try simp only [Act.put, List.setIfInBounds_toArray, List.set_cons_succ, List.set_cons_zero]
      have HOz51 : Hid (Own wz49 wz27.heap.size svz50 (r.bk k ++ le 2 x)) := Lib.hid hO
      clear hO HOz47
      have HCz52 := Lib.hid (HCz46.out.trans hb)
      clear HCz46
      clear hb
      refine takeL (svz50) rfl (by go_simp) ?_
      try simp only [Act.put, List.setIfInBounds_toArray, List.set_cons_succ, List.set_cons_zero]
      refine wpList_nil ?_
      go_wp2_with fail
      go_roundg (8 - (k + 1))
      case measure => omega
      case rel => exact ⟨k + 1, by omega, by omega, by go_num, bk_next HX.out ▸ HOz51.out, HCz52.out⟩
    · obtain rfl : k = 8 := by omega
      have FA2 := Lib.hid (FA.out.below HC.out FA.out.lt)
      have FB2 := Lib.hid (FB.out.below HC.out FB.out.lt)
      have FL2 := Lib.hid (FL.out.trans (HC.out.mono FL.out.size))
      have HS2 := Lib.hid (HS0.out.below HC.out)
      have HS3 := Lib.hid HO.out.bytes
      clear HC HO HS0 FA FB FL
      go_upto_region 11 with fail
      refine wp_region_lit ?_
      refine takeL (svz28) rfl (by go_simp) ?_
      try simp only [Act.put, List.setIfInBounds_toArray, List.set_cons_succ, List.set_cons_zero]
      refine wpList_op rfl fun K hK => ?_
      go_simp
      refine (rsec0 r _ _ HS2.out).mono ?_
      rintro e w16 ⟨rfl, hb⟩
      have F17 := Lib.hid (FB2.out.below hb FB2.out.lt)
      have F18 := Lib.hid (FL2.out.trans (hb.mono FL2.out.size))
      have F19 := Lib.hid (HS2.out.below hb)
      have F20 := Lib.hid (HS3.out.below hb)
      clear FB2 FL2 HS2 HS3
      clear hb
      refine hK _ _ ?_
      clear hK K
      try simp only [Act.put, List.setIfInBounds_toArray, List.set_cons_succ, List.set_cons_zero]
      refine takeL (u5) rfl (by go_simp) ?_
      try simp only [Act.put, List.setIfInBounds_toArray, List.set_cons_succ, List.set_cons_zero]
      refine wpList_op rfl fun K hK => ?_
      go_simp
      refine (rsec1 r HWF.out.len _ _ F20.out).mono ?_
      rintro e w21 ⟨rfl, hb⟩
      have F22 := Lib.hid (F17.out.below hb F17.out.lt)
      have F23 := Lib.hid (F18.out.trans (hb.mono F18.out.size))
      have F24 := Lib.hid (F19.out.below hb)
      have F25 := Lib.hid (F20.out.below hb)
      clear F17 F18 F19 F20
      clear hb
      refine hK _ _ ?_
      clear hK K
      try simp only [Act.put, List.setIfInBounds_toArray, List.set_cons_succ, List.set_cons_zero]
      refine takeL (.agg (u8s r.enc).toArray) rfl (exec_build _ _ _ _ 30 _ rfl #[(0, .agg (u8s r.s0).toArray), (1, .agg (u8s r.s1).toArray)] (by simp only [List.map_toArray, List.map_cons, List.map_nil]; rfl) _ (build_pair (y := r.enc) rfl Hr0.out Hr1.out _)) ?_
      try simp only [Act.put, List.setIfInBounds_toArray, List.set_cons_succ, List.set_cons_zero]
      refine store_all (cs := (u8s r.enc).toArray) F22.out (by simp only [u8s_size, List.size_toArray, List.length_map, HZ128.out, HE.out]) (by rw [u8s_size, HE.out]; exact info30) (u8s_one _) rfl rfl rfl ?_
      intro w26 hD hO hlD
      try simp only [Act.put, List.setIfInBounds_toArray, List.set_cons_succ, List.set_cons_zero]
      clear hlD
      have F27 := Lib.hid (F23.out.trans (hO.below F23.out.size (fun k hk => by rw [hk]; exact HG7.out)))
      clear F23 F22
      have FB2' : Hid (Blk w26 g11 (u8s r.enc)) := Lib.hid hD
      clear hD hO 
      refine takeL (.int .i64 0) rfl (by go_simp) ?_
      try simp only [Act.put, List.setIfInBounds_toArray, List.set_cons_succ, List.set_cons_zero]
      refine wpList_nil ?_
      go_wp2_with fail
      exact bodyPost_ret (v := .tuple #[.agg (u8s r.enc).toArray, .int .i64 0]) (results_cell_tmp rfl _ _ g11 0 _ _ _ rfl rfl Tryd.underlying30 rfl (by rw [u8s_size, HE.out]; exact info30) (Blk.all FB2'.out rfl)) rfl ⟨rfl, F27.out⟩
theorem rencode_any (r : Rg) (hw : r.Wf) (w : World) : Calls Tryd.prog 8 #[.agg r.cells.toArray] w fun e w' => e = .returned (.tuple #[.agg (u8s r.sec).toArray, .int .i64 r.err]) ∧ Below w.heap.size w w' := by
  cases h : r.good with
  | true => rw [sec_good h, err_good h]; exact rencode_yes h hw w
  | false => rw [sec_bad h, err_bad h]; exact rencode_no h hw w
end Go.Proofs.YtlleafhfogfngaaDoor
