/- The statements' first calls: what ordinary summaries come to. -/
import Derived.Test.YtfhpmhigfhnbaaaOwn
namespace Go.Proofs.Ytfhpmhigfhnbaaa
set_option linter.unusedSimpArgs false
set_option linter.unusedVariables false
open Go.RowKit

def mX : List Mk := [(1, 9), (5, 3)]
def sX : Sm := ⟨258, true, mX⟩
def xX : List Int := [83, 1, 2, 1, 0, 0, 2, 1, 9, 5, 3, 0, 0, 0, 0, 0, 0, 0, 0, 0, 0, 0, 0, 0, 0, 0, 0, 0, 0, 0, 0, 0, 0, 0, 0, 0, 0, 0, 0, 0, 0, 0, 0, 0, 0, 0, 0, 0, 0, 0, 0, 0, 0, 0, 0, 0, 0, 0, 0, 0, 0, 0, 0, 0]
theorem sX_wf : sX.Wf := ⟨by decide, fun m hm => by
  simp only [sX, mX, List.mem_cons, List.not_mem_nil, or_false] at hm
  rcases hm with rfl | rfl
  · exact ⟨⟨by decide, by decide⟩, ⟨by decide, by decide⟩⟩
  · exact ⟨⟨by decide, by decide⟩, ⟨by decide, by decide⟩⟩⟩
theorem sX_good : sX.good = true := by kernel_rfl
theorem sX_enc : sX.enc = xX := by kernel_rfl
theorem sX_sec : sX.sec = xX := by kernel_rfl
theorem sX_err : sX.err = 0 := by kernel_rfl
theorem xX_sc : Sc xX := by rw [← sX_enc]; exact enc_sc sX_good
theorem xX_dec : decS xX = sX ∧ decE xX = 0 := by
  have h : isSum xX = true := by rw [← sX_enc]; exact isSum_enc sX_good sX_wf
  obtain ⟨e1, e2⟩ := decS_yes h
  rw [e1, e2, ← sX_enc, read_enc sX_good sX_wf]
  exact ⟨rfl, rfl⟩
def s0 : Sm := ⟨1, false, []⟩
theorem s0_wf : s0.Wf := ⟨by decide, fun m hm => by cases hm⟩
theorem encX (sv : Value) (w : World) (h : MarksAt w sv mX) : Calls Try.prog 8 #[.agg #[.int .u32 258, .bool true, sv]] w fun e w' => e = .returned (.tuple #[.agg (u8s xX).toArray, .int .i64 0]) ∧ Below w.heap.size w w' := by
  have := encode_any sX sv (by decide) sX_wf w h
  rwa [sX_sec, sX_err] at this
theorem enc0 (w : World) : Calls Try.prog 8 #[.agg #[.int .u32 1, .bool false, .slice none 0 0]] w fun e w' => e = .returned (.tuple #[.agg (u8s (zeros 64)).toArray, .int .i64 11]) ∧ Below w.heap.size w w' := by
  have := encode_any s0 (.slice none 0 0) (by decide) s0_wf w (MarksAt.nil _ _ _)
  rwa [show s0.sec = zeros 64 by kernel_rfl, show s0.err = 11 by kernel_rfl] at this
theorem decX (w : World) : Calls Try.prog 11 #[.agg (u8s xX).toArray] w fun e w' => ∃ sv, e = .returned (.tuple #[.agg #[.int .u32 258, .bool true, sv], .int .i64 0]) ∧ MarksAt w' sv mX ∧ Below w.heap.size w w' := by
  have := decode_any xX xX_sc w
  rwa [xX_dec.1, xX_dec.2] at this
theorem keepX (sv tv : Value) (w : World) (h : MarksAt w sv mX) (k : MarksAt w tv mX) : Calls Try.prog 16 #[sv, tv] w fun e w' => e = .returned (.bool true) ∧ Below w.heap.size w w' := by
  have := keep_any sv tv mX mX (by decide) (by decide) w h k
  rwa [decide_eq_true (p := mX = mX) rfl] at this
theorem blocksX (sv : Value) (w : World) (h : MarksAt w sv mX) : Calls Try.prog 14 #[sv] w fun e w' => e = .returned (.int .i64 1) ∧ Below w.heap.size w w' := by
  have := blocks_any sv mX (by decide) w h
  rwa [show ((blocks mX : Nat) : Int) = 1 by kernel_rfl] at this
theorem built25X (a : Option Addr) : Try.prog.built 25 [(0, .int .u32 258), (1, .bool true), (2, .slice a 2 2)] = some #[.int .u32 258, .bool true, .slice a 2 2] := by kernel_rfl
theorem built250 : Try.prog.built 25 [(0, .int .u32 1)] = some #[.int .u32 1, .bool false, .slice none 0 0] := by kernel_rfl

set_option maxRecDepth 100000 in
theorem wakes_any (w : World) : Calls Try.prog 7 #[] w fun e w' => e = .returned (.bool true) ∧ Below w.heap.size w w' := by
  have HS64 : Hid (xX.length = 64) := Lib.hid rfl
  have HZ64 : Hid ((zeros 64).length = 64) := Lib.hid rfl
  go_enter Try.func7, Try.ntmps7
  go_upto_region 1 with fail
  refine wp_region_lit ?_
  refine takeL (.agg #[.int .i64 1, .int .i64 9]) rfl (by go_simp) ?_
  try simp only [Act.put, List.setIfInBounds_toArray, List.set_cons_succ, List.set_cons_zero]
  refine takeL (.agg #[.int .i64 5, .int .i64 3]) rfl (by go_simp) ?_
  try simp only [Act.put, List.setIfInBounds_toArray, List.set_cons_succ, List.set_cons_zero]
  refine wpList_run (.slice (some ⟨w.heap.size, 0, none⟩) 2 2) (w.alloc (.cells #[.int .i64 1, .int .i64 9, .int .i64 5, .int .i64 3] 47)) rfl (by go_simp) ?_
  try simp only [Act.put, List.setIfInBounds_toArray, List.set_cons_succ, List.set_cons_zero]
  have FBY : Hid (MarksAt (w.alloc (.cells #[.int .i64 1, .int .i64 9, .int .i64 5, .int .i64 3] 47)) (.slice (some ⟨w.heap.size, 0, none⟩) 2 2) mX) := Lib.hid (OwnM.lit w w.heap.size (Nat.le_refl _) mX (by decide) _ rfl).marks
  have FBL : Hid (Below w.heap.size w (w.alloc (.cells #[.int .i64 1, .int .i64 9, .int .i64 5, .int .i64 3] 47))) := Lib.hid ((Below.refl _ _).alloc (Nat.le_refl _) _)
  generalize hsv : (Value.slice (some ⟨w.heap.size, 0, none⟩) 2 2) = sv at *
  generalize w.alloc (.cells #[.int .i64 1, .int .i64 9, .int .i64 5, .int .i64 3] 47) = wq at *
  have HSV := Lib.hid hsv
  clear hsv
  refine takeL (.agg #[.int .u32 258, .bool true, sv]) rfl (by rw [← HSV.out]; exact exec_build _ _ _ _ 25 _ rfl #[(0, .int .u32 258), (1, .bool true), (2, .slice (some ⟨w.heap.size, 0, none⟩) 2 2)] (by rw [HSV.out]; simp only [List.map_toArray, List.map_cons, List.map_nil]; rfl) _ (run_build _ 25 _ _ (built25X _))) ?_
  try simp only [Act.put, List.setIfInBounds_toArray, List.set_cons_succ, List.set_cons_zero]
  refine alloc_g zero25 rfl ?_
  intro w1 hC hBC hlC
  try simp only [Act.put, List.setIfInBounds_toArray, List.set_cons_succ, List.set_cons_zero]
  refine store_all (cs := #[.int .u32 258, .bool true, sv]) hC rfl info25 (sm_one FBY.out _ _) rfl rfl rfl ?_
  intro w2 hD hOD hlD
  try simp only [Act.put, List.setIfInBounds_toArray, List.set_cons_succ, List.set_cons_zero]
  have hb := hBC.trans (hOD.below hBC.size (fun k hk => Nat.le_of_eq hk.symm))
  have F3 := Lib.hid (FBY.out.below hb)
  have F4 := Lib.hid (FBL.out.trans (hb.mono FBL.out.size))
  clear FBY FBL
  have F5 := Lib.hid hD
  clear hC hBC hlC hD hOD hlD hb
  generalize wq.heap.size = g6 at *
  clear w1 wq
  refine wpList_nil ?_
  go_upto_region 2 with fail
  refine wp_region_lit ?_
  refine load25 (cs := #[.int .u32 258, .bool true, sv]) (Blk.all F5.out rfl) rfl rfl rfl ?_
  try simp only [Act.put, List.setIfInBounds_toArray, List.set_cons_succ, List.set_cons_zero]
  refine wpList_op rfl fun K hK => ?_
  go_simp
  refine (encX sv _ F3.out).mono ?_
  rintro e w7 ⟨rfl, hb⟩
  have F8 := Lib.hid (F3.out.below hb)
  have F9 := Lib.hid (F4.out.trans (hb.mono F4.out.size))
  have F10 := Lib.hid (F5.out.below hb F5.out.lt)
  clear F3 F4 F5
  clear hb
  refine hK _ _ ?_
  clear hK K
  try simp only [Act.put, List.setIfInBounds_toArray, List.set_cons_succ, List.set_cons_zero]
  refine takeL (.tuple #[.agg (u8s xX).toArray, .int .i64 0]) rfl (by go_simp) ?_
  try simp only [Act.put, List.setIfInBounds_toArray, List.set_cons_succ, List.set_cons_zero]
  refine takeL (.agg (u8s xX).toArray) rfl (by go_simp) ?_
  try simp only [Act.put, List.setIfInBounds_toArray, List.set_cons_succ, List.set_cons_zero]
  refine takeL (.int .i64 0) rfl (by go_simp) ?_
  try simp only [Act.put, List.setIfInBounds_toArray, List.set_cons_succ, List.set_cons_zero]
  refine alloc_g zero27 rfl ?_
  intro w11 hC hBC hlC
  try simp only [Act.put, List.setIfInBounds_toArray, List.set_cons_succ, List.set_cons_zero]
  refine store_all (cs := (u8s xX).toArray) hC (by rw [u8s_size, HS64.out]; simp [zeros]) (by rw [u8s_size, HS64.out]; exact info27) (u8s_one _) rfl rfl rfl ?_
  intro w12 hD hOD hlD
  try simp only [Act.put, List.setIfInBounds_toArray, List.set_cons_succ, List.set_cons_zero]
  have hb := hBC.trans (hOD.below hBC.size (fun k hk => Nat.le_of_eq hk.symm))
  have F13 := Lib.hid (F8.out.below hb)
  have F14 := Lib.hid (F9.out.trans (hb.mono F9.out.size))
  have F15 := Lib.hid (F10.out.below hb F10.out.lt)
  clear F8 F9 F10
  have F16 := Lib.hid hD
  clear hC hBC hlC hD hOD hlD hb
  generalize w7.heap.size = g17 at *
  clear w11 w7
  refine takeL (.int .i64 0) rfl (by go_simp) ?_
  try simp only [Act.put, List.setIfInBounds_toArray, List.set_cons_succ, List.set_cons_zero]
  refine wpList_nil ?_
  go_upto_region 3 with fail
  refine wp_region_lit ?_
  refine load27 (cs := (u8s xX).toArray) (Blk.all F16.out rfl) (by rw [u8s_size, HS64.out]) rfl rfl ?_
  try simp only [Act.put, List.setIfInBounds_toArray, List.set_cons_succ, List.set_cons_zero]
  refine wpList_op rfl fun K hK => ?_
  go_simp
  refine (decX _).mono ?_
  rintro e w18 ⟨sv2, rfl, hby, hb⟩
  have F19 := Lib.hid (F13.out.below hb)
  have F20 := Lib.hid (F14.out.trans (hb.mono F14.out.size))
  have F21 := Lib.hid (F15.out.below hb F15.out.lt)
  have F22 := Lib.hid (F16.out.below hb F16.out.lt)
  clear F13 F14 F15 F16
  have F23 := Lib.hid hby
  clear hb hby
  refine hK _ _ ?_
  clear hK K
  try simp only [Act.put, List.setIfInBounds_toArray, List.set_cons_succ, List.set_cons_zero]
  refine takeL (.tuple #[.agg #[.int .u32 258, .bool true, sv2], .int .i64 0]) rfl (by go_simp) ?_
  try simp only [Act.put, List.setIfInBounds_toArray, List.set_cons_succ, List.set_cons_zero]
  refine takeL (.agg #[.int .u32 258, .bool true, sv2]) rfl (by go_simp) ?_
  try simp only [Act.put, List.setIfInBounds_toArray, List.set_cons_succ, List.set_cons_zero]
  refine takeL (.int .i64 0) rfl (by go_simp) ?_
  try simp only [Act.put, List.setIfInBounds_toArray, List.set_cons_succ, List.set_cons_zero]
  refine alloc_g zero25 rfl ?_
  intro w24 hC hBC hlC
  try simp only [Act.put, List.setIfInBounds_toArray, List.set_cons_succ, List.set_cons_zero]
  refine store_all (cs := #[.int .u32 258, .bool true, sv2]) hC rfl info25 (sm_one F23.out _ _) rfl rfl rfl ?_
  intro w25 hD hOD hlD
  try simp only [Act.put, List.setIfInBounds_toArray, List.set_cons_succ, List.set_cons_zero]
  have hb := hBC.trans (hOD.below hBC.size (fun k hk => Nat.le_of_eq hk.symm))
  have F26 := Lib.hid (F19.out.below hb)
  have F27 := Lib.hid (F20.out.trans (hb.mono F20.out.size))
  have F28 := Lib.hid (F21.out.below hb F21.out.lt)
  have F29 := Lib.hid (F22.out.below hb F22.out.lt)
  have F30 := Lib.hid (F23.out.below hb)
  clear F19 F20 F21 F22 F23
  have F31 := Lib.hid hD
  clear hC hBC hlC hD hOD hlD hb
  generalize w18.heap.size = g32 at *
  clear w24 w18
  refine takeL (.int .i64 0) rfl (by go_simp) ?_
  try simp only [Act.put, List.setIfInBounds_toArray, List.set_cons_succ, List.set_cons_zero]
  refine wpList_nil ?_
  go_upto_region 4 with fail
  refine wp_region_lit ?_
  refine takeL (.agg #[.int .u32 1, .bool false, .slice none 0 0]) rfl (exec_build _ _ _ _ 25 _ rfl #[(0, .int .u32 1)] (by simp only [List.map_toArray, List.map_cons, List.map_nil]; rfl) _ (run_build _ 25 _ _ built250)) ?_
  try simp only [Act.put, List.setIfInBounds_toArray, List.set_cons_succ, List.set_cons_zero]
  refine wpList_op rfl fun K hK => ?_
  go_simp
  refine (enc0 _).mono ?_
  rintro e w33 ⟨rfl, hb⟩
  have F34 := Lib.hid (F26.out.below hb)
  have F35 := Lib.hid (F27.out.trans (hb.mono F27.out.size))
  have F36 := Lib.hid (F28.out.below hb F28.out.lt)
  have F37 := Lib.hid (F29.out.below hb F29.out.lt)
  have F38 := Lib.hid (F30.out.below hb)
  have F39 := Lib.hid (F31.out.below hb F31.out.lt)
  clear F26 F27 F28 F29 F30 F31
  clear hb
  refine hK _ _ ?_
  clear hK K
  try simp only [Act.put, List.setIfInBounds_toArray, List.set_cons_succ, List.set_cons_zero]
  refine takeL (.tuple #[.agg (u8s (zeros 64)).toArray, .int .i64 11]) rfl (by go_simp) ?_
  try simp only [Act.put, List.setIfInBounds_toArray, List.set_cons_succ, List.set_cons_zero]
  refine takeL (.agg (u8s (zeros 64)).toArray) rfl (by go_simp) ?_
  try simp only [Act.put, List.setIfInBounds_toArray, List.set_cons_succ, List.set_cons_zero]
  refine takeL (.int .i64 11) rfl (by go_simp) ?_
  try simp only [Act.put, List.setIfInBounds_toArray, List.set_cons_succ, List.set_cons_zero]
  refine alloc_g zero27 rfl ?_
  intro w40 hC hBC hlC
  try simp only [Act.put, List.setIfInBounds_toArray, List.set_cons_succ, List.set_cons_zero]
  refine store_all (cs := (u8s (zeros 64)).toArray) hC (by rw [u8s_size, HZ64.out]; simp [zeros]) (by rw [u8s_size, HZ64.out]; exact info27) (u8s_one _) rfl rfl rfl ?_
  intro w41 hD hOD hlD
  try simp only [Act.put, List.setIfInBounds_toArray, List.set_cons_succ, List.set_cons_zero]
  have hb := hBC.trans (hOD.below hBC.size (fun k hk => Nat.le_of_eq hk.symm))
  have F42 := Lib.hid (F34.out.below hb)
  have F43 := Lib.hid (F35.out.trans (hb.mono F35.out.size))
  have F44 := Lib.hid (F36.out.below hb F36.out.lt)
  have F45 := Lib.hid (F37.out.below hb F37.out.lt)
  have F46 := Lib.hid (F38.out.below hb)
  have F47 := Lib.hid (F39.out.below hb F39.out.lt)
  clear F34 F35 F36 F37 F38 F39
  have F48 := Lib.hid hD
  clear hC hBC hlC hD hOD hlD hb
  generalize w33.heap.size = g49 at *
  clear w40 w33
  refine takeL (.int .i64 11) rfl (by go_simp) ?_
  try simp only [Act.put, List.setIfInBounds_toArray, List.set_cons_succ, List.set_cons_zero]
  refine wpList_nil ?_
  go_upto_region 5 with fail
  refine wp_region_lit ?_
  simp only [List.append_eq, List.cons_append, List.nil_append]
  refine takeL (.int .i64 0) rfl (by go_simp) ?_
  try simp only [Act.put, List.setIfInBounds_toArray, List.set_cons_succ, List.set_cons_zero]
  refine takeL (.bool true) rfl (by go_simp) ?_
  try simp only [Act.put, List.setIfInBounds_toArray, List.set_cons_succ, List.set_cons_zero]
  refine takeL (.bool true) rfl (by go_simp) ?_
  try simp only [Act.put, List.setIfInBounds_toArray, List.set_cons_succ, List.set_cons_zero]
  refine takeL (.pointer (some ⟨g17, 0, none⟩)) rfl (by go_simp) ?_
  try simp only [Act.put, List.setIfInBounds_toArray, List.set_cons_succ, List.set_cons_zero]
  refine takeL (.int .u8 83) rfl (by have hq := F45.out.cell (i := 0) (v := .int .u8 83) rfl; go_simp) ?_
  try simp only [Act.put, List.setIfInBounds_toArray, List.set_cons_succ, List.set_cons_zero]
  refine takeL (.bool true) rfl (by go_simp) ?_
  try simp only [Act.put, List.setIfInBounds_toArray, List.set_cons_succ, List.set_cons_zero]
  refine takeL (.bool true) rfl (by go_simp) ?_
  try simp only [Act.put, List.setIfInBounds_toArray, List.set_cons_succ, List.set_cons_zero]
  refine takeL (.bool true) rfl (by go_simp) ?_
  try simp only [Act.put, List.setIfInBounds_toArray, List.set_cons_succ, List.set_cons_zero]
  refine takeL (.pointer (some ⟨g17, 1, none⟩)) rfl (by go_simp) ?_
  try simp only [Act.put, List.setIfInBounds_toArray, List.set_cons_succ, List.set_cons_zero]
  refine takeL (.int .u8 1) rfl (by have hq := F45.out.cell (i := 1) (v := .int .u8 1) rfl; go_simp) ?_
  try simp only [Act.put, List.setIfInBounds_toArray, List.set_cons_succ, List.set_cons_zero]
  refine takeL (.bool true) rfl (by go_simp) ?_
  try simp only [Act.put, List.setIfInBounds_toArray, List.set_cons_succ, List.set_cons_zero]
  refine takeL (.bool true) rfl (by go_simp) ?_
  try simp only [Act.put, List.setIfInBounds_toArray, List.set_cons_succ, List.set_cons_zero]
  refine takeL (.bool true) rfl (by go_simp) ?_
  try simp only [Act.put, List.setIfInBounds_toArray, List.set_cons_succ, List.set_cons_zero]
  refine takeL (.pointer (some ⟨g17, 2, none⟩)) rfl (by go_simp) ?_
  try simp only [Act.put, List.setIfInBounds_toArray, List.set_cons_succ, List.set_cons_zero]
  refine takeL (.int .u8 2) rfl (by have hq := F45.out.cell (i := 2) (v := .int .u8 2) rfl; go_simp) ?_
  try simp only [Act.put, List.setIfInBounds_toArray, List.set_cons_succ, List.set_cons_zero]
  refine takeL (.bool true) rfl (by go_simp) ?_
  try simp only [Act.put, List.setIfInBounds_toArray, List.set_cons_succ, List.set_cons_zero]
  refine takeL (.bool true) rfl (by go_simp) ?_
  try simp only [Act.put, List.setIfInBounds_toArray, List.set_cons_succ, List.set_cons_zero]
  refine takeL (.bool true) rfl (by go_simp) ?_
  try simp only [Act.put, List.setIfInBounds_toArray, List.set_cons_succ, List.set_cons_zero]
  refine takeL (.pointer (some ⟨g17, 3, none⟩)) rfl (by go_simp) ?_
  try simp only [Act.put, List.setIfInBounds_toArray, List.set_cons_succ, List.set_cons_zero]
  refine takeL (.int .u8 1) rfl (by have hq := F45.out.cell (i := 3) (v := .int .u8 1) rfl; go_simp) ?_
  try simp only [Act.put, List.setIfInBounds_toArray, List.set_cons_succ, List.set_cons_zero]
  refine takeL (.bool true) rfl (by go_simp) ?_
  try simp only [Act.put, List.setIfInBounds_toArray, List.set_cons_succ, List.set_cons_zero]
  refine takeL (.bool true) rfl (by go_simp) ?_
  try simp only [Act.put, List.setIfInBounds_toArray, List.set_cons_succ, List.set_cons_zero]
  refine takeL (.bool true) rfl (by go_simp) ?_
  try simp only [Act.put, List.setIfInBounds_toArray, List.set_cons_succ, List.set_cons_zero]
  refine takeL (.pointer (some ⟨g17, 6, none⟩)) rfl (by go_simp) ?_
  try simp only [Act.put, List.setIfInBounds_toArray, List.set_cons_succ, List.set_cons_zero]
  refine takeL (.int .u8 2) rfl (by have hq := F45.out.cell (i := 6) (v := .int .u8 2) rfl; go_simp) ?_
  try simp only [Act.put, List.setIfInBounds_toArray, List.set_cons_succ, List.set_cons_zero]
  refine takeL (.bool true) rfl (by go_simp) ?_
  try simp only [Act.put, List.setIfInBounds_toArray, List.set_cons_succ, List.set_cons_zero]
  refine takeL (.bool true) rfl (by go_simp) ?_
  try simp only [Act.put, List.setIfInBounds_toArray, List.set_cons_succ, List.set_cons_zero]
  refine takeL (.bool true) rfl (by go_simp) ?_
  try simp only [Act.put, List.setIfInBounds_toArray, List.set_cons_succ, List.set_cons_zero]
  refine takeL (.pointer (some ⟨g17, 7, none⟩)) rfl (by go_simp) ?_
  try simp only [Act.put, List.setIfInBounds_toArray, List.set_cons_succ, List.set_cons_zero]
  refine takeL (.int .u8 1) rfl (by have hq := F45.out.cell (i := 7) (v := .int .u8 1) rfl; go_simp) ?_
  try simp only [Act.put, List.setIfInBounds_toArray, List.set_cons_succ, List.set_cons_zero]
  refine takeL (.bool true) rfl (by go_simp) ?_
  try simp only [Act.put, List.setIfInBounds_toArray, List.set_cons_succ, List.set_cons_zero]
  refine takeL (.bool true) rfl (by go_simp) ?_
  try simp only [Act.put, List.setIfInBounds_toArray, List.set_cons_succ, List.set_cons_zero]
  refine takeL (.bool true) rfl (by go_simp) ?_
  try simp only [Act.put, List.setIfInBounds_toArray, List.set_cons_succ, List.set_cons_zero]
  refine takeL (.pointer (some ⟨g17, 8, none⟩)) rfl (by go_simp) ?_
  try simp only [Act.put, List.setIfInBounds_toArray, List.set_cons_succ, List.set_cons_zero]
  refine takeL (.int .u8 9) rfl (by have hq := F45.out.cell (i := 8) (v := .int .u8 9) rfl; go_simp) ?_
  try simp only [Act.put, List.setIfInBounds_toArray, List.set_cons_succ, List.set_cons_zero]
  refine takeL (.bool true) rfl (by go_simp) ?_
  try simp only [Act.put, List.setIfInBounds_toArray, List.set_cons_succ, List.set_cons_zero]
  refine takeL (.bool true) rfl (by go_simp) ?_
  try simp only [Act.put, List.setIfInBounds_toArray, List.set_cons_succ, List.set_cons_zero]
  refine takeL (.bool true) rfl (by go_simp) ?_
  try simp only [Act.put, List.setIfInBounds_toArray, List.set_cons_succ, List.set_cons_zero]
  refine takeL (.pointer (some ⟨g17, 9, none⟩)) rfl (by go_simp) ?_
  try simp only [Act.put, List.setIfInBounds_toArray, List.set_cons_succ, List.set_cons_zero]
  refine takeL (.int .u8 5) rfl (by have hq := F45.out.cell (i := 9) (v := .int .u8 5) rfl; go_simp) ?_
  try simp only [Act.put, List.setIfInBounds_toArray, List.set_cons_succ, List.set_cons_zero]
  refine takeL (.bool true) rfl (by go_simp) ?_
  try simp only [Act.put, List.setIfInBounds_toArray, List.set_cons_succ, List.set_cons_zero]
  refine takeL (.bool true) rfl (by go_simp) ?_
  try simp only [Act.put, List.setIfInBounds_toArray, List.set_cons_succ, List.set_cons_zero]
  refine takeL (.bool true) rfl (by go_simp) ?_
  try simp only [Act.put, List.setIfInBounds_toArray, List.set_cons_succ, List.set_cons_zero]
  refine takeL (.int .i64 0) rfl (by go_simp) ?_
  try simp only [Act.put, List.setIfInBounds_toArray, List.set_cons_succ, List.set_cons_zero]
  refine takeL (.bool true) rfl (by go_simp) ?_
  try simp only [Act.put, List.setIfInBounds_toArray, List.set_cons_succ, List.set_cons_zero]
  refine takeL (.bool true) rfl (by go_simp) ?_
  try simp only [Act.put, List.setIfInBounds_toArray, List.set_cons_succ, List.set_cons_zero]
  refine takeL (.bool true) rfl (by go_simp) ?_
  try simp only [Act.put, List.setIfInBounds_toArray, List.set_cons_succ, List.set_cons_zero]
  refine takeL (.pointer (some ⟨g32, 0, none⟩)) rfl (by go_simp) ?_
  try simp only [Act.put, List.setIfInBounds_toArray, List.set_cons_succ, List.set_cons_zero]
  refine takeL (.int .u32 258) rfl (by have hq := F47.out.cell (i := 0) (v := .int .u32 258) rfl; go_simp) ?_
  try simp only [Act.put, List.setIfInBounds_toArray, List.set_cons_succ, List.set_cons_zero]
  refine takeL (.bool true) rfl (by go_simp) ?_
  try simp only [Act.put, List.setIfInBounds_toArray, List.set_cons_succ, List.set_cons_zero]
  refine takeL (.bool true) rfl (by go_simp) ?_
  try simp only [Act.put, List.setIfInBounds_toArray, List.set_cons_succ, List.set_cons_zero]
  refine takeL (.bool true) rfl (by go_simp) ?_
  try simp only [Act.put, List.setIfInBounds_toArray, List.set_cons_succ, List.set_cons_zero]
  refine takeL (.pointer (some ⟨g32, 1, none⟩)) rfl (by go_simp) ?_
  try simp only [Act.put, List.setIfInBounds_toArray, List.set_cons_succ, List.set_cons_zero]
  refine takeL (.bool true) rfl (by have hq := F47.out.cell (i := 1) (v := .bool true) rfl; go_simp) ?_
  try simp only [Act.put, List.setIfInBounds_toArray, List.set_cons_succ, List.set_cons_zero]
  refine takeL (.bool true) rfl (by go_simp) ?_
  try simp only [Act.put, List.setIfInBounds_toArray, List.set_cons_succ, List.set_cons_zero]
  refine takeL (.bool true) rfl (by go_simp) ?_
  try simp only [Act.put, List.setIfInBounds_toArray, List.set_cons_succ, List.set_cons_zero]
  refine takeL (.pointer (some ⟨g32, 2, none⟩)) rfl (by go_simp) ?_
  try simp only [Act.put, List.setIfInBounds_toArray, List.set_cons_succ, List.set_cons_zero]
  refine takeL (sv2) rfl (by have hq := F47.out.cell (i := 2) (v := sv2) rfl; go_simp) ?_
  try simp only [Act.put, List.setIfInBounds_toArray, List.set_cons_succ, List.set_cons_zero]
  refine takeL (.pointer (some ⟨g6, 2, none⟩)) rfl (by go_simp) ?_
  try simp only [Act.put, List.setIfInBounds_toArray, List.set_cons_succ, List.set_cons_zero]
  refine takeL (sv) rfl (by have hq := F44.out.cell (i := 2) (v := sv) rfl; go_simp) ?_
  try simp only [Act.put, List.setIfInBounds_toArray, List.set_cons_succ, List.set_cons_zero]
  refine wpList_op rfl fun K hK => ?_
  go_simp
  refine (keepX sv2 sv _ F46.out F42.out).mono ?_
  rintro e w50 ⟨rfl, hb⟩
  have F51 := Lib.hid (F42.out.below hb)
  have F52 := Lib.hid (F43.out.trans (hb.mono F43.out.size))
  have F53 := Lib.hid (F44.out.below hb F44.out.lt)
  have F54 := Lib.hid (F45.out.below hb F45.out.lt)
  have F55 := Lib.hid (F46.out.below hb)
  have F56 := Lib.hid (F47.out.below hb F47.out.lt)
  have F57 := Lib.hid (F48.out.below hb F48.out.lt)
  clear F42 F43 F44 F45 F46 F47 F48
  clear hb
  refine hK _ _ ?_
  clear hK K
  try simp only [Act.put, List.setIfInBounds_toArray, List.set_cons_succ, List.set_cons_zero]
  refine takeL (.bool true) rfl (by go_simp) ?_
  try simp only [Act.put, List.setIfInBounds_toArray, List.set_cons_succ, List.set_cons_zero]
  refine takeL (.bool true) rfl (by go_simp) ?_
  try simp only [Act.put, List.setIfInBounds_toArray, List.set_cons_succ, List.set_cons_zero]
  refine takeL (.int .i64 11) rfl (by go_simp) ?_
  try simp only [Act.put, List.setIfInBounds_toArray, List.set_cons_succ, List.set_cons_zero]
  refine takeL (.bool true) rfl (by go_simp) ?_
  try simp only [Act.put, List.setIfInBounds_toArray, List.set_cons_succ, List.set_cons_zero]
  refine takeL (.bool true) rfl (by go_simp) ?_
  try simp only [Act.put, List.setIfInBounds_toArray, List.set_cons_succ, List.set_cons_zero]
  refine takeL (.bool true) rfl (by go_simp) ?_
  try simp only [Act.put, List.setIfInBounds_toArray, List.set_cons_succ, List.set_cons_zero]
  refine takeL (.pointer (some ⟨g6, 2, none⟩)) rfl (by go_simp) ?_
  try simp only [Act.put, List.setIfInBounds_toArray, List.set_cons_succ, List.set_cons_zero]
  refine takeL (sv) rfl (by have hq := F53.out.cell (i := 2) (v := sv) rfl; go_simp) ?_
  try simp only [Act.put, List.setIfInBounds_toArray, List.set_cons_succ, List.set_cons_zero]
  refine wpList_op rfl fun K hK => ?_
  go_simp
  refine (blocksX sv _ F51.out).mono ?_
  rintro e w58 ⟨rfl, hb⟩
  have F59 := Lib.hid (F51.out.below hb)
  have F60 := Lib.hid (F52.out.trans (hb.mono F52.out.size))
  have F61 := Lib.hid (F53.out.below hb F53.out.lt)
  have F62 := Lib.hid (F54.out.below hb F54.out.lt)
  have F63 := Lib.hid (F55.out.below hb)
  have F64 := Lib.hid (F56.out.below hb F56.out.lt)
  have F65 := Lib.hid (F57.out.below hb F57.out.lt)
  clear F51 F52 F53 F54 F55 F56 F57
  clear hb
  refine hK _ _ ?_
  clear hK K
  try simp only [Act.put, List.setIfInBounds_toArray, List.set_cons_succ, List.set_cons_zero]
  refine takeL (.bool true) rfl (by go_simp) ?_
  try simp only [Act.put, List.setIfInBounds_toArray, List.set_cons_succ, List.set_cons_zero]
  refine takeL (.bool true) rfl (by go_simp) ?_
  try simp only [Act.put, List.setIfInBounds_toArray, List.set_cons_succ, List.set_cons_zero]
  refine takeL (.bool true) rfl (by go_simp) ?_
  try simp only [Act.put, List.setIfInBounds_toArray, List.set_cons_succ, List.set_cons_zero]
  refine wpList_nil ?_
  go_wp2_with fail
  go_ret
  exact ⟨rfl, F60.out⟩
end Go.Proofs.Ytfhpmhigfhnbaaa
