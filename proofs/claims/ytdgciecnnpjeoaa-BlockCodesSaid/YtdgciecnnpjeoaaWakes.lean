/- The statements' first calls: what ordinary blocks come to. -/
import Derived.Test.YtdgciecnnpjeoaaKeep
namespace Go.Proofs.Ytdgciecnnpjeoaa
open Go.RowKit

def bD : Bk := ⟨2, 5, zeros 32, 3, [7, 8], 258, zeros 8⟩
def sD : List Int := [2, 5, 1, 2, 0, 0, 3, 2, 7, 8, 0, 0, 0, 0, 0, 0, 0, 0, 0, 0, 0, 0, 0, 0, 2, 1, 0, 0, 0, 0, 0, 0, 0, 0, 0, 0, 0, 0, 0, 0, 0, 0, 0, 0, 0, 0, 0, 0, 0, 0, 0, 0, 0, 0, 0, 0, 0, 0, 0, 0, 0, 0, 0, 0]
def bX : Bk := ⟨1, 64, zeros 32, 0, [], 0, zeros 8⟩
theorem zeros_byte (n : Nat) : ∀ x ∈ zeros n, Byte x := fun x hx => by
  rw [List.eq_of_mem_replicate hx]
  exact ⟨by decide, by decide⟩
theorem zeros_small (n : Nat) : ∀ x ∈ zeros n, Small x := fun x hx => by
  rw [List.eq_of_mem_replicate hx]
  exact small0
theorem bD_wf : bD.Wf := ⟨⟨by decide, by decide⟩, ⟨by decide, by decide⟩, ⟨by decide, by decide⟩, ⟨by decide, by decide⟩, rfl, zeros_byte 32, by decide, (fun x hx => by
  simp only [bD, List.mem_cons, List.not_mem_nil, or_false] at hx
  rcases hx with rfl | rfl
  · exact ⟨by decide, by decide⟩
  · exact ⟨by decide, by decide⟩), rfl, zeros_small 8⟩
theorem bX_wf : bX.Wf := ⟨⟨by decide, by decide⟩, ⟨by decide, by decide⟩, ⟨by decide, by decide⟩, ⟨by decide, by decide⟩, rfl, zeros_byte 32, by decide, (fun x hx => by cases hx), rfl, zeros_small 8⟩
theorem bD_good : bD.good = true := by kernel_rfl
theorem bD_enc : bD.enc 513 = sD := by kernel_rfl
theorem bD_sec : bD.sec 513 = sD := by kernel_rfl
theorem bD_err : bD.err = 0 := by kernel_rfl
theorem bX_err : bX.err = 11 := by kernel_rfl
theorem sD_sc : Sc sD := by rw [← bD_enc]; exact enc_sc bD_good bD_wf 513
theorem sD_is : isBlock sD = true := by rw [← bD_enc]; exact isBlock_enc bD_good bD_wf 513 (by decide)
theorem sD_read : readOf sD = bD ∧ seqOf sD = 513 := by rw [← bD_enc]; exact read_enc bD_good bD_wf 513 (by decide)
theorem sD_dec : decB sD = bD ∧ decN sD = 513 ∧ decE sD = 0 := by
  unfold decB decN decE
  rw [sD_is]
  exact ⟨sD_read.1, sD_read.2, rfl⟩
theorem zeros_sc : Sc (zeros 64) := ⟨rfl, zeros_byte 64⟩
theorem zeros_dec : decB (zeros 64) = Bk.none ∧ decN (zeros 64) = 0 ∧ decE (zeros 64) = 11 := by
  have h : isBlock (zeros 64) = false := by kernel_rfl
  unfold decB decN decE
  rw [h]
  exact ⟨rfl, rfl, rfl⟩
theorem zero41 : (Try.prog.info? 41).bind (·.zero) = some (.agg (Bk.none.arr nilv ++ #[.int .u32 0, .int .i64 0])) := by kernel_rfl
theorem built27D (a : Option Addr) : Try.prog.built 27 [(0, .int .i64 2), (1, .int .i64 5), (3, .int .i64 3), (4, .slice a 2 2), (5, .int .i64 258)] = some (bD.arr (.slice a 2 2)) := by kernel_rfl
theorem build27D (a : Option Addr) (w : World) : (Instr.build 27 #[(0, .int .i64 2), (1, .int .i64 5), (3, .int .i64 3), (4, .slice a 2 2), (5, .int .i64 258)]).run Try.prog w = .ok (.agg (bD.arr (.slice a 2 2))) w := run_build w 27 _ _ (built27D a)
theorem built27X : Try.prog.built 27 [(0, .int .i64 1), (1, .int .i64 64)] = some (bX.arr nilv) := by kernel_rfl
theorem build27X (w : World) : (Instr.build 27 #[(0, .int .i64 1), (1, .int .i64 64)]).run Try.prog w = .ok (.agg (bX.arr nilv)) w := run_build w 27 _ _ built27X
theorem encD (sv : Value) (w : World) (h : BytesAt w sv [7, 8]) : Calls Try.prog 10 #[.agg (bD.arr sv), .int .u32 513] w fun e w' => e = .returned (.tuple #[.agg (u8s sD).toArray, .int .i64 0]) ∧ Below w.heap.size w w' := by
  have := encode_any bD sv 513 w h bD_wf (by decide)
  rwa [bD_sec, bD_err] at this
theorem encX (w : World) : Calls Try.prog 10 #[.agg (bX.arr nilv), .int .u32 1] w fun e w' => e = .returned (.tuple #[.agg (u8s (zeros 64)).toArray, .int .i64 11]) ∧ Below w.heap.size w w' := by
  have := encode_any bX nilv 1 w (BytesAt.nil _ _ _) bX_wf (by decide)
  rwa [show bX.sec 1 = zeros 64 by kernel_rfl, bX_err] at this
theorem decD (w : World) : Calls Try.prog 12 #[.agg (u8s sD).toArray] w fun e w' => ∃ sv, e = .returned (.tuple #[.agg (bD.arr sv), .int .u32 513, .int .i64 0]) ∧ BytesAt w' sv [7, 8] ∧ Below w.heap.size w w' := by
  have := decode_any sD sD_sc w
  rwa [sD_dec.1, sD_dec.2.1, sD_dec.2.2] at this
theorem dec0 (w : World) : Calls Try.prog 12 #[.agg (u8s (zeros 64)).toArray] w fun e w' => ∃ sv, e = .returned (.tuple #[.agg (Bk.none.arr sv), .int .u32 0, .int .i64 11]) ∧ BytesAt w' sv [] ∧ Below w.heap.size w w' := by
  have := decode_any (zeros 64) zeros_sc w
  rwa [zeros_dec.1, zeros_dec.2.1, zeros_dec.2.2] at this
theorem bD_same0 : bD.same bD = true := (Bk.same_iff _ _).2 rfl
theorem goodD (sv : Value) (h : Len sv 2) (w : World) : Calls Try.prog 14 #[.agg (bD.arr sv)] w fun e w' => e = .returned (.bool true) ∧ Below w.heap.size w w' := by
  have := good_any bD sv h bD_wf w
  rwa [bD_good] at this
theorem blockD (sv cv : Value) (w : World) (h : BytesAt w sv [7, 8]) (k : BytesAt w cv [7, 8]) : Calls Try.prog 16 #[.agg (bD.arr sv), .agg (bD.arr cv)] w fun e w' => e = .returned (.bool true) ∧ Below w.heap.size w w' := by
  have := block_any bD bD sv cv bD_wf bD_wf w h k
  rwa [bD_same0] at this
theorem bD_same : bD.same bD = true := (Bk.same_iff _ _).2 rfl

set_option maxRecDepth 100000 in
theorem wakes_any (w : World) : Calls Try.prog 8 #[] w fun e w' => e = .returned (.bool true) ∧ Below w.heap.size w w' := by
  have HSB := Lib.hid fun sv => bD.arr_size bD_wf sv
  have HS64 : Hid ((u8s sD).toArray.size = 64) := Lib.hid rfl
  have HZ64 : Hid ((u8s (zeros 64)).toArray.size = 64) := Lib.hid rfl
  have HSN := Lib.hid fun sv => Bk.none.arr_size none_wf sv
  go_enter Try.func8, Try.ntmps8
  repeat (first | (with_reducible refine stopR (id := 1) ?_) | go_values | go_skip | go_guarded | go_step | go_upon | go_back)
  refine Stop.mk (wp_region_lit ?_)
  refine wpList_run (.slice (some ⟨w.heap.size, 0, none⟩) 2 2) (w.alloc (.cells #[.int .u8 7, .int .u8 8] 5)) rfl (by go_simp) ?_
  try simp only [Act.put, List.setIfInBounds_toArray, List.set_cons_succ, List.set_cons_zero]
  have hq := Blk.new w #[.int .u8 7, .int .u8 8] 5
  have FBY : Hid (BytesAt (w.alloc (.cells #[.int .u8 7, .int .u8 8] 5)) (.slice (some ⟨w.heap.size, 0, none⟩) 2 2) [7, 8]) := Lib.hid (BytesAt.of_blk (l := [7, 8]) hq)
  have FBL : Hid (Below w.heap.size w (w.alloc (.cells #[.int .u8 7, .int .u8 8] 5))) := Lib.hid ((Below.refl _ _).alloc (Nat.le_refl _) _)
  clear hq
  generalize hsv : (Value.slice (some ⟨w.heap.size, 0, none⟩) 2 2) = sv at *
  generalize w.alloc (.cells #[.int .u8 7, .int .u8 8] 5) = wq at *
  have HSV := Lib.hid hsv
  clear hsv
  refine takeL (.agg (bD.arr sv)) rfl (by rw [← HSV.out]; exact exec_build _ _ _ _ 27 _ rfl #[(0, .int .i64 2), (1, .int .i64 5), (3, .int .i64 3), (4, .slice (some ⟨w.heap.size, 0, none⟩) 2 2), (5, .int .i64 258)] (by rw [HSV.out]; simp only [List.map_toArray, List.map_cons, List.map_nil]; rfl) _ (build27D _ _)) ?_
  try simp only [Act.put, List.setIfInBounds_toArray, List.set_cons_succ, List.set_cons_zero]
  have HSBv := Lib.hid (HSB.out sv)
  refine alloc_g zero27b rfl ?_
  intro w1 hC hBC hlC
  try simp only [Act.put, List.setIfInBounds_toArray, List.set_cons_succ, List.set_cons_zero]
  refine store_all (cs := (bD.arr sv)) hC (by rw [HSBv.out]; rfl) (by rw [HSBv.out]; exact info27) (arr_form _ FBY.out) rfl rfl rfl ?_
  intro w2 hD hOD hlD
  try simp only [Act.put, List.setIfInBounds_toArray, List.set_cons_succ, List.set_cons_zero]
  have hb := hBC.trans (hOD.below hBC.size (fun k hk => Nat.le_of_eq hk.symm))
  have F3 := Lib.hid (FBY.out.below hb)
  have F4 := Lib.hid (FBL.out.trans (hb.mono FBL.out.size))
  clear FBY FBL
  have F5 := Lib.hid (show BAt _ _ bD sv from ⟨hD, bD_wf⟩)
  clear hC hBC hlC hD hOD hlD hb
  generalize wq.heap.size = g6 at *
  clear w1 wq
  refine wpList_nil ?_
  repeat (first | (with_reducible refine stopR (id := 2) ?_) | go_values | go_skip | go_guarded | go_step | go_upon | go_back)
  refine Stop.mk (wp_region_lit ?_)
  refine load27 (cs := (bD.arr sv)) F5.out.all HSBv.out rfl rfl ?_
  try simp only [Act.put, List.setIfInBounds_toArray, List.set_cons_succ, List.set_cons_zero]
  refine wpList_op rfl fun K hK => ?_
  go_simp
  refine (encD sv _ F3.out).mono ?_
  rintro e w7 ⟨rfl, hb⟩
  have F8 := Lib.hid (F3.out.below hb)
  have F9 := Lib.hid (F4.out.trans (hb.mono F4.out.size))
  have F10 := Lib.hid (F5.out.below hb F5.out.lt)
  clear F3 F4 F5
  clear hb
  refine hK _ _ ?_
  clear hK K
  try simp only [Act.put, List.setIfInBounds_toArray, List.set_cons_succ, List.set_cons_zero]
  refine takeL (.tuple #[.agg (u8s sD).toArray, .int .i64 0]) rfl (by go_simp) ?_
  try simp only [Act.put, List.setIfInBounds_toArray, List.set_cons_succ, List.set_cons_zero]
  refine takeL (.agg (u8s sD).toArray) rfl (by go_simp) ?_
  try simp only [Act.put, List.setIfInBounds_toArray, List.set_cons_succ, List.set_cons_zero]
  refine takeL (.int .i64 0) rfl (by go_simp) ?_
  try simp only [Act.put, List.setIfInBounds_toArray, List.set_cons_succ, List.set_cons_zero]
  refine alloc_g zero30 rfl ?_
  intro w11 hC hBC hlC
  try simp only [Act.put, List.setIfInBounds_toArray, List.set_cons_succ, List.set_cons_zero]
  refine store_all (cs := (u8s sD).toArray) hC (by rw [HS64.out]; simp [zeros]) (by rw [HS64.out]; exact info30) (u8s_one _) rfl rfl rfl ?_
  intro w12 hD hOD hlD
  try simp only [Act.put, List.setIfInBounds_toArray, List.set_cons_succ, List.set_cons_zero]
  have hb := hBC.trans (hOD.below hBC.size (fun k hk => Nat.le_of_eq hk.symm))
  have F13 := Lib.hid (F8.out.below hb)
  have F14 := Lib.hid (F9.out.trans (hb.mono F9.out.size))
  have F15 := Lib.hid (F10.out.below hb F10.out.lt)
  clear F8 F9 F10
  have F16 := Lib.hid hD
  clear hC hBC hlC hD hOD hlD hb
  generalize w7.heap.size = g17 at *
  clear w11 w7
  refine takeL (.int .i64 0) rfl (by go_simp) ?_
  try simp only [Act.put, List.setIfInBounds_toArray, List.set_cons_succ, List.set_cons_zero]
  refine wpList_nil ?_
  repeat (first | (with_reducible refine stopR (id := 3) ?_) | go_values | go_skip | go_guarded | go_step | go_upon | go_back)
  refine Stop.mk (wp_region_lit ?_)
  refine load30 (cs := (u8s sD).toArray) (Blk.all F16.out rfl) HS64.out rfl rfl ?_
  try simp only [Act.put, List.setIfInBounds_toArray, List.set_cons_succ, List.set_cons_zero]
  refine wpList_op rfl fun K hK => ?_
  go_simp
  refine (decD _).mono ?_
  rintro e w18 ⟨sv2, rfl, hby, hb⟩
  have F19 := Lib.hid (F13.out.below hb)
  have F20 := Lib.hid (F14.out.trans (hb.mono F14.out.size))
  have F21 := Lib.hid (F15.out.below hb F15.out.lt)
  have F22 := Lib.hid (F16.out.below hb F16.out.lt)
  clear F13 F14 F15 F16
  have F23 := Lib.hid hby
  clear hb hby
  refine hK _ _ ?_
  clear hK K
  try simp only [Act.put, List.setIfInBounds_toArray, List.set_cons_succ, List.set_cons_zero]
  refine takeL (.tuple #[.agg (bD.arr sv2), .int .u32 513, .int .i64 0]) rfl (by go_simp) ?_
  try simp only [Act.put, List.setIfInBounds_toArray, List.set_cons_succ, List.set_cons_zero]
  refine takeL (.agg (bD.arr sv2)) rfl (by go_simp) ?_
  try simp only [Act.put, List.setIfInBounds_toArray, List.set_cons_succ, List.set_cons_zero]
  refine takeL (.int .u32 513) rfl (by go_simp) ?_
  try simp only [Act.put, List.setIfInBounds_toArray, List.set_cons_succ, List.set_cons_zero]
  refine takeL (.int .i64 0) rfl (by go_simp) ?_
  try simp only [Act.put, List.setIfInBounds_toArray, List.set_cons_succ, List.set_cons_zero]
  refine alloc_g zero27b rfl ?_
  intro w24 hC hBC hlC
  try simp only [Act.put, List.setIfInBounds_toArray, List.set_cons_succ, List.set_cons_zero]
  have HSB2 := Lib.hid (HSB.out sv2)
  refine store_all (cs := (bD.arr sv2)) hC (by rw [HSB2.out]; rfl) (by rw [HSB2.out]; exact info27) (arr_form _ F23.out) rfl rfl rfl ?_
  intro w25 hD hOD hlD
  try simp only [Act.put, List.setIfInBounds_toArray, List.set_cons_succ, List.set_cons_zero]
  have hb := hBC.trans (hOD.below hBC.size (fun k hk => Nat.le_of_eq hk.symm))
  have F26 := Lib.hid (F19.out.below hb)
  have F27 := Lib.hid (F20.out.trans (hb.mono F20.out.size))
  have F28 := Lib.hid (F21.out.below hb F21.out.lt)
  have F29 := Lib.hid (F22.out.below hb F22.out.lt)
  have F30 := Lib.hid (F23.out.below hb)
  clear F19 F20 F21 F22 F23
  have F31 := Lib.hid (show BAt _ _ bD sv2 from ⟨hD, bD_wf⟩)
  clear hC hBC hlC hD hOD hlD hb
  generalize w18.heap.size = g32 at *
  clear w24 w18
  refine takeL (.int .u32 513) rfl (by go_simp) ?_
  try simp only [Act.put, List.setIfInBounds_toArray, List.set_cons_succ, List.set_cons_zero]
  refine takeL (.int .i64 0) rfl (by go_simp) ?_
  try simp only [Act.put, List.setIfInBounds_toArray, List.set_cons_succ, List.set_cons_zero]
  refine wpList_nil ?_
  repeat (first | (with_reducible refine stopR (id := 4) ?_) | go_values | go_skip | go_guarded | go_step | go_upon | go_back)
  refine Stop.mk (wp_region_lit ?_)
  refine build_g (build30 _) rfl ?_
  try simp only [Act.put, List.setIfInBounds_toArray, List.set_cons_succ, List.set_cons_zero]
  refine wpList_op rfl fun K hK => ?_
  go_simp
  refine (dec0 _).mono ?_
  rintro e w33 ⟨sv3, rfl, hby, hb⟩
  have F34 := Lib.hid (F26.out.below hb)
  have F35 := Lib.hid (F27.out.trans (hb.mono F27.out.size))
  have F36 := Lib.hid (F28.out.below hb F28.out.lt)
  have F37 := Lib.hid (F29.out.below hb F29.out.lt)
  have F38 := Lib.hid (F30.out.below hb)
  have F39 := Lib.hid (F31.out.below hb F31.out.lt)
  clear F26 F27 F28 F29 F30 F31
  have F40 := Lib.hid hby
  clear hb hby
  refine hK _ _ ?_
  clear hK K
  try simp only [Act.put, List.setIfInBounds_toArray, List.set_cons_succ, List.set_cons_zero]
  refine takeL (.tuple #[.agg (Bk.none.arr sv3), .int .u32 0, .int .i64 11]) rfl (by go_simp) ?_
  try simp only [Act.put, List.setIfInBounds_toArray, List.set_cons_succ, List.set_cons_zero]
  refine takeL (.agg (Bk.none.arr sv3)) rfl (by go_simp) ?_
  try simp only [Act.put, List.setIfInBounds_toArray, List.set_cons_succ, List.set_cons_zero]
  refine takeL (.int .u32 0) rfl (by go_simp) ?_
  try simp only [Act.put, List.setIfInBounds_toArray, List.set_cons_succ, List.set_cons_zero]
  refine takeL (.int .i64 11) rfl (by go_simp) ?_
  try simp only [Act.put, List.setIfInBounds_toArray, List.set_cons_succ, List.set_cons_zero]
  refine alloc_g zero27b rfl ?_
  intro w41 hC hBC hlC
  try simp only [Act.put, List.setIfInBounds_toArray, List.set_cons_succ, List.set_cons_zero]
  have HSB3 := Lib.hid (HSN.out sv3)
  refine store_all (cs := (Bk.none.arr sv3)) hC (by rw [HSB3.out]; rfl) (by rw [HSB3.out]; exact info27) (arr_form _ F40.out) rfl rfl rfl ?_
  intro w42 hD hOD hlD
  try simp only [Act.put, List.setIfInBounds_toArray, List.set_cons_succ, List.set_cons_zero]
  have hb := hBC.trans (hOD.below hBC.size (fun k hk => Nat.le_of_eq hk.symm))
  have F43 := Lib.hid (F34.out.below hb)
  have F44 := Lib.hid (F35.out.trans (hb.mono F35.out.size))
  have F45 := Lib.hid (F36.out.below hb F36.out.lt)
  have F46 := Lib.hid (F37.out.below hb F37.out.lt)
  have F47 := Lib.hid (F38.out.below hb)
  have F48 := Lib.hid (F39.out.below hb F39.out.lt)
  have F49 := Lib.hid (F40.out.below hb)
  clear F34 F35 F36 F37 F38 F39 F40
  have F50 := Lib.hid (show BAt _ _ Bk.none sv3 from ⟨hD, none_wf⟩)
  clear hC hBC hlC hD hOD hlD hb
  generalize w33.heap.size = g51 at *
  clear w41 w33
  refine takeL (.int .u32 0) rfl (by go_simp) ?_
  try simp only [Act.put, List.setIfInBounds_toArray, List.set_cons_succ, List.set_cons_zero]
  refine takeL (.int .i64 11) rfl (by go_simp) ?_
  try simp only [Act.put, List.setIfInBounds_toArray, List.set_cons_succ, List.set_cons_zero]
  refine wpList_nil ?_
  repeat (first | (with_reducible refine stopR (id := 5) ?_) | go_values | go_skip | go_guarded | go_step | go_upon | go_back)
  refine Stop.mk (wp_region_lit ?_)
  refine takeL (.agg (bX.arr nilv)) rfl (exec_build _ _ _ _ 27 _ rfl #[(0, .int .i64 1), (1, .int .i64 64)] (by simp only [List.map_toArray, List.map_cons, List.map_nil]; rfl) _ (build27X _)) ?_
  try simp only [Act.put, List.setIfInBounds_toArray, List.set_cons_succ, List.set_cons_zero]
  refine wpList_op rfl fun K hK => ?_
  go_simp
  refine (encX _).mono ?_
  rintro e w52 ⟨rfl, hb⟩
  have F53 := Lib.hid (F43.out.below hb)
  have F54 := Lib.hid (F44.out.trans (hb.mono F44.out.size))
  have F55 := Lib.hid (F45.out.below hb F45.out.lt)
  have F56 := Lib.hid (F46.out.below hb F46.out.lt)
  have F57 := Lib.hid (F47.out.below hb)
  have F58 := Lib.hid (F48.out.below hb F48.out.lt)
  have F59 := Lib.hid (F49.out.below hb)
  have F60 := Lib.hid (F50.out.below hb F50.out.lt)
  clear F43 F44 F45 F46 F47 F48 F49 F50
  clear hb
  refine hK _ _ ?_
  clear hK K
  try simp only [Act.put, List.setIfInBounds_toArray, List.set_cons_succ, List.set_cons_zero]
  refine takeL (.tuple #[.agg (u8s (zeros 64)).toArray, .int .i64 11]) rfl (by go_simp) ?_
  try simp only [Act.put, List.setIfInBounds_toArray, List.set_cons_succ, List.set_cons_zero]
  refine takeL (.agg (u8s (zeros 64)).toArray) rfl (by go_simp) ?_
  try simp only [Act.put, List.setIfInBounds_toArray, List.set_cons_succ, List.set_cons_zero]
  refine takeL (.int .i64 11) rfl (by go_simp) ?_
  try simp only [Act.put, List.setIfInBounds_toArray, List.set_cons_succ, List.set_cons_zero]
  refine alloc_g zero30 rfl ?_
  intro w61 hC hBC hlC
  try simp only [Act.put, List.setIfInBounds_toArray, List.set_cons_succ, List.set_cons_zero]
  refine store_all (cs := (u8s (zeros 64)).toArray) hC (by rw [HZ64.out]; simp [zeros]) (by rw [HZ64.out]; exact info30) (u8s_one _) rfl rfl rfl ?_
  intro w62 hD hOD hlD
  try simp only [Act.put, List.setIfInBounds_toArray, List.set_cons_succ, List.set_cons_zero]
  have hb := hBC.trans (hOD.below hBC.size (fun k hk => Nat.le_of_eq hk.symm))
  have F63 := Lib.hid (F53.out.below hb)
  have F64 := Lib.hid (F54.out.trans (hb.mono F54.out.size))
  have F65 := Lib.hid (F55.out.below hb F55.out.lt)
  have F66 := Lib.hid (F56.out.below hb F56.out.lt)
  have F67 := Lib.hid (F57.out.below hb)
  have F68 := Lib.hid (F58.out.below hb F58.out.lt)
  have F69 := Lib.hid (F59.out.below hb)
  have F70 := Lib.hid (F60.out.below hb F60.out.lt)
  clear F53 F54 F55 F56 F57 F58 F59 F60
  have F71 := Lib.hid hD
  clear hC hBC hlC hD hOD hlD hb
  generalize w52.heap.size = g72 at *
  clear w61 w52
  refine takeL (.int .i64 11) rfl (by go_simp) ?_
  try simp only [Act.put, List.setIfInBounds_toArray, List.set_cons_succ, List.set_cons_zero]
  refine wpList_nil ?_
  repeat (first | (with_reducible refine stopR (id := 6) ?_) | go_values | go_skip | go_guarded | go_step | go_upon | go_back)
  refine Stop.mk (wp_region_lit ?_)
  simp only [List.append_eq, List.cons_append, List.nil_append]
  have HSM := Lib.hid (show bD.same bD = true from bD_same)
  have HGM := Lib.hid bD_good
  refine takeL (.int .i64 0) rfl (by go_simp) ?_
  try simp only [Act.put, List.setIfInBounds_toArray, List.set_cons_succ, List.set_cons_zero]
  refine takeL (.bool true) rfl (by go_simp) ?_
  try simp only [Act.put, List.setIfInBounds_toArray, List.set_cons_succ, List.set_cons_zero]
  refine takeL (.bool true) rfl (by go_simp) ?_
  try simp only [Act.put, List.setIfInBounds_toArray, List.set_cons_succ, List.set_cons_zero]
  refine takeL (.pointer (some ⟨g17, 0, none⟩)) rfl (by go_simp) ?_
  try simp only [Act.put, List.setIfInBounds_toArray, List.set_cons_succ, List.set_cons_zero]
  refine takeL (.int .u8 2) rfl (by have hq := F66.out.cell (i := 0) (v := .int .u8 2) rfl; go_simp) ?_
  try simp only [Act.put, List.setIfInBounds_toArray, List.set_cons_succ, List.set_cons_zero]
  refine takeL (.bool true) rfl (by go_simp) ?_
  try simp only [Act.put, List.setIfInBounds_toArray, List.set_cons_succ, List.set_cons_zero]
  refine takeL (.bool true) rfl (by go_simp) ?_
  try simp only [Act.put, List.setIfInBounds_toArray, List.set_cons_succ, List.set_cons_zero]
  refine takeL (.bool true) rfl (by go_simp) ?_
  try simp only [Act.put, List.setIfInBounds_toArray, List.set_cons_succ, List.set_cons_zero]
  refine takeL (.pointer (some ⟨g17, 1, none⟩)) rfl (by go_simp) ?_
  try simp only [Act.put, List.setIfInBounds_toArray, List.set_cons_succ, List.set_cons_zero]
  refine takeL (.int .u8 5) rfl (by have hq := F66.out.cell (i := 1) (v := .int .u8 5) rfl; go_simp) ?_
  try simp only [Act.put, List.setIfInBounds_toArray, List.set_cons_succ, List.set_cons_zero]
  refine takeL (.bool true) rfl (by go_simp) ?_
  try simp only [Act.put, List.setIfInBounds_toArray, List.set_cons_succ, List.set_cons_zero]
  refine takeL (.bool true) rfl (by go_simp) ?_
  try simp only [Act.put, List.setIfInBounds_toArray, List.set_cons_succ, List.set_cons_zero]
  refine takeL (.bool true) rfl (by go_simp) ?_
  try simp only [Act.put, List.setIfInBounds_toArray, List.set_cons_succ, List.set_cons_zero]
  refine takeL (.pointer (some ⟨g17, 2, none⟩)) rfl (by go_simp) ?_
  try simp only [Act.put, List.setIfInBounds_toArray, List.set_cons_succ, List.set_cons_zero]
  refine takeL (.int .u8 1) rfl (by have hq := F66.out.cell (i := 2) (v := .int .u8 1) rfl; go_simp) ?_
  try simp only [Act.put, List.setIfInBounds_toArray, List.set_cons_succ, List.set_cons_zero]
  refine takeL (.bool true) rfl (by go_simp) ?_
  try simp only [Act.put, List.setIfInBounds_toArray, List.set_cons_succ, List.set_cons_zero]
  refine takeL (.bool true) rfl (by go_simp) ?_
  try simp only [Act.put, List.setIfInBounds_toArray, List.set_cons_succ, List.set_cons_zero]
  refine takeL (.bool true) rfl (by go_simp) ?_
  try simp only [Act.put, List.setIfInBounds_toArray, List.set_cons_succ, List.set_cons_zero]
  refine takeL (.pointer (some ⟨g17, 3, none⟩)) rfl (by go_simp) ?_
  try simp only [Act.put, List.setIfInBounds_toArray, List.set_cons_succ, List.set_cons_zero]
  refine takeL (.int .u8 2) rfl (by have hq := F66.out.cell (i := 3) (v := .int .u8 2) rfl; go_simp) ?_
  try simp only [Act.put, List.setIfInBounds_toArray, List.set_cons_succ, List.set_cons_zero]
  refine takeL (.bool true) rfl (by go_simp) ?_
  try simp only [Act.put, List.setIfInBounds_toArray, List.set_cons_succ, List.set_cons_zero]
  refine takeL (.bool true) rfl (by go_simp) ?_
  try simp only [Act.put, List.setIfInBounds_toArray, List.set_cons_succ, List.set_cons_zero]
  refine takeL (.bool true) rfl (by go_simp) ?_
  try simp only [Act.put, List.setIfInBounds_toArray, List.set_cons_succ, List.set_cons_zero]
  refine takeL (.pointer (some ⟨g17, 6, none⟩)) rfl (by go_simp) ?_
  try simp only [Act.put, List.setIfInBounds_toArray, List.set_cons_succ, List.set_cons_zero]
  refine takeL (.int .u8 3) rfl (by have hq := F66.out.cell (i := 6) (v := .int .u8 3) rfl; go_simp) ?_
  try simp only [Act.put, List.setIfInBounds_toArray, List.set_cons_succ, List.set_cons_zero]
  refine takeL (.bool true) rfl (by go_simp) ?_
  try simp only [Act.put, List.setIfInBounds_toArray, List.set_cons_succ, List.set_cons_zero]
  refine takeL (.bool true) rfl (by go_simp) ?_
  try simp only [Act.put, List.setIfInBounds_toArray, List.set_cons_succ, List.set_cons_zero]
  refine takeL (.bool true) rfl (by go_simp) ?_
  try simp only [Act.put, List.setIfInBounds_toArray, List.set_cons_succ, List.set_cons_zero]
  refine takeL (.pointer (some ⟨g17, 7, none⟩)) rfl (by go_simp) ?_
  try simp only [Act.put, List.setIfInBounds_toArray, List.set_cons_succ, List.set_cons_zero]
  refine takeL (.int .u8 2) rfl (by have hq := F66.out.cell (i := 7) (v := .int .u8 2) rfl; go_simp) ?_
  try simp only [Act.put, List.setIfInBounds_toArray, List.set_cons_succ, List.set_cons_zero]
  refine takeL (.bool true) rfl (by go_simp) ?_
  try simp only [Act.put, List.setIfInBounds_toArray, List.set_cons_succ, List.set_cons_zero]
  refine takeL (.bool true) rfl (by go_simp) ?_
  try simp only [Act.put, List.setIfInBounds_toArray, List.set_cons_succ, List.set_cons_zero]
  refine takeL (.bool true) rfl (by go_simp) ?_
  try simp only [Act.put, List.setIfInBounds_toArray, List.set_cons_succ, List.set_cons_zero]
  refine takeL (.pointer (some ⟨g17, 9, none⟩)) rfl (by go_simp) ?_
  try simp only [Act.put, List.setIfInBounds_toArray, List.set_cons_succ, List.set_cons_zero]
  refine takeL (.int .u8 8) rfl (by have hq := F66.out.cell (i := 9) (v := .int .u8 8) rfl; go_simp) ?_
  try simp only [Act.put, List.setIfInBounds_toArray, List.set_cons_succ, List.set_cons_zero]
  refine takeL (.bool true) rfl (by go_simp) ?_
  try simp only [Act.put, List.setIfInBounds_toArray, List.set_cons_succ, List.set_cons_zero]
  refine takeL (.bool true) rfl (by go_simp) ?_
  try simp only [Act.put, List.setIfInBounds_toArray, List.set_cons_succ, List.set_cons_zero]
  refine takeL (.bool true) rfl (by go_simp) ?_
  try simp only [Act.put, List.setIfInBounds_toArray, List.set_cons_succ, List.set_cons_zero]
  refine takeL (.pointer (some ⟨g17, 24, none⟩)) rfl (by go_simp) ?_
  try simp only [Act.put, List.setIfInBounds_toArray, List.set_cons_succ, List.set_cons_zero]
  refine takeL (.int .u8 2) rfl (by have hq := F66.out.cell (i := 24) (v := .int .u8 2) rfl; go_simp) ?_
  try simp only [Act.put, List.setIfInBounds_toArray, List.set_cons_succ, List.set_cons_zero]
  refine takeL (.bool true) rfl (by go_simp) ?_
  try simp only [Act.put, List.setIfInBounds_toArray, List.set_cons_succ, List.set_cons_zero]
  refine takeL (.bool true) rfl (by go_simp) ?_
  try simp only [Act.put, List.setIfInBounds_toArray, List.set_cons_succ, List.set_cons_zero]
  refine takeL (.bool true) rfl (by go_simp) ?_
  try simp only [Act.put, List.setIfInBounds_toArray, List.set_cons_succ, List.set_cons_zero]
  refine takeL (.pointer (some ⟨g17, 25, none⟩)) rfl (by go_simp) ?_
  try simp only [Act.put, List.setIfInBounds_toArray, List.set_cons_succ, List.set_cons_zero]
  refine takeL (.int .u8 1) rfl (by have hq := F66.out.cell (i := 25) (v := .int .u8 1) rfl; go_simp) ?_
  try simp only [Act.put, List.setIfInBounds_toArray, List.set_cons_succ, List.set_cons_zero]
  refine takeL (.bool true) rfl (by go_simp) ?_
  try simp only [Act.put, List.setIfInBounds_toArray, List.set_cons_succ, List.set_cons_zero]
  refine takeL (.bool true) rfl (by go_simp) ?_
  try simp only [Act.put, List.setIfInBounds_toArray, List.set_cons_succ, List.set_cons_zero]
  refine takeL (.bool true) rfl (by go_simp) ?_
  try simp only [Act.put, List.setIfInBounds_toArray, List.set_cons_succ, List.set_cons_zero]
  refine takeL (.int .i64 0) rfl (by go_simp) ?_
  try simp only [Act.put, List.setIfInBounds_toArray, List.set_cons_succ, List.set_cons_zero]
  refine takeL (.bool true) rfl (by go_simp) ?_
  try simp only [Act.put, List.setIfInBounds_toArray, List.set_cons_succ, List.set_cons_zero]
  refine takeL (.bool true) rfl (by go_simp) ?_
  try simp only [Act.put, List.setIfInBounds_toArray, List.set_cons_succ, List.set_cons_zero]
  refine takeL (.bool true) rfl (by go_simp) ?_
  try simp only [Act.put, List.setIfInBounds_toArray, List.set_cons_succ, List.set_cons_zero]
  refine takeL (.int .u32 513) rfl (by go_simp) ?_
  try simp only [Act.put, List.setIfInBounds_toArray, List.set_cons_succ, List.set_cons_zero]
  refine takeL (.bool true) rfl (by go_simp) ?_
  try simp only [Act.put, List.setIfInBounds_toArray, List.set_cons_succ, List.set_cons_zero]
  refine takeL (.bool true) rfl (by go_simp) ?_
  try simp only [Act.put, List.setIfInBounds_toArray, List.set_cons_succ, List.set_cons_zero]
  refine takeL (.bool true) rfl (by go_simp) ?_
  try simp only [Act.put, List.setIfInBounds_toArray, List.set_cons_succ, List.set_cons_zero]
  refine load27 (cs := (bD.arr sv)) F65.out.all HSBv.out rfl rfl ?_
  try simp only [Act.put, List.setIfInBounds_toArray, List.set_cons_succ, List.set_cons_zero]
  refine load27 (cs := (bD.arr sv2)) F68.out.all HSB2.out rfl rfl ?_
  try simp only [Act.put, List.setIfInBounds_toArray, List.set_cons_succ, List.set_cons_zero]
  refine wpList_op rfl fun K hK => ?_
  go_simp
  refine (blockD sv sv2 _ F63.out F67.out).mono ?_
  rintro e w73 ⟨rfl, hb⟩
  have F74 := Lib.hid (F63.out.below hb)
  have F75 := Lib.hid (F64.out.trans (hb.mono F64.out.size))
  have F76 := Lib.hid (F65.out.below hb F65.out.lt)
  have F77 := Lib.hid (F66.out.below hb F66.out.lt)
  have F78 := Lib.hid (F67.out.below hb)
  have F79 := Lib.hid (F68.out.below hb F68.out.lt)
  have F80 := Lib.hid (F69.out.below hb)
  have F81 := Lib.hid (F70.out.below hb F70.out.lt)
  have F82 := Lib.hid (F71.out.below hb F71.out.lt)
  clear F63 F64 F65 F66 F67 F68 F69 F70 F71
  clear hb
  refine hK _ _ ?_
  clear hK K
  try simp only [Act.put, List.setIfInBounds_toArray, List.set_cons_succ, List.set_cons_zero]
  refine takeL (.bool true) rfl (by go_simp) ?_
  try simp only [Act.put, List.setIfInBounds_toArray, List.set_cons_succ, List.set_cons_zero]
  refine takeL (.bool true) rfl (by go_simp) ?_
  try simp only [Act.put, List.setIfInBounds_toArray, List.set_cons_succ, List.set_cons_zero]
  refine takeL (.int .i64 11) rfl (by go_simp) ?_
  try simp only [Act.put, List.setIfInBounds_toArray, List.set_cons_succ, List.set_cons_zero]
  refine takeL (.bool true) rfl (by go_simp) ?_
  try simp only [Act.put, List.setIfInBounds_toArray, List.set_cons_succ, List.set_cons_zero]
  refine takeL (.bool true) rfl (by go_simp) ?_
  try simp only [Act.put, List.setIfInBounds_toArray, List.set_cons_succ, List.set_cons_zero]
  refine takeL (.bool true) rfl (by go_simp) ?_
  try simp only [Act.put, List.setIfInBounds_toArray, List.set_cons_succ, List.set_cons_zero]
  refine takeL (.int .i64 11) rfl (by go_simp) ?_
  try simp only [Act.put, List.setIfInBounds_toArray, List.set_cons_succ, List.set_cons_zero]
  refine takeL (.bool true) rfl (by go_simp) ?_
  try simp only [Act.put, List.setIfInBounds_toArray, List.set_cons_succ, List.set_cons_zero]
  refine takeL (.bool true) rfl (by go_simp) ?_
  try simp only [Act.put, List.setIfInBounds_toArray, List.set_cons_succ, List.set_cons_zero]
  refine takeL (.bool true) rfl (by go_simp) ?_
  try simp only [Act.put, List.setIfInBounds_toArray, List.set_cons_succ, List.set_cons_zero]
  refine load27 (cs := (bD.arr sv)) F76.out.all HSBv.out rfl rfl ?_
  try simp only [Act.put, List.setIfInBounds_toArray, List.set_cons_succ, List.set_cons_zero]
  refine wpList_op rfl fun K hK => ?_
  go_simp
  refine (goodD sv F74.out.len _).mono ?_
  rintro e w83 ⟨rfl, hb⟩
  have F84 := Lib.hid (F74.out.below hb)
  have F85 := Lib.hid (F75.out.trans (hb.mono F75.out.size))
  have F86 := Lib.hid (F76.out.below hb F76.out.lt)
  have F87 := Lib.hid (F77.out.below hb F77.out.lt)
  have F88 := Lib.hid (F78.out.below hb)
  have F89 := Lib.hid (F79.out.below hb F79.out.lt)
  have F90 := Lib.hid (F80.out.below hb)
  have F91 := Lib.hid (F81.out.below hb F81.out.lt)
  have F92 := Lib.hid (F82.out.below hb F82.out.lt)
  clear F74 F75 F76 F77 F78 F79 F80 F81 F82
  clear hb
  refine hK _ _ ?_
  clear hK K
  try simp only [Act.put, List.setIfInBounds_toArray, List.set_cons_succ, List.set_cons_zero]
  refine takeL (.bool true) rfl (by go_simp) ?_
  try simp only [Act.put, List.setIfInBounds_toArray, List.set_cons_succ, List.set_cons_zero]
  refine takeL (.bool true) rfl (by go_simp) ?_
  try simp only [Act.put, List.setIfInBounds_toArray, List.set_cons_succ, List.set_cons_zero]
  refine wpList_nil ?_
  go_wp2_with fail
  go_ret
  exact ⟨rfl, F85.out⟩
end Go.Proofs.Ytdgciecnnpjeoaa
