/- The statement BlockBack's walk. -/
import Derived.Test.YtdgciecnnpjeoaaReads
namespace Go.Proofs.Ytdgciecnnpjeoaa
open Go.RowKit

theorem err_good {b : Bk} (h : b.good = true) : b.err = 0 := by unfold Bk.err; rw [h]; rfl
theorem err_bad {b : Bk} (h : b.good = false) : b.err = 11 := by unfold Bk.err; rw [h]; rfl
theorem sec_good {b : Bk} (h : b.good = true) (n : Int) : b.sec n = b.enc n := by unfold Bk.sec; rw [h]; rfl
theorem dec_sec {b : Bk} (h : b.good = true) (w : b.Wf) (n : Int) (hn : 0 ≤ n ∧ n < 4294967296) : decB (b.sec n) = b ∧ decN (b.sec n) = n ∧ decE (b.sec n) = 0 := by
  rw [sec_good h]
  obtain ⟨e1, e2⟩ := read_enc h w n hn
  obtain ⟨d1, d2, d3⟩ := dec_yes (isBlock_enc h w n hn)
  exact ⟨d1.trans e1, d2.trans e2, d3⟩
theorem sec_sc {b : Bk} (h : b.good = true) (w : b.Wf) (n : Int) : Sc (b.sec n) := by
  rw [sec_good h]
  exact enc_sc h w n
/-- A good block's sector, read again. -/
theorem decode_sec {b : Bk} (h : b.good = true) (w : b.Wf) (n : Int) (hn : 0 ≤ n ∧ n < 4294967296) (W : World) : Calls Try.prog 12 #[.agg (u8s (b.sec n)).toArray] W fun e w' => ∃ sv, e = .returned (.tuple #[.agg (b.arr sv), .int .u32 n, .int .i64 0]) ∧ BytesAt w' sv b.bytes ∧ Below W.heap.size W w' := by
  have := decode_any (b.sec n) (sec_sc h w n) W
  rwa [(dec_sec h w n hn).1, (dec_sec h w n hn).2.1, (dec_sec h w n hn).2.2] at this
theorem encode_err {b : Bk} {e : Int} (he : b.err = e) (sv : Value) (n : Int) (w : World) (hs : BytesAt w sv b.bytes) (hw : b.Wf) (hn : 0 ≤ n ∧ n < 4294967296) : Calls Try.prog 10 #[.agg (b.arr sv), .int .u32 n] w fun x w' => x = .returned (.tuple #[.agg (u8s (b.sec n)).toArray, .int .i64 e]) ∧ Below w.heap.size w w' := by
  have := encode_any b sv n w hs hw hn
  rwa [he] at this
theorem good_is {b : Bk} {v : Bool} (h : b.good = v) (sv : Value) (hl : Len sv b.bytes.length) (hw : b.Wf) (w : World) : Calls Try.prog 14 #[.agg (b.arr sv)] w fun e w' => e = .returned (.bool v) ∧ Below w.heap.size w w' := by
  have := good_any b sv hl hw w
  rwa [h] at this
theorem block_is {b c : Bk} {v : Bool} (h : b.same c = v) (sv cv : Value) (hb : b.Wf) (hc : c.Wf) (w : World) (hs : BytesAt w sv b.bytes) (hk : BytesAt w cv c.bytes) : Calls Try.prog 16 #[.agg (b.arr sv), .agg (c.arr cv)] w fun e w' => e = .returned (.bool v) ∧ Below w.heap.size w w' := by
  have := block_any b c sv cv hb hc w hs hk
  rwa [h] at this
theorem block_self {b : Bk} (hb : b.Wf) (sv cv : Value) (w : World) (h : BytesAt w sv b.bytes) (k : BytesAt w cv b.bytes) : Calls Try.prog 16 #[.agg (b.arr sv), .agg (b.arr cv)] w fun e w' => e = .returned (.bool true) ∧ Below w.heap.size w w' := by
  have := block_any b b sv cv hb hb w h k
  rwa [(Bk.same_iff b b).2 rfl] at this
theorem sec_eq {b c : Bk} (hb : b.good = true) (wb : b.Wf) (hc : c.good = true) (wc : c.Wf) {n m : Int} (hn : 0 ≤ n ∧ n < 4294967296) (hm : 0 ≤ m ∧ m < 4294967296) : decide (b.sec n = c.sec m) = (b.same c && decide (n = m)) := by
  rw [sec_good hb, sec_good hc]
  by_cases h : b.enc n = c.enc m
  · obtain ⟨e1, e2⟩ := enc_inj hb wb hc wc hn hm h
    rw [decide_eq_true h, (Bk.same_iff b c).2 e1]
    simp [e2]
  · rw [decide_eq_false h]
    cases hs : b.same c with
    | false => rfl
    | true =>
      have e1 := (Bk.same_iff b c).1 hs
      have : n ≠ m := fun e2 => h (by rw [e1, e2])
      simp [this]

set_option maxHeartbeats 1000000 in
set_option maxRecDepth 100000 in
theorem back_long1 (b c : Bk) (sv cv : Value) (hb : b.Wf) (hc : c.Wf) (n m : Int) (hn : 0 ≤ n ∧ n < 4294967296) (hm : 0 ≤ m ∧ m < 4294967296) (hl : 300 < b.bytes.length) (w : World) (hbs : BytesAt w sv b.bytes) (hcs : BytesAt w cv c.bytes) : Calls Try.prog 4 #[.agg (b.arr sv), .agg (c.arr cv), .agg #[.int .u32 n, .int .u32 m]] w fun e w' => e = .returned (.bool true) ∧ Below w.heap.size w w' := by
  have HWb := Lib.hid hb
  have HWc := Lib.hid hc
  have HZb := Lib.hid (b.arr_size hb sv)
  have HZc := Lib.hid (c.arr_size hc cv)
  have HXb := Lib.hid (sec_length hb n)
  have HXc := Lib.hid (sec_length hc m)
  have HSb : Hid ((u8s (b.sec n)).toArray.size = 64) := Lib.hid (by rw [u8s_size, HXb.out])
  have HSc : Hid ((u8s (c.sec m)).toArray.size = 64) := Lib.hid (by rw [u8s_size, HXc.out])
  have HNN := Lib.hid hn
  have HMM := Lib.hid hm
  obtain ⟨ab, capb, hsvb⟩ := hbs.len
  obtain ⟨ac, capc, hsvc⟩ := hcs.len
  have HSVb := Lib.hid hsvb
  have HSVc := Lib.hid hsvc
  have FYB := Lib.hid hbs
  have FYC := Lib.hid hcs
  have HBL : Hid (Below w.heap.size w w) := Lib.hid (Below.refl _ _)
  have hl2 : (300 : Int) < b.bytes.length := by omega
  clear hb hc hn hm hbs hcs hsvb hsvc
  go_enter Try.func4, Try.ntmps4
  repeat (first | (with_reducible refine stopR (id := 0) ?_) | go_values | go_skip | go_guarded | go_step | go_upon | go_back)
  refine Stop.mk (wp_region_lit ?_)
  refine box_g rfl rfl ?_
  intro w1 hA hb hl
  try simp only [Act.put, List.setIfInBounds_toArray, List.set_cons_succ, List.set_cons_zero]
  clear hl
  have F2 := Lib.hid (HBL.out.trans (hb.mono HBL.out.size))
  have F3 := Lib.hid (FYB.out.below hb)
  have F4 := Lib.hid (FYC.out.below hb)
  clear HBL FYB FYC
  have F5 := Lib.hid (show BAt _ _ b sv from ⟨hA, HWb.out⟩)
  clear hA hb
  refine box_g rfl rfl ?_
  intro w6 hA hb hl
  try simp only [Act.put, List.setIfInBounds_toArray, List.set_cons_succ, List.set_cons_zero]
  clear hl
  have F7 := Lib.hid (F2.out.trans (hb.mono F2.out.size))
  have F8 := Lib.hid (F3.out.below hb)
  have F9 := Lib.hid (F4.out.below hb)
  have F10 := Lib.hid (F5.out.below hb F5.out.lt)
  clear F2 F3 F4 F5
  have F11 := Lib.hid (show BAt _ _ c cv from ⟨hA, HWc.out⟩)
  clear hA hb
  generalize w1.heap.size = g12 at *
  clear w1
  refine box_g rfl rfl ?_
  intro w13 hA hb hl
  try simp only [Act.put, List.setIfInBounds_toArray, List.set_cons_succ, List.set_cons_zero]
  clear hl
  have F14 := Lib.hid (F7.out.trans (hb.mono F7.out.size))
  have F15 := Lib.hid (F8.out.below hb)
  have F16 := Lib.hid (F9.out.below hb)
  have F17 := Lib.hid (F10.out.below hb F10.out.lt)
  have F18 := Lib.hid (F11.out.below hb F11.out.lt)
  clear F7 F8 F9 F10 F11
  have F19 := Lib.hid hA
  clear hA hb
  generalize w6.heap.size = g20 at *
  clear w6
  refine takeL (.bool false) rfl (by go_simp) ?_
  try simp only [Act.put, List.setIfInBounds_toArray, List.set_cons_succ, List.set_cons_zero]
  refine wpList_nil ?_
  repeat (first | (with_reducible refine stopR (id := 1) ?_) | go_values | go_skip | go_guarded | go_step | go_upon | go_back)
  refine Stop.mk (wp_region_lit ?_)
  refine takeL (.pointer (some ⟨w.heap.size, 35, none⟩)) rfl (by go_simp) ?_
  try simp only [Act.put, List.setIfInBounds_toArray, List.set_cons_succ, List.set_cons_zero]
  refine takeL (.slice ab b.bytes.length capb) rfl (by have hq := F17.out.c35.trans (congrArg some HSVb.out); go_simp) ?_
  try simp only [Act.put, List.setIfInBounds_toArray, List.set_cons_succ, List.set_cons_zero]
  refine takeL (.int .i64 (b.bytes.length)) rfl (by go_simp) ?_
  try simp only [Act.put, List.setIfInBounds_toArray, List.set_cons_succ, List.set_cons_zero]
  refine takeL (.bool true) rfl (by go_simp) ?_
  try simp only [Act.put, List.setIfInBounds_toArray, List.set_cons_succ, List.set_cons_zero]
  refine takeL (.bool true) rfl (by go_simp) ?_
  try simp only [Act.put, List.setIfInBounds_toArray, List.set_cons_succ, List.set_cons_zero]
  refine passL rfl ?_
  try simp only [Act.put, List.setIfInBounds_toArray, List.set_cons_succ, List.set_cons_zero]
  refine passL rfl ?_
  try simp only [Act.put, List.setIfInBounds_toArray, List.set_cons_succ, List.set_cons_zero]
  refine passL rfl ?_
  try simp only [Act.put, List.setIfInBounds_toArray, List.set_cons_succ, List.set_cons_zero]
  refine passL rfl ?_
  try simp only [Act.put, List.setIfInBounds_toArray, List.set_cons_succ, List.set_cons_zero]
  refine takeL (.bool true) rfl (by go_simp) ?_
  try simp only [Act.put, List.setIfInBounds_toArray, List.set_cons_succ, List.set_cons_zero]
  refine wpList_nil ?_
  repeat (first | (with_reducible refine stopR (id := 2) ?_) | go_values | go_skip | go_guarded | go_step | go_upon | go_back)
  refine Stop.mk (wp_region_lit ?_)
  refine wpList_op rfl fun K hK => ?_
  go_simp
  refine (wakes_any _).mono ?_
  rintro e w21 ⟨rfl, hb⟩
  have F22 := Lib.hid (F14.out.trans (hb.mono F14.out.size))
  have F23 := Lib.hid (F15.out.below hb)
  have F24 := Lib.hid (F16.out.below hb)
  have F25 := Lib.hid (F17.out.below hb F17.out.lt)
  have F26 := Lib.hid (F18.out.below hb F18.out.lt)
  have F27 := Lib.hid (F19.out.below hb F19.out.lt)
  clear F14 F15 F16 F17 F18 F19
  clear hb
  refine hK _ _ ?_
  clear hK K
  try simp only [Act.put, List.setIfInBounds_toArray, List.set_cons_succ, List.set_cons_zero]
  refine takeL (.bool true) rfl (by go_simp) ?_
  try simp only [Act.put, List.setIfInBounds_toArray, List.set_cons_succ, List.set_cons_zero]
  refine wpList_nil ?_
  go_wp2_with fail
  go_ret
  exact ⟨rfl, F22.out⟩
set_option maxHeartbeats 1000000 in
set_option maxRecDepth 100000 in
theorem back_long2 (b c : Bk) (sv cv : Value) (hb : b.Wf) (hc : c.Wf) (n m : Int) (hn : 0 ≤ n ∧ n < 4294967296) (hm : 0 ≤ m ∧ m < 4294967296) (hk : b.bytes.length ≤ 300) (hl : 300 < c.bytes.length) (w : World) (hbs : BytesAt w sv b.bytes) (hcs : BytesAt w cv c.bytes) : Calls Try.prog 4 #[.agg (b.arr sv), .agg (c.arr cv), .agg #[.int .u32 n, .int .u32 m]] w fun e w' => e = .returned (.bool true) ∧ Below w.heap.size w w' := by
  have HWb := Lib.hid hb
  have HWc := Lib.hid hc
  have HZb := Lib.hid (b.arr_size hb sv)
  have HZc := Lib.hid (c.arr_size hc cv)
  have HXb := Lib.hid (sec_length hb n)
  have HXc := Lib.hid (sec_length hc m)
  have HSb : Hid ((u8s (b.sec n)).toArray.size = 64) := Lib.hid (by rw [u8s_size, HXb.out])
  have HSc : Hid ((u8s (c.sec m)).toArray.size = 64) := Lib.hid (by rw [u8s_size, HXc.out])
  have HNN := Lib.hid hn
  have HMM := Lib.hid hm
  obtain ⟨ab, capb, hsvb⟩ := hbs.len
  obtain ⟨ac, capc, hsvc⟩ := hcs.len
  have HSVb := Lib.hid hsvb
  have HSVc := Lib.hid hsvc
  have FYB := Lib.hid hbs
  have FYC := Lib.hid hcs
  have HBL : Hid (Below w.heap.size w w) := Lib.hid (Below.refl _ _)
  have hl2 : (300 : Int) < c.bytes.length := by omega
  have hk2 : ¬ (300 : Int) < b.bytes.length := by omega
  clear hb hc hn hm hbs hcs hsvb hsvc
  go_enter Try.func4, Try.ntmps4
  repeat (first | (with_reducible refine stopR (id := 0) ?_) | go_values | go_skip | go_guarded | go_step | go_upon | go_back)
  refine Stop.mk (wp_region_lit ?_)
  refine box_g rfl rfl ?_
  intro w1 hA hb hl
  try simp only [Act.put, List.setIfInBounds_toArray, List.set_cons_succ, List.set_cons_zero]
  clear hl
  have F2 := Lib.hid (HBL.out.trans (hb.mono HBL.out.size))
  have F3 := Lib.hid (FYB.out.below hb)
  have F4 := Lib.hid (FYC.out.below hb)
  clear HBL FYB FYC
  have F5 := Lib.hid (show BAt _ _ b sv from ⟨hA, HWb.out⟩)
  clear hA hb
  refine box_g rfl rfl ?_
  intro w6 hA hb hl
  try simp only [Act.put, List.setIfInBounds_toArray, List.set_cons_succ, List.set_cons_zero]
  clear hl
  have F7 := Lib.hid (F2.out.trans (hb.mono F2.out.size))
  have F8 := Lib.hid (F3.out.below hb)
  have F9 := Lib.hid (F4.out.below hb)
  have F10 := Lib.hid (F5.out.below hb F5.out.lt)
  clear F2 F3 F4 F5
  have F11 := Lib.hid (show BAt _ _ c cv from ⟨hA, HWc.out⟩)
  clear hA hb
  generalize w1.heap.size = g12 at *
  clear w1
  refine box_g rfl rfl ?_
  intro w13 hA hb hl
  try simp only [Act.put, List.setIfInBounds_toArray, List.set_cons_succ, List.set_cons_zero]
  clear hl
  have F14 := Lib.hid (F7.out.trans (hb.mono F7.out.size))
  have F15 := Lib.hid (F8.out.below hb)
  have F16 := Lib.hid (F9.out.below hb)
  have F17 := Lib.hid (F10.out.below hb F10.out.lt)
  have F18 := Lib.hid (F11.out.below hb F11.out.lt)
  clear F7 F8 F9 F10 F11
  have F19 := Lib.hid hA
  clear hA hb
  generalize w6.heap.size = g20 at *
  clear w6
  refine takeL (.bool false) rfl (by go_simp) ?_
  try simp only [Act.put, List.setIfInBounds_toArray, List.set_cons_succ, List.set_cons_zero]
  refine wpList_nil ?_
  repeat (first | (with_reducible refine stopR (id := 1) ?_) | go_values | go_skip | go_guarded | go_step | go_upon | go_back)
  refine Stop.mk (wp_region_lit ?_)
  refine takeL (.pointer (some ⟨w.heap.size, 35, none⟩)) rfl (by go_simp) ?_
  try simp only [Act.put, List.setIfInBounds_toArray, List.set_cons_succ, List.set_cons_zero]
  refine takeL (.slice ab b.bytes.length capb) rfl (by have hq := F17.out.c35.trans (congrArg some HSVb.out); go_simp) ?_
  try simp only [Act.put, List.setIfInBounds_toArray, List.set_cons_succ, List.set_cons_zero]
  refine takeL (.int .i64 (b.bytes.length)) rfl (by go_simp) ?_
  try simp only [Act.put, List.setIfInBounds_toArray, List.set_cons_succ, List.set_cons_zero]
  refine takeL (.bool false) rfl (by go_simp) ?_
  try simp only [Act.put, List.setIfInBounds_toArray, List.set_cons_succ, List.set_cons_zero]
  refine takeL (.bool false) rfl (by go_simp) ?_
  try simp only [Act.put, List.setIfInBounds_toArray, List.set_cons_succ, List.set_cons_zero]
  refine takeL (.pointer (some ⟨g12, 35, none⟩)) rfl (by go_simp) ?_
  try simp only [Act.put, List.setIfInBounds_toArray, List.set_cons_succ, List.set_cons_zero]
  refine takeL (.slice ac c.bytes.length capc) rfl (by have hq := F18.out.c35.trans (congrArg some HSVc.out); go_simp) ?_
  try simp only [Act.put, List.setIfInBounds_toArray, List.set_cons_succ, List.set_cons_zero]
  refine takeL (.int .i64 (c.bytes.length)) rfl (by go_simp) ?_
  try simp only [Act.put, List.setIfInBounds_toArray, List.set_cons_succ, List.set_cons_zero]
  refine takeL (.bool true) rfl (by go_simp) ?_
  try simp only [Act.put, List.setIfInBounds_toArray, List.set_cons_succ, List.set_cons_zero]
  refine takeL (.bool true) rfl (by go_simp) ?_
  try simp only [Act.put, List.setIfInBounds_toArray, List.set_cons_succ, List.set_cons_zero]
  refine wpList_nil ?_
  repeat (first | (with_reducible refine stopR (id := 2) ?_) | go_values | go_skip | go_guarded | go_step | go_upon | go_back)
  refine Stop.mk (wp_region_lit ?_)
  refine wpList_op rfl fun K hK => ?_
  go_simp
  refine (wakes_any _).mono ?_
  rintro e w21 ⟨rfl, hb⟩
  have F22 := Lib.hid (F14.out.trans (hb.mono F14.out.size))
  have F23 := Lib.hid (F15.out.below hb)
  have F24 := Lib.hid (F16.out.below hb)
  have F25 := Lib.hid (F17.out.below hb F17.out.lt)
  have F26 := Lib.hid (F18.out.below hb F18.out.lt)
  have F27 := Lib.hid (F19.out.below hb F19.out.lt)
  clear F14 F15 F16 F17 F18 F19
  clear hb
  refine hK _ _ ?_
  clear hK K
  try simp only [Act.put, List.setIfInBounds_toArray, List.set_cons_succ, List.set_cons_zero]
  refine takeL (.bool true) rfl (by go_simp) ?_
  try simp only [Act.put, List.setIfInBounds_toArray, List.set_cons_succ, List.set_cons_zero]
  refine wpList_nil ?_
  go_wp2_with fail
  go_ret
  exact ⟨rfl, F22.out⟩
set_option maxHeartbeats 1000000 in
set_option maxRecDepth 100000 in
theorem back_ff (b c : Bk) (sv cv : Value) (hb : b.Wf) (hc : c.Wf) (n m : Int) (hn : 0 ≤ n ∧ n < 4294967296) (hm : 0 ≤ m ∧ m < 4294967296) (hk1 : b.bytes.length ≤ 300) (hk2 : c.bytes.length ≤ 300) (gb : b.good = false) (gc : c.good = false) (w : World) (hbs : BytesAt w sv b.bytes) (hcs : BytesAt w cv c.bytes) : Calls Try.prog 4 #[.agg (b.arr sv), .agg (c.arr cv), .agg #[.int .u32 n, .int .u32 m]] w fun e w' => e = .returned (.bool true) ∧ Below w.heap.size w w' := by
  have HWb := Lib.hid hb
  have HWc := Lib.hid hc
  have HZb := Lib.hid (b.arr_size hb sv)
  have HZc := Lib.hid (c.arr_size hc cv)
  have HXb := Lib.hid (sec_length hb n)
  have HXc := Lib.hid (sec_length hc m)
  have HSb : Hid ((u8s (b.sec n)).toArray.size = 64) := Lib.hid (by rw [u8s_size, HXb.out])
  have HSc : Hid ((u8s (c.sec m)).toArray.size = 64) := Lib.hid (by rw [u8s_size, HXc.out])
  have HNN := Lib.hid hn
  have HMM := Lib.hid hm
  obtain ⟨ab, capb, hsvb⟩ := hbs.len
  obtain ⟨ac, capc, hsvc⟩ := hcs.len
  have HSVb := Lib.hid hsvb
  have HSVc := Lib.hid hsvc
  have FYB := Lib.hid hbs
  have FYC := Lib.hid hcs
  have HBL : Hid (Below w.heap.size w w) := Lib.hid (Below.refl _ _)
  have hl1 : ¬ (300 : Int) < b.bytes.length := by omega
  have hl2 : ¬ (300 : Int) < c.bytes.length := by omega
  have HGb := Lib.hid gb
  have HGc := Lib.hid gc
  clear gb gc
  clear hk1 hk2
  clear hb hc hn hm hbs hcs hsvb hsvc
  go_enter Try.func4, Try.ntmps4
  repeat (first | (with_reducible refine stopR (id := 0) ?_) | go_values | go_skip | go_guarded | go_step | go_upon | go_back)
  refine Stop.mk (wp_region_lit ?_)
  refine box_g rfl rfl ?_
  intro w1 hA hb hl
  try simp only [Act.put, List.setIfInBounds_toArray, List.set_cons_succ, List.set_cons_zero]
  clear hl
  have F2 := Lib.hid (HBL.out.trans (hb.mono HBL.out.size))
  have F3 := Lib.hid (FYB.out.below hb)
  have F4 := Lib.hid (FYC.out.below hb)
  clear HBL FYB FYC
  have F5 := Lib.hid (show BAt _ _ b sv from ⟨hA, HWb.out⟩)
  clear hA hb
  refine box_g rfl rfl ?_
  intro w6 hA hb hl
  try simp only [Act.put, List.setIfInBounds_toArray, List.set_cons_succ, List.set_cons_zero]
  clear hl
  have F7 := Lib.hid (F2.out.trans (hb.mono F2.out.size))
  have F8 := Lib.hid (F3.out.below hb)
  have F9 := Lib.hid (F4.out.below hb)
  have F10 := Lib.hid (F5.out.below hb F5.out.lt)
  clear F2 F3 F4 F5
  have F11 := Lib.hid (show BAt _ _ c cv from ⟨hA, HWc.out⟩)
  clear hA hb
  generalize w1.heap.size = g12 at *
  clear w1
  refine box_g rfl rfl ?_
  intro w13 hA hb hl
  try simp only [Act.put, List.setIfInBounds_toArray, List.set_cons_succ, List.set_cons_zero]
  clear hl
  have F14 := Lib.hid (F7.out.trans (hb.mono F7.out.size))
  have F15 := Lib.hid (F8.out.below hb)
  have F16 := Lib.hid (F9.out.below hb)
  have F17 := Lib.hid (F10.out.below hb F10.out.lt)
  have F18 := Lib.hid (F11.out.below hb F11.out.lt)
  clear F7 F8 F9 F10 F11
  have F19 := Lib.hid hA
  clear hA hb
  generalize w6.heap.size = g20 at *
  clear w6
  refine takeL (.bool false) rfl (by go_simp) ?_
  try simp only [Act.put, List.setIfInBounds_toArray, List.set_cons_succ, List.set_cons_zero]
  refine wpList_nil ?_
  repeat (first | (with_reducible refine stopR (id := 1) ?_) | go_values | go_skip | go_guarded | go_step | go_upon | go_back)
  refine Stop.mk (wp_region_lit ?_)
  refine takeL (.pointer (some ⟨w.heap.size, 35, none⟩)) rfl (by go_simp) ?_
  try simp only [Act.put, List.setIfInBounds_toArray, List.set_cons_succ, List.set_cons_zero]
  refine takeL (.slice ab b.bytes.length capb) rfl (by have hq := F17.out.c35.trans (congrArg some HSVb.out); go_simp) ?_
  try simp only [Act.put, List.setIfInBounds_toArray, List.set_cons_succ, List.set_cons_zero]
  refine takeL (.int .i64 (b.bytes.length)) rfl (by go_simp) ?_
  try simp only [Act.put, List.setIfInBounds_toArray, List.set_cons_succ, List.set_cons_zero]
  refine takeL (.bool false) rfl (by go_simp) ?_
  try simp only [Act.put, List.setIfInBounds_toArray, List.set_cons_succ, List.set_cons_zero]
  refine takeL (.bool false) rfl (by go_simp) ?_
  try simp only [Act.put, List.setIfInBounds_toArray, List.set_cons_succ, List.set_cons_zero]
  refine takeL (.pointer (some ⟨g12, 35, none⟩)) rfl (by go_simp) ?_
  try simp only [Act.put, List.setIfInBounds_toArray, List.set_cons_succ, List.set_cons_zero]
  refine takeL (.slice ac c.bytes.length capc) rfl (by have hq := F18.out.c35.trans (congrArg some HSVc.out); go_simp) ?_
  try simp only [Act.put, List.setIfInBounds_toArray, List.set_cons_succ, List.set_cons_zero]
  refine takeL (.int .i64 (c.bytes.length)) rfl (by go_simp) ?_
  try simp only [Act.put, List.setIfInBounds_toArray, List.set_cons_succ, List.set_cons_zero]
  refine takeL (.bool false) rfl (by go_simp) ?_
  try simp only [Act.put, List.setIfInBounds_toArray, List.set_cons_succ, List.set_cons_zero]
  refine takeL (.bool false) rfl (by go_simp) ?_
  try simp only [Act.put, List.setIfInBounds_toArray, List.set_cons_succ, List.set_cons_zero]
  refine wpList_nil ?_
  repeat (first | (with_reducible refine stopR (id := 3) ?_) | go_values | go_skip | go_guarded | go_step | go_upon | go_back)
  refine Stop.mk (wp_region_lit ?_)
  refine load27 (cs := (b.arr sv)) F17.out.all HZb.out rfl rfl ?_
  try simp only [Act.put, List.setIfInBounds_toArray, List.set_cons_succ, List.set_cons_zero]
  refine takeL (.pointer (some ⟨g20, 0, none⟩)) rfl (by go_simp) ?_
  try simp only [Act.put, List.setIfInBounds_toArray, List.set_cons_succ, List.set_cons_zero]
  refine takeL (.int .u32 n) rfl (by have hq := F19.out.cell (i := 0) (v := .int .u32 n) rfl; go_simp) ?_
  try simp only [Act.put, List.setIfInBounds_toArray, List.set_cons_succ, List.set_cons_zero]
  refine wpList_op rfl fun K hK => ?_
  go_simp
  refine (encode_err (err_bad HGb.out) sv n _ F15.out HWb.out HNN.out).mono ?_
  rintro e w21 ⟨rfl, hb⟩
  have F22 := Lib.hid (F14.out.trans (hb.mono F14.out.size))
  have F23 := Lib.hid (F15.out.below hb)
  have F24 := Lib.hid (F16.out.below hb)
  have F25 := Lib.hid (F17.out.below hb F17.out.lt)
  have F26 := Lib.hid (F18.out.below hb F18.out.lt)
  have F27 := Lib.hid (F19.out.below hb F19.out.lt)
  clear F14 F15 F16 F17 F18 F19
  clear hb
  refine hK _ _ ?_
  clear hK K
  try simp only [Act.put, List.setIfInBounds_toArray, List.set_cons_succ, List.set_cons_zero]
  refine takeL (.tuple #[.agg (u8s (b.sec n)).toArray, .int .i64 11]) rfl (by go_simp) ?_
  try simp only [Act.put, List.setIfInBounds_toArray, List.set_cons_succ, List.set_cons_zero]
  refine takeL (.agg (u8s (b.sec n)).toArray) rfl (by go_simp) ?_
  try simp only [Act.put, List.setIfInBounds_toArray, List.set_cons_succ, List.set_cons_zero]
  refine takeL (.int .i64 11) rfl (by go_simp) ?_
  try simp only [Act.put, List.setIfInBounds_toArray, List.set_cons_succ, List.set_cons_zero]
  refine alloc_g zero30 rfl ?_
  intro w28 hC hBC hlC
  try simp only [Act.put, List.setIfInBounds_toArray, List.set_cons_succ, List.set_cons_zero]
  refine store_all (cs := (u8s (b.sec n)).toArray) hC (by rw [HSb.out]; simp [zeros]) (by rw [HSb.out]; exact info30) (u8s_one _) rfl rfl rfl ?_
  intro w29 hD hOD hlD
  try simp only [Act.put, List.setIfInBounds_toArray, List.set_cons_succ, List.set_cons_zero]
  have hb := hBC.trans (hOD.below hBC.size (fun k hk => Nat.le_of_eq hk.symm))
  have F30 := Lib.hid (F22.out.trans (hb.mono F22.out.size))
  have F31 := Lib.hid (F23.out.below hb)
  have F32 := Lib.hid (F24.out.below hb)
  have F33 := Lib.hid (F25.out.below hb F25.out.lt)
  have F34 := Lib.hid (F26.out.below hb F26.out.lt)
  have F35 := Lib.hid (F27.out.below hb F27.out.lt)
  clear F22 F23 F24 F25 F26 F27
  have F36 := Lib.hid hD
  clear hC hBC hlC hD hOD hlD hb
  generalize w21.heap.size = g37 at *
  clear w28 w21
  refine takeL (.int .i64 11) rfl (by go_simp) ?_
  try simp only [Act.put, List.setIfInBounds_toArray, List.set_cons_succ, List.set_cons_zero]
  refine wpList_nil ?_
  repeat (first | (with_reducible refine stopR (id := 4) ?_) | go_values | go_skip | go_guarded | go_step | go_upon | go_back)
  refine Stop.mk (wp_region_lit ?_)
  refine load27 (cs := (c.arr cv)) F34.out.all HZc.out rfl rfl ?_
  try simp only [Act.put, List.setIfInBounds_toArray, List.set_cons_succ, List.set_cons_zero]
  refine takeL (.pointer (some ⟨g20, 1, none⟩)) rfl (by go_simp) ?_
  try simp only [Act.put, List.setIfInBounds_toArray, List.set_cons_succ, List.set_cons_zero]
  refine takeL (.int .u32 m) rfl (by have hq := F35.out.cell (i := 1) (v := .int .u32 m) rfl; go_simp) ?_
  try simp only [Act.put, List.setIfInBounds_toArray, List.set_cons_succ, List.set_cons_zero]
  refine wpList_op rfl fun K hK => ?_
  go_simp
  refine (encode_err (err_bad HGc.out) cv m _ F32.out HWc.out HMM.out).mono ?_
  rintro e w38 ⟨rfl, hb⟩
  have F39 := Lib.hid (F30.out.trans (hb.mono F30.out.size))
  have F40 := Lib.hid (F31.out.below hb)
  have F41 := Lib.hid (F32.out.below hb)
  have F42 := Lib.hid (F33.out.below hb F33.out.lt)
  have F43 := Lib.hid (F34.out.below hb F34.out.lt)
  have F44 := Lib.hid (F35.out.below hb F35.out.lt)
  have F45 := Lib.hid (F36.out.below hb F36.out.lt)
  clear F30 F31 F32 F33 F34 F35 F36
  clear hb
  refine hK _ _ ?_
  clear hK K
  try simp only [Act.put, List.setIfInBounds_toArray, List.set_cons_succ, List.set_cons_zero]
  refine takeL (.tuple #[.agg (u8s (c.sec m)).toArray, .int .i64 11]) rfl (by go_simp) ?_
  try simp only [Act.put, List.setIfInBounds_toArray, List.set_cons_succ, List.set_cons_zero]
  refine takeL (.agg (u8s (c.sec m)).toArray) rfl (by go_simp) ?_
  try simp only [Act.put, List.setIfInBounds_toArray, List.set_cons_succ, List.set_cons_zero]
  refine takeL (.int .i64 11) rfl (by go_simp) ?_
  try simp only [Act.put, List.setIfInBounds_toArray, List.set_cons_succ, List.set_cons_zero]
  refine alloc_g zero30 rfl ?_
  intro w46 hC hBC hlC
  try simp only [Act.put, List.setIfInBounds_toArray, List.set_cons_succ, List.set_cons_zero]
  refine store_all (cs := (u8s (c.sec m)).toArray) hC (by rw [HSc.out]; simp [zeros]) (by rw [HSc.out]; exact info30) (u8s_one _) rfl rfl rfl ?_
  intro w47 hD hOD hlD
  try simp only [Act.put, List.setIfInBounds_toArray, List.set_cons_succ, List.set_cons_zero]
  have hb := hBC.trans (hOD.below hBC.size (fun k hk => Nat.le_of_eq hk.symm))
  have F48 := Lib.hid (F39.out.trans (hb.mono F39.out.size))
  have F49 := Lib.hid (F40.out.below hb)
  have F50 := Lib.hid (F41.out.below hb)
  have F51 := Lib.hid (F42.out.below hb F42.out.lt)
  have F52 := Lib.hid (F43.out.below hb F43.out.lt)
  have F53 := Lib.hid (F44.out.below hb F44.out.lt)
  have F54 := Lib.hid (F45.out.below hb F45.out.lt)
  clear F39 F40 F41 F42 F43 F44 F45
  have F55 := Lib.hid hD
  clear hC hBC hlC hD hOD hlD hb
  generalize w38.heap.size = g56 at *
  clear w46 w38
  refine takeL (.int .i64 11) rfl (by go_simp) ?_
  try simp only [Act.put, List.setIfInBounds_toArray, List.set_cons_succ, List.set_cons_zero]
  refine wpList_nil ?_
  repeat (first | (with_reducible refine stopR (id := 5) ?_) | go_values | go_skip | go_guarded | go_step | go_upon | go_back)
  refine Stop.mk (wp_region_lit ?_)
  refine takeL (.int .i64 11) rfl (by go_simp) ?_
  try simp only [Act.put, List.setIfInBounds_toArray, List.set_cons_succ, List.set_cons_zero]
  refine takeL (.bool false) rfl (by go_simp) ?_
  try simp only [Act.put, List.setIfInBounds_toArray, List.set_cons_succ, List.set_cons_zero]
  refine load27 (cs := (b.arr sv)) F51.out.all HZb.out rfl rfl ?_
  try simp only [Act.put, List.setIfInBounds_toArray, List.set_cons_succ, List.set_cons_zero]
  refine wpList_op rfl fun K hK => ?_
  go_simp
  refine (good_is HGb.out sv F49.out.len HWb.out _).mono ?_
  rintro e w57 ⟨rfl, hb⟩
  have F58 := Lib.hid (F48.out.trans (hb.mono F48.out.size))
  have F59 := Lib.hid (F49.out.below hb)
  have F60 := Lib.hid (F50.out.below hb)
  have F61 := Lib.hid (F51.out.below hb F51.out.lt)
  have F62 := Lib.hid (F52.out.below hb F52.out.lt)
  have F63 := Lib.hid (F53.out.below hb F53.out.lt)
  have F64 := Lib.hid (F54.out.below hb F54.out.lt)
  have F65 := Lib.hid (F55.out.below hb F55.out.lt)
  clear F48 F49 F50 F51 F52 F53 F54 F55
  clear hb
  refine hK _ _ ?_
  clear hK K
  try simp only [Act.put, List.setIfInBounds_toArray, List.set_cons_succ, List.set_cons_zero]
  refine takeL (.bool false) rfl (by go_simp) ?_
  try simp only [Act.put, List.setIfInBounds_toArray, List.set_cons_succ, List.set_cons_zero]
  refine takeL (.bool false) rfl (by go_simp) ?_
  try simp only [Act.put, List.setIfInBounds_toArray, List.set_cons_succ, List.set_cons_zero]
  refine takeL (.int .i64 11) rfl (by go_simp) ?_
  try simp only [Act.put, List.setIfInBounds_toArray, List.set_cons_succ, List.set_cons_zero]
  refine takeL (.bool false) rfl (by go_simp) ?_
  try simp only [Act.put, List.setIfInBounds_toArray, List.set_cons_succ, List.set_cons_zero]
  refine load27 (cs := (c.arr cv)) F62.out.all HZc.out rfl rfl ?_
  try simp only [Act.put, List.setIfInBounds_toArray, List.set_cons_succ, List.set_cons_zero]
  refine wpList_op rfl fun K hK => ?_
  go_simp
  refine (good_is HGc.out cv F60.out.len HWc.out _).mono ?_
  rintro e w66 ⟨rfl, hb⟩
  have F67 := Lib.hid (F58.out.trans (hb.mono F58.out.size))
  have F68 := Lib.hid (F59.out.below hb)
  have F69 := Lib.hid (F60.out.below hb)
  have F70 := Lib.hid (F61.out.below hb F61.out.lt)
  have F71 := Lib.hid (F62.out.below hb F62.out.lt)
  have F72 := Lib.hid (F63.out.below hb F63.out.lt)
  have F73 := Lib.hid (F64.out.below hb F64.out.lt)
  have F74 := Lib.hid (F65.out.below hb F65.out.lt)
  clear F58 F59 F60 F61 F62 F63 F64 F65
  clear hb
  refine hK _ _ ?_
  clear hK K
  try simp only [Act.put, List.setIfInBounds_toArray, List.set_cons_succ, List.set_cons_zero]
  refine takeL (.bool false) rfl (by go_simp) ?_
  try simp only [Act.put, List.setIfInBounds_toArray, List.set_cons_succ, List.set_cons_zero]
  refine takeL (.bool false) rfl (by go_simp) ?_
  try simp only [Act.put, List.setIfInBounds_toArray, List.set_cons_succ, List.set_cons_zero]
  refine wpList_nil ?_
  repeat (first | (with_reducible refine stopR (id := 7) ?_) | go_values | go_skip | go_guarded | go_step | go_upon | go_back)
  refine Stop.mk (wp_region_lit ?_)
  refine takeL (.int .i64 11) rfl (by go_simp) ?_
  try simp only [Act.put, List.setIfInBounds_toArray, List.set_cons_succ, List.set_cons_zero]
  refine takeL (.bool false) rfl (by go_simp) ?_
  try simp only [Act.put, List.setIfInBounds_toArray, List.set_cons_succ, List.set_cons_zero]
  refine wpList_nil ?_
  go_upto_region 11 with fail
  refine startH (fun wq => Below w66.heap.size w66 wq) (by kernel_rfl) ?_
  refine takeH 0 (some 73) (.int .i64 11) rfl rfl (by kernel_rfl) (by kernel_rfl) (by kernel_rfl) (fun _ _ _ h => h) rfl (fun wq hS => by go_simp) (Below.refl _ _).drew ?_
  try simp only [Act.put, List.setIfInBounds_toArray, List.set_cons_succ, List.set_cons_zero]
  refine takeH 1 (some 74) (.bool true) rfl rfl (by kernel_rfl) (by kernel_rfl) (by kernel_rfl) (fun _ _ _ h => h) rfl (fun wq hS => by go_simp) (Below.refl _ _).drew ?_
  try simp only [Act.put, List.setIfInBounds_toArray, List.set_cons_succ, List.set_cons_zero]
  refine takeH 2 (some 75) (.bool true) rfl rfl (by kernel_rfl) (by kernel_rfl) (by kernel_rfl) (fun _ _ _ h => h) rfl (fun wq hS => by go_simp) (Below.refl _ _).drew ?_
  try simp only [Act.put, List.setIfInBounds_toArray, List.set_cons_succ, List.set_cons_zero]
  refine passH 3 (some 76) rfl rfl (by kernel_rfl) (by kernel_rfl) (by kernel_rfl) (fun _ _ _ h => h) rfl (Below.refl _ _).drew ?_
  try simp only [Act.put, List.setIfInBounds_toArray, List.set_cons_succ, List.set_cons_zero]
  refine passH 4 (some 77) rfl rfl (by kernel_rfl) (by kernel_rfl) (by kernel_rfl) (fun _ _ _ h => h) rfl (Below.refl _ _).drew ?_
  try simp only [Act.put, List.setIfInBounds_toArray, List.set_cons_succ, List.set_cons_zero]
  refine takeH 5 (some 78) (.bool true) rfl rfl (by kernel_rfl) (by kernel_rfl) (by kernel_rfl) (fun _ _ _ h => h) rfl (fun wq hS => by go_simp) (Below.refl _ _).drew ?_
  try simp only [Act.put, List.setIfInBounds_toArray, List.set_cons_succ, List.set_cons_zero]
  refine takeH 6 (some 79) (.bool true) rfl rfl (by kernel_rfl) (by kernel_rfl) (by kernel_rfl) (fun _ _ _ h => h) rfl (fun wq hS => by go_simp) (Below.refl _ _).drew ?_
  try simp only [Act.put, List.setIfInBounds_toArray, List.set_cons_succ, List.set_cons_zero]
  refine passH 7 (some 80) rfl rfl (by kernel_rfl) (by kernel_rfl) (by kernel_rfl) (fun _ _ _ h => h) rfl (Below.refl _ _).drew ?_
  try simp only [Act.put, List.setIfInBounds_toArray, List.set_cons_succ, List.set_cons_zero]
  refine passH 8 (some 81) rfl rfl (by kernel_rfl) (by kernel_rfl) (by kernel_rfl) (fun _ _ _ h => h) rfl (Below.refl _ _).drew ?_
  try simp only [Act.put, List.setIfInBounds_toArray, List.set_cons_succ, List.set_cons_zero]
  refine passH 9 (some 82) rfl rfl (by kernel_rfl) (by kernel_rfl) (by kernel_rfl) (fun _ _ _ h => h) rfl (Below.refl _ _).drew ?_
  try simp only [Act.put, List.setIfInBounds_toArray, List.set_cons_succ, List.set_cons_zero]
  refine passH 10 (some 83) rfl rfl (by kernel_rfl) (by kernel_rfl) (by kernel_rfl) (fun _ _ _ h => h) rfl (Below.refl _ _).drew ?_
  try simp only [Act.put, List.setIfInBounds_toArray, List.set_cons_succ, List.set_cons_zero]
  refine passH 11 (some 84) rfl rfl (by kernel_rfl) (by kernel_rfl) (by kernel_rfl) (fun _ _ _ h => h) rfl (Below.refl _ _).drew ?_
  try simp only [Act.put, List.setIfInBounds_toArray, List.set_cons_succ, List.set_cons_zero]
  refine passH 12 (some 85) rfl rfl (by kernel_rfl) (by kernel_rfl) (by kernel_rfl) (fun _ _ _ h => h) rfl (Below.refl _ _).drew ?_
  try simp only [Act.put, List.setIfInBounds_toArray, List.set_cons_succ, List.set_cons_zero]
  refine passH 13 (some 86) rfl rfl (by kernel_rfl) (by kernel_rfl) (by kernel_rfl) (fun _ _ _ h => h) rfl (Below.refl _ _).drew ?_
  try simp only [Act.put, List.setIfInBounds_toArray, List.set_cons_succ, List.set_cons_zero]
  refine passH 14 (some 87) rfl rfl (by kernel_rfl) (by kernel_rfl) (by kernel_rfl) (fun _ _ _ h => h) rfl (Below.refl _ _).drew ?_
  try simp only [Act.put, List.setIfInBounds_toArray, List.set_cons_succ, List.set_cons_zero]
  refine passH 15 (some 88) rfl rfl (by kernel_rfl) (by kernel_rfl) (by kernel_rfl) (fun _ _ _ h => h) rfl (Below.refl _ _).drew ?_
  try simp only [Act.put, List.setIfInBounds_toArray, List.set_cons_succ, List.set_cons_zero]
  refine passH 16 (some 89) rfl rfl (by kernel_rfl) (by kernel_rfl) (by kernel_rfl) (fun _ _ _ h => h) rfl (Below.refl _ _).drew ?_
  try simp only [Act.put, List.setIfInBounds_toArray, List.set_cons_succ, List.set_cons_zero]
  refine passH 17 (some 90) rfl rfl (by kernel_rfl) (by kernel_rfl) (by kernel_rfl) (fun _ _ _ h => h) rfl (Below.refl _ _).drew ?_
  try simp only [Act.put, List.setIfInBounds_toArray, List.set_cons_succ, List.set_cons_zero]
  refine passH 18 (some 91) rfl rfl (by kernel_rfl) (by kernel_rfl) (by kernel_rfl) (fun _ _ _ h => h) rfl (Below.refl _ _).drew ?_
  try simp only [Act.put, List.setIfInBounds_toArray, List.set_cons_succ, List.set_cons_zero]
  refine passH 19 (some 92) rfl rfl (by kernel_rfl) (by kernel_rfl) (by kernel_rfl) (fun _ _ _ h => h) rfl (Below.refl _ _).drew ?_
  try simp only [Act.put, List.setIfInBounds_toArray, List.set_cons_succ, List.set_cons_zero]
  refine passH 20 (some 93) rfl rfl (by kernel_rfl) (by kernel_rfl) (by kernel_rfl) (fun _ _ _ h => h) rfl (Below.refl _ _).drew ?_
  try simp only [Act.put, List.setIfInBounds_toArray, List.set_cons_succ, List.set_cons_zero]
  refine takeH 21 (some 94) (.bool true) rfl rfl (by kernel_rfl) (by kernel_rfl) (by kernel_rfl) (fun _ _ _ h => h) rfl (fun wq hS => by go_simp) (Below.refl _ _).drew ?_
  try simp only [Act.put, List.setIfInBounds_toArray, List.set_cons_succ, List.set_cons_zero]
  refine takeH 22 (some 95) (.bool true) rfl rfl (by kernel_rfl) (by kernel_rfl) (by kernel_rfl) (fun _ _ _ h => h) rfl (fun wq hS => by go_simp) (Below.refl _ _).drew ?_
  try simp only [Act.put, List.setIfInBounds_toArray, List.set_cons_succ, List.set_cons_zero]
  refine oneH 23 (by kernel_rfl) rfl rfl fun K hK => ?_
  go_simp
  refine (wakes_any _).mono ?_
  rintro e w75 ⟨rfl, hb⟩
  have HS76 := Lib.hid (stay (Below.refl _ _).drew hb)
  clear hb
  refine hK _ _ HS76.out ?_
  clear hK K
  try simp only [Act.put, List.setIfInBounds_toArray, List.set_cons_succ, List.set_cons_zero]
  refine takeH 24 (some 97) (.bool true) rfl rfl (by kernel_rfl) (by kernel_rfl) (by kernel_rfl) (fun _ _ _ h => h) rfl (fun wq hS => by go_simp) HS76.out ?_
  try simp only [Act.put, List.setIfInBounds_toArray, List.set_cons_succ, List.set_cons_zero]
  refine takeH 25 (some 6) (.bool true) rfl rfl (by kernel_rfl) (by kernel_rfl) (by kernel_rfl) (fun _ _ _ h => h) rfl (fun wq hS => by go_simp) HS76.out ?_
  try simp only [Act.put, List.setIfInBounds_toArray, List.set_cons_succ, List.set_cons_zero]
  refine wpAnyH_done (by kernel_rfl) ?_ _
  go_wp2_with fail
  go_ret
  exact ⟨rfl, F67.out.trans (HS76.out.mono F67.out.size)⟩
set_option maxHeartbeats 1000000 in
set_option maxRecDepth 100000 in
theorem back_ft (b c : Bk) (sv cv : Value) (hb : b.Wf) (hc : c.Wf) (n m : Int) (hn : 0 ≤ n ∧ n < 4294967296) (hm : 0 ≤ m ∧ m < 4294967296) (hk1 : b.bytes.length ≤ 300) (hk2 : c.bytes.length ≤ 300) (gb : b.good = false) (gc : c.good = true) (w : World) (hbs : BytesAt w sv b.bytes) (hcs : BytesAt w cv c.bytes) : Calls Try.prog 4 #[.agg (b.arr sv), .agg (c.arr cv), .agg #[.int .u32 n, .int .u32 m]] w fun e w' => e = .returned (.bool true) ∧ Below w.heap.size w w' := by
  have HWb := Lib.hid hb
  have HWc := Lib.hid hc
  have HZb := Lib.hid (b.arr_size hb sv)
  have HZc := Lib.hid (c.arr_size hc cv)
  have HXb := Lib.hid (sec_length hb n)
  have HXc := Lib.hid (sec_length hc m)
  have HSb : Hid ((u8s (b.sec n)).toArray.size = 64) := Lib.hid (by rw [u8s_size, HXb.out])
  have HSc : Hid ((u8s (c.sec m)).toArray.size = 64) := Lib.hid (by rw [u8s_size, HXc.out])
  have HNN := Lib.hid hn
  have HMM := Lib.hid hm
  obtain ⟨ab, capb, hsvb⟩ := hbs.len
  obtain ⟨ac, capc, hsvc⟩ := hcs.len
  have HSVb := Lib.hid hsvb
  have HSVc := Lib.hid hsvc
  have FYB := Lib.hid hbs
  have FYC := Lib.hid hcs
  have HBL : Hid (Below w.heap.size w w) := Lib.hid (Below.refl _ _)
  have hl1 : ¬ (300 : Int) < b.bytes.length := by omega
  have hl2 : ¬ (300 : Int) < c.bytes.length := by omega
  have HGb := Lib.hid gb
  have HGc := Lib.hid gc
  clear gb gc
  clear hk1 hk2
  clear hb hc hn hm hbs hcs hsvb hsvc
  go_enter Try.func4, Try.ntmps4
  repeat (first | (with_reducible refine stopR (id := 0) ?_) | go_values | go_skip | go_guarded | go_step | go_upon | go_back)
  refine Stop.mk (wp_region_lit ?_)
  refine box_g rfl rfl ?_
  intro w1 hA hb hl
  try simp only [Act.put, List.setIfInBounds_toArray, List.set_cons_succ, List.set_cons_zero]
  clear hl
  have F2 := Lib.hid (HBL.out.trans (hb.mono HBL.out.size))
  have F3 := Lib.hid (FYB.out.below hb)
  have F4 := Lib.hid (FYC.out.below hb)
  clear HBL FYB FYC
  have F5 := Lib.hid (show BAt _ _ b sv from ⟨hA, HWb.out⟩)
  clear hA hb
  refine box_g rfl rfl ?_
  intro w6 hA hb hl
  try simp only [Act.put, List.setIfInBounds_toArray, List.set_cons_succ, List.set_cons_zero]
  clear hl
  have F7 := Lib.hid (F2.out.trans (hb.mono F2.out.size))
  have F8 := Lib.hid (F3.out.below hb)
  have F9 := Lib.hid (F4.out.below hb)
  have F10 := Lib.hid (F5.out.below hb F5.out.lt)
  clear F2 F3 F4 F5
  have F11 := Lib.hid (show BAt _ _ c cv from ⟨hA, HWc.out⟩)
  clear hA hb
  generalize w1.heap.size = g12 at *
  clear w1
  refine box_g rfl rfl ?_
  intro w13 hA hb hl
  try simp only [Act.put, List.setIfInBounds_toArray, List.set_cons_succ, List.set_cons_zero]
  clear hl
  have F14 := Lib.hid (F7.out.trans (hb.mono F7.out.size))
  have F15 := Lib.hid (F8.out.below hb)
  have F16 := Lib.hid (F9.out.below hb)
  have F17 := Lib.hid (F10.out.below hb F10.out.lt)
  have F18 := Lib.hid (F11.out.below hb F11.out.lt)
  clear F7 F8 F9 F10 F11
  have F19 := Lib.hid hA
  clear hA hb
  generalize w6.heap.size = g20 at *
  clear w6
  refine takeL (.bool false) rfl (by go_simp) ?_
  try simp only [Act.put, List.setIfInBounds_toArray, List.set_cons_succ, List.set_cons_zero]
  refine wpList_nil ?_
  repeat (first | (with_reducible refine stopR (id := 1) ?_) | go_values | go_skip | go_guarded | go_step | go_upon | go_back)
  refine Stop.mk (wp_region_lit ?_)
  refine takeL (.pointer (some ⟨w.heap.size, 35, none⟩)) rfl (by go_simp) ?_
  try simp only [Act.put, List.setIfInBounds_toArray, List.set_cons_succ, List.set_cons_zero]
  refine takeL (.slice ab b.bytes.length capb) rfl (by have hq := F17.out.c35.trans (congrArg some HSVb.out); go_simp) ?_
  try simp only [Act.put, List.setIfInBounds_toArray, List.set_cons_succ, List.set_cons_zero]
  refine takeL (.int .i64 (b.bytes.length)) rfl (by go_simp) ?_
  try simp only [Act.put, List.setIfInBounds_toArray, List.set_cons_succ, List.set_cons_zero]
  refine takeL (.bool false) rfl (by go_simp) ?_
  try simp only [Act.put, List.setIfInBounds_toArray, List.set_cons_succ, List.set_cons_zero]
  refine takeL (.bool false) rfl (by go_simp) ?_
  try simp only [Act.put, List.setIfInBounds_toArray, List.set_cons_succ, List.set_cons_zero]
  refine takeL (.pointer (some ⟨g12, 35, none⟩)) rfl (by go_simp) ?_
  try simp only [Act.put, List.setIfInBounds_toArray, List.set_cons_succ, List.set_cons_zero]
  refine takeL (.slice ac c.bytes.length capc) rfl (by have hq := F18.out.c35.trans (congrArg some HSVc.out); go_simp) ?_
  try simp only [Act.put, List.setIfInBounds_toArray, List.set_cons_succ, List.set_cons_zero]
  refine takeL (.int .i64 (c.bytes.length)) rfl (by go_simp) ?_
  try simp only [Act.put, List.setIfInBounds_toArray, List.set_cons_succ, List.set_cons_zero]
  refine takeL (.bool false) rfl (by go_simp) ?_
  try simp only [Act.put, List.setIfInBounds_toArray, List.set_cons_succ, List.set_cons_zero]
  refine takeL (.bool false) rfl (by go_simp) ?_
  try simp only [Act.put, List.setIfInBounds_toArray, List.set_cons_succ, List.set_cons_zero]
  refine wpList_nil ?_
  repeat (first | (with_reducible refine stopR (id := 3) ?_) | go_values | go_skip | go_guarded | go_step | go_upon | go_back)
  refine Stop.mk (wp_region_lit ?_)
  refine load27 (cs := (b.arr sv)) F17.out.all HZb.out rfl rfl ?_
  try simp only [Act.put, List.setIfInBounds_toArray, List.set_cons_succ, List.set_cons_zero]
  refine takeL (.pointer (some ⟨g20, 0, none⟩)) rfl (by go_simp) ?_
  try simp only [Act.put, List.setIfInBounds_toArray, List.set_cons_succ, List.set_cons_zero]
  refine takeL (.int .u32 n) rfl (by have hq := F19.out.cell (i := 0) (v := .int .u32 n) rfl; go_simp) ?_
  try simp only [Act.put, List.setIfInBounds_toArray, List.set_cons_succ, List.set_cons_zero]
  refine wpList_op rfl fun K hK => ?_
  go_simp
  refine (encode_err (err_bad HGb.out) sv n _ F15.out HWb.out HNN.out).mono ?_
  rintro e w21 ⟨rfl, hb⟩
  have F22 := Lib.hid (F14.out.trans (hb.mono F14.out.size))
  have F23 := Lib.hid (F15.out.below hb)
  have F24 := Lib.hid (F16.out.below hb)
  have F25 := Lib.hid (F17.out.below hb F17.out.lt)
  have F26 := Lib.hid (F18.out.below hb F18.out.lt)
  have F27 := Lib.hid (F19.out.below hb F19.out.lt)
  clear F14 F15 F16 F17 F18 F19
  clear hb
  refine hK _ _ ?_
  clear hK K
  try simp only [Act.put, List.setIfInBounds_toArray, List.set_cons_succ, List.set_cons_zero]
  refine takeL (.tuple #[.agg (u8s (b.sec n)).toArray, .int .i64 11]) rfl (by go_simp) ?_
  try simp only [Act.put, List.setIfInBounds_toArray, List.set_cons_succ, List.set_cons_zero]
  refine takeL (.agg (u8s (b.sec n)).toArray) rfl (by go_simp) ?_
  try simp only [Act.put, List.setIfInBounds_toArray, List.set_cons_succ, List.set_cons_zero]
  refine takeL (.int .i64 11) rfl (by go_simp) ?_
  try simp only [Act.put, List.setIfInBounds_toArray, List.set_cons_succ, List.set_cons_zero]
  refine alloc_g zero30 rfl ?_
  intro w28 hC hBC hlC
  try simp only [Act.put, List.setIfInBounds_toArray, List.set_cons_succ, List.set_cons_zero]
  refine store_all (cs := (u8s (b.sec n)).toArray) hC (by rw [HSb.out]; simp [zeros]) (by rw [HSb.out]; exact info30) (u8s_one _) rfl rfl rfl ?_
  intro w29 hD hOD hlD
  try simp only [Act.put, List.setIfInBounds_toArray, List.set_cons_succ, List.set_cons_zero]
  have hb := hBC.trans (hOD.below hBC.size (fun k hk => Nat.le_of_eq hk.symm))
  have F30 := Lib.hid (F22.out.trans (hb.mono F22.out.size))
  have F31 := Lib.hid (F23.out.below hb)
  have F32 := Lib.hid (F24.out.below hb)
  have F33 := Lib.hid (F25.out.below hb F25.out.lt)
  have F34 := Lib.hid (F26.out.below hb F26.out.lt)
  have F35 := Lib.hid (F27.out.below hb F27.out.lt)
  clear F22 F23 F24 F25 F26 F27
  have F36 := Lib.hid hD
  clear hC hBC hlC hD hOD hlD hb
  generalize w21.heap.size = g37 at *
  clear w28 w21
  refine takeL (.int .i64 11) rfl (by go_simp) ?_
  try simp only [Act.put, List.setIfInBounds_toArray, List.set_cons_succ, List.set_cons_zero]
  refine wpList_nil ?_
  repeat (first | (with_reducible refine stopR (id := 4) ?_) | go_values | go_skip | go_guarded | go_step | go_upon | go_back)
  refine Stop.mk (wp_region_lit ?_)
  refine load27 (cs := (c.arr cv)) F34.out.all HZc.out rfl rfl ?_
  try simp only [Act.put, List.setIfInBounds_toArray, List.set_cons_succ, List.set_cons_zero]
  refine takeL (.pointer (some ⟨g20, 1, none⟩)) rfl (by go_simp) ?_
  try simp only [Act.put, List.setIfInBounds_toArray, List.set_cons_succ, List.set_cons_zero]
  refine takeL (.int .u32 m) rfl (by have hq := F35.out.cell (i := 1) (v := .int .u32 m) rfl; go_simp) ?_
  try simp only [Act.put, List.setIfInBounds_toArray, List.set_cons_succ, List.set_cons_zero]
  refine wpList_op rfl fun K hK => ?_
  go_simp
  refine (encode_err (err_good HGc.out) cv m _ F32.out HWc.out HMM.out).mono ?_
  rintro e w38 ⟨rfl, hb⟩
  have F39 := Lib.hid (F30.out.trans (hb.mono F30.out.size))
  have F40 := Lib.hid (F31.out.below hb)
  have F41 := Lib.hid (F32.out.below hb)
  have F42 := Lib.hid (F33.out.below hb F33.out.lt)
  have F43 := Lib.hid (F34.out.below hb F34.out.lt)
  have F44 := Lib.hid (F35.out.below hb F35.out.lt)
  have F45 := Lib.hid (F36.out.below hb F36.out.lt)
  clear F30 F31 F32 F33 F34 F35 F36
  clear hb
  refine hK _ _ ?_
  clear hK K
  try simp only [Act.put, List.setIfInBounds_toArray, List.set_cons_succ, List.set_cons_zero]
  refine takeL (.tuple #[.agg (u8s (c.sec m)).toArray, .int .i64 0]) rfl (by go_simp) ?_
  try simp only [Act.put, List.setIfInBounds_toArray, List.set_cons_succ, List.set_cons_zero]
  refine takeL (.agg (u8s (c.sec m)).toArray) rfl (by go_simp) ?_
  try simp only [Act.put, List.setIfInBounds_toArray, List.set_cons_succ, List.set_cons_zero]
  refine takeL (.int .i64 0) rfl (by go_simp) ?_
  try simp only [Act.put, List.setIfInBounds_toArray, List.set_cons_succ, List.set_cons_zero]
  refine alloc_g zero30 rfl ?_
  intro w46 hC hBC hlC
  try simp only [Act.put, List.setIfInBounds_toArray, List.set_cons_succ, List.set_cons_zero]
  refine store_all (cs := (u8s (c.sec m)).toArray) hC (by rw [HSc.out]; simp [zeros]) (by rw [HSc.out]; exact info30) (u8s_one _) rfl rfl rfl ?_
  intro w47 hD hOD hlD
  try simp only [Act.put, List.setIfInBounds_toArray, List.set_cons_succ, List.set_cons_zero]
  have hb := hBC.trans (hOD.below hBC.size (fun k hk => Nat.le_of_eq hk.symm))
  have F48 := Lib.hid (F39.out.trans (hb.mono F39.out.size))
  have F49 := Lib.hid (F40.out.below hb)
  have F50 := Lib.hid (F41.out.below hb)
  have F51 := Lib.hid (F42.out.below hb F42.out.lt)
  have F52 := Lib.hid (F43.out.below hb F43.out.lt)
  have F53 := Lib.hid (F44.out.below hb F44.out.lt)
  have F54 := Lib.hid (F45.out.below hb F45.out.lt)
  clear F39 F40 F41 F42 F43 F44 F45
  have F55 := Lib.hid hD
  clear hC hBC hlC hD hOD hlD hb
  generalize w38.heap.size = g56 at *
  clear w46 w38
  refine takeL (.int .i64 0) rfl (by go_simp) ?_
  try simp only [Act.put, List.setIfInBounds_toArray, List.set_cons_succ, List.set_cons_zero]
  refine wpList_nil ?_
  repeat (first | (with_reducible refine stopR (id := 5) ?_) | go_values | go_skip | go_guarded | go_step | go_upon | go_back)
  refine Stop.mk (wp_region_lit ?_)
  refine takeL (.int .i64 11) rfl (by go_simp) ?_
  try simp only [Act.put, List.setIfInBounds_toArray, List.set_cons_succ, List.set_cons_zero]
  refine takeL (.bool false) rfl (by go_simp) ?_
  try simp only [Act.put, List.setIfInBounds_toArray, List.set_cons_succ, List.set_cons_zero]
  refine load27 (cs := (b.arr sv)) F51.out.all HZb.out rfl rfl ?_
  try simp only [Act.put, List.setIfInBounds_toArray, List.set_cons_succ, List.set_cons_zero]
  refine wpList_op rfl fun K hK => ?_
  go_simp
  refine (good_is HGb.out sv F49.out.len HWb.out _).mono ?_
  rintro e w57 ⟨rfl, hb⟩
  have F58 := Lib.hid (F48.out.trans (hb.mono F48.out.size))
  have F59 := Lib.hid (F49.out.below hb)
  have F60 := Lib.hid (F50.out.below hb)
  have F61 := Lib.hid (F51.out.below hb F51.out.lt)
  have F62 := Lib.hid (F52.out.below hb F52.out.lt)
  have F63 := Lib.hid (F53.out.below hb F53.out.lt)
  have F64 := Lib.hid (F54.out.below hb F54.out.lt)
  have F65 := Lib.hid (F55.out.below hb F55.out.lt)
  clear F48 F49 F50 F51 F52 F53 F54 F55
  clear hb
  refine hK _ _ ?_
  clear hK K
  try simp only [Act.put, List.setIfInBounds_toArray, List.set_cons_succ, List.set_cons_zero]
  refine takeL (.bool false) rfl (by go_simp) ?_
  try simp only [Act.put, List.setIfInBounds_toArray, List.set_cons_succ, List.set_cons_zero]
  refine takeL (.bool false) rfl (by go_simp) ?_
  try simp only [Act.put, List.setIfInBounds_toArray, List.set_cons_succ, List.set_cons_zero]
  refine takeL (.int .i64 0) rfl (by go_simp) ?_
  try simp only [Act.put, List.setIfInBounds_toArray, List.set_cons_succ, List.set_cons_zero]
  refine takeL (.bool true) rfl (by go_simp) ?_
  try simp only [Act.put, List.setIfInBounds_toArray, List.set_cons_succ, List.set_cons_zero]
  refine load27 (cs := (c.arr cv)) F62.out.all HZc.out rfl rfl ?_
  try simp only [Act.put, List.setIfInBounds_toArray, List.set_cons_succ, List.set_cons_zero]
  refine wpList_op rfl fun K hK => ?_
  go_simp
  refine (good_is HGc.out cv F60.out.len HWc.out _).mono ?_
  rintro e w66 ⟨rfl, hb⟩
  have F67 := Lib.hid (F58.out.trans (hb.mono F58.out.size))
  have F68 := Lib.hid (F59.out.below hb)
  have F69 := Lib.hid (F60.out.below hb)
  have F70 := Lib.hid (F61.out.below hb F61.out.lt)
  have F71 := Lib.hid (F62.out.below hb F62.out.lt)
  have F72 := Lib.hid (F63.out.below hb F63.out.lt)
  have F73 := Lib.hid (F64.out.below hb F64.out.lt)
  have F74 := Lib.hid (F65.out.below hb F65.out.lt)
  clear F58 F59 F60 F61 F62 F63 F64 F65
  clear hb
  refine hK _ _ ?_
  clear hK K
  try simp only [Act.put, List.setIfInBounds_toArray, List.set_cons_succ, List.set_cons_zero]
  refine takeL (.bool false) rfl (by go_simp) ?_
  try simp only [Act.put, List.setIfInBounds_toArray, List.set_cons_succ, List.set_cons_zero]
  refine takeL (.bool false) rfl (by go_simp) ?_
  try simp only [Act.put, List.setIfInBounds_toArray, List.set_cons_succ, List.set_cons_zero]
  refine wpList_nil ?_
  repeat (first | (with_reducible refine stopR (id := 7) ?_) | go_values | go_skip | go_guarded | go_step | go_upon | go_back)
  refine Stop.mk (wp_region_lit ?_)
  refine takeL (.int .i64 11) rfl (by go_simp) ?_
  try simp only [Act.put, List.setIfInBounds_toArray, List.set_cons_succ, List.set_cons_zero]
  refine takeL (.bool false) rfl (by go_simp) ?_
  try simp only [Act.put, List.setIfInBounds_toArray, List.set_cons_succ, List.set_cons_zero]
  refine wpList_nil ?_
  go_upto_region 11 with fail
  refine startH (fun wq => Below w66.heap.size w66 wq) (by kernel_rfl) ?_
  refine takeH 0 (some 73) (.int .i64 11) rfl rfl (by kernel_rfl) (by kernel_rfl) (by kernel_rfl) (fun _ _ _ h => h) rfl (fun wq hS => by go_simp) (Below.refl _ _).drew ?_
  try simp only [Act.put, List.setIfInBounds_toArray, List.set_cons_succ, List.set_cons_zero]
  refine takeH 1 (some 74) (.bool true) rfl rfl (by kernel_rfl) (by kernel_rfl) (by kernel_rfl) (fun _ _ _ h => h) rfl (fun wq hS => by go_simp) (Below.refl _ _).drew ?_
  try simp only [Act.put, List.setIfInBounds_toArray, List.set_cons_succ, List.set_cons_zero]
  refine takeH 2 (some 75) (.bool true) rfl rfl (by kernel_rfl) (by kernel_rfl) (by kernel_rfl) (fun _ _ _ h => h) rfl (fun wq hS => by go_simp) (Below.refl _ _).drew ?_
  try simp only [Act.put, List.setIfInBounds_toArray, List.set_cons_succ, List.set_cons_zero]
  refine passH 3 (some 76) rfl rfl (by kernel_rfl) (by kernel_rfl) (by kernel_rfl) (fun _ _ _ h => h) rfl (Below.refl _ _).drew ?_
  try simp only [Act.put, List.setIfInBounds_toArray, List.set_cons_succ, List.set_cons_zero]
  refine passH 4 (some 77) rfl rfl (by kernel_rfl) (by kernel_rfl) (by kernel_rfl) (fun _ _ _ h => h) rfl (Below.refl _ _).drew ?_
  try simp only [Act.put, List.setIfInBounds_toArray, List.set_cons_succ, List.set_cons_zero]
  refine takeH 5 (some 78) (.bool true) rfl rfl (by kernel_rfl) (by kernel_rfl) (by kernel_rfl) (fun _ _ _ h => h) rfl (fun wq hS => by go_simp) (Below.refl _ _).drew ?_
  try simp only [Act.put, List.setIfInBounds_toArray, List.set_cons_succ, List.set_cons_zero]
  refine takeH 6 (some 79) (.bool true) rfl rfl (by kernel_rfl) (by kernel_rfl) (by kernel_rfl) (fun _ _ _ h => h) rfl (fun wq hS => by go_simp) (Below.refl _ _).drew ?_
  try simp only [Act.put, List.setIfInBounds_toArray, List.set_cons_succ, List.set_cons_zero]
  refine passH 7 (some 80) rfl rfl (by kernel_rfl) (by kernel_rfl) (by kernel_rfl) (fun _ _ _ h => h) rfl (Below.refl _ _).drew ?_
  try simp only [Act.put, List.setIfInBounds_toArray, List.set_cons_succ, List.set_cons_zero]
  refine passH 8 (some 81) rfl rfl (by kernel_rfl) (by kernel_rfl) (by kernel_rfl) (fun _ _ _ h => h) rfl (Below.refl _ _).drew ?_
  try simp only [Act.put, List.setIfInBounds_toArray, List.set_cons_succ, List.set_cons_zero]
  refine passH 9 (some 82) rfl rfl (by kernel_rfl) (by kernel_rfl) (by kernel_rfl) (fun _ _ _ h => h) rfl (Below.refl _ _).drew ?_
  try simp only [Act.put, List.setIfInBounds_toArray, List.set_cons_succ, List.set_cons_zero]
  refine passH 10 (some 83) rfl rfl (by kernel_rfl) (by kernel_rfl) (by kernel_rfl) (fun _ _ _ h => h) rfl (Below.refl _ _).drew ?_
  try simp only [Act.put, List.setIfInBounds_toArray, List.set_cons_succ, List.set_cons_zero]
  refine passH 11 (some 84) rfl rfl (by kernel_rfl) (by kernel_rfl) (by kernel_rfl) (fun _ _ _ h => h) rfl (Below.refl _ _).drew ?_
  try simp only [Act.put, List.setIfInBounds_toArray, List.set_cons_succ, List.set_cons_zero]
  refine passH 12 (some 85) rfl rfl (by kernel_rfl) (by kernel_rfl) (by kernel_rfl) (fun _ _ _ h => h) rfl (Below.refl _ _).drew ?_
  try simp only [Act.put, List.setIfInBounds_toArray, List.set_cons_succ, List.set_cons_zero]
  refine passH 13 (some 86) rfl rfl (by kernel_rfl) (by kernel_rfl) (by kernel_rfl) (fun _ _ _ h => h) rfl (Below.refl _ _).drew ?_
  try simp only [Act.put, List.setIfInBounds_toArray, List.set_cons_succ, List.set_cons_zero]
  refine passH 14 (some 87) rfl rfl (by kernel_rfl) (by kernel_rfl) (by kernel_rfl) (fun _ _ _ h => h) rfl (Below.refl _ _).drew ?_
  try simp only [Act.put, List.setIfInBounds_toArray, List.set_cons_succ, List.set_cons_zero]
  refine passH 15 (some 88) rfl rfl (by kernel_rfl) (by kernel_rfl) (by kernel_rfl) (fun _ _ _ h => h) rfl (Below.refl _ _).drew ?_
  try simp only [Act.put, List.setIfInBounds_toArray, List.set_cons_succ, List.set_cons_zero]
  refine passH 16 (some 89) rfl rfl (by kernel_rfl) (by kernel_rfl) (by kernel_rfl) (fun _ _ _ h => h) rfl (Below.refl _ _).drew ?_
  try simp only [Act.put, List.setIfInBounds_toArray, List.set_cons_succ, List.set_cons_zero]
  refine passH 17 (some 90) rfl rfl (by kernel_rfl) (by kernel_rfl) (by kernel_rfl) (fun _ _ _ h => h) rfl (Below.refl _ _).drew ?_
  try simp only [Act.put, List.setIfInBounds_toArray, List.set_cons_succ, List.set_cons_zero]
  refine passH 18 (some 91) rfl rfl (by kernel_rfl) (by kernel_rfl) (by kernel_rfl) (fun _ _ _ h => h) rfl (Below.refl _ _).drew ?_
  try simp only [Act.put, List.setIfInBounds_toArray, List.set_cons_succ, List.set_cons_zero]
  refine passH 19 (some 92) rfl rfl (by kernel_rfl) (by kernel_rfl) (by kernel_rfl) (fun _ _ _ h => h) rfl (Below.refl _ _).drew ?_
  try simp only [Act.put, List.setIfInBounds_toArray, List.set_cons_succ, List.set_cons_zero]
  refine passH 20 (some 93) rfl rfl (by kernel_rfl) (by kernel_rfl) (by kernel_rfl) (fun _ _ _ h => h) rfl (Below.refl _ _).drew ?_
  try simp only [Act.put, List.setIfInBounds_toArray, List.set_cons_succ, List.set_cons_zero]
  refine takeH 21 (some 94) (.bool true) rfl rfl (by kernel_rfl) (by kernel_rfl) (by kernel_rfl) (fun _ _ _ h => h) rfl (fun wq hS => by go_simp) (Below.refl _ _).drew ?_
  try simp only [Act.put, List.setIfInBounds_toArray, List.set_cons_succ, List.set_cons_zero]
  refine takeH 22 (some 95) (.bool true) rfl rfl (by kernel_rfl) (by kernel_rfl) (by kernel_rfl) (fun _ _ _ h => h) rfl (fun wq hS => by go_simp) (Below.refl _ _).drew ?_
  try simp only [Act.put, List.setIfInBounds_toArray, List.set_cons_succ, List.set_cons_zero]
  refine oneH 23 (by kernel_rfl) rfl rfl fun K hK => ?_
  go_simp
  refine (wakes_any _).mono ?_
  rintro e w75 ⟨rfl, hb⟩
  have HS76 := Lib.hid (stay (Below.refl _ _).drew hb)
  clear hb
  refine hK _ _ HS76.out ?_
  clear hK K
  try simp only [Act.put, List.setIfInBounds_toArray, List.set_cons_succ, List.set_cons_zero]
  refine takeH 24 (some 97) (.bool true) rfl rfl (by kernel_rfl) (by kernel_rfl) (by kernel_rfl) (fun _ _ _ h => h) rfl (fun wq hS => by go_simp) HS76.out ?_
  try simp only [Act.put, List.setIfInBounds_toArray, List.set_cons_succ, List.set_cons_zero]
  refine takeH 25 (some 6) (.bool true) rfl rfl (by kernel_rfl) (by kernel_rfl) (by kernel_rfl) (fun _ _ _ h => h) rfl (fun wq hS => by go_simp) HS76.out ?_
  try simp only [Act.put, List.setIfInBounds_toArray, List.set_cons_succ, List.set_cons_zero]
  refine wpAnyH_done (by kernel_rfl) ?_ _
  go_wp2_with fail
  go_ret
  exact ⟨rfl, F67.out.trans (HS76.out.mono F67.out.size)⟩
set_option maxHeartbeats 1000000 in
set_option maxRecDepth 100000 in
theorem back_tf (b c : Bk) (sv cv : Value) (hb : b.Wf) (hc : c.Wf) (n m : Int) (hn : 0 ≤ n ∧ n < 4294967296) (hm : 0 ≤ m ∧ m < 4294967296) (hk1 : b.bytes.length ≤ 300) (hk2 : c.bytes.length ≤ 300) (gb : b.good = true) (gc : c.good = false) (w : World) (hbs : BytesAt w sv b.bytes) (hcs : BytesAt w cv c.bytes) : Calls Try.prog 4 #[.agg (b.arr sv), .agg (c.arr cv), .agg #[.int .u32 n, .int .u32 m]] w fun e w' => e = .returned (.bool true) ∧ Below w.heap.size w w' := by
  have HWb := Lib.hid hb
  have HWc := Lib.hid hc
  have HZb := Lib.hid (b.arr_size hb sv)
  have HZc := Lib.hid (c.arr_size hc cv)
  have HXb := Lib.hid (sec_length hb n)
  have HXc := Lib.hid (sec_length hc m)
  have HSb : Hid ((u8s (b.sec n)).toArray.size = 64) := Lib.hid (by rw [u8s_size, HXb.out])
  have HSc : Hid ((u8s (c.sec m)).toArray.size = 64) := Lib.hid (by rw [u8s_size, HXc.out])
  have HNN := Lib.hid hn
  have HMM := Lib.hid hm
  obtain ⟨ab, capb, hsvb⟩ := hbs.len
  obtain ⟨ac, capc, hsvc⟩ := hcs.len
  have HSVb := Lib.hid hsvb
  have HSVc := Lib.hid hsvc
  have FYB := Lib.hid hbs
  have FYC := Lib.hid hcs
  have HBL : Hid (Below w.heap.size w w) := Lib.hid (Below.refl _ _)
  have hl1 : ¬ (300 : Int) < b.bytes.length := by omega
  have hl2 : ¬ (300 : Int) < c.bytes.length := by omega
  have HGb := Lib.hid gb
  have HGc := Lib.hid gc
  clear gb gc
  clear hk1 hk2
  clear hb hc hn hm hbs hcs hsvb hsvc
  go_enter Try.func4, Try.ntmps4
  repeat (first | (with_reducible refine stopR (id := 0) ?_) | go_values | go_skip | go_guarded | go_step | go_upon | go_back)
  refine Stop.mk (wp_region_lit ?_)
  refine box_g rfl rfl ?_
  intro w1 hA hb hl
  try simp only [Act.put, List.setIfInBounds_toArray, List.set_cons_succ, List.set_cons_zero]
  clear hl
  have F2 := Lib.hid (HBL.out.trans (hb.mono HBL.out.size))
  have F3 := Lib.hid (FYB.out.below hb)
  have F4 := Lib.hid (FYC.out.below hb)
  clear HBL FYB FYC
  have F5 := Lib.hid (show BAt _ _ b sv from ⟨hA, HWb.out⟩)
  clear hA hb
  refine box_g rfl rfl ?_
  intro w6 hA hb hl
  try simp only [Act.put, List.setIfInBounds_toArray, List.set_cons_succ, List.set_cons_zero]
  clear hl
  have F7 := Lib.hid (F2.out.trans (hb.mono F2.out.size))
  have F8 := Lib.hid (F3.out.below hb)
  have F9 := Lib.hid (F4.out.below hb)
  have F10 := Lib.hid (F5.out.below hb F5.out.lt)
  clear F2 F3 F4 F5
  have F11 := Lib.hid (show BAt _ _ c cv from ⟨hA, HWc.out⟩)
  clear hA hb
  generalize w1.heap.size = g12 at *
  clear w1
  refine box_g rfl rfl ?_
  intro w13 hA hb hl
  try simp only [Act.put, List.setIfInBounds_toArray, List.set_cons_succ, List.set_cons_zero]
  clear hl
  have F14 := Lib.hid (F7.out.trans (hb.mono F7.out.size))
  have F15 := Lib.hid (F8.out.below hb)
  have F16 := Lib.hid (F9.out.below hb)
  have F17 := Lib.hid (F10.out.below hb F10.out.lt)
  have F18 := Lib.hid (F11.out.below hb F11.out.lt)
  clear F7 F8 F9 F10 F11
  have F19 := Lib.hid hA
  clear hA hb
  generalize w6.heap.size = g20 at *
  clear w6
  refine takeL (.bool false) rfl (by go_simp) ?_
  try simp only [Act.put, List.setIfInBounds_toArray, List.set_cons_succ, List.set_cons_zero]
  refine wpList_nil ?_
  repeat (first | (with_reducible refine stopR (id := 1) ?_) | go_values | go_skip | go_guarded | go_step | go_upon | go_back)
  refine Stop.mk (wp_region_lit ?_)
  refine takeL (.pointer (some ⟨w.heap.size, 35, none⟩)) rfl (by go_simp) ?_
  try simp only [Act.put, List.setIfInBounds_toArray, List.set_cons_succ, List.set_cons_zero]
  refine takeL (.slice ab b.bytes.length capb) rfl (by have hq := F17.out.c35.trans (congrArg some HSVb.out); go_simp) ?_
  try simp only [Act.put, List.setIfInBounds_toArray, List.set_cons_succ, List.set_cons_zero]
  refine takeL (.int .i64 (b.bytes.length)) rfl (by go_simp) ?_
  try simp only [Act.put, List.setIfInBounds_toArray, List.set_cons_succ, List.set_cons_zero]
  refine takeL (.bool false) rfl (by go_simp) ?_
  try simp only [Act.put, List.setIfInBounds_toArray, List.set_cons_succ, List.set_cons_zero]
  refine takeL (.bool false) rfl (by go_simp) ?_
  try simp only [Act.put, List.setIfInBounds_toArray, List.set_cons_succ, List.set_cons_zero]
  refine takeL (.pointer (some ⟨g12, 35, none⟩)) rfl (by go_simp) ?_
  try simp only [Act.put, List.setIfInBounds_toArray, List.set_cons_succ, List.set_cons_zero]
  refine takeL (.slice ac c.bytes.length capc) rfl (by have hq := F18.out.c35.trans (congrArg some HSVc.out); go_simp) ?_
  try simp only [Act.put, List.setIfInBounds_toArray, List.set_cons_succ, List.set_cons_zero]
  refine takeL (.int .i64 (c.bytes.length)) rfl (by go_simp) ?_
  try simp only [Act.put, List.setIfInBounds_toArray, List.set_cons_succ, List.set_cons_zero]
  refine takeL (.bool false) rfl (by go_simp) ?_
  try simp only [Act.put, List.setIfInBounds_toArray, List.set_cons_succ, List.set_cons_zero]
  refine takeL (.bool false) rfl (by go_simp) ?_
  try simp only [Act.put, List.setIfInBounds_toArray, List.set_cons_succ, List.set_cons_zero]
  refine wpList_nil ?_
  repeat (first | (with_reducible refine stopR (id := 3) ?_) | go_values | go_skip | go_guarded | go_step | go_upon | go_back)
  refine Stop.mk (wp_region_lit ?_)
  refine load27 (cs := (b.arr sv)) F17.out.all HZb.out rfl rfl ?_
  try simp only [Act.put, List.setIfInBounds_toArray, List.set_cons_succ, List.set_cons_zero]
  refine takeL (.pointer (some ⟨g20, 0, none⟩)) rfl (by go_simp) ?_
  try simp only [Act.put, List.setIfInBounds_toArray, List.set_cons_succ, List.set_cons_zero]
  refine takeL (.int .u32 n) rfl (by have hq := F19.out.cell (i := 0) (v := .int .u32 n) rfl; go_simp) ?_
  try simp only [Act.put, List.setIfInBounds_toArray, List.set_cons_succ, List.set_cons_zero]
  refine wpList_op rfl fun K hK => ?_
  go_simp
  refine (encode_err (err_good HGb.out) sv n _ F15.out HWb.out HNN.out).mono ?_
  rintro e w21 ⟨rfl, hb⟩
  have F22 := Lib.hid (F14.out.trans (hb.mono F14.out.size))
  have F23 := Lib.hid (F15.out.below hb)
  have F24 := Lib.hid (F16.out.below hb)
  have F25 := Lib.hid (F17.out.below hb F17.out.lt)
  have F26 := Lib.hid (F18.out.below hb F18.out.lt)
  have F27 := Lib.hid (F19.out.below hb F19.out.lt)
  clear F14 F15 F16 F17 F18 F19
  clear hb
  refine hK _ _ ?_
  clear hK K
  try simp only [Act.put, List.setIfInBounds_toArray, List.set_cons_succ, List.set_cons_zero]
  refine takeL (.tuple #[.agg (u8s (b.sec n)).toArray, .int .i64 0]) rfl (by go_simp) ?_
  try simp only [Act.put, List.setIfInBounds_toArray, List.set_cons_succ, List.set_cons_zero]
  refine takeL (.agg (u8s (b.sec n)).toArray) rfl (by go_simp) ?_
  try simp only [Act.put, List.setIfInBounds_toArray, List.set_cons_succ, List.set_cons_zero]
  refine takeL (.int .i64 0) rfl (by go_simp) ?_
  try simp only [Act.put, List.setIfInBounds_toArray, List.set_cons_succ, List.set_cons_zero]
  refine alloc_g zero30 rfl ?_
  intro w28 hC hBC hlC
  try simp only [Act.put, List.setIfInBounds_toArray, List.set_cons_succ, List.set_cons_zero]
  refine store_all (cs := (u8s (b.sec n)).toArray) hC (by rw [HSb.out]; simp [zeros]) (by rw [HSb.out]; exact info30) (u8s_one _) rfl rfl rfl ?_
  intro w29 hD hOD hlD
  try simp only [Act.put, List.setIfInBounds_toArray, List.set_cons_succ, List.set_cons_zero]
  have hb := hBC.trans (hOD.below hBC.size (fun k hk => Nat.le_of_eq hk.symm))
  have F30 := Lib.hid (F22.out.trans (hb.mono F22.out.size))
  have F31 := Lib.hid (F23.out.below hb)
  have F32 := Lib.hid (F24.out.below hb)
  have F33 := Lib.hid (F25.out.below hb F25.out.lt)
  have F34 := Lib.hid (F26.out.below hb F26.out.lt)
  have F35 := Lib.hid (F27.out.below hb F27.out.lt)
  clear F22 F23 F24 F25 F26 F27
  have F36 := Lib.hid hD
  clear hC hBC hlC hD hOD hlD hb
  generalize w21.heap.size = g37 at *
  clear w28 w21
  refine takeL (.int .i64 0) rfl (by go_simp) ?_
  try simp only [Act.put, List.setIfInBounds_toArray, List.set_cons_succ, List.set_cons_zero]
  refine wpList_nil ?_
  repeat (first | (with_reducible refine stopR (id := 4) ?_) | go_values | go_skip | go_guarded | go_step | go_upon | go_back)
  refine Stop.mk (wp_region_lit ?_)
  refine load27 (cs := (c.arr cv)) F34.out.all HZc.out rfl rfl ?_
  try simp only [Act.put, List.setIfInBounds_toArray, List.set_cons_succ, List.set_cons_zero]
  refine takeL (.pointer (some ⟨g20, 1, none⟩)) rfl (by go_simp) ?_
  try simp only [Act.put, List.setIfInBounds_toArray, List.set_cons_succ, List.set_cons_zero]
  refine takeL (.int .u32 m) rfl (by have hq := F35.out.cell (i := 1) (v := .int .u32 m) rfl; go_simp) ?_
  try simp only [Act.put, List.setIfInBounds_toArray, List.set_cons_succ, List.set_cons_zero]
  refine wpList_op rfl fun K hK => ?_
  go_simp
  refine (encode_err (err_bad HGc.out) cv m _ F32.out HWc.out HMM.out).mono ?_
  rintro e w38 ⟨rfl, hb⟩
  have F39 := Lib.hid (F30.out.trans (hb.mono F30.out.size))
  have F40 := Lib.hid (F31.out.below hb)
  have F41 := Lib.hid (F32.out.below hb)
  have F42 := Lib.hid (F33.out.below hb F33.out.lt)
  have F43 := Lib.hid (F34.out.below hb F34.out.lt)
  have F44 := Lib.hid (F35.out.below hb F35.out.lt)
  have F45 := Lib.hid (F36.out.below hb F36.out.lt)
  clear F30 F31 F32 F33 F34 F35 F36
  clear hb
  refine hK _ _ ?_
  clear hK K
  try simp only [Act.put, List.setIfInBounds_toArray, List.set_cons_succ, List.set_cons_zero]
  refine takeL (.tuple #[.agg (u8s (c.sec m)).toArray, .int .i64 11]) rfl (by go_simp) ?_
  try simp only [Act.put, List.setIfInBounds_toArray, List.set_cons_succ, List.set_cons_zero]
  refine takeL (.agg (u8s (c.sec m)).toArray) rfl (by go_simp) ?_
  try simp only [Act.put, List.setIfInBounds_toArray, List.set_cons_succ, List.set_cons_zero]
  refine takeL (.int .i64 11) rfl (by go_simp) ?_
  try simp only [Act.put, List.setIfInBounds_toArray, List.set_cons_succ, List.set_cons_zero]
  refine alloc_g zero30 rfl ?_
  intro w46 hC hBC hlC
  try simp only [Act.put, List.setIfInBounds_toArray, List.set_cons_succ, List.set_cons_zero]
  refine store_all (cs := (u8s (c.sec m)).toArray) hC (by rw [HSc.out]; simp [zeros]) (by rw [HSc.out]; exact info30) (u8s_one _) rfl rfl rfl ?_
  intro w47 hD hOD hlD
  try simp only [Act.put, List.setIfInBounds_toArray, List.set_cons_succ, List.set_cons_zero]
  have hb := hBC.trans (hOD.below hBC.size (fun k hk => Nat.le_of_eq hk.symm))
  have F48 := Lib.hid (F39.out.trans (hb.mono F39.out.size))
  have F49 := Lib.hid (F40.out.below hb)
  have F50 := Lib.hid (F41.out.below hb)
  have F51 := Lib.hid (F42.out.below hb F42.out.lt)
  have F52 := Lib.hid (F43.out.below hb F43.out.lt)
  have F53 := Lib.hid (F44.out.below hb F44.out.lt)
  have F54 := Lib.hid (F45.out.below hb F45.out.lt)
  clear F39 F40 F41 F42 F43 F44 F45
  have F55 := Lib.hid hD
  clear hC hBC hlC hD hOD hlD hb
  generalize w38.heap.size = g56 at *
  clear w46 w38
  refine takeL (.int .i64 11) rfl (by go_simp) ?_
  try simp only [Act.put, List.setIfInBounds_toArray, List.set_cons_succ, List.set_cons_zero]
  refine wpList_nil ?_
  repeat (first | (with_reducible refine stopR (id := 5) ?_) | go_values | go_skip | go_guarded | go_step | go_upon | go_back)
  refine Stop.mk (wp_region_lit ?_)
  refine takeL (.int .i64 0) rfl (by go_simp) ?_
  try simp only [Act.put, List.setIfInBounds_toArray, List.set_cons_succ, List.set_cons_zero]
  refine takeL (.bool true) rfl (by go_simp) ?_
  try simp only [Act.put, List.setIfInBounds_toArray, List.set_cons_succ, List.set_cons_zero]
  refine load27 (cs := (b.arr sv)) F51.out.all HZb.out rfl rfl ?_
  try simp only [Act.put, List.setIfInBounds_toArray, List.set_cons_succ, List.set_cons_zero]
  refine wpList_op rfl fun K hK => ?_
  go_simp
  refine (good_is HGb.out sv F49.out.len HWb.out _).mono ?_
  rintro e w57 ⟨rfl, hb⟩
  have F58 := Lib.hid (F48.out.trans (hb.mono F48.out.size))
  have F59 := Lib.hid (F49.out.below hb)
  have F60 := Lib.hid (F50.out.below hb)
  have F61 := Lib.hid (F51.out.below hb F51.out.lt)
  have F62 := Lib.hid (F52.out.below hb F52.out.lt)
  have F63 := Lib.hid (F53.out.below hb F53.out.lt)
  have F64 := Lib.hid (F54.out.below hb F54.out.lt)
  have F65 := Lib.hid (F55.out.below hb F55.out.lt)
  clear F48 F49 F50 F51 F52 F53 F54 F55
  clear hb
  refine hK _ _ ?_
  clear hK K
  try simp only [Act.put, List.setIfInBounds_toArray, List.set_cons_succ, List.set_cons_zero]
  refine takeL (.bool false) rfl (by go_simp) ?_
  try simp only [Act.put, List.setIfInBounds_toArray, List.set_cons_succ, List.set_cons_zero]
  refine takeL (.bool false) rfl (by go_simp) ?_
  try simp only [Act.put, List.setIfInBounds_toArray, List.set_cons_succ, List.set_cons_zero]
  refine takeL (.int .i64 11) rfl (by go_simp) ?_
  try simp only [Act.put, List.setIfInBounds_toArray, List.set_cons_succ, List.set_cons_zero]
  refine takeL (.bool false) rfl (by go_simp) ?_
  try simp only [Act.put, List.setIfInBounds_toArray, List.set_cons_succ, List.set_cons_zero]
  refine load27 (cs := (c.arr cv)) F62.out.all HZc.out rfl rfl ?_
  try simp only [Act.put, List.setIfInBounds_toArray, List.set_cons_succ, List.set_cons_zero]
  refine wpList_op rfl fun K hK => ?_
  go_simp
  refine (good_is HGc.out cv F60.out.len HWc.out _).mono ?_
  rintro e w66 ⟨rfl, hb⟩
  have F67 := Lib.hid (F58.out.trans (hb.mono F58.out.size))
  have F68 := Lib.hid (F59.out.below hb)
  have F69 := Lib.hid (F60.out.below hb)
  have F70 := Lib.hid (F61.out.below hb F61.out.lt)
  have F71 := Lib.hid (F62.out.below hb F62.out.lt)
  have F72 := Lib.hid (F63.out.below hb F63.out.lt)
  have F73 := Lib.hid (F64.out.below hb F64.out.lt)
  have F74 := Lib.hid (F65.out.below hb F65.out.lt)
  clear F58 F59 F60 F61 F62 F63 F64 F65
  clear hb
  refine hK _ _ ?_
  clear hK K
  try simp only [Act.put, List.setIfInBounds_toArray, List.set_cons_succ, List.set_cons_zero]
  refine takeL (.bool false) rfl (by go_simp) ?_
  try simp only [Act.put, List.setIfInBounds_toArray, List.set_cons_succ, List.set_cons_zero]
  refine takeL (.bool false) rfl (by go_simp) ?_
  try simp only [Act.put, List.setIfInBounds_toArray, List.set_cons_succ, List.set_cons_zero]
  refine wpList_nil ?_
  repeat (first | (with_reducible refine stopR (id := 7) ?_) | go_values | go_skip | go_guarded | go_step | go_upon | go_back)
  refine Stop.mk (wp_region_lit ?_)
  refine takeL (.int .i64 0) rfl (by go_simp) ?_
  try simp only [Act.put, List.setIfInBounds_toArray, List.set_cons_succ, List.set_cons_zero]
  refine takeL (.bool true) rfl (by go_simp) ?_
  try simp only [Act.put, List.setIfInBounds_toArray, List.set_cons_succ, List.set_cons_zero]
  refine wpList_nil ?_
  repeat (first | (with_reducible refine stopR (id := 8) ?_) | go_values | go_skip | go_guarded | go_step | go_upon | go_back)
  refine Stop.mk (wp_region_lit ?_)
  refine load30 (cs := (u8s (b.sec n)).toArray) (Blk.all F73.out rfl) HSb.out rfl rfl ?_
  try simp only [Act.put, List.setIfInBounds_toArray, List.set_cons_succ, List.set_cons_zero]
  refine wpList_op rfl fun K hK => ?_
  go_simp
  refine (decode_sec HGb.out HWb.out n HNN.out _).mono ?_
  rintro e w75 ⟨dv, rfl, hby, hb⟩
  have F76 := Lib.hid (F67.out.trans (hb.mono F67.out.size))
  have F77 := Lib.hid (F68.out.below hb)
  have F78 := Lib.hid (F69.out.below hb)
  have F79 := Lib.hid (F70.out.below hb F70.out.lt)
  have F80 := Lib.hid (F71.out.below hb F71.out.lt)
  have F81 := Lib.hid (F72.out.below hb F72.out.lt)
  have F82 := Lib.hid (F73.out.below hb F73.out.lt)
  have F83 := Lib.hid (F74.out.below hb F74.out.lt)
  clear F67 F68 F69 F70 F71 F72 F73 F74
  have F84 := Lib.hid hby
  clear hb hby
  refine hK _ _ ?_
  clear hK K
  try simp only [Act.put, List.setIfInBounds_toArray, List.set_cons_succ, List.set_cons_zero]
  refine takeL (.tuple #[.agg (b.arr dv), .int .u32 n, .int .i64 0]) rfl (by go_simp) ?_
  try simp only [Act.put, List.setIfInBounds_toArray, List.set_cons_succ, List.set_cons_zero]
  refine takeL (.agg (b.arr dv)) rfl (by go_simp) ?_
  try simp only [Act.put, List.setIfInBounds_toArray, List.set_cons_succ, List.set_cons_zero]
  refine takeL (.int .u32 n) rfl (by go_simp) ?_
  try simp only [Act.put, List.setIfInBounds_toArray, List.set_cons_succ, List.set_cons_zero]
  refine takeL (.int .i64 0) rfl (by go_simp) ?_
  try simp only [Act.put, List.setIfInBounds_toArray, List.set_cons_succ, List.set_cons_zero]
  refine alloc_g zero27b rfl ?_
  intro w85 hC hBC hlC
  try simp only [Act.put, List.setIfInBounds_toArray, List.set_cons_succ, List.set_cons_zero]
  have HZd := Lib.hid (b.arr_size HWb.out dv)
  refine store_all (cs := (b.arr dv)) hC (by rw [HZd.out]; rfl) (by rw [HZd.out]; exact info27) (arr_form _ F84.out) rfl rfl rfl ?_
  intro w86 hD hOD hlD
  try simp only [Act.put, List.setIfInBounds_toArray, List.set_cons_succ, List.set_cons_zero]
  have hb := hBC.trans (hOD.below hBC.size (fun k hk => Nat.le_of_eq hk.symm))
  have F87 := Lib.hid (F76.out.trans (hb.mono F76.out.size))
  have F88 := Lib.hid (F77.out.below hb)
  have F89 := Lib.hid (F78.out.below hb)
  have F90 := Lib.hid (F79.out.below hb F79.out.lt)
  have F91 := Lib.hid (F80.out.below hb F80.out.lt)
  have F92 := Lib.hid (F81.out.below hb F81.out.lt)
  have F93 := Lib.hid (F82.out.below hb F82.out.lt)
  have F94 := Lib.hid (F83.out.below hb F83.out.lt)
  have F95 := Lib.hid (F84.out.below hb)
  clear F76 F77 F78 F79 F80 F81 F82 F83 F84
  have F96 := Lib.hid (show BAt _ _ b dv from ⟨hD, HWb.out⟩)
  clear hC hBC hlC hD hOD hlD hb
  generalize w75.heap.size = g97 at *
  clear w85 w75
  refine takeL (.int .u32 n) rfl (by go_simp) ?_
  try simp only [Act.put, List.setIfInBounds_toArray, List.set_cons_succ, List.set_cons_zero]
  refine takeL (.int .i64 0) rfl (by go_simp) ?_
  try simp only [Act.put, List.setIfInBounds_toArray, List.set_cons_succ, List.set_cons_zero]
  refine wpList_nil ?_
  repeat (first | (with_reducible refine stopR (id := 9) ?_) | go_values | go_skip | go_guarded | go_step | go_upon | go_back)
  refine Stop.mk (wp_region_lit ?_)
  refine takeL (.int .i64 0) rfl (by go_simp) ?_
  try simp only [Act.put, List.setIfInBounds_toArray, List.set_cons_succ, List.set_cons_zero]
  refine takeL (.bool false) rfl (by go_simp) ?_
  try simp only [Act.put, List.setIfInBounds_toArray, List.set_cons_succ, List.set_cons_zero]
  refine takeL (.bool false) rfl (by go_simp) ?_
  try simp only [Act.put, List.setIfInBounds_toArray, List.set_cons_succ, List.set_cons_zero]
  refine takeL (.int .u32 n) rfl (by go_simp) ?_
  try simp only [Act.put, List.setIfInBounds_toArray, List.set_cons_succ, List.set_cons_zero]
  refine takeL (.pointer (some ⟨g20, 0, none⟩)) rfl (by go_simp) ?_
  try simp only [Act.put, List.setIfInBounds_toArray, List.set_cons_succ, List.set_cons_zero]
  refine takeL (.int .u32 n) rfl (by have hq := F92.out.cell (i := 0) (v := .int .u32 n) rfl; go_simp) ?_
  try simp only [Act.put, List.setIfInBounds_toArray, List.set_cons_succ, List.set_cons_zero]
  refine takeL (.bool false) rfl (by go_simp) ?_
  try simp only [Act.put, List.setIfInBounds_toArray, List.set_cons_succ, List.set_cons_zero]
  refine takeL (.bool false) rfl (by go_simp) ?_
  try simp only [Act.put, List.setIfInBounds_toArray, List.set_cons_succ, List.set_cons_zero]
  refine takeL (.bool false) rfl (by go_simp) ?_
  try simp only [Act.put, List.setIfInBounds_toArray, List.set_cons_succ, List.set_cons_zero]
  refine load27 (cs := (b.arr dv)) F96.out.all HZd.out rfl rfl ?_
  try simp only [Act.put, List.setIfInBounds_toArray, List.set_cons_succ, List.set_cons_zero]
  refine load27 (cs := (b.arr sv)) F90.out.all HZb.out rfl rfl ?_
  try simp only [Act.put, List.setIfInBounds_toArray, List.set_cons_succ, List.set_cons_zero]
  refine wpList_op rfl fun K hK => ?_
  go_simp
  refine (block_self HWb.out dv sv _ F95.out F88.out).mono ?_
  rintro e w98 ⟨rfl, hb⟩
  have F99 := Lib.hid (F87.out.trans (hb.mono F87.out.size))
  have F100 := Lib.hid (F88.out.below hb)
  have F101 := Lib.hid (F89.out.below hb)
  have F102 := Lib.hid (F90.out.below hb F90.out.lt)
  have F103 := Lib.hid (F91.out.below hb F91.out.lt)
  have F104 := Lib.hid (F92.out.below hb F92.out.lt)
  have F105 := Lib.hid (F93.out.below hb F93.out.lt)
  have F106 := Lib.hid (F94.out.below hb F94.out.lt)
  have F107 := Lib.hid (F95.out.below hb)
  have F108 := Lib.hid (F96.out.below hb F96.out.lt)
  clear F87 F88 F89 F90 F91 F92 F93 F94 F95 F96
  clear hb
  refine hK _ _ ?_
  clear hK K
  try simp only [Act.put, List.setIfInBounds_toArray, List.set_cons_succ, List.set_cons_zero]
  refine takeL (.bool false) rfl (by go_simp) ?_
  try simp only [Act.put, List.setIfInBounds_toArray, List.set_cons_succ, List.set_cons_zero]
  refine takeL (.bool false) rfl (by go_simp) ?_
  try simp only [Act.put, List.setIfInBounds_toArray, List.set_cons_succ, List.set_cons_zero]
  refine wpList_nil ?_
  go_upto_region 11 with fail
  refine startH (fun wq => Below w98.heap.size w98 wq) (by kernel_rfl) ?_
  refine takeH 0 (some 73) (.int .i64 0) rfl rfl (by kernel_rfl) (by kernel_rfl) (by kernel_rfl) (fun _ _ _ h => h) rfl (fun wq hS => by go_simp) (Below.refl _ _).drew ?_
  try simp only [Act.put, List.setIfInBounds_toArray, List.set_cons_succ, List.set_cons_zero]
  refine takeH 1 (some 74) (.bool false) rfl rfl (by kernel_rfl) (by kernel_rfl) (by kernel_rfl) (fun _ _ _ h => h) rfl (fun wq hS => by go_simp) (Below.refl _ _).drew ?_
  try simp only [Act.put, List.setIfInBounds_toArray, List.set_cons_succ, List.set_cons_zero]
  refine takeH 2 (some 75) (.bool false) rfl rfl (by kernel_rfl) (by kernel_rfl) (by kernel_rfl) (fun _ _ _ h => h) rfl (fun wq hS => by go_simp) (Below.refl _ _).drew ?_
  try simp only [Act.put, List.setIfInBounds_toArray, List.set_cons_succ, List.set_cons_zero]
  refine takeH 3 (some 76) (.int .i64 11) rfl rfl (by kernel_rfl) (by kernel_rfl) (by kernel_rfl) (fun _ _ _ h => h) rfl (fun wq hS => by go_simp) (Below.refl _ _).drew ?_
  try simp only [Act.put, List.setIfInBounds_toArray, List.set_cons_succ, List.set_cons_zero]
  refine takeH 4 (some 77) (.bool true) rfl rfl (by kernel_rfl) (by kernel_rfl) (by kernel_rfl) (fun _ _ _ h => h) rfl (fun wq hS => by go_simp) (Below.refl _ _).drew ?_
  try simp only [Act.put, List.setIfInBounds_toArray, List.set_cons_succ, List.set_cons_zero]
  refine takeH 5 (some 78) (.bool true) rfl rfl (by kernel_rfl) (by kernel_rfl) (by kernel_rfl) (fun _ _ _ h => h) rfl (fun wq hS => by go_simp) (Below.refl _ _).drew ?_
  try simp only [Act.put, List.setIfInBounds_toArray, List.set_cons_succ, List.set_cons_zero]
  refine takeH 6 (some 79) (.bool true) rfl rfl (by kernel_rfl) (by kernel_rfl) (by kernel_rfl) (fun _ _ _ h => h) rfl (fun wq hS => by go_simp) (Below.refl _ _).drew ?_
  try simp only [Act.put, List.setIfInBounds_toArray, List.set_cons_succ, List.set_cons_zero]
  refine passH 7 (some 80) rfl rfl (by kernel_rfl) (by kernel_rfl) (by kernel_rfl) (fun _ _ _ h => h) rfl (Below.refl _ _).drew ?_
  try simp only [Act.put, List.setIfInBounds_toArray, List.set_cons_succ, List.set_cons_zero]
  refine passH 8 (some 81) rfl rfl (by kernel_rfl) (by kernel_rfl) (by kernel_rfl) (fun _ _ _ h => h) rfl (Below.refl _ _).drew ?_
  try simp only [Act.put, List.setIfInBounds_toArray, List.set_cons_succ, List.set_cons_zero]
  refine passH 9 (some 82) rfl rfl (by kernel_rfl) (by kernel_rfl) (by kernel_rfl) (fun _ _ _ h => h) rfl (Below.refl _ _).drew ?_
  try simp only [Act.put, List.setIfInBounds_toArray, List.set_cons_succ, List.set_cons_zero]
  refine passH 10 (some 83) rfl rfl (by kernel_rfl) (by kernel_rfl) (by kernel_rfl) (fun _ _ _ h => h) rfl (Below.refl _ _).drew ?_
  try simp only [Act.put, List.setIfInBounds_toArray, List.set_cons_succ, List.set_cons_zero]
  refine passH 11 (some 84) rfl rfl (by kernel_rfl) (by kernel_rfl) (by kernel_rfl) (fun _ _ _ h => h) rfl (Below.refl _ _).drew ?_
  try simp only [Act.put, List.setIfInBounds_toArray, List.set_cons_succ, List.set_cons_zero]
  refine passH 12 (some 85) rfl rfl (by kernel_rfl) (by kernel_rfl) (by kernel_rfl) (fun _ _ _ h => h) rfl (Below.refl _ _).drew ?_
  try simp only [Act.put, List.setIfInBounds_toArray, List.set_cons_succ, List.set_cons_zero]
  refine passH 13 (some 86) rfl rfl (by kernel_rfl) (by kernel_rfl) (by kernel_rfl) (fun _ _ _ h => h) rfl (Below.refl _ _).drew ?_
  try simp only [Act.put, List.setIfInBounds_toArray, List.set_cons_succ, List.set_cons_zero]
  refine passH 14 (some 87) rfl rfl (by kernel_rfl) (by kernel_rfl) (by kernel_rfl) (fun _ _ _ h => h) rfl (Below.refl _ _).drew ?_
  try simp only [Act.put, List.setIfInBounds_toArray, List.set_cons_succ, List.set_cons_zero]
  refine passH 15 (some 88) rfl rfl (by kernel_rfl) (by kernel_rfl) (by kernel_rfl) (fun _ _ _ h => h) rfl (Below.refl _ _).drew ?_
  try simp only [Act.put, List.setIfInBounds_toArray, List.set_cons_succ, List.set_cons_zero]
  refine passH 16 (some 89) rfl rfl (by kernel_rfl) (by kernel_rfl) (by kernel_rfl) (fun _ _ _ h => h) rfl (Below.refl _ _).drew ?_
  try simp only [Act.put, List.setIfInBounds_toArray, List.set_cons_succ, List.set_cons_zero]
  refine passH 17 (some 90) rfl rfl (by kernel_rfl) (by kernel_rfl) (by kernel_rfl) (fun _ _ _ h => h) rfl (Below.refl _ _).drew ?_
  try simp only [Act.put, List.setIfInBounds_toArray, List.set_cons_succ, List.set_cons_zero]
  refine passH 18 (some 91) rfl rfl (by kernel_rfl) (by kernel_rfl) (by kernel_rfl) (fun _ _ _ h => h) rfl (Below.refl _ _).drew ?_
  try simp only [Act.put, List.setIfInBounds_toArray, List.set_cons_succ, List.set_cons_zero]
  refine passH 19 (some 92) rfl rfl (by kernel_rfl) (by kernel_rfl) (by kernel_rfl) (fun _ _ _ h => h) rfl (Below.refl _ _).drew ?_
  try simp only [Act.put, List.setIfInBounds_toArray, List.set_cons_succ, List.set_cons_zero]
  refine passH 20 (some 93) rfl rfl (by kernel_rfl) (by kernel_rfl) (by kernel_rfl) (fun _ _ _ h => h) rfl (Below.refl _ _).drew ?_
  try simp only [Act.put, List.setIfInBounds_toArray, List.set_cons_succ, List.set_cons_zero]
  refine takeH 21 (some 94) (.bool true) rfl rfl (by kernel_rfl) (by kernel_rfl) (by kernel_rfl) (fun _ _ _ h => h) rfl (fun wq hS => by go_simp) (Below.refl _ _).drew ?_
  try simp only [Act.put, List.setIfInBounds_toArray, List.set_cons_succ, List.set_cons_zero]
  refine takeH 22 (some 95) (.bool true) rfl rfl (by kernel_rfl) (by kernel_rfl) (by kernel_rfl) (fun _ _ _ h => h) rfl (fun wq hS => by go_simp) (Below.refl _ _).drew ?_
  try simp only [Act.put, List.setIfInBounds_toArray, List.set_cons_succ, List.set_cons_zero]
  refine oneH 23 (by kernel_rfl) rfl rfl fun K hK => ?_
  go_simp
  refine (wakes_any _).mono ?_
  rintro e w109 ⟨rfl, hb⟩
  have HS110 := Lib.hid (stay (Below.refl _ _).drew hb)
  clear hb
  refine hK _ _ HS110.out ?_
  clear hK K
  try simp only [Act.put, List.setIfInBounds_toArray, List.set_cons_succ, List.set_cons_zero]
  refine takeH 24 (some 97) (.bool true) rfl rfl (by kernel_rfl) (by kernel_rfl) (by kernel_rfl) (fun _ _ _ h => h) rfl (fun wq hS => by go_simp) HS110.out ?_
  try simp only [Act.put, List.setIfInBounds_toArray, List.set_cons_succ, List.set_cons_zero]
  refine takeH 25 (some 6) (.bool true) rfl rfl (by kernel_rfl) (by kernel_rfl) (by kernel_rfl) (fun _ _ _ h => h) rfl (fun wq hS => by go_simp) HS110.out ?_
  try simp only [Act.put, List.setIfInBounds_toArray, List.set_cons_succ, List.set_cons_zero]
  refine wpAnyH_done (by kernel_rfl) ?_ _
  go_wp2_with fail
  go_ret
  exact ⟨rfl, F99.out.trans (HS110.out.mono F99.out.size)⟩
set_option maxHeartbeats 1000000 in
set_option maxRecDepth 100000 in
theorem back_tt (b c : Bk) (sv cv : Value) (hb : b.Wf) (hc : c.Wf) (n m : Int) (hn : 0 ≤ n ∧ n < 4294967296) (hm : 0 ≤ m ∧ m < 4294967296) (hk1 : b.bytes.length ≤ 300) (hk2 : c.bytes.length ≤ 300) (gb : b.good = true) (gc : c.good = true) (hsm : b.same c = true) (w : World) (hbs : BytesAt w sv b.bytes) (hcs : BytesAt w cv c.bytes) : Calls Try.prog 4 #[.agg (b.arr sv), .agg (c.arr cv), .agg #[.int .u32 n, .int .u32 m]] w fun e w' => e = .returned (.bool true) ∧ Below w.heap.size w w' := by
  have HWb := Lib.hid hb
  have HWc := Lib.hid hc
  have HZb := Lib.hid (b.arr_size hb sv)
  have HZc := Lib.hid (c.arr_size hc cv)
  have HXb := Lib.hid (sec_length hb n)
  have HXc := Lib.hid (sec_length hc m)
  have HSb : Hid ((u8s (b.sec n)).toArray.size = 64) := Lib.hid (by rw [u8s_size, HXb.out])
  have HSc : Hid ((u8s (c.sec m)).toArray.size = 64) := Lib.hid (by rw [u8s_size, HXc.out])
  have HNN := Lib.hid hn
  have HMM := Lib.hid hm
  obtain ⟨ab, capb, hsvb⟩ := hbs.len
  obtain ⟨ac, capc, hsvc⟩ := hcs.len
  have HSVb := Lib.hid hsvb
  have HSVc := Lib.hid hsvc
  have FYB := Lib.hid hbs
  have FYC := Lib.hid hcs
  have HBL : Hid (Below w.heap.size w w) := Lib.hid (Below.refl _ _)
  have hl1 : ¬ (300 : Int) < b.bytes.length := by omega
  have hl2 : ¬ (300 : Int) < c.bytes.length := by omega
  have HGb := Lib.hid gb
  have HGc := Lib.hid gc
  clear gb gc
  have HSM := Lib.hid hsm
  have HEQ := Lib.hid fun w => eql30 w (b.sec n) (c.sec m) (sec_length hb n) (sec_length hc m)
  have HQ : Hid ((decide (b.sec n = c.sec m) == (n == m)) = true) := Lib.hid (by
    rw [sec_eq HGb.out hb HGc.out hc hn hm, hsm]
    simp [beq_dec])
  clear hsm
  clear hk1 hk2
  clear hb hc hn hm hbs hcs hsvb hsvc
  go_enter Try.func4, Try.ntmps4
  repeat (first | (with_reducible refine stopR (id := 0) ?_) | go_values | go_skip | go_guarded | go_step | go_upon | go_back)
  refine Stop.mk (wp_region_lit ?_)
  refine box_g rfl rfl ?_
  intro w1 hA hb hl
  try simp only [Act.put, List.setIfInBounds_toArray, List.set_cons_succ, List.set_cons_zero]
  clear hl
  have F2 := Lib.hid (HBL.out.trans (hb.mono HBL.out.size))
  have F3 := Lib.hid (FYB.out.below hb)
  have F4 := Lib.hid (FYC.out.below hb)
  clear HBL FYB FYC
  have F5 := Lib.hid (show BAt _ _ b sv from ⟨hA, HWb.out⟩)
  clear hA hb
  refine box_g rfl rfl ?_
  intro w6 hA hb hl
  try simp only [Act.put, List.setIfInBounds_toArray, List.set_cons_succ, List.set_cons_zero]
  clear hl
  have F7 := Lib.hid (F2.out.trans (hb.mono F2.out.size))
  have F8 := Lib.hid (F3.out.below hb)
  have F9 := Lib.hid (F4.out.below hb)
  have F10 := Lib.hid (F5.out.below hb F5.out.lt)
  clear F2 F3 F4 F5
  have F11 := Lib.hid (show BAt _ _ c cv from ⟨hA, HWc.out⟩)
  clear hA hb
  generalize w1.heap.size = g12 at *
  clear w1
  refine box_g rfl rfl ?_
  intro w13 hA hb hl
  try simp only [Act.put, List.setIfInBounds_toArray, List.set_cons_succ, List.set_cons_zero]
  clear hl
  have F14 := Lib.hid (F7.out.trans (hb.mono F7.out.size))
  have F15 := Lib.hid (F8.out.below hb)
  have F16 := Lib.hid (F9.out.below hb)
  have F17 := Lib.hid (F10.out.below hb F10.out.lt)
  have F18 := Lib.hid (F11.out.below hb F11.out.lt)
  clear F7 F8 F9 F10 F11
  have F19 := Lib.hid hA
  clear hA hb
  generalize w6.heap.size = g20 at *
  clear w6
  refine takeL (.bool false) rfl (by go_simp) ?_
  try simp only [Act.put, List.setIfInBounds_toArray, List.set_cons_succ, List.set_cons_zero]
  refine wpList_nil ?_
  repeat (first | (with_reducible refine stopR (id := 1) ?_) | go_values | go_skip | go_guarded | go_step | go_upon | go_back)
  refine Stop.mk (wp_region_lit ?_)
  refine takeL (.pointer (some ⟨w.heap.size, 35, none⟩)) rfl (by go_simp) ?_
  try simp only [Act.put, List.setIfInBounds_toArray, List.set_cons_succ, List.set_cons_zero]
  refine takeL (.slice ab b.bytes.length capb) rfl (by have hq := F17.out.c35.trans (congrArg some HSVb.out); go_simp) ?_
  try simp only [Act.put, List.setIfInBounds_toArray, List.set_cons_succ, List.set_cons_zero]
  refine takeL (.int .i64 (b.bytes.length)) rfl (by go_simp) ?_
  try simp only [Act.put, List.setIfInBounds_toArray, List.set_cons_succ, List.set_cons_zero]
  refine takeL (.bool false) rfl (by go_simp) ?_
  try simp only [Act.put, List.setIfInBounds_toArray, List.set_cons_succ, List.set_cons_zero]
  refine takeL (.bool false) rfl (by go_simp) ?_
  try simp only [Act.put, List.setIfInBounds_toArray, List.set_cons_succ, List.set_cons_zero]
  refine takeL (.pointer (some ⟨g12, 35, none⟩)) rfl (by go_simp) ?_
  try simp only [Act.put, List.setIfInBounds_toArray, List.set_cons_succ, List.set_cons_zero]
  refine takeL (.slice ac c.bytes.length capc) rfl (by have hq := F18.out.c35.trans (congrArg some HSVc.out); go_simp) ?_
  try simp only [Act.put, List.setIfInBounds_toArray, List.set_cons_succ, List.set_cons_zero]
  refine takeL (.int .i64 (c.bytes.length)) rfl (by go_simp) ?_
  try simp only [Act.put, List.setIfInBounds_toArray, List.set_cons_succ, List.set_cons_zero]
  refine takeL (.bool false) rfl (by go_simp) ?_
  try simp only [Act.put, List.setIfInBounds_toArray, List.set_cons_succ, List.set_cons_zero]
  refine takeL (.bool false) rfl (by go_simp) ?_
  try simp only [Act.put, List.setIfInBounds_toArray, List.set_cons_succ, List.set_cons_zero]
  refine wpList_nil ?_
  repeat (first | (with_reducible refine stopR (id := 3) ?_) | go_values | go_skip | go_guarded | go_step | go_upon | go_back)
  refine Stop.mk (wp_region_lit ?_)
  refine load27 (cs := (b.arr sv)) F17.out.all HZb.out rfl rfl ?_
  try simp only [Act.put, List.setIfInBounds_toArray, List.set_cons_succ, List.set_cons_zero]
  refine takeL (.pointer (some ⟨g20, 0, none⟩)) rfl (by go_simp) ?_
  try simp only [Act.put, List.setIfInBounds_toArray, List.set_cons_succ, List.set_cons_zero]
  refine takeL (.int .u32 n) rfl (by have hq := F19.out.cell (i := 0) (v := .int .u32 n) rfl; go_simp) ?_
  try simp only [Act.put, List.setIfInBounds_toArray, List.set_cons_succ, List.set_cons_zero]
  refine wpList_op rfl fun K hK => ?_
  go_simp
  refine (encode_err (err_good HGb.out) sv n _ F15.out HWb.out HNN.out).mono ?_
  rintro e w21 ⟨rfl, hb⟩
  have F22 := Lib.hid (F14.out.trans (hb.mono F14.out.size))
  have F23 := Lib.hid (F15.out.below hb)
  have F24 := Lib.hid (F16.out.below hb)
  have F25 := Lib.hid (F17.out.below hb F17.out.lt)
  have F26 := Lib.hid (F18.out.below hb F18.out.lt)
  have F27 := Lib.hid (F19.out.below hb F19.out.lt)
  clear F14 F15 F16 F17 F18 F19
  clear hb
  refine hK _ _ ?_
  clear hK K
  try simp only [Act.put, List.setIfInBounds_toArray, List.set_cons_succ, List.set_cons_zero]
  refine takeL (.tuple #[.agg (u8s (b.sec n)).toArray, .int .i64 0]) rfl (by go_simp) ?_
  try simp only [Act.put, List.setIfInBounds_toArray, List.set_cons_succ, List.set_cons_zero]
  refine takeL (.agg (u8s (b.sec n)).toArray) rfl (by go_simp) ?_
  try simp only [Act.put, List.setIfInBounds_toArray, List.set_cons_succ, List.set_cons_zero]
  refine takeL (.int .i64 0) rfl (by go_simp) ?_
  try simp only [Act.put, List.setIfInBounds_toArray, List.set_cons_succ, List.set_cons_zero]
  refine alloc_g zero30 rfl ?_
  intro w28 hC hBC hlC
  try simp only [Act.put, List.setIfInBounds_toArray, List.set_cons_succ, List.set_cons_zero]
  refine store_all (cs := (u8s (b.sec n)).toArray) hC (by rw [HSb.out]; simp [zeros]) (by rw [HSb.out]; exact info30) (u8s_one _) rfl rfl rfl ?_
  intro w29 hD hOD hlD
  try simp only [Act.put, List.setIfInBounds_toArray, List.set_cons_succ, List.set_cons_zero]
  have hb := hBC.trans (hOD.below hBC.size (fun k hk => Nat.le_of_eq hk.symm))
  have F30 := Lib.hid (F22.out.trans (hb.mono F22.out.size))
  have F31 := Lib.hid (F23.out.below hb)
  have F32 := Lib.hid (F24.out.below hb)
  have F33 := Lib.hid (F25.out.below hb F25.out.lt)
  have F34 := Lib.hid (F26.out.below hb F26.out.lt)
  have F35 := Lib.hid (F27.out.below hb F27.out.lt)
  clear F22 F23 F24 F25 F26 F27
  have F36 := Lib.hid hD
  clear hC hBC hlC hD hOD hlD hb
  generalize w21.heap.size = g37 at *
  clear w28 w21
  refine takeL (.int .i64 0) rfl (by go_simp) ?_
  try simp only [Act.put, List.setIfInBounds_toArray, List.set_cons_succ, List.set_cons_zero]
  refine wpList_nil ?_
  repeat (first | (with_reducible refine stopR (id := 4) ?_) | go_values | go_skip | go_guarded | go_step | go_upon | go_back)
  refine Stop.mk (wp_region_lit ?_)
  refine load27 (cs := (c.arr cv)) F34.out.all HZc.out rfl rfl ?_
  try simp only [Act.put, List.setIfInBounds_toArray, List.set_cons_succ, List.set_cons_zero]
  refine takeL (.pointer (some ⟨g20, 1, none⟩)) rfl (by go_simp) ?_
  try simp only [Act.put, List.setIfInBounds_toArray, List.set_cons_succ, List.set_cons_zero]
  refine takeL (.int .u32 m) rfl (by have hq := F35.out.cell (i := 1) (v := .int .u32 m) rfl; go_simp) ?_
  try simp only [Act.put, List.setIfInBounds_toArray, List.set_cons_succ, List.set_cons_zero]
  refine wpList_op rfl fun K hK => ?_
  go_simp
  refine (encode_err (err_good HGc.out) cv m _ F32.out HWc.out HMM.out).mono ?_
  rintro e w38 ⟨rfl, hb⟩
  have F39 := Lib.hid (F30.out.trans (hb.mono F30.out.size))
  have F40 := Lib.hid (F31.out.below hb)
  have F41 := Lib.hid (F32.out.below hb)
  have F42 := Lib.hid (F33.out.below hb F33.out.lt)
  have F43 := Lib.hid (F34.out.below hb F34.out.lt)
  have F44 := Lib.hid (F35.out.below hb F35.out.lt)
  have F45 := Lib.hid (F36.out.below hb F36.out.lt)
  clear F30 F31 F32 F33 F34 F35 F36
  clear hb
  refine hK _ _ ?_
  clear hK K
  try simp only [Act.put, List.setIfInBounds_toArray, List.set_cons_succ, List.set_cons_zero]
  refine takeL (.tuple #[.agg (u8s (c.sec m)).toArray, .int .i64 0]) rfl (by go_simp) ?_
  try simp only [Act.put, List.setIfInBounds_toArray, List.set_cons_succ, List.set_cons_zero]
  refine takeL (.agg (u8s (c.sec m)).toArray) rfl (by go_simp) ?_
  try simp only [Act.put, List.setIfInBounds_toArray, List.set_cons_succ, List.set_cons_zero]
  refine takeL (.int .i64 0) rfl (by go_simp) ?_
  try simp only [Act.put, List.setIfInBounds_toArray, List.set_cons_succ, List.set_cons_zero]
  refine alloc_g zero30 rfl ?_
  intro w46 hC hBC hlC
  try simp only [Act.put, List.setIfInBounds_toArray, List.set_cons_succ, List.set_cons_zero]
  refine store_all (cs := (u8s (c.sec m)).toArray) hC (by rw [HSc.out]; simp [zeros]) (by rw [HSc.out]; exact info30) (u8s_one _) rfl rfl rfl ?_
  intro w47 hD hOD hlD
  try simp only [Act.put, List.setIfInBounds_toArray, List.set_cons_succ, List.set_cons_zero]
  have hb := hBC.trans (hOD.below hBC.size (fun k hk => Nat.le_of_eq hk.symm))
  have F48 := Lib.hid (F39.out.trans (hb.mono F39.out.size))
  have F49 := Lib.hid (F40.out.below hb)
  have F50 := Lib.hid (F41.out.below hb)
  have F51 := Lib.hid (F42.out.below hb F42.out.lt)
  have F52 := Lib.hid (F43.out.below hb F43.out.lt)
  have F53 := Lib.hid (F44.out.below hb F44.out.lt)
  have F54 := Lib.hid (F45.out.below hb F45.out.lt)
  clear F39 F40 F41 F42 F43 F44 F45
  have F55 := Lib.hid hD
  clear hC hBC hlC hD hOD hlD hb
  generalize w38.heap.size = g56 at *
  clear w46 w38
  refine takeL (.int .i64 0) rfl (by go_simp) ?_
  try simp only [Act.put, List.setIfInBounds_toArray, List.set_cons_succ, List.set_cons_zero]
  refine wpList_nil ?_
  repeat (first | (with_reducible refine stopR (id := 5) ?_) | go_values | go_skip | go_guarded | go_step | go_upon | go_back)
  refine Stop.mk (wp_region_lit ?_)
  refine takeL (.int .i64 0) rfl (by go_simp) ?_
  try simp only [Act.put, List.setIfInBounds_toArray, List.set_cons_succ, List.set_cons_zero]
  refine takeL (.bool true) rfl (by go_simp) ?_
  try simp only [Act.put, List.setIfInBounds_toArray, List.set_cons_succ, List.set_cons_zero]
  refine load27 (cs := (b.arr sv)) F51.out.all HZb.out rfl rfl ?_
  try simp only [Act.put, List.setIfInBounds_toArray, List.set_cons_succ, List.set_cons_zero]
  refine wpList_op rfl fun K hK => ?_
  go_simp
  refine (good_is HGb.out sv F49.out.len HWb.out _).mono ?_
  rintro e w57 ⟨rfl, hb⟩
  have F58 := Lib.hid (F48.out.trans (hb.mono F48.out.size))
  have F59 := Lib.hid (F49.out.below hb)
  have F60 := Lib.hid (F50.out.below hb)
  have F61 := Lib.hid (F51.out.below hb F51.out.lt)
  have F62 := Lib.hid (F52.out.below hb F52.out.lt)
  have F63 := Lib.hid (F53.out.below hb F53.out.lt)
  have F64 := Lib.hid (F54.out.below hb F54.out.lt)
  have F65 := Lib.hid (F55.out.below hb F55.out.lt)
  clear F48 F49 F50 F51 F52 F53 F54 F55
  clear hb
  refine hK _ _ ?_
  clear hK K
  try simp only [Act.put, List.setIfInBounds_toArray, List.set_cons_succ, List.set_cons_zero]
  refine takeL (.bool false) rfl (by go_simp) ?_
  try simp only [Act.put, List.setIfInBounds_toArray, List.set_cons_succ, List.set_cons_zero]
  refine takeL (.bool false) rfl (by go_simp) ?_
  try simp only [Act.put, List.setIfInBounds_toArray, List.set_cons_succ, List.set_cons_zero]
  refine takeL (.int .i64 0) rfl (by go_simp) ?_
  try simp only [Act.put, List.setIfInBounds_toArray, List.set_cons_succ, List.set_cons_zero]
  refine takeL (.bool true) rfl (by go_simp) ?_
  try simp only [Act.put, List.setIfInBounds_toArray, List.set_cons_succ, List.set_cons_zero]
  refine load27 (cs := (c.arr cv)) F62.out.all HZc.out rfl rfl ?_
  try simp only [Act.put, List.setIfInBounds_toArray, List.set_cons_succ, List.set_cons_zero]
  refine wpList_op rfl fun K hK => ?_
  go_simp
  refine (good_is HGc.out cv F60.out.len HWc.out _).mono ?_
  rintro e w66 ⟨rfl, hb⟩
  have F67 := Lib.hid (F58.out.trans (hb.mono F58.out.size))
  have F68 := Lib.hid (F59.out.below hb)
  have F69 := Lib.hid (F60.out.below hb)
  have F70 := Lib.hid (F61.out.below hb F61.out.lt)
  have F71 := Lib.hid (F62.out.below hb F62.out.lt)
  have F72 := Lib.hid (F63.out.below hb F63.out.lt)
  have F73 := Lib.hid (F64.out.below hb F64.out.lt)
  have F74 := Lib.hid (F65.out.below hb F65.out.lt)
  clear F58 F59 F60 F61 F62 F63 F64 F65
  clear hb
  refine hK _ _ ?_
  clear hK K
  try simp only [Act.put, List.setIfInBounds_toArray, List.set_cons_succ, List.set_cons_zero]
  refine takeL (.bool false) rfl (by go_simp) ?_
  try simp only [Act.put, List.setIfInBounds_toArray, List.set_cons_succ, List.set_cons_zero]
  refine takeL (.bool false) rfl (by go_simp) ?_
  try simp only [Act.put, List.setIfInBounds_toArray, List.set_cons_succ, List.set_cons_zero]
  refine wpList_nil ?_
  repeat (first | (with_reducible refine stopR (id := 7) ?_) | go_values | go_skip | go_guarded | go_step | go_upon | go_back)
  refine Stop.mk (wp_region_lit ?_)
  refine takeL (.int .i64 0) rfl (by go_simp) ?_
  try simp only [Act.put, List.setIfInBounds_toArray, List.set_cons_succ, List.set_cons_zero]
  refine takeL (.bool true) rfl (by go_simp) ?_
  try simp only [Act.put, List.setIfInBounds_toArray, List.set_cons_succ, List.set_cons_zero]
  refine wpList_nil ?_
  repeat (first | (with_reducible refine stopR (id := 8) ?_) | go_values | go_skip | go_guarded | go_step | go_upon | go_back)
  refine Stop.mk (wp_region_lit ?_)
  refine load30 (cs := (u8s (b.sec n)).toArray) (Blk.all F73.out rfl) HSb.out rfl rfl ?_
  try simp only [Act.put, List.setIfInBounds_toArray, List.set_cons_succ, List.set_cons_zero]
  refine wpList_op rfl fun K hK => ?_
  go_simp
  refine (decode_sec HGb.out HWb.out n HNN.out _).mono ?_
  rintro e w75 ⟨dv, rfl, hby, hb⟩
  have F76 := Lib.hid (F67.out.trans (hb.mono F67.out.size))
  have F77 := Lib.hid (F68.out.below hb)
  have F78 := Lib.hid (F69.out.below hb)
  have F79 := Lib.hid (F70.out.below hb F70.out.lt)
  have F80 := Lib.hid (F71.out.below hb F71.out.lt)
  have F81 := Lib.hid (F72.out.below hb F72.out.lt)
  have F82 := Lib.hid (F73.out.below hb F73.out.lt)
  have F83 := Lib.hid (F74.out.below hb F74.out.lt)
  clear F67 F68 F69 F70 F71 F72 F73 F74
  have F84 := Lib.hid hby
  clear hb hby
  refine hK _ _ ?_
  clear hK K
  try simp only [Act.put, List.setIfInBounds_toArray, List.set_cons_succ, List.set_cons_zero]
  refine takeL (.tuple #[.agg (b.arr dv), .int .u32 n, .int .i64 0]) rfl (by go_simp) ?_
  try simp only [Act.put, List.setIfInBounds_toArray, List.set_cons_succ, List.set_cons_zero]
  refine takeL (.agg (b.arr dv)) rfl (by go_simp) ?_
  try simp only [Act.put, List.setIfInBounds_toArray, List.set_cons_succ, List.set_cons_zero]
  refine takeL (.int .u32 n) rfl (by go_simp) ?_
  try simp only [Act.put, List.setIfInBounds_toArray, List.set_cons_succ, List.set_cons_zero]
  refine takeL (.int .i64 0) rfl (by go_simp) ?_
  try simp only [Act.put, List.setIfInBounds_toArray, List.set_cons_succ, List.set_cons_zero]
  refine alloc_g zero27b rfl ?_
  intro w85 hC hBC hlC
  try simp only [Act.put, List.setIfInBounds_toArray, List.set_cons_succ, List.set_cons_zero]
  have HZd := Lib.hid (b.arr_size HWb.out dv)
  refine store_all (cs := (b.arr dv)) hC (by rw [HZd.out]; rfl) (by rw [HZd.out]; exact info27) (arr_form _ F84.out) rfl rfl rfl ?_
  intro w86 hD hOD hlD
  try simp only [Act.put, List.setIfInBounds_toArray, List.set_cons_succ, List.set_cons_zero]
  have hb := hBC.trans (hOD.below hBC.size (fun k hk => Nat.le_of_eq hk.symm))
  have F87 := Lib.hid (F76.out.trans (hb.mono F76.out.size))
  have F88 := Lib.hid (F77.out.below hb)
  have F89 := Lib.hid (F78.out.below hb)
  have F90 := Lib.hid (F79.out.below hb F79.out.lt)
  have F91 := Lib.hid (F80.out.below hb F80.out.lt)
  have F92 := Lib.hid (F81.out.below hb F81.out.lt)
  have F93 := Lib.hid (F82.out.below hb F82.out.lt)
  have F94 := Lib.hid (F83.out.below hb F83.out.lt)
  have F95 := Lib.hid (F84.out.below hb)
  clear F76 F77 F78 F79 F80 F81 F82 F83 F84
  have F96 := Lib.hid (show BAt _ _ b dv from ⟨hD, HWb.out⟩)
  clear hC hBC hlC hD hOD hlD hb
  generalize w75.heap.size = g97 at *
  clear w85 w75
  refine takeL (.int .u32 n) rfl (by go_simp) ?_
  try simp only [Act.put, List.setIfInBounds_toArray, List.set_cons_succ, List.set_cons_zero]
  refine takeL (.int .i64 0) rfl (by go_simp) ?_
  try simp only [Act.put, List.setIfInBounds_toArray, List.set_cons_succ, List.set_cons_zero]
  refine wpList_nil ?_
  repeat (first | (with_reducible refine stopR (id := 9) ?_) | go_values | go_skip | go_guarded | go_step | go_upon | go_back)
  refine Stop.mk (wp_region_lit ?_)
  refine takeL (.int .i64 0) rfl (by go_simp) ?_
  try simp only [Act.put, List.setIfInBounds_toArray, List.set_cons_succ, List.set_cons_zero]
  refine takeL (.bool false) rfl (by go_simp) ?_
  try simp only [Act.put, List.setIfInBounds_toArray, List.set_cons_succ, List.set_cons_zero]
  refine takeL (.bool false) rfl (by go_simp) ?_
  try simp only [Act.put, List.setIfInBounds_toArray, List.set_cons_succ, List.set_cons_zero]
  refine takeL (.int .u32 n) rfl (by go_simp) ?_
  try simp only [Act.put, List.setIfInBounds_toArray, List.set_cons_succ, List.set_cons_zero]
  refine takeL (.pointer (some ⟨g20, 0, none⟩)) rfl (by go_simp) ?_
  try simp only [Act.put, List.setIfInBounds_toArray, List.set_cons_succ, List.set_cons_zero]
  refine takeL (.int .u32 n) rfl (by have hq := F92.out.cell (i := 0) (v := .int .u32 n) rfl; go_simp) ?_
  try simp only [Act.put, List.setIfInBounds_toArray, List.set_cons_succ, List.set_cons_zero]
  refine takeL (.bool false) rfl (by go_simp) ?_
  try simp only [Act.put, List.setIfInBounds_toArray, List.set_cons_succ, List.set_cons_zero]
  refine takeL (.bool false) rfl (by go_simp) ?_
  try simp only [Act.put, List.setIfInBounds_toArray, List.set_cons_succ, List.set_cons_zero]
  refine takeL (.bool false) rfl (by go_simp) ?_
  try simp only [Act.put, List.setIfInBounds_toArray, List.set_cons_succ, List.set_cons_zero]
  refine load27 (cs := (b.arr dv)) F96.out.all HZd.out rfl rfl ?_
  try simp only [Act.put, List.setIfInBounds_toArray, List.set_cons_succ, List.set_cons_zero]
  refine load27 (cs := (b.arr sv)) F90.out.all HZb.out rfl rfl ?_
  try simp only [Act.put, List.setIfInBounds_toArray, List.set_cons_succ, List.set_cons_zero]
  refine wpList_op rfl fun K hK => ?_
  go_simp
  refine (block_self HWb.out dv sv _ F95.out F88.out).mono ?_
  rintro e w98 ⟨rfl, hb⟩
  have F99 := Lib.hid (F87.out.trans (hb.mono F87.out.size))
  have F100 := Lib.hid (F88.out.below hb)
  have F101 := Lib.hid (F89.out.below hb)
  have F102 := Lib.hid (F90.out.below hb F90.out.lt)
  have F103 := Lib.hid (F91.out.below hb F91.out.lt)
  have F104 := Lib.hid (F92.out.below hb F92.out.lt)
  have F105 := Lib.hid (F93.out.below hb F93.out.lt)
  have F106 := Lib.hid (F94.out.below hb F94.out.lt)
  have F107 := Lib.hid (F95.out.below hb)
  have F108 := Lib.hid (F96.out.below hb F96.out.lt)
  clear F87 F88 F89 F90 F91 F92 F93 F94 F95 F96
  clear hb
  refine hK _ _ ?_
  clear hK K
  try simp only [Act.put, List.setIfInBounds_toArray, List.set_cons_succ, List.set_cons_zero]
  refine takeL (.bool false) rfl (by go_simp) ?_
  try simp only [Act.put, List.setIfInBounds_toArray, List.set_cons_succ, List.set_cons_zero]
  refine takeL (.bool false) rfl (by go_simp) ?_
  try simp only [Act.put, List.setIfInBounds_toArray, List.set_cons_succ, List.set_cons_zero]
  refine wpList_nil ?_
  go_upto_region 11 with fail
  refine startH (fun wq => Below w98.heap.size w98 wq) (by kernel_rfl) ?_
  refine takeH 0 (some 73) (.int .i64 0) rfl rfl (by kernel_rfl) (by kernel_rfl) (by kernel_rfl) (fun _ _ _ h => h) rfl (fun wq hS => by go_simp) (Below.refl _ _).drew ?_
  try simp only [Act.put, List.setIfInBounds_toArray, List.set_cons_succ, List.set_cons_zero]
  refine takeH 1 (some 74) (.bool false) rfl rfl (by kernel_rfl) (by kernel_rfl) (by kernel_rfl) (fun _ _ _ h => h) rfl (fun wq hS => by go_simp) (Below.refl _ _).drew ?_
  try simp only [Act.put, List.setIfInBounds_toArray, List.set_cons_succ, List.set_cons_zero]
  refine takeH 2 (some 75) (.bool false) rfl rfl (by kernel_rfl) (by kernel_rfl) (by kernel_rfl) (fun _ _ _ h => h) rfl (fun wq hS => by go_simp) (Below.refl _ _).drew ?_
  try simp only [Act.put, List.setIfInBounds_toArray, List.set_cons_succ, List.set_cons_zero]
  refine takeH 3 (some 76) (.int .i64 0) rfl rfl (by kernel_rfl) (by kernel_rfl) (by kernel_rfl) (fun _ _ _ h => h) rfl (fun wq hS => by go_simp) (Below.refl _ _).drew ?_
  try simp only [Act.put, List.setIfInBounds_toArray, List.set_cons_succ, List.set_cons_zero]
  refine takeH 4 (some 77) (.bool false) rfl rfl (by kernel_rfl) (by kernel_rfl) (by kernel_rfl) (fun _ _ _ h => h) rfl (fun wq hS => by go_simp) (Below.refl _ _).drew ?_
  try simp only [Act.put, List.setIfInBounds_toArray, List.set_cons_succ, List.set_cons_zero]
  refine takeH 5 (some 78) (.bool false) rfl rfl (by kernel_rfl) (by kernel_rfl) (by kernel_rfl) (fun _ _ _ h => h) rfl (fun wq hS => by go_simp) (Below.refl _ _).drew ?_
  try simp only [Act.put, List.setIfInBounds_toArray, List.set_cons_succ, List.set_cons_zero]
  refine takeH 6 (some 79) (.bool false) rfl rfl (by kernel_rfl) (by kernel_rfl) (by kernel_rfl) (fun _ _ _ h => h) rfl (fun wq hS => by go_simp) (Below.refl _ _).drew ?_
  try simp only [Act.put, List.setIfInBounds_toArray, List.set_cons_succ, List.set_cons_zero]
  refine takeH 7 (some 80) (.agg (u8s (b.sec n)).toArray) rfl rfl (by kernel_rfl) (by kernel_rfl) (by kernel_rfl) (fun _ _ _ h => h) rfl (fun wq hS => by exact exec_load_at wq _ _ 30 _ rfl g37 0 rfl (u8s (b.sec n)).toArray _ Try.underlying30 rfl (by rw [HSb.out]; exact info30) (Blk.all (F105.out.below hS F105.out.lt) rfl)) (Below.refl _ _).drew ?_
  try simp only [Act.put, List.setIfInBounds_toArray, List.set_cons_succ, List.set_cons_zero]
  refine takeH 8 (some 81) (.agg (u8s (c.sec m)).toArray) rfl rfl (by kernel_rfl) (by kernel_rfl) (by kernel_rfl) (fun _ _ _ h => h) rfl (fun wq hS => by exact exec_load_at wq _ _ 30 _ rfl g56 0 rfl (u8s (c.sec m)).toArray _ Try.underlying30 rfl (by rw [HSc.out]; exact info30) (Blk.all (F106.out.below hS F106.out.lt) rfl)) (Below.refl _ _).drew ?_
  try simp only [Act.put, List.setIfInBounds_toArray, List.set_cons_succ, List.set_cons_zero]
  refine takeH 9 (some 82) (.bool (decide (b.sec n = c.sec m))) rfl rfl (by kernel_rfl) (by kernel_rfl) (by kernel_rfl) (fun _ _ _ h => h) rfl (fun wq hS => by have hq := HEQ.out; go_simp) (Below.refl _ _).drew ?_
  try simp only [Act.put, List.setIfInBounds_toArray, List.set_cons_succ, List.set_cons_zero]
  refine takeH 10 (some 83) (.agg (b.arr sv)) rfl rfl (by kernel_rfl) (by kernel_rfl) (by kernel_rfl) (fun _ _ _ h => h) rfl (fun wq hS => by exact exec_load_at wq _ _ 27 _ rfl w.heap.size 0 rfl (b.arr sv) _ Try.underlying27 rfl (by rw [HZb.out]; exact info27) (F102.out.below hS F102.out.lt).all) (Below.refl _ _).drew ?_
  try simp only [Act.put, List.setIfInBounds_toArray, List.set_cons_succ, List.set_cons_zero]
  refine takeH 11 (some 84) (.agg (c.arr cv)) rfl rfl (by kernel_rfl) (by kernel_rfl) (by kernel_rfl) (fun _ _ _ h => h) rfl (fun wq hS => by exact exec_load_at wq _ _ 27 _ rfl g12 0 rfl (c.arr cv) _ Try.underlying27 rfl (by rw [HZc.out]; exact info27) (F103.out.below hS F103.out.lt).all) (Below.refl _ _).drew ?_
  try simp only [Act.put, List.setIfInBounds_toArray, List.set_cons_succ, List.set_cons_zero]
  refine oneH 12 (by kernel_rfl) rfl rfl fun K hK => ?_
  go_simp
  refine (block_is HSM.out sv cv HWb.out HWc.out _ (F100.out.below (Below.refl _ _).drew) (F101.out.below (Below.refl _ _).drew)).mono ?_
  rintro e w109 ⟨rfl, hb⟩
  have HS110 := Lib.hid (stay (Below.refl _ _).drew hb)
  clear hb
  refine hK _ _ HS110.out ?_
  clear hK K
  try simp only [Act.put, List.setIfInBounds_toArray, List.set_cons_succ, List.set_cons_zero]
  refine takeH 13 (some 86) (.bool true) rfl rfl (by kernel_rfl) (by kernel_rfl) (by kernel_rfl) (fun _ _ _ h => h) rfl (fun wq hS => by go_simp) HS110.out ?_
  try simp only [Act.put, List.setIfInBounds_toArray, List.set_cons_succ, List.set_cons_zero]
  refine takeH 14 (some 87) (.pointer (some ⟨g20, 0, none⟩)) rfl rfl (by kernel_rfl) (by kernel_rfl) (by kernel_rfl) (fun _ _ _ h => h) rfl (fun wq hS => by go_simp) HS110.out ?_
  try simp only [Act.put, List.setIfInBounds_toArray, List.set_cons_succ, List.set_cons_zero]
  refine takeH 15 (some 88) (.int .u32 n) rfl rfl (by kernel_rfl) (by kernel_rfl) (by kernel_rfl) (fun _ _ _ h => h) rfl (fun wq hS => by have hq := (F104.out.below hS F104.out.lt).cell (i := 0) (v := .int .u32 n) rfl; go_simp) HS110.out ?_
  try simp only [Act.put, List.setIfInBounds_toArray, List.set_cons_succ, List.set_cons_zero]
  refine takeH 16 (some 89) (.pointer (some ⟨g20, 1, none⟩)) rfl rfl (by kernel_rfl) (by kernel_rfl) (by kernel_rfl) (fun _ _ _ h => h) rfl (fun wq hS => by go_simp) HS110.out ?_
  try simp only [Act.put, List.setIfInBounds_toArray, List.set_cons_succ, List.set_cons_zero]
  refine takeH 17 (some 90) (.int .u32 m) rfl rfl (by kernel_rfl) (by kernel_rfl) (by kernel_rfl) (fun _ _ _ h => h) rfl (fun wq hS => by have hq := (F104.out.below hS F104.out.lt).cell (i := 1) (v := .int .u32 m) rfl; go_simp) HS110.out ?_
  try simp only [Act.put, List.setIfInBounds_toArray, List.set_cons_succ, List.set_cons_zero]
  refine takeH 18 (some 91) (.bool (n == m)) rfl rfl (by kernel_rfl) (by kernel_rfl) (by kernel_rfl) (fun _ _ _ h => h) rfl (fun wq hS => by go_simp) HS110.out ?_
  try simp only [Act.put, List.setIfInBounds_toArray, List.set_cons_succ, List.set_cons_zero]
  refine takeH 19 (some 92) (.bool (n == m)) rfl rfl (by kernel_rfl) (by kernel_rfl) (by kernel_rfl) (fun _ _ _ h => h) rfl (fun wq hS => by go_simp) HS110.out ?_
  try simp only [Act.put, List.setIfInBounds_toArray, List.set_cons_succ, List.set_cons_zero]
  refine takeH 20 (some 93) (.bool true) rfl rfl (by kernel_rfl) (by kernel_rfl) (by kernel_rfl) (fun _ _ _ h => h) rfl (fun wq hS => by have hq := HQ.out; go_simp) HS110.out ?_
  try simp only [Act.put, List.setIfInBounds_toArray, List.set_cons_succ, List.set_cons_zero]
  refine takeH 21 (some 94) (.bool true) rfl rfl (by kernel_rfl) (by kernel_rfl) (by kernel_rfl) (fun _ _ _ h => h) rfl (fun wq hS => by go_simp) HS110.out ?_
  try simp only [Act.put, List.setIfInBounds_toArray, List.set_cons_succ, List.set_cons_zero]
  refine takeH 22 (some 95) (.bool true) rfl rfl (by kernel_rfl) (by kernel_rfl) (by kernel_rfl) (fun _ _ _ h => h) rfl (fun wq hS => by go_simp) HS110.out ?_
  try simp only [Act.put, List.setIfInBounds_toArray, List.set_cons_succ, List.set_cons_zero]
  refine oneH 23 (by kernel_rfl) rfl rfl fun K hK => ?_
  go_simp
  refine (wakes_any _).mono ?_
  rintro e w111 ⟨rfl, hb⟩
  have HS112 := Lib.hid (stay HS110.out hb)
  clear hb
  refine hK _ _ HS112.out ?_
  clear hK K
  try simp only [Act.put, List.setIfInBounds_toArray, List.set_cons_succ, List.set_cons_zero]
  refine takeH 24 (some 97) (.bool true) rfl rfl (by kernel_rfl) (by kernel_rfl) (by kernel_rfl) (fun _ _ _ h => h) rfl (fun wq hS => by go_simp) HS112.out ?_
  try simp only [Act.put, List.setIfInBounds_toArray, List.set_cons_succ, List.set_cons_zero]
  refine takeH 25 (some 6) (.bool true) rfl rfl (by kernel_rfl) (by kernel_rfl) (by kernel_rfl) (fun _ _ _ h => h) rfl (fun wq hS => by go_simp) HS112.out ?_
  try simp only [Act.put, List.setIfInBounds_toArray, List.set_cons_succ, List.set_cons_zero]
  refine wpAnyH_done (by kernel_rfl) ?_ _
  go_wp2_with fail
  go_ret
  exact ⟨rfl, F99.out.trans (HS112.out.mono F99.out.size)⟩
set_option maxHeartbeats 1000000 in
set_option maxRecDepth 100000 in
theorem back_tn (b c : Bk) (sv cv : Value) (hb : b.Wf) (hc : c.Wf) (n m : Int) (hn : 0 ≤ n ∧ n < 4294967296) (hm : 0 ≤ m ∧ m < 4294967296) (hk1 : b.bytes.length ≤ 300) (hk2 : c.bytes.length ≤ 300) (gb : b.good = true) (gc : c.good = true) (hsm : b.same c = false) (w : World) (hbs : BytesAt w sv b.bytes) (hcs : BytesAt w cv c.bytes) : Calls Try.prog 4 #[.agg (b.arr sv), .agg (c.arr cv), .agg #[.int .u32 n, .int .u32 m]] w fun e w' => e = .returned (.bool true) ∧ Below w.heap.size w w' := by
  have HWb := Lib.hid hb
  have HWc := Lib.hid hc
  have HZb := Lib.hid (b.arr_size hb sv)
  have HZc := Lib.hid (c.arr_size hc cv)
  have HXb := Lib.hid (sec_length hb n)
  have HXc := Lib.hid (sec_length hc m)
  have HSb : Hid ((u8s (b.sec n)).toArray.size = 64) := Lib.hid (by rw [u8s_size, HXb.out])
  have HSc : Hid ((u8s (c.sec m)).toArray.size = 64) := Lib.hid (by rw [u8s_size, HXc.out])
  have HNN := Lib.hid hn
  have HMM := Lib.hid hm
  obtain ⟨ab, capb, hsvb⟩ := hbs.len
  obtain ⟨ac, capc, hsvc⟩ := hcs.len
  have HSVb := Lib.hid hsvb
  have HSVc := Lib.hid hsvc
  have FYB := Lib.hid hbs
  have FYC := Lib.hid hcs
  have HBL : Hid (Below w.heap.size w w) := Lib.hid (Below.refl _ _)
  have hl1 : ¬ (300 : Int) < b.bytes.length := by omega
  have hl2 : ¬ (300 : Int) < c.bytes.length := by omega
  have HGb := Lib.hid gb
  have HGc := Lib.hid gc
  clear gb gc
  have HSM := Lib.hid hsm
  have HEQ := Lib.hid fun w => eql30 w (b.sec n) (c.sec m) (sec_length hb n) (sec_length hc m)
  have HQ : Hid ((decide (b.sec n = c.sec m) == false) = true) := Lib.hid (by
    rw [sec_eq HGb.out hb HGc.out hc hn hm, hsm]
    rfl)
  clear hsm
  clear hk1 hk2
  clear hb hc hn hm hbs hcs hsvb hsvc
  go_enter Try.func4, Try.ntmps4
  repeat (first | (with_reducible refine stopR (id := 0) ?_) | go_values | go_skip | go_guarded | go_step | go_upon | go_back)
  refine Stop.mk (wp_region_lit ?_)
  refine box_g rfl rfl ?_
  intro w1 hA hb hl
  try simp only [Act.put, List.setIfInBounds_toArray, List.set_cons_succ, List.set_cons_zero]
  clear hl
  have F2 := Lib.hid (HBL.out.trans (hb.mono HBL.out.size))
  have F3 := Lib.hid (FYB.out.below hb)
  have F4 := Lib.hid (FYC.out.below hb)
  clear HBL FYB FYC
  have F5 := Lib.hid (show BAt _ _ b sv from ⟨hA, HWb.out⟩)
  clear hA hb
  refine box_g rfl rfl ?_
  intro w6 hA hb hl
  try simp only [Act.put, List.setIfInBounds_toArray, List.set_cons_succ, List.set_cons_zero]
  clear hl
  have F7 := Lib.hid (F2.out.trans (hb.mono F2.out.size))
  have F8 := Lib.hid (F3.out.below hb)
  have F9 := Lib.hid (F4.out.below hb)
  have F10 := Lib.hid (F5.out.below hb F5.out.lt)
  clear F2 F3 F4 F5
  have F11 := Lib.hid (show BAt _ _ c cv from ⟨hA, HWc.out⟩)
  clear hA hb
  generalize w1.heap.size = g12 at *
  clear w1
  refine box_g rfl rfl ?_
  intro w13 hA hb hl
  try simp only [Act.put, List.setIfInBounds_toArray, List.set_cons_succ, List.set_cons_zero]
  clear hl
  have F14 := Lib.hid (F7.out.trans (hb.mono F7.out.size))
  have F15 := Lib.hid (F8.out.below hb)
  have F16 := Lib.hid (F9.out.below hb)
  have F17 := Lib.hid (F10.out.below hb F10.out.lt)
  have F18 := Lib.hid (F11.out.below hb F11.out.lt)
  clear F7 F8 F9 F10 F11
  have F19 := Lib.hid hA
  clear hA hb
  generalize w6.heap.size = g20 at *
  clear w6
  refine takeL (.bool false) rfl (by go_simp) ?_
  try simp only [Act.put, List.setIfInBounds_toArray, List.set_cons_succ, List.set_cons_zero]
  refine wpList_nil ?_
  repeat (first | (with_reducible refine stopR (id := 1) ?_) | go_values | go_skip | go_guarded | go_step | go_upon | go_back)
  refine Stop.mk (wp_region_lit ?_)
  refine takeL (.pointer (some ⟨w.heap.size, 35, none⟩)) rfl (by go_simp) ?_
  try simp only [Act.put, List.setIfInBounds_toArray, List.set_cons_succ, List.set_cons_zero]
  refine takeL (.slice ab b.bytes.length capb) rfl (by have hq := F17.out.c35.trans (congrArg some HSVb.out); go_simp) ?_
  try simp only [Act.put, List.setIfInBounds_toArray, List.set_cons_succ, List.set_cons_zero]
  refine takeL (.int .i64 (b.bytes.length)) rfl (by go_simp) ?_
  try simp only [Act.put, List.setIfInBounds_toArray, List.set_cons_succ, List.set_cons_zero]
  refine takeL (.bool false) rfl (by go_simp) ?_
  try simp only [Act.put, List.setIfInBounds_toArray, List.set_cons_succ, List.set_cons_zero]
  refine takeL (.bool false) rfl (by go_simp) ?_
  try simp only [Act.put, List.setIfInBounds_toArray, List.set_cons_succ, List.set_cons_zero]
  refine takeL (.pointer (some ⟨g12, 35, none⟩)) rfl (by go_simp) ?_
  try simp only [Act.put, List.setIfInBounds_toArray, List.set_cons_succ, List.set_cons_zero]
  refine takeL (.slice ac c.bytes.length capc) rfl (by have hq := F18.out.c35.trans (congrArg some HSVc.out); go_simp) ?_
  try simp only [Act.put, List.setIfInBounds_toArray, List.set_cons_succ, List.set_cons_zero]
  refine takeL (.int .i64 (c.bytes.length)) rfl (by go_simp) ?_
  try simp only [Act.put, List.setIfInBounds_toArray, List.set_cons_succ, List.set_cons_zero]
  refine takeL (.bool false) rfl (by go_simp) ?_
  try simp only [Act.put, List.setIfInBounds_toArray, List.set_cons_succ, List.set_cons_zero]
  refine takeL (.bool false) rfl (by go_simp) ?_
  try simp only [Act.put, List.setIfInBounds_toArray, List.set_cons_succ, List.set_cons_zero]
  refine wpList_nil ?_
  repeat (first | (with_reducible refine stopR (id := 3) ?_) | go_values | go_skip | go_guarded | go_step | go_upon | go_back)
  refine Stop.mk (wp_region_lit ?_)
  refine load27 (cs := (b.arr sv)) F17.out.all HZb.out rfl rfl ?_
  try simp only [Act.put, List.setIfInBounds_toArray, List.set_cons_succ, List.set_cons_zero]
  refine takeL (.pointer (some ⟨g20, 0, none⟩)) rfl (by go_simp) ?_
  try simp only [Act.put, List.setIfInBounds_toArray, List.set_cons_succ, List.set_cons_zero]
  refine takeL (.int .u32 n) rfl (by have hq := F19.out.cell (i := 0) (v := .int .u32 n) rfl; go_simp) ?_
  try simp only [Act.put, List.setIfInBounds_toArray, List.set_cons_succ, List.set_cons_zero]
  refine wpList_op rfl fun K hK => ?_
  go_simp
  refine (encode_err (err_good HGb.out) sv n _ F15.out HWb.out HNN.out).mono ?_
  rintro e w21 ⟨rfl, hb⟩
  have F22 := Lib.hid (F14.out.trans (hb.mono F14.out.size))
  have F23 := Lib.hid (F15.out.below hb)
  have F24 := Lib.hid (F16.out.below hb)
  have F25 := Lib.hid (F17.out.below hb F17.out.lt)
  have F26 := Lib.hid (F18.out.below hb F18.out.lt)
  have F27 := Lib.hid (F19.out.below hb F19.out.lt)
  clear F14 F15 F16 F17 F18 F19
  clear hb
  refine hK _ _ ?_
  clear hK K
  try simp only [Act.put, List.setIfInBounds_toArray, List.set_cons_succ, List.set_cons_zero]
  refine takeL (.tuple #[.agg (u8s (b.sec n)).toArray, .int .i64 0]) rfl (by go_simp) ?_
  try simp only [Act.put, List.setIfInBounds_toArray, List.set_cons_succ, List.set_cons_zero]
  refine takeL (.agg (u8s (b.sec n)).toArray) rfl (by go_simp) ?_
  try simp only [Act.put, List.setIfInBounds_toArray, List.set_cons_succ, List.set_cons_zero]
  refine takeL (.int .i64 0) rfl (by go_simp) ?_
  try simp only [Act.put, List.setIfInBounds_toArray, List.set_cons_succ, List.set_cons_zero]
  refine alloc_g zero30 rfl ?_
  intro w28 hC hBC hlC
  try simp only [Act.put, List.setIfInBounds_toArray, List.set_cons_succ, List.set_cons_zero]
  refine store_all (cs := (u8s (b.sec n)).toArray) hC (by rw [HSb.out]; simp [zeros]) (by rw [HSb.out]; exact info30) (u8s_one _) rfl rfl rfl ?_
  intro w29 hD hOD hlD
  try simp only [Act.put, List.setIfInBounds_toArray, List.set_cons_succ, List.set_cons_zero]
  have hb := hBC.trans (hOD.below hBC.size (fun k hk => Nat.le_of_eq hk.symm))
  have F30 := Lib.hid (F22.out.trans (hb.mono F22.out.size))
  have F31 := Lib.hid (F23.out.below hb)
  have F32 := Lib.hid (F24.out.below hb)
  have F33 := Lib.hid (F25.out.below hb F25.out.lt)
  have F34 := Lib.hid (F26.out.below hb F26.out.lt)
  have F35 := Lib.hid (F27.out.below hb F27.out.lt)
  clear F22 F23 F24 F25 F26 F27
  have F36 := Lib.hid hD
  clear hC hBC hlC hD hOD hlD hb
  generalize w21.heap.size = g37 at *
  clear w28 w21
  refine takeL (.int .i64 0) rfl (by go_simp) ?_
  try simp only [Act.put, List.setIfInBounds_toArray, List.set_cons_succ, List.set_cons_zero]
  refine wpList_nil ?_
  repeat (first | (with_reducible refine stopR (id := 4) ?_) | go_values | go_skip | go_guarded | go_step | go_upon | go_back)
  refine Stop.mk (wp_region_lit ?_)
  refine load27 (cs := (c.arr cv)) F34.out.all HZc.out rfl rfl ?_
  try simp only [Act.put, List.setIfInBounds_toArray, List.set_cons_succ, List.set_cons_zero]
  refine takeL (.pointer (some ⟨g20, 1, none⟩)) rfl (by go_simp) ?_
  try simp only [Act.put, List.setIfInBounds_toArray, List.set_cons_succ, List.set_cons_zero]
  refine takeL (.int .u32 m) rfl (by have hq := F35.out.cell (i := 1) (v := .int .u32 m) rfl; go_simp) ?_
  try simp only [Act.put, List.setIfInBounds_toArray, List.set_cons_succ, List.set_cons_zero]
  refine wpList_op rfl fun K hK => ?_
  go_simp
  refine (encode_err (err_good HGc.out) cv m _ F32.out HWc.out HMM.out).mono ?_
  rintro e w38 ⟨rfl, hb⟩
  have F39 := Lib.hid (F30.out.trans (hb.mono F30.out.size))
  have F40 := Lib.hid (F31.out.below hb)
  have F41 := Lib.hid (F32.out.below hb)
  have F42 := Lib.hid (F33.out.below hb F33.out.lt)
  have F43 := Lib.hid (F34.out.below hb F34.out.lt)
  have F44 := Lib.hid (F35.out.below hb F35.out.lt)
  have F45 := Lib.hid (F36.out.below hb F36.out.lt)
  clear F30 F31 F32 F33 F34 F35 F36
  clear hb
  refine hK _ _ ?_
  clear hK K
  try simp only [Act.put, List.setIfInBounds_toArray, List.set_cons_succ, List.set_cons_zero]
  refine takeL (.tuple #[.agg (u8s (c.sec m)).toArray, .int .i64 0]) rfl (by go_simp) ?_
  try simp only [Act.put, List.setIfInBounds_toArray, List.set_cons_succ, List.set_cons_zero]
  refine takeL (.agg (u8s (c.sec m)).toArray) rfl (by go_simp) ?_
  try simp only [Act.put, List.setIfInBounds_toArray, List.set_cons_succ, List.set_cons_zero]
  refine takeL (.int .i64 0) rfl (by go_simp) ?_
  try simp only [Act.put, List.setIfInBounds_toArray, List.set_cons_succ, List.set_cons_zero]
  refine alloc_g zero30 rfl ?_
  intro w46 hC hBC hlC
  try simp only [Act.put, List.setIfInBounds_toArray, List.set_cons_succ, List.set_cons_zero]
  refine store_all (cs := (u8s (c.sec m)).toArray) hC (by rw [HSc.out]; simp [zeros]) (by rw [HSc.out]; exact info30) (u8s_one _) rfl rfl rfl ?_
  intro w47 hD hOD hlD
  try simp only [Act.put, List.setIfInBounds_toArray, List.set_cons_succ, List.set_cons_zero]
  have hb := hBC.trans (hOD.below hBC.size (fun k hk => Nat.le_of_eq hk.symm))
  have F48 := Lib.hid (F39.out.trans (hb.mono F39.out.size))
  have F49 := Lib.hid (F40.out.below hb)
  have F50 := Lib.hid (F41.out.below hb)
  have F51 := Lib.hid (F42.out.below hb F42.out.lt)
  have F52 := Lib.hid (F43.out.below hb F43.out.lt)
  have F53 := Lib.hid (F44.out.below hb F44.out.lt)
  have F54 := Lib.hid (F45.out.below hb F45.out.lt)
  clear F39 F40 F41 F42 F43 F44 F45
  have F55 := Lib.hid hD
  clear hC hBC hlC hD hOD hlD hb
  generalize w38.heap.size = g56 at *
  clear w46 w38
  refine takeL (.int .i64 0) rfl (by go_simp) ?_
  try simp only [Act.put, List.setIfInBounds_toArray, List.set_cons_succ, List.set_cons_zero]
  refine wpList_nil ?_
  repeat (first | (with_reducible refine stopR (id := 5) ?_) | go_values | go_skip | go_guarded | go_step | go_upon | go_back)
  refine Stop.mk (wp_region_lit ?_)
  refine takeL (.int .i64 0) rfl (by go_simp) ?_
  try simp only [Act.put, List.setIfInBounds_toArray, List.set_cons_succ, List.set_cons_zero]
  refine takeL (.bool true) rfl (by go_simp) ?_
  try simp only [Act.put, List.setIfInBounds_toArray, List.set_cons_succ, List.set_cons_zero]
  refine load27 (cs := (b.arr sv)) F51.out.all HZb.out rfl rfl ?_
  try simp only [Act.put, List.setIfInBounds_toArray, List.set_cons_succ, List.set_cons_zero]
  refine wpList_op rfl fun K hK => ?_
  go_simp
  refine (good_is HGb.out sv F49.out.len HWb.out _).mono ?_
  rintro e w57 ⟨rfl, hb⟩
  have F58 := Lib.hid (F48.out.trans (hb.mono F48.out.size))
  have F59 := Lib.hid (F49.out.below hb)
  have F60 := Lib.hid (F50.out.below hb)
  have F61 := Lib.hid (F51.out.below hb F51.out.lt)
  have F62 := Lib.hid (F52.out.below hb F52.out.lt)
  have F63 := Lib.hid (F53.out.below hb F53.out.lt)
  have F64 := Lib.hid (F54.out.below hb F54.out.lt)
  have F65 := Lib.hid (F55.out.below hb F55.out.lt)
  clear F48 F49 F50 F51 F52 F53 F54 F55
  clear hb
  refine hK _ _ ?_
  clear hK K
  try simp only [Act.put, List.setIfInBounds_toArray, List.set_cons_succ, List.set_cons_zero]
  refine takeL (.bool false) rfl (by go_simp) ?_
  try simp only [Act.put, List.setIfInBounds_toArray, List.set_cons_succ, List.set_cons_zero]
  refine takeL (.bool false) rfl (by go_simp) ?_
  try simp only [Act.put, List.setIfInBounds_toArray, List.set_cons_succ, List.set_cons_zero]
  refine takeL (.int .i64 0) rfl (by go_simp) ?_
  try simp only [Act.put, List.setIfInBounds_toArray, List.set_cons_succ, List.set_cons_zero]
  refine takeL (.bool true) rfl (by go_simp) ?_
  try simp only [Act.put, List.setIfInBounds_toArray, List.set_cons_succ, List.set_cons_zero]
  refine load27 (cs := (c.arr cv)) F62.out.all HZc.out rfl rfl ?_
  try simp only [Act.put, List.setIfInBounds_toArray, List.set_cons_succ, List.set_cons_zero]
  refine wpList_op rfl fun K hK => ?_
  go_simp
  refine (good_is HGc.out cv F60.out.len HWc.out _).mono ?_
  rintro e w66 ⟨rfl, hb⟩
  have F67 := Lib.hid (F58.out.trans (hb.mono F58.out.size))
  have F68 := Lib.hid (F59.out.below hb)
  have F69 := Lib.hid (F60.out.below hb)
  have F70 := Lib.hid (F61.out.below hb F61.out.lt)
  have F71 := Lib.hid (F62.out.below hb F62.out.lt)
  have F72 := Lib.hid (F63.out.below hb F63.out.lt)
  have F73 := Lib.hid (F64.out.below hb F64.out.lt)
  have F74 := Lib.hid (F65.out.below hb F65.out.lt)
  clear F58 F59 F60 F61 F62 F63 F64 F65
  clear hb
  refine hK _ _ ?_
  clear hK K
  try simp only [Act.put, List.setIfInBounds_toArray, List.set_cons_succ, List.set_cons_zero]
  refine takeL (.bool false) rfl (by go_simp) ?_
  try simp only [Act.put, List.setIfInBounds_toArray, List.set_cons_succ, List.set_cons_zero]
  refine takeL (.bool false) rfl (by go_simp) ?_
  try simp only [Act.put, List.setIfInBounds_toArray, List.set_cons_succ, List.set_cons_zero]
  refine wpList_nil ?_
  repeat (first | (with_reducible refine stopR (id := 7) ?_) | go_values | go_skip | go_guarded | go_step | go_upon | go_back)
  refine Stop.mk (wp_region_lit ?_)
  refine takeL (.int .i64 0) rfl (by go_simp) ?_
  try simp only [Act.put, List.setIfInBounds_toArray, List.set_cons_succ, List.set_cons_zero]
  refine takeL (.bool true) rfl (by go_simp) ?_
  try simp only [Act.put, List.setIfInBounds_toArray, List.set_cons_succ, List.set_cons_zero]
  refine wpList_nil ?_
  repeat (first | (with_reducible refine stopR (id := 8) ?_) | go_values | go_skip | go_guarded | go_step | go_upon | go_back)
  refine Stop.mk (wp_region_lit ?_)
  refine load30 (cs := (u8s (b.sec n)).toArray) (Blk.all F73.out rfl) HSb.out rfl rfl ?_
  try simp only [Act.put, List.setIfInBounds_toArray, List.set_cons_succ, List.set_cons_zero]
  refine wpList_op rfl fun K hK => ?_
  go_simp
  refine (decode_sec HGb.out HWb.out n HNN.out _).mono ?_
  rintro e w75 ⟨dv, rfl, hby, hb⟩
  have F76 := Lib.hid (F67.out.trans (hb.mono F67.out.size))
  have F77 := Lib.hid (F68.out.below hb)
  have F78 := Lib.hid (F69.out.below hb)
  have F79 := Lib.hid (F70.out.below hb F70.out.lt)
  have F80 := Lib.hid (F71.out.below hb F71.out.lt)
  have F81 := Lib.hid (F72.out.below hb F72.out.lt)
  have F82 := Lib.hid (F73.out.below hb F73.out.lt)
  have F83 := Lib.hid (F74.out.below hb F74.out.lt)
  clear F67 F68 F69 F70 F71 F72 F73 F74
  have F84 := Lib.hid hby
  clear hb hby
  refine hK _ _ ?_
  clear hK K
  try simp only [Act.put, List.setIfInBounds_toArray, List.set_cons_succ, List.set_cons_zero]
  refine takeL (.tuple #[.agg (b.arr dv), .int .u32 n, .int .i64 0]) rfl (by go_simp) ?_
  try simp only [Act.put, List.setIfInBounds_toArray, List.set_cons_succ, List.set_cons_zero]
  refine takeL (.agg (b.arr dv)) rfl (by go_simp) ?_
  try simp only [Act.put, List.setIfInBounds_toArray, List.set_cons_succ, List.set_cons_zero]
  refine takeL (.int .u32 n) rfl (by go_simp) ?_
  try simp only [Act.put, List.setIfInBounds_toArray, List.set_cons_succ, List.set_cons_zero]
  refine takeL (.int .i64 0) rfl (by go_simp) ?_
  try simp only [Act.put, List.setIfInBounds_toArray, List.set_cons_succ, List.set_cons_zero]
  refine alloc_g zero27b rfl ?_
  intro w85 hC hBC hlC
  try simp only [Act.put, List.setIfInBounds_toArray, List.set_cons_succ, List.set_cons_zero]
  have HZd := Lib.hid (b.arr_size HWb.out dv)
  refine store_all (cs := (b.arr dv)) hC (by rw [HZd.out]; rfl) (by rw [HZd.out]; exact info27) (arr_form _ F84.out) rfl rfl rfl ?_
  intro w86 hD hOD hlD
  try simp only [Act.put, List.setIfInBounds_toArray, List.set_cons_succ, List.set_cons_zero]
  have hb := hBC.trans (hOD.below hBC.size (fun k hk => Nat.le_of_eq hk.symm))
  have F87 := Lib.hid (F76.out.trans (hb.mono F76.out.size))
  have F88 := Lib.hid (F77.out.below hb)
  have F89 := Lib.hid (F78.out.below hb)
  have F90 := Lib.hid (F79.out.below hb F79.out.lt)
  have F91 := Lib.hid (F80.out.below hb F80.out.lt)
  have F92 := Lib.hid (F81.out.below hb F81.out.lt)
  have F93 := Lib.hid (F82.out.below hb F82.out.lt)
  have F94 := Lib.hid (F83.out.below hb F83.out.lt)
  have F95 := Lib.hid (F84.out.below hb)
  clear F76 F77 F78 F79 F80 F81 F82 F83 F84
  have F96 := Lib.hid (show BAt _ _ b dv from ⟨hD, HWb.out⟩)
  clear hC hBC hlC hD hOD hlD hb
  generalize w75.heap.size = g97 at *
  clear w85 w75
  refine takeL (.int .u32 n) rfl (by go_simp) ?_
  try simp only [Act.put, List.setIfInBounds_toArray, List.set_cons_succ, List.set_cons_zero]
  refine takeL (.int .i64 0) rfl (by go_simp) ?_
  try simp only [Act.put, List.setIfInBounds_toArray, List.set_cons_succ, List.set_cons_zero]
  refine wpList_nil ?_
  repeat (first | (with_reducible refine stopR (id := 9) ?_) | go_values | go_skip | go_guarded | go_step | go_upon | go_back)
  refine Stop.mk (wp_region_lit ?_)
  refine takeL (.int .i64 0) rfl (by go_simp) ?_
  try simp only [Act.put, List.setIfInBounds_toArray, List.set_cons_succ, List.set_cons_zero]
  refine takeL (.bool false) rfl (by go_simp) ?_
  try simp only [Act.put, List.setIfInBounds_toArray, List.set_cons_succ, List.set_cons_zero]
  refine takeL (.bool false) rfl (by go_simp) ?_
  try simp only [Act.put, List.setIfInBounds_toArray, List.set_cons_succ, List.set_cons_zero]
  refine takeL (.int .u32 n) rfl (by go_simp) ?_
  try simp only [Act.put, List.setIfInBounds_toArray, List.set_cons_succ, List.set_cons_zero]
  refine takeL (.pointer (some ⟨g20, 0, none⟩)) rfl (by go_simp) ?_
  try simp only [Act.put, List.setIfInBounds_toArray, List.set_cons_succ, List.set_cons_zero]
  refine takeL (.int .u32 n) rfl (by have hq := F92.out.cell (i := 0) (v := .int .u32 n) rfl; go_simp) ?_
  try simp only [Act.put, List.setIfInBounds_toArray, List.set_cons_succ, List.set_cons_zero]
  refine takeL (.bool false) rfl (by go_simp) ?_
  try simp only [Act.put, List.setIfInBounds_toArray, List.set_cons_succ, List.set_cons_zero]
  refine takeL (.bool false) rfl (by go_simp) ?_
  try simp only [Act.put, List.setIfInBounds_toArray, List.set_cons_succ, List.set_cons_zero]
  refine takeL (.bool false) rfl (by go_simp) ?_
  try simp only [Act.put, List.setIfInBounds_toArray, List.set_cons_succ, List.set_cons_zero]
  refine load27 (cs := (b.arr dv)) F96.out.all HZd.out rfl rfl ?_
  try simp only [Act.put, List.setIfInBounds_toArray, List.set_cons_succ, List.set_cons_zero]
  refine load27 (cs := (b.arr sv)) F90.out.all HZb.out rfl rfl ?_
  try simp only [Act.put, List.setIfInBounds_toArray, List.set_cons_succ, List.set_cons_zero]
  refine wpList_op rfl fun K hK => ?_
  go_simp
  refine (block_self HWb.out dv sv _ F95.out F88.out).mono ?_
  rintro e w98 ⟨rfl, hb⟩
  have F99 := Lib.hid (F87.out.trans (hb.mono F87.out.size))
  have F100 := Lib.hid (F88.out.below hb)
  have F101 := Lib.hid (F89.out.below hb)
  have F102 := Lib.hid (F90.out.below hb F90.out.lt)
  have F103 := Lib.hid (F91.out.below hb F91.out.lt)
  have F104 := Lib.hid (F92.out.below hb F92.out.lt)
  have F105 := Lib.hid (F93.out.below hb F93.out.lt)
  have F106 := Lib.hid (F94.out.below hb F94.out.lt)
  have F107 := Lib.hid (F95.out.below hb)
  have F108 := Lib.hid (F96.out.below hb F96.out.lt)
  clear F87 F88 F89 F90 F91 F92 F93 F94 F95 F96
  clear hb
  refine hK _ _ ?_
  clear hK K
  try simp only [Act.put, List.setIfInBounds_toArray, List.set_cons_succ, List.set_cons_zero]
  refine takeL (.bool false) rfl (by go_simp) ?_
  try simp only [Act.put, List.setIfInBounds_toArray, List.set_cons_succ, List.set_cons_zero]
  refine takeL (.bool false) rfl (by go_simp) ?_
  try simp only [Act.put, List.setIfInBounds_toArray, List.set_cons_succ, List.set_cons_zero]
  refine wpList_nil ?_
  go_upto_region 11 with fail
  refine startH (fun wq => Below w98.heap.size w98 wq) (by kernel_rfl) ?_
  refine takeH 0 (some 73) (.int .i64 0) rfl rfl (by kernel_rfl) (by kernel_rfl) (by kernel_rfl) (fun _ _ _ h => h) rfl (fun wq hS => by go_simp) (Below.refl _ _).drew ?_
  try simp only [Act.put, List.setIfInBounds_toArray, List.set_cons_succ, List.set_cons_zero]
  refine takeH 1 (some 74) (.bool false) rfl rfl (by kernel_rfl) (by kernel_rfl) (by kernel_rfl) (fun _ _ _ h => h) rfl (fun wq hS => by go_simp) (Below.refl _ _).drew ?_
  try simp only [Act.put, List.setIfInBounds_toArray, List.set_cons_succ, List.set_cons_zero]
  refine takeH 2 (some 75) (.bool false) rfl rfl (by kernel_rfl) (by kernel_rfl) (by kernel_rfl) (fun _ _ _ h => h) rfl (fun wq hS => by go_simp) (Below.refl _ _).drew ?_
  try simp only [Act.put, List.setIfInBounds_toArray, List.set_cons_succ, List.set_cons_zero]
  refine takeH 3 (some 76) (.int .i64 0) rfl rfl (by kernel_rfl) (by kernel_rfl) (by kernel_rfl) (fun _ _ _ h => h) rfl (fun wq hS => by go_simp) (Below.refl _ _).drew ?_
  try simp only [Act.put, List.setIfInBounds_toArray, List.set_cons_succ, List.set_cons_zero]
  refine takeH 4 (some 77) (.bool false) rfl rfl (by kernel_rfl) (by kernel_rfl) (by kernel_rfl) (fun _ _ _ h => h) rfl (fun wq hS => by go_simp) (Below.refl _ _).drew ?_
  try simp only [Act.put, List.setIfInBounds_toArray, List.set_cons_succ, List.set_cons_zero]
  refine takeH 5 (some 78) (.bool false) rfl rfl (by kernel_rfl) (by kernel_rfl) (by kernel_rfl) (fun _ _ _ h => h) rfl (fun wq hS => by go_simp) (Below.refl _ _).drew ?_
  try simp only [Act.put, List.setIfInBounds_toArray, List.set_cons_succ, List.set_cons_zero]
  refine takeH 6 (some 79) (.bool false) rfl rfl (by kernel_rfl) (by kernel_rfl) (by kernel_rfl) (fun _ _ _ h => h) rfl (fun wq hS => by go_simp) (Below.refl _ _).drew ?_
  try simp only [Act.put, List.setIfInBounds_toArray, List.set_cons_succ, List.set_cons_zero]
  refine takeH 7 (some 80) (.agg (u8s (b.sec n)).toArray) rfl rfl (by kernel_rfl) (by kernel_rfl) (by kernel_rfl) (fun _ _ _ h => h) rfl (fun wq hS => by exact exec_load_at wq _ _ 30 _ rfl g37 0 rfl (u8s (b.sec n)).toArray _ Try.underlying30 rfl (by rw [HSb.out]; exact info30) (Blk.all (F105.out.below hS F105.out.lt) rfl)) (Below.refl _ _).drew ?_
  try simp only [Act.put, List.setIfInBounds_toArray, List.set_cons_succ, List.set_cons_zero]
  refine takeH 8 (some 81) (.agg (u8s (c.sec m)).toArray) rfl rfl (by kernel_rfl) (by kernel_rfl) (by kernel_rfl) (fun _ _ _ h => h) rfl (fun wq hS => by exact exec_load_at wq _ _ 30 _ rfl g56 0 rfl (u8s (c.sec m)).toArray _ Try.underlying30 rfl (by rw [HSc.out]; exact info30) (Blk.all (F106.out.below hS F106.out.lt) rfl)) (Below.refl _ _).drew ?_
  try simp only [Act.put, List.setIfInBounds_toArray, List.set_cons_succ, List.set_cons_zero]
  refine takeH 9 (some 82) (.bool (decide (b.sec n = c.sec m))) rfl rfl (by kernel_rfl) (by kernel_rfl) (by kernel_rfl) (fun _ _ _ h => h) rfl (fun wq hS => by have hq := HEQ.out; go_simp) (Below.refl _ _).drew ?_
  try simp only [Act.put, List.setIfInBounds_toArray, List.set_cons_succ, List.set_cons_zero]
  refine takeH 10 (some 83) (.agg (b.arr sv)) rfl rfl (by kernel_rfl) (by kernel_rfl) (by kernel_rfl) (fun _ _ _ h => h) rfl (fun wq hS => by exact exec_load_at wq _ _ 27 _ rfl w.heap.size 0 rfl (b.arr sv) _ Try.underlying27 rfl (by rw [HZb.out]; exact info27) (F102.out.below hS F102.out.lt).all) (Below.refl _ _).drew ?_
  try simp only [Act.put, List.setIfInBounds_toArray, List.set_cons_succ, List.set_cons_zero]
  refine takeH 11 (some 84) (.agg (c.arr cv)) rfl rfl (by kernel_rfl) (by kernel_rfl) (by kernel_rfl) (fun _ _ _ h => h) rfl (fun wq hS => by exact exec_load_at wq _ _ 27 _ rfl g12 0 rfl (c.arr cv) _ Try.underlying27 rfl (by rw [HZc.out]; exact info27) (F103.out.below hS F103.out.lt).all) (Below.refl _ _).drew ?_
  try simp only [Act.put, List.setIfInBounds_toArray, List.set_cons_succ, List.set_cons_zero]
  refine oneH 12 (by kernel_rfl) rfl rfl fun K hK => ?_
  go_simp
  refine (block_is HSM.out sv cv HWb.out HWc.out _ (F100.out.below (Below.refl _ _).drew) (F101.out.below (Below.refl _ _).drew)).mono ?_
  rintro e w109 ⟨rfl, hb⟩
  have HS110 := Lib.hid (stay (Below.refl _ _).drew hb)
  clear hb
  refine hK _ _ HS110.out ?_
  clear hK K
  try simp only [Act.put, List.setIfInBounds_toArray, List.set_cons_succ, List.set_cons_zero]
  refine takeH 13 (some 86) (.bool false) rfl rfl (by kernel_rfl) (by kernel_rfl) (by kernel_rfl) (fun _ _ _ h => h) rfl (fun wq hS => by go_simp) HS110.out ?_
  try simp only [Act.put, List.setIfInBounds_toArray, List.set_cons_succ, List.set_cons_zero]
  refine passH 14 (some 87) rfl rfl (by kernel_rfl) (by kernel_rfl) (by kernel_rfl) (fun _ _ _ h => h) rfl HS110.out ?_
  try simp only [Act.put, List.setIfInBounds_toArray, List.set_cons_succ, List.set_cons_zero]
  refine passH 15 (some 88) rfl rfl (by kernel_rfl) (by kernel_rfl) (by kernel_rfl) (fun _ _ _ h => h) rfl HS110.out ?_
  try simp only [Act.put, List.setIfInBounds_toArray, List.set_cons_succ, List.set_cons_zero]
  refine passH 16 (some 89) rfl rfl (by kernel_rfl) (by kernel_rfl) (by kernel_rfl) (fun _ _ _ h => h) rfl HS110.out ?_
  try simp only [Act.put, List.setIfInBounds_toArray, List.set_cons_succ, List.set_cons_zero]
  refine passH 17 (some 90) rfl rfl (by kernel_rfl) (by kernel_rfl) (by kernel_rfl) (fun _ _ _ h => h) rfl HS110.out ?_
  try simp only [Act.put, List.setIfInBounds_toArray, List.set_cons_succ, List.set_cons_zero]
  refine passH 18 (some 91) rfl rfl (by kernel_rfl) (by kernel_rfl) (by kernel_rfl) (fun _ _ _ h => h) rfl HS110.out ?_
  try simp only [Act.put, List.setIfInBounds_toArray, List.set_cons_succ, List.set_cons_zero]
  refine takeH 19 (some 92) (.bool false) rfl rfl (by kernel_rfl) (by kernel_rfl) (by kernel_rfl) (fun _ _ _ h => h) rfl (fun wq hS => by go_simp) HS110.out ?_
  try simp only [Act.put, List.setIfInBounds_toArray, List.set_cons_succ, List.set_cons_zero]
  refine takeH 20 (some 93) (.bool true) rfl rfl (by kernel_rfl) (by kernel_rfl) (by kernel_rfl) (fun _ _ _ h => h) rfl (fun wq hS => by have hq := HQ.out; go_simp) HS110.out ?_
  try simp only [Act.put, List.setIfInBounds_toArray, List.set_cons_succ, List.set_cons_zero]
  refine takeH 21 (some 94) (.bool true) rfl rfl (by kernel_rfl) (by kernel_rfl) (by kernel_rfl) (fun _ _ _ h => h) rfl (fun wq hS => by go_simp) HS110.out ?_
  try simp only [Act.put, List.setIfInBounds_toArray, List.set_cons_succ, List.set_cons_zero]
  refine takeH 22 (some 95) (.bool true) rfl rfl (by kernel_rfl) (by kernel_rfl) (by kernel_rfl) (fun _ _ _ h => h) rfl (fun wq hS => by go_simp) HS110.out ?_
  try simp only [Act.put, List.setIfInBounds_toArray, List.set_cons_succ, List.set_cons_zero]
  refine oneH 23 (by kernel_rfl) rfl rfl fun K hK => ?_
  go_simp
  refine (wakes_any _).mono ?_
  rintro e w111 ⟨rfl, hb⟩
  have HS112 := Lib.hid (stay HS110.out hb)
  clear hb
  refine hK _ _ HS112.out ?_
  clear hK K
  try simp only [Act.put, List.setIfInBounds_toArray, List.set_cons_succ, List.set_cons_zero]
  refine takeH 24 (some 97) (.bool true) rfl rfl (by kernel_rfl) (by kernel_rfl) (by kernel_rfl) (fun _ _ _ h => h) rfl (fun wq hS => by go_simp) HS112.out ?_
  try simp only [Act.put, List.setIfInBounds_toArray, List.set_cons_succ, List.set_cons_zero]
  refine takeH 25 (some 6) (.bool true) rfl rfl (by kernel_rfl) (by kernel_rfl) (by kernel_rfl) (fun _ _ _ h => h) rfl (fun wq hS => by go_simp) HS112.out ?_
  try simp only [Act.put, List.setIfInBounds_toArray, List.set_cons_succ, List.set_cons_zero]
  refine wpAnyH_done (by kernel_rfl) ?_ _
  go_wp2_with fail
  go_ret
  exact ⟨rfl, F99.out.trans (HS112.out.mono F99.out.size)⟩
theorem back_any (b c : Bk) (sv cv : Value) (hb : b.Wf) (hc : c.Wf) (n m : Int) (hn : 0 ≤ n ∧ n < 4294967296) (hm : 0 ≤ m ∧ m < 4294967296) (w : World) (hbs : BytesAt w sv b.bytes) (hcs : BytesAt w cv c.bytes) : Calls Try.prog 4 #[.agg (b.arr sv), .agg (c.arr cv), .agg #[.int .u32 n, .int .u32 m]] w fun e w' => e = .returned (.bool true) ∧ Below w.heap.size w w' := by
  by_cases h1 : b.bytes.length ≤ 300
  · by_cases h2 : c.bytes.length ≤ 300
    · cases gb : b.good <;> cases gc : c.good
      · exact back_ff b c sv cv hb hc n m hn hm h1 h2 gb gc w hbs hcs
      · exact back_ft b c sv cv hb hc n m hn hm h1 h2 gb gc w hbs hcs
      · exact back_tf b c sv cv hb hc n m hn hm h1 h2 gb gc w hbs hcs
      · cases hs : b.same c
        · exact back_tn b c sv cv hb hc n m hn hm h1 h2 gb gc hs w hbs hcs
        · exact back_tt b c sv cv hb hc n m hn hm h1 h2 gb gc hs w hbs hcs
    · exact back_long2 b c sv cv hb hc n m hn hm h1 (by omega) w hbs hcs
  · exact back_long1 b c sv cv hb hc n m hn hm (by omega) w hbs hcs
end Go.Proofs.Ytdgciecnnpjeoaa
