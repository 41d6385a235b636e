/- The statement FramesNone's walk: whatever the step, the call returns true. -/
import Derived.Test.YtaemjglblfencaaDoorSt
import Derived.Test.YtaemjglblfencaaDoorWk
namespace Go.Proofs.YtaemjglblfencaaDoor
set_option linter.unusedSimpArgs false
set_option linter.unusedVariables false
open Go.RowKit Kl

theorem Page_nilV (p : Int) (w : World) : Calls Tryd.prog 16 #[.pointer none, .int .i64 p] w fun e w' => e = .returned (.tuple #[.agg (u8s (zeros 32)).toArray, .agg (u8s (zeros 32)).toArray, .bool false]) ∧ Below w.heap.size w w' := Page_nil p w
theorem Map_nilV (p : Int) (w : World) : Calls Tryd.prog 18 #[.pointer none, .int .i64 p] w fun e w' => e = .returned (.tuple #[.agg (i64s (zeros 8)).toArray, .bool false]) ∧ Below w.heap.size w w' := Map_nil p w
set_option maxRecDepth 100000 in
set_option maxHeartbeats 1000000 in
theorem none_any (w : World) (x : Stp) (hx : x.Wf) (dv : Value) (hd : BytesAt w dv x.data) (hev : ErrVar w) : Calls Tryd.prog 4 #[.agg #[.int .i64 x.kind, .int .i64 x.frame, .int .i64 x.key, .int .i64 x.off, .int .u8 x.v, dv]] w fun e w' => e = .returned (.bool true) ∧ Below w.heap.size w w' := by
  obtain ⟨kind, frame, key, off, v, data⟩ := x
  have hd' := hd
  obtain ⟨a, c, rfl, hb⟩ := hd
  simp only at *
  have HEV := Lib.hid hev
  have HX0 : Hid (Blk (w.alloc (.cells #[.int .i64 kind, .int .i64 frame, .int .i64 key, .int .i64 off, .int .u8 v, .slice a data.length c] 37)) w.heap.size [.int .i64 kind, .int .i64 frame, .int .i64 key, .int .i64 off, .int .u8 v, .slice a data.length c]) := Lib.hid (Kl.Blk.newAt _ _ _ rfl rfl)
  have HB0 := Lib.hid (two_below w (.cells #[.int .i64 kind, .int .i64 frame, .int .i64 key, .int .i64 off, .int .u8 v, .slice a data.length c] 37) (.cells #[.int .i64 kind, .int .i64 frame, .int .i64 key, .int .i64 off, .int .u8 v, .slice a data.length c] 37))
  have HF := Lib.hid (fair_any ((w.alloc (.cells #[.int .i64 kind, .int .i64 frame, .int .i64 key, .int .i64 off, .int .u8 v, .slice a data.length c] 37)).alloc (.cells #[.int .i64 kind, .int .i64 frame, .int .i64 key, .int .i64 off, .int .u8 v, .slice a data.length c] 37)) (.slice (some ⟨w.heap.size + 1, 0, none⟩) 1 1) [⟨kind, frame, key, off, v, data⟩] ⟨by simp, some ⟨w.heap.size + 1, 0, none⟩, 1, rfl, fun i y hy => by
    obtain rfl : i = 0 := by
      have := (List.getElem?_eq_some_iff.1 hy).1
      simp at this
      omega
    cases hy
    have hk : Blk ((w.alloc (.cells #[.int .i64 kind, .int .i64 frame, .int .i64 key, .int .i64 off, .int .u8 v, .slice a data.length c] 37)).alloc (.cells #[.int .i64 kind, .int .i64 frame, .int .i64 key, .int .i64 off, .int .u8 v, .slice a data.length c] 37)) (w.heap.size + 1) [.int .i64 kind, .int .i64 frame, .int .i64 key, .int .i64 off, .int .u8 v, .slice a data.length c] := Kl.Blk.newAt _ _ _ (by simp) rfl
    exact ⟨hx, w.heap.size + 1, 0, _, rfl, hk.cell (i := 0) rfl, hk.cell (i := 1) rfl, hk.cell (i := 2) rfl, hk.cell (i := 3) rfl, hk.cell (i := 4) rfl, hk.cell (i := 5) rfl, hd'.below HB0.out⟩⟩)
  have HX1 := Lib.hid (HX0.out.alloc (.cells #[.int .i64 kind, .int .i64 frame, .int .i64 key, .int .i64 off, .int .u8 v, .slice a data.length c] 37))
  clear hb hd' hev hx HX0
  generalize fairL [⟨kind, frame, key, off, v, data⟩] = fl at *
  go_enter Tryd.func4, Tryd.ntmps4
  go_wp2_with fail
  refine HF.out.mono ?_
  rintro e w1 ⟨rfl, h1⟩
  rw [h1] at HX1 HB0
  clear HF h1
  cases fl with
  | false =>
    go_wp2_with fail
    refine (wakes_any _ (HEV.out.below (Nat.le_refl _) HB0.out)).mono ?_
    rintro e w2 ⟨rfl, hb⟩
    have HB2 := Lib.hid (stay HB0.out hb)
    clear hb
    go_wp2_with fail
    go_ret
    exact ⟨rfl, HB2.out⟩
  | true =>
    have x2 := HX1.out.cell (i := 2) rfl
    go_wp2_with fail
    refine (Clean_nil key _).mono ?_
    rintro e w4 ⟨rfl, hb⟩
    have HX4 := Lib.hid (HX1.out.below hb HX1.out.lt)
    have HB4 := Lib.hid (stay HB0.out hb)
    clear hb x2 HX1 HB0
    go_upto_region 5 with fail
    refine wp_region_lit ?_
    refine takeL (.pointer none) rfl (by go_simp) ?_
    try simp only [Act.put, List.setIfInBounds_toArray, List.set_cons_succ, List.set_cons_zero]
    refine takeL (.pointer (some ⟨w.heap.size, 2, none⟩)) rfl (by go_simp) ?_
    try simp only [Act.put, List.setIfInBounds_toArray, List.set_cons_succ, List.set_cons_zero]
    refine takeL (.int .i64 key) rfl (by have hq := HX4.out.cell (i := 2) rfl; go_simp) ?_
    try simp only [Act.put, List.setIfInBounds_toArray, List.set_cons_succ, List.set_cons_zero]
    refine wpList_op rfl fun K hK => ?_
    go_simp
    refine (Page_nilV key _).mono ?_
    rintro e w5c ⟨rfl, hb⟩
    have HX5c := Lib.hid (HX4.out.below hb HX4.out.lt)
    have HB5c := Lib.hid (stay HB4.out hb)
    clear HX4 HB4
    clear hb
    refine hK _ _ ?_
    clear hK K
    try simp only [Act.put, List.setIfInBounds_toArray, List.set_cons_succ, List.set_cons_zero]
    refine takeL (.tuple #[.agg (u8s (zeros 32)).toArray, .agg (u8s (zeros 32)).toArray, .bool false]) rfl (by go_simp) ?_
    try simp only [Act.put, List.setIfInBounds_toArray, List.set_cons_succ, List.set_cons_zero]
    refine takeL (.agg (u8s (zeros 32)).toArray) rfl (by go_simp) ?_
    try simp only [Act.put, List.setIfInBounds_toArray, List.set_cons_succ, List.set_cons_zero]
    refine takeL (.agg (u8s (zeros 32)).toArray) rfl (by go_simp) ?_
    try simp only [Act.put, List.setIfInBounds_toArray, List.set_cons_succ, List.set_cons_zero]
    refine takeL (.bool false) rfl (by go_simp) ?_
    try simp only [Act.put, List.setIfInBounds_toArray, List.set_cons_succ, List.set_cons_zero]
    refine alloc_g zero32 rfl ?_
    intro wa hA hb hl
    try simp only [Act.put, List.setIfInBounds_toArray, List.set_cons_succ, List.set_cons_zero]
    refine alloc_g zero32 rfl ?_
    intro wb hA2 hb2 hl2
    try simp only [Act.put, List.setIfInBounds_toArray, List.set_cons_succ, List.set_cons_zero]
    have Vab := Lib.hid (hb.trans (hb2.mono hb.size))
    have V3 : Hid (Blk wb w5c.heap.size (u8s (zeros 32))) := Lib.hid (by simpa using hA.below hb2 hA.lt)
    have V4 : Hid (Blk wb wa.heap.size (u8s (zeros 32))) := Lib.hid (by simpa using hA2)
    have VN5 : Hid (w5c.heap.size ≠ wa.heap.size) := Lib.hid (Nat.ne_of_lt hl)
    have VG5 : Hid (w5c.heap.size ≤ wa.heap.size) := Lib.hid (Nat.le_of_lt hl)
    clear hA hb hl hA2 hb2 hl2
    generalize wa.heap.size = gb5 at *
    clear wa
    refine store_all (cs := (u8s (zeros 32)).toArray) V3.out (by simp only [u8s_size, List.size_toArray, List.length_map, zeros_length, zeros_length]) (by rw [u8s_size, zeros_length]; exact info32) (u8s_one _) rfl rfl rfl ?_
    intro wt hD hO hlD
    try simp only [Act.put, List.setIfInBounds_toArray, List.set_cons_succ, List.set_cons_zero]
    have V3s : Hid (Blk wt w5c.heap.size (u8s (zeros 32))) := Lib.hid (by simpa using hD)
    have V4s := Lib.hid (V4.out.only hO VN5.out.symm)
    have Vs := Lib.hid (Vab.out.trans (hO.below Vab.out.size fun k hk => Nat.le_of_eq hk.symm))
    clear V3 V4 Vab hD hO hlD
    have V4 := V4s
    clear V4s
    refine store_all (cs := (u8s (zeros 32)).toArray) V4.out (by simp only [u8s_size, List.size_toArray, List.length_map, zeros_length, zeros_length]) (by rw [u8s_size, zeros_length]; exact info32) (u8s_one _) rfl rfl rfl ?_
    intro w5 hD hO hlD
    try simp only [Act.put, List.setIfInBounds_toArray, List.set_cons_succ, List.set_cons_zero]
    have VB5 : Hid (Blk w5 gb5 (u8s (zeros 32))) := Lib.hid (by simpa using hD)
    have VA5 := Lib.hid (V3s.out.only hO VN5.out)
    have VE5 := Lib.hid (Vs.out.trans (hO.below Vs.out.size fun k hk => by rw [hk]; exact VG5.out))
    clear V3s V4 Vs hD hO hlD
    clear wt
    refine takeL (.bool false) rfl (by go_simp) ?_
    try simp only [Act.put, List.setIfInBounds_toArray, List.set_cons_succ, List.set_cons_zero]
    refine wpList_nil ?_
    have HX5 := Lib.hid (HX5c.out.below VE5.out HX5c.out.lt)
    have HB5 := Lib.hid (stay HB5c.out VE5.out)
    clear HX5c HB5c
    clear VA5 VB5 VE5 VN5 VG5
    go_upto_region 6 with fail
    refine wp_region_lit ?_
    refine takeL (.pointer none) rfl (by go_simp) ?_
    try simp only [Act.put, List.setIfInBounds_toArray, List.set_cons_succ, List.set_cons_zero]
    refine takeL (.pointer (some ⟨w.heap.size, 2, none⟩)) rfl (by go_simp) ?_
    try simp only [Act.put, List.setIfInBounds_toArray, List.set_cons_succ, List.set_cons_zero]
    refine takeL (.int .i64 key) rfl (by have hq := HX5.out.cell (i := 2) rfl; go_simp) ?_
    try simp only [Act.put, List.setIfInBounds_toArray, List.set_cons_succ, List.set_cons_zero]
    refine wpList_op rfl fun K hK => ?_
    go_simp
    refine (Map_nilV key _).mono ?_
    rintro e w6c ⟨rfl, hb⟩
    have HX6c := Lib.hid (HX5.out.below hb HX5.out.lt)
    have HB6c := Lib.hid (stay HB5.out hb)
    clear HX5 HB5
    clear hb
    refine hK _ _ ?_
    clear hK K
    try simp only [Act.put, List.setIfInBounds_toArray, List.set_cons_succ, List.set_cons_zero]
    refine takeL (.tuple #[.agg (i64s (zeros 8)).toArray, .bool false]) rfl (by go_simp) ?_
    try simp only [Act.put, List.setIfInBounds_toArray, List.set_cons_succ, List.set_cons_zero]
    refine takeL (.agg (i64s (zeros 8)).toArray) rfl (by go_simp) ?_
    try simp only [Act.put, List.setIfInBounds_toArray, List.set_cons_succ, List.set_cons_zero]
    refine takeL (.bool false) rfl (by go_simp) ?_
    try simp only [Act.put, List.setIfInBounds_toArray, List.set_cons_succ, List.set_cons_zero]
    refine alloc_g zero49 rfl ?_
    intro wa hA hb hl
    try simp only [Act.put, List.setIfInBounds_toArray, List.set_cons_succ, List.set_cons_zero]
    refine store_all (cs := (i64s (zeros 8)).toArray) hA (by simp only [List.size_toArray, List.length_map, zeros_length, zeros_length]) (by simp only [List.size_toArray, List.length_map, zeros_length]; exact info49) (i64s_one _) rfl rfl rfl ?_
    intro w6 hD hO hlD
    try simp only [Act.put, List.setIfInBounds_toArray, List.set_cons_succ, List.set_cons_zero]
    have VA6 : Hid (Blk w6 w6c.heap.size (i64s (zeros 8))) := Lib.hid (by simpa using hD)
    have VE6 : Hid (Below w6c.heap.size w6c w6) := Lib.hid (hb.trans (hO.below hb.size fun k hk => Nat.le_of_eq hk.symm))
    clear hA hb hl hD hO hlD
    refine takeL (.bool false) rfl (by go_simp) ?_
    try simp only [Act.put, List.setIfInBounds_toArray, List.set_cons_succ, List.set_cons_zero]
    refine wpList_nil ?_
    have HX6 := Lib.hid (HX6c.out.below VE6.out HX6c.out.lt)
    have HB6 := Lib.hid (stay HB6c.out VE6.out)
    clear HX6c HB6c
    clear VA6 VE6
    go_upto_region 7 with fail
    refine wp_region_lit ?_
    refine takeL (.pointer none) rfl (by go_simp) ?_
    try simp only [Act.put, List.setIfInBounds_toArray, List.set_cons_succ, List.set_cons_zero]
    refine wpList_op rfl fun K hK => ?_
    go_simp
    refine (clockF_nil _).mono ?_
    rintro e w71 ⟨rfl, rfl⟩
    refine hK _ _ ?_
    clear hK K
    try simp only [Act.put, List.setIfInBounds_toArray, List.set_cons_succ, List.set_cons_zero]
    refine takeL (.bool true) rfl (by go_simp) ?_
    try simp only [Act.put, List.setIfInBounds_toArray, List.set_cons_succ, List.set_cons_zero]
    refine takeL (.bool true) rfl (by go_simp) ?_
    try simp only [Act.put, List.setIfInBounds_toArray, List.set_cons_succ, List.set_cons_zero]
    refine takeL (.pointer none) rfl (by go_simp) ?_
    try simp only [Act.put, List.setIfInBounds_toArray, List.set_cons_succ, List.set_cons_zero]
    refine takeL (.pointer (some ⟨w.heap.size, 1, none⟩)) rfl (by go_simp) ?_
    try simp only [Act.put, List.setIfInBounds_toArray, List.set_cons_succ, List.set_cons_zero]
    refine takeL (.int .i64 frame) rfl (by have hq := HX6.out.cell (i := 1) rfl; go_simp) ?_
    try simp only [Act.put, List.setIfInBounds_toArray, List.set_cons_succ, List.set_cons_zero]
    refine takeL (.pointer (some ⟨w.heap.size, 2, none⟩)) rfl (by go_simp) ?_
    try simp only [Act.put, List.setIfInBounds_toArray, List.set_cons_succ, List.set_cons_zero]
    refine takeL (.int .i64 key) rfl (by have hq := HX6.out.cell (i := 2) rfl; go_simp) ?_
    try simp only [Act.put, List.setIfInBounds_toArray, List.set_cons_succ, List.set_cons_zero]
    refine build_g (build32 _) rfl ?_
    try simp only [Act.put, List.setIfInBounds_toArray, List.set_cons_succ, List.set_cons_zero]
    refine wpList_op rfl fun K hK => ?_
    go_simp
    refine (Hold_nil frame key (zeros 32) (zeros_length 32) _).mono ?_
    rintro e w72 ⟨rfl, hb⟩
    have HX72 := Lib.hid (HX6.out.below hb HX6.out.lt)
    have HB72 := Lib.hid (stay HB6.out hb)
    clear HX6 HB6
    clear hb
    refine hK _ _ ?_
    clear hK K
    try simp only [Act.put, List.setIfInBounds_toArray, List.set_cons_succ, List.set_cons_zero]
    refine takeL (.bool true) rfl (by go_simp) ?_
    try simp only [Act.put, List.setIfInBounds_toArray, List.set_cons_succ, List.set_cons_zero]
    refine takeL (.bool true) rfl (by go_simp) ?_
    try simp only [Act.put, List.setIfInBounds_toArray, List.set_cons_succ, List.set_cons_zero]
    refine takeL (.bool true) rfl (by go_simp) ?_
    try simp only [Act.put, List.setIfInBounds_toArray, List.set_cons_succ, List.set_cons_zero]
    refine takeL (.pointer none) rfl (by go_simp) ?_
    try simp only [Act.put, List.setIfInBounds_toArray, List.set_cons_succ, List.set_cons_zero]
    refine takeL (.pointer (some ⟨w.heap.size, 1, none⟩)) rfl (by go_simp) ?_
    try simp only [Act.put, List.setIfInBounds_toArray, List.set_cons_succ, List.set_cons_zero]
    refine takeL (.int .i64 frame) rfl (by have hq := HX72.out.cell (i := 1) rfl; go_simp) ?_
    try simp only [Act.put, List.setIfInBounds_toArray, List.set_cons_succ, List.set_cons_zero]
    refine takeL (.pointer (some ⟨w.heap.size, 2, none⟩)) rfl (by go_simp) ?_
    try simp only [Act.put, List.setIfInBounds_toArray, List.set_cons_succ, List.set_cons_zero]
    refine takeL (.int .i64 key) rfl (by have hq := HX72.out.cell (i := 2) rfl; go_simp) ?_
    try simp only [Act.put, List.setIfInBounds_toArray, List.set_cons_succ, List.set_cons_zero]
    refine build_g (build49 _) rfl ?_
    try simp only [Act.put, List.setIfInBounds_toArray, List.set_cons_succ, List.set_cons_zero]
    refine wpList_op rfl fun K hK => ?_
    go_simp
    refine (HoldMap_nil frame key (zeros 8) (by decide) _).mono ?_
    rintro e w73 ⟨rfl, hb⟩
    have HX73 := Lib.hid (HX72.out.below hb HX72.out.lt)
    have HB73 := Lib.hid (stay HB72.out hb)
    clear HX72 HB72
    clear hb
    refine hK _ _ ?_
    clear hK K
    try simp only [Act.put, List.setIfInBounds_toArray, List.set_cons_succ, List.set_cons_zero]
    refine takeL (.bool true) rfl (by go_simp) ?_
    try simp only [Act.put, List.setIfInBounds_toArray, List.set_cons_succ, List.set_cons_zero]
    refine takeL (.bool true) rfl (by go_simp) ?_
    try simp only [Act.put, List.setIfInBounds_toArray, List.set_cons_succ, List.set_cons_zero]
    refine takeL (.bool true) rfl (by go_simp) ?_
    try simp only [Act.put, List.setIfInBounds_toArray, List.set_cons_succ, List.set_cons_zero]
    refine takeL (.bool false) rfl (by go_simp) ?_
    try simp only [Act.put, List.setIfInBounds_toArray, List.set_cons_succ, List.set_cons_zero]
    refine takeL (.bool true) rfl (by go_simp) ?_
    try simp only [Act.put, List.setIfInBounds_toArray, List.set_cons_succ, List.set_cons_zero]
    refine takeL (.bool true) rfl (by go_simp) ?_
    try simp only [Act.put, List.setIfInBounds_toArray, List.set_cons_succ, List.set_cons_zero]
    refine takeL (.bool true) rfl (by go_simp) ?_
    try simp only [Act.put, List.setIfInBounds_toArray, List.set_cons_succ, List.set_cons_zero]
    refine takeL (.bool false) rfl (by go_simp) ?_
    try simp only [Act.put, List.setIfInBounds_toArray, List.set_cons_succ, List.set_cons_zero]
    refine takeL (.bool true) rfl (by go_simp) ?_
    try simp only [Act.put, List.setIfInBounds_toArray, List.set_cons_succ, List.set_cons_zero]
    refine takeL (.bool true) rfl (by go_simp) ?_
    try simp only [Act.put, List.setIfInBounds_toArray, List.set_cons_succ, List.set_cons_zero]
    refine takeL (.bool true) rfl (by go_simp) ?_
    try simp only [Act.put, List.setIfInBounds_toArray, List.set_cons_succ, List.set_cons_zero]
    refine takeL (.pointer none) rfl (by go_simp) ?_
    try simp only [Act.put, List.setIfInBounds_toArray, List.set_cons_succ, List.set_cons_zero]
    refine takeL (.pointer (some ⟨w.heap.size, 2, none⟩)) rfl (by go_simp) ?_
    try simp only [Act.put, List.setIfInBounds_toArray, List.set_cons_succ, List.set_cons_zero]
    refine takeL (.int .i64 key) rfl (by have hq := HX73.out.cell (i := 2) rfl; go_simp) ?_
    try simp only [Act.put, List.setIfInBounds_toArray, List.set_cons_succ, List.set_cons_zero]
    refine takeL (.pointer (some ⟨w.heap.size, 3, none⟩)) rfl (by go_simp) ?_
    try simp only [Act.put, List.setIfInBounds_toArray, List.set_cons_succ, List.set_cons_zero]
    refine takeL (.int .i64 off) rfl (by have hq := HX73.out.cell (i := 3) rfl; go_simp) ?_
    try simp only [Act.put, List.setIfInBounds_toArray, List.set_cons_succ, List.set_cons_zero]
    refine takeL (.pointer (some ⟨w.heap.size, 5, none⟩)) rfl (by go_simp) ?_
    try simp only [Act.put, List.setIfInBounds_toArray, List.set_cons_succ, List.set_cons_zero]
    refine takeL (.slice a data.length c) rfl (by have hq := HX73.out.cell (i := 5) rfl; go_simp) ?_
    try simp only [Act.put, List.setIfInBounds_toArray, List.set_cons_succ, List.set_cons_zero]
    refine wpList_op rfl fun K hK => ?_
    go_simp
    refine (Write_nil key off _ _).mono ?_
    rintro e w74 ⟨rfl, rfl⟩
    refine hK _ _ ?_
    clear hK K
    try simp only [Act.put, List.setIfInBounds_toArray, List.set_cons_succ, List.set_cons_zero]
    refine takeL (.bool true) rfl (by go_simp) ?_
    try simp only [Act.put, List.setIfInBounds_toArray, List.set_cons_succ, List.set_cons_zero]
    refine takeL (.bool true) rfl (by go_simp) ?_
    try simp only [Act.put, List.setIfInBounds_toArray, List.set_cons_succ, List.set_cons_zero]
    refine takeL (.bool true) rfl (by go_simp) ?_
    try simp only [Act.put, List.setIfInBounds_toArray, List.set_cons_succ, List.set_cons_zero]
    refine takeL (.pointer none) rfl (by go_simp) ?_
    try simp only [Act.put, List.setIfInBounds_toArray, List.set_cons_succ, List.set_cons_zero]
    refine takeL (.pointer (some ⟨w.heap.size, 2, none⟩)) rfl (by go_simp) ?_
    try simp only [Act.put, List.setIfInBounds_toArray, List.set_cons_succ, List.set_cons_zero]
    refine takeL (.int .i64 key) rfl (by have hq := HX73.out.cell (i := 2) rfl; go_simp) ?_
    try simp only [Act.put, List.setIfInBounds_toArray, List.set_cons_succ, List.set_cons_zero]
    refine wpList_op rfl fun K hK => ?_
    go_simp
    refine (Forget_nil key _).mono ?_
    rintro e w75 ⟨rfl, hb⟩
    have HX75 := Lib.hid (HX73.out.below hb HX73.out.lt)
    have HB75 := Lib.hid (stay HB73.out hb)
    clear HX73 HB73
    clear hb
    refine hK _ _ ?_
    clear hK K
    try simp only [Act.put, List.setIfInBounds_toArray, List.set_cons_succ, List.set_cons_zero]
    refine takeL (.bool true) rfl (by go_simp) ?_
    try simp only [Act.put, List.setIfInBounds_toArray, List.set_cons_succ, List.set_cons_zero]
    refine takeL (.bool true) rfl (by go_simp) ?_
    try simp only [Act.put, List.setIfInBounds_toArray, List.set_cons_succ, List.set_cons_zero]
    refine takeL (.bool true) rfl (by go_simp) ?_
    try simp only [Act.put, List.setIfInBounds_toArray, List.set_cons_succ, List.set_cons_zero]
    refine takeL (.pointer none) rfl (by go_simp) ?_
    try simp only [Act.put, List.setIfInBounds_toArray, List.set_cons_succ, List.set_cons_zero]
    refine wpList_op rfl fun K hK => ?_
    go_simp
    refine (Dirty_nil _).mono ?_
    rintro e w76 ⟨rfl, rfl⟩
    refine hK _ _ ?_
    clear hK K
    try simp only [Act.put, List.setIfInBounds_toArray, List.set_cons_succ, List.set_cons_zero]
    refine takeL (.int .i64 0) rfl (by go_simp) ?_
    try simp only [Act.put, List.setIfInBounds_toArray, List.set_cons_succ, List.set_cons_zero]
    refine takeL (.bool true) rfl (by go_simp) ?_
    try simp only [Act.put, List.setIfInBounds_toArray, List.set_cons_succ, List.set_cons_zero]
    refine takeL (.bool true) rfl (by go_simp) ?_
    try simp only [Act.put, List.setIfInBounds_toArray, List.set_cons_succ, List.set_cons_zero]
    refine takeL (.bool true) rfl (by go_simp) ?_
    try simp only [Act.put, List.setIfInBounds_toArray, List.set_cons_succ, List.set_cons_zero]
    refine wpList_op rfl fun K hK => ?_
    go_simp
    refine (wakes_any _ (HEV.out.below (Nat.le_refl _) HB75.out)).mono ?_
    rintro e w77 ⟨rfl, hb⟩
    have HX77 := Lib.hid (HX75.out.below hb HX75.out.lt)
    have HB77 := Lib.hid (stay HB75.out hb)
    clear HX75 HB75
    clear hb
    refine hK _ _ ?_
    clear hK K
    try simp only [Act.put, List.setIfInBounds_toArray, List.set_cons_succ, List.set_cons_zero]
    refine takeL (.bool true) rfl (by go_simp) ?_
    try simp only [Act.put, List.setIfInBounds_toArray, List.set_cons_succ, List.set_cons_zero]
    refine takeL (.bool true) rfl (by go_simp) ?_
    try simp only [Act.put, List.setIfInBounds_toArray, List.set_cons_succ, List.set_cons_zero]
    refine wpList_nil ?_
    go_wp2_with fail
    go_ret
    exact ⟨rfl, HB77.out⟩

end Go.Proofs.YtaemjglblfencaaDoor
