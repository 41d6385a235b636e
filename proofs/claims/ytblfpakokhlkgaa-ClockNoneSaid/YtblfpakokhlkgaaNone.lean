/- The statement ClockNone, walked. -/
import Derived.Test.YtblfpakokhlkgaaWk
namespace Go.Proofs.Ytblfpakokhlkgaa
set_option linter.unusedSimpArgs false
set_option linter.unusedVariables false
open Go.RowKit

set_option maxHeartbeats 4000000 in
set_option maxRecDepth 100000 in
theorem none_any (w : World) (kd fr ky : Int) : Calls Try.prog 5 #[.agg #[.int .i64 kd, .int .i64 fr, .int .i64 ky]] w fun e w' => e = .returned (.bool true) ∧ Below w.heap.size w w' := by
  go_enter Try.func5, Try.ntmps5
  have HX := Lib.hid (Blk.new w #[.int .i64 kd, .int .i64 fr, .int .i64 ky] 32)
  have HB0 := Lib.hid (alloc_below w (.cells #[.int .i64 kd, .int .i64 fr, .int .i64 ky] 32))
  have HL : Hid (w.heap.size < (w.alloc (.cells #[.int .i64 kd, .int .i64 fr, .int .i64 ky] 32)).heap.size) := Lib.hid (by simp)
  go_upto_region 1 with fail
  generalize w.alloc (.cells #[.int .i64 kd, .int .i64 fr, .int .i64 ky] 32) = w0 at *
  have q1 := HX.out.cell (i := 1) rfl
  have q2 := HX.out.cell (i := 2) rfl
  go_wp2_with fail
  refine (find_nil _ _).mono ?_
  rintro e w1 ⟨rfl, hb⟩
  have HB1 := Lib.hid (stay HB0.out hb)
  have HX1 := Lib.hid (HX.out.below hb (HX.out.lt))
  have p1 := HX1.out.cell (i := 1) rfl
  have p2 := HX1.out.cell (i := 2) rfl
  clear hb HB0 q1 q2
  go_wp2_with fail
  refine (key_nil _ _).mono ?_
  rintro e w2 ⟨rfl, hb⟩
  have HB2 := Lib.hid (stay HB1.out hb)
  have HX2 := Lib.hid (HX1.out.below hb (HX1.out.lt))
  have p1 := HX2.out.cell (i := 1) rfl
  have p2 := HX2.out.cell (i := 2) rfl
  clear hb HB1
  go_wp2_with fail
  refine (victim_nil _).mono ?_
  rintro e w3 ⟨rfl, hb⟩
  have HB3 := Lib.hid (stay HB2.out hb)
  have HX3 := Lib.hid (HX2.out.below hb (HX2.out.lt))
  have p1 := HX3.out.cell (i := 1) rfl
  have p2 := HX3.out.cell (i := 2) rfl
  clear hb HB2
  go_wp2_with fail
  refine (touch_nil _ _).mono ?_
  rintro e w4 ⟨rfl, hb⟩
  have HB4 := Lib.hid (stay HB3.out hb)
  have HX4 := Lib.hid (HX3.out.below hb (HX3.out.lt))
  have p1 := HX4.out.cell (i := 1) rfl
  have p2 := HX4.out.cell (i := 2) rfl
  clear hb HB3
  go_wp2_with fail
  refine (put_nil _ _ _).mono ?_
  rintro e w5 ⟨rfl, hb⟩
  have HB5 := Lib.hid (stay HB4.out hb)
  have HX5 := Lib.hid (HX4.out.below hb (HX4.out.lt))
  have p1 := HX5.out.cell (i := 1) rfl
  have p2 := HX5.out.cell (i := 2) rfl
  clear hb HB4
  go_wp2_with fail
  refine (drop_nil _ _).mono ?_
  rintro e w6 ⟨rfl, hb⟩
  have HB6 := Lib.hid (stay HB5.out hb)
  have HX6 := Lib.hid (HX5.out.below hb (HX5.out.lt))
  have p1 := HX6.out.cell (i := 1) rfl
  have p2 := HX6.out.cell (i := 2) rfl
  clear hb HB5
  go_wp2_with fail
  refine (pin_nil _ _).mono ?_
  rintro e w7 ⟨rfl, hb⟩
  have HB7 := Lib.hid (stay HB6.out hb)
  have HX7 := Lib.hid (HX6.out.below hb (HX6.out.lt))
  have p1 := HX7.out.cell (i := 1) rfl
  have p2 := HX7.out.cell (i := 2) rfl
  clear hb HB6
  go_wp2_with fail
  refine (unpin_nil _ _).mono ?_
  rintro e w8 ⟨rfl, hb⟩
  have HB8 := Lib.hid (stay HB7.out hb)
  have HX8 := Lib.hid (HX7.out.below hb (HX7.out.lt))
  have p1 := HX8.out.cell (i := 1) rfl
  have p2 := HX8.out.cell (i := 2) rfl
  clear hb HB7
  go_wp2_with fail
  refine (pins_nil _ _).mono ?_
  rintro e w9 ⟨rfl, hb⟩
  have HB9 := Lib.hid (stay HB8.out hb)
  have HX9 := Lib.hid (HX8.out.below hb (HX8.out.lt))
  have p1 := HX9.out.cell (i := 1) rfl
  have p2 := HX9.out.cell (i := 2) rfl
  clear hb HB8
  go_wp2_with fail
  refine (pinned_nil _).mono ?_
  rintro e w10 ⟨rfl, hb⟩
  have HB10 := Lib.hid (stay HB9.out hb)
  have HX10 := Lib.hid (HX9.out.below hb (HX9.out.lt))
  have p1 := HX10.out.cell (i := 1) rfl
  have p2 := HX10.out.cell (i := 2) rfl
  clear hb HB9
  go_wp2_with fail
  refine (wakes_any _).mono ?_
  rintro e w11 ⟨rfl, hb⟩
  have HB11 := Lib.hid (stay HB10.out hb)
  clear hb HB10
  go_wp2_with fail
  go_ret
  exact ⟨rfl, HB11.out⟩

end Go.Proofs.Ytblfpakokhlkgaa
