/- The statements' own wakes: true, in whatever memory. -/
import Derived.Test.YtokenmidcpfneaaRefs
import Derived.Test.YtokenmidcpfneaaOfs
namespace Go.Proofs.Ytokenmidcpfneaa
open Go.RowKit
def g0 : Gm := ⟨16, 8, 24, 4⟩
theorem g0_ok : g0.Ok := by unfold Gm.Ok; decide
theorem wk_of (w : World) : Calls Try.prog 8 #[.agg #[.int .i64 16, .int .i64 8, .int .i64 24, .int .i64 4], .int .i64 30] w fun e w' => e = .returned (.tuple #[.int .i64 1, .int .i64 2, .bool true]) ∧ Below w.heap.size w w' := of_in g0 g0_ok 30 (by decide) w
theorem wk_good (w : World) : Calls Try.prog 9 #[.agg #[.int .i64 16, .int .i64 8, .int .i64 24, .int .i64 4]] w fun e w' => e = .returned (.bool true) ∧ Below w.heap.size w w' := good_yes g0 g0_ok w
theorem wk_bad (w : World) : Calls Try.prog 9 #[.agg #[.int .i64 16, .int .i64 5, .int .i64 24, .int .i64 4]] w fun e w' => e = .returned (.bool false) ∧ Below w.heap.size w w' := good_no ⟨16, 5, 24, 4⟩ (by unfold Gm.Ok; decide) w
theorem wk_maps (w : World) : Calls Try.prog 11 #[.agg #[.int .i64 16, .int .i64 8, .int .i64 24, .int .i64 4]] w fun e w' => e = .returned (.int .i64 2) ∧ Below w.heap.size w w' := maps_yes g0 g0_ok w
theorem wk_total (w : World) : Calls Try.prog 12 #[.agg #[.int .i64 16, .int .i64 8, .int .i64 24, .int .i64 4]] w fun e w' => e = .returned (.int .i64 196) ∧ Below w.heap.size w w' := total_yes g0 g0_ok w
theorem wk_cap (w : World) : Calls Try.prog 13 #[.agg #[.int .i64 16, .int .i64 8, .int .i64 24, .int .i64 4]] w fun e w' => e = .returned (.int .i64 4) ∧ Below w.heap.size w w' := cap_yes g0 g0_ok w
theorem wk_seg (w : World) : Calls Try.prog 14 #[.agg #[.int .i64 16, .int .i64 8, .int .i64 24, .int .i64 4], .int .i64 1] w fun e w' => e = .returned (.int .i64 28) ∧ Below w.heap.size w w' := seg_in g0 g0_ok 1 (by decide) w
theorem g0_at (w : World) : GAt (w.alloc (.cells #[.int .i64 16, .int .i64 8, .int .i64 24, .int .i64 4] 23)) w.heap.size g0 := GAt.box g0 w
theorem wakes_any (w : World) : Calls Try.prog 16 #[] w fun e w' => e = .returned (.bool true) ∧ Below w.heap.size w w' := by
  go_enter Try.func16, Try.ntmps16
  go_wp2_with fail
  refine (small_any _).mono ?_
  rintro e w1 ⟨rfl, hb⟩
  have HW := Lib.hid hb
  clear hb
  go_wp2_with fail
  refine (wk_of _).mono ?_
  rintro e w2 ⟨rfl, hb⟩
  have HB : Hid (Below w.heap.size w w2 ∧ GAt w2 w1.heap.size g0 ∧ w1.heap.size < w2.heap.size) := Lib.hid ⟨(HW.out.trans ((Below.refl _ _).alloc HW.out.size _)).trans (hb.mono (by have := HW.out.size; simp; omega)), (g0_at w1).below hb (by simp), Nat.lt_of_lt_of_le (by simp) hb.size⟩
  clear hb
  obtain ⟨c0, c1, c2, c3⟩ := HB.out.2.1
  go_wp2_with fail
  refine (wk_good _).mono ?_
  rintro e w2 ⟨rfl, hb⟩
  have HB := Lib.hid (further HB.out hb)
  clear hb c0 c1 c2 c3
  obtain ⟨c0, c1, c2, c3⟩ := HB.out.2.1
  go_wp2_with fail
  refine (wk_maps _).mono ?_
  rintro e w2 ⟨rfl, hb⟩
  have HB := Lib.hid (further HB.out hb)
  clear hb c0 c1 c2 c3
  obtain ⟨c0, c1, c2, c3⟩ := HB.out.2.1
  go_wp2_with fail
  refine (wk_total _).mono ?_
  rintro e w2 ⟨rfl, hb⟩
  have HB := Lib.hid (further HB.out hb)
  clear hb c0 c1 c2 c3
  obtain ⟨c0, c1, c2, c3⟩ := HB.out.2.1
  go_wp2_with fail
  refine (wk_cap _).mono ?_
  rintro e w2 ⟨rfl, hb⟩
  have HB := Lib.hid (further HB.out hb)
  clear hb c0 c1 c2 c3
  obtain ⟨c0, c1, c2, c3⟩ := HB.out.2.1
  go_wp2_with fail
  refine (wk_seg _).mono ?_
  rintro e w2 ⟨rfl, hb⟩
  have HB := Lib.hid (further HB.out hb)
  clear hb c0 c1 c2 c3
  obtain ⟨c0, c1, c2, c3⟩ := HB.out.2.1
  go_wp2_with fail
  refine (wk_bad _).mono ?_
  rintro e w2 ⟨rfl, hb⟩
  have HB := Lib.hid (further HB.out hb)
  clear hb c0 c1 c2 c3
  go_wp2_with fail
  go_ret
  exact ⟨rfl, HB.out.1⟩
end Go.Proofs.Ytokenmidcpfneaa
