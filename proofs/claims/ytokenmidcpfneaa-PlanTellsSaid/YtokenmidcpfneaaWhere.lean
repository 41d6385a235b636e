/- Where the statements' own reference says that a sector is. -/
import Derived.Test.YtokenmidcpfneaaRefs
namespace Go.Proofs.Ytokenmidcpfneaa
open Go.RowKit

theorem field25 (a b c : Int) (w : World) : (Instr.field 25 (.agg #[.int .i64 a, .int .i64 b, .int .i64 c]) 1).run Try.prog w = .ok (.int .i64 b) w := by kernel_rfl
theorem Blk.drew {w : World} {b : Nat} {l : List Value} (h : Blk w b l) : Blk w.drew b l := h
theorem rwhere_no (g : Gm) (h : ¬ g.Ok) (n : Int) (w : World) : Calls Try.prog 7 #[g.v, .int .i64 n] w fun e w' => e = .returned (.agg #[.int .i64 0, .int .i64 0, .bool false]) ∧ Below w.heap.size w w' := by
  have H := Lib.hid fun w => rgood_no g h w
  clear h
  go_enter Try.func7, Try.ntmps7
  go_wp2_with fail
  refine (H.out _).mono ?_
  rintro e w1 ⟨rfl, hb⟩
  have HB := Lib.hid (two_boxes hb)
  clear hb
  have d0 := HB.out.2.2.1.cell (i := 0) rfl
  have d1 := HB.out.2.2.1.cell (i := 1) rfl
  have d2 := HB.out.2.2.1.cell (i := 2) rfl
  have f0 := HB.out.2.2.1.frozen 0
  have f1 := HB.out.2.2.1.frozen 1
  have f2 := HB.out.2.2.1.frozen 2
  go_wp2_with fail
  exact bodyPost_ret (results_blk rfl _ _ (w.heap.size + 1) [_, _, _] _ rfl (((HB.out.2.2.1.set 0 _).set 1 _).set 2 _) Try.underlying28 rfl info28) rfl ⟨rfl, ((HB.out.1.setCell (by simp) _).setCell (by simp) _).setCell (by simp) _⟩
theorem rwhere_low (g : Gm) (h : g.Ok) (n : Int) (hn : n < 4) (w : World) : Calls Try.prog 7 #[g.v, .int .i64 n] w fun e w' => e = .returned (.agg #[.int .i64 0, .int .i64 0, .bool false]) ∧ Below w.heap.size w w' := by
  have H := Lib.hid fun w => rgood_yes g h w
  clear h
  go_enter Try.func7, Try.ntmps7
  go_wp2_with fail
  refine (H.out _).mono ?_
  rintro e w1 ⟨rfl, hb⟩
  have HB := Lib.hid (two_boxes hb)
  clear hb
  have d0 := HB.out.2.2.1.cell (i := 0) rfl
  have d1 := HB.out.2.2.1.cell (i := 1) rfl
  have d2 := HB.out.2.2.1.cell (i := 2) rfl
  have f0 := HB.out.2.2.1.frozen 0
  have f1 := HB.out.2.2.1.frozen 1
  have f2 := HB.out.2.2.1.frozen 2
  go_wp2_with fail
  exact bodyPost_ret (results_blk rfl _ _ (w.heap.size + 1) [_, _, _] _ rfl (((HB.out.2.2.1.set 0 _).set 1 _).set 2 _) Try.underlying28 rfl info28) rfl ⟨rfl, ((HB.out.1.setCell (by simp) _).setCell (by simp) _).setCell (by simp) _⟩
theorem two_on {g : Gm} {w w1 w2 : World} {b : Nat} {l : List Value} (h : Below w.heap.size w w1 ∧ GAt w1 w.heap.size g ∧ Blk w1 b l ∧ w.heap.size + 2 ≤ w1.heap.size) (hb : Below w1.heap.size w1 w2) : Below w.heap.size w w2 ∧ GAt w2 w.heap.size g ∧ Blk w2 b l ∧ w.heap.size + 2 ≤ w2.heap.size :=
  ⟨h.1.trans (hb.mono h.1.size), h.2.1.below hb (by have := h.2.2.2; omega), h.2.2.1.below hb h.2.2.1.lt, Nat.le_trans h.2.2.2 hb.size⟩
theorem rwhere_high (g : Gm) (h : g.Ok) (n : Int) (h0 : 4 ≤ n) (hn : 4 + g.s * g.l ≤ n) (w : World) : Calls Try.prog 7 #[g.v, .int .i64 n] w fun e w' => e = .returned (.agg #[.int .i64 0, .int .i64 0, .bool false]) ∧ Below w.heap.size w w' := by
  have H := Lib.hid fun w => rgood_yes g h w
  have H6 := Lib.hid fun w => rof_yes g h w
  clear h
  have hf := field25
  go_enter Try.func7, Try.ntmps7
  go_wp2_with fail
  refine (H.out _).mono ?_
  rintro e w1 ⟨rfl, hb⟩
  have HB := Lib.hid (two_boxes hb)
  clear hb
  obtain ⟨c0, c1, c2, c3⟩ := HB.out.2.1
  go_wp2_with fail
  refine (H6.out _).mono ?_
  rintro e w2 ⟨rfl, hb⟩
  have HB2 := Lib.hid (two_on HB.out hb)
  clear hb
  have d0 := HB2.out.2.2.1.cell (i := 0) rfl
  have d1 := HB2.out.2.2.1.cell (i := 1) rfl
  have d2 := HB2.out.2.2.1.cell (i := 2) rfl
  have f0 := HB2.out.2.2.1.frozen 0
  have f1 := HB2.out.2.2.1.frozen 1
  have f2 := HB2.out.2.2.1.frozen 2
  go_wp2_with fail
  exact bodyPost_ret (results_blk rfl _ _ (w.heap.size + 1) [_, _, _] _ rfl (((HB2.out.2.2.1.set 0 _).set 1 _).set 2 _) Try.underlying28 rfl info28) rfl ⟨rfl, ((HB2.out.1.setCell (by simp) _).setCell (by simp) _).setCell (by simp) _⟩
theorem rwhere_in (g : Gm) (h : g.Ok) (n : Int) (h0 : 4 ≤ n) (hn : n < 4 + g.s * g.l) (w : World) : Calls Try.prog 7 #[g.v, .int .i64 n] w fun e w' => e = .returned (.agg #[.int .i64 ((n - 4) / g.l), .int .i64 ((n - 4) % g.l), .bool true]) ∧ Below w.heap.size w w' := by
  have H := Lib.hid fun w => rgood_yes g h w
  have H6 := Lib.hid fun w => rof_yes g h w
  obtain ⟨a0, a1⟩ := h.area
  obtain ⟨_, ⟨h3, h4⟩, ⟨h5, h6⟩, _⟩ := h
  have hf := field25
  go_enter Try.func7, Try.ntmps7
  go_wp2_with fail
  refine (H.out _).mono ?_
  rintro e w1 ⟨rfl, hb⟩
  have HB := Lib.hid (two_boxes hb)
  clear hb
  obtain ⟨c0, c1, c2, c3⟩ := HB.out.2.1
  go_wp2_with fail
  refine (H6.out _).mono ?_
  rintro e w2 ⟨rfl, hb⟩
  have HB2 := Lib.hid (two_on HB.out hb)
  clear hb
  obtain ⟨c0, c1, c2, c3⟩ := HB2.out.2.1
  have d0 := HB2.out.2.2.1.cell (i := 0) rfl
  have d1 := HB2.out.2.2.1.cell (i := 1) rfl
  have d2 := HB2.out.2.2.1.cell (i := 2) rfl
  have f0 := HB2.out.2.2.1.frozen 0
  have f1 := HB2.out.2.2.1.frozen 1
  have f2 := HB2.out.2.2.1.frozen 2
  go_wp2_with fail
  go_region
  go_wp2_with fail
  exact bodyPost_ret (results_blk rfl _ _ (w.heap.size + 1) [_, _, _] _ rfl (((HB2.out.2.2.1.set 0 _).set 1 _).set 2 _).drew Try.underlying28 rfl info28) rfl ⟨rfl, (((HB2.out.1.setCell (by simp) _).setCell (by simp) _).setCell (by simp) _).drew⟩
end Go.Proofs.Ytokenmidcpfneaa
