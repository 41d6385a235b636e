/- A clock made; the calls of a clock that is nil. -/
import Derived.Test.YtaemjglblfencaaGreatDoorKCb
namespace Go.Proofs.YtaemjglblfencaaGreatDoor
namespace Kl
set_option linter.unusedSimpArgs false
set_option linter.unusedVariables false
open Go.RowKit

theorem info90 : (Tryz.prog.info? 90).map (fun i => (i.zero, i.size, i.bytes)) = some (some (.agg #[.int .i64 0, .bool false, .bool false, .int .i64 0]), 4, 24) := by kernel_rfl
theorem made52 (n : Nat) : (madeCells #[.int .i64 0, .bool false, .bool false, .int .i64 0] (n * 4)).toList = (List.replicate n noFm).flatMap encC := by
  apply List.ext_getElem?
  intro j
  by_cases hj : j < n * 4
  · have h1 := flat_at encC_len (l := List.replicate n noFm) (i := j / 4) (j := j % 4) (f := noFm) (by rw [List.getElem?_replicate, if_pos (by omega)]) (by omega)
    rw [show j / 4 * 4 + j % 4 = j by omega] at h1
    rw [h1]
    unfold madeCells
    simp only [Array.toList_map, Array.toList_range, List.getElem?_map, List.getElem?_range hj, Option.map_some]
    have h2 : j % 4 = 0 ∨ j % 4 = 1 ∨ j % 4 = 2 ∨ j % 4 = 3 := by omega
    show some ((#[Value.int .i64 0, .bool false, .bool false, .int .i64 0] : Array Value)[j % 4]!) = _
    rcases h2 with e | e | e | e <;> rw [e] <;> rfl
  · rw [List.getElem?_eq_none (by simp [madeCells]; omega), List.getElem?_eq_none (by rw [flat_len encC_len, List.length_replicate]; omega)]
theorem make52 (n : Nat) (hn : n ≤ 1000) (w : World) : (Instr.makeSlice 91 (.int .i64 (n : Int)) (.int .i64 (n : Int))).run Tryz.prog w = .ok (.slice (some ⟨w.heap.size, 0, none⟩) n n) (w.alloc (.cells (madeCells #[.int .i64 0, .bool false, .bool false, .int .i64 0] (n * 4)) 90)) := by
  obtain ⟨i, hi, hz, hs, hb⟩ : ∃ i, Tryz.prog.info? 90 = some i ∧ i.zero = some (.agg #[.int .i64 0, .bool false, .bool false, .int .i64 0]) ∧ i.size = 4 ∧ i.bytes = 24 := by
    have := info90
    cases hq : Tryz.prog.info? 90 with
    | none => simp [hq] at this
    | some i => simp [hq] at this; exact ⟨i, rfl, this⟩
  have := run_makeSlice (P := Tryz.prog) w 91 90 i _ Tryz.underlying91 hi hz .i64 .i64 n n (by omega) (Int.le_refl _) (by rw [hs]; omega) (by rw [hb]; omega) (by omega)
  rw [hs] at this
  exact this
set_option maxRecDepth 100000 in
theorem new_no (w : World) (n : Int) (hn : n < 1 ∨ 16 < n) : Calls Tryz.prog 31 #[.int .i64 n] w fun e w' => e = .returned (.tuple #[.pointer none, .int .i64 1]) ∧ w = w' := by
  by_cases h1 : n < 1
  · have d1 : decide (n < 1) = true := decide_eq_true h1
    clear hn
    go_enter Tryz.func31, Tryz.ntmps31
    go_wp2_with fail
    go_ret2
    exact ⟨rfl, rfl⟩
  · have d1 : decide (n < 1) = false := decide_eq_false h1
    have d2 : decide (16 < n) = true := decide_eq_true (by omega)
    clear hn
    go_enter Tryz.func31, Tryz.ntmps31
    go_wp2_with fail
    go_ret2
    exact ⟨rfl, rfl⟩
set_option maxRecDepth 100000 in
theorem new_yes (w : World) (n : Nat) (h1 : 1 ≤ n) (h2 : n ≤ 16) : Calls Tryz.prog 31 #[.int .i64 n] w fun e w' => ∃ b r, e = .returned (.tuple #[.pointer (some ⟨b, 0, none⟩), .int .i64 0]) ∧ At encC w' b r n [] (newCk n) ∧ Below w.heap.size w w' ∧ w.heap.size ≤ b ∧ w.heap.size ≤ r := by
  have d1 : decide ((n : Int) < 1) = false := decide_eq_false (by omega)
  have d2 : decide (16 < (n : Int)) = false := decide_eq_false (by omega)
  have hm := make52 n (by omega)
  have HM := Lib.hid (made52 n)
  generalize madeCells #[Value.int .i64 0, .bool false, .bool false, .int .i64 0] (n * 4) = cs at *
  go_enter Tryz.func31, Tryz.ntmps31
  go_wp2_with fail
  go_ret2
  refine ⟨w.heap.size + 1, w.heap.size, rfl, ⟨Blk.newAt _ _ _ (by simp) (by simp [newCk]), ?_, by omega⟩, two_below _ _ _, by omega, Nat.le_refl _⟩
  have h3 := (Blk.new w cs 90).alloc (.cells #[.slice (some ⟨w.heap.size, 0, none⟩) n n, .int .i64 0] 93)
  rw [HM.out] at h3
  rw [List.append_nil]
  exact h3
set_option maxRecDepth 100000 in
theorem count_nil (w : World) : Calls Tryz.prog 57 #[.pointer none] w fun e w' => e = .returned (.int .i64 0) ∧ w = w' := by
  go_enter Tryz.func57, Tryz.ntmps57
  go_wp2_with fail
  go_ret
  exact ⟨rfl, rfl⟩
set_option maxRecDepth 100000 in
theorem what_nil (w : World) (i : Int) : Calls Tryz.prog 46 #[.pointer none, .int .i64 i] w fun e w' => e = .returned (.agg #[.bool false, .bool false, .bool false]) ∧ Below w.heap.size w w' := by
  have HB := Lib.hid (two_below w (.cells #[.bool false, .bool false, .bool false] 87) (.cells #[.bool false, .bool false, .bool false] 87))
  by_cases h0 : i < 0
  · have d0 : decide (i < 0) = true := decide_eq_true h0
    go_enter Tryz.func46, Tryz.ntmps46
    go_wp2_with fail
    refine bodyPost_ret (results_blk rfl _ _ w.heap.size [_, _, _] _ rfl ((Blk.newAt _ _ _ rfl rfl).alloc _) Tryz.underlying87 rfl info87) rfl ⟨rfl, HB.out⟩
  · have d0 : decide (i < 0) = false := decide_eq_false h0
    have d1 : decide (0 ≤ i) = true := decide_eq_true (by omega)
    go_enter Tryz.func46, Tryz.ntmps46
    go_wp2_with fail
    refine (count_nil _).mono ?_
    rintro e w' ⟨rfl, rfl⟩
    go_wp2_with fail
    refine bodyPost_ret (results_blk rfl _ _ w.heap.size [_, _, _] _ rfl ((Blk.newAt _ _ _ rfl rfl).alloc _) Tryz.underlying87 rfl info87) rfl ⟨rfl, HB.out⟩
set_option maxRecDepth 100000 in
theorem may_nil (w : World) (i : Int) : Calls Tryz.prog 59 #[.pointer none, .int .i64 i] w fun e w' => e = .returned (.bool false) ∧ Below w.heap.size w w' := by
  go_enter Tryz.func59, Tryz.ntmps59
  go_wp2_with fail
  refine (what_nil _ _).mono ?_
  rintro e w1 ⟨rfl, hb⟩
  have HB := Lib.hid (stay hb (alloc_below w1 (.cells #[.bool false, .bool false, .bool false] 87)))
  clear hb
  go_wp2_with fail
  go_ret
  exact ⟨rfl, HB.out⟩
set_option maxRecDepth 100000 in
theorem find_nil (w : World) (i : Int) : Calls Tryz.prog 42 #[.pointer none, .int .i64 i] w fun e w' => e = .returned (.tuple #[.int .i64 0, .bool false]) ∧ Below w.heap.size w w' := by
  have flk := field87k
  have flp := field87p
  go_enter Tryz.func42, Tryz.ntmps42
  go_wp2_with fail
  refine (count_nil _).mono ?_
  rintro e w' ⟨rfl, rfl⟩
  go_wp2_with fail
  go_loopg [11] 0 (fun q i wr => i = .int .i64 0 ∧ w = wr)
  case atStart => exact ⟨rfl, rfl⟩
  case round =>
    obtain ⟨rfl, rfl⟩ := hrel
    go_wp2_with fail
    go_ret2
    exact ⟨rfl, Below.refl _ _⟩
set_option maxRecDepth 100000 in
theorem key_nil (w : World) (i : Int) : Calls Tryz.prog 58 #[.pointer none, .int .i64 i] w fun e w' => e = .returned (.tuple #[.int .i64 0, .bool false]) ∧ Below w.heap.size w w' := by
  have flk := field87k
  have flp := field87p
  go_enter Tryz.func58, Tryz.ntmps58
  go_wp2_with fail
  refine (what_nil _ _).mono ?_
  rintro e w1 ⟨rfl, hb⟩
  have HB := Lib.hid hb
  clear hb
  go_wp2_with fail
  go_ret2
  exact ⟨rfl, HB.out⟩
set_option maxRecDepth 100000 in
theorem touch_nil (w : World) (i : Int) : Calls Tryz.prog 39 #[.pointer none, .int .i64 i] w fun e w' => e = .returned (.tuple #[]) ∧ Below w.heap.size w w' := by
  have flk := field87k
  have flp := field87p
  go_enter Tryz.func39, Tryz.ntmps39
  go_wp2_with fail
  refine (what_nil _ _).mono ?_
  rintro e w1 ⟨rfl, hb⟩
  have HB := Lib.hid hb
  clear hb
  go_wp2_with fail
  first | refine bodyPost_end (results_none rfl _ _ _) rfl ?_ | refine bodyPost_ret (results_none rfl _ _ _) rfl ?_
  exact ⟨rfl, HB.out⟩
set_option maxRecDepth 100000 in
theorem put_nil (w : World) (i j : Int) : Calls Tryz.prog 53 #[.pointer none, .int .i64 i, .int .i64 j] w fun e w' => e = .returned (.bool false) ∧ Below w.heap.size w w' := by
  have flk := field87k
  have flp := field87p
  by_cases h0 : j < 0
  · have d0 : decide (j < 0) = true := decide_eq_true h0
    go_enter Tryz.func53, Tryz.ntmps53
    go_wp2_with fail
    go_ret
    exact ⟨rfl, Below.refl _ _⟩
  · have d0 : decide (j < 0) = false := decide_eq_false h0
    go_enter Tryz.func53, Tryz.ntmps53
    go_wp2_with fail
    refine (may_nil _ _).mono ?_
    rintro e w1 ⟨rfl, hb⟩
    have HB := Lib.hid hb
    clear hb
    go_wp2_with fail
    go_ret
    exact ⟨rfl, HB.out⟩
set_option maxRecDepth 100000 in
theorem drop_nil (w : World) (i : Int) : Calls Tryz.prog 43 #[.pointer none, .int .i64 i] w fun e w' => e = .returned (.bool false) ∧ Below w.heap.size w w' := by
  have flk := field87k
  have flp := field87p
  go_enter Tryz.func43, Tryz.ntmps43
  go_wp2_with fail
  refine (may_nil _ _).mono ?_
  rintro e w1 ⟨rfl, hb⟩
  have HB := Lib.hid hb
  clear hb
  go_wp2_with fail
  go_ret
  exact ⟨rfl, HB.out⟩
set_option maxRecDepth 100000 in
theorem pin_nil (w : World) (i : Int) : Calls Tryz.prog 20 #[.pointer none, .int .i64 i] w fun e w' => e = .returned (.bool false) ∧ Below w.heap.size w w' := by
  have flk := field87k
  have flp := field87p
  go_enter Tryz.func20, Tryz.ntmps20
  go_wp2_with fail
  refine (what_nil _ _).mono ?_
  rintro e w1 ⟨rfl, hb⟩
  have HB := Lib.hid hb
  clear hb
  go_wp2_with fail
  go_ret
  exact ⟨rfl, HB.out⟩
set_option maxRecDepth 100000 in
theorem unpin_nil (w : World) (i : Int) : Calls Tryz.prog 22 #[.pointer none, .int .i64 i] w fun e w' => e = .returned (.bool false) ∧ Below w.heap.size w w' := by
  have flk := field87k
  have flp := field87p
  go_enter Tryz.func22, Tryz.ntmps22
  go_wp2_with fail
  refine (what_nil _ _).mono ?_
  rintro e w1 ⟨rfl, hb⟩
  have HB := Lib.hid hb
  clear hb
  go_wp2_with fail
  go_ret
  exact ⟨rfl, HB.out⟩
end Kl
end Go.Proofs.YtaemjglblfencaaGreatDoor
