/- The statements' own Good of a region. -/
import Derived.Test.YtlleafhfogfngaaDoorFrame
namespace Go.Proofs.YtlleafhfogfngaaDoor
set_option linter.unusedSimpArgs false
set_option linter.unusedVariables false
open Go.RowKit

theorem field60a (a b c : Int) (w : World) : (Instr.field 60 (.agg #[.int .i64 a, .int .i64 b, .int .i64 c]) 0).run Tryd.prog w = .ok (.int .i64 a) w := by kernel_rfl
theorem field63c (a b : Int) (c : Bool) (w : World) : (Instr.field 63 (.agg #[.int .i64 a, .int .i64 b, .bool c]) 2).run Tryd.prog w = .ok (.bool c) w := by kernel_rfl
theorem good_geom {r : Rg} (h : ¬ r.g.Ok) : r.good = false := by simp [Rg.good, h]
theorem good_seg {r : Rg} (h : ¬ (0 ≤ r.seg ∧ r.seg ≤ r.s - 1)) : r.good = false := by unfold Rg.good; rw [decide_eq_false h]; simp
theorem good_off {r : Rg} (h : ¬ (0 ≤ r.off ∧ r.off ≤ r.l)) : r.good = false := by unfold Rg.good; rw [decide_eq_false h]; simp
theorem good_rest {r : Rg} (hg : r.g.Ok) (hs : 0 ≤ r.seg ∧ r.seg ≤ r.s - 1) (ho : 0 ≤ r.off ∧ r.off ≤ r.l) : r.good = rootsOk r.g r.rs := by simp [Rg.good, hg, hs, ho]
theorem rwhere_out {g : Gm} (h : g.Ok) {n : Int} (hn : ¬ (4 ≤ n ∧ n ≤ 4 + g.s * g.l - 1)) (w : World) : Calls Tryd.prog 23 #[g.v, .int .i64 n] w fun e w' => e = .returned (.agg #[.int .i64 0, .int .i64 0, .bool false]) ∧ Below w.heap.size w w' := by
  by_cases h4 : 4 ≤ n
  · exact rwhere_high g h n h4 (by omega) w
  · exact rwhere_low g h n (by omega) w

set_option maxHeartbeats 2000000 in
set_option maxRecDepth 100000 in
theorem rregion_geom (r : Rg) (hw : r.Wf) (hg : ¬ r.g.Ok) (w : World) : Calls Tryd.prog 12 #[.agg r.cells.toArray] w fun e w' => e = .returned (.bool false) ∧ Below w.heap.size w w' := by
  have HWF := Lib.hid hw
  have HBL : Hid (Below w.heap.size w w) := Lib.hid (Below.refl _ _)
  clear hw
  have HOK := Lib.hid hg
  clear hg
  go_enter Tryd.func12, Tryd.ntmps12
  go_upto_region 0 with fail
  refine wp_region_lit ?_
  refine box_g rfl rfl ?_
  intro w1 hA hb hl
  try simp only [Act.put, List.setIfInBounds_toArray, List.set_cons_succ, List.set_cons_zero]
  clear hl
  have HG2 : Hid (w.heap.size ≤ w.heap.size) := Lib.hid HBL.out.size
  have F3 := Lib.hid (HBL.out.trans (hb.mono HBL.out.size))
  clear HBL
  have F4 : Hid (Blk w1 w.heap.size r.cells) := Lib.hid hA
  clear hA hb
  refine takeL (.bool false) rfl (by go_simp) ?_
  try simp only [Act.put, List.setIfInBounds_toArray, List.set_cons_succ, List.set_cons_zero]
  refine wpList_nil ?_
  have c1 := F4.out.cell (i := 1) (v := .int .i64 r.p) rfl
  have c2 := F4.out.cell (i := 2) (v := .int .i64 r.s) rfl
  have c3 := F4.out.cell (i := 3) (v := .int .i64 r.l) rfl
  have c4 := F4.out.cell (i := 4) (v := .int .i64 r.f) rfl
  have c5 := F4.out.cell (i := 5) (v := .int .i64 r.seg) rfl
  have c6 := F4.out.cell (i := 6) (v := .int .i64 r.off) rfl
  go_wp2_with fail
  refine (rgood_no r.g HOK.out _).mono ?_
  rintro e w2 ⟨rfl, hb⟩
  clear c1 c2 c3 c4 c5 c6
  have F5 := Lib.hid (F3.out.trans (hb.mono F3.out.size))
  have F6 := Lib.hid (F4.out.below hb F4.out.lt)
  clear F3 F4
  clear hb
  have c1 := F6.out.cell (i := 1) (v := .int .i64 r.p) rfl
  have c2 := F6.out.cell (i := 2) (v := .int .i64 r.s) rfl
  have c3 := F6.out.cell (i := 3) (v := .int .i64 r.l) rfl
  have c4 := F6.out.cell (i := 4) (v := .int .i64 r.f) rfl
  have c5 := F6.out.cell (i := 5) (v := .int .i64 r.seg) rfl
  have c6 := F6.out.cell (i := 6) (v := .int .i64 r.off) rfl
  go_wp2_with fail
  go_ret
  exact ⟨rfl, F5.out⟩
set_option maxHeartbeats 2000000 in
set_option maxRecDepth 100000 in
theorem rregion_segl (r : Rg) (hw : r.Wf) (hg : r.g.Ok) (h1 : r.seg < 0) (w : World) : Calls Tryd.prog 12 #[.agg r.cells.toArray] w fun e w' => e = .returned (.bool false) ∧ Below w.heap.size w w' := by
  have HWF := Lib.hid hw
  have HBL : Hid (Below w.heap.size w w) := Lib.hid (Below.refl _ _)
  clear hw
  have HOK := Lib.hid hg
  go_enter Tryd.func12, Tryd.ntmps12
  go_upto_region 0 with fail
  refine wp_region_lit ?_
  refine box_g rfl rfl ?_
  intro w1 hA hb hl
  try simp only [Act.put, List.setIfInBounds_toArray, List.set_cons_succ, List.set_cons_zero]
  clear hl
  have HG2 : Hid (w.heap.size ≤ w.heap.size) := Lib.hid HBL.out.size
  have F3 := Lib.hid (HBL.out.trans (hb.mono HBL.out.size))
  clear HBL
  have F4 : Hid (Blk w1 w.heap.size r.cells) := Lib.hid hA
  clear hA hb
  refine takeL (.bool false) rfl (by go_simp) ?_
  try simp only [Act.put, List.setIfInBounds_toArray, List.set_cons_succ, List.set_cons_zero]
  refine wpList_nil ?_
  have c1 := F4.out.cell (i := 1) (v := .int .i64 r.p) rfl
  have c2 := F4.out.cell (i := 2) (v := .int .i64 r.s) rfl
  have c3 := F4.out.cell (i := 3) (v := .int .i64 r.l) rfl
  have c4 := F4.out.cell (i := 4) (v := .int .i64 r.f) rfl
  have c5 := F4.out.cell (i := 5) (v := .int .i64 r.seg) rfl
  have c6 := F4.out.cell (i := 6) (v := .int .i64 r.off) rfl
  go_wp2_with fail
  refine (rgood_yes r.g HOK.out _).mono ?_
  rintro e w2 ⟨rfl, hb⟩
  clear c1 c2 c3 c4 c5 c6
  have F5 := Lib.hid (F3.out.trans (hb.mono F3.out.size))
  have F6 := Lib.hid (F4.out.below hb F4.out.lt)
  clear F3 F4
  clear hb
  have c1 := F6.out.cell (i := 1) (v := .int .i64 r.p) rfl
  have c2 := F6.out.cell (i := 2) (v := .int .i64 r.s) rfl
  have c3 := F6.out.cell (i := 3) (v := .int .i64 r.l) rfl
  have c4 := F6.out.cell (i := 4) (v := .int .i64 r.f) rfl
  have c5 := F6.out.cell (i := 5) (v := .int .i64 r.seg) rfl
  have c6 := F6.out.cell (i := 6) (v := .int .i64 r.off) rfl
  go_wp2_with fail
  go_ret
  exact ⟨rfl, F5.out⟩
set_option maxHeartbeats 2000000 in
set_option maxRecDepth 100000 in
theorem rregion_segh (r : Rg) (hw : r.Wf) (hg : r.g.Ok) (h0 : 0 ≤ r.seg) (h1 : r.s ≤ r.seg) (w : World) : Calls Tryd.prog 12 #[.agg r.cells.toArray] w fun e w' => e = .returned (.bool false) ∧ Below w.heap.size w w' := by
  have HWF := Lib.hid hw
  have HBL : Hid (Below w.heap.size w w) := Lib.hid (Below.refl _ _)
  clear hw
  have HOK := Lib.hid hg
  go_enter Tryd.func12, Tryd.ntmps12
  go_upto_region 0 with fail
  refine wp_region_lit ?_
  refine box_g rfl rfl ?_
  intro w1 hA hb hl
  try simp only [Act.put, List.setIfInBounds_toArray, List.set_cons_succ, List.set_cons_zero]
  clear hl
  have HG2 : Hid (w.heap.size ≤ w.heap.size) := Lib.hid HBL.out.size
  have F3 := Lib.hid (HBL.out.trans (hb.mono HBL.out.size))
  clear HBL
  have F4 : Hid (Blk w1 w.heap.size r.cells) := Lib.hid hA
  clear hA hb
  refine takeL (.bool false) rfl (by go_simp) ?_
  try simp only [Act.put, List.setIfInBounds_toArray, List.set_cons_succ, List.set_cons_zero]
  refine wpList_nil ?_
  have c1 := F4.out.cell (i := 1) (v := .int .i64 r.p) rfl
  have c2 := F4.out.cell (i := 2) (v := .int .i64 r.s) rfl
  have c3 := F4.out.cell (i := 3) (v := .int .i64 r.l) rfl
  have c4 := F4.out.cell (i := 4) (v := .int .i64 r.f) rfl
  have c5 := F4.out.cell (i := 5) (v := .int .i64 r.seg) rfl
  have c6 := F4.out.cell (i := 6) (v := .int .i64 r.off) rfl
  go_wp2_with fail
  refine (rgood_yes r.g HOK.out _).mono ?_
  rintro e w2 ⟨rfl, hb⟩
  clear c1 c2 c3 c4 c5 c6
  have F5 := Lib.hid (F3.out.trans (hb.mono F3.out.size))
  have F6 := Lib.hid (F4.out.below hb F4.out.lt)
  clear F3 F4
  clear hb
  have c1 := F6.out.cell (i := 1) (v := .int .i64 r.p) rfl
  have c2 := F6.out.cell (i := 2) (v := .int .i64 r.s) rfl
  have c3 := F6.out.cell (i := 3) (v := .int .i64 r.l) rfl
  have c4 := F6.out.cell (i := 4) (v := .int .i64 r.f) rfl
  have c5 := F6.out.cell (i := 5) (v := .int .i64 r.seg) rfl
  have c6 := F6.out.cell (i := 6) (v := .int .i64 r.off) rfl
  go_wp2_with fail
  go_ret
  exact ⟨rfl, F5.out⟩
set_option maxHeartbeats 2000000 in
set_option maxRecDepth 100000 in
theorem rregion_offl (r : Rg) (hw : r.Wf) (hg : r.g.Ok) (h0 : 0 ≤ r.seg) (h1 : r.seg < r.s) (h2 : r.off < 0) (w : World) : Calls Tryd.prog 12 #[.agg r.cells.toArray] w fun e w' => e = .returned (.bool false) ∧ Below w.heap.size w w' := by
  have HWF := Lib.hid hw
  have HBL : Hid (Below w.heap.size w w) := Lib.hid (Below.refl _ _)
  clear hw
  have HOK := Lib.hid hg
  go_enter Tryd.func12, Tryd.ntmps12
  go_upto_region 0 with fail
  refine wp_region_lit ?_
  refine box_g rfl rfl ?_
  intro w1 hA hb hl
  try simp only [Act.put, List.setIfInBounds_toArray, List.set_cons_succ, List.set_cons_zero]
  clear hl
  have HG2 : Hid (w.heap.size ≤ w.heap.size) := Lib.hid HBL.out.size
  have F3 := Lib.hid (HBL.out.trans (hb.mono HBL.out.size))
  clear HBL
  have F4 : Hid (Blk w1 w.heap.size r.cells) := Lib.hid hA
  clear hA hb
  refine takeL (.bool false) rfl (by go_simp) ?_
  try simp only [Act.put, List.setIfInBounds_toArray, List.set_cons_succ, List.set_cons_zero]
  refine wpList_nil ?_
  have c1 := F4.out.cell (i := 1) (v := .int .i64 r.p) rfl
  have c2 := F4.out.cell (i := 2) (v := .int .i64 r.s) rfl
  have c3 := F4.out.cell (i := 3) (v := .int .i64 r.l) rfl
  have c4 := F4.out.cell (i := 4) (v := .int .i64 r.f) rfl
  have c5 := F4.out.cell (i := 5) (v := .int .i64 r.seg) rfl
  have c6 := F4.out.cell (i := 6) (v := .int .i64 r.off) rfl
  go_wp2_with fail
  refine (rgood_yes r.g HOK.out _).mono ?_
  rintro e w2 ⟨rfl, hb⟩
  clear c1 c2 c3 c4 c5 c6
  have F5 := Lib.hid (F3.out.trans (hb.mono F3.out.size))
  have F6 := Lib.hid (F4.out.below hb F4.out.lt)
  clear F3 F4
  clear hb
  have c1 := F6.out.cell (i := 1) (v := .int .i64 r.p) rfl
  have c2 := F6.out.cell (i := 2) (v := .int .i64 r.s) rfl
  have c3 := F6.out.cell (i := 3) (v := .int .i64 r.l) rfl
  have c4 := F6.out.cell (i := 4) (v := .int .i64 r.f) rfl
  have c5 := F6.out.cell (i := 5) (v := .int .i64 r.seg) rfl
  have c6 := F6.out.cell (i := 6) (v := .int .i64 r.off) rfl
  go_wp2_with fail
  go_ret
  exact ⟨rfl, F5.out⟩
set_option maxHeartbeats 2000000 in
set_option maxRecDepth 100000 in
theorem rregion_offh (r : Rg) (hw : r.Wf) (hg : r.g.Ok) (h0 : 0 ≤ r.seg) (h1 : r.seg < r.s) (h2 : 0 ≤ r.off) (h3 : r.l < r.off) (w : World) : Calls Tryd.prog 12 #[.agg r.cells.toArray] w fun e w' => e = .returned (.bool false) ∧ Below w.heap.size w w' := by
  have HWF := Lib.hid hw
  have HBL : Hid (Below w.heap.size w w) := Lib.hid (Below.refl _ _)
  clear hw
  have HOK := Lib.hid hg
  go_enter Tryd.func12, Tryd.ntmps12
  go_upto_region 0 with fail
  refine wp_region_lit ?_
  refine box_g rfl rfl ?_
  intro w1 hA hb hl
  try simp only [Act.put, List.setIfInBounds_toArray, List.set_cons_succ, List.set_cons_zero]
  clear hl
  have HG2 : Hid (w.heap.size ≤ w.heap.size) := Lib.hid HBL.out.size
  have F3 := Lib.hid (HBL.out.trans (hb.mono HBL.out.size))
  clear HBL
  have F4 : Hid (Blk w1 w.heap.size r.cells) := Lib.hid hA
  clear hA hb
  refine takeL (.bool false) rfl (by go_simp) ?_
  try simp only [Act.put, List.setIfInBounds_toArray, List.set_cons_succ, List.set_cons_zero]
  refine wpList_nil ?_
  have c1 := F4.out.cell (i := 1) (v := .int .i64 r.p) rfl
  have c2 := F4.out.cell (i := 2) (v := .int .i64 r.s) rfl
  have c3 := F4.out.cell (i := 3) (v := .int .i64 r.l) rfl
  have c4 := F4.out.cell (i := 4) (v := .int .i64 r.f) rfl
  have c5 := F4.out.cell (i := 5) (v := .int .i64 r.seg) rfl
  have c6 := F4.out.cell (i := 6) (v := .int .i64 r.off) rfl
  go_wp2_with fail
  refine (rgood_yes r.g HOK.out _).mono ?_
  rintro e w2 ⟨rfl, hb⟩
  clear c1 c2 c3 c4 c5 c6
  have F5 := Lib.hid (F3.out.trans (hb.mono F3.out.size))
  have F6 := Lib.hid (F4.out.below hb F4.out.lt)
  clear F3 F4
  clear hb
  have c1 := F6.out.cell (i := 1) (v := .int .i64 r.p) rfl
  have c2 := F6.out.cell (i := 2) (v := .int .i64 r.s) rfl
  have c3 := F6.out.cell (i := 3) (v := .int .i64 r.l) rfl
  have c4 := F6.out.cell (i := 4) (v := .int .i64 r.f) rfl
  have c5 := F6.out.cell (i := 5) (v := .int .i64 r.seg) rfl
  have c6 := F6.out.cell (i := 6) (v := .int .i64 r.off) rfl
  go_wp2_with fail
  go_ret
  exact ⟨rfl, F5.out⟩
set_option maxHeartbeats 2000000 in
set_option maxRecDepth 100000 in
theorem rregion_roots (r : Rg) (hw : r.Wf) (hg : r.g.Ok) (h0 : 0 ≤ r.seg) (h1 : r.seg < r.s) (h2 : 0 ≤ r.off) (h3 : r.off ≤ r.l) (w : World) : Calls Tryd.prog 12 #[.agg r.cells.toArray] w fun e w' => e = .returned (.bool (rootsOk r.g r.rs)) ∧ Below w.heap.size w w' := by
  have HWF := Lib.hid hw
  have HBL : Hid (Below w.heap.size w w) := Lib.hid (Below.refl _ _)
  clear hw
  have HOK := Lib.hid hg
  go_enter Tryd.func12, Tryd.ntmps12
  go_upto_region 0 with fail
  refine wp_region_lit ?_
  refine box_g rfl rfl ?_
  intro w1 hA hb hl
  try simp only [Act.put, List.setIfInBounds_toArray, List.set_cons_succ, List.set_cons_zero]
  clear hl
  have HG2 : Hid (w.heap.size ≤ w.heap.size) := Lib.hid HBL.out.size
  have F3 := Lib.hid (HBL.out.trans (hb.mono HBL.out.size))
  clear HBL
  have F4 : Hid (Blk w1 w.heap.size r.cells) := Lib.hid hA
  clear hA hb
  refine takeL (.bool false) rfl (by go_simp) ?_
  try simp only [Act.put, List.setIfInBounds_toArray, List.set_cons_succ, List.set_cons_zero]
  refine wpList_nil ?_
  have c1 := F4.out.cell (i := 1) (v := .int .i64 r.p) rfl
  have c2 := F4.out.cell (i := 2) (v := .int .i64 r.s) rfl
  have c3 := F4.out.cell (i := 3) (v := .int .i64 r.l) rfl
  have c4 := F4.out.cell (i := 4) (v := .int .i64 r.f) rfl
  have c5 := F4.out.cell (i := 5) (v := .int .i64 r.seg) rfl
  have c6 := F4.out.cell (i := 6) (v := .int .i64 r.off) rfl
  go_wp2_with fail
  refine (rgood_yes r.g HOK.out _).mono ?_
  rintro e w2 ⟨rfl, hb⟩
  clear c1 c2 c3 c4 c5 c6
  have F5 := Lib.hid (F3.out.trans (hb.mono F3.out.size))
  have F6 := Lib.hid (F4.out.below hb F4.out.lt)
  clear F3 F4
  clear hb
  have c1 := F6.out.cell (i := 1) (v := .int .i64 r.p) rfl
  have c2 := F6.out.cell (i := 2) (v := .int .i64 r.s) rfl
  have c3 := F6.out.cell (i := 3) (v := .int .i64 r.l) rfl
  have c4 := F6.out.cell (i := 4) (v := .int .i64 r.f) rfl
  have c5 := F6.out.cell (i := 5) (v := .int .i64 r.seg) rfl
  have c6 := F6.out.cell (i := 6) (v := .int .i64 r.off) rfl
  go_wp2_with fail
  go_loopg [3] 8 (fun q i wr => ∃ k : Nat, 8 - k ≤ q ∧ k ≤ 8 ∧ i = .int .i64 k ∧ (∀ j, j < k → okRoot r.g j (r.rs.getD j 0) = true) ∧ Blk wr w.heap.size r.cells ∧ Below w.heap.size w wr)
  case atStart => exact ⟨0, by omega, by omega, rfl, fun j hj => by omega, F6.out, F5.out⟩
  case round =>
    obtain ⟨k, hq, hk, rfl, hall, hblk, hbel⟩ := hrel
    have HA := Lib.hid hall
    have FB := Lib.hid hblk
    have FL := Lib.hid hbel
    clear c1 c2 c3 c4 c5 c6 F6 F5 hall hblk hbel
    by_cases h8 : k < 8
    · obtain ⟨x, hx⟩ : ∃ x, r.rs[k]? = some x := ⟨_, List.getElem?_eq_getElem (by rw [HWF.out.len]; exact h8)⟩
      have HX := Lib.hid hx
      clear hx
      by_cases hc : x = 0
      · have HC := Lib.hid hc
        clear hc
        go_upto_region 6 with fail
        refine startH (fun wq => Below wr.heap.size wr wq) (by kernel_rfl) ?_
        refine takeH 0 (some 38) (.int .i64 k) rfl rfl (by kernel_rfl) (by kernel_rfl) (by kernel_rfl) (fun _ _ _ h => h) rfl (fun wq hS => by go_simp) (Below.refl _ _).drew ?_
        try simp only [Act.put, List.setIfInBounds_toArray, List.set_cons_succ, List.set_cons_zero]
        refine takeH 1 (some 39) (.pointer (some ⟨w.heap.size, 8, none⟩)) rfl rfl (by kernel_rfl) (by kernel_rfl) (by kernel_rfl) (fun _ _ _ h => h) rfl (fun wq hS => by go_simp) (Below.refl _ _).drew ?_
        try simp only [Act.put, List.setIfInBounds_toArray, List.set_cons_succ, List.set_cons_zero]
        refine takeH 2 (some 40) (.pointer (some ⟨w.heap.size, 8 + k, none⟩)) rfl rfl (by kernel_rfl) (by kernel_rfl) (by kernel_rfl) (fun _ _ _ h => h) rfl (fun wq hS => by go_simp <;> (intro _; omega)) (Below.refl _ _).drew ?_
        try simp only [Act.put, List.setIfInBounds_toArray, List.set_cons_succ, List.set_cons_zero]
        refine takeH 3 (some 41) (.int .i64 x) rfl rfl (by kernel_rfl) (by kernel_rfl) (by kernel_rfl) (fun _ _ _ h => h) rfl (fun wq hS => by have hq := rootCell (FB.out.below hS FB.out.lt) HX.out; go_simp) (Below.refl _ _).drew ?_
        try simp only [Act.put, List.setIfInBounds_toArray, List.set_cons_succ, List.set_cons_zero]
        refine takeH 4 (some 42) (.bool false) rfl rfl (by kernel_rfl) (by kernel_rfl) (by kernel_rfl) (fun _ _ _ h => h) rfl (fun wq hS => by go_simp <;> exact HC.out) (Below.refl _ _).drew ?_
        try simp only [Act.put, List.setIfInBounds_toArray, List.set_cons_succ, List.set_cons_zero]
        refine takeH 5 (some 43) (.bool false) rfl rfl (by kernel_rfl) (by kernel_rfl) (by kernel_rfl) (fun _ _ _ h => h) rfl (fun wq hS => by go_simp) (Below.refl _ _).drew ?_
        try simp only [Act.put, List.setIfInBounds_toArray, List.set_cons_succ, List.set_cons_zero]
        refine passH 6 (some 44) rfl rfl (by kernel_rfl) (by kernel_rfl) (by kernel_rfl) (fun _ _ _ h => h) rfl (Below.refl _ _).drew ?_
        try simp only [Act.put, List.setIfInBounds_toArray, List.set_cons_succ, List.set_cons_zero]
        refine passH 7 (some 45) rfl rfl (by kernel_rfl) (by kernel_rfl) (by kernel_rfl) (fun _ _ _ h => h) rfl (Below.refl _ _).drew ?_
        try simp only [Act.put, List.setIfInBounds_toArray, List.set_cons_succ, List.set_cons_zero]
        refine passH 8 (some 46) rfl rfl (by kernel_rfl) (by kernel_rfl) (by kernel_rfl) (fun _ _ _ h => h) rfl (Below.refl _ _).drew ?_
        try simp only [Act.put, List.setIfInBounds_toArray, List.set_cons_succ, List.set_cons_zero]
        refine passH 9 (some 47) rfl rfl (by kernel_rfl) (by kernel_rfl) (by kernel_rfl) (fun _ _ _ h => h) rfl (Below.refl _ _).drew ?_
        try simp only [Act.put, List.setIfInBounds_toArray, List.set_cons_succ, List.set_cons_zero]
        refine passH 10 (some 48) rfl rfl (by kernel_rfl) (by kernel_rfl) (by kernel_rfl) (fun _ _ _ h => h) rfl (Below.refl _ _).drew ?_
        try simp only [Act.put, List.setIfInBounds_toArray, List.set_cons_succ, List.set_cons_zero]
        refine passH 11 (some 49) rfl rfl (by kernel_rfl) (by kernel_rfl) (by kernel_rfl) (fun _ _ _ h => h) rfl (Below.refl _ _).drew ?_
        try simp only [Act.put, List.setIfInBounds_toArray, List.set_cons_succ, List.set_cons_zero]
        refine passH 12 (some 50) rfl rfl (by kernel_rfl) (by kernel_rfl) (by kernel_rfl) (fun _ _ _ h => h) rfl (Below.refl _ _).drew ?_
        try simp only [Act.put, List.setIfInBounds_toArray, List.set_cons_succ, List.set_cons_zero]
        refine passH 13 (some 51) rfl rfl (by kernel_rfl) (by kernel_rfl) (by kernel_rfl) (fun _ _ _ h => h) rfl (Below.refl _ _).drew ?_
        try simp only [Act.put, List.setIfInBounds_toArray, List.set_cons_succ, List.set_cons_zero]
        refine passH 14 (some 52) rfl rfl (by kernel_rfl) (by kernel_rfl) (by kernel_rfl) (fun _ _ _ h => h) rfl (Below.refl _ _).drew ?_
        try simp only [Act.put, List.setIfInBounds_toArray, List.set_cons_succ, List.set_cons_zero]
        refine passH 15 (some 53) rfl rfl (by kernel_rfl) (by kernel_rfl) (by kernel_rfl) (fun _ _ _ h => h) rfl (Below.refl _ _).drew ?_
        try simp only [Act.put, List.setIfInBounds_toArray, List.set_cons_succ, List.set_cons_zero]
        refine passH 16 (some 54) rfl rfl (by kernel_rfl) (by kernel_rfl) (by kernel_rfl) (fun _ _ _ h => h) rfl (Below.refl _ _).drew ?_
        try simp only [Act.put, List.setIfInBounds_toArray, List.set_cons_succ, List.set_cons_zero]
        refine passH 17 (some 55) rfl rfl (by kernel_rfl) (by kernel_rfl) (by kernel_rfl) (fun _ _ _ h => h) rfl (Below.refl _ _).drew ?_
        try simp only [Act.put, List.setIfInBounds_toArray, List.set_cons_succ, List.set_cons_zero]
        refine passH 18 (some 56) rfl rfl (by kernel_rfl) (by kernel_rfl) (by kernel_rfl) (fun _ _ _ h => h) rfl (Below.refl _ _).drew ?_
        try simp only [Act.put, List.setIfInBounds_toArray, List.set_cons_succ, List.set_cons_zero]
        refine passH 19 (some 57) rfl rfl (by kernel_rfl) (by kernel_rfl) (by kernel_rfl) (fun _ _ _ h => h) rfl (Below.refl _ _).drew ?_
        try simp only [Act.put, List.setIfInBounds_toArray, List.set_cons_succ, List.set_cons_zero]
        refine passH 20 (some 58) rfl rfl (by kernel_rfl) (by kernel_rfl) (by kernel_rfl) (fun _ _ _ h => h) rfl (Below.refl _ _).drew ?_
        try simp only [Act.put, List.setIfInBounds_toArray, List.set_cons_succ, List.set_cons_zero]
        refine passH 21 (some 59) rfl rfl (by kernel_rfl) (by kernel_rfl) (by kernel_rfl) (fun _ _ _ h => h) rfl (Below.refl _ _).drew ?_
        try simp only [Act.put, List.setIfInBounds_toArray, List.set_cons_succ, List.set_cons_zero]
        refine passH 22 (some 60) rfl rfl (by kernel_rfl) (by kernel_rfl) (by kernel_rfl) (fun _ _ _ h => h) rfl (Below.refl _ _).drew ?_
        try simp only [Act.put, List.setIfInBounds_toArray, List.set_cons_succ, List.set_cons_zero]
        refine takeH 23 (some 61) (.bool false) rfl rfl (by kernel_rfl) (by kernel_rfl) (by kernel_rfl) (fun _ _ _ h => h) rfl (fun wq hS => by go_simp) (Below.refl _ _).drew ?_
        try simp only [Act.put, List.setIfInBounds_toArray, List.set_cons_succ, List.set_cons_zero]
        refine wpAnyH_done (by kernel_rfl) ?_ _
        have hb : Below wr.heap.size wr wr.drew := (Below.refl _ _).drew
        generalize wr.drew = w101 at *
        have F102 := Lib.hid (FB.out.below hb FB.out.lt)
        have F103 := Lib.hid (FL.out.trans (hb.mono FL.out.size))
        clear FB FL
        clear hb
        go_wp2_with fail
        go_roundg (8 - (k + 1))
        case measure => omega
        case rel => exact ⟨k + 1, by omega, by omega, by go_num, fun j hj => by
            rcases (show j < k ∨ j = k by omega) with h | rfl
            · exact HA.out j h
            · rw [getD_of HX.out, HC.out]; rfl, F102.out, F103.out⟩
      · have HC : Hid (x ≠ 0) := Lib.hid hc
        clear hc
        by_cases hm : r.g.maps ≤ (k : Int)
        · have HM := Lib.hid hm
          clear hm
          go_upto_region 6 with fail
          refine startH (fun wq => Below wr.heap.size wr wq) (by kernel_rfl) ?_
          refine takeH 0 (some 38) (.int .i64 k) rfl rfl (by kernel_rfl) (by kernel_rfl) (by kernel_rfl) (fun _ _ _ h => h) rfl (fun wq hS => by go_simp) (Below.refl _ _).drew ?_
          try simp only [Act.put, List.setIfInBounds_toArray, List.set_cons_succ, List.set_cons_zero]
          refine takeH 1 (some 39) (.pointer (some ⟨w.heap.size, 8, none⟩)) rfl rfl (by kernel_rfl) (by kernel_rfl) (by kernel_rfl) (fun _ _ _ h => h) rfl (fun wq hS => by go_simp) (Below.refl _ _).drew ?_
          try simp only [Act.put, List.setIfInBounds_toArray, List.set_cons_succ, List.set_cons_zero]
          refine takeH 2 (some 40) (.pointer (some ⟨w.heap.size, 8 + k, none⟩)) rfl rfl (by kernel_rfl) (by kernel_rfl) (by kernel_rfl) (fun _ _ _ h => h) rfl (fun wq hS => by go_simp <;> (intro _; omega)) (Below.refl _ _).drew ?_
          try simp only [Act.put, List.setIfInBounds_toArray, List.set_cons_succ, List.set_cons_zero]
          refine takeH 3 (some 41) (.int .i64 x) rfl rfl (by kernel_rfl) (by kernel_rfl) (by kernel_rfl) (fun _ _ _ h => h) rfl (fun wq hS => by have hq := rootCell (FB.out.below hS FB.out.lt) HX.out; go_simp) (Below.refl _ _).drew ?_
          try simp only [Act.put, List.setIfInBounds_toArray, List.set_cons_succ, List.set_cons_zero]
          refine takeH 4 (some 42) (.bool true) rfl rfl (by kernel_rfl) (by kernel_rfl) (by kernel_rfl) (fun _ _ _ h => h) rfl (fun wq hS => by go_simp <;> exact HC.out) (Below.refl _ _).drew ?_
          try simp only [Act.put, List.setIfInBounds_toArray, List.set_cons_succ, List.set_cons_zero]
          refine takeH 5 (some 43) (.bool true) rfl rfl (by kernel_rfl) (by kernel_rfl) (by kernel_rfl) (fun _ _ _ h => h) rfl (fun wq hS => by go_simp) (Below.refl _ _).drew ?_
          try simp only [Act.put, List.setIfInBounds_toArray, List.set_cons_succ, List.set_cons_zero]
          refine takeH 6 (some 44) (.int .i64 k) rfl rfl (by kernel_rfl) (by kernel_rfl) (by kernel_rfl) (fun _ _ _ h => h) rfl (fun wq hS => by go_simp) (Below.refl _ _).drew ?_
          try simp only [Act.put, List.setIfInBounds_toArray, List.set_cons_succ, List.set_cons_zero]
          refine takeH 7 (some 45) (.pointer (some ⟨w.heap.size, 1, none⟩)) rfl rfl (by kernel_rfl) (by kernel_rfl) (by kernel_rfl) (fun _ _ _ h => h) rfl (fun wq hS => by go_simp) (Below.refl _ _).drew ?_
          try simp only [Act.put, List.setIfInBounds_toArray, List.set_cons_succ, List.set_cons_zero]
          refine takeH 8 (some 46) (.agg #[.int .i64 r.p, .int .i64 r.s, .int .i64 r.l, .int .i64 r.f]) rfl rfl (by kernel_rfl) (by kernel_rfl) (by kernel_rfl) (fun _ _ _ h => h) rfl (fun wq hS => by exact exec_load_at wq _ _ 24 _ rfl w.heap.size 1 rfl (#[.int .i64 r.p, .int .i64 r.s, .int .i64 r.l, .int .i64 r.f]) _ Tryd.underlying24 rfl info24 (Rg.at24 (FB.out.below hS FB.out.lt))) (Below.refl _ _).drew ?_
          try simp only [Act.put, List.setIfInBounds_toArray, List.set_cons_succ, List.set_cons_zero]
          refine oneH 9 (by kernel_rfl) rfl rfl fun K hK => ?_
          go_simp
          refine (rof_yes r.g HOK.out _).mono ?_
          rintro e w101 ⟨rfl, hb⟩
          have HS102 := Lib.hid (stay (Below.refl _ _).drew hb)
          clear hb
          refine hK _ _ HS102.out ?_
          clear hK K
          try simp only [Act.put, List.setIfInBounds_toArray, List.set_cons_succ, List.set_cons_zero]
          refine takeH 10 (some 48) (.int .i64 r.g.maps) rfl rfl (by kernel_rfl) (by kernel_rfl) (by kernel_rfl) (fun _ _ _ h => h) rfl (fun wq hS => by have hf := field60a; go_simp) HS102.out ?_
          try simp only [Act.put, List.setIfInBounds_toArray, List.set_cons_succ, List.set_cons_zero]
          refine takeH 11 (some 49) (.bool true) rfl rfl (by kernel_rfl) (by kernel_rfl) (by kernel_rfl) (fun _ _ _ h => h) rfl (fun wq hS => by have hq := HM.out; go_simp) HS102.out ?_
          try simp only [Act.put, List.setIfInBounds_toArray, List.set_cons_succ, List.set_cons_zero]
          refine takeH 12 (some 50) (.bool true) rfl rfl (by kernel_rfl) (by kernel_rfl) (by kernel_rfl) (fun _ _ _ h => h) rfl (fun wq hS => by go_simp) HS102.out ?_
          try simp only [Act.put, List.setIfInBounds_toArray, List.set_cons_succ, List.set_cons_zero]
          refine passH 13 (some 51) rfl rfl (by kernel_rfl) (by kernel_rfl) (by kernel_rfl) (fun _ _ _ h => h) rfl HS102.out ?_
          try simp only [Act.put, List.setIfInBounds_toArray, List.set_cons_succ, List.set_cons_zero]
          refine passH 14 (some 52) rfl rfl (by kernel_rfl) (by kernel_rfl) (by kernel_rfl) (fun _ _ _ h => h) rfl HS102.out ?_
          try simp only [Act.put, List.setIfInBounds_toArray, List.set_cons_succ, List.set_cons_zero]
          refine passH 15 (some 53) rfl rfl (by kernel_rfl) (by kernel_rfl) (by kernel_rfl) (fun _ _ _ h => h) rfl HS102.out ?_
          try simp only [Act.put, List.setIfInBounds_toArray, List.set_cons_succ, List.set_cons_zero]
          refine passH 16 (some 54) rfl rfl (by kernel_rfl) (by kernel_rfl) (by kernel_rfl) (fun _ _ _ h => h) rfl HS102.out ?_
          try simp only [Act.put, List.setIfInBounds_toArray, List.set_cons_succ, List.set_cons_zero]
          refine passH 17 (some 55) rfl rfl (by kernel_rfl) (by kernel_rfl) (by kernel_rfl) (fun _ _ _ h => h) rfl HS102.out ?_
          try simp only [Act.put, List.setIfInBounds_toArray, List.set_cons_succ, List.set_cons_zero]
          refine passH 18 (some 56) rfl rfl (by kernel_rfl) (by kernel_rfl) (by kernel_rfl) (fun _ _ _ h => h) rfl HS102.out ?_
          try simp only [Act.put, List.setIfInBounds_toArray, List.set_cons_succ, List.set_cons_zero]
          refine passH 19 (some 57) rfl rfl (by kernel_rfl) (by kernel_rfl) (by kernel_rfl) (fun _ _ _ h => h) rfl HS102.out ?_
          try simp only [Act.put, List.setIfInBounds_toArray, List.set_cons_succ, List.set_cons_zero]
          refine passH 20 (some 58) rfl rfl (by kernel_rfl) (by kernel_rfl) (by kernel_rfl) (fun _ _ _ h => h) rfl HS102.out ?_
          try simp only [Act.put, List.setIfInBounds_toArray, List.set_cons_succ, List.set_cons_zero]
          refine passH 21 (some 59) rfl rfl (by kernel_rfl) (by kernel_rfl) (by kernel_rfl) (fun _ _ _ h => h) rfl HS102.out ?_
          try simp only [Act.put, List.setIfInBounds_toArray, List.set_cons_succ, List.set_cons_zero]
          refine takeH 22 (some 60) (.bool true) rfl rfl (by kernel_rfl) (by kernel_rfl) (by kernel_rfl) (fun _ _ _ h => h) rfl (fun wq hS => by go_simp) HS102.out ?_
          try simp only [Act.put, List.setIfInBounds_toArray, List.set_cons_succ, List.set_cons_zero]
          refine takeH 23 (some 61) (.bool true) rfl rfl (by kernel_rfl) (by kernel_rfl) (by kernel_rfl) (fun _ _ _ h => h) rfl (fun wq hS => by go_simp) HS102.out ?_
          try simp only [Act.put, List.setIfInBounds_toArray, List.set_cons_succ, List.set_cons_zero]
          refine wpAnyH_done (by kernel_rfl) ?_ _
          have hb := HS102.out
          have F103 := Lib.hid (FB.out.below hb FB.out.lt)
          have F104 := Lib.hid (FL.out.trans (hb.mono FL.out.size))
          clear FB FL
          clear hb
          have HR := Lib.hid (roots_no (g := r.g) (rs := r.rs) h8 (by rw [getD_of HX.out]; simp only [okRoot, Bool.or_eq_false_iff, Bool.and_eq_false_iff, decide_eq_false_iff_not]; exact ⟨HC.out, .inl (by have := HM.out; omega)⟩))
          go_wp2_with fail
          go_ret
          exact ⟨ret_bool HR.out.symm, F104.out⟩
        · have HM := Lib.hid hm
          clear hm
          by_cases hi : 4 ≤ x ∧ x ≤ 4 + r.g.s * r.g.l - 1
          · have HI := Lib.hid hi
            clear hi
            go_upto_region 6 with fail
            refine startH (fun wq => Below wr.heap.size wr wq) (by kernel_rfl) ?_
            refine takeH 0 (some 38) (.int .i64 k) rfl rfl (by kernel_rfl) (by kernel_rfl) (by kernel_rfl) (fun _ _ _ h => h) rfl (fun wq hS => by go_simp) (Below.refl _ _).drew ?_
            try simp only [Act.put, List.setIfInBounds_toArray, List.set_cons_succ, List.set_cons_zero]
            refine takeH 1 (some 39) (.pointer (some ⟨w.heap.size, 8, none⟩)) rfl rfl (by kernel_rfl) (by kernel_rfl) (by kernel_rfl) (fun _ _ _ h => h) rfl (fun wq hS => by go_simp) (Below.refl _ _).drew ?_
            try simp only [Act.put, List.setIfInBounds_toArray, List.set_cons_succ, List.set_cons_zero]
            refine takeH 2 (some 40) (.pointer (some ⟨w.heap.size, 8 + k, none⟩)) rfl rfl (by kernel_rfl) (by kernel_rfl) (by kernel_rfl) (fun _ _ _ h => h) rfl (fun wq hS => by go_simp <;> (intro _; omega)) (Below.refl _ _).drew ?_
            try simp only [Act.put, List.setIfInBounds_toArray, List.set_cons_succ, List.set_cons_zero]
            refine takeH 3 (some 41) (.int .i64 x) rfl rfl (by kernel_rfl) (by kernel_rfl) (by kernel_rfl) (fun _ _ _ h => h) rfl (fun wq hS => by have hq := rootCell (FB.out.below hS FB.out.lt) HX.out; go_simp) (Below.refl _ _).drew ?_
            try simp only [Act.put, List.setIfInBounds_toArray, List.set_cons_succ, List.set_cons_zero]
            refine takeH 4 (some 42) (.bool true) rfl rfl (by kernel_rfl) (by kernel_rfl) (by kernel_rfl) (fun _ _ _ h => h) rfl (fun wq hS => by go_simp <;> exact HC.out) (Below.refl _ _).drew ?_
            try simp only [Act.put, List.setIfInBounds_toArray, List.set_cons_succ, List.set_cons_zero]
            refine takeH 5 (some 43) (.bool true) rfl rfl (by kernel_rfl) (by kernel_rfl) (by kernel_rfl) (fun _ _ _ h => h) rfl (fun wq hS => by go_simp) (Below.refl _ _).drew ?_
            try simp only [Act.put, List.setIfInBounds_toArray, List.set_cons_succ, List.set_cons_zero]
            refine takeH 6 (some 44) (.int .i64 k) rfl rfl (by kernel_rfl) (by kernel_rfl) (by kernel_rfl) (fun _ _ _ h => h) rfl (fun wq hS => by go_simp) (Below.refl _ _).drew ?_
            try simp only [Act.put, List.setIfInBounds_toArray, List.set_cons_succ, List.set_cons_zero]
            refine takeH 7 (some 45) (.pointer (some ⟨w.heap.size, 1, none⟩)) rfl rfl (by kernel_rfl) (by kernel_rfl) (by kernel_rfl) (fun _ _ _ h => h) rfl (fun wq hS => by go_simp) (Below.refl _ _).drew ?_
            try simp only [Act.put, List.setIfInBounds_toArray, List.set_cons_succ, List.set_cons_zero]
            refine takeH 8 (some 46) (.agg #[.int .i64 r.p, .int .i64 r.s, .int .i64 r.l, .int .i64 r.f]) rfl rfl (by kernel_rfl) (by kernel_rfl) (by kernel_rfl) (fun _ _ _ h => h) rfl (fun wq hS => by exact exec_load_at wq _ _ 24 _ rfl w.heap.size 1 rfl (#[.int .i64 r.p, .int .i64 r.s, .int .i64 r.l, .int .i64 r.f]) _ Tryd.underlying24 rfl info24 (Rg.at24 (FB.out.below hS FB.out.lt))) (Below.refl _ _).drew ?_
            try simp only [Act.put, List.setIfInBounds_toArray, List.set_cons_succ, List.set_cons_zero]
            refine oneH 9 (by kernel_rfl) rfl rfl fun K hK => ?_
            go_simp
            refine (rof_yes r.g HOK.out _).mono ?_
            rintro e w101 ⟨rfl, hb⟩
            have HS102 := Lib.hid (stay (Below.refl _ _).drew hb)
            clear hb
            refine hK _ _ HS102.out ?_
            clear hK K
            try simp only [Act.put, List.setIfInBounds_toArray, List.set_cons_succ, List.set_cons_zero]
            refine takeH 10 (some 48) (.int .i64 r.g.maps) rfl rfl (by kernel_rfl) (by kernel_rfl) (by kernel_rfl) (fun _ _ _ h => h) rfl (fun wq hS => by have hf := field60a; go_simp) HS102.out ?_
            try simp only [Act.put, List.setIfInBounds_toArray, List.set_cons_succ, List.set_cons_zero]
            refine takeH 11 (some 49) (.bool false) rfl rfl (by kernel_rfl) (by kernel_rfl) (by kernel_rfl) (fun _ _ _ h => h) rfl (fun wq hS => by have hq := HM.out; go_simp) HS102.out ?_
            try simp only [Act.put, List.setIfInBounds_toArray, List.set_cons_succ, List.set_cons_zero]
            refine takeH 12 (some 50) (.bool false) rfl rfl (by kernel_rfl) (by kernel_rfl) (by kernel_rfl) (fun _ _ _ h => h) rfl (fun wq hS => by go_simp) HS102.out ?_
            try simp only [Act.put, List.setIfInBounds_toArray, List.set_cons_succ, List.set_cons_zero]
            refine takeH 13 (some 51) (.pointer (some ⟨w.heap.size, 1, none⟩)) rfl rfl (by kernel_rfl) (by kernel_rfl) (by kernel_rfl) (fun _ _ _ h => h) rfl (fun wq hS => by go_simp) HS102.out ?_
            try simp only [Act.put, List.setIfInBounds_toArray, List.set_cons_succ, List.set_cons_zero]
            refine takeH 14 (some 52) (.agg #[.int .i64 r.p, .int .i64 r.s, .int .i64 r.l, .int .i64 r.f]) rfl rfl (by kernel_rfl) (by kernel_rfl) (by kernel_rfl) (fun _ _ _ h => h) rfl (fun wq hS => by exact exec_load_at wq _ _ 24 _ rfl w.heap.size 1 rfl (#[.int .i64 r.p, .int .i64 r.s, .int .i64 r.l, .int .i64 r.f]) _ Tryd.underlying24 rfl info24 (Rg.at24 (FB.out.below hS FB.out.lt))) HS102.out ?_
            try simp only [Act.put, List.setIfInBounds_toArray, List.set_cons_succ, List.set_cons_zero]
            refine takeH 15 (some 53) (.int .i64 k) rfl rfl (by kernel_rfl) (by kernel_rfl) (by kernel_rfl) (fun _ _ _ h => h) rfl (fun wq hS => by go_simp) HS102.out ?_
            try simp only [Act.put, List.setIfInBounds_toArray, List.set_cons_succ, List.set_cons_zero]
            refine takeH 16 (some 54) (.pointer (some ⟨w.heap.size, 8, none⟩)) rfl rfl (by kernel_rfl) (by kernel_rfl) (by kernel_rfl) (fun _ _ _ h => h) rfl (fun wq hS => by go_simp) HS102.out ?_
            try simp only [Act.put, List.setIfInBounds_toArray, List.set_cons_succ, List.set_cons_zero]
            refine takeH 17 (some 55) (.pointer (some ⟨w.heap.size, 8 + k, none⟩)) rfl rfl (by kernel_rfl) (by kernel_rfl) (by kernel_rfl) (fun _ _ _ h => h) rfl (fun wq hS => by go_simp <;> (intro _; omega)) HS102.out ?_
            try simp only [Act.put, List.setIfInBounds_toArray, List.set_cons_succ, List.set_cons_zero]
            refine takeH 18 (some 56) (.int .i64 x) rfl rfl (by kernel_rfl) (by kernel_rfl) (by kernel_rfl) (fun _ _ _ h => h) rfl (fun wq hS => by have hq := rootCell (FB.out.below hS FB.out.lt) HX.out; go_simp) HS102.out ?_
            try simp only [Act.put, List.setIfInBounds_toArray, List.set_cons_succ, List.set_cons_zero]
            refine oneH 19 (by kernel_rfl) rfl rfl fun K hK => ?_
            go_simp
            refine (rwhere_in r.g HOK.out x HI.out.1 (by have := HI.out.2; omega) _).mono ?_
            rintro e w103 ⟨rfl, hb⟩
            have HS104 := Lib.hid (stay HS102.out hb)
            clear hb
            refine hK _ _ HS104.out ?_
            clear hK K
            try simp only [Act.put, List.setIfInBounds_toArray, List.set_cons_succ, List.set_cons_zero]
            refine takeH 20 (some 58) (.bool true) rfl rfl (by kernel_rfl) (by kernel_rfl) (by kernel_rfl) (fun _ _ _ h => h) rfl (fun wq hS => by have hf := field63c; go_simp) HS104.out ?_
            try simp only [Act.put, List.setIfInBounds_toArray, List.set_cons_succ, List.set_cons_zero]
            refine takeH 21 (some 59) (.bool false) rfl rfl (by kernel_rfl) (by kernel_rfl) (by kernel_rfl) (fun _ _ _ h => h) rfl (fun wq hS => by go_simp) HS104.out ?_
            try simp only [Act.put, List.setIfInBounds_toArray, List.set_cons_succ, List.set_cons_zero]
            refine takeH 22 (some 60) (.bool false) rfl rfl (by kernel_rfl) (by kernel_rfl) (by kernel_rfl) (fun _ _ _ h => h) rfl (fun wq hS => by go_simp) HS104.out ?_
            try simp only [Act.put, List.setIfInBounds_toArray, List.set_cons_succ, List.set_cons_zero]
            refine takeH 23 (some 61) (.bool false) rfl rfl (by kernel_rfl) (by kernel_rfl) (by kernel_rfl) (fun _ _ _ h => h) rfl (fun wq hS => by go_simp) HS104.out ?_
            try simp only [Act.put, List.setIfInBounds_toArray, List.set_cons_succ, List.set_cons_zero]
            refine wpAnyH_done (by kernel_rfl) ?_ _
            have hb := HS104.out
            have F105 := Lib.hid (FB.out.below hb FB.out.lt)
            have F106 := Lib.hid (FL.out.trans (hb.mono FL.out.size))
            clear FB FL
            clear hb
            go_wp2_with fail
            go_roundg (8 - (k + 1))
            case measure => omega
            case rel => exact ⟨k + 1, by omega, by omega, by go_num, fun j hj => by
                rcases (show j < k ∨ j = k by omega) with h | rfl
                · exact HA.out j h
                · rw [getD_of HX.out]; simp only [okRoot, Bool.or_eq_true, Bool.and_eq_true, decide_eq_true_eq]; exact .inr ⟨by have := HM.out; omega, HI.out⟩, F105.out, F106.out⟩
          · have HI := Lib.hid hi
            clear hi
            go_upto_region 6 with fail
            refine startH (fun wq => Below wr.heap.size wr wq) (by kernel_rfl) ?_
            refine takeH 0 (some 38) (.int .i64 k) rfl rfl (by kernel_rfl) (by kernel_rfl) (by kernel_rfl) (fun _ _ _ h => h) rfl (fun wq hS => by go_simp) (Below.refl _ _).drew ?_
            try simp only [Act.put, List.setIfInBounds_toArray, List.set_cons_succ, List.set_cons_zero]
            refine takeH 1 (some 39) (.pointer (some ⟨w.heap.size, 8, none⟩)) rfl rfl (by kernel_rfl) (by kernel_rfl) (by kernel_rfl) (fun _ _ _ h => h) rfl (fun wq hS => by go_simp) (Below.refl _ _).drew ?_
            try simp only [Act.put, List.setIfInBounds_toArray, List.set_cons_succ, List.set_cons_zero]
            refine takeH 2 (some 40) (.pointer (some ⟨w.heap.size, 8 + k, none⟩)) rfl rfl (by kernel_rfl) (by kernel_rfl) (by kernel_rfl) (fun _ _ _ h => h) rfl (fun wq hS => by go_simp <;> (intro _; omega)) (Below.refl _ _).drew ?_
            try simp only [Act.put, List.setIfInBounds_toArray, List.set_cons_succ, List.set_cons_zero]
            refine takeH 3 (some 41) (.int .i64 x) rfl rfl (by kernel_rfl) (by kernel_rfl) (by kernel_rfl) (fun _ _ _ h => h) rfl (fun wq hS => by have hq := rootCell (FB.out.below hS FB.out.lt) HX.out; go_simp) (Below.refl _ _).drew ?_
            try simp only [Act.put, List.setIfInBounds_toArray, List.set_cons_succ, List.set_cons_zero]
            refine takeH 4 (some 42) (.bool true) rfl rfl (by kernel_rfl) (by kernel_rfl) (by kernel_rfl) (fun _ _ _ h => h) rfl (fun wq hS => by go_simp <;> exact HC.out) (Below.refl _ _).drew ?_
            try simp only [Act.put, List.setIfInBounds_toArray, List.set_cons_succ, List.set_cons_zero]
            refine takeH 5 (some 43) (.bool true) rfl rfl (by kernel_rfl) (by kernel_rfl) (by kernel_rfl) (fun _ _ _ h => h) rfl (fun wq hS => by go_simp) (Below.refl _ _).drew ?_
            try simp only [Act.put, List.setIfInBounds_toArray, List.set_cons_succ, List.set_cons_zero]
            refine takeH 6 (some 44) (.int .i64 k) rfl rfl (by kernel_rfl) (by kernel_rfl) (by kernel_rfl) (fun _ _ _ h => h) rfl (fun wq hS => by go_simp) (Below.refl _ _).drew ?_
            try simp only [Act.put, List.setIfInBounds_toArray, List.set_cons_succ, List.set_cons_zero]
            refine takeH 7 (some 45) (.pointer (some ⟨w.heap.size, 1, none⟩)) rfl rfl (by kernel_rfl) (by kernel_rfl) (by kernel_rfl) (fun _ _ _ h => h) rfl (fun wq hS => by go_simp) (Below.refl _ _).drew ?_
            try simp only [Act.put, List.setIfInBounds_toArray, List.set_cons_succ, List.set_cons_zero]
            refine takeH 8 (some 46) (.agg #[.int .i64 r.p, .int .i64 r.s, .int .i64 r.l, .int .i64 r.f]) rfl rfl (by kernel_rfl) (by kernel_rfl) (by kernel_rfl) (fun _ _ _ h => h) rfl (fun wq hS => by exact exec_load_at wq _ _ 24 _ rfl w.heap.size 1 rfl (#[.int .i64 r.p, .int .i64 r.s, .int .i64 r.l, .int .i64 r.f]) _ Tryd.underlying24 rfl info24 (Rg.at24 (FB.out.below hS FB.out.lt))) (Below.refl _ _).drew ?_
            try simp only [Act.put, List.setIfInBounds_toArray, List.set_cons_succ, List.set_cons_zero]
            refine oneH 9 (by kernel_rfl) rfl rfl fun K hK => ?_
            go_simp
            refine (rof_yes r.g HOK.out _).mono ?_
            rintro e w101 ⟨rfl, hb⟩
            have HS102 := Lib.hid (stay (Below.refl _ _).drew hb)
            clear hb
            refine hK _ _ HS102.out ?_
            clear hK K
            try simp only [Act.put, List.setIfInBounds_toArray, List.set_cons_succ, List.set_cons_zero]
            refine takeH 10 (some 48) (.int .i64 r.g.maps) rfl rfl (by kernel_rfl) (by kernel_rfl) (by kernel_rfl) (fun _ _ _ h => h) rfl (fun wq hS => by have hf := field60a; go_simp) HS102.out ?_
            try simp only [Act.put, List.setIfInBounds_toArray, List.set_cons_succ, List.set_cons_zero]
            refine takeH 11 (some 49) (.bool false) rfl rfl (by kernel_rfl) (by kernel_rfl) (by kernel_rfl) (fun _ _ _ h => h) rfl (fun wq hS => by have hq := HM.out; go_simp) HS102.out ?_
            try simp only [Act.put, List.setIfInBounds_toArray, List.set_cons_succ, List.set_cons_zero]
            refine takeH 12 (some 50) (.bool false) rfl rfl (by kernel_rfl) (by kernel_rfl) (by kernel_rfl) (fun _ _ _ h => h) rfl (fun wq hS => by go_simp) HS102.out ?_
            try simp only [Act.put, List.setIfInBounds_toArray, List.set_cons_succ, List.set_cons_zero]
            refine takeH 13 (some 51) (.pointer (some ⟨w.heap.size, 1, none⟩)) rfl rfl (by kernel_rfl) (by kernel_rfl) (by kernel_rfl) (fun _ _ _ h => h) rfl (fun wq hS => by go_simp) HS102.out ?_
            try simp only [Act.put, List.setIfInBounds_toArray, List.set_cons_succ, List.set_cons_zero]
            refine takeH 14 (some 52) (.agg #[.int .i64 r.p, .int .i64 r.s, .int .i64 r.l, .int .i64 r.f]) rfl rfl (by kernel_rfl) (by kernel_rfl) (by kernel_rfl) (fun _ _ _ h => h) rfl (fun wq hS => by exact exec_load_at wq _ _ 24 _ rfl w.heap.size 1 rfl (#[.int .i64 r.p, .int .i64 r.s, .int .i64 r.l, .int .i64 r.f]) _ Tryd.underlying24 rfl info24 (Rg.at24 (FB.out.below hS FB.out.lt))) HS102.out ?_
            try simp only [Act.put, List.setIfInBounds_toArray, List.set_cons_succ, List.set_cons_zero]
            refine takeH 15 (some 53) (.int .i64 k) rfl rfl (by kernel_rfl) (by kernel_rfl) (by kernel_rfl) (fun _ _ _ h => h) rfl (fun wq hS => by go_simp) HS102.out ?_
            try simp only [Act.put, List.setIfInBounds_toArray, List.set_cons_succ, List.set_cons_zero]
            refine takeH 16 (some 54) (.pointer (some ⟨w.heap.size, 8, none⟩)) rfl rfl (by kernel_rfl) (by kernel_rfl) (by kernel_rfl) (fun _ _ _ h => h) rfl (fun wq hS => by go_simp) HS102.out ?_
            try simp only [Act.put, List.setIfInBounds_toArray, List.set_cons_succ, List.set_cons_zero]
            refine takeH 17 (some 55) (.pointer (some ⟨w.heap.size, 8 + k, none⟩)) rfl rfl (by kernel_rfl) (by kernel_rfl) (by kernel_rfl) (fun _ _ _ h => h) rfl (fun wq hS => by go_simp <;> (intro _; omega)) HS102.out ?_
            try simp only [Act.put, List.setIfInBounds_toArray, List.set_cons_succ, List.set_cons_zero]
            refine takeH 18 (some 56) (.int .i64 x) rfl rfl (by kernel_rfl) (by kernel_rfl) (by kernel_rfl) (fun _ _ _ h => h) rfl (fun wq hS => by have hq := rootCell (FB.out.below hS FB.out.lt) HX.out; go_simp) HS102.out ?_
            try simp only [Act.put, List.setIfInBounds_toArray, List.set_cons_succ, List.set_cons_zero]
            refine oneH 19 (by kernel_rfl) rfl rfl fun K hK => ?_
            go_simp
            refine (rwhere_out HOK.out HI.out _).mono ?_
            rintro e w103 ⟨rfl, hb⟩
            have HS104 := Lib.hid (stay HS102.out hb)
            clear hb
            refine hK _ _ HS104.out ?_
            clear hK K
            try simp only [Act.put, List.setIfInBounds_toArray, List.set_cons_succ, List.set_cons_zero]
            refine takeH 20 (some 58) (.bool false) rfl rfl (by kernel_rfl) (by kernel_rfl) (by kernel_rfl) (fun _ _ _ h => h) rfl (fun wq hS => by have hf := field63c; go_simp) HS104.out ?_
            try simp only [Act.put, List.setIfInBounds_toArray, List.set_cons_succ, List.set_cons_zero]
            refine takeH 21 (some 59) (.bool true) rfl rfl (by kernel_rfl) (by kernel_rfl) (by kernel_rfl) (fun _ _ _ h => h) rfl (fun wq hS => by go_simp) HS104.out ?_
            try simp only [Act.put, List.setIfInBounds_toArray, List.set_cons_succ, List.set_cons_zero]
            refine takeH 22 (some 60) (.bool true) rfl rfl (by kernel_rfl) (by kernel_rfl) (by kernel_rfl) (fun _ _ _ h => h) rfl (fun wq hS => by go_simp) HS104.out ?_
            try simp only [Act.put, List.setIfInBounds_toArray, List.set_cons_succ, List.set_cons_zero]
            refine takeH 23 (some 61) (.bool true) rfl rfl (by kernel_rfl) (by kernel_rfl) (by kernel_rfl) (fun _ _ _ h => h) rfl (fun wq hS => by go_simp) HS104.out ?_
            try simp only [Act.put, List.setIfInBounds_toArray, List.set_cons_succ, List.set_cons_zero]
            refine wpAnyH_done (by kernel_rfl) ?_ _
            have hb := HS104.out
            have F105 := Lib.hid (FB.out.below hb FB.out.lt)
            have F106 := Lib.hid (FL.out.trans (hb.mono FL.out.size))
            clear FB FL
            clear hb
            have HR := Lib.hid (roots_no (g := r.g) (rs := r.rs) h8 (by rw [getD_of HX.out]; simp only [okRoot, Bool.or_eq_false_iff, Bool.and_eq_false_iff, decide_eq_false_iff_not]; exact ⟨HC.out, .inr (by have hh := HI.out; dsimp only at hh; omega)⟩))
            go_wp2_with fail
            go_ret
            exact ⟨ret_bool HR.out.symm, F106.out⟩
    · obtain rfl : k = 8 := by omega
      go_wp2_with fail
      go_ret
      exact ⟨ret_bool (roots_all HA.out).symm, FL.out⟩
theorem rregion_any (r : Rg) (hw : r.Wf) (w : World) : Calls Tryd.prog 12 #[.agg r.cells.toArray] w fun e w' => e = .returned (.bool r.good) ∧ Below w.heap.size w w' := by
  by_cases hg : r.g.Ok
  · by_cases h0 : 0 ≤ r.seg
    · by_cases h1 : r.seg < r.s
      · by_cases h2 : 0 ≤ r.off
        · by_cases h3 : r.off ≤ r.l
          · rw [good_rest hg ⟨h0, by omega⟩ ⟨h2, h3⟩]
            exact rregion_roots r hw hg h0 h1 h2 h3 w
          · rw [good_off (by omega)]
            exact rregion_offh r hw hg h0 h1 h2 (by omega) w
        · rw [good_off (by omega)]
          exact rregion_offl r hw hg h0 h1 (by omega) w
      · rw [good_seg (by omega)]
        exact rregion_segh r hw hg h0 (by omega) w
    · rw [good_seg (by omega)]
      exact rregion_segl r hw hg (by omega) w
  · rw [good_geom hg]
    exact rregion_geom r hw hg w
end Go.Proofs.YtlleafhfogfngaaDoor
