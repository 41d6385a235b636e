/- What is wrong with a region: package region's rootProblem and problem. -/
import Derived.Test.YtoiekieddkadmaaDoorCore
namespace Go.Proofs.YtoiekieddkadmaaDoor
set_option linter.unusedSimpArgs false
set_option linter.unusedVariables false
open Go.RowKit

set_option maxRecDepth 100000 in
theorem root_zero (r : Rg) (hw : r.Wf) (hg : r.g.Ok) (k : Nat) (hk : k < 8) (x : Int) (hx : r.rs[k]? = some x) (h : x = 0) (w : World) : Calls Tryd.prog 35 #[.agg r.cells.toArray, .int .i64 k] w fun e w' => e = .returned .nilIface ∧ Below w.heap.size w w' := by
  have HWF := Lib.hid hw
  have HOK := Lib.hid hg
  have HX := Lib.hid hx
  have HBL : Hid (Below w.heap.size w w) := Lib.hid (Below.refl _ _)
  clear hw hg hx
  go_enter Tryd.func35, Tryd.ntmps35
  go_upto_region 0 with fail
  refine wp_region_lit ?_
  refine box_g rfl rfl ?_
  intro w1 hA hb hl
  try simp only [Act.put, List.setIfInBounds_toArray, List.set_cons_succ, List.set_cons_zero]
  clear hl
  have HG2 : Hid (w.heap.size ≤ w.heap.size) := Lib.hid HBL.out.size
  have F3 := Lib.hid (HBL.out.trans (hb.mono HBL.out.size))
  clear HBL
  have F4 : Hid (Blk w1 w.heap.size r.cells) := Lib.hid hA
  clear hA hb
  refine takeL (Value.nilIface) rfl (by go_simp) ?_
  try simp only [Act.put, List.setIfInBounds_toArray, List.set_cons_succ, List.set_cons_zero]
  refine wpList_nil ?_
  have c8 := rootCell F4.out HX.out
  have c1 := F4.out.cell (i := 1) (v := .int .i64 r.p) rfl
  have c2 := F4.out.cell (i := 2) (v := .int .i64 r.s) rfl
  have c3 := F4.out.cell (i := 3) (v := .int .i64 r.l) rfl
  have c4 := F4.out.cell (i := 4) (v := .int .i64 r.f) rfl
  have h0 : (x == 0) = true := by simpa using h
  go_wp2_with fail
  go_ret
  exact ⟨rfl, F3.out⟩
set_option maxRecDepth 100000 in
theorem root_maps (r : Rg) (hw : r.Wf) (hg : r.g.Ok) (k : Nat) (hk : k < 8) (x : Int) (hx : r.rs[k]? = some x) (h : x ≠ 0) (hm : r.g.maps ≤ (k : Int)) (w : World) : Calls Tryd.prog 35 #[.agg r.cells.toArray, .int .i64 k] w fun e w' => ∃ T d t, e = .returned (.iface T d) ∧ Chain w' 11 [t] (.iface T d) ∧ Below w.heap.size w w' := by
  have HWF := Lib.hid hw
  have HOK := Lib.hid hg
  have HX := Lib.hid hx
  have HBL : Hid (Below w.heap.size w w) := Lib.hid (Below.refl _ _)
  clear hw hg hx
  go_enter Tryd.func35, Tryd.ntmps35
  go_upto_region 0 with fail
  refine wp_region_lit ?_
  refine box_g rfl rfl ?_
  intro w1 hA hb hl
  try simp only [Act.put, List.setIfInBounds_toArray, List.set_cons_succ, List.set_cons_zero]
  clear hl
  have HG2 : Hid (w.heap.size ≤ w.heap.size) := Lib.hid HBL.out.size
  have F3 := Lib.hid (HBL.out.trans (hb.mono HBL.out.size))
  clear HBL
  have F4 : Hid (Blk w1 w.heap.size r.cells) := Lib.hid hA
  clear hA hb
  refine takeL (Value.nilIface) rfl (by go_simp) ?_
  try simp only [Act.put, List.setIfInBounds_toArray, List.set_cons_succ, List.set_cons_zero]
  refine wpList_nil ?_
  have c8 := rootCell F4.out HX.out
  have c1 := F4.out.cell (i := 1) (v := .int .i64 r.p) rfl
  have c2 := F4.out.cell (i := 2) (v := .int .i64 r.s) rfl
  have c3 := F4.out.cell (i := 3) (v := .int .i64 r.l) rfl
  have c4 := F4.out.cell (i := 4) (v := .int .i64 r.f) rfl
  have h0 : (x == 0) = false := by simpa using h
  go_wp2_with fail
  refine (maps_yes r.g HOK.out _).mono ?_
  rintro e w2 ⟨rfl, hb⟩
  have F5 := Lib.hid (F3.out.trans (hb.mono F3.out.size))
  have F6 := Lib.hid (F4.out.below hb F4.out.lt)
  clear F3 F4
  clear hb c1 c2 c3 c4 c8
  go_wp2_with fail
  refine (new_some 11 _ _ rfl).mono ?_
  rintro e w9 ⟨v, rfl, hc, hb⟩
  obtain ⟨T, d, rfl⟩ := hc.shape
  have HB9 := Lib.hid (F5.out.trans (hb.mono F5.out.size))
  have HC9 := Lib.hid hc
  clear hc hb
  go_wp2_with fail
  go_ret
  exact ⟨T, d, _, rfl, HC9.out, HB9.out⟩
set_option maxRecDepth 100000 in
theorem root_in (r : Rg) (hw : r.Wf) (hg : r.g.Ok) (k : Nat) (hk : k < 8) (x : Int) (hx : r.rs[k]? = some x) (h : x ≠ 0) (hm : ¬ r.g.maps ≤ (k : Int)) (hin : 4 ≤ x ∧ x ≤ 4 + r.g.s * r.g.l - 1) (w : World) : Calls Tryd.prog 35 #[.agg r.cells.toArray, .int .i64 k] w fun e w' => e = .returned .nilIface ∧ Below w.heap.size w w' := by
  have HWF := Lib.hid hw
  have HOK := Lib.hid hg
  have HX := Lib.hid hx
  have HBL : Hid (Below w.heap.size w w) := Lib.hid (Below.refl _ _)
  clear hw hg hx
  go_enter Tryd.func35, Tryd.ntmps35
  go_upto_region 0 with fail
  refine wp_region_lit ?_
  refine box_g rfl rfl ?_
  intro w1 hA hb hl
  try simp only [Act.put, List.setIfInBounds_toArray, List.set_cons_succ, List.set_cons_zero]
  clear hl
  have HG2 : Hid (w.heap.size ≤ w.heap.size) := Lib.hid HBL.out.size
  have F3 := Lib.hid (HBL.out.trans (hb.mono HBL.out.size))
  clear HBL
  have F4 : Hid (Blk w1 w.heap.size r.cells) := Lib.hid hA
  clear hA hb
  refine takeL (Value.nilIface) rfl (by go_simp) ?_
  try simp only [Act.put, List.setIfInBounds_toArray, List.set_cons_succ, List.set_cons_zero]
  refine wpList_nil ?_
  have c8 := rootCell F4.out HX.out
  have c1 := F4.out.cell (i := 1) (v := .int .i64 r.p) rfl
  have c2 := F4.out.cell (i := 2) (v := .int .i64 r.s) rfl
  have c3 := F4.out.cell (i := 3) (v := .int .i64 r.l) rfl
  have c4 := F4.out.cell (i := 4) (v := .int .i64 r.f) rfl
  have h0 : (x == 0) = false := by simpa using h
  go_wp2_with fail
  refine (maps_yes r.g HOK.out _).mono ?_
  rintro e w2 ⟨rfl, hb⟩
  have F5 := Lib.hid (F3.out.trans (hb.mono F3.out.size))
  have F6 := Lib.hid (F4.out.below hb F4.out.lt)
  clear F3 F4
  clear hb c1 c2 c3 c4 c8
  go_upto_region 5 with fail
  refine startH (fun wq => Below w2.heap.size w2 wq) (by kernel_rfl) ?_
  refine takeH 0 (some 20) (.pointer (some ⟨w.heap.size, 1, none⟩)) rfl rfl (by kernel_rfl) (by kernel_rfl) (by kernel_rfl) (fun _ _ _ h => h) rfl (fun wq hS => by go_simp) (Below.refl _ _).drew ?_
  try simp only [Act.put, List.setIfInBounds_toArray, List.set_cons_succ, List.set_cons_zero]
  refine takeH 1 (some 21) (.agg #[.int .i64 r.p, .int .i64 r.s, .int .i64 r.l, .int .i64 r.f]) rfl rfl (by kernel_rfl) (by kernel_rfl) (by kernel_rfl) (fun _ _ _ h => h) rfl (fun wq hS => by exact exec_load_at wq _ _ 24 _ rfl w.heap.size 1 rfl (#[.int .i64 r.p, .int .i64 r.s, .int .i64 r.l, .int .i64 r.f]) _ Tryd.underlying24 rfl info24 (Rg.at24 (F6.out.below hS F6.out.lt))) (Below.refl _ _).drew ?_
  try simp only [Act.put, List.setIfInBounds_toArray, List.set_cons_succ, List.set_cons_zero]
  refine takeH 2 (some 22) (.int .i64 k) rfl rfl (by kernel_rfl) (by kernel_rfl) (by kernel_rfl) (fun _ _ _ h => h) rfl (fun wq hS => by go_simp) (Below.refl _ _).drew ?_
  try simp only [Act.put, List.setIfInBounds_toArray, List.set_cons_succ, List.set_cons_zero]
  refine takeH 3 (some 23) (.pointer (some ⟨w.heap.size, 8, none⟩)) rfl rfl (by kernel_rfl) (by kernel_rfl) (by kernel_rfl) (fun _ _ _ h => h) rfl (fun wq hS => by go_simp) (Below.refl _ _).drew ?_
  try simp only [Act.put, List.setIfInBounds_toArray, List.set_cons_succ, List.set_cons_zero]
  refine takeH 4 (some 24) (.pointer (some ⟨w.heap.size, 8 + k, none⟩)) rfl rfl (by kernel_rfl) (by kernel_rfl) (by kernel_rfl) (fun _ _ _ h => h) rfl (fun wq hS => by go_simp <;> (intro _; omega)) (Below.refl _ _).drew ?_
  try simp only [Act.put, List.setIfInBounds_toArray, List.set_cons_succ, List.set_cons_zero]
  refine takeH 5 (some 25) (.int .i64 x) rfl rfl (by kernel_rfl) (by kernel_rfl) (by kernel_rfl) (fun _ _ _ h => h) rfl (fun wq hS => by have hq := rootCell (F6.out.below hS F6.out.lt) HX.out; go_simp) (Below.refl _ _).drew ?_
  try simp only [Act.put, List.setIfInBounds_toArray, List.set_cons_succ, List.set_cons_zero]
  refine oneH 6 (by kernel_rfl) rfl rfl fun K hK => ?_
  go_simp
  refine (of_in r.g HOK.out x hin _).mono ?_
  rintro e w7 ⟨rfl, hb⟩
  have HS8 := Lib.hid (stay (Below.refl _ _).drew hb)
  clear hb
  refine hK _ _ HS8.out ?_
  clear hK K
  try simp only [Act.put, List.setIfInBounds_toArray, List.set_cons_succ, List.set_cons_zero]
  refine takeH 7 (some 19) (.tuple #[.int .i64 ((x - 4) / r.l), .int .i64 ((x - 4) % r.l), .bool true]) rfl rfl (by kernel_rfl) (by kernel_rfl) (by kernel_rfl) (fun _ _ _ h => h) rfl (fun wq hS => by go_simp) HS8.out ?_
  try simp only [Act.put, List.setIfInBounds_toArray, List.set_cons_succ, List.set_cons_zero]
  refine takeH 8 (some 27) (.int .i64 ((x - 4) / r.l)) rfl rfl (by kernel_rfl) (by kernel_rfl) (by kernel_rfl) (fun _ _ _ h => h) rfl (fun wq hS => by go_simp) HS8.out ?_
  try simp only [Act.put, List.setIfInBounds_toArray, List.set_cons_succ, List.set_cons_zero]
  refine takeH 9 (some 28) (.int .i64 ((x - 4) % r.l)) rfl rfl (by kernel_rfl) (by kernel_rfl) (by kernel_rfl) (fun _ _ _ h => h) rfl (fun wq hS => by go_simp) HS8.out ?_
  try simp only [Act.put, List.setIfInBounds_toArray, List.set_cons_succ, List.set_cons_zero]
  refine takeH 10 (some 29) (.bool true) rfl rfl (by kernel_rfl) (by kernel_rfl) (by kernel_rfl) (fun _ _ _ h => h) rfl (fun wq hS => by go_simp) HS8.out ?_
  try simp only [Act.put, List.setIfInBounds_toArray, List.set_cons_succ, List.set_cons_zero]
  refine takeH 11 (some 5) (.int .i64 ((x - 4) / r.l)) rfl rfl (by kernel_rfl) (by kernel_rfl) (by kernel_rfl) (fun _ _ _ h => h) rfl (fun wq hS => by go_simp) HS8.out ?_
  try simp only [Act.put, List.setIfInBounds_toArray, List.set_cons_succ, List.set_cons_zero]
  refine takeH 12 (some 6) (.int .i64 ((x - 4) % r.l)) rfl rfl (by kernel_rfl) (by kernel_rfl) (by kernel_rfl) (fun _ _ _ h => h) rfl (fun wq hS => by go_simp) HS8.out ?_
  try simp only [Act.put, List.setIfInBounds_toArray, List.set_cons_succ, List.set_cons_zero]
  refine takeH 13 (some 7) (.bool true) rfl rfl (by kernel_rfl) (by kernel_rfl) (by kernel_rfl) (fun _ _ _ h => h) rfl (fun wq hS => by go_simp) HS8.out ?_
  try simp only [Act.put, List.setIfInBounds_toArray, List.set_cons_succ, List.set_cons_zero]
  refine wpAnyH_done (by kernel_rfl) ?_ _
  have hb := HS8.out
  have F9 := Lib.hid (F5.out.trans (hb.mono F5.out.size))
  have F10 := Lib.hid (F6.out.below hb F6.out.lt)
  clear F5 F6
  clear hb
  go_wp2_with fail
  go_ret
  exact ⟨rfl, F9.out⟩
set_option maxRecDepth 100000 in
theorem root_out (r : Rg) (hw : r.Wf) (hg : r.g.Ok) (k : Nat) (hk : k < 8) (x : Int) (hx : r.rs[k]? = some x) (h : x ≠ 0) (hm : ¬ r.g.maps ≤ (k : Int)) (hin : ¬ (4 ≤ x ∧ x ≤ 4 + r.g.s * r.g.l - 1)) (w : World) : Calls Tryd.prog 35 #[.agg r.cells.toArray, .int .i64 k] w fun e w' => ∃ T d t, e = .returned (.iface T d) ∧ Chain w' 11 [t] (.iface T d) ∧ Below w.heap.size w w' := by
  have HWF := Lib.hid hw
  have HOK := Lib.hid hg
  have HX := Lib.hid hx
  have HBL : Hid (Below w.heap.size w w) := Lib.hid (Below.refl _ _)
  clear hw hg hx
  go_enter Tryd.func35, Tryd.ntmps35
  go_upto_region 0 with fail
  refine wp_region_lit ?_
  refine box_g rfl rfl ?_
  intro w1 hA hb hl
  try simp only [Act.put, List.setIfInBounds_toArray, List.set_cons_succ, List.set_cons_zero]
  clear hl
  have HG2 : Hid (w.heap.size ≤ w.heap.size) := Lib.hid HBL.out.size
  have F3 := Lib.hid (HBL.out.trans (hb.mono HBL.out.size))
  clear HBL
  have F4 : Hid (Blk w1 w.heap.size r.cells) := Lib.hid hA
  clear hA hb
  refine takeL (Value.nilIface) rfl (by go_simp) ?_
  try simp only [Act.put, List.setIfInBounds_toArray, List.set_cons_succ, List.set_cons_zero]
  refine wpList_nil ?_
  have c8 := rootCell F4.out HX.out
  have c1 := F4.out.cell (i := 1) (v := .int .i64 r.p) rfl
  have c2 := F4.out.cell (i := 2) (v := .int .i64 r.s) rfl
  have c3 := F4.out.cell (i := 3) (v := .int .i64 r.l) rfl
  have c4 := F4.out.cell (i := 4) (v := .int .i64 r.f) rfl
  have h0 : (x == 0) = false := by simpa using h
  go_wp2_with fail
  refine (maps_yes r.g HOK.out _).mono ?_
  rintro e w2 ⟨rfl, hb⟩
  have F5 := Lib.hid (F3.out.trans (hb.mono F3.out.size))
  have F6 := Lib.hid (F4.out.below hb F4.out.lt)
  clear F3 F4
  clear hb c1 c2 c3 c4 c8
  go_upto_region 5 with fail
  refine startH (fun wq => Below w2.heap.size w2 wq) (by kernel_rfl) ?_
  refine takeH 0 (some 20) (.pointer (some ⟨w.heap.size, 1, none⟩)) rfl rfl (by kernel_rfl) (by kernel_rfl) (by kernel_rfl) (fun _ _ _ h => h) rfl (fun wq hS => by go_simp) (Below.refl _ _).drew ?_
  try simp only [Act.put, List.setIfInBounds_toArray, List.set_cons_succ, List.set_cons_zero]
  refine takeH 1 (some 21) (.agg #[.int .i64 r.p, .int .i64 r.s, .int .i64 r.l, .int .i64 r.f]) rfl rfl (by kernel_rfl) (by kernel_rfl) (by kernel_rfl) (fun _ _ _ h => h) rfl (fun wq hS => by exact exec_load_at wq _ _ 24 _ rfl w.heap.size 1 rfl (#[.int .i64 r.p, .int .i64 r.s, .int .i64 r.l, .int .i64 r.f]) _ Tryd.underlying24 rfl info24 (Rg.at24 (F6.out.below hS F6.out.lt))) (Below.refl _ _).drew ?_
  try simp only [Act.put, List.setIfInBounds_toArray, List.set_cons_succ, List.set_cons_zero]
  refine takeH 2 (some 22) (.int .i64 k) rfl rfl (by kernel_rfl) (by kernel_rfl) (by kernel_rfl) (fun _ _ _ h => h) rfl (fun wq hS => by go_simp) (Below.refl _ _).drew ?_
  try simp only [Act.put, List.setIfInBounds_toArray, List.set_cons_succ, List.set_cons_zero]
  refine takeH 3 (some 23) (.pointer (some ⟨w.heap.size, 8, none⟩)) rfl rfl (by kernel_rfl) (by kernel_rfl) (by kernel_rfl) (fun _ _ _ h => h) rfl (fun wq hS => by go_simp) (Below.refl _ _).drew ?_
  try simp only [Act.put, List.setIfInBounds_toArray, List.set_cons_succ, List.set_cons_zero]
  refine takeH 4 (some 24) (.pointer (some ⟨w.heap.size, 8 + k, none⟩)) rfl rfl (by kernel_rfl) (by kernel_rfl) (by kernel_rfl) (fun _ _ _ h => h) rfl (fun wq hS => by go_simp <;> (intro _; omega)) (Below.refl _ _).drew ?_
  try simp only [Act.put, List.setIfInBounds_toArray, List.set_cons_succ, List.set_cons_zero]
  refine takeH 5 (some 25) (.int .i64 x) rfl rfl (by kernel_rfl) (by kernel_rfl) (by kernel_rfl) (fun _ _ _ h => h) rfl (fun wq hS => by have hq := rootCell (F6.out.below hS F6.out.lt) HX.out; go_simp) (Below.refl _ _).drew ?_
  try simp only [Act.put, List.setIfInBounds_toArray, List.set_cons_succ, List.set_cons_zero]
  refine oneH 6 (by kernel_rfl) rfl rfl fun K hK => ?_
  go_simp
  refine (of_out r.g HOK.out x hin _).mono ?_
  rintro e w7 ⟨rfl, hb⟩
  have HS8 := Lib.hid (stay (Below.refl _ _).drew hb)
  clear hb
  refine hK _ _ HS8.out ?_
  clear hK K
  try simp only [Act.put, List.setIfInBounds_toArray, List.set_cons_succ, List.set_cons_zero]
  refine takeH 7 (some 19) (.tuple #[.int .i64 0, .int .i64 0, .bool false]) rfl rfl (by kernel_rfl) (by kernel_rfl) (by kernel_rfl) (fun _ _ _ h => h) rfl (fun wq hS => by go_simp) HS8.out ?_
  try simp only [Act.put, List.setIfInBounds_toArray, List.set_cons_succ, List.set_cons_zero]
  refine takeH 8 (some 27) (.int .i64 0) rfl rfl (by kernel_rfl) (by kernel_rfl) (by kernel_rfl) (fun _ _ _ h => h) rfl (fun wq hS => by go_simp) HS8.out ?_
  try simp only [Act.put, List.setIfInBounds_toArray, List.set_cons_succ, List.set_cons_zero]
  refine takeH 9 (some 28) (.int .i64 0) rfl rfl (by kernel_rfl) (by kernel_rfl) (by kernel_rfl) (fun _ _ _ h => h) rfl (fun wq hS => by go_simp) HS8.out ?_
  try simp only [Act.put, List.setIfInBounds_toArray, List.set_cons_succ, List.set_cons_zero]
  refine takeH 10 (some 29) (.bool false) rfl rfl (by kernel_rfl) (by kernel_rfl) (by kernel_rfl) (fun _ _ _ h => h) rfl (fun wq hS => by go_simp) HS8.out ?_
  try simp only [Act.put, List.setIfInBounds_toArray, List.set_cons_succ, List.set_cons_zero]
  refine takeH 11 (some 5) (.int .i64 0) rfl rfl (by kernel_rfl) (by kernel_rfl) (by kernel_rfl) (fun _ _ _ h => h) rfl (fun wq hS => by go_simp) HS8.out ?_
  try simp only [Act.put, List.setIfInBounds_toArray, List.set_cons_succ, List.set_cons_zero]
  refine takeH 12 (some 6) (.int .i64 0) rfl rfl (by kernel_rfl) (by kernel_rfl) (by kernel_rfl) (fun _ _ _ h => h) rfl (fun wq hS => by go_simp) HS8.out ?_
  try simp only [Act.put, List.setIfInBounds_toArray, List.set_cons_succ, List.set_cons_zero]
  refine takeH 13 (some 7) (.bool false) rfl rfl (by kernel_rfl) (by kernel_rfl) (by kernel_rfl) (fun _ _ _ h => h) rfl (fun wq hS => by go_simp) HS8.out ?_
  try simp only [Act.put, List.setIfInBounds_toArray, List.set_cons_succ, List.set_cons_zero]
  refine wpAnyH_done (by kernel_rfl) ?_ _
  have hb := HS8.out
  have F9 := Lib.hid (F5.out.trans (hb.mono F5.out.size))
  have F10 := Lib.hid (F6.out.below hb F6.out.lt)
  clear F5 F6
  clear hb
  go_wp2_with fail
  refine (new_some 11 _ _ rfl).mono ?_
  rintro e w9 ⟨v, rfl, hc, hb⟩
  obtain ⟨T, d, rfl⟩ := hc.shape
  have HB9 := Lib.hid (F9.out.trans (hb.mono F9.out.size))
  have HC9 := Lib.hid hc
  clear hc hb
  go_wp2_with fail
  go_ret
  exact ⟨T, d, _, rfl, HC9.out, HB9.out⟩
theorem root_yes (r : Rg) (hw : r.Wf) (hg : r.g.Ok) (k : Nat) (hk : k < 8) (x : Int) (hx : r.rs[k]? = some x) (h : okRoot r.g k x = true) (w : World) : Calls Tryd.prog 35 #[.agg r.cells.toArray, .int .i64 k] w fun e w' => e = .returned .nilIface ∧ Below w.heap.size w w' := by
  simp only [okRoot, Bool.or_eq_true, Bool.and_eq_true, decide_eq_true_eq] at h
  by_cases h0 : x = 0
  · exact root_zero r hw hg k hk x hx h0 w
  · have h1 := h.resolve_left h0
    exact root_in r hw hg k hk x hx h0 (by omega) ⟨h1.2.1, h1.2.2⟩ w
theorem root_no (r : Rg) (hw : r.Wf) (hg : r.g.Ok) (k : Nat) (hk : k < 8) (x : Int) (hx : r.rs[k]? = some x) (h : okRoot r.g k x = false) (w : World) : Calls Tryd.prog 35 #[.agg r.cells.toArray, .int .i64 k] w fun e w' => ∃ T d t, e = .returned (.iface T d) ∧ Chain w' 11 [t] (.iface T d) ∧ Below w.heap.size w w' := by
  simp only [okRoot, Bool.or_eq_false_iff, Bool.and_eq_false_iff, decide_eq_false_iff_not] at h
  obtain ⟨h0, h1⟩ := h
  by_cases hm : r.g.maps ≤ (k : Int)
  · exact root_maps r hw hg k hk x hx h0 hm w
  · refine root_out r hw hg k hk x hx h0 hm (fun hin => ?_) w
    rcases h1 with h1 | h1 | h1
    · omega
    · exact h1 hin.1
    · exact h1 hin.2
end Go.Proofs.YtoiekieddkadmaaDoor
