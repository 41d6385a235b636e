/- How many sectors a geometry has in all; which of the two a region is; whether a device has all of its sectors. -/
import Derived.Test.YtoiekieddkadmaaDoorDec
import Derived.Test.YtoiekieddkadmaaDoorDc
import Derived.Test.YtoiekieddkadmaaDoorIs
namespace Go.Proofs.YtoiekieddkadmaaDoor
set_option linter.unusedSimpArgs false
set_option linter.unusedVariables false
open Go.RowKit

/-- How many sectors a geometry has in all; none, if it may not be. -/
def Gm.tot (g : Gm) : Int := if g.Ok then 4 + g.s * g.l else 0
theorem Gm.tot_yes {g : Gm} (h : g.Ok) : g.tot = 4 + g.s * g.l := if_pos h
theorem Gm.tot_no {g : Gm} (h : ¬ g.Ok) : g.tot = 0 := if_neg h
theorem Gm.tot_range (g : Gm) : 0 ≤ g.tot ∧ g.tot ≤ 516 := by
  unfold Gm.tot
  split
  · rename_i h
    have := h.area0
    omega
  · omega
theorem Gm.tot_good {r : Rg} (h : r.good = true) : 148 ≤ r.g.tot := by
  have hg := (good_iff.1 h).1
  rw [Gm.tot_yes hg]
  obtain ⟨_, ⟨h3, h4⟩, ⟨h5, h6⟩, _⟩ := hg
  have : (6 : Int) * 24 ≤ r.g.s * r.g.l := Int.mul_le_mul h3 h5 (by omega) (by omega)
  omega
theorem total_no (g : Gm) (h : ¬ g.Ok) (w : World) : Calls Tryd.prog 24 #[g.v] w fun e w' => e = .returned (.int .i64 0) ∧ Below w.heap.size w w' := by
  have H := Lib.hid fun w => good_no g h w
  clear h
  go_enter Tryd.func24, Tryd.ntmps24
  go_wp2_with fail
  refine (H.out _).mono ?_
  rintro e w1 ⟨rfl, hb⟩
  have HB := Lib.hid (box_call hb)
  clear hb
  go_wp2_with fail
  go_ret
  exact ⟨rfl, HB.out.1⟩
theorem total_yes (g : Gm) (h : g.Ok) (w : World) : Calls Tryd.prog 24 #[g.v] w fun e w' => e = .returned (.int .i64 (4 + g.s * g.l)) ∧ Below w.heap.size w w' := by
  have H := Lib.hid fun w => good_yes g h w
  have H2 := Lib.hid fun w => begin_behind g h w
  clear h
  go_enter Tryd.func24, Tryd.ntmps24
  go_wp2_with fail
  refine (H.out _).mono ?_
  rintro e w1 ⟨rfl, hb⟩
  have HB := Lib.hid (box_call hb)
  clear hb
  obtain ⟨c0, c1, c2, c3⟩ := HB.out.2.1
  go_wp2_with fail
  refine (H2.out _).mono ?_
  rintro e w2 ⟨rfl, hb⟩
  have HB2 := Lib.hid (further HB.out hb)
  clear hb
  go_wp2_with fail
  go_ret
  exact ⟨rfl, HB2.out.1⟩
theorem total_any (g : Gm) (w : World) : Calls Tryd.prog 24 #[g.v] w fun e w' => e = .returned (.int .i64 g.tot) ∧ Below w.heap.size w w' := by
  by_cases h : g.Ok
  · rw [Gm.tot_yes h]
    exact total_yes g h w
  · rw [Gm.tot_no h]
    exact total_no g h w
theorem number_any (r : Rg) (hw : r.Wf) (w : World) : Calls Tryd.prog 13 #[.agg r.cells.toArray] w fun e w' => e = .returned (.int .i64 (r.gen % 2)) ∧ Below w.heap.size w w' := by
  have HBL : Hid (Below w.heap.size w w) := Lib.hid (Below.refl _ _)
  have HWF := Lib.hid hw
  have HTM : Hid (r.gen.tmod 2 = r.gen % 2) := Lib.hid (Int.tmod_eq_emod_of_nonneg hw.gen.1)
  have HW1 : Hid (IntKind.u32.wrap (r.gen % 2) = r.gen % 2) := Lib.hid (wrap32 (by omega) (by omega))
  have HW2 : Hid (IntKind.i64.wrap (r.gen % 2) = r.gen % 2) := Lib.hid (wrap64 (by omega) (by omega))
  clear hw
  go_enter Tryd.func13, Tryd.ntmps13
  go_upto_region 0 with fail
  refine wp_region_lit ?_
  refine box_g (cs := r.cells.toArray) rfl rfl ?_
  intro w1 hA hb hl
  try simp only [Act.put, List.setIfInBounds_toArray, List.set_cons_succ, List.set_cons_zero]
  have HBLn := Lib.hid (HBL.out.trans (hb.mono HBL.out.size))
  have F2 : Hid (Blk w1 w.heap.size (r.cells)) := Lib.hid (by first | exact hA | simpa using hA)
  have GEg0 := Lib.hid HBL.out.size
  clear HBL
  have HBL := HBLn
  clear HBLn
  clear hA hb hl
  refine takeL (.int .i64 0) rfl (by go_simp) ?_
  try simp only [Act.put, List.setIfInBounds_toArray, List.set_cons_succ, List.set_cons_zero]
  refine wpList_nil ?_
  go_upto_region 1 with fail
  refine wp_region_lit ?_
  refine takeL (.pointer (some ⟨w.heap.size, 0, none⟩)) rfl (by go_simp) ?_
  try simp only [Act.put, List.setIfInBounds_toArray, List.set_cons_succ, List.set_cons_zero]
  refine takeL (.int .u32 r.gen) rfl (by (have hc := F2.out.cell (i := 0) (v := .int .u32 r.gen) rfl; go_simp)) ?_
  try simp only [Act.put, List.setIfInBounds_toArray, List.set_cons_succ, List.set_cons_zero]
  refine takeL (.int .u32 (r.gen % 2)) rfl (by go_simp; simp [HTM.out, HW1.out]) ?_
  try simp only [Act.put, List.setIfInBounds_toArray, List.set_cons_succ, List.set_cons_zero]
  refine takeL (.int .i64 (r.gen % 2)) rfl (by go_simp; simp [HW2.out]) ?_
  try simp only [Act.put, List.setIfInBounds_toArray, List.set_cons_succ, List.set_cons_zero]
  refine takeL (.int .i64 (r.gen % 2)) rfl (by go_simp) ?_
  try simp only [Act.put, List.setIfInBounds_toArray, List.set_cons_succ, List.set_cons_zero]
  refine wpList_nil ?_
  go_wp2_with fail
  go_ret
  exact ⟨rfl, HBL.out⟩

theorem has_any (r : Rg) (hw : r.Wf) (w : World) {W0 : World} {b : Nat} {F : Nat → Prop} {d : De.D} (h : De.Dv W0 w b F d) : Calls Tryd.prog 11 #[.pointer (some ⟨b, 0, none⟩), .agg r.cells.toArray] w fun e w' => e = .returned (.bool (decide (r.g.tot ≤ (d.S.length : Int)))) ∧ Below w.heap.size w w' := by
  have HBL : Hid (Below w.heap.size w w) := Lib.hid (Below.refl _ _)
  have HWF := Lib.hid hw
  have HTT := Lib.hid fun w => total_any r.g w
  have HD := Lib.hid h
  clear hw h
  go_enter Tryd.func11, Tryd.ntmps11
  go_upto_region 0 with fail
  refine wp_region_lit ?_
  refine box_g (cs := r.cells.toArray) rfl rfl ?_
  intro w1 hA hb hl
  try simp only [Act.put, List.setIfInBounds_toArray, List.set_cons_succ, List.set_cons_zero]
  have NFg0 := Lib.hid (fun hk => Nat.lt_irrefl _ (HD.out.lt w.heap.size hk).2)
  have GDg0 := Lib.hid HD.out.2.size
  have HBLn := Lib.hid (HBL.out.trans (hb.mono HBL.out.size))
  have HDn := Lib.hid (HD.out.below hb)
  have F2 : Hid (Blk w1 w.heap.size (r.cells)) := Lib.hid (by first | exact hA | simpa using hA)
  have GEg0 := Lib.hid HBL.out.size
  clear HBL HD
  have HBL := HBLn
  have HD := HDn
  clear HBLn HDn
  clear hA hb hl
  refine takeL (.bool false) rfl (by go_simp) ?_
  try simp only [Act.put, List.setIfInBounds_toArray, List.set_cons_succ, List.set_cons_zero]
  refine wpList_nil ?_
  go_upto_region 1 with fail
  have F20 := F2
  refine startH (fun wq => Below w1.heap.size w1 wq) (by kernel_rfl) ?_
  have F2n := Lib.hid (Blk.drew F2.out)
  have HBLn := Lib.hid (HBL.out.drew)
  have HSS := Lib.hid (Below.drew (Below.refl w1.heap.size w1))
  have hb : Below w1.heap.size w1 w1.drew := Below.drew (Below.refl _ _)
  have HDn := Lib.hid (HD.out.below hb)
  clear hb
  clear HBL F2 HD
  have HBL := HBLn
  have F2 := F2n
  have HD := HDn
  clear HBLn F2n HDn
  have HSZ : Hid (w1.drew.heap.size = w1.heap.size) := Lib.hid rfl
  generalize w1.drew = w3 at *
  refine takeH 0 (some 5) (.pointer (some ⟨b, 0, none⟩)) rfl rfl (by kernel_rfl) (by kernel_rfl) (by kernel_rfl) (fun _ _ _ h => h) rfl (fun wq hS => by go_simp) HSS.out ?_
  try simp only [Act.put, List.setIfInBounds_toArray, List.set_cons_succ, List.set_cons_zero]
  refine takeH 2 (some 7) (.pointer (some ⟨w.heap.size, 1, none⟩)) rfl rfl (by kernel_rfl) (by kernel_rfl) (by kernel_rfl) (fun _ _ _ h => h) rfl (fun wq hS => by go_simp) HSS.out ?_
  try simp only [Act.put, List.setIfInBounds_toArray, List.set_cons_succ, List.set_cons_zero]
  refine takeH 3 (some 8) (.agg #[.int .i64 r.p, .int .i64 r.s, .int .i64 r.l, .int .i64 r.f]) rfl rfl (by kernel_rfl) (by kernel_rfl) (by kernel_rfl) (fun _ _ _ h => h) rfl (fun wq hS => by exact exec_load_at wq _ _ 24 _ rfl (w.heap.size) (1) rfl (#[.int .i64 r.p, .int .i64 r.s, .int .i64 r.l, .int .i64 r.f]) _ Tryd.underlying24 rfl (info24) (Rg.at24 (F20.out.below hS F20.out.lt))) HSS.out ?_
  try simp only [Act.put, List.setIfInBounds_toArray, List.set_cons_succ, List.set_cons_zero]
  refine oneH 1 (by kernel_rfl) rfl rfl fun K hK => ?_
  go_simp
  refine (De.dv_len HD.out).mono ?_
  rintro e w4 ⟨rfl, rfl⟩
  refine hK _ _ HSS.out ?_
  clear hK K
  try simp only [Act.put, List.setIfInBounds_toArray, List.set_cons_succ, List.set_cons_zero]
  refine oneH 4 (by kernel_rfl) rfl rfl fun K hK => ?_
  go_simp
  refine (HTT.out _).mono ?_
  rintro e w5 ⟨rfl, hb⟩
  have HSSn := Lib.hid (HSS.out.trans (hb.mono HSS.out.size))
  clear HSS
  have HSS := HSSn
  clear HSSn
  have HBLn := Lib.hid (HBL.out.trans (hb.mono HBL.out.size))
  have F2n := Lib.hid (F2.out.below hb F2.out.lt)
  have HDn := Lib.hid (HD.out.below hb)
  clear HBL F2 HD
  have HBL := HBLn
  have F2 := F2n
  have HD := HDn
  clear HBLn F2n HDn
  clear hb
  refine hK _ _ HSS.out ?_
  clear hK K
  try simp only [Act.put, List.setIfInBounds_toArray, List.set_cons_succ, List.set_cons_zero]
  refine takeH 5 (some 10) (.bool (decide (r.g.tot ≤ (d.S.length : Int)))) rfl rfl (by kernel_rfl) (by kernel_rfl) (by kernel_rfl) (fun _ _ _ h => h) rfl (fun wq hS => by go_simp) HSS.out ?_
  try simp only [Act.put, List.setIfInBounds_toArray, List.set_cons_succ, List.set_cons_zero]
  refine takeH 6 (some 4) (.bool (decide (r.g.tot ≤ (d.S.length : Int)))) rfl rfl (by kernel_rfl) (by kernel_rfl) (by kernel_rfl) (fun _ _ _ h => h) rfl (fun wq hS => by go_simp) HSS.out ?_
  try simp only [Act.put, List.setIfInBounds_toArray, List.set_cons_succ, List.set_cons_zero]
  refine wpAnyH_done (by kernel_rfl) ?_ _
  go_wp2_with fail
  go_ret
  exact ⟨rfl, HBL.out⟩

theorem has_nil (r : Rg) (hw : r.Wf) (w : World) : Calls Tryd.prog 11 #[.pointer none, .agg r.cells.toArray] w fun e w' => e = .returned (.bool (decide (r.g.tot ≤ (0 : Int)))) ∧ Below w.heap.size w w' := by
  have HBL : Hid (Below w.heap.size w w) := Lib.hid (Below.refl _ _)
  have HWF := Lib.hid hw
  have HTT := Lib.hid fun w => total_any r.g w
  clear hw
  go_enter Tryd.func11, Tryd.ntmps11
  go_upto_region 0 with fail
  refine wp_region_lit ?_
  refine box_g (cs := r.cells.toArray) rfl rfl ?_
  intro w1 hA hb hl
  try simp only [Act.put, List.setIfInBounds_toArray, List.set_cons_succ, List.set_cons_zero]
  have HBLn := Lib.hid (HBL.out.trans (hb.mono HBL.out.size))
  have F2 : Hid (Blk w1 w.heap.size (r.cells)) := Lib.hid (by first | exact hA | simpa using hA)
  have GEg0 := Lib.hid HBL.out.size
  clear HBL
  have HBL := HBLn
  clear HBLn
  clear hA hb hl
  refine takeL (.bool false) rfl (by go_simp) ?_
  try simp only [Act.put, List.setIfInBounds_toArray, List.set_cons_succ, List.set_cons_zero]
  refine wpList_nil ?_
  go_upto_region 1 with fail
  have F20 := F2
  refine startH (fun wq => Below w1.heap.size w1 wq) (by kernel_rfl) ?_
  have F2n := Lib.hid (Blk.drew F2.out)
  have HBLn := Lib.hid (HBL.out.drew)
  have HSS := Lib.hid (Below.drew (Below.refl w1.heap.size w1))
  clear HBL F2
  have HBL := HBLn
  have F2 := F2n
  clear HBLn F2n
  have HSZ : Hid (w1.drew.heap.size = w1.heap.size) := Lib.hid rfl
  generalize w1.drew = w3 at *
  refine takeH 0 (some 5) (.pointer none) rfl rfl (by kernel_rfl) (by kernel_rfl) (by kernel_rfl) (fun _ _ _ h => h) rfl (fun wq hS => by go_simp) HSS.out ?_
  try simp only [Act.put, List.setIfInBounds_toArray, List.set_cons_succ, List.set_cons_zero]
  refine takeH 2 (some 7) (.pointer (some ⟨w.heap.size, 1, none⟩)) rfl rfl (by kernel_rfl) (by kernel_rfl) (by kernel_rfl) (fun _ _ _ h => h) rfl (fun wq hS => by go_simp) HSS.out ?_
  try simp only [Act.put, List.setIfInBounds_toArray, List.set_cons_succ, List.set_cons_zero]
  refine takeH 3 (some 8) (.agg #[.int .i64 r.p, .int .i64 r.s, .int .i64 r.l, .int .i64 r.f]) rfl rfl (by kernel_rfl) (by kernel_rfl) (by kernel_rfl) (fun _ _ _ h => h) rfl (fun wq hS => by exact exec_load_at wq _ _ 24 _ rfl (w.heap.size) (1) rfl (#[.int .i64 r.p, .int .i64 r.s, .int .i64 r.l, .int .i64 r.f]) _ Tryd.underlying24 rfl (info24) (Rg.at24 (F20.out.below hS F20.out.lt))) HSS.out ?_
  try simp only [Act.put, List.setIfInBounds_toArray, List.set_cons_succ, List.set_cons_zero]
  refine oneH 1 (by kernel_rfl) rfl rfl fun K hK => ?_
  go_simp
  refine (De.len_nil _).mono ?_
  rintro e w4 ⟨rfl, rfl⟩
  refine hK _ _ HSS.out ?_
  clear hK K
  try simp only [Act.put, List.setIfInBounds_toArray, List.set_cons_succ, List.set_cons_zero]
  refine oneH 4 (by kernel_rfl) rfl rfl fun K hK => ?_
  go_simp
  refine (HTT.out _).mono ?_
  rintro e w5 ⟨rfl, hb⟩
  have HSSn := Lib.hid (HSS.out.trans (hb.mono HSS.out.size))
  clear HSS
  have HSS := HSSn
  clear HSSn
  have HBLn := Lib.hid (HBL.out.trans (hb.mono HBL.out.size))
  have F2n := Lib.hid (F2.out.below hb F2.out.lt)
  clear HBL F2
  have HBL := HBLn
  have F2 := F2n
  clear HBLn F2n
  clear hb
  refine hK _ _ HSS.out ?_
  clear hK K
  try simp only [Act.put, List.setIfInBounds_toArray, List.set_cons_succ, List.set_cons_zero]
  refine takeH 5 (some 10) (.bool (decide (r.g.tot ≤ (0 : Int)))) rfl rfl (by kernel_rfl) (by kernel_rfl) (by kernel_rfl) (fun _ _ _ h => h) rfl (fun wq hS => by go_simp) HSS.out ?_
  try simp only [Act.put, List.setIfInBounds_toArray, List.set_cons_succ, List.set_cons_zero]
  refine takeH 6 (some 4) (.bool (decide (r.g.tot ≤ (0 : Int)))) rfl rfl (by kernel_rfl) (by kernel_rfl) (by kernel_rfl) (fun _ _ _ h => h) rfl (fun wq hS => by go_simp) HSS.out ?_
  try simp only [Act.put, List.setIfInBounds_toArray, List.set_cons_succ, List.set_cons_zero]
  refine wpAnyH_done (by kernel_rfl) ?_ _
  go_wp2_with fail
  go_ret
  exact ⟨rfl, HBL.out⟩

end Go.Proofs.YtoiekieddkadmaaDoor
