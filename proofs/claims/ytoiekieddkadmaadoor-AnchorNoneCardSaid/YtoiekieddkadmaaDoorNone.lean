/- The statement AnchorNone's walk. -/
import Derived.Test.YtoiekieddkadmaaDoorWk
namespace Go.Proofs.YtoiekieddkadmaaDoor
set_option linter.unusedSimpArgs false
set_option linter.unusedVariables false
open Go.RowKit

def T0 : De.D := De.newD 3
theorem t0_len : T0.S.length = 3 := by kernel_rfl
theorem t0_L : T0.L.length = 0 := by kernel_rfl
theorem tf : Four T0 (zeros 128) (zeros 128) := ⟨zeros_sc, zeros_sc, by kernel_rfl, by kernel_rfl, by kernel_rfl, by kernel_rfl⟩
theorem tn : newestOf 3 (zeros 128) (zeros 128) = none := by kernel_rfl
theorem tiny_newest {W0 : World} {b : Nat} (F : Nat → Prop) (w : World) (hev : ErrVar w) (h : De.Dv W0 w b F T0) : Calls Tryd.prog 5 #[.pointer (some ⟨b, 0, none⟩)] w fun e w' => e = .returned (.tuple #[.agg Rg.none.cells.toArray, .int .i64 13]) ∧ Below w.heap.size w w' := by
  have := newest_any w hev h (by rw [t0_L]; decide) tf
  rw [t0_len, show newestOf ((3 : Nat) : Int) (zeros 128) (zeros 128) = none from tn] at this
  exact this
theorem tiny_write {W0 : World} {b : Nat} (r : Rg) (hw : r.Wf) (F : Nat → Prop) (w : World) (h : De.Dv W0 w b F T0) : Calls Tryd.prog 6 #[.pointer (some ⟨b, 0, none⟩), .agg r.cells.toArray] w fun e w' => e = .returned (.int .i64 1) ∧ Below w.heap.size w w' :=
  write_no r hw w h fun hn => by
    have h1 := Gm.tot_good hn.1
    have h2 := hn.2
    rw [t0_len] at h2
    omega
set_option maxRecDepth 100000 in
set_option maxHeartbeats 4000000 in
theorem none_any (r : Rg) (hw : r.Wf) (w : World) (hev : ErrVar w) : Calls Tryd.prog 3 #[.agg r.cells.toArray] w fun e w' => e = .returned (.bool true) ∧ Below w.heap.size w w' := by
  have HWN := Lib.hid none_wf
  have HWF := Lib.hid hw
  have HEV := Lib.hid hev
  have HP := Lib.hid hev.lt
  have HBL : Hid (Below w.heap.size w w) := Lib.hid (Below.refl _ _)
  have HNEWD : Hid (∀ w1, Below w.heap.size w w1 → Calls Tryd.prog 4 #[.int .i64 3] w1 fun e w' => ∃ b F, e = .returned (.tuple #[.pointer (some ⟨b, 0, none⟩), .int .i64 0]) ∧ De.Dv w w' b F T0 ∧ Below w1.heap.size w1 w' ∧ ∀ k, F k → w1.heap.size ≤ k) := Lib.hid fun w1 hb => De.dv_new w w1 hb 3 ⟨by decide, by decide⟩
  clear hev hw
  go_enter Tryd.func3, Tryd.ntmps3
  go_upto_region 0 with fail
  refine wp_region_lit ?_
  refine box_g (cs := r.cells.toArray) rfl rfl ?_
  intro w1 hA hb hl
  try simp only [Act.put, List.setIfInBounds_toArray, List.set_cons_succ, List.set_cons_zero]
  have HBLn := Lib.hid (HBL.out.trans (hb.mono HBL.out.size))
  have HEVn := Lib.hid (HEV.out.below (Nat.le_refl _) hb)
  have F2 : Hid (Blk w1 w.heap.size (r.cells)) := Lib.hid (by first | exact hA | simpa using hA)
  have GEg0 := Lib.hid HBL.out.size
  clear HBL HEV
  have HBL := HBLn
  have HEV := HEVn
  clear HBLn HEVn
  clear hA hb hl
  refine takeL (.bool false) rfl (by go_simp) ?_
  try simp only [Act.put, List.setIfInBounds_toArray, List.set_cons_succ, List.set_cons_zero]
  refine wpList_nil ?_
  go_upto_region 1 with fail
  refine wp_region_lit ?_
  refine wpList_op rfl fun K hK => ?_
  go_simp
  refine (HNEWD.out _ HBL.out).mono ?_
  rintro e w3 ⟨b, Fd0, rfl, hd, hb, hF⟩
  have NFg0 : Hid (¬ Fd0 w.heap.size) := Lib.hid fun hk => Nat.lt_irrefl _ (Nat.lt_of_lt_of_le F2.out.lt (hF _ hk))
  have HBLn := Lib.hid (HBL.out.trans (hb.mono HBL.out.size))
  have F2n := Lib.hid (F2.out.below hb F2.out.lt)
  have HEVn := Lib.hid (HEV.out.below (Nat.le_refl _) hb)
  clear HBL F2 HEV
  have HBL := HBLn
  have F2 := F2n
  have HEV := HEVn
  clear HBLn F2n HEVn
  have HD := Lib.hid hd
  clear hd hb hF
  refine hK _ _ ?_
  clear hK K
  try simp only [Act.put, List.setIfInBounds_toArray, List.set_cons_succ, List.set_cons_zero]
  refine takeL (.tuple #[.pointer (some ⟨b, 0, none⟩), .int .i64 0]) rfl (by go_simp) ?_
  try simp only [Act.put, List.setIfInBounds_toArray, List.set_cons_succ, List.set_cons_zero]
  refine takeL (.pointer (some ⟨b, 0, none⟩)) rfl (by go_simp) ?_
  try simp only [Act.put, List.setIfInBounds_toArray, List.set_cons_succ, List.set_cons_zero]
  refine takeL (.int .i64 0) rfl (by go_simp) ?_
  try simp only [Act.put, List.setIfInBounds_toArray, List.set_cons_succ, List.set_cons_zero]
  refine takeL (.pointer (some ⟨b, 0, none⟩)) rfl (by go_simp) ?_
  try simp only [Act.put, List.setIfInBounds_toArray, List.set_cons_succ, List.set_cons_zero]
  refine takeL (.int .i64 0) rfl (by go_simp) ?_
  try simp only [Act.put, List.setIfInBounds_toArray, List.set_cons_succ, List.set_cons_zero]
  refine wpList_nil ?_
  go_upto_region 2 with fail
  refine wp_region_lit ?_
  refine wpList_op rfl fun K hK => ?_
  go_simp
  refine (newest_nil _).mono ?_
  rintro e w4 ⟨rfl, hb⟩
  have HBLn := Lib.hid (HBL.out.trans (hb.mono HBL.out.size))
  have F2n := Lib.hid (F2.out.below hb F2.out.lt)
  have HEVn := Lib.hid (HEV.out.below (Nat.le_refl _) hb)
  have HDn := Lib.hid (HD.out.below hb)
  clear HBL F2 HEV HD
  have HBL := HBLn
  have F2 := F2n
  have HEV := HEVn
  have HD := HDn
  clear HBLn F2n HEVn HDn
  clear hb
  refine hK _ _ ?_
  clear hK K
  try simp only [Act.put, List.setIfInBounds_toArray, List.set_cons_succ, List.set_cons_zero]
  refine takeL (.tuple #[.agg Rg.none.cells.toArray, .int .i64 1]) rfl (by go_simp) ?_
  try simp only [Act.put, List.setIfInBounds_toArray, List.set_cons_succ, List.set_cons_zero]
  refine takeL (.agg Rg.none.cells.toArray) rfl (by go_simp) ?_
  try simp only [Act.put, List.setIfInBounds_toArray, List.set_cons_succ, List.set_cons_zero]
  refine takeL (.int .i64 1) rfl (by go_simp) ?_
  try simp only [Act.put, List.setIfInBounds_toArray, List.set_cons_succ, List.set_cons_zero]
  refine alloc_g zero27 rfl ?_
  intro w5 hA hb hl
  try simp only [Act.put, List.setIfInBounds_toArray, List.set_cons_succ, List.set_cons_zero]
  have NFg6 := Lib.hid (fun hk => Nat.lt_irrefl _ (HD.out.lt w4.heap.size hk).2)
  have GDg6 := Lib.hid HD.out.2.size
  have HBLn := Lib.hid (HBL.out.trans (hb.mono HBL.out.size))
  have F2n := Lib.hid (F2.out.below hb F2.out.lt)
  have NEg0_g6 := Lib.hid (Nat.ne_of_lt F2.out.lt)
  have HEVn := Lib.hid (HEV.out.below (Nat.le_refl _) hb)
  have HDn := Lib.hid (HD.out.below hb)
  have F7 : Hid (Blk w5 w4.heap.size (Rg.none.cells)) := Lib.hid (by first | exact hA | simpa using hA)
  have GEg6 := Lib.hid HBL.out.size
  clear HBL F2 HEV HD
  have HBL := HBLn
  have F2 := F2n
  have HEV := HEVn
  have HD := HDn
  clear HBLn F2n HEVn HDn
  clear hA hb hl
  generalize w4.heap.size = g6 at *
  refine store_all (cs := Rg.none.cells.toArray) F7.out (by simp only [List.size_toArray, HWN.out.cells, HWN.out.cells]) (by rw [List.size_toArray, HWN.out.cells]; exact info27) (by simpa using Rg.cell_one Rg.none) rfl rfl rfl ?_
  intro w8 hD hO hlD
  try simp only [Act.put, List.setIfInBounds_toArray, List.set_cons_succ, List.set_cons_zero]
  have HBLn := Lib.hid (HBL.out.trans (hO.below HBL.out.size fun k hk => by rw [hk]; exact GEg6.out))
  have F2n := Lib.hid (F2.out.only hO (NEg0_g6.out))
  have F7n : Hid (Blk w8 g6 (Rg.none.cells)) := Lib.hid (by first | exact hD | simpa using hD)
  have HEVn := Lib.hid (HEV.out.keep hO GEg6.out HP.out)
  have HDn := Lib.hid (HD.out.go1 hO GDg6.out NFg6.out)
  clear HBL F2 F7 HEV HD
  have HBL := HBLn
  have F2 := F2n
  have F7 := F7n
  have HEV := HEVn
  have HD := HDn
  clear HBLn F2n F7n HEVn HDn
  clear hD hO hlD
  refine takeL (.int .i64 1) rfl (by go_simp) ?_
  try simp only [Act.put, List.setIfInBounds_toArray, List.set_cons_succ, List.set_cons_zero]
  refine wpList_nil ?_
  go_upto_region 3 with fail
  refine wp_region_lit ?_
  refine takeL (.pointer (some ⟨b, 0, none⟩)) rfl (by go_simp) ?_
  try simp only [Act.put, List.setIfInBounds_toArray, List.set_cons_succ, List.set_cons_zero]
  refine wpList_op rfl fun K hK => ?_
  go_simp
  refine (tiny_newest _ _ HEV.out HD.out).mono ?_
  rintro e w9 ⟨rfl, hb⟩
  have HBLn := Lib.hid (HBL.out.trans (hb.mono HBL.out.size))
  have F2n := Lib.hid (F2.out.below hb F2.out.lt)
  have F7n := Lib.hid (F7.out.below hb F7.out.lt)
  have HEVn := Lib.hid (HEV.out.below (Nat.le_refl _) hb)
  have HDn := Lib.hid (HD.out.below hb)
  clear HBL F2 F7 HEV HD
  have HBL := HBLn
  have F2 := F2n
  have F7 := F7n
  have HEV := HEVn
  have HD := HDn
  clear HBLn F2n F7n HEVn HDn
  clear hb
  refine hK _ _ ?_
  clear hK K
  try simp only [Act.put, List.setIfInBounds_toArray, List.set_cons_succ, List.set_cons_zero]
  refine takeL (.tuple #[.agg Rg.none.cells.toArray, .int .i64 13]) rfl (by go_simp) ?_
  try simp only [Act.put, List.setIfInBounds_toArray, List.set_cons_succ, List.set_cons_zero]
  refine takeL (.agg Rg.none.cells.toArray) rfl (by go_simp) ?_
  try simp only [Act.put, List.setIfInBounds_toArray, List.set_cons_succ, List.set_cons_zero]
  refine takeL (.int .i64 13) rfl (by go_simp) ?_
  try simp only [Act.put, List.setIfInBounds_toArray, List.set_cons_succ, List.set_cons_zero]
  refine alloc_g zero27 rfl ?_
  intro w10 hA hb hl
  try simp only [Act.put, List.setIfInBounds_toArray, List.set_cons_succ, List.set_cons_zero]
  have NFg11 := Lib.hid (fun hk => Nat.lt_irrefl _ (HD.out.lt w9.heap.size hk).2)
  have GDg11 := Lib.hid HD.out.2.size
  have HBLn := Lib.hid (HBL.out.trans (hb.mono HBL.out.size))
  have F2n := Lib.hid (F2.out.below hb F2.out.lt)
  have NEg0_g11 := Lib.hid (Nat.ne_of_lt F2.out.lt)
  have F7n := Lib.hid (F7.out.below hb F7.out.lt)
  have NEg6_g11 := Lib.hid (Nat.ne_of_lt F7.out.lt)
  have HEVn := Lib.hid (HEV.out.below (Nat.le_refl _) hb)
  have HDn := Lib.hid (HD.out.below hb)
  have F12 : Hid (Blk w10 w9.heap.size (Rg.none.cells)) := Lib.hid (by first | exact hA | simpa using hA)
  have GEg11 := Lib.hid HBL.out.size
  clear HBL F2 F7 HEV HD
  have HBL := HBLn
  have F2 := F2n
  have F7 := F7n
  have HEV := HEVn
  have HD := HDn
  clear HBLn F2n F7n HEVn HDn
  clear hA hb hl
  generalize w9.heap.size = g11 at *
  refine store_all (cs := Rg.none.cells.toArray) F12.out (by simp only [List.size_toArray, HWN.out.cells, HWN.out.cells]) (by rw [List.size_toArray, HWN.out.cells]; exact info27) (by simpa using Rg.cell_one Rg.none) rfl rfl rfl ?_
  intro w13 hD hO hlD
  try simp only [Act.put, List.setIfInBounds_toArray, List.set_cons_succ, List.set_cons_zero]
  have HBLn := Lib.hid (HBL.out.trans (hO.below HBL.out.size fun k hk => by rw [hk]; exact GEg11.out))
  have F2n := Lib.hid (F2.out.only hO (NEg0_g11.out))
  have F7n := Lib.hid (F7.out.only hO (NEg6_g11.out))
  have F12n : Hid (Blk w13 g11 (Rg.none.cells)) := Lib.hid (by first | exact hD | simpa using hD)
  have HEVn := Lib.hid (HEV.out.keep hO GEg11.out HP.out)
  have HDn := Lib.hid (HD.out.go1 hO GDg11.out NFg11.out)
  clear HBL F2 F7 F12 HEV HD
  have HBL := HBLn
  have F2 := F2n
  have F7 := F7n
  have F12 := F12n
  have HEV := HEVn
  have HD := HDn
  clear HBLn F2n F7n F12n HEVn HDn
  clear hD hO hlD
  refine takeL (.int .i64 13) rfl (by go_simp) ?_
  try simp only [Act.put, List.setIfInBounds_toArray, List.set_cons_succ, List.set_cons_zero]
  refine wpList_nil ?_
  go_upto_region 4 with fail
  refine wp_region_lit ?_
  refine load27 (cs := Rg.none.cells.toArray) (Blk.all F7.out rfl) (by rw [List.size_toArray]; exact HWN.out.cells) rfl rfl ?_
  try simp only [Act.put, List.setIfInBounds_toArray, List.set_cons_succ, List.set_cons_zero]
  refine build_g (build27 _) rfl ?_
  try simp only [Act.put, List.setIfInBounds_toArray, List.set_cons_succ, List.set_cons_zero]
  refine takeL (.bool true) rfl (by exact run_eql_reg HWN.out.len _ _ _ rfl rfl rfl) ?_
  try simp only [Act.put, List.setIfInBounds_toArray, List.set_cons_succ, List.set_cons_zero]
  refine takeL (.bool true) rfl (by go_simp) ?_
  try simp only [Act.put, List.setIfInBounds_toArray, List.set_cons_succ, List.set_cons_zero]
  refine takeL (.int .i64 1) rfl (by go_simp) ?_
  try simp only [Act.put, List.setIfInBounds_toArray, List.set_cons_succ, List.set_cons_zero]
  refine takeL (.bool true) rfl (by go_simp) ?_
  try simp only [Act.put, List.setIfInBounds_toArray, List.set_cons_succ, List.set_cons_zero]
  refine takeL (.bool true) rfl (by go_simp) ?_
  try simp only [Act.put, List.setIfInBounds_toArray, List.set_cons_succ, List.set_cons_zero]
  refine takeL (.bool true) rfl (by go_simp) ?_
  try simp only [Act.put, List.setIfInBounds_toArray, List.set_cons_succ, List.set_cons_zero]
  refine load27 (cs := Rg.none.cells.toArray) (Blk.all F12.out rfl) (by rw [List.size_toArray]; exact HWN.out.cells) rfl rfl ?_
  try simp only [Act.put, List.setIfInBounds_toArray, List.set_cons_succ, List.set_cons_zero]
  refine build_g (build27 _) rfl ?_
  try simp only [Act.put, List.setIfInBounds_toArray, List.set_cons_succ, List.set_cons_zero]
  refine takeL (.bool true) rfl (by exact run_eql_reg HWN.out.len _ _ _ rfl rfl rfl) ?_
  try simp only [Act.put, List.setIfInBounds_toArray, List.set_cons_succ, List.set_cons_zero]
  refine takeL (.bool true) rfl (by go_simp) ?_
  try simp only [Act.put, List.setIfInBounds_toArray, List.set_cons_succ, List.set_cons_zero]
  refine takeL (.bool true) rfl (by go_simp) ?_
  try simp only [Act.put, List.setIfInBounds_toArray, List.set_cons_succ, List.set_cons_zero]
  refine takeL (.int .i64 13) rfl (by go_simp) ?_
  try simp only [Act.put, List.setIfInBounds_toArray, List.set_cons_succ, List.set_cons_zero]
  refine takeL (.bool true) rfl (by go_simp) ?_
  try simp only [Act.put, List.setIfInBounds_toArray, List.set_cons_succ, List.set_cons_zero]
  refine takeL (.bool true) rfl (by go_simp) ?_
  try simp only [Act.put, List.setIfInBounds_toArray, List.set_cons_succ, List.set_cons_zero]
  refine takeL (.bool true) rfl (by go_simp) ?_
  try simp only [Act.put, List.setIfInBounds_toArray, List.set_cons_succ, List.set_cons_zero]
  refine load27 (cs := r.cells.toArray) (Blk.all F2.out rfl) (by rw [List.size_toArray]; exact HWF.out.cells) rfl rfl ?_
  try simp only [Act.put, List.setIfInBounds_toArray, List.set_cons_succ, List.set_cons_zero]
  refine wpList_op rfl fun K hK => ?_
  go_simp
  refine (write_nil r HWF.out _).mono ?_
  rintro e w14 ⟨rfl, hb⟩
  have HBLn := Lib.hid (HBL.out.trans (hb.mono HBL.out.size))
  have F2n := Lib.hid (F2.out.below hb F2.out.lt)
  have F7n := Lib.hid (F7.out.below hb F7.out.lt)
  have F12n := Lib.hid (F12.out.below hb F12.out.lt)
  have HEVn := Lib.hid (HEV.out.below (Nat.le_refl _) hb)
  have HDn := Lib.hid (HD.out.below hb)
  clear HBL F2 F7 F12 HEV HD
  have HBL := HBLn
  have F2 := F2n
  have F7 := F7n
  have F12 := F12n
  have HEV := HEVn
  have HD := HDn
  clear HBLn F2n F7n F12n HEVn HDn
  clear hb
  refine hK _ _ ?_
  clear hK K
  try simp only [Act.put, List.setIfInBounds_toArray, List.set_cons_succ, List.set_cons_zero]
  refine takeL (.bool true) rfl (by go_simp) ?_
  try simp only [Act.put, List.setIfInBounds_toArray, List.set_cons_succ, List.set_cons_zero]
  refine takeL (.bool true) rfl (by go_simp) ?_
  try simp only [Act.put, List.setIfInBounds_toArray, List.set_cons_succ, List.set_cons_zero]
  refine takeL (.bool true) rfl (by go_simp) ?_
  try simp only [Act.put, List.setIfInBounds_toArray, List.set_cons_succ, List.set_cons_zero]
  refine takeL (.pointer (some ⟨b, 0, none⟩)) rfl (by go_simp) ?_
  try simp only [Act.put, List.setIfInBounds_toArray, List.set_cons_succ, List.set_cons_zero]
  refine load27 (cs := r.cells.toArray) (Blk.all F2.out rfl) (by rw [List.size_toArray]; exact HWF.out.cells) rfl rfl ?_
  try simp only [Act.put, List.setIfInBounds_toArray, List.set_cons_succ, List.set_cons_zero]
  refine wpList_op rfl fun K hK => ?_
  go_simp
  refine (tiny_write r HWF.out _ _ HD.out).mono ?_
  rintro e w15 ⟨rfl, hb⟩
  have HBLn := Lib.hid (HBL.out.trans (hb.mono HBL.out.size))
  have F2n := Lib.hid (F2.out.below hb F2.out.lt)
  have F7n := Lib.hid (F7.out.below hb F7.out.lt)
  have F12n := Lib.hid (F12.out.below hb F12.out.lt)
  have HEVn := Lib.hid (HEV.out.below (Nat.le_refl _) hb)
  have HDn := Lib.hid (HD.out.below hb)
  clear HBL F2 F7 F12 HEV HD
  have HBL := HBLn
  have F2 := F2n
  have F7 := F7n
  have F12 := F12n
  have HEV := HEVn
  have HD := HDn
  clear HBLn F2n F7n F12n HEVn HDn
  clear hb
  refine hK _ _ ?_
  clear hK K
  try simp only [Act.put, List.setIfInBounds_toArray, List.set_cons_succ, List.set_cons_zero]
  refine takeL (.bool true) rfl (by go_simp) ?_
  try simp only [Act.put, List.setIfInBounds_toArray, List.set_cons_succ, List.set_cons_zero]
  refine takeL (.bool true) rfl (by go_simp) ?_
  try simp only [Act.put, List.setIfInBounds_toArray, List.set_cons_succ, List.set_cons_zero]
  refine takeL (.bool true) rfl (by go_simp) ?_
  try simp only [Act.put, List.setIfInBounds_toArray, List.set_cons_succ, List.set_cons_zero]
  refine wpList_op rfl fun K hK => ?_
  go_simp
  refine (wakes_any _ HEV.out).mono ?_
  rintro e w16 ⟨rfl, hb⟩
  have HBLn := Lib.hid (HBL.out.trans (hb.mono HBL.out.size))
  have F2n := Lib.hid (F2.out.below hb F2.out.lt)
  have F7n := Lib.hid (F7.out.below hb F7.out.lt)
  have F12n := Lib.hid (F12.out.below hb F12.out.lt)
  have HEVn := Lib.hid (HEV.out.below (Nat.le_refl _) hb)
  have HDn := Lib.hid (HD.out.below hb)
  clear HBL F2 F7 F12 HEV HD
  have HBL := HBLn
  have F2 := F2n
  have F7 := F7n
  have F12 := F12n
  have HEV := HEVn
  have HD := HDn
  clear HBLn F2n F7n F12n HEVn HDn
  clear hb
  refine hK _ _ ?_
  clear hK K
  try simp only [Act.put, List.setIfInBounds_toArray, List.set_cons_succ, List.set_cons_zero]
  refine takeL (.bool true) rfl (by go_simp) ?_
  try simp only [Act.put, List.setIfInBounds_toArray, List.set_cons_succ, List.set_cons_zero]
  refine takeL (.bool true) rfl (by go_simp) ?_
  try simp only [Act.put, List.setIfInBounds_toArray, List.set_cons_succ, List.set_cons_zero]
  refine wpList_nil ?_
  go_wp2_with fail
  go_ret
  exact ⟨rfl, HBL.out⟩

end Go.Proofs.YtoiekieddkadmaaDoor
