/- A region is written. -/
import Derived.Test.YtoiekieddkadmaaDoorNw
namespace Go.Proofs.YtoiekieddkadmaaDoor
set_option linter.unusedSimpArgs false
set_option linter.unusedVariables false
open Go.RowKit

theorem run_index_two (w : World) (x : List Int) (hx : x.length = 128) (j : Nat) (hj : j < 2) : (Instr.index 50 (.agg (u8s x).toArray) (.int .i64 j)).run Tryd.prog w = .ok (.agg (u8s ((x.drop (64 * j)).take 64)).toArray) w := by
  obtain ⟨i, hi, hs⟩ := size_of info49
  have hagg : (isAgg 49).run Tryd.prog w = .ok true w := by
    unfold isAgg
    rw [Sem.run_bind, run_underlying Tryd.underlying49 w]
    rfl
  have ee : (u8s x).toArray.extract (j * 64) (j * 64 + 64) = (u8s ((x.drop (64 * j)).take 64)).toArray := by
    simp [List.map_take, List.map_drop, Nat.mul_comm]
  have part : (Go.part 49 (u8s x).toArray (j * 64)).run Tryd.prog w = .ok (.agg (u8s ((x.drop (64 * j)).take 64)).toArray) w := by
    unfold Go.part
    simp only [Sem.run_bind, hagg, Result.andThen_ok, if_true, sizeOf, typeInfo, hi, hs, run_program, Sem.run_pure, ee]
  have h1 : (0 : Int) ≤ (j : Int) ∧ (j : Int) < (2 : Int) := by omega
  generalize (u8s ((x.drop (64 * j)).take 64)).toArray = y at *
  generalize (u8s x).toArray = z at *
  simp [Instr.index, run_underlying Tryd.underlying50, asIntOf, h1, sizeOf, typeInfo, hi, hs, part, Sem.run_bind]
  intro hnj
  omega
theorem exec_index_two (x : List Int) (hx : x.length = 128) (j : Nat) (hj : j < 2) (ev : Operand → Value) (o : Oper) (w : World) {p q : Operand} (ho : o.op = .index 50 p q) (hp : ev p = .agg (u8s x).toArray) (hq : ev q = .int .i64 j) : (execOp ev o).run Tryd.prog w = .ok (.value (.agg (u8s ((x.drop (64 * j)).take 64)).toArray)) w := by
  unfold execOp
  simp only [ho, hp, hq, Sem.run_bind, run_index_two w x hx j hj, Result.andThen_ok, Sem.run_pure]
/-- What a device comes to when a region is written, and what is told. -/
def De.D.put (d : De.D) (r : Rg) : De.D :=
  if d.F = 0 then d.write (r.gen % 2 * 2) (u8s r.s0).toArray
  else if (d.write (r.gen % 2 * 2) (u8s r.s0).toArray).F = 0 then (d.write (r.gen % 2 * 2) (u8s r.s0).toArray).write (r.gen % 2 * 2 + 1) (u8s r.s1).toArray
  else ((d.write (r.gen % 2 * 2) (u8s r.s0).toArray).write (r.gen % 2 * 2 + 1) (u8s r.s1).toArray).flush
def De.D.putE (d : De.D) (r : Rg) : Int :=
  if d.F = 0 then 12 else if (d.write (r.gen % 2 * 2) (u8s r.s0).toArray).F = 0 then 12 else ((d.write (r.gen % 2 * 2) (u8s r.s0).toArray).write (r.gen % 2 * 2 + 1) (u8s r.s1).toArray).flushE
theorem u8s_sec {l : List Int} (h : l.length = 64) : De.Sec (u8s l).toArray := ⟨by simp [h], fun v hv => by
  simp only [List.mem_toArray, List.mem_map] at hv
  obtain ⟨m, _, rfl⟩ := hv
  exact ⟨m, rfl⟩⟩
theorem De.D.writeE_of {d : De.D} {i : Int} (h : d.has i = true) : d.writeE i = if d.F = 0 then 12 else 0 := if_pos h
theorem De.D.write_S (d : De.D) (i : Int) (s : Array Value) : (d.write i s).S = d.S := by
  unfold De.D.write
  split
  · split <;> rfl
  · rfl
theorem De.D.write_T (d : De.D) (i : Int) (s : Array Value) : (d.write i s).T ≤ d.T + 1 := by
  unfold De.D.write
  split
  · split <;> simp
  · simp
theorem De.D.write_L (d : De.D) (i : Int) (s : Array Value) : (d.write i s).L.length ≤ d.L.length + 1 := by
  unfold De.D.write
  split
  · split <;> simp
  · simp


set_option maxRecDepth 100000 in
set_option maxHeartbeats 4000000 in
theorem write_nilbad (r : Rg) (hw : r.Wf) (hg : r.good = false) (w : World) : Calls Tryd.prog 6 #[.pointer none, .agg r.cells.toArray] w fun e w' => e = .returned (.int .i64 1) ∧ Below w.heap.size w w' := by
  have HWN := Lib.hid none_wf
  have HZ128 := Lib.hid (zeros_length 128)
  have HZ64 := Lib.hid (zeros_length 64)
  have HWF := Lib.hid hw
  have HBL : Hid (Below w.heap.size w w) := Lib.hid (Below.refl _ _)
  have HG := Lib.hid hg
  clear hw hg
  go_enter Tryd.func6, Tryd.ntmps6
  go_upto_region 0 with fail
  refine wp_region_lit ?_
  refine box_g (cs := r.cells.toArray) rfl rfl ?_
  intro w1 hA hb hl
  try simp only [Act.put, List.setIfInBounds_toArray, List.set_cons_succ, List.set_cons_zero]
  have HBLn := Lib.hid (HBL.out.trans (hb.mono HBL.out.size))
  have F2 : Hid (Blk w1 w.heap.size (r.cells)) := Lib.hid (by first | exact hA | simpa using hA)
  have GEg0 := Lib.hid HBL.out.size
  clear HBL
  have HBL := HBLn
  clear HBLn
  clear hA hb hl
  refine takeL (.int .i64 0) rfl (by go_simp) ?_
  try simp only [Act.put, List.setIfInBounds_toArray, List.set_cons_succ, List.set_cons_zero]
  refine wpList_nil ?_
  go_upto_region 1 with fail
  refine wp_region_lit ?_
  refine load27 (cs := r.cells.toArray) (Blk.all F2.out rfl) (by rw [List.size_toArray]; exact HWF.out.cells) rfl rfl ?_
  try simp only [Act.put, List.setIfInBounds_toArray, List.set_cons_succ, List.set_cons_zero]
  refine wpList_op rfl fun K hK => ?_
  go_simp
  refine (good_not HG.out HWF.out _).mono ?_
  rintro e w3 ⟨rfl, hb⟩
  have HBLn := Lib.hid (HBL.out.trans (hb.mono HBL.out.size))
  have F2n := Lib.hid (F2.out.below hb F2.out.lt)
  clear HBL F2
  have HBL := HBLn
  have F2 := F2n
  clear HBLn F2n
  clear hb
  refine hK _ _ ?_
  clear hK K
  try simp only [Act.put, List.setIfInBounds_toArray, List.set_cons_succ, List.set_cons_zero]
  refine takeL (.bool true) rfl (by go_simp) ?_
  try simp only [Act.put, List.setIfInBounds_toArray, List.set_cons_succ, List.set_cons_zero]
  refine takeL (.bool true) rfl (by go_simp) ?_
  try simp only [Act.put, List.setIfInBounds_toArray, List.set_cons_succ, List.set_cons_zero]
  refine passL rfl ?_
  try simp only [Act.put, List.setIfInBounds_toArray, List.set_cons_succ, List.set_cons_zero]
  refine passL rfl ?_
  try simp only [Act.put, List.setIfInBounds_toArray, List.set_cons_succ, List.set_cons_zero]
  refine passL rfl ?_
  try simp only [Act.put, List.setIfInBounds_toArray, List.set_cons_succ, List.set_cons_zero]
  refine passL rfl ?_
  try simp only [Act.put, List.setIfInBounds_toArray, List.set_cons_succ, List.set_cons_zero]
  refine takeL (.bool true) rfl (by go_simp) ?_
  try simp only [Act.put, List.setIfInBounds_toArray, List.set_cons_succ, List.set_cons_zero]
  refine wpList_nil ?_
  go_upto_region 2 with fail
  refine wp_region_lit ?_
  refine takeL (.int .i64 1) rfl (by go_simp) ?_
  try simp only [Act.put, List.setIfInBounds_toArray, List.set_cons_succ, List.set_cons_zero]
  refine wpList_nil ?_
  go_wp2_with fail
  go_ret
  exact ⟨rfl, HBL.out⟩

set_option maxRecDepth 100000 in
set_option maxHeartbeats 4000000 in
theorem write_nilgood (r : Rg) (hw : r.Wf) (hg : r.good = true) (w : World) : Calls Tryd.prog 6 #[.pointer none, .agg r.cells.toArray] w fun e w' => e = .returned (.int .i64 1) ∧ Below w.heap.size w w' := by
  have HWN := Lib.hid none_wf
  have HZ128 := Lib.hid (zeros_length 128)
  have HZ64 := Lib.hid (zeros_length 64)
  have HWF := Lib.hid hw
  have HBL : Hid (Below w.heap.size w w) := Lib.hid (Below.refl _ _)
  have HG := Lib.hid hg
  have HTL : Hid (¬ r.g.tot ≤ 0) := Lib.hid (by have := Gm.tot_good hg; omega)
  clear hw hg
  go_enter Tryd.func6, Tryd.ntmps6
  go_upto_region 0 with fail
  refine wp_region_lit ?_
  refine box_g (cs := r.cells.toArray) rfl rfl ?_
  intro w1 hA hb hl
  try simp only [Act.put, List.setIfInBounds_toArray, List.set_cons_succ, List.set_cons_zero]
  have HBLn := Lib.hid (HBL.out.trans (hb.mono HBL.out.size))
  have F2 : Hid (Blk w1 w.heap.size (r.cells)) := Lib.hid (by first | exact hA | simpa using hA)
  have GEg0 := Lib.hid HBL.out.size
  clear HBL
  have HBL := HBLn
  clear HBLn
  clear hA hb hl
  refine takeL (.int .i64 0) rfl (by go_simp) ?_
  try simp only [Act.put, List.setIfInBounds_toArray, List.set_cons_succ, List.set_cons_zero]
  refine wpList_nil ?_
  go_upto_region 1 with fail
  refine wp_region_lit ?_
  refine load27 (cs := r.cells.toArray) (Blk.all F2.out rfl) (by rw [List.size_toArray]; exact HWF.out.cells) rfl rfl ?_
  try simp only [Act.put, List.setIfInBounds_toArray, List.set_cons_succ, List.set_cons_zero]
  refine wpList_op rfl fun K hK => ?_
  go_simp
  refine (good_is HG.out HWF.out _).mono ?_
  rintro e w3 ⟨rfl, hb⟩
  have HBLn := Lib.hid (HBL.out.trans (hb.mono HBL.out.size))
  have F2n := Lib.hid (F2.out.below hb F2.out.lt)
  clear HBL F2
  have HBL := HBLn
  have F2 := F2n
  clear HBLn F2n
  clear hb
  refine hK _ _ ?_
  clear hK K
  try simp only [Act.put, List.setIfInBounds_toArray, List.set_cons_succ, List.set_cons_zero]
  refine takeL (.bool false) rfl (by go_simp) ?_
  try simp only [Act.put, List.setIfInBounds_toArray, List.set_cons_succ, List.set_cons_zero]
  refine takeL (.bool false) rfl (by go_simp) ?_
  try simp only [Act.put, List.setIfInBounds_toArray, List.set_cons_succ, List.set_cons_zero]
  refine takeL (.pointer none) rfl (by go_simp) ?_
  try simp only [Act.put, List.setIfInBounds_toArray, List.set_cons_succ, List.set_cons_zero]
  refine load27 (cs := r.cells.toArray) (Blk.all F2.out rfl) (by rw [List.size_toArray]; exact HWF.out.cells) rfl rfl ?_
  try simp only [Act.put, List.setIfInBounds_toArray, List.set_cons_succ, List.set_cons_zero]
  refine wpList_op rfl fun K hK => ?_
  go_simp
  refine (has_nil _ HWF.out _).mono ?_
  rintro e w4 ⟨rfl, hb⟩
  have HBLn := Lib.hid (HBL.out.trans (hb.mono HBL.out.size))
  have F2n := Lib.hid (F2.out.below hb F2.out.lt)
  clear HBL F2
  have HBL := HBLn
  have F2 := F2n
  clear HBLn F2n
  clear hb
  refine hK _ _ ?_
  clear hK K
  try simp only [Act.put, List.setIfInBounds_toArray, List.set_cons_succ, List.set_cons_zero]
  refine takeL (.bool true) rfl (by go_simp; (have hq := HTL.out; omega)) ?_
  try simp only [Act.put, List.setIfInBounds_toArray, List.set_cons_succ, List.set_cons_zero]
  refine takeL (.bool true) rfl (by go_simp) ?_
  try simp only [Act.put, List.setIfInBounds_toArray, List.set_cons_succ, List.set_cons_zero]
  refine wpList_nil ?_
  go_upto_region 2 with fail
  refine wp_region_lit ?_
  refine takeL (.int .i64 1) rfl (by go_simp) ?_
  try simp only [Act.put, List.setIfInBounds_toArray, List.set_cons_succ, List.set_cons_zero]
  refine wpList_nil ?_
  go_wp2_with fail
  go_ret
  exact ⟨rfl, HBL.out⟩

set_option maxRecDepth 100000 in
set_option maxHeartbeats 4000000 in
theorem write_bad (r : Rg) (hw : r.Wf) (hg : r.good = false) (w : World) {W0 : World} {b : Nat} {F : Nat → Prop} {d : De.D} (h : De.Dv W0 w b F d) : Calls Tryd.prog 6 #[.pointer (some ⟨b, 0, none⟩), .agg r.cells.toArray] w fun e w' => e = .returned (.int .i64 1) ∧ Below w.heap.size w w' := by
  have HWN := Lib.hid none_wf
  have HZ128 := Lib.hid (zeros_length 128)
  have HZ64 := Lib.hid (zeros_length 64)
  have HWF := Lib.hid hw
  have HBL : Hid (Below w.heap.size w w) := Lib.hid (Below.refl _ _)
  have HG := Lib.hid hg
  have HD := Lib.hid h
  clear hw hg h
  go_enter Tryd.func6, Tryd.ntmps6
  go_upto_region 0 with fail
  refine wp_region_lit ?_
  refine box_g (cs := r.cells.toArray) rfl rfl ?_
  intro w1 hA hb hl
  try simp only [Act.put, List.setIfInBounds_toArray, List.set_cons_succ, List.set_cons_zero]
  have NFg0 := Lib.hid (fun hk => Nat.lt_irrefl _ (HD.out.lt w.heap.size hk).2)
  have GDg0 := Lib.hid HD.out.2.size
  have HBLn := Lib.hid (HBL.out.trans (hb.mono HBL.out.size))
  have HDn := Lib.hid (HD.out.below hb)
  have F2 : Hid (Blk w1 w.heap.size (r.cells)) := Lib.hid (by first | exact hA | simpa using hA)
  have GEg0 := Lib.hid HBL.out.size
  clear HBL HD
  have HBL := HBLn
  have HD := HDn
  clear HBLn HDn
  clear hA hb hl
  refine takeL (.int .i64 0) rfl (by go_simp) ?_
  try simp only [Act.put, List.setIfInBounds_toArray, List.set_cons_succ, List.set_cons_zero]
  refine wpList_nil ?_
  go_upto_region 1 with fail
  refine wp_region_lit ?_
  refine load27 (cs := r.cells.toArray) (Blk.all F2.out rfl) (by rw [List.size_toArray]; exact HWF.out.cells) rfl rfl ?_
  try simp only [Act.put, List.setIfInBounds_toArray, List.set_cons_succ, List.set_cons_zero]
  refine wpList_op rfl fun K hK => ?_
  go_simp
  refine (good_not HG.out HWF.out _).mono ?_
  rintro e w3 ⟨rfl, hb⟩
  have HBLn := Lib.hid (HBL.out.trans (hb.mono HBL.out.size))
  have F2n := Lib.hid (F2.out.below hb F2.out.lt)
  have HDn := Lib.hid (HD.out.below hb)
  clear HBL F2 HD
  have HBL := HBLn
  have F2 := F2n
  have HD := HDn
  clear HBLn F2n HDn
  clear hb
  refine hK _ _ ?_
  clear hK K
  try simp only [Act.put, List.setIfInBounds_toArray, List.set_cons_succ, List.set_cons_zero]
  refine takeL (.bool true) rfl (by go_simp) ?_
  try simp only [Act.put, List.setIfInBounds_toArray, List.set_cons_succ, List.set_cons_zero]
  refine takeL (.bool true) rfl (by go_simp) ?_
  try simp only [Act.put, List.setIfInBounds_toArray, List.set_cons_succ, List.set_cons_zero]
  refine passL rfl ?_
  try simp only [Act.put, List.setIfInBounds_toArray, List.set_cons_succ, List.set_cons_zero]
  refine passL rfl ?_
  try simp only [Act.put, List.setIfInBounds_toArray, List.set_cons_succ, List.set_cons_zero]
  refine passL rfl ?_
  try simp only [Act.put, List.setIfInBounds_toArray, List.set_cons_succ, List.set_cons_zero]
  refine passL rfl ?_
  try simp only [Act.put, List.setIfInBounds_toArray, List.set_cons_succ, List.set_cons_zero]
  refine takeL (.bool true) rfl (by go_simp) ?_
  try simp only [Act.put, List.setIfInBounds_toArray, List.set_cons_succ, List.set_cons_zero]
  refine wpList_nil ?_
  go_upto_region 2 with fail
  refine wp_region_lit ?_
  refine takeL (.int .i64 1) rfl (by go_simp) ?_
  try simp only [Act.put, List.setIfInBounds_toArray, List.set_cons_succ, List.set_cons_zero]
  refine wpList_nil ?_
  go_wp2_with fail
  go_ret
  exact ⟨rfl, HBL.out⟩

set_option maxRecDepth 100000 in
set_option maxHeartbeats 4000000 in
theorem write_small (r : Rg) (hw : r.Wf) (hg : r.good = true) (w : World) {W0 : World} {b : Nat} {F : Nat → Prop} {d : De.D} (h : De.Dv W0 w b F d) (ht : ¬ r.g.tot ≤ (d.S.length : Int)) : Calls Tryd.prog 6 #[.pointer (some ⟨b, 0, none⟩), .agg r.cells.toArray] w fun e w' => e = .returned (.int .i64 1) ∧ Below w.heap.size w w' := by
  have HWN := Lib.hid none_wf
  have HZ128 := Lib.hid (zeros_length 128)
  have HZ64 := Lib.hid (zeros_length 64)
  have HWF := Lib.hid hw
  have HBL : Hid (Below w.heap.size w w) := Lib.hid (Below.refl _ _)
  have HG := Lib.hid hg
  have HD := Lib.hid h
  have HTL := Lib.hid ht
  clear hw hg h ht
  go_enter Tryd.func6, Tryd.ntmps6
  go_upto_region 0 with fail
  refine wp_region_lit ?_
  refine box_g (cs := r.cells.toArray) rfl rfl ?_
  intro w1 hA hb hl
  try simp only [Act.put, List.setIfInBounds_toArray, List.set_cons_succ, List.set_cons_zero]
  have NFg0 := Lib.hid (fun hk => Nat.lt_irrefl _ (HD.out.lt w.heap.size hk).2)
  have GDg0 := Lib.hid HD.out.2.size
  have HBLn := Lib.hid (HBL.out.trans (hb.mono HBL.out.size))
  have HDn := Lib.hid (HD.out.below hb)
  have F2 : Hid (Blk w1 w.heap.size (r.cells)) := Lib.hid (by first | exact hA | simpa using hA)
  have GEg0 := Lib.hid HBL.out.size
  clear HBL HD
  have HBL := HBLn
  have HD := HDn
  clear HBLn HDn
  clear hA hb hl
  refine takeL (.int .i64 0) rfl (by go_simp) ?_
  try simp only [Act.put, List.setIfInBounds_toArray, List.set_cons_succ, List.set_cons_zero]
  refine wpList_nil ?_
  go_upto_region 1 with fail
  refine wp_region_lit ?_
  refine load27 (cs := r.cells.toArray) (Blk.all F2.out rfl) (by rw [List.size_toArray]; exact HWF.out.cells) rfl rfl ?_
  try simp only [Act.put, List.setIfInBounds_toArray, List.set_cons_succ, List.set_cons_zero]
  refine wpList_op rfl fun K hK => ?_
  go_simp
  refine (good_is HG.out HWF.out _).mono ?_
  rintro e w3 ⟨rfl, hb⟩
  have HBLn := Lib.hid (HBL.out.trans (hb.mono HBL.out.size))
  have F2n := Lib.hid (F2.out.below hb F2.out.lt)
  have HDn := Lib.hid (HD.out.below hb)
  clear HBL F2 HD
  have HBL := HBLn
  have F2 := F2n
  have HD := HDn
  clear HBLn F2n HDn
  clear hb
  refine hK _ _ ?_
  clear hK K
  try simp only [Act.put, List.setIfInBounds_toArray, List.set_cons_succ, List.set_cons_zero]
  refine takeL (.bool false) rfl (by go_simp) ?_
  try simp only [Act.put, List.setIfInBounds_toArray, List.set_cons_succ, List.set_cons_zero]
  refine takeL (.bool false) rfl (by go_simp) ?_
  try simp only [Act.put, List.setIfInBounds_toArray, List.set_cons_succ, List.set_cons_zero]
  refine takeL (.pointer (some ⟨b, 0, none⟩)) rfl (by go_simp) ?_
  try simp only [Act.put, List.setIfInBounds_toArray, List.set_cons_succ, List.set_cons_zero]
  refine load27 (cs := r.cells.toArray) (Blk.all F2.out rfl) (by rw [List.size_toArray]; exact HWF.out.cells) rfl rfl ?_
  try simp only [Act.put, List.setIfInBounds_toArray, List.set_cons_succ, List.set_cons_zero]
  refine wpList_op rfl fun K hK => ?_
  go_simp
  refine (has_any _ HWF.out _ HD.out).mono ?_
  rintro e w4 ⟨rfl, hb⟩
  have HBLn := Lib.hid (HBL.out.trans (hb.mono HBL.out.size))
  have F2n := Lib.hid (F2.out.below hb F2.out.lt)
  have HDn := Lib.hid (HD.out.below hb)
  clear HBL F2 HD
  have HBL := HBLn
  have F2 := F2n
  have HD := HDn
  clear HBLn F2n HDn
  clear hb
  refine hK _ _ ?_
  clear hK K
  try simp only [Act.put, List.setIfInBounds_toArray, List.set_cons_succ, List.set_cons_zero]
  refine takeL (.bool true) rfl (by go_simp; (have hq := HTL.out; omega)) ?_
  try simp only [Act.put, List.setIfInBounds_toArray, List.set_cons_succ, List.set_cons_zero]
  refine takeL (.bool true) rfl (by go_simp) ?_
  try simp only [Act.put, List.setIfInBounds_toArray, List.set_cons_succ, List.set_cons_zero]
  refine wpList_nil ?_
  go_upto_region 2 with fail
  refine wp_region_lit ?_
  refine takeL (.int .i64 1) rfl (by go_simp) ?_
  try simp only [Act.put, List.setIfInBounds_toArray, List.set_cons_succ, List.set_cons_zero]
  refine wpList_nil ?_
  go_wp2_with fail
  go_ret
  exact ⟨rfl, HBL.out⟩

theorem write_nil (r : Rg) (hw : r.Wf) (w : World) : Calls Tryd.prog 6 #[.pointer none, .agg r.cells.toArray] w fun e w' => e = .returned (.int .i64 1) ∧ Below w.heap.size w w' := by
  cases hg : r.good with
  | false => exact write_nilbad r hw hg w
  | true => exact write_nilgood r hw hg w
theorem write_no (r : Rg) (hw : r.Wf) (w : World) {W0 : World} {b : Nat} {F : Nat → Prop} {d : De.D} (h : De.Dv W0 w b F d) (hn : ¬ (r.good = true ∧ r.g.tot ≤ (d.S.length : Int))) : Calls Tryd.prog 6 #[.pointer (some ⟨b, 0, none⟩), .agg r.cells.toArray] w fun e w' => e = .returned (.int .i64 1) ∧ Below w.heap.size w w' := by
  cases hg : r.good with
  | false => exact write_bad r hw hg w h
  | true => exact write_small r hw hg w h fun h => hn ⟨hg, h⟩


set_option maxRecDepth 100000 in
set_option maxHeartbeats 4000000 in
theorem write_yes0 (r : Rg) (hw : r.Wf) (hg : r.good = true) (w : World) {W0 : World} {b : Nat} {F : Nat → Prop} {d : De.D} (h : De.Dv W0 w b F d) (hev : ErrVar w) (h0 : 0 < W0.heap.size) (ht : r.g.tot ≤ (d.S.length : Int)) (hT : d.T ≤ 900000) (hLn : d.L.length ≤ 900000) (n : Int) (hn : r.gen % 2 = n) (hF : d.F = 0) : Calls Tryd.prog 6 #[.pointer (some ⟨b, 0, none⟩), .agg r.cells.toArray] w (De.After W0 w b F (.int .i64 12) (d.write (n * 2) (u8s r.s0).toArray)) := by
  have HWN := Lib.hid none_wf
  have HZ128 := Lib.hid (zeros_length 128)
  have HZ64 := Lib.hid (zeros_length 64)
  have HWF := Lib.hid hw
  have HG := Lib.hid hg
  have HEV := Lib.hid hev
  have HP := Lib.hid hev.lt
  have HP0 := Lib.hid h0
  have HTL := Lib.hid ht
  have HEL := Lib.hid (enc_length hw.len)
  have HT := Lib.hid hT
  have HLN := Lib.hid hLn
  have HRL := Lib.hid hw.len
  have hlt : 148 ≤ (d.S.length : Int) := Int.le_trans (Gm.tot_good hg) ht
  have HNB : Hid (∀ w, Calls Tryd.prog 13 #[.agg r.cells.toArray] w fun e w' => e = .returned (.int .i64 n) ∧ Below w.heap.size w w') := Lib.hid fun w => hn ▸ number_any r hw w
  have h01 : 0 ≤ n ∧ n ≤ 1 := by omega
  have HM : Hid (IntKind.i64.wrap (n * 2) = n * 2) := Lib.hid (wrap64 (by omega) (by omega))
  have HM1 : Hid (IntKind.i64.wrap (n * 2 + 1) = n * 2 + 1) := Lib.hid (wrap64 (by omega) (by omega))
  have HH0 : Hid (d.has (n * 2) = true) := Lib.hid (by simp [De.D.has]; omega)
  have HH1 : Hid ((d.write (n * 2) (u8s r.s0).toArray).has (n * 2 + 1) = true) := Lib.hid (by simp only [De.D.has, De.D.write_S]; simp; omega)
  have HE0 : Hid (d.writeE (n * 2) = 12) := Lib.hid (by rw [De.D.writeE_of HH0.out, if_pos hF])
  have HS0 : Hid ((r.enc.drop (64 * 0)).take 64 = r.s0) := Lib.hid (by simp [Rg.enc, s0_length])
  have HS1 : Hid ((r.enc.drop (64 * 1)).take 64 = r.s1) := Lib.hid (by have h1 := s1_length hw.len; simp [Rg.enc, s0_length]; rw [List.take_of_length_le (by omega)])
  have HL0 := Lib.hid (s0_length r)
  have HL1 := Lib.hid (s1_length hw.len)
  have HT1 := Lib.hid (De.D.write_T d (n * 2) (u8s r.s0).toArray)
  have HLN1 := Lib.hid (De.D.write_L d (n * 2) (u8s r.s0).toArray)
  have HT2 := Lib.hid (De.D.write_T (d.write (n * 2) (u8s r.s0).toArray) (n * 2 + 1) (u8s r.s1).toArray)
  have HLN2 := Lib.hid (De.D.write_L (d.write (n * 2) (u8s r.s0).toArray) (n * 2 + 1) (u8s r.s1).toArray)
  have HBL : Hid (Only F w w) := Lib.hid (Only.refl _ _)
  have HFF : Hid (∀ k, F k → F k ∨ w.heap.size ≤ k) := Lib.hid fun _ h => .inl h
  have HD := Lib.hid h
  clear hw h hg hev h0 ht hlt hT hLn hn h01 hF
  go_enter Tryd.func6, Tryd.ntmps6
  go_upto_region 0 with fail
  refine wp_region_lit ?_
  refine box_g (cs := r.cells.toArray) rfl rfl ?_
  intro w1 hA hb hl
  try simp only [Act.put, List.setIfInBounds_toArray, List.set_cons_succ, List.set_cons_zero]
  have NFg0 := Lib.hid (fun hk => Nat.lt_irrefl _ (HD.out.lt w.heap.size hk).2)
  have GDg0 := Lib.hid HD.out.2.size
  have HBLn := Lib.hid (HBL.out.trans (Only.of_below hb))
  have HDn := Lib.hid (HD.out.below hb)
  have HEVn := Lib.hid (HEV.out.below (Nat.le_refl _) hb)
  have F2 : Hid (Blk w1 w.heap.size (r.cells)) := Lib.hid (by first | exact hA | simpa using hA)
  have GEg0 := Lib.hid HBL.out.size
  clear HBL HD HEV
  have HBL := HBLn
  have HD := HDn
  have HEV := HEVn
  clear HBLn HDn HEVn
  clear hA hb hl
  refine takeL (.int .i64 0) rfl (by go_simp) ?_
  try simp only [Act.put, List.setIfInBounds_toArray, List.set_cons_succ, List.set_cons_zero]
  refine wpList_nil ?_
  go_upto_region 1 with fail
  refine wp_region_lit ?_
  refine load27 (cs := r.cells.toArray) (Blk.all F2.out rfl) (by rw [List.size_toArray]; exact HWF.out.cells) rfl rfl ?_
  try simp only [Act.put, List.setIfInBounds_toArray, List.set_cons_succ, List.set_cons_zero]
  refine wpList_op rfl fun K hK => ?_
  go_simp
  refine (good_is HG.out HWF.out _).mono ?_
  rintro e w3 ⟨rfl, hb⟩
  have HBLn := Lib.hid (HBL.out.trans (Only.of_below hb))
  have F2n := Lib.hid (F2.out.below hb F2.out.lt)
  have HDn := Lib.hid (HD.out.below hb)
  have HEVn := Lib.hid (HEV.out.below (Nat.le_refl _) hb)
  clear HBL F2 HD HEV
  have HBL := HBLn
  have F2 := F2n
  have HD := HDn
  have HEV := HEVn
  clear HBLn F2n HDn HEVn
  clear hb
  refine hK _ _ ?_
  clear hK K
  try simp only [Act.put, List.setIfInBounds_toArray, List.set_cons_succ, List.set_cons_zero]
  refine takeL (.bool false) rfl (by go_simp) ?_
  try simp only [Act.put, List.setIfInBounds_toArray, List.set_cons_succ, List.set_cons_zero]
  refine takeL (.bool false) rfl (by go_simp) ?_
  try simp only [Act.put, List.setIfInBounds_toArray, List.set_cons_succ, List.set_cons_zero]
  refine takeL (.pointer (some ⟨b, 0, none⟩)) rfl (by go_simp) ?_
  try simp only [Act.put, List.setIfInBounds_toArray, List.set_cons_succ, List.set_cons_zero]
  refine load27 (cs := r.cells.toArray) (Blk.all F2.out rfl) (by rw [List.size_toArray]; exact HWF.out.cells) rfl rfl ?_
  try simp only [Act.put, List.setIfInBounds_toArray, List.set_cons_succ, List.set_cons_zero]
  refine wpList_op rfl fun K hK => ?_
  go_simp
  refine (has_any _ HWF.out _ HD.out).mono ?_
  rintro e w4 ⟨rfl, hb⟩
  have HBLn := Lib.hid (HBL.out.trans (Only.of_below hb))
  have F2n := Lib.hid (F2.out.below hb F2.out.lt)
  have HDn := Lib.hid (HD.out.below hb)
  have HEVn := Lib.hid (HEV.out.below (Nat.le_refl _) hb)
  clear HBL F2 HD HEV
  have HBL := HBLn
  have F2 := F2n
  have HD := HDn
  have HEV := HEVn
  clear HBLn F2n HDn HEVn
  clear hb
  refine hK _ _ ?_
  clear hK K
  try simp only [Act.put, List.setIfInBounds_toArray, List.set_cons_succ, List.set_cons_zero]
  refine takeL (.bool false) rfl (by go_simp; (have hq := HTL.out; omega)) ?_
  try simp only [Act.put, List.setIfInBounds_toArray, List.set_cons_succ, List.set_cons_zero]
  refine takeL (.bool false) rfl (by go_simp) ?_
  try simp only [Act.put, List.setIfInBounds_toArray, List.set_cons_succ, List.set_cons_zero]
  refine wpList_nil ?_
  go_upto_region 3 with fail
  refine wp_region_lit ?_
  refine load27 (cs := r.cells.toArray) (Blk.all F2.out rfl) (by rw [List.size_toArray]; exact HWF.out.cells) rfl rfl ?_
  try simp only [Act.put, List.setIfInBounds_toArray, List.set_cons_succ, List.set_cons_zero]
  refine wpList_op rfl fun K hK => ?_
  go_simp
  refine (encode_yes HG.out HWF.out _ HEV.out).mono ?_
  rintro e w5 ⟨rfl, hb⟩
  have HBLn := Lib.hid (HBL.out.trans (Only.of_below hb))
  have F2n := Lib.hid (F2.out.below hb F2.out.lt)
  have HDn := Lib.hid (HD.out.below hb)
  have HEVn := Lib.hid (HEV.out.below (Nat.le_refl _) hb)
  clear HBL F2 HD HEV
  have HBL := HBLn
  have F2 := F2n
  have HD := HDn
  have HEV := HEVn
  clear HBLn F2n HDn HEVn
  clear hb
  refine hK _ _ ?_
  clear hK K
  try simp only [Act.put, List.setIfInBounds_toArray, List.set_cons_succ, List.set_cons_zero]
  refine takeL (.tuple #[.agg (u8s r.enc).toArray, .int .i64 0]) rfl (by go_simp) ?_
  try simp only [Act.put, List.setIfInBounds_toArray, List.set_cons_succ, List.set_cons_zero]
  refine takeL (.agg (u8s r.enc).toArray) rfl (by go_simp) ?_
  try simp only [Act.put, List.setIfInBounds_toArray, List.set_cons_succ, List.set_cons_zero]
  refine takeL (.int .i64 0) rfl (by go_simp) ?_
  try simp only [Act.put, List.setIfInBounds_toArray, List.set_cons_succ, List.set_cons_zero]
  refine alloc_g zero50 rfl ?_
  intro w6 hA hb hl
  try simp only [Act.put, List.setIfInBounds_toArray, List.set_cons_succ, List.set_cons_zero]
  have NFg7 := Lib.hid (fun hk => Nat.lt_irrefl _ (HD.out.lt w5.heap.size hk).2)
  have GDg7 := Lib.hid HD.out.2.size
  have HBLn := Lib.hid (HBL.out.trans (Only.of_below hb))
  have F2n := Lib.hid (F2.out.below hb F2.out.lt)
  have NEg0_g7 := Lib.hid (Nat.ne_of_lt F2.out.lt)
  have HDn := Lib.hid (HD.out.below hb)
  have HEVn := Lib.hid (HEV.out.below (Nat.le_refl _) hb)
  have F8 : Hid (Blk w6 w5.heap.size (u8s (zeros 128))) := Lib.hid (by first | exact hA | simpa using hA)
  have GEg7 := Lib.hid HBL.out.size
  clear HBL F2 HD HEV
  have HBL := HBLn
  have F2 := F2n
  have HD := HDn
  have HEV := HEVn
  clear HBLn F2n HDn HEVn
  clear hA hb hl
  generalize w5.heap.size = g7 at *
  refine store_all (cs := (u8s r.enc).toArray) F8.out (by rw [u8s_size, HEL.out]; simp [HZ128.out]) (by rw [u8s_size, HEL.out]; exact info50) (u8s_one _) rfl rfl rfl ?_
  intro w9 hD hO hlD
  try simp only [Act.put, List.setIfInBounds_toArray, List.set_cons_succ, List.set_cons_zero]
  have HBLn := Lib.hid (HBL.out.into hO GEg7.out)
  have F2n := Lib.hid (F2.out.only hO (NEg0_g7.out))
  have F8n : Hid (Blk w9 g7 (u8s r.enc)) := Lib.hid (by first | exact hD | simpa using hD)
  have HDn := Lib.hid (HD.out.go1 hO GDg7.out NFg7.out)
  have HEVn := Lib.hid (HEV.out.keep hO GEg7.out HP.out)
  clear HBL F2 F8 HD HEV
  have HBL := HBLn
  have F2 := F2n
  have F8 := F8n
  have HD := HDn
  have HEV := HEVn
  clear HBLn F2n F8n HDn HEVn
  clear hD hO hlD
  refine takeL (.int .i64 0) rfl (by go_simp) ?_
  try simp only [Act.put, List.setIfInBounds_toArray, List.set_cons_succ, List.set_cons_zero]
  refine wpList_nil ?_
  go_upto_region 4 with fail
  refine wp_region_lit ?_
  refine load27 (cs := r.cells.toArray) (Blk.all F2.out rfl) (by rw [List.size_toArray]; exact HWF.out.cells) rfl rfl ?_
  try simp only [Act.put, List.setIfInBounds_toArray, List.set_cons_succ, List.set_cons_zero]
  refine wpList_op rfl fun K hK => ?_
  go_simp
  refine (HNB.out _).mono ?_
  rintro e w10 ⟨rfl, hb⟩
  have HBLn := Lib.hid (HBL.out.trans (Only.of_below hb))
  have F2n := Lib.hid (F2.out.below hb F2.out.lt)
  have F8n := Lib.hid (F8.out.below hb F8.out.lt)
  have HDn := Lib.hid (HD.out.below hb)
  have HEVn := Lib.hid (HEV.out.below (Nat.le_refl _) hb)
  clear HBL F2 F8 HD HEV
  have HBL := HBLn
  have F2 := F2n
  have F8 := F8n
  have HD := HDn
  have HEV := HEVn
  clear HBLn F2n F8n HDn HEVn
  clear hb
  refine hK _ _ ?_
  clear hK K
  try simp only [Act.put, List.setIfInBounds_toArray, List.set_cons_succ, List.set_cons_zero]
  refine takeL (.int .i64 (n * 2)) rfl (by go_simp; simp [HM.out]) ?_
  try simp only [Act.put, List.setIfInBounds_toArray, List.set_cons_succ, List.set_cons_zero]
  refine takeL (.int .i64 (n * 2)) rfl (by go_simp) ?_
  try simp only [Act.put, List.setIfInBounds_toArray, List.set_cons_succ, List.set_cons_zero]
  refine wpList_nil ?_
  go_upto_region 5 with fail
  refine wp_region_lit ?_
  refine load50 (cs := (u8s r.enc).toArray) (Blk.all F8.out rfl) (by rw [u8s_size, HEL.out]) rfl rfl ?_
  try simp only [Act.put, List.setIfInBounds_toArray, List.set_cons_succ, List.set_cons_zero]
  refine takeL (.int .i64 0) rfl (by go_simp) ?_
  try simp only [Act.put, List.setIfInBounds_toArray, List.set_cons_succ, List.set_cons_zero]
  refine wpList_nil ?_
  go_wp2_with fail
  go_loopg [29] 2 (fun q i wr => ∃ (k : Nat) (Fk : Nat → Prop), 2 - k ≤ q ∧ k ≤ 0 ∧ i = .int .i64 k ∧ Only F w wr ∧ (∀ k, Fk k → F k ∨ w.heap.size ≤ k) ∧ De.Dv W0 wr b Fk (at3 d (d.write (n * 2) (u8s r.s0).toArray) ((d.write (n * 2) (u8s r.s0).toArray).write (n * 2 + 1) (u8s r.s1).toArray) k))
  case atStart => exact ⟨0, F, by omega, by omega, rfl, HBL.out, HFF.out, HD.out⟩
  case round =>
    obtain ⟨k, Fk, hq, hk, rfl, h0, h1, h2⟩ := hrel
    clear F2 F8 HBL HD HEV HFF
    have HBL := Lib.hid h0
    have HFF := Lib.hid h1
    have HDk := Lib.hid h2
    clear h0 h1 h2
    obtain rfl : k = 0 := by omega
    · have HD : Hid (De.Dv W0 wr b Fk d) := Lib.hid HDk.out
      clear HDk
      go_upto_region 7 with fail
      refine wp_region_lit ?_
      refine takeL (.int .i64 (((0 : Nat) : Int))) rfl (by go_simp) ?_
      try simp only [Act.put, List.setIfInBounds_toArray, List.set_cons_succ, List.set_cons_zero]
      refine takeL (.agg (u8s r.s0).toArray) rfl (by have hqq := exec_index_two r.enc HEL.out 0 (by decide); rw [HS0.out] at hqq; exact hqq _ _ _ rfl rfl rfl) ?_
      try simp only [Act.put, List.setIfInBounds_toArray, List.set_cons_succ, List.set_cons_zero]
      refine alloc_g zero49 rfl ?_
      intro w11 hA hb hl
      try simp only [Act.put, List.setIfInBounds_toArray, List.set_cons_succ, List.set_cons_zero]
      have NFg12 := Lib.hid (fun hk => Nat.lt_irrefl _ (HD.out.lt wr.heap.size hk).2)
      have GDg12 := Lib.hid HD.out.2.size
      have HBLn := Lib.hid (HBL.out.trans (Only.of_below hb))
      have HDn := Lib.hid (HD.out.below hb)
      have F13 : Hid (Blk w11 wr.heap.size (u8s (zeros 64))) := Lib.hid (by first | exact hA | simpa using hA)
      have GEg12 := Lib.hid HBL.out.size
      clear HBL HD
      have HBL := HBLn
      have HD := HDn
      clear HBLn HDn
      clear hA hb hl
      generalize wr.heap.size = g12 at *
      refine takeL (.int .i64 (((0 : Nat) : Int))) rfl (by go_simp) ?_
      try simp only [Act.put, List.setIfInBounds_toArray, List.set_cons_succ, List.set_cons_zero]
      refine store_all (cs := (u8s r.s0).toArray) F13.out (by rw [u8s_size, HL0.out]; simp [HZ64.out]) (by rw [u8s_size, HL0.out]; exact info49) (u8s_one _) rfl rfl rfl ?_
      intro w14 hD hO hlD
      try simp only [Act.put, List.setIfInBounds_toArray, List.set_cons_succ, List.set_cons_zero]
      have HBLn := Lib.hid (HBL.out.into hO GEg12.out)
      have F13n : Hid (Blk w14 g12 (u8s r.s0)) := Lib.hid (by first | exact hD | simpa using hD)
      have HDn := Lib.hid (HD.out.go1 hO GDg12.out NFg12.out)
      clear HBL F13 HD
      have HBL := HBLn
      have F13 := F13n
      have HD := HDn
      clear HBLn F13n HDn
      clear hD hO hlD
      refine wpList_nil ?_
      go_upto_region 8 with fail
      refine wp_region_lit ?_
      refine takeL (.pointer (some ⟨b, 0, none⟩)) rfl (by go_simp) ?_
      try simp only [Act.put, List.setIfInBounds_toArray, List.set_cons_succ, List.set_cons_zero]
      refine takeL (.int .i64 (n * 2)) rfl (by go_simp) ?_
      try simp only [Act.put, List.setIfInBounds_toArray, List.set_cons_succ, List.set_cons_zero]
      refine takeL (.int .i64 (((0 : Nat) : Int))) rfl (by go_simp) ?_
      try simp only [Act.put, List.setIfInBounds_toArray, List.set_cons_succ, List.set_cons_zero]
      refine takeL (.int .i64 (n * 2)) rfl (by go_simp; simp [HM.out]) ?_
      try simp only [Act.put, List.setIfInBounds_toArray, List.set_cons_succ, List.set_cons_zero]
      refine load49 (cs := (u8s r.s0).toArray) (Blk.all F13.out rfl) (by rw [u8s_size, HL0.out]) rfl rfl ?_
      try simp only [Act.put, List.setIfInBounds_toArray, List.set_cons_succ, List.set_cons_zero]
      refine wpList_op rfl fun K hK => ?_
      go_simp
      refine (De.dv_write HD.out (Nat.le_trans HT.out (by decide)) (Nat.le_trans HLN.out (by decide)) (n * 2) _ (u8s_sec HL0.out)).mono ?_
      rintro e w15 ⟨Fd16, rfl, hd, hO, hf⟩
      rw [HE0.out]
      have F13n := Lib.hid (F13.out.only hO NFg12.out)
      have NFg12n : Hid (¬ Fd16 g12) := Lib.hid fun hk => (hf _ hk).elim NFg12.out fun hk => Nat.lt_irrefl _ (Nat.lt_of_lt_of_le F13.out.lt hk)
      clear NFg12
      have NFg12 := NFg12n
      clear NFg12n
      have HBLn := Lib.hid (HBL.out.after hO HFF.out)
      have HFFn := Lib.hid (Only.foot HFF.out hf HBL.out.size)
      clear HFF
      have HFF := HFFn
      clear HFFn
      have HDn := Lib.hid hd
      clear HBL F13 HD
      have HBL := HBLn
      have F13 := F13n
      have HD := HDn
      clear HBLn F13n HDn
      clear hd hO hf
      refine hK _ _ ?_
      clear hK K
      try simp only [Act.put, List.setIfInBounds_toArray, List.set_cons_succ, List.set_cons_zero]
      refine takeL (.int .i64 12) rfl (by go_simp) ?_
      try simp only [Act.put, List.setIfInBounds_toArray, List.set_cons_succ, List.set_cons_zero]
      refine wpList_nil ?_
      go_upto_region 9 with fail
      refine wp_region_lit ?_
      refine takeL (.int .i64 12) rfl (by go_simp) ?_
      try simp only [Act.put, List.setIfInBounds_toArray, List.set_cons_succ, List.set_cons_zero]
      refine takeL (.bool true) rfl (by go_simp) ?_
      try simp only [Act.put, List.setIfInBounds_toArray, List.set_cons_succ, List.set_cons_zero]
      refine wpList_nil ?_
      go_upto_region 10 with fail
      refine wp_region_lit ?_
      refine takeL (.int .i64 12) rfl (by go_simp) ?_
      try simp only [Act.put, List.setIfInBounds_toArray, List.set_cons_succ, List.set_cons_zero]
      refine takeL (.int .i64 12) rfl (by go_simp) ?_
      try simp only [Act.put, List.setIfInBounds_toArray, List.set_cons_succ, List.set_cons_zero]
      refine wpList_nil ?_
      go_wp2_with fail
      go_ret
      exact ⟨Fd16, rfl, HD.out, HBL.out, HFF.out⟩

set_option maxRecDepth 100000 in
set_option maxHeartbeats 4000000 in
theorem write_yes1 (r : Rg) (hw : r.Wf) (hg : r.good = true) (w : World) {W0 : World} {b : Nat} {F : Nat → Prop} {d : De.D} (h : De.Dv W0 w b F d) (hev : ErrVar w) (h0 : 0 < W0.heap.size) (ht : r.g.tot ≤ (d.S.length : Int)) (hT : d.T ≤ 900000) (hLn : d.L.length ≤ 900000) (n : Int) (hn : r.gen % 2 = n) (hF : d.F ≠ 0) (hF1 : (d.write (n * 2) (u8s r.s0).toArray).F = 0) : Calls Tryd.prog 6 #[.pointer (some ⟨b, 0, none⟩), .agg r.cells.toArray] w (De.After W0 w b F (.int .i64 12) ((d.write (n * 2) (u8s r.s0).toArray).write (n * 2 + 1) (u8s r.s1).toArray)) := by
  have HWN := Lib.hid none_wf
  have HZ128 := Lib.hid (zeros_length 128)
  have HZ64 := Lib.hid (zeros_length 64)
  have HWF := Lib.hid hw
  have HG := Lib.hid hg
  have HEV := Lib.hid hev
  have HP := Lib.hid hev.lt
  have HP0 := Lib.hid h0
  have HTL := Lib.hid ht
  have HEL := Lib.hid (enc_length hw.len)
  have HT := Lib.hid hT
  have HLN := Lib.hid hLn
  have HRL := Lib.hid hw.len
  have hlt : 148 ≤ (d.S.length : Int) := Int.le_trans (Gm.tot_good hg) ht
  have HNB : Hid (∀ w, Calls Tryd.prog 13 #[.agg r.cells.toArray] w fun e w' => e = .returned (.int .i64 n) ∧ Below w.heap.size w w') := Lib.hid fun w => hn ▸ number_any r hw w
  have h01 : 0 ≤ n ∧ n ≤ 1 := by omega
  have HM : Hid (IntKind.i64.wrap (n * 2) = n * 2) := Lib.hid (wrap64 (by omega) (by omega))
  have HM1 : Hid (IntKind.i64.wrap (n * 2 + 1) = n * 2 + 1) := Lib.hid (wrap64 (by omega) (by omega))
  have HH0 : Hid (d.has (n * 2) = true) := Lib.hid (by simp [De.D.has]; omega)
  have HH1 : Hid ((d.write (n * 2) (u8s r.s0).toArray).has (n * 2 + 1) = true) := Lib.hid (by simp only [De.D.has, De.D.write_S]; simp; omega)
  have HE0 : Hid (d.writeE (n * 2) = 0) := Lib.hid (by rw [De.D.writeE_of HH0.out, if_neg hF])
  have HE1 : Hid ((d.write (n * 2) (u8s r.s0).toArray).writeE (n * 2 + 1) = 12) := Lib.hid (by rw [De.D.writeE_of HH1.out, if_pos hF1])
  have HS0 : Hid ((r.enc.drop (64 * 0)).take 64 = r.s0) := Lib.hid (by simp [Rg.enc, s0_length])
  have HS1 : Hid ((r.enc.drop (64 * 1)).take 64 = r.s1) := Lib.hid (by have h1 := s1_length hw.len; simp [Rg.enc, s0_length]; rw [List.take_of_length_le (by omega)])
  have HL0 := Lib.hid (s0_length r)
  have HL1 := Lib.hid (s1_length hw.len)
  have HT1 := Lib.hid (De.D.write_T d (n * 2) (u8s r.s0).toArray)
  have HLN1 := Lib.hid (De.D.write_L d (n * 2) (u8s r.s0).toArray)
  have HT2 := Lib.hid (De.D.write_T (d.write (n * 2) (u8s r.s0).toArray) (n * 2 + 1) (u8s r.s1).toArray)
  have HLN2 := Lib.hid (De.D.write_L (d.write (n * 2) (u8s r.s0).toArray) (n * 2 + 1) (u8s r.s1).toArray)
  have HBL : Hid (Only F w w) := Lib.hid (Only.refl _ _)
  have HFF : Hid (∀ k, F k → F k ∨ w.heap.size ≤ k) := Lib.hid fun _ h => .inl h
  have HD := Lib.hid h
  clear hw h hg hev h0 ht hlt hT hLn hn h01 hF hF1
  go_enter Tryd.func6, Tryd.ntmps6
  go_upto_region 0 with fail
  refine wp_region_lit ?_
  refine box_g (cs := r.cells.toArray) rfl rfl ?_
  intro w1 hA hb hl
  try simp only [Act.put, List.setIfInBounds_toArray, List.set_cons_succ, List.set_cons_zero]
  have NFg0 := Lib.hid (fun hk => Nat.lt_irrefl _ (HD.out.lt w.heap.size hk).2)
  have GDg0 := Lib.hid HD.out.2.size
  have HBLn := Lib.hid (HBL.out.trans (Only.of_below hb))
  have HDn := Lib.hid (HD.out.below hb)
  have HEVn := Lib.hid (HEV.out.below (Nat.le_refl _) hb)
  have F2 : Hid (Blk w1 w.heap.size (r.cells)) := Lib.hid (by first | exact hA | simpa using hA)
  have GEg0 := Lib.hid HBL.out.size
  clear HBL HD HEV
  have HBL := HBLn
  have HD := HDn
  have HEV := HEVn
  clear HBLn HDn HEVn
  clear hA hb hl
  refine takeL (.int .i64 0) rfl (by go_simp) ?_
  try simp only [Act.put, List.setIfInBounds_toArray, List.set_cons_succ, List.set_cons_zero]
  refine wpList_nil ?_
  go_upto_region 1 with fail
  refine wp_region_lit ?_
  refine load27 (cs := r.cells.toArray) (Blk.all F2.out rfl) (by rw [List.size_toArray]; exact HWF.out.cells) rfl rfl ?_
  try simp only [Act.put, List.setIfInBounds_toArray, List.set_cons_succ, List.set_cons_zero]
  refine wpList_op rfl fun K hK => ?_
  go_simp
  refine (good_is HG.out HWF.out _).mono ?_
  rintro e w3 ⟨rfl, hb⟩
  have HBLn := Lib.hid (HBL.out.trans (Only.of_below hb))
  have F2n := Lib.hid (F2.out.below hb F2.out.lt)
  have HDn := Lib.hid (HD.out.below hb)
  have HEVn := Lib.hid (HEV.out.below (Nat.le_refl _) hb)
  clear HBL F2 HD HEV
  have HBL := HBLn
  have F2 := F2n
  have HD := HDn
  have HEV := HEVn
  clear HBLn F2n HDn HEVn
  clear hb
  refine hK _ _ ?_
  clear hK K
  try simp only [Act.put, List.setIfInBounds_toArray, List.set_cons_succ, List.set_cons_zero]
  refine takeL (.bool false) rfl (by go_simp) ?_
  try simp only [Act.put, List.setIfInBounds_toArray, List.set_cons_succ, List.set_cons_zero]
  refine takeL (.bool false) rfl (by go_simp) ?_
  try simp only [Act.put, List.setIfInBounds_toArray, List.set_cons_succ, List.set_cons_zero]
  refine takeL (.pointer (some ⟨b, 0, none⟩)) rfl (by go_simp) ?_
  try simp only [Act.put, List.setIfInBounds_toArray, List.set_cons_succ, List.set_cons_zero]
  refine load27 (cs := r.cells.toArray) (Blk.all F2.out rfl) (by rw [List.size_toArray]; exact HWF.out.cells) rfl rfl ?_
  try simp only [Act.put, List.setIfInBounds_toArray, List.set_cons_succ, List.set_cons_zero]
  refine wpList_op rfl fun K hK => ?_
  go_simp
  refine (has_any _ HWF.out _ HD.out).mono ?_
  rintro e w4 ⟨rfl, hb⟩
  have HBLn := Lib.hid (HBL.out.trans (Only.of_below hb))
  have F2n := Lib.hid (F2.out.below hb F2.out.lt)
  have HDn := Lib.hid (HD.out.below hb)
  have HEVn := Lib.hid (HEV.out.below (Nat.le_refl _) hb)
  clear HBL F2 HD HEV
  have HBL := HBLn
  have F2 := F2n
  have HD := HDn
  have HEV := HEVn
  clear HBLn F2n HDn HEVn
  clear hb
  refine hK _ _ ?_
  clear hK K
  try simp only [Act.put, List.setIfInBounds_toArray, List.set_cons_succ, List.set_cons_zero]
  refine takeL (.bool false) rfl (by go_simp; (have hq := HTL.out; omega)) ?_
  try simp only [Act.put, List.setIfInBounds_toArray, List.set_cons_succ, List.set_cons_zero]
  refine takeL (.bool false) rfl (by go_simp) ?_
  try simp only [Act.put, List.setIfInBounds_toArray, List.set_cons_succ, List.set_cons_zero]
  refine wpList_nil ?_
  go_upto_region 3 with fail
  refine wp_region_lit ?_
  refine load27 (cs := r.cells.toArray) (Blk.all F2.out rfl) (by rw [List.size_toArray]; exact HWF.out.cells) rfl rfl ?_
  try simp only [Act.put, List.setIfInBounds_toArray, List.set_cons_succ, List.set_cons_zero]
  refine wpList_op rfl fun K hK => ?_
  go_simp
  refine (encode_yes HG.out HWF.out _ HEV.out).mono ?_
  rintro e w5 ⟨rfl, hb⟩
  have HBLn := Lib.hid (HBL.out.trans (Only.of_below hb))
  have F2n := Lib.hid (F2.out.below hb F2.out.lt)
  have HDn := Lib.hid (HD.out.below hb)
  have HEVn := Lib.hid (HEV.out.below (Nat.le_refl _) hb)
  clear HBL F2 HD HEV
  have HBL := HBLn
  have F2 := F2n
  have HD := HDn
  have HEV := HEVn
  clear HBLn F2n HDn HEVn
  clear hb
  refine hK _ _ ?_
  clear hK K
  try simp only [Act.put, List.setIfInBounds_toArray, List.set_cons_succ, List.set_cons_zero]
  refine takeL (.tuple #[.agg (u8s r.enc).toArray, .int .i64 0]) rfl (by go_simp) ?_
  try simp only [Act.put, List.setIfInBounds_toArray, List.set_cons_succ, List.set_cons_zero]
  refine takeL (.agg (u8s r.enc).toArray) rfl (by go_simp) ?_
  try simp only [Act.put, List.setIfInBounds_toArray, List.set_cons_succ, List.set_cons_zero]
  refine takeL (.int .i64 0) rfl (by go_simp) ?_
  try simp only [Act.put, List.setIfInBounds_toArray, List.set_cons_succ, List.set_cons_zero]
  refine alloc_g zero50 rfl ?_
  intro w6 hA hb hl
  try simp only [Act.put, List.setIfInBounds_toArray, List.set_cons_succ, List.set_cons_zero]
  have NFg7 := Lib.hid (fun hk => Nat.lt_irrefl _ (HD.out.lt w5.heap.size hk).2)
  have GDg7 := Lib.hid HD.out.2.size
  have HBLn := Lib.hid (HBL.out.trans (Only.of_below hb))
  have F2n := Lib.hid (F2.out.below hb F2.out.lt)
  have NEg0_g7 := Lib.hid (Nat.ne_of_lt F2.out.lt)
  have HDn := Lib.hid (HD.out.below hb)
  have HEVn := Lib.hid (HEV.out.below (Nat.le_refl _) hb)
  have F8 : Hid (Blk w6 w5.heap.size (u8s (zeros 128))) := Lib.hid (by first | exact hA | simpa using hA)
  have GEg7 := Lib.hid HBL.out.size
  clear HBL F2 HD HEV
  have HBL := HBLn
  have F2 := F2n
  have HD := HDn
  have HEV := HEVn
  clear HBLn F2n HDn HEVn
  clear hA hb hl
  generalize w5.heap.size = g7 at *
  refine store_all (cs := (u8s r.enc).toArray) F8.out (by rw [u8s_size, HEL.out]; simp [HZ128.out]) (by rw [u8s_size, HEL.out]; exact info50) (u8s_one _) rfl rfl rfl ?_
  intro w9 hD hO hlD
  try simp only [Act.put, List.setIfInBounds_toArray, List.set_cons_succ, List.set_cons_zero]
  have HBLn := Lib.hid (HBL.out.into hO GEg7.out)
  have F2n := Lib.hid (F2.out.only hO (NEg0_g7.out))
  have F8n : Hid (Blk w9 g7 (u8s r.enc)) := Lib.hid (by first | exact hD | simpa using hD)
  have HDn := Lib.hid (HD.out.go1 hO GDg7.out NFg7.out)
  have HEVn := Lib.hid (HEV.out.keep hO GEg7.out HP.out)
  clear HBL F2 F8 HD HEV
  have HBL := HBLn
  have F2 := F2n
  have F8 := F8n
  have HD := HDn
  have HEV := HEVn
  clear HBLn F2n F8n HDn HEVn
  clear hD hO hlD
  refine takeL (.int .i64 0) rfl (by go_simp) ?_
  try simp only [Act.put, List.setIfInBounds_toArray, List.set_cons_succ, List.set_cons_zero]
  refine wpList_nil ?_
  go_upto_region 4 with fail
  refine wp_region_lit ?_
  refine load27 (cs := r.cells.toArray) (Blk.all F2.out rfl) (by rw [List.size_toArray]; exact HWF.out.cells) rfl rfl ?_
  try simp only [Act.put, List.setIfInBounds_toArray, List.set_cons_succ, List.set_cons_zero]
  refine wpList_op rfl fun K hK => ?_
  go_simp
  refine (HNB.out _).mono ?_
  rintro e w10 ⟨rfl, hb⟩
  have HBLn := Lib.hid (HBL.out.trans (Only.of_below hb))
  have F2n := Lib.hid (F2.out.below hb F2.out.lt)
  have F8n := Lib.hid (F8.out.below hb F8.out.lt)
  have HDn := Lib.hid (HD.out.below hb)
  have HEVn := Lib.hid (HEV.out.below (Nat.le_refl _) hb)
  clear HBL F2 F8 HD HEV
  have HBL := HBLn
  have F2 := F2n
  have F8 := F8n
  have HD := HDn
  have HEV := HEVn
  clear HBLn F2n F8n HDn HEVn
  clear hb
  refine hK _ _ ?_
  clear hK K
  try simp only [Act.put, List.setIfInBounds_toArray, List.set_cons_succ, List.set_cons_zero]
  refine takeL (.int .i64 (n * 2)) rfl (by go_simp; simp [HM.out]) ?_
  try simp only [Act.put, List.setIfInBounds_toArray, List.set_cons_succ, List.set_cons_zero]
  refine takeL (.int .i64 (n * 2)) rfl (by go_simp) ?_
  try simp only [Act.put, List.setIfInBounds_toArray, List.set_cons_succ, List.set_cons_zero]
  refine wpList_nil ?_
  go_upto_region 5 with fail
  refine wp_region_lit ?_
  refine load50 (cs := (u8s r.enc).toArray) (Blk.all F8.out rfl) (by rw [u8s_size, HEL.out]) rfl rfl ?_
  try simp only [Act.put, List.setIfInBounds_toArray, List.set_cons_succ, List.set_cons_zero]
  refine takeL (.int .i64 0) rfl (by go_simp) ?_
  try simp only [Act.put, List.setIfInBounds_toArray, List.set_cons_succ, List.set_cons_zero]
  refine wpList_nil ?_
  go_wp2_with fail
  go_loopg [29] 2 (fun q i wr => ∃ (k : Nat) (Fk : Nat → Prop), 2 - k ≤ q ∧ k ≤ 1 ∧ i = .int .i64 k ∧ Only F w wr ∧ (∀ k, Fk k → F k ∨ w.heap.size ≤ k) ∧ De.Dv W0 wr b Fk (at3 d (d.write (n * 2) (u8s r.s0).toArray) ((d.write (n * 2) (u8s r.s0).toArray).write (n * 2 + 1) (u8s r.s1).toArray) k))
  case atStart => exact ⟨0, F, by omega, by omega, rfl, HBL.out, HFF.out, HD.out⟩
  case round =>
    obtain ⟨k, Fk, hq, hk, rfl, h0, h1, h2⟩ := hrel
    clear F2 F8 HBL HD HEV HFF
    have HBL := Lib.hid h0
    have HFF := Lib.hid h1
    have HDk := Lib.hid h2
    clear h0 h1 h2
    rcases (show k = 0 ∨ k = 1 by omega) with rfl | rfl
    · have HD : Hid (De.Dv W0 wr b Fk d) := Lib.hid HDk.out
      clear HDk
      go_upto_region 7 with fail
      refine wp_region_lit ?_
      refine takeL (.int .i64 (((0 : Nat) : Int))) rfl (by go_simp) ?_
      try simp only [Act.put, List.setIfInBounds_toArray, List.set_cons_succ, List.set_cons_zero]
      refine takeL (.agg (u8s r.s0).toArray) rfl (by have hqq := exec_index_two r.enc HEL.out 0 (by decide); rw [HS0.out] at hqq; exact hqq _ _ _ rfl rfl rfl) ?_
      try simp only [Act.put, List.setIfInBounds_toArray, List.set_cons_succ, List.set_cons_zero]
      refine alloc_g zero49 rfl ?_
      intro w11 hA hb hl
      try simp only [Act.put, List.setIfInBounds_toArray, List.set_cons_succ, List.set_cons_zero]
      have NFg12 := Lib.hid (fun hk => Nat.lt_irrefl _ (HD.out.lt wr.heap.size hk).2)
      have GDg12 := Lib.hid HD.out.2.size
      have HBLn := Lib.hid (HBL.out.trans (Only.of_below hb))
      have HDn := Lib.hid (HD.out.below hb)
      have F13 : Hid (Blk w11 wr.heap.size (u8s (zeros 64))) := Lib.hid (by first | exact hA | simpa using hA)
      have GEg12 := Lib.hid HBL.out.size
      clear HBL HD
      have HBL := HBLn
      have HD := HDn
      clear HBLn HDn
      clear hA hb hl
      generalize wr.heap.size = g12 at *
      refine takeL (.int .i64 (((0 : Nat) : Int))) rfl (by go_simp) ?_
      try simp only [Act.put, List.setIfInBounds_toArray, List.set_cons_succ, List.set_cons_zero]
      refine store_all (cs := (u8s r.s0).toArray) F13.out (by rw [u8s_size, HL0.out]; simp [HZ64.out]) (by rw [u8s_size, HL0.out]; exact info49) (u8s_one _) rfl rfl rfl ?_
      intro w14 hD hO hlD
      try simp only [Act.put, List.setIfInBounds_toArray, List.set_cons_succ, List.set_cons_zero]
      have HBLn := Lib.hid (HBL.out.into hO GEg12.out)
      have F13n : Hid (Blk w14 g12 (u8s r.s0)) := Lib.hid (by first | exact hD | simpa using hD)
      have HDn := Lib.hid (HD.out.go1 hO GDg12.out NFg12.out)
      clear HBL F13 HD
      have HBL := HBLn
      have F13 := F13n
      have HD := HDn
      clear HBLn F13n HDn
      clear hD hO hlD
      refine wpList_nil ?_
      go_upto_region 8 with fail
      refine wp_region_lit ?_
      refine takeL (.pointer (some ⟨b, 0, none⟩)) rfl (by go_simp) ?_
      try simp only [Act.put, List.setIfInBounds_toArray, List.set_cons_succ, List.set_cons_zero]
      refine takeL (.int .i64 (n * 2)) rfl (by go_simp) ?_
      try simp only [Act.put, List.setIfInBounds_toArray, List.set_cons_succ, List.set_cons_zero]
      refine takeL (.int .i64 (((0 : Nat) : Int))) rfl (by go_simp) ?_
      try simp only [Act.put, List.setIfInBounds_toArray, List.set_cons_succ, List.set_cons_zero]
      refine takeL (.int .i64 (n * 2)) rfl (by go_simp; simp [HM.out]) ?_
      try simp only [Act.put, List.setIfInBounds_toArray, List.set_cons_succ, List.set_cons_zero]
      refine load49 (cs := (u8s r.s0).toArray) (Blk.all F13.out rfl) (by rw [u8s_size, HL0.out]) rfl rfl ?_
      try simp only [Act.put, List.setIfInBounds_toArray, List.set_cons_succ, List.set_cons_zero]
      refine wpList_op rfl fun K hK => ?_
      go_simp
      refine (De.dv_write HD.out (Nat.le_trans HT.out (by decide)) (Nat.le_trans HLN.out (by decide)) (n * 2) _ (u8s_sec HL0.out)).mono ?_
      rintro e w15 ⟨Fd16, rfl, hd, hO, hf⟩
      rw [HE0.out]
      have F13n := Lib.hid (F13.out.only hO NFg12.out)
      have NFg12n : Hid (¬ Fd16 g12) := Lib.hid fun hk => (hf _ hk).elim NFg12.out fun hk => Nat.lt_irrefl _ (Nat.lt_of_lt_of_le F13.out.lt hk)
      clear NFg12
      have NFg12 := NFg12n
      clear NFg12n
      have HBLn := Lib.hid (HBL.out.after hO HFF.out)
      have HFFn := Lib.hid (Only.foot HFF.out hf HBL.out.size)
      clear HFF
      have HFF := HFFn
      clear HFFn
      have HDn := Lib.hid hd
      clear HBL F13 HD
      have HBL := HBLn
      have F13 := F13n
      have HD := HDn
      clear HBLn F13n HDn
      clear hd hO hf
      refine hK _ _ ?_
      clear hK K
      try simp only [Act.put, List.setIfInBounds_toArray, List.set_cons_succ, List.set_cons_zero]
      refine takeL (.int .i64 0) rfl (by go_simp) ?_
      try simp only [Act.put, List.setIfInBounds_toArray, List.set_cons_succ, List.set_cons_zero]
      refine wpList_nil ?_
      go_upto_region 9 with fail
      refine wp_region_lit ?_
      refine takeL (.int .i64 0) rfl (by go_simp) ?_
      try simp only [Act.put, List.setIfInBounds_toArray, List.set_cons_succ, List.set_cons_zero]
      refine takeL (.bool false) rfl (by go_simp) ?_
      try simp only [Act.put, List.setIfInBounds_toArray, List.set_cons_succ, List.set_cons_zero]
      refine wpList_nil ?_
      go_wp2_with fail
      go_roundg (2 - (0 + 1))
      case measure => omega
      case rel => exact ⟨1, Fd16, by omega, by omega, by go_num, HBL.out, HFF.out, HD.out⟩
    · have HD : Hid (De.Dv W0 wr b Fk (d.write (n * 2) (u8s r.s0).toArray)) := Lib.hid HDk.out
      clear HDk
      go_upto_region 7 with fail
      refine wp_region_lit ?_
      refine takeL (.int .i64 (((1 : Nat) : Int))) rfl (by go_simp) ?_
      try simp only [Act.put, List.setIfInBounds_toArray, List.set_cons_succ, List.set_cons_zero]
      refine takeL (.agg (u8s r.s1).toArray) rfl (by have hqq := exec_index_two r.enc HEL.out 1 (by decide); rw [HS1.out] at hqq; exact hqq _ _ _ rfl rfl rfl) ?_
      try simp only [Act.put, List.setIfInBounds_toArray, List.set_cons_succ, List.set_cons_zero]
      refine alloc_g zero49 rfl ?_
      intro w11 hA hb hl
      try simp only [Act.put, List.setIfInBounds_toArray, List.set_cons_succ, List.set_cons_zero]
      have NFg12 := Lib.hid (fun hk => Nat.lt_irrefl _ (HD.out.lt wr.heap.size hk).2)
      have GDg12 := Lib.hid HD.out.2.size
      have HBLn := Lib.hid (HBL.out.trans (Only.of_below hb))
      have HDn := Lib.hid (HD.out.below hb)
      have F13 : Hid (Blk w11 wr.heap.size (u8s (zeros 64))) := Lib.hid (by first | exact hA | simpa using hA)
      have GEg12 := Lib.hid HBL.out.size
      clear HBL HD
      have HBL := HBLn
      have HD := HDn
      clear HBLn HDn
      clear hA hb hl
      generalize wr.heap.size = g12 at *
      refine takeL (.int .i64 (((1 : Nat) : Int))) rfl (by go_simp) ?_
      try simp only [Act.put, List.setIfInBounds_toArray, List.set_cons_succ, List.set_cons_zero]
      refine store_all (cs := (u8s r.s1).toArray) F13.out (by rw [u8s_size, HL1.out]; simp [HZ64.out]) (by rw [u8s_size, HL1.out]; exact info49) (u8s_one _) rfl rfl rfl ?_
      intro w14 hD hO hlD
      try simp only [Act.put, List.setIfInBounds_toArray, List.set_cons_succ, List.set_cons_zero]
      have HBLn := Lib.hid (HBL.out.into hO GEg12.out)
      have F13n : Hid (Blk w14 g12 (u8s r.s1)) := Lib.hid (by first | exact hD | simpa using hD)
      have HDn := Lib.hid (HD.out.go1 hO GDg12.out NFg12.out)
      clear HBL F13 HD
      have HBL := HBLn
      have F13 := F13n
      have HD := HDn
      clear HBLn F13n HDn
      clear hD hO hlD
      refine wpList_nil ?_
      go_upto_region 8 with fail
      refine wp_region_lit ?_
      refine takeL (.pointer (some ⟨b, 0, none⟩)) rfl (by go_simp) ?_
      try simp only [Act.put, List.setIfInBounds_toArray, List.set_cons_succ, List.set_cons_zero]
      refine takeL (.int .i64 (n * 2)) rfl (by go_simp) ?_
      try simp only [Act.put, List.setIfInBounds_toArray, List.set_cons_succ, List.set_cons_zero]
      refine takeL (.int .i64 (((1 : Nat) : Int))) rfl (by go_simp) ?_
      try simp only [Act.put, List.setIfInBounds_toArray, List.set_cons_succ, List.set_cons_zero]
      refine takeL (.int .i64 (n * 2 + 1)) rfl (by go_simp; simp [HM1.out]) ?_
      try simp only [Act.put, List.setIfInBounds_toArray, List.set_cons_succ, List.set_cons_zero]
      refine load49 (cs := (u8s r.s1).toArray) (Blk.all F13.out rfl) (by rw [u8s_size, HL1.out]) rfl rfl ?_
      try simp only [Act.put, List.setIfInBounds_toArray, List.set_cons_succ, List.set_cons_zero]
      refine wpList_op rfl fun K hK => ?_
      go_simp
      refine (De.dv_write HD.out (by have := HT.out; have := HT1.out; omega) (by have := HLN.out; have := HLN1.out; omega) (n * 2 + 1) _ (u8s_sec HL1.out)).mono ?_
      rintro e w15 ⟨Fd16, rfl, hd, hO, hf⟩
      rw [HE1.out]
      have F13n := Lib.hid (F13.out.only hO NFg12.out)
      have NFg12n : Hid (¬ Fd16 g12) := Lib.hid fun hk => (hf _ hk).elim NFg12.out fun hk => Nat.lt_irrefl _ (Nat.lt_of_lt_of_le F13.out.lt hk)
      clear NFg12
      have NFg12 := NFg12n
      clear NFg12n
      have HBLn := Lib.hid (HBL.out.after hO HFF.out)
      have HFFn := Lib.hid (Only.foot HFF.out hf HBL.out.size)
      clear HFF
      have HFF := HFFn
      clear HFFn
      have HDn := Lib.hid hd
      clear HBL F13 HD
      have HBL := HBLn
      have F13 := F13n
      have HD := HDn
      clear HBLn F13n HDn
      clear hd hO hf
      refine hK _ _ ?_
      clear hK K
      try simp only [Act.put, List.setIfInBounds_toArray, List.set_cons_succ, List.set_cons_zero]
      refine takeL (.int .i64 12) rfl (by go_simp) ?_
      try simp only [Act.put, List.setIfInBounds_toArray, List.set_cons_succ, List.set_cons_zero]
      refine wpList_nil ?_
      go_upto_region 9 with fail
      refine wp_region_lit ?_
      refine takeL (.int .i64 12) rfl (by go_simp) ?_
      try simp only [Act.put, List.setIfInBounds_toArray, List.set_cons_succ, List.set_cons_zero]
      refine takeL (.bool true) rfl (by go_simp) ?_
      try simp only [Act.put, List.setIfInBounds_toArray, List.set_cons_succ, List.set_cons_zero]
      refine wpList_nil ?_
      go_upto_region 10 with fail
      refine wp_region_lit ?_
      refine takeL (.int .i64 12) rfl (by go_simp) ?_
      try simp only [Act.put, List.setIfInBounds_toArray, List.set_cons_succ, List.set_cons_zero]
      refine takeL (.int .i64 12) rfl (by go_simp) ?_
      try simp only [Act.put, List.setIfInBounds_toArray, List.set_cons_succ, List.set_cons_zero]
      refine wpList_nil ?_
      go_wp2_with fail
      go_ret
      exact ⟨Fd16, rfl, HD.out, HBL.out, HFF.out⟩

set_option maxRecDepth 100000 in
set_option maxHeartbeats 4000000 in
theorem write_yes2 (r : Rg) (hw : r.Wf) (hg : r.good = true) (w : World) {W0 : World} {b : Nat} {F : Nat → Prop} {d : De.D} (h : De.Dv W0 w b F d) (hev : ErrVar w) (h0 : 0 < W0.heap.size) (ht : r.g.tot ≤ (d.S.length : Int)) (hT : d.T ≤ 900000) (hLn : d.L.length ≤ 900000) (n : Int) (hn : r.gen % 2 = n) (hF : d.F ≠ 0) (hF1 : (d.write (n * 2) (u8s r.s0).toArray).F ≠ 0) : Calls Tryd.prog 6 #[.pointer (some ⟨b, 0, none⟩), .agg r.cells.toArray] w (De.After W0 w b F (.int .i64 ((d.write (n * 2) (u8s r.s0).toArray).write (n * 2 + 1) (u8s r.s1).toArray).flushE) ((d.write (n * 2) (u8s r.s0).toArray).write (n * 2 + 1) (u8s r.s1).toArray).flush) := by
  have HWN := Lib.hid none_wf
  have HZ128 := Lib.hid (zeros_length 128)
  have HZ64 := Lib.hid (zeros_length 64)
  have HWF := Lib.hid hw
  have HG := Lib.hid hg
  have HEV := Lib.hid hev
  have HP := Lib.hid hev.lt
  have HP0 := Lib.hid h0
  have HTL := Lib.hid ht
  have HEL := Lib.hid (enc_length hw.len)
  have HT := Lib.hid hT
  have HLN := Lib.hid hLn
  have HRL := Lib.hid hw.len
  have hlt : 148 ≤ (d.S.length : Int) := Int.le_trans (Gm.tot_good hg) ht
  have HNB : Hid (∀ w, Calls Tryd.prog 13 #[.agg r.cells.toArray] w fun e w' => e = .returned (.int .i64 n) ∧ Below w.heap.size w w') := Lib.hid fun w => hn ▸ number_any r hw w
  have h01 : 0 ≤ n ∧ n ≤ 1 := by omega
  have HM : Hid (IntKind.i64.wrap (n * 2) = n * 2) := Lib.hid (wrap64 (by omega) (by omega))
  have HM1 : Hid (IntKind.i64.wrap (n * 2 + 1) = n * 2 + 1) := Lib.hid (wrap64 (by omega) (by omega))
  have HH0 : Hid (d.has (n * 2) = true) := Lib.hid (by simp [De.D.has]; omega)
  have HH1 : Hid ((d.write (n * 2) (u8s r.s0).toArray).has (n * 2 + 1) = true) := Lib.hid (by simp only [De.D.has, De.D.write_S]; simp; omega)
  have HE0 : Hid (d.writeE (n * 2) = 0) := Lib.hid (by rw [De.D.writeE_of HH0.out, if_neg hF])
  have HE1 : Hid ((d.write (n * 2) (u8s r.s0).toArray).writeE (n * 2 + 1) = 0) := Lib.hid (by rw [De.D.writeE_of HH1.out, if_neg hF1])
  have HS0 : Hid ((r.enc.drop (64 * 0)).take 64 = r.s0) := Lib.hid (by simp [Rg.enc, s0_length])
  have HS1 : Hid ((r.enc.drop (64 * 1)).take 64 = r.s1) := Lib.hid (by have h1 := s1_length hw.len; simp [Rg.enc, s0_length]; rw [List.take_of_length_le (by omega)])
  have HL0 := Lib.hid (s0_length r)
  have HL1 := Lib.hid (s1_length hw.len)
  have HT1 := Lib.hid (De.D.write_T d (n * 2) (u8s r.s0).toArray)
  have HLN1 := Lib.hid (De.D.write_L d (n * 2) (u8s r.s0).toArray)
  have HT2 := Lib.hid (De.D.write_T (d.write (n * 2) (u8s r.s0).toArray) (n * 2 + 1) (u8s r.s1).toArray)
  have HLN2 := Lib.hid (De.D.write_L (d.write (n * 2) (u8s r.s0).toArray) (n * 2 + 1) (u8s r.s1).toArray)
  have HBL : Hid (Only F w w) := Lib.hid (Only.refl _ _)
  have HFF : Hid (∀ k, F k → F k ∨ w.heap.size ≤ k) := Lib.hid fun _ h => .inl h
  have HD := Lib.hid h
  clear hw h hg hev h0 ht hlt hT hLn hn h01 hF hF1
  go_enter Tryd.func6, Tryd.ntmps6
  go_upto_region 0 with fail
  refine wp_region_lit ?_
  refine box_g (cs := r.cells.toArray) rfl rfl ?_
  intro w1 hA hb hl
  try simp only [Act.put, List.setIfInBounds_toArray, List.set_cons_succ, List.set_cons_zero]
  have NFg0 := Lib.hid (fun hk => Nat.lt_irrefl _ (HD.out.lt w.heap.size hk).2)
  have GDg0 := Lib.hid HD.out.2.size
  have HBLn := Lib.hid (HBL.out.trans (Only.of_below hb))
  have HDn := Lib.hid (HD.out.below hb)
  have HEVn := Lib.hid (HEV.out.below (Nat.le_refl _) hb)
  have F2 : Hid (Blk w1 w.heap.size (r.cells)) := Lib.hid (by first | exact hA | simpa using hA)
  have GEg0 := Lib.hid HBL.out.size
  clear HBL HD HEV
  have HBL := HBLn
  have HD := HDn
  have HEV := HEVn
  clear HBLn HDn HEVn
  clear hA hb hl
  refine takeL (.int .i64 0) rfl (by go_simp) ?_
  try simp only [Act.put, List.setIfInBounds_toArray, List.set_cons_succ, List.set_cons_zero]
  refine wpList_nil ?_
  go_upto_region 1 with fail
  refine wp_region_lit ?_
  refine load27 (cs := r.cells.toArray) (Blk.all F2.out rfl) (by rw [List.size_toArray]; exact HWF.out.cells) rfl rfl ?_
  try simp only [Act.put, List.setIfInBounds_toArray, List.set_cons_succ, List.set_cons_zero]
  refine wpList_op rfl fun K hK => ?_
  go_simp
  refine (good_is HG.out HWF.out _).mono ?_
  rintro e w3 ⟨rfl, hb⟩
  have HBLn := Lib.hid (HBL.out.trans (Only.of_below hb))
  have F2n := Lib.hid (F2.out.below hb F2.out.lt)
  have HDn := Lib.hid (HD.out.below hb)
  have HEVn := Lib.hid (HEV.out.below (Nat.le_refl _) hb)
  clear HBL F2 HD HEV
  have HBL := HBLn
  have F2 := F2n
  have HD := HDn
  have HEV := HEVn
  clear HBLn F2n HDn HEVn
  clear hb
  refine hK _ _ ?_
  clear hK K
  try simp only [Act.put, List.setIfInBounds_toArray, List.set_cons_succ, List.set_cons_zero]
  refine takeL (.bool false) rfl (by go_simp) ?_
  try simp only [Act.put, List.setIfInBounds_toArray, List.set_cons_succ, List.set_cons_zero]
  refine takeL (.bool false) rfl (by go_simp) ?_
  try simp only [Act.put, List.setIfInBounds_toArray, List.set_cons_succ, List.set_cons_zero]
  refine takeL (.pointer (some ⟨b, 0, none⟩)) rfl (by go_simp) ?_
  try simp only [Act.put, List.setIfInBounds_toArray, List.set_cons_succ, List.set_cons_zero]
  refine load27 (cs := r.cells.toArray) (Blk.all F2.out rfl) (by rw [List.size_toArray]; exact HWF.out.cells) rfl rfl ?_
  try simp only [Act.put, List.setIfInBounds_toArray, List.set_cons_succ, List.set_cons_zero]
  refine wpList_op rfl fun K hK => ?_
  go_simp
  refine (has_any _ HWF.out _ HD.out).mono ?_
  rintro e w4 ⟨rfl, hb⟩
  have HBLn := Lib.hid (HBL.out.trans (Only.of_below hb))
  have F2n := Lib.hid (F2.out.below hb F2.out.lt)
  have HDn := Lib.hid (HD.out.below hb)
  have HEVn := Lib.hid (HEV.out.below (Nat.le_refl _) hb)
  clear HBL F2 HD HEV
  have HBL := HBLn
  have F2 := F2n
  have HD := HDn
  have HEV := HEVn
  clear HBLn F2n HDn HEVn
  clear hb
  refine hK _ _ ?_
  clear hK K
  try simp only [Act.put, List.setIfInBounds_toArray, List.set_cons_succ, List.set_cons_zero]
  refine takeL (.bool false) rfl (by go_simp; (have hq := HTL.out; omega)) ?_
  try simp only [Act.put, List.setIfInBounds_toArray, List.set_cons_succ, List.set_cons_zero]
  refine takeL (.bool false) rfl (by go_simp) ?_
  try simp only [Act.put, List.setIfInBounds_toArray, List.set_cons_succ, List.set_cons_zero]
  refine wpList_nil ?_
  go_upto_region 3 with fail
  refine wp_region_lit ?_
  refine load27 (cs := r.cells.toArray) (Blk.all F2.out rfl) (by rw [List.size_toArray]; exact HWF.out.cells) rfl rfl ?_
  try simp only [Act.put, List.setIfInBounds_toArray, List.set_cons_succ, List.set_cons_zero]
  refine wpList_op rfl fun K hK => ?_
  go_simp
  refine (encode_yes HG.out HWF.out _ HEV.out).mono ?_
  rintro e w5 ⟨rfl, hb⟩
  have HBLn := Lib.hid (HBL.out.trans (Only.of_below hb))
  have F2n := Lib.hid (F2.out.below hb F2.out.lt)
  have HDn := Lib.hid (HD.out.below hb)
  have HEVn := Lib.hid (HEV.out.below (Nat.le_refl _) hb)
  clear HBL F2 HD HEV
  have HBL := HBLn
  have F2 := F2n
  have HD := HDn
  have HEV := HEVn
  clear HBLn F2n HDn HEVn
  clear hb
  refine hK _ _ ?_
  clear hK K
  try simp only [Act.put, List.setIfInBounds_toArray, List.set_cons_succ, List.set_cons_zero]
  refine takeL (.tuple #[.agg (u8s r.enc).toArray, .int .i64 0]) rfl (by go_simp) ?_
  try simp only [Act.put, List.setIfInBounds_toArray, List.set_cons_succ, List.set_cons_zero]
  refine takeL (.agg (u8s r.enc).toArray) rfl (by go_simp) ?_
  try simp only [Act.put, List.setIfInBounds_toArray, List.set_cons_succ, List.set_cons_zero]
  refine takeL (.int .i64 0) rfl (by go_simp) ?_
  try simp only [Act.put, List.setIfInBounds_toArray, List.set_cons_succ, List.set_cons_zero]
  refine alloc_g zero50 rfl ?_
  intro w6 hA hb hl
  try simp only [Act.put, List.setIfInBounds_toArray, List.set_cons_succ, List.set_cons_zero]
  have NFg7 := Lib.hid (fun hk => Nat.lt_irrefl _ (HD.out.lt w5.heap.size hk).2)
  have GDg7 := Lib.hid HD.out.2.size
  have HBLn := Lib.hid (HBL.out.trans (Only.of_below hb))
  have F2n := Lib.hid (F2.out.below hb F2.out.lt)
  have NEg0_g7 := Lib.hid (Nat.ne_of_lt F2.out.lt)
  have HDn := Lib.hid (HD.out.below hb)
  have HEVn := Lib.hid (HEV.out.below (Nat.le_refl _) hb)
  have F8 : Hid (Blk w6 w5.heap.size (u8s (zeros 128))) := Lib.hid (by first | exact hA | simpa using hA)
  have GEg7 := Lib.hid HBL.out.size
  clear HBL F2 HD HEV
  have HBL := HBLn
  have F2 := F2n
  have HD := HDn
  have HEV := HEVn
  clear HBLn F2n HDn HEVn
  clear hA hb hl
  generalize w5.heap.size = g7 at *
  refine store_all (cs := (u8s r.enc).toArray) F8.out (by rw [u8s_size, HEL.out]; simp [HZ128.out]) (by rw [u8s_size, HEL.out]; exact info50) (u8s_one _) rfl rfl rfl ?_
  intro w9 hD hO hlD
  try simp only [Act.put, List.setIfInBounds_toArray, List.set_cons_succ, List.set_cons_zero]
  have HBLn := Lib.hid (HBL.out.into hO GEg7.out)
  have F2n := Lib.hid (F2.out.only hO (NEg0_g7.out))
  have F8n : Hid (Blk w9 g7 (u8s r.enc)) := Lib.hid (by first | exact hD | simpa using hD)
  have HDn := Lib.hid (HD.out.go1 hO GDg7.out NFg7.out)
  have HEVn := Lib.hid (HEV.out.keep hO GEg7.out HP.out)
  clear HBL F2 F8 HD HEV
  have HBL := HBLn
  have F2 := F2n
  have F8 := F8n
  have HD := HDn
  have HEV := HEVn
  clear HBLn F2n F8n HDn HEVn
  clear hD hO hlD
  refine takeL (.int .i64 0) rfl (by go_simp) ?_
  try simp only [Act.put, List.setIfInBounds_toArray, List.set_cons_succ, List.set_cons_zero]
  refine wpList_nil ?_
  go_upto_region 4 with fail
  refine wp_region_lit ?_
  refine load27 (cs := r.cells.toArray) (Blk.all F2.out rfl) (by rw [List.size_toArray]; exact HWF.out.cells) rfl rfl ?_
  try simp only [Act.put, List.setIfInBounds_toArray, List.set_cons_succ, List.set_cons_zero]
  refine wpList_op rfl fun K hK => ?_
  go_simp
  refine (HNB.out _).mono ?_
  rintro e w10 ⟨rfl, hb⟩
  have HBLn := Lib.hid (HBL.out.trans (Only.of_below hb))
  have F2n := Lib.hid (F2.out.below hb F2.out.lt)
  have F8n := Lib.hid (F8.out.below hb F8.out.lt)
  have HDn := Lib.hid (HD.out.below hb)
  have HEVn := Lib.hid (HEV.out.below (Nat.le_refl _) hb)
  clear HBL F2 F8 HD HEV
  have HBL := HBLn
  have F2 := F2n
  have F8 := F8n
  have HD := HDn
  have HEV := HEVn
  clear HBLn F2n F8n HDn HEVn
  clear hb
  refine hK _ _ ?_
  clear hK K
  try simp only [Act.put, List.setIfInBounds_toArray, List.set_cons_succ, List.set_cons_zero]
  refine takeL (.int .i64 (n * 2)) rfl (by go_simp; simp [HM.out]) ?_
  try simp only [Act.put, List.setIfInBounds_toArray, List.set_cons_succ, List.set_cons_zero]
  refine takeL (.int .i64 (n * 2)) rfl (by go_simp) ?_
  try simp only [Act.put, List.setIfInBounds_toArray, List.set_cons_succ, List.set_cons_zero]
  refine wpList_nil ?_
  go_upto_region 5 with fail
  refine wp_region_lit ?_
  refine load50 (cs := (u8s r.enc).toArray) (Blk.all F8.out rfl) (by rw [u8s_size, HEL.out]) rfl rfl ?_
  try simp only [Act.put, List.setIfInBounds_toArray, List.set_cons_succ, List.set_cons_zero]
  refine takeL (.int .i64 0) rfl (by go_simp) ?_
  try simp only [Act.put, List.setIfInBounds_toArray, List.set_cons_succ, List.set_cons_zero]
  refine wpList_nil ?_
  go_wp2_with fail
  go_loopg [29] 2 (fun q i wr => ∃ (k : Nat) (Fk : Nat → Prop), 2 - k ≤ q ∧ k ≤ 2 ∧ i = .int .i64 k ∧ Only F w wr ∧ (∀ k, Fk k → F k ∨ w.heap.size ≤ k) ∧ De.Dv W0 wr b Fk (at3 d (d.write (n * 2) (u8s r.s0).toArray) ((d.write (n * 2) (u8s r.s0).toArray).write (n * 2 + 1) (u8s r.s1).toArray) k))
  case atStart => exact ⟨0, F, by omega, by omega, rfl, HBL.out, HFF.out, HD.out⟩
  case round =>
    obtain ⟨k, Fk, hq, hk, rfl, h0, h1, h2⟩ := hrel
    clear F2 F8 HBL HD HEV HFF
    have HBL := Lib.hid h0
    have HFF := Lib.hid h1
    have HDk := Lib.hid h2
    clear h0 h1 h2
    rcases (show k = 0 ∨ k = 1 ∨ k = 2 by omega) with rfl | rfl | rfl
    · have HD : Hid (De.Dv W0 wr b Fk d) := Lib.hid HDk.out
      clear HDk
      go_upto_region 7 with fail
      refine wp_region_lit ?_
      refine takeL (.int .i64 (((0 : Nat) : Int))) rfl (by go_simp) ?_
      try simp only [Act.put, List.setIfInBounds_toArray, List.set_cons_succ, List.set_cons_zero]
      refine takeL (.agg (u8s r.s0).toArray) rfl (by have hqq := exec_index_two r.enc HEL.out 0 (by decide); rw [HS0.out] at hqq; exact hqq _ _ _ rfl rfl rfl) ?_
      try simp only [Act.put, List.setIfInBounds_toArray, List.set_cons_succ, List.set_cons_zero]
      refine alloc_g zero49 rfl ?_
      intro w11 hA hb hl
      try simp only [Act.put, List.setIfInBounds_toArray, List.set_cons_succ, List.set_cons_zero]
      have NFg12 := Lib.hid (fun hk => Nat.lt_irrefl _ (HD.out.lt wr.heap.size hk).2)
      have GDg12 := Lib.hid HD.out.2.size
      have HBLn := Lib.hid (HBL.out.trans (Only.of_below hb))
      have HDn := Lib.hid (HD.out.below hb)
      have F13 : Hid (Blk w11 wr.heap.size (u8s (zeros 64))) := Lib.hid (by first | exact hA | simpa using hA)
      have GEg12 := Lib.hid HBL.out.size
      clear HBL HD
      have HBL := HBLn
      have HD := HDn
      clear HBLn HDn
      clear hA hb hl
      generalize wr.heap.size = g12 at *
      refine takeL (.int .i64 (((0 : Nat) : Int))) rfl (by go_simp) ?_
      try simp only [Act.put, List.setIfInBounds_toArray, List.set_cons_succ, List.set_cons_zero]
      refine store_all (cs := (u8s r.s0).toArray) F13.out (by rw [u8s_size, HL0.out]; simp [HZ64.out]) (by rw [u8s_size, HL0.out]; exact info49) (u8s_one _) rfl rfl rfl ?_
      intro w14 hD hO hlD
      try simp only [Act.put, List.setIfInBounds_toArray, List.set_cons_succ, List.set_cons_zero]
      have HBLn := Lib.hid (HBL.out.into hO GEg12.out)
      have F13n : Hid (Blk w14 g12 (u8s r.s0)) := Lib.hid (by first | exact hD | simpa using hD)
      have HDn := Lib.hid (HD.out.go1 hO GDg12.out NFg12.out)
      clear HBL F13 HD
      have HBL := HBLn
      have F13 := F13n
      have HD := HDn
      clear HBLn F13n HDn
      clear hD hO hlD
      refine wpList_nil ?_
      go_upto_region 8 with fail
      refine wp_region_lit ?_
      refine takeL (.pointer (some ⟨b, 0, none⟩)) rfl (by go_simp) ?_
      try simp only [Act.put, List.setIfInBounds_toArray, List.set_cons_succ, List.set_cons_zero]
      refine takeL (.int .i64 (n * 2)) rfl (by go_simp) ?_
      try simp only [Act.put, List.setIfInBounds_toArray, List.set_cons_succ, List.set_cons_zero]
      refine takeL (.int .i64 (((0 : Nat) : Int))) rfl (by go_simp) ?_
      try simp only [Act.put, List.setIfInBounds_toArray, List.set_cons_succ, List.set_cons_zero]
      refine takeL (.int .i64 (n * 2)) rfl (by go_simp; simp [HM.out]) ?_
      try simp only [Act.put, List.setIfInBounds_toArray, List.set_cons_succ, List.set_cons_zero]
      refine load49 (cs := (u8s r.s0).toArray) (Blk.all F13.out rfl) (by rw [u8s_size, HL0.out]) rfl rfl ?_
      try simp only [Act.put, List.setIfInBounds_toArray, List.set_cons_succ, List.set_cons_zero]
      refine wpList_op rfl fun K hK => ?_
      go_simp
      refine (De.dv_write HD.out (Nat.le_trans HT.out (by decide)) (Nat.le_trans HLN.out (by decide)) (n * 2) _ (u8s_sec HL0.out)).mono ?_
      rintro e w15 ⟨Fd16, rfl, hd, hO, hf⟩
      rw [HE0.out]
      have F13n := Lib.hid (F13.out.only hO NFg12.out)
      have NFg12n : Hid (¬ Fd16 g12) := Lib.hid fun hk => (hf _ hk).elim NFg12.out fun hk => Nat.lt_irrefl _ (Nat.lt_of_lt_of_le F13.out.lt hk)
      clear NFg12
      have NFg12 := NFg12n
      clear NFg12n
      have HBLn := Lib.hid (HBL.out.after hO HFF.out)
      have HFFn := Lib.hid (Only.foot HFF.out hf HBL.out.size)
      clear HFF
      have HFF := HFFn
      clear HFFn
      have HDn := Lib.hid hd
      clear HBL F13 HD
      have HBL := HBLn
      have F13 := F13n
      have HD := HDn
      clear HBLn F13n HDn
      clear hd hO hf
      refine hK _ _ ?_
      clear hK K
      try simp only [Act.put, List.setIfInBounds_toArray, List.set_cons_succ, List.set_cons_zero]
      refine takeL (.int .i64 0) rfl (by go_simp) ?_
      try simp only [Act.put, List.setIfInBounds_toArray, List.set_cons_succ, List.set_cons_zero]
      refine wpList_nil ?_
      go_upto_region 9 with fail
      refine wp_region_lit ?_
      refine takeL (.int .i64 0) rfl (by go_simp) ?_
      try simp only [Act.put, List.setIfInBounds_toArray, List.set_cons_succ, List.set_cons_zero]
      refine takeL (.bool false) rfl (by go_simp) ?_
      try simp only [Act.put, List.setIfInBounds_toArray, List.set_cons_succ, List.set_cons_zero]
      refine wpList_nil ?_
      go_wp2_with fail
      go_roundg (2 - (0 + 1))
      case measure => omega
      case rel => exact ⟨1, Fd16, by omega, by omega, by go_num, HBL.out, HFF.out, HD.out⟩
    · have HD : Hid (De.Dv W0 wr b Fk (d.write (n * 2) (u8s r.s0).toArray)) := Lib.hid HDk.out
      clear HDk
      go_upto_region 7 with fail
      refine wp_region_lit ?_
      refine takeL (.int .i64 (((1 : Nat) : Int))) rfl (by go_simp) ?_
      try simp only [Act.put, List.setIfInBounds_toArray, List.set_cons_succ, List.set_cons_zero]
      refine takeL (.agg (u8s r.s1).toArray) rfl (by have hqq := exec_index_two r.enc HEL.out 1 (by decide); rw [HS1.out] at hqq; exact hqq _ _ _ rfl rfl rfl) ?_
      try simp only [Act.put, List.setIfInBounds_toArray, List.set_cons_succ, List.set_cons_zero]
      refine alloc_g zero49 rfl ?_
      intro w11 hA hb hl
      try simp only [Act.put, List.setIfInBounds_toArray, List.set_cons_succ, List.set_cons_zero]
      have NFg12 := Lib.hid (fun hk => Nat.lt_irrefl _ (HD.out.lt wr.heap.size hk).2)
      have GDg12 := Lib.hid HD.out.2.size
      have HBLn := Lib.hid (HBL.out.trans (Only.of_below hb))
      have HDn := Lib.hid (HD.out.below hb)
      have F13 : Hid (Blk w11 wr.heap.size (u8s (zeros 64))) := Lib.hid (by first | exact hA | simpa using hA)
      have GEg12 := Lib.hid HBL.out.size
      clear HBL HD
      have HBL := HBLn
      have HD := HDn
      clear HBLn HDn
      clear hA hb hl
      generalize wr.heap.size = g12 at *
      refine takeL (.int .i64 (((1 : Nat) : Int))) rfl (by go_simp) ?_
      try simp only [Act.put, List.setIfInBounds_toArray, List.set_cons_succ, List.set_cons_zero]
      refine store_all (cs := (u8s r.s1).toArray) F13.out (by rw [u8s_size, HL1.out]; simp [HZ64.out]) (by rw [u8s_size, HL1.out]; exact info49) (u8s_one _) rfl rfl rfl ?_
      intro w14 hD hO hlD
      try simp only [Act.put, List.setIfInBounds_toArray, List.set_cons_succ, List.set_cons_zero]
      have HBLn := Lib.hid (HBL.out.into hO GEg12.out)
      have F13n : Hid (Blk w14 g12 (u8s r.s1)) := Lib.hid (by first | exact hD | simpa using hD)
      have HDn := Lib.hid (HD.out.go1 hO GDg12.out NFg12.out)
      clear HBL F13 HD
      have HBL := HBLn
      have F13 := F13n
      have HD := HDn
      clear HBLn F13n HDn
      clear hD hO hlD
      refine wpList_nil ?_
      go_upto_region 8 with fail
      refine wp_region_lit ?_
      refine takeL (.pointer (some ⟨b, 0, none⟩)) rfl (by go_simp) ?_
      try simp only [Act.put, List.setIfInBounds_toArray, List.set_cons_succ, List.set_cons_zero]
      refine takeL (.int .i64 (n * 2)) rfl (by go_simp) ?_
      try simp only [Act.put, List.setIfInBounds_toArray, List.set_cons_succ, List.set_cons_zero]
      refine takeL (.int .i64 (((1 : Nat) : Int))) rfl (by go_simp) ?_
      try simp only [Act.put, List.setIfInBounds_toArray, List.set_cons_succ, List.set_cons_zero]
      refine takeL (.int .i64 (n * 2 + 1)) rfl (by go_simp; simp [HM1.out]) ?_
      try simp only [Act.put, List.setIfInBounds_toArray, List.set_cons_succ, List.set_cons_zero]
      refine load49 (cs := (u8s r.s1).toArray) (Blk.all F13.out rfl) (by rw [u8s_size, HL1.out]) rfl rfl ?_
      try simp only [Act.put, List.setIfInBounds_toArray, List.set_cons_succ, List.set_cons_zero]
      refine wpList_op rfl fun K hK => ?_
      go_simp
      refine (De.dv_write HD.out (by have := HT.out; have := HT1.out; omega) (by have := HLN.out; have := HLN1.out; omega) (n * 2 + 1) _ (u8s_sec HL1.out)).mono ?_
      rintro e w15 ⟨Fd16, rfl, hd, hO, hf⟩
      rw [HE1.out]
      have F13n := Lib.hid (F13.out.only hO NFg12.out)
      have NFg12n : Hid (¬ Fd16 g12) := Lib.hid fun hk => (hf _ hk).elim NFg12.out fun hk => Nat.lt_irrefl _ (Nat.lt_of_lt_of_le F13.out.lt hk)
      clear NFg12
      have NFg12 := NFg12n
      clear NFg12n
      have HBLn := Lib.hid (HBL.out.after hO HFF.out)
      have HFFn := Lib.hid (Only.foot HFF.out hf HBL.out.size)
      clear HFF
      have HFF := HFFn
      clear HFFn
      have HDn := Lib.hid hd
      clear HBL F13 HD
      have HBL := HBLn
      have F13 := F13n
      have HD := HDn
      clear HBLn F13n HDn
      clear hd hO hf
      refine hK _ _ ?_
      clear hK K
      try simp only [Act.put, List.setIfInBounds_toArray, List.set_cons_succ, List.set_cons_zero]
      refine takeL (.int .i64 0) rfl (by go_simp) ?_
      try simp only [Act.put, List.setIfInBounds_toArray, List.set_cons_succ, List.set_cons_zero]
      refine wpList_nil ?_
      go_upto_region 9 with fail
      refine wp_region_lit ?_
      refine takeL (.int .i64 0) rfl (by go_simp) ?_
      try simp only [Act.put, List.setIfInBounds_toArray, List.set_cons_succ, List.set_cons_zero]
      refine takeL (.bool false) rfl (by go_simp) ?_
      try simp only [Act.put, List.setIfInBounds_toArray, List.set_cons_succ, List.set_cons_zero]
      refine wpList_nil ?_
      go_wp2_with fail
      go_roundg (2 - (1 + 1))
      case measure => omega
      case rel => exact ⟨2, Fd16, by omega, by omega, by go_num, HBL.out, HFF.out, HD.out⟩
    · have HD : Hid (De.Dv W0 wr b Fk ((d.write (n * 2) (u8s r.s0).toArray).write (n * 2 + 1) (u8s r.s1).toArray)) := Lib.hid HDk.out
      clear HDk
      go_upto_region 12 with fail
      refine wp_region_lit ?_
      refine takeL (.pointer (some ⟨b, 0, none⟩)) rfl (by go_simp) ?_
      try simp only [Act.put, List.setIfInBounds_toArray, List.set_cons_succ, List.set_cons_zero]
      refine wpList_op rfl fun K hK => ?_
      go_simp
      refine (De.dv_flush HD.out (by have := HT.out; have := HT1.out; have := HT2.out; omega) (by have := HLN.out; have := HLN1.out; have := HLN2.out; omega)).mono ?_
      rintro e w11 ⟨Fd12, rfl, hd, hO, hf⟩
      have HBLn := Lib.hid (HBL.out.after hO HFF.out)
      have HFFn := Lib.hid (Only.foot HFF.out hf HBL.out.size)
      clear HFF
      have HFF := HFFn
      clear HFFn
      have HDn := Lib.hid hd
      clear HBL HD
      have HBL := HBLn
      have HD := HDn
      clear HBLn HDn
      clear hd hO hf
      refine hK _ _ ?_
      clear hK K
      try simp only [Act.put, List.setIfInBounds_toArray, List.set_cons_succ, List.set_cons_zero]
      refine takeL (.int .i64 ((d.write (n * 2) (u8s r.s0).toArray).write (n * 2 + 1) (u8s r.s1).toArray).flushE) rfl (by go_simp) ?_
      try simp only [Act.put, List.setIfInBounds_toArray, List.set_cons_succ, List.set_cons_zero]
      refine wpList_nil ?_
      go_wp2_with fail
      go_ret
      exact ⟨Fd12, rfl, HD.out, HBL.out, HFF.out⟩

theorem write_yes (r : Rg) (hw : r.Wf) (hg : r.good = true) (w : World) {W0 : World} {b : Nat} {F : Nat → Prop} {d : De.D} (h : De.Dv W0 w b F d) (hev : ErrVar w) (h0 : 0 < W0.heap.size) (ht : r.g.tot ≤ (d.S.length : Int)) (hT : d.T ≤ 900000) (hLn : d.L.length ≤ 900000) : Calls Tryd.prog 6 #[.pointer (some ⟨b, 0, none⟩), .agg r.cells.toArray] w (De.After W0 w b F (.int .i64 (d.putE r)) (d.put r)) := by
  unfold De.D.putE De.D.put
  by_cases hF : d.F = 0
  · rw [if_pos hF, if_pos hF]
    exact write_yes0 r hw hg w h hev h0 ht hT hLn _ rfl hF
  · by_cases hF1 : (d.write (r.gen % 2 * 2) (u8s r.s0).toArray).F = 0
    · rw [if_neg hF, if_neg hF, if_pos hF1, if_pos hF1]
      exact write_yes1 r hw hg w h hev h0 ht hT hLn _ rfl hF hF1
    · rw [if_neg hF, if_neg hF, if_neg hF1, if_neg hF1]
      exact write_yes2 r hw hg w h hev h0 ht hT hLn _ rfl hF hF1

end Go.Proofs.YtoiekieddkadmaaDoor
