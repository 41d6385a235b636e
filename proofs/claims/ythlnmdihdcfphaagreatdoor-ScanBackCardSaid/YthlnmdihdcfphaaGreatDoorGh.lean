/- Gh: texts of elder seats turned: what the stage needs of them. -/
import Derived.Test.YthlnmdihdcfphaaGreatDoorGg
import Derived.BigQuiet
import Derived.Deep.QuietTactic
import Derived.RegionTactic
namespace Go.Proofs.YthlnmdihdcfphaaGreatDoor
set_option linter.unusedSimpArgs false
set_option linter.unusedVariables false
open Go.RowKit

theorem tell_any (m : Mk) (h : okMark m = true) (w : World) : Calls Tryz.prog 76 #[.agg #[.int .i64 m.1, .int .i64 m.2]] w fun e w' => e = .returned (.tuple #[.int .i64 (slotOf m), .bool (hasBlock m.1)]) ∧ Below w.heap.size w w' := by
  obtain ⟨k, i⟩ := m
  obtain ⟨h1, h2, h3, h4, h5⟩ := okMark_iff.1 h
  simp only at h1 h2 h3 h4 h5
  have HB := Lib.hid fun (o : Obj) => (Below.refl w.heap.size w).alloc (Nat.le_refl _) o
  rcases (show k = 1 ∨ k = 2 ∨ k = 3 ∨ k = 4 ∨ k = 5 by omega) with rfl | rfl | rfl | rfl | rfl
  all_goals
    clear h h1 h2
    go_enter Tryz.func76, Tryz.ntmps76
    go_wp2_with fail
    go_ret2
    exact ⟨by simp [slotOf, hasBlock], HB.out _⟩
theorem mark_good (m : Mk) : Sm.good ⟨0, false, [m]⟩ = okMark m := by simp [Sm.good, goodMarks]
theorem built187m (a : Option Addr) (k c : Nat) : Tryz.prog.built 187 [(2, .slice a k c)] = some #[.int .u32 0, .bool false, .slice a k c] := by kernel_rfl
theorem mk_lit (W : World) (m : Mk) : MarksAt (W.alloc (.cells #[.int .i64 m.1, .int .i64 m.2] 68)) (.slice (some ⟨W.heap.size, 0, none⟩) 1 1) [m] := (OwnM.lit W W.heap.size (Nat.le_refl _) [m] (by simp) _ rfl).marks
theorem enc_one (m : Mk) (h1 : Small m.1) (h2 : Small m.2) : ∃ (x : List Int) (e0 : Int), x.length = 64 ∧ (e0 == 0) = okMark m ∧ ∀ sv w, MarksAt w sv [m] → Calls Tryz.prog 88 #[.agg #[.int .u32 0, .bool false, sv]] w fun e w' => e = .returned (.tuple #[.agg (u8s x).toArray, .int .i64 e0]) ∧ Below w.heap.size w w' :=
  ⟨Sm.sec ⟨0, false, [m]⟩, Sm.err ⟨0, false, [m]⟩, ssec_length _, by unfold Sm.err; rw [mark_good]; cases okMark m <;> rfl, fun sv w h => sencode_any ⟨0, false, [m]⟩ sv (by simp) ⟨⟨Int.le_refl 0, by show (0 : Int) < 4294967296; decide⟩, fun q hq => by obtain rfl := List.mem_singleton.1 hq; exact ⟨h1, h2⟩⟩ w h⟩
set_option maxRecDepth 100000 in
theorem isMark_any (m : Mk) (h1 : Small m.1) (h2 : Small m.2) (w : World) : Calls Tryz.prog 81 #[.agg #[.int .i64 m.1, .int .i64 m.2]] w fun e w' => e = .returned (.bool (okMark m)) ∧ Below w.heap.size w w' := by
  obtain ⟨x, e0, hs, hg, he⟩ := enc_one m h1 h2
  have HS := Lib.hid hs
  have HG := Lib.hid hg
  have HE := Lib.hid he
  have HM : Hid (MarksAt ((w.alloc (.cells #[.int .i64 m.1, .int .i64 m.2] 68)).alloc (.cells #[.int .i64 m.1, .int .i64 m.2] 68)) (.slice (some ⟨w.heap.size + 1, 0, none⟩) 1 1) [m]) := Lib.hid (by
    have := mk_lit (w.alloc (.cells #[.int .i64 m.1, .int .i64 m.2] 68)) m
    simpa using this)
  clear hs hg he
  obtain ⟨k, i⟩ := m
  clear h1 h2
  go_enter Tryz.func81, Tryz.ntmps81
  go_upto_region 1 with fail
  refine wp_region_lit ?_
  refine takeL (.agg #[.int .i64 k, .int .i64 i]) rfl (by go_simp) ?_
  try simp only [Act.put, List.setIfInBounds_toArray, List.set_cons_succ, List.set_cons_zero]
  refine wpList_run (.slice (some ⟨w.heap.size + 1, 0, none⟩) 1 1) ((w.alloc (.cells #[.int .i64 k, .int .i64 i] 68)).alloc (.cells #[.int .i64 k, .int .i64 i] 68)) rfl (by go_simp) ?_
  try simp only [Act.put, List.setIfInBounds_toArray, List.set_cons_succ, List.set_cons_zero]
  have HB1 : Hid (Below w.heap.size w ((w.alloc (.cells #[.int .i64 k, .int .i64 i] 68)).alloc (.cells #[.int .i64 k, .int .i64 i] 68))) := Lib.hid (((Below.refl w.heap.size w).alloc (Nat.le_refl _) _).alloc (by simp) _)
  generalize (w.alloc (.cells #[.int .i64 k, .int .i64 i] 68)).alloc (.cells #[.int .i64 k, .int .i64 i] 68) = w1 at *
  refine takeL (.agg #[.int .u32 0, .bool false, .slice (some ⟨w.heap.size + 1, 0, none⟩) 1 1]) rfl (exec_build _ _ _ _ 187 _ rfl #[(2, .slice (some ⟨w.heap.size + 1, 0, none⟩) 1 1)] (by simp only [List.map_toArray, List.map_cons, List.map_nil]; rfl) _ (run_build w1 187 _ _ (built187m _ _ _))) ?_
  try simp only [Act.put, List.setIfInBounds_toArray, List.set_cons_succ, List.set_cons_zero]
  refine wpList_op rfl fun K hK => ?_
  go_simp
  refine (HE.out _ _ HM.out).mono ?_
  rintro e w2 ⟨rfl, hb⟩
  have HB2 := Lib.hid (stay HB1.out hb)
  clear hb HB1 HM HE
  refine hK _ _ ?_
  clear hK K
  try simp only [Act.put, List.setIfInBounds_toArray, List.set_cons_succ, List.set_cons_zero]
  refine takeL (.tuple #[.agg (u8s x).toArray, .int .i64 e0]) rfl (by go_simp) ?_
  try simp only [Act.put, List.setIfInBounds_toArray, List.set_cons_succ, List.set_cons_zero]
  refine takeL (.agg (u8s x).toArray) rfl (by go_simp) ?_
  try simp only [Act.put, List.setIfInBounds_toArray, List.set_cons_succ, List.set_cons_zero]
  refine takeL (.int .i64 e0) rfl (by go_simp) ?_
  try simp only [Act.put, List.setIfInBounds_toArray, List.set_cons_succ, List.set_cons_zero]
  refine alloc_g zero115 rfl ?_
  intro w3 hA hb hl
  try simp only [Act.put, List.setIfInBounds_toArray, List.set_cons_succ, List.set_cons_zero]
  refine store_all (cs := (u8s x).toArray) hA (by rw [u8s_size, HS.out]; rfl) (by rw [u8s_size, HS.out]; exact info115) (u8s_one _) rfl rfl rfl ?_
  intro w4 hD hO hlD
  try simp only [Act.put, List.setIfInBounds_toArray, List.set_cons_succ, List.set_cons_zero]
  have HB4 := Lib.hid (HB2.out.trans ((hb.trans (hO.below hb.size fun k hk => Nat.le_of_eq hk.symm)).mono HB2.out.size))
  clear hA hb hl hD hO hlD HB2
  refine takeL (.int .i64 e0) rfl (by go_simp) ?_
  try simp only [Act.put, List.setIfInBounds_toArray, List.set_cons_succ, List.set_cons_zero]
  refine wpList_nil ?_
  have hg := HG.out
  go_wp2_with fail
  go_ret
  exact ⟨rfl, HB4.out⟩
set_option maxRecDepth 100000 in
theorem isZero_any (b : Bk) (sv : Value) (hw : b.Wf) (hs : Len sv b.bytes.length) (w : World) : Calls Tryz.prog 94 #[.agg (b.arr sv)] w fun e w' => e = .returned (.bool b.isZ) ∧ Below w.heap.size w w' := by
  have HA := Lib.hid (BAt.box hw sv w)
  have HB := Lib.hid (box_below b sv w)
  have HHS : Hid ((i64s b.heads).toArray.size = 8) := Lib.hid (by simpa using hw.heads)
  have HPS : Hid ((u8s b.page).toArray.size = 32) := Lib.hid (by simpa using hw.page)
  have HE := Lib.hid fun w => eql71 w b.heads (zeros 8) hw.heads (zeros_length 8)
  have HP := Lib.hid fun w => eql70 w b.page (zeros 32) hw.page (zeros_length 32)
  obtain ⟨a, cap, hs⟩ := hs
  have c0 := HA.out.c0
  have c1 := HA.out.c1
  have c34 := HA.out.c34
  have c35 := HA.out.c35.trans (congrArg some hs)
  have c36 := HA.out.c36
  clear hs hw
  refine (Decidable.em (b.kind = 0)).symm.elim (fun h0 => ?_) (fun h0 => ?_)
  · skip
    go_enter Tryz.func94, Tryz.ntmps94
    go_wp2_with fail
    go_ret
    exact ⟨ret_bool (by simp [Bk.isZ, h0]), HB.out⟩
  refine (Decidable.em (b.id = 0)).symm.elim (fun h1 => ?_) (fun h1 => ?_)
  · skip
    go_enter Tryz.func94, Tryz.ntmps94
    go_wp2_with fail
    go_ret
    exact ⟨ret_bool (by simp [Bk.isZ, h0, h1]), HB.out⟩
  refine (Decidable.em (b.page = zeros 32)).symm.elim (fun h2 => ?_) (fun h2 => ?_)
  · skip
    simp only [h2, decide_false] at HP
    go_enter Tryz.func94, Tryz.ntmps94
    go_upto_region 1 with fail
    refine wp_region_lit ?_
    refine takeL (.pointer (some ⟨w.heap.size, 0, none⟩)) rfl (by go_simp) ?_
    try simp only [Act.put, List.setIfInBounds_toArray, List.set_cons_succ, List.set_cons_zero]
    refine takeL (.int .i64 b.kind) rfl (by go_simp) ?_
    try simp only [Act.put, List.setIfInBounds_toArray, List.set_cons_succ, List.set_cons_zero]
    refine takeL (.bool true) rfl (by go_simp) ?_
    try simp only [Act.put, List.setIfInBounds_toArray, List.set_cons_succ, List.set_cons_zero]
    refine takeL (.bool true) rfl (by go_simp) ?_
    try simp only [Act.put, List.setIfInBounds_toArray, List.set_cons_succ, List.set_cons_zero]
    refine takeL (.pointer (some ⟨w.heap.size, 1, none⟩)) rfl (by go_simp) ?_
    try simp only [Act.put, List.setIfInBounds_toArray, List.set_cons_succ, List.set_cons_zero]
    refine takeL (.int .i64 b.id) rfl (by go_simp) ?_
    try simp only [Act.put, List.setIfInBounds_toArray, List.set_cons_succ, List.set_cons_zero]
    refine takeL (.bool true) rfl (by go_simp) ?_
    try simp only [Act.put, List.setIfInBounds_toArray, List.set_cons_succ, List.set_cons_zero]
    refine takeL (.bool true) rfl (by go_simp) ?_
    try simp only [Act.put, List.setIfInBounds_toArray, List.set_cons_succ, List.set_cons_zero]
    refine takeL (.bool true) rfl (by go_simp) ?_
    try simp only [Act.put, List.setIfInBounds_toArray, List.set_cons_succ, List.set_cons_zero]
    refine takeL (.pointer (some ⟨w.heap.size, 2, none⟩)) rfl (by go_simp) ?_
    try simp only [Act.put, List.setIfInBounds_toArray, List.set_cons_succ, List.set_cons_zero]
    refine load70 HA.out.page HPS.out rfl rfl ?_
    try simp only [Act.put, List.setIfInBounds_toArray, List.set_cons_succ, List.set_cons_zero]
    refine build_g (build70 _) rfl ?_
    try simp only [Act.put, List.setIfInBounds_toArray, List.set_cons_succ, List.set_cons_zero]
    refine takeL (.bool false) rfl (by have hq := HP.out; go_simp) ?_
    try simp only [Act.put, List.setIfInBounds_toArray, List.set_cons_succ, List.set_cons_zero]
    go_wp2_with fail
    go_ret
    exact ⟨ret_bool (by simp [Bk.isZ, h0, h1, h2]), HB.out⟩
  refine (Decidable.em (b.off = 0)).symm.elim (fun h3 => ?_) (fun h3 => ?_)
  · skip
    simp only [h2, decide_true] at HP
    go_enter Tryz.func94, Tryz.ntmps94
    go_upto_region 1 with fail
    refine wp_region_lit ?_
    refine takeL (.pointer (some ⟨w.heap.size, 0, none⟩)) rfl (by go_simp) ?_
    try simp only [Act.put, List.setIfInBounds_toArray, List.set_cons_succ, List.set_cons_zero]
    refine takeL (.int .i64 b.kind) rfl (by go_simp) ?_
    try simp only [Act.put, List.setIfInBounds_toArray, List.set_cons_succ, List.set_cons_zero]
    refine takeL (.bool true) rfl (by go_simp) ?_
    try simp only [Act.put, List.setIfInBounds_toArray, List.set_cons_succ, List.set_cons_zero]
    refine takeL (.bool true) rfl (by go_simp) ?_
    try simp only [Act.put, List.setIfInBounds_toArray, List.set_cons_succ, List.set_cons_zero]
    refine takeL (.pointer (some ⟨w.heap.size, 1, none⟩)) rfl (by go_simp) ?_
    try simp only [Act.put, List.setIfInBounds_toArray, List.set_cons_succ, List.set_cons_zero]
    refine takeL (.int .i64 b.id) rfl (by go_simp) ?_
    try simp only [Act.put, List.setIfInBounds_toArray, List.set_cons_succ, List.set_cons_zero]
    refine takeL (.bool true) rfl (by go_simp) ?_
    try simp only [Act.put, List.setIfInBounds_toArray, List.set_cons_succ, List.set_cons_zero]
    refine takeL (.bool true) rfl (by go_simp) ?_
    try simp only [Act.put, List.setIfInBounds_toArray, List.set_cons_succ, List.set_cons_zero]
    refine takeL (.bool true) rfl (by go_simp) ?_
    try simp only [Act.put, List.setIfInBounds_toArray, List.set_cons_succ, List.set_cons_zero]
    refine takeL (.pointer (some ⟨w.heap.size, 2, none⟩)) rfl (by go_simp) ?_
    try simp only [Act.put, List.setIfInBounds_toArray, List.set_cons_succ, List.set_cons_zero]
    refine load70 HA.out.page HPS.out rfl rfl ?_
    try simp only [Act.put, List.setIfInBounds_toArray, List.set_cons_succ, List.set_cons_zero]
    refine build_g (build70 _) rfl ?_
    try simp only [Act.put, List.setIfInBounds_toArray, List.set_cons_succ, List.set_cons_zero]
    refine takeL (.bool true) rfl (by have hq := HP.out; go_simp) ?_
    try simp only [Act.put, List.setIfInBounds_toArray, List.set_cons_succ, List.set_cons_zero]
    refine takeL (.bool true) rfl (by go_simp) ?_
    try simp only [Act.put, List.setIfInBounds_toArray, List.set_cons_succ, List.set_cons_zero]
    refine takeL (.bool true) rfl (by go_simp) ?_
    try simp only [Act.put, List.setIfInBounds_toArray, List.set_cons_succ, List.set_cons_zero]
    refine takeL (.pointer (some ⟨w.heap.size, 34, none⟩)) rfl (by go_simp) ?_
    try simp only [Act.put, List.setIfInBounds_toArray, List.set_cons_succ, List.set_cons_zero]
    refine takeL (.int .i64 b.off) rfl (by go_simp) ?_
    try simp only [Act.put, List.setIfInBounds_toArray, List.set_cons_succ, List.set_cons_zero]
    refine takeL (.bool false) rfl (by go_simp) ?_
    try simp only [Act.put, List.setIfInBounds_toArray, List.set_cons_succ, List.set_cons_zero]
    go_wp2_with fail
    go_ret
    exact ⟨ret_bool (by simp [Bk.isZ, h0, h1, h2, h3]), HB.out⟩
  refine (Decidable.em (b.bytes.length = 0)).symm.elim (fun h4 => ?_) (fun h4 => ?_)
  · skip
    simp only [h2, decide_true] at HP
    go_enter Tryz.func94, Tryz.ntmps94
    go_upto_region 1 with fail
    refine wp_region_lit ?_
    refine takeL (.pointer (some ⟨w.heap.size, 0, none⟩)) rfl (by go_simp) ?_
    try simp only [Act.put, List.setIfInBounds_toArray, List.set_cons_succ, List.set_cons_zero]
    refine takeL (.int .i64 b.kind) rfl (by go_simp) ?_
    try simp only [Act.put, List.setIfInBounds_toArray, List.set_cons_succ, List.set_cons_zero]
    refine takeL (.bool true) rfl (by go_simp) ?_
    try simp only [Act.put, List.setIfInBounds_toArray, List.set_cons_succ, List.set_cons_zero]
    refine takeL (.bool true) rfl (by go_simp) ?_
    try simp only [Act.put, List.setIfInBounds_toArray, List.set_cons_succ, List.set_cons_zero]
    refine takeL (.pointer (some ⟨w.heap.size, 1, none⟩)) rfl (by go_simp) ?_
    try simp only [Act.put, List.setIfInBounds_toArray, List.set_cons_succ, List.set_cons_zero]
    refine takeL (.int .i64 b.id) rfl (by go_simp) ?_
    try simp only [Act.put, List.setIfInBounds_toArray, List.set_cons_succ, List.set_cons_zero]
    refine takeL (.bool true) rfl (by go_simp) ?_
    try simp only [Act.put, List.setIfInBounds_toArray, List.set_cons_succ, List.set_cons_zero]
    refine takeL (.bool true) rfl (by go_simp) ?_
    try simp only [Act.put, List.setIfInBounds_toArray, List.set_cons_succ, List.set_cons_zero]
    refine takeL (.bool true) rfl (by go_simp) ?_
    try simp only [Act.put, List.setIfInBounds_toArray, List.set_cons_succ, List.set_cons_zero]
    refine takeL (.pointer (some ⟨w.heap.size, 2, none⟩)) rfl (by go_simp) ?_
    try simp only [Act.put, List.setIfInBounds_toArray, List.set_cons_succ, List.set_cons_zero]
    refine load70 HA.out.page HPS.out rfl rfl ?_
    try simp only [Act.put, List.setIfInBounds_toArray, List.set_cons_succ, List.set_cons_zero]
    refine build_g (build70 _) rfl ?_
    try simp only [Act.put, List.setIfInBounds_toArray, List.set_cons_succ, List.set_cons_zero]
    refine takeL (.bool true) rfl (by have hq := HP.out; go_simp) ?_
    try simp only [Act.put, List.setIfInBounds_toArray, List.set_cons_succ, List.set_cons_zero]
    refine takeL (.bool true) rfl (by go_simp) ?_
    try simp only [Act.put, List.setIfInBounds_toArray, List.set_cons_succ, List.set_cons_zero]
    refine takeL (.bool true) rfl (by go_simp) ?_
    try simp only [Act.put, List.setIfInBounds_toArray, List.set_cons_succ, List.set_cons_zero]
    refine takeL (.pointer (some ⟨w.heap.size, 34, none⟩)) rfl (by go_simp) ?_
    try simp only [Act.put, List.setIfInBounds_toArray, List.set_cons_succ, List.set_cons_zero]
    refine takeL (.int .i64 b.off) rfl (by go_simp) ?_
    try simp only [Act.put, List.setIfInBounds_toArray, List.set_cons_succ, List.set_cons_zero]
    refine takeL (.bool true) rfl (by go_simp) ?_
    try simp only [Act.put, List.setIfInBounds_toArray, List.set_cons_succ, List.set_cons_zero]
    refine takeL (.bool true) rfl (by go_simp) ?_
    try simp only [Act.put, List.setIfInBounds_toArray, List.set_cons_succ, List.set_cons_zero]
    refine takeL (.bool true) rfl (by go_simp) ?_
    try simp only [Act.put, List.setIfInBounds_toArray, List.set_cons_succ, List.set_cons_zero]
    refine takeL (.pointer (some ⟨w.heap.size, 35, none⟩)) rfl (by go_simp) ?_
    try simp only [Act.put, List.setIfInBounds_toArray, List.set_cons_succ, List.set_cons_zero]
    refine takeL (.slice a b.bytes.length cap) rfl (by go_simp) ?_
    try simp only [Act.put, List.setIfInBounds_toArray, List.set_cons_succ, List.set_cons_zero]
    refine takeL (.int .i64 b.bytes.length) rfl (by go_simp) ?_
    try simp only [Act.put, List.setIfInBounds_toArray, List.set_cons_succ, List.set_cons_zero]
    refine takeL (.bool false) rfl (by go_simp) ?_
    try simp only [Act.put, List.setIfInBounds_toArray, List.set_cons_succ, List.set_cons_zero]
    go_wp2_with fail
    go_ret
    exact ⟨ret_bool (by simp [Bk.isZ, h0, h1, h2, h3, h4]), HB.out⟩
  refine (Decidable.em (b.prev = 0)).symm.elim (fun h5 => ?_) (fun h5 => ?_)
  · skip
    simp only [h2, decide_true] at HP
    go_enter Tryz.func94, Tryz.ntmps94
    go_upto_region 1 with fail
    refine wp_region_lit ?_
    refine takeL (.pointer (some ⟨w.heap.size, 0, none⟩)) rfl (by go_simp) ?_
    try simp only [Act.put, List.setIfInBounds_toArray, List.set_cons_succ, List.set_cons_zero]
    refine takeL (.int .i64 b.kind) rfl (by go_simp) ?_
    try simp only [Act.put, List.setIfInBounds_toArray, List.set_cons_succ, List.set_cons_zero]
    refine takeL (.bool true) rfl (by go_simp) ?_
    try simp only [Act.put, List.setIfInBounds_toArray, List.set_cons_succ, List.set_cons_zero]
    refine takeL (.bool true) rfl (by go_simp) ?_
    try simp only [Act.put, List.setIfInBounds_toArray, List.set_cons_succ, List.set_cons_zero]
    refine takeL (.pointer (some ⟨w.heap.size, 1, none⟩)) rfl (by go_simp) ?_
    try simp only [Act.put, List.setIfInBounds_toArray, List.set_cons_succ, List.set_cons_zero]
    refine takeL (.int .i64 b.id) rfl (by go_simp) ?_
    try simp only [Act.put, List.setIfInBounds_toArray, List.set_cons_succ, List.set_cons_zero]
    refine takeL (.bool true) rfl (by go_simp) ?_
    try simp only [Act.put, List.setIfInBounds_toArray, List.set_cons_succ, List.set_cons_zero]
    refine takeL (.bool true) rfl (by go_simp) ?_
    try simp only [Act.put, List.setIfInBounds_toArray, List.set_cons_succ, List.set_cons_zero]
    refine takeL (.bool true) rfl (by go_simp) ?_
    try simp only [Act.put, List.setIfInBounds_toArray, List.set_cons_succ, List.set_cons_zero]
    refine takeL (.pointer (some ⟨w.heap.size, 2, none⟩)) rfl (by go_simp) ?_
    try simp only [Act.put, List.setIfInBounds_toArray, List.set_cons_succ, List.set_cons_zero]
    refine load70 HA.out.page HPS.out rfl rfl ?_
    try simp only [Act.put, List.setIfInBounds_toArray, List.set_cons_succ, List.set_cons_zero]
    refine build_g (build70 _) rfl ?_
    try simp only [Act.put, List.setIfInBounds_toArray, List.set_cons_succ, List.set_cons_zero]
    refine takeL (.bool true) rfl (by have hq := HP.out; go_simp) ?_
    try simp only [Act.put, List.setIfInBounds_toArray, List.set_cons_succ, List.set_cons_zero]
    refine takeL (.bool true) rfl (by go_simp) ?_
    try simp only [Act.put, List.setIfInBounds_toArray, List.set_cons_succ, List.set_cons_zero]
    refine takeL (.bool true) rfl (by go_simp) ?_
    try simp only [Act.put, List.setIfInBounds_toArray, List.set_cons_succ, List.set_cons_zero]
    refine takeL (.pointer (some ⟨w.heap.size, 34, none⟩)) rfl (by go_simp) ?_
    try simp only [Act.put, List.setIfInBounds_toArray, List.set_cons_succ, List.set_cons_zero]
    refine takeL (.int .i64 b.off) rfl (by go_simp) ?_
    try simp only [Act.put, List.setIfInBounds_toArray, List.set_cons_succ, List.set_cons_zero]
    refine takeL (.bool true) rfl (by go_simp) ?_
    try simp only [Act.put, List.setIfInBounds_toArray, List.set_cons_succ, List.set_cons_zero]
    refine takeL (.bool true) rfl (by go_simp) ?_
    try simp only [Act.put, List.setIfInBounds_toArray, List.set_cons_succ, List.set_cons_zero]
    refine takeL (.bool true) rfl (by go_simp) ?_
    try simp only [Act.put, List.setIfInBounds_toArray, List.set_cons_succ, List.set_cons_zero]
    refine takeL (.pointer (some ⟨w.heap.size, 35, none⟩)) rfl (by go_simp) ?_
    try simp only [Act.put, List.setIfInBounds_toArray, List.set_cons_succ, List.set_cons_zero]
    refine takeL (.slice a b.bytes.length cap) rfl (by go_simp) ?_
    try simp only [Act.put, List.setIfInBounds_toArray, List.set_cons_succ, List.set_cons_zero]
    refine takeL (.int .i64 b.bytes.length) rfl (by go_simp) ?_
    try simp only [Act.put, List.setIfInBounds_toArray, List.set_cons_succ, List.set_cons_zero]
    refine takeL (.bool true) rfl (by go_simp) ?_
    try simp only [Act.put, List.setIfInBounds_toArray, List.set_cons_succ, List.set_cons_zero]
    refine takeL (.bool true) rfl (by go_simp) ?_
    try simp only [Act.put, List.setIfInBounds_toArray, List.set_cons_succ, List.set_cons_zero]
    refine takeL (.bool true) rfl (by go_simp) ?_
    try simp only [Act.put, List.setIfInBounds_toArray, List.set_cons_succ, List.set_cons_zero]
    refine takeL (.pointer (some ⟨w.heap.size, 36, none⟩)) rfl (by go_simp) ?_
    try simp only [Act.put, List.setIfInBounds_toArray, List.set_cons_succ, List.set_cons_zero]
    refine takeL (.int .i64 b.prev) rfl (by go_simp) ?_
    try simp only [Act.put, List.setIfInBounds_toArray, List.set_cons_succ, List.set_cons_zero]
    refine takeL (.bool false) rfl (by go_simp) ?_
    try simp only [Act.put, List.setIfInBounds_toArray, List.set_cons_succ, List.set_cons_zero]
    go_wp2_with fail
    go_ret
    exact ⟨ret_bool (by simp [Bk.isZ, h0, h1, h2, h3, h4, h5]), HB.out⟩
  refine (Decidable.em (b.heads = zeros 8)).symm.elim (fun h6 => ?_) (fun h6 => ?_)
  · skip
    simp only [h2, decide_true] at HP
    simp only [h6, decide_false] at HE
    go_enter Tryz.func94, Tryz.ntmps94
    go_upto_region 1 with fail
    refine wp_region_lit ?_
    refine takeL (.pointer (some ⟨w.heap.size, 0, none⟩)) rfl (by go_simp) ?_
    try simp only [Act.put, List.setIfInBounds_toArray, List.set_cons_succ, List.set_cons_zero]
    refine takeL (.int .i64 b.kind) rfl (by go_simp) ?_
    try simp only [Act.put, List.setIfInBounds_toArray, List.set_cons_succ, List.set_cons_zero]
    refine takeL (.bool true) rfl (by go_simp) ?_
    try simp only [Act.put, List.setIfInBounds_toArray, List.set_cons_succ, List.set_cons_zero]
    refine takeL (.bool true) rfl (by go_simp) ?_
    try simp only [Act.put, List.setIfInBounds_toArray, List.set_cons_succ, List.set_cons_zero]
    refine takeL (.pointer (some ⟨w.heap.size, 1, none⟩)) rfl (by go_simp) ?_
    try simp only [Act.put, List.setIfInBounds_toArray, List.set_cons_succ, List.set_cons_zero]
    refine takeL (.int .i64 b.id) rfl (by go_simp) ?_
    try simp only [Act.put, List.setIfInBounds_toArray, List.set_cons_succ, List.set_cons_zero]
    refine takeL (.bool true) rfl (by go_simp) ?_
    try simp only [Act.put, List.setIfInBounds_toArray, List.set_cons_succ, List.set_cons_zero]
    refine takeL (.bool true) rfl (by go_simp) ?_
    try simp only [Act.put, List.setIfInBounds_toArray, List.set_cons_succ, List.set_cons_zero]
    refine takeL (.bool true) rfl (by go_simp) ?_
    try simp only [Act.put, List.setIfInBounds_toArray, List.set_cons_succ, List.set_cons_zero]
    refine takeL (.pointer (some ⟨w.heap.size, 2, none⟩)) rfl (by go_simp) ?_
    try simp only [Act.put, List.setIfInBounds_toArray, List.set_cons_succ, List.set_cons_zero]
    refine load70 HA.out.page HPS.out rfl rfl ?_
    try simp only [Act.put, List.setIfInBounds_toArray, List.set_cons_succ, List.set_cons_zero]
    refine build_g (build70 _) rfl ?_
    try simp only [Act.put, List.setIfInBounds_toArray, List.set_cons_succ, List.set_cons_zero]
    refine takeL (.bool true) rfl (by have hq := HP.out; go_simp) ?_
    try simp only [Act.put, List.setIfInBounds_toArray, List.set_cons_succ, List.set_cons_zero]
    refine takeL (.bool true) rfl (by go_simp) ?_
    try simp only [Act.put, List.setIfInBounds_toArray, List.set_cons_succ, List.set_cons_zero]
    refine takeL (.bool true) rfl (by go_simp) ?_
    try simp only [Act.put, List.setIfInBounds_toArray, List.set_cons_succ, List.set_cons_zero]
    refine takeL (.pointer (some ⟨w.heap.size, 34, none⟩)) rfl (by go_simp) ?_
    try simp only [Act.put, List.setIfInBounds_toArray, List.set_cons_succ, List.set_cons_zero]
    refine takeL (.int .i64 b.off) rfl (by go_simp) ?_
    try simp only [Act.put, List.setIfInBounds_toArray, List.set_cons_succ, List.set_cons_zero]
    refine takeL (.bool true) rfl (by go_simp) ?_
    try simp only [Act.put, List.setIfInBounds_toArray, List.set_cons_succ, List.set_cons_zero]
    refine takeL (.bool true) rfl (by go_simp) ?_
    try simp only [Act.put, List.setIfInBounds_toArray, List.set_cons_succ, List.set_cons_zero]
    refine takeL (.bool true) rfl (by go_simp) ?_
    try simp only [Act.put, List.setIfInBounds_toArray, List.set_cons_succ, List.set_cons_zero]
    refine takeL (.pointer (some ⟨w.heap.size, 35, none⟩)) rfl (by go_simp) ?_
    try simp only [Act.put, List.setIfInBounds_toArray, List.set_cons_succ, List.set_cons_zero]
    refine takeL (.slice a b.bytes.length cap) rfl (by go_simp) ?_
    try simp only [Act.put, List.setIfInBounds_toArray, List.set_cons_succ, List.set_cons_zero]
    refine takeL (.int .i64 b.bytes.length) rfl (by go_simp) ?_
    try simp only [Act.put, List.setIfInBounds_toArray, List.set_cons_succ, List.set_cons_zero]
    refine takeL (.bool true) rfl (by go_simp) ?_
    try simp only [Act.put, List.setIfInBounds_toArray, List.set_cons_succ, List.set_cons_zero]
    refine takeL (.bool true) rfl (by go_simp) ?_
    try simp only [Act.put, List.setIfInBounds_toArray, List.set_cons_succ, List.set_cons_zero]
    refine takeL (.bool true) rfl (by go_simp) ?_
    try simp only [Act.put, List.setIfInBounds_toArray, List.set_cons_succ, List.set_cons_zero]
    refine takeL (.pointer (some ⟨w.heap.size, 36, none⟩)) rfl (by go_simp) ?_
    try simp only [Act.put, List.setIfInBounds_toArray, List.set_cons_succ, List.set_cons_zero]
    refine takeL (.int .i64 b.prev) rfl (by go_simp) ?_
    try simp only [Act.put, List.setIfInBounds_toArray, List.set_cons_succ, List.set_cons_zero]
    refine takeL (.bool true) rfl (by go_simp) ?_
    try simp only [Act.put, List.setIfInBounds_toArray, List.set_cons_succ, List.set_cons_zero]
    refine takeL (.bool true) rfl (by go_simp) ?_
    try simp only [Act.put, List.setIfInBounds_toArray, List.set_cons_succ, List.set_cons_zero]
    refine takeL (.bool true) rfl (by go_simp) ?_
    try simp only [Act.put, List.setIfInBounds_toArray, List.set_cons_succ, List.set_cons_zero]
    refine takeL (.pointer (some ⟨w.heap.size, 37, none⟩)) rfl (by go_simp) ?_
    try simp only [Act.put, List.setIfInBounds_toArray, List.set_cons_succ, List.set_cons_zero]
    refine load71 HA.out.heads HHS.out rfl rfl ?_
    try simp only [Act.put, List.setIfInBounds_toArray, List.set_cons_succ, List.set_cons_zero]
    refine build_g (build71 _) rfl ?_
    try simp only [Act.put, List.setIfInBounds_toArray, List.set_cons_succ, List.set_cons_zero]
    refine takeL (.bool false) rfl (by have hq := HE.out; go_simp) ?_
    try simp only [Act.put, List.setIfInBounds_toArray, List.set_cons_succ, List.set_cons_zero]
    go_wp2_with fail
    go_ret
    exact ⟨ret_bool (by simp [Bk.isZ, h0, h1, h2, h3, h4, h5, h6]), HB.out⟩
  simp only [h2, h6, decide_true] at HP HE
  go_enter Tryz.func94, Tryz.ntmps94
  go_upto_region 1 with fail
  refine wp_region_lit ?_
  refine takeL (.pointer (some ⟨w.heap.size, 0, none⟩)) rfl (by go_simp) ?_
  try simp only [Act.put, List.setIfInBounds_toArray, List.set_cons_succ, List.set_cons_zero]
  refine takeL (.int .i64 b.kind) rfl (by go_simp) ?_
  try simp only [Act.put, List.setIfInBounds_toArray, List.set_cons_succ, List.set_cons_zero]
  refine takeL (.bool true) rfl (by go_simp) ?_
  try simp only [Act.put, List.setIfInBounds_toArray, List.set_cons_succ, List.set_cons_zero]
  refine takeL (.bool true) rfl (by go_simp) ?_
  try simp only [Act.put, List.setIfInBounds_toArray, List.set_cons_succ, List.set_cons_zero]
  refine takeL (.pointer (some ⟨w.heap.size, 1, none⟩)) rfl (by go_simp) ?_
  try simp only [Act.put, List.setIfInBounds_toArray, List.set_cons_succ, List.set_cons_zero]
  refine takeL (.int .i64 b.id) rfl (by go_simp) ?_
  try simp only [Act.put, List.setIfInBounds_toArray, List.set_cons_succ, List.set_cons_zero]
  refine takeL (.bool true) rfl (by go_simp) ?_
  try simp only [Act.put, List.setIfInBounds_toArray, List.set_cons_succ, List.set_cons_zero]
  refine takeL (.bool true) rfl (by go_simp) ?_
  try simp only [Act.put, List.setIfInBounds_toArray, List.set_cons_succ, List.set_cons_zero]
  refine takeL (.bool true) rfl (by go_simp) ?_
  try simp only [Act.put, List.setIfInBounds_toArray, List.set_cons_succ, List.set_cons_zero]
  refine takeL (.pointer (some ⟨w.heap.size, 2, none⟩)) rfl (by go_simp) ?_
  try simp only [Act.put, List.setIfInBounds_toArray, List.set_cons_succ, List.set_cons_zero]
  refine load70 HA.out.page HPS.out rfl rfl ?_
  try simp only [Act.put, List.setIfInBounds_toArray, List.set_cons_succ, List.set_cons_zero]
  refine build_g (build70 _) rfl ?_
  try simp only [Act.put, List.setIfInBounds_toArray, List.set_cons_succ, List.set_cons_zero]
  refine takeL (.bool true) rfl (by have hq := HP.out; go_simp) ?_
  try simp only [Act.put, List.setIfInBounds_toArray, List.set_cons_succ, List.set_cons_zero]
  refine takeL (.bool true) rfl (by go_simp) ?_
  try simp only [Act.put, List.setIfInBounds_toArray, List.set_cons_succ, List.set_cons_zero]
  refine takeL (.bool true) rfl (by go_simp) ?_
  try simp only [Act.put, List.setIfInBounds_toArray, List.set_cons_succ, List.set_cons_zero]
  refine takeL (.pointer (some ⟨w.heap.size, 34, none⟩)) rfl (by go_simp) ?_
  try simp only [Act.put, List.setIfInBounds_toArray, List.set_cons_succ, List.set_cons_zero]
  refine takeL (.int .i64 b.off) rfl (by go_simp) ?_
  try simp only [Act.put, List.setIfInBounds_toArray, List.set_cons_succ, List.set_cons_zero]
  refine takeL (.bool true) rfl (by go_simp) ?_
  try simp only [Act.put, List.setIfInBounds_toArray, List.set_cons_succ, List.set_cons_zero]
  refine takeL (.bool true) rfl (by go_simp) ?_
  try simp only [Act.put, List.setIfInBounds_toArray, List.set_cons_succ, List.set_cons_zero]
  refine takeL (.bool true) rfl (by go_simp) ?_
  try simp only [Act.put, List.setIfInBounds_toArray, List.set_cons_succ, List.set_cons_zero]
  refine takeL (.pointer (some ⟨w.heap.size, 35, none⟩)) rfl (by go_simp) ?_
  try simp only [Act.put, List.setIfInBounds_toArray, List.set_cons_succ, List.set_cons_zero]
  refine takeL (.slice a b.bytes.length cap) rfl (by go_simp) ?_
  try simp only [Act.put, List.setIfInBounds_toArray, List.set_cons_succ, List.set_cons_zero]
  refine takeL (.int .i64 b.bytes.length) rfl (by go_simp) ?_
  try simp only [Act.put, List.setIfInBounds_toArray, List.set_cons_succ, List.set_cons_zero]
  refine takeL (.bool true) rfl (by go_simp) ?_
  try simp only [Act.put, List.setIfInBounds_toArray, List.set_cons_succ, List.set_cons_zero]
  refine takeL (.bool true) rfl (by go_simp) ?_
  try simp only [Act.put, List.setIfInBounds_toArray, List.set_cons_succ, List.set_cons_zero]
  refine takeL (.bool true) rfl (by go_simp) ?_
  try simp only [Act.put, List.setIfInBounds_toArray, List.set_cons_succ, List.set_cons_zero]
  refine takeL (.pointer (some ⟨w.heap.size, 36, none⟩)) rfl (by go_simp) ?_
  try simp only [Act.put, List.setIfInBounds_toArray, List.set_cons_succ, List.set_cons_zero]
  refine takeL (.int .i64 b.prev) rfl (by go_simp) ?_
  try simp only [Act.put, List.setIfInBounds_toArray, List.set_cons_succ, List.set_cons_zero]
  refine takeL (.bool true) rfl (by go_simp) ?_
  try simp only [Act.put, List.setIfInBounds_toArray, List.set_cons_succ, List.set_cons_zero]
  refine takeL (.bool true) rfl (by go_simp) ?_
  try simp only [Act.put, List.setIfInBounds_toArray, List.set_cons_succ, List.set_cons_zero]
  refine takeL (.bool true) rfl (by go_simp) ?_
  try simp only [Act.put, List.setIfInBounds_toArray, List.set_cons_succ, List.set_cons_zero]
  refine takeL (.pointer (some ⟨w.heap.size, 37, none⟩)) rfl (by go_simp) ?_
  try simp only [Act.put, List.setIfInBounds_toArray, List.set_cons_succ, List.set_cons_zero]
  refine load71 HA.out.heads HHS.out rfl rfl ?_
  try simp only [Act.put, List.setIfInBounds_toArray, List.set_cons_succ, List.set_cons_zero]
  refine build_g (build71 _) rfl ?_
  try simp only [Act.put, List.setIfInBounds_toArray, List.set_cons_succ, List.set_cons_zero]
  refine takeL (.bool true) rfl (by have hq := HE.out; go_simp) ?_
  try simp only [Act.put, List.setIfInBounds_toArray, List.set_cons_succ, List.set_cons_zero]
  refine takeL (.bool true) rfl (by go_simp) ?_
  try simp only [Act.put, List.setIfInBounds_toArray, List.set_cons_succ, List.set_cons_zero]
  go_wp2_with fail
  go_ret
  exact ⟨ret_bool (by simp [Bk.isZ, h0, h1, h2, h3, h4, h5, h6]), HB.out⟩
abbrev It.box (x : It) (sv : Value) (w : World) : World := w.alloc (.cells (x.arr sv) 75)
theorem ItAt.box {x : It} (h : x.Wf) (sv : Value) (w : World) : ItAt (x.box sv w) w.heap.size 0 x sv := ItAt.of (by
  have hb := Blk.new w (x.arr sv) 75
  exact hb.all rfl)
theorem ibox_below (x : It) (sv : Value) (w : World) : Below w.heap.size w (x.box sv w) := (Below.refl _ _).alloc (Nat.le_refl _) _
theorem ItAt.c2 {w : World} {g off : Nat} {x : It} {sv : Value} (h : ItAt w g off x sv) : w.cell? ⟨g, off + 2, none⟩ = some (.int .i64 x.blk.kind) := by
  have := h.blk 0 (by simp [Bk.arr, Bk.cells])
  simpa [Bk.arr, Bk.cells] using this
theorem ItAt.c3 {w : World} {g off : Nat} {x : It} {sv : Value} (h : ItAt w g off x sv) : w.cell? ⟨g, off + 3, none⟩ = some (.int .i64 x.blk.id) := by
  have := h.blk 1 (by simp [Bk.arr, Bk.cells])
  simpa [Bk.arr, Bk.cells] using this
/-- Does a block suit a mark, if it is to be one? -/
def It.suits (x : It) (v : Bool) : Bool := if v then decide (x.blk.kind = x.mark.1) && decide (x.blk.id = x.mark.2) && x.blk.good else x.blk.isZ
set_option maxRecDepth 100000 in
theorem isBlockOf_any (x : It) (sv : Value) (v : Bool) (hw : x.Wf) (hs : Len sv x.blk.bytes.length) (w : World) : Calls Tryz.prog 82 #[.agg (x.arr sv), .bool v] w fun e w' => e = .returned (.bool (x.suits v)) ∧ Below w.heap.size w w' := by
  have HA := Lib.hid (ItAt.box hw sv w)
  have HB := Lib.hid (ibox_below x sv w)
  have HZ := Lib.hid fun w => isZero_any x.blk sv hw.b hs w
  have HG := Lib.hid fun w => good_any x.blk sv hs hw.b w
  have HS := Lib.hid (x.blk.arr_size hw.b sv)
  have c0 : (x.box sv w).cell? ⟨w.heap.size, 0, none⟩ = some (.int .i64 x.mark.1) := HA.out.c0
  have c1 : (x.box sv w).cell? ⟨w.heap.size, 1, none⟩ = some (.int .i64 x.mark.2) := HA.out.c1
  have c2 : (x.box sv w).cell? ⟨w.heap.size, 2, none⟩ = some (.int .i64 x.blk.kind) := HA.out.c2
  have c3 : (x.box sv w).cell? ⟨w.heap.size, 3, none⟩ = some (.int .i64 x.blk.id) := HA.out.c3
  clear hw hs
  cases v
  · have HX : Hid (x.suits false = x.blk.isZ) := Lib.hid rfl
    rw [HX.out]
    clear c0 c1 c2 c3 HG
    go_enter Tryz.func82, Tryz.ntmps82
    go_upto_region 2 with fail
    refine wp_region_lit ?_
    refine takeL (.pointer (some ⟨w.heap.size, 2, none⟩)) rfl (by go_simp) ?_
    try simp only [Act.put, List.setIfInBounds_toArray, List.set_cons_succ, List.set_cons_zero]
    refine load73 HA.out.blk HS.out rfl rfl ?_
    try simp only [Act.put, List.setIfInBounds_toArray, List.set_cons_succ, List.set_cons_zero]
    refine wpList_op rfl fun K hK => ?_
    go_simp
    refine (HZ.out _).mono ?_
    rintro e w2 ⟨rfl, hb⟩
    have HB2 := Lib.hid (stay HB.out hb)
    clear hb
    refine hK _ _ ?_
    clear hK K
    try simp only [Act.put, List.setIfInBounds_toArray, List.set_cons_succ, List.set_cons_zero]
    refine takeL (.bool x.blk.isZ) rfl (by go_simp) ?_
    try simp only [Act.put, List.setIfInBounds_toArray, List.set_cons_succ, List.set_cons_zero]
    refine wpList_nil ?_
    go_wp2_with fail
    go_ret
    exact ⟨rfl, HB2.out⟩
  refine (Decidable.em (x.blk.kind = x.mark.1)).symm.elim (fun h0 => ?_) (fun h0 => ?_)
  · go_enter Tryz.func82, Tryz.ntmps82
    go_wp2_with fail
    go_ret
    exact ⟨ret_bool (by simp [It.suits, h0]), HB.out⟩
  refine (Decidable.em (x.blk.id = x.mark.2)).symm.elim (fun h1 => ?_) (fun h1 => ?_)
  · go_enter Tryz.func82, Tryz.ntmps82
    go_wp2_with fail
    go_ret
    exact ⟨ret_bool (by simp [It.suits, h1]), HB.out⟩
  have HX : Hid (x.suits true = x.blk.good) := Lib.hid (by simp [It.suits, h0, h1])
  rw [HX.out]
  rw [h0] at c2
  rw [h1] at c3
  clear h0 h1 HX
  go_enter Tryz.func82, Tryz.ntmps82
  go_upto_region 3 with fail
  refine wp_region_lit ?_
  refine takeL (.pointer (some ⟨w.heap.size, 2, none⟩)) rfl (by go_simp) ?_
  try simp only [Act.put, List.setIfInBounds_toArray, List.set_cons_succ, List.set_cons_zero]
  refine takeL (.pointer (some ⟨w.heap.size, 2, none⟩)) rfl (by go_simp) ?_
  try simp only [Act.put, List.setIfInBounds_toArray, List.set_cons_succ, List.set_cons_zero]
  refine takeL (.int .i64 x.mark.1) rfl (by go_simp) ?_
  try simp only [Act.put, List.setIfInBounds_toArray, List.set_cons_succ, List.set_cons_zero]
  refine takeL (.pointer (some ⟨w.heap.size, 0, none⟩)) rfl (by go_simp) ?_
  try simp only [Act.put, List.setIfInBounds_toArray, List.set_cons_succ, List.set_cons_zero]
  refine takeL (.pointer (some ⟨w.heap.size, 0, none⟩)) rfl (by go_simp) ?_
  try simp only [Act.put, List.setIfInBounds_toArray, List.set_cons_succ, List.set_cons_zero]
  refine takeL (.int .i64 x.mark.1) rfl (by go_simp) ?_
  try simp only [Act.put, List.setIfInBounds_toArray, List.set_cons_succ, List.set_cons_zero]
  refine takeL (.bool true) rfl (by go_simp) ?_
  try simp only [Act.put, List.setIfInBounds_toArray, List.set_cons_succ, List.set_cons_zero]
  refine takeL (.bool true) rfl (by go_simp) ?_
  try simp only [Act.put, List.setIfInBounds_toArray, List.set_cons_succ, List.set_cons_zero]
  refine takeL (.pointer (some ⟨w.heap.size, 2, none⟩)) rfl (by go_simp) ?_
  try simp only [Act.put, List.setIfInBounds_toArray, List.set_cons_succ, List.set_cons_zero]
  refine takeL (.pointer (some ⟨w.heap.size, 3, none⟩)) rfl (by go_simp) ?_
  try simp only [Act.put, List.setIfInBounds_toArray, List.set_cons_succ, List.set_cons_zero]
  refine takeL (.int .i64 x.mark.2) rfl (by go_simp) ?_
  try simp only [Act.put, List.setIfInBounds_toArray, List.set_cons_succ, List.set_cons_zero]
  refine takeL (.pointer (some ⟨w.heap.size, 0, none⟩)) rfl (by go_simp) ?_
  try simp only [Act.put, List.setIfInBounds_toArray, List.set_cons_succ, List.set_cons_zero]
  refine takeL (.pointer (some ⟨w.heap.size, 1, none⟩)) rfl (by go_simp) ?_
  try simp only [Act.put, List.setIfInBounds_toArray, List.set_cons_succ, List.set_cons_zero]
  refine takeL (.int .i64 x.mark.2) rfl (by go_simp) ?_
  try simp only [Act.put, List.setIfInBounds_toArray, List.set_cons_succ, List.set_cons_zero]
  refine takeL (.bool true) rfl (by go_simp) ?_
  try simp only [Act.put, List.setIfInBounds_toArray, List.set_cons_succ, List.set_cons_zero]
  refine takeL (.bool true) rfl (by go_simp) ?_
  try simp only [Act.put, List.setIfInBounds_toArray, List.set_cons_succ, List.set_cons_zero]
  refine takeL (.bool true) rfl (by go_simp) ?_
  try simp only [Act.put, List.setIfInBounds_toArray, List.set_cons_succ, List.set_cons_zero]
  refine takeL (.pointer (some ⟨w.heap.size, 2, none⟩)) rfl (by go_simp) ?_
  try simp only [Act.put, List.setIfInBounds_toArray, List.set_cons_succ, List.set_cons_zero]
  refine load73 HA.out.blk HS.out rfl rfl ?_
  try simp only [Act.put, List.setIfInBounds_toArray, List.set_cons_succ, List.set_cons_zero]
  clear c0 c1 c2 c3
  refine wpList_op rfl fun K hK => ?_
  go_simp
  refine (HG.out _).mono ?_
  rintro e w2 ⟨rfl, hb⟩
  have HB2 := Lib.hid (stay HB.out hb)
  clear hb
  refine hK _ _ ?_
  clear hK K
  try simp only [Act.put, List.setIfInBounds_toArray, List.set_cons_succ, List.set_cons_zero]
  refine takeL (.bool x.blk.good) rfl (by go_simp) ?_
  try simp only [Act.put, List.setIfInBounds_toArray, List.set_cons_succ, List.set_cons_zero]
  refine takeL (.bool x.blk.good) rfl (by go_simp) ?_
  try simp only [Act.put, List.setIfInBounds_toArray, List.set_cons_succ, List.set_cons_zero]
  refine wpList_nil ?_
  go_wp2_with fail
  go_ret
  exact ⟨rfl, HB2.out⟩
theorem partsOf_any (sv : Value) (n : Nat) (hs : Len sv n) (hn : n ≤ 1000000) (w : World) : Calls Tryz.prog 65 #[sv] w fun e w' => e = .returned (.int .i64 (parts n)) ∧ w = w' := by
  obtain ⟨a, c, rfl⟩ := hs
  have e : Hid (((parts n : Nat) : Int) = ((n : Int) + 24 - 1) / 24) := Lib.hid (by unfold parts; omega)
  rw [e.out]
  go_enter Tryz.func65, Tryz.ntmps65
  go_wp2_with fail
  go_ret
  exact ⟨rfl, rfl⟩
/-- Which slots are taken. -/
def tkn (l : List It) : List Bool := (List.range 72).map fun (s : Nat) => l.any fun x => decide (slotOf x.mark = s)
abbrev bls (l : List Bool) : List Value := l.map Value.bool
theorem tkn_length (p : List It) : (tkn p).length = 72 := by simp [tkn]
theorem tkn_at (p : List It) {s : Nat} (h : s < 72) : (tkn p)[s]? = some (p.any fun x => decide (slotOf x.mark = s)) := by simp [tkn, h]
theorem tkn_snoc (p : List It) (x : It) (s : Nat) (hs : slotOf x.mark = s) (h : s < 72) : (tkn p).set s true = tkn (p ++ [x]) := by
  apply List.ext_getElem?
  intro i
  by_cases hi : i < 72
  · rw [tkn_at _ hi, List.getElem?_set, tkn_length, tkn_at _ hi]
    by_cases e : s = i
    · subst e
      simp [h, hs]
    · have : ¬ ((s : Int) = (i : Int)) := by omega
      simp [e, hs, this]
  · rw [List.getElem?_eq_none (by simp [tkn]; omega), List.getElem?_eq_none (by simp [tkn]; omega)]
theorem tkn_nil : tkn [] = List.replicate 72 false := by decide
/-- Are the items up to k right, by themselves? -/
def okTo (l : List It) (k : Nat) : Prop := (∀ x ∈ l.take k, x.ok = true) ∧ (slots (l.take k)).Nodup
theorem okTo_zero (l : List It) : okTo l 0 := ⟨fun x hx => by simp at hx, by simp [slots]⟩
theorem take_snoc {l : List It} {k : Nat} {x : It} (hx : l[k]? = some x) : l.take (k + 1) = l.take k ++ [x] := by rw [List.take_add_one, hx]; rfl
theorem okTo_step {l : List It} {k : Nat} {x : It} (h : okTo l k) (hx : l[k]? = some x) (ho : x.ok = true) (hn : ((l.take k).any fun y => decide (slotOf y.mark = slotOf x.mark)) = false) : okTo l (k + 1) := by
  unfold okTo
  rw [take_snoc hx]
  refine ⟨fun y hy => ?_, ?_⟩
  · rcases List.mem_append.1 hy with hy | hy
    · exact h.1 y hy
    · obtain rfl := List.mem_singleton.1 hy
      exact ho
  · rw [slots, List.map_append, List.nodup_append]
    refine ⟨h.2, by simp, fun a ha b hb => ?_⟩
    obtain ⟨y, hy, rfl⟩ := List.mem_map.1 ha
    simp at hb
    subst hb
    intro e
    have : ((l.take k).any fun y => decide (slotOf y.mark = slotOf x.mark)) = true := List.any_eq_true.2 ⟨y, hy, decide_eq_true e⟩
    rw [hn] at this
    cases this
theorem no_ok {l : List It} {k : Nat} {x : It} (hx : l[k]? = some x) (ho : x.ok = false) : mayBe l = false := by
  rw [← Bool.not_eq_true, mayBe_iff]
  rintro ⟨-, -, h, -⟩
  have := h x (List.mem_of_getElem? hx)
  rw [ho] at this
  cases this
theorem no_twice {l : List It} {k : Nat} {x : It} (hx : l[k]? = some x) (hn : ((l.take k).any fun y => decide (slotOf y.mark = slotOf x.mark)) = true) : mayBe l = false := by
  rw [← Bool.not_eq_true, mayBe_iff]
  rintro ⟨-, -, -, h⟩
  have h2 : (slots (l.take (k + 1))).Nodup := by
    have : slots (l.take (k + 1)) = (slots l).take (k + 1) := by simp [slots, List.map_take]
    rw [this]
    exact h.sublist (List.take_sublist _ _)
  rw [take_snoc hx, slots, List.map_append, List.nodup_append] at h2
  obtain ⟨y, hy, e⟩ := List.any_eq_true.1 hn
  exact h2.2.2 _ (List.mem_map.2 ⟨y, hy, rfl⟩) (slotOf x.mark) (by simp) (of_decide_eq_true e)
theorem may_all {l : List It} (h1 : 1 ≤ l.length) (h2 : l.length ≤ 64) (h : okTo l l.length) : mayBe l = true := by
  unfold okTo at h
  rw [List.take_length] at h
  exact mayBe_iff.2 ⟨h1, h2, h⟩
theorem zero159 : (Tryz.prog.info? 159).bind (·.zero) = some (.agg (bls (List.replicate 72 false)).toArray) := by kernel_rfl
set_option maxRecDepth 100000 in
set_option maxHeartbeats 2000000 in
theorem mayBe_any (l : List (It × Value)) (n : Nat) (hn : l.length = n) (sv : Value) (hlen : n ≤ 1000000) (w : World) (h : ItemsAt w sv l) : Calls Tryz.prog 64 #[sv] w fun e w' => e = .returned (.bool (mayBe (l.map (·.1)))) ∧ Below w.heap.size w w' := by
  obtain ⟨L, hL⟩ : ∃ L, l.map (·.1) = L := ⟨_, rfl⟩
  have hLn : L.length = n := by rw [← hL, List.length_map, hn]
  rw [hL]
  by_cases h1 : n < 1
  · obtain ⟨a, cap, rfl, -⟩ := h
    have HX : Hid (mayBe L = false) := Lib.hid (by rw [← Bool.not_eq_true, mayBe_iff]; omega)
    rw [HX.out, hn]
    have d1 : decide ((n : Int) < 1) = true := decide_eq_true (by omega)
    clear hn hL hLn h1
    go_enter Tryz.func64, Tryz.ntmps64
    go_wp2_with fail
    go_ret
    exact ⟨rfl, Below.refl _ _⟩
  by_cases h2 : 64 < n
  · obtain ⟨a, cap, rfl, -⟩ := h
    have HX : Hid (mayBe L = false) := Lib.hid (by rw [← Bool.not_eq_true, mayBe_iff]; omega)
    rw [HX.out, hn]
    have d1 : decide ((n : Int) < 1) = false := decide_eq_false (by omega)
    have d2 : decide (64 < (n : Int)) = true := decide_eq_true (by omega)
    clear hn hL hLn h1 h2
    go_enter Tryz.func64, Tryz.ntmps64
    go_wp2_with fail
    go_ret
    exact ⟨rfl, Below.refl _ _⟩
  obtain ⟨g, o, cap, rfl, hcap, hg, hc⟩ := h.has (by omega)
  rw [hn]
  have d1 : decide ((n : Int) < 1) = false := decide_eq_false (by omega)
  have d2 : decide (64 < (n : Int)) = false := decide_eq_false (by omega)
  have HC := Lib.hid hc
  have HG := Lib.hid hg
  have HL := Lib.hid hL
  have HLN := Lib.hid hLn
  have HN := Lib.hid hn
  have hn64 : (n : Int) ≤ 64 := by omega
  have HN1 : Hid (1 ≤ n) := Lib.hid (by omega)
  clear hc hg hL hLn hn h1 h2 h hcap hlen
  go_enter Tryz.func64, Tryz.ntmps64
  go_upto_region 3 with fail
  refine wp_region_lit ?_
  refine alloc_g zero159 rfl ?_
  intro w0 hT hb0 hl0
  try simp only [Act.put, List.setIfInBounds_toArray, List.set_cons_succ, List.set_cons_zero]
  have HT0 := Lib.hid hT
  have HB0 := Lib.hid hb0
  have HL0 := Lib.hid hl0
  clear hT hb0 hl0
  refine wpList_nil ?_
  go_wp2_with fail
  go_loopg [18] n (fun q i wr => ∃ k : Nat, n - k ≤ q ∧ k ≤ n ∧ i = .int .i64 k ∧ okTo L k ∧ Blk wr w.heap.size (bls (tkn (L.take k))) ∧ Below w.heap.size w wr)
  case atStart => exact ⟨0, by omega, by omega, rfl, okTo_zero L, by rw [List.take_zero, tkn_nil]; exact HT0.out, HB0.out⟩
  case round =>
    obtain ⟨k, hq, hk, rfl, hok, hblk, hb⟩ := hrel
    have HOK := Lib.hid hok
    have HBK := Lib.hid hblk
    have HB := Lib.hid hb
    clear hok hblk hb HT0 HB0 HL0
    by_cases hlt : k < n
    · obtain ⟨xv, hx⟩ : ∃ x, l[k]? = some x := ⟨_, List.getElem?_eq_getElem (by have := HN.out; omega)⟩
      obtain ⟨x, bv⟩ := xv
      obtain ⟨x1, x2, x3⟩ := HC.out k _ hx
      have HLX : Hid (L[k]? = some x) := Lib.hid (by rw [← HL.out, List.getElem?_map, hx]; rfl)
      have HW := Lib.hid x1
      have HLE := Lib.hid x2.len
      have HX := Lib.hid (x3.below HB.out HG.out)
      have HM := Lib.hid fun w => isMark_any x.mark x1.k x1.i w
      have HF := Lib.hid fun v w => isBlockOf_any x bv v x1 x2.len w
      have gk : decide ((k : Int) < (n : Int)) = true := decide_eq_true (by omega)
      have hk0 : (k : Int) < (n : Int) := by omega
      clear x1 x2 x3 hx
      go_upto_region 6 with fail
      refine wp_region_lit ?_
      refine takeL (.pointer (some ⟨g, o + k * 47, none⟩)) rfl (by go_simp) ?_
      try simp only [Act.put, List.setIfInBounds_toArray, List.set_cons_succ, List.set_cons_zero]
      refine load75 HX.out (x.arr_size HW.out bv) rfl rfl ?_
      try simp only [Act.put, List.setIfInBounds_toArray, List.set_cons_succ, List.set_cons_zero]
      refine alloc_g zero75b rfl ?_
      intro w1 hA hb hl
      try simp only [Act.put, List.setIfInBounds_toArray, List.set_cons_succ, List.set_cons_zero]
      refine store_all (cs := x.arr bv) hA (same75 It.none_wf HW.out _ _) (info75s HW.out _) (It.arr_one (slice_one HLE.out)) rfl rfl rfl ?_
      intro w2 hD hO hlD
      try simp only [Act.put, List.setIfInBounds_toArray, List.set_cons_succ, List.set_cons_zero]
      have hbb : Below wr.heap.size wr w2 := hb.trans (hO.below hb.size fun k hk => Nat.le_of_eq hk.symm)
      have HB2 := Lib.hid (stay HB.out hbb)
      have HK2 := Lib.hid (HBK.out.below hbb HBK.out.lt)
      have HA2 := Lib.hid (ItAt.of (x := x) (sv := bv) (w := w2) (g := wr.heap.size) (off := 0) (hD.all rfl))
      have HLT : Hid (wr.heap.size < w2.heap.size) := Lib.hid (by omega)
      have HNE : Hid (w.heap.size ≠ wr.heap.size) := Lib.hid (by have := HBK.out.lt; omega)
      generalize wr.heap.size = t at *
      clear hA hb hl hD hO hlD hbb HX HB HBK
      refine wpList_nil ?_
      have c0 : w2.cell? ⟨t, 0, none⟩ = some (.int .i64 x.mark.1) := HA2.out.c0
      have c1 : w2.cell? ⟨t, 1, none⟩ = some (.int .i64 x.mark.2) := HA2.out.c1
      go_wp2_with fail
      refine (HM.out _).mono ?_
      rintro e w3 ⟨rfl, hb⟩
      have HB3 := Lib.hid (stay HB2.out hb)
      have HK3 := Lib.hid (HK2.out.below hb HK2.out.lt)
      have HA3 := Lib.hid (HA2.out.below hb HLT.out)
      have HLT3 : Hid (t < w3.heap.size) := Lib.hid (Nat.lt_of_lt_of_le HLT.out hb.size)
      clear hb HB2 HK2 HA2 HLT c0 c1 HM
      cases hm : okMark x.mark
      · have HX : Hid (mayBe L = false) := Lib.hid (no_ok HLX.out (by unfold It.ok; rw [hm]; rfl))
        go_wp2_with fail
        go_ret
        exact ⟨ret_bool HX.out.symm, HB3.out⟩
      have HTE := Lib.hid fun w => tell_any x.mark hm w
      obtain ⟨hs1, hs2⟩ := slot_range hm
      have HMK := Lib.hid hm
      obtain ⟨s, hs⟩ : ∃ s : Nat, slotOf x.mark = s := ⟨(slotOf x.mark).toNat, by omega⟩
      have HSL := Lib.hid hs
      rw [hs] at HTE hs1 hs2
      have c0 : w3.cell? ⟨t, 0, none⟩ = some (.int .i64 x.mark.1) := HA3.out.c0
      have c1 : w3.cell? ⟨t, 1, none⟩ = some (.int .i64 x.mark.2) := HA3.out.c1
      clear hm hs
      go_wp2_with fail
      refine (HTE.out _).mono ?_
      rintro e w4 ⟨rfl, hb⟩
      have HB4 := Lib.hid (stay HB3.out hb)
      have HK4 := Lib.hid (HK3.out.below hb HK3.out.lt)
      have HA4 := Lib.hid (HA3.out.below hb HLT3.out)
      have HLT4 : Hid (t < w4.heap.size) := Lib.hid (Nat.lt_of_lt_of_le HLT3.out hb.size)
      clear hb HB3 HK3 HA3 HLT3 c0 c1 HTE
      have ct : w4.cell? ⟨w.heap.size, s, none⟩ = some (.bool ((L.take k).any fun x => decide (slotOf x.mark = s))) := HK4.out.cell (by rw [List.getElem?_map, tkn_at _ (by omega)]; rfl)
      obtain ⟨tk, htk⟩ : ∃ v, ((L.take k).any fun x => decide (slotOf x.mark = s)) = v := ⟨_, rfl⟩
      rw [htk] at ct
      have HTK := Lib.hid htk
      clear htk
      cases tk
      case true =>
        have HX : Hid (mayBe L = false) := Lib.hid (no_twice HLX.out (by rw [HSL.out]; exact HTK.out))
        go_wp2_with fail
        go_ret
        exact ⟨ret_bool HX.out.symm, HB4.out⟩
      have cf : w4.frozen? ⟨w.heap.size, s, none⟩ = false := HK4.out.frozen s
      go_upto_region 10 with fail
      refine wp_region_lit ?_
      refine takeL (.int .i64 s) rfl (by go_simp) ?_
      try simp only [Act.put, List.setIfInBounds_toArray, List.set_cons_succ, List.set_cons_zero]
      refine takeL (.pointer (some ⟨w.heap.size, s, none⟩)) rfl (by go_simp) ?_
      try simp only [Act.put, List.setIfInBounds_toArray, List.set_cons_succ, List.set_cons_zero]
      refine takeL (.bool false) rfl (by go_simp) ?_
      try simp only [Act.put, List.setIfInBounds_toArray, List.set_cons_succ, List.set_cons_zero]
      refine takeL (.bool false) rfl (by go_simp) ?_
      try simp only [Act.put, List.setIfInBounds_toArray, List.set_cons_succ, List.set_cons_zero]
      refine load75 HA4.out.all (x.arr_size HW.out bv) rfl rfl ?_
      try simp only [Act.put, List.setIfInBounds_toArray, List.set_cons_succ, List.set_cons_zero]
      refine takeL (.bool (hasBlock x.mark.1)) rfl (by go_simp) ?_
      try simp only [Act.put, List.setIfInBounds_toArray, List.set_cons_succ, List.set_cons_zero]
      refine wpList_op rfl fun K hK => ?_
      go_simp
      refine (HF.out _ _).mono ?_
      rintro e w5 ⟨rfl, hb⟩
      have HB5 := Lib.hid (stay HB4.out hb)
      have HK5 := Lib.hid (HK4.out.below hb HK4.out.lt)
      clear hb HB4 HK4 HA4 HLT4 ct cf HF
      have HSU : Hid (x.suits (hasBlock x.mark.1) = x.fits) := Lib.hid rfl
      refine hK _ _ ?_
      clear hK K
      try simp only [Act.put, List.setIfInBounds_toArray, List.set_cons_succ, List.set_cons_zero]
      rw [HSU.out]
      cases hf : x.fits
      · have HX : Hid (mayBe L = false) := Lib.hid (no_ok HLX.out (by unfold It.ok; rw [hf, Bool.and_false]))
        refine takeL (.bool true) rfl (by go_simp) ?_
        try simp only [Act.put, List.setIfInBounds_toArray, List.set_cons_succ, List.set_cons_zero]
        refine takeL (.bool true) rfl (by go_simp) ?_
        try simp only [Act.put, List.setIfInBounds_toArray, List.set_cons_succ, List.set_cons_zero]
        refine wpList_nil ?_
        go_wp2_with fail
        go_ret
        exact ⟨ret_bool HX.out.symm, HB5.out⟩
      have HOKX : Hid (x.ok = true) := Lib.hid (by unfold It.ok; rw [hf, HMK.out]; rfl)
      have HST := Lib.hid (okTo_step HOK.out HLX.out HOKX.out (by rw [HSL.out]; exact HTK.out))
      have HK6 : Hid (Blk (w5.setCell ⟨w.heap.size, s, none⟩ (.bool true)) w.heap.size (bls (tkn (L.take (k + 1))))) := Lib.hid (by
        have := HK5.out.set s (.bool true)
        rw [take_snoc HLX.out, ← tkn_snoc _ x s HSL.out (by omega)]
        simpa [bls, List.map_set] using this)
      have HB6 : Hid (Below w.heap.size w (w5.setCell ⟨w.heap.size, s, none⟩ (.bool true))) := Lib.hid ⟨HB5.out.os, HB5.out.tape, HB5.out.output, by simpa using HB5.out.size, fun i hi => (heap_setCell_other w5 ⟨w.heap.size, s, none⟩ i _ (by simp; omega)).trans (HB5.out.block i hi)⟩
      have ct : w5.cell? ⟨w.heap.size, s, none⟩ = some (.bool false) := HK5.out.cell (by rw [List.getElem?_map, tkn_at _ (by omega), HTK.out]; rfl)
      have cf : w5.frozen? ⟨w.heap.size, s, none⟩ = false := HK5.out.frozen s
      clear hf
      refine takeL (.bool false) rfl (by go_simp) ?_
      try simp only [Act.put, List.setIfInBounds_toArray, List.set_cons_succ, List.set_cons_zero]
      refine takeL (.bool false) rfl (by go_simp) ?_
      try simp only [Act.put, List.setIfInBounds_toArray, List.set_cons_succ, List.set_cons_zero]
      refine wpList_nil ?_
      go_wp2_with fail
      go_roundg (n - (k + 1))
      case measure => omega
      case rel => exact ⟨k + 1, by omega, by omega, by go_num, HST.out, HK6.out, HB6.out⟩
    · obtain rfl : k = n := by omega
      have HX : Hid (mayBe L = true) := Lib.hid (may_all (by have := HLN.out; have := HN1.out; omega) (by have := HLN.out; omega) (by have := HLN.out; rw [this]; exact HOK.out))
      have gk : decide ((k : Int) < (k : Int)) = false := decide_eq_false (by omega)
      go_wp2_with fail
      go_ret
      exact ⟨ret_bool HX.out.symm, HB.out⟩
theorem mrow_step {ms : List Mk} {k n : Nat} {m : Mk} (hk : k < n) (hm : ms.length = k) : ((flat ms ++ zeros ((n - k) * 2)).set (k * 2) m.1).set (k * 2 + 1) m.2 = flat (ms ++ [m]) ++ zeros ((n - (k + 1)) * 2) := by
  have hz : zeros ((n - k) * 2) = 0 :: 0 :: zeros ((n - (k + 1)) * 2) := by
    rw [show (n - k) * 2 = (n - (k + 1)) * 2 + 1 + 1 by omega]
    rfl
  have hf : (flat ms).length = k * 2 := by rw [sflat_length, hm]; omega
  rw [hz, flat_append, List.set_append_right _ _ (by omega), List.set_append_right _ _ (by omega), hf, Nat.sub_self, show k * 2 + 1 - k * 2 = 1 by omega]
  simp [flat]
theorem madeMk (n : Nat) (hn : n < 100000) (w : World) : (Instr.makeSlice 184 (.int .i64 n) (.int .i64 n)).run Tryz.prog w = .ok (.slice (some ⟨w.heap.size, 0, none⟩) n n) (w.alloc (.cells (madeCells #[.int .i64 0, .int .i64 0] (n * 2)) 68)) := by
  obtain ⟨i, hi, hz, hs, hb⟩ := inf68
  have hr := run_makeSlice (P := Tryz.prog) w 184 68 i (.agg #[.int .i64 0, .int .i64 0]) Tryz.underlying184 hi hz .i64 .i64 n n (by omega) (Int.le_refl _) (by rw [hs]; omega) (by rw [hb]; omega) (by omega)
  simpa [hs, Value.cells] using hr
theorem marks_snoc {L : List It} {k : Nat} {x : It} (hx : L[k]? = some x) : marks (L.take (k + 1)) = marks (L.take k) ++ [x.mark] := by rw [take_snoc hx]; simp [marks]
set_option maxRecDepth 100000 in
set_option maxHeartbeats 2000000 in
theorem gmarks_any (l : List (It × Value)) (L : List It) (hL : l.map (·.1) = L) (n : Nat) (hn : l.length = n) (sv : Value) (hlen : n < 100000) (w : World) (h : ItemsAt w sv l) : Calls Tryz.prog 89 #[sv] w fun e w' => ∃ cap, e = .returned (.slice (some ⟨w.heap.size, 0, none⟩) n cap) ∧ MarksAt w' (.slice (some ⟨w.heap.size, 0, none⟩) n cap) (marks L) ∧ Below w.heap.size w w' := by
  have hLn : L.length = n := by rw [← hL, List.length_map, hn]
  obtain ⟨a, cap, rfl, hcap, hc⟩ := h
  rw [hn]
  have HC := Lib.hid hc
  have HL := Lib.hid hL
  have HLN := Lib.hid hLn
  have HN := Lib.hid hn
  have hmk := madeMk n hlen w
  clear hc hL hLn hn hcap
  go_enter Tryz.func89, Tryz.ntmps89
  go_upto_region 1 with fail
  go_wp2_with fail
  have HT0 : Hid (Blk (w.alloc (.cells (madeCells #[.int .i64 0, .int .i64 0] (n * 2)) 68)) w.heap.size (i64s (zeros (n * 2)))) := Lib.hid (by
    have := Blk.new w (madeCells #[.int .i64 0, .int .i64 0] (n * 2)) 68
    rwa [made_marks] at this)
  have HB0 : Hid (Below w.heap.size w (w.alloc (.cells (madeCells #[.int .i64 0, .int .i64 0] (n * 2)) 68))) := Lib.hid ((Below.refl _ _).alloc (Nat.le_refl _) _)
  go_loopg [11] n (fun q i wr => ∃ k : Nat, n - k ≤ q ∧ k ≤ n ∧ i = .int .i64 k ∧ Blk wr w.heap.size (i64s (flat (marks (L.take k)) ++ zeros ((n - k) * 2))) ∧ Below w.heap.size w wr)
  case atStart => exact ⟨0, by omega, by omega, rfl, HT0.out, HB0.out⟩
  case round =>
    obtain ⟨k, hq, hk, rfl, hblk, hb⟩ := hrel
    have HBK := Lib.hid hblk
    have HB := Lib.hid hb
    clear hblk hb HT0 HB0 hmk
    by_cases hlt : k < n
    · obtain ⟨xv, hx⟩ : ∃ x, l[k]? = some x := ⟨_, List.getElem?_eq_getElem (by have := HN.out; omega)⟩
      obtain ⟨x, bv⟩ := xv
      obtain ⟨x1, x2, g, o, rfl, x3⟩ := HC.out k _ hx
      have HLX : Hid (L[k]? = some x) := Lib.hid (by rw [← HL.out, List.getElem?_map, hx]; rfl)
      have HW := Lib.hid x1
      have HLE := Lib.hid x2.len
      have HX := Lib.hid (x3.below HB.out (x3.lt (by rw [It.arr_size x1]; decide)))
      have gk : decide ((k : Int) < (n : Int)) = true := decide_eq_true (by omega)
      have hk0 : (k : Int) < (n : Int) := by omega
      clear x1 x2 x3 hx
      go_upto_region 4 with fail
      refine wp_region_lit ?_
      refine takeL (.int .i64 k) rfl (by go_simp) ?_
      try simp only [Act.put, List.setIfInBounds_toArray, List.set_cons_succ, List.set_cons_zero]
      refine takeL (.pointer (some ⟨g, o + k * 47, none⟩)) rfl (by go_simp) ?_
      try simp only [Act.put, List.setIfInBounds_toArray, List.set_cons_succ, List.set_cons_zero]
      refine load75 HX.out (x.arr_size HW.out bv) rfl rfl ?_
      try simp only [Act.put, List.setIfInBounds_toArray, List.set_cons_succ, List.set_cons_zero]
      refine alloc_g zero75b rfl ?_
      intro w1 hA hb hl
      try simp only [Act.put, List.setIfInBounds_toArray, List.set_cons_succ, List.set_cons_zero]
      refine takeL (.int .i64 k) rfl (by go_simp) ?_
      try simp only [Act.put, List.setIfInBounds_toArray, List.set_cons_succ, List.set_cons_zero]
      refine store_all (cs := x.arr bv) hA (same75 It.none_wf HW.out _ _) (info75s HW.out _) (It.arr_one (slice_one HLE.out)) rfl rfl rfl ?_
      intro w2 hD hO hlD
      try simp only [Act.put, List.setIfInBounds_toArray, List.set_cons_succ, List.set_cons_zero]
      have hbb : Below wr.heap.size wr w2 := hb.trans (hO.below hb.size fun k hk => Nat.le_of_eq hk.symm)
      have HB2 := Lib.hid (stay HB.out hbb)
      have HK2 := Lib.hid (HBK.out.below hbb HBK.out.lt)
      have HA2 := Lib.hid (ItAt.of (x := x) (sv := bv) (w := w2) (g := wr.heap.size) (off := 0) (hD.all rfl))
      have HNE : Hid (w.heap.size ≠ wr.heap.size) := Lib.hid (by have := HBK.out.lt; omega)
      generalize wr.heap.size = t at *
      clear hA hb hl hD hO hlD hbb HX HB HBK
      refine wpList_nil ?_
      have c0 : w2.cell? ⟨t, 0, none⟩ = some (.int .i64 x.mark.1) := HA2.out.c0
      have c1 : w2.cell? ⟨t, 1, none⟩ = some (.int .i64 x.mark.2) := HA2.out.c1
      have hz : (flat (marks (L.take k)) ++ zeros ((n - k) * 2)).length = n * 2 := by
        rw [List.length_append, sflat_length, zeros_length, List.length_map, List.length_take, HLN.out]
        omega
      have hd0 : ∃ v, (i64s (flat (marks (L.take k)) ++ zeros ((n - k) * 2)))[k * 2]? = some v := ⟨_, List.getElem?_eq_getElem (by rw [List.length_map, hz]; omega)⟩
      have hd1 : ∃ v, (i64s (flat (marks (L.take k)) ++ zeros ((n - k) * 2)))[k * 2 + 1]? = some v := ⟨_, List.getElem?_eq_getElem (by rw [List.length_map, hz]; omega)⟩
      obtain ⟨v0, hd0⟩ := hd0
      obtain ⟨v1, hd1⟩ := hd1
      have p0 : w2.cell? ⟨w.heap.size, k * 2, none⟩ = some v0 := HK2.out.cell hd0
      have p1 : w2.cell? ⟨w.heap.size, k * 2 + 1, none⟩ = some v1 := HK2.out.cell hd1
      have f0 : w2.frozen? ⟨w.heap.size, k * 2, none⟩ = false := HK2.out.frozen _
      have f1 : w2.frozen? ⟨w.heap.size, k * 2 + 1, none⟩ = false := HK2.out.frozen _
      have HK6 : Hid (Blk ((w2.setCell ⟨w.heap.size, k * 2, none⟩ (.int .i64 x.mark.1)).setCell ⟨w.heap.size, k * 2 + 1, none⟩ (.int .i64 x.mark.2)) w.heap.size (i64s (flat (marks (L.take (k + 1))) ++ zeros ((n - (k + 1)) * 2)))) := Lib.hid (by
        have := (HK2.out.set (k * 2) (.int .i64 x.mark.1)).set (k * 2 + 1) (.int .i64 x.mark.2)
        rw [marks_snoc HLX.out, ← mrow_step hlt (m := x.mark) (by rw [List.length_map, List.length_take, HLN.out]; omega)]
        simpa [i64s, List.map_set] using this)
      have HB6 : Hid (Below w.heap.size w ((w2.setCell ⟨w.heap.size, k * 2, none⟩ (.int .i64 x.mark.1)).setCell ⟨w.heap.size, k * 2 + 1, none⟩ (.int .i64 x.mark.2))) := Lib.hid ⟨HB2.out.os, HB2.out.tape, HB2.out.output, by simpa using HB2.out.size, fun i hi => ((heap_setCell_other _ ⟨w.heap.size, k * 2 + 1, none⟩ i _ (by simp; omega)).trans (heap_setCell_other w2 ⟨w.heap.size, k * 2, none⟩ i _ (by simp; omega))).trans (HB2.out.block i hi)⟩
      clear hd0 hd1 hz
      go_wp2_with fail
      go_roundg (n - (k + 1))
      case measure => omega
      case rel => exact ⟨k + 1, by omega, by omega, by go_num, HK6.out, HB6.out⟩
    · obtain rfl : k = n := by omega
      have HM : Hid (MarksAt wr (.slice (some ⟨w.heap.size, 0, none⟩) k k) (marks L)) := Lib.hid (by
        have := HBK.out
        rw [Nat.sub_self, Nat.zero_mul, List.take_of_length_le (by have := HLN.out; omega)] at this
        exact MarksAt.of_row (by simpa [zeros] using this) (by rw [List.length_map]; exact HLN.out))
      have gk : decide ((k : Int) < (k : Int)) = false := decide_eq_false (by omega)
      go_wp2_with fail
      go_ret
      exact ⟨_, rfl, HM.out, HB.out⟩
theorem built187s (n : Int) (b : Bool) (a : Option Addr) (k c : Nat) : Tryz.prog.built 187 [(0, .int .u32 n), (1, .bool b), (2, .slice a k c)] = some #[.int .u32 n, .bool b, .slice a k c] := by kernel_rfl
theorem items_small {w : World} {sv : Value} {l : List (It × Value)} (h : ItemsAt w sv l) : ∀ m ∈ marks (l.map (·.1)), Small m.1 ∧ Small m.2 := fun m hm => by
  obtain ⟨x, hx, rfl⟩ := List.mem_map.1 hm
  exact ⟨(h.wf x hx).k, (h.wf x hx).i⟩
set_option maxRecDepth 100000 in
theorem headOf_any2 (l : List (It × Value)) (L : List It) (hL : l.map (·.1) = L) (sv : Value) (hlen : l.length < 100000) (n : Int) (hn : Seq32 n) (m : Bool) (w : World) (h : ItemsAt w sv l) : Calls Tryz.prog 75 #[.int .u32 n, .bool m, sv] w fun e w' => e = .returned (.agg (u8s (headOfPart n m L)).toArray) ∧ Below w.heap.size w w' := by
  have HI := Lib.hid h
  have HM := Lib.hid fun w h => gmarks_any l L hL l.length rfl sv hlen w h
  have HE := Lib.hid fun tv w h => sencode_any ⟨n, m, marks L⟩ tv (by simp only [List.length_map]; rw [← hL, List.length_map]; omega) ⟨hn, by rw [← hL]; exact items_small HI.out⟩ w h
  have HS := Lib.hid (ssec_length ⟨n, m, marks L⟩)
  obtain ⟨e0, he0⟩ : ∃ e0, Sm.err ⟨n, m, marks L⟩ = e0 := ⟨_, rfl⟩
  have hh : headOfPart n m L = Sm.sec ⟨n, m, marks L⟩ := rfl
  rw [hh]
  generalize Sm.sec ⟨n, m, marks L⟩ = x at *
  rw [he0] at HE
  clear hh he0 hL
  obtain ⟨a, cap, rfl, -⟩ := h
  go_enter Tryz.func75, Tryz.ntmps75
  go_upto_region 0 with fail
  refine wp_region_lit ?_
  refine alloc_g zero115 rfl ?_
  intro w0 hR hb0 hl0
  try simp only [Act.put, List.setIfInBounds_toArray, List.set_cons_succ, List.set_cons_zero]
  have HR := Lib.hid hR
  have HB := Lib.hid hb0
  have HI0 := Lib.hid (HI.out.below hb0)
  have HL0 := Lib.hid hl0
  clear hR hb0 hl0
  refine wpList_nil ?_
  go_upto_region 1 with fail
  refine wp_region_lit ?_
  refine takeL (.int .u32 n) rfl (by go_simp) ?_
  try simp only [Act.put, List.setIfInBounds_toArray, List.set_cons_succ, List.set_cons_zero]
  refine takeL (.bool m) rfl (by go_simp) ?_
  try simp only [Act.put, List.setIfInBounds_toArray, List.set_cons_succ, List.set_cons_zero]
  refine takeL (.slice a l.length cap) rfl (by go_simp) ?_
  try simp only [Act.put, List.setIfInBounds_toArray, List.set_cons_succ, List.set_cons_zero]
  refine wpList_op rfl fun K hK => ?_
  go_simp
  refine (HM.out _ HI0.out).mono ?_
  rintro e w1 ⟨cap1, rfl, hm1, hb⟩
  have HB1 := Lib.hid (stay HB.out hb)
  have HR1 := Lib.hid (HR.out.below hb HL0.out)
  have HM1 := Lib.hid hm1
  have HL1 : Hid (w.heap.size < w1.heap.size) := Lib.hid (Nat.lt_of_lt_of_le HL0.out hb.size)
  clear hm1 hb HB HR HI0 HM
  refine hK _ _ ?_
  clear hK K
  try simp only [Act.put, List.setIfInBounds_toArray, List.set_cons_succ, List.set_cons_zero]
  refine takeL (.agg #[.int .u32 n, .bool m, .slice (some ⟨w0.heap.size, 0, none⟩) l.length cap1]) rfl (exec_build _ _ _ _ 187 _ rfl #[(0, .int .u32 n), (1, .bool m), (2, .slice (some ⟨w0.heap.size, 0, none⟩) l.length cap1)] (by simp only [List.map_toArray, List.map_cons, List.map_nil]; rfl) _ (run_build w1 187 _ _ (built187s _ _ _ _ _))) ?_
  try simp only [Act.put, List.setIfInBounds_toArray, List.set_cons_succ, List.set_cons_zero]
  refine wpList_op rfl fun K hK => ?_
  go_simp
  refine (HE.out _ _ HM1.out).mono ?_
  rintro e w2 ⟨rfl, hb⟩
  have HB2 := Lib.hid (stay HB1.out hb)
  have HR2 := Lib.hid (HR1.out.below hb HL1.out)
  have HL2 : Hid (w.heap.size < w2.heap.size) := Lib.hid (Nat.lt_of_lt_of_le HL1.out hb.size)
  clear hb HB1 HR1 HM1 HE
  refine hK _ _ ?_
  clear hK K
  try simp only [Act.put, List.setIfInBounds_toArray, List.set_cons_succ, List.set_cons_zero]
  refine takeL (.tuple #[.agg (u8s x).toArray, .int .i64 e0]) rfl (by go_simp) ?_
  try simp only [Act.put, List.setIfInBounds_toArray, List.set_cons_succ, List.set_cons_zero]
  refine takeL (.agg (u8s x).toArray) rfl (by go_simp) ?_
  try simp only [Act.put, List.setIfInBounds_toArray, List.set_cons_succ, List.set_cons_zero]
  refine takeL (.int .i64 e0) rfl (by go_simp) ?_
  try simp only [Act.put, List.setIfInBounds_toArray, List.set_cons_succ, List.set_cons_zero]
  refine alloc_g zero115 rfl ?_
  intro w3 hA hb hl
  try simp only [Act.put, List.setIfInBounds_toArray, List.set_cons_succ, List.set_cons_zero]
  refine store_all (cs := (u8s x).toArray) hA (by rw [u8s_size, HS.out]; rfl) (by rw [u8s_size, HS.out]; exact info115) (u8s_one _) rfl rfl rfl ?_
  intro w4 hD hO hlD
  try simp only [Act.put, List.setIfInBounds_toArray, List.set_cons_succ, List.set_cons_zero]
  have hbb : Below w2.heap.size w2 w4 := hb.trans (hO.below hb.size fun k hk => Nat.le_of_eq hk.symm)
  have HB4 := Lib.hid (stay HB2.out hbb)
  have HR4 := Lib.hid (HR2.out.below hbb HL2.out)
  have HD4 := Lib.hid hD
  clear hA hb hl hD hO hlD HB2 HR2 hbb
  refine takeL (.int .i64 e0) rfl (by go_simp) ?_
  try simp only [Act.put, List.setIfInBounds_toArray, List.set_cons_succ, List.set_cons_zero]
  refine wpList_nil ?_
  go_upto_region 2 with fail
  refine wp_region_lit ?_
  refine load115 (cs := (u8s x).toArray) (Blk.all HD4.out rfl) (by rw [u8s_size, HS.out]) rfl rfl ?_
  try simp only [Act.put, List.setIfInBounds_toArray, List.set_cons_succ, List.set_cons_zero]
  refine store_all (cs := (u8s x).toArray) HR4.out (by rw [u8s_size, HS.out]; rfl) (by rw [u8s_size, HS.out]; exact info115) (u8s_one _) rfl rfl rfl ?_
  intro w5 hZ hO hlZ
  try simp only [Act.put, List.setIfInBounds_toArray, List.set_cons_succ, List.set_cons_zero]
  have HB5 := Lib.hid (HB4.out.trans (hO.below HB4.out.size fun k hk => Nat.le_of_eq hk.symm))
  refine wpList_nil ?_
  go_wp2_with fail
  refine bodyPost_ret (v := .agg (u8s x).toArray) (results_cell_at rfl _ _ w.heap.size 0 _ _ rfl Tryz.underlying115 rfl (by rw [u8s_size, HS.out]; exact info115) (Blk.all hZ rfl)) rfl ⟨rfl, HB5.out⟩
set_option maxRecDepth 100000 in
theorem bodyOf_any (x : It) (bv : Value) (hw : x.Wf) (n : Int) (hn : Seq32 n) (w : World) (hb : BytesAt w bv x.blk.bytes) : Calls Tryz.prog 77 #[.int .u32 n, .agg (x.arr bv)] w fun e w' => e = .returned (.agg (u8s (x.blk.sec n)).toArray) ∧ Below w.heap.size w w' := by
  have HE := Lib.hid fun w h => encode_any x.blk bv n w h hw.b hn
  have HS := Lib.hid (bsec_sc hw.b n).length
  have HA0 := Lib.hid (ItAt.box hw bv w)
  have HB0 := Lib.hid (ibox_below x bv w)
  have HBY0 := Lib.hid (hb.below (ibox_below x bv w))
  have HAS := Lib.hid (x.blk.arr_size hw.b bv)
  have HLT0 : Hid (w.heap.size < (x.box bv w).heap.size) := Lib.hid (by simp)
  generalize x.blk.sec n = y at *
  obtain ⟨e0, he0⟩ : ∃ e0, x.blk.err = e0 := ⟨_, rfl⟩
  rw [he0] at HE
  clear he0 hw hb
  go_enter Tryz.func77, Tryz.ntmps77
  go_upto_region 0 with fail
  refine wp_region_lit ?_
  refine wpList_run (.pointer (some ⟨w.heap.size, 0, none⟩)) (x.box bv w) rfl (by go_simp <;> rfl) ?_
  try simp only [Act.put, List.setIfInBounds_toArray, List.set_cons_succ, List.set_cons_zero]
  generalize x.box bv w = w9 at *
  refine alloc_g zero115 rfl ?_
  intro w0 hR hb0 hl0
  try simp only [Act.put, List.setIfInBounds_toArray, List.set_cons_succ, List.set_cons_zero]
  have HR := Lib.hid hR
  have HB := Lib.hid (stay HB0.out hb0)
  have HA := Lib.hid (HA0.out.below hb0 HLT0.out)
  have HBY := Lib.hid (HBY0.out.below hb0)
  have HL0 := Lib.hid hl0
  have HLT : Hid (w.heap.size < w0.heap.size) := Lib.hid (Nat.lt_trans HLT0.out hl0)
  have HG9 : Hid (w.heap.size ≤ w9.heap.size) := Lib.hid HB0.out.size
  generalize w9.heap.size = r at *
  clear hR hb0 hl0 HA0 HB0 HBY0 HLT0
  refine wpList_nil ?_
  go_upto_region 1 with fail
  refine wp_region_lit ?_
  refine takeL (.pointer (some ⟨w.heap.size, 2, none⟩)) rfl (by go_simp) ?_
  try simp only [Act.put, List.setIfInBounds_toArray, List.set_cons_succ, List.set_cons_zero]
  refine load73 HA.out.blk HAS.out rfl rfl ?_
  try simp only [Act.put, List.setIfInBounds_toArray, List.set_cons_succ, List.set_cons_zero]
  refine takeL (.int .u32 n) rfl (by go_simp) ?_
  try simp only [Act.put, List.setIfInBounds_toArray, List.set_cons_succ, List.set_cons_zero]
  refine wpList_op rfl fun K hK => ?_
  go_simp
  refine (HE.out _ HBY.out).mono ?_
  rintro e w2 ⟨rfl, hb⟩
  have HB2 := Lib.hid (stay HB.out hb)
  have HR2 := Lib.hid (HR.out.below hb HL0.out)
  have HL2 : Hid (r < w2.heap.size) := Lib.hid (Nat.lt_of_lt_of_le HL0.out hb.size)
  clear hb HB HR HA HBY HE
  refine hK _ _ ?_
  clear hK K
  try simp only [Act.put, List.setIfInBounds_toArray, List.set_cons_succ, List.set_cons_zero]
  refine takeL (.tuple #[.agg (u8s y).toArray, .int .i64 e0]) rfl (by go_simp) ?_
  try simp only [Act.put, List.setIfInBounds_toArray, List.set_cons_succ, List.set_cons_zero]
  refine takeL (.agg (u8s y).toArray) rfl (by go_simp) ?_
  try simp only [Act.put, List.setIfInBounds_toArray, List.set_cons_succ, List.set_cons_zero]
  refine takeL (.int .i64 e0) rfl (by go_simp) ?_
  try simp only [Act.put, List.setIfInBounds_toArray, List.set_cons_succ, List.set_cons_zero]
  refine alloc_g zero115 rfl ?_
  intro w3 hA hb hl
  try simp only [Act.put, List.setIfInBounds_toArray, List.set_cons_succ, List.set_cons_zero]
  refine store_all (cs := (u8s y).toArray) hA (by rw [u8s_size, HS.out]; rfl) (by rw [u8s_size, HS.out]; exact info115) (u8s_one _) rfl rfl rfl ?_
  intro w4 hD hO hlD
  try simp only [Act.put, List.setIfInBounds_toArray, List.set_cons_succ, List.set_cons_zero]
  have hbb : Below w2.heap.size w2 w4 := hb.trans (hO.below hb.size fun k hk => Nat.le_of_eq hk.symm)
  have HB4 := Lib.hid (stay HB2.out hbb)
  have HR4 := Lib.hid (HR2.out.below hbb HL2.out)
  have HD4 := Lib.hid hD
  clear hA hb hl hD hO hlD HB2 HR2 hbb
  refine takeL (.int .i64 e0) rfl (by go_simp) ?_
  try simp only [Act.put, List.setIfInBounds_toArray, List.set_cons_succ, List.set_cons_zero]
  refine wpList_nil ?_
  go_upto_region 2 with fail
  refine wp_region_lit ?_
  refine load115 (cs := (u8s y).toArray) (Blk.all HD4.out rfl) (by rw [u8s_size, HS.out]) rfl rfl ?_
  try simp only [Act.put, List.setIfInBounds_toArray, List.set_cons_succ, List.set_cons_zero]
  refine store_all (cs := (u8s y).toArray) HR4.out (by rw [u8s_size, HS.out]; rfl) (by rw [u8s_size, HS.out]; exact info115) (u8s_one _) rfl rfl rfl ?_
  intro w5 hZ hO hlZ
  try simp only [Act.put, List.setIfInBounds_toArray, List.set_cons_succ, List.set_cons_zero]
  have HB5 := Lib.hid (HB4.out.trans (hO.below HB4.out.size fun k hk => by have := HG9.out; omega))
  refine wpList_nil ?_
  go_wp2_with fail
  refine bodyPost_ret (v := .agg (u8s y).toArray) (results_cell_at rfl _ _ r 0 _ _ rfl Tryz.underlying115 rfl (by rw [u8s_size, HS.out]; exact info115) (Blk.all hZ rfl)) rfl ⟨rfl, HB5.out⟩
theorem ItemsAt.len {w : World} {sv : Value} {l : List (It × Value)} (h : ItemsAt w sv l) : Len sv l.length := let ⟨a, cap, h, _⟩ := h; ⟨a, cap, h⟩
def partsN (L : List It) : Int := if mayBe L then ((parts L.length : Nat) : Int) else 0
set_option maxRecDepth 100000 in
theorem partsG_any (l : List (It × Value)) (L : List It) (hL : l.map (·.1) = L) (sv : Value) (hlen : l.length < 100000) (w : World) (h : ItemsAt w sv l) : Calls Tryz.prog 47 #[sv] w fun e w' => e = .returned (.int .i64 (partsN L)) ∧ Below w.heap.size w w' := by
  have HM := Lib.hid (hL ▸ mayBe_any l l.length rfl sv (by omega) w h)
  have HP := Lib.hid fun w => partsOf_any sv l.length h.len (by omega) w
  have HLN : Hid (L.length = l.length) := Lib.hid (by rw [← hL, List.length_map])
  obtain ⟨a, cap, rfl, -⟩ := h
  clear hL
  go_enter Tryz.func47, Tryz.ntmps47
  go_wp2_with fail
  refine HM.out.mono ?_
  rintro e w1 ⟨rfl, hb⟩
  have HB := Lib.hid hb
  clear hb HM
  cases hm : mayBe L
  · have HX : Hid (partsN L = 0) := Lib.hid (by unfold partsN; rw [hm]; rfl)
    go_wp2_with fail
    go_ret
    exact ⟨by rw [HX.out]; rfl, HB.out⟩
  · have HX : Hid (partsN L = ((parts l.length : Nat) : Int)) := Lib.hid (by unfold partsN; rw [hm, HLN.out]; rfl)
    go_wp2_with fail
    refine (HP.out _).mono ?_
    rintro e w2 ⟨rfl, rfl⟩
    go_wp2_with fail
    go_ret
    exact ⟨by rw [HX.out]; rfl, HB.out⟩

end Go.Proofs.YthlnmdihdcfphaaGreatDoor
