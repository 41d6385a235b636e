/- Gc: texts of elder seats turned: what the stage needs of them. -/
import Derived.Test.YtmlniannilnmhaaGreatDoorGb
import Derived.Deep.Cut
import Derived.Deep.CutRange
namespace Go.Proofs.YtmlniannilnmhaaGreatDoor
set_option linter.unusedSimpArgs false
set_option linter.unusedVariables false
open Go.RowKit

set_option maxRecDepth 100000 in
theorem rsector_any (sv : Value) (l : List Int) (h0 : 0 < l.length) (hl : l.length ≤ 64) (w : World) (hbs : BytesAt w sv l) : Calls Tryz.prog 87 #[sv] w fun e w' => e = .returned (.agg (u8s (l ++ zeros (64 - l.length))).toArray) ∧ Below w.heap.size w w' := by
  obtain ⟨p, q, cap, rfl, hc⟩ := hbs.has h0
  have HC := Lib.hid hc
  have HL := Lib.hid h0
  clear hc hbs h0
  go_enter Tryz.func87, Tryz.ntmps87
  repeat (first | (with_reducible refine stopR (id := 0) ?_) | go_values | go_skip | go_guarded | go_step | go_upon | go_back)
  refine Stop.mk (wp_region_lit ?_)
  refine alloc_g zero72 rfl ?_
  intro w1 hR hB hl1
  try simp only [Act.put, List.setIfInBounds_toArray, List.set_cons_succ, List.set_cons_zero]
  refine wpList_nil ?_
  repeat (first | (with_reducible refine stopR (id := 1) ?_) | go_values | go_skip | go_guarded | go_step | go_upon | go_back)
  refine Stop.mk (wp_region_lit ?_)
  refine alloc_g zero72 rfl ?_
  intro w2 hS hB2 hl2
  try simp only [Act.put, List.setIfInBounds_toArray, List.set_cons_succ, List.set_cons_zero]
  have HR : Hid (Blk w2 w.heap.size (u8s (zeros 64))) := Lib.hid (hR.below hB2 hl1)
  have HS : Hid (Blk w2 w1.heap.size (u8s (zeros 64))) := Lib.hid hS
  have HB := Lib.hid (hB.trans (hB2.mono hB.size))
  have HLT := Lib.hid hl1
  have HC2 := Lib.hid (fun (j : Nat) (v : Int) (hv : l[j]? = some v) => show w2.cell? ⟨p, q + j, none⟩ = some (.int .u8 v) from by
    have := HC.out j v hv
    have h1 := (hB.cell (block_lt_of_cell this)).trans this
    exact (hB2.cell (block_lt_of_cell h1)).trans h1)
  clear hR hS hB hB2 hl1 hl2
  generalize w1.heap.size = s at *
  clear w1
  refine wpList_nil ?_
  repeat (first | (with_reducible refine stopR (id := 2) ?_) | go_values | go_skip | go_guarded | go_step | go_upon | go_back)
  refine Stop.mk (wp_region_lit ?_)
  refine takeL (.slice (some ⟨s, 0, none⟩) 64 64) rfl (by go_simp) ?_
  try simp only [Act.put, List.setIfInBounds_toArray, List.set_cons_succ, List.set_cons_zero]
  refine takeL (.slice (some ⟨p, q, none⟩) l.length cap) rfl (by go_simp) ?_
  try simp only [Act.put, List.setIfInBounds_toArray, List.set_cons_succ, List.set_cons_zero]
  refine wpList_op rfl fun K hK => ?_
  refine wp_copy _ _ rfl Tryz.underlying97 info5s s 0 64 64 p q l.length cap rfl rfl (u8s (zeros 64)) l HS.out (Nat.min_eq_left hl).symm (fun j v hv => HC2.out j v hv) (by simp [zeros]; omega) (some 6) rfl fun w3 hb ho => ?_
  refine hK _ _ ?_
  clear hK K
  try simp only [Act.put, List.setIfInBounds_toArray, List.set_cons_succ, List.set_cons_zero]
  rw [lay_u8s, layI_zeros] at hb
  have HS3 := Lib.hid hb
  have HR3 := Lib.hid (HR.out.only ho (by have := HLT.out; omega))
  have HB3 := Lib.hid (HB.out.trans (ho.below HB.out.size (fun k hk => by have := HLT.out; omega)))
  have HSZ : Hid ((l ++ zeros (64 - l.length)).length = 64) := Lib.hid (by simp [zeros]; omega)
  clear hb ho
  refine wpList_nil ?_
  repeat (first | (with_reducible refine stopR (id := 3) ?_) | go_values | go_skip | go_guarded | go_step | go_upon | go_back)
  refine Stop.mk (wp_region_lit ?_)
  refine load72 (cs := (u8s (l ++ zeros (64 - l.length))).toArray) (Blk.all HS3.out rfl) (by rw [u8s_size, HSZ.out]) rfl rfl ?_
  try simp only [Act.put, List.setIfInBounds_toArray, List.set_cons_succ, List.set_cons_zero]
  refine store_all (cs := (u8s (l ++ zeros (64 - l.length))).toArray) HR3.out (by rw [u8s_size, HSZ.out]; simp [zeros]) (by rw [u8s_size, HSZ.out]; exact info72) (u8s_one _) rfl rfl rfl ?_
  intro w4 hD hOD hlD
  try simp only [Act.put, List.setIfInBounds_toArray, List.set_cons_succ, List.set_cons_zero]
  have HF := Lib.hid (HB3.out.trans (hOD.below HB3.out.size (fun k hk => Nat.le_of_eq hk.symm)))
  refine wpList_nil ?_
  go_wp2_with fail
  exact bodyPost_ret (v := .agg (u8s (l ++ zeros (64 - l.length))).toArray) (results_cell_at rfl _ _ w.heap.size 0 _ _ rfl Tryz.underlying72 rfl (by rw [u8s_size, HSZ.out]; exact info72) (Blk.all hD rfl)) rfl ⟨by simp, HF.out⟩
theorem plain_iff (b : Bk) : b.plain = (decide (b.off = 0) && decide (b.bytes.length = 0) && decide (b.prev = 0)) := rfl
theorem good1_iff {b : Bk} (k : b.kind = 1) : b.good = true ↔ 0 ≤ b.id ∧ b.id < 64 ∧ b.plain = true ∧ decide (b.heads = zeros 8) = true := by
  simp only [Bk.good, k, if_true, within, Bool.and_eq_true, decide_eq_true_eq]
  constructor
  · rintro ⟨⟨⟨h1, h2⟩, h3⟩, h4⟩
    exact ⟨h1, by omega, h3, h4⟩
  · rintro ⟨h1, h2, h3, h4⟩
    exact ⟨⟨⟨h1, by omega⟩, h3⟩, h4⟩
theorem good2_iff {b : Bk} (k : b.kind = 2) : b.good = true ↔ 0 ≤ b.id ∧ b.id < 64 ∧ decide (b.page = zeros 32) = true ∧ decide (b.heads = zeros 8) = true ∧ 0 ≤ b.off ∧ b.off < 32 ∧ (1 : Int) ≤ b.bytes.length ∧ (b.bytes.length : Int) ≤ 16 ∧ (b.bytes.length : Int) ≤ 32 - b.off ∧ b.prev ≠ 0 ∧ isHead b.prev = true := by
  simp only [Bk.good, k, Bk.diff, within, Bool.and_eq_true, decide_eq_true_eq, if_true, show ¬ (2 : Int) = 1 by decide, if_false]
  constructor
  · rintro ⟨⟨⟨⟨h1, h2⟩, ⟨⟨⟨h3, h4⟩, ⟨h5, h6⟩⟩, h7⟩, h8⟩, h9⟩, h10⟩
    exact ⟨h1, by omega, h9, h10, h5, by omega, h3, h4, by omega, h8, h7⟩
  · rintro ⟨h1, h2, h9, h10, h5, _, h3, h4, h6, h8, h7⟩
    exact ⟨⟨⟨⟨h1, by omega⟩, ⟨⟨⟨h3, h4⟩, ⟨h5, by omega⟩⟩, h7⟩, h8⟩, h9⟩, h10⟩
theorem good3_iff {b : Bk} (k : b.kind = 3) : b.good = true ↔ b.heads.all isHead = true ∧ 0 ≤ b.id ∧ b.id < 8 ∧ b.plain = true ∧ decide (b.page = zeros 32) = true := by
  simp only [Bk.good, k, within, Bool.and_eq_true, decide_eq_true_eq, if_true, show ¬ (3 : Int) = 1 by decide, show ¬ (3 : Int) = 2 by decide, if_false]
  constructor
  · rintro ⟨⟨⟨⟨h1, h2⟩, h3⟩, h4⟩, h5⟩
    exact ⟨h3, h1, by omega, h4, h5⟩
  · rintro ⟨h3, h1, h2, h4, h5⟩
    exact ⟨⟨⟨⟨h1, by omega⟩, h3⟩, h4⟩, h5⟩
theorem good_other {b : Bk} (k1 : b.kind ≠ 1) (k2 : b.kind ≠ 2) (k3 : b.kind ≠ 3) : b.good = false := by simp [Bk.good, k1, k2, k3]
theorem false_eq {b : Bk} (h : b.good = true → False) : false = b.good := by
  cases hg : b.good with
  | false => rfl
  | true => exact (h hg).elim
theorem eq_last {b : Bk} {q : Bool} (h : b.good = true ↔ q = true) : q = b.good := by
  cases hq : q <;> cases hg : b.good <;> simp_all
set_option maxHeartbeats 4000000 in
set_option maxRecDepth 100000 in
theorem rgood_1 (b : Bk) (sv : Value) (hs : Len sv b.bytes.length) (hw : b.Wf) (hk : b.kind = 1) (w : World) : Calls Tryz.prog 76 #[.agg (b.arr sv)] w fun e w' => e = .returned (.bool b.good) ∧ Below w.heap.size w w' := by
  have HK := Lib.hid hk
  clear hk
  have HWb := Lib.hid hw
  have HZ := Lib.hid (b.arr_size hw sv)
  have HPS : (u8s b.page).toArray.size = 32 := by simpa using hw.page
  have HHS : (i64s b.heads).toArray.size = 8 := by simpa using hw.heads
  have HPS := Lib.hid HPS
  have HHS := Lib.hid HHS
  have HE := Lib.hid fun w => eql98 w b.heads (zeros 8) hw.heads (zeros_length 8)
  have HP := Lib.hid fun w => eql96 w b.page (zeros 32) hw.page (zeros_length 32)
  have HHD := Lib.hid fun w => rhead_any b.prev w
  have hlen := hw.bytes
  obtain ⟨ab, capb, hsvb⟩ := hs
  have HSVb := Lib.hid hsvb
  clear hsvb hw
  go_enter Tryz.func76, Tryz.ntmps76
  repeat (first | (with_reducible refine stopR (id := 0) ?_) | go_values | go_skip | go_guarded | go_step | go_upon | go_back)
  refine Stop.mk (wp_region_lit ?_)
  refine box_g rfl rfl ?_
  intro w1 hA hb hl
  try simp only [Act.put, List.setIfInBounds_toArray, List.set_cons_succ, List.set_cons_zero]
  have HA : Hid (BAt w1 w.heap.size b sv) := Lib.hid ⟨hA, HWb.out⟩
  have HB := Lib.hid hb
  clear hA hb hl
  refine takeL (.bool false) rfl (by go_simp) ?_
  try simp only [Act.put, List.setIfInBounds_toArray, List.set_cons_succ, List.set_cons_zero]
  refine wpList_nil ?_
  go_upto_region 1 with fail
  go_cut [3] from 6 to 20 (fun s3 wx => s3 = .bool b.plain ∧ w1 = wx)
  case first =>
    have c34 := HA.out.c34
    have c35 := HA.out.c35.trans (congrArg some HSVb.out)
    have c36 := HA.out.c36
    by_cases h1 : b.off = 0 <;> by_cases h2 : b.bytes.length = 0
    all_goals
      go_wp2_with fail
      go_meet
      exact ⟨congrArg Value.bool (by simp [plain_iff, h1, h2, beq_dec]), rfl⟩
  case rest =>
  obtain ⟨rfl, rfl⟩ := hcut
  have HPL := Lib.hid (show b.plain = b.plain from rfl)

  obtain ⟨q3, hq3⟩ : ∃ q, b.plain = q := ⟨_, rfl⟩
  obtain ⟨q4, hq4⟩ : ∃ q, decide (b.heads = zeros 8) = q := ⟨_, rfl⟩
  obtain ⟨qp, hqp⟩ : ∃ q, decide (b.page = zeros 32) = q := ⟨_, rfl⟩
  rw [hq3]
  rw [hq4] at HE
  rw [hqp] at HP
  have HQ3 := Lib.hid hq3
  have HQ4 := Lib.hid hq4
  have HQP := Lib.hid hqp
  clear hq3 hq4 hqp
  repeat (first | (with_reducible refine stopR (id := 2) ?_) | go_values | go_skip | go_guarded | go_step | go_upon | go_back)
  refine Stop.mk (wp_region_lit ?_)
  refine takeL (.pointer (some ⟨w.heap.size, 37, none⟩)) rfl (by go_simp) ?_
  try simp only [Act.put, List.setIfInBounds_toArray, List.set_cons_succ, List.set_cons_zero]
  refine load98 (cs := (i64s b.heads).toArray) HA.out.heads HHS.out rfl rfl ?_
  try simp only [Act.put, List.setIfInBounds_toArray, List.set_cons_succ, List.set_cons_zero]
  refine build_g (build98 _) rfl ?_
  try simp only [Act.put, List.setIfInBounds_toArray, List.set_cons_succ, List.set_cons_zero]
  refine takeL (.bool q4) rfl (by have he := HE.out; go_simp) ?_
  try simp only [Act.put, List.setIfInBounds_toArray, List.set_cons_succ, List.set_cons_zero]
  refine takeL (.bool q4) rfl (by go_simp) ?_
  try simp only [Act.put, List.setIfInBounds_toArray, List.set_cons_succ, List.set_cons_zero]
  refine wpList_nil ?_
  have c0 := HA.out.c0
  rw [HK.out] at c0
  repeat (first | (with_reducible refine stopR (id := 5) ?_) | go_values | go_skip | go_guarded | go_step | go_upon | go_back)
  refine Stop.mk (wp_region_lit ?_)
  refine takeL (.pointer (some ⟨w.heap.size, 1, none⟩)) rfl (by go_simp) ?_
  try simp only [Act.put, List.setIfInBounds_toArray, List.set_cons_succ, List.set_cons_zero]
  refine takeL (.int .i64 b.id) rfl (by have hq := HA.out.c1; go_simp) ?_
  try simp only [Act.put, List.setIfInBounds_toArray, List.set_cons_succ, List.set_cons_zero]
  by_cases h1 : 0 ≤ b.id
  case neg =>
    refine takeL (.bool false) rfl (by go_simp) ?_
    try simp only [Act.put, List.setIfInBounds_toArray, List.set_cons_succ, List.set_cons_zero]
    go_wp2_with fail
    go_ret
    exact ⟨ret_bool (false_eq fun hg => by have hi := (good1_iff HK.out).1 hg; have e3 := HQ3.out; have e4 := HQ4.out; have ep := HQP.out; simp only [e3, e4, ep] at hi; first | (simp at hi; done) | omega | simp_all), HB.out⟩
  refine takeL (.bool true) rfl (by go_simp) ?_
  try simp only [Act.put, List.setIfInBounds_toArray, List.set_cons_succ, List.set_cons_zero]
  refine takeL (.bool true) rfl (by go_simp) ?_
  try simp only [Act.put, List.setIfInBounds_toArray, List.set_cons_succ, List.set_cons_zero]
  refine takeL (.pointer (some ⟨w.heap.size, 1, none⟩)) rfl (by go_simp) ?_
  try simp only [Act.put, List.setIfInBounds_toArray, List.set_cons_succ, List.set_cons_zero]
  refine takeL (.int .i64 b.id) rfl (by have hq := HA.out.c1; go_simp) ?_
  try simp only [Act.put, List.setIfInBounds_toArray, List.set_cons_succ, List.set_cons_zero]
  by_cases h2 : b.id < 64
  case neg =>
    refine takeL (.bool false) rfl (by go_simp) ?_
    try simp only [Act.put, List.setIfInBounds_toArray, List.set_cons_succ, List.set_cons_zero]
    go_wp2_with fail
    go_ret
    exact ⟨ret_bool (false_eq fun hg => by have hi := (good1_iff HK.out).1 hg; have e3 := HQ3.out; have e4 := HQ4.out; have ep := HQP.out; simp only [e3, e4, ep] at hi; first | (simp at hi; done) | omega | simp_all), HB.out⟩
  refine takeL (.bool true) rfl (by go_simp) ?_
  try simp only [Act.put, List.setIfInBounds_toArray, List.set_cons_succ, List.set_cons_zero]
  refine takeL (.bool true) rfl (by go_simp) ?_
  try simp only [Act.put, List.setIfInBounds_toArray, List.set_cons_succ, List.set_cons_zero]
  refine takeL (.bool true) rfl (by go_simp) ?_
  try simp only [Act.put, List.setIfInBounds_toArray, List.set_cons_succ, List.set_cons_zero]
  cases q3
  case false =>
    refine takeL (.bool false) rfl (by go_simp) ?_
    try simp only [Act.put, List.setIfInBounds_toArray, List.set_cons_succ, List.set_cons_zero]
    go_wp2_with fail
    go_ret
    exact ⟨ret_bool (false_eq fun hg => by have hi := (good1_iff HK.out).1 hg; have e3 := HQ3.out; have e4 := HQ4.out; have ep := HQP.out; simp only [e3, e4, ep] at hi; first | (simp at hi; done) | omega | simp_all), HB.out⟩
  refine takeL (.bool true) rfl (by go_simp) ?_
  try simp only [Act.put, List.setIfInBounds_toArray, List.set_cons_succ, List.set_cons_zero]
  refine takeL (.bool true) rfl (by go_simp) ?_
  try simp only [Act.put, List.setIfInBounds_toArray, List.set_cons_succ, List.set_cons_zero]
  refine takeL (.bool true) rfl (by go_simp) ?_
  try simp only [Act.put, List.setIfInBounds_toArray, List.set_cons_succ, List.set_cons_zero]
  refine takeL (.bool q4) rfl (by go_simp) ?_
  try simp only [Act.put, List.setIfInBounds_toArray, List.set_cons_succ, List.set_cons_zero]
  refine takeL (.bool q4) rfl (by go_simp) ?_
  try simp only [Act.put, List.setIfInBounds_toArray, List.set_cons_succ, List.set_cons_zero]
  refine takeL (.bool q4) rfl (by go_simp) ?_
  try simp only [Act.put, List.setIfInBounds_toArray, List.set_cons_succ, List.set_cons_zero]
  refine wpList_nil ?_
  go_wp2_with fail
  go_ret
  exact ⟨ret_bool (eq_last (by rw [good1_iff HK.out, HQ3.out, HQ4.out]; simp [h1, h2])), HB.out⟩
set_option maxHeartbeats 4000000 in
set_option maxRecDepth 100000 in
theorem rgood_2 (b : Bk) (sv : Value) (hs : Len sv b.bytes.length) (hw : b.Wf) (hk : b.kind = 2) (w : World) : Calls Tryz.prog 76 #[.agg (b.arr sv)] w fun e w' => e = .returned (.bool b.good) ∧ Below w.heap.size w w' := by
  have HK := Lib.hid hk
  clear hk
  have HWb := Lib.hid hw
  have HZ := Lib.hid (b.arr_size hw sv)
  have HPS : (u8s b.page).toArray.size = 32 := by simpa using hw.page
  have HHS : (i64s b.heads).toArray.size = 8 := by simpa using hw.heads
  have HPS := Lib.hid HPS
  have HHS := Lib.hid HHS
  have HE := Lib.hid fun w => eql98 w b.heads (zeros 8) hw.heads (zeros_length 8)
  have HP := Lib.hid fun w => eql96 w b.page (zeros 32) hw.page (zeros_length 32)
  have HHD := Lib.hid fun w => rhead_any b.prev w
  have hlen := hw.bytes
  obtain ⟨ab, capb, hsvb⟩ := hs
  have HSVb := Lib.hid hsvb
  clear hsvb hw
  go_enter Tryz.func76, Tryz.ntmps76
  repeat (first | (with_reducible refine stopR (id := 0) ?_) | go_values | go_skip | go_guarded | go_step | go_upon | go_back)
  refine Stop.mk (wp_region_lit ?_)
  refine box_g rfl rfl ?_
  intro w1 hA hb hl
  try simp only [Act.put, List.setIfInBounds_toArray, List.set_cons_succ, List.set_cons_zero]
  have HA : Hid (BAt w1 w.heap.size b sv) := Lib.hid ⟨hA, HWb.out⟩
  have HB := Lib.hid hb
  clear hA hb hl
  refine takeL (.bool false) rfl (by go_simp) ?_
  try simp only [Act.put, List.setIfInBounds_toArray, List.set_cons_succ, List.set_cons_zero]
  refine wpList_nil ?_
  go_upto_region 1 with fail
  go_cut [3] from 6 to 20 (fun s3 wx => s3 = .bool b.plain ∧ w1 = wx)
  case first =>
    have c34 := HA.out.c34
    have c35 := HA.out.c35.trans (congrArg some HSVb.out)
    have c36 := HA.out.c36
    by_cases h1 : b.off = 0 <;> by_cases h2 : b.bytes.length = 0
    all_goals
      go_wp2_with fail
      go_meet
      exact ⟨congrArg Value.bool (by simp [plain_iff, h1, h2, beq_dec]), rfl⟩
  case rest =>
  obtain ⟨rfl, rfl⟩ := hcut
  have HPL := Lib.hid (show b.plain = b.plain from rfl)

  obtain ⟨q3, hq3⟩ : ∃ q, b.plain = q := ⟨_, rfl⟩
  obtain ⟨q4, hq4⟩ : ∃ q, decide (b.heads = zeros 8) = q := ⟨_, rfl⟩
  obtain ⟨qp, hqp⟩ : ∃ q, decide (b.page = zeros 32) = q := ⟨_, rfl⟩
  rw [hq3]
  rw [hq4] at HE
  rw [hqp] at HP
  have HQ3 := Lib.hid hq3
  have HQ4 := Lib.hid hq4
  have HQP := Lib.hid hqp
  clear hq3 hq4 hqp
  repeat (first | (with_reducible refine stopR (id := 2) ?_) | go_values | go_skip | go_guarded | go_step | go_upon | go_back)
  refine Stop.mk (wp_region_lit ?_)
  refine takeL (.pointer (some ⟨w.heap.size, 37, none⟩)) rfl (by go_simp) ?_
  try simp only [Act.put, List.setIfInBounds_toArray, List.set_cons_succ, List.set_cons_zero]
  refine load98 (cs := (i64s b.heads).toArray) HA.out.heads HHS.out rfl rfl ?_
  try simp only [Act.put, List.setIfInBounds_toArray, List.set_cons_succ, List.set_cons_zero]
  refine build_g (build98 _) rfl ?_
  try simp only [Act.put, List.setIfInBounds_toArray, List.set_cons_succ, List.set_cons_zero]
  refine takeL (.bool q4) rfl (by have he := HE.out; go_simp) ?_
  try simp only [Act.put, List.setIfInBounds_toArray, List.set_cons_succ, List.set_cons_zero]
  refine takeL (.bool q4) rfl (by go_simp) ?_
  try simp only [Act.put, List.setIfInBounds_toArray, List.set_cons_succ, List.set_cons_zero]
  refine wpList_nil ?_
  have c0 := HA.out.c0
  rw [HK.out] at c0
  repeat (first | (with_reducible refine stopR (id := 7) ?_) | go_values | go_skip | go_guarded | go_step | go_upon | go_back)
  refine Stop.mk (wp_region_lit ?_)
  refine takeL (.pointer (some ⟨w.heap.size, 1, none⟩)) rfl (by go_simp) ?_
  try simp only [Act.put, List.setIfInBounds_toArray, List.set_cons_succ, List.set_cons_zero]
  refine takeL (.int .i64 b.id) rfl (by have hq := HA.out.c1; go_simp) ?_
  try simp only [Act.put, List.setIfInBounds_toArray, List.set_cons_succ, List.set_cons_zero]
  by_cases h1 : 0 ≤ b.id
  case neg =>
    refine takeL (.bool false) rfl (by go_simp) ?_
    try simp only [Act.put, List.setIfInBounds_toArray, List.set_cons_succ, List.set_cons_zero]
    go_wp2_with fail
    go_ret
    exact ⟨ret_bool (false_eq fun hg => by have hi := (good2_iff HK.out).1 hg; have e3 := HQ3.out; have e4 := HQ4.out; have ep := HQP.out; simp only [e3, e4, ep] at hi; first | (simp at hi; done) | omega | simp_all), HB.out⟩
  refine takeL (.bool true) rfl (by go_simp) ?_
  try simp only [Act.put, List.setIfInBounds_toArray, List.set_cons_succ, List.set_cons_zero]
  refine takeL (.bool true) rfl (by go_simp) ?_
  try simp only [Act.put, List.setIfInBounds_toArray, List.set_cons_succ, List.set_cons_zero]
  refine takeL (.pointer (some ⟨w.heap.size, 1, none⟩)) rfl (by go_simp) ?_
  try simp only [Act.put, List.setIfInBounds_toArray, List.set_cons_succ, List.set_cons_zero]
  refine takeL (.int .i64 b.id) rfl (by have hq := HA.out.c1; go_simp) ?_
  try simp only [Act.put, List.setIfInBounds_toArray, List.set_cons_succ, List.set_cons_zero]
  by_cases h2 : b.id < 64
  case neg =>
    refine takeL (.bool false) rfl (by go_simp) ?_
    try simp only [Act.put, List.setIfInBounds_toArray, List.set_cons_succ, List.set_cons_zero]
    go_wp2_with fail
    go_ret
    exact ⟨ret_bool (false_eq fun hg => by have hi := (good2_iff HK.out).1 hg; have e3 := HQ3.out; have e4 := HQ4.out; have ep := HQP.out; simp only [e3, e4, ep] at hi; first | (simp at hi; done) | omega | simp_all), HB.out⟩
  refine takeL (.bool true) rfl (by go_simp) ?_
  try simp only [Act.put, List.setIfInBounds_toArray, List.set_cons_succ, List.set_cons_zero]
  refine takeL (.bool true) rfl (by go_simp) ?_
  try simp only [Act.put, List.setIfInBounds_toArray, List.set_cons_succ, List.set_cons_zero]
  refine takeL (.bool true) rfl (by go_simp) ?_
  try simp only [Act.put, List.setIfInBounds_toArray, List.set_cons_succ, List.set_cons_zero]
  refine takeL (.pointer (some ⟨w.heap.size, 2, none⟩)) rfl (by go_simp) ?_
  try simp only [Act.put, List.setIfInBounds_toArray, List.set_cons_succ, List.set_cons_zero]
  refine load96 (cs := (u8s b.page).toArray) HA.out.page HPS.out rfl rfl ?_
  try simp only [Act.put, List.setIfInBounds_toArray, List.set_cons_succ, List.set_cons_zero]
  refine build_g (build96 _) rfl ?_
  try simp only [Act.put, List.setIfInBounds_toArray, List.set_cons_succ, List.set_cons_zero]
  refine takeL (.bool qp) rfl (by have he := HP.out; go_simp) ?_
  try simp only [Act.put, List.setIfInBounds_toArray, List.set_cons_succ, List.set_cons_zero]
  refine takeL (.bool qp) rfl (by go_simp) ?_
  try simp only [Act.put, List.setIfInBounds_toArray, List.set_cons_succ, List.set_cons_zero]
  cases qp
  case false =>
    refine takeL (.bool false) rfl (by go_simp) ?_
    try simp only [Act.put, List.setIfInBounds_toArray, List.set_cons_succ, List.set_cons_zero]
    go_wp2_with fail
    go_ret
    exact ⟨ret_bool (false_eq fun hg => by have hi := (good2_iff HK.out).1 hg; have e3 := HQ3.out; have e4 := HQ4.out; have ep := HQP.out; simp only [e3, e4, ep] at hi; first | (simp at hi; done) | omega | simp_all), HB.out⟩
  refine takeL (.bool true) rfl (by go_simp) ?_
  try simp only [Act.put, List.setIfInBounds_toArray, List.set_cons_succ, List.set_cons_zero]
  cases q4
  case false =>
    refine takeL (.bool false) rfl (by go_simp) ?_
    try simp only [Act.put, List.setIfInBounds_toArray, List.set_cons_succ, List.set_cons_zero]
    go_wp2_with fail
    go_ret
    exact ⟨ret_bool (false_eq fun hg => by have hi := (good2_iff HK.out).1 hg; have e3 := HQ3.out; have e4 := HQ4.out; have ep := HQP.out; simp only [e3, e4, ep] at hi; first | (simp at hi; done) | omega | simp_all), HB.out⟩
  refine takeL (.bool true) rfl (by go_simp) ?_
  try simp only [Act.put, List.setIfInBounds_toArray, List.set_cons_succ, List.set_cons_zero]
  refine takeL (.bool true) rfl (by go_simp) ?_
  try simp only [Act.put, List.setIfInBounds_toArray, List.set_cons_succ, List.set_cons_zero]
  refine takeL (.bool true) rfl (by go_simp) ?_
  try simp only [Act.put, List.setIfInBounds_toArray, List.set_cons_succ, List.set_cons_zero]
  refine takeL (.pointer (some ⟨w.heap.size, 34, none⟩)) rfl (by go_simp) ?_
  try simp only [Act.put, List.setIfInBounds_toArray, List.set_cons_succ, List.set_cons_zero]
  refine takeL (.int .i64 b.off) rfl (by have hq := HA.out.c34; go_simp) ?_
  try simp only [Act.put, List.setIfInBounds_toArray, List.set_cons_succ, List.set_cons_zero]
  by_cases h3 : 0 ≤ b.off
  case neg =>
    refine takeL (.bool false) rfl (by go_simp) ?_
    try simp only [Act.put, List.setIfInBounds_toArray, List.set_cons_succ, List.set_cons_zero]
    go_wp2_with fail
    go_ret
    exact ⟨ret_bool (false_eq fun hg => by have hi := (good2_iff HK.out).1 hg; have e3 := HQ3.out; have e4 := HQ4.out; have ep := HQP.out; simp only [e3, e4, ep] at hi; first | (simp at hi; done) | omega | simp_all), HB.out⟩
  refine takeL (.bool true) rfl (by go_simp) ?_
  try simp only [Act.put, List.setIfInBounds_toArray, List.set_cons_succ, List.set_cons_zero]
  refine takeL (.bool true) rfl (by go_simp) ?_
  try simp only [Act.put, List.setIfInBounds_toArray, List.set_cons_succ, List.set_cons_zero]
  refine takeL (.bool true) rfl (by go_simp) ?_
  try simp only [Act.put, List.setIfInBounds_toArray, List.set_cons_succ, List.set_cons_zero]
  refine takeL (.pointer (some ⟨w.heap.size, 34, none⟩)) rfl (by go_simp) ?_
  try simp only [Act.put, List.setIfInBounds_toArray, List.set_cons_succ, List.set_cons_zero]
  refine takeL (.int .i64 b.off) rfl (by have hq := HA.out.c34; go_simp) ?_
  try simp only [Act.put, List.setIfInBounds_toArray, List.set_cons_succ, List.set_cons_zero]
  by_cases h4 : b.off < 32
  case neg =>
    refine takeL (.bool false) rfl (by go_simp) ?_
    try simp only [Act.put, List.setIfInBounds_toArray, List.set_cons_succ, List.set_cons_zero]
    go_wp2_with fail
    go_ret
    exact ⟨ret_bool (false_eq fun hg => by have hi := (good2_iff HK.out).1 hg; have e3 := HQ3.out; have e4 := HQ4.out; have ep := HQP.out; simp only [e3, e4, ep] at hi; first | (simp at hi; done) | omega | simp_all), HB.out⟩
  refine takeL (.bool true) rfl (by go_simp) ?_
  try simp only [Act.put, List.setIfInBounds_toArray, List.set_cons_succ, List.set_cons_zero]
  refine takeL (.bool true) rfl (by go_simp) ?_
  try simp only [Act.put, List.setIfInBounds_toArray, List.set_cons_succ, List.set_cons_zero]
  refine takeL (.bool true) rfl (by go_simp) ?_
  try simp only [Act.put, List.setIfInBounds_toArray, List.set_cons_succ, List.set_cons_zero]
  refine takeL (.pointer (some ⟨w.heap.size, 35, none⟩)) rfl (by go_simp) ?_
  try simp only [Act.put, List.setIfInBounds_toArray, List.set_cons_succ, List.set_cons_zero]
  refine takeL (.slice ab b.bytes.length capb) rfl (by have hq := HA.out.c35.trans (congrArg some HSVb.out); go_simp) ?_
  try simp only [Act.put, List.setIfInBounds_toArray, List.set_cons_succ, List.set_cons_zero]
  refine takeL (.int .i64 (b.bytes.length)) rfl (by go_simp) ?_
  try simp only [Act.put, List.setIfInBounds_toArray, List.set_cons_succ, List.set_cons_zero]
  by_cases h5 : (1 : Int) ≤ b.bytes.length
  case neg =>
    refine takeL (.bool false) rfl (by go_simp) ?_
    try simp only [Act.put, List.setIfInBounds_toArray, List.set_cons_succ, List.set_cons_zero]
    go_wp2_with fail
    go_ret
    exact ⟨ret_bool (false_eq fun hg => by have hi := (good2_iff HK.out).1 hg; have e3 := HQ3.out; have e4 := HQ4.out; have ep := HQP.out; simp only [e3, e4, ep] at hi; first | (simp at hi; done) | omega | simp_all), HB.out⟩
  refine takeL (.bool true) rfl (by go_simp) ?_
  try simp only [Act.put, List.setIfInBounds_toArray, List.set_cons_succ, List.set_cons_zero]
  refine takeL (.bool true) rfl (by go_simp) ?_
  try simp only [Act.put, List.setIfInBounds_toArray, List.set_cons_succ, List.set_cons_zero]
  refine takeL (.bool true) rfl (by go_simp) ?_
  try simp only [Act.put, List.setIfInBounds_toArray, List.set_cons_succ, List.set_cons_zero]
  refine takeL (.pointer (some ⟨w.heap.size, 35, none⟩)) rfl (by go_simp) ?_
  try simp only [Act.put, List.setIfInBounds_toArray, List.set_cons_succ, List.set_cons_zero]
  refine takeL (.slice ab b.bytes.length capb) rfl (by have hq := HA.out.c35.trans (congrArg some HSVb.out); go_simp) ?_
  try simp only [Act.put, List.setIfInBounds_toArray, List.set_cons_succ, List.set_cons_zero]
  refine takeL (.int .i64 (b.bytes.length)) rfl (by go_simp) ?_
  try simp only [Act.put, List.setIfInBounds_toArray, List.set_cons_succ, List.set_cons_zero]
  by_cases h6 : (b.bytes.length : Int) ≤ 16
  case neg =>
    refine takeL (.bool false) rfl (by go_simp) ?_
    try simp only [Act.put, List.setIfInBounds_toArray, List.set_cons_succ, List.set_cons_zero]
    go_wp2_with fail
    go_ret
    exact ⟨ret_bool (false_eq fun hg => by have hi := (good2_iff HK.out).1 hg; have e3 := HQ3.out; have e4 := HQ4.out; have ep := HQP.out; simp only [e3, e4, ep] at hi; first | (simp at hi; done) | omega | simp_all), HB.out⟩
  refine takeL (.bool true) rfl (by go_simp) ?_
  try simp only [Act.put, List.setIfInBounds_toArray, List.set_cons_succ, List.set_cons_zero]
  refine takeL (.bool true) rfl (by go_simp) ?_
  try simp only [Act.put, List.setIfInBounds_toArray, List.set_cons_succ, List.set_cons_zero]
  refine takeL (.bool true) rfl (by go_simp) ?_
  try simp only [Act.put, List.setIfInBounds_toArray, List.set_cons_succ, List.set_cons_zero]
  refine takeL (.pointer (some ⟨w.heap.size, 35, none⟩)) rfl (by go_simp) ?_
  try simp only [Act.put, List.setIfInBounds_toArray, List.set_cons_succ, List.set_cons_zero]
  refine takeL (.slice ab b.bytes.length capb) rfl (by have hq := HA.out.c35.trans (congrArg some HSVb.out); go_simp) ?_
  try simp only [Act.put, List.setIfInBounds_toArray, List.set_cons_succ, List.set_cons_zero]
  refine takeL (.int .i64 (b.bytes.length)) rfl (by go_simp) ?_
  try simp only [Act.put, List.setIfInBounds_toArray, List.set_cons_succ, List.set_cons_zero]
  refine takeL (.pointer (some ⟨w.heap.size, 34, none⟩)) rfl (by go_simp) ?_
  try simp only [Act.put, List.setIfInBounds_toArray, List.set_cons_succ, List.set_cons_zero]
  refine takeL (.int .i64 b.off) rfl (by have hq := HA.out.c34; go_simp) ?_
  try simp only [Act.put, List.setIfInBounds_toArray, List.set_cons_succ, List.set_cons_zero]
  refine takeL (.int .i64 (32 - b.off)) rfl (by go_simp; exact wrap64 (by omega) (by omega)) ?_
  try simp only [Act.put, List.setIfInBounds_toArray, List.set_cons_succ, List.set_cons_zero]
  by_cases h7 : (b.bytes.length : Int) ≤ 32 - b.off
  case neg =>
    refine takeL (.bool false) rfl (by go_simp) ?_
    try simp only [Act.put, List.setIfInBounds_toArray, List.set_cons_succ, List.set_cons_zero]
    go_wp2_with fail
    go_ret
    exact ⟨ret_bool (false_eq fun hg => by have hi := (good2_iff HK.out).1 hg; have e3 := HQ3.out; have e4 := HQ4.out; have ep := HQP.out; simp only [e3, e4, ep] at hi; first | (simp at hi; done) | omega | simp_all), HB.out⟩
  refine takeL (.bool true) rfl (by go_simp) ?_
  try simp only [Act.put, List.setIfInBounds_toArray, List.set_cons_succ, List.set_cons_zero]
  refine takeL (.bool true) rfl (by go_simp) ?_
  try simp only [Act.put, List.setIfInBounds_toArray, List.set_cons_succ, List.set_cons_zero]
  refine takeL (.bool true) rfl (by go_simp) ?_
  try simp only [Act.put, List.setIfInBounds_toArray, List.set_cons_succ, List.set_cons_zero]
  refine takeL (.pointer (some ⟨w.heap.size, 36, none⟩)) rfl (by go_simp) ?_
  try simp only [Act.put, List.setIfInBounds_toArray, List.set_cons_succ, List.set_cons_zero]
  refine takeL (.int .i64 b.prev) rfl (by have hq := HA.out.c36; go_simp) ?_
  try simp only [Act.put, List.setIfInBounds_toArray, List.set_cons_succ, List.set_cons_zero]
  by_cases h8 : b.prev ≠ 0
  case neg =>
    refine takeL (.bool false) rfl (by simp only [ne_eq, Decidable.not_not] at h8; go_simp) ?_
    try simp only [Act.put, List.setIfInBounds_toArray, List.set_cons_succ, List.set_cons_zero]
    go_wp2_with fail
    go_ret
    exact ⟨ret_bool (false_eq fun hg => by have hi := (good2_iff HK.out).1 hg; have e3 := HQ3.out; have e4 := HQ4.out; have ep := HQP.out; simp only [e3, e4, ep] at hi; first | (simp at hi; done) | omega | simp_all), HB.out⟩
  refine takeL (.bool true) rfl (by go_simp) ?_
  try simp only [Act.put, List.setIfInBounds_toArray, List.set_cons_succ, List.set_cons_zero]
  refine takeL (.bool true) rfl (by go_simp) ?_
  try simp only [Act.put, List.setIfInBounds_toArray, List.set_cons_succ, List.set_cons_zero]
  refine takeL (.bool true) rfl (by go_simp) ?_
  try simp only [Act.put, List.setIfInBounds_toArray, List.set_cons_succ, List.set_cons_zero]
  refine takeL (.pointer (some ⟨w.heap.size, 36, none⟩)) rfl (by go_simp) ?_
  try simp only [Act.put, List.setIfInBounds_toArray, List.set_cons_succ, List.set_cons_zero]
  refine takeL (.int .i64 b.prev) rfl (by have hq := HA.out.c36; go_simp) ?_
  try simp only [Act.put, List.setIfInBounds_toArray, List.set_cons_succ, List.set_cons_zero]
  refine wpList_op rfl fun K hK => ?_
  go_simp
  refine (HHD.out _).mono ?_
  rintro e w11 ⟨rfl, rfl⟩
  refine hK _ _ ?_
  clear hK K
  try simp only [Act.put, List.setIfInBounds_toArray, List.set_cons_succ, List.set_cons_zero]
  refine takeL (.bool (isHead b.prev)) rfl (by go_simp) ?_
  try simp only [Act.put, List.setIfInBounds_toArray, List.set_cons_succ, List.set_cons_zero]
  refine takeL (.bool (isHead b.prev)) rfl (by go_simp) ?_
  try simp only [Act.put, List.setIfInBounds_toArray, List.set_cons_succ, List.set_cons_zero]
  refine wpList_nil ?_
  go_wp2_with fail
  go_ret
  exact ⟨ret_bool (eq_last (by rw [good2_iff HK.out, HQP.out, HQ4.out]; simp [h1, h2, h3, h4, h5, h6, h7, h8])), HB.out⟩
set_option maxHeartbeats 4000000 in
set_option maxRecDepth 100000 in
theorem rgood_3 (b : Bk) (sv : Value) (hs : Len sv b.bytes.length) (hw : b.Wf) (hk : b.kind = 3) (w : World) : Calls Tryz.prog 76 #[.agg (b.arr sv)] w fun e w' => e = .returned (.bool b.good) ∧ Below w.heap.size w w' := by
  have HK := Lib.hid hk
  clear hk
  have HWb := Lib.hid hw
  have HZ := Lib.hid (b.arr_size hw sv)
  have HPS : (u8s b.page).toArray.size = 32 := by simpa using hw.page
  have HHS : (i64s b.heads).toArray.size = 8 := by simpa using hw.heads
  have HPS := Lib.hid HPS
  have HHS := Lib.hid HHS
  have HE := Lib.hid fun w => eql98 w b.heads (zeros 8) hw.heads (zeros_length 8)
  have HP := Lib.hid fun w => eql96 w b.page (zeros 32) hw.page (zeros_length 32)
  have HHD := Lib.hid fun w => rhead_any b.prev w
  have hlen := hw.bytes
  obtain ⟨ab, capb, hsvb⟩ := hs
  have HSVb := Lib.hid hsvb
  clear hsvb hw
  go_enter Tryz.func76, Tryz.ntmps76
  repeat (first | (with_reducible refine stopR (id := 0) ?_) | go_values | go_skip | go_guarded | go_step | go_upon | go_back)
  refine Stop.mk (wp_region_lit ?_)
  refine box_g rfl rfl ?_
  intro w1 hA hb hl
  try simp only [Act.put, List.setIfInBounds_toArray, List.set_cons_succ, List.set_cons_zero]
  have HA : Hid (BAt w1 w.heap.size b sv) := Lib.hid ⟨hA, HWb.out⟩
  have HB := Lib.hid hb
  clear hA hb hl
  refine takeL (.bool false) rfl (by go_simp) ?_
  try simp only [Act.put, List.setIfInBounds_toArray, List.set_cons_succ, List.set_cons_zero]
  refine wpList_nil ?_
  go_upto_region 1 with fail
  go_cut [3] from 6 to 20 (fun s3 wx => s3 = .bool b.plain ∧ w1 = wx)
  case first =>
    have c34 := HA.out.c34
    have c35 := HA.out.c35.trans (congrArg some HSVb.out)
    have c36 := HA.out.c36
    by_cases h1 : b.off = 0 <;> by_cases h2 : b.bytes.length = 0
    all_goals
      go_wp2_with fail
      go_meet
      exact ⟨congrArg Value.bool (by simp [plain_iff, h1, h2, beq_dec]), rfl⟩
  case rest =>
  obtain ⟨rfl, rfl⟩ := hcut
  have HPL := Lib.hid (show b.plain = b.plain from rfl)

  obtain ⟨q3, hq3⟩ : ∃ q, b.plain = q := ⟨_, rfl⟩
  obtain ⟨q4, hq4⟩ : ∃ q, decide (b.heads = zeros 8) = q := ⟨_, rfl⟩
  obtain ⟨qp, hqp⟩ : ∃ q, decide (b.page = zeros 32) = q := ⟨_, rfl⟩
  rw [hq3]
  rw [hq4] at HE
  rw [hqp] at HP
  have HQ3 := Lib.hid hq3
  have HQ4 := Lib.hid hq4
  have HQP := Lib.hid hqp
  clear hq3 hq4 hqp
  repeat (first | (with_reducible refine stopR (id := 2) ?_) | go_values | go_skip | go_guarded | go_step | go_upon | go_back)
  refine Stop.mk (wp_region_lit ?_)
  refine takeL (.pointer (some ⟨w.heap.size, 37, none⟩)) rfl (by go_simp) ?_
  try simp only [Act.put, List.setIfInBounds_toArray, List.set_cons_succ, List.set_cons_zero]
  refine load98 (cs := (i64s b.heads).toArray) HA.out.heads HHS.out rfl rfl ?_
  try simp only [Act.put, List.setIfInBounds_toArray, List.set_cons_succ, List.set_cons_zero]
  refine build_g (build98 _) rfl ?_
  try simp only [Act.put, List.setIfInBounds_toArray, List.set_cons_succ, List.set_cons_zero]
  refine takeL (.bool q4) rfl (by have he := HE.out; go_simp) ?_
  try simp only [Act.put, List.setIfInBounds_toArray, List.set_cons_succ, List.set_cons_zero]
  refine takeL (.bool q4) rfl (by go_simp) ?_
  try simp only [Act.put, List.setIfInBounds_toArray, List.set_cons_succ, List.set_cons_zero]
  refine wpList_nil ?_
  have c0 := HA.out.c0
  rw [HK.out] at c0
  have HHL : Hid (b.heads.length = 8) := Lib.hid HWb.out.heads
  go_wp2_with fail
  go_loopg [5] 8 (fun q i wr => ∃ k : Nat, 8 - k ≤ q ∧ k ≤ 8 ∧ i = .int .i64 k ∧ (∀ x ∈ b.heads.take k, isHead x = true) ∧ w1 = wr)
  case atStart => exact ⟨0, by omega, by omega, rfl, by simp, rfl⟩
  case round =>
    obtain ⟨k, hg, hk, rfl, hall, rfl⟩ := hrel
    have HALL := Lib.hid hall
    clear hall
    by_cases hlt : k < 8
    · obtain ⟨x, hx⟩ : ∃ x, b.heads[k]? = some x := ⟨_, List.getElem?_eq_getElem (by rw [HHL.out]; exact hlt)⟩
      have hcell : w1.cell? ⟨w.heap.size, 37 + k, none⟩ = some (.int .i64 x) := HA.out.blk.cell (by rw [b.atH HWb.out sv k, List.getElem?_map, hx]; rfl)
      have HX := Lib.hid hx
      have HH1 := Lib.hid fun w => rhead_any x w
      clear hx
      cases hh : isHead x
      · rw [hh] at HH1
        go_wp2_with fail
        refine (HH1.out _).mono ?_
        rintro e w2 ⟨rfl, rfl⟩
        go_wp2_with fail
        go_ret
        exact ⟨ret_bool (false_eq fun hg => by
          have hi := ((good3_iff HK.out).1 hg).1
          have := List.all_eq_true.1 hi x (List.mem_of_getElem? HX.out)
          rw [hh] at this
          cases this), HB.out⟩
      · rw [hh] at HH1
        go_wp2_with fail
        refine (HH1.out _).mono ?_
        rintro e w2 ⟨rfl, rfl⟩
        go_wp2_with fail
        go_roundg (8 - (k + 1))
        case measure => omega
        case rel =>
          refine ⟨k + 1, by omega, by omega, by go_num, ?_, rfl⟩
          intro y hy
          rw [List.take_add_one, HX.out] at hy
          rcases List.mem_append.1 hy with hy | hy
          · exact HALL.out y hy
          · simp at hy
            rw [hy]
            exact hh
    · have HAL : Hid (b.heads.all isHead = true) := Lib.hid (by
        have h := HALL.out
        rw [List.take_of_length_le (by rw [HHL.out]; omega)] at h
        exact List.all_eq_true.2 h)
      have hk8 : k = 8 := by omega
      clear HALL
      subst hk8
      repeat (first | (with_reducible refine stopR (id := 14) ?_) | go_values | go_skip | go_guarded | go_step | go_upon | go_back)
      refine Stop.mk (wp_region_lit ?_)
      refine takeL (.pointer (some ⟨w.heap.size, 1, none⟩)) rfl (by go_simp) ?_
      try simp only [Act.put, List.setIfInBounds_toArray, List.set_cons_succ, List.set_cons_zero]
      refine takeL (.int .i64 b.id) rfl (by have hq := HA.out.c1; go_simp) ?_
      try simp only [Act.put, List.setIfInBounds_toArray, List.set_cons_succ, List.set_cons_zero]
      by_cases h1 : 0 ≤ b.id
      case neg =>
        refine takeL (.bool false) rfl (by go_simp) ?_
        try simp only [Act.put, List.setIfInBounds_toArray, List.set_cons_succ, List.set_cons_zero]
        go_wp2_with fail
        go_ret
        exact ⟨ret_bool (false_eq fun hg => by have hi := (good3_iff HK.out).1 hg; have e3 := HQ3.out; have e4 := HQ4.out; have ep := HQP.out; simp only [e3, e4, ep] at hi; first | (simp at hi; done) | omega | simp_all), HB.out⟩
      refine takeL (.bool true) rfl (by go_simp) ?_
      try simp only [Act.put, List.setIfInBounds_toArray, List.set_cons_succ, List.set_cons_zero]
      refine takeL (.bool true) rfl (by go_simp) ?_
      try simp only [Act.put, List.setIfInBounds_toArray, List.set_cons_succ, List.set_cons_zero]
      refine takeL (.pointer (some ⟨w.heap.size, 1, none⟩)) rfl (by go_simp) ?_
      try simp only [Act.put, List.setIfInBounds_toArray, List.set_cons_succ, List.set_cons_zero]
      refine takeL (.int .i64 b.id) rfl (by have hq := HA.out.c1; go_simp) ?_
      try simp only [Act.put, List.setIfInBounds_toArray, List.set_cons_succ, List.set_cons_zero]
      by_cases h2 : b.id < 8
      case neg =>
        refine takeL (.bool false) rfl (by go_simp) ?_
        try simp only [Act.put, List.setIfInBounds_toArray, List.set_cons_succ, List.set_cons_zero]
        go_wp2_with fail
        go_ret
        exact ⟨ret_bool (false_eq fun hg => by have hi := (good3_iff HK.out).1 hg; have e3 := HQ3.out; have e4 := HQ4.out; have ep := HQP.out; simp only [e3, e4, ep] at hi; first | (simp at hi; done) | omega | simp_all), HB.out⟩
      refine takeL (.bool true) rfl (by go_simp) ?_
      try simp only [Act.put, List.setIfInBounds_toArray, List.set_cons_succ, List.set_cons_zero]
      refine takeL (.bool true) rfl (by go_simp) ?_
      try simp only [Act.put, List.setIfInBounds_toArray, List.set_cons_succ, List.set_cons_zero]
      refine takeL (.bool true) rfl (by go_simp) ?_
      try simp only [Act.put, List.setIfInBounds_toArray, List.set_cons_succ, List.set_cons_zero]
      cases q3
      case false =>
        refine takeL (.bool false) rfl (by go_simp) ?_
        try simp only [Act.put, List.setIfInBounds_toArray, List.set_cons_succ, List.set_cons_zero]
        go_wp2_with fail
        go_ret
        exact ⟨ret_bool (false_eq fun hg => by have hi := (good3_iff HK.out).1 hg; have e3 := HQ3.out; have e4 := HQ4.out; have ep := HQP.out; simp only [e3, e4, ep] at hi; first | (simp at hi; done) | omega | simp_all), HB.out⟩
      refine takeL (.bool true) rfl (by go_simp) ?_
      try simp only [Act.put, List.setIfInBounds_toArray, List.set_cons_succ, List.set_cons_zero]
      refine takeL (.bool true) rfl (by go_simp) ?_
      try simp only [Act.put, List.setIfInBounds_toArray, List.set_cons_succ, List.set_cons_zero]
      refine takeL (.bool true) rfl (by go_simp) ?_
      try simp only [Act.put, List.setIfInBounds_toArray, List.set_cons_succ, List.set_cons_zero]
      refine takeL (.pointer (some ⟨w.heap.size, 2, none⟩)) rfl (by go_simp) ?_
      try simp only [Act.put, List.setIfInBounds_toArray, List.set_cons_succ, List.set_cons_zero]
      refine load96 (cs := (u8s b.page).toArray) HA.out.page HPS.out rfl rfl ?_
      try simp only [Act.put, List.setIfInBounds_toArray, List.set_cons_succ, List.set_cons_zero]
      refine build_g (build96 _) rfl ?_
      try simp only [Act.put, List.setIfInBounds_toArray, List.set_cons_succ, List.set_cons_zero]
      refine takeL (.bool qp) rfl (by have he := HP.out; go_simp) ?_
      try simp only [Act.put, List.setIfInBounds_toArray, List.set_cons_succ, List.set_cons_zero]
      refine takeL (.bool qp) rfl (by go_simp) ?_
      try simp only [Act.put, List.setIfInBounds_toArray, List.set_cons_succ, List.set_cons_zero]
      refine takeL (.bool qp) rfl (by go_simp) ?_
      try simp only [Act.put, List.setIfInBounds_toArray, List.set_cons_succ, List.set_cons_zero]
      refine wpList_nil ?_
      go_wp2_with fail
      go_ret
      exact ⟨ret_bool (eq_last (by rw [good3_iff HK.out, HQ3.out, HQP.out, HAL.out]; simp [h1, h2])), HB.out⟩
set_option maxHeartbeats 4000000 in
set_option maxRecDepth 100000 in
theorem rgood_0 (b : Bk) (sv : Value) (hs : Len sv b.bytes.length) (hw : b.Wf) (hk1 : b.kind ≠ 1) (hk2 : b.kind ≠ 2) (hk3 : b.kind ≠ 3) (w : World) : Calls Tryz.prog 76 #[.agg (b.arr sv)] w fun e w' => e = .returned (.bool b.good) ∧ Below w.heap.size w w' := by
  have HWb := Lib.hid hw
  have HZ := Lib.hid (b.arr_size hw sv)
  have HPS : (u8s b.page).toArray.size = 32 := by simpa using hw.page
  have HHS : (i64s b.heads).toArray.size = 8 := by simpa using hw.heads
  have HPS := Lib.hid HPS
  have HHS := Lib.hid HHS
  have HE := Lib.hid fun w => eql98 w b.heads (zeros 8) hw.heads (zeros_length 8)
  have HP := Lib.hid fun w => eql96 w b.page (zeros 32) hw.page (zeros_length 32)
  have HHD := Lib.hid fun w => rhead_any b.prev w
  have hlen := hw.bytes
  obtain ⟨ab, capb, hsvb⟩ := hs
  have HSVb := Lib.hid hsvb
  clear hsvb hw
  go_enter Tryz.func76, Tryz.ntmps76
  repeat (first | (with_reducible refine stopR (id := 0) ?_) | go_values | go_skip | go_guarded | go_step | go_upon | go_back)
  refine Stop.mk (wp_region_lit ?_)
  refine box_g rfl rfl ?_
  intro w1 hA hb hl
  try simp only [Act.put, List.setIfInBounds_toArray, List.set_cons_succ, List.set_cons_zero]
  have HA : Hid (BAt w1 w.heap.size b sv) := Lib.hid ⟨hA, HWb.out⟩
  have HB := Lib.hid hb
  clear hA hb hl
  refine takeL (.bool false) rfl (by go_simp) ?_
  try simp only [Act.put, List.setIfInBounds_toArray, List.set_cons_succ, List.set_cons_zero]
  refine wpList_nil ?_
  go_upto_region 1 with fail
  go_cut [3] from 6 to 20 (fun s3 wx => s3 = .bool b.plain ∧ w1 = wx)
  case first =>
    have c34 := HA.out.c34
    have c35 := HA.out.c35.trans (congrArg some HSVb.out)
    have c36 := HA.out.c36
    by_cases h1 : b.off = 0 <;> by_cases h2 : b.bytes.length = 0
    all_goals
      go_wp2_with fail
      go_meet
      exact ⟨congrArg Value.bool (by simp [plain_iff, h1, h2, beq_dec]), rfl⟩
  case rest =>
  obtain ⟨rfl, rfl⟩ := hcut
  have HPL := Lib.hid (show b.plain = b.plain from rfl)

  obtain ⟨q3, hq3⟩ : ∃ q, b.plain = q := ⟨_, rfl⟩
  obtain ⟨q4, hq4⟩ : ∃ q, decide (b.heads = zeros 8) = q := ⟨_, rfl⟩
  obtain ⟨qp, hqp⟩ : ∃ q, decide (b.page = zeros 32) = q := ⟨_, rfl⟩
  rw [hq3]
  rw [hq4] at HE
  rw [hqp] at HP
  have HQ3 := Lib.hid hq3
  have HQ4 := Lib.hid hq4
  have HQP := Lib.hid hqp
  clear hq3 hq4 hqp
  repeat (first | (with_reducible refine stopR (id := 2) ?_) | go_values | go_skip | go_guarded | go_step | go_upon | go_back)
  refine Stop.mk (wp_region_lit ?_)
  refine takeL (.pointer (some ⟨w.heap.size, 37, none⟩)) rfl (by go_simp) ?_
  try simp only [Act.put, List.setIfInBounds_toArray, List.set_cons_succ, List.set_cons_zero]
  refine load98 (cs := (i64s b.heads).toArray) HA.out.heads HHS.out rfl rfl ?_
  try simp only [Act.put, List.setIfInBounds_toArray, List.set_cons_succ, List.set_cons_zero]
  refine build_g (build98 _) rfl ?_
  try simp only [Act.put, List.setIfInBounds_toArray, List.set_cons_succ, List.set_cons_zero]
  refine takeL (.bool q4) rfl (by have he := HE.out; go_simp) ?_
  try simp only [Act.put, List.setIfInBounds_toArray, List.set_cons_succ, List.set_cons_zero]
  refine takeL (.bool q4) rfl (by go_simp) ?_
  try simp only [Act.put, List.setIfInBounds_toArray, List.set_cons_succ, List.set_cons_zero]
  refine wpList_nil ?_
  have c0 := HA.out.c0
  go_wp2_with fail
  go_ret
  exact ⟨ret_bool (good_other hk1 hk2 hk3).symm, HB.out⟩
theorem rgood_any (b : Bk) (sv : Value) (hs : Len sv b.bytes.length) (hw : b.Wf) (w : World) : Calls Tryz.prog 76 #[.agg (b.arr sv)] w fun e w' => e = .returned (.bool b.good) ∧ Below w.heap.size w w' := by
  by_cases k1 : b.kind = 1
  · exact rgood_1 b sv hs hw k1 w
  · by_cases k2 : b.kind = 2
    · exact rgood_2 b sv hs hw k2 w
    · by_cases k3 : b.kind = 3
      · exact rgood_3 b sv hs hw k3 w
      · exact rgood_0 b sv hs hw k1 k2 k3 w
theorem rsec1 {b : Bk} (w : b.Wf) (k : b.kind = 1) (n : Int) : ([1, b.id] ++ le 4 n ++ b.page).length = 38 ∧ ([1, b.id] ++ le 4 n ++ b.page) ++ zeros (64 - ([1, b.id] ++ le 4 n ++ b.page).length) = b.enc n := by
  have hl : ([1, b.id] ++ le 4 n ++ b.page).length = 38 := by simp [le_length, w.page]
  refine ⟨hl, ?_⟩
  rw [hl]
  unfold Bk.enc
  rw [if_pos k]
  simp
theorem rsec2 {b : Bk} (h : b.good = true) (k : b.kind = 2) (n : Int) : ([2, b.id] ++ le 4 n ++ [b.off, (b.bytes.length : Int)] ++ b.bytes ++ zeros (16 - b.bytes.length) ++ le 2 b.prev).length = 26 ∧
    ([2, b.id] ++ le 4 n ++ [b.off, (b.bytes.length : Int)] ++ b.bytes ++ zeros (16 - b.bytes.length) ++ le 2 b.prev) ++ zeros (64 - ([2, b.id] ++ le 4 n ++ [b.off, (b.bytes.length : Int)] ++ b.bytes ++ zeros (16 - b.bytes.length) ++ le 2 b.prev).length) = b.enc n := by
  obtain ⟨⟨h1, h2⟩, _⟩ := good2 h k
  have hl : ([2, b.id] ++ le 4 n ++ [b.off, (b.bytes.length : Int)] ++ b.bytes ++ zeros (16 - b.bytes.length) ++ le 2 b.prev).length = 26 := by
    simp [le_length, zeros_length]
    omega
  refine ⟨hl, ?_⟩
  rw [hl]
  unfold Bk.enc
  rw [if_neg (by omega), if_pos k]
  simp
theorem rsec3 {b : Bk} (w : b.Wf) (k : b.kind = 3) (n : Int) : ([3, b.id] ++ le 4 n ++ b.heads.flatMap (le 2)).length = 22 ∧ ([3, b.id] ++ le 4 n ++ b.heads.flatMap (le 2)) ++ zeros (64 - ([3, b.id] ++ le 4 n ++ b.heads.flatMap (le 2)).length) = b.enc n := by
  have hf := flat_length b.heads
  rw [w.heads] at hf
  have hl : ([3, b.id] ++ le 4 n ++ b.heads.flatMap (le 2)).length = 22 := by
    rw [List.length_append, List.length_append, hf, le_length]
    rfl
  refine ⟨hl, ?_⟩
  rw [hl]
  unfold Bk.enc
  rw [if_neg (by omega), if_neg (by omega)]
  simp
theorem ES.grow {W w w' : World} {g r B : Nat} {b : Bk} {sv : Value} (h : ES W w g r b sv) (hg : g < B) (hr : r < B) (hb : Below B w w') (hB : B ≤ w.heap.size) : ES W w' g r b sv :=
  ⟨h.bat.below hb hg, h.res.below hb hr, ⟨hb.os.trans h.bel.os, hb.tape.trans h.bel.tape, hb.output.trans h.bel.output, Nat.le_trans h.bel.size hb.size, fun k hk => (hb.block k (by have := h.g0; omega)).trans (h.bel.block k hk)⟩, h.g0, h.gr⟩
set_option maxHeartbeats 2000000 in
set_option maxRecDepth 100000 in
theorem rencode_no (b : Bk) (sv : Value) (n : Int) (w : World) (hs : BytesAt w sv b.bytes) (hw : b.Wf) (hg : b.good = false) : Calls Tryz.prog 71 #[.agg (b.arr sv), .int .u32 n] w fun e w' => e = .returned (.tuple #[.agg (u8s (zeros 64)).toArray, .int .i64 11]) ∧ Below w.heap.size w w' := by
  have HSZ := Lib.hid (b.arr_size hw sv)
  have HW := Lib.hid hw
  have HG := Lib.hid fun w => rgood_any b sv hs.len hw w
  rw [hg] at HG
  go_enter Tryz.func71, Tryz.ntmps71
  repeat (first | (with_reducible refine stopR (id := 0) ?_) | go_values | go_skip | go_guarded | go_step | go_upon | go_back)
  refine Stop.mk (wp_region_lit ?_)
  refine box_g rfl rfl ?_
  intro wA hA hB hl
  try simp only [Act.put, List.setIfInBounds_toArray, List.set_cons_succ, List.set_cons_zero]
  refine alloc_g zero72 rfl ?_
  intro wB hR hB2 hl2
  try simp only [Act.put, List.setIfInBounds_toArray, List.set_cons_succ, List.set_cons_zero]
  refine takeL (.int .i64 0) rfl (by go_simp) ?_
  try simp only [Act.put, List.setIfInBounds_toArray, List.set_cons_succ, List.set_cons_zero]
  have H0 : Hid (ES w wB w.heap.size wA.heap.size b sv) := Lib.hid ⟨⟨hA.below hB2 hl, HW.out⟩, hR, hB.trans (hB2.mono hB.size), Nat.le_refl _, hl⟩
  clear hA hB hl hR hB2 hl2
  generalize hgg : w.heap.size = g at *
  generalize hrr : wA.heap.size = r at *
  have HGG := Lib.hid hgg
  clear hgg hrr wA
  refine wpList_nil ?_
  repeat (first | (with_reducible refine stopR (id := 1) ?_) | go_values | go_skip | go_guarded | go_step | go_upon | go_back)
  refine Stop.mk (wp_region_lit ?_)
  refine load100 H0.out.bat.all HSZ.out rfl rfl ?_
  try simp only [Act.put, List.setIfInBounds_toArray, List.set_cons_succ, List.set_cons_zero]
  refine wpList_op rfl fun K hK => ?_
  go_simp
  refine (HG.out _).mono ?_
  rintro e w1 ⟨rfl, hb⟩
  refine hK _ _ ?_
  clear hK K
  try simp only [Act.put, List.setIfInBounds_toArray, List.set_cons_succ, List.set_cons_zero]
  have H1 := Lib.hid (H0.out.below hb)
  clear hb H0
  refine takeL (.bool true) rfl (by go_simp) ?_
  try simp only [Act.put, List.setIfInBounds_toArray, List.set_cons_succ, List.set_cons_zero]
  refine wpList_nil ?_
  repeat (first | (with_reducible refine stopR (id := 2) ?_) | go_values | go_skip | go_guarded | go_step | go_upon | go_back)
  refine Stop.mk (wp_region_lit ?_)
  refine build_g (build72 _) rfl ?_
  try simp only [Act.put, List.setIfInBounds_toArray, List.set_cons_succ, List.set_cons_zero]
  refine store_all H1.out.res (by simp) (by simpa [zeros] using info72) (u8s_one _) rfl rfl rfl ?_
  intro wZ hZ hOZ hlZ
  try simp only [Act.put, List.setIfInBounds_toArray, List.set_cons_succ, List.set_cons_zero]
  refine takeL (.int .i64 11) rfl (by go_simp) ?_
  try simp only [Act.put, List.setIfInBounds_toArray, List.set_cons_succ, List.set_cons_zero]
  have HF := Lib.hid (H1.out.bel.trans (hOZ.below H1.out.bel.size (fun k hk => by have := H1.out.g0; have := H1.out.gr; omega)))
  refine wpList_nil ?_
  go_wp2_with fail
  refine bodyPost_ret (v := .tuple #[.agg (u8s (zeros 64)).toArray, .int .i64 11]) (results_cell_tmp rfl _ _ r 0 _ _ _ rfl rfl Tryz.underlying72 rfl (by simpa [zeros] using info72) (hZ.all rfl)) rfl ⟨rfl, HF.out⟩
set_option maxHeartbeats 2000000 in
set_option maxRecDepth 100000 in
theorem rencode_img (b : Bk) (sv : Value) (n : Int) (w : World) (hs : BytesAt w sv b.bytes) (hw : b.Wf) (hg : b.good = true) (hk : b.kind = 1) (hn : 0 ≤ n ∧ n < 4294967296) : Calls Tryz.prog 71 #[.agg (b.arr sv), .int .u32 n] w fun e w' => e = .returned (.tuple #[.agg (u8s (b.enc n)).toArray, .int .i64 0]) ∧ Below w.heap.size w w' := by
  have HSZ := Lib.hid (b.arr_size hw sv)
  have HW := Lib.hid hw
  have HG := Lib.hid fun w => rgood_any b sv hs.len hw w
  rw [hg] at HG
  obtain ⟨hn1, hn2⟩ := hn
  obtain ⟨_, hi1, hi2⟩ := good_kind hg
  have HK := Lib.hid hk
  have HL := Lib.hid (enc_length hg hw n)
  have HLL := Lib.hid (rsec1 hw hk n)
  clear hg hk hw
  go_enter Tryz.func71, Tryz.ntmps71
  repeat (first | (with_reducible refine stopR (id := 0) ?_) | go_values | go_skip | go_guarded | go_step | go_upon | go_back)
  refine Stop.mk (wp_region_lit ?_)
  refine box_g rfl rfl ?_
  intro wA hA hB hl
  try simp only [Act.put, List.setIfInBounds_toArray, List.set_cons_succ, List.set_cons_zero]
  refine alloc_g zero72 rfl ?_
  intro wB hR hB2 hl2
  try simp only [Act.put, List.setIfInBounds_toArray, List.set_cons_succ, List.set_cons_zero]
  refine takeL (.int .i64 0) rfl (by go_simp) ?_
  try simp only [Act.put, List.setIfInBounds_toArray, List.set_cons_succ, List.set_cons_zero]
  have H0 : Hid (ES w wB w.heap.size wA.heap.size b sv) := Lib.hid ⟨⟨hA.below hB2 hl, HW.out⟩, hR, hB.trans (hB2.mono hB.size), Nat.le_refl _, hl⟩
  clear hA hB hl hR hB2 hl2
  generalize hgg : w.heap.size = g at *
  generalize hrr : wA.heap.size = r at *
  have HGG := Lib.hid hgg
  clear hgg hrr wA
  refine wpList_nil ?_
  repeat (first | (with_reducible refine stopR (id := 1) ?_) | go_values | go_skip | go_guarded | go_step | go_upon | go_back)
  refine Stop.mk (wp_region_lit ?_)
  refine load100 H0.out.bat.all HSZ.out rfl rfl ?_
  try simp only [Act.put, List.setIfInBounds_toArray, List.set_cons_succ, List.set_cons_zero]
  refine wpList_op rfl fun K hK => ?_
  go_simp
  refine (HG.out _).mono ?_
  rintro e w1 ⟨rfl, hb⟩
  refine hK _ _ ?_
  clear hK K
  try simp only [Act.put, List.setIfInBounds_toArray, List.set_cons_succ, List.set_cons_zero]
  have H1 := Lib.hid (H0.out.below hb)
  clear hb H0
  refine takeL (.bool false) rfl (by go_simp) ?_
  try simp only [Act.put, List.setIfInBounds_toArray, List.set_cons_succ, List.set_cons_zero]
  refine wpList_nil ?_
  go_upto_region 3 with fail
  go_cut [6] from 12 to 22 (fun s6 wx => ∃ o, o = s6 ∧ Own wx w1.heap.size o ([1, b.id] ++ le 4 n) ∧ Below w1.heap.size w1 wx)
  case first =>
    have HC0 := Lib.hid (fun (wq : World) (hS : Below w1.heap.size w1 wq) => show wq.cell? ⟨g, 0, none⟩ = some (.int .i64 1) from by
      have hq := (H1.out.bat.below hS H1.out.bat.lt).c0
      rwa [HK.out] at hq)
    refine startH (fun wq => Below w1.heap.size w1 wq) (by kernel_rfl) ?_
    have HS : Hid (Below w1.heap.size w1 w1.drew) := Lib.hid (Below.refl _ _).drew
    generalize w1.drew = wS at *
    refine takeH 0 (some 12) (.pointer (some ⟨g, 0, none⟩)) rfl rfl (by kernel_rfl) (by kernel_rfl) (by kernel_rfl) (fun _ _ _ h => h) rfl (fun wq hS => by go_simp) HS.out ?_
    try simp only [Act.put, List.setIfInBounds_toArray, List.set_cons_succ, List.set_cons_zero]
    refine takeH 1 (some 13) (.int .i64 1) rfl rfl (by kernel_rfl) (by kernel_rfl) (by kernel_rfl) (fun _ _ _ h => h) rfl (fun wq hS => by have hq := HC0.out wq hS; go_simp) HS.out ?_
    try simp only [Act.put, List.setIfInBounds_toArray, List.set_cons_succ, List.set_cons_zero]
    refine takeH 2 (some 14) (.int .u8 1) rfl rfl (by kernel_rfl) (by kernel_rfl) (by kernel_rfl) (fun _ _ _ h => h) rfl (fun wq hS => by go_simp; rfl) HS.out ?_
    try simp only [Act.put, List.setIfInBounds_toArray, List.set_cons_succ, List.set_cons_zero]
    refine takeH 3 (some 15) (.pointer (some ⟨g, 1, none⟩)) rfl rfl (by kernel_rfl) (by kernel_rfl) (by kernel_rfl) (fun _ _ _ h => h) rfl (fun wq hS => by go_simp) HS.out ?_
    try simp only [Act.put, List.setIfInBounds_toArray, List.set_cons_succ, List.set_cons_zero]
    refine takeH 4 (some 16) (.int .i64 b.id) rfl rfl (by kernel_rfl) (by kernel_rfl) (by kernel_rfl) (fun _ _ _ h => h) rfl (fun wq hS => by have hq := (H1.out.bat.below hS H1.out.bat.lt).c1; go_simp) HS.out ?_
    try simp only [Act.put, List.setIfInBounds_toArray, List.set_cons_succ, List.set_cons_zero]
    refine takeH 5 (some 17) (.int .u8 b.id) rfl rfl (by kernel_rfl) (by kernel_rfl) (by kernel_rfl) (fun _ _ _ h => h) rfl (fun wq hS => by go_simp; exact wrap8 (by omega) (by omega)) HS.out ?_
    try simp only [Act.put, List.setIfInBounds_toArray, List.set_cons_succ, List.set_cons_zero]
    refine takeH 7 (some 19) (.int .u32 n) rfl rfl (by kernel_rfl) (by kernel_rfl) (by kernel_rfl) (fun _ _ _ h => h) rfl (fun wq hS => by go_simp) HS.out ?_
    try simp only [Act.put, List.setIfInBounds_toArray, List.set_cons_succ, List.set_cons_zero]
    refine twoH 6 8 (by kernel_rfl) rfl rfl rfl rfl (fun K hK => ?_) (fun K hK => ?_)
    · refine wp_runTo (some 18) rfl (.slice (some ⟨wS.heap.size, 0, none⟩) 2 2) (wS.alloc (.cells #[.int .u8 1, .int .u8 b.id] 5)) (by go_simp) ?_
      have hb1 := (Below.refl wS.heap.size wS).alloc (Nat.le_refl _) (.cells #[.int .u8 1, .int .u8 b.id] 5)
      have hlit := Own.lit wS w1.heap.size HS.out.size [1, b.id] (by simp) _ rfl
      generalize (Value.slice (some ⟨wS.heap.size, 0, none⟩) 2 2) = lv at *
      have HL1 : Hid (Own (wS.alloc (.cells #[.int .u8 1, .int .u8 b.id] 5)) w1.heap.size lv [1, b.id]) := Lib.hid hlit
      have HS' := Lib.hid (HS.out.trans (hb1.mono HS.out.size))
      have HQ0 := Lib.hid (HS.out)
      clear HS
      have HS := HS'
      clear HS'
      refine hK _ _ HS.out ?_
      clear hK K hlit
      try simp only [Act.put, List.setIfInBounds_toArray, List.set_cons_succ, List.set_cons_zero]
      generalize wS.alloc (.cells #[.int .u8 1, .int .u8 b.id] 5) = wD at *
      refine oneH 8 (by kernel_rfl) rfl rfl fun K hK => ?_
      go_simp
      refine (rput4_any n ⟨hn1, hn2⟩ wD).mono ?_
      rintro e w3 ⟨pv, rfl, hpo, hpb⟩
      have HP1 := Lib.hid hpo.bytes
      have HL2 := Lib.hid (HL1.out.below hpb)
      have HS2 := Lib.hid (HS.out.trans (hpb.mono HS.out.size))
      clear HL1 HS hpo hpb hb1
      have HL1 := HL2
      have HS := HS2
      clear HL2 HS2
      refine hK _ _ HS.out ?_
      clear hK K
      try simp only [Act.put, List.setIfInBounds_toArray, List.set_cons_succ, List.set_cons_zero]
      refine oneH 9 (by kernel_rfl) rfl rfl fun K hK => ?_
      refine app_W _ _ (some 21) rfl rfl HL1.out HS.out.size HP1.out (by simp [le_length]) rfl rfl ?_
      intro sv' w' hO hB'
      have HSF := Lib.hid (HS.out.trans hB')
      have HOF := Lib.hid hO
      refine hK _ _ HSF.out ?_
      clear hK K hO hB'
      try simp only [Act.put, List.setIfInBounds_toArray, List.set_cons_succ, List.set_cons_zero]
      refine takeH 10 (some 6) sv' rfl rfl (by kernel_rfl) (by kernel_rfl) (by kernel_rfl) (fun _ _ _ h => h) rfl (fun wq hS => by go_simp) HSF.out ?_
      try simp only [Act.put, List.setIfInBounds_toArray, List.set_cons_succ, List.set_cons_zero]
      refine wpAnyH_done (by kernel_rfl) ?_ _
      go_wp2_with fail
      go_meet
      exact ⟨_, rfl, HOF.out, HSF.out⟩
    · go_simp
      refine (rput4_any n ⟨hn1, hn2⟩ wS).mono ?_
      rintro e w3 ⟨pv, rfl, hpo, hpb⟩
      have HP0 := Lib.hid hpo.bytes
      have HS2 := Lib.hid (HS.out.trans (hpb.mono HS.out.size))
      clear HS hpo hpb
      have HS := HS2
      clear HS2
      refine hK _ _ HS.out ?_
      clear hK K
      try simp only [Act.put, List.setIfInBounds_toArray, List.set_cons_succ, List.set_cons_zero]
      refine oneH 6 (by kernel_rfl) rfl rfl fun K hK => ?_
      refine wp_runTo (some 18) rfl (.slice (some ⟨w3.heap.size, 0, none⟩) 2 2) (w3.alloc (.cells #[.int .u8 1, .int .u8 b.id] 5)) (by go_simp) ?_
      have hb1 := (Below.refl w3.heap.size w3).alloc (Nat.le_refl _) (.cells #[.int .u8 1, .int .u8 b.id] 5)
      have hlit := Own.lit w3 w1.heap.size HS.out.size [1, b.id] (by simp) _ rfl
      generalize (Value.slice (some ⟨w3.heap.size, 0, none⟩) 2 2) = lv at *
      have HL1 : Hid (Own (w3.alloc (.cells #[.int .u8 1, .int .u8 b.id] 5)) w1.heap.size lv [1, b.id]) := Lib.hid hlit
      have HS' := Lib.hid (HS.out.trans (hb1.mono HS.out.size))
      have HP1 := Lib.hid (HP0.out.below hb1)
      clear HS HP0
      have HS := HS'
      clear HS'
      refine hK _ _ HS.out ?_
      clear hK K hlit hb1
      try simp only [Act.put, List.setIfInBounds_toArray, List.set_cons_succ, List.set_cons_zero]
      generalize w3.alloc (.cells #[.int .u8 1, .int .u8 b.id] 5) = wD at *
      refine oneH 9 (by kernel_rfl) rfl rfl fun K hK => ?_
      refine app_W _ _ (some 21) rfl rfl HL1.out HS.out.size HP1.out (by simp [le_length]) rfl rfl ?_
      intro sv' w' hO hB'
      have HSF := Lib.hid (HS.out.trans hB')
      have HOF := Lib.hid hO
      refine hK _ _ HSF.out ?_
      clear hK K hO hB'
      try simp only [Act.put, List.setIfInBounds_toArray, List.set_cons_succ, List.set_cons_zero]
      refine takeH 10 (some 6) sv' rfl rfl (by kernel_rfl) (by kernel_rfl) (by kernel_rfl) (fun _ _ _ h => h) rfl (fun wq hS => by go_simp) HSF.out ?_
      try simp only [Act.put, List.setIfInBounds_toArray, List.set_cons_succ, List.set_cons_zero]
      refine wpAnyH_done (by kernel_rfl) ?_ _
      go_wp2_with fail
      go_meet
      exact ⟨_, rfl, HOF.out, HSF.out⟩
  case rest =>
  obtain ⟨s6, rfl, hO3, hB3⟩ := hcut
  have HO3 := Lib.hid hO3
  have H3 := Lib.hid (H1.out.below hB3)
  have HBS := Lib.hid hB3.size
  have HB3 := Lib.hid hB3
  clear hO3 hB3
  have c0 := H3.out.bat.c0
  rw [HK.out] at c0
  repeat (first | (with_reducible refine stopR (id := 6) ?_) | go_values | go_skip | go_guarded | go_step | go_upon | go_back)
  refine Stop.mk (wp_region_lit ?_)
  refine takeL s6 rfl (by go_simp) ?_
  try simp only [Act.put, List.setIfInBounds_toArray, List.set_cons_succ, List.set_cons_zero]
  refine takeL (.pointer (some ⟨g, 2, none⟩)) rfl (by go_simp) ?_
  try simp only [Act.put, List.setIfInBounds_toArray, List.set_cons_succ, List.set_cons_zero]
  refine takeL (.slice (some ⟨g, 2, none⟩) 32 32) rfl (by go_simp) ?_
  try simp only [Act.put, List.setIfInBounds_toArray, List.set_cons_succ, List.set_cons_zero]
  have hby2 : BytesAt _ (.slice (some ⟨g, 2, none⟩) b.page.length 32) b.page := ⟨_, 32, rfl, fun i x hx => ⟨g, 2, rfl, H3.out.bat.page_at i x hx⟩⟩
  rw [HW.out.page] at hby2
  refine app_L HO3.out HBS.out hby2 (by simp [le_length, HW.out.page]) rfl rfl rfl ?_
  intro s7 w7 hO7 hB7
  try simp only [Act.put, List.setIfInBounds_toArray, List.set_cons_succ, List.set_cons_zero]
  have HO7 := Lib.hid hO7
  have H7 := Lib.hid (ES.grow H3.out H1.out.bat.lt H1.out.res.lt hB7 HBS.out)
  clear hO7 hB7 hby2
  refine takeL s7 rfl (by go_simp) ?_
  try simp only [Act.put, List.setIfInBounds_toArray, List.set_cons_succ, List.set_cons_zero]
  refine wpList_nil ?_
  repeat (first | (with_reducible refine stopR (id := 15) ?_) | go_values | go_skip | go_guarded | go_step | go_upon | go_back)
  refine Stop.mk (wp_region_lit ?_)
  refine takeL s7 rfl (by go_simp) ?_
  try simp only [Act.put, List.setIfInBounds_toArray, List.set_cons_succ, List.set_cons_zero]
  refine wpList_op rfl fun K hK => ?_
  go_simp
  refine (rsector_any s7 _ (by rw [HLL.out.1]; decide) (by rw [HLL.out.1]; decide) _ HO7.out.bytes).mono ?_
  rintro e w8 ⟨rfl, hb⟩
  rw [HLL.out.2]
  refine hK _ _ ?_
  clear hK K
  try simp only [Act.put, List.setIfInBounds_toArray, List.set_cons_succ, List.set_cons_zero]
  have HE8 := Lib.hid (H7.out.below hb)
  clear hb
  refine store_all (cs := (u8s (b.enc n)).toArray) HE8.out.res (by rw [u8s_size, HL.out]; simp [zeros]) (by rw [u8s_size, HL.out]; exact info72) (u8s_one _) rfl rfl rfl ?_
  intro wZ hZ hOZ hlZ
  try simp only [Act.put, List.setIfInBounds_toArray, List.set_cons_succ, List.set_cons_zero]
  refine takeL (.int .i64 0) rfl (by go_simp) ?_
  try simp only [Act.put, List.setIfInBounds_toArray, List.set_cons_succ, List.set_cons_zero]
  have HF := Lib.hid (HE8.out.bel.trans (hOZ.below HE8.out.bel.size (fun k hk => by have := HE8.out.g0; have := HE8.out.gr; omega)))
  refine wpList_nil ?_
  go_wp2_with fail
  refine bodyPost_ret (v := .tuple #[.agg (u8s (b.enc n)).toArray, .int .i64 0]) (results_cell_tmp rfl _ _ r 0 _ _ _ rfl rfl Tryz.underlying72 rfl (by rw [u8s_size, HL.out]; exact info72) ?_) rfl ⟨rfl, HF.out⟩
  exact Blk.all (cs := (u8s (b.enc n)).toArray) hZ rfl
set_option maxHeartbeats 2000000 in
set_option maxRecDepth 100000 in
theorem rencode_dlt (b : Bk) (sv : Value) (n : Int) (w : World) (hs : BytesAt w sv b.bytes) (hw : b.Wf) (hg : b.good = true) (hk : b.kind = 2) (hn : 0 ≤ n ∧ n < 4294967296) : Calls Tryz.prog 71 #[.agg (b.arr sv), .int .u32 n] w fun e w' => e = .returned (.tuple #[.agg (u8s (b.enc n)).toArray, .int .i64 0]) ∧ Below w.heap.size w w' := by
  have HSZ := Lib.hid (b.arr_size hw sv)
  have HW := Lib.hid hw
  have HG := Lib.hid fun w => rgood_any b sv hs.len hw w
  rw [hg] at HG
  obtain ⟨hn1, hn2⟩ := hn
  obtain ⟨_, hi1, hi2⟩ := good_kind hg
  have HK := Lib.hid hk
  have HL := Lib.hid (enc_length hg hw n)
  have HLL := Lib.hid (rsec2 hg hk n)
  obtain ⟨⟨hb1, hb2⟩, ⟨ho1, ho2⟩, ⟨hp1, hp2⟩, _⟩ := good2 hg hk
  have HBY := Lib.hid hs
  obtain ⟨p, q, cap, hsv, _⟩ := hs.has (by omega)
  have HSV := Lib.hid hsv
  clear hsv
  clear hg hk hw
  go_enter Tryz.func71, Tryz.ntmps71
  repeat (first | (with_reducible refine stopR (id := 0) ?_) | go_values | go_skip | go_guarded | go_step | go_upon | go_back)
  refine Stop.mk (wp_region_lit ?_)
  refine box_g rfl rfl ?_
  intro wA hA hB hl
  try simp only [Act.put, List.setIfInBounds_toArray, List.set_cons_succ, List.set_cons_zero]
  refine alloc_g zero72 rfl ?_
  intro wB hR hB2 hl2
  try simp only [Act.put, List.setIfInBounds_toArray, List.set_cons_succ, List.set_cons_zero]
  refine takeL (.int .i64 0) rfl (by go_simp) ?_
  try simp only [Act.put, List.setIfInBounds_toArray, List.set_cons_succ, List.set_cons_zero]
  have H0 : Hid (ES w wB w.heap.size wA.heap.size b sv) := Lib.hid ⟨⟨hA.below hB2 hl, HW.out⟩, hR, hB.trans (hB2.mono hB.size), Nat.le_refl _, hl⟩
  clear hA hB hl hR hB2 hl2
  generalize hgg : w.heap.size = g at *
  generalize hrr : wA.heap.size = r at *
  have HGG := Lib.hid hgg
  clear hgg hrr wA
  refine wpList_nil ?_
  repeat (first | (with_reducible refine stopR (id := 1) ?_) | go_values | go_skip | go_guarded | go_step | go_upon | go_back)
  refine Stop.mk (wp_region_lit ?_)
  refine load100 H0.out.bat.all HSZ.out rfl rfl ?_
  try simp only [Act.put, List.setIfInBounds_toArray, List.set_cons_succ, List.set_cons_zero]
  refine wpList_op rfl fun K hK => ?_
  go_simp
  refine (HG.out _).mono ?_
  rintro e w1 ⟨rfl, hb⟩
  refine hK _ _ ?_
  clear hK K
  try simp only [Act.put, List.setIfInBounds_toArray, List.set_cons_succ, List.set_cons_zero]
  have H1 := Lib.hid (H0.out.below hb)
  clear hb H0
  refine takeL (.bool false) rfl (by go_simp) ?_
  try simp only [Act.put, List.setIfInBounds_toArray, List.set_cons_succ, List.set_cons_zero]
  refine wpList_nil ?_
  go_upto_region 3 with fail
  go_cut [6] from 12 to 22 (fun s6 wx => ∃ o, o = s6 ∧ Own wx w1.heap.size o ([2, b.id] ++ le 4 n) ∧ Below w1.heap.size w1 wx)
  case first =>
    have HC0 := Lib.hid (fun (wq : World) (hS : Below w1.heap.size w1 wq) => show wq.cell? ⟨g, 0, none⟩ = some (.int .i64 2) from by
      have hq := (H1.out.bat.below hS H1.out.bat.lt).c0
      rwa [HK.out] at hq)
    refine startH (fun wq => Below w1.heap.size w1 wq) (by kernel_rfl) ?_
    have HS : Hid (Below w1.heap.size w1 w1.drew) := Lib.hid (Below.refl _ _).drew
    generalize w1.drew = wS at *
    refine takeH 0 (some 12) (.pointer (some ⟨g, 0, none⟩)) rfl rfl (by kernel_rfl) (by kernel_rfl) (by kernel_rfl) (fun _ _ _ h => h) rfl (fun wq hS => by go_simp) HS.out ?_
    try simp only [Act.put, List.setIfInBounds_toArray, List.set_cons_succ, List.set_cons_zero]
    refine takeH 1 (some 13) (.int .i64 2) rfl rfl (by kernel_rfl) (by kernel_rfl) (by kernel_rfl) (fun _ _ _ h => h) rfl (fun wq hS => by have hq := HC0.out wq hS; go_simp) HS.out ?_
    try simp only [Act.put, List.setIfInBounds_toArray, List.set_cons_succ, List.set_cons_zero]
    refine takeH 2 (some 14) (.int .u8 2) rfl rfl (by kernel_rfl) (by kernel_rfl) (by kernel_rfl) (fun _ _ _ h => h) rfl (fun wq hS => by go_simp; rfl) HS.out ?_
    try simp only [Act.put, List.setIfInBounds_toArray, List.set_cons_succ, List.set_cons_zero]
    refine takeH 3 (some 15) (.pointer (some ⟨g, 1, none⟩)) rfl rfl (by kernel_rfl) (by kernel_rfl) (by kernel_rfl) (fun _ _ _ h => h) rfl (fun wq hS => by go_simp) HS.out ?_
    try simp only [Act.put, List.setIfInBounds_toArray, List.set_cons_succ, List.set_cons_zero]
    refine takeH 4 (some 16) (.int .i64 b.id) rfl rfl (by kernel_rfl) (by kernel_rfl) (by kernel_rfl) (fun _ _ _ h => h) rfl (fun wq hS => by have hq := (H1.out.bat.below hS H1.out.bat.lt).c1; go_simp) HS.out ?_
    try simp only [Act.put, List.setIfInBounds_toArray, List.set_cons_succ, List.set_cons_zero]
    refine takeH 5 (some 17) (.int .u8 b.id) rfl rfl (by kernel_rfl) (by kernel_rfl) (by kernel_rfl) (fun _ _ _ h => h) rfl (fun wq hS => by go_simp; exact wrap8 (by omega) (by omega)) HS.out ?_
    try simp only [Act.put, List.setIfInBounds_toArray, List.set_cons_succ, List.set_cons_zero]
    refine takeH 7 (some 19) (.int .u32 n) rfl rfl (by kernel_rfl) (by kernel_rfl) (by kernel_rfl) (fun _ _ _ h => h) rfl (fun wq hS => by go_simp) HS.out ?_
    try simp only [Act.put, List.setIfInBounds_toArray, List.set_cons_succ, List.set_cons_zero]
    refine twoH 6 8 (by kernel_rfl) rfl rfl rfl rfl (fun K hK => ?_) (fun K hK => ?_)
    · refine wp_runTo (some 18) rfl (.slice (some ⟨wS.heap.size, 0, none⟩) 2 2) (wS.alloc (.cells #[.int .u8 2, .int .u8 b.id] 5)) (by go_simp) ?_
      have hb1 := (Below.refl wS.heap.size wS).alloc (Nat.le_refl _) (.cells #[.int .u8 2, .int .u8 b.id] 5)
      have hlit := Own.lit wS w1.heap.size HS.out.size [2, b.id] (by simp) _ rfl
      generalize (Value.slice (some ⟨wS.heap.size, 0, none⟩) 2 2) = lv at *
      have HL1 : Hid (Own (wS.alloc (.cells #[.int .u8 2, .int .u8 b.id] 5)) w1.heap.size lv [2, b.id]) := Lib.hid hlit
      have HS' := Lib.hid (HS.out.trans (hb1.mono HS.out.size))
      have HQ0 := Lib.hid (HS.out)
      clear HS
      have HS := HS'
      clear HS'
      refine hK _ _ HS.out ?_
      clear hK K hlit
      try simp only [Act.put, List.setIfInBounds_toArray, List.set_cons_succ, List.set_cons_zero]
      generalize wS.alloc (.cells #[.int .u8 2, .int .u8 b.id] 5) = wD at *
      refine oneH 8 (by kernel_rfl) rfl rfl fun K hK => ?_
      go_simp
      refine (rput4_any n ⟨hn1, hn2⟩ wD).mono ?_
      rintro e w3 ⟨pv, rfl, hpo, hpb⟩
      have HP1 := Lib.hid hpo.bytes
      have HL2 := Lib.hid (HL1.out.below hpb)
      have HS2 := Lib.hid (HS.out.trans (hpb.mono HS.out.size))
      clear HL1 HS hpo hpb hb1
      have HL1 := HL2
      have HS := HS2
      clear HL2 HS2
      refine hK _ _ HS.out ?_
      clear hK K
      try simp only [Act.put, List.setIfInBounds_toArray, List.set_cons_succ, List.set_cons_zero]
      refine oneH 9 (by kernel_rfl) rfl rfl fun K hK => ?_
      refine app_W _ _ (some 21) rfl rfl HL1.out HS.out.size HP1.out (by simp [le_length]) rfl rfl ?_
      intro sv' w' hO hB'
      have HSF := Lib.hid (HS.out.trans hB')
      have HOF := Lib.hid hO
      refine hK _ _ HSF.out ?_
      clear hK K hO hB'
      try simp only [Act.put, List.setIfInBounds_toArray, List.set_cons_succ, List.set_cons_zero]
      refine takeH 10 (some 6) sv' rfl rfl (by kernel_rfl) (by kernel_rfl) (by kernel_rfl) (fun _ _ _ h => h) rfl (fun wq hS => by go_simp) HSF.out ?_
      try simp only [Act.put, List.setIfInBounds_toArray, List.set_cons_succ, List.set_cons_zero]
      refine wpAnyH_done (by kernel_rfl) ?_ _
      go_wp2_with fail
      go_meet
      exact ⟨_, rfl, HOF.out, HSF.out⟩
    · go_simp
      refine (rput4_any n ⟨hn1, hn2⟩ wS).mono ?_
      rintro e w3 ⟨pv, rfl, hpo, hpb⟩
      have HP0 := Lib.hid hpo.bytes
      have HS2 := Lib.hid (HS.out.trans (hpb.mono HS.out.size))
      clear HS hpo hpb
      have HS := HS2
      clear HS2
      refine hK _ _ HS.out ?_
      clear hK K
      try simp only [Act.put, List.setIfInBounds_toArray, List.set_cons_succ, List.set_cons_zero]
      refine oneH 6 (by kernel_rfl) rfl rfl fun K hK => ?_
      refine wp_runTo (some 18) rfl (.slice (some ⟨w3.heap.size, 0, none⟩) 2 2) (w3.alloc (.cells #[.int .u8 2, .int .u8 b.id] 5)) (by go_simp) ?_
      have hb1 := (Below.refl w3.heap.size w3).alloc (Nat.le_refl _) (.cells #[.int .u8 2, .int .u8 b.id] 5)
      have hlit := Own.lit w3 w1.heap.size HS.out.size [2, b.id] (by simp) _ rfl
      generalize (Value.slice (some ⟨w3.heap.size, 0, none⟩) 2 2) = lv at *
      have HL1 : Hid (Own (w3.alloc (.cells #[.int .u8 2, .int .u8 b.id] 5)) w1.heap.size lv [2, b.id]) := Lib.hid hlit
      have HS' := Lib.hid (HS.out.trans (hb1.mono HS.out.size))
      have HP1 := Lib.hid (HP0.out.below hb1)
      clear HS HP0
      have HS := HS'
      clear HS'
      refine hK _ _ HS.out ?_
      clear hK K hlit hb1
      try simp only [Act.put, List.setIfInBounds_toArray, List.set_cons_succ, List.set_cons_zero]
      generalize w3.alloc (.cells #[.int .u8 2, .int .u8 b.id] 5) = wD at *
      refine oneH 9 (by kernel_rfl) rfl rfl fun K hK => ?_
      refine app_W _ _ (some 21) rfl rfl HL1.out HS.out.size HP1.out (by simp [le_length]) rfl rfl ?_
      intro sv' w' hO hB'
      have HSF := Lib.hid (HS.out.trans hB')
      have HOF := Lib.hid hO
      refine hK _ _ HSF.out ?_
      clear hK K hO hB'
      try simp only [Act.put, List.setIfInBounds_toArray, List.set_cons_succ, List.set_cons_zero]
      refine takeH 10 (some 6) sv' rfl rfl (by kernel_rfl) (by kernel_rfl) (by kernel_rfl) (fun _ _ _ h => h) rfl (fun wq hS => by go_simp) HSF.out ?_
      try simp only [Act.put, List.setIfInBounds_toArray, List.set_cons_succ, List.set_cons_zero]
      refine wpAnyH_done (by kernel_rfl) ?_ _
      go_wp2_with fail
      go_meet
      exact ⟨_, rfl, HOF.out, HSF.out⟩
  case rest =>
  obtain ⟨s6, rfl, hO3, hB3⟩ := hcut
  have HO3 := Lib.hid hO3
  have H3 := Lib.hid (H1.out.below hB3)
  have HBS := Lib.hid hB3.size
  have HB3 := Lib.hid hB3
  clear hO3 hB3
  have c0 := H3.out.bat.c0
  rw [HK.out] at c0
  go_upto_region 8 with fail
  go_cut [6] from 32 to 45 (fun s7 wx => ∃ o, o = s7 ∧ Own wx w1.heap.size o (([2, b.id] ++ le 4 n) ++ [b.off, (b.bytes.length : Int)] ++ b.bytes) ∧ Below w1.heap.size w1 wx)
  case first =>
    refine startH (fun wq => Below w1.heap.size w1 wq) (by kernel_rfl) ?_
    have HS : Hid (Below w1.heap.size w1 wc.drew) := Lib.hid HB3.out.drew
    have HO3d : Hid (Own wc.drew w1.heap.size s6 ([2, b.id] ++ le 4 n)) := Lib.hid HO3.out
    generalize wc.drew = wS at *
    refine takeH 0 (some 32) (s6) rfl rfl (by kernel_rfl) (by kernel_rfl) (by kernel_rfl) (fun _ _ _ h => h) rfl (fun wq hS => by go_simp) HS.out ?_
    try simp only [Act.put, List.setIfInBounds_toArray, List.set_cons_succ, List.set_cons_zero]
    refine takeH 1 (some 33) (.pointer (some ⟨g, 34, none⟩)) rfl rfl (by kernel_rfl) (by kernel_rfl) (by kernel_rfl) (fun _ _ _ h => h) rfl (fun wq hS => by go_simp) HS.out ?_
    try simp only [Act.put, List.setIfInBounds_toArray, List.set_cons_succ, List.set_cons_zero]
    refine takeH 2 (some 34) (.int .i64 b.off) rfl rfl (by kernel_rfl) (by kernel_rfl) (by kernel_rfl) (fun _ _ _ h => h) rfl (fun wq hS => by have hq := (H1.out.bat.below hS H1.out.bat.lt).c34; go_simp) HS.out ?_
    try simp only [Act.put, List.setIfInBounds_toArray, List.set_cons_succ, List.set_cons_zero]
    refine takeH 3 (some 35) (.int .u8 b.off) rfl rfl (by kernel_rfl) (by kernel_rfl) (by kernel_rfl) (fun _ _ _ h => h) rfl (fun wq hS => by go_simp; exact wrap8 (by omega) (by omega)) HS.out ?_
    try simp only [Act.put, List.setIfInBounds_toArray, List.set_cons_succ, List.set_cons_zero]
    refine takeH 4 (some 36) (.pointer (some ⟨g, 35, none⟩)) rfl rfl (by kernel_rfl) (by kernel_rfl) (by kernel_rfl) (fun _ _ _ h => h) rfl (fun wq hS => by go_simp) HS.out ?_
    try simp only [Act.put, List.setIfInBounds_toArray, List.set_cons_succ, List.set_cons_zero]
    refine takeH 5 (some 37) (.slice (some ⟨p, q, none⟩) b.bytes.length cap) rfl rfl (by kernel_rfl) (by kernel_rfl) (by kernel_rfl) (fun _ _ _ h => h) rfl (fun wq hS => by have hq := ((H1.out.bat.below hS H1.out.bat.lt).c35).trans (congrArg some HSV.out); go_simp) HS.out ?_
    try simp only [Act.put, List.setIfInBounds_toArray, List.set_cons_succ, List.set_cons_zero]
    refine takeH 6 (some 38) (.int .i64 (b.bytes.length : Int)) rfl rfl (by kernel_rfl) (by kernel_rfl) (by kernel_rfl) (fun _ _ _ h => h) rfl (fun wq hS => by go_simp) HS.out ?_
    try simp only [Act.put, List.setIfInBounds_toArray, List.set_cons_succ, List.set_cons_zero]
    refine takeH 7 (some 39) (.int .u8 (b.bytes.length : Int)) rfl rfl (by kernel_rfl) (by kernel_rfl) (by kernel_rfl) (fun _ _ _ h => h) rfl (fun wq hS => by go_simp; exact wrap8 (by omega) (by omega)) HS.out ?_
    try simp only [Act.put, List.setIfInBounds_toArray, List.set_cons_succ, List.set_cons_zero]
    refine takeH 10 (some 42) (.pointer (some ⟨g, 35, none⟩)) rfl rfl (by kernel_rfl) (by kernel_rfl) (by kernel_rfl) (fun _ _ _ h => h) rfl (fun wq hS => by go_simp) HS.out ?_
    try simp only [Act.put, List.setIfInBounds_toArray, List.set_cons_succ, List.set_cons_zero]
    refine takeH 11 (some 43) (.slice (some ⟨p, q, none⟩) b.bytes.length cap) rfl rfl (by kernel_rfl) (by kernel_rfl) (by kernel_rfl) (fun _ _ _ h => h) rfl (fun wq hS => by have hq := ((H1.out.bat.below hS H1.out.bat.lt).c35).trans (congrArg some HSV.out); go_simp) HS.out ?_
    try simp only [Act.put, List.setIfInBounds_toArray, List.set_cons_succ, List.set_cons_zero]
    refine oneH 8 (by kernel_rfl) rfl rfl fun K hK => ?_
    refine wp_runTo (some 40) rfl (.slice (some ⟨wS.heap.size, 0, none⟩) 2 2) (wS.alloc (.cells #[.int .u8 b.off, .int .u8 (b.bytes.length : Int)] 5)) (by go_simp) ?_
    have hb1 := (Below.refl wS.heap.size wS).alloc (Nat.le_refl _) (.cells #[.int .u8 b.off, .int .u8 (b.bytes.length : Int)] 5)
    have hlit := Own.lit wS w1.heap.size HS.out.size [b.off, (b.bytes.length : Int)] (by simp) _ rfl
    have HS' := Lib.hid (HS.out.trans (hb1.mono HS.out.size))
    have HO3' := Lib.hid (HO3d.out.below hb1)
    generalize (Value.slice (some ⟨wS.heap.size, 0, none⟩) 2 2) = lv at *
    have HL1 : Hid (BytesAt (wS.alloc (.cells #[.int .u8 b.off, .int .u8 (b.bytes.length : Int)] 5)) lv [b.off, (b.bytes.length : Int)]) := Lib.hid hlit.bytes
    clear hlit hb1
    refine hK _ _ HS'.out ?_
    clear hK K HS HO3d
    try simp only [Act.put, List.setIfInBounds_toArray, List.set_cons_succ, List.set_cons_zero]
    generalize wS.alloc (.cells #[.int .u8 b.off, .int .u8 (b.bytes.length : Int)] 5) = wD at *
    refine oneH 9 (by kernel_rfl) rfl rfl fun K hK => ?_
    refine app_W _ _ (some 41) rfl rfl HO3'.out HS'.out.size HL1.out (by simp [le_length]) rfl rfl ?_
    intro s8 w8 hO8 hB8
    have HS8 := Lib.hid (HS'.out.trans hB8)
    have HO8 := Lib.hid hO8
    refine hK _ _ HS8.out ?_
    clear hK K hO8 hB8 HO3' HS' HL1
    try simp only [Act.put, List.setIfInBounds_toArray, List.set_cons_succ, List.set_cons_zero]
    have HYB := Lib.hid (show BytesAt w8 (.slice (some ⟨p, q, none⟩) b.bytes.length cap) b.bytes from by
      rw [← HSV.out]
      exact (HBY.out.below (H1.out.bel)).below HS8.out)
    refine oneH 12 (by kernel_rfl) rfl rfl fun K hK => ?_
    refine app_W _ _ (some 44) rfl rfl HO8.out HS8.out.size HYB.out (by simp [le_length]; omega) rfl rfl ?_
    intro s9 w9 hO9 hB9
    have HS9 := Lib.hid (HS8.out.trans hB9)
    have HO9 := Lib.hid hO9
    refine hK _ _ HS9.out ?_
    clear hK K hO9 hB9 HO8 HS8 HYB
    try simp only [Act.put, List.setIfInBounds_toArray, List.set_cons_succ, List.set_cons_zero]
    refine takeH 13 (some 6) (s9) rfl rfl (by kernel_rfl) (by kernel_rfl) (by kernel_rfl) (fun _ _ _ h => h) rfl (fun wq hS => by go_simp) HS9.out ?_
    try simp only [Act.put, List.setIfInBounds_toArray, List.set_cons_succ, List.set_cons_zero]
    refine wpAnyH_done (by kernel_rfl) ?_ _
    go_wp2_with fail
    go_meet
    exact ⟨_, rfl, HO9.out, HS9.out⟩
  case rest =>
  clear HO3 H3 HBS HB3 c0
  obtain ⟨s7, rfl, hO3, hB3⟩ := hcut
  have HO4 := Lib.hid hO3
  have HB4 := Lib.hid hB3
  clear hO3 hB3
  go_upto_region 9 with fail
  refine startH (fun wq => Below w1.heap.size w1 wq) (by kernel_rfl) ?_
  have HS : Hid (Below w1.heap.size w1 wc.drew) := Lib.hid HB4.out.drew
  have HO4d : Hid (Own wc.drew w1.heap.size s7 (([2, b.id] ++ le 4 n) ++ [b.off, (b.bytes.length : Int)] ++ b.bytes)) := Lib.hid HO4.out
  generalize wc.drew = wS at *
  refine takeH 0 (some 45) (s7) rfl rfl (by kernel_rfl) (by kernel_rfl) (by kernel_rfl) (fun _ _ _ h => h) rfl (fun wq hS => by go_simp) HS.out ?_
  try simp only [Act.put, List.setIfInBounds_toArray, List.set_cons_succ, List.set_cons_zero]
  refine takeH 1 (some 46) (.pointer (some ⟨g, 35, none⟩)) rfl rfl (by kernel_rfl) (by kernel_rfl) (by kernel_rfl) (fun _ _ _ h => h) rfl (fun wq hS => by go_simp) HS.out ?_
  try simp only [Act.put, List.setIfInBounds_toArray, List.set_cons_succ, List.set_cons_zero]
  refine takeH 2 (some 47) (.slice (some ⟨p, q, none⟩) b.bytes.length cap) rfl rfl (by kernel_rfl) (by kernel_rfl) (by kernel_rfl) (fun _ _ _ h => h) rfl (fun wq hS => by have hq := ((H1.out.bat.below hS H1.out.bat.lt).c35).trans (congrArg some HSV.out); go_simp) HS.out ?_
  try simp only [Act.put, List.setIfInBounds_toArray, List.set_cons_succ, List.set_cons_zero]
  refine takeH 3 (some 48) (.int .i64 (b.bytes.length : Int)) rfl rfl (by kernel_rfl) (by kernel_rfl) (by kernel_rfl) (fun _ _ _ h => h) rfl (fun wq hS => by go_simp) HS.out ?_
  try simp only [Act.put, List.setIfInBounds_toArray, List.set_cons_succ, List.set_cons_zero]
  refine takeH 4 (some 49) (.int .i64 ((16 - b.bytes.length : Nat) : Int)) rfl rfl (by kernel_rfl) (by kernel_rfl) (by kernel_rfl) (fun _ _ _ h => h) rfl (fun wq hS => by go_simp; rw [wrap64 (by omega) (by omega)]; omega) HS.out ?_
  try simp only [Act.put, List.setIfInBounds_toArray, List.set_cons_succ, List.set_cons_zero]
  refine takeH 6 (some 51) (.pointer (some ⟨g, 36, none⟩)) rfl rfl (by kernel_rfl) (by kernel_rfl) (by kernel_rfl) (fun _ _ _ h => h) rfl (fun wq hS => by go_simp) HS.out ?_
  try simp only [Act.put, List.setIfInBounds_toArray, List.set_cons_succ, List.set_cons_zero]
  refine takeH 7 (some 52) (.int .i64 b.prev) rfl rfl (by kernel_rfl) (by kernel_rfl) (by kernel_rfl) (fun _ _ _ h => h) rfl (fun wq hS => by have hq := (H1.out.bat.below hS H1.out.bat.lt).c36; go_simp) HS.out ?_
  try simp only [Act.put, List.setIfInBounds_toArray, List.set_cons_succ, List.set_cons_zero]
  refine takeH 8 (some 53) (.int .u32 b.prev) rfl rfl (by kernel_rfl) (by kernel_rfl) (by kernel_rfl) (fun _ _ _ h => h) rfl (fun wq hS => by go_simp; exact wrap32 (by omega) (by omega)) HS.out ?_
  try simp only [Act.put, List.setIfInBounds_toArray, List.set_cons_succ, List.set_cons_zero]
  refine oneH 5 (by kernel_rfl) rfl rfl fun K hK => ?_
  refine zeros_W _ _ (some 50) rfl rfl HO4d.out (by simp) HS.out.size (by simp [le_length]; omega) rfl rfl ?_
  intro s8 w8 hO8 hB8
  have HS8 := Lib.hid (HS.out.trans hB8)
  have HO8 := Lib.hid hO8
  refine hK _ _ HS8.out ?_
  clear hK K hB8 hO8
  try simp only [Act.put, List.setIfInBounds_toArray, List.set_cons_succ, List.set_cons_zero]
  refine oneH 9 (by kernel_rfl) rfl rfl fun K hK => ?_
  go_simp
  refine (rput2_any b.prev ⟨by omega, by omega⟩ w8).mono ?_
  rintro e w3 ⟨pv, rfl, hpo, hpb⟩
  have HP1 := Lib.hid hpo.bytes
  have HO8' := Lib.hid (HO8.out.below hpb)
  have HS8' := Lib.hid (HS8.out.trans (hpb.mono HS8.out.size))
  clear HO8 HS8 hpo hpb
  have HO8 := HO8'
  have HS8 := HS8'
  refine hK _ _ HS8.out ?_
  clear hK K
  try simp only [Act.put, List.setIfInBounds_toArray, List.set_cons_succ, List.set_cons_zero]
  refine oneH 10 (by kernel_rfl) rfl rfl fun K hK => ?_
  refine app_W _ _ (some 55) rfl rfl HO8.out HS8.out.size HP1.out (by simp [le_length, zeros_length]; omega) rfl rfl ?_
  intro s9 w9 hO9 hB9
  have HS9 := Lib.hid (HS8.out.trans hB9)
  have HO9 := Lib.hid hO9
  refine hK _ _ HS9.out ?_
  clear hK K hO9 hB9
  try simp only [Act.put, List.setIfInBounds_toArray, List.set_cons_succ, List.set_cons_zero]
  refine takeH 11 (some 6) (s9) rfl rfl (by kernel_rfl) (by kernel_rfl) (by kernel_rfl) (fun _ _ _ h => h) rfl (fun wq hS => by go_simp) HS9.out ?_
  try simp only [Act.put, List.setIfInBounds_toArray, List.set_cons_succ, List.set_cons_zero]
  refine wpAnyH_done (by kernel_rfl) ?_ _
  have H5 := Lib.hid (H1.out.below HS9.out)
  repeat (first | (with_reducible refine stopR (id := 15) ?_) | go_values | go_skip | go_guarded | go_step | go_upon | go_back)
  refine Stop.mk (wp_region_lit ?_)
  refine takeL s9 rfl (by go_simp) ?_
  try simp only [Act.put, List.setIfInBounds_toArray, List.set_cons_succ, List.set_cons_zero]
  refine wpList_op rfl fun K hK => ?_
  go_simp
  refine (rsector_any s9 _ (by rw [HLL.out.1]; decide) (by rw [HLL.out.1]; decide) _ HO9.out.bytes).mono ?_
  rintro e w8 ⟨rfl, hb⟩
  rw [HLL.out.2]
  refine hK _ _ ?_
  clear hK K
  try simp only [Act.put, List.setIfInBounds_toArray, List.set_cons_succ, List.set_cons_zero]
  have HE8 := Lib.hid (H5.out.below hb)
  clear hb
  refine store_all (cs := (u8s (b.enc n)).toArray) HE8.out.res (by rw [u8s_size, HL.out]; simp [zeros]) (by rw [u8s_size, HL.out]; exact info72) (u8s_one _) rfl rfl rfl ?_
  intro wZ hZ hOZ hlZ
  try simp only [Act.put, List.setIfInBounds_toArray, List.set_cons_succ, List.set_cons_zero]
  refine takeL (.int .i64 0) rfl (by go_simp) ?_
  try simp only [Act.put, List.setIfInBounds_toArray, List.set_cons_succ, List.set_cons_zero]
  have HF := Lib.hid (HE8.out.bel.trans (hOZ.below HE8.out.bel.size (fun k hk => by have := HE8.out.g0; have := HE8.out.gr; omega)))
  refine wpList_nil ?_
  go_wp2_with fail
  refine bodyPost_ret (v := .tuple #[.agg (u8s (b.enc n)).toArray, .int .i64 0]) (results_cell_tmp rfl _ _ r 0 _ _ _ rfl rfl Tryz.underlying72 rfl (by rw [u8s_size, HL.out]; exact info72) ?_) rfl ⟨rfl, HF.out⟩
  exact Blk.all (cs := (u8s (b.enc n)).toArray) hZ rfl
set_option maxHeartbeats 2000000 in
set_option maxRecDepth 100000 in
theorem rencode_map (b : Bk) (sv : Value) (n : Int) (w : World) (hs : BytesAt w sv b.bytes) (hw : b.Wf) (hg : b.good = true) (hk : b.kind = 3) (hn : 0 ≤ n ∧ n < 4294967296) : Calls Tryz.prog 71 #[.agg (b.arr sv), .int .u32 n] w fun e w' => e = .returned (.tuple #[.agg (u8s (b.enc n)).toArray, .int .i64 0]) ∧ Below w.heap.size w w' := by
  have HSZ := Lib.hid (b.arr_size hw sv)
  have HW := Lib.hid hw
  have HG := Lib.hid fun w => rgood_any b sv hs.len hw w
  rw [hg] at HG
  obtain ⟨hn1, hn2⟩ := hn
  obtain ⟨_, hi1, hi2⟩ := good_kind hg
  have HK := Lib.hid hk
  have HL := Lib.hid (enc_length hg hw n)
  have HLL := Lib.hid (rsec3 hw hk n)
  obtain ⟨hhs, _⟩ := good3 hg hk
  have HHS := Lib.hid hhs
  clear hhs
  clear hg hk hw
  go_enter Tryz.func71, Tryz.ntmps71
  repeat (first | (with_reducible refine stopR (id := 0) ?_) | go_values | go_skip | go_guarded | go_step | go_upon | go_back)
  refine Stop.mk (wp_region_lit ?_)
  refine box_g rfl rfl ?_
  intro wA hA hB hl
  try simp only [Act.put, List.setIfInBounds_toArray, List.set_cons_succ, List.set_cons_zero]
  refine alloc_g zero72 rfl ?_
  intro wB hR hB2 hl2
  try simp only [Act.put, List.setIfInBounds_toArray, List.set_cons_succ, List.set_cons_zero]
  refine takeL (.int .i64 0) rfl (by go_simp) ?_
  try simp only [Act.put, List.setIfInBounds_toArray, List.set_cons_succ, List.set_cons_zero]
  have H0 : Hid (ES w wB w.heap.size wA.heap.size b sv) := Lib.hid ⟨⟨hA.below hB2 hl, HW.out⟩, hR, hB.trans (hB2.mono hB.size), Nat.le_refl _, hl⟩
  clear hA hB hl hR hB2 hl2
  generalize hgg : w.heap.size = g at *
  generalize hrr : wA.heap.size = r at *
  have HGG := Lib.hid hgg
  clear hgg hrr wA
  refine wpList_nil ?_
  repeat (first | (with_reducible refine stopR (id := 1) ?_) | go_values | go_skip | go_guarded | go_step | go_upon | go_back)
  refine Stop.mk (wp_region_lit ?_)
  refine load100 H0.out.bat.all HSZ.out rfl rfl ?_
  try simp only [Act.put, List.setIfInBounds_toArray, List.set_cons_succ, List.set_cons_zero]
  refine wpList_op rfl fun K hK => ?_
  go_simp
  refine (HG.out _).mono ?_
  rintro e w1 ⟨rfl, hb⟩
  refine hK _ _ ?_
  clear hK K
  try simp only [Act.put, List.setIfInBounds_toArray, List.set_cons_succ, List.set_cons_zero]
  have H1 := Lib.hid (H0.out.below hb)
  clear hb H0
  refine takeL (.bool false) rfl (by go_simp) ?_
  try simp only [Act.put, List.setIfInBounds_toArray, List.set_cons_succ, List.set_cons_zero]
  refine wpList_nil ?_
  go_upto_region 3 with fail
  go_cut [6] from 12 to 22 (fun s6 wx => ∃ o, o = s6 ∧ Own wx w1.heap.size o ([3, b.id] ++ le 4 n) ∧ Below w1.heap.size w1 wx)
  case first =>
    have HC0 := Lib.hid (fun (wq : World) (hS : Below w1.heap.size w1 wq) => show wq.cell? ⟨g, 0, none⟩ = some (.int .i64 3) from by
      have hq := (H1.out.bat.below hS H1.out.bat.lt).c0
      rwa [HK.out] at hq)
    refine startH (fun wq => Below w1.heap.size w1 wq) (by kernel_rfl) ?_
    have HS : Hid (Below w1.heap.size w1 w1.drew) := Lib.hid (Below.refl _ _).drew
    generalize w1.drew = wS at *
    refine takeH 0 (some 12) (.pointer (some ⟨g, 0, none⟩)) rfl rfl (by kernel_rfl) (by kernel_rfl) (by kernel_rfl) (fun _ _ _ h => h) rfl (fun wq hS => by go_simp) HS.out ?_
    try simp only [Act.put, List.setIfInBounds_toArray, List.set_cons_succ, List.set_cons_zero]
    refine takeH 1 (some 13) (.int .i64 3) rfl rfl (by kernel_rfl) (by kernel_rfl) (by kernel_rfl) (fun _ _ _ h => h) rfl (fun wq hS => by have hq := HC0.out wq hS; go_simp) HS.out ?_
    try simp only [Act.put, List.setIfInBounds_toArray, List.set_cons_succ, List.set_cons_zero]
    refine takeH 2 (some 14) (.int .u8 3) rfl rfl (by kernel_rfl) (by kernel_rfl) (by kernel_rfl) (fun _ _ _ h => h) rfl (fun wq hS => by go_simp; rfl) HS.out ?_
    try simp only [Act.put, List.setIfInBounds_toArray, List.set_cons_succ, List.set_cons_zero]
    refine takeH 3 (some 15) (.pointer (some ⟨g, 1, none⟩)) rfl rfl (by kernel_rfl) (by kernel_rfl) (by kernel_rfl) (fun _ _ _ h => h) rfl (fun wq hS => by go_simp) HS.out ?_
    try simp only [Act.put, List.setIfInBounds_toArray, List.set_cons_succ, List.set_cons_zero]
    refine takeH 4 (some 16) (.int .i64 b.id) rfl rfl (by kernel_rfl) (by kernel_rfl) (by kernel_rfl) (fun _ _ _ h => h) rfl (fun wq hS => by have hq := (H1.out.bat.below hS H1.out.bat.lt).c1; go_simp) HS.out ?_
    try simp only [Act.put, List.setIfInBounds_toArray, List.set_cons_succ, List.set_cons_zero]
    refine takeH 5 (some 17) (.int .u8 b.id) rfl rfl (by kernel_rfl) (by kernel_rfl) (by kernel_rfl) (fun _ _ _ h => h) rfl (fun wq hS => by go_simp; exact wrap8 (by omega) (by omega)) HS.out ?_
    try simp only [Act.put, List.setIfInBounds_toArray, List.set_cons_succ, List.set_cons_zero]
    refine takeH 7 (some 19) (.int .u32 n) rfl rfl (by kernel_rfl) (by kernel_rfl) (by kernel_rfl) (fun _ _ _ h => h) rfl (fun wq hS => by go_simp) HS.out ?_
    try simp only [Act.put, List.setIfInBounds_toArray, List.set_cons_succ, List.set_cons_zero]
    refine twoH 6 8 (by kernel_rfl) rfl rfl rfl rfl (fun K hK => ?_) (fun K hK => ?_)
    · refine wp_runTo (some 18) rfl (.slice (some ⟨wS.heap.size, 0, none⟩) 2 2) (wS.alloc (.cells #[.int .u8 3, .int .u8 b.id] 5)) (by go_simp) ?_
      have hb1 := (Below.refl wS.heap.size wS).alloc (Nat.le_refl _) (.cells #[.int .u8 3, .int .u8 b.id] 5)
      have hlit := Own.lit wS w1.heap.size HS.out.size [3, b.id] (by simp) _ rfl
      generalize (Value.slice (some ⟨wS.heap.size, 0, none⟩) 2 2) = lv at *
      have HL1 : Hid (Own (wS.alloc (.cells #[.int .u8 3, .int .u8 b.id] 5)) w1.heap.size lv [3, b.id]) := Lib.hid hlit
      have HS' := Lib.hid (HS.out.trans (hb1.mono HS.out.size))
      have HQ0 := Lib.hid (HS.out)
      clear HS
      have HS := HS'
      clear HS'
      refine hK _ _ HS.out ?_
      clear hK K hlit
      try simp only [Act.put, List.setIfInBounds_toArray, List.set_cons_succ, List.set_cons_zero]
      generalize wS.alloc (.cells #[.int .u8 3, .int .u8 b.id] 5) = wD at *
      refine oneH 8 (by kernel_rfl) rfl rfl fun K hK => ?_
      go_simp
      refine (rput4_any n ⟨hn1, hn2⟩ wD).mono ?_
      rintro e w3 ⟨pv, rfl, hpo, hpb⟩
      have HP1 := Lib.hid hpo.bytes
      have HL2 := Lib.hid (HL1.out.below hpb)
      have HS2 := Lib.hid (HS.out.trans (hpb.mono HS.out.size))
      clear HL1 HS hpo hpb hb1
      have HL1 := HL2
      have HS := HS2
      clear HL2 HS2
      refine hK _ _ HS.out ?_
      clear hK K
      try simp only [Act.put, List.setIfInBounds_toArray, List.set_cons_succ, List.set_cons_zero]
      refine oneH 9 (by kernel_rfl) rfl rfl fun K hK => ?_
      refine app_W _ _ (some 21) rfl rfl HL1.out HS.out.size HP1.out (by simp [le_length]) rfl rfl ?_
      intro sv' w' hO hB'
      have HSF := Lib.hid (HS.out.trans hB')
      have HOF := Lib.hid hO
      refine hK _ _ HSF.out ?_
      clear hK K hO hB'
      try simp only [Act.put, List.setIfInBounds_toArray, List.set_cons_succ, List.set_cons_zero]
      refine takeH 10 (some 6) sv' rfl rfl (by kernel_rfl) (by kernel_rfl) (by kernel_rfl) (fun _ _ _ h => h) rfl (fun wq hS => by go_simp) HSF.out ?_
      try simp only [Act.put, List.setIfInBounds_toArray, List.set_cons_succ, List.set_cons_zero]
      refine wpAnyH_done (by kernel_rfl) ?_ _
      go_wp2_with fail
      go_meet
      exact ⟨_, rfl, HOF.out, HSF.out⟩
    · go_simp
      refine (rput4_any n ⟨hn1, hn2⟩ wS).mono ?_
      rintro e w3 ⟨pv, rfl, hpo, hpb⟩
      have HP0 := Lib.hid hpo.bytes
      have HS2 := Lib.hid (HS.out.trans (hpb.mono HS.out.size))
      clear HS hpo hpb
      have HS := HS2
      clear HS2
      refine hK _ _ HS.out ?_
      clear hK K
      try simp only [Act.put, List.setIfInBounds_toArray, List.set_cons_succ, List.set_cons_zero]
      refine oneH 6 (by kernel_rfl) rfl rfl fun K hK => ?_
      refine wp_runTo (some 18) rfl (.slice (some ⟨w3.heap.size, 0, none⟩) 2 2) (w3.alloc (.cells #[.int .u8 3, .int .u8 b.id] 5)) (by go_simp) ?_
      have hb1 := (Below.refl w3.heap.size w3).alloc (Nat.le_refl _) (.cells #[.int .u8 3, .int .u8 b.id] 5)
      have hlit := Own.lit w3 w1.heap.size HS.out.size [3, b.id] (by simp) _ rfl
      generalize (Value.slice (some ⟨w3.heap.size, 0, none⟩) 2 2) = lv at *
      have HL1 : Hid (Own (w3.alloc (.cells #[.int .u8 3, .int .u8 b.id] 5)) w1.heap.size lv [3, b.id]) := Lib.hid hlit
      have HS' := Lib.hid (HS.out.trans (hb1.mono HS.out.size))
      have HP1 := Lib.hid (HP0.out.below hb1)
      clear HS HP0
      have HS := HS'
      clear HS'
      refine hK _ _ HS.out ?_
      clear hK K hlit hb1
      try simp only [Act.put, List.setIfInBounds_toArray, List.set_cons_succ, List.set_cons_zero]
      generalize w3.alloc (.cells #[.int .u8 3, .int .u8 b.id] 5) = wD at *
      refine oneH 9 (by kernel_rfl) rfl rfl fun K hK => ?_
      refine app_W _ _ (some 21) rfl rfl HL1.out HS.out.size HP1.out (by simp [le_length]) rfl rfl ?_
      intro sv' w' hO hB'
      have HSF := Lib.hid (HS.out.trans hB')
      have HOF := Lib.hid hO
      refine hK _ _ HSF.out ?_
      clear hK K hO hB'
      try simp only [Act.put, List.setIfInBounds_toArray, List.set_cons_succ, List.set_cons_zero]
      refine takeH 10 (some 6) sv' rfl rfl (by kernel_rfl) (by kernel_rfl) (by kernel_rfl) (fun _ _ _ h => h) rfl (fun wq hS => by go_simp) HSF.out ?_
      try simp only [Act.put, List.setIfInBounds_toArray, List.set_cons_succ, List.set_cons_zero]
      refine wpAnyH_done (by kernel_rfl) ?_ _
      go_wp2_with fail
      go_meet
      exact ⟨_, rfl, HOF.out, HSF.out⟩
  case rest =>
  obtain ⟨s6, rfl, hO3, hB3⟩ := hcut
  have HO3 := Lib.hid hO3
  have H3 := Lib.hid (H1.out.below hB3)
  have HBS := Lib.hid hB3.size
  have HB3 := Lib.hid hB3
  clear hO3 hB3
  have c0 := H3.out.bat.c0
  rw [HK.out] at c0
  go_wp2_with fail
  go_loopg [6, 7] 8 (fun q s i wr => ∃ k : Nat, 8 - k ≤ q ∧ k ≤ 8 ∧ i = .int .i64 k ∧ Own wr w1.heap.size s ([3, b.id] ++ le 4 n ++ (b.heads.take k).flatMap (le 2)) ∧ Below w1.heap.size w1 wr)
  case atStart => exact ⟨0, by omega, by omega, rfl, by rw [List.take_zero, List.flatMap_nil, List.append_nil]; exact HO3.out, HB3.out⟩
  case round =>
    obtain ⟨k, hg, hk, rfl, hown, hbel⟩ := hrel
    clear HO3 H3 HBS HB3 c0
    have HO := Lib.hid hown
    have HB := Lib.hid hbel
    clear hown hbel
    have hk0 : (0 : Int) ≤ (k : Int) := by omega
    by_cases hlt : k < 8
    · have hk8 : (k : Int) < 8 := by omega
      obtain ⟨x, hx⟩ : ∃ x, b.heads[k]? = some x := ⟨_, List.getElem?_eq_getElem (by rw [HW.out.heads]; exact hlt)⟩
      obtain ⟨hx1, hx2⟩ := HHS.out x (List.mem_of_getElem? hx)
      have HCX : Hid (wr.cell? ⟨g, 37 + k, none⟩ = some (.int .i64 x)) := Lib.hid ((H1.out.bat.below HB.out H1.out.bat.lt).blk.cell (by rw [b.atH HW.out sv k, List.getElem?_map, hx]; rfl))
      have HNX : Hid ([3, b.id] ++ le 4 n ++ (b.heads.take k).flatMap (le 2) ++ le 2 x = [3, b.id] ++ le 4 n ++ (b.heads.take (k + 1)).flatMap (le 2)) := Lib.hid (by
        rw [List.take_add_one, hx]
        simp)
      have HLK : Hid ((b.heads.take k).length ≤ 8) := Lib.hid (by simp; omega)
      clear hx
      repeat (first | (with_reducible refine stopR (id := 14) ?_) | go_values | go_skip | go_guarded | go_step | go_upon | go_back)
      refine Stop.mk (wp_region_lit ?_)
      refine takeL u6 rfl (by go_simp) ?_
      try simp only [Act.put, List.setIfInBounds_toArray, List.set_cons_succ, List.set_cons_zero]
      refine takeL (.int .i64 (k : Int)) rfl (by go_simp) ?_
      try simp only [Act.put, List.setIfInBounds_toArray, List.set_cons_succ, List.set_cons_zero]
      refine takeL (.pointer (some ⟨g, 37, none⟩)) rfl (by go_simp) ?_
      try simp only [Act.put, List.setIfInBounds_toArray, List.set_cons_succ, List.set_cons_zero]
      refine takeL (.pointer (some ⟨g, 37 + k, none⟩)) rfl (by go_simp) ?_
      try simp only [Act.put, List.setIfInBounds_toArray, List.set_cons_succ, List.set_cons_zero]
      refine takeL (.int .i64 x) rfl (by have hq := HCX.out; go_simp) ?_
      try simp only [Act.put, List.setIfInBounds_toArray, List.set_cons_succ, List.set_cons_zero]
      refine takeL (.int .u32 x) rfl (by go_simp; exact wrap32 (by omega) (by omega)) ?_
      try simp only [Act.put, List.setIfInBounds_toArray, List.set_cons_succ, List.set_cons_zero]
      refine wpList_op rfl fun K hK => ?_
      go_simp
      refine (rput2_any x ⟨by omega, by omega⟩ wr).mono ?_
      rintro e w3 ⟨pv, rfl, hpo, hpb⟩
      have HP1 := Lib.hid hpo.bytes
      have HO2 := Lib.hid (HO.out.below hpb)
      have HB2 := Lib.hid (HB.out.trans (hpb.mono HB.out.size))
      refine hK _ _ ?_
      clear hK K hpo hpb
      try simp only [Act.put, List.setIfInBounds_toArray, List.set_cons_succ, List.set_cons_zero]
      refine app_L HO2.out HB2.out.size HP1.out (by have := HLK.out; simp only [List.length_append, flat_length, le_length, List.length_cons, List.length_nil]; omega) rfl rfl rfl ?_
      intro s8 w8 hO8 hB8
      try simp only [Act.put, List.setIfInBounds_toArray, List.set_cons_succ, List.set_cons_zero]
      rw [HNX.out] at hO8
      have HO8 := Lib.hid hO8
      have HB8 := Lib.hid (HB2.out.trans hB8)
      clear hO8 hB8
      refine takeL s8 rfl (by go_simp) ?_
      try simp only [Act.put, List.setIfInBounds_toArray, List.set_cons_succ, List.set_cons_zero]
      refine wpList_nil ?_
      go_wp2_with fail
      go_roundg (8 - (k + 1))
      case measure => omega
      case rel => exact ⟨k + 1, by omega, by omega, by go_num, HO8.out, HB8.out⟩
    · have HO9 : Hid (Own wr w1.heap.size u6 ([3, b.id] ++ le 4 n ++ b.heads.flatMap (le 2))) := Lib.hid (by
        have := HO.out
        rwa [List.take_of_length_le (by rw [HW.out.heads]; omega)] at this)
      have H9 := Lib.hid (H1.out.below HB.out)
      have hk8 : k = 8 := by omega
      clear HO HB
      subst hk8
      repeat (first | (with_reducible refine stopR (id := 15) ?_) | go_values | go_skip | go_guarded | go_step | go_upon | go_back)
      refine Stop.mk (wp_region_lit ?_)
      refine takeL u6 rfl (by go_simp) ?_
      try simp only [Act.put, List.setIfInBounds_toArray, List.set_cons_succ, List.set_cons_zero]
      refine wpList_op rfl fun K hK => ?_
      go_simp
      refine (rsector_any u6 _ (by rw [HLL.out.1]; decide) (by rw [HLL.out.1]; decide) _ HO9.out.bytes).mono ?_
      rintro e w8 ⟨rfl, hb⟩
      rw [HLL.out.2]
      refine hK _ _ ?_
      clear hK K
      try simp only [Act.put, List.setIfInBounds_toArray, List.set_cons_succ, List.set_cons_zero]
      have HE8 := Lib.hid (H9.out.below hb)
      clear hb
      refine store_all (cs := (u8s (b.enc n)).toArray) HE8.out.res (by rw [u8s_size, HL.out]; simp [zeros]) (by rw [u8s_size, HL.out]; exact info72) (u8s_one _) rfl rfl rfl ?_
      intro wZ hZ hOZ hlZ
      try simp only [Act.put, List.setIfInBounds_toArray, List.set_cons_succ, List.set_cons_zero]
      refine takeL (.int .i64 0) rfl (by go_simp) ?_
      try simp only [Act.put, List.setIfInBounds_toArray, List.set_cons_succ, List.set_cons_zero]
      have HF := Lib.hid (HE8.out.bel.trans (hOZ.below HE8.out.bel.size (fun k hk => by have := HE8.out.g0; have := HE8.out.gr; omega)))
      refine wpList_nil ?_
      go_wp2_with fail
      refine bodyPost_ret (v := .tuple #[.agg (u8s (b.enc n)).toArray, .int .i64 0]) (results_cell_tmp rfl _ _ r 0 _ _ _ rfl rfl Tryz.underlying72 rfl (by rw [u8s_size, HL.out]; exact info72) ?_) rfl ⟨rfl, HF.out⟩
      exact Blk.all (cs := (u8s (b.enc n)).toArray) hZ rfl
theorem rencode_any (b : Bk) (sv : Value) (n : Int) (w : World) (hs : BytesAt w sv b.bytes) (hw : b.Wf) (hn : 0 ≤ n ∧ n < 4294967296) : Calls Tryz.prog 71 #[.agg (b.arr sv), .int .u32 n] w fun e w' => e = .returned (.tuple #[.agg (u8s (b.sec n)).toArray, .int .i64 b.err]) ∧ Below w.heap.size w w' := by
  unfold Bk.sec Bk.err
  cases hg : b.good
  · simp only [Bool.false_eq_true, if_false]
    exact rencode_no b sv n w hs hw hg
  · simp only [if_true]
    rcases (good_kind hg).1 with k | k | k
    · exact rencode_img b sv n w hs hw hg k hn
    · exact rencode_dlt b sv n w hs hw hg k hn
    · exact rencode_map b sv n w hs hw hg k hn

end Go.Proofs.YtmlniannilnmhaaGreatDoor
