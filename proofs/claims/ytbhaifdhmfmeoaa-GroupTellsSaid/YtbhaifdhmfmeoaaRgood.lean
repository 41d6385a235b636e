/- The statements' own answer: whether a block may be. -/
import Derived.Test.YtbhaifdhmfmeoaaDx
import Derived.Deep.Cut
import Derived.Deep.CutRange
namespace Go.Proofs.Ytbhaifdhmfmeoaa
set_option linter.unusedSimpArgs false
set_option linter.unusedVariables false
open Go.RowKit

theorem plain_iff (b : Bk) : b.plain = (decide (b.off = 0) && decide (b.bytes.length = 0) && decide (b.prev = 0)) := rfl
theorem good1_iff {b : Bk} (k : b.kind = 1) : b.good = true ↔ 0 ≤ b.id ∧ b.id < 64 ∧ b.plain = true ∧ decide (b.heads = zeros 8) = true := by
  simp only [Bk.good, k, if_true, within, Bool.and_eq_true, decide_eq_true_eq]
  constructor
  · rintro ⟨⟨⟨h1, h2⟩, h3⟩, h4⟩
    exact ⟨h1, by omega, h3, h4⟩
  · rintro ⟨h1, h2, h3, h4⟩
    exact ⟨⟨⟨h1, by omega⟩, h3⟩, h4⟩
theorem good2_iff {b : Bk} (k : b.kind = 2) : b.good = true ↔ 0 ≤ b.id ∧ b.id < 64 ∧ decide (b.page = zeros 32) = true ∧ decide (b.heads = zeros 8) = true ∧ 0 ≤ b.off ∧ b.off < 32 ∧ (1 : Int) ≤ b.bytes.length ∧ (b.bytes.length : Int) ≤ 16 ∧ (b.bytes.length : Int) ≤ 32 - b.off ∧ b.prev ≠ 0 ∧ isHead b.prev = true := by
  simp only [Bk.good, k, Bk.diff, within, Bool.and_eq_true, decide_eq_true_eq, if_true, show ¬ (2 : Int) = 1 by decide, if_false]
  constructor
  · rintro ⟨⟨⟨⟨h1, h2⟩, ⟨⟨⟨h3, h4⟩, ⟨h5, h6⟩⟩, h7⟩, h8⟩, h9⟩, h10⟩
    exact ⟨h1, by omega, h9, h10, h5, by omega, h3, h4, by omega, h8, h7⟩
  · rintro ⟨h1, h2, h9, h10, h5, _, h3, h4, h6, h8, h7⟩
    exact ⟨⟨⟨⟨h1, by omega⟩, ⟨⟨⟨h3, h4⟩, ⟨h5, by omega⟩⟩, h7⟩, h8⟩, h9⟩, h10⟩
theorem good3_iff {b : Bk} (k : b.kind = 3) : b.good = true ↔ b.heads.all isHead = true ∧ 0 ≤ b.id ∧ b.id < 8 ∧ b.plain = true ∧ decide (b.page = zeros 32) = true := by
  simp only [Bk.good, k, within, Bool.and_eq_true, decide_eq_true_eq, if_true, show ¬ (3 : Int) = 1 by decide, show ¬ (3 : Int) = 2 by decide, if_false]
  constructor
  · rintro ⟨⟨⟨⟨h1, h2⟩, h3⟩, h4⟩, h5⟩
    exact ⟨h3, h1, by omega, h4, h5⟩
  · rintro ⟨h3, h1, h2, h4, h5⟩
    exact ⟨⟨⟨⟨h1, by omega⟩, h3⟩, h4⟩, h5⟩
theorem good_other {b : Bk} (k1 : b.kind ≠ 1) (k2 : b.kind ≠ 2) (k3 : b.kind ≠ 3) : b.good = false := by simp [Bk.good, k1, k2, k3]
theorem false_eq {b : Bk} (h : b.good = true → False) : false = b.good := by
  cases hg : b.good with
  | false => rfl
  | true => exact (h hg).elim
theorem eq_last {b : Bk} {q : Bool} (h : b.good = true ↔ q = true) : q = b.good := by
  cases hq : q <;> cases hg : b.good <;> simp_all

set_option maxHeartbeats 4000000 in
set_option maxRecDepth 100000 in
theorem rgood_1 (b : Bk) (sv : Value) (hs : Len sv b.bytes.length) (hw : b.Wf) (hk : b.kind = 1) (w : World) : Calls Try.prog 42 #[.agg (b.arr sv)] w fun e w' => e = .returned (.bool b.good) ∧ Below w.heap.size w w' := by
  have HK := Lib.hid hk
  clear hk
  have HWb := Lib.hid hw
  have HZ := Lib.hid (b.arr_size hw sv)
  have HPS : (u8s b.page).toArray.size = 32 := by simpa using hw.page
  have HHS : (i64s b.heads).toArray.size = 8 := by simpa using hw.heads
  have HPS := Lib.hid HPS
  have HHS := Lib.hid HHS
  have HE := Lib.hid fun w => eql55 w b.heads (zeros 8) hw.heads (zeros_length 8)
  have HP := Lib.hid fun w => eql53 w b.page (zeros 32) hw.page (zeros_length 32)
  have HHD := Lib.hid fun w => rhead_any b.prev w
  have hlen := hw.bytes
  obtain ⟨ab, capb, hsvb⟩ := hs
  have HSVb := Lib.hid hsvb
  clear hsvb hw
  go_enter Try.func42, Try.ntmps42
  repeat (first | (with_reducible refine stopR (id := 0) ?_) | go_values | go_skip | go_guarded | go_step | go_upon | go_back)
  refine Stop.mk (wp_region_lit ?_)
  refine box_g rfl rfl ?_
  intro w1 hA hb hl
  try simp only [Act.put, List.setIfInBounds_toArray, List.set_cons_succ, List.set_cons_zero]
  have HA : Hid (BAt w1 w.heap.size b sv) := Lib.hid ⟨hA, HWb.out⟩
  have HB := Lib.hid hb
  clear hA hb hl
  refine takeL (.bool false) rfl (by go_simp) ?_
  try simp only [Act.put, List.setIfInBounds_toArray, List.set_cons_succ, List.set_cons_zero]
  refine wpList_nil ?_
  go_upto_region 1 with fail
  go_cut [3] from 6 to 20 (fun s3 wx => s3 = .bool b.plain ∧ w1 = wx)
  case first =>
    have c34 := HA.out.c34
    have c35 := HA.out.c35.trans (congrArg some HSVb.out)
    have c36 := HA.out.c36
    by_cases h1 : b.off = 0 <;> by_cases h2 : b.bytes.length = 0
    all_goals
      go_wp2_with fail
      go_meet
      exact ⟨congrArg Value.bool (by simp [plain_iff, h1, h2, beq_dec]), rfl⟩
  case rest =>
  obtain ⟨rfl, rfl⟩ := hcut
  have HPL := Lib.hid (show b.plain = b.plain from rfl)

  obtain ⟨q3, hq3⟩ : ∃ q, b.plain = q := ⟨_, rfl⟩
  obtain ⟨q4, hq4⟩ : ∃ q, decide (b.heads = zeros 8) = q := ⟨_, rfl⟩
  obtain ⟨qp, hqp⟩ : ∃ q, decide (b.page = zeros 32) = q := ⟨_, rfl⟩
  rw [hq3]
  rw [hq4] at HE
  rw [hqp] at HP
  have HQ3 := Lib.hid hq3
  have HQ4 := Lib.hid hq4
  have HQP := Lib.hid hqp
  clear hq3 hq4 hqp
  repeat (first | (with_reducible refine stopR (id := 2) ?_) | go_values | go_skip | go_guarded | go_step | go_upon | go_back)
  refine Stop.mk (wp_region_lit ?_)
  refine takeL (.pointer (some ⟨w.heap.size, 37, none⟩)) rfl (by go_simp) ?_
  try simp only [Act.put, List.setIfInBounds_toArray, List.set_cons_succ, List.set_cons_zero]
  refine load55 (cs := (i64s b.heads).toArray) HA.out.heads HHS.out rfl rfl ?_
  try simp only [Act.put, List.setIfInBounds_toArray, List.set_cons_succ, List.set_cons_zero]
  refine build_g (build55 _) rfl ?_
  try simp only [Act.put, List.setIfInBounds_toArray, List.set_cons_succ, List.set_cons_zero]
  refine takeL (.bool q4) rfl (by have he := HE.out; go_simp) ?_
  try simp only [Act.put, List.setIfInBounds_toArray, List.set_cons_succ, List.set_cons_zero]
  refine takeL (.bool q4) rfl (by go_simp) ?_
  try simp only [Act.put, List.setIfInBounds_toArray, List.set_cons_succ, List.set_cons_zero]
  refine wpList_nil ?_
  have c0 := HA.out.c0
  rw [HK.out] at c0
  repeat (first | (with_reducible refine stopR (id := 5) ?_) | go_values | go_skip | go_guarded | go_step | go_upon | go_back)
  refine Stop.mk (wp_region_lit ?_)
  refine takeL (.pointer (some ⟨w.heap.size, 1, none⟩)) rfl (by go_simp) ?_
  try simp only [Act.put, List.setIfInBounds_toArray, List.set_cons_succ, List.set_cons_zero]
  refine takeL (.int .i64 b.id) rfl (by have hq := HA.out.c1; go_simp) ?_
  try simp only [Act.put, List.setIfInBounds_toArray, List.set_cons_succ, List.set_cons_zero]
  by_cases h1 : 0 ≤ b.id
  case neg =>
    refine takeL (.bool false) rfl (by go_simp) ?_
    try simp only [Act.put, List.setIfInBounds_toArray, List.set_cons_succ, List.set_cons_zero]
    go_wp2_with fail
    go_ret
    exact ⟨ret_bool (false_eq fun hg => by have hi := (good1_iff HK.out).1 hg; have e3 := HQ3.out; have e4 := HQ4.out; have ep := HQP.out; simp only [e3, e4, ep] at hi; first | (simp at hi; done) | omega | simp_all), HB.out⟩
  refine takeL (.bool true) rfl (by go_simp) ?_
  try simp only [Act.put, List.setIfInBounds_toArray, List.set_cons_succ, List.set_cons_zero]
  refine takeL (.bool true) rfl (by go_simp) ?_
  try simp only [Act.put, List.setIfInBounds_toArray, List.set_cons_succ, List.set_cons_zero]
  refine takeL (.pointer (some ⟨w.heap.size, 1, none⟩)) rfl (by go_simp) ?_
  try simp only [Act.put, List.setIfInBounds_toArray, List.set_cons_succ, List.set_cons_zero]
  refine takeL (.int .i64 b.id) rfl (by have hq := HA.out.c1; go_simp) ?_
  try simp only [Act.put, List.setIfInBounds_toArray, List.set_cons_succ, List.set_cons_zero]
  by_cases h2 : b.id < 64
  case neg =>
    refine takeL (.bool false) rfl (by go_simp) ?_
    try simp only [Act.put, List.setIfInBounds_toArray, List.set_cons_succ, List.set_cons_zero]
    go_wp2_with fail
    go_ret
    exact ⟨ret_bool (false_eq fun hg => by have hi := (good1_iff HK.out).1 hg; have e3 := HQ3.out; have e4 := HQ4.out; have ep := HQP.out; simp only [e3, e4, ep] at hi; first | (simp at hi; done) | omega | simp_all), HB.out⟩
  refine takeL (.bool true) rfl (by go_simp) ?_
  try simp only [Act.put, List.setIfInBounds_toArray, List.set_cons_succ, List.set_cons_zero]
  refine takeL (.bool true) rfl (by go_simp) ?_
  try simp only [Act.put, List.setIfInBounds_toArray, List.set_cons_succ, List.set_cons_zero]
  refine takeL (.bool true) rfl (by go_simp) ?_
  try simp only [Act.put, List.setIfInBounds_toArray, List.set_cons_succ, List.set_cons_zero]
  cases q3
  case false =>
    refine takeL (.bool false) rfl (by go_simp) ?_
    try simp only [Act.put, List.setIfInBounds_toArray, List.set_cons_succ, List.set_cons_zero]
    go_wp2_with fail
    go_ret
    exact ⟨ret_bool (false_eq fun hg => by have hi := (good1_iff HK.out).1 hg; have e3 := HQ3.out; have e4 := HQ4.out; have ep := HQP.out; simp only [e3, e4, ep] at hi; first | (simp at hi; done) | omega | simp_all), HB.out⟩
  refine takeL (.bool true) rfl (by go_simp) ?_
  try simp only [Act.put, List.setIfInBounds_toArray, List.set_cons_succ, List.set_cons_zero]
  refine takeL (.bool true) rfl (by go_simp) ?_
  try simp only [Act.put, List.setIfInBounds_toArray, List.set_cons_succ, List.set_cons_zero]
  refine takeL (.bool true) rfl (by go_simp) ?_
  try simp only [Act.put, List.setIfInBounds_toArray, List.set_cons_succ, List.set_cons_zero]
  refine takeL (.bool q4) rfl (by go_simp) ?_
  try simp only [Act.put, List.setIfInBounds_toArray, List.set_cons_succ, List.set_cons_zero]
  refine takeL (.bool q4) rfl (by go_simp) ?_
  try simp only [Act.put, List.setIfInBounds_toArray, List.set_cons_succ, List.set_cons_zero]
  refine takeL (.bool q4) rfl (by go_simp) ?_
  try simp only [Act.put, List.setIfInBounds_toArray, List.set_cons_succ, List.set_cons_zero]
  refine wpList_nil ?_
  go_wp2_with fail
  go_ret
  exact ⟨ret_bool (eq_last (by rw [good1_iff HK.out, HQ3.out, HQ4.out]; simp [h1, h2])), HB.out⟩
set_option maxHeartbeats 4000000 in
set_option maxRecDepth 100000 in
theorem rgood_2 (b : Bk) (sv : Value) (hs : Len sv b.bytes.length) (hw : b.Wf) (hk : b.kind = 2) (w : World) : Calls Try.prog 42 #[.agg (b.arr sv)] w fun e w' => e = .returned (.bool b.good) ∧ Below w.heap.size w w' := by
  have HK := Lib.hid hk
  clear hk
  have HWb := Lib.hid hw
  have HZ := Lib.hid (b.arr_size hw sv)
  have HPS : (u8s b.page).toArray.size = 32 := by simpa using hw.page
  have HHS : (i64s b.heads).toArray.size = 8 := by simpa using hw.heads
  have HPS := Lib.hid HPS
  have HHS := Lib.hid HHS
  have HE := Lib.hid fun w => eql55 w b.heads (zeros 8) hw.heads (zeros_length 8)
  have HP := Lib.hid fun w => eql53 w b.page (zeros 32) hw.page (zeros_length 32)
  have HHD := Lib.hid fun w => rhead_any b.prev w
  have hlen := hw.bytes
  obtain ⟨ab, capb, hsvb⟩ := hs
  have HSVb := Lib.hid hsvb
  clear hsvb hw
  go_enter Try.func42, Try.ntmps42
  repeat (first | (with_reducible refine stopR (id := 0) ?_) | go_values | go_skip | go_guarded | go_step | go_upon | go_back)
  refine Stop.mk (wp_region_lit ?_)
  refine box_g rfl rfl ?_
  intro w1 hA hb hl
  try simp only [Act.put, List.setIfInBounds_toArray, List.set_cons_succ, List.set_cons_zero]
  have HA : Hid (BAt w1 w.heap.size b sv) := Lib.hid ⟨hA, HWb.out⟩
  have HB := Lib.hid hb
  clear hA hb hl
  refine takeL (.bool false) rfl (by go_simp) ?_
  try simp only [Act.put, List.setIfInBounds_toArray, List.set_cons_succ, List.set_cons_zero]
  refine wpList_nil ?_
  go_upto_region 1 with fail
  go_cut [3] from 6 to 20 (fun s3 wx => s3 = .bool b.plain ∧ w1 = wx)
  case first =>
    have c34 := HA.out.c34
    have c35 := HA.out.c35.trans (congrArg some HSVb.out)
    have c36 := HA.out.c36
    by_cases h1 : b.off = 0 <;> by_cases h2 : b.bytes.length = 0
    all_goals
      go_wp2_with fail
      go_meet
      exact ⟨congrArg Value.bool (by simp [plain_iff, h1, h2, beq_dec]), rfl⟩
  case rest =>
  obtain ⟨rfl, rfl⟩ := hcut
  have HPL := Lib.hid (show b.plain = b.plain from rfl)

  obtain ⟨q3, hq3⟩ : ∃ q, b.plain = q := ⟨_, rfl⟩
  obtain ⟨q4, hq4⟩ : ∃ q, decide (b.heads = zeros 8) = q := ⟨_, rfl⟩
  obtain ⟨qp, hqp⟩ : ∃ q, decide (b.page = zeros 32) = q := ⟨_, rfl⟩
  rw [hq3]
  rw [hq4] at HE
  rw [hqp] at HP
  have HQ3 := Lib.hid hq3
  have HQ4 := Lib.hid hq4
  have HQP := Lib.hid hqp
  clear hq3 hq4 hqp
  repeat (first | (with_reducible refine stopR (id := 2) ?_) | go_values | go_skip | go_guarded | go_step | go_upon | go_back)
  refine Stop.mk (wp_region_lit ?_)
  refine takeL (.pointer (some ⟨w.heap.size, 37, none⟩)) rfl (by go_simp) ?_
  try simp only [Act.put, List.setIfInBounds_toArray, List.set_cons_succ, List.set_cons_zero]
  refine load55 (cs := (i64s b.heads).toArray) HA.out.heads HHS.out rfl rfl ?_
  try simp only [Act.put, List.setIfInBounds_toArray, List.set_cons_succ, List.set_cons_zero]
  refine build_g (build55 _) rfl ?_
  try simp only [Act.put, List.setIfInBounds_toArray, List.set_cons_succ, List.set_cons_zero]
  refine takeL (.bool q4) rfl (by have he := HE.out; go_simp) ?_
  try simp only [Act.put, List.setIfInBounds_toArray, List.set_cons_succ, List.set_cons_zero]
  refine takeL (.bool q4) rfl (by go_simp) ?_
  try simp only [Act.put, List.setIfInBounds_toArray, List.set_cons_succ, List.set_cons_zero]
  refine wpList_nil ?_
  have c0 := HA.out.c0
  rw [HK.out] at c0
  repeat (first | (with_reducible refine stopR (id := 7) ?_) | go_values | go_skip | go_guarded | go_step | go_upon | go_back)
  refine Stop.mk (wp_region_lit ?_)
  refine takeL (.pointer (some ⟨w.heap.size, 1, none⟩)) rfl (by go_simp) ?_
  try simp only [Act.put, List.setIfInBounds_toArray, List.set_cons_succ, List.set_cons_zero]
  refine takeL (.int .i64 b.id) rfl (by have hq := HA.out.c1; go_simp) ?_
  try simp only [Act.put, List.setIfInBounds_toArray, List.set_cons_succ, List.set_cons_zero]
  by_cases h1 : 0 ≤ b.id
  case neg =>
    refine takeL (.bool false) rfl (by go_simp) ?_
    try simp only [Act.put, List.setIfInBounds_toArray, List.set_cons_succ, List.set_cons_zero]
    go_wp2_with fail
    go_ret
    exact ⟨ret_bool (false_eq fun hg => by have hi := (good2_iff HK.out).1 hg; have e3 := HQ3.out; have e4 := HQ4.out; have ep := HQP.out; simp only [e3, e4, ep] at hi; first | (simp at hi; done) | omega | simp_all), HB.out⟩
  refine takeL (.bool true) rfl (by go_simp) ?_
  try simp only [Act.put, List.setIfInBounds_toArray, List.set_cons_succ, List.set_cons_zero]
  refine takeL (.bool true) rfl (by go_simp) ?_
  try simp only [Act.put, List.setIfInBounds_toArray, List.set_cons_succ, List.set_cons_zero]
  refine takeL (.pointer (some ⟨w.heap.size, 1, none⟩)) rfl (by go_simp) ?_
  try simp only [Act.put, List.setIfInBounds_toArray, List.set_cons_succ, List.set_cons_zero]
  refine takeL (.int .i64 b.id) rfl (by have hq := HA.out.c1; go_simp) ?_
  try simp only [Act.put, List.setIfInBounds_toArray, List.set_cons_succ, List.set_cons_zero]
  by_cases h2 : b.id < 64
  case neg =>
    refine takeL (.bool false) rfl (by go_simp) ?_
    try simp only [Act.put, List.setIfInBounds_toArray, List.set_cons_succ, List.set_cons_zero]
    go_wp2_with fail
    go_ret
    exact ⟨ret_bool (false_eq fun hg => by have hi := (good2_iff HK.out).1 hg; have e3 := HQ3.out; have e4 := HQ4.out; have ep := HQP.out; simp only [e3, e4, ep] at hi; first | (simp at hi; done) | omega | simp_all), HB.out⟩
  refine takeL (.bool true) rfl (by go_simp) ?_
  try simp only [Act.put, List.setIfInBounds_toArray, List.set_cons_succ, List.set_cons_zero]
  refine takeL (.bool true) rfl (by go_simp) ?_
  try simp only [Act.put, List.setIfInBounds_toArray, List.set_cons_succ, List.set_cons_zero]
  refine takeL (.bool true) rfl (by go_simp) ?_
  try simp only [Act.put, List.setIfInBounds_toArray, List.set_cons_succ, List.set_cons_zero]
  refine takeL (.pointer (some ⟨w.heap.size, 2, none⟩)) rfl (by go_simp) ?_
  try simp only [Act.put, List.setIfInBounds_toArray, List.set_cons_succ, List.set_cons_zero]
  refine load53 (cs := (u8s b.page).toArray) HA.out.page HPS.out rfl rfl ?_
  try simp only [Act.put, List.setIfInBounds_toArray, List.set_cons_succ, List.set_cons_zero]
  refine build_g (build53 _) rfl ?_
  try simp only [Act.put, List.setIfInBounds_toArray, List.set_cons_succ, List.set_cons_zero]
  refine takeL (.bool qp) rfl (by have he := HP.out; go_simp) ?_
  try simp only [Act.put, List.setIfInBounds_toArray, List.set_cons_succ, List.set_cons_zero]
  refine takeL (.bool qp) rfl (by go_simp) ?_
  try simp only [Act.put, List.setIfInBounds_toArray, List.set_cons_succ, List.set_cons_zero]
  cases qp
  case false =>
    refine takeL (.bool false) rfl (by go_simp) ?_
    try simp only [Act.put, List.setIfInBounds_toArray, List.set_cons_succ, List.set_cons_zero]
    go_wp2_with fail
    go_ret
    exact ⟨ret_bool (false_eq fun hg => by have hi := (good2_iff HK.out).1 hg; have e3 := HQ3.out; have e4 := HQ4.out; have ep := HQP.out; simp only [e3, e4, ep] at hi; first | (simp at hi; done) | omega | simp_all), HB.out⟩
  refine takeL (.bool true) rfl (by go_simp) ?_
  try simp only [Act.put, List.setIfInBounds_toArray, List.set_cons_succ, List.set_cons_zero]
  cases q4
  case false =>
    refine takeL (.bool false) rfl (by go_simp) ?_
    try simp only [Act.put, List.setIfInBounds_toArray, List.set_cons_succ, List.set_cons_zero]
    go_wp2_with fail
    go_ret
    exact ⟨ret_bool (false_eq fun hg => by have hi := (good2_iff HK.out).1 hg; have e3 := HQ3.out; have e4 := HQ4.out; have ep := HQP.out; simp only [e3, e4, ep] at hi; first | (simp at hi; done) | omega | simp_all), HB.out⟩
  refine takeL (.bool true) rfl (by go_simp) ?_
  try simp only [Act.put, List.setIfInBounds_toArray, List.set_cons_succ, List.set_cons_zero]
  refine takeL (.bool true) rfl (by go_simp) ?_
  try simp only [Act.put, List.setIfInBounds_toArray, List.set_cons_succ, List.set_cons_zero]
  refine takeL (.bool true) rfl (by go_simp) ?_
  try simp only [Act.put, List.setIfInBounds_toArray, List.set_cons_succ, List.set_cons_zero]
  refine takeL (.pointer (some ⟨w.heap.size, 34, none⟩)) rfl (by go_simp) ?_
  try simp only [Act.put, List.setIfInBounds_toArray, List.set_cons_succ, List.set_cons_zero]
  refine takeL (.int .i64 b.off) rfl (by have hq := HA.out.c34; go_simp) ?_
  try simp only [Act.put, List.setIfInBounds_toArray, List.set_cons_succ, List.set_cons_zero]
  by_cases h3 : 0 ≤ b.off
  case neg =>
    refine takeL (.bool false) rfl (by go_simp) ?_
    try simp only [Act.put, List.setIfInBounds_toArray, List.set_cons_succ, List.set_cons_zero]
    go_wp2_with fail
    go_ret
    exact ⟨ret_bool (false_eq fun hg => by have hi := (good2_iff HK.out).1 hg; have e3 := HQ3.out; have e4 := HQ4.out; have ep := HQP.out; simp only [e3, e4, ep] at hi; first | (simp at hi; done) | omega | simp_all), HB.out⟩
  refine takeL (.bool true) rfl (by go_simp) ?_
  try simp only [Act.put, List.setIfInBounds_toArray, List.set_cons_succ, List.set_cons_zero]
  refine takeL (.bool true) rfl (by go_simp) ?_
  try simp only [Act.put, List.setIfInBounds_toArray, List.set_cons_succ, List.set_cons_zero]
  refine takeL (.bool true) rfl (by go_simp) ?_
  try simp only [Act.put, List.setIfInBounds_toArray, List.set_cons_succ, List.set_cons_zero]
  refine takeL (.pointer (some ⟨w.heap.size, 34, none⟩)) rfl (by go_simp) ?_
  try simp only [Act.put, List.setIfInBounds_toArray, List.set_cons_succ, List.set_cons_zero]
  refine takeL (.int .i64 b.off) rfl (by have hq := HA.out.c34; go_simp) ?_
  try simp only [Act.put, List.setIfInBounds_toArray, List.set_cons_succ, List.set_cons_zero]
  by_cases h4 : b.off < 32
  case neg =>
    refine takeL (.bool false) rfl (by go_simp) ?_
    try simp only [Act.put, List.setIfInBounds_toArray, List.set_cons_succ, List.set_cons_zero]
    go_wp2_with fail
    go_ret
    exact ⟨ret_bool (false_eq fun hg => by have hi := (good2_iff HK.out).1 hg; have e3 := HQ3.out; have e4 := HQ4.out; have ep := HQP.out; simp only [e3, e4, ep] at hi; first | (simp at hi; done) | omega | simp_all), HB.out⟩
  refine takeL (.bool true) rfl (by go_simp) ?_
  try simp only [Act.put, List.setIfInBounds_toArray, List.set_cons_succ, List.set_cons_zero]
  refine takeL (.bool true) rfl (by go_simp) ?_
  try simp only [Act.put, List.setIfInBounds_toArray, List.set_cons_succ, List.set_cons_zero]
  refine takeL (.bool true) rfl (by go_simp) ?_
  try simp only [Act.put, List.setIfInBounds_toArray, List.set_cons_succ, List.set_cons_zero]
  refine takeL (.pointer (some ⟨w.heap.size, 35, none⟩)) rfl (by go_simp) ?_
  try simp only [Act.put, List.setIfInBounds_toArray, List.set_cons_succ, List.set_cons_zero]
  refine takeL (.slice ab b.bytes.length capb) rfl (by have hq := HA.out.c35.trans (congrArg some HSVb.out); go_simp) ?_
  try simp only [Act.put, List.setIfInBounds_toArray, List.set_cons_succ, List.set_cons_zero]
  refine takeL (.int .i64 (b.bytes.length)) rfl (by go_simp) ?_
  try simp only [Act.put, List.setIfInBounds_toArray, List.set_cons_succ, List.set_cons_zero]
  by_cases h5 : (1 : Int) ≤ b.bytes.length
  case neg =>
    refine takeL (.bool false) rfl (by go_simp) ?_
    try simp only [Act.put, List.setIfInBounds_toArray, List.set_cons_succ, List.set_cons_zero]
    go_wp2_with fail
    go_ret
    exact ⟨ret_bool (false_eq fun hg => by have hi := (good2_iff HK.out).1 hg; have e3 := HQ3.out; have e4 := HQ4.out; have ep := HQP.out; simp only [e3, e4, ep] at hi; first | (simp at hi; done) | omega | simp_all), HB.out⟩
  refine takeL (.bool true) rfl (by go_simp) ?_
  try simp only [Act.put, List.setIfInBounds_toArray, List.set_cons_succ, List.set_cons_zero]
  refine takeL (.bool true) rfl (by go_simp) ?_
  try simp only [Act.put, List.setIfInBounds_toArray, List.set_cons_succ, List.set_cons_zero]
  refine takeL (.bool true) rfl (by go_simp) ?_
  try simp only [Act.put, List.setIfInBounds_toArray, List.set_cons_succ, List.set_cons_zero]
  refine takeL (.pointer (some ⟨w.heap.size, 35, none⟩)) rfl (by go_simp) ?_
  try simp only [Act.put, List.setIfInBounds_toArray, List.set_cons_succ, List.set_cons_zero]
  refine takeL (.slice ab b.bytes.length capb) rfl (by have hq := HA.out.c35.trans (congrArg some HSVb.out); go_simp) ?_
  try simp only [Act.put, List.setIfInBounds_toArray, List.set_cons_succ, List.set_cons_zero]
  refine takeL (.int .i64 (b.bytes.length)) rfl (by go_simp) ?_
  try simp only [Act.put, List.setIfInBounds_toArray, List.set_cons_succ, List.set_cons_zero]
  by_cases h6 : (b.bytes.length : Int) ≤ 16
  case neg =>
    refine takeL (.bool false) rfl (by go_simp) ?_
    try simp only [Act.put, List.setIfInBounds_toArray, List.set_cons_succ, List.set_cons_zero]
    go_wp2_with fail
    go_ret
    exact ⟨ret_bool (false_eq fun hg => by have hi := (good2_iff HK.out).1 hg; have e3 := HQ3.out; have e4 := HQ4.out; have ep := HQP.out; simp only [e3, e4, ep] at hi; first | (simp at hi; done) | omega | simp_all), HB.out⟩
  refine takeL (.bool true) rfl (by go_simp) ?_
  try simp only [Act.put, List.setIfInBounds_toArray, List.set_cons_succ, List.set_cons_zero]
  refine takeL (.bool true) rfl (by go_simp) ?_
  try simp only [Act.put, List.setIfInBounds_toArray, List.set_cons_succ, List.set_cons_zero]
  refine takeL (.bool true) rfl (by go_simp) ?_
  try simp only [Act.put, List.setIfInBounds_toArray, List.set_cons_succ, List.set_cons_zero]
  refine takeL (.pointer (some ⟨w.heap.size, 35, none⟩)) rfl (by go_simp) ?_
  try simp only [Act.put, List.setIfInBounds_toArray, List.set_cons_succ, List.set_cons_zero]
  refine takeL (.slice ab b.bytes.length capb) rfl (by have hq := HA.out.c35.trans (congrArg some HSVb.out); go_simp) ?_
  try simp only [Act.put, List.setIfInBounds_toArray, List.set_cons_succ, List.set_cons_zero]
  refine takeL (.int .i64 (b.bytes.length)) rfl (by go_simp) ?_
  try simp only [Act.put, List.setIfInBounds_toArray, List.set_cons_succ, List.set_cons_zero]
  refine takeL (.pointer (some ⟨w.heap.size, 34, none⟩)) rfl (by go_simp) ?_
  try simp only [Act.put, List.setIfInBounds_toArray, List.set_cons_succ, List.set_cons_zero]
  refine takeL (.int .i64 b.off) rfl (by have hq := HA.out.c34; go_simp) ?_
  try simp only [Act.put, List.setIfInBounds_toArray, List.set_cons_succ, List.set_cons_zero]
  refine takeL (.int .i64 (32 - b.off)) rfl (by go_simp; exact wrap64 (by omega) (by omega)) ?_
  try simp only [Act.put, List.setIfInBounds_toArray, List.set_cons_succ, List.set_cons_zero]
  by_cases h7 : (b.bytes.length : Int) ≤ 32 - b.off
  case neg =>
    refine takeL (.bool false) rfl (by go_simp) ?_
    try simp only [Act.put, List.setIfInBounds_toArray, List.set_cons_succ, List.set_cons_zero]
    go_wp2_with fail
    go_ret
    exact ⟨ret_bool (false_eq fun hg => by have hi := (good2_iff HK.out).1 hg; have e3 := HQ3.out; have e4 := HQ4.out; have ep := HQP.out; simp only [e3, e4, ep] at hi; first | (simp at hi; done) | omega | simp_all), HB.out⟩
  refine takeL (.bool true) rfl (by go_simp) ?_
  try simp only [Act.put, List.setIfInBounds_toArray, List.set_cons_succ, List.set_cons_zero]
  refine takeL (.bool true) rfl (by go_simp) ?_
  try simp only [Act.put, List.setIfInBounds_toArray, List.set_cons_succ, List.set_cons_zero]
  refine takeL (.bool true) rfl (by go_simp) ?_
  try simp only [Act.put, List.setIfInBounds_toArray, List.set_cons_succ, List.set_cons_zero]
  refine takeL (.pointer (some ⟨w.heap.size, 36, none⟩)) rfl (by go_simp) ?_
  try simp only [Act.put, List.setIfInBounds_toArray, List.set_cons_succ, List.set_cons_zero]
  refine takeL (.int .i64 b.prev) rfl (by have hq := HA.out.c36; go_simp) ?_
  try simp only [Act.put, List.setIfInBounds_toArray, List.set_cons_succ, List.set_cons_zero]
  by_cases h8 : b.prev ≠ 0
  case neg =>
    refine takeL (.bool false) rfl (by simp only [ne_eq, Decidable.not_not] at h8; go_simp) ?_
    try simp only [Act.put, List.setIfInBounds_toArray, List.set_cons_succ, List.set_cons_zero]
    go_wp2_with fail
    go_ret
    exact ⟨ret_bool (false_eq fun hg => by have hi := (good2_iff HK.out).1 hg; have e3 := HQ3.out; have e4 := HQ4.out; have ep := HQP.out; simp only [e3, e4, ep] at hi; first | (simp at hi; done) | omega | simp_all), HB.out⟩
  refine takeL (.bool true) rfl (by go_simp) ?_
  try simp only [Act.put, List.setIfInBounds_toArray, List.set_cons_succ, List.set_cons_zero]
  refine takeL (.bool true) rfl (by go_simp) ?_
  try simp only [Act.put, List.setIfInBounds_toArray, List.set_cons_succ, List.set_cons_zero]
  refine takeL (.bool true) rfl (by go_simp) ?_
  try simp only [Act.put, List.setIfInBounds_toArray, List.set_cons_succ, List.set_cons_zero]
  refine takeL (.pointer (some ⟨w.heap.size, 36, none⟩)) rfl (by go_simp) ?_
  try simp only [Act.put, List.setIfInBounds_toArray, List.set_cons_succ, List.set_cons_zero]
  refine takeL (.int .i64 b.prev) rfl (by have hq := HA.out.c36; go_simp) ?_
  try simp only [Act.put, List.setIfInBounds_toArray, List.set_cons_succ, List.set_cons_zero]
  refine wpList_op rfl fun K hK => ?_
  go_simp
  refine (HHD.out _).mono ?_
  rintro e w11 ⟨rfl, rfl⟩
  refine hK _ _ ?_
  clear hK K
  try simp only [Act.put, List.setIfInBounds_toArray, List.set_cons_succ, List.set_cons_zero]
  refine takeL (.bool (isHead b.prev)) rfl (by go_simp) ?_
  try simp only [Act.put, List.setIfInBounds_toArray, List.set_cons_succ, List.set_cons_zero]
  refine takeL (.bool (isHead b.prev)) rfl (by go_simp) ?_
  try simp only [Act.put, List.setIfInBounds_toArray, List.set_cons_succ, List.set_cons_zero]
  refine wpList_nil ?_
  go_wp2_with fail
  go_ret
  exact ⟨ret_bool (eq_last (by rw [good2_iff HK.out, HQP.out, HQ4.out]; simp [h1, h2, h3, h4, h5, h6, h7, h8])), HB.out⟩
set_option maxHeartbeats 4000000 in
set_option maxRecDepth 100000 in
theorem rgood_3 (b : Bk) (sv : Value) (hs : Len sv b.bytes.length) (hw : b.Wf) (hk : b.kind = 3) (w : World) : Calls Try.prog 42 #[.agg (b.arr sv)] w fun e w' => e = .returned (.bool b.good) ∧ Below w.heap.size w w' := by
  have HK := Lib.hid hk
  clear hk
  have HWb := Lib.hid hw
  have HZ := Lib.hid (b.arr_size hw sv)
  have HPS : (u8s b.page).toArray.size = 32 := by simpa using hw.page
  have HHS : (i64s b.heads).toArray.size = 8 := by simpa using hw.heads
  have HPS := Lib.hid HPS
  have HHS := Lib.hid HHS
  have HE := Lib.hid fun w => eql55 w b.heads (zeros 8) hw.heads (zeros_length 8)
  have HP := Lib.hid fun w => eql53 w b.page (zeros 32) hw.page (zeros_length 32)
  have HHD := Lib.hid fun w => rhead_any b.prev w
  have hlen := hw.bytes
  obtain ⟨ab, capb, hsvb⟩ := hs
  have HSVb := Lib.hid hsvb
  clear hsvb hw
  go_enter Try.func42, Try.ntmps42
  repeat (first | (with_reducible refine stopR (id := 0) ?_) | go_values | go_skip | go_guarded | go_step | go_upon | go_back)
  refine Stop.mk (wp_region_lit ?_)
  refine box_g rfl rfl ?_
  intro w1 hA hb hl
  try simp only [Act.put, List.setIfInBounds_toArray, List.set_cons_succ, List.set_cons_zero]
  have HA : Hid (BAt w1 w.heap.size b sv) := Lib.hid ⟨hA, HWb.out⟩
  have HB := Lib.hid hb
  clear hA hb hl
  refine takeL (.bool false) rfl (by go_simp) ?_
  try simp only [Act.put, List.setIfInBounds_toArray, List.set_cons_succ, List.set_cons_zero]
  refine wpList_nil ?_
  go_upto_region 1 with fail
  go_cut [3] from 6 to 20 (fun s3 wx => s3 = .bool b.plain ∧ w1 = wx)
  case first =>
    have c34 := HA.out.c34
    have c35 := HA.out.c35.trans (congrArg some HSVb.out)
    have c36 := HA.out.c36
    by_cases h1 : b.off = 0 <;> by_cases h2 : b.bytes.length = 0
    all_goals
      go_wp2_with fail
      go_meet
      exact ⟨congrArg Value.bool (by simp [plain_iff, h1, h2, beq_dec]), rfl⟩
  case rest =>
  obtain ⟨rfl, rfl⟩ := hcut
  have HPL := Lib.hid (show b.plain = b.plain from rfl)

  obtain ⟨q3, hq3⟩ : ∃ q, b.plain = q := ⟨_, rfl⟩
  obtain ⟨q4, hq4⟩ : ∃ q, decide (b.heads = zeros 8) = q := ⟨_, rfl⟩
  obtain ⟨qp, hqp⟩ : ∃ q, decide (b.page = zeros 32) = q := ⟨_, rfl⟩
  rw [hq3]
  rw [hq4] at HE
  rw [hqp] at HP
  have HQ3 := Lib.hid hq3
  have HQ4 := Lib.hid hq4
  have HQP := Lib.hid hqp
  clear hq3 hq4 hqp
  repeat (first | (with_reducible refine stopR (id := 2) ?_) | go_values | go_skip | go_guarded | go_step | go_upon | go_back)
  refine Stop.mk (wp_region_lit ?_)
  refine takeL (.pointer (some ⟨w.heap.size, 37, none⟩)) rfl (by go_simp) ?_
  try simp only [Act.put, List.setIfInBounds_toArray, List.set_cons_succ, List.set_cons_zero]
  refine load55 (cs := (i64s b.heads).toArray) HA.out.heads HHS.out rfl rfl ?_
  try simp only [Act.put, List.setIfInBounds_toArray, List.set_cons_succ, List.set_cons_zero]
  refine build_g (build55 _) rfl ?_
  try simp only [Act.put, List.setIfInBounds_toArray, List.set_cons_succ, List.set_cons_zero]
  refine takeL (.bool q4) rfl (by have he := HE.out; go_simp) ?_
  try simp only [Act.put, List.setIfInBounds_toArray, List.set_cons_succ, List.set_cons_zero]
  refine takeL (.bool q4) rfl (by go_simp) ?_
  try simp only [Act.put, List.setIfInBounds_toArray, List.set_cons_succ, List.set_cons_zero]
  refine wpList_nil ?_
  have c0 := HA.out.c0
  rw [HK.out] at c0
  have HHL : Hid (b.heads.length = 8) := Lib.hid HWb.out.heads
  go_wp2_with fail
  go_loopg [5] 8 (fun q i wr => ∃ k : Nat, 8 - k ≤ q ∧ k ≤ 8 ∧ i = .int .i64 k ∧ (∀ x ∈ b.heads.take k, isHead x = true) ∧ w1 = wr)
  case atStart => exact ⟨0, by omega, by omega, rfl, by simp, rfl⟩
  case round =>
    obtain ⟨k, hg, hk, rfl, hall, rfl⟩ := hrel
    have HALL := Lib.hid hall
    clear hall
    by_cases hlt : k < 8
    · obtain ⟨x, hx⟩ : ∃ x, b.heads[k]? = some x := ⟨_, List.getElem?_eq_getElem (by rw [HHL.out]; exact hlt)⟩
      have hcell : w1.cell? ⟨w.heap.size, 37 + k, none⟩ = some (.int .i64 x) := HA.out.blk.cell (by rw [b.atH HWb.out sv k, List.getElem?_map, hx]; rfl)
      have HX := Lib.hid hx
      have HH1 := Lib.hid fun w => rhead_any x w
      clear hx
      cases hh : isHead x
      · rw [hh] at HH1
        go_wp2_with fail
        refine (HH1.out _).mono ?_
        rintro e w2 ⟨rfl, rfl⟩
        go_wp2_with fail
        go_ret
        exact ⟨ret_bool (false_eq fun hg => by
          have hi := ((good3_iff HK.out).1 hg).1
          have := List.all_eq_true.1 hi x (List.mem_of_getElem? HX.out)
          rw [hh] at this
          cases this), HB.out⟩
      · rw [hh] at HH1
        go_wp2_with fail
        refine (HH1.out _).mono ?_
        rintro e w2 ⟨rfl, rfl⟩
        go_wp2_with fail
        go_roundg (8 - (k + 1))
        case measure => omega
        case rel =>
          refine ⟨k + 1, by omega, by omega, by go_num, ?_, rfl⟩
          intro y hy
          rw [List.take_add_one, HX.out] at hy
          rcases List.mem_append.1 hy with hy | hy
          · exact HALL.out y hy
          · simp at hy
            rw [hy]
            exact hh
    · have HAL : Hid (b.heads.all isHead = true) := Lib.hid (by
        have h := HALL.out
        rw [List.take_of_length_le (by rw [HHL.out]; omega)] at h
        exact List.all_eq_true.2 h)
      have hk8 : k = 8 := by omega
      clear HALL
      subst hk8
      repeat (first | (with_reducible refine stopR (id := 14) ?_) | go_values | go_skip | go_guarded | go_step | go_upon | go_back)
      refine Stop.mk (wp_region_lit ?_)
      refine takeL (.pointer (some ⟨w.heap.size, 1, none⟩)) rfl (by go_simp) ?_
      try simp only [Act.put, List.setIfInBounds_toArray, List.set_cons_succ, List.set_cons_zero]
      refine takeL (.int .i64 b.id) rfl (by have hq := HA.out.c1; go_simp) ?_
      try simp only [Act.put, List.setIfInBounds_toArray, List.set_cons_succ, List.set_cons_zero]
      by_cases h1 : 0 ≤ b.id
      case neg =>
        refine takeL (.bool false) rfl (by go_simp) ?_
        try simp only [Act.put, List.setIfInBounds_toArray, List.set_cons_succ, List.set_cons_zero]
        go_wp2_with fail
        go_ret
        exact ⟨ret_bool (false_eq fun hg => by have hi := (good3_iff HK.out).1 hg; have e3 := HQ3.out; have e4 := HQ4.out; have ep := HQP.out; simp only [e3, e4, ep] at hi; first | (simp at hi; done) | omega | simp_all), HB.out⟩
      refine takeL (.bool true) rfl (by go_simp) ?_
      try simp only [Act.put, List.setIfInBounds_toArray, List.set_cons_succ, List.set_cons_zero]
      refine takeL (.bool true) rfl (by go_simp) ?_
      try simp only [Act.put, List.setIfInBounds_toArray, List.set_cons_succ, List.set_cons_zero]
      refine takeL (.pointer (some ⟨w.heap.size, 1, none⟩)) rfl (by go_simp) ?_
      try simp only [Act.put, List.setIfInBounds_toArray, List.set_cons_succ, List.set_cons_zero]
      refine takeL (.int .i64 b.id) rfl (by have hq := HA.out.c1; go_simp) ?_
      try simp only [Act.put, List.setIfInBounds_toArray, List.set_cons_succ, List.set_cons_zero]
      by_cases h2 : b.id < 8
      case neg =>
        refine takeL (.bool false) rfl (by go_simp) ?_
        try simp only [Act.put, List.setIfInBounds_toArray, List.set_cons_succ, List.set_cons_zero]
        go_wp2_with fail
        go_ret
        exact ⟨ret_bool (false_eq fun hg => by have hi := (good3_iff HK.out).1 hg; have e3 := HQ3.out; have e4 := HQ4.out; have ep := HQP.out; simp only [e3, e4, ep] at hi; first | (simp at hi; done) | omega | simp_all), HB.out⟩
      refine takeL (.bool true) rfl (by go_simp) ?_
      try simp only [Act.put, List.setIfInBounds_toArray, List.set_cons_succ, List.set_cons_zero]
      refine takeL (.bool true) rfl (by go_simp) ?_
      try simp only [Act.put, List.setIfInBounds_toArray, List.set_cons_succ, List.set_cons_zero]
      refine takeL (.bool true) rfl (by go_simp) ?_
      try simp only [Act.put, List.setIfInBounds_toArray, List.set_cons_succ, List.set_cons_zero]
      cases q3
      case false =>
        refine takeL (.bool false) rfl (by go_simp) ?_
        try simp only [Act.put, List.setIfInBounds_toArray, List.set_cons_succ, List.set_cons_zero]
        go_wp2_with fail
        go_ret
        exact ⟨ret_bool (false_eq fun hg => by have hi := (good3_iff HK.out).1 hg; have e3 := HQ3.out; have e4 := HQ4.out; have ep := HQP.out; simp only [e3, e4, ep] at hi; first | (simp at hi; done) | omega | simp_all), HB.out⟩
      refine takeL (.bool true) rfl (by go_simp) ?_
      try simp only [Act.put, List.setIfInBounds_toArray, List.set_cons_succ, List.set_cons_zero]
      refine takeL (.bool true) rfl (by go_simp) ?_
      try simp only [Act.put, List.setIfInBounds_toArray, List.set_cons_succ, List.set_cons_zero]
      refine takeL (.bool true) rfl (by go_simp) ?_
      try simp only [Act.put, List.setIfInBounds_toArray, List.set_cons_succ, List.set_cons_zero]
      refine takeL (.pointer (some ⟨w.heap.size, 2, none⟩)) rfl (by go_simp) ?_
      try simp only [Act.put, List.setIfInBounds_toArray, List.set_cons_succ, List.set_cons_zero]
      refine load53 (cs := (u8s b.page).toArray) HA.out.page HPS.out rfl rfl ?_
      try simp only [Act.put, List.setIfInBounds_toArray, List.set_cons_succ, List.set_cons_zero]
      refine build_g (build53 _) rfl ?_
      try simp only [Act.put, List.setIfInBounds_toArray, List.set_cons_succ, List.set_cons_zero]
      refine takeL (.bool qp) rfl (by have he := HP.out; go_simp) ?_
      try simp only [Act.put, List.setIfInBounds_toArray, List.set_cons_succ, List.set_cons_zero]
      refine takeL (.bool qp) rfl (by go_simp) ?_
      try simp only [Act.put, List.setIfInBounds_toArray, List.set_cons_succ, List.set_cons_zero]
      refine takeL (.bool qp) rfl (by go_simp) ?_
      try simp only [Act.put, List.setIfInBounds_toArray, List.set_cons_succ, List.set_cons_zero]
      refine wpList_nil ?_
      go_wp2_with fail
      go_ret
      exact ⟨ret_bool (eq_last (by rw [good3_iff HK.out, HQ3.out, HQP.out, HAL.out]; simp [h1, h2])), HB.out⟩
set_option maxHeartbeats 4000000 in
set_option maxRecDepth 100000 in
theorem rgood_0 (b : Bk) (sv : Value) (hs : Len sv b.bytes.length) (hw : b.Wf) (hk1 : b.kind ≠ 1) (hk2 : b.kind ≠ 2) (hk3 : b.kind ≠ 3) (w : World) : Calls Try.prog 42 #[.agg (b.arr sv)] w fun e w' => e = .returned (.bool b.good) ∧ Below w.heap.size w w' := by
  have HWb := Lib.hid hw
  have HZ := Lib.hid (b.arr_size hw sv)
  have HPS : (u8s b.page).toArray.size = 32 := by simpa using hw.page
  have HHS : (i64s b.heads).toArray.size = 8 := by simpa using hw.heads
  have HPS := Lib.hid HPS
  have HHS := Lib.hid HHS
  have HE := Lib.hid fun w => eql55 w b.heads (zeros 8) hw.heads (zeros_length 8)
  have HP := Lib.hid fun w => eql53 w b.page (zeros 32) hw.page (zeros_length 32)
  have HHD := Lib.hid fun w => rhead_any b.prev w
  have hlen := hw.bytes
  obtain ⟨ab, capb, hsvb⟩ := hs
  have HSVb := Lib.hid hsvb
  clear hsvb hw
  go_enter Try.func42, Try.ntmps42
  repeat (first | (with_reducible refine stopR (id := 0) ?_) | go_values | go_skip | go_guarded | go_step | go_upon | go_back)
  refine Stop.mk (wp_region_lit ?_)
  refine box_g rfl rfl ?_
  intro w1 hA hb hl
  try simp only [Act.put, List.setIfInBounds_toArray, List.set_cons_succ, List.set_cons_zero]
  have HA : Hid (BAt w1 w.heap.size b sv) := Lib.hid ⟨hA, HWb.out⟩
  have HB := Lib.hid hb
  clear hA hb hl
  refine takeL (.bool false) rfl (by go_simp) ?_
  try simp only [Act.put, List.setIfInBounds_toArray, List.set_cons_succ, List.set_cons_zero]
  refine wpList_nil ?_
  go_upto_region 1 with fail
  go_cut [3] from 6 to 20 (fun s3 wx => s3 = .bool b.plain ∧ w1 = wx)
  case first =>
    have c34 := HA.out.c34
    have c35 := HA.out.c35.trans (congrArg some HSVb.out)
    have c36 := HA.out.c36
    by_cases h1 : b.off = 0 <;> by_cases h2 : b.bytes.length = 0
    all_goals
      go_wp2_with fail
      go_meet
      exact ⟨congrArg Value.bool (by simp [plain_iff, h1, h2, beq_dec]), rfl⟩
  case rest =>
  obtain ⟨rfl, rfl⟩ := hcut
  have HPL := Lib.hid (show b.plain = b.plain from rfl)

  obtain ⟨q3, hq3⟩ : ∃ q, b.plain = q := ⟨_, rfl⟩
  obtain ⟨q4, hq4⟩ : ∃ q, decide (b.heads = zeros 8) = q := ⟨_, rfl⟩
  obtain ⟨qp, hqp⟩ : ∃ q, decide (b.page = zeros 32) = q := ⟨_, rfl⟩
  rw [hq3]
  rw [hq4] at HE
  rw [hqp] at HP
  have HQ3 := Lib.hid hq3
  have HQ4 := Lib.hid hq4
  have HQP := Lib.hid hqp
  clear hq3 hq4 hqp
  repeat (first | (with_reducible refine stopR (id := 2) ?_) | go_values | go_skip | go_guarded | go_step | go_upon | go_back)
  refine Stop.mk (wp_region_lit ?_)
  refine takeL (.pointer (some ⟨w.heap.size, 37, none⟩)) rfl (by go_simp) ?_
  try simp only [Act.put, List.setIfInBounds_toArray, List.set_cons_succ, List.set_cons_zero]
  refine load55 (cs := (i64s b.heads).toArray) HA.out.heads HHS.out rfl rfl ?_
  try simp only [Act.put, List.setIfInBounds_toArray, List.set_cons_succ, List.set_cons_zero]
  refine build_g (build55 _) rfl ?_
  try simp only [Act.put, List.setIfInBounds_toArray, List.set_cons_succ, List.set_cons_zero]
  refine takeL (.bool q4) rfl (by have he := HE.out; go_simp) ?_
  try simp only [Act.put, List.setIfInBounds_toArray, List.set_cons_succ, List.set_cons_zero]
  refine takeL (.bool q4) rfl (by go_simp) ?_
  try simp only [Act.put, List.setIfInBounds_toArray, List.set_cons_succ, List.set_cons_zero]
  refine wpList_nil ?_
  have c0 := HA.out.c0
  go_wp2_with fail
  go_ret
  exact ⟨ret_bool (good_other hk1 hk2 hk3).symm, HB.out⟩
theorem rgood_any (b : Bk) (sv : Value) (hs : Len sv b.bytes.length) (hw : b.Wf) (w : World) : Calls Try.prog 42 #[.agg (b.arr sv)] w fun e w' => e = .returned (.bool b.good) ∧ Below w.heap.size w w' := by
  by_cases k1 : b.kind = 1
  · exact rgood_1 b sv hs hw k1 w
  · by_cases k2 : b.kind = 2
    · exact rgood_2 b sv hs hw k2 w
    · by_cases k3 : b.kind = 3
      · exact rgood_3 b sv hs hw k3 w
      · exact rgood_0 b sv hs hw k1 k2 k3 w

end Go.Proofs.Ytbhaifdhmfmeoaa
