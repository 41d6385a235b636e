/- UsageTells's walk. -/
import Derived.Test.YtieliobkcbpjiaaAdds
namespace Go.Proofs.Ytieliobkcbpjiaa
set_option linter.unusedSimpArgs false
set_option linter.unusedVariables false
open Go.RowKit

theorem ints_same (l : List Int) (hl : l.length ≤ 1000) (sv tv : Value) (w : World) (h : IntsAt w sv l) (k : IntsAt w tv l) : Calls Try.prog 7 #[sv, tv] w fun e w' => e = .returned (.bool true) ∧ Below w.heap.size w w' := by
  have := ints_any l l hl hl sv tv w h k
  simpa using this
theorem wrap63 {n : Int} (h0 : 0 ≤ n) (h1 : n < 9223372036854775808) : IntKind.i64.wrap n = n := by rw [IntKind.wrap_i64]; omega
theorem lit0 (w : World) (B : Nat) (hB : B ≤ w.heap.size) : Own (w.alloc (.cells #[] 3)) B (.slice (some ⟨w.heap.size, 0, none⟩) 0 0) [] := Own.lit w B hB [] (by simp) _ rfl
set_option maxRecDepth 100000 in
theorem tells_big1 (g : Gm) (a b : List Int) (hn : 300 < a.length) (av bv : Value) (w : World) (hs : IntsAt w av a) (ks : IntsAt w bv b) : Calls Try.prog 3 #[g.v, av, bv] w fun e w' => e = .returned (.bool true) ∧ Below w.heap.size w w' := by
  have HK := Lib.hid wakes_any
  obtain ⟨sa, sc, rfl⟩ := hs.form2
  obtain ⟨ta, tc, rfl⟩ := ks.form2
  have d0 : decide (300 < (a.length : Int)) = true := decide_eq_true (by omega)
  generalize a.length = n at *
  generalize b.length = m at *
  clear hs ks
  go_enter Try.func3, Try.ntmps3
  go_wp2_with fail
  refine (HK.out _).mono ?_
  rintro e w1 ⟨rfl, hb⟩
  have HB := Lib.hid (box_call hb)
  clear hb
  go_wp2_with fail
  go_ret
  exact ⟨rfl, HB.out.1⟩
set_option maxRecDepth 100000 in
theorem tells_big2 (g : Gm) (a b : List Int) (hn : a.length ≤ 300) (hm : 60 < b.length) (av bv : Value) (w : World) (hs : IntsAt w av a) (ks : IntsAt w bv b) : Calls Try.prog 3 #[g.v, av, bv] w fun e w' => e = .returned (.bool true) ∧ Below w.heap.size w w' := by
  have HK := Lib.hid wakes_any
  obtain ⟨sa, sc, rfl⟩ := hs.form2
  obtain ⟨ta, tc, rfl⟩ := ks.form2
  have d0 : decide (300 < (a.length : Int)) = false := decide_eq_false (by omega)
  have d1 : decide (60 < (b.length : Int)) = true := decide_eq_true (by omega)
  generalize a.length = n at *
  generalize b.length = m at *
  clear hs ks
  go_enter Try.func3, Try.ntmps3
  go_wp2_with fail
  refine (HK.out _).mono ?_
  rintro e w1 ⟨rfl, hb⟩
  have HB := Lib.hid (box_call hb)
  clear hb
  go_wp2_with fail
  go_ret
  exact ⟨rfl, HB.out.1⟩
set_option maxRecDepth 100000 in
set_option maxHeartbeats 1000000 in
theorem tells_yes (g : Gm) (a b : List Int) (ha : a.length ≤ 300) (hb : b.length ≤ 60) (av bv : Value) (w : World) (hs : IntsAt w av a) (ks : IntsAt w bv b) : Calls Try.prog 3 #[g.v, av, bv] w fun e w' => e = .returned (.bool true) ∧ Below w.heap.size w w' := by
  have HK := Lib.hid wakes_any
  have CX := Lib.hid fun sv W hs => count_any g a (by omega) sv W hs
  have CR := Lib.hid fun sv W hs => rcount_any g a (by omega) sv W hs
  have IC := Lib.hid fun sv tv W hs ks => ints_same (cts g a) (by have := cts_le g a; omega) sv tv W hs ks
  have SY := Lib.hid fun sv W hs => sum_any b (by omega) sv W hs
  have IA := Lib.hid fun sv tv W hs ks => ints_same a (by omega) sv tv W hs ks
  have IB := Lib.hid fun sv tv W hs ks => ints_same b (by omega) sv tv W hs ks
  have HA := Lib.hid hs
  have HB := Lib.hid ks
  obtain ⟨sa, sc, rfl⟩ := hs.form2
  obtain ⟨ta, tc, rfl⟩ := ks.form2
  have d0 : decide (300 < (a.length : Int)) = false := decide_eq_false (by omega)
  have d1 : decide (60 < (b.length : Int)) = false := decide_eq_false (by omega)
  obtain ⟨n, hn⟩ : ∃ n, a.length = n := ⟨_, rfl⟩
  obtain ⟨m, hm⟩ : ∃ n, b.length = n := ⟨_, rfl⟩
  rw [hn] at d0 ha HA ⊢
  rw [hm] at d1 hb HB ⊢
  have HNA := Lib.hid hn
  have HNB := Lib.hid hm
  have HA0 := Lib.hid (HA.out.below (gbox_below g w))
  have HB0 := Lib.hid (HB.out.below (gbox_below g w))
  have HG0 := Lib.hid (GAt.box g w)
  have HW0 := Lib.hid (gbox_below g w)
  clear hs ks hn hm HA HB
  go_enter Try.func3, Try.ntmps3
  go_upto_region 3 with fail
  refine wp_region_lit ?_
  refine wpList_run (.slice (some ⟨w.heap.size + 1, 0, none⟩) 0 0) ((g.box w).alloc (.cells #[] 3)) rfl (by go_simp) ?_
  try simp only [Act.put, List.setIfInBounds_toArray, List.set_cons_succ, List.set_cons_zero]
  have hl1 : Own ((g.box w).alloc (.cells #[] 3)) (g.box w).heap.size (.slice (some ⟨w.heap.size + 1, 0, none⟩) 0 0) [] := by
    have e : (g.box w).heap.size = w.heap.size + 1 := by simp
    rw [← e]
    exact lit0 (g.box w) (g.box w).heap.size (Nat.le_refl _)
  have hb1 := alloc_below (g.box w) (.cells #[] 3)
  refine takeL (.slice sa n sc) rfl (by go_simp) ?_
  try simp only [Act.put, List.setIfInBounds_toArray, List.set_cons_succ, List.set_cons_zero]
  refine app_L hl1 hb1.size (HA0.out.below hb1) (by have := HNA.out; simp only [List.length_nil]; omega) rfl rfl rfl ?_
  intro xv w1 ho1 hb2
  try simp only [Act.put, List.setIfInBounds_toArray, List.set_cons_succ, List.set_cons_zero]
  rw [List.nil_append] at ho1
  have HS1 := Lib.hid (hb1.trans hb2)
  have HX1 := Lib.hid ho1.ints
  clear hl1 hb1 ho1 hb2
  refine wpList_run (.slice (some ⟨w1.heap.size, 0, none⟩) 0 0) (w1.alloc (.cells #[] 3)) rfl (by go_simp) ?_
  try simp only [Act.put, List.setIfInBounds_toArray, List.set_cons_succ, List.set_cons_zero]
  have hl1 := lit0 w1 w1.heap.size (Nat.le_refl _)
  have hb1 := alloc_below w1 (.cells #[] 3)
  refine takeL (.slice ta m tc) rfl (by go_simp) ?_
  try simp only [Act.put, List.setIfInBounds_toArray, List.set_cons_succ, List.set_cons_zero]
  refine app_L hl1 hb1.size ((HB0.out.below HS1.out).below hb1) (by have := HNB.out; simp only [List.length_nil]; omega) rfl rfl rfl ?_
  intro yv w2 ho1 hb2
  try simp only [Act.put, List.setIfInBounds_toArray, List.set_cons_succ, List.set_cons_zero]
  rw [List.nil_append] at ho1
  have HS2 := Lib.hid (stay HS1.out (hb1.trans hb2))
  have HX2 := Lib.hid (HX1.out.below (hb1.trans hb2))
  have HY2 := Lib.hid ho1.ints
  clear hl1 hb1 ho1 hb2 HX1 HS1
  refine takeL (xv) rfl (by go_simp) ?_
  try simp only [Act.put, List.setIfInBounds_toArray, List.set_cons_succ, List.set_cons_zero]
  refine takeL (yv) rfl (by go_simp) ?_
  try simp only [Act.put, List.setIfInBounds_toArray, List.set_cons_succ, List.set_cons_zero]
  refine wpList_nil ?_
  have HV2 := Lib.hid (HW0.out.trans (HS2.out.mono HW0.out.size))
  have HG2 : Hid (GAt w2 w.heap.size g ∧ w.heap.size < w2.heap.size) := Lib.hid ⟨HG0.out.below HS2.out (by simp), Nat.lt_of_lt_of_le (by simp) HS2.out.size⟩
  have HX3 := Lib.hid HX2.out
  have HY3 := Lib.hid HY2.out
  have HA3 := Lib.hid (HA0.out.below HS2.out)
  have HB3 := Lib.hid (HB0.out.below HS2.out)
  clear HX2 HY2 HA0 HB0 HG0 HS2 HW0
  by_cases hn0 : n = 0
  · have hn1 : ¬ 0 < (n : Int) := by omega
    clear hn0
    have FY := Lib.hid fun sv W hs => free_any b (by rw [HNB.out]; omega) 0 sv W hs
    have FR := Lib.hid fun sv W hs => rfree_any b (by rw [HNB.out]; omega) 0 sv W hs
    have IF := Lib.hid fun sv tv W hs ks => ints_same (frees b 0) (by have := freesN_le b 0 b.length; rw [HNB.out] at this; unfold frees; rw [HNB.out]; omega) sv tv W hs ks
    go_wp2_with fail
    go_loopg [11, 10] m (fun q i s wr => ∃ (k : Nat) (W : World), W = wr ∧ m - k ≤ q ∧ k ≤ m ∧ i = .int .i64 k ∧ s = .int .i64 (tot (b.take k)) ∧ w2 = W)
    case atStart => exact ⟨0, _, rfl, by omega, by omega, rfl, rfl, rfl⟩
    case round =>
      obtain ⟨k, wr, rfl, hq, hk, rfl, rfl, rfl⟩ := hrel
      obtain ⟨b0, b1⟩ := tot_take_bound (l := b) (by rw [HNB.out]; omega) k
      by_cases hlt : k < m
      · have hk1 : (k : Int) < (m : Int) := by omega
        have hlk : b[k]? = some (b[k]'(by rw [HNB.out]; exact hlt)) := List.getElem?_eq_getElem _
        obtain ⟨bb, oo, rfl, x1⟩ := HB3.out.cell2 k _ hlk
        generalize (b[k]'(by rw [HNB.out]; exact hlt)) = x at *
        have HT := Lib.hid (tot_take hlk)
        obtain ⟨t, ht⟩ : ∃ t, tot (b.take k) = t := ⟨_, rfl⟩
        rw [ht] at HT b0 b1
        rw [ht]
        clear hlk ht
        by_cases hx : 1099511627776 < x
        · clear HT
          go_wp2_with fail
          refine (HK.out _).mono ?_
          rintro e w4 ⟨rfl, hb⟩
          have HW4 := Lib.hid (stay HV2.out hb)
          clear hb
          go_wp2_with fail
          go_ret
          exact ⟨rfl, HW4.out⟩
        · have HV : Hid (val x = max 0 x) := Lib.hid (by unfold val; split <;> omega)
          obtain ⟨y, hy⟩ : ∃ y, max 0 x = y := ⟨_, rfl⟩
          have HY : Hid (max 0 x = y) := hy
          have hy0 : 0 ≤ y := by omega
          have hy1 : y ≤ 1099511627776 := by omega
          rw [hy] at HV
          rw [HV.out] at HT
          clear hy
          go_upto_region 13 with fail
          refine wp_region_lit ?_
          refine takeL (.int .i64 t) rfl (by go_simp) ?_
          try simp only [Act.put, List.setIfInBounds_toArray, List.set_cons_succ, List.set_cons_zero]
          refine takeL (.slice (some ⟨bb, oo, none⟩) m tc) rfl (by go_simp) ?_
          try simp only [Act.put, List.setIfInBounds_toArray, List.set_cons_succ, List.set_cons_zero]
          refine takeL (.int .i64 k) rfl (by go_simp) ?_
          try simp only [Act.put, List.setIfInBounds_toArray, List.set_cons_succ, List.set_cons_zero]
          refine takeL (.pointer (some ⟨bb, oo + k, none⟩)) rfl (by go_simp) ?_
          try simp only [Act.put, List.setIfInBounds_toArray, List.set_cons_succ, List.set_cons_zero]
          refine takeL (.int .i64 x) rfl (by go_simp) ?_
          try simp only [Act.put, List.setIfInBounds_toArray, List.set_cons_succ, List.set_cons_zero]
          refine takeL (.int .i64 y) rfl (by go_simp; have := HY.out; split <;> omega) ?_
          try simp only [Act.put, List.setIfInBounds_toArray, List.set_cons_succ, List.set_cons_zero]
          refine takeL (.int .i64 (t + y)) rfl (by go_simp <;> exact wrap63 (by omega) (by omega)) ?_
          try simp only [Act.put, List.setIfInBounds_toArray, List.set_cons_succ, List.set_cons_zero]
          refine takeL (.int .i64 (t + y)) rfl (by go_simp) ?_
          try simp only [Act.put, List.setIfInBounds_toArray, List.set_cons_succ, List.set_cons_zero]
          refine wpList_nil ?_
          go_wp2_with fail
          go_roundg (m - (k + 1))
          case measure => omega
          case rel => exact ⟨k + 1, _, rfl, by omega, by omega, by go_num, by rw [HT.out], rfl⟩
      · obtain rfl : k = m := by omega
        have hk1 : ¬ (k : Int) < (k : Int) := by omega
        have HT : Hid (b.take k = b) := Lib.hid (List.take_of_length_le (by rw [HNB.out]; exact Nat.le_refl _))
        rw [HT.out] at b0 b1 ⊢
        obtain ⟨t, ht⟩ : ∃ t, tot b = t := ⟨_, rfl⟩
        rw [ht] at SY b0 b1
        rw [ht]
        have e9 : (t == t) = true := by simp
        clear HT ht hlt hq hk
        go_upto_region 14 with fail
        refine startH (fun wq => Below w2.heap.size w2 wq) (by kernel_rfl) ?_
        refine takeH 0 (some 52) (g.v) rfl rfl (by kernel_rfl) (by kernel_rfl) (by kernel_rfl) (fun _ _ _ h => h) rfl (fun wq hS => by obtain ⟨c0, c1, c2, c3⟩ := HG2.out.1.below hS HG2.out.2; go_simp) (Below.refl _ _).drew ?_
        try simp only [Act.put, List.setIfInBounds_toArray, List.set_cons_succ, List.set_cons_zero]
        refine takeH 1 (some 53) (xv) rfl rfl (by kernel_rfl) (by kernel_rfl) (by kernel_rfl) (fun _ _ _ h => h) rfl (fun wq hS => by go_simp) (Below.refl _ _).drew ?_
        try simp only [Act.put, List.setIfInBounds_toArray, List.set_cons_succ, List.set_cons_zero]
        refine takeH 3 (some 55) (g.v) rfl rfl (by kernel_rfl) (by kernel_rfl) (by kernel_rfl) (fun _ _ _ h => h) rfl (fun wq hS => by obtain ⟨c0, c1, c2, c3⟩ := HG2.out.1.below hS HG2.out.2; go_simp) (Below.refl _ _).drew ?_
        try simp only [Act.put, List.setIfInBounds_toArray, List.set_cons_succ, List.set_cons_zero]
        refine takeH 4 (some 56) (.slice sa n sc) rfl rfl (by kernel_rfl) (by kernel_rfl) (by kernel_rfl) (fun _ _ _ h => h) rfl (fun wq hS => by go_simp) (Below.refl _ _).drew ?_
        try simp only [Act.put, List.setIfInBounds_toArray, List.set_cons_succ, List.set_cons_zero]
        refine oneH 2 (by kernel_rfl) rfl rfl fun K hK => ?_
        go_simp
        refine (CX.out _ _ HX3.out.drew).mono ?_
        rintro e v1 ⟨pv, rfl, ho, hb⟩
        have HS1 := Lib.hid (stay (Below.refl w2.heap.size w2).drew hb)
        have HXv1 := Lib.hid ((HX3.out.drew).below hb)
        have HYv1 := Lib.hid ((HY3.out.drew).below hb)
        have HAv1 := Lib.hid ((HA3.out.drew).below hb)
        have HBv1 := Lib.hid ((HB3.out.drew).below hb)
        have HPv1 := Lib.hid ho.ints
        refine hK _ _ HS1.out ?_
        clear hK K hb ho
        try simp only [Act.put, List.setIfInBounds_toArray, List.set_cons_succ, List.set_cons_zero]
        refine oneH 5 (by kernel_rfl) rfl rfl fun K hK => ?_
        go_simp
        refine (CR.out _ _ HAv1.out).mono ?_
        rintro e v2 ⟨qv, rfl, ho, hb⟩
        have HS2 := Lib.hid (stay HS1.out hb)
        have HXv2 := Lib.hid ((HXv1.out).below hb)
        have HYv2 := Lib.hid ((HYv1.out).below hb)
        have HAv2 := Lib.hid ((HAv1.out).below hb)
        have HBv2 := Lib.hid ((HBv1.out).below hb)
        have HPv2 := Lib.hid ((HPv1.out).below hb)
        have HQv2 := Lib.hid ho.ints
        refine hK _ _ HS2.out ?_
        clear hK K hb ho
        try simp only [Act.put, List.setIfInBounds_toArray, List.set_cons_succ, List.set_cons_zero]
        refine oneH 6 (by kernel_rfl) rfl rfl fun K hK => ?_
        go_simp
        refine (IC.out _ _ _ HPv2.out HQv2.out).mono ?_
        rintro e v3 ⟨rfl, hb⟩
        have HS3 := Lib.hid (stay HS2.out hb)
        have HXv3 := Lib.hid ((HXv2.out).below hb)
        have HYv3 := Lib.hid ((HYv2.out).below hb)
        have HAv3 := Lib.hid ((HAv2.out).below hb)
        have HBv3 := Lib.hid ((HBv2.out).below hb)
        have HPv3 := Lib.hid ((HPv2.out).below hb)
        have HQv3 := Lib.hid ((HQv2.out).below hb)
        refine hK _ _ HS3.out ?_
        clear hK K hb
        try simp only [Act.put, List.setIfInBounds_toArray, List.set_cons_succ, List.set_cons_zero]
        refine takeH 7 (some 59) (.bool true) rfl rfl (by kernel_rfl) (by kernel_rfl) (by kernel_rfl) (fun _ _ _ h => h) rfl (fun wq hS => by go_simp) HS3.out ?_
        try simp only [Act.put, List.setIfInBounds_toArray, List.set_cons_succ, List.set_cons_zero]
        refine takeH 8 (some 60) (yv) rfl rfl (by kernel_rfl) (by kernel_rfl) (by kernel_rfl) (fun _ _ _ h => h) rfl (fun wq hS => by go_simp) HS3.out ?_
        try simp only [Act.put, List.setIfInBounds_toArray, List.set_cons_succ, List.set_cons_zero]
        refine takeH 9 (some 61) (.int .i64 0) rfl rfl (by kernel_rfl) (by kernel_rfl) (by kernel_rfl) (fun _ _ _ h => h) rfl (fun wq hS => by go_simp) HS3.out ?_
        try simp only [Act.put, List.setIfInBounds_toArray, List.set_cons_succ, List.set_cons_zero]
        refine takeH 11 (some 63) (.slice ta k tc) rfl rfl (by kernel_rfl) (by kernel_rfl) (by kernel_rfl) (fun _ _ _ h => h) rfl (fun wq hS => by go_simp) HS3.out ?_
        try simp only [Act.put, List.setIfInBounds_toArray, List.set_cons_succ, List.set_cons_zero]
        refine takeH 12 (some 64) (.int .i64 0) rfl rfl (by kernel_rfl) (by kernel_rfl) (by kernel_rfl) (fun _ _ _ h => h) rfl (fun wq hS => by go_simp) HS3.out ?_
        try simp only [Act.put, List.setIfInBounds_toArray, List.set_cons_succ, List.set_cons_zero]
        refine oneH 10 (by kernel_rfl) rfl rfl fun K hK => ?_
        go_simp
        refine (FY.out _ _ HYv3.out).mono ?_
        rintro e v4 ⟨fv, rfl, ho, hb⟩
        have HS4 := Lib.hid (stay HS3.out hb)
        have HXv4 := Lib.hid ((HXv3.out).below hb)
        have HYv4 := Lib.hid ((HYv3.out).below hb)
        have HAv4 := Lib.hid ((HAv3.out).below hb)
        have HBv4 := Lib.hid ((HBv3.out).below hb)
        have HPv4 := Lib.hid ((HPv3.out).below hb)
        have HQv4 := Lib.hid ((HQv3.out).below hb)
        have HFv4 := Lib.hid ho.ints
        refine hK _ _ HS4.out ?_
        clear hK K hb ho
        try simp only [Act.put, List.setIfInBounds_toArray, List.set_cons_succ, List.set_cons_zero]
        refine oneH 13 (by kernel_rfl) rfl rfl fun K hK => ?_
        go_simp
        refine (FR.out _ _ HBv4.out).mono ?_
        rintro e v5 ⟨hv, rfl, ho, hb⟩
        have HS5 := Lib.hid (stay HS4.out hb)
        have HXv5 := Lib.hid ((HXv4.out).below hb)
        have HYv5 := Lib.hid ((HYv4.out).below hb)
        have HAv5 := Lib.hid ((HAv4.out).below hb)
        have HBv5 := Lib.hid ((HBv4.out).below hb)
        have HPv5 := Lib.hid ((HPv4.out).below hb)
        have HQv5 := Lib.hid ((HQv4.out).below hb)
        have HFv5 := Lib.hid ((HFv4.out).below hb)
        have HHv5 := Lib.hid ho.ints
        refine hK _ _ HS5.out ?_
        clear hK K hb ho
        try simp only [Act.put, List.setIfInBounds_toArray, List.set_cons_succ, List.set_cons_zero]
        refine oneH 14 (by kernel_rfl) rfl rfl fun K hK => ?_
        go_simp
        refine (IF.out _ _ _ HFv5.out HHv5.out).mono ?_
        rintro e v6 ⟨rfl, hb⟩
        have HS6 := Lib.hid (stay HS5.out hb)
        have HXv6 := Lib.hid ((HXv5.out).below hb)
        have HYv6 := Lib.hid ((HYv5.out).below hb)
        have HAv6 := Lib.hid ((HAv5.out).below hb)
        have HBv6 := Lib.hid ((HBv5.out).below hb)
        have HPv6 := Lib.hid ((HPv5.out).below hb)
        have HQv6 := Lib.hid ((HQv5.out).below hb)
        have HFv6 := Lib.hid ((HFv5.out).below hb)
        have HHv6 := Lib.hid ((HHv5.out).below hb)
        refine hK _ _ HS6.out ?_
        clear hK K hb
        try simp only [Act.put, List.setIfInBounds_toArray, List.set_cons_succ, List.set_cons_zero]
        refine takeH 15 (some 67) (.bool true) rfl rfl (by kernel_rfl) (by kernel_rfl) (by kernel_rfl) (fun _ _ _ h => h) rfl (fun wq hS => by go_simp) HS6.out ?_
        try simp only [Act.put, List.setIfInBounds_toArray, List.set_cons_succ, List.set_cons_zero]
        refine takeH 16 (some 68) (.bool true) rfl rfl (by kernel_rfl) (by kernel_rfl) (by kernel_rfl) (fun _ _ _ h => h) rfl (fun wq hS => by go_simp) HS6.out ?_
        try simp only [Act.put, List.setIfInBounds_toArray, List.set_cons_succ, List.set_cons_zero]
        refine takeH 17 (some 69) (yv) rfl rfl (by kernel_rfl) (by kernel_rfl) (by kernel_rfl) (fun _ _ _ h => h) rfl (fun wq hS => by go_simp) HS6.out ?_
        try simp only [Act.put, List.setIfInBounds_toArray, List.set_cons_succ, List.set_cons_zero]
        refine takeH 19 (some 71) (.int .i64 t) rfl rfl (by kernel_rfl) (by kernel_rfl) (by kernel_rfl) (fun _ _ _ h => h) rfl (fun wq hS => by go_simp) HS6.out ?_
        try simp only [Act.put, List.setIfInBounds_toArray, List.set_cons_succ, List.set_cons_zero]
        refine oneH 18 (by kernel_rfl) rfl rfl fun K hK => ?_
        go_simp
        refine (SY.out _ _ HYv6.out).mono ?_
        rintro e v7 ⟨rfl, rfl⟩
        refine hK _ _ HS6.out ?_
        clear hK K
        try simp only [Act.put, List.setIfInBounds_toArray, List.set_cons_succ, List.set_cons_zero]
        refine takeH 20 (some 72) (.bool true) rfl rfl (by kernel_rfl) (by kernel_rfl) (by kernel_rfl) (fun _ _ _ h => h) rfl (fun wq hS => by go_simp) HS6.out ?_
        try simp only [Act.put, List.setIfInBounds_toArray, List.set_cons_succ, List.set_cons_zero]
        refine takeH 21 (some 73) (.bool true) rfl rfl (by kernel_rfl) (by kernel_rfl) (by kernel_rfl) (fun _ _ _ h => h) rfl (fun wq hS => by go_simp) HS6.out ?_
        try simp only [Act.put, List.setIfInBounds_toArray, List.set_cons_succ, List.set_cons_zero]
        refine takeH 22 (some 74) (.bool true) rfl rfl (by kernel_rfl) (by kernel_rfl) (by kernel_rfl) (fun _ _ _ h => h) rfl (fun wq hS => by go_simp) HS6.out ?_
        try simp only [Act.put, List.setIfInBounds_toArray, List.set_cons_succ, List.set_cons_zero]
        refine takeH 23 (some 75) (xv) rfl rfl (by kernel_rfl) (by kernel_rfl) (by kernel_rfl) (fun _ _ _ h => h) rfl (fun wq hS => by go_simp) HS6.out ?_
        try simp only [Act.put, List.setIfInBounds_toArray, List.set_cons_succ, List.set_cons_zero]
        refine takeH 24 (some 76) (.slice sa n sc) rfl rfl (by kernel_rfl) (by kernel_rfl) (by kernel_rfl) (fun _ _ _ h => h) rfl (fun wq hS => by go_simp) HS6.out ?_
        try simp only [Act.put, List.setIfInBounds_toArray, List.set_cons_succ, List.set_cons_zero]
        refine oneH 25 (by kernel_rfl) rfl rfl fun K hK => ?_
        go_simp
        refine (IA.out _ _ _ HXv6.out HAv6.out).mono ?_
        rintro e v8 ⟨rfl, hb⟩
        have HS8 := Lib.hid (stay HS6.out hb)
        have HXv8 := Lib.hid ((HXv6.out).below hb)
        have HYv8 := Lib.hid ((HYv6.out).below hb)
        have HAv8 := Lib.hid ((HAv6.out).below hb)
        have HBv8 := Lib.hid ((HBv6.out).below hb)
        have HPv8 := Lib.hid ((HPv6.out).below hb)
        have HQv8 := Lib.hid ((HQv6.out).below hb)
        have HFv8 := Lib.hid ((HFv6.out).below hb)
        have HHv8 := Lib.hid ((HHv6.out).below hb)
        refine hK _ _ HS8.out ?_
        clear hK K hb
        try simp only [Act.put, List.setIfInBounds_toArray, List.set_cons_succ, List.set_cons_zero]
        refine takeH 26 (some 78) (.bool true) rfl rfl (by kernel_rfl) (by kernel_rfl) (by kernel_rfl) (fun _ _ _ h => h) rfl (fun wq hS => by go_simp) HS8.out ?_
        try simp only [Act.put, List.setIfInBounds_toArray, List.set_cons_succ, List.set_cons_zero]
        refine takeH 27 (some 79) (.bool true) rfl rfl (by kernel_rfl) (by kernel_rfl) (by kernel_rfl) (fun _ _ _ h => h) rfl (fun wq hS => by go_simp) HS8.out ?_
        try simp only [Act.put, List.setIfInBounds_toArray, List.set_cons_succ, List.set_cons_zero]
        refine takeH 28 (some 80) (yv) rfl rfl (by kernel_rfl) (by kernel_rfl) (by kernel_rfl) (fun _ _ _ h => h) rfl (fun wq hS => by go_simp) HS8.out ?_
        try simp only [Act.put, List.setIfInBounds_toArray, List.set_cons_succ, List.set_cons_zero]
        refine takeH 29 (some 81) (.slice ta k tc) rfl rfl (by kernel_rfl) (by kernel_rfl) (by kernel_rfl) (fun _ _ _ h => h) rfl (fun wq hS => by go_simp) HS8.out ?_
        try simp only [Act.put, List.setIfInBounds_toArray, List.set_cons_succ, List.set_cons_zero]
        refine oneH 30 (by kernel_rfl) rfl rfl fun K hK => ?_
        go_simp
        refine (IB.out _ _ _ HYv8.out HBv8.out).mono ?_
        rintro e v9 ⟨rfl, hb⟩
        have HS9 := Lib.hid (stay HS8.out hb)
        have HXv9 := Lib.hid ((HXv8.out).below hb)
        have HYv9 := Lib.hid ((HYv8.out).below hb)
        have HAv9 := Lib.hid ((HAv8.out).below hb)
        have HBv9 := Lib.hid ((HBv8.out).below hb)
        have HPv9 := Lib.hid ((HPv8.out).below hb)
        have HQv9 := Lib.hid ((HQv8.out).below hb)
        have HFv9 := Lib.hid ((HFv8.out).below hb)
        have HHv9 := Lib.hid ((HHv8.out).below hb)
        refine hK _ _ HS9.out ?_
        clear hK K hb
        try simp only [Act.put, List.setIfInBounds_toArray, List.set_cons_succ, List.set_cons_zero]
        refine takeH 31 (some 83) (.bool true) rfl rfl (by kernel_rfl) (by kernel_rfl) (by kernel_rfl) (fun _ _ _ h => h) rfl (fun wq hS => by go_simp) HS9.out ?_
        try simp only [Act.put, List.setIfInBounds_toArray, List.set_cons_succ, List.set_cons_zero]
        refine takeH 32 (some 84) (.bool true) rfl rfl (by kernel_rfl) (by kernel_rfl) (by kernel_rfl) (fun _ _ _ h => h) rfl (fun wq hS => by go_simp) HS9.out ?_
        try simp only [Act.put, List.setIfInBounds_toArray, List.set_cons_succ, List.set_cons_zero]
        refine oneH 33 (by kernel_rfl) rfl rfl fun K hK => ?_
        go_simp
        refine (HK.out _ ).mono ?_
        rintro e v10 ⟨rfl, hb⟩
        have HS10 := Lib.hid (stay HS9.out hb)
        have HXv10 := Lib.hid ((HXv9.out).below hb)
        have HYv10 := Lib.hid ((HYv9.out).below hb)
        have HAv10 := Lib.hid ((HAv9.out).below hb)
        have HBv10 := Lib.hid ((HBv9.out).below hb)
        have HPv10 := Lib.hid ((HPv9.out).below hb)
        have HQv10 := Lib.hid ((HQv9.out).below hb)
        have HFv10 := Lib.hid ((HFv9.out).below hb)
        have HHv10 := Lib.hid ((HHv9.out).below hb)
        refine hK _ _ HS10.out ?_
        clear hK K hb
        try simp only [Act.put, List.setIfInBounds_toArray, List.set_cons_succ, List.set_cons_zero]
        refine takeH 34 (some 86) (.bool true) rfl rfl (by kernel_rfl) (by kernel_rfl) (by kernel_rfl) (fun _ _ _ h => h) rfl (fun wq hS => by go_simp) HS10.out ?_
        try simp only [Act.put, List.setIfInBounds_toArray, List.set_cons_succ, List.set_cons_zero]
        refine takeH 35 (some 6) (.bool true) rfl rfl (by kernel_rfl) (by kernel_rfl) (by kernel_rfl) (fun _ _ _ h => h) rfl (fun wq hS => by go_simp) HS10.out ?_
        try simp only [Act.put, List.setIfInBounds_toArray, List.set_cons_succ, List.set_cons_zero]
        refine wpAnyH_done (by kernel_rfl) ?_ _
        go_wp2_with fail
        go_ret
        exact ⟨rfl, stay HV2.out HS10.out⟩
  · have hn1 : 0 < (n : Int) := by omega
    have hn2 : 0 < n := by omega
    have hn3 : decide (0 < n) = true := decide_eq_true hn2
    have hla : a[0]? = some (a[0]'(by rw [HNA.out]; omega)) := List.getElem?_eq_getElem _
    obtain ⟨b9, o9, rfl, x9⟩ := HA3.out.cell2 0 _ hla
    rw [Nat.add_zero] at x9
    generalize (a[0]'(by rw [HNA.out]; omega)) = hd at *
    clear hla hn0
    have FY := Lib.hid fun sv W hs => free_any b (by rw [HNB.out]; omega) hd sv W hs
    have FR := Lib.hid fun sv W hs => rfree_any b (by rw [HNB.out]; omega) hd sv W hs
    have IF := Lib.hid fun sv tv W hs ks => ints_same (frees b hd) (by have := freesN_le b hd b.length; rw [HNB.out] at this; unfold frees; rw [HNB.out]; omega) sv tv W hs ks
    go_wp2_with fail
    go_loopg [11, 10] m (fun q i s wr => ∃ (k : Nat) (W : World), W = wr ∧ m - k ≤ q ∧ k ≤ m ∧ i = .int .i64 k ∧ s = .int .i64 (tot (b.take k)) ∧ w2 = W)
    case atStart => exact ⟨0, _, rfl, by omega, by omega, rfl, rfl, rfl⟩
    case round =>
      obtain ⟨k, wr, rfl, hq, hk, rfl, rfl, rfl⟩ := hrel
      obtain ⟨b0, b1⟩ := tot_take_bound (l := b) (by rw [HNB.out]; omega) k
      by_cases hlt : k < m
      · have hk1 : (k : Int) < (m : Int) := by omega
        have hlk : b[k]? = some (b[k]'(by rw [HNB.out]; exact hlt)) := List.getElem?_eq_getElem _
        obtain ⟨bb, oo, rfl, x1⟩ := HB3.out.cell2 k _ hlk
        generalize (b[k]'(by rw [HNB.out]; exact hlt)) = x at *
        have HT := Lib.hid (tot_take hlk)
        obtain ⟨t, ht⟩ : ∃ t, tot (b.take k) = t := ⟨_, rfl⟩
        rw [ht] at HT b0 b1
        rw [ht]
        clear hlk ht
        by_cases hx : 1099511627776 < x
        · clear HT
          go_wp2_with fail
          refine (HK.out _).mono ?_
          rintro e w4 ⟨rfl, hb⟩
          have HW4 := Lib.hid (stay HV2.out hb)
          clear hb
          go_wp2_with fail
          go_ret
          exact ⟨rfl, HW4.out⟩
        · have HV : Hid (val x = max 0 x) := Lib.hid (by unfold val; split <;> omega)
          obtain ⟨y, hy⟩ : ∃ y, max 0 x = y := ⟨_, rfl⟩
          have HY : Hid (max 0 x = y) := hy
          have hy0 : 0 ≤ y := by omega
          have hy1 : y ≤ 1099511627776 := by omega
          rw [hy] at HV
          rw [HV.out] at HT
          clear hy
          go_upto_region 13 with fail
          refine wp_region_lit ?_
          refine takeL (.int .i64 t) rfl (by go_simp) ?_
          try simp only [Act.put, List.setIfInBounds_toArray, List.set_cons_succ, List.set_cons_zero]
          refine takeL (.slice (some ⟨bb, oo, none⟩) m tc) rfl (by go_simp) ?_
          try simp only [Act.put, List.setIfInBounds_toArray, List.set_cons_succ, List.set_cons_zero]
          refine takeL (.int .i64 k) rfl (by go_simp) ?_
          try simp only [Act.put, List.setIfInBounds_toArray, List.set_cons_succ, List.set_cons_zero]
          refine takeL (.pointer (some ⟨bb, oo + k, none⟩)) rfl (by go_simp) ?_
          try simp only [Act.put, List.setIfInBounds_toArray, List.set_cons_succ, List.set_cons_zero]
          refine takeL (.int .i64 x) rfl (by go_simp) ?_
          try simp only [Act.put, List.setIfInBounds_toArray, List.set_cons_succ, List.set_cons_zero]
          refine takeL (.int .i64 y) rfl (by go_simp; have := HY.out; split <;> omega) ?_
          try simp only [Act.put, List.setIfInBounds_toArray, List.set_cons_succ, List.set_cons_zero]
          refine takeL (.int .i64 (t + y)) rfl (by go_simp <;> exact wrap63 (by omega) (by omega)) ?_
          try simp only [Act.put, List.setIfInBounds_toArray, List.set_cons_succ, List.set_cons_zero]
          refine takeL (.int .i64 (t + y)) rfl (by go_simp) ?_
          try simp only [Act.put, List.setIfInBounds_toArray, List.set_cons_succ, List.set_cons_zero]
          refine wpList_nil ?_
          go_wp2_with fail
          go_roundg (m - (k + 1))
          case measure => omega
          case rel => exact ⟨k + 1, _, rfl, by omega, by omega, by go_num, by rw [HT.out], rfl⟩
      · obtain rfl : k = m := by omega
        have hk1 : ¬ (k : Int) < (k : Int) := by omega
        have HT : Hid (b.take k = b) := Lib.hid (List.take_of_length_le (by rw [HNB.out]; exact Nat.le_refl _))
        rw [HT.out] at b0 b1 ⊢
        obtain ⟨t, ht⟩ : ∃ t, tot b = t := ⟨_, rfl⟩
        rw [ht] at SY b0 b1
        rw [ht]
        have e9 : (t == t) = true := by simp
        clear HT ht hlt hq hk
        go_upto_region 14 with fail
        refine startH (fun wq => Below w2.heap.size w2 wq) (by kernel_rfl) ?_
        refine takeH 0 (some 52) (g.v) rfl rfl (by kernel_rfl) (by kernel_rfl) (by kernel_rfl) (fun _ _ _ h => h) rfl (fun wq hS => by obtain ⟨c0, c1, c2, c3⟩ := HG2.out.1.below hS HG2.out.2; go_simp) (Below.refl _ _).drew ?_
        try simp only [Act.put, List.setIfInBounds_toArray, List.set_cons_succ, List.set_cons_zero]
        refine takeH 1 (some 53) (xv) rfl rfl (by kernel_rfl) (by kernel_rfl) (by kernel_rfl) (fun _ _ _ h => h) rfl (fun wq hS => by go_simp) (Below.refl _ _).drew ?_
        try simp only [Act.put, List.setIfInBounds_toArray, List.set_cons_succ, List.set_cons_zero]
        refine takeH 3 (some 55) (g.v) rfl rfl (by kernel_rfl) (by kernel_rfl) (by kernel_rfl) (fun _ _ _ h => h) rfl (fun wq hS => by obtain ⟨c0, c1, c2, c3⟩ := HG2.out.1.below hS HG2.out.2; go_simp) (Below.refl _ _).drew ?_
        try simp only [Act.put, List.setIfInBounds_toArray, List.set_cons_succ, List.set_cons_zero]
        refine takeH 4 (some 56) (.slice (some ⟨b9, o9, none⟩) n sc) rfl rfl (by kernel_rfl) (by kernel_rfl) (by kernel_rfl) (fun _ _ _ h => h) rfl (fun wq hS => by go_simp) (Below.refl _ _).drew ?_
        try simp only [Act.put, List.setIfInBounds_toArray, List.set_cons_succ, List.set_cons_zero]
        refine oneH 2 (by kernel_rfl) rfl rfl fun K hK => ?_
        go_simp
        refine (CX.out _ _ HX3.out.drew).mono ?_
        rintro e v1 ⟨pv, rfl, ho, hb⟩
        have HS1 := Lib.hid (stay (Below.refl w2.heap.size w2).drew hb)
        have HXv1 := Lib.hid ((HX3.out.drew).below hb)
        have HYv1 := Lib.hid ((HY3.out.drew).below hb)
        have HAv1 := Lib.hid ((HA3.out.drew).below hb)
        have HBv1 := Lib.hid ((HB3.out.drew).below hb)
        have HPv1 := Lib.hid ho.ints
        refine hK _ _ HS1.out ?_
        clear hK K hb ho
        try simp only [Act.put, List.setIfInBounds_toArray, List.set_cons_succ, List.set_cons_zero]
        refine oneH 5 (by kernel_rfl) rfl rfl fun K hK => ?_
        go_simp
        refine (CR.out _ _ HAv1.out).mono ?_
        rintro e v2 ⟨qv, rfl, ho, hb⟩
        have HS2 := Lib.hid (stay HS1.out hb)
        have HXv2 := Lib.hid ((HXv1.out).below hb)
        have HYv2 := Lib.hid ((HYv1.out).below hb)
        have HAv2 := Lib.hid ((HAv1.out).below hb)
        have HBv2 := Lib.hid ((HBv1.out).below hb)
        have HPv2 := Lib.hid ((HPv1.out).below hb)
        have HQv2 := Lib.hid ho.ints
        refine hK _ _ HS2.out ?_
        clear hK K hb ho
        try simp only [Act.put, List.setIfInBounds_toArray, List.set_cons_succ, List.set_cons_zero]
        refine oneH 6 (by kernel_rfl) rfl rfl fun K hK => ?_
        go_simp
        refine (IC.out _ _ _ HPv2.out HQv2.out).mono ?_
        rintro e v3 ⟨rfl, hb⟩
        have HS3 := Lib.hid (stay HS2.out hb)
        have HXv3 := Lib.hid ((HXv2.out).below hb)
        have HYv3 := Lib.hid ((HYv2.out).below hb)
        have HAv3 := Lib.hid ((HAv2.out).below hb)
        have HBv3 := Lib.hid ((HBv2.out).below hb)
        have HPv3 := Lib.hid ((HPv2.out).below hb)
        have HQv3 := Lib.hid ((HQv2.out).below hb)
        refine hK _ _ HS3.out ?_
        clear hK K hb
        try simp only [Act.put, List.setIfInBounds_toArray, List.set_cons_succ, List.set_cons_zero]
        refine takeH 7 (some 59) (.bool true) rfl rfl (by kernel_rfl) (by kernel_rfl) (by kernel_rfl) (fun _ _ _ h => h) rfl (fun wq hS => by go_simp) HS3.out ?_
        try simp only [Act.put, List.setIfInBounds_toArray, List.set_cons_succ, List.set_cons_zero]
        refine takeH 8 (some 60) (yv) rfl rfl (by kernel_rfl) (by kernel_rfl) (by kernel_rfl) (fun _ _ _ h => h) rfl (fun wq hS => by go_simp) HS3.out ?_
        try simp only [Act.put, List.setIfInBounds_toArray, List.set_cons_succ, List.set_cons_zero]
        refine takeH 9 (some 61) (.int .i64 hd) rfl rfl (by kernel_rfl) (by kernel_rfl) (by kernel_rfl) (fun _ _ _ h => h) rfl (fun wq hS => by go_simp) HS3.out ?_
        try simp only [Act.put, List.setIfInBounds_toArray, List.set_cons_succ, List.set_cons_zero]
        refine takeH 11 (some 63) (.slice ta k tc) rfl rfl (by kernel_rfl) (by kernel_rfl) (by kernel_rfl) (fun _ _ _ h => h) rfl (fun wq hS => by go_simp) HS3.out ?_
        try simp only [Act.put, List.setIfInBounds_toArray, List.set_cons_succ, List.set_cons_zero]
        refine takeH 12 (some 64) (.int .i64 hd) rfl rfl (by kernel_rfl) (by kernel_rfl) (by kernel_rfl) (fun _ _ _ h => h) rfl (fun wq hS => by go_simp) HS3.out ?_
        try simp only [Act.put, List.setIfInBounds_toArray, List.set_cons_succ, List.set_cons_zero]
        refine oneH 10 (by kernel_rfl) rfl rfl fun K hK => ?_
        go_simp
        refine (FY.out _ _ HYv3.out).mono ?_
        rintro e v4 ⟨fv, rfl, ho, hb⟩
        have HS4 := Lib.hid (stay HS3.out hb)
        have HXv4 := Lib.hid ((HXv3.out).below hb)
        have HYv4 := Lib.hid ((HYv3.out).below hb)
        have HAv4 := Lib.hid ((HAv3.out).below hb)
        have HBv4 := Lib.hid ((HBv3.out).below hb)
        have HPv4 := Lib.hid ((HPv3.out).below hb)
        have HQv4 := Lib.hid ((HQv3.out).below hb)
        have HFv4 := Lib.hid ho.ints
        refine hK _ _ HS4.out ?_
        clear hK K hb ho
        try simp only [Act.put, List.setIfInBounds_toArray, List.set_cons_succ, List.set_cons_zero]
        refine oneH 13 (by kernel_rfl) rfl rfl fun K hK => ?_
        go_simp
        refine (FR.out _ _ HBv4.out).mono ?_
        rintro e v5 ⟨hv, rfl, ho, hb⟩
        have HS5 := Lib.hid (stay HS4.out hb)
        have HXv5 := Lib.hid ((HXv4.out).below hb)
        have HYv5 := Lib.hid ((HYv4.out).below hb)
        have HAv5 := Lib.hid ((HAv4.out).below hb)
        have HBv5 := Lib.hid ((HBv4.out).below hb)
        have HPv5 := Lib.hid ((HPv4.out).below hb)
        have HQv5 := Lib.hid ((HQv4.out).below hb)
        have HFv5 := Lib.hid ((HFv4.out).below hb)
        have HHv5 := Lib.hid ho.ints
        refine hK _ _ HS5.out ?_
        clear hK K hb ho
        try simp only [Act.put, List.setIfInBounds_toArray, List.set_cons_succ, List.set_cons_zero]
        refine oneH 14 (by kernel_rfl) rfl rfl fun K hK => ?_
        go_simp
        refine (IF.out _ _ _ HFv5.out HHv5.out).mono ?_
        rintro e v6 ⟨rfl, hb⟩
        have HS6 := Lib.hid (stay HS5.out hb)
        have HXv6 := Lib.hid ((HXv5.out).below hb)
        have HYv6 := Lib.hid ((HYv5.out).below hb)
        have HAv6 := Lib.hid ((HAv5.out).below hb)
        have HBv6 := Lib.hid ((HBv5.out).below hb)
        have HPv6 := Lib.hid ((HPv5.out).below hb)
        have HQv6 := Lib.hid ((HQv5.out).below hb)
        have HFv6 := Lib.hid ((HFv5.out).below hb)
        have HHv6 := Lib.hid ((HHv5.out).below hb)
        refine hK _ _ HS6.out ?_
        clear hK K hb
        try simp only [Act.put, List.setIfInBounds_toArray, List.set_cons_succ, List.set_cons_zero]
        refine takeH 15 (some 67) (.bool true) rfl rfl (by kernel_rfl) (by kernel_rfl) (by kernel_rfl) (fun _ _ _ h => h) rfl (fun wq hS => by go_simp) HS6.out ?_
        try simp only [Act.put, List.setIfInBounds_toArray, List.set_cons_succ, List.set_cons_zero]
        refine takeH 16 (some 68) (.bool true) rfl rfl (by kernel_rfl) (by kernel_rfl) (by kernel_rfl) (fun _ _ _ h => h) rfl (fun wq hS => by go_simp) HS6.out ?_
        try simp only [Act.put, List.setIfInBounds_toArray, List.set_cons_succ, List.set_cons_zero]
        refine takeH 17 (some 69) (yv) rfl rfl (by kernel_rfl) (by kernel_rfl) (by kernel_rfl) (fun _ _ _ h => h) rfl (fun wq hS => by go_simp) HS6.out ?_
        try simp only [Act.put, List.setIfInBounds_toArray, List.set_cons_succ, List.set_cons_zero]
        refine takeH 19 (some 71) (.int .i64 t) rfl rfl (by kernel_rfl) (by kernel_rfl) (by kernel_rfl) (fun _ _ _ h => h) rfl (fun wq hS => by go_simp) HS6.out ?_
        try simp only [Act.put, List.setIfInBounds_toArray, List.set_cons_succ, List.set_cons_zero]
        refine oneH 18 (by kernel_rfl) rfl rfl fun K hK => ?_
        go_simp
        refine (SY.out _ _ HYv6.out).mono ?_
        rintro e v7 ⟨rfl, rfl⟩
        refine hK _ _ HS6.out ?_
        clear hK K
        try simp only [Act.put, List.setIfInBounds_toArray, List.set_cons_succ, List.set_cons_zero]
        refine takeH 20 (some 72) (.bool true) rfl rfl (by kernel_rfl) (by kernel_rfl) (by kernel_rfl) (fun _ _ _ h => h) rfl (fun wq hS => by go_simp) HS6.out ?_
        try simp only [Act.put, List.setIfInBounds_toArray, List.set_cons_succ, List.set_cons_zero]
        refine takeH 21 (some 73) (.bool true) rfl rfl (by kernel_rfl) (by kernel_rfl) (by kernel_rfl) (fun _ _ _ h => h) rfl (fun wq hS => by go_simp) HS6.out ?_
        try simp only [Act.put, List.setIfInBounds_toArray, List.set_cons_succ, List.set_cons_zero]
        refine takeH 22 (some 74) (.bool true) rfl rfl (by kernel_rfl) (by kernel_rfl) (by kernel_rfl) (fun _ _ _ h => h) rfl (fun wq hS => by go_simp) HS6.out ?_
        try simp only [Act.put, List.setIfInBounds_toArray, List.set_cons_succ, List.set_cons_zero]
        refine takeH 23 (some 75) (xv) rfl rfl (by kernel_rfl) (by kernel_rfl) (by kernel_rfl) (fun _ _ _ h => h) rfl (fun wq hS => by go_simp) HS6.out ?_
        try simp only [Act.put, List.setIfInBounds_toArray, List.set_cons_succ, List.set_cons_zero]
        refine takeH 24 (some 76) (.slice (some ⟨b9, o9, none⟩) n sc) rfl rfl (by kernel_rfl) (by kernel_rfl) (by kernel_rfl) (fun _ _ _ h => h) rfl (fun wq hS => by go_simp) HS6.out ?_
        try simp only [Act.put, List.setIfInBounds_toArray, List.set_cons_succ, List.set_cons_zero]
        refine oneH 25 (by kernel_rfl) rfl rfl fun K hK => ?_
        go_simp
        refine (IA.out _ _ _ HXv6.out HAv6.out).mono ?_
        rintro e v8 ⟨rfl, hb⟩
        have HS8 := Lib.hid (stay HS6.out hb)
        have HXv8 := Lib.hid ((HXv6.out).below hb)
        have HYv8 := Lib.hid ((HYv6.out).below hb)
        have HAv8 := Lib.hid ((HAv6.out).below hb)
        have HBv8 := Lib.hid ((HBv6.out).below hb)
        have HPv8 := Lib.hid ((HPv6.out).below hb)
        have HQv8 := Lib.hid ((HQv6.out).below hb)
        have HFv8 := Lib.hid ((HFv6.out).below hb)
        have HHv8 := Lib.hid ((HHv6.out).below hb)
        refine hK _ _ HS8.out ?_
        clear hK K hb
        try simp only [Act.put, List.setIfInBounds_toArray, List.set_cons_succ, List.set_cons_zero]
        refine takeH 26 (some 78) (.bool true) rfl rfl (by kernel_rfl) (by kernel_rfl) (by kernel_rfl) (fun _ _ _ h => h) rfl (fun wq hS => by go_simp) HS8.out ?_
        try simp only [Act.put, List.setIfInBounds_toArray, List.set_cons_succ, List.set_cons_zero]
        refine takeH 27 (some 79) (.bool true) rfl rfl (by kernel_rfl) (by kernel_rfl) (by kernel_rfl) (fun _ _ _ h => h) rfl (fun wq hS => by go_simp) HS8.out ?_
        try simp only [Act.put, List.setIfInBounds_toArray, List.set_cons_succ, List.set_cons_zero]
        refine takeH 28 (some 80) (yv) rfl rfl (by kernel_rfl) (by kernel_rfl) (by kernel_rfl) (fun _ _ _ h => h) rfl (fun wq hS => by go_simp) HS8.out ?_
        try simp only [Act.put, List.setIfInBounds_toArray, List.set_cons_succ, List.set_cons_zero]
        refine takeH 29 (some 81) (.slice ta k tc) rfl rfl (by kernel_rfl) (by kernel_rfl) (by kernel_rfl) (fun _ _ _ h => h) rfl (fun wq hS => by go_simp) HS8.out ?_
        try simp only [Act.put, List.setIfInBounds_toArray, List.set_cons_succ, List.set_cons_zero]
        refine oneH 30 (by kernel_rfl) rfl rfl fun K hK => ?_
        go_simp
        refine (IB.out _ _ _ HYv8.out HBv8.out).mono ?_
        rintro e v9 ⟨rfl, hb⟩
        have HS9 := Lib.hid (stay HS8.out hb)
        have HXv9 := Lib.hid ((HXv8.out).below hb)
        have HYv9 := Lib.hid ((HYv8.out).below hb)
        have HAv9 := Lib.hid ((HAv8.out).below hb)
        have HBv9 := Lib.hid ((HBv8.out).below hb)
        have HPv9 := Lib.hid ((HPv8.out).below hb)
        have HQv9 := Lib.hid ((HQv8.out).below hb)
        have HFv9 := Lib.hid ((HFv8.out).below hb)
        have HHv9 := Lib.hid ((HHv8.out).below hb)
        refine hK _ _ HS9.out ?_
        clear hK K hb
        try simp only [Act.put, List.setIfInBounds_toArray, List.set_cons_succ, List.set_cons_zero]
        refine takeH 31 (some 83) (.bool true) rfl rfl (by kernel_rfl) (by kernel_rfl) (by kernel_rfl) (fun _ _ _ h => h) rfl (fun wq hS => by go_simp) HS9.out ?_
        try simp only [Act.put, List.setIfInBounds_toArray, List.set_cons_succ, List.set_cons_zero]
        refine takeH 32 (some 84) (.bool true) rfl rfl (by kernel_rfl) (by kernel_rfl) (by kernel_rfl) (fun _ _ _ h => h) rfl (fun wq hS => by go_simp) HS9.out ?_
        try simp only [Act.put, List.setIfInBounds_toArray, List.set_cons_succ, List.set_cons_zero]
        refine oneH 33 (by kernel_rfl) rfl rfl fun K hK => ?_
        go_simp
        refine (HK.out _ ).mono ?_
        rintro e v10 ⟨rfl, hb⟩
        have HS10 := Lib.hid (stay HS9.out hb)
        have HXv10 := Lib.hid ((HXv9.out).below hb)
        have HYv10 := Lib.hid ((HYv9.out).below hb)
        have HAv10 := Lib.hid ((HAv9.out).below hb)
        have HBv10 := Lib.hid ((HBv9.out).below hb)
        have HPv10 := Lib.hid ((HPv9.out).below hb)
        have HQv10 := Lib.hid ((HQv9.out).below hb)
        have HFv10 := Lib.hid ((HFv9.out).below hb)
        have HHv10 := Lib.hid ((HHv9.out).below hb)
        refine hK _ _ HS10.out ?_
        clear hK K hb
        try simp only [Act.put, List.setIfInBounds_toArray, List.set_cons_succ, List.set_cons_zero]
        refine takeH 34 (some 86) (.bool true) rfl rfl (by kernel_rfl) (by kernel_rfl) (by kernel_rfl) (fun _ _ _ h => h) rfl (fun wq hS => by go_simp) HS10.out ?_
        try simp only [Act.put, List.setIfInBounds_toArray, List.set_cons_succ, List.set_cons_zero]
        refine takeH 35 (some 6) (.bool true) rfl rfl (by kernel_rfl) (by kernel_rfl) (by kernel_rfl) (fun _ _ _ h => h) rfl (fun wq hS => by go_simp) HS10.out ?_
        try simp only [Act.put, List.setIfInBounds_toArray, List.set_cons_succ, List.set_cons_zero]
        refine wpAnyH_done (by kernel_rfl) ?_ _
        go_wp2_with fail
        go_ret
        exact ⟨rfl, stay HV2.out HS10.out⟩
theorem tells_any (g : Gm) (a b : List Int) (av bv : Value) (w : World) (hs : IntsAt w av a) (ks : IntsAt w bv b) : Calls Try.prog 3 #[g.v, av, bv] w fun e w' => e = .returned (.bool true) ∧ Below w.heap.size w w' := by
  by_cases ha : a.length ≤ 300
  · by_cases hb : b.length ≤ 60
    · exact tells_yes g a b ha hb av bv w hs ks
    · exact tells_big2 g a b ha (by omega) av bv w hs ks
  · exact tells_big1 g a b (by omega) av bv w hs ks
end Go.Proofs.Ytieliobkcbpjiaa
