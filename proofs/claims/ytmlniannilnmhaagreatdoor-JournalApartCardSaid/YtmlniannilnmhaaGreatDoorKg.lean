/- JournalApart's walk. -/
import Derived.Test.YtmlniannilnmhaaGreatDoorKq
namespace Go.Proofs.YtmlniannilnmhaaGreatDoor
set_option linter.unusedSimpArgs false
set_option linter.unusedVariables false
open Go.RowKit

section
variable {w : World}
set_option maxRecDepth 100000 in
set_option maxHeartbeats 8000000 in
theorem japart_any (hv : Vars w) (g : Pl.Gm) (gs : List (Value × List (It × Value))) (ng : gs.length ≤ 9223372036854775807) (sv : Value) (hg : GroupsAt w sv gs) (y : Int) (hy : Byte y) : Calls Tryz.prog 4 #[g.v, sv, .int .u8 y] w fun e w' => e = .returned (.bool true) ∧ Below w.heap.size w w' := by
  have HV := Lib.hid hv
  have HGS := Lib.hid hg
  have HY := Lib.hid hy
  obtain ⟨ga, gc, hsv, -⟩ := hg
  obtain ⟨N, hK⟩ : ∃ N, gs.length = N := ⟨_, rfl⟩
  rw [hK] at hsv
  subst hsv
  have HK := Lib.hid hK
  clear hv hy hK ng
  go_enter Tryz.func4, Tryz.ntmps4
  go_upto_region 0 with fail
  refine wp_region_lit ?_
  refine box_g rfl rfl ?_
  try simp only [Act.put, List.setIfInBounds_toArray, List.set_cons_succ, List.set_cons_zero]
  intro w1 hV hb hl
  try simp only [Act.put, List.setIfInBounds_toArray, List.set_cons_succ, List.set_cons_zero]
  have HG1 := Lib.hid hV
  have HB1 := Lib.hid hb
  have HV1 := Lib.hid (Vars.below (Nat.le_refl _) hb HV.out)
  clear hV hb hl
  refine takeL (.bool false) rfl (by go_simp) ?_
  try simp only [Act.put, List.setIfInBounds_toArray, List.set_cons_succ, List.set_cons_zero]
  refine wpList_nil ?_
  have q0 := HG1.out.cell (i := 0) rfl
  have q1 := HG1.out.cell (i := 1) rfl
  have q2 := HG1.out.cell (i := 2) rfl
  have q3 := HG1.out.cell (i := 3) rfl
  by_cases hok : g.Ok
  rotate_left
  · have HOK := Lib.hid hok
    clear hok
    go_wp2_with fail
    refine (Pl.rgood_no g HOK.out _).mono ?_
    rintro e w3 ⟨rfl, hb⟩
    have HB3 := Lib.hid (stay HB1.out hb)
    clear hb q0 q1 q2 q3
    go_wp2_with fail
    refine (wakes_any (Vars.below (Nat.le_refl _) HB3.out HV.out)).mono ?_
    rintro e w4 ⟨rfl, hb⟩
    have HB4 := Lib.hid (stay HB3.out hb)
    clear hb
    go_wp2_with fail
    go_ret
    exact ⟨rfl, HB4.out⟩
  have HOK := Lib.hid hok
  clear hok
  go_wp2_with fail
  refine (Pl.rgood_yes g HOK.out _).mono ?_
  rintro e w3 ⟨rfl, hb⟩
  have HB3 := Lib.hid (stay HB1.out hb)
  have HG3 := Lib.hid (HG1.out.below hb HG1.out.lt)
  have HV3 := Lib.hid (Vars.below (Nat.le_refl _) HB3.out HV.out)
  clear hb q0 q1 q2 q3 HG1 HV1
  by_cases h40 : 40 < N
  · have d40 : decide ((40 : Int) < (N : Int)) = true := decide_eq_true (by omega)
    go_wp2_with fail
    refine (wakes_any HV3.out).mono ?_
    rintro e w4 ⟨rfl, hb⟩
    have HB4 := Lib.hid (stay HB3.out hb)
    clear hb
    go_wp2_with fail
    go_ret
    exact ⟨rfl, HB4.out⟩
  have d40 : decide ((40 : Int) < (N : Int)) = false := decide_eq_false (by omega)
  have HK40 : Hid (N ≤ 40) := Lib.hid (by omega)
  obtain ⟨t, ht, ht1, ht2⟩ := Pl.Gm.total HOK.out
  have HT := Lib.hid ht
  have HTB : Hid (1 ≤ t ∧ t ≤ 1024) := Lib.hid ⟨ht1, ht2⟩
  clear h40 ht ht1 ht2
  go_upto_region 3 with fail
  refine wp_region_lit ?_
  clear d40
  refine takeL (.agg #[.int .i64 g.p, .int .i64 g.s, .int .i64 g.l, .int .i64 g.f]) rfl (by have q0 := HG3.out.cell (i := 0) rfl; have q1 := HG3.out.cell (i := 1) rfl; have q2 := HG3.out.cell (i := 2) rfl; have q3 := HG3.out.cell (i := 3) rfl; go_simp) ?_
  try simp only [Act.put, List.setIfInBounds_toArray, List.set_cons_succ, List.set_cons_zero]
  refine wpList_op rfl fun K hK => ?_
  go_simp
  refine (Pl.rof_yes g HOK.out _).mono ?_
  rintro e w5 ⟨rfl, hb⟩
  rw [HT.out]
  have HB5 := Lib.hid (stay HB3.out hb)
  have HG5 := Lib.hid (HG3.out.below hb HG3.out.lt)
  have HV5 := Lib.hid (Vars.below (Nat.le_refl _) HB5.out HV.out)
  have HS5 := Lib.hid (HGS.out.below HB5.out)
  clear hb HG3 HV3 HB3
  refine hK _ _ ?_
  clear hK K
  try simp only [Act.put, List.setIfInBounds_toArray, List.set_cons_succ, List.set_cons_zero]
  refine takeL (.int .i64 (t : Int)) rfl (by have z := field32m g.maps (t : Int) g.cap w5; go_simp) ?_
  try simp only [Act.put, List.setIfInBounds_toArray, List.set_cons_succ, List.set_cons_zero]
  refine wpList_op rfl fun K hK => ?_
  go_simp
  refine (De.dv_new w5 _ (Below.refl _ _) t HTB.out).mono ?_
  rintro e w6 ⟨b, F, rfl, hdv, hb, hF⟩
  have HG6 := Lib.hid (HG5.out.below hb HG5.out.lt)
  have HD6 := Lib.hid hdv
  have HBS : Hid (∀ wr, Below w5.heap.size w5 wr → Below w.heap.size w wr) := Lib.hid fun wr h => stay HB5.out h
  clear hdv hb hF
  refine hK _ _ ?_
  clear hK K
  try simp only [Act.put, List.setIfInBounds_toArray, List.set_cons_succ, List.set_cons_zero]
  refine takeL (.tuple #[.pointer (some ⟨b, 0, none⟩), .int .i64 0]) rfl (by go_simp) ?_
  try simp only [Act.put, List.setIfInBounds_toArray, List.set_cons_succ, List.set_cons_zero]
  refine takeL (.pointer (some ⟨b, 0, none⟩)) rfl (by go_simp) ?_
  try simp only [Act.put, List.setIfInBounds_toArray, List.set_cons_succ, List.set_cons_zero]
  refine takeL (.int .i64 0) rfl (by go_simp) ?_
  try simp only [Act.put, List.setIfInBounds_toArray, List.set_cons_succ, List.set_cons_zero]
  refine takeL (.pointer (some ⟨b, 0, none⟩)) rfl (by go_simp) ?_
  try simp only [Act.put, List.setIfInBounds_toArray, List.set_cons_succ, List.set_cons_zero]
  refine takeL (.int .i64 0) rfl (by go_simp) ?_
  try simp only [Act.put, List.setIfInBounds_toArray, List.set_cons_succ, List.set_cons_zero]
  refine wpList_nil ?_
  obtain ⟨sN, hsN⟩ : ∃ sN : Nat, g.s = (sN : Int) := ⟨g.s.toNat, by have := HOK.out.2.1; omega⟩
  have HSN : Hid (g.s = (sN : Int) ∧ 6 ≤ sN ∧ sN ≤ 16) := Lib.hid ⟨hsN, by have := HOK.out.2.1; omega, by have := HOK.out.2.1; omega⟩
  have hO0 : Hid (OwnN w6 w6.heap.size (.slice none 0 0) (odds 0)) := Lib.hid (OwnN.nil _ _)
  clear hsN
  go_wp2_with fail
  go_loopg [9, 10] sN (fun q u9 i wr => ∃ (j : Nat) (s9 : Value), s9 = u9 ∧ sN - j ≤ q ∧ i = .int .i64 (2 * (j : Int) + 1) ∧ j ≤ sN ∧ (∀ i : Nat, i < j → 2 * (i : Int) + 1 < g.s) ∧ OwnN wr w6.heap.size s9 (odds j) ∧ Below w6.heap.size w6 wr)
  case atStart => exact ⟨0, _, rfl, by omega, rfl, by omega, fun i hi => absurd hi (by omega), hO0.out, Below.refl _ _⟩
  case round =>
    obtain ⟨j, s9, rfl, hq, rfl, hjs, hlt, hown, hbel⟩ := hrel
    have HLT := Lib.hid hlt
    have HOW := Lib.hid hown
    have HBR := Lib.hid hbel
    have HGR := Lib.hid (HG6.out.below hbel HG6.out.lt)
    obtain ⟨fa, fc, hfv⟩ := hown.ints.form
    rw [odds_len] at hfv
    subst hfv
    clear hlt hown hbel
    have q1 := HGR.out.cell (i := 1) rfl
    by_cases hc : 2 * (j : Int) + 1 < g.s
    · have dc : decide (2 * (j : Int) + 1 < g.s) = true := decide_eq_true hc
      have hj2 : j + 1 ≤ sN ∧ 2 * (j : Int) + 1 < 16 := by have := HSN.out; omega
      have gw : IntKind.i64.wrap (2 * (j : Int) + 1 + 2) = 2 * (((j + 1 : Nat)) : Int) + 1 := by rw [wrap64 (by omega) (by omega)]; push_cast; omega
      have HLT2 : Hid (∀ i : Nat, i < j + 1 → 2 * (i : Int) + 1 < g.s) := Lib.hid fun i hi => by
        by_cases hij : i < j
        · exact HLT.out i hij
        · have : i = j := by omega
          subst this
          exact hc
      go_upto_region 8 with fail
      refine wp_region_lit ?_
      refine takeL (.slice fa j fc) rfl (by go_simp) ?_
      try simp only [Act.put, List.setIfInBounds_toArray, List.set_cons_succ, List.set_cons_zero]
      refine takeL (.int .i64 (2 * (j : Int) + 1)) rfl (by go_simp) ?_
      try simp only [Act.put, List.setIfInBounds_toArray, List.set_cons_succ, List.set_cons_zero]
      refine wpList_run (.slice (some ⟨wr.heap.size, 0, none⟩) 1 1) (wr.alloc (.cells #[.int .i64 (2 * (j : Int) + 1)] 3)) rfl (by go_simp) ?_
      try simp only [Act.put, List.setIfInBounds_toArray, List.set_cons_succ, List.set_cons_zero]
      have hb1 := alloc_bel wr (.cells #[.int .i64 (2 * (j : Int) + 1)] 3)
      have hl1 : IntsAt (wr.alloc (.cells #[.int .i64 (2 * (j : Int) + 1)] 3)) (.slice (some ⟨wr.heap.size, 0, none⟩) 1 1) [2 * (j : Int) + 1] := (OwnN.lit wr wr.heap.size (Nat.le_refl _) [2 * (j : Int) + 1] (by simp) _ rfl).ints
      refine app_LNg (HOW.out.below hb1) (Nat.le_trans HBR.out.size hb1.size) hl1 (by rw [odds_len]; simp only [List.length_cons, List.length_nil]; omega) rfl rfl rfl ?_
      intro tv w8 ho hg8
      try simp only [Act.put, List.setIfInBounds_toArray, List.set_cons_succ, List.set_cons_zero]
      rw [← odds_next] at ho
      have HO8 := Lib.hid ho
      have HB8 : Hid (Below w6.heap.size w6 w8) := Lib.hid ((stay HBR.out hb1).trans (grown_below hg8 (Nat.le_trans HBR.out.size hb1.size) fun k hk => (HOW.out.lt k hk).1))
      have HG8 := Lib.hid (HG6.out.below HB8.out HG6.out.lt)
      obtain ⟨ta, tc, htv⟩ := ho.ints.form
      rw [odds_len] at htv
      subst htv
      clear hb1 hl1 ho hg8 HOW HBR HGR q1
      refine takeL (.slice ta (j + 1) tc) rfl (by go_simp) ?_
      try simp only [Act.put, List.setIfInBounds_toArray, List.set_cons_succ, List.set_cons_zero]
      refine wpList_nil ?_
      go_wp2_with fail
      go_roundg (sN - (j + 1))
      case measure => omega
      case rel => exact ⟨j + 1, _, rfl, by omega, rfl, hj2.1, HLT2.out, HO8.out, HB8.out⟩
    · have dc : decide (2 * (j : Int) + 1 < g.s) = false := decide_eq_false hc
      clear hc hq
      obtain ⟨o, ho⟩ : ∃ o, y % (g.l + 1) = o := ⟨_, rfl⟩
      have hgl := HOK.out.2.2.1
      have ho0 : 0 ≤ o ∧ o ≤ g.l := by
        have h1 := Int.emod_nonneg y (show g.l + 1 ≠ 0 by omega)
        have h2 := Int.emod_lt_of_pos y (show 0 < g.l + 1 by omega)
        omega
      have gy : Hid (IntKind.i64.wrap y = y) := Lib.hid (wrap64 (by have := HY.out.1; omega) (by have := HY.out.2; omega))
      have gl1 : Hid (IntKind.i64.wrap (g.l + 1) = g.l + 1) := Lib.hid (wrap64 (by omega) (by omega))
      have glz : Hid (¬ g.l + 1 = 0) := Lib.hid (by omega)
      have gr : Hid (y.tmod (g.l + 1) = o) := Lib.hid (by rw [Int.tmod_eq_emod_of_nonneg HY.out.1, ho])
      have HGD := Lib.hid (odds_good HOK.out ho0.1 ho0.2 HLT.out 1)
      have HDR := Lib.hid (HD6.out.below HBR.out)
      have HOI := Lib.hid HOW.out.ints
      have HBJ : Hid (Below w5.heap.size w5 wr) := Lib.hid HDR.out.2
      clear ho ho0 hgl HOW HBR
      go_upto_region 9 with fail
      clear q1 dc
      refine startH (fun wq => Below wr.heap.size wr wq) (by kernel_rfl) ?_
      have HS0 : Hid (Below wr.heap.size wr wr.drew) := Lib.hid (Below.refl _ _).drew
      generalize wr.drew = u0 at *
      refine takeH 0 (some 48) (.pointer (some ⟨b, 0, none⟩)) rfl rfl (by kernel_rfl) (by kernel_rfl) (by kernel_rfl) (fun _ _ _ h => h) rfl (fun wq hS => by go_simp) HS0.out ?_
      try simp only [Act.put, List.setIfInBounds_toArray, List.set_cons_succ, List.set_cons_zero]
      refine takeH 1 (some 49) (.agg #[.int .i64 g.p, .int .i64 g.s, .int .i64 g.l, .int .i64 g.f]) rfl rfl (by kernel_rfl) (by kernel_rfl) (by kernel_rfl) (fun _ _ _ h => h) rfl (fun wq hS => by have q := HGR.out.below hS HGR.out.lt; have q0 := q.cell (i := 0) rfl; have q1 := q.cell (i := 1) rfl; have q2 := q.cell (i := 2) rfl; have q3 := q.cell (i := 3) rfl; go_simp) HS0.out ?_
      try simp only [Act.put, List.setIfInBounds_toArray, List.set_cons_succ, List.set_cons_zero]
      refine takeH 2 (some 50) (.int .u8 y) rfl rfl (by kernel_rfl) (by kernel_rfl) (by kernel_rfl) (fun _ _ _ h => h) rfl (fun wq hS => by go_simp) HS0.out ?_
      try simp only [Act.put, List.setIfInBounds_toArray, List.set_cons_succ, List.set_cons_zero]
      refine takeH 3 (some 51) (.int .i64 y) rfl rfl (by kernel_rfl) (by kernel_rfl) (by kernel_rfl) (fun _ _ _ h => h) rfl (fun wq hS => by have z := gy.out; go_simp) HS0.out ?_
      try simp only [Act.put, List.setIfInBounds_toArray, List.set_cons_succ, List.set_cons_zero]
      refine takeH 4 (some 52) (.pointer (some ⟨w.heap.size, 2, none⟩)) rfl rfl (by kernel_rfl) (by kernel_rfl) (by kernel_rfl) (fun _ _ _ h => h) rfl (fun wq hS => by go_simp) HS0.out ?_
      try simp only [Act.put, List.setIfInBounds_toArray, List.set_cons_succ, List.set_cons_zero]
      refine takeH 5 (some 53) (.int .i64 g.l) rfl rfl (by kernel_rfl) (by kernel_rfl) (by kernel_rfl) (fun _ _ _ h => h) rfl (fun wq hS => by have q2 := (HGR.out.below hS HGR.out.lt).cell (i := 2) rfl; go_simp) HS0.out ?_
      try simp only [Act.put, List.setIfInBounds_toArray, List.set_cons_succ, List.set_cons_zero]
      refine takeH 6 (some 54) (.int .i64 (g.l + 1)) rfl rfl (by kernel_rfl) (by kernel_rfl) (by kernel_rfl) (fun _ _ _ h => h) rfl (fun wq hS => by have z := gl1.out; go_simp) HS0.out ?_
      try simp only [Act.put, List.setIfInBounds_toArray, List.set_cons_succ, List.set_cons_zero]
      refine takeH 7 (some 55) (.int .i64 o) rfl rfl (by kernel_rfl) (by kernel_rfl) (by kernel_rfl) (fun _ _ _ h => h) rfl (fun wq hS => by have z := gr.out; have z0 := glz.out; go_simp) HS0.out ?_
      try simp only [Act.put, List.setIfInBounds_toArray, List.set_cons_succ, List.set_cons_zero]
      refine takeH 8 (some 56) (.slice fa j fc) rfl rfl (by kernel_rfl) (by kernel_rfl) (by kernel_rfl) (fun _ _ _ h => h) rfl (fun wq hS => by go_simp) HS0.out ?_
      try simp only [Act.put, List.setIfInBounds_toArray, List.set_cons_succ, List.set_cons_zero]
      refine takeH 9 (some 57) (.agg #[.int .i64 0, .int .i64 o, .int .u32 1, .slice fa j fc]) rfl rfl (by kernel_rfl) (by kernel_rfl) (by kernel_rfl) (fun _ _ _ h => h) rfl (fun wq hS => by exact exec_build _ _ _ _ 27 _ rfl #[(1, .int .i64 o), (2, .int .u32 1), (3, .slice fa j fc)] (by simp only [List.map_toArray, List.map_cons, List.map_nil]; rfl) _ (run_build wq 27 _ _ (built27b _ _ _ _ _))) HS0.out ?_
      try simp only [Act.put, List.setIfInBounds_toArray, List.set_cons_succ, List.set_cons_zero]
      refine oneH 10 (by kernel_rfl) rfl rfl fun K hK => ?_
      go_simp
      refine (new_law (W := w5) t HTB.out.2 g (fun _ => HT.out) ⟨0, o, 1, odds j⟩ (.slice fa j fc) (by rw [odds_len]; have := HSN.out; omega) (seqN 1 (by decide)) (HOI.out.below HS0.out) (HDR.out.below HS0.out) (Vars.below (Nat.le_refl _) (stay HBJ.out HS0.out) HV5.out)).mono ?_
      rintro e w7 (⟨hg, rfl, hb⟩ | ⟨hg, jb, tv0, rfl, hj, -, hb⟩)
      · rw [HGD.out] at hg
        cases hg
      have HS1 := Lib.hid (stay HS0.out hb)
      have HJ7 := Lib.hid hj
      refine hK _ _ HS1.out ?_
      clear hK K hg hj hb
      try simp only [Act.put, List.setIfInBounds_toArray, List.set_cons_succ, List.set_cons_zero]
      refine takeH 11 (some 47) (.tuple #[.pointer (some ⟨jb, 0, none⟩), .int .i64 0]) rfl rfl (by kernel_rfl) (by kernel_rfl) (by kernel_rfl) (fun _ _ _ h => h) rfl (fun wq hS => by go_simp) HS1.out ?_
      try simp only [Act.put, List.setIfInBounds_toArray, List.set_cons_succ, List.set_cons_zero]
      refine takeH 12 (some 59) (.pointer (some ⟨jb, 0, none⟩)) rfl rfl (by kernel_rfl) (by kernel_rfl) (by kernel_rfl) (fun _ _ _ h => h) rfl (fun wq hS => by go_simp) HS1.out ?_
      try simp only [Act.put, List.setIfInBounds_toArray, List.set_cons_succ, List.set_cons_zero]
      refine takeH 14 (some 11) (.pointer (some ⟨jb, 0, none⟩)) rfl rfl (by kernel_rfl) (by kernel_rfl) (by kernel_rfl) (fun _ _ _ h => h) rfl (fun wq hS => by go_simp) HS1.out ?_
      try simp only [Act.put, List.setIfInBounds_toArray, List.set_cons_succ, List.set_cons_zero]
      refine takeH 13 (some 60) (.int .i64 0) rfl rfl (by kernel_rfl) (by kernel_rfl) (by kernel_rfl) (fun _ _ _ h => h) rfl (fun wq hS => by go_simp) HS1.out ?_
      try simp only [Act.put, List.setIfInBounds_toArray, List.set_cons_succ, List.set_cons_zero]
      refine takeH 15 (some 12) (.int .i64 0) rfl rfl (by kernel_rfl) (by kernel_rfl) (by kernel_rfl) (fun _ _ _ h => h) rfl (fun wq hS => by go_simp) HS1.out ?_
      try simp only [Act.put, List.setIfInBounds_toArray, List.set_cons_succ, List.set_cons_zero]
      refine wpAnyH_done (by kernel_rfl) ?_ _
      have HG7 := Lib.hid (HGR.out.below HS1.out HGR.out.lt)
      clear HS0 HS1 HGR HDR HOI HBJ gy gl1 glz gr
      go_upto_region 12 with fail
      refine wp_region_lit ?_
      refine takeL (.agg #[.int .i64 g.p, .int .i64 g.s, .int .i64 g.l, .int .i64 g.f]) rfl (by have q0 := HG7.out.cell (i := 0) rfl; have q1 := HG7.out.cell (i := 1) rfl; have q2 := HG7.out.cell (i := 2) rfl; have q3 := HG7.out.cell (i := 3) rfl; go_simp) ?_
      try simp only [Act.put, List.setIfInBounds_toArray, List.set_cons_succ, List.set_cons_zero]
      refine wpList_op rfl fun K hK => ?_
      go_simp
      refine (Pl.rof_yes g HOK.out _).mono ?_
      rintro e w8 ⟨rfl, hb⟩
      rw [HT.out]
      have HJ8 := Lib.hid (HJ7.out.below hb)
      clear hb HJ7 HG7
      refine hK _ _ ?_
      clear hK K
      try simp only [Act.put, List.setIfInBounds_toArray, List.set_cons_succ, List.set_cons_zero]
      refine takeL (.int .i64 (t : Int)) rfl (by have z := field32m g.maps (t : Int) g.cap w8; go_simp) ?_
      try simp only [Act.put, List.setIfInBounds_toArray, List.set_cons_succ, List.set_cons_zero]
      refine wpList_run (.slice (some ⟨w8.heap.size, 0, none⟩) t t) (w8.alloc (.cells (Array.replicate t (Value.bool false)) 4)) rfl (by have z := makeB t HTB.out.2 w8; go_simp) ?_
      try simp only [Act.put, List.setIfInBounds_toArray, List.set_cons_succ, List.set_cons_zero]
      have hb1 := alloc_bel w8 (.cells (Array.replicate t (Value.bool false)) 4)
      have HJ9 := Lib.hid (HJ8.out.below hb1)
      have HM9 : Hid (Blk (w8.alloc (.cells (Array.replicate t (Value.bool false)) 4)) w8.heap.size (bools (List.replicate t false))) := Lib.hid (by
        have := Blk.new w8 (Array.replicate t (Value.bool false)) 4
        simpa [bools] using this)
      have HSF : Hid (Safe (w8.alloc (.cells (Array.replicate t (Value.bool false)) 4)) F jb w8.heap.size) := Lib.hid ⟨by simp, fun hF => by have := (HJ8.out.dv.lt _ hF).2; omega, by have := HJ8.out.blk.lt; omega⟩
      generalize w8.alloc (.cells (Array.replicate t (Value.bool false)) 4) = w9 at *
      have HMS : Hid (w5.heap.size ≤ w8.heap.size) := Lib.hid HJ8.out.bel.size
      generalize w8.heap.size = mb at *
      clear hb1 HJ8
      refine takeL (.slice (some ⟨mb, 0, none⟩) t t) rfl (by go_simp) ?_
      try simp only [Act.put, List.setIfInBounds_toArray, List.set_cons_succ, List.set_cons_zero]
      refine wpList_nil ?_
      have HA0 : Hid (Ap g t ⟨0, o, 1, odds j⟩ (De.newD t) (List.replicate t false) 0) := Lib.hid ⟨by show (-1 : Int) < 0; decide, newD_len t, Nat.le_refl _, Nat.le_refl _, ⟨Int.le_refl _, by simp⟩, .inl rfl, fun x hx => odds_odd hx, List.length_replicate, fun p hp => by
        rw [List.getElem?_replicate] at hp
        split at hp
        · cases hp
        · cases hp⟩
      go_wp2_with fail
      go_loopg [14] N (fun q i wr => ∃ (k : Nat) (Fk : Nat → Prop) (a : Ja) (d : De.D) (fv : Value) (B : List Bool), N - k ≤ q ∧ k ≤ N ∧ i = .int .i64 (k : Int) ∧ Jn w5 wr jb b Fk d g a fv ∧ Ap g t a d B k ∧ Blk wr mb (bools B) ∧ Safe wr Fk jb mb)
      case atStart => exact ⟨0, F, _, _, _, _, by omega, by omega, rfl, HJ9.out, HA0.out, HM9.out, HSF.out⟩
      case round =>
        obtain ⟨k, Fk, a, d, fv, B, hq, hk, rfl, hj, hap, hm, hsf⟩ := hrel
        have hN40 := HK40.out
        have HJ := Lib.hid hj
        have HAP := Lib.hid hap
        have HM := Lib.hid hm
        have HSM := Lib.hid hsf
        clear hj hap hm hsf
        by_cases hkN : k < N
        · have gk : decide ((k : Int) < (N : Int)) = true := decide_eq_true (by omega)
          have hk0 : (k : Int) < (N : Int) := by omega
          obtain ⟨x, hx⟩ : ∃ x, gs[k]? = some x := ⟨_, List.getElem?_eq_getElem (by rw [HK.out]; exact hkN)⟩
          obtain ⟨b0, o0, hga, hcell, hit, hxl⟩ : ∃ b0 o0, ga = some ⟨b0, o0, none⟩ ∧ w5.cell? ⟨b0, o0 + k, none⟩ = some x.1 ∧ ItemsAt w5 x.1 x.2 ∧ x.2.length ≤ 9223372036854775807 := by
            obtain ⟨a', c', e, hc⟩ := HS5.out
            obtain ⟨b0, o0, h1, h2, h3, h4⟩ := hc k x hx
            injection e with e1 e2 e3
            exact ⟨b0, o0, by rw [e1, h1], h2, h3, h4⟩
          subst hga
          obtain ⟨xv, xl⟩ := x
          simp only at hcell hit hxl
          obtain ⟨xa, xc, hxv⟩ := items_one hit
          obtain ⟨xn, hxn⟩ : ∃ n, xl.length = n := ⟨_, rfl⟩
          rw [hxn] at hxv
          subst hxv
          have HXN := Lib.hid hxn
          have HCX := Lib.hid hcell
          have HCL := Lib.hid (block_lt_of_cell hcell)
          have HIT := Lib.hid hit
          have HFA := Lib.hid fun w h => fair_any xl xl.length rfl hxl (.slice xa xn xc) w h
          obtain ⟨L, hL⟩ : ∃ L, xl.map (·.1) = L := ⟨_, rfl⟩
          rw [hL] at HFA
          have HLL := Lib.hid hL
          have HFL := Lib.hid fun (h : fair L = true) => show xn ≤ 100 by have := fair_len h; rw [← hL, List.length_map, hxn] at this; exact this
          obtain ⟨fr, hfr⟩ : ∃ x, fair L = x := ⟨_, rfl⟩
          rw [hfr] at HFA HFL
          have HCR : Hid (∀ wq, Below w5.heap.size w5 wq → wq.cell? ⟨b0, o0 + k, none⟩ = some (.slice xa xn xc)) := Lib.hid fun wq hq => (hq.cell (p := ⟨b0, o0 + k, none⟩) HCL.out).trans HCX.out
          clear hx hcell hit hxl hxn hL hfr
          go_upto_region 16 with fail
          refine wp_region_lit ?_
          refine takeL (.slice (some ⟨b0, o0, none⟩) N gc) rfl (by go_simp) ?_
          try simp only [Act.put, List.setIfInBounds_toArray, List.set_cons_succ, List.set_cons_zero]
          refine takeL (.int .i64 k) rfl (by go_simp) ?_
          try simp only [Act.put, List.setIfInBounds_toArray, List.set_cons_succ, List.set_cons_zero]
          refine takeL (.pointer (some ⟨b0, o0 + k, none⟩)) rfl (by go_simp) ?_
          try simp only [Act.put, List.setIfInBounds_toArray, List.set_cons_succ, List.set_cons_zero]
          refine takeL (.slice xa xn xc) rfl (by have q := HCR.out _ HJ.out.bel; go_simp) ?_
          try simp only [Act.put, List.setIfInBounds_toArray, List.set_cons_succ, List.set_cons_zero]
          refine wpList_op rfl fun K hK => ?_
          go_simp
          refine (HFA.out _ (HIT.out.below HJ.out.bel)).mono ?_
          rintro e wA ⟨rfl, rfl⟩
          cases fr
          · refine hK _ _ ?_
            clear hK K
            try simp only [Act.put, List.setIfInBounds_toArray, List.set_cons_succ, List.set_cons_zero]
            refine takeL (.bool true) rfl (by go_simp) ?_
            try simp only [Act.put, List.setIfInBounds_toArray, List.set_cons_succ, List.set_cons_zero]
            refine wpList_nil ?_
            go_wp2_with fail
            refine (wakes_any (Vars.below (Nat.le_refl _) HJ.out.bel HV5.out)).mono ?_
            rintro e wZ ⟨rfl, hb⟩
            have HBZ := Lib.hid (HBS.out _ (stay HJ.out.bel hb))
            clear hb
            go_wp2_with fail
            go_ret
            exact ⟨rfl, HBZ.out⟩
          refine hK _ _ ?_
          clear hK K
          try simp only [Act.put, List.setIfInBounds_toArray, List.set_cons_succ, List.set_cons_zero]
          refine takeL (.bool false) rfl (by go_simp) ?_
          try simp only [Act.put, List.setIfInBounds_toArray, List.set_cons_succ, List.set_cons_zero]
          refine wpList_nil ?_
          have HAF : Hid (a.free.length ≤ 16) := Lib.hid (Ja.few HJ.out.good)
          go_upto_region 18 with fail
          refine wp_region_lit ?_
          refine takeL (.pointer (some ⟨jb, 0, none⟩)) rfl (by go_simp) ?_
          try simp only [Act.put, List.setIfInBounds_toArray, List.set_cons_succ, List.set_cons_zero]
          refine wpList_op rfl fun K hK => ?_
          go_simp
          refine (at_any HJ.out).mono ?_
          rintro e wA ⟨tv, rfl, hot, hb⟩
          have HJA := Lib.hid (HJ.out.below hb)
          have HMA := Lib.hid (HM.out.below hb HM.out.lt)
          have HSA := Lib.hid (HSM.out.below hb)
          have HTA := Lib.hid hot.ints
          have HTL : Hid (∀ k, tv.ownBlock = some k → Safe wA Fk jb k) := Lib.hid fun k hk => by
            have h1 := hot.lt k hk
            exact ⟨h1.2, fun hF => by have := (HJ.out.dv.lt _ hF).2; omega, by have := HJ.out.blk.lt; omega⟩
          obtain ⟨ta, tc, htv⟩ := hot.ints.form
          obtain ⟨tn, htn⟩ : ∃ n, a.free.length = n := ⟨_, rfl⟩
          rw [htn] at htv
          subst htv
          clear hb hot htn HJ HM HSM
          refine hK _ _ ?_
          clear hK K
          try simp only [Act.put, List.setIfInBounds_toArray, List.set_cons_succ, List.set_cons_zero]
          refine alloc_g zero27 rfl ?_
          intro wB hA hb hl
          try simp only [Act.put, List.setIfInBounds_toArray, List.set_cons_succ, List.set_cons_zero]
          refine store_all (cs := #[.int .i64 a.seg, .int .i64 a.off, .int .u32 a.seq, .slice ta tn tc]) hA rfl info27 (at_one _ _ _ _ _ _) rfl rfl rfl ?_
          intro wC hD hO hlD
          try simp only [Act.put, List.setIfInBounds_toArray, List.set_cons_succ, List.set_cons_zero]
          have hbb : Below wA.heap.size wA wC := hb.trans (hO.below hb.size fun k hk => Nat.le_of_eq hk.symm)
          have HJC := Lib.hid (HJA.out.below hbb)
          have HMC := Lib.hid (HMA.out.below hbb HMA.out.lt)
          have HSC := Lib.hid (HSA.out.below hbb)
          have HTC := Lib.hid (HTA.out.below hbb)
          have HTLC : Hid (∀ k, Value.ownBlock (.slice ta tn tc) = some k → Safe wC Fk jb k) := Lib.hid fun k hk => (HTL.out k hk).below hbb
          have HWC := Lib.hid hD
          have HSW : Hid (Safe wC Fk jb wA.heap.size) := Lib.hid ⟨by omega, fun hF => by have := (HJA.out.dv.lt _ hF).2; omega, by have := HJA.out.blk.lt; omega⟩
          have HMW : Hid (mb < wA.heap.size) := Lib.hid HMA.out.lt
          generalize wA.heap.size = wb at *
          clear hA hb hl hD hO hlD hbb HJA HMA HSA HTA HTL
          refine wpList_nil ?_
          go_upto_region 19 with fail
          refine wp_region_lit ?_
          refine takeL (.pointer (some ⟨jb, 0, none⟩)) rfl (by go_simp) ?_
          try simp only [Act.put, List.setIfInBounds_toArray, List.set_cons_succ, List.set_cons_zero]
          refine takeL (.slice (some ⟨b0, o0, none⟩) N gc) rfl (by go_simp) ?_
          try simp only [Act.put, List.setIfInBounds_toArray, List.set_cons_succ, List.set_cons_zero]
          refine takeL (.int .i64 k) rfl (by go_simp) ?_
          try simp only [Act.put, List.setIfInBounds_toArray, List.set_cons_succ, List.set_cons_zero]
          refine takeL (.pointer (some ⟨b0, o0 + k, none⟩)) rfl (by go_simp) ?_
          try simp only [Act.put, List.setIfInBounds_toArray, List.set_cons_succ, List.set_cons_zero]
          refine takeL (.slice xa xn xc) rfl (by have q := HCR.out _ HJC.out.bel; go_simp) ?_
          try simp only [Act.put, List.setIfInBounds_toArray, List.set_cons_succ, List.set_cons_zero]
          have hS := HAP.out.S
          have hT := HAP.out.T
          have hLn := HAP.out.L
          refine wpList_op rfl fun K hK => ?_
          go_simp
          refine (put_law HJC.out HV5.out xl L HLL.out _ (by rw [HXN.out]; have := HFL.out rfl; omega) HIT.out (by rw [hS]; exact HTB.out.2) (by have := HK40.out; omega) (by have := HK40.out; omega)).mono ?_
          rintro e wD ⟨pv, rfl, F1, fv1, ho, hj, hon, hn, hpa⟩
          have hap := apart_put L HJC.out.good (show 4 + g.s * g.l ≤ (d.S.length : Int) by rw [hS, HT.out]; exact Int.le_refl _) HAP.out.F
          have hln := jput_len (g := g) (a := a) d (L := L) (by have := HOK.out.2.2.1.2; omega)
          have HSQ := Lib.hid HJC.out.seq
          have HGA := Lib.hid HJC.out.good
          generalize jput g a d L = p at *
          obtain ⟨e0, l0, a0, d0⟩ := p
          dsimp only at hap hln ho hj ⊢
          have HJD := Lib.hid hj
          have HSD := Lib.hid (HSC.out.next hon hn)
          have HMD := Lib.hid (HSC.out.blk hon HMC.out)
          have HWD := Lib.hid (HSW.out.blk hon HWC.out)
          have HTD := Lib.hid (HTC.out.onlyF hon fun b' o n c e hF => by
            have := HTLC.out b' (by rw [e]; rfl)
            exact hF.elim this.2.1 this.2.2)
          have HPD := Lib.hid ho.ints
          have HPL : Hid (∀ k, pv.ownBlock = some k → mb < k) := Lib.hid fun k hk => by have := (ho.lt k hk).1; have := HMC.out.lt; omega
          obtain ⟨pa, pc, hpv⟩ := ho.ints.form
          obtain ⟨pn, hpn⟩ : ∃ n, l0.length = n := ⟨_, rfl⟩
          rw [hpn] at hpv
          subst hpv
          clear ho hj hon hn hpa hS hT hLn HJC HMC HSC HTC HTLC HWC HSW
          refine hK _ _ ?_
          clear hK K
          try simp only [Act.put, List.setIfInBounds_toArray, List.set_cons_succ, List.set_cons_zero]
          refine takeL (.tuple #[.slice pa pn pc, .int .i64 e0]) rfl (by go_simp) ?_
          try simp only [Act.put, List.setIfInBounds_toArray, List.set_cons_succ, List.set_cons_zero]
          refine takeL (.slice pa pn pc) rfl (by go_simp) ?_
          try simp only [Act.put, List.setIfInBounds_toArray, List.set_cons_succ, List.set_cons_zero]
          refine takeL (.int .i64 e0) rfl (by go_simp) ?_
          try simp only [Act.put, List.setIfInBounds_toArray, List.set_cons_succ, List.set_cons_zero]
          refine takeL (.slice pa pn pc) rfl (by go_simp) ?_
          try simp only [Act.put, List.setIfInBounds_toArray, List.set_cons_succ, List.set_cons_zero]
          refine takeL (.int .i64 e0) rfl (by go_simp) ?_
          try simp only [Act.put, List.setIfInBounds_toArray, List.set_cons_succ, List.set_cons_zero]
          refine wpList_nil ?_
          go_upto_region 20 with fail
          refine wp_region_lit ?_
          refine takeL (.pointer (some ⟨jb, 0, none⟩)) rfl (by go_simp) ?_
          try simp only [Act.put, List.setIfInBounds_toArray, List.set_cons_succ, List.set_cons_zero]
          refine wpList_op rfl fun K hK => ?_
          go_simp
          refine (at_any HJD.out).mono ?_
          rintro e wE0 ⟨tv2, rfl, hot, hb⟩
          have HJ1 := Lib.hid (HJD.out.below hb)
          have HS1 := Lib.hid (HSD.out.below hb)
          have HM1 := Lib.hid (HMD.out.below hb HMD.out.lt)
          have HW1 := Lib.hid (HWD.out.below hb HWD.out.lt)
          have HT1 := Lib.hid (HTD.out.below hb)
          have HP1 := Lib.hid (HPD.out.below hb)
          have HT21 := Lib.hid hot.ints
          obtain ⟨ta2, tc2, htv⟩ := hot.ints.form
          obtain ⟨tn2, htn⟩ : ∃ n, a0.free.length = n := ⟨_, rfl⟩
          rw [htn] at htv
          subst htv
          clear hb hot htn HJD HSD HMD HWD HTD HPD
          refine hK _ _ ?_
          clear hK K
          try simp only [Act.put, List.setIfInBounds_toArray, List.set_cons_succ, List.set_cons_zero]
          refine alloc_g zero27 rfl ?_
          intro wE1 hA hb hl
          try simp only [Act.put, List.setIfInBounds_toArray, List.set_cons_succ, List.set_cons_zero]
          refine store_all (cs := #[.int .i64 a0.seg, .int .i64 a0.off, .int .u32 a0.seq, .slice ta2 tn2 tc2]) hA rfl info27 (at_one _ _ _ _ _ _) rfl rfl rfl ?_
          intro wE hD hO hlD
          try simp only [Act.put, List.setIfInBounds_toArray, List.set_cons_succ, List.set_cons_zero]
          have hbb : Below wE0.heap.size wE0 wE := hb.trans (hO.below hb.size fun k hk => Nat.le_of_eq hk.symm)
          have HJE := Lib.hid (HJ1.out.below hbb)
          have HSE := Lib.hid (HS1.out.below hbb)
          have HME := Lib.hid (HM1.out.below hbb HM1.out.lt)
          have HWE := Lib.hid (HW1.out.below hbb HW1.out.lt)
          have HTE := Lib.hid (HT1.out.below hbb)
          have HPE := Lib.hid (HP1.out.below hbb)
          have HT2E := Lib.hid (HT21.out.below hbb)
          have HNE := Lib.hid hD
          have HMN : Hid (mb < wE0.heap.size) := Lib.hid HM1.out.lt
          generalize wE0.heap.size = nb0 at *
          clear hA hb hl hD hO hlD hbb HJ1 HS1 HM1 HW1 HT1 HP1 HT21
          refine wpList_nil ?_
          rcases hap with ⟨he, hmay, hF, a1, hnx, hst, hpl, ha0⟩ | ⟨he, hpl, ha0, hd0⟩
          · obtain ⟨f, hf, hf4, hfn⟩ := hnx.first
            obtain ⟨n1, hn1⟩ : ∃ n1, (lay2 a.seq L).1.length = n1 := ⟨_, rfl⟩
            rw [hn1] at hnx ha0 hfn
            rw [hf] at hpl
            subst he hpl ha0
            obtain rfl : xn = pn := by rw [← hpn, List.length_map, lay2_at, ← HLL.out, List.length_map, HXN.out]
            have HNX := Lib.hid hnx
            have HST := Lib.hid hst
            have HF := Lib.hid hF
            have HFF := Lib.hid hf
            have HN1 := Lib.hid hn1
            have HLN := Lib.hid hln
            have HQ3 := Lib.hid (parts_val hmay)
            have HFB : Hid (4 ≤ f ∧ f + n1 ≤ t) := Lib.hid (by have := HT.out; omega)
            have hsq := seq_step HAP.out.seq (show k ≤ 40 by omega) HQ3.out
            have ds : decide ((a.seq + partsN L) % M32 ≤ a.seq) = false := decide_eq_false (by rw [hsq]; have := HQ3.out; omega)
            obtain ⟨sg, hsg⟩ : ∃ sg, a1.seg = sg := ⟨_, rfl⟩
            have n0 := HNE.out.cell (i := 0) (show _ = some (Value.int .i64 sg) by rw [← hsg]; rfl)
            have so1 : sg = 0 ∨ sg % 2 = 1 := by rw [← hsg]; exact (step_odd HST.out HAP.out.seg HAP.out.free).1
            have sp1 : 0 ≤ sg := by rw [← hsg]; exact HNX.out.seg.1
            clear hsg
            have n2 := HNE.out.cell (i := 2) rfl
            have w2 := HWE.out.cell (i := 2) rfl
            have qx := HCR.out _ HJE.out.bel
            clear hnx hst hF hf hn1 hln hmay hpn hf4 hfn hsq
            go_upto_region 24 with fail
            go_cut [142] from 117 to 142 (fun s wx => s = .bool false ∧ wx = wE)
            case first =>
              by_cases hz : sg = 0
              · subst hz
                go_wp2_with fail
                go_meet
                exact ⟨rfl, rfl⟩
              · have hm2 : sg.tmod 2 = 1 := by rw [Int.tmod_eq_emod_of_nonneg sp1]; omega
                clear so1
                go_wp2_with fail
                go_meet
                exact ⟨rfl, rfl⟩
            case rest =>
              obtain ⟨rfl, rfl⟩ := hcut
              clear ds so1 sp1 n0 n2 w2 qx HWE HTE HT2E
              go_wp2_with fail
              go_loopg [19] xn (fun q i wr => ∃ (c : Nat) (B' : List Bool), xn - c ≤ q ∧ c ≤ xn ∧ i = .int .i64 (c : Int) ∧ Jn w5 wr jb b F1 d0 g ⟨a1.seg, a1.off + n1, (a.seq + partsN L) % M32, a1.free⟩ fv1 ∧ upto (lay2 a.seq L).2 f c B B' ∧ Blk wr mb (bools B') ∧ Safe wr F1 jb mb ∧ Blk wr nb0 [.int .i64 a1.seg, .int .i64 (a1.off + (n1 : Int)), .int .u32 ((a.seq + partsN L) % M32), .slice ta2 tn2 tc2] ∧ IntsAt wr (.slice pa xn pc) ((lay2 a.seq L).2.map (plOf f)))
              case atStart => exact ⟨0, B, by omega, by omega, rfl, HJE.out, upto_zero _ _ _, HME.out, HSE.out, HNE.out, HPE.out⟩
              case round =>
                obtain ⟨c, B', hq2, hc, rfl, hj, hu, hm, hsf, hnb, hp⟩ := hrel
                have HJ := Lib.hid hj
                have HU := Lib.hid hu
                have HM := Lib.hid hm
                have HSM := Lib.hid hsf
                have HNB := Lib.hid hnb
                have HP := Lib.hid hp
                clear hj hu hm hsf hnb hp
                have hx100 := HFL.out (by first | rfl | trivial)
                by_cases hcx : c < xn
                · have gc : decide ((c : Int) < (xn : Int)) = true := decide_eq_true (by omega)
                  have hc0 : (c : Int) < (xn : Int) := by omega
                  obtain ⟨px, hpx⟩ : ∃ px, (lay2 a.seq L).2[c]? = some px := ⟨_, List.getElem?_eq_getElem (by rw [lay2_at, ← HLL.out, List.length_map, HXN.out]; exact hcx)⟩
                  obtain ⟨pb, po, hpa2, hpc⟩ : ∃ pb po, pa = some ⟨pb, po, none⟩ ∧ wr.cell? ⟨pb, po + c, none⟩ = some (.int .i64 (plOf f px)) := by
                    obtain ⟨a', c', e, hcc⟩ := HP.out
                    obtain ⟨b2, o2, h1, h2⟩ := hcc c _ (by rw [List.getElem?_map, hpx]; rfl)
                    injection e with e1 e2 e3
                    exact ⟨b2, o2, by rw [e1, h1], h2⟩
                  subst hpa2
                  have hpx1 : px < (n1 : Int) := by have := (lay2_mem (List.mem_of_getElem? hpx)).2; rw [HN1.out] at this; exact this
                  by_cases h0 : 0 ≤ px
                  · have hpo := plOf_nat (f := f) h0
                    rw [hpo] at hpc
                    have hpt : f + px.toNat < t := by have := HFB.out; omega
                    have hnew := upto_new HAP.out HGA.out HNX.out HST.out HFF.out HU.out hpx h0 hpx1 hpt
                    have hset := upto_set HU.out hpx h0
                    have hpl2 := first_place HNX.out h0 hpx1
                    rw [HFF.out] at hpl2
                    obtain ⟨pz, hpz⟩ : ∃ pz, f + px.toNat = pz := ⟨_, rfl⟩
                    rw [show (f : Int) + px = (pz : Int) by rw [← hpz]; push_cast; omega] at hpl2
                    rw [hpz] at hpc hpt hnew hset
                    have hz0 : ((pz : Int) == 0) = false := by rw [beq_eq_false_iff_ne]; have := HFB.out; omega
                    have HPZ := Lib.hid hpl2
                    have HPB : Hid (4 ≤ (pz : Int) ∧ (pz : Int) < 4 + g.s * g.l ∧ (pz : Int) < (t : Int)) := Lib.hid (by have := HFB.out; have := HT.out; omega)
                    have HNW := Lib.hid hnew
                    have HSE2 := Lib.hid hset
                    have HPC := Lib.hid hpc
                    have HPCL := Lib.hid (block_lt_of_cell hpc)
                    have gt : decide (a1.off + (n1 : Int) ≤ a1.off + px) = false := decide_eq_false (by omega)
                    clear hpo hpt hnew hset hpl2 hpz hpx
                    go_upto_region 30 with fail
                    clear hpc hz0 gc
                    have HGR := Lib.hid (HG5.out.below HJ.out.bel HG5.out.lt)
                    go_cut [20] from 154 to 159 (fun s wx => ∃ cb, s = .pointer (some ⟨cb, 0, none⟩) ∧ Blk wx cb [.int .i64 a1.seg, .int .i64 (a1.off + px), .bool true] ∧ Below wr.heap.size wr wx)
                    case first =>
                      refine startH (fun wq => Below wr.heap.size wr wq) (by kernel_rfl) ?_
                      have HS0 : Hid (Below wr.heap.size wr wr.drew) := Lib.hid (Below.refl _ _).drew
                      generalize wr.drew = u0 at *
                      refine takeH 0 (some 154) (.agg #[.int .i64 g.p, .int .i64 g.s, .int .i64 g.l, .int .i64 g.f]) rfl rfl (by kernel_rfl) (by kernel_rfl) (by kernel_rfl) (fun _ _ _ h => h) rfl (fun wq hS => by have q := HGR.out.below hS HGR.out.lt; have q0 := q.cell (i := 0) rfl; have q1 := q.cell (i := 1) rfl; have q2 := q.cell (i := 2) rfl; have q3 := q.cell (i := 3) rfl; go_simp) HS0.out ?_
                      try simp only [Act.put, List.setIfInBounds_toArray, List.set_cons_succ, List.set_cons_zero]
                      refine takeH 1 (some 155) (.slice (some ⟨pb, po, none⟩) xn pc) rfl rfl (by kernel_rfl) (by kernel_rfl) (by kernel_rfl) (fun _ _ _ h => h) rfl (fun wq hS => by go_simp) HS0.out ?_
                      try simp only [Act.put, List.setIfInBounds_toArray, List.set_cons_succ, List.set_cons_zero]
                      refine takeH 2 (some 156) (.int .i64 (c : Int)) rfl rfl (by kernel_rfl) (by kernel_rfl) (by kernel_rfl) (fun _ _ _ h => h) rfl (fun wq hS => by go_simp) HS0.out ?_
                      try simp only [Act.put, List.setIfInBounds_toArray, List.set_cons_succ, List.set_cons_zero]
                      refine takeH 3 (some 157) (.pointer (some ⟨pb, po + c, none⟩)) rfl rfl (by kernel_rfl) (by kernel_rfl) (by kernel_rfl) (fun _ _ _ h => h) rfl (fun wq hS => by have z := hc0; go_simp) HS0.out ?_
                      try simp only [Act.put, List.setIfInBounds_toArray, List.set_cons_succ, List.set_cons_zero]
                      refine takeH 4 (some 158) (.int .i64 (pz : Int)) rfl rfl (by kernel_rfl) (by kernel_rfl) (by kernel_rfl) (fun _ _ _ h => h) rfl (fun wq hS => by have q := (hS.cell (p := ⟨pb, po + c, none⟩) HPCL.out).trans HPC.out; go_simp) HS0.out ?_
                      try simp only [Act.put, List.setIfInBounds_toArray, List.set_cons_succ, List.set_cons_zero]
                      refine twoH 5 6 (by kernel_rfl) rfl rfl rfl rfl (fun K hK => ?_) (fun K hK => ?_)
                      · go_simp
                        refine (Pl.rwhere_in g HOK.out (pz : Int) HPB.out.1 HPB.out.2.1 _).mono ?_
                        rintro e u1 ⟨rfl, hb⟩
                        rw [HPZ.out.1, HPZ.out.2]
                        have HS1 := Lib.hid (stay HS0.out hb)
                        refine hK _ _ HS1.out ?_
                        clear hK K hb
                        try simp only [Act.put, List.setIfInBounds_toArray, List.set_cons_succ, List.set_cons_zero]
                        refine oneH 6 (by kernel_rfl) rfl rfl fun K hK => ?_
                        refine wp_runTo (some 20) rfl _ _ (exec_alloc _ _ _ 83 rfl _ zero83) ?_
                        have HC2 := Lib.hid (Blk.new u1 #[.int .i64 0, .int .i64 0, .bool false] 83)
                        have HS2 := Lib.hid (stay HS1.out (alloc_bel u1 (.cells #[.int .i64 0, .int .i64 0, .bool false] 83)))
                        refine hK _ _ HS2.out ?_
                        clear hK K
                        have HCW : Hid (wr.heap.size ≤ u1.heap.size) := Lib.hid HS1.out.size
                        generalize u1.alloc (.cells #[.int .i64 0, .int .i64 0, .bool false] 83) = u2 at *
                        generalize u1.heap.size = cb at *
                        try simp only [Act.put, List.setIfInBounds_toArray, List.set_cons_succ, List.set_cons_zero]
                        refine oneH 7 (by kernel_rfl) rfl rfl fun K hK => ?_
                        refine wp_store_all 83 _ _ rfl cb #[.int .i64 a1.seg, .int .i64 (a1.off + px), .bool true] rfl rfl _ HC2.out rfl info83 (where_one _ _ _) ?_
                        intro u3 hD hO
                        have HS3 : Hid (Below wr.heap.size wr u3) := Lib.hid (HS2.out.trans (hO.below HS2.out.size fun k hk => by rw [hk]; exact HCW.out))
                        have HD3 := Lib.hid hD
                        refine hK _ _ HS3.out ?_
                        clear hK K hD hO
                        try simp only [Act.put, List.setIfInBounds_toArray, List.set_cons_succ, List.set_cons_zero]
                        refine wpAnyH_done (by kernel_rfl) ?_ _
                        go_wp2_with fail
                        go_meet
                        exact ⟨cb, rfl, HD3.out, HS3.out⟩
                      · refine wp_runTo (some 20) rfl _ _ (exec_alloc _ _ _ 83 rfl _ zero83) ?_
                        have HC2 := Lib.hid (Blk.new u0 #[.int .i64 0, .int .i64 0, .bool false] 83)
                        have HS2 := Lib.hid (stay HS0.out (alloc_bel u0 (.cells #[.int .i64 0, .int .i64 0, .bool false] 83)))
                        refine hK _ _ HS2.out ?_
                        clear hK K
                        have HCW : Hid (wr.heap.size ≤ u0.heap.size) := Lib.hid HS0.out.size
                        generalize u0.alloc (.cells #[.int .i64 0, .int .i64 0, .bool false] 83) = u2 at *
                        generalize u0.heap.size = cb at *
                        try simp only [Act.put, List.setIfInBounds_toArray, List.set_cons_succ, List.set_cons_zero]
                        refine oneH 5 (by kernel_rfl) rfl rfl fun K hK => ?_
                        go_simp
                        refine (Pl.rwhere_in g HOK.out (pz : Int) HPB.out.1 HPB.out.2.1 _).mono ?_
                        rintro e u1 ⟨rfl, hb⟩
                        rw [HPZ.out.1, HPZ.out.2]
                        have HS1 := Lib.hid (stay HS2.out hb)
                        have HC3 := Lib.hid (HC2.out.below hb HC2.out.lt)
                        refine hK _ _ HS1.out ?_
                        clear hK K hb
                        try simp only [Act.put, List.setIfInBounds_toArray, List.set_cons_succ, List.set_cons_zero]
                        refine oneH 7 (by kernel_rfl) rfl rfl fun K hK => ?_
                        refine wp_store_all 83 _ _ rfl cb #[.int .i64 a1.seg, .int .i64 (a1.off + px), .bool true] rfl rfl _ HC3.out rfl info83 (where_one _ _ _) ?_
                        intro u3 hD hO
                        have HS3 : Hid (Below wr.heap.size wr u3) := Lib.hid (HS1.out.trans (hO.below HS1.out.size fun k hk => by rw [hk]; exact HCW.out))
                        have HD3 := Lib.hid hD
                        refine hK _ _ HS3.out ?_
                        clear hK K hD hO
                        try simp only [Act.put, List.setIfInBounds_toArray, List.set_cons_succ, List.set_cons_zero]
                        refine wpAnyH_done (by kernel_rfl) ?_ _
                        go_wp2_with fail
                        go_meet
                        exact ⟨cb, rfl, HD3.out, HS3.out⟩
                    case rest =>
                      obtain ⟨cb, rfl, hcb, hbx⟩ := hcut
                      have HJX := Lib.hid (HJ.out.below hbx)
                      have HMX := Lib.hid (HM.out.below hbx HM.out.lt)
                      have HSX := Lib.hid (HSM.out.below hbx)
                      have HNX2 := Lib.hid (HNB.out.below hbx HNB.out.lt)
                      have HPX := Lib.hid (HP.out.below hbx)
                      have hpt : (pz : Int) < (t : Int) := HPB.out.2.2
                      have c0 := hcb.cell (i := 0) rfl
                      have c1 := hcb.cell (i := 1) rfl
                      have c2 := hcb.cell (i := 2) rfl
                      have n0 := HNX2.out.cell (i := 0) rfl
                      have n1c := HNX2.out.cell (i := 1) rfl
                      have hpc := (hbx.cell (p := ⟨pb, po + c, none⟩) HPCL.out).trans HPC.out
                      have hmt := HMX.out.bool HNW.out
                      clear hcb hbx HJ HM HSM HNB HP
                      go_upto_region 33 with fail
                      refine wp_region_lit ?_
                      refine takeL (.slice (some ⟨mb, 0, none⟩) t t) rfl (by go_simp) ?_
                      try simp only [Act.put, List.setIfInBounds_toArray, List.set_cons_succ, List.set_cons_zero]
                      refine takeL (.slice (some ⟨pb, po, none⟩) xn pc) rfl (by go_simp) ?_
                      try simp only [Act.put, List.setIfInBounds_toArray, List.set_cons_succ, List.set_cons_zero]
                      refine takeL (.int .i64 (c : Int)) rfl (by go_simp) ?_
                      try simp only [Act.put, List.setIfInBounds_toArray, List.set_cons_succ, List.set_cons_zero]
                      refine takeL (.pointer (some ⟨pb, po + c, none⟩)) rfl (by go_simp) ?_
                      try simp only [Act.put, List.setIfInBounds_toArray, List.set_cons_succ, List.set_cons_zero]
                      refine takeL (.int .i64 (pz : Int)) rfl (by go_simp) ?_
                      try simp only [Act.put, List.setIfInBounds_toArray, List.set_cons_succ, List.set_cons_zero]
                      refine takeL (.pointer (some ⟨mb, pz, none⟩)) rfl (by go_simp) ?_
                      try simp only [Act.put, List.setIfInBounds_toArray, List.set_cons_succ, List.set_cons_zero]
                      clear c0 c1 c2 n0 n1c hpc gt
                      refine skipL (wc.setCell ⟨mb, pz, none⟩ (.bool true)) rfl (by have fz := HMX.out.frozen pz; go_simp) ?_
                      have hon : Only (fun k => k = mb) wc (wc.setCell ⟨mb, pz, none⟩ (.bool true)) := (Only.refl (fun k => k = mb) wc).setCell (p := ⟨mb, pz, none⟩) (.inl rfl) _
                      have HJY := Lib.hid (HJX.out.bools HMX.out hon HMS.out HSX.out.2.1 HSX.out.2.2)
                      have HMY := Lib.hid (HMX.out.setBool pz true)
                      have HSY : Hid (Safe (wc.setCell ⟨mb, pz, none⟩ (.bool true)) F1 jb mb) := Lib.hid ⟨Nat.lt_of_lt_of_le HSX.out.1 hon.size, HSX.out.2⟩
                      have HNY := Lib.hid (HNX2.out.only hon (by have := HMN.out; omega))
                      have HPY := Lib.hid (HPX.out.only hon fun b' o n c e => by have := HPL.out b' (by rw [e]; rfl); omega)
                      clear hon hmt
                      generalize wc.setCell ⟨mb, pz, none⟩ (.bool true) = wY at *
                      try simp only [Act.put, List.setIfInBounds_toArray, List.set_cons_succ, List.set_cons_zero]
                      refine wpList_nil ?_
                      go_wp2_with fail
                      go_roundg (xn - (c + 1))
                      case measure => omega
                      case rel => exact ⟨c + 1, _, by omega, by omega, by go_num, HJY.out, HSE2.out, HMY.out, HSY.out, HNY.out, HPY.out⟩
                  · have hpo : plOf (f : Int) px = 0 := by unfold plOf; rw [if_neg h0]
                    rw [hpo] at hpc
                    go_wp2_with fail
                    go_roundg (xn - (c + 1))
                    case measure => omega
                    case rel => exact ⟨c + 1, B', by omega, by omega, by go_num, HJ.out, upto_skip HU.out, HM.out, HSM.out, HNB.out, HP.out⟩
                · have gc : decide ((c : Int) < (xn : Int)) = false := decide_eq_false (by omega)
                  have HAN := Lib.hid (HAP.out.ok (show k ≤ 40 by omega) HGA.out HNX.out HST.out HFF.out HQ3.out HF.out HLN.out.1 HLN.out.2.1 HLN.out.2.2 HU.out fun j x hx => by have := (lay2_mem (List.mem_of_getElem? hx)).2; rw [HN1.out] at this; exact this)
                  go_wp2_with fail
                  go_roundg (N - (k + 1))
                  case measure => omega
                  case rel => exact ⟨k + 1, F1, _, _, _, B', by omega, by omega, by go_num, HJ.out, HAN.out, HM.out, HSM.out⟩
          · have ha0 := ha0.symm
            have hd0 := hd0.symm
            subst hpl ha0 hd0
            have hp0 : pn = 0 := by rw [← hpn]; rfl
            subst hp0
            clear hpn hln
            rcases he with rfl | rfl
            · skip
              go_upto_region 22 with fail
              refine startH (fun wq => Below wE.heap.size wE wq) (by kernel_rfl) ?_
              have HS0 : Hid (Below wE.heap.size wE wE.drew) := Lib.hid (Below.refl _ _).drew
              generalize wE.drew = u0 at *
              refine takeH 0 (some 99) (.int .i64 1) rfl rfl (by kernel_rfl) (by kernel_rfl) (by kernel_rfl) (fun _ _ _ h => h) rfl (fun wq hS => by go_simp) HS0.out ?_
              try simp only [Act.put, List.setIfInBounds_toArray, List.set_cons_succ, List.set_cons_zero]
              refine takeH 1 (some 100) (.bool false) rfl rfl (by kernel_rfl) (by kernel_rfl) (by kernel_rfl) (fun _ _ _ h => h) rfl (fun wq hS => by go_simp) HS0.out ?_
              try simp only [Act.put, List.setIfInBounds_toArray, List.set_cons_succ, List.set_cons_zero]
              refine takeH 2 (some 101) (.bool false) rfl rfl (by kernel_rfl) (by kernel_rfl) (by kernel_rfl) (fun _ _ _ h => h) rfl (fun wq hS => by go_simp) HS0.out ?_
              try simp only [Act.put, List.setIfInBounds_toArray, List.set_cons_succ, List.set_cons_zero]
              refine passH 3 (some 102) rfl rfl (by kernel_rfl) (by kernel_rfl) (by kernel_rfl) (fun _ _ _ h => h) rfl HS0.out ?_
              try simp only [Act.put, List.setIfInBounds_toArray, List.set_cons_succ, List.set_cons_zero]
              refine passH 4 (some 103) rfl rfl (by kernel_rfl) (by kernel_rfl) (by kernel_rfl) (fun _ _ _ h => h) rfl HS0.out ?_
              try simp only [Act.put, List.setIfInBounds_toArray, List.set_cons_succ, List.set_cons_zero]
              refine takeH 5 (some 104) (.bool false) rfl rfl (by kernel_rfl) (by kernel_rfl) (by kernel_rfl) (fun _ _ _ h => h) rfl (fun wq hS => by go_simp) HS0.out ?_
              try simp only [Act.put, List.setIfInBounds_toArray, List.set_cons_succ, List.set_cons_zero]
              refine takeH 6 (some 105) (.bool false) rfl rfl (by kernel_rfl) (by kernel_rfl) (by kernel_rfl) (fun _ _ _ h => h) rfl (fun wq hS => by go_simp) HS0.out ?_
              try simp only [Act.put, List.setIfInBounds_toArray, List.set_cons_succ, List.set_cons_zero]
              refine takeH 7 (some 106) (.slice pa 0 pc) rfl rfl (by kernel_rfl) (by kernel_rfl) (by kernel_rfl) (fun _ _ _ h => h) rfl (fun wq hS => by go_simp) HS0.out ?_
              try simp only [Act.put, List.setIfInBounds_toArray, List.set_cons_succ, List.set_cons_zero]
              refine takeH 8 (some 107) (.int .i64 0) rfl rfl (by kernel_rfl) (by kernel_rfl) (by kernel_rfl) (fun _ _ _ h => h) rfl (fun wq hS => by go_simp) HS0.out ?_
              try simp only [Act.put, List.setIfInBounds_toArray, List.set_cons_succ, List.set_cons_zero]
              refine takeH 9 (some 108) (.bool false) rfl rfl (by kernel_rfl) (by kernel_rfl) (by kernel_rfl) (fun _ _ _ h => h) rfl (fun wq hS => by go_simp) HS0.out ?_
              try simp only [Act.put, List.setIfInBounds_toArray, List.set_cons_succ, List.set_cons_zero]
              refine takeH 10 (some 109) (.bool false) rfl rfl (by kernel_rfl) (by kernel_rfl) (by kernel_rfl) (fun _ _ _ h => h) rfl (fun wq hS => by go_simp) HS0.out ?_
              try simp only [Act.put, List.setIfInBounds_toArray, List.set_cons_succ, List.set_cons_zero]
              refine takeH 11 (some 110) (.bool false) rfl rfl (by kernel_rfl) (by kernel_rfl) (by kernel_rfl) (fun _ _ _ h => h) rfl (fun wq hS => by go_simp) HS0.out ?_
              try simp only [Act.put, List.setIfInBounds_toArray, List.set_cons_succ, List.set_cons_zero]
              refine takeH 12 (some 111) (.agg #[.int .i64 a.seg, .int .i64 a.off, .int .u32 a.seq, .slice ta2 tn2 tc2]) rfl rfl (by kernel_rfl) (by kernel_rfl) (by kernel_rfl) (fun _ _ _ h => h) rfl (fun wq hS => by have q := HNE.out.below hS HNE.out.lt; have q0 := q.cell (i := 0) rfl; have q1 := q.cell (i := 1) rfl; have q2 := q.cell (i := 2) rfl; have q3 := q.cell (i := 3) rfl; go_simp) HS0.out ?_
              try simp only [Act.put, List.setIfInBounds_toArray, List.set_cons_succ, List.set_cons_zero]
              refine takeH 13 (some 112) (.agg #[.int .i64 a.seg, .int .i64 a.off, .int .u32 a.seq, .slice ta tn tc]) rfl rfl (by kernel_rfl) (by kernel_rfl) (by kernel_rfl) (fun _ _ _ h => h) rfl (fun wq hS => by have q := HWE.out.below hS HWE.out.lt; have q0 := q.cell (i := 0) rfl; have q1 := q.cell (i := 1) rfl; have q2 := q.cell (i := 2) rfl; have q3 := q.cell (i := 3) rfl; go_simp) HS0.out ?_
              try simp only [Act.put, List.setIfInBounds_toArray, List.set_cons_succ, List.set_cons_zero]
              refine oneH 14 (by kernel_rfl) rfl rfl fun K hK => ?_
              go_simp
              refine (lown_any a (.slice ta tn tc) (by have := HAF.out; omega) (HTE.out.below HS0.out)).mono ?_
              rintro e u1 ⟨tv2, rfl, hot, hb⟩
              have HS1 := Lib.hid (stay HS0.out hb)
              have HT1 := Lib.hid hot.ints
              refine hK _ _ HS1.out ?_
              clear hK K hb hot
              try simp only [Act.put, List.setIfInBounds_toArray, List.set_cons_succ, List.set_cons_zero]
              refine oneH 15 (by kernel_rfl) rfl rfl fun K hK => ?_
              go_simp
              refine (same_yes a (.slice ta2 tn2 tc2) tv2 (by have := HAF.out; omega) (HT2E.out.below HS1.out) HT1.out).mono ?_
              rintro e u2 ⟨rfl, hb⟩
              have HS2 := Lib.hid (stay HS1.out hb)
              refine hK _ _ HS2.out ?_
              clear hK K hb HT1
              try simp only [Act.put, List.setIfInBounds_toArray, List.set_cons_succ, List.set_cons_zero]
              refine takeH 16 (some 115) (.bool false) rfl rfl (by kernel_rfl) (by kernel_rfl) (by kernel_rfl) (fun _ _ _ h => h) rfl (fun wq hS => by go_simp) HS2.out ?_
              try simp only [Act.put, List.setIfInBounds_toArray, List.set_cons_succ, List.set_cons_zero]
              refine takeH 17 (some 116) (.bool false) rfl rfl (by kernel_rfl) (by kernel_rfl) (by kernel_rfl) (fun _ _ _ h => h) rfl (fun wq hS => by go_simp) HS2.out ?_
              try simp only [Act.put, List.setIfInBounds_toArray, List.set_cons_succ, List.set_cons_zero]
              refine wpAnyH_done (by kernel_rfl) ?_ _
              have HJF := Lib.hid (HJE.out.below HS2.out)
              have HMF := Lib.hid (HME.out.below HS2.out HME.out.lt)
              have HSMF := Lib.hid (HSE.out.below HS2.out)
              go_wp2_with fail
              go_roundg (N - (k + 1))
              case measure => omega
              case rel => exact ⟨k + 1, F1, a, _, _, B, by omega, by omega, by go_num, HJF.out, HAP.out.skip, HMF.out, HSMF.out⟩
            · skip
              go_upto_region 22 with fail
              refine startH (fun wq => Below wE.heap.size wE wq) (by kernel_rfl) ?_
              have HS0 : Hid (Below wE.heap.size wE wE.drew) := Lib.hid (Below.refl _ _).drew
              generalize wE.drew = u0 at *
              refine takeH 0 (some 99) (.int .i64 14) rfl rfl (by kernel_rfl) (by kernel_rfl) (by kernel_rfl) (fun _ _ _ h => h) rfl (fun wq hS => by go_simp) HS0.out ?_
              try simp only [Act.put, List.setIfInBounds_toArray, List.set_cons_succ, List.set_cons_zero]
              refine takeH 1 (some 100) (.bool true) rfl rfl (by kernel_rfl) (by kernel_rfl) (by kernel_rfl) (fun _ _ _ h => h) rfl (fun wq hS => by go_simp) HS0.out ?_
              try simp only [Act.put, List.setIfInBounds_toArray, List.set_cons_succ, List.set_cons_zero]
              refine takeH 2 (some 101) (.bool true) rfl rfl (by kernel_rfl) (by kernel_rfl) (by kernel_rfl) (fun _ _ _ h => h) rfl (fun wq hS => by go_simp) HS0.out ?_
              try simp only [Act.put, List.setIfInBounds_toArray, List.set_cons_succ, List.set_cons_zero]
              refine takeH 3 (some 102) (.int .i64 14) rfl rfl (by kernel_rfl) (by kernel_rfl) (by kernel_rfl) (fun _ _ _ h => h) rfl (fun wq hS => by go_simp) HS0.out ?_
              try simp only [Act.put, List.setIfInBounds_toArray, List.set_cons_succ, List.set_cons_zero]
              refine takeH 4 (some 103) (.bool false) rfl rfl (by kernel_rfl) (by kernel_rfl) (by kernel_rfl) (fun _ _ _ h => h) rfl (fun wq hS => by go_simp) HS0.out ?_
              try simp only [Act.put, List.setIfInBounds_toArray, List.set_cons_succ, List.set_cons_zero]
              refine takeH 5 (some 104) (.bool false) rfl rfl (by kernel_rfl) (by kernel_rfl) (by kernel_rfl) (fun _ _ _ h => h) rfl (fun wq hS => by go_simp) HS0.out ?_
              try simp only [Act.put, List.setIfInBounds_toArray, List.set_cons_succ, List.set_cons_zero]
              refine takeH 6 (some 105) (.bool false) rfl rfl (by kernel_rfl) (by kernel_rfl) (by kernel_rfl) (fun _ _ _ h => h) rfl (fun wq hS => by go_simp) HS0.out ?_
              try simp only [Act.put, List.setIfInBounds_toArray, List.set_cons_succ, List.set_cons_zero]
              refine takeH 7 (some 106) (.slice pa 0 pc) rfl rfl (by kernel_rfl) (by kernel_rfl) (by kernel_rfl) (fun _ _ _ h => h) rfl (fun wq hS => by go_simp) HS0.out ?_
              try simp only [Act.put, List.setIfInBounds_toArray, List.set_cons_succ, List.set_cons_zero]
              refine takeH 8 (some 107) (.int .i64 0) rfl rfl (by kernel_rfl) (by kernel_rfl) (by kernel_rfl) (fun _ _ _ h => h) rfl (fun wq hS => by go_simp) HS0.out ?_
              try simp only [Act.put, List.setIfInBounds_toArray, List.set_cons_succ, List.set_cons_zero]
              refine takeH 9 (some 108) (.bool false) rfl rfl (by kernel_rfl) (by kernel_rfl) (by kernel_rfl) (fun _ _ _ h => h) rfl (fun wq hS => by go_simp) HS0.out ?_
              try simp only [Act.put, List.setIfInBounds_toArray, List.set_cons_succ, List.set_cons_zero]
              refine takeH 10 (some 109) (.bool false) rfl rfl (by kernel_rfl) (by kernel_rfl) (by kernel_rfl) (fun _ _ _ h => h) rfl (fun wq hS => by go_simp) HS0.out ?_
              try simp only [Act.put, List.setIfInBounds_toArray, List.set_cons_succ, List.set_cons_zero]
              refine takeH 11 (some 110) (.bool false) rfl rfl (by kernel_rfl) (by kernel_rfl) (by kernel_rfl) (fun _ _ _ h => h) rfl (fun wq hS => by go_simp) HS0.out ?_
              try simp only [Act.put, List.setIfInBounds_toArray, List.set_cons_succ, List.set_cons_zero]
              refine takeH 12 (some 111) (.agg #[.int .i64 a.seg, .int .i64 a.off, .int .u32 a.seq, .slice ta2 tn2 tc2]) rfl rfl (by kernel_rfl) (by kernel_rfl) (by kernel_rfl) (fun _ _ _ h => h) rfl (fun wq hS => by have q := HNE.out.below hS HNE.out.lt; have q0 := q.cell (i := 0) rfl; have q1 := q.cell (i := 1) rfl; have q2 := q.cell (i := 2) rfl; have q3 := q.cell (i := 3) rfl; go_simp) HS0.out ?_
              try simp only [Act.put, List.setIfInBounds_toArray, List.set_cons_succ, List.set_cons_zero]
              refine takeH 13 (some 112) (.agg #[.int .i64 a.seg, .int .i64 a.off, .int .u32 a.seq, .slice ta tn tc]) rfl rfl (by kernel_rfl) (by kernel_rfl) (by kernel_rfl) (fun _ _ _ h => h) rfl (fun wq hS => by have q := HWE.out.below hS HWE.out.lt; have q0 := q.cell (i := 0) rfl; have q1 := q.cell (i := 1) rfl; have q2 := q.cell (i := 2) rfl; have q3 := q.cell (i := 3) rfl; go_simp) HS0.out ?_
              try simp only [Act.put, List.setIfInBounds_toArray, List.set_cons_succ, List.set_cons_zero]
              refine oneH 14 (by kernel_rfl) rfl rfl fun K hK => ?_
              go_simp
              refine (lown_any a (.slice ta tn tc) (by have := HAF.out; omega) (HTE.out.below HS0.out)).mono ?_
              rintro e u1 ⟨tv2, rfl, hot, hb⟩
              have HS1 := Lib.hid (stay HS0.out hb)
              have HT1 := Lib.hid hot.ints
              refine hK _ _ HS1.out ?_
              clear hK K hb hot
              try simp only [Act.put, List.setIfInBounds_toArray, List.set_cons_succ, List.set_cons_zero]
              refine oneH 15 (by kernel_rfl) rfl rfl fun K hK => ?_
              go_simp
              refine (same_yes a (.slice ta2 tn2 tc2) tv2 (by have := HAF.out; omega) (HT2E.out.below HS1.out) HT1.out).mono ?_
              rintro e u2 ⟨rfl, hb⟩
              have HS2 := Lib.hid (stay HS1.out hb)
              refine hK _ _ HS2.out ?_
              clear hK K hb HT1
              try simp only [Act.put, List.setIfInBounds_toArray, List.set_cons_succ, List.set_cons_zero]
              refine takeH 16 (some 115) (.bool false) rfl rfl (by kernel_rfl) (by kernel_rfl) (by kernel_rfl) (fun _ _ _ h => h) rfl (fun wq hS => by go_simp) HS2.out ?_
              try simp only [Act.put, List.setIfInBounds_toArray, List.set_cons_succ, List.set_cons_zero]
              refine takeH 17 (some 116) (.bool false) rfl rfl (by kernel_rfl) (by kernel_rfl) (by kernel_rfl) (fun _ _ _ h => h) rfl (fun wq hS => by go_simp) HS2.out ?_
              try simp only [Act.put, List.setIfInBounds_toArray, List.set_cons_succ, List.set_cons_zero]
              refine wpAnyH_done (by kernel_rfl) ?_ _
              have HJF := Lib.hid (HJE.out.below HS2.out)
              have HMF := Lib.hid (HME.out.below HS2.out HME.out.lt)
              have HSMF := Lib.hid (HSE.out.below HS2.out)
              go_wp2_with fail
              go_roundg (N - (k + 1))
              case measure => omega
              case rel => exact ⟨k + 1, F1, a, _, _, B, by omega, by omega, by go_num, HJF.out, HAP.out.skip, HMF.out, HSMF.out⟩
        · have gk : decide ((k : Int) < (N : Int)) = false := decide_eq_false (by omega)
          go_wp2_with fail
          refine (wakes_any (Vars.below (Nat.le_refl _) HJ.out.bel HV5.out)).mono ?_
          rintro e wZ ⟨rfl, hb⟩
          have HBZ := Lib.hid (HBS.out _ (stay HJ.out.bel hb))
          clear hb
          go_wp2_with fail
          go_ret
          exact ⟨rfl, HBZ.out⟩
end

end Go.Proofs.YtmlniannilnmhaaGreatDoor
