/- JournalSets' walk. -/
import Derived.Test.YtmlniannilnmhaaGreatDoorKn
namespace Go.Proofs.YtmlniannilnmhaaGreatDoor
set_option linter.unusedSimpArgs false
set_option linter.unusedVariables false
open Go.RowKit

section
variable {w : World}
set_option maxRecDepth 100000 in
set_option maxHeartbeats 4000000 in
theorem jsets_any (hv : Vars w) (g : Pl.Gm) (a : Ja) (fv : Value) (na : a.free.length ≤ 9223372036854775807) (hq : Seq32 a.seq) (ha : IntsAt w fv a.free) (f : List Int) (sv : Value) (nf : f.length ≤ 9223372036854775807) (hfr : IntsAt w sv f) : Calls Tryz.prog 8 #[g.v, .agg #[.int .i64 a.seg, .int .i64 a.off, .int .u32 a.seq, fv], sv] w fun e w' => e = .returned (.bool true) ∧ Below w.heap.size w w' := by
  have HV := Lib.hid hv
  have HI := Lib.hid hfr
  have HA := Lib.hid ha
  have HQ := Lib.hid hq
  have HNA := Lib.hid na
  have HNF := Lib.hid nf
  obtain ⟨ia, ic, hsv⟩ := hfr.form
  obtain ⟨m, hm⟩ : ∃ m, f.length = m := ⟨_, rfl⟩
  rw [hm] at hsv
  subst hsv
  have HM := Lib.hid hm
  obtain ⟨fa, fc, hfv⟩ := ha.form
  obtain ⟨n, hn⟩ : ∃ n, a.free.length = n := ⟨_, rfl⟩
  rw [hn] at hfv
  subst hfv
  have HN := Lib.hid hn
  clear hv hq ha hfr hm na hn nf
  go_enter Tryz.func8, Tryz.ntmps8
  go_upto_region 0 with fail
  refine wp_region_lit ?_
  refine box_g rfl rfl ?_
  try simp only [Act.put, List.setIfInBounds_toArray, List.set_cons_succ, List.set_cons_zero]
  intro w1 hV hb hl
  try simp only [Act.put, List.setIfInBounds_toArray, List.set_cons_succ, List.set_cons_zero]
  have HG1 := Lib.hid hV
  have HB1 := Lib.hid hb
  clear hV hb hl
  refine box_g rfl rfl ?_
  try simp only [Act.put, List.setIfInBounds_toArray, List.set_cons_succ, List.set_cons_zero]
  intro w2 hV hb hl
  try simp only [Act.put, List.setIfInBounds_toArray, List.set_cons_succ, List.set_cons_zero]
  have HX2 := Lib.hid hV
  have HG2 := Lib.hid (HG1.out.below hb HG1.out.lt)
  have HB2 := Lib.hid (stay HB1.out hb)
  have HI2 := Lib.hid (HI.out.below HB2.out)
  have HV2 := Lib.hid (Vars.below (Nat.le_refl _) HB2.out HV.out)
  clear hV hb hl HG1 HB1
  generalize w1.heap.size = xb at *
  refine takeL (.bool false) rfl (by go_simp) ?_
  try simp only [Act.put, List.setIfInBounds_toArray, List.set_cons_succ, List.set_cons_zero]
  refine wpList_nil ?_
  have x3 := HX2.out.cell (i := 3) rfl
  by_cases h60 : 60 < n
  · have d60 : decide ((60 : Int) < (n : Int)) = true := decide_eq_true (by omega)
    go_wp2_with fail
    refine (wakes_any HV2.out).mono ?_
    rintro e w3 ⟨rfl, hb⟩
    have HB3 := Lib.hid (stay HB2.out hb)
    clear hb
    go_wp2_with fail
    go_ret
    exact ⟨rfl, HB3.out⟩
  have d60 : decide ((60 : Int) < (n : Int)) = false := decide_eq_false (by omega)
  have HN60 : Hid (n ≤ 60) := Lib.hid (by omega)
  by_cases h61 : 60 < m
  · have d61 : decide ((60 : Int) < (m : Int)) = true := decide_eq_true (by omega)
    go_wp2_with fail
    refine (wakes_any HV2.out).mono ?_
    rintro e w3 ⟨rfl, hb⟩
    have HB3 := Lib.hid (stay HB2.out hb)
    clear hb
    go_wp2_with fail
    go_ret
    exact ⟨rfl, HB3.out⟩
  have d61 : decide ((60 : Int) < (m : Int)) = false := decide_eq_false (by omega)
  have HM60 : Hid (m ≤ 60) := Lib.hid (by omega)
  obtain ⟨t, ht, ht1, ht2, ht3⟩ := tot_nat g
  have HTB : Hid (1 ≤ t ∧ t ≤ 1024) := Lib.hid ⟨ht1, ht2⟩
  have HTO := Lib.hid ht3
  have HTM := Lib.hid ht
  clear ht ht1 ht2 ht3 h60 h61
  go_upto_region 3 with fail
  refine wp_region_lit ?_
  clear x3 d60 d61
  refine takeL (.agg #[.int .i64 g.p, .int .i64 g.s, .int .i64 g.l, .int .i64 g.f]) rfl (by have q0 := HG2.out.cell (i := 0) rfl; have q1 := HG2.out.cell (i := 1) rfl; have q2 := HG2.out.cell (i := 2) rfl; have q3 := HG2.out.cell (i := 3) rfl; go_simp) ?_
  try simp only [Act.put, List.setIfInBounds_toArray, List.set_cons_succ, List.set_cons_zero]
  refine wpList_op rfl fun K hK => ?_
  go_simp
  refine (rof_any g _).mono ?_
  rintro e w3 ⟨x, y, rfl, hb⟩
  have HG3 := Lib.hid (HG2.out.below hb HG2.out.lt)
  have HX3 := Lib.hid (HX2.out.below hb HX2.out.lt)
  have HB3 := Lib.hid (stay HB2.out hb)
  have HI3 := Lib.hid (HI.out.below HB3.out)
  have HV3 := Lib.hid (Vars.below (Nat.le_refl _) HB3.out HV.out)
  clear hb HG2 HX2 HB2 HI2 HV2
  refine hK _ _ ?_
  clear hK K
  try simp only [Act.put, List.setIfInBounds_toArray, List.set_cons_succ, List.set_cons_zero]
  refine takeL (.int .i64 (tot g)) rfl (by have z := field32m x (tot g) y w3; go_simp) ?_
  try simp only [Act.put, List.setIfInBounds_toArray, List.set_cons_succ, List.set_cons_zero]
  refine takeL (.int .i64 (t : Int)) rfl (by have z := HTM.out; go_simp) ?_
  try simp only [Act.put, List.setIfInBounds_toArray, List.set_cons_succ, List.set_cons_zero]
  refine wpList_op rfl fun K hK => ?_
  go_simp
  refine (De.dv_new w3 _ (Below.refl _ _) t HTB.out).mono ?_
  rintro e w4 ⟨b, F, rfl, hdv, hb, hF⟩
  have HG4 := Lib.hid (HG3.out.below hb HG3.out.lt)
  have HX4 := Lib.hid (HX3.out.below hb HX3.out.lt)
  have HB4 := Lib.hid (stay HB3.out hb)
  have HD4 := Lib.hid hdv
  clear hb hdv hF
  refine hK _ _ ?_
  clear hK K
  try simp only [Act.put, List.setIfInBounds_toArray, List.set_cons_succ, List.set_cons_zero]
  refine takeL (.tuple #[.pointer (some ⟨b, 0, none⟩), .int .i64 0]) rfl (by go_simp) ?_
  try simp only [Act.put, List.setIfInBounds_toArray, List.set_cons_succ, List.set_cons_zero]
  refine takeL (.pointer (some ⟨b, 0, none⟩)) rfl (by go_simp) ?_
  try simp only [Act.put, List.setIfInBounds_toArray, List.set_cons_succ, List.set_cons_zero]
  refine takeL (.int .i64 0) rfl (by go_simp) ?_
  try simp only [Act.put, List.setIfInBounds_toArray, List.set_cons_succ, List.set_cons_zero]
  refine takeL (.pointer (some ⟨b, 0, none⟩)) rfl (by go_simp) ?_
  try simp only [Act.put, List.setIfInBounds_toArray, List.set_cons_succ, List.set_cons_zero]
  refine takeL (.int .i64 0) rfl (by go_simp) ?_
  try simp only [Act.put, List.setIfInBounds_toArray, List.set_cons_succ, List.set_cons_zero]
  refine wpList_nil ?_
  go_upto_region 4 with fail
  refine wp_region_lit ?_
  refine takeL (.pointer (some ⟨b, 0, none⟩)) rfl (by go_simp) ?_
  try simp only [Act.put, List.setIfInBounds_toArray, List.set_cons_succ, List.set_cons_zero]
  refine takeL (.agg #[.int .i64 g.p, .int .i64 g.s, .int .i64 g.l, .int .i64 g.f]) rfl (by have q0 := HG4.out.cell (i := 0) rfl; have q1 := HG4.out.cell (i := 1) rfl; have q2 := HG4.out.cell (i := 2) rfl; have q3 := HG4.out.cell (i := 3) rfl; go_simp) ?_
  try simp only [Act.put, List.setIfInBounds_toArray, List.set_cons_succ, List.set_cons_zero]
  refine takeL (.agg #[.int .i64 a.seg, .int .i64 a.off, .int .u32 a.seq, .slice fa n fc]) rfl (by have q0 := HX4.out.cell (i := 0) rfl; have q1 := HX4.out.cell (i := 1) rfl; have q2 := HX4.out.cell (i := 2) rfl; have q3 := HX4.out.cell (i := 3) rfl; go_simp) ?_
  try simp only [Act.put, List.setIfInBounds_toArray, List.set_cons_succ, List.set_cons_zero]
  refine wpList_op rfl fun K hK => ?_
  go_simp
  refine (new_law (W := w3) t HTB.out.2 g HTO.out a (.slice fa n fc) HNA.out HQ.out (HA.out.below HB4.out) HD4.out (Vars.below (Nat.le_refl _) HB4.out HV.out)).mono ?_
  rintro e w5 (⟨hg, rfl, hb⟩ | ⟨hg, jb, tv0, rfl, hj, -, hb⟩)
  · have HB5 := Lib.hid (stay HB4.out hb)
    clear hb hg
    refine hK _ _ ?_
    clear hK K
    try simp only [Act.put, List.setIfInBounds_toArray, List.set_cons_succ, List.set_cons_zero]
    refine takeL (.tuple #[.pointer none, .int .i64 1]) rfl (by go_simp) ?_
    try simp only [Act.put, List.setIfInBounds_toArray, List.set_cons_succ, List.set_cons_zero]
    refine takeL (.pointer none) rfl (by go_simp) ?_
    try simp only [Act.put, List.setIfInBounds_toArray, List.set_cons_succ, List.set_cons_zero]
    refine takeL (.int .i64 1) rfl (by go_simp) ?_
    try simp only [Act.put, List.setIfInBounds_toArray, List.set_cons_succ, List.set_cons_zero]
    refine takeL (.pointer none) rfl (by go_simp) ?_
    try simp only [Act.put, List.setIfInBounds_toArray, List.set_cons_succ, List.set_cons_zero]
    refine takeL (.int .i64 1) rfl (by go_simp) ?_
    try simp only [Act.put, List.setIfInBounds_toArray, List.set_cons_succ, List.set_cons_zero]
    refine wpList_nil ?_
    go_wp2_with fail
    refine (wakes_any (Vars.below (Nat.le_refl _) HB5.out HV.out)).mono ?_
    rintro e wZ ⟨rfl, hb⟩
    have HBZ := Lib.hid (stay HB5.out hb)
    clear hb
    go_wp2_with fail
    go_ret
    exact ⟨rfl, HBZ.out⟩
  have HJ5 := Lib.hid hj
  have HGD := Lib.hid hg
  have HBS : Hid (∀ wr, Below w3.heap.size w3 wr → Below w.heap.size w wr) := Lib.hid fun wr h => stay HB3.out h
  clear hj hb hg HG4 HX4 HB4 HD4
  refine hK _ _ ?_
  clear hK K
  try simp only [Act.put, List.setIfInBounds_toArray, List.set_cons_succ, List.set_cons_zero]
  refine takeL (.tuple #[.pointer (some ⟨jb, 0, none⟩), .int .i64 0]) rfl (by go_simp) ?_
  try simp only [Act.put, List.setIfInBounds_toArray, List.set_cons_succ, List.set_cons_zero]
  refine takeL (.pointer (some ⟨jb, 0, none⟩)) rfl (by go_simp) ?_
  try simp only [Act.put, List.setIfInBounds_toArray, List.set_cons_succ, List.set_cons_zero]
  refine takeL (.int .i64 0) rfl (by go_simp) ?_
  try simp only [Act.put, List.setIfInBounds_toArray, List.set_cons_succ, List.set_cons_zero]
  refine takeL (.pointer (some ⟨jb, 0, none⟩)) rfl (by go_simp) ?_
  try simp only [Act.put, List.setIfInBounds_toArray, List.set_cons_succ, List.set_cons_zero]
  refine takeL (.int .i64 0) rfl (by go_simp) ?_
  try simp only [Act.put, List.setIfInBounds_toArray, List.set_cons_succ, List.set_cons_zero]
  refine wpList_nil ?_
  go_upto_region 7 with fail
  refine wp_region_lit ?_
  have HX5 := Lib.hid (HX3.out.below HJ5.out.bel HX3.out.lt)
  refine takeL (.agg #[.int .i64 a.seg, .int .i64 a.off, .int .u32 a.seq, .slice fa n fc]) rfl (by have q0 := HX5.out.cell (i := 0) rfl; have q1 := HX5.out.cell (i := 1) rfl; have q2 := HX5.out.cell (i := 2) rfl; have q3 := HX5.out.cell (i := 3) rfl; go_simp) ?_
  try simp only [Act.put, List.setIfInBounds_toArray, List.set_cons_succ, List.set_cons_zero]
  refine alloc_g zero27 rfl ?_
  intro w6 hA hb hl
  try simp only [Act.put, List.setIfInBounds_toArray, List.set_cons_succ, List.set_cons_zero]
  refine store_all (cs := #[.int .i64 a.seg, .int .i64 a.off, .int .u32 a.seq, .slice fa n fc]) hA rfl info27 (at_one _ _ _ _ _ _) rfl rfl rfl ?_
  intro w7 hD hO hlD
  try simp only [Act.put, List.setIfInBounds_toArray, List.set_cons_succ, List.set_cons_zero]
  have hbb : Below w5.heap.size w5 w7 := hb.trans (hO.below hb.size fun k hk => Nat.le_of_eq hk.symm)
  have HK7 := Lib.hid hD
  have HJ7 := Lib.hid (HJ5.out.below hbb)
  have HKF : Hid (w3.heap.size ≤ w5.heap.size ∧ ¬ F w5.heap.size ∧ ¬ w5.heap.size = jb ∧ ∀ b' o n c, tv0 = .slice (some ⟨b', o, none⟩) n c → ¬ b' = w5.heap.size) := Lib.hid ⟨HJ5.out.bel.size, fun hF => by have := (HJ5.out.dv.lt _ hF).2; omega, by have := HJ5.out.blk.lt; omega, fun b' o n c e => by have := (HJ5.out.sep b' o n c e).2.2.2; omega⟩
  generalize w5.heap.size = kb at *
  clear hA hb hl hD hO hlD hbb HX5 HJ5
  refine wpList_nil ?_
  go_upto_region 8 with fail
  refine wp_region_lit ?_
  refine wpList_run (.slice (some ⟨w7.heap.size, 0, none⟩) 0 0) (w7.alloc (.cells #[] 3)) rfl (by go_simp) ?_
  try simp only [Act.put, List.setIfInBounds_toArray, List.set_cons_succ, List.set_cons_zero]
  have hb1 := alloc_bel w7 (.cells #[] 3)
  have hO := OwnN.lit w7 w7.heap.size (Nat.le_refl _) [] (by simp) #[] rfl
  refine takeL (.slice ia m ic) rfl (by go_simp) ?_
  try simp only [Act.put, List.setIfInBounds_toArray, List.set_cons_succ, List.set_cons_zero]
  refine app_LNg hO hb1.size (HI3.out.below (stay HJ7.out.bel hb1)) (by rw [HM.out]; simp only [List.length_nil]; have := HM60.out; omega) rfl rfl rfl ?_
  intro tv w8 ho hg8
  try simp only [Act.put, List.setIfInBounds_toArray, List.set_cons_succ, List.set_cons_zero]
  rw [List.nil_append] at ho
  have hb8 := hb1.trans (grown_below hg8 hb1.size fun k hk => (hO.lt k hk).1)
  have HJ8 := Lib.hid (HJ7.out.below hb8)
  have HK8 := Lib.hid (HK7.out.below hb8 HK7.out.lt)
  obtain ⟨ta, tc, htv⟩ := ho.ints.form
  rw [HM.out] at htv
  have HT8 := Lib.hid ho
  have HJ7L := Lib.hid HJ7.out.blk.lt
  have HKL : Hid (kb < w7.heap.size ∧ w7.heap.size ≤ w8.heap.size) := Lib.hid ⟨HK7.out.lt, hb8.size⟩
  subst htv
  clear hb1 hO ho hg8 hb8 HJ7 HK7
  refine takeL (.pointer (some ⟨kb, 3, none⟩)) rfl (by go_simp) ?_
  try simp only [Act.put, List.setIfInBounds_toArray, List.set_cons_succ, List.set_cons_zero]
  refine skipL (w8.setCell ⟨kb, 3, none⟩ (.slice ta m tc)) rfl (by have q := HK8.out.cell (i := 3) rfl; have fz := HK8.out.frozen 3; go_simp) ?_
  have HO9 : Hid (Only (fun k => k = kb) w8 (w8.setCell ⟨kb, 3, none⟩ (.slice ta m tc))) := Lib.hid ((Only.refl (fun k => k = kb) w8).setCell (p := ⟨kb, 3, none⟩) (.inl rfl) _)
  have HK9 : Hid (Blk (w8.setCell ⟨kb, 3, none⟩ (.slice ta m tc)) kb [.int .i64 a.seg, .int .i64 a.off, .int .u32 a.seq, .slice ta m tc]) := Lib.hid (HK8.out.set 3 (.slice ta m tc))
  have HJ9 := Lib.hid (HJ8.out.other HO9.out HKF.out.1 HKF.out.2.1 HKF.out.2.2.1 HKF.out.2.2.2)
  have HT9 := Lib.hid (HT8.out.onlyN HO9.out HKL.out.1)
  generalize w8.setCell ⟨kb, 3, none⟩ (.slice ta m tc) = w9 at *
  clear HO9 HJ8 HK8 HT8
  try simp only [Act.put, List.setIfInBounds_toArray, List.set_cons_succ, List.set_cons_zero]
  refine wpList_nil ?_
  go_upto_region 9 with fail
  refine wp_region_lit ?_
  refine wpList_run (.slice (some ⟨w9.heap.size, 0, none⟩) 0 0) (w9.alloc (.cells #[] 3)) rfl (by go_simp) ?_
  try simp only [Act.put, List.setIfInBounds_toArray, List.set_cons_succ, List.set_cons_zero]
  have hb1 := alloc_bel w9 (.cells #[] 3)
  have hO := OwnN.lit w9 w9.heap.size (Nat.le_refl _) [] (by simp) #[] rfl
  refine takeL (.slice ia m ic) rfl (by go_simp) ?_
  try simp only [Act.put, List.setIfInBounds_toArray, List.set_cons_succ, List.set_cons_zero]
  refine app_LNg hO hb1.size (HI3.out.below (stay HJ9.out.bel hb1)) (by rw [HM.out]; simp only [List.length_nil]; have := HM60.out; omega) rfl rfl rfl ?_
  intro uv wA ho hg8
  try simp only [Act.put, List.setIfInBounds_toArray, List.set_cons_succ, List.set_cons_zero]
  rw [List.nil_append] at ho
  have hb8 := hb1.trans (grown_below hg8 hb1.size fun k hk => (hO.lt k hk).1)
  have HJA := Lib.hid (HJ9.out.below hb8)
  have HKA := Lib.hid (HK9.out.below hb8 HK9.out.lt)
  have HTA := Lib.hid (HT9.out.below hb8)
  have HUA := Lib.hid ho
  obtain ⟨ua, uc, huv⟩ := ho.ints.form
  rw [HM.out] at huv
  have HUL : Hid (jb < w9.heap.size ∧ jb < w7.heap.size) := Lib.hid ⟨HJ9.out.blk.lt, by have := HJ7L.out; omega⟩
  subst huv
  clear hb1 hO ho hg8 hb8 HJ9 HK9 HT9
  refine takeL (.slice ua m uc) rfl (by go_simp) ?_
  try simp only [Act.put, List.setIfInBounds_toArray, List.set_cons_succ, List.set_cons_zero]
  refine wpList_nil ?_
  go_upto_region 10 with fail
  refine wp_region_lit ?_
  refine takeL (.pointer (some ⟨jb, 0, none⟩)) rfl (by go_simp) ?_
  try simp only [Act.put, List.setIfInBounds_toArray, List.set_cons_succ, List.set_cons_zero]
  refine takeL (.slice ua m uc) rfl (by go_simp) ?_
  try simp only [Act.put, List.setIfInBounds_toArray, List.set_cons_succ, List.set_cons_zero]
  refine wpList_op rfl fun K hK => ?_
  go_simp
  refine (setFree_any HJA.out f (.slice ua m uc) HNF.out HUA.out.ints).mono ?_
  rintro e wB ⟨rfl, ⟨fv2, hj⟩, hon⟩
  have HJB := Lib.hid hj
  have HKB := Lib.hid (HKA.out.only hon HKF.out.2.2.1)
  have HTB2 := Lib.hid (HTA.out.ints.only hon fun b' o k c e => by have := HTA.out.lt b' (by rw [e]; rfl); have := HUL.out; omega)
  have HUB := Lib.hid (HUA.out.ints.only hon fun b' o k c e => by have := HUA.out.lt b' (by rw [e]; rfl); have := HUL.out; omega)
  clear hj hon HJA HKA HTA HUA
  refine hK _ _ ?_
  clear hK K
  try simp only [Act.put, List.setIfInBounds_toArray, List.set_cons_succ, List.set_cons_zero]
  refine wpList_nil ?_
  go_upto_region 11 with fail
  refine wp_region_lit ?_
  have HXB := Lib.hid (HX3.out.below HJB.out.bel HX3.out.lt)
  have HGB := Lib.hid (HG3.out.below HJB.out.bel HG3.out.lt)
  refine takeL (.pointer (some ⟨xb, 3, none⟩)) rfl (by go_simp) ?_
  try simp only [Act.put, List.setIfInBounds_toArray, List.set_cons_succ, List.set_cons_zero]
  refine takeL (.slice fa n fc) rfl (by have q3 := HXB.out.cell (i := 3) rfl; go_simp) ?_
  try simp only [Act.put, List.setIfInBounds_toArray, List.set_cons_succ, List.set_cons_zero]
  refine takeL (.slice fa n fc) rfl (by go_simp) ?_
  try simp only [Act.put, List.setIfInBounds_toArray, List.set_cons_succ, List.set_cons_zero]
  refine wpList_nil ?_
  go_upto_region 12 with fail
  refine wp_region_lit ?_
  refine takeL (.agg #[.int .i64 g.p, .int .i64 g.s, .int .i64 g.l, .int .i64 g.f]) rfl (by have q0 := HGB.out.cell (i := 0) rfl; have q1 := HGB.out.cell (i := 1) rfl; have q2 := HGB.out.cell (i := 2) rfl; have q3 := HGB.out.cell (i := 3) rfl; go_simp) ?_
  try simp only [Act.put, List.setIfInBounds_toArray, List.set_cons_succ, List.set_cons_zero]
  refine takeL (.agg #[.int .i64 a.seg, .int .i64 a.off, .int .u32 a.seq, .slice ta m tc]) rfl (by have q0 := HKB.out.cell (i := 0) rfl; have q1 := HKB.out.cell (i := 1) rfl; have q2 := HKB.out.cell (i := 2) rfl; have q3 := HKB.out.cell (i := 3) rfl; go_simp) ?_
  try simp only [Act.put, List.setIfInBounds_toArray, List.set_cons_succ, List.set_cons_zero]
  refine wpList_op rfl fun K hK => ?_
  go_simp
  refine (jgood_any g { a with free := f } (.slice ta m tc) m HM.out (by have := HM60.out; omega) _ HTB2.out).mono ?_
  rintro e wC ⟨rfl, hb⟩
  have HJC := Lib.hid (HJB.out.below hb)
  have HUC := Lib.hid (HUB.out.below hb)
  clear hb HXB HGB HJB HKB HTB2 HUB HKF HKL HUL
  have HFI := Lib.hid fun sv tv w h k => ints_any f f (by rw [HM.out]; have := HM60.out; omega) (by rw [HM.out]; have := HM60.out; omega) sv tv w h k
  rw [decide_eq_true (rfl : f = f)] at HFI
  refine hK _ _ ?_
  clear hK K
  try simp only [Act.put, List.setIfInBounds_toArray, List.set_cons_succ, List.set_cons_zero]
  refine wpList_nil ?_
  have hf := field27f
  have hf2 := field27q
  cases hgd : ({ a with free := f } : Ja).good g
  · have he : a.setFree g f = a := by
      unfold Ja.setFree
      rw [if_neg (by rw [hgd]; decide)]
    rw [he] at HJC
    have HW := Lib.hid (HA.out.below (HBS.out _ HJC.out.bel))
    have HWN : Hid (a.free.length = n ∧ n ≤ 60) := Lib.hid ⟨HN.out, HN60.out⟩
    clear hgd he
    go_wp2_with fail
    refine (at_any HJC.out).mono ?_
    rintro e wD ⟨tv, rfl, hot, hb⟩
    have HJD := Lib.hid (HJC.out.below hb)
    have HUD := Lib.hid (HUC.out.below hb)
    have HWD := Lib.hid (HW.out.below hb)
    have HTD := Lib.hid hot.ints
    obtain ⟨ta2, tc2, htv⟩ := hot.ints.form
    rw [HWN.out.1] at htv
    subst htv
    clear hb hot HJC HUC HW
    go_wp2_with fail
    refine (ints_any a.free a.free (by have := HWN.out; omega) (by have := HWN.out; omega) _ _ _ HTD.out HWD.out).mono ?_
    rintro e wE ⟨rfl, hb⟩
    rw [decide_eq_true (rfl : a.free = a.free)]
    have HJE := Lib.hid (HJD.out.below hb)
    have HUE := Lib.hid (HUD.out.below hb)
    clear hb HJD HUD HWD HTD
    go_wp2_with fail
    refine (HFI.out _ _ _ HUE.out (HI3.out.below HJE.out.bel)).mono ?_
    rintro e wF ⟨rfl, hb⟩
    have HJF := Lib.hid (HJE.out.below hb)
    clear hb HJE HUE
    go_wp2_with fail
    refine (setSeq_any HJF.out 77 (seqN 77 (by decide))).mono ?_
    rintro e wG ⟨rfl, hj, hon⟩
    have HJG := Lib.hid hj
    clear hj hon HJF
    go_upto_region 17 with fail
    refine wp_region_lit ?_
    refine takeL (.pointer (some ⟨jb, 0, none⟩)) rfl (by go_simp) ?_
    try simp only [Act.put, List.setIfInBounds_toArray, List.set_cons_succ, List.set_cons_zero]
    refine wpList_op rfl fun K hK => ?_
    go_simp
    refine (image_any 3 1 (smallN 3 (by decide)) (byteN 1 (by decide)) _).mono ?_
    rintro e wH ⟨rfl, hb⟩
    have HJH := Lib.hid (HJG.out.below hb)
    clear hb HJG
    refine hK _ _ ?_
    clear hK K
    try simp only [Act.put, List.setIfInBounds_toArray, List.set_cons_succ, List.set_cons_zero]
    have hw1 := imgI_wf (smallN 3 (by decide)) (byteN 1 (by decide))
    refine wpList_run _ _ rfl (exec_buildSlice _ _ _ _ 51 1 _ rfl #[(0, .agg ((imgI 3 1).arr nb))] (by simp only [List.map_toArray, List.map_cons, List.map_nil]; rfl) _ (lit1_run wH hw1)) ?_
    try simp only [Act.put, List.setIfInBounds_toArray, List.set_cons_succ, List.set_cons_zero]
    have hit := lit_its wH (l := [(imgI 3 1, nb)]) (fun x hx => by obtain rfl := List.mem_singleton.1 hx; exact ⟨hw1, rfl, rfl⟩) 1 rfl (by decide) (F := F) (fun k hk => (HJH.out.dv.lt k hk).2)
    have HIT := Lib.hid hit
    have HJI := Lib.hid (HJH.out.below (alloc_bel wH (.cells (itCells [(imgI 3 1, nb)]).toArray 102)))
    generalize wH.alloc (.cells (itCells [(imgI 3 1, nb)]).toArray 102) = wI at *
    generalize wH.heap.size = gI at *
    clear hit hw1 HJH
    have hst := sets_put (g := g) (a := { a with seq := 77 }) (t := t) HJI.out.good rfl (HTO.out (Ja.good_parts HJI.out.good).1)
    refine wpList_op rfl fun K hK => ?_
    go_simp
    refine (put_any HJI.out HV3.out [(imgI 3 1, nb)] SL rfl _ (by decide) HIT.out.1 HIT.out.2 (by rw [newD_len]; exact HTB.out.2) (Nat.zero_le _) (Nat.zero_le _)).mono ?_
    rintro e wJ ⟨pv, rfl, F1, fv1, ho, hj, hon, hn, hpa⟩
    have hln := jput_len (g := g) (a := { a with seq := 77 }) (De.newD t) (L := SL) (by have := (Ja.good_parts HJI.out.good).1.2.2.1.2; omega)
    generalize jput g { a with seq := 77 } (De.newD t) SL = p at *
    obtain ⟨e0, l0, a0, d0⟩ := p
    dsimp only at hst ho hj hln ⊢
    have HJJ := Lib.hid hj
    have HPJ := Lib.hid ho.ints
    obtain ⟨pa, pc, hpv⟩ := ho.ints.form
    obtain ⟨pn, hpn⟩ : ∃ k, l0.length = k := ⟨_, rfl⟩
    rw [hpn] at hpv
    subst hpv
    clear ho hj hon hn hpa HJI HIT
    rcases hst with ⟨f0, hf0, he, hl0, hs, hr, hre⟩ | ⟨he, hfree, hl0⟩
    · subst he
      subst hl0
      have hp1 : pn = 1 := by rw [← hpn]; rfl
      subst hp1
      have HR := Lib.hid hr
      have HRE := Lib.hid hre
      have HSQ := Lib.hid hs
      have HLN := Lib.hid hln.2.2
      clear hr hre hs hln hpn
      refine hK _ _ ?_
      clear hK K
      try simp only [Act.put, List.setIfInBounds_toArray, List.set_cons_succ, List.set_cons_zero]
      refine takeL (.tuple #[.slice pa 1 pc, .int .i64 0]) rfl (by go_simp) ?_
      try simp only [Act.put, List.setIfInBounds_toArray, List.set_cons_succ, List.set_cons_zero]
      refine takeL (.slice pa 1 pc) rfl (by go_simp) ?_
      try simp only [Act.put, List.setIfInBounds_toArray, List.set_cons_succ, List.set_cons_zero]
      refine takeL (.int .i64 0) rfl (by go_simp) ?_
      try simp only [Act.put, List.setIfInBounds_toArray, List.set_cons_succ, List.set_cons_zero]
      refine takeL (.slice pa 1 pc) rfl (by go_simp) ?_
      try simp only [Act.put, List.setIfInBounds_toArray, List.set_cons_succ, List.set_cons_zero]
      refine takeL (.int .i64 0) rfl (by go_simp) ?_
      try simp only [Act.put, List.setIfInBounds_toArray, List.set_cons_succ, List.set_cons_zero]
      refine wpList_nil ?_
      obtain ⟨pb, po, hpa, hp0⟩ : ∃ b o, pa = some ⟨b, o, none⟩ ∧ wJ.cell? ⟨b, o, none⟩ = some (.int .i64 (f0 : Int)) := by
        obtain ⟨q', c', e, hc⟩ := HPJ.out
        obtain ⟨b2, o2, h1, h2⟩ := hc 0 _ rfl
        injection e with e1 e2 e3
        exact ⟨b2, o2, by rw [e1, h1], h2⟩
      subst hpa
      have HP0 := Lib.hid hp0
      clear hp0
      go_upto_region 22 with fail
      refine wp_region_lit ?_
      refine takeL (.pointer (some ⟨b, 0, none⟩)) rfl (by go_simp) ?_
      try simp only [Act.put, List.setIfInBounds_toArray, List.set_cons_succ, List.set_cons_zero]
      refine takeL (.slice (some ⟨pb, po, none⟩) 1 pc) rfl (by go_simp) ?_
      try simp only [Act.put, List.setIfInBounds_toArray, List.set_cons_succ, List.set_cons_zero]
      refine takeL (.pointer (some ⟨pb, po, none⟩)) rfl (by go_simp) ?_
      try simp only [Act.put, List.setIfInBounds_toArray, List.set_cons_succ, List.set_cons_zero]
      refine takeL (.int .i64 (f0 : Int)) rfl (by have q := HP0.out; go_simp) ?_
      try simp only [Act.put, List.setIfInBounds_toArray, List.set_cons_succ, List.set_cons_zero]
      refine wpList_op rfl fun K hK => ?_
      go_simp
      refine (De.dv_read HJJ.out.dv (by have := HLN.out; have : d0.L.length ≤ 0 + 1024 := this; omega) (f0 : Int)).mono ?_
      rintro e wK ⟨rfl, hb⟩
      rw [HR.out, HRE.out]
      have HJK := Lib.hid (HJJ.out.below hb)
      clear hb HJJ HPJ HP0
      refine hK _ _ ?_
      clear hK K
      try simp only [Act.put, List.setIfInBounds_toArray, List.set_cons_succ, List.set_cons_zero]
      refine takeL (.tuple #[.agg (u8s SX).toArray, .int .i64 0]) rfl (by go_simp) ?_
      try simp only [Act.put, List.setIfInBounds_toArray, List.set_cons_succ, List.set_cons_zero]
      refine takeL (.agg (u8s SX).toArray) rfl (by go_simp) ?_
      try simp only [Act.put, List.setIfInBounds_toArray, List.set_cons_succ, List.set_cons_zero]
      refine takeL (.int .i64 0) rfl (by go_simp) ?_
      try simp only [Act.put, List.setIfInBounds_toArray, List.set_cons_succ, List.set_cons_zero]
      refine alloc_g zero72 rfl ?_
      intro wL hA hb hl
      try simp only [Act.put, List.setIfInBounds_toArray, List.set_cons_succ, List.set_cons_zero]
      refine store_all (cs := (u8s SX).toArray) hA (by simp [zeros, SX_64]) (by rw [u8s_size, SX_64]; exact info72) (u8s_one _) rfl rfl rfl ?_
      intro wM hD hO hlD
      try simp only [Act.put, List.setIfInBounds_toArray, List.set_cons_succ, List.set_cons_zero]
      have hbb : Below wK.heap.size wK wM := hb.trans (hO.below hb.size fun k hk => Nat.le_of_eq hk.symm)
      have HJM := Lib.hid (HJK.out.below hbb)
      have s2 := hD.cell (i := 2) (show (u8s SX)[2]? = some (.int .u8 77) by rw [List.getElem?_map, SX_2]; rfl)
      generalize wK.heap.size = sb at *
      clear hA hb hl hD hO hlD hbb HJK
      refine takeL (.int .i64 0) rfl (by go_simp) ?_
      try simp only [Act.put, List.setIfInBounds_toArray, List.set_cons_succ, List.set_cons_zero]
      refine wpList_nil ?_
      go_wp2_with fail
      refine (at_any HJM.out).mono ?_
      rintro e wN ⟨tv, rfl, hot, hb⟩
      have HJN := Lib.hid (HJM.out.below hb)
      obtain ⟨ta3, tc3, htv⟩ := hot.ints.form
      subst htv
      rw [HSQ.out]
      clear hb hot HJM s2
      go_wp2_with fail
      refine (wakes_any (Vars.below (Nat.le_refl _) HJN.out.bel HV3.out)).mono ?_
      rintro e wO ⟨rfl, hb⟩
      have HBZ := Lib.hid (HBS.out _ (stay HJN.out.bel hb))
      clear hb
      go_wp2_with fail
      go_ret
      exact ⟨rfl, HBZ.out⟩
    · subst he
      have hw0 : n = 0 := by rw [← HWN.out.1]; have : a.free = [] := hfree; rw [this]; rfl
      have hwz : ((n : Int) == 0) = true := by rw [hw0]; rfl
      clear hw0 hl0 hln hpn hfree
      refine hK _ _ ?_
      clear hK K
      try simp only [Act.put, List.setIfInBounds_toArray, List.set_cons_succ, List.set_cons_zero]
      refine takeL (.tuple #[.slice pa pn pc, .int .i64 14]) rfl (by go_simp) ?_
      try simp only [Act.put, List.setIfInBounds_toArray, List.set_cons_succ, List.set_cons_zero]
      refine takeL (.slice pa pn pc) rfl (by go_simp) ?_
      try simp only [Act.put, List.setIfInBounds_toArray, List.set_cons_succ, List.set_cons_zero]
      refine takeL (.int .i64 14) rfl (by go_simp) ?_
      try simp only [Act.put, List.setIfInBounds_toArray, List.set_cons_succ, List.set_cons_zero]
      refine takeL (.slice pa pn pc) rfl (by go_simp) ?_
      try simp only [Act.put, List.setIfInBounds_toArray, List.set_cons_succ, List.set_cons_zero]
      refine takeL (.int .i64 14) rfl (by go_simp) ?_
      try simp only [Act.put, List.setIfInBounds_toArray, List.set_cons_succ, List.set_cons_zero]
      refine wpList_nil ?_
      go_wp2_with fail
      refine (wakes_any (Vars.below (Nat.le_refl _) HJJ.out.bel HV3.out)).mono ?_
      rintro e wO ⟨rfl, hb⟩
      have HBZ := Lib.hid (HBS.out _ (stay HJJ.out.bel hb))
      clear hb
      go_wp2_with fail
      go_ret
      exact ⟨rfl, HBZ.out⟩
  · have he : a.setFree g f = { a with free := f } := by
      unfold Ja.setFree
      rw [if_pos hgd]
    rw [he] at HJC
    have HW : Hid (IntsAt wC (.slice ia m ic) ({ a with free := f } : Ja).free) := Lib.hid (HI3.out.below HJC.out.bel)
    have HWN : Hid (({ a with free := f } : Ja).free.length = m ∧ m ≤ 60) := Lib.hid ⟨HM.out, HM60.out⟩
    clear hgd he
    generalize ({ a with free := f } : Ja) = a1 at *
    go_wp2_with fail
    refine (at_any HJC.out).mono ?_
    rintro e wD ⟨tv, rfl, hot, hb⟩
    have HJD := Lib.hid (HJC.out.below hb)
    have HUD := Lib.hid (HUC.out.below hb)
    have HWD := Lib.hid (HW.out.below hb)
    have HTD := Lib.hid hot.ints
    obtain ⟨ta2, tc2, htv⟩ := hot.ints.form
    rw [HWN.out.1] at htv
    subst htv
    clear hb hot HJC HUC HW
    go_wp2_with fail
    refine (ints_any a1.free a1.free (by have := HWN.out; omega) (by have := HWN.out; omega) _ _ _ HTD.out HWD.out).mono ?_
    rintro e wE ⟨rfl, hb⟩
    rw [decide_eq_true (rfl : a1.free = a1.free)]
    have HJE := Lib.hid (HJD.out.below hb)
    have HUE := Lib.hid (HUD.out.below hb)
    clear hb HJD HUD HWD HTD
    go_wp2_with fail
    refine (HFI.out _ _ _ HUE.out (HI3.out.below HJE.out.bel)).mono ?_
    rintro e wF ⟨rfl, hb⟩
    have HJF := Lib.hid (HJE.out.below hb)
    clear hb HJE HUE
    go_wp2_with fail
    refine (setSeq_any HJF.out 77 (seqN 77 (by decide))).mono ?_
    rintro e wG ⟨rfl, hj, hon⟩
    have HJG := Lib.hid hj
    clear hj hon HJF
    go_upto_region 17 with fail
    refine wp_region_lit ?_
    refine takeL (.pointer (some ⟨jb, 0, none⟩)) rfl (by go_simp) ?_
    try simp only [Act.put, List.setIfInBounds_toArray, List.set_cons_succ, List.set_cons_zero]
    refine wpList_op rfl fun K hK => ?_
    go_simp
    refine (image_any 3 1 (smallN 3 (by decide)) (byteN 1 (by decide)) _).mono ?_
    rintro e wH ⟨rfl, hb⟩
    have HJH := Lib.hid (HJG.out.below hb)
    clear hb HJG
    refine hK _ _ ?_
    clear hK K
    try simp only [Act.put, List.setIfInBounds_toArray, List.set_cons_succ, List.set_cons_zero]
    have hw1 := imgI_wf (smallN 3 (by decide)) (byteN 1 (by decide))
    refine wpList_run _ _ rfl (exec_buildSlice _ _ _ _ 51 1 _ rfl #[(0, .agg ((imgI 3 1).arr nb))] (by simp only [List.map_toArray, List.map_cons, List.map_nil]; rfl) _ (lit1_run wH hw1)) ?_
    try simp only [Act.put, List.setIfInBounds_toArray, List.set_cons_succ, List.set_cons_zero]
    have hit := lit_its wH (l := [(imgI 3 1, nb)]) (fun x hx => by obtain rfl := List.mem_singleton.1 hx; exact ⟨hw1, rfl, rfl⟩) 1 rfl (by decide) (F := F) (fun k hk => (HJH.out.dv.lt k hk).2)
    have HIT := Lib.hid hit
    have HJI := Lib.hid (HJH.out.below (alloc_bel wH (.cells (itCells [(imgI 3 1, nb)]).toArray 102)))
    generalize wH.alloc (.cells (itCells [(imgI 3 1, nb)]).toArray 102) = wI at *
    generalize wH.heap.size = gI at *
    clear hit hw1 HJH
    have hst := sets_put (g := g) (a := { a1 with seq := 77 }) (t := t) HJI.out.good rfl (HTO.out (Ja.good_parts HJI.out.good).1)
    refine wpList_op rfl fun K hK => ?_
    go_simp
    refine (put_any HJI.out HV3.out [(imgI 3 1, nb)] SL rfl _ (by decide) HIT.out.1 HIT.out.2 (by rw [newD_len]; exact HTB.out.2) (Nat.zero_le _) (Nat.zero_le _)).mono ?_
    rintro e wJ ⟨pv, rfl, F1, fv1, ho, hj, hon, hn, hpa⟩
    have hln := jput_len (g := g) (a := { a1 with seq := 77 }) (De.newD t) (L := SL) (by have := (Ja.good_parts HJI.out.good).1.2.2.1.2; omega)
    generalize jput g { a1 with seq := 77 } (De.newD t) SL = p at *
    obtain ⟨e0, l0, a0, d0⟩ := p
    dsimp only at hst ho hj hln ⊢
    have HJJ := Lib.hid hj
    have HPJ := Lib.hid ho.ints
    obtain ⟨pa, pc, hpv⟩ := ho.ints.form
    obtain ⟨pn, hpn⟩ : ∃ k, l0.length = k := ⟨_, rfl⟩
    rw [hpn] at hpv
    subst hpv
    clear ho hj hon hn hpa HJI HIT
    rcases hst with ⟨f0, hf0, he, hl0, hs, hr, hre⟩ | ⟨he, hfree, hl0⟩
    · subst he
      subst hl0
      have hp1 : pn = 1 := by rw [← hpn]; rfl
      subst hp1
      have HR := Lib.hid hr
      have HRE := Lib.hid hre
      have HSQ := Lib.hid hs
      have HLN := Lib.hid hln.2.2
      clear hr hre hs hln hpn
      refine hK _ _ ?_
      clear hK K
      try simp only [Act.put, List.setIfInBounds_toArray, List.set_cons_succ, List.set_cons_zero]
      refine takeL (.tuple #[.slice pa 1 pc, .int .i64 0]) rfl (by go_simp) ?_
      try simp only [Act.put, List.setIfInBounds_toArray, List.set_cons_succ, List.set_cons_zero]
      refine takeL (.slice pa 1 pc) rfl (by go_simp) ?_
      try simp only [Act.put, List.setIfInBounds_toArray, List.set_cons_succ, List.set_cons_zero]
      refine takeL (.int .i64 0) rfl (by go_simp) ?_
      try simp only [Act.put, List.setIfInBounds_toArray, List.set_cons_succ, List.set_cons_zero]
      refine takeL (.slice pa 1 pc) rfl (by go_simp) ?_
      try simp only [Act.put, List.setIfInBounds_toArray, List.set_cons_succ, List.set_cons_zero]
      refine takeL (.int .i64 0) rfl (by go_simp) ?_
      try simp only [Act.put, List.setIfInBounds_toArray, List.set_cons_succ, List.set_cons_zero]
      refine wpList_nil ?_
      obtain ⟨pb, po, hpa, hp0⟩ : ∃ b o, pa = some ⟨b, o, none⟩ ∧ wJ.cell? ⟨b, o, none⟩ = some (.int .i64 (f0 : Int)) := by
        obtain ⟨q', c', e, hc⟩ := HPJ.out
        obtain ⟨b2, o2, h1, h2⟩ := hc 0 _ rfl
        injection e with e1 e2 e3
        exact ⟨b2, o2, by rw [e1, h1], h2⟩
      subst hpa
      have HP0 := Lib.hid hp0
      clear hp0
      go_upto_region 22 with fail
      refine wp_region_lit ?_
      refine takeL (.pointer (some ⟨b, 0, none⟩)) rfl (by go_simp) ?_
      try simp only [Act.put, List.setIfInBounds_toArray, List.set_cons_succ, List.set_cons_zero]
      refine takeL (.slice (some ⟨pb, po, none⟩) 1 pc) rfl (by go_simp) ?_
      try simp only [Act.put, List.setIfInBounds_toArray, List.set_cons_succ, List.set_cons_zero]
      refine takeL (.pointer (some ⟨pb, po, none⟩)) rfl (by go_simp) ?_
      try simp only [Act.put, List.setIfInBounds_toArray, List.set_cons_succ, List.set_cons_zero]
      refine takeL (.int .i64 (f0 : Int)) rfl (by have q := HP0.out; go_simp) ?_
      try simp only [Act.put, List.setIfInBounds_toArray, List.set_cons_succ, List.set_cons_zero]
      refine wpList_op rfl fun K hK => ?_
      go_simp
      refine (De.dv_read HJJ.out.dv (by have := HLN.out; have : d0.L.length ≤ 0 + 1024 := this; omega) (f0 : Int)).mono ?_
      rintro e wK ⟨rfl, hb⟩
      rw [HR.out, HRE.out]
      have HJK := Lib.hid (HJJ.out.below hb)
      clear hb HJJ HPJ HP0
      refine hK _ _ ?_
      clear hK K
      try simp only [Act.put, List.setIfInBounds_toArray, List.set_cons_succ, List.set_cons_zero]
      refine takeL (.tuple #[.agg (u8s SX).toArray, .int .i64 0]) rfl (by go_simp) ?_
      try simp only [Act.put, List.setIfInBounds_toArray, List.set_cons_succ, List.set_cons_zero]
      refine takeL (.agg (u8s SX).toArray) rfl (by go_simp) ?_
      try simp only [Act.put, List.setIfInBounds_toArray, List.set_cons_succ, List.set_cons_zero]
      refine takeL (.int .i64 0) rfl (by go_simp) ?_
      try simp only [Act.put, List.setIfInBounds_toArray, List.set_cons_succ, List.set_cons_zero]
      refine alloc_g zero72 rfl ?_
      intro wL hA hb hl
      try simp only [Act.put, List.setIfInBounds_toArray, List.set_cons_succ, List.set_cons_zero]
      refine store_all (cs := (u8s SX).toArray) hA (by simp [zeros, SX_64]) (by rw [u8s_size, SX_64]; exact info72) (u8s_one _) rfl rfl rfl ?_
      intro wM hD hO hlD
      try simp only [Act.put, List.setIfInBounds_toArray, List.set_cons_succ, List.set_cons_zero]
      have hbb : Below wK.heap.size wK wM := hb.trans (hO.below hb.size fun k hk => Nat.le_of_eq hk.symm)
      have HJM := Lib.hid (HJK.out.below hbb)
      have s2 := hD.cell (i := 2) (show (u8s SX)[2]? = some (.int .u8 77) by rw [List.getElem?_map, SX_2]; rfl)
      generalize wK.heap.size = sb at *
      clear hA hb hl hD hO hlD hbb HJK
      refine takeL (.int .i64 0) rfl (by go_simp) ?_
      try simp only [Act.put, List.setIfInBounds_toArray, List.set_cons_succ, List.set_cons_zero]
      refine wpList_nil ?_
      go_wp2_with fail
      refine (at_any HJM.out).mono ?_
      rintro e wN ⟨tv, rfl, hot, hb⟩
      have HJN := Lib.hid (HJM.out.below hb)
      obtain ⟨ta3, tc3, htv⟩ := hot.ints.form
      subst htv
      rw [HSQ.out]
      clear hb hot HJM s2
      go_wp2_with fail
      refine (wakes_any (Vars.below (Nat.le_refl _) HJN.out.bel HV3.out)).mono ?_
      rintro e wO ⟨rfl, hb⟩
      have HBZ := Lib.hid (HBS.out _ (stay HJN.out.bel hb))
      clear hb
      go_wp2_with fail
      go_ret
      exact ⟨rfl, HBZ.out⟩
    · subst he
      have hw0 : m = 0 := by rw [← HWN.out.1]; have : a1.free = [] := hfree; rw [this]; rfl
      have hwz : ((m : Int) == 0) = true := by rw [hw0]; rfl
      clear hw0 hl0 hln hpn hfree
      refine hK _ _ ?_
      clear hK K
      try simp only [Act.put, List.setIfInBounds_toArray, List.set_cons_succ, List.set_cons_zero]
      refine takeL (.tuple #[.slice pa pn pc, .int .i64 14]) rfl (by go_simp) ?_
      try simp only [Act.put, List.setIfInBounds_toArray, List.set_cons_succ, List.set_cons_zero]
      refine takeL (.slice pa pn pc) rfl (by go_simp) ?_
      try simp only [Act.put, List.setIfInBounds_toArray, List.set_cons_succ, List.set_cons_zero]
      refine takeL (.int .i64 14) rfl (by go_simp) ?_
      try simp only [Act.put, List.setIfInBounds_toArray, List.set_cons_succ, List.set_cons_zero]
      refine takeL (.slice pa pn pc) rfl (by go_simp) ?_
      try simp only [Act.put, List.setIfInBounds_toArray, List.set_cons_succ, List.set_cons_zero]
      refine takeL (.int .i64 14) rfl (by go_simp) ?_
      try simp only [Act.put, List.setIfInBounds_toArray, List.set_cons_succ, List.set_cons_zero]
      refine wpList_nil ?_
      go_wp2_with fail
      refine (wakes_any (Vars.below (Nat.le_refl _) HJJ.out.bel HV3.out)).mono ?_
      rintro e wO ⟨rfl, hb⟩
      have HBZ := Lib.hid (HBS.out _ (stay HJJ.out.bel hb))
      clear hb
      go_wp2_with fail
      go_ret
      exact ⟨rfl, HBZ.out⟩
end

end Go.Proofs.YtmlniannilnmhaaGreatDoor
