/- JournalPlays' walk. -/
import Derived.Test.YtmlniannilnmhaaGreatDoorRk
namespace Go.Proofs.YtmlniannilnmhaaGreatDoor
set_option linter.unusedSimpArgs false
set_option linter.unusedVariables false
open Go.RowKit

section
variable {w : World}
set_option maxRecDepth 100000 in
set_option maxHeartbeats 40000000 in
theorem jplays_any (hv : Vars w) (g : Pl.Gm) (a : Ja) (fv : Value) (na : a.free.length ≤ 9223372036854775807) (hq : Seq32 a.seq) (ha : IntsAt w fv a.free) (ss : List Sp) (ns : ss.length ≤ 9223372036854775807) (sv : Value) (hs : StepsAt w sv ss) : Calls Tryz.prog 3 #[g.v, .agg #[.int .i64 a.seg, .int .i64 a.off, .int .u32 a.seq, fv], sv] w fun e w' => e = .returned (.bool true) ∧ Below w.heap.size w w' := by
  have HV := Lib.hid hv
  have HS := Lib.hid hs
  have HA := Lib.hid ha
  have HQ := Lib.hid hq
  have HNA := Lib.hid na
  obtain ⟨N, hN⟩ : ∃ N, ss.length = N := ⟨_, rfl⟩
  rw [hN] at ns
  have HFS := Lib.hid fun w h => fairS_any ss N hN ns sv w h
  obtain ⟨ga, gc, hsv, -⟩ := hs
  rw [hN] at hsv
  subst hsv
  have HK := Lib.hid hN
  obtain ⟨fa, fc, hfv⟩ := ha.form
  obtain ⟨n, hn⟩ : ∃ n, a.free.length = n := ⟨_, rfl⟩
  rw [hn] at hfv
  subst hfv
  have HN := Lib.hid hn
  clear hv hq ha hN ns na hn
  go_enter Tryz.func3, Tryz.ntmps3
  go_upto_region 0 with fail
  refine wp_region_lit ?_
  refine box_g rfl rfl ?_
  try simp only [Act.put, List.setIfInBounds_toArray, List.set_cons_succ, List.set_cons_zero]
  intro w1 hV hb hl
  try simp only [Act.put, List.setIfInBounds_toArray, List.set_cons_succ, List.set_cons_zero]
  have HG1 := Lib.hid hV
  have HB1 := Lib.hid hb
  clear hV hb hl
  refine box_g rfl rfl ?_
  try simp only [Act.put, List.setIfInBounds_toArray, List.set_cons_succ, List.set_cons_zero]
  intro w2 hV hb hl
  try simp only [Act.put, List.setIfInBounds_toArray, List.set_cons_succ, List.set_cons_zero]
  have HX2 := Lib.hid hV
  have HG2 := Lib.hid (HG1.out.below hb HG1.out.lt)
  have HB2 := Lib.hid (stay HB1.out hb)
  have HS2 := Lib.hid (HS.out.below HB2.out)
  clear hV hb hl HG1 HB1
  generalize w1.heap.size = xb at *
  refine takeL (.bool false) rfl (by go_simp) ?_
  try simp only [Act.put, List.setIfInBounds_toArray, List.set_cons_succ, List.set_cons_zero]
  refine wpList_nil ?_
  go_wp2_with fail
  refine (HFS.out _ HS2.out).mono ?_
  rintro e wF ⟨⟨r, rfl, hr⟩, hb⟩
  have HGF := Lib.hid (HG2.out.below hb HG2.out.lt)
  have HXF := Lib.hid (HX2.out.below hb HX2.out.lt)
  have HBF := Lib.hid (stay HB2.out hb)
  have HVF := Lib.hid (Vars.below (Nat.le_refl _) HBF.out HV.out)
  have HFR := Lib.hid hr
  clear hb hr HG2 HX2 HB2 HS2 HFS
  cases r
  · go_wp2_with fail
    refine (wakes_any HVF.out).mono ?_
    rintro e wZ ⟨rfl, hb⟩
    have HBZ := Lib.hid (stay HBF.out hb)
    clear hb
    go_wp2_with fail
    go_ret
    exact ⟨rfl, HBZ.out⟩
  have HOK : Hid ((∀ x ∈ ss, x.ok) ∧ N ≤ 40) := Lib.hid (HFR.out rfl)
  have x3 := HXF.out.cell (i := 3) rfl
  by_cases h60 : 60 < n
  · have d60 : decide ((60 : Int) < (n : Int)) = true := decide_eq_true (by omega)
    go_wp2_with fail
    refine (wakes_any HVF.out).mono ?_
    rintro e wZ ⟨rfl, hb⟩
    have HBZ := Lib.hid (stay HBF.out hb)
    clear hb
    go_wp2_with fail
    go_ret
    exact ⟨rfl, HBZ.out⟩
  have d60 : decide ((60 : Int) < (n : Int)) = false := decide_eq_false (by omega)
  have HN60 : Hid (n ≤ 60) := Lib.hid (by omega)
  obtain ⟨t, ht, ht1, ht2, ht3⟩ := tot_nat g
  have HTB : Hid (1 ≤ t ∧ t ≤ 1024) := Lib.hid ⟨ht1, ht2⟩
  have HTO := Lib.hid ht3
  have HTM := Lib.hid ht
  clear ht ht1 ht2 ht3 h60 HFR
  go_upto_region 3 with fail
  refine wp_region_lit ?_
  clear x3 d60
  refine takeL (.agg #[.int .i64 g.p, .int .i64 g.s, .int .i64 g.l, .int .i64 g.f]) rfl (by have q0 := HGF.out.cell (i := 0) rfl; have q1 := HGF.out.cell (i := 1) rfl; have q2 := HGF.out.cell (i := 2) rfl; have q3 := HGF.out.cell (i := 3) rfl; go_simp) ?_
  try simp only [Act.put, List.setIfInBounds_toArray, List.set_cons_succ, List.set_cons_zero]
  refine wpList_op rfl fun K hK => ?_
  go_simp
  refine (rof_any g _).mono ?_
  rintro e w3 ⟨x, y, rfl, hb⟩
  have HG3 := Lib.hid (HGF.out.below hb HGF.out.lt)
  have HX3 := Lib.hid (HXF.out.below hb HXF.out.lt)
  have HB3 := Lib.hid (stay HBF.out hb)
  have HS3 := Lib.hid (HS.out.below HB3.out)
  have HA3 := Lib.hid (HA.out.below HB3.out)
  have HV3 := Lib.hid (Vars.below (Nat.le_refl _) HB3.out HV.out)
  clear hb HGF HXF HBF HVF
  refine hK _ _ ?_
  clear hK K
  try simp only [Act.put, List.setIfInBounds_toArray, List.set_cons_succ, List.set_cons_zero]
  refine takeL (.int .i64 (tot g)) rfl (by have z := field32m x (tot g) y w3; go_simp) ?_
  try simp only [Act.put, List.setIfInBounds_toArray, List.set_cons_succ, List.set_cons_zero]
  refine takeL (.int .i64 (t : Int)) rfl (by have z := HTM.out; go_simp) ?_
  try simp only [Act.put, List.setIfInBounds_toArray, List.set_cons_succ, List.set_cons_zero]
  refine takeL (.int .i64 (t : Int)) rfl (by go_simp) ?_
  try simp only [Act.put, List.setIfInBounds_toArray, List.set_cons_succ, List.set_cons_zero]
  refine wpList_nil ?_
  go_upto_region 4 with fail
  refine wp_region_lit ?_
  refine takeL (.int .i64 (t : Int)) rfl (by go_simp) ?_
  try simp only [Act.put, List.setIfInBounds_toArray, List.set_cons_succ, List.set_cons_zero]
  refine wpList_op rfl fun K hK => ?_
  go_simp
  refine (De.dv_new w3 _ (Below.refl _ _) t HTB.out).mono ?_
  rintro e w4 ⟨b, F, rfl, hdv, hb, hF⟩
  have HD4 := Lib.hid hdv
  have HB4 := Lib.hid hb
  clear hdv hb hF
  refine hK _ _ ?_
  clear hK K
  try simp only [Act.put, List.setIfInBounds_toArray, List.set_cons_succ, List.set_cons_zero]
  refine takeL (.tuple #[.pointer (some ⟨b, 0, none⟩), .int .i64 0]) rfl (by go_simp) ?_
  try simp only [Act.put, List.setIfInBounds_toArray, List.set_cons_succ, List.set_cons_zero]
  refine takeL (.pointer (some ⟨b, 0, none⟩)) rfl (by go_simp) ?_
  try simp only [Act.put, List.setIfInBounds_toArray, List.set_cons_succ, List.set_cons_zero]
  refine takeL (.int .i64 0) rfl (by go_simp) ?_
  try simp only [Act.put, List.setIfInBounds_toArray, List.set_cons_succ, List.set_cons_zero]
  refine takeL (.pointer (some ⟨b, 0, none⟩)) rfl (by go_simp) ?_
  try simp only [Act.put, List.setIfInBounds_toArray, List.set_cons_succ, List.set_cons_zero]
  refine takeL (.int .i64 0) rfl (by go_simp) ?_
  try simp only [Act.put, List.setIfInBounds_toArray, List.set_cons_succ, List.set_cons_zero]
  refine wpList_nil ?_
  go_upto_region 5 with fail
  refine wp_region_lit ?_
  refine takeL (.int .i64 (t : Int)) rfl (by go_simp) ?_
  try simp only [Act.put, List.setIfInBounds_toArray, List.set_cons_succ, List.set_cons_zero]
  refine wpList_op rfl fun K hK => ?_
  go_simp
  refine (De.rv_new w3 _ HB4.out t HTB.out).mono ?_
  rintro e w5 ⟨q, G, rfl, hrv, hb, hG⟩
  have HR5 := Lib.hid hrv
  have HD5 := Lib.hid (HD4.out.below hb)
  have HFG : Hid (∀ k, F k → ¬ G k) := Lib.hid fun k hk hg => by have := (HD4.out.lt k hk).2; have := hG k hg; omega
  have HB5 := Lib.hid (stay HB4.out hb)
  clear hrv hb hG HB4 HD4
  refine hK _ _ ?_
  clear hK K
  try simp only [Act.put, List.setIfInBounds_toArray, List.set_cons_succ, List.set_cons_zero]
  refine takeL (.tuple #[.pointer (some ⟨q, 0, none⟩), .int .i64 0]) rfl (by go_simp) ?_
  try simp only [Act.put, List.setIfInBounds_toArray, List.set_cons_succ, List.set_cons_zero]
  refine takeL (.pointer (some ⟨q, 0, none⟩)) rfl (by go_simp) ?_
  try simp only [Act.put, List.setIfInBounds_toArray, List.set_cons_succ, List.set_cons_zero]
  refine takeL (.int .i64 0) rfl (by go_simp) ?_
  try simp only [Act.put, List.setIfInBounds_toArray, List.set_cons_succ, List.set_cons_zero]
  refine takeL (.pointer (some ⟨q, 0, none⟩)) rfl (by go_simp) ?_
  try simp only [Act.put, List.setIfInBounds_toArray, List.set_cons_succ, List.set_cons_zero]
  refine takeL (.int .i64 0) rfl (by go_simp) ?_
  try simp only [Act.put, List.setIfInBounds_toArray, List.set_cons_succ, List.set_cons_zero]
  refine wpList_nil ?_
  have HG5 := Lib.hid (HG3.out.below HB5.out HG3.out.lt)
  have HX5 := Lib.hid (HX3.out.below HB5.out HX3.out.lt)
  have HA5 := Lib.hid (HA3.out.below HB5.out)
  have HV5 := Lib.hid (Vars.below (Nat.le_refl _) HB5.out HV3.out)
  go_upto_region 6 with fail
  refine startH (fun wq => Below w5.heap.size w5 wq) (by kernel_rfl) ?_
  have HS0 : Hid (Below w5.heap.size w5 w5.drew) := Lib.hid (Below.refl _ _).drew
  generalize w5.drew = u0 at *
  refine takeH 0 (some 53) (.pointer (some ⟨b, 0, none⟩)) rfl rfl (by kernel_rfl) (by kernel_rfl) (by kernel_rfl) (fun _ _ _ h => h) rfl (fun wq hS => by go_simp) HS0.out ?_
  try simp only [Act.put, List.setIfInBounds_toArray, List.set_cons_succ, List.set_cons_zero]
  refine takeH 1 (some 54) (.agg #[.int .i64 g.p, .int .i64 g.s, .int .i64 g.l, .int .i64 g.f]) rfl rfl (by kernel_rfl) (by kernel_rfl) (by kernel_rfl) (fun _ _ _ h => h) rfl (fun wq hS => by have q := HG5.out.below hS HG5.out.lt; have q0 := q.cell (i := 0) rfl; have q1 := q.cell (i := 1) rfl; have q2 := q.cell (i := 2) rfl; have q3 := q.cell (i := 3) rfl; go_simp) HS0.out ?_
  try simp only [Act.put, List.setIfInBounds_toArray, List.set_cons_succ, List.set_cons_zero]
  refine takeH 2 (some 55) (.pointer (some ⟨xb, 0, none⟩)) rfl rfl (by kernel_rfl) (by kernel_rfl) (by kernel_rfl) (fun _ _ _ h => h) rfl (fun wq hS => by go_simp) HS0.out ?_
  try simp only [Act.put, List.setIfInBounds_toArray, List.set_cons_succ, List.set_cons_zero]
  refine takeH 3 (some 56) (.int .i64 a.seg) rfl rfl (by kernel_rfl) (by kernel_rfl) (by kernel_rfl) (fun _ _ _ h => h) rfl (fun wq hS => by have q := (HX5.out.below hS HX5.out.lt).cell (i := 0) rfl; go_simp) HS0.out ?_
  try simp only [Act.put, List.setIfInBounds_toArray, List.set_cons_succ, List.set_cons_zero]
  refine takeH 4 (some 57) (.pointer (some ⟨xb, 1, none⟩)) rfl rfl (by kernel_rfl) (by kernel_rfl) (by kernel_rfl) (fun _ _ _ h => h) rfl (fun wq hS => by go_simp) HS0.out ?_
  try simp only [Act.put, List.setIfInBounds_toArray, List.set_cons_succ, List.set_cons_zero]
  refine takeH 5 (some 58) (.int .i64 a.off) rfl rfl (by kernel_rfl) (by kernel_rfl) (by kernel_rfl) (fun _ _ _ h => h) rfl (fun wq hS => by have q := (HX5.out.below hS HX5.out.lt).cell (i := 1) rfl; go_simp) HS0.out ?_
  try simp only [Act.put, List.setIfInBounds_toArray, List.set_cons_succ, List.set_cons_zero]
  refine takeH 6 (some 59) (.pointer (some ⟨xb, 2, none⟩)) rfl rfl (by kernel_rfl) (by kernel_rfl) (by kernel_rfl) (fun _ _ _ h => h) rfl (fun wq hS => by go_simp) HS0.out ?_
  try simp only [Act.put, List.setIfInBounds_toArray, List.set_cons_succ, List.set_cons_zero]
  refine takeH 7 (some 60) (.int .u32 a.seq) rfl rfl (by kernel_rfl) (by kernel_rfl) (by kernel_rfl) (fun _ _ _ h => h) rfl (fun wq hS => by have q := (HX5.out.below hS HX5.out.lt).cell (i := 2) rfl; go_simp) HS0.out ?_
  try simp only [Act.put, List.setIfInBounds_toArray, List.set_cons_succ, List.set_cons_zero]
  refine takeH 9 (some 62) (.pointer (some ⟨xb, 3, none⟩)) rfl rfl (by kernel_rfl) (by kernel_rfl) (by kernel_rfl) (fun _ _ _ h => h) rfl (fun wq hS => by go_simp) HS0.out ?_
  try simp only [Act.put, List.setIfInBounds_toArray, List.set_cons_succ, List.set_cons_zero]
  refine takeH 10 (some 63) (.slice fa n fc) rfl rfl (by kernel_rfl) (by kernel_rfl) (by kernel_rfl) (fun _ _ _ h => h) rfl (fun wq hS => by have q := (HX5.out.below hS HX5.out.lt).cell (i := 3) rfl; go_simp) HS0.out ?_
  try simp only [Act.put, List.setIfInBounds_toArray, List.set_cons_succ, List.set_cons_zero]
  refine oneH 8 (by kernel_rfl) rfl rfl fun K hK => ?_
  refine wp_runTo (some 61) rfl (.slice (some ⟨u0.heap.size, 0, none⟩) 0 0) (u0.alloc (.cells #[] 3)) (by go_simp) ?_
  have HO1 : Hid (OwnN (u0.alloc (.cells #[] 3)) u0.heap.size (.slice (some ⟨u0.heap.size, 0, none⟩) 0 0) []) := Lib.hid (OwnN.lit u0 u0.heap.size (Nat.le_refl _) [] (by simp) #[] rfl)
  have HS1 : Hid (Below w5.heap.size w5 (u0.alloc (.cells #[] 3))) := Lib.hid (stay HS0.out (alloc_bel u0 _))
  have HU1 : Hid (u0.heap.size ≤ (u0.alloc (.cells #[] 3)).heap.size) := Lib.hid (by simp)
  have HUW : Hid (w5.heap.size ≤ u0.heap.size) := Lib.hid HS0.out.size
  refine hK _ _ HS1.out ?_
  clear hK K
  generalize u0.alloc (.cells #[] 3) = u1 at *
  generalize u0.heap.size = g1 at *
  try simp only [Act.put, List.setIfInBounds_toArray, List.set_cons_succ, List.set_cons_zero]
  refine oneH 11 (by kernel_rfl) rfl rfl fun K hK => ?_
  refine app_WN _ _ (some 64) rfl rfl HO1.out HU1.out (HA5.out.below HS1.out) (by simp only [List.length_nil, HN.out]; have := HN60.out; omega) rfl rfl ?_
  intro tv u2 ho hb
  rw [List.nil_append] at ho
  have HO2 := Lib.hid ho.ints
  have HS2 : Hid (Below w5.heap.size w5 u2) := Lib.hid (HS1.out.trans (hb.mono HUW.out))
  obtain ⟨ta, tc, htv⟩ := ho.ints.form
  rw [HN.out] at htv
  subst htv
  refine hK _ _ HS2.out ?_
  clear hK K ho hb
  try simp only [Act.put, List.setIfInBounds_toArray, List.set_cons_succ, List.set_cons_zero]
  refine takeH 12 (some 65) (.agg #[.int .i64 a.seg, .int .i64 a.off, .int .u32 a.seq, .slice ta n tc]) rfl rfl (by kernel_rfl) (by kernel_rfl) (by kernel_rfl) (fun _ _ _ h => h) rfl (fun wq hS => by exact exec_build _ _ _ _ 27 _ rfl #[(0, .int .i64 a.seg), (1, .int .i64 a.off), (2, .int .u32 a.seq), (3, .slice ta n tc)] (by simp only [List.map_toArray, List.map_cons, List.map_nil]; rfl) _ (run_build wq 27 _ _ (built27 _ _ _ _ _ _))) HS2.out ?_
  try simp only [Act.put, List.setIfInBounds_toArray, List.set_cons_succ, List.set_cons_zero]
  refine oneH 13 (by kernel_rfl) rfl rfl fun K hK => ?_
  go_simp
  refine (new_law2 (W := w3) t HTB.out.2 g HTO.out a (.slice ta n tc) HNA.out HQ.out HO2.out (HD5.out.below HS2.out) (Vars.below (Nat.le_refl _) HS2.out HV5.out)).mono ?_
  rintro e u3 (⟨hg, rfl, hb⟩ | ⟨hg, jb, tv0, rfl, hj, hjl, hjn, hb⟩)
  · have HGD : Hid (a.good g = false) := Lib.hid hg
    have HS3 := Lib.hid (stay HS2.out hb)
    refine hK _ _ HS3.out ?_
    clear hK K
    try simp only [Act.put, List.setIfInBounds_toArray, List.set_cons_succ, List.set_cons_zero]
    refine takeH 14 (some 52) (.tuple #[.pointer none, .int .i64 1]) rfl rfl (by kernel_rfl) (by kernel_rfl) (by kernel_rfl) (fun _ _ _ h => h) rfl (fun wq hS => by go_simp) HS3.out ?_
    try simp only [Act.put, List.setIfInBounds_toArray, List.set_cons_succ, List.set_cons_zero]
    refine takeH 15 (some 67) (.pointer none) rfl rfl (by kernel_rfl) (by kernel_rfl) (by kernel_rfl) (fun _ _ _ h => h) rfl (fun wq hS => by go_simp) HS3.out ?_
    try simp only [Act.put, List.setIfInBounds_toArray, List.set_cons_succ, List.set_cons_zero]
    refine takeH 17 (some 12) (.pointer none) rfl rfl (by kernel_rfl) (by kernel_rfl) (by kernel_rfl) (fun _ _ _ h => h) rfl (fun wq hS => by go_simp) HS3.out ?_
    try simp only [Act.put, List.setIfInBounds_toArray, List.set_cons_succ, List.set_cons_zero]
    refine takeH 16 (some 68) (.int .i64 1) rfl rfl (by kernel_rfl) (by kernel_rfl) (by kernel_rfl) (fun _ _ _ h => h) rfl (fun wq hS => by go_simp) HS3.out ?_
    try simp only [Act.put, List.setIfInBounds_toArray, List.set_cons_succ, List.set_cons_zero]
    refine takeH 18 (some 13) (.int .i64 1) rfl rfl (by kernel_rfl) (by kernel_rfl) (by kernel_rfl) (fun _ _ _ h => h) rfl (fun wq hS => by go_simp) HS3.out ?_
    try simp only [Act.put, List.setIfInBounds_toArray, List.set_cons_succ, List.set_cons_zero]
    refine wpAnyH_done (by kernel_rfl) ?_ _
    have HB6 := Lib.hid (stay HB5.out HS3.out)
    have HG6 := Lib.hid (HG5.out.below HS3.out HG5.out.lt)
    have HX6 := Lib.hid (HX5.out.below HS3.out HX5.out.lt)
    have HA6 := Lib.hid (HA5.out.below HS3.out)
    have HR6 := Lib.hid (Rv.below HR5.out HS3.out)
    clear hb hg HS0 HS1 HS2 HS3 HO1 HO2 HU1 HUW HG5 HX5 HA5 HV5 HR5 HD5 HB5
    go_upto_region 7 with fail
    refine startH (fun wq => Below u3.heap.size u3 wq) (by kernel_rfl) ?_
    have HS0 : Hid (Below u3.heap.size u3 u3.drew) := Lib.hid (Below.refl _ _).drew
    generalize u3.drew = v0 at *
    refine takeH 0 (some 70) (.pointer (some ⟨q, 0, none⟩)) rfl rfl (by kernel_rfl) (by kernel_rfl) (by kernel_rfl) (fun _ _ _ h => h) rfl (fun wq hS => by go_simp) HS0.out ?_
    try simp only [Act.put, List.setIfInBounds_toArray, List.set_cons_succ, List.set_cons_zero]
    refine takeH 1 (some 71) (.agg #[.int .i64 g.p, .int .i64 g.s, .int .i64 g.l, .int .i64 g.f]) rfl rfl (by kernel_rfl) (by kernel_rfl) (by kernel_rfl) (fun _ _ _ h => h) rfl (fun wq hS => by have q := HG6.out.below hS HG6.out.lt; have q0 := q.cell (i := 0) rfl; have q1 := q.cell (i := 1) rfl; have q2 := q.cell (i := 2) rfl; have q3 := q.cell (i := 3) rfl; go_simp) HS0.out ?_
    try simp only [Act.put, List.setIfInBounds_toArray, List.set_cons_succ, List.set_cons_zero]
    refine takeH 2 (some 72) (.agg #[.int .i64 a.seg, .int .i64 a.off, .int .u32 a.seq, .slice fa n fc]) rfl rfl (by kernel_rfl) (by kernel_rfl) (by kernel_rfl) (fun _ _ _ h => h) rfl (fun wq hS => by have q := HX6.out.below hS HX6.out.lt; have q0 := q.cell (i := 0) rfl; have q1 := q.cell (i := 1) rfl; have q2 := q.cell (i := 2) rfl; have q3 := q.cell (i := 3) rfl; go_simp) HS0.out ?_
    try simp only [Act.put, List.setIfInBounds_toArray, List.set_cons_succ, List.set_cons_zero]
    refine oneH 3 (by kernel_rfl) rfl rfl fun K hK => ?_
    go_simp
    refine (lown_any a (.slice fa n fc) (by rw [HN.out]; have := HN60.out; omega) (HA6.out.below HS0.out)).mono ?_
    rintro e v1 ⟨tv, rfl, ho, hb⟩
    have HO1 := Lib.hid ho.ints
    have HS1 := Lib.hid (stay HS0.out hb)
    obtain ⟨ta, tc, htv⟩ := ho.ints.form
    rw [HN.out] at htv
    subst htv
    refine hK _ _ HS1.out ?_
    clear hK K ho hb
    try simp only [Act.put, List.setIfInBounds_toArray, List.set_cons_succ, List.set_cons_zero]
    refine oneH 4 (by kernel_rfl) rfl rfl fun K hK => ?_
    go_simp
    refine (rnew_law (W := w3) t HTB.out.2 g HTO.out a (.slice ta n tc) (by rw [HN.out]; have := HN60.out; omega) HO1.out (Rv.below HR6.out HS1.out)).mono ?_
    rintro e v2 (⟨hg, rfl, hb⟩ | ⟨hg, qb, rv0, rfl, hrn, hql, hqn, hb⟩)
    rotate_left
    · rw [HGD.out] at hg
      cases hg
    have HS2 := Lib.hid (stay HS1.out hb)
    refine hK _ _ HS2.out ?_
    clear hK K
    try simp only [Act.put, List.setIfInBounds_toArray, List.set_cons_succ, List.set_cons_zero]
    refine takeH 5 (some 69) (.tuple #[.pointer none, .int .i64 1]) rfl rfl (by kernel_rfl) (by kernel_rfl) (by kernel_rfl) (fun _ _ _ h => h) rfl (fun wq hS => by go_simp) HS2.out ?_
    try simp only [Act.put, List.setIfInBounds_toArray, List.set_cons_succ, List.set_cons_zero]
    refine takeH 6 (some 75) (.pointer none) rfl rfl (by kernel_rfl) (by kernel_rfl) (by kernel_rfl) (fun _ _ _ h => h) rfl (fun wq hS => by go_simp) HS2.out ?_
    try simp only [Act.put, List.setIfInBounds_toArray, List.set_cons_succ, List.set_cons_zero]
    refine takeH 8 (some 14) (.pointer none) rfl rfl (by kernel_rfl) (by kernel_rfl) (by kernel_rfl) (fun _ _ _ h => h) rfl (fun wq hS => by go_simp) HS2.out ?_
    try simp only [Act.put, List.setIfInBounds_toArray, List.set_cons_succ, List.set_cons_zero]
    refine takeH 7 (some 76) (.int .i64 1) rfl rfl (by kernel_rfl) (by kernel_rfl) (by kernel_rfl) (fun _ _ _ h => h) rfl (fun wq hS => by go_simp) HS2.out ?_
    try simp only [Act.put, List.setIfInBounds_toArray, List.set_cons_succ, List.set_cons_zero]
    refine takeH 9 (some 15) (.int .i64 1) rfl rfl (by kernel_rfl) (by kernel_rfl) (by kernel_rfl) (fun _ _ _ h => h) rfl (fun wq hS => by go_simp) HS2.out ?_
    try simp only [Act.put, List.setIfInBounds_toArray, List.set_cons_succ, List.set_cons_zero]
    refine wpAnyH_done (by kernel_rfl) ?_ _
    have HB7 := Lib.hid (stay HB6.out HS2.out)
    have HG7 := Lib.hid (HG6.out.below HS2.out HG6.out.lt)
    have HX7 := Lib.hid (HX6.out.below HS2.out HX6.out.lt)
    have HA7 := Lib.hid (HA6.out.below HS2.out)
    clear hb hg HS0 HS1 HS2 HO1 HG6 HX6 HA6 HR6 HB6
    go_upto_region 8 with fail
    refine startH (fun wq => Below v2.heap.size v2 wq) (by kernel_rfl) ?_
    have HS0 : Hid (Below v2.heap.size v2 v2.drew) := Lib.hid (Below.refl _ _).drew
    generalize v2.drew = x0 at *
    refine takeH 0 (some 77) (.int .i64 1) rfl rfl (by kernel_rfl) (by kernel_rfl) (by kernel_rfl) (fun _ _ _ h => h) rfl (fun wq hS => by go_simp) HS0.out ?_
    try simp only [Act.put, List.setIfInBounds_toArray, List.set_cons_succ, List.set_cons_zero]
    refine takeH 1 (some 78) (.int .i64 1) rfl rfl (by kernel_rfl) (by kernel_rfl) (by kernel_rfl) (fun _ _ _ h => h) rfl (fun wq hS => by go_simp) HS0.out ?_
    try simp only [Act.put, List.setIfInBounds_toArray, List.set_cons_succ, List.set_cons_zero]
    refine takeH 2 (some 79) (.bool false) rfl rfl (by kernel_rfl) (by kernel_rfl) (by kernel_rfl) (fun _ _ _ h => h) rfl (fun wq hS => by go_simp) HS0.out ?_
    try simp only [Act.put, List.setIfInBounds_toArray, List.set_cons_succ, List.set_cons_zero]
    refine takeH 3 (some 80) (.bool false) rfl rfl (by kernel_rfl) (by kernel_rfl) (by kernel_rfl) (fun _ _ _ h => h) rfl (fun wq hS => by go_simp) HS0.out ?_
    try simp only [Act.put, List.setIfInBounds_toArray, List.set_cons_succ, List.set_cons_zero]
    refine takeH 4 (some 81) (.pointer none) rfl rfl (by kernel_rfl) (by kernel_rfl) (by kernel_rfl) (fun _ _ _ h => h) rfl (fun wq hS => by go_simp) HS0.out ?_
    try simp only [Act.put, List.setIfInBounds_toArray, List.set_cons_succ, List.set_cons_zero]
    refine takeH 5 (some 82) (.bool true) rfl rfl (by kernel_rfl) (by kernel_rfl) (by kernel_rfl) (fun _ _ _ h => h) rfl (fun wq hS => by go_simp) HS0.out ?_
    try simp only [Act.put, List.setIfInBounds_toArray, List.set_cons_succ, List.set_cons_zero]
    refine takeH 6 (some 83) (.pointer none) rfl rfl (by kernel_rfl) (by kernel_rfl) (by kernel_rfl) (fun _ _ _ h => h) rfl (fun wq hS => by go_simp) HS0.out ?_
    try simp only [Act.put, List.setIfInBounds_toArray, List.set_cons_succ, List.set_cons_zero]
    refine takeH 7 (some 84) (.bool true) rfl rfl (by kernel_rfl) (by kernel_rfl) (by kernel_rfl) (fun _ _ _ h => h) rfl (fun wq hS => by go_simp) HS0.out ?_
    try simp only [Act.put, List.setIfInBounds_toArray, List.set_cons_succ, List.set_cons_zero]
    refine takeH 8 (some 85) (.bool false) rfl rfl (by kernel_rfl) (by kernel_rfl) (by kernel_rfl) (fun _ _ _ h => h) rfl (fun wq hS => by go_simp) HS0.out ?_
    try simp only [Act.put, List.setIfInBounds_toArray, List.set_cons_succ, List.set_cons_zero]
    refine takeH 9 (some 86) (.bool false) rfl rfl (by kernel_rfl) (by kernel_rfl) (by kernel_rfl) (fun _ _ _ h => h) rfl (fun wq hS => by go_simp) HS0.out ?_
    try simp only [Act.put, List.setIfInBounds_toArray, List.set_cons_succ, List.set_cons_zero]
    refine takeH 10 (some 87) (.bool false) rfl rfl (by kernel_rfl) (by kernel_rfl) (by kernel_rfl) (fun _ _ _ h => h) rfl (fun wq hS => by go_simp) HS0.out ?_
    try simp only [Act.put, List.setIfInBounds_toArray, List.set_cons_succ, List.set_cons_zero]
    refine takeH 11 (some 88) (.agg #[.int .i64 g.p, .int .i64 g.s, .int .i64 g.l, .int .i64 g.f]) rfl rfl (by kernel_rfl) (by kernel_rfl) (by kernel_rfl) (fun _ _ _ h => h) rfl (fun wq hS => by have q := HG7.out.below hS HG7.out.lt; have q0 := q.cell (i := 0) rfl; have q1 := q.cell (i := 1) rfl; have q2 := q.cell (i := 2) rfl; have q3 := q.cell (i := 3) rfl; go_simp) HS0.out ?_
    try simp only [Act.put, List.setIfInBounds_toArray, List.set_cons_succ, List.set_cons_zero]
    refine takeH 12 (some 89) (.agg #[.int .i64 a.seg, .int .i64 a.off, .int .u32 a.seq, .slice fa n fc]) rfl rfl (by kernel_rfl) (by kernel_rfl) (by kernel_rfl) (fun _ _ _ h => h) rfl (fun wq hS => by have q := HX7.out.below hS HX7.out.lt; have q0 := q.cell (i := 0) rfl; have q1 := q.cell (i := 1) rfl; have q2 := q.cell (i := 2) rfl; have q3 := q.cell (i := 3) rfl; go_simp) HS0.out ?_
    try simp only [Act.put, List.setIfInBounds_toArray, List.set_cons_succ, List.set_cons_zero]
    refine takeH 14 (some 91) (.agg #[.int .i64 g.p, .int .i64 g.s, .int .i64 g.l, .int .i64 g.f]) rfl rfl (by kernel_rfl) (by kernel_rfl) (by kernel_rfl) (fun _ _ _ h => h) rfl (fun wq hS => by have q := HG7.out.below hS HG7.out.lt; have q0 := q.cell (i := 0) rfl; have q1 := q.cell (i := 1) rfl; have q2 := q.cell (i := 2) rfl; have q3 := q.cell (i := 3) rfl; go_simp) HS0.out ?_
    try simp only [Act.put, List.setIfInBounds_toArray, List.set_cons_succ, List.set_cons_zero]
    refine takeH 15 (some 92) (.agg #[.int .i64 a.seg, .int .i64 a.off, .int .u32 a.seq, .slice fa n fc]) rfl rfl (by kernel_rfl) (by kernel_rfl) (by kernel_rfl) (fun _ _ _ h => h) rfl (fun wq hS => by have q := HX7.out.below hS HX7.out.lt; have q0 := q.cell (i := 0) rfl; have q1 := q.cell (i := 1) rfl; have q2 := q.cell (i := 2) rfl; have q3 := q.cell (i := 3) rfl; go_simp) HS0.out ?_
    try simp only [Act.put, List.setIfInBounds_toArray, List.set_cons_succ, List.set_cons_zero]
    refine oneH 13 (by kernel_rfl) rfl rfl fun K hK => ?_
    go_simp
    refine (jgood_any g a (.slice fa n fc) n HN.out (by have := HN60.out; omega) _ (HA7.out.below HS0.out)).mono ?_
    rintro e x1 ⟨rfl, hb⟩
    have HS1 := Lib.hid (stay HS0.out hb)
    rw [HGD.out]
    refine hK _ _ HS1.out ?_
    clear hK K hb
    try simp only [Act.put, List.setIfInBounds_toArray, List.set_cons_succ, List.set_cons_zero]
    refine oneH 16 (by kernel_rfl) rfl rfl fun K hK => ?_
    go_simp
    refine (lown_any a (.slice fa n fc) (by rw [HN.out]; have := HN60.out; omega) (HA7.out.below HS1.out)).mono ?_
    rintro e x2 ⟨tv, rfl, ho, hb⟩
    have HO1 := Lib.hid ho.ints
    have HS2 := Lib.hid (stay HS1.out hb)
    obtain ⟨ta, tc, htv⟩ := ho.ints.form
    rw [HN.out] at htv
    subst htv
    refine hK _ _ HS2.out ?_
    clear hK K ho hb
    try simp only [Act.put, List.setIfInBounds_toArray, List.set_cons_succ, List.set_cons_zero]
    refine oneH 17 (by kernel_rfl) rfl rfl fun K hK => ?_
    go_simp
    refine (rjgood_any g a (.slice ta n tc) n HN.out (by have := HN60.out; omega) HO1.out).mono ?_
    rintro e x3 ⟨rfl, hb⟩
    have HS3 := Lib.hid (stay HS2.out hb)
    rw [HGD.out]
    refine hK _ _ HS3.out ?_
    clear hK K hb
    try simp only [Act.put, List.setIfInBounds_toArray, List.set_cons_succ, List.set_cons_zero]
    refine takeH 18 (some 95) (.bool false) rfl rfl (by kernel_rfl) (by kernel_rfl) (by kernel_rfl) (fun _ _ _ h => h) rfl (fun wq hS => by go_simp) HS3.out ?_
    try simp only [Act.put, List.setIfInBounds_toArray, List.set_cons_succ, List.set_cons_zero]
    refine takeH 19 (some 96) (.bool false) rfl rfl (by kernel_rfl) (by kernel_rfl) (by kernel_rfl) (fun _ _ _ h => h) rfl (fun wq hS => by go_simp) HS3.out ?_
    try simp only [Act.put, List.setIfInBounds_toArray, List.set_cons_succ, List.set_cons_zero]
    refine wpAnyH_done (by kernel_rfl) ?_ _
    have HB8 := Lib.hid (stay HB7.out HS3.out)
    have HBW := Lib.hid (stay HB3.out HB8.out)
    clear HS0 HS1 HS2 HS3 HO1 HG7 HX7 HA7 HB7
    go_wp2_with fail
    go_loopg [16] 0 (fun qm i wr => i = .int .i64 0 ∧ wr = x3)
    case atStart => exact ⟨rfl, rfl⟩
    case round =>
      obtain ⟨rfl, rfl⟩ := hrel
      by_cases hN0 : (0 : Int) < (N : Int)
      · have dN : decide ((0 : Int) < (N : Int)) = true := decide_eq_true hN0
        go_wp2_with fail
        go_loopg [23] 0 (fun qm i w9 => i = .int .i64 0 ∧ w9 = wr)
        case atStart => exact ⟨rfl, rfl⟩
        case round =>
          obtain ⟨rfl, rfl⟩ := hrel
          have dT : decide ((0 : Int) < (t : Int)) = true := decide_eq_true (by have := HTB.out; omega)
          go_wp2_with fail
          all_goals
            refine (wakes_any (Vars.below (Nat.le_refl _) HBW.out HV.out)).mono ?_
            rintro e wZ ⟨rfl, hb⟩
            have HBZ := Lib.hid (stay HBW.out hb)
            clear hb
            go_wp2_with fail
            go_ret
            exact ⟨rfl, HBZ.out⟩
      · have dN : decide ((0 : Int) < (N : Int)) = false := decide_eq_false hN0
        go_wp2_with fail
        go_loopg [23] 0 (fun qm i w9 => i = .int .i64 0 ∧ w9 = wr)
        case atStart => exact ⟨rfl, rfl⟩
        case round =>
          obtain ⟨rfl, rfl⟩ := hrel
          have dT : decide ((0 : Int) < (t : Int)) = true := decide_eq_true (by have := HTB.out; omega)
          go_wp2_with fail
          all_goals
            refine (wakes_any (Vars.below (Nat.le_refl _) HBW.out HV.out)).mono ?_
            rintro e wZ ⟨rfl, hb⟩
            have HBZ := Lib.hid (stay HBW.out hb)
            clear hb
            go_wp2_with fail
            go_ret
            exact ⟨rfl, HBZ.out⟩
  have HGD : Hid (a.good g = true) := Lib.hid hg
  have HJ6 := Lib.hid hj
  have HJL : Hid (w5.heap.size ≤ jb ∧ jb < u3.heap.size ∧ ∀ b' o n c, tv0 = .slice (some ⟨b', o, none⟩) n c → w5.heap.size ≤ b' ∧ b' < u3.heap.size) := Lib.hid ⟨Nat.le_trans HS2.out.size hjl, hj.blk.lt, fun b' o n c e => ⟨Nat.le_trans HS2.out.size (hjn b' o n c e), (hj.sep b' o n c e).2.2.2⟩⟩
  have HFB : Hid (∀ k, F k → k < w5.heap.size) := Lib.hid fun k hk => (HD5.out.lt k hk).2
  have HGB : Hid (∀ k, G k → k < w5.heap.size) := Lib.hid fun k hk => (HR5.out.lt k hk).2
  have HS3 := Lib.hid (stay HS2.out hb)
  refine hK _ _ HS3.out ?_
  clear hK K
  try simp only [Act.put, List.setIfInBounds_toArray, List.set_cons_succ, List.set_cons_zero]
  refine takeH 14 (some 52) (.tuple #[.pointer (some ⟨jb, 0, none⟩), .int .i64 0]) rfl rfl (by kernel_rfl) (by kernel_rfl) (by kernel_rfl) (fun _ _ _ h => h) rfl (fun wq hS => by go_simp) HS3.out ?_
  try simp only [Act.put, List.setIfInBounds_toArray, List.set_cons_succ, List.set_cons_zero]
  refine takeH 15 (some 67) (.pointer (some ⟨jb, 0, none⟩)) rfl rfl (by kernel_rfl) (by kernel_rfl) (by kernel_rfl) (fun _ _ _ h => h) rfl (fun wq hS => by go_simp) HS3.out ?_
  try simp only [Act.put, List.setIfInBounds_toArray, List.set_cons_succ, List.set_cons_zero]
  refine takeH 17 (some 12) (.pointer (some ⟨jb, 0, none⟩)) rfl rfl (by kernel_rfl) (by kernel_rfl) (by kernel_rfl) (fun _ _ _ h => h) rfl (fun wq hS => by go_simp) HS3.out ?_
  try simp only [Act.put, List.setIfInBounds_toArray, List.set_cons_succ, List.set_cons_zero]
  refine takeH 16 (some 68) (.int .i64 0) rfl rfl (by kernel_rfl) (by kernel_rfl) (by kernel_rfl) (fun _ _ _ h => h) rfl (fun wq hS => by go_simp) HS3.out ?_
  try simp only [Act.put, List.setIfInBounds_toArray, List.set_cons_succ, List.set_cons_zero]
  refine takeH 18 (some 13) (.int .i64 0) rfl rfl (by kernel_rfl) (by kernel_rfl) (by kernel_rfl) (fun _ _ _ h => h) rfl (fun wq hS => by go_simp) HS3.out ?_
  try simp only [Act.put, List.setIfInBounds_toArray, List.set_cons_succ, List.set_cons_zero]
  refine wpAnyH_done (by kernel_rfl) ?_ _
  have HB6 := Lib.hid (stay HB5.out HS3.out)
  have HG6 := Lib.hid (HG5.out.below HS3.out HG5.out.lt)
  have HX6 := Lib.hid (HX5.out.below HS3.out HX5.out.lt)
  have HA6 := Lib.hid (HA5.out.below HS3.out)
  have HR6 := Lib.hid (Rv.below HR5.out HS3.out)
  have HUU : Hid (w5.heap.size ≤ u3.heap.size) := Lib.hid HS3.out.size
  clear hb hg hj hjl hjn HS0 HS1 HS2 HS3 HO1 HO2 HU1 HUW HG5 HX5 HA5 HV5 HR5 HD5
  go_upto_region 7 with fail
  refine startH (fun wq => Below u3.heap.size u3 wq) (by kernel_rfl) ?_
  have HS0 : Hid (Below u3.heap.size u3 u3.drew) := Lib.hid (Below.refl _ _).drew
  generalize u3.drew = v0 at *
  refine takeH 0 (some 70) (.pointer (some ⟨q, 0, none⟩)) rfl rfl (by kernel_rfl) (by kernel_rfl) (by kernel_rfl) (fun _ _ _ h => h) rfl (fun wq hS => by go_simp) HS0.out ?_
  try simp only [Act.put, List.setIfInBounds_toArray, List.set_cons_succ, List.set_cons_zero]
  refine takeH 1 (some 71) (.agg #[.int .i64 g.p, .int .i64 g.s, .int .i64 g.l, .int .i64 g.f]) rfl rfl (by kernel_rfl) (by kernel_rfl) (by kernel_rfl) (fun _ _ _ h => h) rfl (fun wq hS => by have q := HG6.out.below hS HG6.out.lt; have q0 := q.cell (i := 0) rfl; have q1 := q.cell (i := 1) rfl; have q2 := q.cell (i := 2) rfl; have q3 := q.cell (i := 3) rfl; go_simp) HS0.out ?_
  try simp only [Act.put, List.setIfInBounds_toArray, List.set_cons_succ, List.set_cons_zero]
  refine takeH 2 (some 72) (.agg #[.int .i64 a.seg, .int .i64 a.off, .int .u32 a.seq, .slice fa n fc]) rfl rfl (by kernel_rfl) (by kernel_rfl) (by kernel_rfl) (fun _ _ _ h => h) rfl (fun wq hS => by have q := HX6.out.below hS HX6.out.lt; have q0 := q.cell (i := 0) rfl; have q1 := q.cell (i := 1) rfl; have q2 := q.cell (i := 2) rfl; have q3 := q.cell (i := 3) rfl; go_simp) HS0.out ?_
  try simp only [Act.put, List.setIfInBounds_toArray, List.set_cons_succ, List.set_cons_zero]
  refine oneH 3 (by kernel_rfl) rfl rfl fun K hK => ?_
  go_simp
  refine (lown_any a (.slice fa n fc) (by rw [HN.out]; have := HN60.out; omega) (HA6.out.below HS0.out)).mono ?_
  rintro e v1 ⟨tv, rfl, ho, hb⟩
  have HO1 := Lib.hid ho.ints
  have HS1 := Lib.hid (stay HS0.out hb)
  obtain ⟨ta, tc, htv⟩ := ho.ints.form
  rw [HN.out] at htv
  subst htv
  refine hK _ _ HS1.out ?_
  clear hK K ho hb
  try simp only [Act.put, List.setIfInBounds_toArray, List.set_cons_succ, List.set_cons_zero]
  refine oneH 4 (by kernel_rfl) rfl rfl fun K hK => ?_
  go_simp
  refine (rnew_law (W := w3) t HTB.out.2 g HTO.out a (.slice ta n tc) (by rw [HN.out]; have := HN60.out; omega) HO1.out (Rv.below HR6.out HS1.out)).mono ?_
  rintro e v2 (⟨hg, rfl, hb⟩ | ⟨hg, qb, rv0, rfl, hrn, hql, hqn, hb⟩)
  · rw [HGD.out] at hg
    cases hg
  have HQL : Hid (u3.heap.size ≤ qb) := Lib.hid (Nat.le_trans HS1.out.size hql)
  have HQN : Hid (∀ b o n c, rv0 = .slice (some ⟨b, o, none⟩) n c → u3.heap.size ≤ b) := Lib.hid fun b o n c e => Nat.le_trans HS1.out.size (hqn b o n c e)
  have HS2 := Lib.hid (stay HS1.out hb)
  refine hK _ _ HS2.out ?_
  clear hK K
  try simp only [Act.put, List.setIfInBounds_toArray, List.set_cons_succ, List.set_cons_zero]
  refine takeH 5 (some 69) (.tuple #[.pointer (some ⟨qb, 0, none⟩), .int .i64 0]) rfl rfl (by kernel_rfl) (by kernel_rfl) (by kernel_rfl) (fun _ _ _ h => h) rfl (fun wq hS => by go_simp) HS2.out ?_
  try simp only [Act.put, List.setIfInBounds_toArray, List.set_cons_succ, List.set_cons_zero]
  refine takeH 6 (some 75) (.pointer (some ⟨qb, 0, none⟩)) rfl rfl (by kernel_rfl) (by kernel_rfl) (by kernel_rfl) (fun _ _ _ h => h) rfl (fun wq hS => by go_simp) HS2.out ?_
  try simp only [Act.put, List.setIfInBounds_toArray, List.set_cons_succ, List.set_cons_zero]
  refine takeH 8 (some 14) (.pointer (some ⟨qb, 0, none⟩)) rfl rfl (by kernel_rfl) (by kernel_rfl) (by kernel_rfl) (fun _ _ _ h => h) rfl (fun wq hS => by go_simp) HS2.out ?_
  try simp only [Act.put, List.setIfInBounds_toArray, List.set_cons_succ, List.set_cons_zero]
  refine takeH 7 (some 76) (.int .i64 0) rfl rfl (by kernel_rfl) (by kernel_rfl) (by kernel_rfl) (fun _ _ _ h => h) rfl (fun wq hS => by go_simp) HS2.out ?_
  try simp only [Act.put, List.setIfInBounds_toArray, List.set_cons_succ, List.set_cons_zero]
  refine takeH 9 (some 15) (.int .i64 0) rfl rfl (by kernel_rfl) (by kernel_rfl) (by kernel_rfl) (fun _ _ _ h => h) rfl (fun wq hS => by go_simp) HS2.out ?_
  try simp only [Act.put, List.setIfInBounds_toArray, List.set_cons_succ, List.set_cons_zero]
  refine wpAnyH_done (by kernel_rfl) ?_ _
  have HB7 := Lib.hid (stay HB6.out HS2.out)
  have HG7 := Lib.hid (HG6.out.below HS2.out HG6.out.lt)
  have HX7 := Lib.hid (HX6.out.below HS2.out HX6.out.lt)
  have HA7 := Lib.hid (HA6.out.below HS2.out)
  have HD0 : Hid (Duo1 w3 v2 jb b qb q t g 0 F G (De.newD t) a tv0 rv0) := Lib.hid ⟨⟨HJ6.out.below HS2.out, hrn, fun k hk hg => by
      have h1 := HJL.out
      have h2 := HQL.out
      have h3 := HUU.out
      rcases hk with hk | hk <;> rcases hg with hg | hg
      · exact HFG.out k hk hg
      · have := HFB.out k hk; omega
      · have := HGB.out k hg; omega
      · omega, fun b' o n c e hg => by
      have h1 := HJL.out
      have h2 := HQL.out
      have h4 := h1.2.2 b' o n c e
      rcases hg with hg | hg
      · have := HGB.out b' hg; omega
      · omega, fun b' o n c e hk => by
      have h1 := HJL.out
      have h3 := HUU.out
      have h4 := HQN.out b' o n c e
      rcases hk with hk | hk
      · have := HFB.out b' hk; omega
      · omega⟩, newD_len t, Nat.zero_le _, Nat.zero_le _⟩
  clear hb hg hrn hql hqn HS0 HS1 HS2 HO1 HG6 HX6 HA6 HR6 HB6 HJ6 HJL HQL HQN HFB HGB HUU HFG
  go_upto_region 8 with fail
  refine startH (fun wq => Below v2.heap.size v2 wq) (by kernel_rfl) ?_
  have HS0 : Hid (Below v2.heap.size v2 v2.drew) := Lib.hid (Below.refl _ _).drew
  generalize v2.drew = x0 at *
  refine takeH 0 (some 77) (.int .i64 0) rfl rfl (by kernel_rfl) (by kernel_rfl) (by kernel_rfl) (fun _ _ _ h => h) rfl (fun wq hS => by go_simp) HS0.out ?_
  try simp only [Act.put, List.setIfInBounds_toArray, List.set_cons_succ, List.set_cons_zero]
  refine takeH 1 (some 78) (.int .i64 0) rfl rfl (by kernel_rfl) (by kernel_rfl) (by kernel_rfl) (fun _ _ _ h => h) rfl (fun wq hS => by go_simp) HS0.out ?_
  try simp only [Act.put, List.setIfInBounds_toArray, List.set_cons_succ, List.set_cons_zero]
  refine takeH 2 (some 79) (.bool false) rfl rfl (by kernel_rfl) (by kernel_rfl) (by kernel_rfl) (fun _ _ _ h => h) rfl (fun wq hS => by go_simp) HS0.out ?_
  try simp only [Act.put, List.setIfInBounds_toArray, List.set_cons_succ, List.set_cons_zero]
  refine takeH 3 (some 80) (.bool false) rfl rfl (by kernel_rfl) (by kernel_rfl) (by kernel_rfl) (fun _ _ _ h => h) rfl (fun wq hS => by go_simp) HS0.out ?_
  try simp only [Act.put, List.setIfInBounds_toArray, List.set_cons_succ, List.set_cons_zero]
  refine takeH 4 (some 81) (.pointer (some ⟨jb, 0, none⟩)) rfl rfl (by kernel_rfl) (by kernel_rfl) (by kernel_rfl) (fun _ _ _ h => h) rfl (fun wq hS => by go_simp) HS0.out ?_
  try simp only [Act.put, List.setIfInBounds_toArray, List.set_cons_succ, List.set_cons_zero]
  refine takeH 5 (some 82) (.bool false) rfl rfl (by kernel_rfl) (by kernel_rfl) (by kernel_rfl) (fun _ _ _ h => h) rfl (fun wq hS => by go_simp) HS0.out ?_
  try simp only [Act.put, List.setIfInBounds_toArray, List.set_cons_succ, List.set_cons_zero]
  refine takeH 6 (some 83) (.pointer (some ⟨qb, 0, none⟩)) rfl rfl (by kernel_rfl) (by kernel_rfl) (by kernel_rfl) (fun _ _ _ h => h) rfl (fun wq hS => by go_simp) HS0.out ?_
  try simp only [Act.put, List.setIfInBounds_toArray, List.set_cons_succ, List.set_cons_zero]
  refine takeH 7 (some 84) (.bool false) rfl rfl (by kernel_rfl) (by kernel_rfl) (by kernel_rfl) (fun _ _ _ h => h) rfl (fun wq hS => by go_simp) HS0.out ?_
  try simp only [Act.put, List.setIfInBounds_toArray, List.set_cons_succ, List.set_cons_zero]
  refine takeH 8 (some 85) (.bool false) rfl rfl (by kernel_rfl) (by kernel_rfl) (by kernel_rfl) (fun _ _ _ h => h) rfl (fun wq hS => by go_simp) HS0.out ?_
  try simp only [Act.put, List.setIfInBounds_toArray, List.set_cons_succ, List.set_cons_zero]
  refine takeH 9 (some 86) (.bool false) rfl rfl (by kernel_rfl) (by kernel_rfl) (by kernel_rfl) (fun _ _ _ h => h) rfl (fun wq hS => by go_simp) HS0.out ?_
  try simp only [Act.put, List.setIfInBounds_toArray, List.set_cons_succ, List.set_cons_zero]
  refine takeH 10 (some 87) (.bool false) rfl rfl (by kernel_rfl) (by kernel_rfl) (by kernel_rfl) (fun _ _ _ h => h) rfl (fun wq hS => by go_simp) HS0.out ?_
  try simp only [Act.put, List.setIfInBounds_toArray, List.set_cons_succ, List.set_cons_zero]
  refine takeH 11 (some 88) (.agg #[.int .i64 g.p, .int .i64 g.s, .int .i64 g.l, .int .i64 g.f]) rfl rfl (by kernel_rfl) (by kernel_rfl) (by kernel_rfl) (fun _ _ _ h => h) rfl (fun wq hS => by have q := HG7.out.below hS HG7.out.lt; have q0 := q.cell (i := 0) rfl; have q1 := q.cell (i := 1) rfl; have q2 := q.cell (i := 2) rfl; have q3 := q.cell (i := 3) rfl; go_simp) HS0.out ?_
  try simp only [Act.put, List.setIfInBounds_toArray, List.set_cons_succ, List.set_cons_zero]
  refine takeH 12 (some 89) (.agg #[.int .i64 a.seg, .int .i64 a.off, .int .u32 a.seq, .slice fa n fc]) rfl rfl (by kernel_rfl) (by kernel_rfl) (by kernel_rfl) (fun _ _ _ h => h) rfl (fun wq hS => by have q := HX7.out.below hS HX7.out.lt; have q0 := q.cell (i := 0) rfl; have q1 := q.cell (i := 1) rfl; have q2 := q.cell (i := 2) rfl; have q3 := q.cell (i := 3) rfl; go_simp) HS0.out ?_
  try simp only [Act.put, List.setIfInBounds_toArray, List.set_cons_succ, List.set_cons_zero]
  refine takeH 14 (some 91) (.agg #[.int .i64 g.p, .int .i64 g.s, .int .i64 g.l, .int .i64 g.f]) rfl rfl (by kernel_rfl) (by kernel_rfl) (by kernel_rfl) (fun _ _ _ h => h) rfl (fun wq hS => by have q := HG7.out.below hS HG7.out.lt; have q0 := q.cell (i := 0) rfl; have q1 := q.cell (i := 1) rfl; have q2 := q.cell (i := 2) rfl; have q3 := q.cell (i := 3) rfl; go_simp) HS0.out ?_
  try simp only [Act.put, List.setIfInBounds_toArray, List.set_cons_succ, List.set_cons_zero]
  refine takeH 15 (some 92) (.agg #[.int .i64 a.seg, .int .i64 a.off, .int .u32 a.seq, .slice fa n fc]) rfl rfl (by kernel_rfl) (by kernel_rfl) (by kernel_rfl) (fun _ _ _ h => h) rfl (fun wq hS => by have q := HX7.out.below hS HX7.out.lt; have q0 := q.cell (i := 0) rfl; have q1 := q.cell (i := 1) rfl; have q2 := q.cell (i := 2) rfl; have q3 := q.cell (i := 3) rfl; go_simp) HS0.out ?_
  try simp only [Act.put, List.setIfInBounds_toArray, List.set_cons_succ, List.set_cons_zero]
  refine oneH 13 (by kernel_rfl) rfl rfl fun K hK => ?_
  go_simp
  refine (jgood_any g a (.slice fa n fc) n HN.out (by have := HN60.out; omega) _ (HA7.out.below HS0.out)).mono ?_
  rintro e x1 ⟨rfl, hb⟩
  have HS1 := Lib.hid (stay HS0.out hb)
  rw [HGD.out]
  refine hK _ _ HS1.out ?_
  clear hK K hb
  try simp only [Act.put, List.setIfInBounds_toArray, List.set_cons_succ, List.set_cons_zero]
  refine oneH 16 (by kernel_rfl) rfl rfl fun K hK => ?_
  go_simp
  refine (lown_any a (.slice fa n fc) (by rw [HN.out]; have := HN60.out; omega) (HA7.out.below HS1.out)).mono ?_
  rintro e x2 ⟨tv, rfl, ho, hb⟩
  have HO1 := Lib.hid ho.ints
  have HS2 := Lib.hid (stay HS1.out hb)
  obtain ⟨ta, tc, htv⟩ := ho.ints.form
  rw [HN.out] at htv
  subst htv
  refine hK _ _ HS2.out ?_
  clear hK K ho hb
  try simp only [Act.put, List.setIfInBounds_toArray, List.set_cons_succ, List.set_cons_zero]
  refine oneH 17 (by kernel_rfl) rfl rfl fun K hK => ?_
  go_simp
  refine (rjgood_any g a (.slice ta n tc) n HN.out (by have := HN60.out; omega) HO1.out).mono ?_
  rintro e x3 ⟨rfl, hb⟩
  have HS3 := Lib.hid (stay HS2.out hb)
  rw [HGD.out]
  refine hK _ _ HS3.out ?_
  clear hK K hb
  try simp only [Act.put, List.setIfInBounds_toArray, List.set_cons_succ, List.set_cons_zero]
  refine takeH 18 (some 95) (.bool false) rfl rfl (by kernel_rfl) (by kernel_rfl) (by kernel_rfl) (fun _ _ _ h => h) rfl (fun wq hS => by go_simp) HS3.out ?_
  try simp only [Act.put, List.setIfInBounds_toArray, List.set_cons_succ, List.set_cons_zero]
  refine takeH 19 (some 96) (.bool false) rfl rfl (by kernel_rfl) (by kernel_rfl) (by kernel_rfl) (fun _ _ _ h => h) rfl (fun wq hS => by go_simp) HS3.out ?_
  try simp only [Act.put, List.setIfInBounds_toArray, List.set_cons_succ, List.set_cons_zero]
  refine wpAnyH_done (by kernel_rfl) ?_ _
  have HD8 := Lib.hid (HD0.out.below HS3.out)
  have HB8 := Lib.hid (stay HB7.out HS3.out)
  clear HS0 HS1 HS2 HS3 HO1 HG7 HX7 HA7 HB7 HD0
  have HD0 := HD8
  clear HD8
  go_wp2_with fail
  go_loopg [16] N (fun qm i wr => ∃ (k : Nat) (F1 G1 : Nat → Prop) (d1 : De.D) (a1 : Ja) (f1 f2 : Value), N - k ≤ qm ∧ k ≤ N ∧ i = .int .i64 k ∧ Duo1 w3 wr jb b qb q t g k F1 G1 d1 a1 f1 f2)
  case atStart => exact ⟨0, F, G, De.newD t, a, tv0, rv0, by omega, by omega, rfl, HD0.out⟩
  case round =>
    obtain ⟨k, F1, G1, d1, a1, f1, f2, hq, hk, rfl, hd⟩ := hrel
    have HDR := Lib.hid hd
    clear hd
    by_cases hkN : k < N
    · have gk : decide ((k : Int) < (N : Int)) = true := decide_eq_true (by omega)
      have hk0 : (k : Int) < (N : Int) := by omega
      obtain ⟨x, hx⟩ : ∃ x, ss[k]? = some x := ⟨_, List.getElem?_eq_getElem (by rw [HK.out]; exact hkN)⟩
      have hxo := HOK.out.1 x (List.mem_of_getElem? hx)
      obtain ⟨a', c', e, hc⟩ := HS3.out
      obtain ⟨hx64, hil, hll, hfl, hff, b0, o0, e2, c0, c1, c2, c3⟩ := hc k x hx
      have hga : ga = some ⟨b0, o0, none⟩ := by
        injection e with e1
        rw [e1, e2]
      subst hga
      obtain ⟨kd, xn, lv, l, fv, f⟩ := x
      simp only at hx64 hil hll hfl hff c0 c1 c2 c3
      obtain ⟨la, lc, hlv⟩ := items_one hil
      obtain ⟨fa2, fc2, hfv⟩ := hfl.form
      obtain ⟨ln, hln⟩ : ∃ n, l.length = n := ⟨_, rfl⟩
      obtain ⟨fn, hfn⟩ : ∃ n, f.length = n := ⟨_, rfl⟩
      rw [hln] at hlv
      rw [hfn] at hfv
      subst hlv
      subst hfv
      have HLN := Lib.hid hln
      have HFN := Lib.hid hfn
      have HXO : Hid (fair (l.map (·.1)) = true ∧ f.length ≤ 60) := Lib.hid hxo
      have HX64 := Lib.hid hx64
      have HIL := Lib.hid hil
      have HFL := Lib.hid hfl
      have HBR : Hid (Below w3.heap.size w3 wr) := Lib.hid HDR.out.duo.j.bel
      have p0 := (HBR.out.cell (block_lt_of_cell c0)).trans c0
      have p1 := (HBR.out.cell (block_lt_of_cell c1)).trans c1
      have p2 := (HBR.out.cell (block_lt_of_cell c2)).trans c2
      have p3 := (HBR.out.cell (block_lt_of_cell c3)).trans c3
      clear hc e e2 hx hxo hil hll hfl hff hln hfn c0 c1 c2 c3 hx64
      go_upto_region 13 with fail
      refine wp_region_lit ?_
      refine takeL (.slice (some ⟨b0, o0, none⟩) N gc) rfl (by go_simp) ?_
      try simp only [Act.put, List.setIfInBounds_toArray, List.set_cons_succ, List.set_cons_zero]
      refine takeL (.int .i64 (k : Int)) rfl (by go_simp) ?_
      try simp only [Act.put, List.setIfInBounds_toArray, List.set_cons_succ, List.set_cons_zero]
      refine takeL (.pointer (some ⟨b0, o0 + k * 4, none⟩)) rfl (by go_simp) ?_
      try simp only [Act.put, List.setIfInBounds_toArray, List.set_cons_succ, List.set_cons_zero]
      refine takeL (.agg #[.int .i64 kd, .int .i64 xn, .slice la ln lc, .slice fa2 fn fc2]) rfl (by go_simp) ?_
      try simp only [Act.put, List.setIfInBounds_toArray, List.set_cons_succ, List.set_cons_zero]
      clear p0 p1 p2 p3
      refine alloc_g zero53 rfl ?_
      intro w5 hA hb hl
      try simp only [Act.put, List.setIfInBounds_toArray, List.set_cons_succ, List.set_cons_zero]
      refine store_all (cs := #[.int .i64 kd, .int .i64 xn, .slice la ln lc, .slice fa2 fn fc2]) hA rfl info53 (step_one _ _ _ _ _ _ _ _) rfl rfl rfl ?_
      intro w7 hD hO hlD
      try simp only [Act.put, List.setIfInBounds_toArray, List.set_cons_succ, List.set_cons_zero]
      have hbb : Below wr.heap.size wr w7 := hb.trans (hO.below hb.size fun k hk => Nat.le_of_eq hk.symm)
      have HK7 := Lib.hid hD
      have HD7 := Lib.hid (HDR.out.below hbb)
      have HKB : Hid (∀ j, F1 j ∨ j = jb ∨ G1 j ∨ j = qb → j < wr.heap.size) := Lib.hid fun j hj => by
        rcases hj with h | h | h | h
        · exact (HDR.out.duo.j.dv.lt j h).2
        · rw [h]; exact HDR.out.duo.j.blk.lt
        · exact (HDR.out.duo.r.rv.lt j h).2
        · rw [h]; exact HDR.out.duo.r.blk.lt
      generalize wr.heap.size = sb at *
      clear hA hb hl hD hO hlD hbb HDR HBR gk hk0
      refine wpList_nil ?_
      have y0 := HK7.out.cell (i := 0) rfl
      have y1 := HK7.out.cell (i := 1) rfl
      have y2 := HK7.out.cell (i := 2) rfl
      have y3 := HK7.out.cell (i := 3) rfl
      go_upto_region 14 with fail
      refine wp_region_lit ?_
      refine takeL (.pointer (some ⟨sb, 0, none⟩)) rfl (by go_simp) ?_
      try simp only [Act.put, List.setIfInBounds_toArray, List.set_cons_succ, List.set_cons_zero]
      refine takeL (.int .i64 kd) rfl (by go_simp) ?_
      try simp only [Act.put, List.setIfInBounds_toArray, List.set_cons_succ, List.set_cons_zero]
      refine wpList_nil ?_
      clear y0
      by_cases h0 : kd = 0
      · subst h0
        clear y1 y3
        have hL0 : l.length ≤ 100 := by have := fair_len HXO.out.1; rw [List.length_map] at this; exact this
        have hB0 : ∀ x ∈ l, x.1.blk.bytes.length ≤ 300 := fun x hx => fair_bytes HXO.out.1 x.1 (List.mem_map.2 ⟨x, hx, rfl⟩)
        have HLE := Lib.hid hL0
        have HBE := Lib.hid hB0
        clear hL0 hB0
        go_upto_region 16 with fail
        refine wp_region_lit ?_
        refine takeL (.pointer (some ⟨jb, 0, none⟩)) rfl (by go_simp) ?_
        try simp only [Act.put, List.setIfInBounds_toArray, List.set_cons_succ, List.set_cons_zero]
        refine takeL (.pointer (some ⟨sb, 2, none⟩)) rfl (by go_simp) ?_
        try simp only [Act.put, List.setIfInBounds_toArray, List.set_cons_succ, List.set_cons_zero]
        refine takeL (.slice la ln lc) rfl (by go_simp) ?_
        try simp only [Act.put, List.setIfInBounds_toArray, List.set_cons_succ, List.set_cons_zero]
        clear y2
        refine wpList_op rfl fun K hK => ?_
        go_simp
        refine (own_new l HLE.out HBE.out _ _ (HIL.out.below HD7.out.duo.j.bel)).mono ?_
        rintro e wA ⟨tv, m, rfl, hm, hit, hb, hn1, hn2⟩
        have HDA := Lib.hid (HD7.out.below hb)
        have HKA := Lib.hid (HK7.out.below hb HK7.out.lt)
        have HFS7 : Hid (∀ k, F1 k ∨ k = jb → k < w7.heap.size) := Lib.hid fun k hk => hk.elim (fun h => (HD7.out.duo.j.dv.lt k h).2) fun h => by rw [h]; exact HD7.out.duo.j.blk.lt
        have HM := Lib.hid hm
        have HMI := Lib.hid hit
        have HN1 := Lib.hid hn1
        have HN2 := Lib.hid hn2
        have HML : Hid (m.length ≤ 100) := Lib.hid (by have := congrArg List.length hm; rw [List.length_map, List.length_map] at this; have := HLE.out; omega)
        obtain ⟨ta, tc, htv⟩ := items_one hit
        obtain ⟨mn, hmn⟩ : ∃ n, m.length = n := ⟨_, rfl⟩
        rw [hmn] at htv
        subst htv
        clear hm hit hb hn1 hn2 hmn HD7 HK7
        refine hK _ _ ?_
        clear hK K
        try simp only [Act.put, List.setIfInBounds_toArray, List.set_cons_succ, List.set_cons_zero]
        refine wpList_op rfl fun K hK => ?_
        go_simp
        refine (put_any HDA.out.duo.j HV3.out m (l.map (·.1)) HM.out _ (by have := HML.out; omega) HMI.out (fun w' ho => own_kept w7.heap.size (fun k h => HFS7.out k (.inl h)) HMI.out HN1.out HN2.out ho) (by rw [HDA.out.S]; exact HTB.out.2) (by have := HDA.out.T; have := HOK.out.2; omega) (by have := HDA.out.L; have := HOK.out.2; omega)).mono ?_
        rintro e wB ⟨pv, rfl, F2, f3, ho, hj, hon, hn, hpa, hsr⟩
        have hln := jput_len (g := g) (a := a1) d1 (L := l.map (·.1)) (by have := (Ja.good_parts HDA.out.duo.j.good).1.2.2.1.2; omega)
        have hfw := jput_few g a1 d1 (l.map (·.1))
        have hrp := fun (wq : World) (ov : Value) => @rput_any w3 wq qb q G1 d1 g a1 ov
        obtain ⟨⟨pe, pl, a2, d2⟩, hp⟩ : ∃ p, jput g a1 d1 (l.map (·.1)) = p := ⟨_, rfl⟩
        rw [hp] at ho hj hln hfw ⊢
        dsimp only at ho hj hln hfw ⊢
        have HP := Lib.hid hp
        have HPV := Lib.hid ho.ints
        have HPB : Hid (∀ b' o n c, pv = .slice (some ⟨b', o, none⟩) n c → wA.heap.size ≤ b') := Lib.hid fun b' o n c e => (ho.lt b' (by rw [e]; rfl)).1
        have HGA : Hid (∀ k, G1 k ∨ k = qb → k < wA.heap.size) := Lib.hid fun k hk => hk.elim (fun h => (HDA.out.duo.r.rv.lt k h).2) fun h => by rw [h]; exact HDA.out.duo.r.blk.lt
        have HNM : Hid (d2.S.length = t ∧ d2.T ≤ 1025 * (k + 1) ∧ d2.L.length ≤ 1024 * (k + 1)) := Lib.hid ⟨hln.1.trans HDA.out.S, by have := HDA.out.T; have := hln.2.1; omega, by have := HDA.out.L; have := hln.2.2; omega⟩
        have HOL : Hid (d1.S.length ≤ 1024 ∧ d1.T ≤ 800000 ∧ d1.L.length ≤ 800000) := Lib.hid ⟨by rw [HDA.out.S]; exact HTB.out.2, by have := HDA.out.T; have := HOK.out.2; omega, by have := HDA.out.L; have := HOK.out.2; omega⟩
        have HJG : Hid (a1.good g = true ∧ Seq32 a1.seq ∧ 4 + g.s * g.l ≤ (d1.S.length : Int)) := Lib.hid ⟨HDA.out.duo.j.good, HDA.out.duo.j.seq, HDA.out.duo.j.total⟩
        have HFEW : Hid (pl.length ≤ 100) := Lib.hid (by rw [List.length_map] at hfw; have := HLE.out; omega)
        obtain ⟨pa, pc, hpv⟩ := ho.ints.form
        obtain ⟨pn, hpn⟩ : ∃ n, pl.length = n := ⟨_, rfl⟩
        rw [hpn] at hpv
        subst hpv
        have HDB : Hid (Duo w3 wB jb b qb q F2 G1 d2 d1 g a2 a1 f3 f2) := Lib.hid (HDA.out.duo.left hj hon hn (.inl hsr))
        have HKC : Hid (Blk wB sb [.int .i64 0, .int .i64 xn, .slice la ln lc, .slice fa2 fn fc2]) := Lib.hid (HKA.out.only hon fun h => h.elim (fun h => by have := HKB.out sb (.inl h); omega) fun h => by have := HKB.out sb (.inr (.inl h)); omega)
        clear hp ho hj hon hn hpa hsr hln hfw hrp HDA HKA hpn
        refine hK _ _ ?_
        clear hK K
        try simp only [Act.put, List.setIfInBounds_toArray, List.set_cons_succ, List.set_cons_zero]
        refine takeL (.tuple #[.slice pa pn pc, .int .i64 pe]) rfl (by go_simp) ?_
        try simp only [Act.put, List.setIfInBounds_toArray, List.set_cons_succ, List.set_cons_zero]
        refine takeL (.slice pa pn pc) rfl (by go_simp) ?_
        try simp only [Act.put, List.setIfInBounds_toArray, List.set_cons_succ, List.set_cons_zero]
        refine takeL (.int .i64 pe) rfl (by go_simp) ?_
        try simp only [Act.put, List.setIfInBounds_toArray, List.set_cons_succ, List.set_cons_zero]
        refine takeL (.slice pa pn pc) rfl (by go_simp) ?_
        try simp only [Act.put, List.setIfInBounds_toArray, List.set_cons_succ, List.set_cons_zero]
        refine takeL (.int .i64 pe) rfl (by go_simp) ?_
        try simp only [Act.put, List.setIfInBounds_toArray, List.set_cons_succ, List.set_cons_zero]
        refine wpList_nil ?_
        go_upto_region 17 with fail
        refine wp_region_lit ?_
        refine takeL (.pointer (some ⟨qb, 0, none⟩)) rfl (by go_simp) ?_
        try simp only [Act.put, List.setIfInBounds_toArray, List.set_cons_succ, List.set_cons_zero]
        refine takeL (.pointer (some ⟨sb, 2, none⟩)) rfl (by go_simp) ?_
        try simp only [Act.put, List.setIfInBounds_toArray, List.set_cons_succ, List.set_cons_zero]
        refine takeL (.slice la ln lc) rfl (by have y2 := HKC.out.cell (i := 2) rfl; go_simp) ?_
        try simp only [Act.put, List.setIfInBounds_toArray, List.set_cons_succ, List.set_cons_zero]
        refine wpList_op rfl fun K hK => ?_
        go_simp
        refine (rput_any HDB.out.r HJG.out.1 HJG.out.2.1 HJG.out.2.2 l (l.map (·.1)) rfl _ (by have := HLE.out; omega) (HIL.out.below HDB.out.j.bel) (fun w' ho => HIL.out.below (HDB.out.j.bel.trans (ho.below HDB.out.j.bel.size fun k hk => (HDB.out.r.rv.lt k hk).1))) HOL.out.1 HOL.out.2.1 HOL.out.2.2).mono ?_
        rintro e wC ⟨pv2, rfl, G2, f4, ho, hr, hon, hn, hs2⟩
        rw [HP.out] at ho hr ⊢
        dsimp only at ho hr ⊢
        have HP2 := Lib.hid ho.ints
        have HPC : Hid (IntsAt wC (.slice pa pn pc) pl) := Lib.hid (HPV.out.onlyF hon fun b' o n c e hk => by have := HPB.out b' o n c e; have := HGA.out b' hk; omega)
        have HDE : Hid (Duo1 w3 wC jb b qb q t g (k + 1) F2 G2 d2 a2 f3 f4) := Lib.hid ⟨HDB.out.right hr hon hn hs2, HNM.out.1, HNM.out.2.1, HNM.out.2.2⟩
        obtain ⟨pa2, pc2, hpv⟩ := ho.ints.form
        obtain ⟨pn2, hpn⟩ : ∃ n, pl.length = n := ⟨_, rfl⟩
        rw [hpn] at hpv
        subst hpv
        clear ho hr hon hn hs2 hpn HDB HKC HKB HNM HP HPV HPB HGA HJG HOL HFS7 HM HMI HN1 HN2 HML
        refine hK _ _ ?_
        clear hK K
        try simp only [Act.put, List.setIfInBounds_toArray, List.set_cons_succ, List.set_cons_zero]
        refine takeL (.tuple #[.slice pa2 pn2 pc2, .int .i64 pe]) rfl (by go_simp) ?_
        try simp only [Act.put, List.setIfInBounds_toArray, List.set_cons_succ, List.set_cons_zero]
        refine takeL (.slice pa2 pn2 pc2) rfl (by go_simp) ?_
        try simp only [Act.put, List.setIfInBounds_toArray, List.set_cons_succ, List.set_cons_zero]
        refine takeL (.int .i64 pe) rfl (by go_simp) ?_
        try simp only [Act.put, List.setIfInBounds_toArray, List.set_cons_succ, List.set_cons_zero]
        refine takeL (.slice pa2 pn2 pc2) rfl (by go_simp) ?_
        try simp only [Act.put, List.setIfInBounds_toArray, List.set_cons_succ, List.set_cons_zero]
        refine takeL (.int .i64 pe) rfl (by go_simp) ?_
        try simp only [Act.put, List.setIfInBounds_toArray, List.set_cons_succ, List.set_cons_zero]
        refine wpList_nil ?_
        have e8 : (pe != pe) = false := by simp
        go_wp2_with fail
        refine (ints_any pl pl (by have := HFEW.out; omega) (by have := HFEW.out; omega) _ _ _ HPC.out HP2.out).mono ?_
        rintro e wE ⟨rfl, hb⟩
        rw [decide_eq_true (rfl : pl = pl)]
        have HDG := Lib.hid (HDE.out.below hb)
        clear hb HDE HPC HP2
        have HDE := HDG
        clear HDG

        obtain ⟨f9, c9, hf9⟩ := HDE.out.duo.r.fr.form
        obtain ⟨n9, hn9⟩ : ∃ n, a2.free.length = n := ⟨_, rfl⟩
        rw [hn9] at hf9
        subst hf9
        have HFW : Hid (a2.free.length ≤ 16) := Lib.hid (Ja.few HDE.out.duo.j.good)
        clear hn9
        go_upto_region 31 with fail
        refine startH (fun wq => Below wE.heap.size wE wq) (by kernel_rfl) ?_
        have HS0 : Hid (Below wE.heap.size wE wE.drew) := Lib.hid (Below.refl _ _).drew
        generalize wE.drew = z0 at *
        refine takeH 0 (some 199) (.pointer (some ⟨jb, 0, none⟩)) rfl rfl (by kernel_rfl) (by kernel_rfl) (by kernel_rfl) (fun _ _ _ h => h) rfl (fun wq hS => by go_simp) HS0.out ?_
        try simp only [Act.put, List.setIfInBounds_toArray, List.set_cons_succ, List.set_cons_zero]
        refine takeH 2 (some 201) (.pointer (some ⟨qb, 0, none⟩)) rfl rfl (by kernel_rfl) (by kernel_rfl) (by kernel_rfl) (fun _ _ _ h => h) rfl (fun wq hS => by go_simp) HS0.out ?_
        try simp only [Act.put, List.setIfInBounds_toArray, List.set_cons_succ, List.set_cons_zero]
        refine takeH 3 (some 202) (.pointer (some ⟨qb, 0, none⟩)) rfl rfl (by kernel_rfl) (by kernel_rfl) (by kernel_rfl) (fun _ _ _ h => h) rfl (fun wq hS => by go_simp) HS0.out ?_
        try simp only [Act.put, List.setIfInBounds_toArray, List.set_cons_succ, List.set_cons_zero]
        refine takeH 4 (some 203) (.pointer (some ⟨qb, 5, none⟩)) rfl rfl (by kernel_rfl) (by kernel_rfl) (by kernel_rfl) (fun _ _ _ h => h) rfl (fun wq hS => by go_simp) HS0.out ?_
        try simp only [Act.put, List.setIfInBounds_toArray, List.set_cons_succ, List.set_cons_zero]
        refine takeH 5 (some 204) (.agg #[.int .i64 a2.seg, .int .i64 a2.off, .int .u32 a2.seq, .slice f9 n9 c9]) rfl rfl (by kernel_rfl) (by kernel_rfl) (by kernel_rfl) (fun _ _ _ h => h) rfl (fun wq hS => by have q := HDE.out.duo.r.blk.below hS HDE.out.duo.r.blk.lt; have q5 := q.cell (i := 5) rfl; have q6 := q.cell (i := 6) rfl; have q7 := q.cell (i := 7) rfl; have q8 := q.cell (i := 8) rfl; go_simp) HS0.out ?_
        try simp only [Act.put, List.setIfInBounds_toArray, List.set_cons_succ, List.set_cons_zero]
        refine oneH 1 (by kernel_rfl) rfl rfl fun K hK => ?_
        go_simp
        refine (at_any (HDE.out.duo.j.below HS0.out)).mono ?_
        rintro e z1 ⟨tv, rfl, ho, hb⟩
        have HO1 := Lib.hid ho.ints
        have HS1 := Lib.hid (stay HS0.out hb)
        refine hK _ _ HS1.out ?_
        clear hK K ho hb
        try simp only [Act.put, List.setIfInBounds_toArray, List.set_cons_succ, List.set_cons_zero]
        refine oneH 6 (by kernel_rfl) rfl rfl fun K hK => ?_
        go_simp
        refine (same_yes a2 tv (.slice f9 n9 c9) (by have := HFW.out; omega) HO1.out (HDE.out.duo.r.fr.below HS1.out)).mono ?_
        rintro e z2 ⟨rfl, hb⟩
        have HS2 := Lib.hid (stay HS1.out hb)
        refine hK _ _ HS2.out ?_
        clear hK K hb HO1
        try simp only [Act.put, List.setIfInBounds_toArray, List.set_cons_succ, List.set_cons_zero]
        refine takeH 7 (some 206) (.bool false) rfl rfl (by kernel_rfl) (by kernel_rfl) (by kernel_rfl) (fun _ _ _ h => h) rfl (fun wq hS => by go_simp) HS2.out ?_
        try simp only [Act.put, List.setIfInBounds_toArray, List.set_cons_succ, List.set_cons_zero]
        refine wpAnyH_done (by kernel_rfl) ?_ _
        have HDF := Lib.hid (HDE.out.below HS2.out)
        clear HDE HS0 HS1 HS2
        have gk1 : IntKind.i64.wrap ((k : Int) + 1) = ((k + 1 : Nat) : Int) := by rw [wrap64 (by have := HOK.out.2; omega) (by have := HOK.out.2; omega)]; push_cast; rfl
        go_wp2_with fail
        go_roundg (N - (k + 1))
        case measure => omega
        case rel => exact ⟨k + 1, _, _, _, _, _, _, by omega, by omega, by go_num, HDF.out⟩
      have e0 : (kd == 0) = false := by rw [beq_eq_false_iff_ne]; exact h0
      by_cases h1 : kd = 1
      · subst h1
        clear y1 y2
        go_upto_region 21 with fail
        refine wp_region_lit ?_
        refine takeL (.pointer (some ⟨jb, 0, none⟩)) rfl (by go_simp) ?_
        try simp only [Act.put, List.setIfInBounds_toArray, List.set_cons_succ, List.set_cons_zero]
        refine wpList_run (.slice (some ⟨w7.heap.size, 0, none⟩) 0 0) (w7.alloc (.cells #[] 3)) rfl (by go_simp) ?_
        try simp only [Act.put, List.setIfInBounds_toArray, List.set_cons_succ, List.set_cons_zero]
        have hb1 := alloc_bel w7 (.cells #[] 3)
        have hO := OwnN.lit w7 w7.heap.size (Nat.le_refl _) [] (by simp) #[] rfl
        clear y3
        refine takeL (.pointer (some ⟨sb, 3, none⟩)) rfl (by go_simp) ?_
        try simp only [Act.put, List.setIfInBounds_toArray, List.set_cons_succ, List.set_cons_zero]
        refine takeL (.slice fa2 fn fc2) rfl (by have q3 := (HK7.out.below hb1 HK7.out.lt).cell (i := 3) rfl; go_simp) ?_
        try simp only [Act.put, List.setIfInBounds_toArray, List.set_cons_succ, List.set_cons_zero]
        refine app_LNg hO hb1.size (HFL.out.below (stay HD7.out.duo.j.bel hb1)) (by simp only [List.length_nil]; have := HXO.out.2; omega) rfl rfl rfl ?_
        intro uv w8 ho hg8
        try simp only [Act.put, List.setIfInBounds_toArray, List.set_cons_succ, List.set_cons_zero]
        rw [List.nil_append] at ho
        have hb8 := hb1.trans (grown_below hg8 hb1.size fun k hk => (hO.lt k hk).1)
        have HD8 := Lib.hid (HD7.out.below hb8)
        have HK8 := Lib.hid (HK7.out.below hb8 HK7.out.lt)
        have HU8 := Lib.hid ho.ints
        obtain ⟨ua, uc, huv⟩ := ho.ints.form
        rw [HFN.out] at huv
        subst huv
        clear hb1 hO ho hg8 hb8 HD7 HK7
        refine wpList_op rfl fun K hK => ?_
        go_simp
        refine (setFree_src HD8.out.duo.j f (.slice ua fn uc) (by have := HXO.out.2; omega) HU8.out).mono ?_
        rintro e wB ⟨rfl, ⟨f3, hj, hs⟩, hon⟩
        have HDB : Hid (Duo w3 wB jb b qb q F1 G1 d1 d1 g (a1.setFree g f) a1 f3 f2) := Lib.hid (HD8.out.duo.left hj (hon.more fun k _ h => .inr h) (fun j h => .inl h) (hs.elim (fun e => .inl (by rw [e]; exact Src.refl _)) fun h => .inr h))
        have HKC : Hid (Blk wB sb [.int .i64 1, .int .i64 xn, .slice la ln lc, .slice fa2 fn fc2]) := Lib.hid (HK8.out.only hon fun h => by have := HKB.out sb (.inr (.inl h)); omega)
        have HNM : Hid (d1.S.length = t ∧ d1.T ≤ 1025 * (k + 1) ∧ d1.L.length ≤ 1024 * (k + 1)) := Lib.hid ⟨HD8.out.S, by have := HD8.out.T; omega, by have := HD8.out.L; omega⟩
        clear hj hs hon HD8 HK8 HU8
        refine hK _ _ ?_
        clear hK K
        try simp only [Act.put, List.setIfInBounds_toArray, List.set_cons_succ, List.set_cons_zero]
        refine wpList_nil ?_
        go_upto_region 22 with fail
        go_cut [22] from 147 to 166 (fun s wx => ∃ yb ta tc, s = .pointer (some ⟨yb, 0, none⟩) ∧ Blk wx yb [.int .i64 a1.seg, .int .i64 a1.off, .int .u32 a1.seq, .slice ta fn tc] ∧ IntsAt wx (.slice ta fn tc) f ∧ (∀ b' o n c, Value.slice ta fn tc = .slice (some ⟨b', o, none⟩) n c → wB.heap.size ≤ b' ∧ b' < wx.heap.size) ∧ Below wB.heap.size wB wx)
        case first =>
          refine startH (fun wq => Below wB.heap.size wB wq) (by kernel_rfl) ?_
          have HS0 : Hid (Below wB.heap.size wB wB.drew) := Lib.hid (Below.refl _ _).drew
          generalize wB.drew = u0 at *
          refine takeH 0 (some 147) (.pointer (some ⟨qb, 0, none⟩)) rfl rfl (by kernel_rfl) (by kernel_rfl) (by kernel_rfl) (fun _ _ _ h => h) rfl (fun wq hS => by go_simp) HS0.out ?_
          try simp only [Act.put, List.setIfInBounds_toArray, List.set_cons_succ, List.set_cons_zero]
          refine takeH 1 (some 148) (.pointer (some ⟨qb, 0, none⟩)) rfl rfl (by kernel_rfl) (by kernel_rfl) (by kernel_rfl) (fun _ _ _ h => h) rfl (fun wq hS => by go_simp) HS0.out ?_
          try simp only [Act.put, List.setIfInBounds_toArray, List.set_cons_succ, List.set_cons_zero]
          refine takeH 2 (some 149) (.pointer (some ⟨qb, 5, none⟩)) rfl rfl (by kernel_rfl) (by kernel_rfl) (by kernel_rfl) (fun _ _ _ h => h) rfl (fun wq hS => by go_simp) HS0.out ?_
          try simp only [Act.put, List.setIfInBounds_toArray, List.set_cons_succ, List.set_cons_zero]
          refine takeH 3 (some 150) (.pointer (some ⟨qb, 5, none⟩)) rfl rfl (by kernel_rfl) (by kernel_rfl) (by kernel_rfl) (fun _ _ _ h => h) rfl (fun wq hS => by go_simp) HS0.out ?_
          try simp only [Act.put, List.setIfInBounds_toArray, List.set_cons_succ, List.set_cons_zero]
          refine takeH 4 (some 151) (.int .i64 a1.seg) rfl rfl (by kernel_rfl) (by kernel_rfl) (by kernel_rfl) (fun _ _ _ h => h) rfl (fun wq hS => by have q := (HDB.out.r.blk.below hS HDB.out.r.blk.lt).cell (i := 5) rfl; go_simp) HS0.out ?_
          try simp only [Act.put, List.setIfInBounds_toArray, List.set_cons_succ, List.set_cons_zero]
          refine takeH 5 (some 152) (.pointer (some ⟨qb, 0, none⟩)) rfl rfl (by kernel_rfl) (by kernel_rfl) (by kernel_rfl) (fun _ _ _ h => h) rfl (fun wq hS => by go_simp) HS0.out ?_
          try simp only [Act.put, List.setIfInBounds_toArray, List.set_cons_succ, List.set_cons_zero]
          refine takeH 6 (some 153) (.pointer (some ⟨qb, 0, none⟩)) rfl rfl (by kernel_rfl) (by kernel_rfl) (by kernel_rfl) (fun _ _ _ h => h) rfl (fun wq hS => by go_simp) HS0.out ?_
          try simp only [Act.put, List.setIfInBounds_toArray, List.set_cons_succ, List.set_cons_zero]
          refine takeH 7 (some 154) (.pointer (some ⟨qb, 5, none⟩)) rfl rfl (by kernel_rfl) (by kernel_rfl) (by kernel_rfl) (fun _ _ _ h => h) rfl (fun wq hS => by go_simp) HS0.out ?_
          try simp only [Act.put, List.setIfInBounds_toArray, List.set_cons_succ, List.set_cons_zero]
          refine takeH 8 (some 155) (.pointer (some ⟨qb, 6, none⟩)) rfl rfl (by kernel_rfl) (by kernel_rfl) (by kernel_rfl) (fun _ _ _ h => h) rfl (fun wq hS => by go_simp) HS0.out ?_
          try simp only [Act.put, List.setIfInBounds_toArray, List.set_cons_succ, List.set_cons_zero]
          refine takeH 9 (some 156) (.int .i64 a1.off) rfl rfl (by kernel_rfl) (by kernel_rfl) (by kernel_rfl) (fun _ _ _ h => h) rfl (fun wq hS => by have q := (HDB.out.r.blk.below hS HDB.out.r.blk.lt).cell (i := 6) rfl; go_simp) HS0.out ?_
          try simp only [Act.put, List.setIfInBounds_toArray, List.set_cons_succ, List.set_cons_zero]
          refine takeH 10 (some 157) (.pointer (some ⟨qb, 0, none⟩)) rfl rfl (by kernel_rfl) (by kernel_rfl) (by kernel_rfl) (fun _ _ _ h => h) rfl (fun wq hS => by go_simp) HS0.out ?_
          try simp only [Act.put, List.setIfInBounds_toArray, List.set_cons_succ, List.set_cons_zero]
          refine takeH 11 (some 158) (.pointer (some ⟨qb, 0, none⟩)) rfl rfl (by kernel_rfl) (by kernel_rfl) (by kernel_rfl) (fun _ _ _ h => h) rfl (fun wq hS => by go_simp) HS0.out ?_
          try simp only [Act.put, List.setIfInBounds_toArray, List.set_cons_succ, List.set_cons_zero]
          refine takeH 12 (some 159) (.pointer (some ⟨qb, 5, none⟩)) rfl rfl (by kernel_rfl) (by kernel_rfl) (by kernel_rfl) (fun _ _ _ h => h) rfl (fun wq hS => by go_simp) HS0.out ?_
          try simp only [Act.put, List.setIfInBounds_toArray, List.set_cons_succ, List.set_cons_zero]
          refine takeH 13 (some 160) (.pointer (some ⟨qb, 7, none⟩)) rfl rfl (by kernel_rfl) (by kernel_rfl) (by kernel_rfl) (fun _ _ _ h => h) rfl (fun wq hS => by go_simp) HS0.out ?_
          try simp only [Act.put, List.setIfInBounds_toArray, List.set_cons_succ, List.set_cons_zero]
          refine takeH 14 (some 161) (.int .u32 a1.seq) rfl rfl (by kernel_rfl) (by kernel_rfl) (by kernel_rfl) (fun _ _ _ h => h) rfl (fun wq hS => by have q := (HDB.out.r.blk.below hS HDB.out.r.blk.lt).cell (i := 7) rfl; go_simp) HS0.out ?_
          try simp only [Act.put, List.setIfInBounds_toArray, List.set_cons_succ, List.set_cons_zero]
          refine takeH 16 (some 163) (.pointer (some ⟨sb, 3, none⟩)) rfl rfl (by kernel_rfl) (by kernel_rfl) (by kernel_rfl) (fun _ _ _ h => h) rfl (fun wq hS => by go_simp) HS0.out ?_
          try simp only [Act.put, List.setIfInBounds_toArray, List.set_cons_succ, List.set_cons_zero]
          refine takeH 17 (some 164) (.slice fa2 fn fc2) rfl rfl (by kernel_rfl) (by kernel_rfl) (by kernel_rfl) (fun _ _ _ h => h) rfl (fun wq hS => by have q := (HKC.out.below hS HKC.out.lt).cell (i := 3) rfl; go_simp) HS0.out ?_
          try simp only [Act.put, List.setIfInBounds_toArray, List.set_cons_succ, List.set_cons_zero]
          refine twoH 15 20 (by kernel_rfl) rfl rfl rfl rfl (fun K hK => ?_) (fun K hK => ?_)
          · refine wp_runTo (some 162) rfl (.slice (some ⟨u0.heap.size, 0, none⟩) 0 0) (u0.alloc (.cells #[] 3)) (by go_simp) ?_
            have HO1 : Hid (OwnN (u0.alloc (.cells #[] 3)) u0.heap.size (.slice (some ⟨u0.heap.size, 0, none⟩) 0 0) []) := Lib.hid (OwnN.lit u0 u0.heap.size (Nat.le_refl _) [] (by simp) #[] rfl)
            have HS1 : Hid (Below wB.heap.size wB (u0.alloc (.cells #[] 3))) := Lib.hid (stay HS0.out (alloc_bel u0 _))
            have HU1 : Hid (u0.heap.size ≤ (u0.alloc (.cells #[] 3)).heap.size) := Lib.hid (by simp)
            have HUW : Hid (wB.heap.size ≤ u0.heap.size) := Lib.hid HS0.out.size
            refine hK _ _ HS1.out ?_
            clear hK K
            generalize u0.alloc (.cells #[] 3) = u1 at *
            generalize u0.heap.size = g1 at *
            try simp only [Act.put, List.setIfInBounds_toArray, List.set_cons_succ, List.set_cons_zero]
            refine twoH 18 20 (by kernel_rfl) rfl rfl rfl rfl (fun K hK => ?_) (fun K hK => ?_)
            · refine app_WO _ _ (some 165) rfl rfl HO1.out HU1.out (HFL.out.below (stay HDB.out.j.bel HS1.out)) (by have := HXO.out.2; omega) rfl rfl ?_
              intro tv u2 ho hb hz
              have HS2 : Hid (Below wB.heap.size wB u2) := Lib.hid (HS1.out.trans (hb.mono HUW.out))
              have HO9 := Lib.hid (ho.mono HUW.out)
              obtain ⟨ta, tc, htv⟩ := ho.ints.form
              rw [HFN.out] at htv
              subst htv
              refine hK _ _ HS2.out ?_
              clear hK K ho hb hz
              try simp only [Act.put, List.setIfInBounds_toArray, List.set_cons_succ, List.set_cons_zero]
              refine takeH 19 (some 166) (.agg #[.int .i64 a1.seg, .int .i64 a1.off, .int .u32 a1.seq, .slice ta fn tc]) rfl rfl (by kernel_rfl) (by kernel_rfl) (by kernel_rfl) (fun _ _ _ h => h) rfl (fun wq hS => by exact exec_build _ _ _ _ 47 _ rfl #[(0, .int .i64 a1.seg), (1, .int .i64 a1.off), (2, .int .u32 a1.seq), (3, .slice ta fn tc)] (by simp only [List.map_toArray, List.map_cons, List.map_nil]; rfl) _ (run_build wq 47 _ _ (built47 _ _ _ _ _ _))) HS2.out ?_
              try simp only [Act.put, List.setIfInBounds_toArray, List.set_cons_succ, List.set_cons_zero]
              refine oneH 20 (by kernel_rfl) rfl rfl fun K hK => ?_
              refine wp_runTo (some 22) rfl _ _ (exec_alloc _ _ _ 47 rfl _ zero47) ?_
              have HCT : Hid ((u2.alloc (.cells #[.int .i64 0, .int .i64 0, .int .u32 0, .slice none 0 0] 47)).heap[u2.heap.size]? = some (.cells #[.int .i64 0, .int .i64 0, .int .u32 0, .slice none 0 0] 47)) := Lib.hid (heap_alloc_new u2 _)
              have HAL : Hid (Below u2.heap.size u2 (u2.alloc (.cells #[.int .i64 0, .int .i64 0, .int .u32 0, .slice none 0 0] 47))) := Lib.hid (alloc_bel u2 (.cells #[.int .i64 0, .int .i64 0, .int .u32 0, .slice none 0 0] 47))
              have HS9 : Hid (Below wB.heap.size wB (u2.alloc (.cells #[.int .i64 0, .int .i64 0, .int .u32 0, .slice none 0 0] 47))) := Lib.hid (stay HS2.out HAL.out)
              have HYB : Hid (wB.heap.size ≤ u2.heap.size) := Lib.hid HS2.out.size
              have HYL : Hid (u2.heap.size < (u2.alloc (.cells #[.int .i64 0, .int .i64 0, .int .u32 0, .slice none 0 0] 47)).heap.size) := Lib.hid (by simp)
              have HY9 : Hid (∀ b' o n c, Value.slice ta fn tc = .slice (some ⟨b', o, none⟩) n c → ¬ b' = u2.heap.size) := Lib.hid fun b' o n c e h => by have := (HO9.out.lt b' (by rw [e]; rfl)).2; omega
              have HOX := Lib.hid (HO9.out.below HAL.out)
              refine hK _ _ HS9.out ?_
              clear hK K
              generalize u2.alloc (.cells #[.int .i64 0, .int .i64 0, .int .u32 0, .slice none 0 0] 47) = u3 at *
              generalize u2.heap.size = yb at *
              try simp only [Act.put, List.setIfInBounds_toArray, List.set_cons_succ, List.set_cons_zero]
              have HC9 : Hid (Blk u3 yb [.int .i64 0, .int .i64 0, .int .u32 0, .slice none 0 0]) := Lib.hid ⟨47, HCT.out⟩
              have HI9 := Lib.hid HOX.out.ints
              have HL9 : Hid (∀ b' o n c, Value.slice ta fn tc = .slice (some ⟨b', o, none⟩) n c → wB.heap.size ≤ b' ∧ b' < u3.heap.size) := Lib.hid fun b' o n c e => HOX.out.lt b' (by rw [e]; rfl)
              refine oneH 21 (by kernel_rfl) rfl rfl fun K hK => ?_
              refine wp_store_all 47 _ _ rfl yb #[.int .i64 a1.seg, .int .i64 a1.off, .int .u32 a1.seq, .slice ta fn tc] rfl rfl _ HC9.out rfl info47 (at_one _ _ _ _ _ _) ?_
              intro uE hD hO
              have HD9 := Lib.hid hD
              have HSE : Hid (Below wB.heap.size wB uE) := Lib.hid (HS9.out.trans (hO.below HS9.out.size fun k hk => by rw [hk]; exact HYB.out))
              have HIE := Lib.hid (HI9.out.onlyF hO fun b' o n c e hk => HY9.out b' o n c e hk)
              have HLE : Hid (∀ b' o n c, Value.slice ta fn tc = .slice (some ⟨b', o, none⟩) n c → wB.heap.size ≤ b' ∧ b' < uE.heap.size) := Lib.hid fun b' o n c e => ⟨(HL9.out b' o n c e).1, Nat.lt_of_lt_of_le (HL9.out b' o n c e).2 hO.size⟩
              refine hK _ _ HSE.out ?_
              clear hK K hD hO
              try simp only [Act.put, List.setIfInBounds_toArray, List.set_cons_succ, List.set_cons_zero]
              refine wpAnyH_done (by kernel_rfl) ?_ _
              go_wp2_with fail
              go_meet
              exact ⟨yb, ta, tc, rfl, HD9.out, HIE.out, HLE.out, HSE.out⟩
            · refine wp_runTo (some 22) rfl _ _ (exec_alloc _ _ _ 47 rfl _ zero47) ?_
              have HCT : Hid ((u1.alloc (.cells #[.int .i64 0, .int .i64 0, .int .u32 0, .slice none 0 0] 47)).heap[u1.heap.size]? = some (.cells #[.int .i64 0, .int .i64 0, .int .u32 0, .slice none 0 0] 47)) := Lib.hid (heap_alloc_new u1 _)
              have HAL : Hid (Below u1.heap.size u1 (u1.alloc (.cells #[.int .i64 0, .int .i64 0, .int .u32 0, .slice none 0 0] 47))) := Lib.hid (alloc_bel u1 (.cells #[.int .i64 0, .int .i64 0, .int .u32 0, .slice none 0 0] 47))
              have HS2 : Hid (Below wB.heap.size wB (u1.alloc (.cells #[.int .i64 0, .int .i64 0, .int .u32 0, .slice none 0 0] 47))) := Lib.hid (stay HS1.out HAL.out)
              have HYB : Hid (wB.heap.size ≤ u1.heap.size) := Lib.hid HS1.out.size
              have HYL : Hid (u1.heap.size < (u1.alloc (.cells #[.int .i64 0, .int .i64 0, .int .u32 0, .slice none 0 0] 47)).heap.size) := Lib.hid (by simp)
              have HOA := Lib.hid (HO1.out.below HAL.out)
              have HGY : Hid (g1 < u1.heap.size) := Lib.hid (HO1.out.lt g1 rfl).2
              refine hK _ _ HS2.out ?_
              clear hK K
              generalize u1.alloc (.cells #[.int .i64 0, .int .i64 0, .int .u32 0, .slice none 0 0] 47) = u2 at *
              generalize u1.heap.size = yb at *
              try simp only [Act.put, List.setIfInBounds_toArray, List.set_cons_succ, List.set_cons_zero]
              refine oneH 18 (by kernel_rfl) rfl rfl fun K hK => ?_
              have HUA : Hid (g1 ≤ u2.heap.size) := Lib.hid (by have := HGY.out; have := HYL.out; omega)
              refine app_WO _ _ (some 165) rfl rfl HOA.out HUA.out (HFL.out.below (stay HDB.out.j.bel HS2.out)) (by have := HXO.out.2; omega) rfl rfl ?_
              intro tv u3 ho hb hz
              have HS9 : Hid (Below wB.heap.size wB u3) := Lib.hid (HS2.out.trans (hb.mono HUW.out))
              have HO9 := Lib.hid (ho.mono HUW.out)
              obtain ⟨ta, tc, htv⟩ := ho.ints.form
              rw [HFN.out] at htv
              subst htv
              have hzz := hz yb _ HCT.out (by have := HGY.out; omega)
              have HC9 : Hid (Blk u3 yb [.int .i64 0, .int .i64 0, .int .u32 0, .slice none 0 0]) := Lib.hid ⟨47, hzz.1.trans HCT.out⟩
              have HY9 : Hid (∀ b' o n c, Value.slice ta fn tc = .slice (some ⟨b', o, none⟩) n c → ¬ b' = yb) := Lib.hid hzz.2
              clear hzz
              refine hK _ _ HS9.out ?_
              clear hK K ho hb hz
              try simp only [Act.put, List.setIfInBounds_toArray, List.set_cons_succ, List.set_cons_zero]
              have HI9 := Lib.hid HO9.out.ints
              have HL9 : Hid (∀ b' o n c, Value.slice ta fn tc = .slice (some ⟨b', o, none⟩) n c → wB.heap.size ≤ b' ∧ b' < u3.heap.size) := Lib.hid fun b' o n c e => HO9.out.lt b' (by rw [e]; rfl)
              refine takeH 19 (some 166) (.agg #[.int .i64 a1.seg, .int .i64 a1.off, .int .u32 a1.seq, .slice ta fn tc]) rfl rfl (by kernel_rfl) (by kernel_rfl) (by kernel_rfl) (fun _ _ _ h => h) rfl (fun wq hS => by exact exec_build _ _ _ _ 47 _ rfl #[(0, .int .i64 a1.seg), (1, .int .i64 a1.off), (2, .int .u32 a1.seq), (3, .slice ta fn tc)] (by simp only [List.map_toArray, List.map_cons, List.map_nil]; rfl) _ (run_build wq 47 _ _ (built47 _ _ _ _ _ _))) HS9.out ?_
              try simp only [Act.put, List.setIfInBounds_toArray, List.set_cons_succ, List.set_cons_zero]
              refine oneH 21 (by kernel_rfl) rfl rfl fun K hK => ?_
              refine wp_store_all 47 _ _ rfl yb #[.int .i64 a1.seg, .int .i64 a1.off, .int .u32 a1.seq, .slice ta fn tc] rfl rfl _ HC9.out rfl info47 (at_one _ _ _ _ _ _) ?_
              intro uE hD hO
              have HD9 := Lib.hid hD
              have HSE : Hid (Below wB.heap.size wB uE) := Lib.hid (HS9.out.trans (hO.below HS9.out.size fun k hk => by rw [hk]; exact HYB.out))
              have HIE := Lib.hid (HI9.out.onlyF hO fun b' o n c e hk => HY9.out b' o n c e hk)
              have HLE : Hid (∀ b' o n c, Value.slice ta fn tc = .slice (some ⟨b', o, none⟩) n c → wB.heap.size ≤ b' ∧ b' < uE.heap.size) := Lib.hid fun b' o n c e => ⟨(HL9.out b' o n c e).1, Nat.lt_of_lt_of_le (HL9.out b' o n c e).2 hO.size⟩
              refine hK _ _ HSE.out ?_
              clear hK K hD hO
              try simp only [Act.put, List.setIfInBounds_toArray, List.set_cons_succ, List.set_cons_zero]
              refine wpAnyH_done (by kernel_rfl) ?_ _
              go_wp2_with fail
              go_meet
              exact ⟨yb, ta, tc, rfl, HD9.out, HIE.out, HLE.out, HSE.out⟩
          · refine wp_runTo (some 22) rfl _ _ (exec_alloc _ _ _ 47 rfl _ zero47) ?_
            have HCT : Hid ((u0.alloc (.cells #[.int .i64 0, .int .i64 0, .int .u32 0, .slice none 0 0] 47)).heap[u0.heap.size]? = some (.cells #[.int .i64 0, .int .i64 0, .int .u32 0, .slice none 0 0] 47)) := Lib.hid (heap_alloc_new u0 _)
            have HAL : Hid (Below u0.heap.size u0 (u0.alloc (.cells #[.int .i64 0, .int .i64 0, .int .u32 0, .slice none 0 0] 47))) := Lib.hid (alloc_bel u0 (.cells #[.int .i64 0, .int .i64 0, .int .u32 0, .slice none 0 0] 47))
            have HS1 : Hid (Below wB.heap.size wB (u0.alloc (.cells #[.int .i64 0, .int .i64 0, .int .u32 0, .slice none 0 0] 47))) := Lib.hid (stay HS0.out HAL.out)
            have HYB : Hid (wB.heap.size ≤ u0.heap.size) := Lib.hid HS0.out.size
            have HYL : Hid (u0.heap.size < (u0.alloc (.cells #[.int .i64 0, .int .i64 0, .int .u32 0, .slice none 0 0] 47)).heap.size) := Lib.hid (by simp)
            refine hK _ _ HS1.out ?_
            clear hK K
            generalize u0.alloc (.cells #[.int .i64 0, .int .i64 0, .int .u32 0, .slice none 0 0] 47) = u1 at *
            generalize u0.heap.size = yb at *
            try simp only [Act.put, List.setIfInBounds_toArray, List.set_cons_succ, List.set_cons_zero]
            refine oneH 15 (by kernel_rfl) rfl rfl fun K hK => ?_
            refine wp_runTo (some 162) rfl (.slice (some ⟨u1.heap.size, 0, none⟩) 0 0) (u1.alloc (.cells #[] 3)) (by go_simp) ?_
            have HO1 : Hid (OwnN (u1.alloc (.cells #[] 3)) u1.heap.size (.slice (some ⟨u1.heap.size, 0, none⟩) 0 0) []) := Lib.hid (OwnN.lit u1 u1.heap.size (Nat.le_refl _) [] (by simp) #[] rfl)
            have HS2 : Hid (Below wB.heap.size wB (u1.alloc (.cells #[] 3))) := Lib.hid (stay HS1.out (alloc_bel u1 _))
            have HU1 : Hid (u1.heap.size ≤ (u1.alloc (.cells #[] 3)).heap.size) := Lib.hid (by simp)
            have HUW : Hid (wB.heap.size ≤ u1.heap.size) := Lib.hid HS1.out.size
            have HCU : Hid ((u1.alloc (.cells #[] 3)).heap[yb]? = some (.cells #[.int .i64 0, .int .i64 0, .int .u32 0, .slice none 0 0] 47)) := Lib.hid ((heap_alloc_old u1 _ HYL.out).trans HCT.out)
            refine hK _ _ HS2.out ?_
            clear hK K
            generalize u1.alloc (.cells #[] 3) = u2 at *
            generalize u1.heap.size = g1 at *
            try simp only [Act.put, List.setIfInBounds_toArray, List.set_cons_succ, List.set_cons_zero]
            refine oneH 18 (by kernel_rfl) rfl rfl fun K hK => ?_
            refine app_WO _ _ (some 165) rfl rfl HO1.out HU1.out (HFL.out.below (stay HDB.out.j.bel HS2.out)) (by have := HXO.out.2; omega) rfl rfl ?_
            intro tv u3 ho hb hz
            have HS9 : Hid (Below wB.heap.size wB u3) := Lib.hid (HS2.out.trans (hb.mono HUW.out))
            have HO9 := Lib.hid (ho.mono HUW.out)
            obtain ⟨ta, tc, htv⟩ := ho.ints.form
            rw [HFN.out] at htv
            subst htv
            have hzz := hz yb _ HCU.out (by have := HYL.out; omega)
            have HC9 : Hid (Blk u3 yb [.int .i64 0, .int .i64 0, .int .u32 0, .slice none 0 0]) := Lib.hid ⟨47, hzz.1.trans HCU.out⟩
            have HY9 : Hid (∀ b' o n c, Value.slice ta fn tc = .slice (some ⟨b', o, none⟩) n c → ¬ b' = yb) := Lib.hid hzz.2
            clear hzz
            refine hK _ _ HS9.out ?_
            clear hK K ho hb hz
            try simp only [Act.put, List.setIfInBounds_toArray, List.set_cons_succ, List.set_cons_zero]
            have HI9 := Lib.hid HO9.out.ints
            have HL9 : Hid (∀ b' o n c, Value.slice ta fn tc = .slice (some ⟨b', o, none⟩) n c → wB.heap.size ≤ b' ∧ b' < u3.heap.size) := Lib.hid fun b' o n c e => HO9.out.lt b' (by rw [e]; rfl)
            refine takeH 19 (some 166) (.agg #[.int .i64 a1.seg, .int .i64 a1.off, .int .u32 a1.seq, .slice ta fn tc]) rfl rfl (by kernel_rfl) (by kernel_rfl) (by kernel_rfl) (fun _ _ _ h => h) rfl (fun wq hS => by exact exec_build _ _ _ _ 47 _ rfl #[(0, .int .i64 a1.seg), (1, .int .i64 a1.off), (2, .int .u32 a1.seq), (3, .slice ta fn tc)] (by simp only [List.map_toArray, List.map_cons, List.map_nil]; rfl) _ (run_build wq 47 _ _ (built47 _ _ _ _ _ _))) HS9.out ?_
            try simp only [Act.put, List.setIfInBounds_toArray, List.set_cons_succ, List.set_cons_zero]
            refine oneH 21 (by kernel_rfl) rfl rfl fun K hK => ?_
            refine wp_store_all 47 _ _ rfl yb #[.int .i64 a1.seg, .int .i64 a1.off, .int .u32 a1.seq, .slice ta fn tc] rfl rfl _ HC9.out rfl info47 (at_one _ _ _ _ _ _) ?_
            intro uE hD hO
            have HD9 := Lib.hid hD
            have HSE : Hid (Below wB.heap.size wB uE) := Lib.hid (HS9.out.trans (hO.below HS9.out.size fun k hk => by rw [hk]; exact HYB.out))
            have HIE := Lib.hid (HI9.out.onlyF hO fun b' o n c e hk => HY9.out b' o n c e hk)
            have HLE : Hid (∀ b' o n c, Value.slice ta fn tc = .slice (some ⟨b', o, none⟩) n c → wB.heap.size ≤ b' ∧ b' < uE.heap.size) := Lib.hid fun b' o n c e => ⟨(HL9.out b' o n c e).1, Nat.lt_of_lt_of_le (HL9.out b' o n c e).2 hO.size⟩
            refine hK _ _ HSE.out ?_
            clear hK K hD hO
            try simp only [Act.put, List.setIfInBounds_toArray, List.set_cons_succ, List.set_cons_zero]
            refine wpAnyH_done (by kernel_rfl) ?_ _
            go_wp2_with fail
            go_meet
            exact ⟨yb, ta, tc, rfl, HD9.out, HIE.out, HLE.out, HSE.out⟩
        case rest =>
          obtain ⟨yb, ta, tc, rfl, hyb, hyi, hyl, hyw⟩ := hcut
          have HYK := Lib.hid hyb
          have HYI := Lib.hid hyi
          have HYL := Lib.hid hyl
          have HDC := Lib.hid (HDB.out.below hyw)
          have HYG : Hid (∀ k, G1 k ∨ k = qb → k < wB.heap.size) := Lib.hid fun k hk => hk.elim (fun h => (HDB.out.r.rv.lt k h).2) fun h => by rw [h]; exact HDB.out.r.blk.lt
          have HYF : Hid (∀ k, F1 k ∨ k = jb → k < wB.heap.size) := Lib.hid fun k hk => hk.elim (fun h => (HDB.out.j.dv.lt k h).2) fun h => by rw [h]; exact HDB.out.j.blk.lt
          have HWW : Hid (w3.heap.size ≤ wB.heap.size) := Lib.hid HDB.out.j.bel.size
          clear hyb hyi hyl hyw HDB HKC HKB
          have HGC := Lib.hid (HG3.out.below HDC.out.j.bel HG3.out.lt)
          go_upto_region 23 with fail
          refine wp_region_lit ?_
          refine takeL (.agg #[.int .i64 g.p, .int .i64 g.s, .int .i64 g.l, .int .i64 g.f]) rfl (by have q0 := HGC.out.cell (i := 0) rfl; have q1 := HGC.out.cell (i := 1) rfl; have q2 := HGC.out.cell (i := 2) rfl; have q3 := HGC.out.cell (i := 3) rfl; go_simp) ?_
          try simp only [Act.put, List.setIfInBounds_toArray, List.set_cons_succ, List.set_cons_zero]
          refine takeL (.agg #[.int .i64 a1.seg, .int .i64 a1.off, .int .u32 a1.seq, .slice ta fn tc]) rfl (by have q0 := HYK.out.cell (i := 0) rfl; have q1 := HYK.out.cell (i := 1) rfl; have q2 := HYK.out.cell (i := 2) rfl; have q3 := HYK.out.cell (i := 3) rfl; go_simp) ?_
          try simp only [Act.put, List.setIfInBounds_toArray, List.set_cons_succ, List.set_cons_zero]
          refine wpList_op rfl fun K hK => ?_
          go_simp
          refine (rjgood_any g { a1 with free := f } (.slice ta fn tc) fn HFN.out (by have := HXO.out.2; have := HFN.out; omega) HYI.out).mono ?_
          rintro e wD ⟨rfl, hb⟩
          have HDD := Lib.hid (HDC.out.below hb)
          have HYD := Lib.hid (HYK.out.below hb HYK.out.lt)
          have HID := Lib.hid (HYI.out.below hb)
          have HLD : Hid (∀ b' o n c, Value.slice ta fn tc = .slice (some ⟨b', o, none⟩) n c → wB.heap.size ≤ b' ∧ b' < wD.heap.size) := Lib.hid fun b' o n c e => ⟨(HYL.out b' o n c e).1, Nat.lt_of_lt_of_le (HYL.out b' o n c e).2 hb.size⟩
          clear hb HDC HYK HYI HYL HGC
          cases hgd : ({ a1 with free := f } : Ja).good g
          · have he : a1.setFree g f = a1 := by
              unfold Ja.setFree
              rw [if_neg (by rw [hgd]; decide)]
            rw [he] at HDD
            have HDE : Hid (Duo1 w3 wD jb b qb q t g (k + 1) F1 G1 d1 a1 f3 f2) := Lib.hid ⟨HDD.out, HNM.out.1, HNM.out.2.1, HNM.out.2.2⟩
            clear hgd he HDD HYD HID HLD HYG HYF HWW HNM
            refine hK _ _ ?_
            clear hK K
            try simp only [Act.put, List.setIfInBounds_toArray, List.set_cons_succ, List.set_cons_zero]
            refine wpList_nil ?_
            obtain ⟨f9, c9, hf9⟩ := HDE.out.duo.r.fr.form
            obtain ⟨n9, hn9⟩ : ∃ n, a1.free.length = n := ⟨_, rfl⟩
            rw [hn9] at hf9
            subst hf9
            have HFW : Hid (a1.free.length ≤ 16) := Lib.hid (Ja.few HDE.out.duo.j.good)
            clear hn9
            go_upto_region 31 with fail
            refine startH (fun wq => Below wD.heap.size wD wq) (by kernel_rfl) ?_
            have HS0 : Hid (Below wD.heap.size wD wD.drew) := Lib.hid (Below.refl _ _).drew
            generalize wD.drew = z0 at *
            refine takeH 0 (some 199) (.pointer (some ⟨jb, 0, none⟩)) rfl rfl (by kernel_rfl) (by kernel_rfl) (by kernel_rfl) (fun _ _ _ h => h) rfl (fun wq hS => by go_simp) HS0.out ?_
            try simp only [Act.put, List.setIfInBounds_toArray, List.set_cons_succ, List.set_cons_zero]
            refine takeH 2 (some 201) (.pointer (some ⟨qb, 0, none⟩)) rfl rfl (by kernel_rfl) (by kernel_rfl) (by kernel_rfl) (fun _ _ _ h => h) rfl (fun wq hS => by go_simp) HS0.out ?_
            try simp only [Act.put, List.setIfInBounds_toArray, List.set_cons_succ, List.set_cons_zero]
            refine takeH 3 (some 202) (.pointer (some ⟨qb, 0, none⟩)) rfl rfl (by kernel_rfl) (by kernel_rfl) (by kernel_rfl) (fun _ _ _ h => h) rfl (fun wq hS => by go_simp) HS0.out ?_
            try simp only [Act.put, List.setIfInBounds_toArray, List.set_cons_succ, List.set_cons_zero]
            refine takeH 4 (some 203) (.pointer (some ⟨qb, 5, none⟩)) rfl rfl (by kernel_rfl) (by kernel_rfl) (by kernel_rfl) (fun _ _ _ h => h) rfl (fun wq hS => by go_simp) HS0.out ?_
            try simp only [Act.put, List.setIfInBounds_toArray, List.set_cons_succ, List.set_cons_zero]
            refine takeH 5 (some 204) (.agg #[.int .i64 a1.seg, .int .i64 a1.off, .int .u32 a1.seq, .slice f9 n9 c9]) rfl rfl (by kernel_rfl) (by kernel_rfl) (by kernel_rfl) (fun _ _ _ h => h) rfl (fun wq hS => by have q := HDE.out.duo.r.blk.below hS HDE.out.duo.r.blk.lt; have q5 := q.cell (i := 5) rfl; have q6 := q.cell (i := 6) rfl; have q7 := q.cell (i := 7) rfl; have q8 := q.cell (i := 8) rfl; go_simp) HS0.out ?_
            try simp only [Act.put, List.setIfInBounds_toArray, List.set_cons_succ, List.set_cons_zero]
            refine oneH 1 (by kernel_rfl) rfl rfl fun K hK => ?_
            go_simp
            refine (at_any (HDE.out.duo.j.below HS0.out)).mono ?_
            rintro e z1 ⟨tv, rfl, ho, hb⟩
            have HO1 := Lib.hid ho.ints
            have HS1 := Lib.hid (stay HS0.out hb)
            refine hK _ _ HS1.out ?_
            clear hK K ho hb
            try simp only [Act.put, List.setIfInBounds_toArray, List.set_cons_succ, List.set_cons_zero]
            refine oneH 6 (by kernel_rfl) rfl rfl fun K hK => ?_
            go_simp
            refine (same_yes a1 tv (.slice f9 n9 c9) (by have := HFW.out; omega) HO1.out (HDE.out.duo.r.fr.below HS1.out)).mono ?_
            rintro e z2 ⟨rfl, hb⟩
            have HS2 := Lib.hid (stay HS1.out hb)
            refine hK _ _ HS2.out ?_
            clear hK K hb HO1
            try simp only [Act.put, List.setIfInBounds_toArray, List.set_cons_succ, List.set_cons_zero]
            refine takeH 7 (some 206) (.bool false) rfl rfl (by kernel_rfl) (by kernel_rfl) (by kernel_rfl) (fun _ _ _ h => h) rfl (fun wq hS => by go_simp) HS2.out ?_
            try simp only [Act.put, List.setIfInBounds_toArray, List.set_cons_succ, List.set_cons_zero]
            refine wpAnyH_done (by kernel_rfl) ?_ _
            have HDF := Lib.hid (HDE.out.below HS2.out)
            clear HDE HS0 HS1 HS2
            have gk1 : IntKind.i64.wrap ((k : Int) + 1) = ((k + 1 : Nat) : Int) := by rw [wrap64 (by have := HOK.out.2; omega) (by have := HOK.out.2; omega)]; push_cast; rfl
            go_wp2_with fail
            go_roundg (N - (k + 1))
            case measure => omega
            case rel => exact ⟨k + 1, _, _, _, _, _, _, by omega, by omega, by go_num, HDF.out⟩
          · have he : a1.setFree g f = { a1 with free := f } := by
              unfold Ja.setFree
              rw [if_pos hgd]
            rw [he] at HDD
            clear hgd he
            refine hK _ _ ?_
            clear hK K
            try simp only [Act.put, List.setIfInBounds_toArray, List.set_cons_succ, List.set_cons_zero]
            refine wpList_nil ?_
            go_upto_region 24 with fail
            refine wp_region_lit ?_
            refine takeL (.pointer (some ⟨qb, 0, none⟩)) rfl (by go_simp) ?_
            try simp only [Act.put, List.setIfInBounds_toArray, List.set_cons_succ, List.set_cons_zero]
            refine takeL (.agg #[.int .i64 a1.seg, .int .i64 a1.off, .int .u32 a1.seq, .slice ta fn tc]) rfl (by have q0 := HYD.out.cell (i := 0) rfl; have q1 := HYD.out.cell (i := 1) rfl; have q2 := HYD.out.cell (i := 2) rfl; have q3 := HYD.out.cell (i := 3) rfl; go_simp) ?_
            try simp only [Act.put, List.setIfInBounds_toArray, List.set_cons_succ, List.set_cons_zero]
            refine takeL (.pointer (some ⟨qb, 0, none⟩)) rfl (by go_simp) ?_
            try simp only [Act.put, List.setIfInBounds_toArray, List.set_cons_succ, List.set_cons_zero]
            refine takeL (.pointer (some ⟨qb, 5, none⟩)) rfl (by go_simp) ?_
            try simp only [Act.put, List.setIfInBounds_toArray, List.set_cons_succ, List.set_cons_zero]
            refine store_g (off := 5) (cs := #[.int .i64 a1.seg, .int .i64 a1.off, .int .u32 a1.seq, .slice ta fn tc]) HDD.out.r.blk info47 (by show 5 + 4 ≤ 9; decide) (at_one _ _ _ _ _ _) rfl rfl rfl ?_
            intro wE hD hO hlD
            try simp only [Act.put, List.setIfInBounds_toArray, List.set_cons_succ, List.set_cons_zero]
            have hrn : Rn w3 wE qb q G1 d1 g { a1 with free := f } (.slice ta fn tc) := HDD.out.r.turnS hO (fun k hk => by rw [hk]; exact HDD.out.r.lo) (fun k hG hk => HDD.out.r.nG (by rw [← hk]; exact hG)) hD (HID.out.onlyF hO fun b' o n c e hk => by have := (HLD.out b' o n c e).1; have := HYG.out b' (.inr hk); omega) fun b' o n c e => ⟨Nat.le_trans HWW.out (HLD.out b' o n c e).1, fun hk => by have := (HLD.out b' o n c e).1; have := HYG.out b' (.inr hk); omega, fun hk => by have := (HLD.out b' o n c e).1; have := HYG.out b' (.inl hk); omega, Nat.lt_of_lt_of_le (HLD.out b' o n c e).2 hO.size⟩
            have HDU : Hid (Duo w3 wE jb b qb q F1 G1 d1 d1 g { a1 with free := f } { a1 with free := f } f3 (.slice ta fn tc)) := Lib.hid (rightB HDD.out hrn (hO.more fun k _ h => .inr h) (fun j h => .inl h) fun b' o n c e hk => by have := (HLD.out b' o n c e).1; have := HYF.out b' hk; omega)
            have HDE : Hid (Duo1 w3 wE jb b qb q t g (k + 1) F1 G1 d1 { a1 with free := f } f3 (.slice ta fn tc)) := Lib.hid ⟨HDU.out, HNM.out.1, HNM.out.2.1, HNM.out.2.2⟩
            clear hD hO hlD hrn HDD HDU HYD HID HLD HYG HYF HWW HNM
            obtain ⟨a2, ha2⟩ : ∃ x : Ja, ({ a1 with free := f } : Ja) = x := ⟨_, rfl⟩
            rw [ha2] at HDE
            clear ha2
            generalize Value.slice ta fn tc = f4 at HDE
            refine wpList_nil ?_
            obtain ⟨f9, c9, hf9⟩ := HDE.out.duo.r.fr.form
            obtain ⟨n9, hn9⟩ : ∃ n, a2.free.length = n := ⟨_, rfl⟩
            rw [hn9] at hf9
            subst hf9
            have HFW : Hid (a2.free.length ≤ 16) := Lib.hid (Ja.few HDE.out.duo.j.good)
            clear hn9
            go_upto_region 31 with fail
            refine startH (fun wq => Below wE.heap.size wE wq) (by kernel_rfl) ?_
            have HS0 : Hid (Below wE.heap.size wE wE.drew) := Lib.hid (Below.refl _ _).drew
            generalize wE.drew = z0 at *
            refine takeH 0 (some 199) (.pointer (some ⟨jb, 0, none⟩)) rfl rfl (by kernel_rfl) (by kernel_rfl) (by kernel_rfl) (fun _ _ _ h => h) rfl (fun wq hS => by go_simp) HS0.out ?_
            try simp only [Act.put, List.setIfInBounds_toArray, List.set_cons_succ, List.set_cons_zero]
            refine takeH 2 (some 201) (.pointer (some ⟨qb, 0, none⟩)) rfl rfl (by kernel_rfl) (by kernel_rfl) (by kernel_rfl) (fun _ _ _ h => h) rfl (fun wq hS => by go_simp) HS0.out ?_
            try simp only [Act.put, List.setIfInBounds_toArray, List.set_cons_succ, List.set_cons_zero]
            refine takeH 3 (some 202) (.pointer (some ⟨qb, 0, none⟩)) rfl rfl (by kernel_rfl) (by kernel_rfl) (by kernel_rfl) (fun _ _ _ h => h) rfl (fun wq hS => by go_simp) HS0.out ?_
            try simp only [Act.put, List.setIfInBounds_toArray, List.set_cons_succ, List.set_cons_zero]
            refine takeH 4 (some 203) (.pointer (some ⟨qb, 5, none⟩)) rfl rfl (by kernel_rfl) (by kernel_rfl) (by kernel_rfl) (fun _ _ _ h => h) rfl (fun wq hS => by go_simp) HS0.out ?_
            try simp only [Act.put, List.setIfInBounds_toArray, List.set_cons_succ, List.set_cons_zero]
            refine takeH 5 (some 204) (.agg #[.int .i64 a2.seg, .int .i64 a2.off, .int .u32 a2.seq, .slice f9 n9 c9]) rfl rfl (by kernel_rfl) (by kernel_rfl) (by kernel_rfl) (fun _ _ _ h => h) rfl (fun wq hS => by have q := HDE.out.duo.r.blk.below hS HDE.out.duo.r.blk.lt; have q5 := q.cell (i := 5) rfl; have q6 := q.cell (i := 6) rfl; have q7 := q.cell (i := 7) rfl; have q8 := q.cell (i := 8) rfl; go_simp) HS0.out ?_
            try simp only [Act.put, List.setIfInBounds_toArray, List.set_cons_succ, List.set_cons_zero]
            refine oneH 1 (by kernel_rfl) rfl rfl fun K hK => ?_
            go_simp
            refine (at_any (HDE.out.duo.j.below HS0.out)).mono ?_
            rintro e z1 ⟨tv, rfl, ho, hb⟩
            have HO1 := Lib.hid ho.ints
            have HS1 := Lib.hid (stay HS0.out hb)
            refine hK _ _ HS1.out ?_
            clear hK K ho hb
            try simp only [Act.put, List.setIfInBounds_toArray, List.set_cons_succ, List.set_cons_zero]
            refine oneH 6 (by kernel_rfl) rfl rfl fun K hK => ?_
            go_simp
            refine (same_yes a2 tv (.slice f9 n9 c9) (by have := HFW.out; omega) HO1.out (HDE.out.duo.r.fr.below HS1.out)).mono ?_
            rintro e z2 ⟨rfl, hb⟩
            have HS2 := Lib.hid (stay HS1.out hb)
            refine hK _ _ HS2.out ?_
            clear hK K hb HO1
            try simp only [Act.put, List.setIfInBounds_toArray, List.set_cons_succ, List.set_cons_zero]
            refine takeH 7 (some 206) (.bool false) rfl rfl (by kernel_rfl) (by kernel_rfl) (by kernel_rfl) (fun _ _ _ h => h) rfl (fun wq hS => by go_simp) HS2.out ?_
            try simp only [Act.put, List.setIfInBounds_toArray, List.set_cons_succ, List.set_cons_zero]
            refine wpAnyH_done (by kernel_rfl) ?_ _
            have HDF := Lib.hid (HDE.out.below HS2.out)
            clear HDE HS0 HS1 HS2
            have gk1 : IntKind.i64.wrap ((k : Int) + 1) = ((k + 1 : Nat) : Int) := by rw [wrap64 (by have := HOK.out.2; omega) (by have := HOK.out.2; omega)]; push_cast; rfl
            go_wp2_with fail
            go_roundg (N - (k + 1))
            case measure => omega
            case rel => exact ⟨k + 1, _, _, _, _, _, _, by omega, by omega, by go_num, HDF.out⟩
      have e1 : (kd == 1) = false := by rw [beq_eq_false_iff_ne]; exact h1
      by_cases h2 : kd = 2
      · subst h2
        clear y2 y3
        have HSQ : Hid (Seq32 (xn % M32)) := Lib.hid (by unfold Seq32 M32; omega)
        go_upto_region 26 with fail
        refine wp_region_lit ?_
        refine takeL (.pointer (some ⟨jb, 0, none⟩)) rfl (by go_simp) ?_
        try simp only [Act.put, List.setIfInBounds_toArray, List.set_cons_succ, List.set_cons_zero]
        refine takeL (.pointer (some ⟨sb, 1, none⟩)) rfl (by go_simp) ?_
        try simp only [Act.put, List.setIfInBounds_toArray, List.set_cons_succ, List.set_cons_zero]
        refine takeL (.int .i64 xn) rfl (by go_simp) ?_
        try simp only [Act.put, List.setIfInBounds_toArray, List.set_cons_succ, List.set_cons_zero]
        clear y1
        refine takeL (.int .u32 (xn % M32)) rfl (by have z : IntKind.u32.wrap xn = xn % M32 := (by rw [IntKind.wrap_u32]; rfl); go_simp) ?_
        try simp only [Act.put, List.setIfInBounds_toArray, List.set_cons_succ, List.set_cons_zero]
        refine wpList_op rfl fun K hK => ?_
        go_simp
        refine (setSeq_any HD7.out.duo.j (xn % M32) HSQ.out).mono ?_
        rintro e wB ⟨rfl, hj, hon⟩
        have HDB : Hid (Duo w3 wB jb b qb q F1 G1 d1 d1 g { a1 with seq := xn % M32 } a1 f1 f2) := Lib.hid (HD7.out.duo.left hj (hon.more fun k _ h => .inr h) (fun j h => .inl h) (.inl (Src.refl _)))
        have HKC : Hid (Blk wB sb [.int .i64 2, .int .i64 xn, .slice la ln lc, .slice fa2 fn fc2]) := Lib.hid (HK7.out.only hon fun h => by have := HKB.out sb (.inr (.inl h)); omega)
        have HNM : Hid (d1.S.length = t ∧ d1.T ≤ 1025 * (k + 1) ∧ d1.L.length ≤ 1024 * (k + 1)) := Lib.hid ⟨HD7.out.S, by have := HD7.out.T; omega, by have := HD7.out.L; omega⟩
        clear hj hon HD7 HK7
        refine hK _ _ ?_
        clear hK K
        try simp only [Act.put, List.setIfInBounds_toArray, List.set_cons_succ, List.set_cons_zero]
        refine wpList_nil ?_
        go_upto_region 27 with fail
        refine wp_region_lit ?_
        refine takeL (.pointer (some ⟨qb, 0, none⟩)) rfl (by go_simp) ?_
        try simp only [Act.put, List.setIfInBounds_toArray, List.set_cons_succ, List.set_cons_zero]
        refine takeL (.pointer (some ⟨sb, 1, none⟩)) rfl (by go_simp) ?_
        try simp only [Act.put, List.setIfInBounds_toArray, List.set_cons_succ, List.set_cons_zero]
        refine takeL (.int .i64 xn) rfl (by have y1 := HKC.out.cell (i := 1) rfl; go_simp) ?_
        try simp only [Act.put, List.setIfInBounds_toArray, List.set_cons_succ, List.set_cons_zero]
        refine takeL (.int .u32 (xn % M32)) rfl (by have z : IntKind.u32.wrap xn = xn % M32 := (by rw [IntKind.wrap_u32]; rfl); go_simp) ?_
        try simp only [Act.put, List.setIfInBounds_toArray, List.set_cons_succ, List.set_cons_zero]
        refine takeL (.pointer (some ⟨qb, 0, none⟩)) rfl (by go_simp) ?_
        try simp only [Act.put, List.setIfInBounds_toArray, List.set_cons_succ, List.set_cons_zero]
        refine takeL (.pointer (some ⟨qb, 5, none⟩)) rfl (by go_simp) ?_
        try simp only [Act.put, List.setIfInBounds_toArray, List.set_cons_succ, List.set_cons_zero]
        refine takeL (.pointer (some ⟨qb, 7, none⟩)) rfl (by go_simp) ?_
        try simp only [Act.put, List.setIfInBounds_toArray, List.set_cons_succ, List.set_cons_zero]
        refine skipL (wB.setCell ⟨qb, 7, none⟩ (.int .u32 (xn % M32))) rfl (by have y7 := HDB.out.r.blk.cell (i := 7) rfl; have fz := HDB.out.r.blk.frozen 7; go_simp) ?_
        have HO : Hid (Only (fun k => k = qb) wB (wB.setCell ⟨qb, 7, none⟩ (.int .u32 (xn % M32)))) := Lib.hid ((Only.refl (fun k => k = qb) wB).setCell (p := ⟨qb, 7, none⟩) (.inl rfl) _)
        have hrn : Rn w3 (wB.setCell ⟨qb, 7, none⟩ (.int .u32 (xn % M32))) qb q G1 d1 g { a1 with seq := xn % M32 } f2 := HDB.out.r.turnS HO.out (fun k hk => by rw [hk]; exact HDB.out.r.lo) (fun k hG hk => HDB.out.r.nG (by rw [← hk]; exact hG)) (HDB.out.r.blk.set 7 (.int .u32 (xn % M32))) (HDB.out.r.fr.onlyF HO.out fun b' o n c e hk => (HDB.out.r.sep b' o n c e).2.1 hk) fun b' o n c e => let ⟨h1, h2, h3, h4⟩ := HDB.out.r.sep b' o n c e; ⟨h1, h2, h3, Nat.lt_of_lt_of_le h4 HO.out.size⟩
        have HDE : Hid (Duo1 w3 (wB.setCell ⟨qb, 7, none⟩ (.int .u32 (xn % M32))) jb b qb q t g (k + 1) F1 G1 d1 { a1 with seq := xn % M32 } f1 f2) := Lib.hid ⟨HDB.out.right hrn (HO.out.more fun k _ h => .inr h) (fun j h => .inl h) (.inl (Src.refl _)), HNM.out.1, HNM.out.2.1, HNM.out.2.2⟩
        clear hrn HO HDB HKC HNM HKB
        generalize wB.setCell ⟨qb, 7, none⟩ (.int .u32 (xn % M32)) = wE at *
        obtain ⟨a2, ha2⟩ : ∃ x : Ja, ({ a1 with seq := xn % M32 } : Ja) = x := ⟨_, rfl⟩
        rw [ha2] at HDE
        clear ha2
        try simp only [Act.put, List.setIfInBounds_toArray, List.set_cons_succ, List.set_cons_zero]
        refine wpList_nil ?_

        obtain ⟨f9, c9, hf9⟩ := HDE.out.duo.r.fr.form
        obtain ⟨n9, hn9⟩ : ∃ n, a2.free.length = n := ⟨_, rfl⟩
        rw [hn9] at hf9
        subst hf9
        have HFW : Hid (a2.free.length ≤ 16) := Lib.hid (Ja.few HDE.out.duo.j.good)
        clear hn9
        go_upto_region 31 with fail
        refine startH (fun wq => Below wE.heap.size wE wq) (by kernel_rfl) ?_
        have HS0 : Hid (Below wE.heap.size wE wE.drew) := Lib.hid (Below.refl _ _).drew
        generalize wE.drew = z0 at *
        refine takeH 0 (some 199) (.pointer (some ⟨jb, 0, none⟩)) rfl rfl (by kernel_rfl) (by kernel_rfl) (by kernel_rfl) (fun _ _ _ h => h) rfl (fun wq hS => by go_simp) HS0.out ?_
        try simp only [Act.put, List.setIfInBounds_toArray, List.set_cons_succ, List.set_cons_zero]
        refine takeH 2 (some 201) (.pointer (some ⟨qb, 0, none⟩)) rfl rfl (by kernel_rfl) (by kernel_rfl) (by kernel_rfl) (fun _ _ _ h => h) rfl (fun wq hS => by go_simp) HS0.out ?_
        try simp only [Act.put, List.setIfInBounds_toArray, List.set_cons_succ, List.set_cons_zero]
        refine takeH 3 (some 202) (.pointer (some ⟨qb, 0, none⟩)) rfl rfl (by kernel_rfl) (by kernel_rfl) (by kernel_rfl) (fun _ _ _ h => h) rfl (fun wq hS => by go_simp) HS0.out ?_
        try simp only [Act.put, List.setIfInBounds_toArray, List.set_cons_succ, List.set_cons_zero]
        refine takeH 4 (some 203) (.pointer (some ⟨qb, 5, none⟩)) rfl rfl (by kernel_rfl) (by kernel_rfl) (by kernel_rfl) (fun _ _ _ h => h) rfl (fun wq hS => by go_simp) HS0.out ?_
        try simp only [Act.put, List.setIfInBounds_toArray, List.set_cons_succ, List.set_cons_zero]
        refine takeH 5 (some 204) (.agg #[.int .i64 a2.seg, .int .i64 a2.off, .int .u32 a2.seq, .slice f9 n9 c9]) rfl rfl (by kernel_rfl) (by kernel_rfl) (by kernel_rfl) (fun _ _ _ h => h) rfl (fun wq hS => by have q := HDE.out.duo.r.blk.below hS HDE.out.duo.r.blk.lt; have q5 := q.cell (i := 5) rfl; have q6 := q.cell (i := 6) rfl; have q7 := q.cell (i := 7) rfl; have q8 := q.cell (i := 8) rfl; go_simp) HS0.out ?_
        try simp only [Act.put, List.setIfInBounds_toArray, List.set_cons_succ, List.set_cons_zero]
        refine oneH 1 (by kernel_rfl) rfl rfl fun K hK => ?_
        go_simp
        refine (at_any (HDE.out.duo.j.below HS0.out)).mono ?_
        rintro e z1 ⟨tv, rfl, ho, hb⟩
        have HO1 := Lib.hid ho.ints
        have HS1 := Lib.hid (stay HS0.out hb)
        refine hK _ _ HS1.out ?_
        clear hK K ho hb
        try simp only [Act.put, List.setIfInBounds_toArray, List.set_cons_succ, List.set_cons_zero]
        refine oneH 6 (by kernel_rfl) rfl rfl fun K hK => ?_
        go_simp
        refine (same_yes a2 tv (.slice f9 n9 c9) (by have := HFW.out; omega) HO1.out (HDE.out.duo.r.fr.below HS1.out)).mono ?_
        rintro e z2 ⟨rfl, hb⟩
        have HS2 := Lib.hid (stay HS1.out hb)
        refine hK _ _ HS2.out ?_
        clear hK K hb HO1
        try simp only [Act.put, List.setIfInBounds_toArray, List.set_cons_succ, List.set_cons_zero]
        refine takeH 7 (some 206) (.bool false) rfl rfl (by kernel_rfl) (by kernel_rfl) (by kernel_rfl) (fun _ _ _ h => h) rfl (fun wq hS => by go_simp) HS2.out ?_
        try simp only [Act.put, List.setIfInBounds_toArray, List.set_cons_succ, List.set_cons_zero]
        refine wpAnyH_done (by kernel_rfl) ?_ _
        have HDF := Lib.hid (HDE.out.below HS2.out)
        clear HDE HS0 HS1 HS2
        have gk1 : IntKind.i64.wrap ((k : Int) + 1) = ((k + 1 : Nat) : Int) := by rw [wrap64 (by have := HOK.out.2; omega) (by have := HOK.out.2; omega)]; push_cast; rfl
        go_wp2_with fail
        go_roundg (N - (k + 1))
        case measure => omega
        case rel => exact ⟨k + 1, _, _, _, _, _, _, by omega, by omega, by go_num, HDF.out⟩
      have e2 : (kd == 2) = false := by rw [beq_eq_false_iff_ne]; exact h2
      by_cases h3 : kd = 3
      · subst h3
        clear y2 y3
        go_upto_region 29 with fail
        refine wp_region_lit ?_
        refine takeL (.pointer (some ⟨b, 0, none⟩)) rfl (by go_simp) ?_
        try simp only [Act.put, List.setIfInBounds_toArray, List.set_cons_succ, List.set_cons_zero]
        refine takeL (.pointer (some ⟨sb, 1, none⟩)) rfl (by go_simp) ?_
        try simp only [Act.put, List.setIfInBounds_toArray, List.set_cons_succ, List.set_cons_zero]
        refine takeL (.int .i64 xn) rfl (by go_simp) ?_
        try simp only [Act.put, List.setIfInBounds_toArray, List.set_cons_succ, List.set_cons_zero]
        clear y1
        refine wpList_op rfl fun K hK => ?_
        go_simp
        refine (fail_law HD7.out.duo.j xn HX64.out).mono ?_
        rintro e wB ⟨F2, rfl, hj, hon, hn⟩
        have HDB : Hid (Duo w3 wB jb b qb q F2 G1 { d1 with F := xn } d1 g a1 a1 f1 f2) := Lib.hid (HD7.out.duo.left hj (hon.more fun k _ h => .inl h) hn (.inl (Src.refl _)))
        have HKC : Hid (Blk wB sb [.int .i64 3, .int .i64 xn, .slice la ln lc, .slice fa2 fn fc2]) := Lib.hid (HK7.out.only hon fun h => by have := HKB.out sb (.inl h); omega)
        have HNM : Hid (d1.S.length = t ∧ d1.T ≤ 1025 * (k + 1) ∧ d1.L.length ≤ 1024 * (k + 1)) := Lib.hid ⟨HD7.out.S, by have := HD7.out.T; omega, by have := HD7.out.L; omega⟩
        clear hj hon hn HD7 HK7
        refine hK _ _ ?_
        clear hK K
        try simp only [Act.put, List.setIfInBounds_toArray, List.set_cons_succ, List.set_cons_zero]
        refine wpList_nil ?_
        go_upto_region 30 with fail
        refine wp_region_lit ?_
        refine takeL (.pointer (some ⟨q, 0, none⟩)) rfl (by go_simp) ?_
        try simp only [Act.put, List.setIfInBounds_toArray, List.set_cons_succ, List.set_cons_zero]
        refine takeL (.pointer (some ⟨sb, 1, none⟩)) rfl (by go_simp) ?_
        try simp only [Act.put, List.setIfInBounds_toArray, List.set_cons_succ, List.set_cons_zero]
        refine takeL (.int .i64 xn) rfl (by have y1 := HKC.out.cell (i := 1) rfl; go_simp) ?_
        try simp only [Act.put, List.setIfInBounds_toArray, List.set_cons_succ, List.set_cons_zero]
        refine takeL (.pointer (some ⟨q, 0, none⟩)) rfl (by go_simp) ?_
        try simp only [Act.put, List.setIfInBounds_toArray, List.set_cons_succ, List.set_cons_zero]
        refine takeL (.pointer (some ⟨q, 2, none⟩)) rfl (by go_simp) ?_
        try simp only [Act.put, List.setIfInBounds_toArray, List.set_cons_succ, List.set_cons_zero]
        obtain ⟨hrv, hro, hrc, hrf⟩ := HDB.out.r.rv.setF xn HX64.out
        refine skipL (wB.setCell ⟨q, 2, none⟩ (.int .i64 xn)) rfl (by go_simp) ?_
        have HDE : Hid (Duo1 w3 (wB.setCell ⟨q, 2, none⟩ (.int .i64 xn)) jb b qb q t g (k + 1) F2 G1 { d1 with F := xn } a1 f1 f2) := Lib.hid ⟨HDB.out.right (HDB.out.r.dev hrv hro (fun j h => .inl h) ) (hro.more fun k _ h => .inl h) (fun j h => .inl h) (.inl (Src.refl _)), HNM.out.1, HNM.out.2.1, HNM.out.2.2⟩
        clear hrv hro hrc hrf HDB HKC HNM HKB
        generalize wB.setCell ⟨q, 2, none⟩ (.int .i64 xn) = wE at *
        try simp only [Act.put, List.setIfInBounds_toArray, List.set_cons_succ, List.set_cons_zero]
        refine wpList_nil ?_

        obtain ⟨f9, c9, hf9⟩ := HDE.out.duo.r.fr.form
        obtain ⟨n9, hn9⟩ : ∃ n, a1.free.length = n := ⟨_, rfl⟩
        rw [hn9] at hf9
        subst hf9
        have HFW : Hid (a1.free.length ≤ 16) := Lib.hid (Ja.few HDE.out.duo.j.good)
        clear hn9
        go_upto_region 31 with fail
        refine startH (fun wq => Below wE.heap.size wE wq) (by kernel_rfl) ?_
        have HS0 : Hid (Below wE.heap.size wE wE.drew) := Lib.hid (Below.refl _ _).drew
        generalize wE.drew = z0 at *
        refine takeH 0 (some 199) (.pointer (some ⟨jb, 0, none⟩)) rfl rfl (by kernel_rfl) (by kernel_rfl) (by kernel_rfl) (fun _ _ _ h => h) rfl (fun wq hS => by go_simp) HS0.out ?_
        try simp only [Act.put, List.setIfInBounds_toArray, List.set_cons_succ, List.set_cons_zero]
        refine takeH 2 (some 201) (.pointer (some ⟨qb, 0, none⟩)) rfl rfl (by kernel_rfl) (by kernel_rfl) (by kernel_rfl) (fun _ _ _ h => h) rfl (fun wq hS => by go_simp) HS0.out ?_
        try simp only [Act.put, List.setIfInBounds_toArray, List.set_cons_succ, List.set_cons_zero]
        refine takeH 3 (some 202) (.pointer (some ⟨qb, 0, none⟩)) rfl rfl (by kernel_rfl) (by kernel_rfl) (by kernel_rfl) (fun _ _ _ h => h) rfl (fun wq hS => by go_simp) HS0.out ?_
        try simp only [Act.put, List.setIfInBounds_toArray, List.set_cons_succ, List.set_cons_zero]
        refine takeH 4 (some 203) (.pointer (some ⟨qb, 5, none⟩)) rfl rfl (by kernel_rfl) (by kernel_rfl) (by kernel_rfl) (fun _ _ _ h => h) rfl (fun wq hS => by go_simp) HS0.out ?_
        try simp only [Act.put, List.setIfInBounds_toArray, List.set_cons_succ, List.set_cons_zero]
        refine takeH 5 (some 204) (.agg #[.int .i64 a1.seg, .int .i64 a1.off, .int .u32 a1.seq, .slice f9 n9 c9]) rfl rfl (by kernel_rfl) (by kernel_rfl) (by kernel_rfl) (fun _ _ _ h => h) rfl (fun wq hS => by have q := HDE.out.duo.r.blk.below hS HDE.out.duo.r.blk.lt; have q5 := q.cell (i := 5) rfl; have q6 := q.cell (i := 6) rfl; have q7 := q.cell (i := 7) rfl; have q8 := q.cell (i := 8) rfl; go_simp) HS0.out ?_
        try simp only [Act.put, List.setIfInBounds_toArray, List.set_cons_succ, List.set_cons_zero]
        refine oneH 1 (by kernel_rfl) rfl rfl fun K hK => ?_
        go_simp
        refine (at_any (HDE.out.duo.j.below HS0.out)).mono ?_
        rintro e z1 ⟨tv, rfl, ho, hb⟩
        have HO1 := Lib.hid ho.ints
        have HS1 := Lib.hid (stay HS0.out hb)
        refine hK _ _ HS1.out ?_
        clear hK K ho hb
        try simp only [Act.put, List.setIfInBounds_toArray, List.set_cons_succ, List.set_cons_zero]
        refine oneH 6 (by kernel_rfl) rfl rfl fun K hK => ?_
        go_simp
        refine (same_yes a1 tv (.slice f9 n9 c9) (by have := HFW.out; omega) HO1.out (HDE.out.duo.r.fr.below HS1.out)).mono ?_
        rintro e z2 ⟨rfl, hb⟩
        have HS2 := Lib.hid (stay HS1.out hb)
        refine hK _ _ HS2.out ?_
        clear hK K hb HO1
        try simp only [Act.put, List.setIfInBounds_toArray, List.set_cons_succ, List.set_cons_zero]
        refine takeH 7 (some 206) (.bool false) rfl rfl (by kernel_rfl) (by kernel_rfl) (by kernel_rfl) (fun _ _ _ h => h) rfl (fun wq hS => by go_simp) HS2.out ?_
        try simp only [Act.put, List.setIfInBounds_toArray, List.set_cons_succ, List.set_cons_zero]
        refine wpAnyH_done (by kernel_rfl) ?_ _
        have HDF := Lib.hid (HDE.out.below HS2.out)
        clear HDE HS0 HS1 HS2
        have gk1 : IntKind.i64.wrap ((k : Int) + 1) = ((k + 1 : Nat) : Int) := by rw [wrap64 (by have := HOK.out.2; omega) (by have := HOK.out.2; omega)]; push_cast; rfl
        go_wp2_with fail
        go_roundg (N - (k + 1))
        case measure => omega
        case rel => exact ⟨k + 1, _, _, _, _, _, _, by omega, by omega, by go_num, HDF.out⟩
      have e3 : (kd == 3) = false := by rw [beq_eq_false_iff_ne]; exact h3
      clear y1 y2 y3
      have HDE : Hid (Duo1 w3 w7 jb b qb q t g (k + 1) F1 G1 d1 a1 f1 f2) := Lib.hid ⟨HD7.out.duo, HD7.out.S, by have := HD7.out.T; omega, by have := HD7.out.L; omega⟩
      clear HD7 HK7 HKB

      obtain ⟨f9, c9, hf9⟩ := HDE.out.duo.r.fr.form
      obtain ⟨n9, hn9⟩ : ∃ n, a1.free.length = n := ⟨_, rfl⟩
      rw [hn9] at hf9
      subst hf9
      have HFW : Hid (a1.free.length ≤ 16) := Lib.hid (Ja.few HDE.out.duo.j.good)
      clear hn9
      go_upto_region 31 with fail
      refine startH (fun wq => Below w7.heap.size w7 wq) (by kernel_rfl) ?_
      have HS0 : Hid (Below w7.heap.size w7 w7.drew) := Lib.hid (Below.refl _ _).drew
      generalize w7.drew = z0 at *
      refine takeH 0 (some 199) (.pointer (some ⟨jb, 0, none⟩)) rfl rfl (by kernel_rfl) (by kernel_rfl) (by kernel_rfl) (fun _ _ _ h => h) rfl (fun wq hS => by go_simp) HS0.out ?_
      try simp only [Act.put, List.setIfInBounds_toArray, List.set_cons_succ, List.set_cons_zero]
      refine takeH 2 (some 201) (.pointer (some ⟨qb, 0, none⟩)) rfl rfl (by kernel_rfl) (by kernel_rfl) (by kernel_rfl) (fun _ _ _ h => h) rfl (fun wq hS => by go_simp) HS0.out ?_
      try simp only [Act.put, List.setIfInBounds_toArray, List.set_cons_succ, List.set_cons_zero]
      refine takeH 3 (some 202) (.pointer (some ⟨qb, 0, none⟩)) rfl rfl (by kernel_rfl) (by kernel_rfl) (by kernel_rfl) (fun _ _ _ h => h) rfl (fun wq hS => by go_simp) HS0.out ?_
      try simp only [Act.put, List.setIfInBounds_toArray, List.set_cons_succ, List.set_cons_zero]
      refine takeH 4 (some 203) (.pointer (some ⟨qb, 5, none⟩)) rfl rfl (by kernel_rfl) (by kernel_rfl) (by kernel_rfl) (fun _ _ _ h => h) rfl (fun wq hS => by go_simp) HS0.out ?_
      try simp only [Act.put, List.setIfInBounds_toArray, List.set_cons_succ, List.set_cons_zero]
      refine takeH 5 (some 204) (.agg #[.int .i64 a1.seg, .int .i64 a1.off, .int .u32 a1.seq, .slice f9 n9 c9]) rfl rfl (by kernel_rfl) (by kernel_rfl) (by kernel_rfl) (fun _ _ _ h => h) rfl (fun wq hS => by have q := HDE.out.duo.r.blk.below hS HDE.out.duo.r.blk.lt; have q5 := q.cell (i := 5) rfl; have q6 := q.cell (i := 6) rfl; have q7 := q.cell (i := 7) rfl; have q8 := q.cell (i := 8) rfl; go_simp) HS0.out ?_
      try simp only [Act.put, List.setIfInBounds_toArray, List.set_cons_succ, List.set_cons_zero]
      refine oneH 1 (by kernel_rfl) rfl rfl fun K hK => ?_
      go_simp
      refine (at_any (HDE.out.duo.j.below HS0.out)).mono ?_
      rintro e z1 ⟨tv, rfl, ho, hb⟩
      have HO1 := Lib.hid ho.ints
      have HS1 := Lib.hid (stay HS0.out hb)
      refine hK _ _ HS1.out ?_
      clear hK K ho hb
      try simp only [Act.put, List.setIfInBounds_toArray, List.set_cons_succ, List.set_cons_zero]
      refine oneH 6 (by kernel_rfl) rfl rfl fun K hK => ?_
      go_simp
      refine (same_yes a1 tv (.slice f9 n9 c9) (by have := HFW.out; omega) HO1.out (HDE.out.duo.r.fr.below HS1.out)).mono ?_
      rintro e z2 ⟨rfl, hb⟩
      have HS2 := Lib.hid (stay HS1.out hb)
      refine hK _ _ HS2.out ?_
      clear hK K hb HO1
      try simp only [Act.put, List.setIfInBounds_toArray, List.set_cons_succ, List.set_cons_zero]
      refine takeH 7 (some 206) (.bool false) rfl rfl (by kernel_rfl) (by kernel_rfl) (by kernel_rfl) (fun _ _ _ h => h) rfl (fun wq hS => by go_simp) HS2.out ?_
      try simp only [Act.put, List.setIfInBounds_toArray, List.set_cons_succ, List.set_cons_zero]
      refine wpAnyH_done (by kernel_rfl) ?_ _
      have HDF := Lib.hid (HDE.out.below HS2.out)
      clear HDE HS0 HS1 HS2
      have gk1 : IntKind.i64.wrap ((k : Int) + 1) = ((k + 1 : Nat) : Int) := by rw [wrap64 (by have := HOK.out.2; omega) (by have := HOK.out.2; omega)]; push_cast; rfl
      go_wp2_with fail
      go_roundg (N - (k + 1))
      case measure => omega
      case rel => exact ⟨k + 1, _, _, _, _, _, _, by omega, by omega, by go_num, HDF.out⟩
    · obtain rfl : k = N := by omega
      have gk : decide ((k : Int) < (k : Int)) = false := decide_eq_false (by omega)
      go_wp2_with fail
      go_loopg [23] t (fun qm i w9 => ∃ kk : Nat, t - kk ≤ qm ∧ kk ≤ t ∧ i = .int .i64 kk ∧ Duo1 w3 w9 jb b qb q t g k F1 G1 d1 a1 f1 f2)
      case atStart => exact ⟨0, by omega, by omega, rfl, HDR.out⟩
      case round =>
        obtain ⟨kk, hq2, hk2, rfl, hd2⟩ := hrel
        have HD2 := Lib.hid hd2
        clear hd2
        by_cases hlt : kk < t
        · have dT : decide ((kk : Int) < (t : Int)) = true := decide_eq_true (by omega)
          have hre : d1.readE (kk : Int) = 0 := by unfold De.D.readE; rw [has_nat (by rw [HD2.out.S]; exact hlt)]; rfl
          have HRE := Lib.hid hre
          have HSec := Lib.hid (De.D.read_sec HD2.out.duo.j.dv (kk : Int))
          have HLB : Hid (d1.L.length ≤ 1000000) := Lib.hid (by have := HD2.out.L; have := HOK.out.2; omega)
          clear hre
          go_upto_region 36 with fail
          refine wp_region_lit ?_
          clear dT
          refine takeL (.pointer (some ⟨b, 0, none⟩)) rfl (by go_simp) ?_
          try simp only [Act.put, List.setIfInBounds_toArray, List.set_cons_succ, List.set_cons_zero]
          refine takeL (.int .i64 (kk : Int)) rfl (by go_simp) ?_
          try simp only [Act.put, List.setIfInBounds_toArray, List.set_cons_succ, List.set_cons_zero]
          refine wpList_op rfl fun K hK => ?_
          go_simp
          refine (De.dv_read HD2.out.duo.j.dv HLB.out (kk : Int)).mono ?_
          rintro e wA ⟨rfl, hb⟩
          rw [HRE.out]
          have HDA := Lib.hid (HD2.out.below hb)
          clear hb HD2
          refine hK _ _ ?_
          clear hK K
          try simp only [Act.put, List.setIfInBounds_toArray, List.set_cons_succ, List.set_cons_zero]
          refine takeL (.tuple #[.agg (d1.read (kk : Int)), .int .i64 0]) rfl (by go_simp) ?_
          try simp only [Act.put, List.setIfInBounds_toArray, List.set_cons_succ, List.set_cons_zero]
          refine takeL (.agg (d1.read (kk : Int))) rfl (by go_simp) ?_
          try simp only [Act.put, List.setIfInBounds_toArray, List.set_cons_succ, List.set_cons_zero]
          refine takeL (.int .i64 0) rfl (by go_simp) ?_
          try simp only [Act.put, List.setIfInBounds_toArray, List.set_cons_succ, List.set_cons_zero]
          refine alloc_g zero72 rfl ?_
          intro w5 hA hb hl
          try simp only [Act.put, List.setIfInBounds_toArray, List.set_cons_succ, List.set_cons_zero]
          refine store_all (cs := d1.read (kk : Int)) hA (by rw [HSec.out.size]; kernel_rfl) (by rw [HSec.out.size]; exact info72) HSec.out.one rfl rfl rfl ?_
          intro wB hD hO hlD
          try simp only [Act.put, List.setIfInBounds_toArray, List.set_cons_succ, List.set_cons_zero]
          have hbb : Below wA.heap.size wA wB := hb.trans (hO.below hb.size fun k hk => Nat.le_of_eq hk.symm)
          have HX := Lib.hid hD
          have HDB := Lib.hid (HDA.out.below hbb)
          generalize wA.heap.size = g1 at *
          clear hA hb hl hD hO hlD hbb HDA
          refine takeL (.int .i64 0) rfl (by go_simp) ?_
          try simp only [Act.put, List.setIfInBounds_toArray, List.set_cons_succ, List.set_cons_zero]
          refine wpList_nil ?_
          go_upto_region 37 with fail
          refine wp_region_lit ?_
          refine takeL (.pointer (some ⟨q, 0, none⟩)) rfl (by go_simp) ?_
          try simp only [Act.put, List.setIfInBounds_toArray, List.set_cons_succ, List.set_cons_zero]
          refine takeL (.int .i64 (kk : Int)) rfl (by go_simp) ?_
          try simp only [Act.put, List.setIfInBounds_toArray, List.set_cons_succ, List.set_cons_zero]
          refine wpList_op rfl fun K hK => ?_
          go_simp
          refine (De.rv_read HDB.out.duo.r.rv HLB.out (kk : Int)).mono ?_
          rintro e wC ⟨rfl, hb⟩
          rw [HRE.out]
          have HDC := Lib.hid (HDB.out.below hb)
          have HXC := Lib.hid (HX.out.below hb HX.out.lt)
          clear hb HDB HX
          refine hK _ _ ?_
          clear hK K
          try simp only [Act.put, List.setIfInBounds_toArray, List.set_cons_succ, List.set_cons_zero]
          refine takeL (.tuple #[.agg (d1.read (kk : Int)), .int .i64 0]) rfl (by go_simp) ?_
          try simp only [Act.put, List.setIfInBounds_toArray, List.set_cons_succ, List.set_cons_zero]
          refine takeL (.agg (d1.read (kk : Int))) rfl (by go_simp) ?_
          try simp only [Act.put, List.setIfInBounds_toArray, List.set_cons_succ, List.set_cons_zero]
          refine takeL (.int .i64 0) rfl (by go_simp) ?_
          try simp only [Act.put, List.setIfInBounds_toArray, List.set_cons_succ, List.set_cons_zero]
          refine alloc_g zero72 rfl ?_
          intro w5 hA hb hl
          try simp only [Act.put, List.setIfInBounds_toArray, List.set_cons_succ, List.set_cons_zero]
          refine store_all (cs := d1.read (kk : Int)) hA (by rw [HSec.out.size]; kernel_rfl) (by rw [HSec.out.size]; exact info72) HSec.out.one rfl rfl rfl ?_
          intro wD hD hO hlD
          try simp only [Act.put, List.setIfInBounds_toArray, List.set_cons_succ, List.set_cons_zero]
          have hbb : Below wC.heap.size wC wD := hb.trans (hO.below hb.size fun k hk => Nat.le_of_eq hk.symm)
          have HY := Lib.hid hD
          have HDD := Lib.hid (HDC.out.below hbb)
          have HXD := Lib.hid (HXC.out.below hbb HXC.out.lt)
          generalize wC.heap.size = g2 at *
          clear hA hb hl hD hO hlD hbb HDC HXC
          refine takeL (.int .i64 0) rfl (by go_simp) ?_
          try simp only [Act.put, List.setIfInBounds_toArray, List.set_cons_succ, List.set_cons_zero]
          refine wpList_nil ?_
          go_upto_region 38 with fail
          refine wp_region_lit ?_
          refine takeL (.int .i64 0) rfl (by go_simp) ?_
          try simp only [Act.put, List.setIfInBounds_toArray, List.set_cons_succ, List.set_cons_zero]
          refine takeL (.bool false) rfl (by go_simp) ?_
          try simp only [Act.put, List.setIfInBounds_toArray, List.set_cons_succ, List.set_cons_zero]
          refine takeL (.bool false) rfl (by go_simp) ?_
          try simp only [Act.put, List.setIfInBounds_toArray, List.set_cons_succ, List.set_cons_zero]
          refine load72 (HXD.out.all rfl) HSec.out.size rfl rfl ?_
          try simp only [Act.put, List.setIfInBounds_toArray, List.set_cons_succ, List.set_cons_zero]
          refine load72 (HY.out.all rfl) HSec.out.size rfl rfl ?_
          try simp only [Act.put, List.setIfInBounds_toArray, List.set_cons_succ, List.set_cons_zero]
          refine takeL (.bool false) rfl (by have z := eq72 HSec.out wD; go_simp) ?_
          try simp only [Act.put, List.setIfInBounds_toArray, List.set_cons_succ, List.set_cons_zero]
          refine takeL (.bool false) rfl (by go_simp) ?_
          try simp only [Act.put, List.setIfInBounds_toArray, List.set_cons_succ, List.set_cons_zero]
          refine wpList_nil ?_
          have gk1 : IntKind.i64.wrap ((kk : Int) + 1) = ((kk + 1 : Nat) : Int) := by rw [wrap64 (by have := HTB.out; omega) (by have := HTB.out; omega)]; push_cast; rfl
          go_wp2_with fail
          go_roundg (t - (kk + 1))
          case measure => omega
          case rel => exact ⟨kk + 1, by omega, by omega, by go_num, HDD.out⟩
        · obtain rfl : kk = t := by omega
          have dT : decide ((kk : Int) < (kk : Int)) = false := decide_eq_false (by omega)
          have HBW := Lib.hid (stay HB3.out HD2.out.duo.j.bel)
          go_wp2_with fail
          refine (wakes_any (Vars.below (Nat.le_refl _) HBW.out HV.out)).mono ?_
          rintro e wZ ⟨rfl, hb⟩
          have HBZ := Lib.hid (stay HBW.out hb)
          clear hb
          go_wp2_with fail
          go_ret
          exact ⟨rfl, HBZ.out⟩
end

end Go.Proofs.YtmlniannilnmhaaGreatDoor
