/- JournalRoom's walk. -/
import Derived.Test.YtmlniannilnmhaaGreatDoorKm
namespace Go.Proofs.YtmlniannilnmhaaGreatDoor
set_option linter.unusedSimpArgs false
set_option linter.unusedVariables false
open Go.RowKit

section
variable {w : World}
set_option maxRecDepth 100000 in
set_option maxHeartbeats 4000000 in
theorem jroom_any (hv : Vars w) (g : Pl.Gm) (a : Ja) (fv : Value) (na : a.free.length ≤ 9223372036854775807) (hq : Seq32 a.seq) (ha : IntsAt w fv a.free) (hcap : ∀ q n c, fv = .slice q n c → n ≤ c) (l : List (It × Value)) (nl : l.length ≤ 9223372036854775807) (sv : Value) (hi : ItemsAt w sv l) : Calls Tryz.prog 6 #[g.v, .agg #[.int .i64 a.seg, .int .i64 a.off, .int .u32 a.seq, fv], sv] w fun e w' => e = .returned (.bool true) ∧ Below w.heap.size w w' := by
  have HV := Lib.hid hv
  have HI := Lib.hid hi
  have HA := Lib.hid ha
  have HQ := Lib.hid hq
  have HNA := Lib.hid na
  obtain ⟨L, hL⟩ : ∃ L, l.map (·.1) = L := ⟨_, rfl⟩
  have HFA := Lib.hid fun w h => fair_any l l.length rfl nl sv w h
  rw [hL] at HFA
  have HFL := Lib.hid fun (h : fair L = true) => show l.length ≤ 100 by have := fair_len h; rw [← hL, List.length_map] at this; exact this
  obtain ⟨fr, hfr⟩ : ∃ x, fair L = x := ⟨_, rfl⟩
  rw [hfr] at HFA HFL
  have HLL := Lib.hid hL
  obtain ⟨ia, ic, hsv⟩ := items_one hi
  obtain ⟨m, hm⟩ : ∃ m, l.length = m := ⟨_, rfl⟩
  rw [hm] at hsv HFL
  subst hsv
  have HM := Lib.hid hm
  obtain ⟨fa, fc, hfv⟩ := ha.form
  obtain ⟨n, hn⟩ : ∃ n, a.free.length = n := ⟨_, rfl⟩
  rw [hn] at hfv
  subst hfv
  have HN := Lib.hid hn
  have HCP := Lib.hid (hcap _ _ _ rfl)
  clear hcap hv hi hq ha hfr hL hm nl na hn
  go_enter Tryz.func6, Tryz.ntmps6
  go_upto_region 0 with fail
  refine wp_region_lit ?_
  refine box_g rfl rfl ?_
  try simp only [Act.put, List.setIfInBounds_toArray, List.set_cons_succ, List.set_cons_zero]
  intro w1 hV hb hl
  try simp only [Act.put, List.setIfInBounds_toArray, List.set_cons_succ, List.set_cons_zero]
  have HG1 := Lib.hid hV
  have HB1 := Lib.hid hb
  clear hV hb hl
  refine box_g rfl rfl ?_
  try simp only [Act.put, List.setIfInBounds_toArray, List.set_cons_succ, List.set_cons_zero]
  intro w2 hV hb hl
  try simp only [Act.put, List.setIfInBounds_toArray, List.set_cons_succ, List.set_cons_zero]
  have HX2 := Lib.hid hV
  have HG2 := Lib.hid (HG1.out.below hb HG1.out.lt)
  have HB2 := Lib.hid (stay HB1.out hb)
  have HI2 := Lib.hid (HI.out.below HB2.out)
  have HV2 := Lib.hid (Vars.below (Nat.le_refl _) HB2.out HV.out)
  clear hV hb hl HG1 HB1
  generalize w1.heap.size = xb at *
  refine takeL (.bool false) rfl (by go_simp) ?_
  try simp only [Act.put, List.setIfInBounds_toArray, List.set_cons_succ, List.set_cons_zero]
  refine wpList_nil ?_
  go_wp2_with fail
  refine (HFA.out _ HI2.out).mono ?_
  rintro e w3 ⟨rfl, rfl⟩
  cases fr
  · go_wp2_with fail
    refine (wakes_any HV2.out).mono ?_
    rintro e w3 ⟨rfl, hb⟩
    have HB3 := Lib.hid (stay HB2.out hb)
    clear hb
    go_wp2_with fail
    go_ret
    exact ⟨rfl, HB3.out⟩
  have x3 := HX2.out.cell (i := 3) rfl
  by_cases h60 : 60 < n
  · have d60 : decide ((60 : Int) < (n : Int)) = true := decide_eq_true (by omega)
    go_wp2_with fail
    refine (wakes_any HV2.out).mono ?_
    rintro e w3 ⟨rfl, hb⟩
    have HB3 := Lib.hid (stay HB2.out hb)
    clear hb
    go_wp2_with fail
    go_ret
    exact ⟨rfl, HB3.out⟩
  have d60 : decide ((60 : Int) < (n : Int)) = false := decide_eq_false (by omega)
  have HN60 : Hid (n ≤ 60) := Lib.hid (by omega)
  obtain ⟨t, ht, ht1, ht2, ht3⟩ := tot_nat g
  have HTB : Hid (1 ≤ t ∧ t ≤ 1024) := Lib.hid ⟨ht1, ht2⟩
  have HTO := Lib.hid ht3
  have HTM := Lib.hid ht
  clear ht ht1 ht2 ht3 h60
  go_upto_region 3 with fail
  refine wp_region_lit ?_
  clear x3 d60
  refine takeL (.agg #[.int .i64 g.p, .int .i64 g.s, .int .i64 g.l, .int .i64 g.f]) rfl (by have q0 := HG2.out.cell (i := 0) rfl; have q1 := HG2.out.cell (i := 1) rfl; have q2 := HG2.out.cell (i := 2) rfl; have q3 := HG2.out.cell (i := 3) rfl; go_simp) ?_
  try simp only [Act.put, List.setIfInBounds_toArray, List.set_cons_succ, List.set_cons_zero]
  refine wpList_op rfl fun K hK => ?_
  go_simp
  refine (rof_any g _).mono ?_
  rintro e w3 ⟨x, y, rfl, hb⟩
  have HG3 := Lib.hid (HG2.out.below hb HG2.out.lt)
  have HX3 := Lib.hid (HX2.out.below hb HX2.out.lt)
  have HB3 := Lib.hid (stay HB2.out hb)
  have HI3 := Lib.hid (HI.out.below HB3.out)
  have HV3 := Lib.hid (Vars.below (Nat.le_refl _) HB3.out HV.out)
  clear hb HG2 HX2 HB2 HI2 HV2
  refine hK _ _ ?_
  clear hK K
  try simp only [Act.put, List.setIfInBounds_toArray, List.set_cons_succ, List.set_cons_zero]
  refine takeL (.int .i64 (tot g)) rfl (by have z := field32m x (tot g) y w3; go_simp) ?_
  try simp only [Act.put, List.setIfInBounds_toArray, List.set_cons_succ, List.set_cons_zero]
  refine takeL (.int .i64 (t : Int)) rfl (by have z := HTM.out; go_simp) ?_
  try simp only [Act.put, List.setIfInBounds_toArray, List.set_cons_succ, List.set_cons_zero]
  refine wpList_op rfl fun K hK => ?_
  go_simp
  refine (De.dv_new w3 _ (Below.refl _ _) t HTB.out).mono ?_
  rintro e w4 ⟨b, F, rfl, hdv, hb, hF⟩
  have HG4 := Lib.hid (HG3.out.below hb HG3.out.lt)
  have HX4 := Lib.hid (HX3.out.below hb HX3.out.lt)
  have HB4 := Lib.hid (stay HB3.out hb)
  have HD4 := Lib.hid hdv
  clear hb hdv hF
  refine hK _ _ ?_
  clear hK K
  try simp only [Act.put, List.setIfInBounds_toArray, List.set_cons_succ, List.set_cons_zero]
  refine takeL (.tuple #[.pointer (some ⟨b, 0, none⟩), .int .i64 0]) rfl (by go_simp) ?_
  try simp only [Act.put, List.setIfInBounds_toArray, List.set_cons_succ, List.set_cons_zero]
  refine takeL (.pointer (some ⟨b, 0, none⟩)) rfl (by go_simp) ?_
  try simp only [Act.put, List.setIfInBounds_toArray, List.set_cons_succ, List.set_cons_zero]
  refine takeL (.int .i64 0) rfl (by go_simp) ?_
  try simp only [Act.put, List.setIfInBounds_toArray, List.set_cons_succ, List.set_cons_zero]
  refine takeL (.pointer (some ⟨b, 0, none⟩)) rfl (by go_simp) ?_
  try simp only [Act.put, List.setIfInBounds_toArray, List.set_cons_succ, List.set_cons_zero]
  refine takeL (.int .i64 0) rfl (by go_simp) ?_
  try simp only [Act.put, List.setIfInBounds_toArray, List.set_cons_succ, List.set_cons_zero]
  refine wpList_nil ?_
  go_upto_region 4 with fail
  refine wp_region_lit ?_
  refine takeL (.pointer (some ⟨b, 0, none⟩)) rfl (by go_simp) ?_
  try simp only [Act.put, List.setIfInBounds_toArray, List.set_cons_succ, List.set_cons_zero]
  refine takeL (.agg #[.int .i64 g.p, .int .i64 g.s, .int .i64 g.l, .int .i64 g.f]) rfl (by have q0 := HG4.out.cell (i := 0) rfl; have q1 := HG4.out.cell (i := 1) rfl; have q2 := HG4.out.cell (i := 2) rfl; have q3 := HG4.out.cell (i := 3) rfl; go_simp) ?_
  try simp only [Act.put, List.setIfInBounds_toArray, List.set_cons_succ, List.set_cons_zero]
  refine takeL (.agg #[.int .i64 a.seg, .int .i64 a.off, .int .u32 a.seq, .slice fa n fc]) rfl (by have q0 := HX4.out.cell (i := 0) rfl; have q1 := HX4.out.cell (i := 1) rfl; have q2 := HX4.out.cell (i := 2) rfl; have q3 := HX4.out.cell (i := 3) rfl; go_simp) ?_
  try simp only [Act.put, List.setIfInBounds_toArray, List.set_cons_succ, List.set_cons_zero]
  refine wpList_op rfl fun K hK => ?_
  go_simp
  refine (new_law (W := w3) t HTB.out.2 g HTO.out a (.slice fa n fc) HNA.out HQ.out (HA.out.below HB4.out) HD4.out (Vars.below (Nat.le_refl _) HB4.out HV.out)).mono ?_
  rintro e w5 (⟨hg, rfl, hb⟩ | ⟨hg, jb, tv0, rfl, hj, -, hb⟩)
  · have HB5 := Lib.hid (stay HB4.out hb)
    clear hb hg
    refine hK _ _ ?_
    clear hK K
    try simp only [Act.put, List.setIfInBounds_toArray, List.set_cons_succ, List.set_cons_zero]
    refine takeL (.tuple #[.pointer none, .int .i64 1]) rfl (by go_simp) ?_
    try simp only [Act.put, List.setIfInBounds_toArray, List.set_cons_succ, List.set_cons_zero]
    refine takeL (.pointer none) rfl (by go_simp) ?_
    try simp only [Act.put, List.setIfInBounds_toArray, List.set_cons_succ, List.set_cons_zero]
    refine takeL (.int .i64 1) rfl (by go_simp) ?_
    try simp only [Act.put, List.setIfInBounds_toArray, List.set_cons_succ, List.set_cons_zero]
    refine takeL (.pointer none) rfl (by go_simp) ?_
    try simp only [Act.put, List.setIfInBounds_toArray, List.set_cons_succ, List.set_cons_zero]
    refine takeL (.int .i64 1) rfl (by go_simp) ?_
    try simp only [Act.put, List.setIfInBounds_toArray, List.set_cons_succ, List.set_cons_zero]
    refine wpList_nil ?_
    go_wp2_with fail
    refine (wakes_any (Vars.below (Nat.le_refl _) HB5.out HV.out)).mono ?_
    rintro e wZ ⟨rfl, hb⟩
    have HBZ := Lib.hid (stay HB5.out hb)
    clear hb
    go_wp2_with fail
    go_ret
    exact ⟨rfl, HBZ.out⟩
  have HJ5 := Lib.hid hj
  have HGD := Lib.hid hg
  have HBS : Hid (∀ wr, Below w3.heap.size w3 wr → Below w.heap.size w wr) := Lib.hid fun wr h => stay HB3.out h
  clear hj hb hg HG4 HX4 HB4 HD4
  refine hK _ _ ?_
  clear hK K
  try simp only [Act.put, List.setIfInBounds_toArray, List.set_cons_succ, List.set_cons_zero]
  refine takeL (.tuple #[.pointer (some ⟨jb, 0, none⟩), .int .i64 0]) rfl (by go_simp) ?_
  try simp only [Act.put, List.setIfInBounds_toArray, List.set_cons_succ, List.set_cons_zero]
  refine takeL (.pointer (some ⟨jb, 0, none⟩)) rfl (by go_simp) ?_
  try simp only [Act.put, List.setIfInBounds_toArray, List.set_cons_succ, List.set_cons_zero]
  refine takeL (.int .i64 0) rfl (by go_simp) ?_
  try simp only [Act.put, List.setIfInBounds_toArray, List.set_cons_succ, List.set_cons_zero]
  refine takeL (.pointer (some ⟨jb, 0, none⟩)) rfl (by go_simp) ?_
  try simp only [Act.put, List.setIfInBounds_toArray, List.set_cons_succ, List.set_cons_zero]
  refine takeL (.int .i64 0) rfl (by go_simp) ?_
  try simp only [Act.put, List.setIfInBounds_toArray, List.set_cons_succ, List.set_cons_zero]
  refine wpList_nil ?_
  go_upto_region 7 with fail
  refine wp_region_lit ?_
  refine takeL (.slice ia m ic) rfl (by go_simp) ?_
  try simp only [Act.put, List.setIfInBounds_toArray, List.set_cons_succ, List.set_cons_zero]
  refine wpList_op rfl fun K hK => ?_
  go_simp
  refine (rsize_of l L HLL.out (by rw [HM.out]; have := HFL.out trivial; omega) (.slice ia m ic) (fun w h => by rw [← HLL.out]; exact rgoodG_any l m HM.out _ (by have := HFL.out trivial; omega) w h) _ (HI3.out.below HJ5.out.bel)).mono ?_
  rintro e w6 ⟨rfl, hb⟩
  have HJ6 := Lib.hid (HJ5.out.below hb)
  clear hb HJ5
  refine hK _ _ ?_
  clear hK K
  try simp only [Act.put, List.setIfInBounds_toArray, List.set_cons_succ, List.set_cons_zero]
  refine takeL (.int .i64 (sizeOf' L)) rfl (by go_simp) ?_
  try simp only [Act.put, List.setIfInBounds_toArray, List.set_cons_succ, List.set_cons_zero]
  refine wpList_nil ?_
  go_upto_region 8 with fail
  refine wp_region_lit ?_
  refine takeL (.pointer (some ⟨jb, 0, none⟩)) rfl (by go_simp) ?_
  try simp only [Act.put, List.setIfInBounds_toArray, List.set_cons_succ, List.set_cons_zero]
  refine takeL (.slice ia m ic) rfl (by go_simp) ?_
  try simp only [Act.put, List.setIfInBounds_toArray, List.set_cons_succ, List.set_cons_zero]
  refine wpList_op rfl fun K hK => ?_
  go_simp
  refine (put_law HJ6.out HV3.out l L HLL.out _ (by rw [HM.out]; have := HFL.out trivial; omega) HI3.out (by rw [newD_len]; exact HTB.out.2) (Nat.zero_le _) (Nat.zero_le _)).mono ?_
  rintro e w7 ⟨pv, rfl, F1, fv1, ho, hj, hon, hn, hpa⟩
  obtain ⟨⟨e0, l0, a0, d0⟩, hp⟩ : ∃ p, jput g a (De.newD t) L = p := ⟨_, rfl⟩
  rw [hp] at ho hj ⊢
  dsimp only at ho hj ⊢
  have HP := Lib.hid hp
  have HJ7 := Lib.hid hj
  have HPV := Lib.hid ho.ints
  obtain ⟨pa, pc, hpv⟩ := ho.ints.form
  obtain ⟨pn, hpn⟩ : ∃ n, l0.length = n := ⟨_, rfl⟩
  rw [hpn] at hpv
  have HPN := Lib.hid hpn
  subst hpv
  clear ho hj hon hn hpa hp hpn HJ6
  refine hK _ _ ?_
  clear hK K
  try simp only [Act.put, List.setIfInBounds_toArray, List.set_cons_succ, List.set_cons_zero]
  refine takeL (.tuple #[.slice pa pn pc, .int .i64 e0]) rfl (by go_simp) ?_
  try simp only [Act.put, List.setIfInBounds_toArray, List.set_cons_succ, List.set_cons_zero]
  refine takeL (.slice pa pn pc) rfl (by go_simp) ?_
  try simp only [Act.put, List.setIfInBounds_toArray, List.set_cons_succ, List.set_cons_zero]
  refine takeL (.int .i64 e0) rfl (by go_simp) ?_
  try simp only [Act.put, List.setIfInBounds_toArray, List.set_cons_succ, List.set_cons_zero]
  refine takeL (.slice pa pn pc) rfl (by go_simp) ?_
  try simp only [Act.put, List.setIfInBounds_toArray, List.set_cons_succ, List.set_cons_zero]
  refine takeL (.int .i64 e0) rfl (by go_simp) ?_
  try simp only [Act.put, List.setIfInBounds_toArray, List.set_cons_succ, List.set_cons_zero]
  refine wpList_nil ?_
  go_upto_region 9 with fail
  refine wp_region_lit ?_
  refine takeL (.pointer (some ⟨jb, 0, none⟩)) rfl (by go_simp) ?_
  try simp only [Act.put, List.setIfInBounds_toArray, List.set_cons_succ, List.set_cons_zero]
  refine wpList_op rfl fun K hK => ?_
  go_simp
  refine (at_any HJ7.out).mono ?_
  rintro e w8 ⟨tv, rfl, hot, hb⟩
  have HJ8 := Lib.hid (HJ7.out.below hb)
  have HT8 := Lib.hid hot.ints
  obtain ⟨ta, tc, htv⟩ := hot.ints.form
  obtain ⟨tn, htn⟩ : ∃ n, a0.free.length = n := ⟨_, rfl⟩
  rw [htn] at htv
  have HTN := Lib.hid htn
  subst htv
  clear hot hb HJ7 htn HPV
  refine hK _ _ ?_
  clear hK K
  try simp only [Act.put, List.setIfInBounds_toArray, List.set_cons_succ, List.set_cons_zero]
  refine alloc_g zero27 rfl ?_
  intro w9 hA hb hl
  try simp only [Act.put, List.setIfInBounds_toArray, List.set_cons_succ, List.set_cons_zero]
  refine store_all (cs := #[.int .i64 a0.seg, .int .i64 a0.off, .int .u32 a0.seq, .slice ta tn tc]) hA rfl info27 (at_one _ _ _ _ _ _) rfl rfl rfl ?_
  intro wA hD hO hlD
  try simp only [Act.put, List.setIfInBounds_toArray, List.set_cons_succ, List.set_cons_zero]
  have hbb : Below w8.heap.size w8 wA := hb.trans (hO.below hb.size fun k hk => Nat.le_of_eq hk.symm)
  have HNB := Lib.hid hD
  have HJA := Lib.hid (HJ8.out.below hbb)
  have HTA := Lib.hid (HT8.out.below hbb)
  generalize w8.heap.size = nb0 at *
  clear hA hb hl hD hO hlD hbb HJ8 HT8
  have HGA := Lib.hid (HG3.out.below HJA.out.bel HG3.out.lt)
  have HXA := Lib.hid (HX3.out.below HJA.out.bel HX3.out.lt)
  have HBA := Lib.hid (HBS.out _ HJA.out.bel)
  have HAA := Lib.hid (HA.out.below HBA.out)
  have HVA := Lib.hid (Vars.below (Nat.le_refl _) HBA.out HV.out)
  clear HG3 HX3
  refine wpList_nil ?_
  have q2 := HGA.out.cell (i := 2) rfl
  cases hld : laid g a L
  · have h1 := (jput_no (d := De.newD t) hld).symm.trans HP.out
    injection h1 with h1 h2 h3 h4
    subst h1 h2 h3 h4
    have hp0 : pn = 0 := by rw [← HPN.out]; rfl
    subst hp0
    have hz : (sizeOf' L == 0) = true ∨ ((sizeOf' L == 0) = false ∧ decide (g.l < sizeOf' L) = true) := by
      cases hmb : mayBe L
      · left
        unfold sizeOf'
        rw [hmb]
        rfl
      · right
        unfold laid at hld
        rw [hmb, Bool.true_and, decide_eq_false_iff_not] at hld
        rw [size_lay hmb a.seq]
        exact ⟨by rw [beq_eq_false_iff_ne]; have := lay2_pos hmb a.seq; omega, decide_eq_true (by omega)⟩
    obtain ⟨z, hzz⟩ : ∃ z, sizeOf' L = z := ⟨_, rfl⟩
    rw [hzz] at hz ⊢
    clear hzz hld HP HPN
    go_upto_region 10 with fail
    go_cut [65] from 65 to 73 (fun s wx => s = .bool true ∧ wx = wA)
    case first =>
      rcases hz with hz | ⟨hz, hd⟩
      · go_wp2_with fail
        go_meet
        exact ⟨rfl, rfl⟩
      · go_wp2_with fail
        go_meet
        exact ⟨rfl, rfl⟩
    case rest =>
      obtain ⟨rfl, rfl⟩ := hcut
      go_upto_region 11 with fail
      refine startH (fun wq => Below wc.heap.size wc wq) (by kernel_rfl) ?_
      have HS0 : Hid (Below wc.heap.size wc wc.drew) := Lib.hid (Below.refl _ _).drew
      generalize wc.drew = u0 at *
      refine takeH 0 (some 74) (.int .i64 1) rfl rfl (by kernel_rfl) (by kernel_rfl) (by kernel_rfl) (fun _ _ _ h => h) rfl (fun wq hS => by go_simp) HS0.out ?_
      try simp only [Act.put, List.setIfInBounds_toArray, List.set_cons_succ, List.set_cons_zero]
      refine takeH 1 (some 75) (.bool true) rfl rfl (by kernel_rfl) (by kernel_rfl) (by kernel_rfl) (fun _ _ _ h => h) rfl (fun wq hS => by go_simp) HS0.out ?_
      try simp only [Act.put, List.setIfInBounds_toArray, List.set_cons_succ, List.set_cons_zero]
      refine takeH 2 (some 76) (.bool true) rfl rfl (by kernel_rfl) (by kernel_rfl) (by kernel_rfl) (fun _ _ _ h => h) rfl (fun wq hS => by go_simp) HS0.out ?_
      try simp only [Act.put, List.setIfInBounds_toArray, List.set_cons_succ, List.set_cons_zero]
      refine takeH 3 (some 77) (.slice pa 0 pc) rfl rfl (by kernel_rfl) (by kernel_rfl) (by kernel_rfl) (fun _ _ _ h => h) rfl (fun wq hS => by go_simp) HS0.out ?_
      try simp only [Act.put, List.setIfInBounds_toArray, List.set_cons_succ, List.set_cons_zero]
      refine takeH 4 (some 78) (.int .i64 0) rfl rfl (by kernel_rfl) (by kernel_rfl) (by kernel_rfl) (fun _ _ _ h => h) rfl (fun wq hS => by go_simp) HS0.out ?_
      try simp only [Act.put, List.setIfInBounds_toArray, List.set_cons_succ, List.set_cons_zero]
      refine takeH 5 (some 79) (.bool true) rfl rfl (by kernel_rfl) (by kernel_rfl) (by kernel_rfl) (fun _ _ _ h => h) rfl (fun wq hS => by go_simp) HS0.out ?_
      try simp only [Act.put, List.setIfInBounds_toArray, List.set_cons_succ, List.set_cons_zero]
      refine takeH 6 (some 80) (.bool true) rfl rfl (by kernel_rfl) (by kernel_rfl) (by kernel_rfl) (fun _ _ _ h => h) rfl (fun wq hS => by go_simp) HS0.out ?_
      try simp only [Act.put, List.setIfInBounds_toArray, List.set_cons_succ, List.set_cons_zero]
      refine takeH 7 (some 81) (.bool true) rfl rfl (by kernel_rfl) (by kernel_rfl) (by kernel_rfl) (fun _ _ _ h => h) rfl (fun wq hS => by go_simp) HS0.out ?_
      try simp only [Act.put, List.setIfInBounds_toArray, List.set_cons_succ, List.set_cons_zero]
      refine takeH 8 (some 82) (.agg #[.int .i64 a.seg, .int .i64 a.off, .int .u32 a.seq, .slice ta tn tc]) rfl rfl (by kernel_rfl) (by kernel_rfl) (by kernel_rfl) (fun _ _ _ h => h) rfl (fun wq hS => by have q := HNB.out.below hS HNB.out.lt; have q0 := q.cell (i := 0) rfl; have q1 := q.cell (i := 1) rfl; have q2 := q.cell (i := 2) rfl; have q3 := q.cell (i := 3) rfl; go_simp) HS0.out ?_
      try simp only [Act.put, List.setIfInBounds_toArray, List.set_cons_succ, List.set_cons_zero]
      refine takeH 9 (some 83) (.agg #[.int .i64 a.seg, .int .i64 a.off, .int .u32 a.seq, .slice fa n fc]) rfl rfl (by kernel_rfl) (by kernel_rfl) (by kernel_rfl) (fun _ _ _ h => h) rfl (fun wq hS => by have q := HXA.out.below hS HXA.out.lt; have q0 := q.cell (i := 0) rfl; have q1 := q.cell (i := 1) rfl; have q2 := q.cell (i := 2) rfl; have q3 := q.cell (i := 3) rfl; go_simp) HS0.out ?_
      try simp only [Act.put, List.setIfInBounds_toArray, List.set_cons_succ, List.set_cons_zero]
      refine oneH 10 (by kernel_rfl) rfl rfl fun K hK => ?_
      go_simp
      refine (lown_any a (.slice fa n fc) (by rw [HN.out]; have := HN60.out; omega) (HAA.out.below HS0.out)).mono ?_
      rintro e u1 ⟨tv2, rfl, hot, hb⟩
      have HS1 := Lib.hid (stay HS0.out hb)
      have HT1 := Lib.hid hot.ints
      refine hK _ _ HS1.out ?_
      clear hK K hb hot
      try simp only [Act.put, List.setIfInBounds_toArray, List.set_cons_succ, List.set_cons_zero]
      refine oneH 11 (by kernel_rfl) rfl rfl fun K hK => ?_
      go_simp
      refine (same_yes a (.slice ta tn tc) tv2 (by rw [HN.out]; have := HN60.out; omega) (HTA.out.below HS1.out) HT1.out).mono ?_
      rintro e u2 ⟨rfl, hb⟩
      have HS2 := Lib.hid (stay HS1.out hb)
      refine hK _ _ HS2.out ?_
      clear hK K hb HT1
      try simp only [Act.put, List.setIfInBounds_toArray, List.set_cons_succ, List.set_cons_zero]
      refine takeH 12 (some 86) (.bool true) rfl rfl (by kernel_rfl) (by kernel_rfl) (by kernel_rfl) (fun _ _ _ h => h) rfl (fun wq hS => by go_simp) HS2.out ?_
      try simp only [Act.put, List.setIfInBounds_toArray, List.set_cons_succ, List.set_cons_zero]
      refine takeH 13 (some 87) (.bool true) rfl rfl (by kernel_rfl) (by kernel_rfl) (by kernel_rfl) (fun _ _ _ h => h) rfl (fun wq hS => by go_simp) HS2.out ?_
      try simp only [Act.put, List.setIfInBounds_toArray, List.set_cons_succ, List.set_cons_zero]
      refine takeH 14 (some 88) (.pointer (some ⟨b, 0, none⟩)) rfl rfl (by kernel_rfl) (by kernel_rfl) (by kernel_rfl) (fun _ _ _ h => h) rfl (fun wq hS => by go_simp) HS2.out ?_
      try simp only [Act.put, List.setIfInBounds_toArray, List.set_cons_succ, List.set_cons_zero]
      refine oneH 15 (by kernel_rfl) rfl rfl fun K hK => ?_
      go_simp
      refine (De.dv_done (HJA.out.dv.below HS2.out)).mono ?_
      rintro e u3 ⟨rfl, rfl⟩
      rw [show (((De.newD t).T : Nat) : Int) = 0 from rfl]
      refine hK _ _ HS2.out ?_
      clear hK K
      try simp only [Act.put, List.setIfInBounds_toArray, List.set_cons_succ, List.set_cons_zero]
      refine takeH 16 (some 90) (.bool true) rfl rfl (by kernel_rfl) (by kernel_rfl) (by kernel_rfl) (fun _ _ _ h => h) rfl (fun wq hS => by go_simp) HS2.out ?_
      try simp only [Act.put, List.setIfInBounds_toArray, List.set_cons_succ, List.set_cons_zero]
      refine takeH 17 (some 91) (.bool true) rfl rfl (by kernel_rfl) (by kernel_rfl) (by kernel_rfl) (fun _ _ _ h => h) rfl (fun wq hS => by go_simp) HS2.out ?_
      try simp only [Act.put, List.setIfInBounds_toArray, List.set_cons_succ, List.set_cons_zero]
      refine takeH 18 (some 92) (.bool true) rfl rfl (by kernel_rfl) (by kernel_rfl) (by kernel_rfl) (fun _ _ _ h => h) rfl (fun wq hS => by go_simp) HS2.out ?_
      try simp only [Act.put, List.setIfInBounds_toArray, List.set_cons_succ, List.set_cons_zero]
      refine oneH 19 (by kernel_rfl) rfl rfl fun K hK => ?_
      go_simp
      refine (wakes_any (Vars.below (Nat.le_refl _) HS2.out HVA.out)).mono ?_
      rintro e u4 ⟨rfl, hb⟩
      have HS3 := Lib.hid (stay HS2.out hb)
      refine hK _ _ HS3.out ?_
      clear hK K hb
      try simp only [Act.put, List.setIfInBounds_toArray, List.set_cons_succ, List.set_cons_zero]
      refine takeH 20 (some 94) (.bool true) rfl rfl (by kernel_rfl) (by kernel_rfl) (by kernel_rfl) (fun _ _ _ h => h) rfl (fun wq hS => by go_simp) HS3.out ?_
      try simp only [Act.put, List.setIfInBounds_toArray, List.set_cons_succ, List.set_cons_zero]
      refine takeH 21 (some 6) (.bool true) rfl rfl (by kernel_rfl) (by kernel_rfl) (by kernel_rfl) (fun _ _ _ h => h) rfl (fun wq hS => by go_simp) HS3.out ?_
      try simp only [Act.put, List.setIfInBounds_toArray, List.set_cons_succ, List.set_cons_zero]
      refine wpAnyH_done (by kernel_rfl) ?_ _
      have HBZ := Lib.hid (stay HBA.out HS3.out)
      go_wp2_with fail
      go_ret
      exact ⟨rfl, HBZ.out⟩
  obtain ⟨hmb, hle⟩ := laid_parts hld
  rw [size_lay hmb a.seq]
  have hpos := lay2_pos hmb a.seq
  have hgp := Ja.good_parts HGD.out
  have hgl := hgp.1.2.2.1
  have hT := HTO.out hgp.1
  obtain ⟨k, hk⟩ : ∃ k, (lay2 a.seq L).1.length = k := ⟨_, rfl⟩
  have k0 : ((k : Int) == 0) = false := by rw [beq_eq_false_iff_ne]; omega
  have dk : decide (g.l < (k : Int)) = false := decide_eq_false (by omega)
  have x1 := HXA.out.cell (i := 1) rfl
  have gsub : IntKind.i64.wrap (g.l - a.off) = g.l - a.off := wrap64 (by omega) (by omega)
  rw [hk]
  by_cases hroom : (k : Int) ≤ g.l - a.off
  · have hrun := jput_runs (d := De.newD t) HGD.out hld (a1 := a) (by unfold nextP; rw [hk, if_pos hroom]) (by rw [newD_len]; omega) (.inl (by show (-1 : Int) < 0; decide))
    rw [HP.out, hk] at hrun
    dsimp only at hrun
    obtain ⟨h1, -, h3, -, h5, -⟩ := hrun
    subst h1 h3
    have htn : tn = n := by rw [← HTN.out, ← HN.out]
    subst htn
    have dr : decide ((k : Int) ≤ g.l - a.off) = true := decide_eq_true hroom
    have ga : IntKind.i64.wrap (a.off + (k : Int)) = a.off + (k : Int) := wrap64 (by omega) (by omega)
    have gk1 : IntKind.i64.wrap ((k : Int) + 1) = (k : Int) + 1 := wrap64 (by omega) (by omega)
    have HTT : Hid ((d0.T : Int) = (k : Int) + 1) := Lib.hid (by rw [h5]; show (((0 : Nat) + k + 1 : Nat) : Int) = (k : Int) + 1; omega)
    have n0 := HNB.out.cell (i := 0) rfl
    have n1 := HNB.out.cell (i := 1) rfl
    have n3 := HNB.out.cell (i := 3) rfl
    have x0 := HXA.out.cell (i := 0) rfl
    have x3 := HXA.out.cell (i := 3) rfl
    clear h5 hk hle hpos hgp hgl hT hld hmb hroom HP
    go_wp2_with fail
    refine (ints_any a.free a.free (by rw [HN.out]; have := HN60.out; omega) (by rw [HN.out]; have := HN60.out; omega) _ _ _ HTA.out HAA.out).mono ?_
    rintro e wB ⟨rfl, hb⟩
    rw [decide_eq_true (rfl : a.free = a.free)]
    have HJB := Lib.hid (HJA.out.below hb)
    have HVB := Lib.hid (Vars.below (Nat.le_refl _) hb HVA.out)
    have HBB := Lib.hid (stay HBA.out hb)
    clear hb n0 n1 n3 x0 x1 x3 q2
    go_wp2_with fail
    refine (De.dv_done HJB.out.dv).mono ?_
    rintro e wC ⟨rfl, rfl⟩
    rw [HTT.out]
    go_wp2_with fail
    refine (wakes_any HVB.out).mono ?_
    rintro e wD ⟨rfl, hb⟩
    have HBD := Lib.hid (stay HBB.out hb)
    clear hb
    go_wp2_with fail
    go_ret
    exact ⟨rfl, HBD.out⟩
  have dr : decide ((k : Int) ≤ g.l - a.off) = false := decide_eq_false hroom
  have x3 := HXA.out.cell (i := 3) rfl
  cases hfr : a.free with
  | nil =>
    have h1 := (jput_full (d := De.newD t) hld (by unfold nextP; rw [hk, if_neg hroom, hfr])).symm.trans HP.out
    injection h1 with h1 h2 h3 h4
    subst h1 h2 h3 h4
    have hp0 : pn = 0 := by rw [← HPN.out]; rfl
    subst hp0
    have hn0 : n = 0 := by rw [← HN.out, hfr]; rfl
    subst hn0
    clear hld HP HPN hk hle hpos hgp hgl hT hmb hroom
    go_upto_region 15 with fail
    refine startH (fun wq => Below wA.heap.size wA wq) (by kernel_rfl) ?_
    have HS0 : Hid (Below wA.heap.size wA wA.drew) := Lib.hid (Below.refl _ _).drew
    generalize wA.drew = u0 at *
    refine takeH 0 (some 143) (.int .i64 14) rfl rfl (by kernel_rfl) (by kernel_rfl) (by kernel_rfl) (fun _ _ _ h => h) rfl (fun wq hS => by go_simp) HS0.out ?_
    try simp only [Act.put, List.setIfInBounds_toArray, List.set_cons_succ, List.set_cons_zero]
    refine takeH 1 (some 144) (.bool true) rfl rfl (by kernel_rfl) (by kernel_rfl) (by kernel_rfl) (fun _ _ _ h => h) rfl (fun wq hS => by go_simp) HS0.out ?_
    try simp only [Act.put, List.setIfInBounds_toArray, List.set_cons_succ, List.set_cons_zero]
    refine takeH 2 (some 145) (.bool true) rfl rfl (by kernel_rfl) (by kernel_rfl) (by kernel_rfl) (fun _ _ _ h => h) rfl (fun wq hS => by go_simp) HS0.out ?_
    try simp only [Act.put, List.setIfInBounds_toArray, List.set_cons_succ, List.set_cons_zero]
    refine takeH 3 (some 146) (.slice pa 0 pc) rfl rfl (by kernel_rfl) (by kernel_rfl) (by kernel_rfl) (fun _ _ _ h => h) rfl (fun wq hS => by go_simp) HS0.out ?_
    try simp only [Act.put, List.setIfInBounds_toArray, List.set_cons_succ, List.set_cons_zero]
    refine takeH 4 (some 147) (.int .i64 0) rfl rfl (by kernel_rfl) (by kernel_rfl) (by kernel_rfl) (fun _ _ _ h => h) rfl (fun wq hS => by go_simp) HS0.out ?_
    try simp only [Act.put, List.setIfInBounds_toArray, List.set_cons_succ, List.set_cons_zero]
    refine takeH 5 (some 148) (.bool true) rfl rfl (by kernel_rfl) (by kernel_rfl) (by kernel_rfl) (fun _ _ _ h => h) rfl (fun wq hS => by go_simp) HS0.out ?_
    try simp only [Act.put, List.setIfInBounds_toArray, List.set_cons_succ, List.set_cons_zero]
    refine takeH 6 (some 149) (.bool true) rfl rfl (by kernel_rfl) (by kernel_rfl) (by kernel_rfl) (fun _ _ _ h => h) rfl (fun wq hS => by go_simp) HS0.out ?_
    try simp only [Act.put, List.setIfInBounds_toArray, List.set_cons_succ, List.set_cons_zero]
    refine takeH 7 (some 150) (.bool true) rfl rfl (by kernel_rfl) (by kernel_rfl) (by kernel_rfl) (fun _ _ _ h => h) rfl (fun wq hS => by go_simp) HS0.out ?_
    try simp only [Act.put, List.setIfInBounds_toArray, List.set_cons_succ, List.set_cons_zero]
    refine takeH 8 (some 151) (.agg #[.int .i64 a.seg, .int .i64 a.off, .int .u32 a.seq, .slice ta tn tc]) rfl rfl (by kernel_rfl) (by kernel_rfl) (by kernel_rfl) (fun _ _ _ h => h) rfl (fun wq hS => by have q := HNB.out.below hS HNB.out.lt; have q0 := q.cell (i := 0) rfl; have q1 := q.cell (i := 1) rfl; have q2 := q.cell (i := 2) rfl; have q3 := q.cell (i := 3) rfl; go_simp) HS0.out ?_
    try simp only [Act.put, List.setIfInBounds_toArray, List.set_cons_succ, List.set_cons_zero]
    refine takeH 9 (some 152) (.agg #[.int .i64 a.seg, .int .i64 a.off, .int .u32 a.seq, .slice fa 0 fc]) rfl rfl (by kernel_rfl) (by kernel_rfl) (by kernel_rfl) (fun _ _ _ h => h) rfl (fun wq hS => by have q := HXA.out.below hS HXA.out.lt; have q0 := q.cell (i := 0) rfl; have q1 := q.cell (i := 1) rfl; have q2 := q.cell (i := 2) rfl; have q3 := q.cell (i := 3) rfl; go_simp) HS0.out ?_
    try simp only [Act.put, List.setIfInBounds_toArray, List.set_cons_succ, List.set_cons_zero]
    refine oneH 10 (by kernel_rfl) rfl rfl fun K hK => ?_
    go_simp
    refine (lown_any a (.slice fa 0 fc) (by rw [HN.out]; have := HN60.out; omega) (HAA.out.below HS0.out)).mono ?_
    rintro e u1 ⟨tv2, rfl, hot, hb⟩
    have HS1 := Lib.hid (stay HS0.out hb)
    have HT1 := Lib.hid hot.ints
    refine hK _ _ HS1.out ?_
    clear hK K hb hot
    try simp only [Act.put, List.setIfInBounds_toArray, List.set_cons_succ, List.set_cons_zero]
    refine oneH 11 (by kernel_rfl) rfl rfl fun K hK => ?_
    go_simp
    refine (same_yes a (.slice ta tn tc) tv2 (by rw [HN.out]; have := HN60.out; omega) (HTA.out.below HS1.out) HT1.out).mono ?_
    rintro e u2 ⟨rfl, hb⟩
    have HS2 := Lib.hid (stay HS1.out hb)
    refine hK _ _ HS2.out ?_
    clear hK K hb HT1
    try simp only [Act.put, List.setIfInBounds_toArray, List.set_cons_succ, List.set_cons_zero]
    refine takeH 12 (some 155) (.bool true) rfl rfl (by kernel_rfl) (by kernel_rfl) (by kernel_rfl) (fun _ _ _ h => h) rfl (fun wq hS => by go_simp) HS2.out ?_
    try simp only [Act.put, List.setIfInBounds_toArray, List.set_cons_succ, List.set_cons_zero]
    refine takeH 13 (some 156) (.bool true) rfl rfl (by kernel_rfl) (by kernel_rfl) (by kernel_rfl) (fun _ _ _ h => h) rfl (fun wq hS => by go_simp) HS2.out ?_
    try simp only [Act.put, List.setIfInBounds_toArray, List.set_cons_succ, List.set_cons_zero]
    refine takeH 14 (some 157) (.pointer (some ⟨b, 0, none⟩)) rfl rfl (by kernel_rfl) (by kernel_rfl) (by kernel_rfl) (fun _ _ _ h => h) rfl (fun wq hS => by go_simp) HS2.out ?_
    try simp only [Act.put, List.setIfInBounds_toArray, List.set_cons_succ, List.set_cons_zero]
    refine oneH 15 (by kernel_rfl) rfl rfl fun K hK => ?_
    go_simp
    refine (De.dv_done (HJA.out.dv.below HS2.out)).mono ?_
    rintro e u3 ⟨rfl, rfl⟩
    rw [show (((De.newD t).T : Nat) : Int) = 0 from rfl]
    refine hK _ _ HS2.out ?_
    clear hK K
    try simp only [Act.put, List.setIfInBounds_toArray, List.set_cons_succ, List.set_cons_zero]
    refine takeH 16 (some 159) (.bool true) rfl rfl (by kernel_rfl) (by kernel_rfl) (by kernel_rfl) (fun _ _ _ h => h) rfl (fun wq hS => by go_simp) HS2.out ?_
    try simp only [Act.put, List.setIfInBounds_toArray, List.set_cons_succ, List.set_cons_zero]
    refine takeH 17 (some 160) (.bool true) rfl rfl (by kernel_rfl) (by kernel_rfl) (by kernel_rfl) (fun _ _ _ h => h) rfl (fun wq hS => by go_simp) HS2.out ?_
    try simp only [Act.put, List.setIfInBounds_toArray, List.set_cons_succ, List.set_cons_zero]
    refine takeH 18 (some 161) (.bool true) rfl rfl (by kernel_rfl) (by kernel_rfl) (by kernel_rfl) (fun _ _ _ h => h) rfl (fun wq hS => by go_simp) HS2.out ?_
    try simp only [Act.put, List.setIfInBounds_toArray, List.set_cons_succ, List.set_cons_zero]
    refine oneH 19 (by kernel_rfl) rfl rfl fun K hK => ?_
    go_simp
    refine (wakes_any (Vars.below (Nat.le_refl _) HS2.out HVA.out)).mono ?_
    rintro e u4 ⟨rfl, hb⟩
    have HS3 := Lib.hid (stay HS2.out hb)
    refine hK _ _ HS3.out ?_
    clear hK K hb
    try simp only [Act.put, List.setIfInBounds_toArray, List.set_cons_succ, List.set_cons_zero]
    refine takeH 20 (some 163) (.bool true) rfl rfl (by kernel_rfl) (by kernel_rfl) (by kernel_rfl) (fun _ _ _ h => h) rfl (fun wq hS => by go_simp) HS3.out ?_
    try simp only [Act.put, List.setIfInBounds_toArray, List.set_cons_succ, List.set_cons_zero]
    refine takeH 21 (some 6) (.bool true) rfl rfl (by kernel_rfl) (by kernel_rfl) (by kernel_rfl) (fun _ _ _ h => h) rfl (fun wq hS => by go_simp) HS3.out ?_
    try simp only [Act.put, List.setIfInBounds_toArray, List.set_cons_succ, List.set_cons_zero]
    refine wpAnyH_done (by kernel_rfl) ?_ _
    have HBZ := Lib.hid (stay HBA.out HS3.out)
    go_wp2_with fail
    go_ret
    exact ⟨rfl, HBZ.out⟩
  | cons f r =>
    have hrun := jput_runs (d := De.newD t) HGD.out hld (a1 := ⟨f, 0, a.seq, r⟩) (by unfold nextP; rw [hk, if_neg hroom, hfr]) (by rw [newD_len]; omega) (.inl (by show (-1 : Int) < 0; decide))
    rw [HP.out, hk] at hrun
    dsimp only at hrun
    obtain ⟨h1, -, h3, -⟩ := hrun
    rw [Int.zero_add] at h3
    subst h1 h3
    obtain ⟨qb, qo, hfa, hq0⟩ : ∃ b o, fa = some ⟨b, o, none⟩ ∧ wA.cell? ⟨b, o, none⟩ = some (.int .i64 f) := by
      obtain ⟨q', c', e, hc⟩ := HAA.out
      obtain ⟨b2, o2, h1, h2⟩ := hc 0 f (by rw [hfr]; rfl)
      injection e with e1 e2 e3
      exact ⟨b2, o2, by rw [e1, h1], h2⟩
    subst hfa
    have HQ0 := Lib.hid hq0
    have HQL := Lib.hid (block_lt_of_cell hq0)
    have HNR : Hid (n = r.length + 1) := Lib.hid (by rw [← HN.out, hfr]; rfl)
    have HTL : Hid (∀ w', Below wA.heap.size wA w' → IntsAt w' (.slice (cutA (some ⟨qb, qo, none⟩) 1 fc 1) (n - 1) (fc - 1)) r) := Lib.hid fun w' hb => ((show IntsAt w' (.slice (some ⟨qb, qo, none⟩) n fc) (f :: r) from by rw [← hfr]; exact HAA.out.below hb).tail HCP.out).1
    have hmz : ((n : Int) == 0) = false := by rw [beq_eq_false_iff_ne]; have := HNR.out; omega
    have hp3 := parts_val hmb
    have gp3 : Hid (IntKind.u32.wrap (partsN L) = partsN L) := Lib.hid (wrap32 (by omega) (by omega))
    have gp4 : Hid (IntKind.u32.wrap (a.seq + partsN L) = (a.seq + partsN L) % M32) := Lib.hid (by rw [IntKind.wrap_u32]; rfl)
    clear hq0 hld hk hle hpos hgp hgl hT hmb hroom HP hp3
    go_upto_region 16 with fail
    clear x1 x3 q2 k0 dk dr hmz gsub
    refine startH (fun wq => Below wA.heap.size wA wq) (by kernel_rfl) ?_
    have HS0 : Hid (Below wA.heap.size wA wA.drew) := Lib.hid (Below.refl _ _).drew
    generalize wA.drew = u0 at *
    refine takeH 0 (some 164) (.int .i64 0) rfl rfl (by kernel_rfl) (by kernel_rfl) (by kernel_rfl) (fun _ _ _ h => h) rfl (fun wq hS => by go_simp) HS0.out ?_
    try simp only [Act.put, List.setIfInBounds_toArray, List.set_cons_succ, List.set_cons_zero]
    refine takeH 1 (some 165) (.bool true) rfl rfl (by kernel_rfl) (by kernel_rfl) (by kernel_rfl) (fun _ _ _ h => h) rfl (fun wq hS => by go_simp) HS0.out ?_
    try simp only [Act.put, List.setIfInBounds_toArray, List.set_cons_succ, List.set_cons_zero]
    refine takeH 2 (some 166) (.bool true) rfl rfl (by kernel_rfl) (by kernel_rfl) (by kernel_rfl) (fun _ _ _ h => h) rfl (fun wq hS => by go_simp) HS0.out ?_
    try simp only [Act.put, List.setIfInBounds_toArray, List.set_cons_succ, List.set_cons_zero]
    refine takeH 3 (some 167) (.pointer (some ⟨nb0, 0, none⟩)) rfl rfl (by kernel_rfl) (by kernel_rfl) (by kernel_rfl) (fun _ _ _ h => h) rfl (fun wq hS => by go_simp) HS0.out ?_
    try simp only [Act.put, List.setIfInBounds_toArray, List.set_cons_succ, List.set_cons_zero]
    refine takeH 4 (some 168) (.int .i64 f) rfl rfl (by kernel_rfl) (by kernel_rfl) (by kernel_rfl) (fun _ _ _ h => h) rfl (fun wq hS => by have q := (HNB.out.below hS HNB.out.lt).cell (i := 0) rfl; go_simp) HS0.out ?_
    try simp only [Act.put, List.setIfInBounds_toArray, List.set_cons_succ, List.set_cons_zero]
    refine takeH 5 (some 169) (.pointer (some ⟨xb, 3, none⟩)) rfl rfl (by kernel_rfl) (by kernel_rfl) (by kernel_rfl) (fun _ _ _ h => h) rfl (fun wq hS => by go_simp) HS0.out ?_
    try simp only [Act.put, List.setIfInBounds_toArray, List.set_cons_succ, List.set_cons_zero]
    refine takeH 6 (some 170) (.slice (some ⟨qb, qo, none⟩) n fc) rfl rfl (by kernel_rfl) (by kernel_rfl) (by kernel_rfl) (fun _ _ _ h => h) rfl (fun wq hS => by have q := (HXA.out.below hS HXA.out.lt).cell (i := 3) rfl; go_simp) HS0.out ?_
    try simp only [Act.put, List.setIfInBounds_toArray, List.set_cons_succ, List.set_cons_zero]
    refine takeH 7 (some 171) (.pointer (some ⟨qb, qo, none⟩)) rfl rfl (by kernel_rfl) (by kernel_rfl) (by kernel_rfl) (fun _ _ _ h => h) rfl (fun wq hS => by have hm0 : ¬ n = 0 := (by have := HNR.out; omega); have hm1 : (0 : Int) < (n : Int) := (by have := HNR.out; omega); go_simp) HS0.out ?_
    try simp only [Act.put, List.setIfInBounds_toArray, List.set_cons_succ, List.set_cons_zero]
    refine takeH 8 (some 172) (.int .i64 f) rfl rfl (by kernel_rfl) (by kernel_rfl) (by kernel_rfl) (fun _ _ _ h => h) rfl (fun wq hS => by have q := (hS.cell (p := ⟨qb, qo, none⟩) HQL.out).trans HQ0.out; go_simp) HS0.out ?_
    try simp only [Act.put, List.setIfInBounds_toArray, List.set_cons_succ, List.set_cons_zero]
    refine takeH 9 (some 173) (.bool true) rfl rfl (by kernel_rfl) (by kernel_rfl) (by kernel_rfl) (fun _ _ _ h => h) rfl (fun wq hS => by go_simp) HS0.out ?_
    try simp only [Act.put, List.setIfInBounds_toArray, List.set_cons_succ, List.set_cons_zero]
    refine takeH 10 (some 174) (.bool true) rfl rfl (by kernel_rfl) (by kernel_rfl) (by kernel_rfl) (fun _ _ _ h => h) rfl (fun wq hS => by go_simp) HS0.out ?_
    try simp only [Act.put, List.setIfInBounds_toArray, List.set_cons_succ, List.set_cons_zero]
    refine takeH 11 (some 175) (.bool true) rfl rfl (by kernel_rfl) (by kernel_rfl) (by kernel_rfl) (fun _ _ _ h => h) rfl (fun wq hS => by go_simp) HS0.out ?_
    try simp only [Act.put, List.setIfInBounds_toArray, List.set_cons_succ, List.set_cons_zero]
    refine takeH 12 (some 176) (.pointer (some ⟨nb0, 1, none⟩)) rfl rfl (by kernel_rfl) (by kernel_rfl) (by kernel_rfl) (fun _ _ _ h => h) rfl (fun wq hS => by go_simp) HS0.out ?_
    try simp only [Act.put, List.setIfInBounds_toArray, List.set_cons_succ, List.set_cons_zero]
    refine takeH 13 (some 177) (.int .i64 k) rfl rfl (by kernel_rfl) (by kernel_rfl) (by kernel_rfl) (fun _ _ _ h => h) rfl (fun wq hS => by have q := (HNB.out.below hS HNB.out.lt).cell (i := 1) rfl; go_simp) HS0.out ?_
    try simp only [Act.put, List.setIfInBounds_toArray, List.set_cons_succ, List.set_cons_zero]
    refine takeH 14 (some 178) (.int .i64 k) rfl rfl (by kernel_rfl) (by kernel_rfl) (by kernel_rfl) (fun _ _ _ h => h) rfl (fun wq hS => by go_simp) HS0.out ?_
    try simp only [Act.put, List.setIfInBounds_toArray, List.set_cons_succ, List.set_cons_zero]
    refine takeH 15 (some 179) (.bool true) rfl rfl (by kernel_rfl) (by kernel_rfl) (by kernel_rfl) (fun _ _ _ h => h) rfl (fun wq hS => by go_simp) HS0.out ?_
    try simp only [Act.put, List.setIfInBounds_toArray, List.set_cons_succ, List.set_cons_zero]
    refine takeH 16 (some 180) (.bool true) rfl rfl (by kernel_rfl) (by kernel_rfl) (by kernel_rfl) (fun _ _ _ h => h) rfl (fun wq hS => by go_simp) HS0.out ?_
    try simp only [Act.put, List.setIfInBounds_toArray, List.set_cons_succ, List.set_cons_zero]
    refine takeH 17 (some 181) (.bool true) rfl rfl (by kernel_rfl) (by kernel_rfl) (by kernel_rfl) (fun _ _ _ h => h) rfl (fun wq hS => by go_simp) HS0.out ?_
    try simp only [Act.put, List.setIfInBounds_toArray, List.set_cons_succ, List.set_cons_zero]
    refine takeH 18 (some 182) (.pointer (some ⟨nb0, 3, none⟩)) rfl rfl (by kernel_rfl) (by kernel_rfl) (by kernel_rfl) (fun _ _ _ h => h) rfl (fun wq hS => by go_simp) HS0.out ?_
    try simp only [Act.put, List.setIfInBounds_toArray, List.set_cons_succ, List.set_cons_zero]
    refine takeH 19 (some 183) (.slice ta tn tc) rfl rfl (by kernel_rfl) (by kernel_rfl) (by kernel_rfl) (fun _ _ _ h => h) rfl (fun wq hS => by have q := (HNB.out.below hS HNB.out.lt).cell (i := 3) rfl; go_simp) HS0.out ?_
    try simp only [Act.put, List.setIfInBounds_toArray, List.set_cons_succ, List.set_cons_zero]
    refine takeH 20 (some 184) (.pointer (some ⟨xb, 3, none⟩)) rfl rfl (by kernel_rfl) (by kernel_rfl) (by kernel_rfl) (fun _ _ _ h => h) rfl (fun wq hS => by go_simp) HS0.out ?_
    try simp only [Act.put, List.setIfInBounds_toArray, List.set_cons_succ, List.set_cons_zero]
    refine takeH 21 (some 185) (.slice (some ⟨qb, qo, none⟩) n fc) rfl rfl (by kernel_rfl) (by kernel_rfl) (by kernel_rfl) (fun _ _ _ h => h) rfl (fun wq hS => by have q := (HXA.out.below hS HXA.out.lt).cell (i := 3) rfl; go_simp) HS0.out ?_
    try simp only [Act.put, List.setIfInBounds_toArray, List.set_cons_succ, List.set_cons_zero]
    refine takeH 22 (some 186) (.slice (cutA (some ⟨qb, qo, none⟩) 1 fc 1) (n - 1) (fc - 1)) rfl rfl (by kernel_rfl) (by kernel_rfl) (by kernel_rfl) (fun _ _ _ h => h) rfl (fun wq hS => exec_from25 wq _ _ _ _ rfl (some ⟨qb, qo, none⟩) n fc 1 rfl rfl (by have := HNR.out; omega)) HS0.out ?_
    try simp only [Act.put, List.setIfInBounds_toArray, List.set_cons_succ, List.set_cons_zero]
    refine oneH 23 (by kernel_rfl) rfl rfl fun K hK => ?_
    go_simp
    refine (ints_any r r (by have := HNR.out; have := HN60.out; omega) (by have := HNR.out; have := HN60.out; omega) _ _ _ (HTA.out.below HS0.out) (HTL.out _ HS0.out)).mono ?_
    rintro e u1 ⟨rfl, hb⟩
    rw [decide_eq_true (rfl : r = r)]
    have HS1 := Lib.hid (stay HS0.out hb)
    refine hK _ _ HS1.out ?_
    clear hK K hb
    try simp only [Act.put, List.setIfInBounds_toArray, List.set_cons_succ, List.set_cons_zero]
    refine takeH 24 (some 188) (.bool true) rfl rfl (by kernel_rfl) (by kernel_rfl) (by kernel_rfl) (fun _ _ _ h => h) rfl (fun wq hS => by go_simp) HS1.out ?_
    try simp only [Act.put, List.setIfInBounds_toArray, List.set_cons_succ, List.set_cons_zero]
    refine takeH 25 (some 189) (.bool true) rfl rfl (by kernel_rfl) (by kernel_rfl) (by kernel_rfl) (fun _ _ _ h => h) rfl (fun wq hS => by go_simp) HS1.out ?_
    try simp only [Act.put, List.setIfInBounds_toArray, List.set_cons_succ, List.set_cons_zero]
    refine takeH 26 (some 190) (.pointer (some ⟨nb0, 2, none⟩)) rfl rfl (by kernel_rfl) (by kernel_rfl) (by kernel_rfl) (fun _ _ _ h => h) rfl (fun wq hS => by go_simp) HS1.out ?_
    try simp only [Act.put, List.setIfInBounds_toArray, List.set_cons_succ, List.set_cons_zero]
    refine takeH 27 (some 191) (.int .u32 ((a.seq + partsN L) % M32)) rfl rfl (by kernel_rfl) (by kernel_rfl) (by kernel_rfl) (fun _ _ _ h => h) rfl (fun wq hS => by have q := (HNB.out.below hS HNB.out.lt).cell (i := 2) rfl; go_simp) HS1.out ?_
    try simp only [Act.put, List.setIfInBounds_toArray, List.set_cons_succ, List.set_cons_zero]
    refine takeH 28 (some 192) (.pointer (some ⟨xb, 2, none⟩)) rfl rfl (by kernel_rfl) (by kernel_rfl) (by kernel_rfl) (fun _ _ _ h => h) rfl (fun wq hS => by go_simp) HS1.out ?_
    try simp only [Act.put, List.setIfInBounds_toArray, List.set_cons_succ, List.set_cons_zero]
    refine takeH 29 (some 193) (.int .u32 a.seq) rfl rfl (by kernel_rfl) (by kernel_rfl) (by kernel_rfl) (fun _ _ _ h => h) rfl (fun wq hS => by have q := (HXA.out.below hS HXA.out.lt).cell (i := 2) rfl; go_simp) HS1.out ?_
    try simp only [Act.put, List.setIfInBounds_toArray, List.set_cons_succ, List.set_cons_zero]
    refine takeH 30 (some 194) (.slice ia m ic) rfl rfl (by kernel_rfl) (by kernel_rfl) (by kernel_rfl) (fun _ _ _ h => h) rfl (fun wq hS => by go_simp) HS1.out ?_
    try simp only [Act.put, List.setIfInBounds_toArray, List.set_cons_succ, List.set_cons_zero]
    refine oneH 31 (by kernel_rfl) rfl rfl fun K hK => ?_
    go_simp
    refine (rparts_of l L HLL.out (.slice ia m ic) (fun w h => by rw [← HLL.out]; exact rgoodG_any l m HM.out _ (by have := HFL.out trivial; omega) w h) _ (HI3.out.below (stay HJA.out.bel HS1.out))).mono ?_
    rintro e u2 ⟨rfl, hb⟩
    have HS2 := Lib.hid (stay HS1.out hb)
    refine hK _ _ HS2.out ?_
    clear hK K hb
    try simp only [Act.put, List.setIfInBounds_toArray, List.set_cons_succ, List.set_cons_zero]
    refine takeH 32 (some 196) (.int .u32 (partsN L)) rfl rfl (by kernel_rfl) (by kernel_rfl) (by kernel_rfl) (fun _ _ _ h => h) rfl (fun wq hS => by have z := gp3.out; go_simp) HS2.out ?_
    try simp only [Act.put, List.setIfInBounds_toArray, List.set_cons_succ, List.set_cons_zero]
    refine takeH 33 (some 197) (.int .u32 ((a.seq + partsN L) % M32)) rfl rfl (by kernel_rfl) (by kernel_rfl) (by kernel_rfl) (fun _ _ _ h => h) rfl (fun wq hS => by have z := gp4.out; go_simp) HS2.out ?_
    try simp only [Act.put, List.setIfInBounds_toArray, List.set_cons_succ, List.set_cons_zero]
    refine takeH 34 (some 198) (.bool true) rfl rfl (by kernel_rfl) (by kernel_rfl) (by kernel_rfl) (fun _ _ _ h => h) rfl (fun wq hS => by go_simp) HS2.out ?_
    try simp only [Act.put, List.setIfInBounds_toArray, List.set_cons_succ, List.set_cons_zero]
    refine takeH 35 (some 199) (.bool true) rfl rfl (by kernel_rfl) (by kernel_rfl) (by kernel_rfl) (fun _ _ _ h => h) rfl (fun wq hS => by go_simp) HS2.out ?_
    try simp only [Act.put, List.setIfInBounds_toArray, List.set_cons_succ, List.set_cons_zero]
    refine takeH 36 (some 200) (.bool true) rfl rfl (by kernel_rfl) (by kernel_rfl) (by kernel_rfl) (fun _ _ _ h => h) rfl (fun wq hS => by go_simp) HS2.out ?_
    try simp only [Act.put, List.setIfInBounds_toArray, List.set_cons_succ, List.set_cons_zero]
    refine oneH 37 (by kernel_rfl) rfl rfl fun K hK => ?_
    go_simp
    refine (wakes_any (Vars.below (Nat.le_refl _) HS2.out HVA.out)).mono ?_
    rintro e u4 ⟨rfl, hb⟩
    have HS3 := Lib.hid (stay HS2.out hb)
    refine hK _ _ HS3.out ?_
    clear hK K hb
    try simp only [Act.put, List.setIfInBounds_toArray, List.set_cons_succ, List.set_cons_zero]
    refine takeH 38 (some 202) (.bool true) rfl rfl (by kernel_rfl) (by kernel_rfl) (by kernel_rfl) (fun _ _ _ h => h) rfl (fun wq hS => by go_simp) HS3.out ?_
    try simp only [Act.put, List.setIfInBounds_toArray, List.set_cons_succ, List.set_cons_zero]
    refine takeH 39 (some 6) (.bool true) rfl rfl (by kernel_rfl) (by kernel_rfl) (by kernel_rfl) (fun _ _ _ h => h) rfl (fun wq hS => by go_simp) HS3.out ?_
    try simp only [Act.put, List.setIfInBounds_toArray, List.set_cons_succ, List.set_cons_zero]
    refine wpAnyH_done (by kernel_rfl) ?_ _
    have HBZ := Lib.hid (stay HBA.out HS3.out)
    go_wp2_with fail
    go_ret
    exact ⟨rfl, HBZ.out⟩
end

end Go.Proofs.YtmlniannilnmhaaGreatDoor
