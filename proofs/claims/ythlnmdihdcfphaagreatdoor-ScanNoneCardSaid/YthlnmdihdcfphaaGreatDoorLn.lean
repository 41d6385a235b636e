/- The statement ScanNone, walked. -/
import Derived.Test.YthlnmdihdcfphaaGreatDoorSw
namespace Go.Proofs.YthlnmdihdcfphaaGreatDoor
set_option linter.unusedSimpArgs false
set_option linter.unusedVariables false
open Go.RowKit

section
variable {w : World}
theorem fits_few (a : Ja) {n : Nat} (h : n < 196) : fits WG a n = false := by
  unfold fits
  rw [show decide (4 + WG.s * WG.l ≤ (n : Int)) = false from decide_eq_false (by show ¬ (4 + 8 * 24 : Int) ≤ n; omega)]
  simp
set_option maxRecDepth 100000 in
set_option maxHeartbeats 4000000 in
theorem snone_any (hv : Vars w) (a : Ja) (fv : Value) (na : a.free.length ≤ 9223372036854775807) (ha : IntsAt w fv a.free) : Calls Tryz.prog 4 #[.agg #[.int .i64 a.seg, .int .i64 a.off, .int .u32 a.seq, fv]] w fun e w' => e = .returned (.bool true) ∧ Below w.heap.size w w' := by
  have HV := Lib.hid hv
  have HRN : Hid (∀ w', Below w.heap.size w w' → Calls Tryz.prog 16 #[.pointer none, WG.v, .agg #[.int .i64 a.seg, .int .i64 a.off, .int .u32 a.seq, fv]] w' fun e w'' => e = .returned (.tuple #[.slice none 0 0, .agg #[.int .i64 0, .int .i64 0, .int .u32 0, .slice none 0 0], .int .i64 1]) ∧ Below w'.heap.size w' w'') := Lib.hid fun w' hb => sread_no none 0 (by decide) WG a fv na (fits_few a (by decide)) (hv.below (Nat.le_refl _) hb) (ha.below hb) (fun w2 _ => De.len_nil w2)
  have HRD0 : Hid (∀ (b : Nat) F wd, De.Dv w wd b F (De.newD 5) → ∀ w', Below wd.heap.size wd w' → Below w.heap.size w w' → Calls Tryz.prog 16 #[.pointer (some ⟨b, 0, none⟩), WG.v, .agg #[.int .i64 a.seg, .int .i64 a.off, .int .u32 a.seq, fv]] w' fun e w'' => e = .returned (.tuple #[.slice none 0 0, .agg #[.int .i64 0, .int .i64 0, .int .u32 0, .slice none 0 0], .int .i64 1]) ∧ Below w'.heap.size w' w'') := Lib.hid fun b F wd hd w' hb hb2 => sread_no (some ⟨b, 0, none⟩) 5 (by decide) WG a fv na (fits_few a (by decide)) (hv.below (Nat.le_refl _) hb2) (ha.below hb2) (fun w2 h2 => by
    have := De.dv_len ((hd.below hb).below h2)
    rw [newD_len] at this
    exact this)
  have HWK : Hid (∀ w', Below w.heap.size w w' → Calls Tryz.prog 8 #[] w' fun e w'' => e = .returned (.bool true) ∧ Below w'.heap.size w' w'') := Lib.hid fun w' hb => wakes_any (hv.below (Nat.le_refl _) hb)
  obtain ⟨fa, fc, hfv⟩ := ha.form
  obtain ⟨m, hm⟩ : ∃ m, a.free.length = m := ⟨_, rfl⟩
  rw [hm] at hfv
  subst hfv
  clear hv na ha hm
  go_enter Tryz.func4, Tryz.ntmps4
  go_upto_region 0 with fail
  refine wp_region_lit ?_
  refine box_g (cs := #[.int .i64 a.seg, .int .i64 a.off, .int .u32 a.seq, .slice fa m fc]) rfl rfl ?_
  intro w1 hA hb1 hl1
  try simp only [Act.put, List.setIfInBounds_toArray, List.set_cons_succ, List.set_cons_zero]
  have HA := Lib.hid hA
  have HB1 := Lib.hid hb1
  clear hA hb1 hl1
  refine takeL (.bool false) rfl (by go_simp) ?_
  try simp only [Act.put, List.setIfInBounds_toArray, List.set_cons_succ, List.set_cons_zero]
  refine wpList_nil ?_
  have q3 := HA.out.cell (i := 3) rfl
  by_cases h60 : 60 < m
  · have g1 : decide ((60 : Int) < (m : Int)) = true := decide_eq_true (by omega)
    go_wp2_with fail
    refine (HWK.out _ HB1.out).mono ?_
    rintro e w2 ⟨rfl, hb⟩
    have HB2 := Lib.hid (stay HB1.out hb)
    clear hb
    go_wp2_with fail
    go_ret
    exact ⟨rfl, HB2.out⟩
  have g1 : decide ((60 : Int) < (m : Int)) = false := decide_eq_false (by omega)
  clear h60
  go_upto_region 3 with fail
  clear q3 g1
  go_cut [4, 3, 5] from 16 to 23 (fun s4 s3 s5 wx => ∃ kB, s4 = .pointer (some ⟨kB, 0, none⟩) ∧ s3 = .slice none 0 0 ∧ s5 = .int .i64 1 ∧ Blk wx kB [.int .i64 0, .int .i64 0, .int .u32 0, .slice none 0 0] ∧ Below w1.heap.size w1 wx)
  case first =>
    refine startH (fun wq => Below w1.heap.size w1 wq) (by kernel_rfl) ?_
    have HSd : Hid (Below w1.heap.size w1 w1.drew) := Lib.hid (Below.refl _ _).drew
    generalize w1.drew = wS at *
    refine takeH 1 (some 18) (.agg #[.int .i64 a.seg, .int .i64 a.off, .int .u32 a.seq, .slice fa m fc]) rfl rfl (by kernel_rfl) (by kernel_rfl) (by kernel_rfl) (fun _ _ _ h => h) rfl (fun wq hS => by have q := (HA.out.below hS HA.out.lt); have q0 := q.cell (i := 0) rfl; have q1 := q.cell (i := 1) rfl; have q2 := q.cell (i := 2) rfl; have q3 := q.cell (i := 3) rfl; go_simp) HSd.out ?_
    try simp only [Act.put, List.setIfInBounds_toArray, List.set_cons_succ, List.set_cons_zero]
    refine twoH 0 7 (by kernel_rfl) rfl rfl rfl rfl (fun K hK => ?_) (fun K hK => ?_)
    · go_simp
      refine (Pl.small_any wS).mono ?_
      rintro e v1 ⟨rfl, hb⟩
      have Sv1 := Lib.hid (stay HSd.out hb)
      refine hK _ _ Sv1.out ?_
      clear hK K hb
      try simp only [Act.put, List.setIfInBounds_toArray, List.set_cons_succ, List.set_cons_zero]
      refine twoH 2 7 (by kernel_rfl) rfl rfl rfl rfl (fun K hK => ?_) (fun K hK => ?_)
      · go_simp
        refine (HRN.out v1 (stay HB1.out Sv1.out)).mono ?_
        rintro e v2 ⟨rfl, hb⟩
        have Sv2 := Lib.hid (stay Sv1.out hb)
        refine hK _ _ Sv2.out ?_
        clear hK K hb
        try simp only [Act.put, List.setIfInBounds_toArray, List.set_cons_succ, List.set_cons_zero]
        refine takeH 3 (some 16) (.tuple #[.slice none 0 0, .agg #[.int .i64 0, .int .i64 0, .int .u32 0, .slice none 0 0], .int .i64 1]) rfl rfl (by kernel_rfl) (by kernel_rfl) (by kernel_rfl) (fun _ _ _ h => h) rfl (fun wq hS => by go_simp) Sv2.out ?_
        try simp only [Act.put, List.setIfInBounds_toArray, List.set_cons_succ, List.set_cons_zero]
        refine takeH 4 (some 20) (.slice none 0 0) rfl rfl (by kernel_rfl) (by kernel_rfl) (by kernel_rfl) (fun _ _ _ h => h) rfl (fun wq hS => by go_simp) Sv2.out ?_
        try simp only [Act.put, List.setIfInBounds_toArray, List.set_cons_succ, List.set_cons_zero]
        refine takeH 5 (some 21) (.agg #[.int .i64 0, .int .i64 0, .int .u32 0, .slice none 0 0]) rfl rfl (by kernel_rfl) (by kernel_rfl) (by kernel_rfl) (fun _ _ _ h => h) rfl (fun wq hS => by go_simp) Sv2.out ?_
        try simp only [Act.put, List.setIfInBounds_toArray, List.set_cons_succ, List.set_cons_zero]
        refine takeH 6 (some 22) (.int .i64 1) rfl rfl (by kernel_rfl) (by kernel_rfl) (by kernel_rfl) (fun _ _ _ h => h) rfl (fun wq hS => by go_simp) Sv2.out ?_
        try simp only [Act.put, List.setIfInBounds_toArray, List.set_cons_succ, List.set_cons_zero]
        refine oneH 7 (by kernel_rfl) rfl rfl fun K hK => ?_
        refine wp_runTo (some 4) rfl _ _ (exec_alloc _ _ _ 40 rfl _ zero40) ?_
        have hb := alloc_bel v2 (.cells #[.int .i64 0, .int .i64 0, .int .u32 0, .slice none 0 0] 40)
        have Kv3 := Lib.hid (Blk.new v2 #[.int .i64 0, .int .i64 0, .int .u32 0, .slice none 0 0] 40)
        have Sv3 := Lib.hid (stay Sv2.out hb)
        have KL : Hid (w1.heap.size ≤ v2.heap.size) := Lib.hid Sv2.out.size
        refine hK _ _ Sv3.out ?_
        clear hK K hb
        generalize v2.alloc (.cells #[.int .i64 0, .int .i64 0, .int .u32 0, .slice none 0 0] 40) = v3 at *
        generalize v2.heap.size = kB at *
        try simp only [Act.put, List.setIfInBounds_toArray, List.set_cons_succ, List.set_cons_zero]
        refine takeH 8 (some 3) (.slice none 0 0) rfl rfl (by kernel_rfl) (by kernel_rfl) (by kernel_rfl) (fun _ _ _ h => h) rfl (fun wq hS => by go_simp) Sv3.out ?_
        try simp only [Act.put, List.setIfInBounds_toArray, List.set_cons_succ, List.set_cons_zero]
        refine oneH 9 (by kernel_rfl) rfl rfl fun K hK => ?_
        refine wp_store_all 40 _ _ rfl kB #[.int .i64 0, .int .i64 0, .int .u32 0, .slice none 0 0] rfl rfl _ Kv3.out rfl info40 (at_one _ _ _ _ _ _) ?_
        intro wz hD hO
        have SZ : Hid (Below w1.heap.size w1 wz) := Lib.hid (Sv3.out.trans (hO.below Sv3.out.size fun k hk => by rw [hk]; exact KL.out))
        have HDZ := Lib.hid hD
        refine hK _ _ SZ.out ?_
        clear hK K hD hO
        try simp only [Act.put, List.setIfInBounds_toArray, List.set_cons_succ, List.set_cons_zero]
        refine takeH 10 (some 5) (.int .i64 1) rfl rfl (by kernel_rfl) (by kernel_rfl) (by kernel_rfl) (fun _ _ _ h => h) rfl (fun wq hS => by go_simp) SZ.out ?_
        try simp only [Act.put, List.setIfInBounds_toArray, List.set_cons_succ, List.set_cons_zero]
        refine wpAnyH_done (by kernel_rfl) ?_ _
        go_wp2_with fail
        go_meet
        exact ⟨kB, rfl, rfl, rfl, HDZ.out, SZ.out⟩
      · refine wp_runTo (some 4) rfl _ _ (exec_alloc _ _ _ 40 rfl _ zero40) ?_
        have hb := alloc_bel v1 (.cells #[.int .i64 0, .int .i64 0, .int .u32 0, .slice none 0 0] 40)
        have Kv4 := Lib.hid (Blk.new v1 #[.int .i64 0, .int .i64 0, .int .u32 0, .slice none 0 0] 40)
        have Sv4 := Lib.hid (stay Sv1.out hb)
        have KL : Hid (w1.heap.size ≤ v1.heap.size) := Lib.hid Sv1.out.size
        refine hK _ _ Sv4.out ?_
        clear hK K hb
        generalize v1.alloc (.cells #[.int .i64 0, .int .i64 0, .int .u32 0, .slice none 0 0] 40) = v4 at *
        generalize v1.heap.size = kB at *
        try simp only [Act.put, List.setIfInBounds_toArray, List.set_cons_succ, List.set_cons_zero]
        refine oneH 2 (by kernel_rfl) rfl rfl fun K hK => ?_
        go_simp
        refine (HRN.out v4 (stay HB1.out Sv4.out)).mono ?_
        rintro e v5 ⟨rfl, hb⟩
        have Sv5 := Lib.hid (stay Sv4.out hb)
        have Kv5 := Lib.hid (Kv4.out.below hb Kv4.out.lt)
        refine hK _ _ Sv5.out ?_
        clear hK K hb
        try simp only [Act.put, List.setIfInBounds_toArray, List.set_cons_succ, List.set_cons_zero]
        refine takeH 3 (some 16) (.tuple #[.slice none 0 0, .agg #[.int .i64 0, .int .i64 0, .int .u32 0, .slice none 0 0], .int .i64 1]) rfl rfl (by kernel_rfl) (by kernel_rfl) (by kernel_rfl) (fun _ _ _ h => h) rfl (fun wq hS => by go_simp) Sv5.out ?_
        try simp only [Act.put, List.setIfInBounds_toArray, List.set_cons_succ, List.set_cons_zero]
        refine takeH 4 (some 20) (.slice none 0 0) rfl rfl (by kernel_rfl) (by kernel_rfl) (by kernel_rfl) (fun _ _ _ h => h) rfl (fun wq hS => by go_simp) Sv5.out ?_
        try simp only [Act.put, List.setIfInBounds_toArray, List.set_cons_succ, List.set_cons_zero]
        refine takeH 5 (some 21) (.agg #[.int .i64 0, .int .i64 0, .int .u32 0, .slice none 0 0]) rfl rfl (by kernel_rfl) (by kernel_rfl) (by kernel_rfl) (fun _ _ _ h => h) rfl (fun wq hS => by go_simp) Sv5.out ?_
        try simp only [Act.put, List.setIfInBounds_toArray, List.set_cons_succ, List.set_cons_zero]
        refine takeH 6 (some 22) (.int .i64 1) rfl rfl (by kernel_rfl) (by kernel_rfl) (by kernel_rfl) (fun _ _ _ h => h) rfl (fun wq hS => by go_simp) Sv5.out ?_
        try simp only [Act.put, List.setIfInBounds_toArray, List.set_cons_succ, List.set_cons_zero]
        refine takeH 8 (some 3) (.slice none 0 0) rfl rfl (by kernel_rfl) (by kernel_rfl) (by kernel_rfl) (fun _ _ _ h => h) rfl (fun wq hS => by go_simp) Sv5.out ?_
        try simp only [Act.put, List.setIfInBounds_toArray, List.set_cons_succ, List.set_cons_zero]
        refine oneH 9 (by kernel_rfl) rfl rfl fun K hK => ?_
        refine wp_store_all 40 _ _ rfl kB #[.int .i64 0, .int .i64 0, .int .u32 0, .slice none 0 0] rfl rfl _ Kv5.out rfl info40 (at_one _ _ _ _ _ _) ?_
        intro wz hD hO
        have SZ : Hid (Below w1.heap.size w1 wz) := Lib.hid (Sv5.out.trans (hO.below Sv5.out.size fun k hk => by rw [hk]; exact KL.out))
        have HDZ := Lib.hid hD
        refine hK _ _ SZ.out ?_
        clear hK K hD hO
        try simp only [Act.put, List.setIfInBounds_toArray, List.set_cons_succ, List.set_cons_zero]
        refine takeH 10 (some 5) (.int .i64 1) rfl rfl (by kernel_rfl) (by kernel_rfl) (by kernel_rfl) (fun _ _ _ h => h) rfl (fun wq hS => by go_simp) SZ.out ?_
        try simp only [Act.put, List.setIfInBounds_toArray, List.set_cons_succ, List.set_cons_zero]
        refine wpAnyH_done (by kernel_rfl) ?_ _
        go_wp2_with fail
        go_meet
        exact ⟨kB, rfl, rfl, rfl, HDZ.out, SZ.out⟩
    · refine wp_runTo (some 4) rfl _ _ (exec_alloc _ _ _ 40 rfl _ zero40) ?_
      have hb := alloc_bel wS (.cells #[.int .i64 0, .int .i64 0, .int .u32 0, .slice none 0 0] 40)
      have Kv6 := Lib.hid (Blk.new wS #[.int .i64 0, .int .i64 0, .int .u32 0, .slice none 0 0] 40)
      have Sv6 := Lib.hid (stay HSd.out hb)
      have KL : Hid (w1.heap.size ≤ wS.heap.size) := Lib.hid HSd.out.size
      refine hK _ _ Sv6.out ?_
      clear hK K hb
      generalize wS.alloc (.cells #[.int .i64 0, .int .i64 0, .int .u32 0, .slice none 0 0] 40) = v6 at *
      generalize wS.heap.size = kB at *
      try simp only [Act.put, List.setIfInBounds_toArray, List.set_cons_succ, List.set_cons_zero]
      refine oneH 0 (by kernel_rfl) rfl rfl fun K hK => ?_
      go_simp
      refine (Pl.small_any v6).mono ?_
      rintro e v7 ⟨rfl, hb⟩
      have Sv7 := Lib.hid (stay Sv6.out hb)
      have Kv7 := Lib.hid (Kv6.out.below hb Kv6.out.lt)
      refine hK _ _ Sv7.out ?_
      clear hK K hb
      try simp only [Act.put, List.setIfInBounds_toArray, List.set_cons_succ, List.set_cons_zero]
      refine oneH 2 (by kernel_rfl) rfl rfl fun K hK => ?_
      go_simp
      refine (HRN.out v7 (stay HB1.out Sv7.out)).mono ?_
      rintro e v8 ⟨rfl, hb⟩
      have Sv8 := Lib.hid (stay Sv7.out hb)
      have Kv8 := Lib.hid (Kv7.out.below hb Kv7.out.lt)
      refine hK _ _ Sv8.out ?_
      clear hK K hb
      try simp only [Act.put, List.setIfInBounds_toArray, List.set_cons_succ, List.set_cons_zero]
      refine takeH 3 (some 16) (.tuple #[.slice none 0 0, .agg #[.int .i64 0, .int .i64 0, .int .u32 0, .slice none 0 0], .int .i64 1]) rfl rfl (by kernel_rfl) (by kernel_rfl) (by kernel_rfl) (fun _ _ _ h => h) rfl (fun wq hS => by go_simp) Sv8.out ?_
      try simp only [Act.put, List.setIfInBounds_toArray, List.set_cons_succ, List.set_cons_zero]
      refine takeH 4 (some 20) (.slice none 0 0) rfl rfl (by kernel_rfl) (by kernel_rfl) (by kernel_rfl) (fun _ _ _ h => h) rfl (fun wq hS => by go_simp) Sv8.out ?_
      try simp only [Act.put, List.setIfInBounds_toArray, List.set_cons_succ, List.set_cons_zero]
      refine takeH 5 (some 21) (.agg #[.int .i64 0, .int .i64 0, .int .u32 0, .slice none 0 0]) rfl rfl (by kernel_rfl) (by kernel_rfl) (by kernel_rfl) (fun _ _ _ h => h) rfl (fun wq hS => by go_simp) Sv8.out ?_
      try simp only [Act.put, List.setIfInBounds_toArray, List.set_cons_succ, List.set_cons_zero]
      refine takeH 6 (some 22) (.int .i64 1) rfl rfl (by kernel_rfl) (by kernel_rfl) (by kernel_rfl) (fun _ _ _ h => h) rfl (fun wq hS => by go_simp) Sv8.out ?_
      try simp only [Act.put, List.setIfInBounds_toArray, List.set_cons_succ, List.set_cons_zero]
      refine takeH 8 (some 3) (.slice none 0 0) rfl rfl (by kernel_rfl) (by kernel_rfl) (by kernel_rfl) (fun _ _ _ h => h) rfl (fun wq hS => by go_simp) Sv8.out ?_
      try simp only [Act.put, List.setIfInBounds_toArray, List.set_cons_succ, List.set_cons_zero]
      refine oneH 9 (by kernel_rfl) rfl rfl fun K hK => ?_
      refine wp_store_all 40 _ _ rfl kB #[.int .i64 0, .int .i64 0, .int .u32 0, .slice none 0 0] rfl rfl _ Kv8.out rfl info40 (at_one _ _ _ _ _ _) ?_
      intro wz hD hO
      have SZ : Hid (Below w1.heap.size w1 wz) := Lib.hid (Sv8.out.trans (hO.below Sv8.out.size fun k hk => by rw [hk]; exact KL.out))
      have HDZ := Lib.hid hD
      refine hK _ _ SZ.out ?_
      clear hK K hD hO
      try simp only [Act.put, List.setIfInBounds_toArray, List.set_cons_succ, List.set_cons_zero]
      refine takeH 10 (some 5) (.int .i64 1) rfl rfl (by kernel_rfl) (by kernel_rfl) (by kernel_rfl) (fun _ _ _ h => h) rfl (fun wq hS => by go_simp) SZ.out ?_
      try simp only [Act.put, List.setIfInBounds_toArray, List.set_cons_succ, List.set_cons_zero]
      refine wpAnyH_done (by kernel_rfl) ?_ _
      go_wp2_with fail
      go_meet
      exact ⟨kB, rfl, rfl, rfl, HDZ.out, SZ.out⟩
  case rest =>
  obtain ⟨kB, rfl, rfl, rfl, hk, hb⟩ := hcut
  have HK := Lib.hid hk
  have HA2 := Lib.hid (HA.out.below hb HA.out.lt)
  have HB2 := Lib.hid (stay HB1.out hb)
  clear hk hb HA HB1 HRN
  go_upto_region 4 with fail
  refine wp_region_lit ?_
  refine wpList_op rfl fun K hK => ?_
  go_simp
  refine (De.dv_new w _ HB2.out 5 (by decide)).mono ?_
  rintro e w3 ⟨b, F, rfl, hdv, hb, hF⟩
  have HRD : Hid (∀ w', Below w3.heap.size w3 w' → Below w.heap.size w w' → Calls Tryz.prog 16 #[.pointer (some ⟨b, 0, none⟩), WG.v, .agg #[.int .i64 a.seg, .int .i64 a.off, .int .u32 a.seq, .slice fa m fc]] w' fun e w'' => e = .returned (.tuple #[.slice none 0 0, .agg #[.int .i64 0, .int .i64 0, .int .u32 0, .slice none 0 0], .int .i64 1]) ∧ Below w'.heap.size w' w'') := Lib.hid fun w' h1 h2 => HRD0.out b F w3 hdv w' h1 h2
  have HA3 := Lib.hid (HA2.out.below hb HA2.out.lt)
  have HK3 := Lib.hid (HK.out.below hb HK.out.lt)
  have HB3 := Lib.hid (stay HB2.out hb)
  clear hdv hb hF HA2 HK HB2 HRD0
  refine hK _ _ ?_
  clear hK K
  try simp only [Act.put, List.setIfInBounds_toArray, List.set_cons_succ, List.set_cons_zero]
  refine takeL (.tuple #[.pointer (some ⟨b, 0, none⟩), .int .i64 0]) rfl (by go_simp) ?_
  try simp only [Act.put, List.setIfInBounds_toArray, List.set_cons_succ, List.set_cons_zero]
  refine takeL (.pointer (some ⟨b, 0, none⟩)) rfl (by go_simp) ?_
  try simp only [Act.put, List.setIfInBounds_toArray, List.set_cons_succ, List.set_cons_zero]
  refine takeL (.int .i64 0) rfl (by go_simp) ?_
  try simp only [Act.put, List.setIfInBounds_toArray, List.set_cons_succ, List.set_cons_zero]
  refine takeL (.pointer (some ⟨b, 0, none⟩)) rfl (by go_simp) ?_
  try simp only [Act.put, List.setIfInBounds_toArray, List.set_cons_succ, List.set_cons_zero]
  refine takeL (.int .i64 0) rfl (by go_simp) ?_
  try simp only [Act.put, List.setIfInBounds_toArray, List.set_cons_succ, List.set_cons_zero]
  refine wpList_nil ?_
  go_upto_region 5 with fail
  go_cut [9, 8, 10] from 27 to 35 (fun s4 s3 s5 wx => ∃ kB, s4 = .pointer (some ⟨kB, 0, none⟩) ∧ s3 = .slice none 0 0 ∧ s5 = .int .i64 1 ∧ Blk wx kB [.int .i64 0, .int .i64 0, .int .u32 0, .slice none 0 0] ∧ Below w3.heap.size w3 wx)
  case first =>
    refine startH (fun wq => Below w3.heap.size w3 wq) (by kernel_rfl) ?_
    have HSd : Hid (Below w3.heap.size w3 w3.drew) := Lib.hid (Below.refl _ _).drew
    generalize w3.drew = wS at *
    refine takeH 0 (some 28) (.pointer (some ⟨b, 0, none⟩)) rfl rfl (by kernel_rfl) (by kernel_rfl) (by kernel_rfl) (fun _ _ _ h => h) rfl (fun wq hS => by go_simp) HSd.out ?_
    try simp only [Act.put, List.setIfInBounds_toArray, List.set_cons_succ, List.set_cons_zero]
    refine takeH 2 (some 30) (.agg #[.int .i64 a.seg, .int .i64 a.off, .int .u32 a.seq, .slice fa m fc]) rfl rfl (by kernel_rfl) (by kernel_rfl) (by kernel_rfl) (fun _ _ _ h => h) rfl (fun wq hS => by have q := (HA3.out.below hS HA3.out.lt); have q0 := q.cell (i := 0) rfl; have q1 := q.cell (i := 1) rfl; have q2 := q.cell (i := 2) rfl; have q3 := q.cell (i := 3) rfl; go_simp) HSd.out ?_
    try simp only [Act.put, List.setIfInBounds_toArray, List.set_cons_succ, List.set_cons_zero]
    refine twoH 1 8 (by kernel_rfl) rfl rfl rfl rfl (fun K hK => ?_) (fun K hK => ?_)
    · go_simp
      refine (Pl.small_any wS).mono ?_
      rintro e u1 ⟨rfl, hb⟩
      have Su1 := Lib.hid (stay HSd.out hb)
      refine hK _ _ Su1.out ?_
      clear hK K hb
      try simp only [Act.put, List.setIfInBounds_toArray, List.set_cons_succ, List.set_cons_zero]
      refine twoH 3 8 (by kernel_rfl) rfl rfl rfl rfl (fun K hK => ?_) (fun K hK => ?_)
      · go_simp
        refine (HRD.out u1 Su1.out (stay HB3.out Su1.out)).mono ?_
        rintro e u2 ⟨rfl, hb⟩
        have Su2 := Lib.hid (stay Su1.out hb)
        refine hK _ _ Su2.out ?_
        clear hK K hb
        try simp only [Act.put, List.setIfInBounds_toArray, List.set_cons_succ, List.set_cons_zero]
        refine takeH 4 (some 27) (.tuple #[.slice none 0 0, .agg #[.int .i64 0, .int .i64 0, .int .u32 0, .slice none 0 0], .int .i64 1]) rfl rfl (by kernel_rfl) (by kernel_rfl) (by kernel_rfl) (fun _ _ _ h => h) rfl (fun wq hS => by go_simp) Su2.out ?_
        try simp only [Act.put, List.setIfInBounds_toArray, List.set_cons_succ, List.set_cons_zero]
        refine takeH 5 (some 32) (.slice none 0 0) rfl rfl (by kernel_rfl) (by kernel_rfl) (by kernel_rfl) (fun _ _ _ h => h) rfl (fun wq hS => by go_simp) Su2.out ?_
        try simp only [Act.put, List.setIfInBounds_toArray, List.set_cons_succ, List.set_cons_zero]
        refine takeH 6 (some 33) (.agg #[.int .i64 0, .int .i64 0, .int .u32 0, .slice none 0 0]) rfl rfl (by kernel_rfl) (by kernel_rfl) (by kernel_rfl) (fun _ _ _ h => h) rfl (fun wq hS => by go_simp) Su2.out ?_
        try simp only [Act.put, List.setIfInBounds_toArray, List.set_cons_succ, List.set_cons_zero]
        refine takeH 7 (some 34) (.int .i64 1) rfl rfl (by kernel_rfl) (by kernel_rfl) (by kernel_rfl) (fun _ _ _ h => h) rfl (fun wq hS => by go_simp) Su2.out ?_
        try simp only [Act.put, List.setIfInBounds_toArray, List.set_cons_succ, List.set_cons_zero]
        refine oneH 8 (by kernel_rfl) rfl rfl fun K hK => ?_
        refine wp_runTo (some 9) rfl _ _ (exec_alloc _ _ _ 40 rfl _ zero40) ?_
        have hb := alloc_bel u2 (.cells #[.int .i64 0, .int .i64 0, .int .u32 0, .slice none 0 0] 40)
        have Ku3 := Lib.hid (Blk.new u2 #[.int .i64 0, .int .i64 0, .int .u32 0, .slice none 0 0] 40)
        have Su3 := Lib.hid (stay Su2.out hb)
        have KL : Hid (w3.heap.size ≤ u2.heap.size) := Lib.hid Su2.out.size
        refine hK _ _ Su3.out ?_
        clear hK K hb
        generalize u2.alloc (.cells #[.int .i64 0, .int .i64 0, .int .u32 0, .slice none 0 0] 40) = u3 at *
        generalize u2.heap.size = kB at *
        try simp only [Act.put, List.setIfInBounds_toArray, List.set_cons_succ, List.set_cons_zero]
        refine takeH 9 (some 8) (.slice none 0 0) rfl rfl (by kernel_rfl) (by kernel_rfl) (by kernel_rfl) (fun _ _ _ h => h) rfl (fun wq hS => by go_simp) Su3.out ?_
        try simp only [Act.put, List.setIfInBounds_toArray, List.set_cons_succ, List.set_cons_zero]
        refine oneH 10 (by kernel_rfl) rfl rfl fun K hK => ?_
        refine wp_store_all 40 _ _ rfl kB #[.int .i64 0, .int .i64 0, .int .u32 0, .slice none 0 0] rfl rfl _ Ku3.out rfl info40 (at_one _ _ _ _ _ _) ?_
        intro wz hD hO
        have SZ : Hid (Below w3.heap.size w3 wz) := Lib.hid (Su3.out.trans (hO.below Su3.out.size fun k hk => by rw [hk]; exact KL.out))
        have HDZ := Lib.hid hD
        refine hK _ _ SZ.out ?_
        clear hK K hD hO
        try simp only [Act.put, List.setIfInBounds_toArray, List.set_cons_succ, List.set_cons_zero]
        refine takeH 11 (some 10) (.int .i64 1) rfl rfl (by kernel_rfl) (by kernel_rfl) (by kernel_rfl) (fun _ _ _ h => h) rfl (fun wq hS => by go_simp) SZ.out ?_
        try simp only [Act.put, List.setIfInBounds_toArray, List.set_cons_succ, List.set_cons_zero]
        refine wpAnyH_done (by kernel_rfl) ?_ _
        go_wp2_with fail
        go_meet
        exact ⟨kB, rfl, rfl, rfl, HDZ.out, SZ.out⟩
      · refine wp_runTo (some 9) rfl _ _ (exec_alloc _ _ _ 40 rfl _ zero40) ?_
        have hb := alloc_bel u1 (.cells #[.int .i64 0, .int .i64 0, .int .u32 0, .slice none 0 0] 40)
        have Ku4 := Lib.hid (Blk.new u1 #[.int .i64 0, .int .i64 0, .int .u32 0, .slice none 0 0] 40)
        have Su4 := Lib.hid (stay Su1.out hb)
        have KL : Hid (w3.heap.size ≤ u1.heap.size) := Lib.hid Su1.out.size
        refine hK _ _ Su4.out ?_
        clear hK K hb
        generalize u1.alloc (.cells #[.int .i64 0, .int .i64 0, .int .u32 0, .slice none 0 0] 40) = u4 at *
        generalize u1.heap.size = kB at *
        try simp only [Act.put, List.setIfInBounds_toArray, List.set_cons_succ, List.set_cons_zero]
        refine oneH 3 (by kernel_rfl) rfl rfl fun K hK => ?_
        go_simp
        refine (HRD.out u4 Su4.out (stay HB3.out Su4.out)).mono ?_
        rintro e u5 ⟨rfl, hb⟩
        have Su5 := Lib.hid (stay Su4.out hb)
        have Ku5 := Lib.hid (Ku4.out.below hb Ku4.out.lt)
        refine hK _ _ Su5.out ?_
        clear hK K hb
        try simp only [Act.put, List.setIfInBounds_toArray, List.set_cons_succ, List.set_cons_zero]
        refine takeH 4 (some 27) (.tuple #[.slice none 0 0, .agg #[.int .i64 0, .int .i64 0, .int .u32 0, .slice none 0 0], .int .i64 1]) rfl rfl (by kernel_rfl) (by kernel_rfl) (by kernel_rfl) (fun _ _ _ h => h) rfl (fun wq hS => by go_simp) Su5.out ?_
        try simp only [Act.put, List.setIfInBounds_toArray, List.set_cons_succ, List.set_cons_zero]
        refine takeH 5 (some 32) (.slice none 0 0) rfl rfl (by kernel_rfl) (by kernel_rfl) (by kernel_rfl) (fun _ _ _ h => h) rfl (fun wq hS => by go_simp) Su5.out ?_
        try simp only [Act.put, List.setIfInBounds_toArray, List.set_cons_succ, List.set_cons_zero]
        refine takeH 6 (some 33) (.agg #[.int .i64 0, .int .i64 0, .int .u32 0, .slice none 0 0]) rfl rfl (by kernel_rfl) (by kernel_rfl) (by kernel_rfl) (fun _ _ _ h => h) rfl (fun wq hS => by go_simp) Su5.out ?_
        try simp only [Act.put, List.setIfInBounds_toArray, List.set_cons_succ, List.set_cons_zero]
        refine takeH 7 (some 34) (.int .i64 1) rfl rfl (by kernel_rfl) (by kernel_rfl) (by kernel_rfl) (fun _ _ _ h => h) rfl (fun wq hS => by go_simp) Su5.out ?_
        try simp only [Act.put, List.setIfInBounds_toArray, List.set_cons_succ, List.set_cons_zero]
        refine takeH 9 (some 8) (.slice none 0 0) rfl rfl (by kernel_rfl) (by kernel_rfl) (by kernel_rfl) (fun _ _ _ h => h) rfl (fun wq hS => by go_simp) Su5.out ?_
        try simp only [Act.put, List.setIfInBounds_toArray, List.set_cons_succ, List.set_cons_zero]
        refine oneH 10 (by kernel_rfl) rfl rfl fun K hK => ?_
        refine wp_store_all 40 _ _ rfl kB #[.int .i64 0, .int .i64 0, .int .u32 0, .slice none 0 0] rfl rfl _ Ku5.out rfl info40 (at_one _ _ _ _ _ _) ?_
        intro wz hD hO
        have SZ : Hid (Below w3.heap.size w3 wz) := Lib.hid (Su5.out.trans (hO.below Su5.out.size fun k hk => by rw [hk]; exact KL.out))
        have HDZ := Lib.hid hD
        refine hK _ _ SZ.out ?_
        clear hK K hD hO
        try simp only [Act.put, List.setIfInBounds_toArray, List.set_cons_succ, List.set_cons_zero]
        refine takeH 11 (some 10) (.int .i64 1) rfl rfl (by kernel_rfl) (by kernel_rfl) (by kernel_rfl) (fun _ _ _ h => h) rfl (fun wq hS => by go_simp) SZ.out ?_
        try simp only [Act.put, List.setIfInBounds_toArray, List.set_cons_succ, List.set_cons_zero]
        refine wpAnyH_done (by kernel_rfl) ?_ _
        go_wp2_with fail
        go_meet
        exact ⟨kB, rfl, rfl, rfl, HDZ.out, SZ.out⟩
    · refine wp_runTo (some 9) rfl _ _ (exec_alloc _ _ _ 40 rfl _ zero40) ?_
      have hb := alloc_bel wS (.cells #[.int .i64 0, .int .i64 0, .int .u32 0, .slice none 0 0] 40)
      have Ku6 := Lib.hid (Blk.new wS #[.int .i64 0, .int .i64 0, .int .u32 0, .slice none 0 0] 40)
      have Su6 := Lib.hid (stay HSd.out hb)
      have KL : Hid (w3.heap.size ≤ wS.heap.size) := Lib.hid HSd.out.size
      refine hK _ _ Su6.out ?_
      clear hK K hb
      generalize wS.alloc (.cells #[.int .i64 0, .int .i64 0, .int .u32 0, .slice none 0 0] 40) = u6 at *
      generalize wS.heap.size = kB at *
      try simp only [Act.put, List.setIfInBounds_toArray, List.set_cons_succ, List.set_cons_zero]
      refine oneH 1 (by kernel_rfl) rfl rfl fun K hK => ?_
      go_simp
      refine (Pl.small_any u6).mono ?_
      rintro e u7 ⟨rfl, hb⟩
      have Su7 := Lib.hid (stay Su6.out hb)
      have Ku7 := Lib.hid (Ku6.out.below hb Ku6.out.lt)
      refine hK _ _ Su7.out ?_
      clear hK K hb
      try simp only [Act.put, List.setIfInBounds_toArray, List.set_cons_succ, List.set_cons_zero]
      refine oneH 3 (by kernel_rfl) rfl rfl fun K hK => ?_
      go_simp
      refine (HRD.out u7 Su7.out (stay HB3.out Su7.out)).mono ?_
      rintro e u8 ⟨rfl, hb⟩
      have Su8 := Lib.hid (stay Su7.out hb)
      have Ku8 := Lib.hid (Ku7.out.below hb Ku7.out.lt)
      refine hK _ _ Su8.out ?_
      clear hK K hb
      try simp only [Act.put, List.setIfInBounds_toArray, List.set_cons_succ, List.set_cons_zero]
      refine takeH 4 (some 27) (.tuple #[.slice none 0 0, .agg #[.int .i64 0, .int .i64 0, .int .u32 0, .slice none 0 0], .int .i64 1]) rfl rfl (by kernel_rfl) (by kernel_rfl) (by kernel_rfl) (fun _ _ _ h => h) rfl (fun wq hS => by go_simp) Su8.out ?_
      try simp only [Act.put, List.setIfInBounds_toArray, List.set_cons_succ, List.set_cons_zero]
      refine takeH 5 (some 32) (.slice none 0 0) rfl rfl (by kernel_rfl) (by kernel_rfl) (by kernel_rfl) (fun _ _ _ h => h) rfl (fun wq hS => by go_simp) Su8.out ?_
      try simp only [Act.put, List.setIfInBounds_toArray, List.set_cons_succ, List.set_cons_zero]
      refine takeH 6 (some 33) (.agg #[.int .i64 0, .int .i64 0, .int .u32 0, .slice none 0 0]) rfl rfl (by kernel_rfl) (by kernel_rfl) (by kernel_rfl) (fun _ _ _ h => h) rfl (fun wq hS => by go_simp) Su8.out ?_
      try simp only [Act.put, List.setIfInBounds_toArray, List.set_cons_succ, List.set_cons_zero]
      refine takeH 7 (some 34) (.int .i64 1) rfl rfl (by kernel_rfl) (by kernel_rfl) (by kernel_rfl) (fun _ _ _ h => h) rfl (fun wq hS => by go_simp) Su8.out ?_
      try simp only [Act.put, List.setIfInBounds_toArray, List.set_cons_succ, List.set_cons_zero]
      refine takeH 9 (some 8) (.slice none 0 0) rfl rfl (by kernel_rfl) (by kernel_rfl) (by kernel_rfl) (fun _ _ _ h => h) rfl (fun wq hS => by go_simp) Su8.out ?_
      try simp only [Act.put, List.setIfInBounds_toArray, List.set_cons_succ, List.set_cons_zero]
      refine oneH 10 (by kernel_rfl) rfl rfl fun K hK => ?_
      refine wp_store_all 40 _ _ rfl kB #[.int .i64 0, .int .i64 0, .int .u32 0, .slice none 0 0] rfl rfl _ Ku8.out rfl info40 (at_one _ _ _ _ _ _) ?_
      intro wz hD hO
      have SZ : Hid (Below w3.heap.size w3 wz) := Lib.hid (Su8.out.trans (hO.below Su8.out.size fun k hk => by rw [hk]; exact KL.out))
      have HDZ := Lib.hid hD
      refine hK _ _ SZ.out ?_
      clear hK K hD hO
      try simp only [Act.put, List.setIfInBounds_toArray, List.set_cons_succ, List.set_cons_zero]
      refine takeH 11 (some 10) (.int .i64 1) rfl rfl (by kernel_rfl) (by kernel_rfl) (by kernel_rfl) (fun _ _ _ h => h) rfl (fun wq hS => by go_simp) SZ.out ?_
      try simp only [Act.put, List.setIfInBounds_toArray, List.set_cons_succ, List.set_cons_zero]
      refine wpAnyH_done (by kernel_rfl) ?_ _
      go_wp2_with fail
      go_meet
      exact ⟨kB, rfl, rfl, rfl, HDZ.out, SZ.out⟩
  case rest =>
  obtain ⟨kD, rfl, rfl, rfl, hk, hb⟩ := hcut
  have q1 := (HK3.out.below hb HK3.out.lt).cell (i := 2) rfl
  have q2 := hk.cell (i := 2) rfl
  have HB4 := Lib.hid (stay HB3.out hb)
  clear hk hb HA3 HK3 HB3
  go_wp2_with fail
  refine (HWK.out _ HB4.out).mono ?_
  rintro e w5 ⟨rfl, hb⟩
  have HB5 := Lib.hid (stay HB4.out hb)
  clear hb q1 q2
  go_wp2_with fail
  go_ret
  exact ⟨rfl, HB5.out⟩
end

end Go.Proofs.YthlnmdihdcfphaaGreatDoor
