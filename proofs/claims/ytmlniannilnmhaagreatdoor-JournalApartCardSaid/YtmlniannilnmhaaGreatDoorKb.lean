/- JournalNone's walk. -/
import Derived.Test.YtmlniannilnmhaaGreatDoorKa
namespace Go.Proofs.YtmlniannilnmhaaGreatDoor
set_option linter.unusedSimpArgs false
set_option linter.unusedVariables false
open Go.RowKit

section
variable {w : World}
set_option maxRecDepth 100000 in
set_option maxHeartbeats 2000000 in
theorem jnone_any (hv : Vars w) (l : List (It × Value)) (hlb : l.length ≤ 9223372036854775807) (sv : Value) (hi : ItemsAt w sv l) (a : Ja) (fv : Value) (hab : a.free.length ≤ 9223372036854775807) (hf : IntsAt w fv a.free) : Calls Tryz.prog 5 #[sv, .agg #[.int .i64 a.seg, .int .i64 a.off, .int .u32 a.seq, fv]] w fun e w' => e = .returned (.bool true) ∧ Below w.heap.size w w' := by
  have HV := Lib.hid hv
  have HI := Lib.hid hi
  have HF := Lib.hid hf
  have HFA := Lib.hid fun w h => fair_any l l.length rfl hlb sv w h
  obtain ⟨fr, hfr⟩ : ∃ x, fair (l.map (·.1)) = x := ⟨_, rfl⟩
  rw [hfr] at HFA
  have HN1 := Lib.hid fun w hv h => new_no none 0 (by decide) WG a fv hab (by unfold fits; rw [Bool.and_eq_false_iff]; exact .inr (by decide)) w hv h fun w' _ => De.len_nil w'
  have HN2 := Lib.hid fun b F (W w : World) (hd : De.Dv W w b F (De.newD 5)) hv h => new_no (some ⟨b, 0, none⟩) 5 (by decide) WG a fv hab (by unfold fits; rw [Bool.and_eq_false_iff]; exact .inr (by decide)) w hv h fun w' hb => by
    have := De.dv_len (hd.below hb)
    rw [newD_len] at this
    exact this
  obtain ⟨sa, sc, hsv⟩ := items_one hi
  obtain ⟨m, hm⟩ : ∃ m, l.length = m := ⟨_, rfl⟩
  rw [hm] at hsv
  subst hsv
  obtain ⟨fa, fc, hfv⟩ := hf.form
  obtain ⟨n, hn⟩ : ∃ n, a.free.length = n := ⟨_, rfl⟩
  rw [hn] at hfv hab
  subst hfv
  clear hv hi hf hlb hm hn hfr
  go_enter Tryz.func5, Tryz.ntmps5
  go_upto_region 0 with fail
  refine wp_region_lit ?_
  refine box_g rfl rfl ?_
  try simp only [Act.put, List.setIfInBounds_toArray, List.set_cons_succ, List.set_cons_zero]
  intro w1 hV hb hl
  try simp only [Act.put, List.setIfInBounds_toArray, List.set_cons_succ, List.set_cons_zero]
  have HB := Lib.hid hb
  have HA := Lib.hid hV
  have HL := Lib.hid hl
  have HV1 := Lib.hid (Vars.below (Nat.le_refl _) hb HV.out)
  have HI1 := Lib.hid (HI.out.below hb)
  have HF1 := Lib.hid (HF.out.below hb)
  clear hV hb hl
  refine takeL (.bool false) rfl (by go_simp) ?_
  try simp only [Act.put, List.setIfInBounds_toArray, List.set_cons_succ, List.set_cons_zero]
  refine wpList_nil ?_
  go_wp2_with fail
  refine (HFA.out _ HI1.out).mono ?_
  rintro e w2 ⟨rfl, rfl⟩
  have q0 := HA.out.cell (i := 0) rfl
  have q1 := HA.out.cell (i := 1) rfl
  have q2 := HA.out.cell (i := 2) rfl
  have q3 := HA.out.cell (i := 3) rfl
  cases fr
  · go_wp2_with fail
    refine (wakes_any HV1.out).mono ?_
    rintro e w3 ⟨rfl, hb⟩
    have HB3 := Lib.hid (stay HB.out hb)
    clear hb q0 q1 q2 q3
    go_wp2_with fail
    go_ret
    exact ⟨rfl, HB3.out⟩
  · by_cases h60 : 60 < n
    · have d60 : decide ((60 : Int) < (n : Int)) = true := decide_eq_true (by omega)
      go_wp2_with fail
      refine (wakes_any HV1.out).mono ?_
      rintro e w3 ⟨rfl, hb⟩
      have HB3 := Lib.hid (stay HB.out hb)
      clear hb q0 q1 q2 q3
      go_wp2_with fail
      go_ret
      exact ⟨rfl, HB3.out⟩
    · have d60 : decide ((60 : Int) < (n : Int)) = false := decide_eq_false (by omega)
      go_wp2_with fail
      refine (put_nil HV1.out _ l HI1.out).mono ?_
      rintro e w3 ⟨rfl, hb⟩
      have HB3 := Lib.hid (stay HB.out hb)
      have HA3 := Lib.hid (HA.out.below hb HA.out.lt)
      clear hb q0 q1 q2 q3
      have q3 := HA3.out.cell (i := 3) rfl
      go_wp2_with fail
      refine (setFree_nil _).mono ?_
      rintro e w4 ⟨rfl, rfl⟩
      go_wp2_with fail
      refine (setSeq_nil _).mono ?_
      rintro e w4 ⟨rfl, rfl⟩
      clear q3
      have HV3 := Lib.hid (Vars.below (Nat.le_refl _) HB3.out HV.out)
      go_upto_region 7 with fail
      refine startH (fun wq => Below w3.heap.size w3 wq) (by kernel_rfl) ?_
      have HS0 : Hid (Below w3.heap.size w3 w3.drew) := Lib.hid (Below.refl _ _).drew
      generalize w3.drew = u0 at *
      refine takeH 1 (some 38) (.agg #[.int .i64 a.seg, .int .i64 a.off, .int .u32 a.seq, .slice fa n fc]) rfl rfl (by kernel_rfl) (by kernel_rfl) (by kernel_rfl) (fun _ _ _ h => h) rfl (fun wq hS => by have q := HA3.out.below hS HA3.out.lt; have q0 := q.cell (i := 0) rfl; have q1 := q.cell (i := 1) rfl; have q2 := q.cell (i := 2) rfl; have q3 := q.cell (i := 3) rfl; go_simp) HS0.out ?_
      try simp only [Act.put, List.setIfInBounds_toArray, List.set_cons_succ, List.set_cons_zero]
      refine oneH 0 (by kernel_rfl) rfl rfl fun K hK => ?_
      go_simp
      refine (Pl.small_any _).mono ?_
      rintro e u1 ⟨rfl, hb⟩
      have HS1 := Lib.hid (stay HS0.out hb)
      refine hK _ _ HS1.out ?_
      clear hK K hb
      try simp only [Act.put, List.setIfInBounds_toArray, List.set_cons_succ, List.set_cons_zero]
      refine oneH 2 (by kernel_rfl) rfl rfl fun K hK => ?_
      go_simp
      refine (HN1.out _ (Vars.below (Nat.le_refl _) HS1.out HV3.out) (HF.out.below (stay HB3.out HS1.out))).mono ?_
      rintro e u2 ⟨rfl, hb⟩
      have HS2 := Lib.hid (stay HS1.out hb)
      refine hK _ _ HS2.out ?_
      clear hK K hb
      try simp only [Act.put, List.setIfInBounds_toArray, List.set_cons_succ, List.set_cons_zero]
      refine takeH 3 (some 36) (.tuple #[.pointer none, .int .i64 1]) rfl rfl (by kernel_rfl) (by kernel_rfl) (by kernel_rfl) (fun _ _ _ h => h) rfl (fun wq hS => by go_simp) HS2.out ?_
      try simp only [Act.put, List.setIfInBounds_toArray, List.set_cons_succ, List.set_cons_zero]
      refine takeH 4 (some 40) (.pointer none) rfl rfl (by kernel_rfl) (by kernel_rfl) (by kernel_rfl) (fun _ _ _ h => h) rfl (fun wq hS => by go_simp) HS2.out ?_
      try simp only [Act.put, List.setIfInBounds_toArray, List.set_cons_succ, List.set_cons_zero]
      refine takeH 6 (some 8) (.pointer none) rfl rfl (by kernel_rfl) (by kernel_rfl) (by kernel_rfl) (fun _ _ _ h => h) rfl (fun wq hS => by go_simp) HS2.out ?_
      try simp only [Act.put, List.setIfInBounds_toArray, List.set_cons_succ, List.set_cons_zero]
      refine takeH 5 (some 41) (.int .i64 1) rfl rfl (by kernel_rfl) (by kernel_rfl) (by kernel_rfl) (fun _ _ _ h => h) rfl (fun wq hS => by go_simp) HS2.out ?_
      try simp only [Act.put, List.setIfInBounds_toArray, List.set_cons_succ, List.set_cons_zero]
      refine takeH 7 (some 9) (.int .i64 1) rfl rfl (by kernel_rfl) (by kernel_rfl) (by kernel_rfl) (fun _ _ _ h => h) rfl (fun wq hS => by go_simp) HS2.out ?_
      try simp only [Act.put, List.setIfInBounds_toArray, List.set_cons_succ, List.set_cons_zero]
      refine wpAnyH_done (by kernel_rfl) ?_ _
      have HB4 := Lib.hid (stay HB3.out HS2.out)
      have HA4 := Lib.hid (HA3.out.below HS2.out HA3.out.lt)
      clear HB3 HA3 HS0 HS1 HS2 HV3
      go_upto_region 8 with fail
      refine wp_region_lit ?_
      refine wpList_op rfl fun K hK => ?_
      go_simp
      refine (De.dv_new w u2 HB4.out 5 (by decide)).mono ?_
      rintro e w5 ⟨b, F, rfl, hdv, hb, hF⟩
      have HB5 := Lib.hid (stay HB4.out hb)
      have HA5 := Lib.hid (HA4.out.below hb HA4.out.lt)
      have HD5 := Lib.hid hdv
      clear hdv hb hF HB4 HA4
      refine hK _ _ ?_
      clear hK K
      try simp only [Act.put, List.setIfInBounds_toArray, List.set_cons_succ, List.set_cons_zero]
      refine takeL (.tuple #[.pointer (some ⟨b, 0, none⟩), .int .i64 0]) rfl (by go_simp) ?_
      try simp only [Act.put, List.setIfInBounds_toArray, List.set_cons_succ, List.set_cons_zero]
      refine takeL (.pointer (some ⟨b, 0, none⟩)) rfl (by go_simp) ?_
      try simp only [Act.put, List.setIfInBounds_toArray, List.set_cons_succ, List.set_cons_zero]
      refine takeL (.int .i64 0) rfl (by go_simp) ?_
      try simp only [Act.put, List.setIfInBounds_toArray, List.set_cons_succ, List.set_cons_zero]
      refine takeL (.pointer (some ⟨b, 0, none⟩)) rfl (by go_simp) ?_
      try simp only [Act.put, List.setIfInBounds_toArray, List.set_cons_succ, List.set_cons_zero]
      refine takeL (.int .i64 0) rfl (by go_simp) ?_
      try simp only [Act.put, List.setIfInBounds_toArray, List.set_cons_succ, List.set_cons_zero]
      refine wpList_nil ?_
      go_upto_region 9 with fail
      refine startH (fun wq => Below w5.heap.size w5 wq) (by kernel_rfl) ?_
      have HS0 : Hid (Below w5.heap.size w5 w5.drew) := Lib.hid (Below.refl _ _).drew
      generalize w5.drew = u0 at *
      refine takeH 0 (some 47) (.pointer (some ⟨b, 0, none⟩)) rfl rfl (by kernel_rfl) (by kernel_rfl) (by kernel_rfl) (fun _ _ _ h => h) rfl (fun wq hS => by go_simp) HS0.out ?_
      try simp only [Act.put, List.setIfInBounds_toArray, List.set_cons_succ, List.set_cons_zero]
      refine takeH 2 (some 49) (.agg #[.int .i64 a.seg, .int .i64 a.off, .int .u32 a.seq, .slice fa n fc]) rfl rfl (by kernel_rfl) (by kernel_rfl) (by kernel_rfl) (fun _ _ _ h => h) rfl (fun wq hS => by have q := HA5.out.below hS HA5.out.lt; have q0 := q.cell (i := 0) rfl; have q1 := q.cell (i := 1) rfl; have q2 := q.cell (i := 2) rfl; have q3 := q.cell (i := 3) rfl; go_simp) HS0.out ?_
      try simp only [Act.put, List.setIfInBounds_toArray, List.set_cons_succ, List.set_cons_zero]
      refine oneH 1 (by kernel_rfl) rfl rfl fun K hK => ?_
      go_simp
      refine (Pl.small_any _).mono ?_
      rintro e u1 ⟨rfl, hb⟩
      have HS1 := Lib.hid (stay HS0.out hb)
      refine hK _ _ HS1.out ?_
      clear hK K hb
      try simp only [Act.put, List.setIfInBounds_toArray, List.set_cons_succ, List.set_cons_zero]
      refine oneH 3 (by kernel_rfl) rfl rfl fun K hK => ?_
      go_simp
      refine (HN2.out b F w _ (HD5.out.below HS1.out) (Vars.below (Nat.le_refl _) (stay HB5.out HS1.out) HV.out) (HF.out.below (stay HB5.out HS1.out))).mono ?_
      rintro e u2 ⟨rfl, hb⟩
      have HS2 := Lib.hid (stay HS1.out hb)
      refine hK _ _ HS2.out ?_
      clear hK K hb
      try simp only [Act.put, List.setIfInBounds_toArray, List.set_cons_succ, List.set_cons_zero]
      refine takeH 4 (some 46) (.tuple #[.pointer none, .int .i64 1]) rfl rfl (by kernel_rfl) (by kernel_rfl) (by kernel_rfl) (fun _ _ _ h => h) rfl (fun wq hS => by go_simp) HS2.out ?_
      try simp only [Act.put, List.setIfInBounds_toArray, List.set_cons_succ, List.set_cons_zero]
      refine takeH 5 (some 51) (.pointer none) rfl rfl (by kernel_rfl) (by kernel_rfl) (by kernel_rfl) (fun _ _ _ h => h) rfl (fun wq hS => by go_simp) HS2.out ?_
      try simp only [Act.put, List.setIfInBounds_toArray, List.set_cons_succ, List.set_cons_zero]
      refine takeH 7 (some 12) (.pointer none) rfl rfl (by kernel_rfl) (by kernel_rfl) (by kernel_rfl) (fun _ _ _ h => h) rfl (fun wq hS => by go_simp) HS2.out ?_
      try simp only [Act.put, List.setIfInBounds_toArray, List.set_cons_succ, List.set_cons_zero]
      refine takeH 6 (some 52) (.int .i64 1) rfl rfl (by kernel_rfl) (by kernel_rfl) (by kernel_rfl) (fun _ _ _ h => h) rfl (fun wq hS => by go_simp) HS2.out ?_
      try simp only [Act.put, List.setIfInBounds_toArray, List.set_cons_succ, List.set_cons_zero]
      refine takeH 8 (some 13) (.int .i64 1) rfl rfl (by kernel_rfl) (by kernel_rfl) (by kernel_rfl) (fun _ _ _ h => h) rfl (fun wq hS => by go_simp) HS2.out ?_
      try simp only [Act.put, List.setIfInBounds_toArray, List.set_cons_succ, List.set_cons_zero]
      refine wpAnyH_done (by kernel_rfl) ?_ _
      have HB6 := Lib.hid (stay HB5.out HS2.out)
      clear HB5 HA5 HS0 HS1 HS2
      have HSM := Lib.hid fun w => same_yes (w := w) ⟨0, 0, 0, []⟩ (.slice none 0 0) (.slice none 0 0) (by decide) (IntsAt.nil _ _ _) (IntsAt.nil _ _ _)
      go_wp2_with fail
      refine (at_nil _).mono ?_
      rintro e w7 ⟨rfl, hb⟩
      have HB7 := Lib.hid (stay HB6.out hb)
      clear hb
      go_wp2_with fail
      refine (HSM.out _).mono ?_
      rintro e w8 ⟨rfl, hb⟩
      have HB8 := Lib.hid (stay HB7.out hb)
      clear hb
      go_wp2_with fail
      refine (wakes_any (Vars.below (Nat.le_refl _) HB8.out HV.out)).mono ?_
      rintro e w9 ⟨rfl, hb⟩
      have HB9 := Lib.hid (stay HB8.out hb)
      clear hb
      go_wp2_with fail
      go_ret
      exact ⟨rfl, HB9.out⟩
end

end Go.Proofs.YtmlniannilnmhaaGreatDoor
