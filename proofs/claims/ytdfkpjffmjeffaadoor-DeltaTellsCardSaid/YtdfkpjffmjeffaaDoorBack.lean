/- The statement DeltaBack's walk: whatever the two pages, the call returns true. -/
import Derived.Test.YtdfkpjffmjeffaaDoorWakes
namespace Go.Proofs.YtdfkpjffmjeffaaDoor
set_option linter.unusedSimpArgs false
set_option linter.unusedVariables false
open Go.RowKit

theorem diff_got (a b : List Int) (ha : Pg a) (hb : Pg b) (o m : Nat) (hs : Span a b o (o + m + 1)) (h : m < 16) (w : World) : Calls Tryd.prog 8 #[.agg (u8s a).toArray, .agg (u8s b).toArray] w fun r w' => ∃ p q c, r = .returned (.tuple #[.int .i64 o, .slice (some ⟨p, q, none⟩) (m + 1) c, .bool true]) ∧ BytesAt w' (.slice (some ⟨p, q, none⟩) (m + 1) c) (mid b o (o + m + 1)) ∧ Below w.heap.size w w' :=
  (diff_yes a b ha hb o (o + m + 1) hs (by omega) w).mono fun e w' ⟨sv, h1, h2, h3⟩ => by
    have hm := mid_length hb (o := o) (e := o + m + 1) (by omega) hs.up
    obtain ⟨p, q, c, e, -⟩ := h2.has (by omega)
    rw [hm, show o + m + 1 - o = m + 1 by omega] at e
    subst e
    exact ⟨p, q, c, h1, h2, h3⟩
theorem bytes_cell {w : World} {p q n c : Nat} {l : List Int} (h : BytesAt w (.slice (some ⟨p, q, none⟩) n c) l) {i : Nat} {x : Int} (hx : l[i]? = some x) : w.cell? ⟨p, q + i, none⟩ = some (.int .u8 x) := by
  obtain ⟨a, cap, e, hc⟩ := h
  obtain ⟨b, o, e2, h2⟩ := hc i x hx
  subst e2
  cases e
  exact h2
theorem lay_mid {a b : List Int} (ha : Pg a) (hb : Pg b) {o e : Nat} (hs : Span a b o e) : layI a o (mid b o e) = b := by
  have h1 := hs.le
  have h2 := hs.up
  have hm := mid_length hb h1 h2
  have ho : (a.take o).length = o := by rw [List.length_take, ha.length]; omega
  apply List.ext_getElem?
  intro i
  unfold layI
  rw [List.append_assoc]
  by_cases k1 : i < o
  · rw [List.getElem?_append_left (by omega), List.getElem?_take_of_lt k1]
    exact hs.pre i k1
  · rw [List.getElem?_append_right (by omega), ho]
    by_cases k2 : i < e
    · rw [List.getElem?_append_left (by omega), mid_at (by omega), show o + (i - o) = i by omega]
    · rw [List.getElem?_append_right (by omega), hm, List.getElem?_drop, show o + (e - o) + (i - o - (e - o)) = i by omega]
      exact hs.suf i (by omega)
set_option maxRecDepth 100000 in
set_option maxHeartbeats 1000000 in
theorem back_told (a b : List Int) (ha : Pg a) (hb : Pg b) (o m : Nat) (hs : Span a b o (o + m + 1)) (hm : m < 16) (w : World) (hev : ErrVar w) : Calls Tryd.prog 4 #[.agg (u8s a).toArray, .agg (u8s b).toArray] w fun e w' => e = .returned (.bool true) ∧ Below w.heap.size w w' := by
  have HZ32 := Lib.hid (zeros_length 32)
  have HA := Lib.hid ha.length
  have HB := Lib.hid hb.length
  have HPA := Lib.hid ha
  have HPB := Lib.hid hb
  have HS := Lib.hid hs
  have HBL : Hid (Below w.heap.size w w) := Lib.hid (Below.refl _ _)
  have HEV := Lib.hid hev
  have HE0 := Lib.hid hev.lt
  clear hev ha hb
  have hu := hs.up
  have HL : Hid ((mid b o (o + m + 1)).length = m + 1) := Lib.hid (by rw [mid_length HPB.out (by omega) hu]; omega)
  obtain ⟨x, y, ex, ey, -, -, hne, -⟩ := hs.at HPA.out HPB.out (i := o) (by omega)
  obtain ⟨x2, y2, ex2, ey2, -, -, -, hne2⟩ := hs.at HPA.out HPB.out (i := o + m) (by omega)
  have HX := Lib.hid (u8_cell ex)
  have HX2 := Lib.hid (u8_cell ex2)
  have HY : Hid ((mid b o (o + m + 1))[0]? = some y) := Lib.hid (by rw [mid_at (by omega)]; exact ey)
  have HY2 : Hid ((mid b o (o + m + 1))[m]? = some y2) := Lib.hid (by rw [mid_at (by omega)]; exact ey2)
  have HN1 : Hid ((x == y) = false) := Lib.hid (by simpa using hne (by omega) rfl)
  have HN2 : Hid ((x2 == y2) = false) := Lib.hid (by simpa using hne2 (by omega) (by omega))
  clear hs hne hne2 ex ey ex2 ey2
  go_enter Tryd.func4, Tryd.ntmps4
  go_upto_region 0 with fail
  refine wp_region_lit ?_
  refine box_g (cs := (u8s a).toArray) rfl rfl ?_
  intro w1 hA hb hl
  try simp only [Act.put, List.setIfInBounds_toArray, List.set_cons_succ, List.set_cons_zero]
  clear hl
  have F2 := Lib.hid (HBL.out.trans (hb.mono HBL.out.size))
  have F3 := Lib.hid (HEV.out.below (Nat.le_refl _) hb)
  clear HBL HEV
  have F4 : Hid (Blk w1 w.heap.size (u8s a)) := Lib.hid hA
  clear hA hb
  refine box_g (cs := (u8s b).toArray) rfl rfl ?_
  intro w5 hA hb hl
  try simp only [Act.put, List.setIfInBounds_toArray, List.set_cons_succ, List.set_cons_zero]
  clear hl
  have F6 := Lib.hid (F2.out.trans (hb.mono F2.out.size))
  have F7 := Lib.hid (F3.out.below (Nat.le_refl _) hb)
  have F8 := Lib.hid (F4.out.below hb F4.out.lt)
  clear F2 F3 F4
  have F9 : Hid (Blk w5 w1.heap.size (u8s b)) := Lib.hid hA
  clear hA hb
  generalize w1.heap.size = g10 at *
  clear w1
  refine takeL (.bool false) rfl (by go_simp) ?_
  try simp only [Act.put, List.setIfInBounds_toArray, List.set_cons_succ, List.set_cons_zero]
  refine wpList_nil ?_
  go_upto_region 1 with fail
  refine wp_region_lit ?_
  refine load23 (cs := (u8s a).toArray) (Blk.all F8.out rfl) (by rw [u8s_size, HA.out]) rfl rfl ?_
  try simp only [Act.put, List.setIfInBounds_toArray, List.set_cons_succ, List.set_cons_zero]
  refine load23 (cs := (u8s b).toArray) (Blk.all F9.out rfl) (by rw [u8s_size, HB.out]) rfl rfl ?_
  try simp only [Act.put, List.setIfInBounds_toArray, List.set_cons_succ, List.set_cons_zero]
  refine wpList_op rfl fun K hK => ?_
  go_simp
  refine (diff_got a b HPA.out HPB.out o m HS.out hm _).mono ?_
  rintro e w11 ⟨p, q, c, rfl, hc, hb⟩
  have F12 := Lib.hid (F6.out.trans (hb.mono F6.out.size))
  have F13 := Lib.hid (F7.out.below (Nat.le_refl _) hb)
  have F14 := Lib.hid (F8.out.below hb F8.out.lt)
  have F15 := Lib.hid (F9.out.below hb F9.out.lt)
  clear F6 F7 F8 F9
  have F16 := Lib.hid hc
  clear hb hc
  refine hK _ _ ?_
  clear hK K
  try simp only [Act.put, List.setIfInBounds_toArray, List.set_cons_succ, List.set_cons_zero]
  refine takeL (.tuple #[.int .i64 o, .slice (some ⟨p, q, none⟩) (m + 1) c, .bool true]) rfl (by go_simp) ?_
  try simp only [Act.put, List.setIfInBounds_toArray, List.set_cons_succ, List.set_cons_zero]
  refine takeL (.int .i64 o) rfl (by go_simp) ?_
  try simp only [Act.put, List.setIfInBounds_toArray, List.set_cons_succ, List.set_cons_zero]
  refine takeL (.slice (some ⟨p, q, none⟩) (m + 1) c) rfl (by go_simp) ?_
  try simp only [Act.put, List.setIfInBounds_toArray, List.set_cons_succ, List.set_cons_zero]
  refine takeL (.bool true) rfl (by go_simp) ?_
  try simp only [Act.put, List.setIfInBounds_toArray, List.set_cons_succ, List.set_cons_zero]
  refine takeL (.int .i64 o) rfl (by go_simp) ?_
  try simp only [Act.put, List.setIfInBounds_toArray, List.set_cons_succ, List.set_cons_zero]
  refine takeL (.slice (some ⟨p, q, none⟩) (m + 1) c) rfl (by go_simp) ?_
  try simp only [Act.put, List.setIfInBounds_toArray, List.set_cons_succ, List.set_cons_zero]
  refine takeL (.bool true) rfl (by go_simp) ?_
  try simp only [Act.put, List.setIfInBounds_toArray, List.set_cons_succ, List.set_cons_zero]
  refine wpList_nil ?_
  go_upto_region 2 with fail
  refine wp_region_lit ?_
  refine takeL (.bool true) rfl (by go_simp) ?_
  try simp only [Act.put, List.setIfInBounds_toArray, List.set_cons_succ, List.set_cons_zero]
  refine takeL (.bool false) rfl (by go_simp) ?_
  try simp only [Act.put, List.setIfInBounds_toArray, List.set_cons_succ, List.set_cons_zero]
  refine wpList_nil ?_
  go_upto_region 10 with fail
  refine wp_region_lit ?_
  refine takeL (.slice (some ⟨p, q, none⟩) (m + 1) c) rfl (by go_simp) ?_
  try simp only [Act.put, List.setIfInBounds_toArray, List.set_cons_succ, List.set_cons_zero]
  refine takeL (.int .i64 (m + 1)) rfl (by go_simp) ?_
  try simp only [Act.put, List.setIfInBounds_toArray, List.set_cons_succ, List.set_cons_zero]
  refine takeL (.bool false) rfl (by go_simp <;> omega) ?_
  try simp only [Act.put, List.setIfInBounds_toArray, List.set_cons_succ, List.set_cons_zero]
  refine takeL (.bool false) rfl (by go_simp) ?_
  try simp only [Act.put, List.setIfInBounds_toArray, List.set_cons_succ, List.set_cons_zero]
  refine takeL (.slice (some ⟨p, q, none⟩) (m + 1) c) rfl (by go_simp) ?_
  try simp only [Act.put, List.setIfInBounds_toArray, List.set_cons_succ, List.set_cons_zero]
  refine takeL (.int .i64 (m + 1)) rfl (by go_simp) ?_
  try simp only [Act.put, List.setIfInBounds_toArray, List.set_cons_succ, List.set_cons_zero]
  refine takeL (.bool false) rfl (by go_simp <;> omega) ?_
  try simp only [Act.put, List.setIfInBounds_toArray, List.set_cons_succ, List.set_cons_zero]
  refine takeL (.bool false) rfl (by go_simp) ?_
  try simp only [Act.put, List.setIfInBounds_toArray, List.set_cons_succ, List.set_cons_zero]
  refine takeL (.bool false) rfl (by go_simp) ?_
  try simp only [Act.put, List.setIfInBounds_toArray, List.set_cons_succ, List.set_cons_zero]
  refine takeL (.int .i64 o) rfl (by go_simp) ?_
  try simp only [Act.put, List.setIfInBounds_toArray, List.set_cons_succ, List.set_cons_zero]
  refine takeL (.bool false) rfl (by go_simp <;> omega) ?_
  try simp only [Act.put, List.setIfInBounds_toArray, List.set_cons_succ, List.set_cons_zero]
  refine takeL (.bool false) rfl (by go_simp) ?_
  try simp only [Act.put, List.setIfInBounds_toArray, List.set_cons_succ, List.set_cons_zero]
  refine takeL (.bool false) rfl (by go_simp) ?_
  try simp only [Act.put, List.setIfInBounds_toArray, List.set_cons_succ, List.set_cons_zero]
  refine takeL (.int .i64 o) rfl (by go_simp) ?_
  try simp only [Act.put, List.setIfInBounds_toArray, List.set_cons_succ, List.set_cons_zero]
  refine takeL (.slice (some ⟨p, q, none⟩) (m + 1) c) rfl (by go_simp) ?_
  try simp only [Act.put, List.setIfInBounds_toArray, List.set_cons_succ, List.set_cons_zero]
  refine takeL (.int .i64 (m + 1)) rfl (by go_simp) ?_
  try simp only [Act.put, List.setIfInBounds_toArray, List.set_cons_succ, List.set_cons_zero]
  refine takeL (.int .i64 ((o : Int) + (m + 1))) rfl (by go_simp <;> exact wrap64 (by omega) (by omega)) ?_
  try simp only [Act.put, List.setIfInBounds_toArray, List.set_cons_succ, List.set_cons_zero]
  refine takeL (.bool false) rfl (by go_simp <;> omega) ?_
  try simp only [Act.put, List.setIfInBounds_toArray, List.set_cons_succ, List.set_cons_zero]
  refine takeL (.bool false) rfl (by go_simp) ?_
  try simp only [Act.put, List.setIfInBounds_toArray, List.set_cons_succ, List.set_cons_zero]
  refine wpList_nil ?_
  go_upto_region 12 with fail
  refine wp_region_lit ?_
  refine load23 (cs := (u8s a).toArray) (Blk.all F14.out rfl) (by rw [u8s_size, HA.out]) rfl rfl ?_
  try simp only [Act.put, List.setIfInBounds_toArray, List.set_cons_succ, List.set_cons_zero]
  refine takeL (.int .i64 o) rfl (by go_simp) ?_
  try simp only [Act.put, List.setIfInBounds_toArray, List.set_cons_succ, List.set_cons_zero]
  refine takeL (.slice (some ⟨p, q, none⟩) (m + 1) c) rfl (by go_simp) ?_
  try simp only [Act.put, List.setIfInBounds_toArray, List.set_cons_succ, List.set_cons_zero]
  refine wpList_op rfl fun K hK => ?_
  go_simp
  have hap := apply_yes a (mid b o (o + m + 1)) HA.out o _ (by rw [HL.out]; omega) (by unfold Fits; rw [HL.out]; omega) _ F16.out F13.out
  rw [lay_mid HPA.out HPB.out HS.out] at hap
  refine hap.mono ?_
  clear hap
  rintro e w17 ⟨rfl, hb⟩
  have F18 := Lib.hid (F12.out.trans (hb.mono F12.out.size))
  have F19 := Lib.hid (F13.out.below (Nat.le_refl _) hb)
  have F20 := Lib.hid (F14.out.below hb F14.out.lt)
  have F21 := Lib.hid (F15.out.below hb F15.out.lt)
  have F22 := Lib.hid (F16.out.below hb)
  clear F12 F13 F14 F15 F16
  clear hb
  refine hK _ _ ?_
  clear hK K
  try simp only [Act.put, List.setIfInBounds_toArray, List.set_cons_succ, List.set_cons_zero]
  refine takeL (.tuple #[.agg (u8s b).toArray, .int .i64 0]) rfl (by go_simp) ?_
  try simp only [Act.put, List.setIfInBounds_toArray, List.set_cons_succ, List.set_cons_zero]
  refine takeL (.agg (u8s b).toArray) rfl (by go_simp) ?_
  try simp only [Act.put, List.setIfInBounds_toArray, List.set_cons_succ, List.set_cons_zero]
  refine takeL (.int .i64 0) rfl (by go_simp) ?_
  try simp only [Act.put, List.setIfInBounds_toArray, List.set_cons_succ, List.set_cons_zero]
  refine alloc_g zero23 rfl ?_
  intro w23 hA hb hl
  try simp only [Act.put, List.setIfInBounds_toArray, List.set_cons_succ, List.set_cons_zero]
  clear hl
  refine store_all (cs := (u8s b).toArray) hA (by simp only [u8s_size, List.size_toArray, List.length_append, List.length_singleton, List.length_map, HB.out, HZ32.out]) (by rw [u8s_size, HB.out]; exact info23) (u8s_one _) rfl rfl rfl ?_
  intro w24 hD hO hlD
  try simp only [Act.put, List.setIfInBounds_toArray, List.set_cons_succ, List.set_cons_zero]
  clear hlD hA
  have hbb : Below w17.heap.size w17 w24 := hb.trans (hO.below hb.size fun k hk => Nat.le_of_eq hk.symm)
  clear hb hO
  have F25 := Lib.hid (F18.out.trans (hbb.mono F18.out.size))
  have F26 := Lib.hid (F19.out.below (Nat.le_refl _) hbb)
  have F27 := Lib.hid (F20.out.below hbb F20.out.lt)
  have F28 := Lib.hid (F21.out.below hbb F21.out.lt)
  have F29 := Lib.hid (F22.out.below hbb)
  clear F18 F19 F20 F21 F22
  have F30 : Hid (Blk w24 w17.heap.size (u8s b)) := Lib.hid hD
  clear hD hbb w23
  generalize w17.heap.size = g31 at *
  clear w17
  refine takeL (.int .i64 0) rfl (by go_simp) ?_
  try simp only [Act.put, List.setIfInBounds_toArray, List.set_cons_succ, List.set_cons_zero]
  refine wpList_nil ?_
  go_upto_region 13 with fail
  refine startH (fun wq => Below w24.heap.size w24 wq) (by kernel_rfl) ?_
  refine takeH 0 (some 84) (.int .i64 0) rfl rfl (by kernel_rfl) (by kernel_rfl) (by kernel_rfl) (fun _ _ _ h => h) rfl (fun wq hS => by go_simp) (Below.refl _ _).drew ?_
  try simp only [Act.put, List.setIfInBounds_toArray, List.set_cons_succ, List.set_cons_zero]
  refine takeH 1 (some 85) (.bool true) rfl rfl (by kernel_rfl) (by kernel_rfl) (by kernel_rfl) (fun _ _ _ h => h) rfl (fun wq hS => by go_simp) (Below.refl _ _).drew ?_
  try simp only [Act.put, List.setIfInBounds_toArray, List.set_cons_succ, List.set_cons_zero]
  refine takeH 2 (some 86) (.bool true) rfl rfl (by kernel_rfl) (by kernel_rfl) (by kernel_rfl) (fun _ _ _ h => h) rfl (fun wq hS => by go_simp) (Below.refl _ _).drew ?_
  try simp only [Act.put, List.setIfInBounds_toArray, List.set_cons_succ, List.set_cons_zero]
  refine takeH 3 (some 87) (.agg (u8s b).toArray) rfl rfl (by kernel_rfl) (by kernel_rfl) (by kernel_rfl) (fun _ _ _ h => h) rfl (fun wq hS => by exact exec_load_at wq _ _ 23 _ rfl g31 0 rfl ((u8s b).toArray) _ Tryd.underlying23 rfl (by rw [u8s_size, HB.out]; exact info23) (Blk.all (F30.out.below hS F30.out.lt) rfl)) (Below.refl _ _).drew ?_
  try simp only [Act.put, List.setIfInBounds_toArray, List.set_cons_succ, List.set_cons_zero]
  refine takeH 4 (some 88) (.agg (u8s b).toArray) rfl rfl (by kernel_rfl) (by kernel_rfl) (by kernel_rfl) (fun _ _ _ h => h) rfl (fun wq hS => by exact exec_load_at wq _ _ 23 _ rfl g10 0 rfl ((u8s b).toArray) _ Tryd.underlying23 rfl (by rw [u8s_size, HB.out]; exact info23) (Blk.all (F28.out.below hS F28.out.lt) rfl)) (Below.refl _ _).drew ?_
  try simp only [Act.put, List.setIfInBounds_toArray, List.set_cons_succ, List.set_cons_zero]
  refine takeH 5 (some 89) (.bool true) rfl rfl (by kernel_rfl) (by kernel_rfl) (by kernel_rfl) (fun _ _ _ h => h) rfl (fun wq hS => by exact exec_page (decide_eq_true rfl) HB.out HB.out _ _ _ rfl rfl rfl) (Below.refl _ _).drew ?_
  try simp only [Act.put, List.setIfInBounds_toArray, List.set_cons_succ, List.set_cons_zero]
  refine takeH 6 (some 90) (.bool true) rfl rfl (by kernel_rfl) (by kernel_rfl) (by kernel_rfl) (fun _ _ _ h => h) rfl (fun wq hS => by go_simp) (Below.refl _ _).drew ?_
  try simp only [Act.put, List.setIfInBounds_toArray, List.set_cons_succ, List.set_cons_zero]
  refine takeH 7 (some 91) (.bool true) rfl rfl (by kernel_rfl) (by kernel_rfl) (by kernel_rfl) (fun _ _ _ h => h) rfl (fun wq hS => by go_simp) (Below.refl _ _).drew ?_
  try simp only [Act.put, List.setIfInBounds_toArray, List.set_cons_succ, List.set_cons_zero]
  refine takeH 8 (some 92) (.int .i64 o) rfl rfl (by kernel_rfl) (by kernel_rfl) (by kernel_rfl) (fun _ _ _ h => h) rfl (fun wq hS => by go_simp) (Below.refl _ _).drew ?_
  try simp only [Act.put, List.setIfInBounds_toArray, List.set_cons_succ, List.set_cons_zero]
  refine takeH 9 (some 93) (.pointer (some ⟨w.heap.size, o, none⟩)) rfl rfl (by kernel_rfl) (by kernel_rfl) (by kernel_rfl) (fun _ _ _ h => h) rfl (fun wq hS => by go_simp <;> omega) (Below.refl _ _).drew ?_
  try simp only [Act.put, List.setIfInBounds_toArray, List.set_cons_succ, List.set_cons_zero]
  refine takeH 10 (some 94) (.int .u8 x) rfl rfl (by kernel_rfl) (by kernel_rfl) (by kernel_rfl) (fun _ _ _ h => h) rfl (fun wq hS => by have hq := (F27.out.below hS F27.out.lt).cell HX.out; go_simp) (Below.refl _ _).drew ?_
  try simp only [Act.put, List.setIfInBounds_toArray, List.set_cons_succ, List.set_cons_zero]
  refine takeH 11 (some 95) (.slice (some ⟨p, q, none⟩) (m + 1) c) rfl rfl (by kernel_rfl) (by kernel_rfl) (by kernel_rfl) (fun _ _ _ h => h) rfl (fun wq hS => by go_simp) (Below.refl _ _).drew ?_
  try simp only [Act.put, List.setIfInBounds_toArray, List.set_cons_succ, List.set_cons_zero]
  refine takeH 12 (some 96) (.pointer (some ⟨p, q, none⟩)) rfl rfl (by kernel_rfl) (by kernel_rfl) (by kernel_rfl) (fun _ _ _ h => h) rfl (fun wq hS => by go_simp <;> omega) (Below.refl _ _).drew ?_
  try simp only [Act.put, List.setIfInBounds_toArray, List.set_cons_succ, List.set_cons_zero]
  refine takeH 13 (some 97) (.int .u8 y) rfl rfl (by kernel_rfl) (by kernel_rfl) (by kernel_rfl) (fun _ _ _ h => h) rfl (fun wq hS => by have hq := ((hS.cell (block_lt_of_cell (bytes_cell F29.out HY.out))).trans (bytes_cell F29.out HY.out)); rw [Nat.add_zero] at hq; go_simp) (Below.refl _ _).drew ?_
  try simp only [Act.put, List.setIfInBounds_toArray, List.set_cons_succ, List.set_cons_zero]
  refine takeH 14 (some 98) (.bool true) rfl rfl (by kernel_rfl) (by kernel_rfl) (by kernel_rfl) (fun _ _ _ h => h) rfl (fun wq hS => by have hq := HN1.out; have hr : ¬ x = y := (by simpa using hq); go_simp) (Below.refl _ _).drew ?_
  try simp only [Act.put, List.setIfInBounds_toArray, List.set_cons_succ, List.set_cons_zero]
  refine takeH 15 (some 99) (.bool true) rfl rfl (by kernel_rfl) (by kernel_rfl) (by kernel_rfl) (fun _ _ _ h => h) rfl (fun wq hS => by go_simp) (Below.refl _ _).drew ?_
  try simp only [Act.put, List.setIfInBounds_toArray, List.set_cons_succ, List.set_cons_zero]
  refine takeH 16 (some 100) (.bool true) rfl rfl (by kernel_rfl) (by kernel_rfl) (by kernel_rfl) (fun _ _ _ h => h) rfl (fun wq hS => by go_simp) (Below.refl _ _).drew ?_
  try simp only [Act.put, List.setIfInBounds_toArray, List.set_cons_succ, List.set_cons_zero]
  refine takeH 17 (some 101) (.int .i64 o) rfl rfl (by kernel_rfl) (by kernel_rfl) (by kernel_rfl) (fun _ _ _ h => h) rfl (fun wq hS => by go_simp) (Below.refl _ _).drew ?_
  try simp only [Act.put, List.setIfInBounds_toArray, List.set_cons_succ, List.set_cons_zero]
  refine takeH 18 (some 102) (.slice (some ⟨p, q, none⟩) (m + 1) c) rfl rfl (by kernel_rfl) (by kernel_rfl) (by kernel_rfl) (fun _ _ _ h => h) rfl (fun wq hS => by go_simp) (Below.refl _ _).drew ?_
  try simp only [Act.put, List.setIfInBounds_toArray, List.set_cons_succ, List.set_cons_zero]
  refine takeH 19 (some 103) (.int .i64 (m + 1)) rfl rfl (by kernel_rfl) (by kernel_rfl) (by kernel_rfl) (fun _ _ _ h => h) rfl (fun wq hS => by go_simp) (Below.refl _ _).drew ?_
  try simp only [Act.put, List.setIfInBounds_toArray, List.set_cons_succ, List.set_cons_zero]
  refine takeH 20 (some 104) (.int .i64 ((o : Int) + (m + 1))) rfl rfl (by kernel_rfl) (by kernel_rfl) (by kernel_rfl) (fun _ _ _ h => h) rfl (fun wq hS => by go_simp <;> exact wrap64 (by omega) (by omega)) (Below.refl _ _).drew ?_
  try simp only [Act.put, List.setIfInBounds_toArray, List.set_cons_succ, List.set_cons_zero]
  refine takeH 21 (some 105) (.int .i64 ((o : Int) + m)) rfl rfl (by kernel_rfl) (by kernel_rfl) (by kernel_rfl) (fun _ _ _ h => h) rfl (fun wq hS => by go_simp <;> (rw [show (o : Int) + (m + 1) - 1 = o + m by omega]; exact wrap64 (by omega) (by omega))) (Below.refl _ _).drew ?_
  try simp only [Act.put, List.setIfInBounds_toArray, List.set_cons_succ, List.set_cons_zero]
  refine takeH 22 (some 106) (.pointer (some ⟨w.heap.size, o + m, none⟩)) rfl rfl (by kernel_rfl) (by kernel_rfl) (by kernel_rfl) (fun _ _ _ h => h) rfl (fun wq hS => by go_simp; rw [if_pos (by omega), show ((o : Int) + m).toNat = o + m by omega]) (Below.refl _ _).drew ?_
  try simp only [Act.put, List.setIfInBounds_toArray, List.set_cons_succ, List.set_cons_zero]
  refine takeH 23 (some 107) (.int .u8 x2) rfl rfl (by kernel_rfl) (by kernel_rfl) (by kernel_rfl) (fun _ _ _ h => h) rfl (fun wq hS => by have hq := (F27.out.below hS F27.out.lt).cell HX2.out; go_simp) (Below.refl _ _).drew ?_
  try simp only [Act.put, List.setIfInBounds_toArray, List.set_cons_succ, List.set_cons_zero]
  refine takeH 24 (some 108) (.slice (some ⟨p, q, none⟩) (m + 1) c) rfl rfl (by kernel_rfl) (by kernel_rfl) (by kernel_rfl) (fun _ _ _ h => h) rfl (fun wq hS => by go_simp) (Below.refl _ _).drew ?_
  try simp only [Act.put, List.setIfInBounds_toArray, List.set_cons_succ, List.set_cons_zero]
  refine takeH 25 (some 109) (.slice (some ⟨p, q, none⟩) (m + 1) c) rfl rfl (by kernel_rfl) (by kernel_rfl) (by kernel_rfl) (fun _ _ _ h => h) rfl (fun wq hS => by go_simp) (Below.refl _ _).drew ?_
  try simp only [Act.put, List.setIfInBounds_toArray, List.set_cons_succ, List.set_cons_zero]
  refine takeH 26 (some 110) (.int .i64 (m + 1)) rfl rfl (by kernel_rfl) (by kernel_rfl) (by kernel_rfl) (fun _ _ _ h => h) rfl (fun wq hS => by go_simp) (Below.refl _ _).drew ?_
  try simp only [Act.put, List.setIfInBounds_toArray, List.set_cons_succ, List.set_cons_zero]
  refine takeH 27 (some 111) (.int .i64 (m : Int)) rfl rfl (by kernel_rfl) (by kernel_rfl) (by kernel_rfl) (fun _ _ _ h => h) rfl (fun wq hS => by go_simp <;> exact wrap64 (by omega) (by omega)) (Below.refl _ _).drew ?_
  try simp only [Act.put, List.setIfInBounds_toArray, List.set_cons_succ, List.set_cons_zero]
  refine takeH 28 (some 112) (.pointer (some ⟨p, q + m, none⟩)) rfl rfl (by kernel_rfl) (by kernel_rfl) (by kernel_rfl) (fun _ _ _ h => h) rfl (fun wq hS => by go_simp <;> omega) (Below.refl _ _).drew ?_
  try simp only [Act.put, List.setIfInBounds_toArray, List.set_cons_succ, List.set_cons_zero]
  refine takeH 29 (some 113) (.int .u8 y2) rfl rfl (by kernel_rfl) (by kernel_rfl) (by kernel_rfl) (fun _ _ _ h => h) rfl (fun wq hS => by have hq := ((hS.cell (block_lt_of_cell (bytes_cell F29.out HY2.out))).trans (bytes_cell F29.out HY2.out)); go_simp) (Below.refl _ _).drew ?_
  try simp only [Act.put, List.setIfInBounds_toArray, List.set_cons_succ, List.set_cons_zero]
  refine takeH 30 (some 114) (.bool true) rfl rfl (by kernel_rfl) (by kernel_rfl) (by kernel_rfl) (fun _ _ _ h => h) rfl (fun wq hS => by have hq := HN2.out; have hr : ¬ x2 = y2 := (by simpa using hq); go_simp) (Below.refl _ _).drew ?_
  try simp only [Act.put, List.setIfInBounds_toArray, List.set_cons_succ, List.set_cons_zero]
  refine takeH 31 (some 115) (.bool true) rfl rfl (by kernel_rfl) (by kernel_rfl) (by kernel_rfl) (fun _ _ _ h => h) rfl (fun wq hS => by go_simp) (Below.refl _ _).drew ?_
  try simp only [Act.put, List.setIfInBounds_toArray, List.set_cons_succ, List.set_cons_zero]
  refine takeH 32 (some 116) (.bool true) rfl rfl (by kernel_rfl) (by kernel_rfl) (by kernel_rfl) (fun _ _ _ h => h) rfl (fun wq hS => by go_simp) (Below.refl _ _).drew ?_
  try simp only [Act.put, List.setIfInBounds_toArray, List.set_cons_succ, List.set_cons_zero]
  refine oneH 33 (by kernel_rfl) rfl rfl fun K hK => ?_
  go_simp
  refine (wakes_any _ (F26.out.below (Nat.le_refl _) (Below.refl _ _).drew)).mono ?_
  rintro e w32 ⟨rfl, hb⟩
  have HS33 := Lib.hid (stay (Below.refl _ _).drew hb)
  clear hb
  refine hK _ _ HS33.out ?_
  clear hK K
  try simp only [Act.put, List.setIfInBounds_toArray, List.set_cons_succ, List.set_cons_zero]
  refine takeH 34 (some 118) (.bool true) rfl rfl (by kernel_rfl) (by kernel_rfl) (by kernel_rfl) (fun _ _ _ h => h) rfl (fun wq hS => by go_simp) HS33.out ?_
  try simp only [Act.put, List.setIfInBounds_toArray, List.set_cons_succ, List.set_cons_zero]
  refine takeH 35 (some 4) (.bool true) rfl rfl (by kernel_rfl) (by kernel_rfl) (by kernel_rfl) (fun _ _ _ h => h) rfl (fun wq hS => by go_simp) HS33.out ?_
  try simp only [Act.put, List.setIfInBounds_toArray, List.set_cons_succ, List.set_cons_zero]
  refine wpAnyH_done (by kernel_rfl) ?_ _
  have hb := HS33.out
  have F34 := Lib.hid (F25.out.trans (hb.mono F25.out.size))
  have F35 := Lib.hid (F26.out.below (Nat.le_refl _) hb)
  have F36 := Lib.hid (F27.out.below hb F27.out.lt)
  have F37 := Lib.hid (F28.out.below hb F28.out.lt)
  have F38 := Lib.hid (F29.out.below hb)
  have F39 := Lib.hid (F30.out.below hb F30.out.lt)
  clear F25 F26 F27 F28 F29 F30
  clear hb
  go_wp2_with fail
  go_ret
  exact ⟨rfl, F34.out⟩
set_option maxRecDepth 100000 in
set_option maxHeartbeats 1000000 in
theorem back_none (a b : List Int) (ha : Pg a) (hb : Pg b) (o e : Nat) (hs : Span a b o e) (h : o = e ∨ 16 < e - o) (w : World) (hev : ErrVar w) : Calls Tryd.prog 4 #[.agg (u8s a).toArray, .agg (u8s b).toArray] w fun e w' => e = .returned (.bool true) ∧ Below w.heap.size w w' := by
  have HZ32 := Lib.hid (zeros_length 32)
  have HA := Lib.hid ha.length
  have HB := Lib.hid hb.length
  have HPA := Lib.hid ha
  have HPB := Lib.hid hb
  have HS := Lib.hid hs
  have HBL : Hid (Below w.heap.size w w) := Lib.hid (Below.refl _ _)
  have HEV := Lib.hid hev
  have HE0 := Lib.hid hev.lt
  clear hev ha hb
  have hu := hs.up
  clear hs
  go_enter Tryd.func4, Tryd.ntmps4
  go_upto_region 0 with fail
  refine wp_region_lit ?_
  refine box_g (cs := (u8s a).toArray) rfl rfl ?_
  intro w1 hA hb hl
  try simp only [Act.put, List.setIfInBounds_toArray, List.set_cons_succ, List.set_cons_zero]
  clear hl
  have F2 := Lib.hid (HBL.out.trans (hb.mono HBL.out.size))
  have F3 := Lib.hid (HEV.out.below (Nat.le_refl _) hb)
  clear HBL HEV
  have F4 : Hid (Blk w1 w.heap.size (u8s a)) := Lib.hid hA
  clear hA hb
  refine box_g (cs := (u8s b).toArray) rfl rfl ?_
  intro w5 hA hb hl
  try simp only [Act.put, List.setIfInBounds_toArray, List.set_cons_succ, List.set_cons_zero]
  clear hl
  have F6 := Lib.hid (F2.out.trans (hb.mono F2.out.size))
  have F7 := Lib.hid (F3.out.below (Nat.le_refl _) hb)
  have F8 := Lib.hid (F4.out.below hb F4.out.lt)
  clear F2 F3 F4
  have F9 : Hid (Blk w5 w1.heap.size (u8s b)) := Lib.hid hA
  clear hA hb
  generalize w1.heap.size = g10 at *
  clear w1
  refine takeL (.bool false) rfl (by go_simp) ?_
  try simp only [Act.put, List.setIfInBounds_toArray, List.set_cons_succ, List.set_cons_zero]
  refine wpList_nil ?_
  go_upto_region 1 with fail
  refine wp_region_lit ?_
  refine load23 (cs := (u8s a).toArray) (Blk.all F8.out rfl) (by rw [u8s_size, HA.out]) rfl rfl ?_
  try simp only [Act.put, List.setIfInBounds_toArray, List.set_cons_succ, List.set_cons_zero]
  refine load23 (cs := (u8s b).toArray) (Blk.all F9.out rfl) (by rw [u8s_size, HB.out]) rfl rfl ?_
  try simp only [Act.put, List.setIfInBounds_toArray, List.set_cons_succ, List.set_cons_zero]
  refine wpList_op rfl fun K hK => ?_
  go_simp
  refine (diff_no a b HPA.out HPB.out o e HS.out h _).mono ?_
  rintro e w11 ⟨rfl, hb⟩
  have F12 := Lib.hid (F6.out.trans (hb.mono F6.out.size))
  have F13 := Lib.hid (F7.out.below (Nat.le_refl _) hb)
  have F14 := Lib.hid (F8.out.below hb F8.out.lt)
  have F15 := Lib.hid (F9.out.below hb F9.out.lt)
  clear F6 F7 F8 F9
  clear hb
  refine hK _ _ ?_
  clear hK K
  try simp only [Act.put, List.setIfInBounds_toArray, List.set_cons_succ, List.set_cons_zero]
  refine takeL (.tuple #[.int .i64 0, .slice none 0 0, .bool false]) rfl (by go_simp) ?_
  try simp only [Act.put, List.setIfInBounds_toArray, List.set_cons_succ, List.set_cons_zero]
  refine takeL (.int .i64 0) rfl (by go_simp) ?_
  try simp only [Act.put, List.setIfInBounds_toArray, List.set_cons_succ, List.set_cons_zero]
  refine takeL (.slice none 0 0) rfl (by go_simp) ?_
  try simp only [Act.put, List.setIfInBounds_toArray, List.set_cons_succ, List.set_cons_zero]
  refine takeL (.bool false) rfl (by go_simp) ?_
  try simp only [Act.put, List.setIfInBounds_toArray, List.set_cons_succ, List.set_cons_zero]
  refine takeL (.int .i64 0) rfl (by go_simp) ?_
  try simp only [Act.put, List.setIfInBounds_toArray, List.set_cons_succ, List.set_cons_zero]
  refine takeL (.slice none 0 0) rfl (by go_simp) ?_
  try simp only [Act.put, List.setIfInBounds_toArray, List.set_cons_succ, List.set_cons_zero]
  refine takeL (.bool false) rfl (by go_simp) ?_
  try simp only [Act.put, List.setIfInBounds_toArray, List.set_cons_succ, List.set_cons_zero]
  refine wpList_nil ?_
  have HH := Lib.hid h
  clear h
  go_wp2_with fail
  go_loopg [8, 9, 10] 32 (fun q f l i wr => ∃ k : Nat, 32 - k ≤ q ∧ k ≤ 32 ∧ i = .int .i64 k ∧ ((k ≤ o ∧ f = .int .i64 32 ∧ l = .int .i64 (-1)) ∨ (o < k ∧ f = .int .i64 o ∧ ∃ m : Nat, l = .int .i64 m ∧ o ≤ m ∧ m < k ∧ a[m]? ≠ b[m]? ∧ ∀ j, m < j → j < k → a[j]? = b[j]?)) ∧ Below w11.heap.size w11 wr)
  case atStart => exact ⟨0, by omega, by omega, rfl, .inl ⟨by omega, rfl, rfl⟩, Below.refl _ _⟩
  case round =>
    obtain ⟨k, hq, hk, rfl, hd, hbr⟩ := hrel
    have HR := Lib.hid hbr
    have G1 := F14.out.below hbr F14.out.lt
    have G2 := F15.out.below hbr F15.out.lt
    clear hbr
    by_cases h3 : k < 32
    · obtain ⟨x, y, ex, ey, hp, hs2, hf, hl⟩ := HS.out.at HPA.out HPB.out h3
      have EX := Lib.hid ex
      have EY := Lib.hid ey
      have hi : (k : Int) < 32 := by omega
      have hg : decide ((k : Int) < 32) = true := decide_eq_true hi
      have c1 := G1.cell (u8_cell ex)
      have c2 := G2.cell (u8_cell ey)
      have HD := Lib.hid hd
      clear G1 G2 ex ey hd
      by_cases hxy : x = y
      · subst hxy
        have he : (x == x) = true := by simp
        clear hp hs2 hf hl
        rcases HD.out with ⟨hd1, rfl, rfl⟩ | ⟨hd1, rfl, m, rfl, hd2, hd3, hml, hd4⟩
        · have HN : Hid (k + 1 ≤ o) := Lib.hid (by
            rcases (show k < o ∨ k = o by omega) with h | h
            · omega
            · exfalso
              subst h
              have := HS.out.fst (by
                have := HS.out.non
                have := HS.out.le
                omega)
              rw [EX.out, EY.out] at this
              exact this rfl)
          go_wp2_with fail
          go_quiet (fail)
          go_wp2_with fail
          go_roundg (32 - (k + 1))
          case measure => omega
          case rel => exact ⟨k + 1, by omega, by omega, by go_num, .inl ⟨HN.out, rfl, rfl⟩, drewN_below HR.out _⟩
        · have HM := Lib.hid hd4
          have HML := Lib.hid hml
          clear hd4 hml
          go_wp2_with fail
          go_quiet (fail)
          go_wp2_with fail
          go_roundg (32 - (k + 1))
          case measure => omega
          case rel => exact ⟨k + 1, by omega, by omega, by go_num, .inr ⟨by omega, rfl, m, rfl, by omega, by omega, HML.out, fun j h1 h2 => by
            rcases (show j < k ∨ j = k by omega) with h | rfl
            · exact HM.out j h1 h
            · rw [EX.out, EY.out]⟩, drewN_below HR.out _⟩
      · have he : (x == y) = false := by simpa using hxy
        have HNE : Hid (a[k]? ≠ b[k]?) := Lib.hid (by rw [EX.out, EY.out]; simpa using hxy)
        have HN : Hid (o ≤ k) := Lib.hid (by
          rcases Nat.lt_or_ge k o with h | h
          · exact absurd (hp h) hxy
          · exact h)
        clear hp hs2 hf hl hxy
        rcases HD.out with ⟨hd1, rfl, rfl⟩ | ⟨hd1, rfl, m, rfl, hd2, hd3, hml, hd4⟩
        · have hko := HN.out
          go_wp2_with fail
          go_quiet (fail)
          go_upto_region 8 with fail
          refine wp_region_lit ?_
          refine takeL (.int .i64 32) rfl (by go_simp) ?_
          try simp only [Act.put, List.setIfInBounds_toArray, List.set_cons_succ, List.set_cons_zero]
          refine takeL (.int .i64 k) rfl (by go_simp) ?_
          try simp only [Act.put, List.setIfInBounds_toArray, List.set_cons_succ, List.set_cons_zero]
          refine takeL (.int .i64 k) rfl (by go_simp <;> omega) ?_
          try simp only [Act.put, List.setIfInBounds_toArray, List.set_cons_succ, List.set_cons_zero]
          refine takeL (.int .i64 k) rfl (by go_simp) ?_
          try simp only [Act.put, List.setIfInBounds_toArray, List.set_cons_succ, List.set_cons_zero]
          refine takeL (.int .i64 k) rfl (by go_simp) ?_
          try simp only [Act.put, List.setIfInBounds_toArray, List.set_cons_succ, List.set_cons_zero]
          refine takeL (.int .i64 k) rfl (by go_simp) ?_
          try simp only [Act.put, List.setIfInBounds_toArray, List.set_cons_succ, List.set_cons_zero]
          refine wpList_nil ?_
          go_wp2_with fail
          go_roundg (32 - (k + 1))
          case measure => omega
          case rel => exact ⟨k + 1, by omega, by omega, by go_num, .inr ⟨by omega, by rw [show k = o by omega], k, rfl, by omega, by omega, HNE.out, fun j h1 h2 => by omega⟩, drewN_below HR.out _⟩
        · clear hd4 hml
          go_wp2_with fail
          go_quiet (fail)
          go_upto_region 8 with fail
          refine wp_region_lit ?_
          refine takeL (.int .i64 o) rfl (by go_simp) ?_
          try simp only [Act.put, List.setIfInBounds_toArray, List.set_cons_succ, List.set_cons_zero]
          refine takeL (.int .i64 k) rfl (by go_simp) ?_
          try simp only [Act.put, List.setIfInBounds_toArray, List.set_cons_succ, List.set_cons_zero]
          refine takeL (.int .i64 o) rfl (by go_simp <;> omega) ?_
          try simp only [Act.put, List.setIfInBounds_toArray, List.set_cons_succ, List.set_cons_zero]
          refine takeL (.int .i64 k) rfl (by go_simp) ?_
          try simp only [Act.put, List.setIfInBounds_toArray, List.set_cons_succ, List.set_cons_zero]
          refine takeL (.int .i64 o) rfl (by go_simp) ?_
          try simp only [Act.put, List.setIfInBounds_toArray, List.set_cons_succ, List.set_cons_zero]
          refine takeL (.int .i64 k) rfl (by go_simp) ?_
          try simp only [Act.put, List.setIfInBounds_toArray, List.set_cons_succ, List.set_cons_zero]
          refine wpList_nil ?_
          go_wp2_with fail
          go_roundg (32 - (k + 1))
          case measure => omega
          case rel => exact ⟨k + 1, by omega, by omega, by go_num, .inr ⟨by omega, rfl, k, rfl, by omega, by omega, HNE.out, fun j h1 h2 => by omega⟩, drewN_below HR.out _⟩
    · obtain rfl : k = 32 := by omega
      have hg : decide ((32 : Int) < 32) = false := by decide
      have EV := Lib.hid (F13.out.below (Nat.le_refl _) HR.out)
      have BE := Lib.hid (F12.out.trans (HR.out.mono F12.out.size))
      have HG1 := Lib.hid G1
      have HG2 := Lib.hid G2
      clear G1 G2
      rcases hd with ⟨hd1, rfl, rfl⟩ | ⟨hd1, rfl, m, rfl, hd2, hd3, hml, hd4⟩
      · have HAB : Hid (decide (a = b) = true) := Lib.hid (decide_eq_true (by
          have h1 := HS.out.le
          obtain rfl : o = e := by omega
          exact HS.out.all))
        go_upto_region 9 with fail
        refine wp_region_lit ?_
        try simp only [List.append_eq, List.cons_append, List.nil_append]
        refine load23 (cs := (u8s a).toArray) (Blk.all HG1.out rfl) (by rw [u8s_size, HA.out]) rfl rfl ?_
        try simp only [Act.put, List.setIfInBounds_toArray, List.set_cons_succ, List.set_cons_zero]
        refine load23 (cs := (u8s b).toArray) (Blk.all HG2.out rfl) (by rw [u8s_size, HB.out]) rfl rfl ?_
        try simp only [Act.put, List.setIfInBounds_toArray, List.set_cons_succ, List.set_cons_zero]
        refine takeL (.bool true) rfl (by exact exec_page HAB.out HA.out HB.out _ _ _ rfl rfl rfl) ?_
        try simp only [Act.put, List.setIfInBounds_toArray, List.set_cons_succ, List.set_cons_zero]
        refine takeL (.bool true) rfl (by go_simp) ?_
        try simp only [Act.put, List.setIfInBounds_toArray, List.set_cons_succ, List.set_cons_zero]
        refine passL rfl ?_
        try simp only [Act.put, List.setIfInBounds_toArray, List.set_cons_succ, List.set_cons_zero]
        refine passL rfl ?_
        try simp only [Act.put, List.setIfInBounds_toArray, List.set_cons_succ, List.set_cons_zero]
        refine passL rfl ?_
        try simp only [Act.put, List.setIfInBounds_toArray, List.set_cons_succ, List.set_cons_zero]
        refine passL rfl ?_
        try simp only [Act.put, List.setIfInBounds_toArray, List.set_cons_succ, List.set_cons_zero]
        refine takeL (.bool true) rfl (by go_simp) ?_
        try simp only [Act.put, List.setIfInBounds_toArray, List.set_cons_succ, List.set_cons_zero]
        refine takeL (.bool true) rfl (by go_simp) ?_
        try simp only [Act.put, List.setIfInBounds_toArray, List.set_cons_succ, List.set_cons_zero]
        refine takeL (.int .i64 0) rfl (by go_simp) ?_
        try simp only [Act.put, List.setIfInBounds_toArray, List.set_cons_succ, List.set_cons_zero]
        refine takeL (.bool true) rfl (by go_simp) ?_
        try simp only [Act.put, List.setIfInBounds_toArray, List.set_cons_succ, List.set_cons_zero]
        refine takeL (.bool true) rfl (by go_simp) ?_
        try simp only [Act.put, List.setIfInBounds_toArray, List.set_cons_succ, List.set_cons_zero]
        refine takeL (.bool true) rfl (by go_simp) ?_
        try simp only [Act.put, List.setIfInBounds_toArray, List.set_cons_succ, List.set_cons_zero]
        refine takeL (.slice none 0 0) rfl (by go_simp) ?_
        try simp only [Act.put, List.setIfInBounds_toArray, List.set_cons_succ, List.set_cons_zero]
        refine takeL (.int .i64 0) rfl (by go_simp) ?_
        try simp only [Act.put, List.setIfInBounds_toArray, List.set_cons_succ, List.set_cons_zero]
        refine takeL (.bool true) rfl (by go_simp) ?_
        try simp only [Act.put, List.setIfInBounds_toArray, List.set_cons_succ, List.set_cons_zero]
        refine takeL (.bool true) rfl (by go_simp) ?_
        try simp only [Act.put, List.setIfInBounds_toArray, List.set_cons_succ, List.set_cons_zero]
        refine takeL (.bool true) rfl (by go_simp) ?_
        try simp only [Act.put, List.setIfInBounds_toArray, List.set_cons_succ, List.set_cons_zero]
        refine wpList_op rfl fun K hK => ?_
        go_simp
        refine (wakes_any _ EV.out).mono ?_
        rintro e w16 ⟨rfl, hb⟩
        have F17 := Lib.hid (HG1.out.below hb HG1.out.lt)
        have F18 := Lib.hid (HG2.out.below hb HG2.out.lt)
        have F19 := Lib.hid (EV.out.below (Nat.le_refl _) hb)
        have F20 := Lib.hid (BE.out.trans (hb.mono BE.out.size))
        clear HG1 HG2 EV BE
        clear hb
        refine hK _ _ ?_
        clear hK K
        try simp only [Act.put, List.setIfInBounds_toArray, List.set_cons_succ, List.set_cons_zero]
        refine takeL (.bool true) rfl (by go_simp) ?_
        try simp only [Act.put, List.setIfInBounds_toArray, List.set_cons_succ, List.set_cons_zero]
        refine takeL (.bool true) rfl (by go_simp) ?_
        try simp only [Act.put, List.setIfInBounds_toArray, List.set_cons_succ, List.set_cons_zero]
        refine wpList_nil ?_
        go_wp2_with fail
        go_ret
        exact ⟨rfl, F20.out⟩
      · have hoe : o < e := by
          have h1 := HS.out.le
          have h2 := HS.out.non
          omega
        have hme : m = e - 1 := by
          rcases (show m < e - 1 ∨ m = e - 1 ∨ e ≤ m by omega) with h | h | h
          · exact absurd (hd4 (e - 1) h (by omega)) (HS.out.lst hoe)
          · exact h
          · exfalso
            exact hml (HS.out.suf m h)
        have hh : 16 ≤ m - o := by
          rcases HH.out with h | h <;> omega
        have HAB : Hid (decide (a = b) = false) := Lib.hid (decide_eq_false (fun h => HS.out.fst hoe (by rw [h])))
        clear hd4 hml
        go_upto_region 9 with fail
        refine wp_region_lit ?_
        try simp only [List.append_eq, List.cons_append, List.nil_append]
        refine load23 (cs := (u8s a).toArray) (Blk.all HG1.out rfl) (by rw [u8s_size, HA.out]) rfl rfl ?_
        try simp only [Act.put, List.setIfInBounds_toArray, List.set_cons_succ, List.set_cons_zero]
        refine load23 (cs := (u8s b).toArray) (Blk.all HG2.out rfl) (by rw [u8s_size, HB.out]) rfl rfl ?_
        try simp only [Act.put, List.setIfInBounds_toArray, List.set_cons_succ, List.set_cons_zero]
        refine takeL (.bool false) rfl (by exact exec_page HAB.out HA.out HB.out _ _ _ rfl rfl rfl) ?_
        try simp only [Act.put, List.setIfInBounds_toArray, List.set_cons_succ, List.set_cons_zero]
        refine takeL (.bool false) rfl (by go_simp) ?_
        try simp only [Act.put, List.setIfInBounds_toArray, List.set_cons_succ, List.set_cons_zero]
        refine takeL (.int .i64 m) rfl (by go_simp) ?_
        try simp only [Act.put, List.setIfInBounds_toArray, List.set_cons_succ, List.set_cons_zero]
        refine takeL (.int .i64 o) rfl (by go_simp) ?_
        try simp only [Act.put, List.setIfInBounds_toArray, List.set_cons_succ, List.set_cons_zero]
        refine takeL (.int .i64 ((m : Int) - o)) rfl (by go_simp <;> exact wrap64 (by omega) (by omega)) ?_
        try simp only [Act.put, List.setIfInBounds_toArray, List.set_cons_succ, List.set_cons_zero]
        refine takeL (.bool true) rfl (by go_simp <;> omega) ?_
        try simp only [Act.put, List.setIfInBounds_toArray, List.set_cons_succ, List.set_cons_zero]
        refine takeL (.bool true) rfl (by go_simp) ?_
        try simp only [Act.put, List.setIfInBounds_toArray, List.set_cons_succ, List.set_cons_zero]
        refine takeL (.bool true) rfl (by go_simp) ?_
        try simp only [Act.put, List.setIfInBounds_toArray, List.set_cons_succ, List.set_cons_zero]
        refine takeL (.int .i64 0) rfl (by go_simp) ?_
        try simp only [Act.put, List.setIfInBounds_toArray, List.set_cons_succ, List.set_cons_zero]
        refine takeL (.bool true) rfl (by go_simp) ?_
        try simp only [Act.put, List.setIfInBounds_toArray, List.set_cons_succ, List.set_cons_zero]
        refine takeL (.bool true) rfl (by go_simp) ?_
        try simp only [Act.put, List.setIfInBounds_toArray, List.set_cons_succ, List.set_cons_zero]
        refine takeL (.bool true) rfl (by go_simp) ?_
        try simp only [Act.put, List.setIfInBounds_toArray, List.set_cons_succ, List.set_cons_zero]
        refine takeL (.slice none 0 0) rfl (by go_simp) ?_
        try simp only [Act.put, List.setIfInBounds_toArray, List.set_cons_succ, List.set_cons_zero]
        refine takeL (.int .i64 0) rfl (by go_simp) ?_
        try simp only [Act.put, List.setIfInBounds_toArray, List.set_cons_succ, List.set_cons_zero]
        refine takeL (.bool true) rfl (by go_simp) ?_
        try simp only [Act.put, List.setIfInBounds_toArray, List.set_cons_succ, List.set_cons_zero]
        refine takeL (.bool true) rfl (by go_simp) ?_
        try simp only [Act.put, List.setIfInBounds_toArray, List.set_cons_succ, List.set_cons_zero]
        refine takeL (.bool true) rfl (by go_simp) ?_
        try simp only [Act.put, List.setIfInBounds_toArray, List.set_cons_succ, List.set_cons_zero]
        refine wpList_op rfl fun K hK => ?_
        go_simp
        refine (wakes_any _ EV.out).mono ?_
        rintro e w16 ⟨rfl, hb⟩
        have F17 := Lib.hid (HG1.out.below hb HG1.out.lt)
        have F18 := Lib.hid (HG2.out.below hb HG2.out.lt)
        have F19 := Lib.hid (EV.out.below (Nat.le_refl _) hb)
        have F20 := Lib.hid (BE.out.trans (hb.mono BE.out.size))
        clear HG1 HG2 EV BE
        clear hb
        refine hK _ _ ?_
        clear hK K
        try simp only [Act.put, List.setIfInBounds_toArray, List.set_cons_succ, List.set_cons_zero]
        refine takeL (.bool true) rfl (by go_simp) ?_
        try simp only [Act.put, List.setIfInBounds_toArray, List.set_cons_succ, List.set_cons_zero]
        refine takeL (.bool true) rfl (by go_simp) ?_
        try simp only [Act.put, List.setIfInBounds_toArray, List.set_cons_succ, List.set_cons_zero]
        refine wpList_nil ?_
        go_wp2_with fail
        go_ret
        exact ⟨rfl, F20.out⟩
theorem back_any (a b : List Int) (ha : Pg a) (hb : Pg b) (w : World) (hev : ErrVar w) : Calls Tryd.prog 4 #[.agg (u8s a).toArray, .agg (u8s b).toArray] w fun e w' => e = .returned (.bool true) ∧ Below w.heap.size w w' := by
  obtain ⟨o, e, hs⟩ := exists_span ha hb
  have hle := hs.le
  by_cases h : o = e ∨ 16 < e - o
  · exact back_none a b ha hb o e hs h w hev
  · obtain ⟨m, rfl⟩ : ∃ m, e = o + m + 1 := ⟨e - o - 1, by omega⟩
    exact back_told a b ha hb o m hs (by omega) w hev
end Go.Proofs.YtdfkpjffmjeffaaDoor
