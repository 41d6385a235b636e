/- The reference's journal: Copy, Good. -/
import Derived.Test.YtmlniannilnmhaaGreatDoorKm
namespace Go.Proofs.YtmlniannilnmhaaGreatDoor
set_option linter.unusedSimpArgs false
set_option linter.unusedVariables false
open Go.RowKit

section
variable {w : World}
set_option maxRecDepth 100000 in
theorem rcopy_any (a : Ja) (fv : Value) (hl : a.free.length ≤ 1000000) (h : IntsAt w fv a.free) : Calls Tryz.prog 42 #[.agg #[.int .i64 a.seg, .int .i64 a.off, .int .u32 a.seq, fv]] w fun e w' => ∃ tv, e = .returned (.agg #[.int .i64 a.seg, .int .i64 a.off, .int .u32 a.seq, tv]) ∧ OwnN w' w.heap.size tv a.free ∧ Below w.heap.size w w' := by
  obtain ⟨fa, fc, hfv⟩ := h.form
  obtain ⟨n, hnn⟩ : ∃ n, a.free.length = n := ⟨_, rfl⟩
  rw [hnn] at hfv hl
  subst hfv
  have HN := Lib.hid hnn
  have HI := Lib.hid h
  have HL := Lib.hid hl
  clear h hnn hl
  go_enter Tryz.func42, Tryz.ntmps42
  go_upto_region 0 with fail
  refine wp_region_lit ?_
  refine box_g rfl rfl ?_
  try simp only [Act.put, List.setIfInBounds_toArray, List.set_cons_succ, List.set_cons_zero]
  intro w1 hV hb hl
  try simp only [Act.put, List.setIfInBounds_toArray, List.set_cons_succ, List.set_cons_zero]
  have HV := Lib.hid hV
  have HB := Lib.hid hb
  have HLT : Hid (w.heap.size < w1.heap.size) := Lib.hid hl
  clear hV hb hl
  refine alloc_g zero47 rfl ?_
  intro w2 hR hb hl
  try simp only [Act.put, List.setIfInBounds_toArray, List.set_cons_succ, List.set_cons_zero]
  have HR := Lib.hid hR
  have HV2 := Lib.hid (HV.out.below hb HV.out.lt)
  have HB2 := Lib.hid (stay HB.out hb)
  have HW1 : Hid (w.heap.size < w1.heap.size ∧ w1.heap.size < w2.heap.size) := Lib.hid ⟨HLT.out, hl⟩
  clear hR hb hl HV HB
  generalize w1.heap.size = r at *
  refine wpList_nil ?_
  go_upto_region 1 with fail
  refine wp_region_lit ?_
  refine wpList_run (.slice (some ⟨w2.heap.size, 0, none⟩) 0 0) (w2.alloc (.cells #[] 3)) rfl (by go_simp) ?_
  try simp only [Act.put, List.setIfInBounds_toArray, List.set_cons_succ, List.set_cons_zero]
  have hb1 := alloc_bel w2 (.cells #[] 3)
  have hO := OwnN.lit w2 w2.heap.size (Nat.le_refl _) [] (by simp) #[] rfl
  have HV3 := Lib.hid (HV2.out.below hb1 HV2.out.lt)
  refine takeL (.pointer (some ⟨w.heap.size, 3, none⟩)) rfl (by go_simp) ?_
  try simp only [Act.put, List.setIfInBounds_toArray, List.set_cons_succ, List.set_cons_zero]
  refine takeL (.slice fa n fc) rfl (by have q := HV3.out.cell (i := 3) rfl; go_simp) ?_
  try simp only [Act.put, List.setIfInBounds_toArray, List.set_cons_succ, List.set_cons_zero]
  refine app_LNg hO hb1.size (HI.out.below (stay HB2.out hb1)) (by rw [HN.out]; simp only [List.length_nil]; have := HL.out; omega) rfl rfl rfl ?_
  intro tv w8 ho hg8
  try simp only [Act.put, List.setIfInBounds_toArray, List.set_cons_succ, List.set_cons_zero]
  rw [List.nil_append] at ho
  have hb8 := hb1.trans (grown_below hg8 hb1.size fun k hk => (hO.lt k hk).1)
  have HV8 := Lib.hid (HV2.out.below hb8 HV2.out.lt)
  have HR8 := Lib.hid (HR.out.below hb8 HR.out.lt)
  have HB8 := Lib.hid (stay HB2.out hb8)
  have HT8 := Lib.hid ho
  have HLW : Hid (w.heap.size < w2.heap.size ∧ r < w2.heap.size ∧ w.heap.size ≤ w2.heap.size) := Lib.hid (by have := HW1.out; omega)
  obtain ⟨ta, tc, htv⟩ := ho.ints.form
  rw [HN.out] at htv
  subst htv
  clear hb1 hO ho hg8 hb8 HV3 HV2 HR
  refine takeL (.pointer (some ⟨w.heap.size, 3, none⟩)) rfl (by go_simp) ?_
  try simp only [Act.put, List.setIfInBounds_toArray, List.set_cons_succ, List.set_cons_zero]
  refine skipL (w8.setCell ⟨w.heap.size, 3, none⟩ (.slice ta n tc)) rfl (by have q := HV8.out.cell (i := 3) rfl; have fz := HV8.out.frozen 3; go_simp) ?_
  have HO9 : Hid (Only (fun k => k = w.heap.size) w8 (w8.setCell ⟨w.heap.size, 3, none⟩ (.slice ta n tc))) := Lib.hid ((Only.refl (fun k => k = w.heap.size) w8).setCell (p := ⟨w.heap.size, 3, none⟩) (.inl rfl) _)
  have HV9 : Hid (Blk (w8.setCell ⟨w.heap.size, 3, none⟩ (.slice ta n tc)) w.heap.size [.int .i64 a.seg, .int .i64 a.off, .int .u32 a.seq, .slice ta n tc]) := Lib.hid (HV8.out.set 3 (.slice ta n tc))
  have HR9 := Lib.hid (HR8.out.only HO9.out (by have := HW1.out; omega))
  have HT9 := Lib.hid (HT8.out.onlyN HO9.out HLW.out.1)
  have HB9 := Lib.hid (HB8.out.trans (HO9.out.below HB8.out.size fun k hk => Nat.le_of_eq hk.symm))
  generalize w8.setCell ⟨w.heap.size, 3, none⟩ (.slice ta n tc) = w9 at *
  clear HO9 HV8 HR8 HT8 HB8
  try simp only [Act.put, List.setIfInBounds_toArray, List.set_cons_succ, List.set_cons_zero]
  refine wpList_nil ?_
  go_upto_region 2 with fail
  refine wp_region_lit ?_
  refine takeL (.agg #[.int .i64 a.seg, .int .i64 a.off, .int .u32 a.seq, .slice ta n tc]) rfl (by have q0 := HV9.out.cell (i := 0) rfl; have q1 := HV9.out.cell (i := 1) rfl; have q2 := HV9.out.cell (i := 2) rfl; have q3 := HV9.out.cell (i := 3) rfl; go_simp) ?_
  try simp only [Act.put, List.setIfInBounds_toArray, List.set_cons_succ, List.set_cons_zero]
  refine store_all (cs := #[.int .i64 a.seg, .int .i64 a.off, .int .u32 a.seq, .slice ta n tc]) HR9.out rfl info47 (at_one _ _ _ _ _ _) rfl rfl rfl ?_
  intro wA hD hO hlD
  try simp only [Act.put, List.setIfInBounds_toArray, List.set_cons_succ, List.set_cons_zero]
  have HD := Lib.hid hD
  have HTA := Lib.hid (HT9.out.onlyN hO HLW.out.2.1)
  have HBA := Lib.hid (HB9.out.trans (hO.below HB9.out.size fun k hk => by rw [hk]; have := HW1.out; omega))
  clear hD hO hlD
  refine wpList_nil ?_
  go_wp2_with fail
  refine bodyPost_ret (v := .agg #[.int .i64 a.seg, .int .i64 a.off, .int .u32 a.seq, .slice ta n tc]) (results_cell_at rfl _ _ r 0 _ _ rfl Tryz.underlying47 rfl info47 (HD.out.all rfl)) rfl ⟨_, rfl, HTA.out.mono HLW.out.2.2, HBA.out⟩
theorem good_no {g : Pl.Gm} {a : Ja} (h : ¬ (g.Ok ∧ (0 ≤ a.seg ∧ a.seg < g.s) ∧ 0 ≤ a.off ∧ a.off ≤ g.l ∧ freeOk g a.seg a.free = true)) : a.good g = false := by
  rw [← Bool.not_eq_true]
  exact fun k => h (Ja.good_parts k)
set_option maxRecDepth 100000 in
set_option maxHeartbeats 2000000 in
theorem rjgood_any (g : Pl.Gm) (a : Ja) (fv : Value) (n : Nat) (hn : a.free.length = n) (hbig : n ≤ 9223372036854775807) (h : IntsAt w fv a.free) : Calls Tryz.prog 18 #[g.v, .agg #[.int .i64 a.seg, .int .i64 a.off, .int .u32 a.seq, fv]] w fun e w' => e = .returned (.bool (a.good g)) ∧ Below w.heap.size w w' := by
  have HI := Lib.hid h
  have HN := Lib.hid hn
  obtain ⟨fa, fc, hfv⟩ := h.form
  rw [hn] at hfv
  subst hfv
  have hlen : (n : Int) ≤ 9223372036854775807 := by omega
  clear hn hbig h
  go_enter Tryz.func18, Tryz.ntmps18
  go_upto_region 0 with fail
  refine wp_region_lit ?_
  refine box_g rfl rfl ?_
  try simp only [Act.put, List.setIfInBounds_toArray, List.set_cons_succ, List.set_cons_zero]
  intro w1 hV hb hl
  try simp only [Act.put, List.setIfInBounds_toArray, List.set_cons_succ, List.set_cons_zero]
  have HG1 := Lib.hid hV
  have HB1 := Lib.hid hb
  clear hV hb hl
  refine box_g rfl rfl ?_
  try simp only [Act.put, List.setIfInBounds_toArray, List.set_cons_succ, List.set_cons_zero]
  intro w2 hV hb hl
  try simp only [Act.put, List.setIfInBounds_toArray, List.set_cons_succ, List.set_cons_zero]
  have HX2 := Lib.hid hV
  have HG2 := Lib.hid (HG1.out.below hb HG1.out.lt)
  have HB2 := Lib.hid (stay HB1.out hb)
  clear hV hb hl HG1 HB1
  generalize w1.heap.size = xb at *
  refine takeL (.bool false) rfl (by go_simp) ?_
  try simp only [Act.put, List.setIfInBounds_toArray, List.set_cons_succ, List.set_cons_zero]
  refine wpList_nil ?_
  have g0 := HG2.out.cell (i := 0) rfl
  have g1 := HG2.out.cell (i := 1) rfl
  have g2 := HG2.out.cell (i := 2) rfl
  have g3 := HG2.out.cell (i := 3) rfl
  by_cases hok : g.Ok
  rotate_left
  · have HNO : Hid (a.good g = false) := Lib.hid (good_no fun h => hok h.1)
    have HOK := Lib.hid hok
    clear hok
    go_wp2_with fail
    refine (Pl.rgood_no g HOK.out _).mono ?_
    rintro e w3 ⟨rfl, hb⟩
    have HB3 := Lib.hid (stay HB2.out hb)
    clear hb g0 g1 g2 g3
    go_wp2_with fail
    go_ret
    exact ⟨ret_boolJ HNO.out.symm, HB3.out⟩
  have HOK := Lib.hid hok
  clear hok
  go_wp2_with fail
  refine (Pl.rgood_yes g HOK.out _).mono ?_
  rintro e w3 ⟨rfl, hb⟩
  have HB3 := Lib.hid (stay HB2.out hb)
  have HG3 := Lib.hid (HG2.out.below hb HG2.out.lt)
  have HX3 := Lib.hid (HX2.out.below hb HX2.out.lt)
  clear hb g0 g1 g2 g3 HG2 HX2
  have g1 := HG3.out.cell (i := 1) rfl
  have g2 := HG3.out.cell (i := 2) rfl
  have x0 := HX3.out.cell (i := 0) rfl
  have x1 := HX3.out.cell (i := 1) rfl
  have x3 := HX3.out.cell (i := 3) rfl
  by_cases h0 : a.seg < 0
  · have HNO : Hid (a.good g = false) := Lib.hid (good_no fun h => by omega)
    have d0 : decide (a.seg < 0) = true := decide_eq_true h0
    clear h0
    go_wp2_with fail
    go_ret
    exact ⟨ret_boolJ HNO.out.symm, HB3.out⟩
  have d0 : decide (a.seg < 0) = false := decide_eq_false h0
  by_cases h1 : g.s ≤ a.seg
  · have HNO : Hid (a.good g = false) := Lib.hid (good_no fun h => by omega)
    have d1 : decide (g.s ≤ a.seg) = true := decide_eq_true h1
    clear h0 h1
    go_wp2_with fail
    go_ret
    exact ⟨ret_boolJ HNO.out.symm, HB3.out⟩
  have d1 : decide (g.s ≤ a.seg) = false := decide_eq_false h1
  by_cases h2 : a.off < 0
  · have HNO : Hid (a.good g = false) := Lib.hid (good_no fun h => by omega)
    have d2 : decide (a.off < 0) = true := decide_eq_true h2
    clear h0 h1 h2
    go_wp2_with fail
    go_ret
    exact ⟨ret_boolJ HNO.out.symm, HB3.out⟩
  have d2 : decide (a.off < 0) = false := decide_eq_false h2
  by_cases h3 : g.l < a.off
  · have HNO : Hid (a.good g = false) := Lib.hid (good_no fun h => by omega)
    have d3 : decide (g.l < a.off) = true := decide_eq_true h3
    clear h0 h1 h2 h3
    go_wp2_with fail
    go_ret
    exact ⟨ret_boolJ HNO.out.symm, HB3.out⟩
  have d3 : decide (g.l < a.off) = false := decide_eq_false h3
  have HGO : Hid (freeOk g a.seg a.free = true → a.good g = true) := Lib.hid fun h => good_of HOK.out (by unfold isSeg; simp only [Bool.and_eq_true, decide_eq_true_eq]; omega) (by omega) (by omega) h
  have HGN : Hid (freeOk g a.seg a.free = false → a.good g = false) := Lib.hid fun h => good_no fun k => by rw [k.2.2.2.2] at h; cases h
  clear h0 h1 h2 h3
  go_wp2_with fail
  go_loopg [5] n (fun q i wr => ∃ k : Nat, n - k ≤ q ∧ k ≤ n ∧ i = .int .i64 k ∧ (∀ j, j < k → okAt g a.seg a.free j = true) ∧ Below w3.heap.size w3 wr)
  case atStart => exact ⟨0, by omega, by omega, rfl, fun j hj => by omega, Below.refl _ _⟩
  case round =>
    obtain ⟨k, hq, hk, rfl, hall, hb⟩ := hrel
    have HAL := Lib.hid hall
    have HB := Lib.hid hb
    have HGR := Lib.hid (HG3.out.below hb HG3.out.lt)
    have HXR := Lib.hid (HX3.out.below hb HX3.out.lt)
    have HBR := Lib.hid (stay HB3.out hb)
    clear hall hb g1 g2 x0 x1 x3 d0 d1 d2 d3
    have g1 := HGR.out.cell (i := 1) rfl
    have x0 := HXR.out.cell (i := 0) rfl
    have x3 := HXR.out.cell (i := 3) rfl
    by_cases hkn : k < n
    · have gk : decide ((k : Int) < (n : Int)) = true := decide_eq_true (by omega)
      have hk0 : (k : Int) < (n : Int) := by omega
      obtain ⟨x, hx⟩ : ∃ x, a.free[k]? = some x := ⟨_, List.getElem?_eq_getElem (by have := HN.out; omega)⟩
      obtain ⟨b, o, hfa, cx⟩ : ∃ b o, fa = some ⟨b, o, none⟩ ∧ wr.cell? ⟨b, o + k, none⟩ = some (.int .i64 x) := by
        obtain ⟨q', c', e, hc⟩ := HI.out.below HBR.out
        obtain ⟨b2, o2, h1, h2⟩ := hc k x hx
        injection e with e1 e2 e3
        exact ⟨b2, o2, by rw [e1, h1], h2⟩
      subst hfa
      have HXD : Hid (a.free.getD k 0 = x) := Lib.hid (by simp [hx])
      have HLK : Hid (k < a.free.length) := Lib.hid (by have := HN.out; omega)
      clear hx
      by_cases e0 : x < 0
      · have HNO : Hid (a.good g = false) := Lib.hid (HGN.out (freeOk_no HLK.out (by unfold okAt isSeg; rw [HXD.out, decide_eq_false (show ¬ 0 ≤ x by omega)]; rfl)))
        have c0 : decide (x < 0) = true := decide_eq_true e0
        clear e0
        go_wp2_with fail
        go_quiet (fail)
        go_wp2_with fail
        go_ret
        exact ⟨ret_boolJ HNO.out.symm, drewN_below HBR.out _⟩
      have c0 : decide (x < 0) = false := decide_eq_false e0
      by_cases e1 : g.s ≤ x
      · have HNO : Hid (a.good g = false) := Lib.hid (HGN.out (freeOk_no HLK.out (by unfold okAt isSeg; rw [HXD.out, decide_eq_false (show ¬ x < g.s by omega)]; simp)))
        have c1 : decide (g.s ≤ x) = true := decide_eq_true e1
        clear e0 e1
        go_wp2_with fail
        go_quiet (fail)
        go_wp2_with fail
        go_ret
        exact ⟨ret_boolJ HNO.out.symm, drewN_below HBR.out _⟩
      have c1 : decide (g.s ≤ x) = false := decide_eq_false e1
      have HIS : Hid (isSeg g x = true) := Lib.hid (by unfold isSeg; simp only [Bool.and_eq_true, decide_eq_true_eq]; omega)
      clear e0 e1
      by_cases hxs : x = a.seg
      · have HNO : Hid (a.good g = false) := Lib.hid (HGN.out (freeOk_no HLK.out (by unfold okAt; rw [HXD.out, decide_eq_true hxs]; simp)))
        have hxb : (x == a.seg) = true := by simp [hxs]
        clear hxs
        go_wp2_with fail
        go_quiet (fail)
        go_wp2_with fail
        go_ret
        exact ⟨ret_boolJ HNO.out.symm, drewN_below HBR.out _⟩
      have HXS := Lib.hid hxs
      have hxb : (x == a.seg) = false := by simp [hxs]
      clear hxs
      by_cases hk1 : k = 0
      · have HST : Hid (∀ j, j < k + 1 → okAt g a.seg a.free j = true) := Lib.hid (fun j hj => by
          by_cases h : j < k
          · exact HAL.out j h
          · obtain rfl : j = k := by omega
            unfold okAt
            rw [HXD.out, HIS.out, decide_eq_false HXS.out, decide_eq_true hk1]
            rfl)
        have gz : decide (0 < (k : Int)) = false := decide_eq_false (by omega)
        have gz2 : decide (0 < k) = false := decide_eq_false (by omega)
        have gz3 : ¬ 0 < k := by omega
        clear hk1
        go_wp2_with fail
        go_quiet (fail)
        go_wp2_with fail
        go_roundg (n - (k + 1))
        case measure => omega
        case rel => exact ⟨k + 1, by omega, by omega, by go_num, HST.out, drewN_below HB.out _⟩
      · have gz : decide (0 < (k : Int)) = true := decide_eq_true (by omega)
        have gz4 : decide (0 < k) = true := decide_eq_true (by omega)
        obtain ⟨y, hy⟩ : ∃ y, a.free[k - 1]? = some y := ⟨_, List.getElem?_eq_getElem (by have := HN.out; omega)⟩
        obtain ⟨b', o', hbo, cy⟩ : ∃ b' o', (some ⟨b, o, none⟩ : Option Addr) = some ⟨b', o', none⟩ ∧ wr.cell? ⟨b', o' + (k - 1), none⟩ = some (.int .i64 y) := by
          obtain ⟨q', c', e, hc⟩ := HI.out.below HBR.out
          obtain ⟨b2, o2, h1, h2⟩ := hc (k - 1) y hy
          injection e with e1 e2 e3
          exact ⟨b2, o2, by rw [e1, h1], h2⟩
        cases hbo
        have HYD : Hid (a.free.getD (k - 1) 0 = y) := Lib.hid (by simp [hy])
        obtain ⟨m, hm⟩ : ∃ m, k = m + 1 := ⟨k - 1, by omega⟩
        subst hm
        rw [show m + 1 - 1 = m from rfl] at cy HYD
        clear hy
        have hk2 : ((m + 1 : Nat) : Int) - 1 = (m : Int) := by omega
        have hm0 : (m : Int) < (n : Int) := by omega
        have HK1 := Lib.hid hk1
        clear hk1
        by_cases hyx : y < x
        · have HST : Hid (∀ j, j < m + 1 + 1 → okAt g a.seg a.free j = true) := Lib.hid (fun j hj => by
            by_cases h : j < m + 1
            · exact HAL.out j h
            · obtain rfl : j = m + 1 := by omega
              unfold okAt
              rw [HXD.out, HIS.out, decide_eq_false HXS.out, show m + 1 - 1 = m from rfl, HYD.out, decide_eq_true hyx]
              simp)
          have gy : decide (x ≤ y) = false := decide_eq_false (by omega)
          clear hyx
          go_wp2_with fail
          go_quiet (fail)
          go_wp2_with fail
          go_roundg (n - (m + 1 + 1))
          case measure => omega
          case rel => exact ⟨m + 1 + 1, by omega, by omega, by go_num, HST.out, drewN_below HB.out _⟩
        · have HNO : Hid (a.good g = false) := Lib.hid (HGN.out (freeOk_no HLK.out (by unfold okAt; rw [HXD.out, show m + 1 - 1 = m from rfl, HYD.out, decide_eq_false hyx]; simp)))
          have gy : decide (x ≤ y) = true := decide_eq_true (by omega)
          clear hyx
          go_wp2_with fail
          go_quiet (fail)
          go_wp2_with fail
          go_ret
          exact ⟨ret_boolJ HNO.out.symm, drewN_below HBR.out _⟩
    · obtain rfl : k = n := by omega
      have HYES : Hid (a.good g = true) := Lib.hid (HGO.out (freeOk_all fun i hi => HAL.out i (by have := HN.out; omega)))
      have gk : decide ((k : Int) < (k : Int)) = false := decide_eq_false (by omega)
      go_wp2_with fail
      go_ret
      exact ⟨ret_boolJ HYES.out.symm, HBR.out⟩
end

end Go.Proofs.YtmlniannilnmhaaGreatDoor
