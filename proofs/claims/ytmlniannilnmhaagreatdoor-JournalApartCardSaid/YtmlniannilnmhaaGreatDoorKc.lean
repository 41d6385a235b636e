/- JournalFails' walk. -/
import Derived.Test.YtmlniannilnmhaaGreatDoorKl
namespace Go.Proofs.YtmlniannilnmhaaGreatDoor
set_option linter.unusedSimpArgs false
set_option linter.unusedVariables false
open Go.RowKit

theorem field27q (a b c : Int) (x : Option Addr) (n m : Nat) (w : World) : (Instr.field 27 (.agg #[.int .i64 a, .int .i64 b, .int .u32 c, .slice x n m]) 2).run Tryz.prog w = .ok (.int .u32 c) w := by kernel_rfl
def FA (o : Int) : Ja := ⟨1, o, 7, [0, 3]⟩
theorem FA_good {g : Pl.Gm} (h : g.Ok) {o : Int} (h0 : 0 ≤ o) (h1 : o ≤ g.l) : (FA o).good g = true := by
  have hs := h.2.1
  have d0 : decide ((0 : Int) < g.s) = true := decide_eq_true (by omega)
  have d1 : decide ((1 : Int) < g.s) = true := decide_eq_true (by omega)
  have d3 : decide ((3 : Int) < g.s) = true := decide_eq_true (by omega)
  refine good_of h ?_ h0 h1 (freeOk_all fun i hi => ?_)
  · show (decide ((0 : Int) ≤ 1) && decide ((1 : Int) < g.s)) = true
    rw [d1]
    rfl
  · have : i = 0 ∨ i = 1 := by simp only [FA, List.length_cons, List.length_nil] at hi; omega
    rcases this with rfl | rfl
    · show ((decide ((0 : Int) ≤ 0) && decide ((0 : Int) < g.s)) && _ && _) = true
      rw [d0]
      rfl
    · show ((decide ((0 : Int) ≤ 3) && decide ((3 : Int) < g.s)) && _ && _) = true
      rw [d3]
      rfl
theorem FA_next (g : Pl.Gm) (o : Int) (k : Nat) : ∃ a1, nextP g (FA o) k = some a1 := by
  unfold nextP
  split
  · exact ⟨_, rfl⟩
  · exact ⟨_, rfl⟩
section
variable {w : World}
set_option maxRecDepth 100000 in
set_option maxHeartbeats 4000000 in
theorem jfails_any (hv : Vars w) (g : Pl.Gm) (l : List (It × Value)) (nl : l.length ≤ 9223372036854775807) (sv : Value) (hi : ItemsAt w sv l) (x y : Int) (hx : Byte x) (hy : Byte y) : Calls Tryz.prog 7 #[g.v, sv, .agg #[.int .u8 x, .int .u8 y]] w fun e w' => e = .returned (.bool true) ∧ Below w.heap.size w w' := by
  have HV := Lib.hid hv
  have HI := Lib.hid hi
  have HX := Lib.hid hx
  have HY := Lib.hid hy
  obtain ⟨L, hL⟩ : ∃ L, l.map (·.1) = L := ⟨_, rfl⟩
  have HFA := Lib.hid fun w h => fair_any l l.length rfl nl sv w h
  rw [hL] at HFA
  have HFL := Lib.hid fun (h : fair L = true) => show l.length ≤ 100 by have := fair_len h; rw [← hL, List.length_map] at this; exact this
  obtain ⟨fr, hfr⟩ : ∃ x, fair L = x := ⟨_, rfl⟩
  rw [hfr] at HFA HFL
  have HLL := Lib.hid hL
  obtain ⟨sa, sc, hsv⟩ := items_one hi
  obtain ⟨m, hm⟩ : ∃ m, l.length = m := ⟨_, rfl⟩
  rw [hm] at hsv HFL
  subst hsv
  have HM := Lib.hid hm
  clear hv hi hx hy hfr hL hm nl
  go_enter Tryz.func7, Tryz.ntmps7
  go_upto_region 0 with fail
  refine wp_region_lit ?_
  refine box_g rfl rfl ?_
  try simp only [Act.put, List.setIfInBounds_toArray, List.set_cons_succ, List.set_cons_zero]
  intro w1 hV hb hl
  try simp only [Act.put, List.setIfInBounds_toArray, List.set_cons_succ, List.set_cons_zero]
  have HG1 := Lib.hid hV
  have HB1 := Lib.hid hb
  clear hV hb hl
  refine box_g rfl rfl ?_
  try simp only [Act.put, List.setIfInBounds_toArray, List.set_cons_succ, List.set_cons_zero]
  intro w2 hV hb hl
  try simp only [Act.put, List.setIfInBounds_toArray, List.set_cons_succ, List.set_cons_zero]
  have HN2 := Lib.hid hV
  have HG2 := Lib.hid (HG1.out.below hb HG1.out.lt)
  have HB2 := Lib.hid (stay HB1.out hb)
  have HI2 := Lib.hid (HI.out.below HB2.out)
  have HV2 := Lib.hid (Vars.below (Nat.le_refl _) HB2.out HV.out)
  clear hV hb hl HG1 HB1
  generalize w1.heap.size = nbk at *
  refine takeL (.bool false) rfl (by go_simp) ?_
  try simp only [Act.put, List.setIfInBounds_toArray, List.set_cons_succ, List.set_cons_zero]
  refine wpList_nil ?_
  go_wp2_with fail
  refine (HFA.out _ HI2.out).mono ?_
  rintro e w3 ⟨rfl, rfl⟩
  cases fr
  · go_wp2_with fail
    refine (wakes_any HV2.out).mono ?_
    rintro e w3 ⟨rfl, hb⟩
    have HB3 := Lib.hid (stay HB2.out hb)
    clear hb
    go_wp2_with fail
    go_ret
    exact ⟨rfl, HB3.out⟩
  have q0 := HG2.out.cell (i := 0) rfl
  have q1 := HG2.out.cell (i := 1) rfl
  have q2 := HG2.out.cell (i := 2) rfl
  have q3 := HG2.out.cell (i := 3) rfl
  by_cases hok : g.Ok
  rotate_left
  · have HOK := Lib.hid hok
    clear hok
    go_wp2_with fail
    refine (Pl.rgood_no g HOK.out _).mono ?_
    rintro e w3 ⟨rfl, hb⟩
    have HB3 := Lib.hid (stay HB2.out hb)
    clear hb q0 q1 q2 q3
    go_wp2_with fail
    refine (wakes_any (Vars.below (Nat.le_refl _) HB3.out HV.out)).mono ?_
    rintro e w4 ⟨rfl, hb⟩
    have HB4 := Lib.hid (stay HB3.out hb)
    clear hb
    go_wp2_with fail
    go_ret
    exact ⟨rfl, HB4.out⟩
  have HOK := Lib.hid hok
  have hgl := hok.2.2.1
  clear hok
  go_wp2_with fail
  refine (Pl.rgood_yes g HOK.out _).mono ?_
  rintro e w3 ⟨rfl, hb⟩
  have HB3 := Lib.hid (stay HB2.out hb)
  have HG3 := Lib.hid (HG2.out.below hb HG2.out.lt)
  have HN3 := Lib.hid (HN2.out.below hb HN2.out.lt)
  clear hb q0 q1 q2 q3 HG2 HN2 HV2 HI2
  have HSZ := Lib.hid fun w h => rsize_of l L HLL.out (by rw [HM.out]; have := HFL.out trivial; omega) (.slice sa m sc) (fun w h => by rw [← HLL.out]; exact rgoodG_any l m HM.out _ (by have := HFL.out trivial; omega) w h) w h
  go_wp2_with fail
  refine (HSZ.out _ (HI.out.below HB3.out)).mono ?_
  rintro e w4 ⟨rfl, hb⟩
  have HB4 := Lib.hid (stay HB3.out hb)
  have HG4 := Lib.hid (HG3.out.below hb HG3.out.lt)
  have HN4 := Lib.hid (HN3.out.below hb HN3.out.lt)
  have HV4 := Lib.hid (Vars.below (Nat.le_refl _) HB4.out HV.out)
  clear hb HG3 HN3 HB3
  cases hmb : mayBe L
  · have hz : sizeOf' L = 0 := by unfold sizeOf'; rw [hmb]; rfl
    rw [hz]
    clear hz hmb
    go_wp2_with fail
    refine (wakes_any HV4.out).mono ?_
    rintro e w5 ⟨rfl, hb⟩
    have HB5 := Lib.hid (stay HB4.out hb)
    clear hb
    go_wp2_with fail
    go_ret
    exact ⟨rfl, HB5.out⟩
  rw [size_lay hmb 7]
  have hpos := lay2_pos hmb 7
  have HMB := Lib.hid hmb
  obtain ⟨k, hk⟩ : ∃ k, (lay2 7 L).1.length = k := ⟨_, rfl⟩
  rw [hk] at hpos ⊢
  have HK := Lib.hid hk
  clear hk hmb
  have k0 : ((k : Int) == 0) = false := by rw [beq_eq_false_iff_ne]; omega
  have q2 := HG4.out.cell (i := 2) rfl
  by_cases hkl : g.l < (k : Int)
  · have dk : decide (g.l < (k : Int)) = true := decide_eq_true hkl
    go_wp2_with fail
    refine (wakes_any HV4.out).mono ?_
    rintro e w5 ⟨rfl, hb⟩
    have HB5 := Lib.hid (stay HB4.out hb)
    clear hb
    go_wp2_with fail
    go_ret
    exact ⟨rfl, HB5.out⟩
  have dk : decide (g.l < (k : Int)) = false := decide_eq_false hkl
  have q0 := HG4.out.cell (i := 0) rfl
  have q1 := HG4.out.cell (i := 1) rfl
  have q3 := HG4.out.cell (i := 3) rfl
  go_upto_region 6 with fail
  refine wp_region_lit ?_
  refine takeL (.agg #[.int .i64 g.p, .int .i64 g.s, .int .i64 g.l, .int .i64 g.f]) rfl (by go_simp) ?_
  try simp only [Act.put, List.setIfInBounds_toArray, List.set_cons_succ, List.set_cons_zero]
  refine wpList_op rfl fun K hK => ?_
  go_simp
  refine (Pl.rof_yes g HOK.out _).mono ?_
  rintro e w5 ⟨rfl, hb⟩
  have HB5 := Lib.hid (stay HB4.out hb)
  have HG5 := Lib.hid (HG4.out.below hb HG4.out.lt)
  have HN5 := Lib.hid (HN4.out.below hb HN4.out.lt)
  have HV5 := Lib.hid (Vars.below (Nat.le_refl _) HB5.out HV.out)
  have HI5 := Lib.hid (HI.out.below HB5.out)
  obtain ⟨t, ht, ht1, ht2⟩ := Pl.Gm.total HOK.out
  rw [ht]
  have HT := Lib.hid ht
  have HTB : Hid (1 ≤ t ∧ t ≤ 1024) := Lib.hid ⟨ht1, ht2⟩
  have HKL : Hid (1 ≤ k ∧ (k : Int) ≤ g.l ∧ 24 ≤ g.l ∧ g.l ≤ 32) := Lib.hid ⟨hpos, by omega, hgl⟩
  clear hb q0 q1 q2 q3 HG4 HN4 HV4 HB4 ht ht1 ht2 hgl hpos hkl k0 dk
  refine hK _ _ ?_
  clear hK K
  try simp only [Act.put, List.setIfInBounds_toArray, List.set_cons_succ, List.set_cons_zero]
  refine takeL (.int .i64 (t : Int)) rfl (by have z := Pl.field32 g.maps t g.cap w5; simp only [execOp, Act.eval, Sem.run_bind]; go_simp) ?_
  try simp only [Act.put, List.setIfInBounds_toArray, List.set_cons_succ, List.set_cons_zero]
  refine wpList_op rfl fun K hK => ?_
  go_simp
  refine (De.dv_new w5 _ (Below.refl _ _) t HTB.out).mono ?_
  rintro e w6 ⟨b, F, rfl, hdv, hb, hF⟩
  have HB6 := Lib.hid (stay HB5.out hb)
  have HG6 := Lib.hid (HG5.out.below hb HG5.out.lt)
  have HN6 := Lib.hid (HN5.out.below hb HN5.out.lt)
  have HD6 := Lib.hid hdv
  clear hb hdv hF HG5 HN5
  obtain ⟨o, ho⟩ : ∃ o, x % (g.l + 1) = o := ⟨_, rfl⟩
  have ho0 : 0 ≤ o ∧ o ≤ g.l := by
    have := HKL.out
    have h1 := Int.emod_nonneg x (show g.l + 1 ≠ 0 by omega)
    have h2 := Int.emod_lt_of_pos x (show 0 < g.l + 1 by omega)
    omega
  have HOO := Lib.hid ho0
  have gx : Hid (IntKind.i64.wrap x = x) := Lib.hid (wrap64 (by have := HX.out.1; omega) (by have := HX.out.2; omega))
  have gy : Hid (IntKind.i64.wrap y = y) := Lib.hid (wrap64 (by have := HY.out.1; omega) (by have := HY.out.2; omega))
  have gl1 : Hid (IntKind.i64.wrap (g.l + 1) = g.l + 1) := Lib.hid (wrap64 (by have := HKL.out; omega) (by have := HKL.out; omega))
  have gk1 : Hid (IntKind.i64.wrap ((k : Int) + 1) = (k : Int) + 1) := Lib.hid (wrap64 (by omega) (by have := HKL.out; omega))
  have glz : Hid (¬ g.l + 1 = 0) := Lib.hid (by have := HKL.out; omega)
  have gkz : Hid (¬ (k : Int) + 1 = 0) := Lib.hid (by omega)
  have gr : Hid (x.tmod (g.l + 1) = o) := Lib.hid (by rw [Int.tmod_eq_emod_of_nonneg HX.out.1, ho])
  clear ho ho0
  refine hK _ _ ?_
  clear hK K
  try simp only [Act.put, List.setIfInBounds_toArray, List.set_cons_succ, List.set_cons_zero]
  refine takeL (.tuple #[.pointer (some ⟨b, 0, none⟩), .int .i64 0]) rfl (by go_simp) ?_
  try simp only [Act.put, List.setIfInBounds_toArray, List.set_cons_succ, List.set_cons_zero]
  refine takeL (.pointer (some ⟨b, 0, none⟩)) rfl (by go_simp) ?_
  try simp only [Act.put, List.setIfInBounds_toArray, List.set_cons_succ, List.set_cons_zero]
  refine takeL (.int .i64 0) rfl (by go_simp) ?_
  try simp only [Act.put, List.setIfInBounds_toArray, List.set_cons_succ, List.set_cons_zero]
  refine takeL (.pointer (some ⟨b, 0, none⟩)) rfl (by go_simp) ?_
  try simp only [Act.put, List.setIfInBounds_toArray, List.set_cons_succ, List.set_cons_zero]
  refine takeL (.int .i64 0) rfl (by go_simp) ?_
  try simp only [Act.put, List.setIfInBounds_toArray, List.set_cons_succ, List.set_cons_zero]
  refine wpList_nil ?_
  go_upto_region 7 with fail
  refine wp_region_lit ?_
  refine takeL (.pointer (some ⟨nbk, 0, none⟩)) rfl (by go_simp) ?_
  try simp only [Act.put, List.setIfInBounds_toArray, List.set_cons_succ, List.set_cons_zero]
  refine takeL (.int .u8 x) rfl (by have q := HN6.out.cell (i := 0) rfl; go_simp) ?_
  try simp only [Act.put, List.setIfInBounds_toArray, List.set_cons_succ, List.set_cons_zero]
  refine takeL (.int .i64 x) rfl (by have z := gx.out; go_simp) ?_
  try simp only [Act.put, List.setIfInBounds_toArray, List.set_cons_succ, List.set_cons_zero]
  refine takeL (.pointer (some ⟨w.heap.size, 2, none⟩)) rfl (by go_simp) ?_
  try simp only [Act.put, List.setIfInBounds_toArray, List.set_cons_succ, List.set_cons_zero]
  refine takeL (.int .i64 g.l) rfl (by have q := HG6.out.cell (i := 2) rfl; go_simp) ?_
  try simp only [Act.put, List.setIfInBounds_toArray, List.set_cons_succ, List.set_cons_zero]
  refine takeL (.int .i64 (g.l + 1)) rfl (by have z := gl1.out; go_simp) ?_
  try simp only [Act.put, List.setIfInBounds_toArray, List.set_cons_succ, List.set_cons_zero]
  refine takeL (.int .i64 o) rfl (by have z := gr.out; have z0 := glz.out; go_simp) ?_
  try simp only [Act.put, List.setIfInBounds_toArray, List.set_cons_succ, List.set_cons_zero]
  refine wpList_run (.slice (some ⟨w6.heap.size, 0, none⟩) 2 2) (w6.alloc (.cells #[.int .i64 0, .int .i64 3] 3)) rfl (by go_simp) ?_
  try simp only [Act.put, List.setIfInBounds_toArray, List.set_cons_succ, List.set_cons_zero]
  have HI7 : Hid (IntsAt (w6.alloc (.cells #[.int .i64 0, .int .i64 3] 3)) (.slice (some ⟨w6.heap.size, 0, none⟩) 2 2) [0, 3]) := Lib.hid (OwnN.lit w6 w6.heap.size (Nat.le_refl _) [0, 3] (by decide) _ rfl).ints
  have hb7 := alloc_bel w6 (.cells #[.int .i64 0, .int .i64 3] 3)
  have HB7 := Lib.hid (stay HB6.out hb7)
  have HG7 := Lib.hid (HG6.out.below hb7 HG6.out.lt)
  have HN7 := Lib.hid (HN6.out.below hb7 HN6.out.lt)
  have HD7 := Lib.hid (HD6.out.below hb7)
  have HF7 : Hid (∀ k, F k → k < w6.heap.size) := Lib.hid fun k hk => (HD6.out.lt k hk).2
  have HL7 : Hid (w6.heap.size < (w6.alloc (.cells #[.int .i64 0, .int .i64 3] 3)).heap.size) := Lib.hid (by simp)
  generalize w6.alloc (.cells #[.int .i64 0, .int .i64 3] 3) = w7 at *
  generalize w6.heap.size = gI at *
  clear hb7 HB6 HG6 HN6 HD6
  refine takeL (.agg #[.int .i64 1, .int .i64 o, .int .u32 7, .slice (some ⟨gI, 0, none⟩) 2 2]) rfl (exec_build _ _ _ _ 27 _ rfl #[(0, .int .i64 1), (1, .int .i64 o), (2, .int .u32 7), (3, .slice (some ⟨gI, 0, none⟩) 2 2)] (by simp only [List.map_toArray, List.map_cons, List.map_nil]; rfl) _ (run_build w7 27 _ _ (built27 _ _ _ _ _ _))) ?_
  try simp only [Act.put, List.setIfInBounds_toArray, List.set_cons_succ, List.set_cons_zero]
  refine alloc_g zero27 rfl ?_
  intro w8 hA hb hl
  try simp only [Act.put, List.setIfInBounds_toArray, List.set_cons_succ, List.set_cons_zero]
  refine store_all (cs := #[.int .i64 1, .int .i64 o, .int .u32 7, .slice (some ⟨gI, 0, none⟩) 2 2]) hA rfl info27 (at_one _ _ _ _ _ _) rfl rfl rfl ?_
  intro w9 hD hO hlD
  try simp only [Act.put, List.setIfInBounds_toArray, List.set_cons_succ, List.set_cons_zero]
  have hbb : Below w7.heap.size w7 w9 := hb.trans (hO.below hb.size fun k hk => Nat.le_of_eq hk.symm)
  have HA9 := Lib.hid hD
  have HB9 := Lib.hid (stay HB7.out hbb)
  have HG9 := Lib.hid (HG7.out.below hbb HG7.out.lt)
  have HN9 := Lib.hid (HN7.out.below hbb HN7.out.lt)
  have HD9 := Lib.hid (HD7.out.below hbb)
  have HI9 := Lib.hid (HI7.out.below hbb)
  have HSA : Hid (w7.heap.size < w9.heap.size ∧ gI < w9.heap.size ∧ gI < w7.heap.size) := Lib.hid (by have := HL7.out; omega)
  generalize w7.heap.size = ab at *
  clear hA hb hl hD hO hlD hbb HB7 HG7 HN7 HD7 HI7 HL7
  refine wpList_nil ?_
  have HFG := Lib.hid (FA_good HOK.out HOO.out.1 HOO.out.2)
  have HFT : Hid (fits g (FA o) (De.newD t).S.length = true) := Lib.hid (by
    unfold fits
    rw [HFG.out, newD_len, decide_eq_true (by have := HT.out; omega)]
    rfl)
  go_upto_region 8 with fail
  refine wp_region_lit ?_
  refine takeL (.pointer (some ⟨b, 0, none⟩)) rfl (by go_simp) ?_
  try simp only [Act.put, List.setIfInBounds_toArray, List.set_cons_succ, List.set_cons_zero]
  refine takeL (.agg #[.int .i64 g.p, .int .i64 g.s, .int .i64 g.l, .int .i64 g.f]) rfl (by have q0 := HG9.out.cell (i := 0) rfl; have q1 := HG9.out.cell (i := 1) rfl; have q2 := HG9.out.cell (i := 2) rfl; have q3 := HG9.out.cell (i := 3) rfl; go_simp) ?_
  try simp only [Act.put, List.setIfInBounds_toArray, List.set_cons_succ, List.set_cons_zero]
  refine takeL (.agg #[.int .i64 1, .int .i64 o, .int .u32 7, .slice (some ⟨gI, 0, none⟩) 2 2]) rfl (by have q0 := HA9.out.cell (i := 0) rfl; have q1 := HA9.out.cell (i := 1) rfl; have q2 := HA9.out.cell (i := 2) rfl; have q3 := HA9.out.cell (i := 3) rfl; go_simp) ?_
  try simp only [Act.put, List.setIfInBounds_toArray, List.set_cons_succ, List.set_cons_zero]
  refine wpList_op rfl fun K hK => ?_
  go_simp
  refine (new_yes (W := w5) b F (De.newD t) (by rw [newD_len]; have := HTB.out; omega) g (FA o) (.slice (some ⟨gI, 0, none⟩) 2 2) (show ([0, 3] : List Int).length ≤ 9223372036854775807 from by decide) HFT.out (seqN 7 (by decide)) _ HI9.out HD9.out).mono ?_
  rintro e wA ⟨jb, tv, rfl, hj, hle, hb⟩
  have HJA := Lib.hid hj
  have HSB : Hid (Safe wA F jb ab ∧ Safe wA F jb gI) := Lib.hid ⟨⟨by have := hb.size; have := HSA.out; omega, fun hF => by have := HF7.out _ hF; have := HSA.out; omega, by have := HSA.out; omega⟩, ⟨by have := hb.size; have := HSA.out; omega, fun hF => by have := HF7.out _ hF; omega, by have := HSA.out; omega⟩⟩
  have HAA := Lib.hid (HA9.out.below hb HA9.out.lt)
  have HGA := Lib.hid (HG9.out.below hb HG9.out.lt)
  have HNA := Lib.hid (HN9.out.below hb HN9.out.lt)
  have HIA := Lib.hid (HI9.out.below hb)
  clear hj hle hb HA9 HG9 HN9 HI9 HB9 HD9 HF7 HSA HFT
  refine hK _ _ ?_
  clear hK K
  try simp only [Act.put, List.setIfInBounds_toArray, List.set_cons_succ, List.set_cons_zero]
  refine takeL (.tuple #[.pointer (some ⟨jb, 0, none⟩), .int .i64 0]) rfl (by go_simp) ?_
  try simp only [Act.put, List.setIfInBounds_toArray, List.set_cons_succ, List.set_cons_zero]
  refine takeL (.pointer (some ⟨jb, 0, none⟩)) rfl (by go_simp) ?_
  try simp only [Act.put, List.setIfInBounds_toArray, List.set_cons_succ, List.set_cons_zero]
  refine takeL (.int .i64 0) rfl (by go_simp) ?_
  try simp only [Act.put, List.setIfInBounds_toArray, List.set_cons_succ, List.set_cons_zero]
  refine takeL (.pointer (some ⟨jb, 0, none⟩)) rfl (by go_simp) ?_
  try simp only [Act.put, List.setIfInBounds_toArray, List.set_cons_succ, List.set_cons_zero]
  refine takeL (.int .i64 0) rfl (by go_simp) ?_
  try simp only [Act.put, List.setIfInBounds_toArray, List.set_cons_succ, List.set_cons_zero]
  refine wpList_nil ?_
  obtain ⟨c, hc⟩ : ∃ c, y % ((k : Int) + 1) = c := ⟨_, rfl⟩
  have hc0 : 0 ≤ c ∧ c ≤ (k : Int) := by
    have h1 := Int.emod_nonneg y (show (k : Int) + 1 ≠ 0 by omega)
    have h2 := Int.emod_lt_of_pos y (show 0 < (k : Int) + 1 by omega)
    omega
  have HCC := Lib.hid hc0
  have gs : Hid (y.tmod ((k : Int) + 1) = c) := Lib.hid (by rw [Int.tmod_eq_emod_of_nonneg HY.out.1, hc])
  clear hc hc0
  go_upto_region 11 with fail
  refine wp_region_lit ?_
  refine takeL (.pointer (some ⟨nbk, 1, none⟩)) rfl (by go_simp) ?_
  try simp only [Act.put, List.setIfInBounds_toArray, List.set_cons_succ, List.set_cons_zero]
  refine takeL (.int .u8 y) rfl (by have q := HNA.out.cell (i := 1) rfl; go_simp) ?_
  try simp only [Act.put, List.setIfInBounds_toArray, List.set_cons_succ, List.set_cons_zero]
  refine takeL (.int .i64 y) rfl (by have z := gy.out; go_simp) ?_
  try simp only [Act.put, List.setIfInBounds_toArray, List.set_cons_succ, List.set_cons_zero]
  refine takeL (.int .i64 k) rfl (by go_simp) ?_
  try simp only [Act.put, List.setIfInBounds_toArray, List.set_cons_succ, List.set_cons_zero]
  refine takeL (.int .i64 ((k : Int) + 1)) rfl (by have z := gk1.out; go_simp) ?_
  try simp only [Act.put, List.setIfInBounds_toArray, List.set_cons_succ, List.set_cons_zero]
  refine takeL (.int .i64 c) rfl (by have z := gs.out; have z0 := gkz.out; go_simp) ?_
  try simp only [Act.put, List.setIfInBounds_toArray, List.set_cons_succ, List.set_cons_zero]
  refine takeL (.int .i64 c) rfl (by go_simp) ?_
  try simp only [Act.put, List.setIfInBounds_toArray, List.set_cons_succ, List.set_cons_zero]
  refine wpList_nil ?_
  go_upto_region 12 with fail
  refine wp_region_lit ?_
  refine takeL (.pointer (some ⟨b, 0, none⟩)) rfl (by go_simp) ?_
  try simp only [Act.put, List.setIfInBounds_toArray, List.set_cons_succ, List.set_cons_zero]
  refine takeL (.int .i64 c) rfl (by go_simp) ?_
  try simp only [Act.put, List.setIfInBounds_toArray, List.set_cons_succ, List.set_cons_zero]
  refine wpList_op rfl fun K hK => ?_
  go_simp
  refine (fail_law HJA.out c (by have := HCC.out; have := HKL.out; exact ⟨by omega, by omega⟩)).mono ?_
  rintro e wB ⟨F1, rfl, hj, ho, hn⟩
  have HJB := Lib.hid hj
  have HSB2 : Hid (Safe wB F1 jb ab ∧ Safe wB F1 jb gI) := Lib.hid ⟨HSB.out.1.dev ho hn, HSB.out.2.dev ho hn⟩
  have HAB := Lib.hid (HSB.out.1.blk (ho.more fun _ _ h => .inl h) HAA.out)
  have HIB := Lib.hid (HIA.out.onlyF ho fun b' o n c e hF => by cases e; exact HSB.out.2.2.1 hF)
  clear hj ho hn HSB HAA HIA HNA HGA HJA
  refine hK _ _ ?_
  clear hK K
  try simp only [Act.put, List.setIfInBounds_toArray, List.set_cons_succ, List.set_cons_zero]
  refine wpList_nil ?_
  have hst := jput_stops (g := g) (a := FA o) (d := { De.newD t with F := c }) (L := L) HFG.out (laid_of HMB.out (by show ((lay2 7 L).1.length : Int) ≤ g.l; rw [HK.out]; exact HKL.out.2.1)) (FA_next g o _).choose_spec (by show 4 + g.s * g.l ≤ ((De.newD t).S.length : Int); rw [newD_len]; exact Int.le_of_eq HT.out) (by show 0 ≤ c ∧ c ≤ (((lay2 7 L).1.length : Nat) : Int); rw [HK.out]; exact HCC.out)
  have hln := jput_len (g := g) (a := FA o) { De.newD t with F := c } (L := L) (by have := HKL.out; omega)
  go_upto_region 13 with fail
  refine wp_region_lit ?_
  refine takeL (.pointer (some ⟨jb, 0, none⟩)) rfl (by go_simp) ?_
  try simp only [Act.put, List.setIfInBounds_toArray, List.set_cons_succ, List.set_cons_zero]
  refine takeL (.slice sa m sc) rfl (by go_simp) ?_
  try simp only [Act.put, List.setIfInBounds_toArray, List.set_cons_succ, List.set_cons_zero]
  refine wpList_op rfl fun K hK => ?_
  go_simp
  refine (put_law HJB.out HV5.out l L HLL.out _ (by rw [HM.out]; have := HFL.out trivial; omega) HI5.out (by show (De.newD t).S.length ≤ 1024; rw [newD_len]; exact HTB.out.2) (Nat.zero_le _) (Nat.zero_le _)).mono ?_
  rintro e wC ⟨pv, rfl, F2, fv2, ho, hj, hon, hn, hpa⟩
  obtain ⟨p1, p2, p3, p4, p5, p6⟩ := hst
  obtain ⟨n1, n2, n3⟩ := hln
  rw [p1]
  rw [p2] at ho
  rw [p3] at hj
  have HJC := Lib.hid hj
  have HSC : Hid (Safe wC F2 jb ab ∧ Safe wC F2 jb gI) := Lib.hid ⟨HSB2.out.1.next hon hn, HSB2.out.2.next hon hn⟩
  have HAC := Lib.hid (HSB2.out.1.blk hon HAB.out)
  have HIC := Lib.hid (HIB.out.onlyF hon fun b' o n c e hF => by
    cases e
    rcases hF with hF | hF
    · exact HSB2.out.2.2.1 hF
    · exact HSB2.out.2.2.2 hF)
  generalize (jput g (FA o) { De.newD t with F := c } L).d = D1 at *
  have HTC : Hid ((D1.T : Int) = c) := Lib.hid (by rw [p4]; show ((0 : Nat) : Int) + c = c; omega)
  have HDC : Hid (D1.S.length = t ∧ D1.T ≤ 1025 ∧ D1.L.length ≤ 1024 ∧ D1.F = -1) := Lib.hid ⟨by rw [n1]; exact newD_len t, by have : D1.T ≤ 0 + 1025 := n2; omega, by have : D1.L.length ≤ 0 + 1024 := n3; omega, p6⟩
  obtain ⟨pa, pc, hpv⟩ := ho.ints.form
  simp only [List.length_nil] at hpv
  subst hpv
  clear ho hj hon hn hpa p1 p2 p3 p4 p5 p6 n1 n2 n3 HSB2 HAB HIB HJB
  refine hK _ _ ?_
  clear hK K
  try simp only [Act.put, List.setIfInBounds_toArray, List.set_cons_succ, List.set_cons_zero]
  refine takeL (.tuple #[.slice pa 0 pc, .int .i64 12]) rfl (by go_simp) ?_
  try simp only [Act.put, List.setIfInBounds_toArray, List.set_cons_succ, List.set_cons_zero]
  refine takeL (.slice pa 0 pc) rfl (by go_simp) ?_
  try simp only [Act.put, List.setIfInBounds_toArray, List.set_cons_succ, List.set_cons_zero]
  refine takeL (.int .i64 12) rfl (by go_simp) ?_
  try simp only [Act.put, List.setIfInBounds_toArray, List.set_cons_succ, List.set_cons_zero]
  refine takeL (.slice pa 0 pc) rfl (by go_simp) ?_
  try simp only [Act.put, List.setIfInBounds_toArray, List.set_cons_succ, List.set_cons_zero]
  refine takeL (.int .i64 12) rfl (by go_simp) ?_
  try simp only [Act.put, List.setIfInBounds_toArray, List.set_cons_succ, List.set_cons_zero]
  refine wpList_nil ?_
  go_upto_region 14 with fail
  refine startH (fun wq => Below wC.heap.size wC wq) (by kernel_rfl) ?_
  have HS0 : Hid (Below wC.heap.size wC wC.drew) := Lib.hid (Below.refl _ _).drew
  generalize wC.drew = u0 at *
  refine takeH 0 (some 82) (.int .i64 12) rfl rfl (by kernel_rfl) (by kernel_rfl) (by kernel_rfl) (fun _ _ _ h => h) rfl (fun wq hS => by go_simp) HS0.out ?_
  try simp only [Act.put, List.setIfInBounds_toArray, List.set_cons_succ, List.set_cons_zero]
  refine takeH 1 (some 83) (.bool false) rfl rfl (by kernel_rfl) (by kernel_rfl) (by kernel_rfl) (fun _ _ _ h => h) rfl (fun wq hS => by go_simp) HS0.out ?_
  try simp only [Act.put, List.setIfInBounds_toArray, List.set_cons_succ, List.set_cons_zero]
  refine takeH 2 (some 84) (.bool false) rfl rfl (by kernel_rfl) (by kernel_rfl) (by kernel_rfl) (fun _ _ _ h => h) rfl (fun wq hS => by go_simp) HS0.out ?_
  try simp only [Act.put, List.setIfInBounds_toArray, List.set_cons_succ, List.set_cons_zero]
  refine takeH 3 (some 85) (.slice pa 0 pc) rfl rfl (by kernel_rfl) (by kernel_rfl) (by kernel_rfl) (fun _ _ _ h => h) rfl (fun wq hS => by go_simp) HS0.out ?_
  try simp only [Act.put, List.setIfInBounds_toArray, List.set_cons_succ, List.set_cons_zero]
  refine takeH 4 (some 86) (.int .i64 0) rfl rfl (by kernel_rfl) (by kernel_rfl) (by kernel_rfl) (fun _ _ _ h => h) rfl (fun wq hS => by go_simp) HS0.out ?_
  try simp only [Act.put, List.setIfInBounds_toArray, List.set_cons_succ, List.set_cons_zero]
  refine takeH 5 (some 87) (.bool false) rfl rfl (by kernel_rfl) (by kernel_rfl) (by kernel_rfl) (fun _ _ _ h => h) rfl (fun wq hS => by go_simp) HS0.out ?_
  try simp only [Act.put, List.setIfInBounds_toArray, List.set_cons_succ, List.set_cons_zero]
  refine takeH 6 (some 88) (.bool false) rfl rfl (by kernel_rfl) (by kernel_rfl) (by kernel_rfl) (fun _ _ _ h => h) rfl (fun wq hS => by go_simp) HS0.out ?_
  try simp only [Act.put, List.setIfInBounds_toArray, List.set_cons_succ, List.set_cons_zero]
  refine takeH 7 (some 89) (.bool false) rfl rfl (by kernel_rfl) (by kernel_rfl) (by kernel_rfl) (fun _ _ _ h => h) rfl (fun wq hS => by go_simp) HS0.out ?_
  try simp only [Act.put, List.setIfInBounds_toArray, List.set_cons_succ, List.set_cons_zero]
  refine takeH 8 (some 90) (.pointer (some ⟨jb, 0, none⟩)) rfl rfl (by kernel_rfl) (by kernel_rfl) (by kernel_rfl) (fun _ _ _ h => h) rfl (fun wq hS => by go_simp) HS0.out ?_
  try simp only [Act.put, List.setIfInBounds_toArray, List.set_cons_succ, List.set_cons_zero]
  refine takeH 10 (some 92) (.agg #[.int .i64 1, .int .i64 o, .int .u32 7, .slice (some ⟨gI, 0, none⟩) 2 2]) rfl rfl (by kernel_rfl) (by kernel_rfl) (by kernel_rfl) (fun _ _ _ h => h) rfl (fun wq hS => by have q := HAC.out.below hS HAC.out.lt; have q0 := q.cell (i := 0) rfl; have q1 := q.cell (i := 1) rfl; have q2 := q.cell (i := 2) rfl; have q3 := q.cell (i := 3) rfl; go_simp) HS0.out ?_
  try simp only [Act.put, List.setIfInBounds_toArray, List.set_cons_succ, List.set_cons_zero]
  refine oneH 9 (by kernel_rfl) rfl rfl fun K hK => ?_
  go_simp
  refine (at_any (HJC.out.below HS0.out)).mono ?_
  rintro e u1 ⟨tv, rfl, hot, hb⟩
  have HS1 := Lib.hid (stay HS0.out hb)
  have HT1 := Lib.hid hot.ints
  refine hK _ _ HS1.out ?_
  clear hK K hb hot
  try simp only [Act.put, List.setIfInBounds_toArray, List.set_cons_succ, List.set_cons_zero]
  refine oneH 11 (by kernel_rfl) rfl rfl fun K hK => ?_
  go_simp
  refine (lown_any (FA o) (.slice (some ⟨gI, 0, none⟩) 2 2) (show ([0, 3] : List Int).length ≤ 1000000 from by decide) (HIC.out.below HS1.out)).mono ?_
  rintro e u2 ⟨tv2, rfl, hot, hb⟩
  have HS2 := Lib.hid (stay HS1.out hb)
  have HT2 := Lib.hid hot.ints
  have HT12 := Lib.hid (HT1.out.below hb)
  refine hK _ _ HS2.out ?_
  clear hK K hb hot HT1
  try simp only [Act.put, List.setIfInBounds_toArray, List.set_cons_succ, List.set_cons_zero]
  refine oneH 12 (by kernel_rfl) rfl rfl fun K hK => ?_
  go_simp
  refine (same_yes (FA o) tv tv2 (show ([0, 3] : List Int).length ≤ 1000 from by decide) HT12.out HT2.out).mono ?_
  rintro e u3 ⟨rfl, hb⟩
  have HS3 := Lib.hid (stay HS2.out hb)
  refine hK _ _ HS3.out ?_
  clear hK K hb HT12 HT2
  try simp only [Act.put, List.setIfInBounds_toArray, List.set_cons_succ, List.set_cons_zero]
  refine takeH 13 (some 95) (.bool false) rfl rfl (by kernel_rfl) (by kernel_rfl) (by kernel_rfl) (fun _ _ _ h => h) rfl (fun wq hS => by go_simp) HS3.out ?_
  try simp only [Act.put, List.setIfInBounds_toArray, List.set_cons_succ, List.set_cons_zero]
  refine takeH 14 (some 96) (.bool false) rfl rfl (by kernel_rfl) (by kernel_rfl) (by kernel_rfl) (fun _ _ _ h => h) rfl (fun wq hS => by go_simp) HS3.out ?_
  try simp only [Act.put, List.setIfInBounds_toArray, List.set_cons_succ, List.set_cons_zero]
  refine takeH 15 (some 97) (.bool false) rfl rfl (by kernel_rfl) (by kernel_rfl) (by kernel_rfl) (fun _ _ _ h => h) rfl (fun wq hS => by go_simp) HS3.out ?_
  try simp only [Act.put, List.setIfInBounds_toArray, List.set_cons_succ, List.set_cons_zero]
  refine takeH 16 (some 98) (.pointer (some ⟨b, 0, none⟩)) rfl rfl (by kernel_rfl) (by kernel_rfl) (by kernel_rfl) (fun _ _ _ h => h) rfl (fun wq hS => by go_simp) HS3.out ?_
  try simp only [Act.put, List.setIfInBounds_toArray, List.set_cons_succ, List.set_cons_zero]
  refine takeH 18 (some 100) (.int .i64 c) rfl rfl (by kernel_rfl) (by kernel_rfl) (by kernel_rfl) (fun _ _ _ h => h) rfl (fun wq hS => by go_simp) HS3.out ?_
  try simp only [Act.put, List.setIfInBounds_toArray, List.set_cons_succ, List.set_cons_zero]
  refine oneH 17 (by kernel_rfl) rfl rfl fun K hK => ?_
  go_simp
  refine (De.dv_done (HJC.out.dv.below HS3.out)).mono ?_
  rintro e u4 ⟨rfl, rfl⟩
  rw [HTC.out]
  refine hK _ _ HS3.out ?_
  clear hK K
  try simp only [Act.put, List.setIfInBounds_toArray, List.set_cons_succ, List.set_cons_zero]
  refine takeH 19 (some 101) (.bool false) rfl rfl (by kernel_rfl) (by kernel_rfl) (by kernel_rfl) (fun _ _ _ h => h) rfl (fun wq hS => by go_simp) HS3.out ?_
  try simp only [Act.put, List.setIfInBounds_toArray, List.set_cons_succ, List.set_cons_zero]
  refine takeH 20 (some 102) (.bool false) rfl rfl (by kernel_rfl) (by kernel_rfl) (by kernel_rfl) (fun _ _ _ h => h) rfl (fun wq hS => by go_simp) HS3.out ?_
  try simp only [Act.put, List.setIfInBounds_toArray, List.set_cons_succ, List.set_cons_zero]
  refine wpAnyH_done (by kernel_rfl) ?_ _
  have HJD := Lib.hid (HJC.out.below HS3.out)
  clear HS0 HS1 HS2 HS3 HJC HSC HAC HIC HTC
  have hlaid : laid g (FA o) L = true := laid_of HMB.out (by show ((lay2 7 L).1.length : Int) ≤ g.l; rw [HK.out]; exact HKL.out.2.1)
  have hst := jput_runs (g := g) (a := FA o) (d := D1) (L := L) HFG.out hlaid (FA_next g o _).choose_spec (by rw [HDC.out.1]; exact Int.le_of_eq HT.out) (.inl (by rw [HDC.out.2.2.2]; decide))
  go_upto_region 16 with fail
  refine wp_region_lit ?_
  refine takeL (.pointer (some ⟨jb, 0, none⟩)) rfl (by go_simp) ?_
  try simp only [Act.put, List.setIfInBounds_toArray, List.set_cons_succ, List.set_cons_zero]
  refine takeL (.slice sa m sc) rfl (by go_simp) ?_
  try simp only [Act.put, List.setIfInBounds_toArray, List.set_cons_succ, List.set_cons_zero]
  refine wpList_op rfl fun K hK => ?_
  go_simp
  refine (put_law HJD.out HV5.out l L HLL.out _ (by rw [HM.out]; have := HFL.out trivial; omega) HI5.out (by rw [HDC.out.1]; exact HTB.out.2) (by have := HDC.out; omega) (by have := HDC.out; omega)).mono ?_
  rintro e wD ⟨pv, rfl, F3, fv3, ho, hj, hon, hn, hpa⟩
  obtain ⟨p1, p2, p3, p4, -⟩ := hst
  rw [p1]
  have hpl : (jput g (FA o) D1 L).pl.length = m := by rw [p2, List.length_map, lay2_at, ← HLL.out, List.length_map, HM.out]
  obtain ⟨qa, qc, hqv⟩ := ho.ints.form
  rw [hpl] at hqv
  subst hqv
  have hsq : (jput g (FA o) D1 L).a.seq = (7 + partsN L) % M32 := by rw [p3]; rfl
  have HJE := Lib.hid hj
  have HBE := Lib.hid (stay HB5.out hj.bel)
  have HLE := Lib.hid p4
  generalize (jput g (FA o) D1 L).a = a2 at *
  generalize (jput g (FA o) D1 L).d = D2 at *
  have HPT := Lib.hid fun w h => rparts_of l L HLL.out (.slice sa m sc) (fun w h => by rw [← HLL.out]; exact rgoodG_any l m HM.out _ (by have := HFL.out trivial; omega) w h) w h
  have hp3 := parts_val HMB.out
  have gw3 : IntKind.u32.wrap (partsN L) = partsN L := wrap32 (by omega) (by omega)
  have gw4 : IntKind.u32.wrap (7 + partsN L) = a2.seq := by rw [IntKind.wrap_u32, hsq]; rfl
  have HVE := Lib.hid (Vars.below (Nat.le_refl _) hj.bel HV5.out)
  have HIE := Lib.hid (HI5.out.below hj.bel)
  clear ho hj hon hn hpa p1 p2 p3 p4 hpl hsq hlaid hp3 HJD HDC
  refine hK _ _ ?_
  clear hK K
  try simp only [Act.put, List.setIfInBounds_toArray, List.set_cons_succ, List.set_cons_zero]
  refine takeL (.tuple #[.slice qa m qc, .int .i64 0]) rfl (by go_simp) ?_
  try simp only [Act.put, List.setIfInBounds_toArray, List.set_cons_succ, List.set_cons_zero]
  refine takeL (.slice qa m qc) rfl (by go_simp) ?_
  try simp only [Act.put, List.setIfInBounds_toArray, List.set_cons_succ, List.set_cons_zero]
  refine takeL (.int .i64 0) rfl (by go_simp) ?_
  try simp only [Act.put, List.setIfInBounds_toArray, List.set_cons_succ, List.set_cons_zero]
  refine takeL (.slice qa m qc) rfl (by go_simp) ?_
  try simp only [Act.put, List.setIfInBounds_toArray, List.set_cons_succ, List.set_cons_zero]
  refine takeL (.int .i64 0) rfl (by go_simp) ?_
  try simp only [Act.put, List.setIfInBounds_toArray, List.set_cons_succ, List.set_cons_zero]
  refine wpList_nil ?_
  have hf := field27q
  go_wp2_with fail
  refine (at_any HJE.out).mono ?_
  rintro e wE ⟨tv, rfl, hot, hb⟩
  have HJF := Lib.hid (HJE.out.below hb)
  obtain ⟨ta, tc, htv⟩ := hot.ints.form
  subst htv
  clear hb hot HJE
  go_wp2_with fail
  refine (HPT.out _ (HI5.out.below HJF.out.bel)).mono ?_
  rintro e wF ⟨rfl, hb⟩
  have HJG := Lib.hid (HJF.out.below hb)
  clear hb HJF
  go_wp2_with fail
  refine (De.dv_loose HJG.out.dv).mono ?_
  rintro e wG ⟨rfl, rfl⟩
  rw [HLE.out]
  go_wp2_with fail
  refine (wakes_any (Vars.below (Nat.le_refl _) HJG.out.bel HV5.out)).mono ?_
  rintro e wG ⟨rfl, hb⟩
  have HBG := Lib.hid (stay HB5.out (stay HJG.out.bel hb))
  clear hb
  go_wp2_with fail
  go_ret
  exact ⟨rfl, HBG.out⟩
end

end Go.Proofs.YtmlniannilnmhaaGreatDoor
