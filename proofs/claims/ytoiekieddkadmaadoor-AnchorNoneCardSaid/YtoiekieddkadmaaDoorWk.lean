/- The statement's first calls. -/
import Derived.Test.YtoiekieddkadmaaDoorWr
namespace Go.Proofs.YtoiekieddkadmaaDoor
set_option linter.unusedSimpArgs false
set_option linter.unusedVariables false
open Go.RowKit

theorem small_any (w : World) : Calls Tryd.prog 16 #[] w fun e w' => e = .returned (.agg #[.int .i64 16, .int .i64 8, .int .i64 24, .int .i64 4]) ∧ Below w.heap.size w w' := by
  go_enter Tryd.func16, Tryd.ntmps16
  go_wp2_with fail
  exact bodyPost_ret (v := .agg #[.int .i64 16, .int .i64 8, .int .i64 24, .int .i64 4]) (results_cell_row rfl _ _ w.heap.size 24 #[.int .i64 16, .int .i64 8, .int .i64 24, .int .i64 4] _ _ rfl (heap_alloc_new w _) Tryd.underlying24 rfl info24) rfl ⟨rfl, (Below.refl _ _).alloc (Nat.le_refl _) _⟩
def R3 : Rg := ⟨3, 16, 8, 24, 4, 1, 2, 9, zeros 8⟩
def R4 : Rg := ⟨4, 16, 8, 24, 4, 1, 2, 9, zeros 8⟩
theorem small8 : ∀ x ∈ zeros 8, Small x := fun x hx => by
  simp [zeros] at hx
  subst hx
  exact ⟨by decide, by decide⟩
theorem r3_wf : R3.Wf := ⟨⟨by decide, by decide⟩, ⟨by decide, by decide⟩, ⟨by decide, by decide⟩, ⟨by decide, by decide⟩, ⟨by decide, by decide⟩, ⟨by decide, by decide⟩, ⟨by decide, by decide⟩, ⟨by decide, by decide⟩, rfl, small8⟩
theorem r4_wf : R4.Wf := ⟨⟨by decide, by decide⟩, ⟨by decide, by decide⟩, ⟨by decide, by decide⟩, ⟨by decide, by decide⟩, ⟨by decide, by decide⟩, ⟨by decide, by decide⟩, ⟨by decide, by decide⟩, ⟨by decide, by decide⟩, rfl, small8⟩
theorem r3_good : R3.good = true := by kernel_rfl
theorem r4_good : R4.good = true := by kernel_rfl
theorem r3_tot : R3.g.tot ≤ 200 := by decide
theorem r4_tot : R4.g.tot ≤ 200 := by decide
def D0 : De.D := De.newD 200
def D1 : De.D := D0.put R3
def D2 : De.D := D1.put R4
def D3 : De.D := D2.write 0 (u8s (zeros 64)).toArray
def X0 : List Int := zeros 64 ++ R4.s1
theorem d0_len : D0.S.length = 200 := by kernel_rfl
theorem d1_len : D1.S.length = 200 := by kernel_rfl
theorem d2_len : D2.S.length = 200 := by kernel_rfl
theorem d3_len : D3.S.length = 200 := by kernel_rfl
theorem d0_put : D0.putE R3 = 0 := by kernel_rfl
theorem d1_put : D1.putE R4 = 0 := by kernel_rfl
theorem d0_T : D0.T = 0 := by kernel_rfl
theorem d1_T : D1.T = 3 := by kernel_rfl
theorem d2_T : D2.T = 6 := by kernel_rfl
theorem d0_L : D0.L.length = 0 := by kernel_rfl
theorem d1_L : D1.L.length = 0 := by kernel_rfl
theorem d2_L : D2.L.length = 0 := by kernel_rfl
theorem d3_L : D3.L.length = 1 := by kernel_rfl
theorem f0 : Four D0 (zeros 128) (zeros 128) := ⟨zeros_sc, zeros_sc, by kernel_rfl, by kernel_rfl, by kernel_rfl, by kernel_rfl⟩
theorem f2 : Four D2 R4.enc R3.enc := ⟨enc_sc r4_good r4_wf.len, enc_sc r3_good r3_wf.len, by kernel_rfl, by kernel_rfl, by kernel_rfl, by kernel_rfl⟩
theorem x0_sc : Sc2 X0 := ⟨rfl, fun x hx => by
  rcases List.mem_append.1 hx with h | h
  · exact zeros_byte _ x h
  · exact (enc_sc r4_good r4_wf.len).bytes x (List.mem_append_right _ h)⟩
theorem f3 : Four D3 X0 R3.enc := ⟨x0_sc, enc_sc r3_good r3_wf.len, by kernel_rfl, by kernel_rfl, by kernel_rfl, by kernel_rfl⟩
theorem n0 : newestOf 200 (zeros 128) (zeros 128) = none := by kernel_rfl
theorem reg4 : regAt 200 0 R4.enc = some R4 := by
  unfold regAt
  rw [isReg_enc r4_good r4_wf, read_enc r4_good r4_wf]
  rfl
theorem reg3 : regAt 200 1 R3.enc = some R3 := by
  unfold regAt
  rw [isReg_enc r3_good r3_wf, read_enc r3_good r3_wf]
  rfl
theorem reg0 : regAt 200 0 X0 = none := if_neg fun h => by have : isReg X0 = false := by kernel_rfl
                                                           rw [this] at h; cases h.1
theorem n2 : newestOf 200 R4.enc R3.enc = some R4 := by
  unfold newestOf
  rw [reg4, reg3]
  rfl
theorem n3 : newestOf 200 X0 R3.enc = some R3 := by
  unfold newestOf
  rw [reg0, reg3]
  rfl
theorem built27w : Tryd.prog.built 27 [(0, .int .u32 3), (1, .agg #[.int .i64 16, .int .i64 8, .int .i64 24, .int .i64 4]), (2, .int .i64 1), (3, .int .i64 2), (4, .int .u32 9)] = some R3.cells.toArray := by kernel_rfl
theorem r34 : R3.cells.set 0 (.int .u32 4) = R4.cells := rfl
theorem newest_is {W0 : World} {b : Nat} {d : De.D} {x y : List Int} {q : Option Rg} (hl : d.S.length = 200) (hL : d.L.length ≤ 1000000) (hf : Four d x y) (hq : newestOf 200 x y = q) {R : Rg} {n : Int} (hR : best q = R) (hE : bestE q = n) : ∀ (F : Nat → Prop) (w : World), ErrVar w → De.Dv W0 w b F d → Calls Tryd.prog 5 #[.pointer (some ⟨b, 0, none⟩)] w fun e w' => e = .returned (.tuple #[.agg R.cells.toArray, .int .i64 n]) ∧ Below w.heap.size w w' := fun F w hev h => by
  have := newest_any w hev h hL hf
  rw [hl] at this
  subst hq hR hE
  exact this
theorem put_is {W0 : World} {b : Nat} {d d' : De.D} {r : Rg} (hw : r.Wf) (hg : r.good = true) (ht : r.g.tot ≤ 200) (h0 : 0 < W0.heap.size) (hl : d.S.length = 200) (hT : d.T ≤ 900000) (hL : d.L.length ≤ 900000) (he : d.putE r = 0) (hd : d.put r = d') : ∀ (F : Nat → Prop) (w : World), ErrVar w → De.Dv W0 w b F d → Calls Tryd.prog 6 #[.pointer (some ⟨b, 0, none⟩), .agg r.cells.toArray] w (De.After W0 w b F (.int .i64 0) d') := fun F w hev h => by
  have := write_yes r hw hg w h hev h0 (by rw [hl]; exact ht) hT hL
  rw [he, hd] at this
  exact this
set_option maxRecDepth 100000 in
set_option maxHeartbeats 4000000 in
theorem wakes_any (w : World) (hev : ErrVar w) : Calls Tryd.prog 7 #[] w fun e w' => e = .returned (.bool true) ∧ Below w.heap.size w w' := by
  have HWN := Lib.hid none_wf
  have HZ64 := Lib.hid (zeros_length 64)
  have HW3 := Lib.hid r3_wf
  have HW4 := Lib.hid r4_wf
  have HB3 := Lib.hid built27w
  have HEV := Lib.hid hev
  have HP := Lib.hid hev.lt
  have HP0 := Lib.hid hev.lt
  have HBL : Hid (Below w.heap.size w w) := Lib.hid (Below.refl _ _)
  have HNW := Lib.hid fun b => newest_is (W0 := w) (b := b) d0_len (by rw [d0_L]; decide) f0 n0 (R := Rg.none) (n := 13) rfl rfl
  have HN2 := Lib.hid fun b => newest_is (W0 := w) (b := b) d2_len (by rw [d2_L]; decide) f2 n2 (R := R4) (n := 0) rfl rfl
  have HN3 := Lib.hid fun b => newest_is (W0 := w) (b := b) d3_len (by rw [d3_L]; decide) f3 n3 (R := R3) (n := 0) rfl rfl
  have HP3 := Lib.hid fun b => put_is (W0 := w) (b := b) (d' := D1) r3_wf r3_good r3_tot hev.lt d0_len (by rw [d0_T]; decide) (by rw [d0_L]; decide) d0_put rfl
  have HP4 := Lib.hid fun b => put_is (W0 := w) (b := b) (d' := D2) r4_wf r4_good r4_tot hev.lt d1_len (by rw [d1_T]; decide) (by rw [d1_L]; decide) d1_put rfl
  have HWE : Hid (D2.writeE 0 = 0) := Lib.hid (by kernel_rfl)
  have HT2 := Lib.hid d2_T
  have HLL2 := Lib.hid d2_L
  have H34 := Lib.hid r34
  have HNEWD : Hid (∀ w1, Below w.heap.size w w1 → Calls Tryd.prog 4 #[.int .i64 200] w1 fun e w' => ∃ b F, e = .returned (.tuple #[.pointer (some ⟨b, 0, none⟩), .int .i64 0]) ∧ De.Dv w w' b F D0 ∧ Below w1.heap.size w1 w' ∧ ∀ k, F k → w1.heap.size ≤ k) := Lib.hid fun w1 hb => De.dv_new w w1 hb 200 ⟨by decide, by decide⟩
  clear hev
  go_enter Tryd.func7, Tryd.ntmps7
  go_upto_region 1 with fail
  refine wp_region_lit ?_
  refine wpList_op rfl fun K hK => ?_
  go_simp
  refine (HNEWD.out _ HBL.out).mono ?_
  rintro e w1 ⟨b, Fd0, rfl, hd, hb, hF⟩
  have HBLn := Lib.hid (HBL.out.trans (hb.mono HBL.out.size))
  have HEVn := Lib.hid (HEV.out.below (Nat.le_refl _) hb)
  clear HBL HEV
  have HBL := HBLn
  have HEV := HEVn
  clear HBLn HEVn
  have HD := Lib.hid hd
  clear hd hb hF
  refine hK _ _ ?_
  clear hK K
  try simp only [Act.put, List.setIfInBounds_toArray, List.set_cons_succ, List.set_cons_zero]
  refine takeL (.tuple #[.pointer (some ⟨b, 0, none⟩), .int .i64 0]) rfl (by go_simp) ?_
  try simp only [Act.put, List.setIfInBounds_toArray, List.set_cons_succ, List.set_cons_zero]
  refine takeL (.pointer (some ⟨b, 0, none⟩)) rfl (by go_simp) ?_
  try simp only [Act.put, List.setIfInBounds_toArray, List.set_cons_succ, List.set_cons_zero]
  refine takeL (.int .i64 0) rfl (by go_simp) ?_
  try simp only [Act.put, List.setIfInBounds_toArray, List.set_cons_succ, List.set_cons_zero]
  refine takeL (.pointer (some ⟨b, 0, none⟩)) rfl (by go_simp) ?_
  try simp only [Act.put, List.setIfInBounds_toArray, List.set_cons_succ, List.set_cons_zero]
  refine takeL (.int .i64 0) rfl (by go_simp) ?_
  try simp only [Act.put, List.setIfInBounds_toArray, List.set_cons_succ, List.set_cons_zero]
  refine wpList_nil ?_
  go_upto_region 2 with fail
  refine wp_region_lit ?_
  refine takeL (.pointer (some ⟨b, 0, none⟩)) rfl (by go_simp) ?_
  try simp only [Act.put, List.setIfInBounds_toArray, List.set_cons_succ, List.set_cons_zero]
  refine wpList_op rfl fun K hK => ?_
  go_simp
  refine (HNW.out b _ _ HEV.out HD.out).mono ?_
  rintro e w2 ⟨rfl, hb⟩
  have HBLn := Lib.hid (HBL.out.trans (hb.mono HBL.out.size))
  have HEVn := Lib.hid (HEV.out.below (Nat.le_refl _) hb)
  have HDn := Lib.hid (HD.out.below hb)
  clear HBL HEV HD
  have HBL := HBLn
  have HEV := HEVn
  have HD := HDn
  clear HBLn HEVn HDn
  clear hb
  refine hK _ _ ?_
  clear hK K
  try simp only [Act.put, List.setIfInBounds_toArray, List.set_cons_succ, List.set_cons_zero]
  refine takeL (.tuple #[.agg Rg.none.cells.toArray, .int .i64 13]) rfl (by go_simp) ?_
  try simp only [Act.put, List.setIfInBounds_toArray, List.set_cons_succ, List.set_cons_zero]
  refine takeL (.agg Rg.none.cells.toArray) rfl (by go_simp) ?_
  try simp only [Act.put, List.setIfInBounds_toArray, List.set_cons_succ, List.set_cons_zero]
  refine takeL (.int .i64 13) rfl (by go_simp) ?_
  try simp only [Act.put, List.setIfInBounds_toArray, List.set_cons_succ, List.set_cons_zero]
  refine alloc_g zero27 rfl ?_
  intro w3 hA hb hl
  try simp only [Act.put, List.setIfInBounds_toArray, List.set_cons_succ, List.set_cons_zero]
  have NFg4 := Lib.hid (fun hk => Nat.lt_irrefl _ (HD.out.lt w2.heap.size hk).2)
  have GDg4 := Lib.hid HD.out.2.size
  have HBLn := Lib.hid (HBL.out.trans (hb.mono HBL.out.size))
  have HEVn := Lib.hid (HEV.out.below (Nat.le_refl _) hb)
  have HDn := Lib.hid (HD.out.below hb)
  have F5 : Hid (Blk w3 w2.heap.size (Rg.none.cells)) := Lib.hid (by first | exact hA | simpa using hA)
  have GEg4 := Lib.hid HBL.out.size
  clear HBL HEV HD
  have HBL := HBLn
  have HEV := HEVn
  have HD := HDn
  clear HBLn HEVn HDn
  clear hA hb hl
  generalize w2.heap.size = g4 at *
  refine store_all (cs := Rg.none.cells.toArray) F5.out (by simp only [List.size_toArray, HWN.out.cells, HWN.out.cells]) (by rw [List.size_toArray, HWN.out.cells]; exact info27) (by simpa using Rg.cell_one Rg.none) rfl rfl rfl ?_
  intro w6 hD hO hlD
  try simp only [Act.put, List.setIfInBounds_toArray, List.set_cons_succ, List.set_cons_zero]
  have HBLn := Lib.hid (HBL.out.trans (hO.below HBL.out.size fun k hk => by rw [hk]; exact GEg4.out))
  have F5n : Hid (Blk w6 g4 (Rg.none.cells)) := Lib.hid (by first | exact hD | simpa using hD)
  have HEVn := Lib.hid (HEV.out.keep hO GEg4.out HP.out)
  have HDn := Lib.hid (HD.out.go1 hO GDg4.out NFg4.out)
  clear HBL F5 HEV HD
  have HBL := HBLn
  have F5 := F5n
  have HEV := HEVn
  have HD := HDn
  clear HBLn F5n HEVn HDn
  clear hD hO hlD
  refine takeL (.int .i64 13) rfl (by go_simp) ?_
  try simp only [Act.put, List.setIfInBounds_toArray, List.set_cons_succ, List.set_cons_zero]
  refine wpList_nil ?_
  go_upto_region 3 with fail
  refine wp_region_lit ?_
  refine wpList_op rfl fun K hK => ?_
  go_simp
  refine (small_any _).mono ?_
  rintro e w7 ⟨rfl, hb⟩
  have HBLn := Lib.hid (HBL.out.trans (hb.mono HBL.out.size))
  have F5n := Lib.hid (F5.out.below hb F5.out.lt)
  have HEVn := Lib.hid (HEV.out.below (Nat.le_refl _) hb)
  have HDn := Lib.hid (HD.out.below hb)
  clear HBL F5 HEV HD
  have HBL := HBLn
  have F5 := F5n
  have HEV := HEVn
  have HD := HDn
  clear HBLn F5n HEVn HDn
  clear hb
  refine hK _ _ ?_
  clear hK K
  try simp only [Act.put, List.setIfInBounds_toArray, List.set_cons_succ, List.set_cons_zero]
  refine takeL (.agg R3.cells.toArray) rfl (by exact exec_build _ _ _ _ 27 _ rfl #[(0, .int .u32 3), (1, .agg #[.int .i64 16, .int .i64 8, .int .i64 24, .int .i64 4]), (2, .int .i64 1), (3, .int .i64 2), (4, .int .u32 9)] (by simp [go_sem]) _ (run_build _ 27 _ _ HB3.out)) ?_
  try simp only [Act.put, List.setIfInBounds_toArray, List.set_cons_succ, List.set_cons_zero]
  refine alloc_g zero27 rfl ?_
  intro w8 hA hb hl
  try simp only [Act.put, List.setIfInBounds_toArray, List.set_cons_succ, List.set_cons_zero]
  have NFg9 := Lib.hid (fun hk => Nat.lt_irrefl _ (HD.out.lt w7.heap.size hk).2)
  have GDg9 := Lib.hid HD.out.2.size
  have HBLn := Lib.hid (HBL.out.trans (hb.mono HBL.out.size))
  have F5n := Lib.hid (F5.out.below hb F5.out.lt)
  have NEg4_g9 := Lib.hid (Nat.ne_of_lt F5.out.lt)
  have HEVn := Lib.hid (HEV.out.below (Nat.le_refl _) hb)
  have HDn := Lib.hid (HD.out.below hb)
  have F10 : Hid (Blk w8 w7.heap.size (Rg.none.cells)) := Lib.hid (by first | exact hA | simpa using hA)
  have GEg9 := Lib.hid HBL.out.size
  clear HBL F5 HEV HD
  have HBL := HBLn
  have F5 := F5n
  have HEV := HEVn
  have HD := HDn
  clear HBLn F5n HEVn HDn
  clear hA hb hl
  generalize w7.heap.size = g9 at *
  refine store_all (cs := R3.cells.toArray) F10.out (by simp only [List.size_toArray, HWN.out.cells, HW3.out.cells]) (by rw [List.size_toArray, HW3.out.cells]; exact info27) (by simpa using Rg.cell_one R3) rfl rfl rfl ?_
  intro w11 hD hO hlD
  try simp only [Act.put, List.setIfInBounds_toArray, List.set_cons_succ, List.set_cons_zero]
  have HBLn := Lib.hid (HBL.out.trans (hO.below HBL.out.size fun k hk => by rw [hk]; exact GEg9.out))
  have F5n := Lib.hid (F5.out.only hO (NEg4_g9.out))
  have F10n : Hid (Blk w11 g9 (R3.cells)) := Lib.hid (by first | exact hD | simpa using hD)
  have HEVn := Lib.hid (HEV.out.keep hO GEg9.out HP.out)
  have HDn := Lib.hid (HD.out.go1 hO GDg9.out NFg9.out)
  clear HBL F5 F10 HEV HD
  have HBL := HBLn
  have F5 := F5n
  have F10 := F10n
  have HEV := HEVn
  have HD := HDn
  clear HBLn F5n F10n HEVn HDn
  clear hD hO hlD
  refine wpList_nil ?_
  go_upto_region 4 with fail
  refine wp_region_lit ?_
  refine load27 (cs := R3.cells.toArray) (Blk.all F10.out rfl) (by rw [List.size_toArray]; exact HW3.out.cells) rfl rfl ?_
  try simp only [Act.put, List.setIfInBounds_toArray, List.set_cons_succ, List.set_cons_zero]
  refine alloc_g zero27 rfl ?_
  intro w12 hA hb hl
  try simp only [Act.put, List.setIfInBounds_toArray, List.set_cons_succ, List.set_cons_zero]
  have NFg13 := Lib.hid (fun hk => Nat.lt_irrefl _ (HD.out.lt w11.heap.size hk).2)
  have GDg13 := Lib.hid HD.out.2.size
  have HBLn := Lib.hid (HBL.out.trans (hb.mono HBL.out.size))
  have F5n := Lib.hid (F5.out.below hb F5.out.lt)
  have NEg4_g13 := Lib.hid (Nat.ne_of_lt F5.out.lt)
  have F10n := Lib.hid (F10.out.below hb F10.out.lt)
  have NEg9_g13 := Lib.hid (Nat.ne_of_lt F10.out.lt)
  have HEVn := Lib.hid (HEV.out.below (Nat.le_refl _) hb)
  have HDn := Lib.hid (HD.out.below hb)
  have F14 : Hid (Blk w12 w11.heap.size (Rg.none.cells)) := Lib.hid (by first | exact hA | simpa using hA)
  have GEg13 := Lib.hid HBL.out.size
  clear HBL F5 F10 HEV HD
  have HBL := HBLn
  have F5 := F5n
  have F10 := F10n
  have HEV := HEVn
  have HD := HDn
  clear HBLn F5n F10n HEVn HDn
  clear hA hb hl
  generalize w11.heap.size = g13 at *
  refine store_all (cs := R3.cells.toArray) F14.out (by simp only [List.size_toArray, HWN.out.cells, HW3.out.cells]) (by rw [List.size_toArray, HW3.out.cells]; exact info27) (by simpa using Rg.cell_one R3) rfl rfl rfl ?_
  intro w15 hD hO hlD
  try simp only [Act.put, List.setIfInBounds_toArray, List.set_cons_succ, List.set_cons_zero]
  have HBLn := Lib.hid (HBL.out.trans (hO.below HBL.out.size fun k hk => by rw [hk]; exact GEg13.out))
  have F5n := Lib.hid (F5.out.only hO (NEg4_g13.out))
  have F10n := Lib.hid (F10.out.only hO (NEg9_g13.out))
  have F14n : Hid (Blk w15 g13 (R3.cells)) := Lib.hid (by first | exact hD | simpa using hD)
  have HEVn := Lib.hid (HEV.out.keep hO GEg13.out HP.out)
  have HDn := Lib.hid (HD.out.go1 hO GDg13.out NFg13.out)
  clear HBL F5 F10 F14 HEV HD
  have HBL := HBLn
  have F5 := F5n
  have F10 := F10n
  have F14 := F14n
  have HEV := HEVn
  have HD := HDn
  clear HBLn F5n F10n F14n HEVn HDn
  clear hD hO hlD
  refine wpList_nil ?_
  have hcell := F14.out.cell (i := 0) (v := .int .u32 3) rfl
  have hfro := F14.out.frozen 0
  go_upto_region 6 with fail
  obtain ⟨w16, hw5⟩ : ∃ wz, w15.setCell ⟨g13, 0, none⟩ (.int .u32 4) = wz := ⟨_, rfl⟩
  rw [hw5]
  have hD : Blk w16 g13 R4.cells := by
    have := F14.out.set 0 (.int .u32 4)
    rw [H34.out, hw5] at this
    exact this
  have hO : Only (fun k => k = g13) w15 w16 := by rw [← hw5]; exact (Only.refl (fun k => k = g13) _).setCell (.inl rfl) _
  clear hw5 hcell hfro
  have HBLn := Lib.hid (HBL.out.trans (hO.below HBL.out.size fun k hk => by rw [hk]; exact GEg13.out))
  have F5n := Lib.hid (F5.out.only hO (NEg4_g13.out))
  have F10n := Lib.hid (F10.out.only hO (NEg9_g13.out))
  have F14n : Hid (Blk w16 g13 (R4.cells)) := Lib.hid hD
  have HEVn := Lib.hid (HEV.out.keep hO GEg13.out HP.out)
  have HDn := Lib.hid (HD.out.go1 hO GDg13.out NFg13.out)
  clear HBL F5 F10 F14 HEV HD
  have HBL := HBLn
  have F5 := F5n
  have F10 := F10n
  have F14 := F14n
  have HEV := HEVn
  have HD := HDn
  clear HBLn F5n F10n F14n HEVn HDn
  clear hD hO
  go_upto_region 6 with fail
  refine wp_region_lit ?_
  refine takeL (.int .i64 0) rfl (by go_simp) ?_
  try simp only [Act.put, List.setIfInBounds_toArray, List.set_cons_succ, List.set_cons_zero]
  refine takeL (.bool false) rfl (by go_simp) ?_
  try simp only [Act.put, List.setIfInBounds_toArray, List.set_cons_succ, List.set_cons_zero]
  refine takeL (.bool false) rfl (by go_simp) ?_
  try simp only [Act.put, List.setIfInBounds_toArray, List.set_cons_succ, List.set_cons_zero]
  refine takeL (.int .i64 13) rfl (by go_simp) ?_
  try simp only [Act.put, List.setIfInBounds_toArray, List.set_cons_succ, List.set_cons_zero]
  refine takeL (.bool false) rfl (by go_simp) ?_
  try simp only [Act.put, List.setIfInBounds_toArray, List.set_cons_succ, List.set_cons_zero]
  refine takeL (.bool false) rfl (by go_simp) ?_
  try simp only [Act.put, List.setIfInBounds_toArray, List.set_cons_succ, List.set_cons_zero]
  refine takeL (.bool false) rfl (by go_simp) ?_
  try simp only [Act.put, List.setIfInBounds_toArray, List.set_cons_succ, List.set_cons_zero]
  refine takeL (.pointer (some ⟨b, 0, none⟩)) rfl (by go_simp) ?_
  try simp only [Act.put, List.setIfInBounds_toArray, List.set_cons_succ, List.set_cons_zero]
  refine load27 (cs := R3.cells.toArray) (Blk.all F10.out rfl) (by rw [List.size_toArray]; exact HW3.out.cells) rfl rfl ?_
  try simp only [Act.put, List.setIfInBounds_toArray, List.set_cons_succ, List.set_cons_zero]
  refine wpList_op rfl fun K hK => ?_
  go_simp
  refine (HP3.out b _ _ HEV.out HD.out).mono ?_
  rintro e w17 ⟨Fd18, rfl, hd, hO, hf⟩
  have F5n := Lib.hid (F5.out.only hO NFg4.out)
  have NFg4n : Hid (¬ Fd18 g4) := Lib.hid fun hk => (hf _ hk).elim NFg4.out fun hk => Nat.lt_irrefl _ (Nat.lt_of_lt_of_le F5.out.lt hk)
  clear NFg4
  have NFg4 := NFg4n
  clear NFg4n
  have F10n := Lib.hid (F10.out.only hO NFg9.out)
  have NFg9n : Hid (¬ Fd18 g9) := Lib.hid fun hk => (hf _ hk).elim NFg9.out fun hk => Nat.lt_irrefl _ (Nat.lt_of_lt_of_le F10.out.lt hk)
  clear NFg9
  have NFg9 := NFg9n
  clear NFg9n
  have F14n := Lib.hid (F14.out.only hO NFg13.out)
  have NFg13n : Hid (¬ Fd18 g13) := Lib.hid fun hk => (hf _ hk).elim NFg13.out fun hk => Nat.lt_irrefl _ (Nat.lt_of_lt_of_le F14.out.lt hk)
  clear NFg13
  have NFg13 := NFg13n
  clear NFg13n
  have HBLn := Lib.hid hd.2
  have HEVn := Lib.hid (HEV.out.after hO fun hk => Nat.lt_irrefl _ (Nat.lt_of_le_of_lt (HD.out.lt 0 hk).1 HP0.out))
  have HDn := Lib.hid hd
  clear HBL F5 F10 F14 HEV HD
  have HBL := HBLn
  have F5 := F5n
  have F10 := F10n
  have F14 := F14n
  have HEV := HEVn
  have HD := HDn
  clear HBLn F5n F10n F14n HEVn HDn
  clear hd hO hf
  refine hK _ _ ?_
  clear hK K
  try simp only [Act.put, List.setIfInBounds_toArray, List.set_cons_succ, List.set_cons_zero]
  refine takeL (.bool false) rfl (by go_simp) ?_
  try simp only [Act.put, List.setIfInBounds_toArray, List.set_cons_succ, List.set_cons_zero]
  refine takeL (.bool false) rfl (by go_simp) ?_
  try simp only [Act.put, List.setIfInBounds_toArray, List.set_cons_succ, List.set_cons_zero]
  refine takeL (.bool false) rfl (by go_simp) ?_
  try simp only [Act.put, List.setIfInBounds_toArray, List.set_cons_succ, List.set_cons_zero]
  refine takeL (.pointer (some ⟨b, 0, none⟩)) rfl (by go_simp) ?_
  try simp only [Act.put, List.setIfInBounds_toArray, List.set_cons_succ, List.set_cons_zero]
  refine load27 (cs := R4.cells.toArray) (Blk.all F14.out rfl) (by rw [List.size_toArray]; exact HW4.out.cells) rfl rfl ?_
  try simp only [Act.put, List.setIfInBounds_toArray, List.set_cons_succ, List.set_cons_zero]
  refine wpList_op rfl fun K hK => ?_
  go_simp
  refine (HP4.out b _ _ HEV.out HD.out).mono ?_
  rintro e w19 ⟨Fd20, rfl, hd, hO, hf⟩
  have F5n := Lib.hid (F5.out.only hO NFg4.out)
  have NFg4n : Hid (¬ Fd20 g4) := Lib.hid fun hk => (hf _ hk).elim NFg4.out fun hk => Nat.lt_irrefl _ (Nat.lt_of_lt_of_le F5.out.lt hk)
  clear NFg4
  have NFg4 := NFg4n
  clear NFg4n
  have F10n := Lib.hid (F10.out.only hO NFg9.out)
  have NFg9n : Hid (¬ Fd20 g9) := Lib.hid fun hk => (hf _ hk).elim NFg9.out fun hk => Nat.lt_irrefl _ (Nat.lt_of_lt_of_le F10.out.lt hk)
  clear NFg9
  have NFg9 := NFg9n
  clear NFg9n
  have F14n := Lib.hid (F14.out.only hO NFg13.out)
  have NFg13n : Hid (¬ Fd20 g13) := Lib.hid fun hk => (hf _ hk).elim NFg13.out fun hk => Nat.lt_irrefl _ (Nat.lt_of_lt_of_le F14.out.lt hk)
  clear NFg13
  have NFg13 := NFg13n
  clear NFg13n
  have HBLn := Lib.hid hd.2
  have HEVn := Lib.hid (HEV.out.after hO fun hk => Nat.lt_irrefl _ (Nat.lt_of_le_of_lt (HD.out.lt 0 hk).1 HP0.out))
  have HDn := Lib.hid hd
  clear HBL F5 F10 F14 HEV HD
  have HBL := HBLn
  have F5 := F5n
  have F10 := F10n
  have F14 := F14n
  have HEV := HEVn
  have HD := HDn
  clear HBLn F5n F10n F14n HEVn HDn
  clear hd hO hf
  refine hK _ _ ?_
  clear hK K
  try simp only [Act.put, List.setIfInBounds_toArray, List.set_cons_succ, List.set_cons_zero]
  refine takeL (.bool false) rfl (by go_simp) ?_
  try simp only [Act.put, List.setIfInBounds_toArray, List.set_cons_succ, List.set_cons_zero]
  refine takeL (.bool false) rfl (by go_simp) ?_
  try simp only [Act.put, List.setIfInBounds_toArray, List.set_cons_succ, List.set_cons_zero]
  refine wpList_nil ?_
  go_upto_region 8 with fail
  refine wp_region_lit ?_
  refine takeL (.pointer (some ⟨b, 0, none⟩)) rfl (by go_simp) ?_
  try simp only [Act.put, List.setIfInBounds_toArray, List.set_cons_succ, List.set_cons_zero]
  refine wpList_op rfl fun K hK => ?_
  go_simp
  refine (HN2.out b _ _ HEV.out HD.out).mono ?_
  rintro e w21 ⟨rfl, hb⟩
  have HBLn := Lib.hid (HBL.out.trans (hb.mono HBL.out.size))
  have F5n := Lib.hid (F5.out.below hb F5.out.lt)
  have F10n := Lib.hid (F10.out.below hb F10.out.lt)
  have F14n := Lib.hid (F14.out.below hb F14.out.lt)
  have HEVn := Lib.hid (HEV.out.below (Nat.le_refl _) hb)
  have HDn := Lib.hid (HD.out.below hb)
  clear HBL F5 F10 F14 HEV HD
  have HBL := HBLn
  have F5 := F5n
  have F10 := F10n
  have F14 := F14n
  have HEV := HEVn
  have HD := HDn
  clear HBLn F5n F10n F14n HEVn HDn
  clear hb
  refine hK _ _ ?_
  clear hK K
  try simp only [Act.put, List.setIfInBounds_toArray, List.set_cons_succ, List.set_cons_zero]
  refine takeL (.tuple #[.agg R4.cells.toArray, .int .i64 0]) rfl (by go_simp) ?_
  try simp only [Act.put, List.setIfInBounds_toArray, List.set_cons_succ, List.set_cons_zero]
  refine takeL (.agg R4.cells.toArray) rfl (by go_simp) ?_
  try simp only [Act.put, List.setIfInBounds_toArray, List.set_cons_succ, List.set_cons_zero]
  refine takeL (.int .i64 0) rfl (by go_simp) ?_
  try simp only [Act.put, List.setIfInBounds_toArray, List.set_cons_succ, List.set_cons_zero]
  refine alloc_g zero27 rfl ?_
  intro w22 hA hb hl
  try simp only [Act.put, List.setIfInBounds_toArray, List.set_cons_succ, List.set_cons_zero]
  have NFg23 := Lib.hid (fun hk => Nat.lt_irrefl _ (HD.out.lt w21.heap.size hk).2)
  have GDg23 := Lib.hid HD.out.2.size
  have HBLn := Lib.hid (HBL.out.trans (hb.mono HBL.out.size))
  have F5n := Lib.hid (F5.out.below hb F5.out.lt)
  have NEg4_g23 := Lib.hid (Nat.ne_of_lt F5.out.lt)
  have F10n := Lib.hid (F10.out.below hb F10.out.lt)
  have NEg9_g23 := Lib.hid (Nat.ne_of_lt F10.out.lt)
  have F14n := Lib.hid (F14.out.below hb F14.out.lt)
  have NEg13_g23 := Lib.hid (Nat.ne_of_lt F14.out.lt)
  have HEVn := Lib.hid (HEV.out.below (Nat.le_refl _) hb)
  have HDn := Lib.hid (HD.out.below hb)
  have F24 : Hid (Blk w22 w21.heap.size (Rg.none.cells)) := Lib.hid (by first | exact hA | simpa using hA)
  have GEg23 := Lib.hid HBL.out.size
  clear HBL F5 F10 F14 HEV HD
  have HBL := HBLn
  have F5 := F5n
  have F10 := F10n
  have F14 := F14n
  have HEV := HEVn
  have HD := HDn
  clear HBLn F5n F10n F14n HEVn HDn
  clear hA hb hl
  generalize w21.heap.size = g23 at *
  refine store_all (cs := R4.cells.toArray) F24.out (by simp only [List.size_toArray, HWN.out.cells, HW4.out.cells]) (by rw [List.size_toArray, HW4.out.cells]; exact info27) (by simpa using Rg.cell_one R4) rfl rfl rfl ?_
  intro w25 hD hO hlD
  try simp only [Act.put, List.setIfInBounds_toArray, List.set_cons_succ, List.set_cons_zero]
  have HBLn := Lib.hid (HBL.out.trans (hO.below HBL.out.size fun k hk => by rw [hk]; exact GEg23.out))
  have F5n := Lib.hid (F5.out.only hO (NEg4_g23.out))
  have F10n := Lib.hid (F10.out.only hO (NEg9_g23.out))
  have F14n := Lib.hid (F14.out.only hO (NEg13_g23.out))
  have F24n : Hid (Blk w25 g23 (R4.cells)) := Lib.hid (by first | exact hD | simpa using hD)
  have HEVn := Lib.hid (HEV.out.keep hO GEg23.out HP.out)
  have HDn := Lib.hid (HD.out.go1 hO GDg23.out NFg23.out)
  clear HBL F5 F10 F14 F24 HEV HD
  have HBL := HBLn
  have F5 := F5n
  have F10 := F10n
  have F14 := F14n
  have F24 := F24n
  have HEV := HEVn
  have HD := HDn
  clear HBLn F5n F10n F14n F24n HEVn HDn
  clear hD hO hlD
  refine takeL (.int .i64 0) rfl (by go_simp) ?_
  try simp only [Act.put, List.setIfInBounds_toArray, List.set_cons_succ, List.set_cons_zero]
  refine wpList_nil ?_
  go_upto_region 9 with fail
  refine wp_region_lit ?_
  refine takeL (.pointer (some ⟨b, 0, none⟩)) rfl (by go_simp) ?_
  try simp only [Act.put, List.setIfInBounds_toArray, List.set_cons_succ, List.set_cons_zero]
  refine build_g (build49 _) rfl ?_
  try simp only [Act.put, List.setIfInBounds_toArray, List.set_cons_succ, List.set_cons_zero]
  refine wpList_op rfl fun K hK => ?_
  go_simp
  refine (De.dv_write HD.out (by rw [HT2.out]; decide) (by rw [HLL2.out]; decide) 0 _ (u8s_sec HZ64.out)).mono ?_
  rintro e w26 ⟨Fd27, rfl, hd, hO, hf⟩
  rw [HWE.out]
  have F5n := Lib.hid (F5.out.only hO NFg4.out)
  have NFg4n : Hid (¬ Fd27 g4) := Lib.hid fun hk => (hf _ hk).elim NFg4.out fun hk => Nat.lt_irrefl _ (Nat.lt_of_lt_of_le F5.out.lt hk)
  clear NFg4
  have NFg4 := NFg4n
  clear NFg4n
  have F10n := Lib.hid (F10.out.only hO NFg9.out)
  have NFg9n : Hid (¬ Fd27 g9) := Lib.hid fun hk => (hf _ hk).elim NFg9.out fun hk => Nat.lt_irrefl _ (Nat.lt_of_lt_of_le F10.out.lt hk)
  clear NFg9
  have NFg9 := NFg9n
  clear NFg9n
  have F14n := Lib.hid (F14.out.only hO NFg13.out)
  have NFg13n : Hid (¬ Fd27 g13) := Lib.hid fun hk => (hf _ hk).elim NFg13.out fun hk => Nat.lt_irrefl _ (Nat.lt_of_lt_of_le F14.out.lt hk)
  clear NFg13
  have NFg13 := NFg13n
  clear NFg13n
  have F24n := Lib.hid (F24.out.only hO NFg23.out)
  have NFg23n : Hid (¬ Fd27 g23) := Lib.hid fun hk => (hf _ hk).elim NFg23.out fun hk => Nat.lt_irrefl _ (Nat.lt_of_lt_of_le F24.out.lt hk)
  clear NFg23
  have NFg23 := NFg23n
  clear NFg23n
  have HBLn := Lib.hid hd.2
  have HEVn := Lib.hid (HEV.out.after hO fun hk => Nat.lt_irrefl _ (Nat.lt_of_le_of_lt (HD.out.lt 0 hk).1 HP0.out))
  have HDn := Lib.hid hd
  clear HBL F5 F10 F14 F24 HEV HD
  have HBL := HBLn
  have F5 := F5n
  have F10 := F10n
  have F14 := F14n
  have F24 := F24n
  have HEV := HEVn
  have HD := HDn
  clear HBLn F5n F10n F14n F24n HEVn HDn
  clear hd hO hf
  refine hK _ _ ?_
  clear hK K
  try simp only [Act.put, List.setIfInBounds_toArray, List.set_cons_succ, List.set_cons_zero]
  refine wpList_nil ?_
  go_upto_region 10 with fail
  refine wp_region_lit ?_
  refine takeL (.pointer (some ⟨b, 0, none⟩)) rfl (by go_simp) ?_
  try simp only [Act.put, List.setIfInBounds_toArray, List.set_cons_succ, List.set_cons_zero]
  refine wpList_op rfl fun K hK => ?_
  go_simp
  refine (HN3.out b _ _ HEV.out HD.out).mono ?_
  rintro e w28 ⟨rfl, hb⟩
  have HBLn := Lib.hid (HBL.out.trans (hb.mono HBL.out.size))
  have F5n := Lib.hid (F5.out.below hb F5.out.lt)
  have F10n := Lib.hid (F10.out.below hb F10.out.lt)
  have F14n := Lib.hid (F14.out.below hb F14.out.lt)
  have F24n := Lib.hid (F24.out.below hb F24.out.lt)
  have HEVn := Lib.hid (HEV.out.below (Nat.le_refl _) hb)
  have HDn := Lib.hid (HD.out.below hb)
  clear HBL F5 F10 F14 F24 HEV HD
  have HBL := HBLn
  have F5 := F5n
  have F10 := F10n
  have F14 := F14n
  have F24 := F24n
  have HEV := HEVn
  have HD := HDn
  clear HBLn F5n F10n F14n F24n HEVn HDn
  clear hb
  refine hK _ _ ?_
  clear hK K
  try simp only [Act.put, List.setIfInBounds_toArray, List.set_cons_succ, List.set_cons_zero]
  refine takeL (.tuple #[.agg R3.cells.toArray, .int .i64 0]) rfl (by go_simp) ?_
  try simp only [Act.put, List.setIfInBounds_toArray, List.set_cons_succ, List.set_cons_zero]
  refine takeL (.agg R3.cells.toArray) rfl (by go_simp) ?_
  try simp only [Act.put, List.setIfInBounds_toArray, List.set_cons_succ, List.set_cons_zero]
  refine takeL (.int .i64 0) rfl (by go_simp) ?_
  try simp only [Act.put, List.setIfInBounds_toArray, List.set_cons_succ, List.set_cons_zero]
  refine alloc_g zero27 rfl ?_
  intro w29 hA hb hl
  try simp only [Act.put, List.setIfInBounds_toArray, List.set_cons_succ, List.set_cons_zero]
  have NFg30 := Lib.hid (fun hk => Nat.lt_irrefl _ (HD.out.lt w28.heap.size hk).2)
  have GDg30 := Lib.hid HD.out.2.size
  have HBLn := Lib.hid (HBL.out.trans (hb.mono HBL.out.size))
  have F5n := Lib.hid (F5.out.below hb F5.out.lt)
  have NEg4_g30 := Lib.hid (Nat.ne_of_lt F5.out.lt)
  have F10n := Lib.hid (F10.out.below hb F10.out.lt)
  have NEg9_g30 := Lib.hid (Nat.ne_of_lt F10.out.lt)
  have F14n := Lib.hid (F14.out.below hb F14.out.lt)
  have NEg13_g30 := Lib.hid (Nat.ne_of_lt F14.out.lt)
  have F24n := Lib.hid (F24.out.below hb F24.out.lt)
  have NEg23_g30 := Lib.hid (Nat.ne_of_lt F24.out.lt)
  have HEVn := Lib.hid (HEV.out.below (Nat.le_refl _) hb)
  have HDn := Lib.hid (HD.out.below hb)
  have F31 : Hid (Blk w29 w28.heap.size (Rg.none.cells)) := Lib.hid (by first | exact hA | simpa using hA)
  have GEg30 := Lib.hid HBL.out.size
  clear HBL F5 F10 F14 F24 HEV HD
  have HBL := HBLn
  have F5 := F5n
  have F10 := F10n
  have F14 := F14n
  have F24 := F24n
  have HEV := HEVn
  have HD := HDn
  clear HBLn F5n F10n F14n F24n HEVn HDn
  clear hA hb hl
  generalize w28.heap.size = g30 at *
  refine store_all (cs := R3.cells.toArray) F31.out (by simp only [List.size_toArray, HWN.out.cells, HW3.out.cells]) (by rw [List.size_toArray, HW3.out.cells]; exact info27) (by simpa using Rg.cell_one R3) rfl rfl rfl ?_
  intro w32 hD hO hlD
  try simp only [Act.put, List.setIfInBounds_toArray, List.set_cons_succ, List.set_cons_zero]
  have HBLn := Lib.hid (HBL.out.trans (hO.below HBL.out.size fun k hk => by rw [hk]; exact GEg30.out))
  have F5n := Lib.hid (F5.out.only hO (NEg4_g30.out))
  have F10n := Lib.hid (F10.out.only hO (NEg9_g30.out))
  have F14n := Lib.hid (F14.out.only hO (NEg13_g30.out))
  have F24n := Lib.hid (F24.out.only hO (NEg23_g30.out))
  have F31n : Hid (Blk w32 g30 (R3.cells)) := Lib.hid (by first | exact hD | simpa using hD)
  have HEVn := Lib.hid (HEV.out.keep hO GEg30.out HP.out)
  have HDn := Lib.hid (HD.out.go1 hO GDg30.out NFg30.out)
  clear HBL F5 F10 F14 F24 F31 HEV HD
  have HBL := HBLn
  have F5 := F5n
  have F10 := F10n
  have F14 := F14n
  have F24 := F24n
  have F31 := F31n
  have HEV := HEVn
  have HD := HDn
  clear HBLn F5n F10n F14n F24n F31n HEVn HDn
  clear hD hO hlD
  refine takeL (.int .i64 0) rfl (by go_simp) ?_
  try simp only [Act.put, List.setIfInBounds_toArray, List.set_cons_succ, List.set_cons_zero]
  refine wpList_nil ?_
  go_upto_region 11 with fail
  refine wp_region_lit ?_
  refine takeL (.int .i64 0) rfl (by go_simp) ?_
  try simp only [Act.put, List.setIfInBounds_toArray, List.set_cons_succ, List.set_cons_zero]
  refine takeL (.bool true) rfl (by go_simp) ?_
  try simp only [Act.put, List.setIfInBounds_toArray, List.set_cons_succ, List.set_cons_zero]
  refine takeL (.bool true) rfl (by go_simp) ?_
  try simp only [Act.put, List.setIfInBounds_toArray, List.set_cons_succ, List.set_cons_zero]
  refine load27 (cs := R4.cells.toArray) (Blk.all F24.out rfl) (by rw [List.size_toArray]; exact HW4.out.cells) rfl rfl ?_
  try simp only [Act.put, List.setIfInBounds_toArray, List.set_cons_succ, List.set_cons_zero]
  refine load27 (cs := R4.cells.toArray) (Blk.all F14.out rfl) (by rw [List.size_toArray]; exact HW4.out.cells) rfl rfl ?_
  try simp only [Act.put, List.setIfInBounds_toArray, List.set_cons_succ, List.set_cons_zero]
  refine takeL (.bool true) rfl (by exact run_eql_reg HW4.out.len _ _ _ rfl rfl rfl) ?_
  try simp only [Act.put, List.setIfInBounds_toArray, List.set_cons_succ, List.set_cons_zero]
  refine takeL (.bool true) rfl (by go_simp) ?_
  try simp only [Act.put, List.setIfInBounds_toArray, List.set_cons_succ, List.set_cons_zero]
  refine takeL (.bool true) rfl (by go_simp) ?_
  try simp only [Act.put, List.setIfInBounds_toArray, List.set_cons_succ, List.set_cons_zero]
  refine takeL (.int .i64 0) rfl (by go_simp) ?_
  try simp only [Act.put, List.setIfInBounds_toArray, List.set_cons_succ, List.set_cons_zero]
  refine takeL (.bool true) rfl (by go_simp) ?_
  try simp only [Act.put, List.setIfInBounds_toArray, List.set_cons_succ, List.set_cons_zero]
  refine takeL (.bool true) rfl (by go_simp) ?_
  try simp only [Act.put, List.setIfInBounds_toArray, List.set_cons_succ, List.set_cons_zero]
  refine takeL (.bool true) rfl (by go_simp) ?_
  try simp only [Act.put, List.setIfInBounds_toArray, List.set_cons_succ, List.set_cons_zero]
  refine load27 (cs := R3.cells.toArray) (Blk.all F31.out rfl) (by rw [List.size_toArray]; exact HW3.out.cells) rfl rfl ?_
  try simp only [Act.put, List.setIfInBounds_toArray, List.set_cons_succ, List.set_cons_zero]
  refine load27 (cs := R3.cells.toArray) (Blk.all F10.out rfl) (by rw [List.size_toArray]; exact HW3.out.cells) rfl rfl ?_
  try simp only [Act.put, List.setIfInBounds_toArray, List.set_cons_succ, List.set_cons_zero]
  refine takeL (.bool true) rfl (by exact run_eql_reg HW3.out.len _ _ _ rfl rfl rfl) ?_
  try simp only [Act.put, List.setIfInBounds_toArray, List.set_cons_succ, List.set_cons_zero]
  refine takeL (.bool true) rfl (by go_simp) ?_
  try simp only [Act.put, List.setIfInBounds_toArray, List.set_cons_succ, List.set_cons_zero]
  refine takeL (.bool true) rfl (by go_simp) ?_
  try simp only [Act.put, List.setIfInBounds_toArray, List.set_cons_succ, List.set_cons_zero]
  refine wpList_nil ?_
  go_wp2_with fail
  go_ret
  exact ⟨rfl, HBL.out⟩

end Go.Proofs.YtoiekieddkadmaaDoor
