/- The statement RegionRoots' walk. -/
import Derived.Test.YtlleafhfogfngaaDoorRgood
import Derived.Test.YtlleafhfogfngaaDoorPair
namespace Go.Proofs.YtlleafhfogfngaaDoor
set_option linter.unusedSimpArgs false
set_option linter.unusedVariables false
open Go.RowKit

/-- A region with another root. -/
def Rg.setRoot (r : Rg) (k : Nat) (x : Int) : Rg := ⟨r.gen, r.p, r.s, r.l, r.f, r.seg, r.off, r.seq, r.rs.set k x⟩
theorem setRoot_cells (r : Rg) (k : Nat) (x : Int) : r.cells.set (8 + k) (.int .i64 x) = (r.setRoot k x).cells := by
  unfold Rg.cells Rg.setRoot
  rw [List.set_append_right _ _ (by simp [Rg.hd])]
  simp [Rg.hd, List.map_set]
theorem maps_is (r : Rg) (h : 1 ≤ r.p) : r.g.maps = (r.p + 8 - 1) / 8 := by
  show (r.p + 7).tdiv 8 = _
  rw [Int.tdiv_eq_ediv_of_nonneg (by omega)]
  omega
theorem setRoot_wf {r : Rg} (h : r.Wf) (k : Nat) {x : Int} (hx : Small x) : (r.setRoot k x).Wf where
  gen := h.gen
  p := h.p
  s := h.s
  l := h.l
  f := h.f
  seg := h.seg
  off := h.off
  seq := h.seq
  len := by simp [Rg.setRoot, h.len]
  rs := fun y hy => by
    rcases List.mem_or_eq_of_mem_set hy with h1 | rfl
    · exact h.rs y h1
    · exact hx
theorem setRoot_good {r : Rg} (h : r.good = true) (hl : r.rs.length = 8) {k : Nat} (hk : k < 8) (x : Int) : (r.setRoot k x).good = okRoot r.g k x := by
  obtain ⟨h1, h2, h3, h4⟩ := good_iff.1 h
  have e : (r.setRoot k x).good = rootsOk r.g (r.rs.set k x) := good_rest (r := r.setRoot k x) h1 h2 h3
  rw [e]
  have hg : ∀ j, (r.rs.set k x).getD j 0 = if k = j then x else r.rs.getD j 0 := fun j => by
    rw [List.getD_eq_getElem?_getD, List.getElem?_set]
    by_cases hj : k = j
    · subst hj
      rw [if_pos rfl, if_pos rfl, if_pos (by omega)]
      rfl
    · rw [if_neg hj, if_neg hj, List.getD_eq_getElem?_getD]
  cases ho : okRoot r.g k x with
  | false => exact roots_no hk (by rw [hg, if_pos rfl]; exact ho)
  | true =>
    refine roots_all fun j hj => ?_
    rw [hg]
    by_cases hkj : k = j
    · subst hkj
      rw [if_pos rfl]
      exact ho
    · rw [if_neg hkj]
      exact roots_at h4 j hj

theorem rregion_is {r : Rg} {v : Bool} (h : r.good = v) (hw : r.Wf) (w : World) : Calls Tryd.prog 12 #[.agg r.cells.toArray] w fun e w' => e = .returned (.bool v) ∧ Below w.heap.size w w' := h ▸ rregion_any r hw w
set_option maxHeartbeats 1000000 in
set_option maxRecDepth 100000 in
theorem roots_none (r : Rg) (hr : r.Wf) (i : Int) (hi : Byte i) (x : Int) (hx : Small x) (gr : r.good = false) (w : World) (hev : ErrVar w) : Calls Tryd.prog 6 #[.agg r.cells.toArray, .int .u8 i, .int .i64 x] w fun e w' => e = .returned (.bool true) ∧ Below w.heap.size w w' := by
  have HZ128 := Lib.hid (zeros_length 128)
  have HWN := Lib.hid none_wf
  have HWR := Lib.hid hr
  have HBL : Hid (Below w.heap.size w w) := Lib.hid (Below.refl _ _)
  have HEV := Lib.hid hev
  have HE0 := Lib.hid hev.lt
  clear hev hr
  have HGR := Lib.hid gr
  clear gr
  go_enter Tryd.func6, Tryd.ntmps6
  go_upto_region 0 with fail
  refine wp_region_lit ?_
  refine box_g rfl rfl ?_
  intro w1 hA hb hl
  try simp only [Act.put, List.setIfInBounds_toArray, List.set_cons_succ, List.set_cons_zero]
  clear hl
  have HG2 : Hid (w.heap.size ≤ w.heap.size) := Lib.hid HBL.out.size
  have F3 := Lib.hid (HBL.out.trans (hb.mono HBL.out.size))
  have F4 := Lib.hid (HEV.out.below (Nat.le_refl _) hb)
  clear HBL HEV
  have F5 : Hid (Blk w1 w.heap.size r.cells) := Lib.hid hA
  clear hA hb
  refine takeL (.bool false) rfl (by go_simp) ?_
  try simp only [Act.put, List.setIfInBounds_toArray, List.set_cons_succ, List.set_cons_zero]
  refine wpList_nil ?_
  go_upto_region 1 with fail
  refine wp_region_lit ?_
  refine load27 (cs := r.cells.toArray) (Blk.all F5.out rfl) (by rw [List.size_toArray]; exact HWR.out.cells) rfl rfl ?_
  try simp only [Act.put, List.setIfInBounds_toArray, List.set_cons_succ, List.set_cons_zero]
  refine wpList_op rfl fun K hK => ?_
  go_simp
  refine (rregion_is HGR.out HWR.out _).mono ?_
  rintro e w6 ⟨rfl, hb⟩
  have F7 := Lib.hid (F3.out.trans (hb.mono F3.out.size))
  have F8 := Lib.hid (F4.out.below (Nat.le_refl _) hb)
  have F9 := Lib.hid (F5.out.below hb F5.out.lt)
  clear F3 F4 F5
  clear hb
  refine hK _ _ ?_
  clear hK K
  try simp only [Act.put, List.setIfInBounds_toArray, List.set_cons_succ, List.set_cons_zero]
  refine takeL (.bool true) rfl (by go_simp) ?_
  try simp only [Act.put, List.setIfInBounds_toArray, List.set_cons_succ, List.set_cons_zero]
  refine wpList_nil ?_
  go_upto_region 2 with fail
  refine wp_region_lit ?_
  refine load27 (cs := r.cells.toArray) (Blk.all F9.out rfl) (by rw [List.size_toArray]; exact HWR.out.cells) rfl rfl ?_
  try simp only [Act.put, List.setIfInBounds_toArray, List.set_cons_succ, List.set_cons_zero]
  refine wpList_op rfl fun K hK => ?_
  go_simp
  refine (good_not HGR.out HWR.out _).mono ?_
  rintro e w10 ⟨rfl, hb⟩
  have F11 := Lib.hid (F7.out.trans (hb.mono F7.out.size))
  have F12 := Lib.hid (F8.out.below (Nat.le_refl _) hb)
  have F13 := Lib.hid (F9.out.below hb F9.out.lt)
  clear F7 F8 F9
  clear hb
  refine hK _ _ ?_
  clear hK K
  try simp only [Act.put, List.setIfInBounds_toArray, List.set_cons_succ, List.set_cons_zero]
  refine takeL (.bool true) rfl (by go_simp) ?_
  try simp only [Act.put, List.setIfInBounds_toArray, List.set_cons_succ, List.set_cons_zero]
  refine takeL (.bool true) rfl (by go_simp) ?_
  try simp only [Act.put, List.setIfInBounds_toArray, List.set_cons_succ, List.set_cons_zero]
  refine wpList_op rfl fun K hK => ?_
  go_simp
  refine (wakes_any _ F12.out).mono ?_
  rintro e w14 ⟨rfl, hb⟩
  have F15 := Lib.hid (F11.out.trans (hb.mono F11.out.size))
  have F16 := Lib.hid (F12.out.below (Nat.le_refl _) hb)
  have F17 := Lib.hid (F13.out.below hb F13.out.lt)
  clear F11 F12 F13
  clear hb
  refine hK _ _ ?_
  clear hK K
  try simp only [Act.put, List.setIfInBounds_toArray, List.set_cons_succ, List.set_cons_zero]
  refine takeL (.bool true) rfl (by go_simp) ?_
  try simp only [Act.put, List.setIfInBounds_toArray, List.set_cons_succ, List.set_cons_zero]
  refine takeL (.bool true) rfl (by go_simp) ?_
  try simp only [Act.put, List.setIfInBounds_toArray, List.set_cons_succ, List.set_cons_zero]
  refine wpList_nil ?_
  go_wp2_with fail
  go_ret
  exact ⟨rfl, F15.out⟩
set_option maxHeartbeats 1000000 in
set_option maxRecDepth 100000 in
theorem roots_zero (r : Rg) (hr : r.Wf) (i : Int) (hi : Byte i) (hx : Small 0) (k : Nat) (hk : k < 8) (hik : i % 8 = (k : Int)) (gr : r.good = true) (ho : okRoot r.g k 0 = true) (w : World) (hev : ErrVar w) : Calls Tryd.prog 6 #[.agg r.cells.toArray, .int .u8 i, .int .i64 0] w fun e w' => e = .returned (.bool true) ∧ Below w.heap.size w w' := by
  have HZ128 := Lib.hid (zeros_length 128)
  have HWN := Lib.hid none_wf
  have HWR := Lib.hid hr
  have HBL : Hid (Below w.heap.size w w) := Lib.hid (Below.refl _ _)
  have HEV := Lib.hid hev
  have HE0 := Lib.hid hev.lt
  clear hev hr
  have HGR := Lib.hid gr
  obtain ⟨q, hqq⟩ : ∃ q, r.setRoot k 0 = q := ⟨_, rfl⟩
  have HQG : Hid (q.good = true) := Lib.hid (hqq ▸ (setRoot_good gr HWR.out.len hk 0).trans (ho))
  have HWQ : Hid q.Wf := Lib.hid (hqq ▸ setRoot_wf HWR.out k hx)
  have HQC : Hid (r.cells.set (8 + k) (.int .i64 0) = q.cells) := Lib.hid (hqq ▸ setRoot_cells r k 0)
  clear hqq
  have HK := Lib.hid hik
  have HOR : Hid (okRoot r.g k 0 = true) := Lib.hid (ho)
  have HAR := Lib.hid (good_iff.1 gr).1.area0
  have HPB := Lib.hid (good_iff.1 gr).1.1
  have HQE := Lib.hid (enc_length HWQ.out.len)
  clear gr hx hik ho
  go_enter Tryd.func6, Tryd.ntmps6
  go_upto_region 0 with fail
  refine wp_region_lit ?_
  refine box_g rfl rfl ?_
  intro w1 hA hb hl
  try simp only [Act.put, List.setIfInBounds_toArray, List.set_cons_succ, List.set_cons_zero]
  clear hl
  have HG2 : Hid (w.heap.size ≤ w.heap.size) := Lib.hid HBL.out.size
  have F3 := Lib.hid (HBL.out.trans (hb.mono HBL.out.size))
  have F4 := Lib.hid (HEV.out.below (Nat.le_refl _) hb)
  clear HBL HEV
  have F5 : Hid (Blk w1 w.heap.size r.cells) := Lib.hid hA
  clear hA hb
  refine takeL (.bool false) rfl (by go_simp) ?_
  try simp only [Act.put, List.setIfInBounds_toArray, List.set_cons_succ, List.set_cons_zero]
  refine wpList_nil ?_
  go_upto_region 1 with fail
  refine wp_region_lit ?_
  refine load27 (cs := r.cells.toArray) (Blk.all F5.out rfl) (by rw [List.size_toArray]; exact HWR.out.cells) rfl rfl ?_
  try simp only [Act.put, List.setIfInBounds_toArray, List.set_cons_succ, List.set_cons_zero]
  refine wpList_op rfl fun K hK => ?_
  go_simp
  refine (rregion_is HGR.out HWR.out _).mono ?_
  rintro e w6 ⟨rfl, hb⟩
  have F7 := Lib.hid (F3.out.trans (hb.mono F3.out.size))
  have F8 := Lib.hid (F4.out.below (Nat.le_refl _) hb)
  have F9 := Lib.hid (F5.out.below hb F5.out.lt)
  clear F3 F4 F5
  clear hb
  refine hK _ _ ?_
  clear hK K
  try simp only [Act.put, List.setIfInBounds_toArray, List.set_cons_succ, List.set_cons_zero]
  refine takeL (.bool false) rfl (by go_simp) ?_
  try simp only [Act.put, List.setIfInBounds_toArray, List.set_cons_succ, List.set_cons_zero]
  refine wpList_nil ?_
  go_upto_region 3 with fail
  refine wp_region_lit ?_
  refine takeL (.int .u8 i) rfl (by go_simp) ?_
  try simp only [Act.put, List.setIfInBounds_toArray, List.set_cons_succ, List.set_cons_zero]
  refine takeL (.int .i64 i) rfl (by have hq := hi; go_simp <;> exact wrap64 hq.1 (by have := hq.2; omega)) ?_
  try simp only [Act.put, List.setIfInBounds_toArray, List.set_cons_succ, List.set_cons_zero]
  refine takeL (.int .i64 k) rfl (by have hq := HK.out; have h0 := hi.1; go_simp <;> (rw [Int.tmod_eq_emod_of_nonneg h0]; exact hq)) ?_
  try simp only [Act.put, List.setIfInBounds_toArray, List.set_cons_succ, List.set_cons_zero]
  refine takeL (.int .i64 k) rfl (by go_simp) ?_
  try simp only [Act.put, List.setIfInBounds_toArray, List.set_cons_succ, List.set_cons_zero]
  refine wpList_nil ?_
  go_upto_region 4 with fail
  refine wp_region_lit ?_
  refine load27 (cs := r.cells.toArray) (Blk.all F9.out rfl) (by rw [List.size_toArray]; exact HWR.out.cells) rfl rfl ?_
  try simp only [Act.put, List.setIfInBounds_toArray, List.set_cons_succ, List.set_cons_zero]
  refine alloc_g zero27 rfl ?_
  intro w10 hA hb hl
  try simp only [Act.put, List.setIfInBounds_toArray, List.set_cons_succ, List.set_cons_zero]
  clear hl
  have HN11 := Lib.hid (Nat.ne_of_lt F9.out.lt)
  have HG12 : Hid (w.heap.size ≤ w6.heap.size) := Lib.hid F7.out.size
  have F13 := Lib.hid (F7.out.trans (hb.mono F7.out.size))
  have F14 := Lib.hid (F8.out.below (Nat.le_refl _) hb)
  have F15 := Lib.hid (F9.out.below hb F9.out.lt)
  clear F7 F8 F9
  have F16 : Hid (Blk w10 w6.heap.size Rg.none.cells) := Lib.hid hA
  clear hA hb
  generalize w6.heap.size = g17 at *
  clear w6
  refine store_all (cs := r.cells.toArray) F16.out (by simp only [u8s_size, List.size_toArray, List.length_map, HWN.out.cells, HWR.out.cells]) (by rw [List.size_toArray, HWR.out.cells]; exact info27) (fun v hv => Rg.cell_one _ v (by simpa using hv)) rfl rfl rfl ?_
  intro w18 hD hO hlD
  try simp only [Act.put, List.setIfInBounds_toArray, List.set_cons_succ, List.set_cons_zero]
  clear hlD
  have F19 := Lib.hid (F13.out.trans (hO.below F13.out.size (fun k hk => by rw [hk]; exact HG12.out)))
  have F20 := Lib.hid (F14.out.keep hO HG12.out HE0.out)
  have F21 := Lib.hid (F15.out.only hO (HN11.out))
  clear F13 F14 F15 F16
  have F16' : Hid (Blk w18 g17 r.cells) := Lib.hid hD
  clear hD hO 
  refine wpList_nil ?_
  go_upto_region 5 with fail
  refine wp_region_lit ?_
  refine takeL (.int .i64 k) rfl (by go_simp) ?_
  try simp only [Act.put, List.setIfInBounds_toArray, List.set_cons_succ, List.set_cons_zero]
  refine takeL (.int .i64 0) rfl (by go_simp) ?_
  try simp only [Act.put, List.setIfInBounds_toArray, List.set_cons_succ, List.set_cons_zero]
  refine takeL (.pointer (some ⟨g17, 8, none⟩)) rfl (by go_simp) ?_
  try simp only [Act.put, List.setIfInBounds_toArray, List.set_cons_succ, List.set_cons_zero]
  refine takeL (.pointer (some ⟨g17, 8 + k, none⟩)) rfl (by go_simp <;> (intro _; omega)) ?_
  try simp only [Act.put, List.setIfInBounds_toArray, List.set_cons_succ, List.set_cons_zero]
  obtain ⟨xo, hxo⟩ : ∃ y, r.rs[k]? = some y := ⟨_, List.getElem?_eq_getElem (by rw [HWR.out.len]; exact hk)⟩
  refine skipL (w18.setCell ⟨g17, 8 + k, none⟩ (.int .i64 0)) rfl (by have hq := rootCell F16'.out hxo; have hf := F16'.out.frozen (8 + k); go_simp) ?_
  try simp only [Act.put, List.setIfInBounds_toArray, List.set_cons_succ, List.set_cons_zero]
  clear hxo
  have hO : Only (fun k => k = g17) w18 (w18.setCell ⟨g17, 8 + k, none⟩ (.int .i64 0)) := (Only.refl (fun k => k = g17) w18).setCell (p := ⟨g17, 8 + k, none⟩) (.inl rfl) _
  have hD := F16'.out.set (8 + k) (.int .i64 0)
  rw [HQC.out] at hD
  generalize w18.setCell ⟨g17, 8 + k, none⟩ (.int .i64 0) = w22 at *
  have F23 := Lib.hid (F19.out.trans (hO.below F19.out.size (fun k hk => by rw [hk]; exact HG12.out)))
  have F24 := Lib.hid (F20.out.keep hO HG12.out HE0.out)
  have F25 := Lib.hid (F21.out.only hO (HN11.out))
  clear F19 F20 F21 F16'
  have F16'' : Hid (Blk w22 g17 q.cells) := Lib.hid hD
  clear hD hO
  refine wpList_nil ?_
  have c1 := F25.out.cell (i := 1) (v := .int .i64 r.p) rfl
  have c2 := F25.out.cell (i := 2) (v := .int .i64 r.s) rfl
  have c3 := F25.out.cell (i := 3) (v := .int .i64 r.l) rfl
  obtain ⟨hp1, hp2⟩ : 1 ≤ r.p ∧ r.p ≤ 64 := HPB.out
  obtain ⟨ha1, ha2⟩ : 0 ≤ r.s * r.l ∧ r.s * r.l ≤ 512 := HAR.out
  go_upto_region 7 with fail
  go_cut [10] from 10 to 59 (fun s10 wx => s10 = .bool (okRoot r.g k 0) ∧ wx = w22)
  case first =>
    go_wp2_with fail
    all_goals go_meet
    all_goals
      refine ⟨congrArg Value.bool (Bool.eq_iff_iff.2 ?_), rfl⟩
      have hmaps := maps_is r hp1
      simp only [okRoot, hmaps, Bool.or_eq_true, Bool.and_eq_true, decide_eq_true_eq, beq_iff_eq]
      first | omega | simp
  case rest =>
    obtain ⟨rfl, rfl⟩ := hcut
    rw [HOR.out]
    clear c1 c2 c3
    go_upto_region 8 with fail
    refine wp_region_lit ?_
    refine load27 (cs := q.cells.toArray) (Blk.all F16''.out rfl) (by rw [List.size_toArray]; exact HWQ.out.cells) rfl rfl ?_
    try simp only [Act.put, List.setIfInBounds_toArray, List.set_cons_succ, List.set_cons_zero]
    refine wpList_op rfl fun K hK => ?_
    go_simp
    refine (encode_yes HQG.out HWQ.out _ F24.out).mono ?_
    rintro e w26 ⟨rfl, hb⟩
    have F27 := Lib.hid (F23.out.trans (hb.mono F23.out.size))
    have F28 := Lib.hid (F24.out.below (Nat.le_refl _) hb)
    have F29 := Lib.hid (F25.out.below hb F25.out.lt)
    have F30 := Lib.hid (F16''.out.below hb F16''.out.lt)
    clear F23 F24 F25 F16''
    clear hb
    refine hK _ _ ?_
    clear hK K
    try simp only [Act.put, List.setIfInBounds_toArray, List.set_cons_succ, List.set_cons_zero]
    refine takeL (.tuple #[.agg (u8s q.enc).toArray, .int .i64 0]) rfl (by go_simp) ?_
    try simp only [Act.put, List.setIfInBounds_toArray, List.set_cons_succ, List.set_cons_zero]
    refine takeL (.agg (u8s q.enc).toArray) rfl (by go_simp) ?_
    try simp only [Act.put, List.setIfInBounds_toArray, List.set_cons_succ, List.set_cons_zero]
    refine takeL (.int .i64 0) rfl (by go_simp) ?_
    try simp only [Act.put, List.setIfInBounds_toArray, List.set_cons_succ, List.set_cons_zero]
    refine alloc_g zero30 rfl ?_
    intro w31 hA hb hl
    try simp only [Act.put, List.setIfInBounds_toArray, List.set_cons_succ, List.set_cons_zero]
    clear hl
    have HN32 := Lib.hid (Nat.ne_of_lt F29.out.lt)
    have HN33 := Lib.hid (Nat.ne_of_lt F30.out.lt)
    have HG34 : Hid (w.heap.size ≤ w26.heap.size) := Lib.hid F27.out.size
    have F35 := Lib.hid (F27.out.trans (hb.mono F27.out.size))
    have F36 := Lib.hid (F28.out.below (Nat.le_refl _) hb)
    have F37 := Lib.hid (F29.out.below hb F29.out.lt)
    have F38 := Lib.hid (F30.out.below hb F30.out.lt)
    clear F27 F28 F29 F30
    have F39 : Hid (Blk w31 w26.heap.size (u8s (zeros 128))) := Lib.hid hA
    clear hA hb
    generalize w26.heap.size = g40 at *
    clear w26
    refine store_all (cs := (u8s q.enc).toArray) F39.out (by simp only [u8s_size, List.size_toArray, List.length_map, HZ128.out, HQE.out]) (by rw [u8s_size, HQE.out]; exact info30) (u8s_one _) rfl rfl rfl ?_
    intro w41 hD hO hlD
    try simp only [Act.put, List.setIfInBounds_toArray, List.set_cons_succ, List.set_cons_zero]
    clear hlD
    have F42 := Lib.hid (F35.out.trans (hO.below F35.out.size (fun k hk => by rw [hk]; exact HG34.out)))
    have F43 := Lib.hid (F36.out.keep hO HG34.out HE0.out)
    have F44 := Lib.hid (F37.out.only hO (HN32.out))
    have F45 := Lib.hid (F38.out.only hO (HN33.out))
    clear F35 F36 F37 F38 F39
    have F39' : Hid (Blk w41 g40 (u8s q.enc)) := Lib.hid hD
    clear hD hO 
    refine takeL (.int .i64 0) rfl (by go_simp) ?_
    try simp only [Act.put, List.setIfInBounds_toArray, List.set_cons_succ, List.set_cons_zero]
    refine wpList_nil ?_
    go_upto_region 9 with fail
    refine wp_region_lit ?_
    refine load27 (cs := q.cells.toArray) (Blk.all F45.out rfl) (by rw [List.size_toArray]; exact HWQ.out.cells) rfl rfl ?_
    try simp only [Act.put, List.setIfInBounds_toArray, List.set_cons_succ, List.set_cons_zero]
    refine wpList_op rfl fun K hK => ?_
    go_simp
    refine (good_is HQG.out HWQ.out _).mono ?_
    rintro e w46 ⟨rfl, hb⟩
    have F47 := Lib.hid (F42.out.trans (hb.mono F42.out.size))
    have F48 := Lib.hid (F43.out.below (Nat.le_refl _) hb)
    have F49 := Lib.hid (F44.out.below hb F44.out.lt)
    have F50 := Lib.hid (F45.out.below hb F45.out.lt)
    have F51 := Lib.hid (F39'.out.below hb F39'.out.lt)
    clear F42 F43 F44 F45 F39'
    clear hb
    refine hK _ _ ?_
    clear hK K
    try simp only [Act.put, List.setIfInBounds_toArray, List.set_cons_succ, List.set_cons_zero]
    refine takeL (.bool true) rfl (by go_simp) ?_
    try simp only [Act.put, List.setIfInBounds_toArray, List.set_cons_succ, List.set_cons_zero]
    refine takeL (.bool true) rfl (by go_simp) ?_
    try simp only [Act.put, List.setIfInBounds_toArray, List.set_cons_succ, List.set_cons_zero]
    refine takeL (.bool true) rfl (by go_simp) ?_
    try simp only [Act.put, List.setIfInBounds_toArray, List.set_cons_succ, List.set_cons_zero]
    refine takeL (.int .i64 0) rfl (by go_simp) ?_
    try simp only [Act.put, List.setIfInBounds_toArray, List.set_cons_succ, List.set_cons_zero]
    refine takeL (.bool true) rfl (by go_simp) ?_
    try simp only [Act.put, List.setIfInBounds_toArray, List.set_cons_succ, List.set_cons_zero]
    refine takeL (.bool true) rfl (by go_simp) ?_
    try simp only [Act.put, List.setIfInBounds_toArray, List.set_cons_succ, List.set_cons_zero]
    refine takeL (.bool true) rfl (by go_simp) ?_
    try simp only [Act.put, List.setIfInBounds_toArray, List.set_cons_succ, List.set_cons_zero]
    refine takeL (.bool true) rfl (by go_simp) ?_
    try simp only [Act.put, List.setIfInBounds_toArray, List.set_cons_succ, List.set_cons_zero]
    refine takeL (.bool true) rfl (by go_simp) ?_
    try simp only [Act.put, List.setIfInBounds_toArray, List.set_cons_succ, List.set_cons_zero]
    refine wpList_op rfl fun K hK => ?_
    go_simp
    refine (wakes_any _ F48.out).mono ?_
    rintro e w52 ⟨rfl, hb⟩
    have F53 := Lib.hid (F47.out.trans (hb.mono F47.out.size))
    have F54 := Lib.hid (F48.out.below (Nat.le_refl _) hb)
    have F55 := Lib.hid (F49.out.below hb F49.out.lt)
    have F56 := Lib.hid (F50.out.below hb F50.out.lt)
    have F57 := Lib.hid (F51.out.below hb F51.out.lt)
    clear F47 F48 F49 F50 F51
    clear hb
    refine hK _ _ ?_
    clear hK K
    try simp only [Act.put, List.setIfInBounds_toArray, List.set_cons_succ, List.set_cons_zero]
    refine takeL (.bool true) rfl (by go_simp) ?_
    try simp only [Act.put, List.setIfInBounds_toArray, List.set_cons_succ, List.set_cons_zero]
    refine takeL (.bool true) rfl (by go_simp) ?_
    try simp only [Act.put, List.setIfInBounds_toArray, List.set_cons_succ, List.set_cons_zero]
    refine wpList_nil ?_
    go_wp2_with fail
    go_ret
    exact ⟨rfl, F53.out⟩
set_option maxHeartbeats 1000000 in
set_option maxRecDepth 100000 in
theorem roots_true (r : Rg) (hr : r.Wf) (i : Int) (hi : Byte i) (x : Int) (hx : Small x) (k : Nat) (hk : k < 8) (hik : i % 8 = (k : Int)) (gr : r.good = true) (ho : okRoot r.g k x = true) (hc : ¬ x = 0) (w : World) (hev : ErrVar w) : Calls Tryd.prog 6 #[.agg r.cells.toArray, .int .u8 i, .int .i64 x] w fun e w' => e = .returned (.bool true) ∧ Below w.heap.size w w' := by
  have HZ128 := Lib.hid (zeros_length 128)
  have HWN := Lib.hid none_wf
  have HWR := Lib.hid hr
  have HBL : Hid (Below w.heap.size w w) := Lib.hid (Below.refl _ _)
  have HEV := Lib.hid hev
  have HE0 := Lib.hid hev.lt
  clear hev hr
  have HGR := Lib.hid gr
  obtain ⟨q, hqq⟩ : ∃ q, r.setRoot k x = q := ⟨_, rfl⟩
  have HQG : Hid (q.good = true) := Lib.hid (hqq ▸ (setRoot_good gr HWR.out.len hk x).trans (ho))
  have HWQ : Hid q.Wf := Lib.hid (hqq ▸ setRoot_wf HWR.out k hx)
  have HQC : Hid (r.cells.set (8 + k) (.int .i64 x) = q.cells) := Lib.hid (hqq ▸ setRoot_cells r k x)
  clear hqq
  have HK := Lib.hid hik
  have HOR : Hid (okRoot r.g k x = true) := Lib.hid (ho)
  have HAR := Lib.hid (good_iff.1 gr).1.area0
  have HPB := Lib.hid (good_iff.1 gr).1.1
  have HQE := Lib.hid (enc_length HWQ.out.len)
  clear gr hx hik ho
  go_enter Tryd.func6, Tryd.ntmps6
  go_upto_region 0 with fail
  refine wp_region_lit ?_
  refine box_g rfl rfl ?_
  intro w1 hA hb hl
  try simp only [Act.put, List.setIfInBounds_toArray, List.set_cons_succ, List.set_cons_zero]
  clear hl
  have HG2 : Hid (w.heap.size ≤ w.heap.size) := Lib.hid HBL.out.size
  have F3 := Lib.hid (HBL.out.trans (hb.mono HBL.out.size))
  have F4 := Lib.hid (HEV.out.below (Nat.le_refl _) hb)
  clear HBL HEV
  have F5 : Hid (Blk w1 w.heap.size r.cells) := Lib.hid hA
  clear hA hb
  refine takeL (.bool false) rfl (by go_simp) ?_
  try simp only [Act.put, List.setIfInBounds_toArray, List.set_cons_succ, List.set_cons_zero]
  refine wpList_nil ?_
  go_upto_region 1 with fail
  refine wp_region_lit ?_
  refine load27 (cs := r.cells.toArray) (Blk.all F5.out rfl) (by rw [List.size_toArray]; exact HWR.out.cells) rfl rfl ?_
  try simp only [Act.put, List.setIfInBounds_toArray, List.set_cons_succ, List.set_cons_zero]
  refine wpList_op rfl fun K hK => ?_
  go_simp
  refine (rregion_is HGR.out HWR.out _).mono ?_
  rintro e w6 ⟨rfl, hb⟩
  have F7 := Lib.hid (F3.out.trans (hb.mono F3.out.size))
  have F8 := Lib.hid (F4.out.below (Nat.le_refl _) hb)
  have F9 := Lib.hid (F5.out.below hb F5.out.lt)
  clear F3 F4 F5
  clear hb
  refine hK _ _ ?_
  clear hK K
  try simp only [Act.put, List.setIfInBounds_toArray, List.set_cons_succ, List.set_cons_zero]
  refine takeL (.bool false) rfl (by go_simp) ?_
  try simp only [Act.put, List.setIfInBounds_toArray, List.set_cons_succ, List.set_cons_zero]
  refine wpList_nil ?_
  go_upto_region 3 with fail
  refine wp_region_lit ?_
  refine takeL (.int .u8 i) rfl (by go_simp) ?_
  try simp only [Act.put, List.setIfInBounds_toArray, List.set_cons_succ, List.set_cons_zero]
  refine takeL (.int .i64 i) rfl (by have hq := hi; go_simp <;> exact wrap64 hq.1 (by have := hq.2; omega)) ?_
  try simp only [Act.put, List.setIfInBounds_toArray, List.set_cons_succ, List.set_cons_zero]
  refine takeL (.int .i64 k) rfl (by have hq := HK.out; have h0 := hi.1; go_simp <;> (rw [Int.tmod_eq_emod_of_nonneg h0]; exact hq)) ?_
  try simp only [Act.put, List.setIfInBounds_toArray, List.set_cons_succ, List.set_cons_zero]
  refine takeL (.int .i64 k) rfl (by go_simp) ?_
  try simp only [Act.put, List.setIfInBounds_toArray, List.set_cons_succ, List.set_cons_zero]
  refine wpList_nil ?_
  go_upto_region 4 with fail
  refine wp_region_lit ?_
  refine load27 (cs := r.cells.toArray) (Blk.all F9.out rfl) (by rw [List.size_toArray]; exact HWR.out.cells) rfl rfl ?_
  try simp only [Act.put, List.setIfInBounds_toArray, List.set_cons_succ, List.set_cons_zero]
  refine alloc_g zero27 rfl ?_
  intro w10 hA hb hl
  try simp only [Act.put, List.setIfInBounds_toArray, List.set_cons_succ, List.set_cons_zero]
  clear hl
  have HN11 := Lib.hid (Nat.ne_of_lt F9.out.lt)
  have HG12 : Hid (w.heap.size ≤ w6.heap.size) := Lib.hid F7.out.size
  have F13 := Lib.hid (F7.out.trans (hb.mono F7.out.size))
  have F14 := Lib.hid (F8.out.below (Nat.le_refl _) hb)
  have F15 := Lib.hid (F9.out.below hb F9.out.lt)
  clear F7 F8 F9
  have F16 : Hid (Blk w10 w6.heap.size Rg.none.cells) := Lib.hid hA
  clear hA hb
  generalize w6.heap.size = g17 at *
  clear w6
  refine store_all (cs := r.cells.toArray) F16.out (by simp only [u8s_size, List.size_toArray, List.length_map, HWN.out.cells, HWR.out.cells]) (by rw [List.size_toArray, HWR.out.cells]; exact info27) (fun v hv => Rg.cell_one _ v (by simpa using hv)) rfl rfl rfl ?_
  intro w18 hD hO hlD
  try simp only [Act.put, List.setIfInBounds_toArray, List.set_cons_succ, List.set_cons_zero]
  clear hlD
  have F19 := Lib.hid (F13.out.trans (hO.below F13.out.size (fun k hk => by rw [hk]; exact HG12.out)))
  have F20 := Lib.hid (F14.out.keep hO HG12.out HE0.out)
  have F21 := Lib.hid (F15.out.only hO (HN11.out))
  clear F13 F14 F15 F16
  have F16' : Hid (Blk w18 g17 r.cells) := Lib.hid hD
  clear hD hO 
  refine wpList_nil ?_
  go_upto_region 5 with fail
  refine wp_region_lit ?_
  refine takeL (.int .i64 k) rfl (by go_simp) ?_
  try simp only [Act.put, List.setIfInBounds_toArray, List.set_cons_succ, List.set_cons_zero]
  refine takeL (.int .i64 x) rfl (by go_simp) ?_
  try simp only [Act.put, List.setIfInBounds_toArray, List.set_cons_succ, List.set_cons_zero]
  refine takeL (.pointer (some ⟨g17, 8, none⟩)) rfl (by go_simp) ?_
  try simp only [Act.put, List.setIfInBounds_toArray, List.set_cons_succ, List.set_cons_zero]
  refine takeL (.pointer (some ⟨g17, 8 + k, none⟩)) rfl (by go_simp <;> (intro _; omega)) ?_
  try simp only [Act.put, List.setIfInBounds_toArray, List.set_cons_succ, List.set_cons_zero]
  obtain ⟨xo, hxo⟩ : ∃ y, r.rs[k]? = some y := ⟨_, List.getElem?_eq_getElem (by rw [HWR.out.len]; exact hk)⟩
  refine skipL (w18.setCell ⟨g17, 8 + k, none⟩ (.int .i64 x)) rfl (by have hq := rootCell F16'.out hxo; have hf := F16'.out.frozen (8 + k); go_simp) ?_
  try simp only [Act.put, List.setIfInBounds_toArray, List.set_cons_succ, List.set_cons_zero]
  clear hxo
  have hO : Only (fun k => k = g17) w18 (w18.setCell ⟨g17, 8 + k, none⟩ (.int .i64 x)) := (Only.refl (fun k => k = g17) w18).setCell (p := ⟨g17, 8 + k, none⟩) (.inl rfl) _
  have hD := F16'.out.set (8 + k) (.int .i64 x)
  rw [HQC.out] at hD
  generalize w18.setCell ⟨g17, 8 + k, none⟩ (.int .i64 x) = w22 at *
  have F23 := Lib.hid (F19.out.trans (hO.below F19.out.size (fun k hk => by rw [hk]; exact HG12.out)))
  have F24 := Lib.hid (F20.out.keep hO HG12.out HE0.out)
  have F25 := Lib.hid (F21.out.only hO (HN11.out))
  clear F19 F20 F21 F16'
  have F16'' : Hid (Blk w22 g17 q.cells) := Lib.hid hD
  clear hD hO
  refine wpList_nil ?_
  have c1 := F25.out.cell (i := 1) (v := .int .i64 r.p) rfl
  have c2 := F25.out.cell (i := 2) (v := .int .i64 r.s) rfl
  have c3 := F25.out.cell (i := 3) (v := .int .i64 r.l) rfl
  obtain ⟨hp1, hp2⟩ : 1 ≤ r.p ∧ r.p ≤ 64 := HPB.out
  obtain ⟨ha1, ha2⟩ : 0 ≤ r.s * r.l ∧ r.s * r.l ≤ 512 := HAR.out
  go_upto_region 7 with fail
  go_cut [10] from 10 to 59 (fun s10 wx => s10 = .bool (okRoot r.g k x) ∧ wx = w22)
  case first =>
    go_wp2_with fail
    all_goals go_meet
    all_goals
      refine ⟨congrArg Value.bool (Bool.eq_iff_iff.2 ?_), rfl⟩
      have hmaps := maps_is r hp1
      simp only [okRoot, hmaps, Bool.or_eq_true, Bool.and_eq_true, decide_eq_true_eq, beq_iff_eq]
      first | omega | simp
  case rest =>
    obtain ⟨rfl, rfl⟩ := hcut
    rw [HOR.out]
    clear c1 c2 c3
    go_upto_region 8 with fail
    refine wp_region_lit ?_
    refine load27 (cs := q.cells.toArray) (Blk.all F16''.out rfl) (by rw [List.size_toArray]; exact HWQ.out.cells) rfl rfl ?_
    try simp only [Act.put, List.setIfInBounds_toArray, List.set_cons_succ, List.set_cons_zero]
    refine wpList_op rfl fun K hK => ?_
    go_simp
    refine (encode_yes HQG.out HWQ.out _ F24.out).mono ?_
    rintro e w26 ⟨rfl, hb⟩
    have F27 := Lib.hid (F23.out.trans (hb.mono F23.out.size))
    have F28 := Lib.hid (F24.out.below (Nat.le_refl _) hb)
    have F29 := Lib.hid (F25.out.below hb F25.out.lt)
    have F30 := Lib.hid (F16''.out.below hb F16''.out.lt)
    clear F23 F24 F25 F16''
    clear hb
    refine hK _ _ ?_
    clear hK K
    try simp only [Act.put, List.setIfInBounds_toArray, List.set_cons_succ, List.set_cons_zero]
    refine takeL (.tuple #[.agg (u8s q.enc).toArray, .int .i64 0]) rfl (by go_simp) ?_
    try simp only [Act.put, List.setIfInBounds_toArray, List.set_cons_succ, List.set_cons_zero]
    refine takeL (.agg (u8s q.enc).toArray) rfl (by go_simp) ?_
    try simp only [Act.put, List.setIfInBounds_toArray, List.set_cons_succ, List.set_cons_zero]
    refine takeL (.int .i64 0) rfl (by go_simp) ?_
    try simp only [Act.put, List.setIfInBounds_toArray, List.set_cons_succ, List.set_cons_zero]
    refine alloc_g zero30 rfl ?_
    intro w31 hA hb hl
    try simp only [Act.put, List.setIfInBounds_toArray, List.set_cons_succ, List.set_cons_zero]
    clear hl
    have HN32 := Lib.hid (Nat.ne_of_lt F29.out.lt)
    have HN33 := Lib.hid (Nat.ne_of_lt F30.out.lt)
    have HG34 : Hid (w.heap.size ≤ w26.heap.size) := Lib.hid F27.out.size
    have F35 := Lib.hid (F27.out.trans (hb.mono F27.out.size))
    have F36 := Lib.hid (F28.out.below (Nat.le_refl _) hb)
    have F37 := Lib.hid (F29.out.below hb F29.out.lt)
    have F38 := Lib.hid (F30.out.below hb F30.out.lt)
    clear F27 F28 F29 F30
    have F39 : Hid (Blk w31 w26.heap.size (u8s (zeros 128))) := Lib.hid hA
    clear hA hb
    generalize w26.heap.size = g40 at *
    clear w26
    refine store_all (cs := (u8s q.enc).toArray) F39.out (by simp only [u8s_size, List.size_toArray, List.length_map, HZ128.out, HQE.out]) (by rw [u8s_size, HQE.out]; exact info30) (u8s_one _) rfl rfl rfl ?_
    intro w41 hD hO hlD
    try simp only [Act.put, List.setIfInBounds_toArray, List.set_cons_succ, List.set_cons_zero]
    clear hlD
    have F42 := Lib.hid (F35.out.trans (hO.below F35.out.size (fun k hk => by rw [hk]; exact HG34.out)))
    have F43 := Lib.hid (F36.out.keep hO HG34.out HE0.out)
    have F44 := Lib.hid (F37.out.only hO (HN32.out))
    have F45 := Lib.hid (F38.out.only hO (HN33.out))
    clear F35 F36 F37 F38 F39
    have F39' : Hid (Blk w41 g40 (u8s q.enc)) := Lib.hid hD
    clear hD hO 
    refine takeL (.int .i64 0) rfl (by go_simp) ?_
    try simp only [Act.put, List.setIfInBounds_toArray, List.set_cons_succ, List.set_cons_zero]
    refine wpList_nil ?_
    go_upto_region 9 with fail
    refine wp_region_lit ?_
    refine load27 (cs := q.cells.toArray) (Blk.all F45.out rfl) (by rw [List.size_toArray]; exact HWQ.out.cells) rfl rfl ?_
    try simp only [Act.put, List.setIfInBounds_toArray, List.set_cons_succ, List.set_cons_zero]
    refine wpList_op rfl fun K hK => ?_
    go_simp
    refine (good_is HQG.out HWQ.out _).mono ?_
    rintro e w46 ⟨rfl, hb⟩
    have F47 := Lib.hid (F42.out.trans (hb.mono F42.out.size))
    have F48 := Lib.hid (F43.out.below (Nat.le_refl _) hb)
    have F49 := Lib.hid (F44.out.below hb F44.out.lt)
    have F50 := Lib.hid (F45.out.below hb F45.out.lt)
    have F51 := Lib.hid (F39'.out.below hb F39'.out.lt)
    clear F42 F43 F44 F45 F39'
    clear hb
    refine hK _ _ ?_
    clear hK K
    try simp only [Act.put, List.setIfInBounds_toArray, List.set_cons_succ, List.set_cons_zero]
    refine takeL (.bool true) rfl (by go_simp) ?_
    try simp only [Act.put, List.setIfInBounds_toArray, List.set_cons_succ, List.set_cons_zero]
    refine takeL (.bool true) rfl (by go_simp) ?_
    try simp only [Act.put, List.setIfInBounds_toArray, List.set_cons_succ, List.set_cons_zero]
    refine takeL (.bool true) rfl (by go_simp) ?_
    try simp only [Act.put, List.setIfInBounds_toArray, List.set_cons_succ, List.set_cons_zero]
    refine takeL (.int .i64 0) rfl (by go_simp) ?_
    try simp only [Act.put, List.setIfInBounds_toArray, List.set_cons_succ, List.set_cons_zero]
    refine takeL (.bool true) rfl (by go_simp) ?_
    try simp only [Act.put, List.setIfInBounds_toArray, List.set_cons_succ, List.set_cons_zero]
    refine takeL (.bool true) rfl (by go_simp) ?_
    try simp only [Act.put, List.setIfInBounds_toArray, List.set_cons_succ, List.set_cons_zero]
    refine takeL (.bool true) rfl (by go_simp) ?_
    try simp only [Act.put, List.setIfInBounds_toArray, List.set_cons_succ, List.set_cons_zero]
    refine takeL (.bool true) rfl (by go_simp) ?_
    try simp only [Act.put, List.setIfInBounds_toArray, List.set_cons_succ, List.set_cons_zero]
    refine takeL (.bool true) rfl (by go_simp) ?_
    try simp only [Act.put, List.setIfInBounds_toArray, List.set_cons_succ, List.set_cons_zero]
    refine wpList_op rfl fun K hK => ?_
    go_simp
    refine (wakes_any _ F48.out).mono ?_
    rintro e w52 ⟨rfl, hb⟩
    have F53 := Lib.hid (F47.out.trans (hb.mono F47.out.size))
    have F54 := Lib.hid (F48.out.below (Nat.le_refl _) hb)
    have F55 := Lib.hid (F49.out.below hb F49.out.lt)
    have F56 := Lib.hid (F50.out.below hb F50.out.lt)
    have F57 := Lib.hid (F51.out.below hb F51.out.lt)
    clear F47 F48 F49 F50 F51
    clear hb
    refine hK _ _ ?_
    clear hK K
    try simp only [Act.put, List.setIfInBounds_toArray, List.set_cons_succ, List.set_cons_zero]
    refine takeL (.bool true) rfl (by go_simp) ?_
    try simp only [Act.put, List.setIfInBounds_toArray, List.set_cons_succ, List.set_cons_zero]
    refine takeL (.bool true) rfl (by go_simp) ?_
    try simp only [Act.put, List.setIfInBounds_toArray, List.set_cons_succ, List.set_cons_zero]
    refine wpList_nil ?_
    go_wp2_with fail
    go_ret
    exact ⟨rfl, F53.out⟩
set_option maxHeartbeats 1000000 in
set_option maxRecDepth 100000 in
theorem roots_false (r : Rg) (hr : r.Wf) (i : Int) (hi : Byte i) (x : Int) (hx : Small x) (k : Nat) (hk : k < 8) (hik : i % 8 = (k : Int)) (gr : r.good = true) (ho : okRoot r.g k x = false) (hc : ¬ x = 0) (w : World) (hev : ErrVar w) : Calls Tryd.prog 6 #[.agg r.cells.toArray, .int .u8 i, .int .i64 x] w fun e w' => e = .returned (.bool true) ∧ Below w.heap.size w w' := by
  have HZ128 := Lib.hid (zeros_length 128)
  have HWN := Lib.hid none_wf
  have HWR := Lib.hid hr
  have HBL : Hid (Below w.heap.size w w) := Lib.hid (Below.refl _ _)
  have HEV := Lib.hid hev
  have HE0 := Lib.hid hev.lt
  clear hev hr
  have HGR := Lib.hid gr
  obtain ⟨q, hqq⟩ : ∃ q, r.setRoot k x = q := ⟨_, rfl⟩
  have HQG : Hid (q.good = false) := Lib.hid (hqq ▸ (setRoot_good gr HWR.out.len hk x).trans (ho))
  have HWQ : Hid q.Wf := Lib.hid (hqq ▸ setRoot_wf HWR.out k hx)
  have HQC : Hid (r.cells.set (8 + k) (.int .i64 x) = q.cells) := Lib.hid (hqq ▸ setRoot_cells r k x)
  clear hqq
  have HK := Lib.hid hik
  have HOR : Hid (okRoot r.g k x = false) := Lib.hid (ho)
  have HAR := Lib.hid (good_iff.1 gr).1.area0
  have HPB := Lib.hid (good_iff.1 gr).1.1
  clear gr hx hik ho
  go_enter Tryd.func6, Tryd.ntmps6
  go_upto_region 0 with fail
  refine wp_region_lit ?_
  refine box_g rfl rfl ?_
  intro w1 hA hb hl
  try simp only [Act.put, List.setIfInBounds_toArray, List.set_cons_succ, List.set_cons_zero]
  clear hl
  have HG2 : Hid (w.heap.size ≤ w.heap.size) := Lib.hid HBL.out.size
  have F3 := Lib.hid (HBL.out.trans (hb.mono HBL.out.size))
  have F4 := Lib.hid (HEV.out.below (Nat.le_refl _) hb)
  clear HBL HEV
  have F5 : Hid (Blk w1 w.heap.size r.cells) := Lib.hid hA
  clear hA hb
  refine takeL (.bool false) rfl (by go_simp) ?_
  try simp only [Act.put, List.setIfInBounds_toArray, List.set_cons_succ, List.set_cons_zero]
  refine wpList_nil ?_
  go_upto_region 1 with fail
  refine wp_region_lit ?_
  refine load27 (cs := r.cells.toArray) (Blk.all F5.out rfl) (by rw [List.size_toArray]; exact HWR.out.cells) rfl rfl ?_
  try simp only [Act.put, List.setIfInBounds_toArray, List.set_cons_succ, List.set_cons_zero]
  refine wpList_op rfl fun K hK => ?_
  go_simp
  refine (rregion_is HGR.out HWR.out _).mono ?_
  rintro e w6 ⟨rfl, hb⟩
  have F7 := Lib.hid (F3.out.trans (hb.mono F3.out.size))
  have F8 := Lib.hid (F4.out.below (Nat.le_refl _) hb)
  have F9 := Lib.hid (F5.out.below hb F5.out.lt)
  clear F3 F4 F5
  clear hb
  refine hK _ _ ?_
  clear hK K
  try simp only [Act.put, List.setIfInBounds_toArray, List.set_cons_succ, List.set_cons_zero]
  refine takeL (.bool false) rfl (by go_simp) ?_
  try simp only [Act.put, List.setIfInBounds_toArray, List.set_cons_succ, List.set_cons_zero]
  refine wpList_nil ?_
  go_upto_region 3 with fail
  refine wp_region_lit ?_
  refine takeL (.int .u8 i) rfl (by go_simp) ?_
  try simp only [Act.put, List.setIfInBounds_toArray, List.set_cons_succ, List.set_cons_zero]
  refine takeL (.int .i64 i) rfl (by have hq := hi; go_simp <;> exact wrap64 hq.1 (by have := hq.2; omega)) ?_
  try simp only [Act.put, List.setIfInBounds_toArray, List.set_cons_succ, List.set_cons_zero]
  refine takeL (.int .i64 k) rfl (by have hq := HK.out; have h0 := hi.1; go_simp <;> (rw [Int.tmod_eq_emod_of_nonneg h0]; exact hq)) ?_
  try simp only [Act.put, List.setIfInBounds_toArray, List.set_cons_succ, List.set_cons_zero]
  refine takeL (.int .i64 k) rfl (by go_simp) ?_
  try simp only [Act.put, List.setIfInBounds_toArray, List.set_cons_succ, List.set_cons_zero]
  refine wpList_nil ?_
  go_upto_region 4 with fail
  refine wp_region_lit ?_
  refine load27 (cs := r.cells.toArray) (Blk.all F9.out rfl) (by rw [List.size_toArray]; exact HWR.out.cells) rfl rfl ?_
  try simp only [Act.put, List.setIfInBounds_toArray, List.set_cons_succ, List.set_cons_zero]
  refine alloc_g zero27 rfl ?_
  intro w10 hA hb hl
  try simp only [Act.put, List.setIfInBounds_toArray, List.set_cons_succ, List.set_cons_zero]
  clear hl
  have HN11 := Lib.hid (Nat.ne_of_lt F9.out.lt)
  have HG12 : Hid (w.heap.size ≤ w6.heap.size) := Lib.hid F7.out.size
  have F13 := Lib.hid (F7.out.trans (hb.mono F7.out.size))
  have F14 := Lib.hid (F8.out.below (Nat.le_refl _) hb)
  have F15 := Lib.hid (F9.out.below hb F9.out.lt)
  clear F7 F8 F9
  have F16 : Hid (Blk w10 w6.heap.size Rg.none.cells) := Lib.hid hA
  clear hA hb
  generalize w6.heap.size = g17 at *
  clear w6
  refine store_all (cs := r.cells.toArray) F16.out (by simp only [u8s_size, List.size_toArray, List.length_map, HWN.out.cells, HWR.out.cells]) (by rw [List.size_toArray, HWR.out.cells]; exact info27) (fun v hv => Rg.cell_one _ v (by simpa using hv)) rfl rfl rfl ?_
  intro w18 hD hO hlD
  try simp only [Act.put, List.setIfInBounds_toArray, List.set_cons_succ, List.set_cons_zero]
  clear hlD
  have F19 := Lib.hid (F13.out.trans (hO.below F13.out.size (fun k hk => by rw [hk]; exact HG12.out)))
  have F20 := Lib.hid (F14.out.keep hO HG12.out HE0.out)
  have F21 := Lib.hid (F15.out.only hO (HN11.out))
  clear F13 F14 F15 F16
  have F16' : Hid (Blk w18 g17 r.cells) := Lib.hid hD
  clear hD hO 
  refine wpList_nil ?_
  go_upto_region 5 with fail
  refine wp_region_lit ?_
  refine takeL (.int .i64 k) rfl (by go_simp) ?_
  try simp only [Act.put, List.setIfInBounds_toArray, List.set_cons_succ, List.set_cons_zero]
  refine takeL (.int .i64 x) rfl (by go_simp) ?_
  try simp only [Act.put, List.setIfInBounds_toArray, List.set_cons_succ, List.set_cons_zero]
  refine takeL (.pointer (some ⟨g17, 8, none⟩)) rfl (by go_simp) ?_
  try simp only [Act.put, List.setIfInBounds_toArray, List.set_cons_succ, List.set_cons_zero]
  refine takeL (.pointer (some ⟨g17, 8 + k, none⟩)) rfl (by go_simp <;> (intro _; omega)) ?_
  try simp only [Act.put, List.setIfInBounds_toArray, List.set_cons_succ, List.set_cons_zero]
  obtain ⟨xo, hxo⟩ : ∃ y, r.rs[k]? = some y := ⟨_, List.getElem?_eq_getElem (by rw [HWR.out.len]; exact hk)⟩
  refine skipL (w18.setCell ⟨g17, 8 + k, none⟩ (.int .i64 x)) rfl (by have hq := rootCell F16'.out hxo; have hf := F16'.out.frozen (8 + k); go_simp) ?_
  try simp only [Act.put, List.setIfInBounds_toArray, List.set_cons_succ, List.set_cons_zero]
  clear hxo
  have hO : Only (fun k => k = g17) w18 (w18.setCell ⟨g17, 8 + k, none⟩ (.int .i64 x)) := (Only.refl (fun k => k = g17) w18).setCell (p := ⟨g17, 8 + k, none⟩) (.inl rfl) _
  have hD := F16'.out.set (8 + k) (.int .i64 x)
  rw [HQC.out] at hD
  generalize w18.setCell ⟨g17, 8 + k, none⟩ (.int .i64 x) = w22 at *
  have F23 := Lib.hid (F19.out.trans (hO.below F19.out.size (fun k hk => by rw [hk]; exact HG12.out)))
  have F24 := Lib.hid (F20.out.keep hO HG12.out HE0.out)
  have F25 := Lib.hid (F21.out.only hO (HN11.out))
  clear F19 F20 F21 F16'
  have F16'' : Hid (Blk w22 g17 q.cells) := Lib.hid hD
  clear hD hO
  refine wpList_nil ?_
  have c1 := F25.out.cell (i := 1) (v := .int .i64 r.p) rfl
  have c2 := F25.out.cell (i := 2) (v := .int .i64 r.s) rfl
  have c3 := F25.out.cell (i := 3) (v := .int .i64 r.l) rfl
  obtain ⟨hp1, hp2⟩ : 1 ≤ r.p ∧ r.p ≤ 64 := HPB.out
  obtain ⟨ha1, ha2⟩ : 0 ≤ r.s * r.l ∧ r.s * r.l ≤ 512 := HAR.out
  go_upto_region 7 with fail
  go_cut [10] from 10 to 59 (fun s10 wx => s10 = .bool (okRoot r.g k x) ∧ wx = w22)
  case first =>
    go_wp2_with fail
    all_goals go_meet
    all_goals
      refine ⟨congrArg Value.bool (Bool.eq_iff_iff.2 ?_), rfl⟩
      have hmaps := maps_is r hp1
      simp only [okRoot, hmaps, Bool.or_eq_true, Bool.and_eq_true, decide_eq_true_eq, beq_iff_eq]
      first | omega | simp
  case rest =>
    obtain ⟨rfl, rfl⟩ := hcut
    rw [HOR.out]
    clear c1 c2 c3
    go_upto_region 8 with fail
    refine wp_region_lit ?_
    refine load27 (cs := q.cells.toArray) (Blk.all F16''.out rfl) (by rw [List.size_toArray]; exact HWQ.out.cells) rfl rfl ?_
    try simp only [Act.put, List.setIfInBounds_toArray, List.set_cons_succ, List.set_cons_zero]
    refine wpList_op rfl fun K hK => ?_
    go_simp
    refine (encode_no HQG.out HWQ.out _ F24.out).mono ?_
    rintro e w26 ⟨rfl, hb⟩
    have F27 := Lib.hid (F23.out.trans (hb.mono F23.out.size))
    have F28 := Lib.hid (F24.out.below (Nat.le_refl _) hb)
    have F29 := Lib.hid (F25.out.below hb F25.out.lt)
    have F30 := Lib.hid (F16''.out.below hb F16''.out.lt)
    clear F23 F24 F25 F16''
    clear hb
    refine hK _ _ ?_
    clear hK K
    try simp only [Act.put, List.setIfInBounds_toArray, List.set_cons_succ, List.set_cons_zero]
    refine takeL (.tuple #[.agg (u8s (zeros 128)).toArray, .int .i64 11]) rfl (by go_simp) ?_
    try simp only [Act.put, List.setIfInBounds_toArray, List.set_cons_succ, List.set_cons_zero]
    refine takeL (.agg (u8s (zeros 128)).toArray) rfl (by go_simp) ?_
    try simp only [Act.put, List.setIfInBounds_toArray, List.set_cons_succ, List.set_cons_zero]
    refine takeL (.int .i64 11) rfl (by go_simp) ?_
    try simp only [Act.put, List.setIfInBounds_toArray, List.set_cons_succ, List.set_cons_zero]
    refine alloc_g zero30 rfl ?_
    intro w31 hA hb hl
    try simp only [Act.put, List.setIfInBounds_toArray, List.set_cons_succ, List.set_cons_zero]
    clear hl
    have HN32 := Lib.hid (Nat.ne_of_lt F29.out.lt)
    have HN33 := Lib.hid (Nat.ne_of_lt F30.out.lt)
    have HG34 : Hid (w.heap.size ≤ w26.heap.size) := Lib.hid F27.out.size
    have F35 := Lib.hid (F27.out.trans (hb.mono F27.out.size))
    have F36 := Lib.hid (F28.out.below (Nat.le_refl _) hb)
    have F37 := Lib.hid (F29.out.below hb F29.out.lt)
    have F38 := Lib.hid (F30.out.below hb F30.out.lt)
    clear F27 F28 F29 F30
    have F39 : Hid (Blk w31 w26.heap.size (u8s (zeros 128))) := Lib.hid hA
    clear hA hb
    generalize w26.heap.size = g40 at *
    clear w26
    refine store_all (cs := (u8s (zeros 128)).toArray) F39.out (by simp only [u8s_size, List.size_toArray, List.length_map, HZ128.out, HZ128.out]) (by rw [u8s_size, HZ128.out]; exact info30) (u8s_one _) rfl rfl rfl ?_
    intro w41 hD hO hlD
    try simp only [Act.put, List.setIfInBounds_toArray, List.set_cons_succ, List.set_cons_zero]
    clear hlD
    have F42 := Lib.hid (F35.out.trans (hO.below F35.out.size (fun k hk => by rw [hk]; exact HG34.out)))
    have F43 := Lib.hid (F36.out.keep hO HG34.out HE0.out)
    have F44 := Lib.hid (F37.out.only hO (HN32.out))
    have F45 := Lib.hid (F38.out.only hO (HN33.out))
    clear F35 F36 F37 F38 F39
    have F39' : Hid (Blk w41 g40 (u8s (zeros 128))) := Lib.hid hD
    clear hD hO 
    refine takeL (.int .i64 11) rfl (by go_simp) ?_
    try simp only [Act.put, List.setIfInBounds_toArray, List.set_cons_succ, List.set_cons_zero]
    refine wpList_nil ?_
    go_upto_region 9 with fail
    refine wp_region_lit ?_
    refine load27 (cs := q.cells.toArray) (Blk.all F45.out rfl) (by rw [List.size_toArray]; exact HWQ.out.cells) rfl rfl ?_
    try simp only [Act.put, List.setIfInBounds_toArray, List.set_cons_succ, List.set_cons_zero]
    refine wpList_op rfl fun K hK => ?_
    go_simp
    refine (good_not HQG.out HWQ.out _).mono ?_
    rintro e w46 ⟨rfl, hb⟩
    have F47 := Lib.hid (F42.out.trans (hb.mono F42.out.size))
    have F48 := Lib.hid (F43.out.below (Nat.le_refl _) hb)
    have F49 := Lib.hid (F44.out.below hb F44.out.lt)
    have F50 := Lib.hid (F45.out.below hb F45.out.lt)
    have F51 := Lib.hid (F39'.out.below hb F39'.out.lt)
    clear F42 F43 F44 F45 F39'
    clear hb
    refine hK _ _ ?_
    clear hK K
    try simp only [Act.put, List.setIfInBounds_toArray, List.set_cons_succ, List.set_cons_zero]
    refine takeL (.bool false) rfl (by go_simp) ?_
    try simp only [Act.put, List.setIfInBounds_toArray, List.set_cons_succ, List.set_cons_zero]
    refine takeL (.bool true) rfl (by go_simp) ?_
    try simp only [Act.put, List.setIfInBounds_toArray, List.set_cons_succ, List.set_cons_zero]
    refine takeL (.bool true) rfl (by go_simp) ?_
    try simp only [Act.put, List.setIfInBounds_toArray, List.set_cons_succ, List.set_cons_zero]
    refine takeL (.int .i64 11) rfl (by go_simp) ?_
    try simp only [Act.put, List.setIfInBounds_toArray, List.set_cons_succ, List.set_cons_zero]
    refine takeL (.bool false) rfl (by go_simp) ?_
    try simp only [Act.put, List.setIfInBounds_toArray, List.set_cons_succ, List.set_cons_zero]
    refine takeL (.bool false) rfl (by go_simp) ?_
    try simp only [Act.put, List.setIfInBounds_toArray, List.set_cons_succ, List.set_cons_zero]
    refine takeL (.bool true) rfl (by go_simp) ?_
    try simp only [Act.put, List.setIfInBounds_toArray, List.set_cons_succ, List.set_cons_zero]
    refine takeL (.bool true) rfl (by go_simp) ?_
    try simp only [Act.put, List.setIfInBounds_toArray, List.set_cons_succ, List.set_cons_zero]
    refine takeL (.bool true) rfl (by go_simp) ?_
    try simp only [Act.put, List.setIfInBounds_toArray, List.set_cons_succ, List.set_cons_zero]
    refine wpList_op rfl fun K hK => ?_
    go_simp
    refine (wakes_any _ F48.out).mono ?_
    rintro e w52 ⟨rfl, hb⟩
    have F53 := Lib.hid (F47.out.trans (hb.mono F47.out.size))
    have F54 := Lib.hid (F48.out.below (Nat.le_refl _) hb)
    have F55 := Lib.hid (F49.out.below hb F49.out.lt)
    have F56 := Lib.hid (F50.out.below hb F50.out.lt)
    have F57 := Lib.hid (F51.out.below hb F51.out.lt)
    clear F47 F48 F49 F50 F51
    clear hb
    refine hK _ _ ?_
    clear hK K
    try simp only [Act.put, List.setIfInBounds_toArray, List.set_cons_succ, List.set_cons_zero]
    refine takeL (.bool true) rfl (by go_simp) ?_
    try simp only [Act.put, List.setIfInBounds_toArray, List.set_cons_succ, List.set_cons_zero]
    refine takeL (.bool true) rfl (by go_simp) ?_
    try simp only [Act.put, List.setIfInBounds_toArray, List.set_cons_succ, List.set_cons_zero]
    refine wpList_nil ?_
    go_wp2_with fail
    go_ret
    exact ⟨rfl, F53.out⟩
theorem roots_any (r : Rg) (hr : r.Wf) (i : Int) (hi : Byte i) (x : Int) (hx : Small x) (w : World) (hev : ErrVar w) : Calls Tryd.prog 6 #[.agg r.cells.toArray, .int .u8 i, .int .i64 x] w fun e w' => e = .returned (.bool true) ∧ Below w.heap.size w w' := by
  cases gr : r.good with
  | false => exact roots_none r hr i hi x hx gr w hev
  | true =>
    obtain ⟨k, hik⟩ : ∃ k : Nat, i % 8 = (k : Int) := ⟨(i % 8).toNat, by omega⟩
    have hk : k < 8 := by omega
    by_cases hc : x = 0
    · subst hc
      exact roots_zero r hr i hi hx k hk hik gr rfl w hev
    · cases ho : okRoot r.g k x with
      | true => exact roots_true r hr i hi x hx k hk hik gr ho hc w hev
      | false => exact roots_false r hr i hi x hx k hk hik gr ho hc w hev
end Go.Proofs.YtlleafhfogfngaaDoor
