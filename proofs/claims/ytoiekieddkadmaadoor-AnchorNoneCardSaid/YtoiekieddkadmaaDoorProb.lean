/- What is wrong with a region: package region's problem. -/
import Derived.Test.YtoiekieddkadmaaDoorRoot
namespace Go.Proofs.YtoiekieddkadmaaDoor
set_option linter.unusedSimpArgs false
set_option linter.unusedVariables false
open Go.RowKit

/-- What is told of a region: nil just if it may be; else a fault of form. -/
def Told (ok : Bool) (e : Ending) (w' : World) : Prop := (ok = true ∧ e = .returned .nilIface) ∨ (ok = false ∧ ∃ T d t ts, e = .returned (.iface T d) ∧ Chain w' 11 (t :: ts) (.iface T d))
set_option maxRecDepth 100000 in
theorem problem_geom (r : Rg) (hw : r.Wf) (hg : ¬ r.g.Ok) (w : World) : Calls Tryd.prog 22 #[.agg r.cells.toArray] w fun e w' => ∃ T d t ts, e = .returned (.iface T d) ∧ Chain w' 11 (t :: ts) (.iface T d) ∧ Below w.heap.size w w' := by
  have HWF := Lib.hid hw
  have HBL : Hid (Below w.heap.size w w) := Lib.hid (Below.refl _ _)
  clear hw
  have HOK := Lib.hid hg
  clear hg
  go_enter Tryd.func22, Tryd.ntmps22
  go_upto_region 0 with fail
  refine wp_region_lit ?_
  refine box_g rfl rfl ?_
  intro w1 hA hb hl
  try simp only [Act.put, List.setIfInBounds_toArray, List.set_cons_succ, List.set_cons_zero]
  clear hl
  have HG2 : Hid (w.heap.size ≤ w.heap.size) := Lib.hid HBL.out.size
  have F3 := Lib.hid (HBL.out.trans (hb.mono HBL.out.size))
  clear HBL
  have F4 : Hid (Blk w1 w.heap.size r.cells) := Lib.hid hA
  clear hA hb
  refine takeL (Value.nilIface) rfl (by go_simp) ?_
  try simp only [Act.put, List.setIfInBounds_toArray, List.set_cons_succ, List.set_cons_zero]
  refine wpList_nil ?_
  have c1 := F4.out.cell (i := 1) (v := .int .i64 r.p) rfl
  have c2 := F4.out.cell (i := 2) (v := .int .i64 r.s) rfl
  have c3 := F4.out.cell (i := 3) (v := .int .i64 r.l) rfl
  have c4 := F4.out.cell (i := 4) (v := .int .i64 r.f) rfl
  have c5 := F4.out.cell (i := 5) (v := .int .i64 r.seg) rfl
  have c6 := F4.out.cell (i := 6) (v := .int .i64 r.off) rfl
  go_wp2_with fail
  refine (good_no r.g HOK.out _).mono ?_
  rintro e w2 ⟨rfl, hb⟩
  clear c1 c2 c3 c4 c5 c6
  have F5 := Lib.hid (F3.out.trans (hb.mono F3.out.size))
  have F6 := Lib.hid (F4.out.below hb F4.out.lt)
  clear F3 F4
  clear hb
  have c1 := F6.out.cell (i := 1) (v := .int .i64 r.p) rfl
  have c2 := F6.out.cell (i := 2) (v := .int .i64 r.s) rfl
  have c3 := F6.out.cell (i := 3) (v := .int .i64 r.l) rfl
  have c4 := F6.out.cell (i := 4) (v := .int .i64 r.f) rfl
  have c5 := F6.out.cell (i := 5) (v := .int .i64 r.seg) rfl
  have c6 := F6.out.cell (i := 6) (v := .int .i64 r.off) rfl
  go_wp2_with fail
  refine (new_some 11 _ _ rfl).mono ?_
  rintro e w9 ⟨v, rfl, hc, hb⟩
  obtain ⟨T, d, rfl⟩ := hc.shape
  have HB9 := Lib.hid (F5.out.trans (hb.mono F5.out.size))
  have HC9 := Lib.hid hc
  clear hc hb
  go_wp2_with fail
  go_ret
  exact ⟨T, d, _, _, rfl, HC9.out, HB9.out⟩
theorem rwithin_is {n a b : Int} {v : Bool} (h : within n a b = v) (w : World) : Calls Tryd.prog 34 #[.int .i64 n, .int .i64 a, .int .i64 b] w fun e w' => e = .returned (.bool v) ∧ w = w' := h ▸ rwithin_any n a b w
set_option maxRecDepth 100000 in
theorem problem_seg (r : Rg) (hw : r.Wf) (hg : r.g.Ok) (hseg : ¬ (0 ≤ r.seg ∧ r.seg ≤ r.s - 1)) (w : World) : Calls Tryd.prog 22 #[.agg r.cells.toArray] w fun e w' => ∃ T d t ts, e = .returned (.iface T d) ∧ Chain w' 11 (t :: ts) (.iface T d) ∧ Below w.heap.size w w' := by
  have HWF := Lib.hid hw
  have HBL : Hid (Below w.heap.size w w) := Lib.hid (Below.refl _ _)
  clear hw
  have HOK := Lib.hid hg
  obtain ⟨_, ⟨hs1, hs2⟩, ⟨hl1, hl2⟩, _⟩ := hg
  simp only at hs1 hs2 hl1 hl2
  have HS : Hid (within r.seg 0 (r.s - 1) = false) := Lib.hid (by simp only [within, Bool.and_eq_false_iff, decide_eq_false_iff_not]; omega)
  clear hseg
  go_enter Tryd.func22, Tryd.ntmps22
  go_upto_region 0 with fail
  refine wp_region_lit ?_
  refine box_g rfl rfl ?_
  intro w1 hA hb hl
  try simp only [Act.put, List.setIfInBounds_toArray, List.set_cons_succ, List.set_cons_zero]
  clear hl
  have HG2 : Hid (w.heap.size ≤ w.heap.size) := Lib.hid HBL.out.size
  have F3 := Lib.hid (HBL.out.trans (hb.mono HBL.out.size))
  clear HBL
  have F4 : Hid (Blk w1 w.heap.size r.cells) := Lib.hid hA
  clear hA hb
  refine takeL (Value.nilIface) rfl (by go_simp) ?_
  try simp only [Act.put, List.setIfInBounds_toArray, List.set_cons_succ, List.set_cons_zero]
  refine wpList_nil ?_
  have c1 := F4.out.cell (i := 1) (v := .int .i64 r.p) rfl
  have c2 := F4.out.cell (i := 2) (v := .int .i64 r.s) rfl
  have c3 := F4.out.cell (i := 3) (v := .int .i64 r.l) rfl
  have c4 := F4.out.cell (i := 4) (v := .int .i64 r.f) rfl
  have c5 := F4.out.cell (i := 5) (v := .int .i64 r.seg) rfl
  have c6 := F4.out.cell (i := 6) (v := .int .i64 r.off) rfl
  go_wp2_with fail
  refine (good_yes r.g HOK.out _).mono ?_
  rintro e w2 ⟨rfl, hb⟩
  clear c1 c2 c3 c4 c5 c6
  have F5 := Lib.hid (F3.out.trans (hb.mono F3.out.size))
  have F6 := Lib.hid (F4.out.below hb F4.out.lt)
  clear F3 F4
  clear hb
  have c1 := F6.out.cell (i := 1) (v := .int .i64 r.p) rfl
  have c2 := F6.out.cell (i := 2) (v := .int .i64 r.s) rfl
  have c3 := F6.out.cell (i := 3) (v := .int .i64 r.l) rfl
  have c4 := F6.out.cell (i := 4) (v := .int .i64 r.f) rfl
  have c5 := F6.out.cell (i := 5) (v := .int .i64 r.seg) rfl
  have c6 := F6.out.cell (i := 6) (v := .int .i64 r.off) rfl
  go_wp2_with fail
  refine (rwithin_is HS.out _).mono ?_
  rintro e w3 ⟨rfl, rfl⟩
  go_wp2_with fail
  refine (new_some 11 _ _ rfl).mono ?_
  rintro e w9 ⟨v, rfl, hc, hb⟩
  obtain ⟨T, d, rfl⟩ := hc.shape
  have HB9 := Lib.hid (F5.out.trans (hb.mono F5.out.size))
  have HC9 := Lib.hid hc
  clear hc hb
  go_wp2_with fail
  go_ret
  exact ⟨T, d, _, _, rfl, HC9.out, HB9.out⟩
set_option maxRecDepth 100000 in
theorem problem_off (r : Rg) (hw : r.Wf) (hg : r.g.Ok) (hseg : (0 ≤ r.seg ∧ r.seg ≤ r.s - 1)) (hoff : ¬ (0 ≤ r.off ∧ r.off ≤ r.l)) (w : World) : Calls Tryd.prog 22 #[.agg r.cells.toArray] w fun e w' => ∃ T d t ts, e = .returned (.iface T d) ∧ Chain w' 11 (t :: ts) (.iface T d) ∧ Below w.heap.size w w' := by
  have HWF := Lib.hid hw
  have HBL : Hid (Below w.heap.size w w) := Lib.hid (Below.refl _ _)
  clear hw
  have HOK := Lib.hid hg
  obtain ⟨_, ⟨hs1, hs2⟩, ⟨hl1, hl2⟩, _⟩ := hg
  simp only at hs1 hs2 hl1 hl2
  have HS : Hid (within r.seg 0 (r.s - 1) = true) := Lib.hid (by simp only [within, Bool.and_eq_true, decide_eq_true_eq]; omega)
  clear hseg
  have HO : Hid (within r.off 0 r.l = false) := Lib.hid (by simp only [within, Bool.and_eq_false_iff, decide_eq_false_iff_not]; omega)
  clear hoff
  go_enter Tryd.func22, Tryd.ntmps22
  go_upto_region 0 with fail
  refine wp_region_lit ?_
  refine box_g rfl rfl ?_
  intro w1 hA hb hl
  try simp only [Act.put, List.setIfInBounds_toArray, List.set_cons_succ, List.set_cons_zero]
  clear hl
  have HG2 : Hid (w.heap.size ≤ w.heap.size) := Lib.hid HBL.out.size
  have F3 := Lib.hid (HBL.out.trans (hb.mono HBL.out.size))
  clear HBL
  have F4 : Hid (Blk w1 w.heap.size r.cells) := Lib.hid hA
  clear hA hb
  refine takeL (Value.nilIface) rfl (by go_simp) ?_
  try simp only [Act.put, List.setIfInBounds_toArray, List.set_cons_succ, List.set_cons_zero]
  refine wpList_nil ?_
  have c1 := F4.out.cell (i := 1) (v := .int .i64 r.p) rfl
  have c2 := F4.out.cell (i := 2) (v := .int .i64 r.s) rfl
  have c3 := F4.out.cell (i := 3) (v := .int .i64 r.l) rfl
  have c4 := F4.out.cell (i := 4) (v := .int .i64 r.f) rfl
  have c5 := F4.out.cell (i := 5) (v := .int .i64 r.seg) rfl
  have c6 := F4.out.cell (i := 6) (v := .int .i64 r.off) rfl
  go_wp2_with fail
  refine (good_yes r.g HOK.out _).mono ?_
  rintro e w2 ⟨rfl, hb⟩
  clear c1 c2 c3 c4 c5 c6
  have F5 := Lib.hid (F3.out.trans (hb.mono F3.out.size))
  have F6 := Lib.hid (F4.out.below hb F4.out.lt)
  clear F3 F4
  clear hb
  have c1 := F6.out.cell (i := 1) (v := .int .i64 r.p) rfl
  have c2 := F6.out.cell (i := 2) (v := .int .i64 r.s) rfl
  have c3 := F6.out.cell (i := 3) (v := .int .i64 r.l) rfl
  have c4 := F6.out.cell (i := 4) (v := .int .i64 r.f) rfl
  have c5 := F6.out.cell (i := 5) (v := .int .i64 r.seg) rfl
  have c6 := F6.out.cell (i := 6) (v := .int .i64 r.off) rfl
  go_wp2_with fail
  refine (rwithin_is HS.out _).mono ?_
  rintro e w3 ⟨rfl, rfl⟩
  go_wp2_with fail
  refine (rwithin_is HO.out _).mono ?_
  rintro e w4 ⟨rfl, rfl⟩
  go_wp2_with fail
  refine (new_some 11 _ _ rfl).mono ?_
  rintro e w9 ⟨v, rfl, hc, hb⟩
  obtain ⟨T, d, rfl⟩ := hc.shape
  have HB9 := Lib.hid (F5.out.trans (hb.mono F5.out.size))
  have HC9 := Lib.hid hc
  clear hc hb
  go_wp2_with fail
  go_ret
  exact ⟨T, d, _, _, rfl, HC9.out, HB9.out⟩
set_option maxRecDepth 100000 in
theorem problem_roots (r : Rg) (hw : r.Wf) (hg : r.g.Ok) (hseg : (0 ≤ r.seg ∧ r.seg ≤ r.s - 1)) (hoff : (0 ≤ r.off ∧ r.off ≤ r.l)) (w : World) : Calls Tryd.prog 22 #[.agg r.cells.toArray] w fun e w' => Told (rootsOk r.g r.rs) e w' ∧ Below w.heap.size w w' := by
  have HWF := Lib.hid hw
  have HBL : Hid (Below w.heap.size w w) := Lib.hid (Below.refl _ _)
  clear hw
  have HOK := Lib.hid hg
  obtain ⟨_, ⟨hs1, hs2⟩, ⟨hl1, hl2⟩, _⟩ := hg
  simp only at hs1 hs2 hl1 hl2
  have HS : Hid (within r.seg 0 (r.s - 1) = true) := Lib.hid (by simp only [within, Bool.and_eq_true, decide_eq_true_eq]; omega)
  clear hseg
  have HO : Hid (within r.off 0 r.l = true) := Lib.hid (by simp only [within, Bool.and_eq_true, decide_eq_true_eq]; omega)
  clear hoff
  go_enter Tryd.func22, Tryd.ntmps22
  go_upto_region 0 with fail
  refine wp_region_lit ?_
  refine box_g rfl rfl ?_
  intro w1 hA hb hl
  try simp only [Act.put, List.setIfInBounds_toArray, List.set_cons_succ, List.set_cons_zero]
  clear hl
  have HG2 : Hid (w.heap.size ≤ w.heap.size) := Lib.hid HBL.out.size
  have F3 := Lib.hid (HBL.out.trans (hb.mono HBL.out.size))
  clear HBL
  have F4 : Hid (Blk w1 w.heap.size r.cells) := Lib.hid hA
  clear hA hb
  refine takeL (Value.nilIface) rfl (by go_simp) ?_
  try simp only [Act.put, List.setIfInBounds_toArray, List.set_cons_succ, List.set_cons_zero]
  refine wpList_nil ?_
  have c1 := F4.out.cell (i := 1) (v := .int .i64 r.p) rfl
  have c2 := F4.out.cell (i := 2) (v := .int .i64 r.s) rfl
  have c3 := F4.out.cell (i := 3) (v := .int .i64 r.l) rfl
  have c4 := F4.out.cell (i := 4) (v := .int .i64 r.f) rfl
  have c5 := F4.out.cell (i := 5) (v := .int .i64 r.seg) rfl
  have c6 := F4.out.cell (i := 6) (v := .int .i64 r.off) rfl
  go_wp2_with fail
  refine (good_yes r.g HOK.out _).mono ?_
  rintro e w2 ⟨rfl, hb⟩
  clear c1 c2 c3 c4 c5 c6
  have F5 := Lib.hid (F3.out.trans (hb.mono F3.out.size))
  have F6 := Lib.hid (F4.out.below hb F4.out.lt)
  clear F3 F4
  clear hb
  have c1 := F6.out.cell (i := 1) (v := .int .i64 r.p) rfl
  have c2 := F6.out.cell (i := 2) (v := .int .i64 r.s) rfl
  have c3 := F6.out.cell (i := 3) (v := .int .i64 r.l) rfl
  have c4 := F6.out.cell (i := 4) (v := .int .i64 r.f) rfl
  have c5 := F6.out.cell (i := 5) (v := .int .i64 r.seg) rfl
  have c6 := F6.out.cell (i := 6) (v := .int .i64 r.off) rfl
  go_wp2_with fail
  refine (rwithin_is HS.out _).mono ?_
  rintro e w3 ⟨rfl, rfl⟩
  go_wp2_with fail
  refine (rwithin_is HO.out _).mono ?_
  rintro e w4 ⟨rfl, rfl⟩
  go_wp2_with fail
  go_loopg [30] 8 (fun q i wr => ∃ k : Nat, 8 - k ≤ q ∧ k ≤ 8 ∧ i = .int .i64 k ∧ (∀ j, j < k → okRoot r.g j (r.rs.getD j 0) = true) ∧ Blk wr w.heap.size r.cells ∧ Below w.heap.size w wr)
  case atStart => exact ⟨0, by omega, by omega, rfl, fun j hj => by omega, F6.out, F5.out⟩
  case round =>
    obtain ⟨k, hq, hk, rfl, hall, hblk, hbel⟩ := hrel
    have HA := Lib.hid hall
    have FB := Lib.hid hblk
    have FL := Lib.hid hbel
    clear c1 c2 c3 c4 c5 c6 F6 F5 hall hblk hbel
    by_cases h8 : k < 8
    · obtain ⟨x, hx⟩ : ∃ x, r.rs[k]? = some x := ⟨_, List.getElem?_eq_getElem (by rw [HWF.out.len]; exact h8)⟩
      have HX := Lib.hid hx
      clear hx
      cases hr : okRoot r.g k x
      · have HR := Lib.hid hr
        clear hr
        go_upto_region 10 with fail
        refine wp_region_lit ?_
        refine load27 (cs := r.cells.toArray) (Blk.all FB.out rfl) (by rw [List.size_toArray]; exact HWF.out.cells) rfl rfl ?_
        try simp only [Act.put, List.setIfInBounds_toArray, List.set_cons_succ, List.set_cons_zero]
        refine takeL (.int .i64 k) rfl (by go_simp) ?_
        try simp only [Act.put, List.setIfInBounds_toArray, List.set_cons_succ, List.set_cons_zero]
        refine wpList_op rfl fun K hK => ?_
        go_simp
        refine ((root_no r HWF.out HOK.out k h8 x HX.out HR.out _).mono fun e w' h => (show ∃ T d t ts, e = .returned (.iface T d) ∧ Chain w' 11 (t :: ts) (.iface T d) ∧ Below _ _ w' from let ⟨T, d, t, h1, h2, h3⟩ := h; ⟨T, d, t, [], h1, h2, h3⟩)).mono ?_
        rintro e w101 ⟨Tw101, dw101, tw101, tsw101, rfl, hc, hb⟩
        have F102 := Lib.hid (FB.out.below hb FB.out.lt)
        have F103 := Lib.hid (FL.out.trans (hb.mono FL.out.size))
        clear FB FL
        have F104 := Lib.hid hc
        clear hb hc
        refine hK _ _ ?_
        clear hK K
        try simp only [Act.put, List.setIfInBounds_toArray, List.set_cons_succ, List.set_cons_zero]
        refine takeL (.iface Tw101 dw101) rfl (by go_simp) ?_
        try simp only [Act.put, List.setIfInBounds_toArray, List.set_cons_succ, List.set_cons_zero]
        refine wpList_nil ?_
        go_wp2_with fail
        refine (itoa_any k h8 _).mono ?_
        rintro e w8 ⟨s, rfl, hs, rfl⟩
        go_wp2_with fail
        refine (wrap_some _ 11 _ _ _ _ F104.out).mono ?_
        rintro e w9 ⟨v, rfl, hc, hb⟩
        obtain ⟨T, d, rfl⟩ := hc.shape
        have HB9 := Lib.hid (F103.out.trans (hb.mono F103.out.size))
        have HC9 := Lib.hid hc
        clear hc hb
        go_wp2_with fail
        go_ret
        exact ⟨.inr ⟨roots_no h8 (by rw [getD_of HX.out]; exact HR.out), T, d, _, _, rfl, HC9.out⟩, HB9.out⟩
      · have HR := Lib.hid hr
        clear hr
        go_upto_region 10 with fail
        refine wp_region_lit ?_
        refine load27 (cs := r.cells.toArray) (Blk.all FB.out rfl) (by rw [List.size_toArray]; exact HWF.out.cells) rfl rfl ?_
        try simp only [Act.put, List.setIfInBounds_toArray, List.set_cons_succ, List.set_cons_zero]
        refine takeL (.int .i64 k) rfl (by go_simp) ?_
        try simp only [Act.put, List.setIfInBounds_toArray, List.set_cons_succ, List.set_cons_zero]
        refine wpList_op rfl fun K hK => ?_
        go_simp
        refine (root_yes r HWF.out HOK.out k h8 x HX.out HR.out _).mono ?_
        rintro e w101 ⟨rfl, hb⟩
        have F102 := Lib.hid (FB.out.below hb FB.out.lt)
        have F103 := Lib.hid (FL.out.trans (hb.mono FL.out.size))
        clear FB FL
        clear hb
        refine hK _ _ ?_
        clear hK K
        try simp only [Act.put, List.setIfInBounds_toArray, List.set_cons_succ, List.set_cons_zero]
        refine takeL (Value.nilIface) rfl (by go_simp) ?_
        try simp only [Act.put, List.setIfInBounds_toArray, List.set_cons_succ, List.set_cons_zero]
        refine wpList_nil ?_
        go_wp2_with fail
        go_roundg (8 - (k + 1))
        case measure => omega
        case rel => exact ⟨k + 1, by omega, by omega, by go_num, fun j hj => by
            rcases (show j < k ∨ j = k by omega) with h | rfl
            · exact HA.out j h
            · rw [getD_of HX.out]; exact HR.out, F102.out, F103.out⟩
    · obtain rfl : k = 8 := by omega
      go_wp2_with fail
      go_ret
      exact ⟨.inl ⟨roots_all HA.out, rfl⟩, FL.out⟩
theorem problem_any (r : Rg) (hw : r.Wf) (w : World) : Calls Tryd.prog 22 #[.agg r.cells.toArray] w fun e w' => Told r.good e w' ∧ Below w.heap.size w w' := by
  have key : ∀ {v : Bool}, r.good = false → (Calls Tryd.prog 22 #[.agg r.cells.toArray] w fun e w' => ∃ T d t ts, e = .returned (.iface T d) ∧ Chain w' 11 (t :: ts) (.iface T d) ∧ Below w.heap.size w w') → Calls Tryd.prog 22 #[.agg r.cells.toArray] w fun e w' => Told r.good e w' ∧ Below w.heap.size w w' := fun {_} hb h => h.mono fun e w' ⟨T, d, t, ts, h1, h2, h3⟩ => ⟨.inr ⟨hb, T, d, t, ts, h1, h2⟩, h3⟩
  by_cases hg : r.g.Ok
  · by_cases hseg : (0 ≤ r.seg ∧ r.seg ≤ r.s - 1)
    · by_cases hoff : (0 ≤ r.off ∧ r.off ≤ r.l)
      · have : r.good = rootsOk r.g r.rs := by simp [Rg.good, hg, hseg, hoff]
        rw [this]
        exact problem_roots r hw hg hseg hoff w
      · exact key (v := true) (by unfold Rg.good; rw [decide_eq_false (p := (0 ≤ r.off ∧ r.off ≤ r.l)) hoff]; simp) (problem_off r hw hg hseg hoff w)
    · exact key (v := true) (by unfold Rg.good; rw [decide_eq_false (p := (0 ≤ r.seg ∧ r.seg ≤ r.s - 1)) hseg]; simp) (problem_seg r hw hg hseg w)
  · exact key (v := true) (by unfold Rg.good; rw [decide_eq_false hg]; simp) (problem_geom r hw hg w)
theorem problem_yes {r : Rg} (h : r.good = true) (hw : r.Wf) (w : World) : Calls Tryd.prog 22 #[.agg r.cells.toArray] w fun e w' => e = .returned .nilIface ∧ Below w.heap.size w w' :=
  (problem_any r hw w).mono fun e w' ⟨h1, h2⟩ => by
    rcases h1 with ⟨_, h1⟩ | ⟨h1, _⟩
    · exact ⟨h1, h2⟩
    · rw [h] at h1; cases h1
theorem problem_no {r : Rg} (h : r.good = false) (hw : r.Wf) (w : World) : Calls Tryd.prog 22 #[.agg r.cells.toArray] w fun e w' => ∃ T d t ts, e = .returned (.iface T d) ∧ Chain w' 11 (t :: ts) (.iface T d) ∧ Below w.heap.size w w' :=
  (problem_any r hw w).mono fun e w' ⟨h1, h2⟩ => by
    rcases h1 with ⟨h1, _⟩ | ⟨_, T, d, t, ts, h3, h4⟩
    · rw [h] at h1; cases h1
    · exact ⟨T, d, t, ts, h3, h4, h2⟩
end Go.Proofs.YtoiekieddkadmaaDoor
