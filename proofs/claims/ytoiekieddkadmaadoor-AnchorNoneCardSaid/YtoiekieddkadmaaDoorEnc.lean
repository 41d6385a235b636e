/- Package region's sectorsOf, Encode and Good. -/
import Derived.Test.YtoiekieddkadmaaDoorLay
namespace Go.Proofs.YtoiekieddkadmaaDoor
set_option linter.unusedSimpArgs false
set_option linter.unusedVariables false
open Go.RowKit

theorem wrap_err (T : TypeId) (d : Value) (t : ByteArray) (ts : List ByteArray) (s : ByteArray) (w : World) (h : Chain w 11 (t :: ts) (.iface T d)) : Calls Tryd.prog 36 #[.iface T d, .string s] w fun e w' => ∃ T d t ts, e = .returned (.iface T d) ∧ Chain w' 11 (t :: ts) (.iface T d) ∧ Below w.heap.size w w' :=
  (wrap_some _ 11 t ts s w h).mono fun e w' ⟨v, h1, h2, h3⟩ => by
    obtain ⟨T, d, rfl⟩ := h2.shape
    exact ⟨T, d, _, _, h1, h2, h3⟩
theorem new_err (s : ByteArray) (w : World) : Calls Tryd.prog 19 #[.int .i64 11, .string s] w fun e w' => ∃ T d t ts, e = .returned (.iface T d) ∧ Chain w' 11 (t :: ts) (.iface T d) ∧ Below w.heap.size w w' :=
  (new_some 11 s w rfl).mono fun e w' ⟨v, h1, h2, h3⟩ => by
    obtain ⟨T, d, rfl⟩ := h2.shape
    exact ⟨T, d, _, _, h1, h2, h3⟩
/-- A store over all of a variable, at one operation. -/
theorem store_W {t : TypeId} {x y : Operand} {g : Nat} {l : List Value} {cs : Array Value} {o : Oper} {a : Act} {w : World} {K : Act → World → Prop} {Q : Exit → Act → World → Prop} (dst : Option Tmp) (hd : o.dst = dst) (ho : o.op = .store t x y)
    (hb : Blk w g l) (hl : l.length = cs.size) (hi : (Tryd.prog.info? t).map (·.size) = some cs.size) (h1 : ∀ v ∈ cs, v.oneCell' = true) (hx : a.eval x = .pointer (some ⟨g, 0, none⟩)) (hy : a.eval y = .agg cs)
    (h : ∀ wX, Blk wX g cs.toList → Only (fun k => k = g) w wX → K (a.put dst undef) wX) : o.wp Tryd.prog a w K Q := by
  subst hd
  refine wp_store_at t x y ho g 0 cs hx hy l hb hi (by omega) h1 ?_
  have := hb.row (splice l 0 cs)
  rw [splice_all _ _ hl] at this ⊢
  exact h _ this ((Only.refl (fun k => k = g) w).setRow (.inl rfl) _)
theorem of_err (T : TypeId) (d : Value) (t : ByteArray) (ts : List ByteArray) (w : World) (hg : ErrVar w) (h : Chain w 11 (t :: ts) (.iface T d)) : Calls Tryd.prog 26 #[.iface T d] w fun e w' => e = .returned (.int .i64 11) ∧ Below w.heap.size w w' := of_num 11 _ T d w hg h
theorem of_none (w : World) : Calls Tryd.prog 26 #[.nilIface] w fun e w' => e = .returned (.int .i64 0) ∧ Below w.heap.size w w' :=
  (of_nil w).mono fun e w' ⟨h1, h2⟩ => by subst h2; exact ⟨h1, Below.refl _ _⟩
theorem sec_good {r : Rg} (h : r.good = true) : r.sec = r.enc := by simp [Rg.sec, h]
theorem sec_bad {r : Rg} (h : r.good = false) : r.sec = zeros 128 := by simp [Rg.sec, h]
theorem err_good {r : Rg} (h : r.good = true) : r.err = 0 := by simp [Rg.err, h]
theorem err_bad {r : Rg} (h : r.good = false) : r.err = 11 := by simp [Rg.err, h]
set_option maxRecDepth 100000 in
theorem sectors_yes {r : Rg} (hg : r.good = true) (hw : r.Wf) (w : World) : Calls Tryd.prog 25 #[.agg r.cells.toArray] w fun e w' => e = .returned (.tuple #[.agg (u8s r.enc).toArray, .nilIface]) ∧ Below w.heap.size w w' := by
  have HZ128 := Lib.hid (zeros_length 128)
  have HWN := Lib.hid none_wf
  have HBL : Hid (Below w.heap.size w w) := Lib.hid (Below.refl _ _)
  have HWF := Lib.hid hw
  have HGD := Lib.hid hg
  clear hw hg
  have HE := Lib.hid (enc_length HWF.out.len)
  go_enter Tryd.func25, Tryd.ntmps25
  go_upto_region 0 with fail
  refine wp_region_lit ?_
  refine box_g rfl rfl ?_
  intro w1 hA hb hl
  try simp only [Act.put, List.setIfInBounds_toArray, List.set_cons_succ, List.set_cons_zero]
  clear hl
  have HG2 : Hid (w.heap.size ≤ w.heap.size) := Lib.hid HBL.out.size
  have F3 := Lib.hid (HBL.out.trans (hb.mono HBL.out.size))
  clear HBL
  have F4 : Hid (Blk w1 w.heap.size r.cells) := Lib.hid hA
  clear hA hb
  refine alloc_g zero50 rfl ?_
  intro w5 hA hb hl
  try simp only [Act.put, List.setIfInBounds_toArray, List.set_cons_succ, List.set_cons_zero]
  clear hl
  have HN6 := Lib.hid (Nat.ne_of_lt F4.out.lt)
  have HG7 : Hid (w.heap.size ≤ w1.heap.size) := Lib.hid F3.out.size
  have F8 := Lib.hid (F3.out.trans (hb.mono F3.out.size))
  have F9 := Lib.hid (F4.out.below hb F4.out.lt)
  clear F3 F4
  have F10 : Hid (Blk w5 w1.heap.size (u8s (zeros 128))) := Lib.hid hA
  clear hA hb
  generalize w1.heap.size = g11 at *
  clear w1
  refine takeL (Value.nilIface) rfl (by go_simp) ?_
  try simp only [Act.put, List.setIfInBounds_toArray, List.set_cons_succ, List.set_cons_zero]
  refine wpList_nil ?_
  go_upto_region 1 with fail
  refine wp_region_lit ?_
  refine load27 (cs := r.cells.toArray) (Blk.all F9.out rfl) (by rw [List.size_toArray]; exact HWF.out.cells) rfl rfl ?_
  try simp only [Act.put, List.setIfInBounds_toArray, List.set_cons_succ, List.set_cons_zero]
  refine wpList_op rfl fun K hK => ?_
  go_simp
  refine (problem_yes HGD.out HWF.out _).mono ?_
  rintro e w12 ⟨rfl, hb⟩
  have F13 := Lib.hid (F8.out.trans (hb.mono F8.out.size))
  have F14 := Lib.hid (F9.out.below hb F9.out.lt)
  have F15 := Lib.hid (F10.out.below hb F10.out.lt)
  clear F8 F9 F10
  clear hb
  refine hK _ _ ?_
  clear hK K
  try simp only [Act.put, List.setIfInBounds_toArray, List.set_cons_succ, List.set_cons_zero]
  refine takeL (Value.nilIface) rfl (by go_simp) ?_
  try simp only [Act.put, List.setIfInBounds_toArray, List.set_cons_succ, List.set_cons_zero]
  refine wpList_nil ?_
  go_upto_region 2 with fail
  refine wp_region_lit ?_
  refine takeL (Value.nilIface) rfl (by go_simp) ?_
  try simp only [Act.put, List.setIfInBounds_toArray, List.set_cons_succ, List.set_cons_zero]
  refine takeL (.bool false) rfl (by go_simp) ?_
  try simp only [Act.put, List.setIfInBounds_toArray, List.set_cons_succ, List.set_cons_zero]
  refine wpList_nil ?_
  go_upto_region 4 with fail
  refine wp_region_lit ?_
  refine load27 (cs := r.cells.toArray) (Blk.all F14.out rfl) (by rw [List.size_toArray]; exact HWF.out.cells) rfl rfl ?_
  try simp only [Act.put, List.setIfInBounds_toArray, List.set_cons_succ, List.set_cons_zero]
  refine wpList_op rfl fun K hK => ?_
  go_simp
  refine (lay_any r HWF.out HGD.out _).mono ?_
  rintro e w16 ⟨rfl, hb⟩
  have F17 := Lib.hid (F13.out.trans (hb.mono F13.out.size))
  have F18 := Lib.hid (F14.out.below hb F14.out.lt)
  have F19 := Lib.hid (F15.out.below hb F15.out.lt)
  clear F13 F14 F15
  clear hb
  refine hK _ _ ?_
  clear hK K
  try simp only [Act.put, List.setIfInBounds_toArray, List.set_cons_succ, List.set_cons_zero]
  refine store_all (cs := (u8s r.enc).toArray) F19.out (by simp only [u8s_size, List.size_toArray, List.length_map, HZ128.out, HE.out]) (by rw [u8s_size, HE.out]; exact info50) (u8s_one _) rfl rfl rfl ?_
  intro w20 hD hO hlD
  try simp only [Act.put, List.setIfInBounds_toArray, List.set_cons_succ, List.set_cons_zero]
  clear hlD
  have F21 := Lib.hid (F17.out.trans (hO.below F17.out.size (fun k hk => by rw [hk]; exact HG7.out)))
  have F22 := Lib.hid (F18.out.only hO (HN6.out))
  clear F17 F18 F19
  have F10' : Hid (Blk w20 g11 (u8s r.enc)) := Lib.hid hD
  clear hD hO 
  refine takeL (Value.nilIface) rfl (by go_simp) ?_
  try simp only [Act.put, List.setIfInBounds_toArray, List.set_cons_succ, List.set_cons_zero]
  refine wpList_nil ?_
  go_wp2_with fail
  exact bodyPost_ret (v := .tuple #[.agg (u8s r.enc).toArray, Value.nilIface]) (results_cell_tmp rfl _ _ g11 0 _ _ _ rfl rfl Tryd.underlying50 rfl (by rw [u8s_size, HE.out]; exact info50) (Blk.all F10'.out rfl)) rfl ⟨rfl, F21.out⟩
set_option maxRecDepth 100000 in
theorem sectors_no {r : Rg} (hg : r.good = false) (hw : r.Wf) (w : World) : Calls Tryd.prog 25 #[.agg r.cells.toArray] w fun e w' => ∃ T d t ts, e = .returned (.tuple #[.agg (u8s (zeros 128)).toArray, .iface T d]) ∧ Chain w' 11 (t :: ts) (.iface T d) ∧ Below w.heap.size w w' := by
  have HZ128 := Lib.hid (zeros_length 128)
  have HWN := Lib.hid none_wf
  have HBL : Hid (Below w.heap.size w w) := Lib.hid (Below.refl _ _)
  have HWF := Lib.hid hw
  have HGD := Lib.hid hg
  clear hw hg
  go_enter Tryd.func25, Tryd.ntmps25
  go_upto_region 0 with fail
  refine wp_region_lit ?_
  refine box_g rfl rfl ?_
  intro w1 hA hb hl
  try simp only [Act.put, List.setIfInBounds_toArray, List.set_cons_succ, List.set_cons_zero]
  clear hl
  have HG2 : Hid (w.heap.size ≤ w.heap.size) := Lib.hid HBL.out.size
  have F3 := Lib.hid (HBL.out.trans (hb.mono HBL.out.size))
  clear HBL
  have F4 : Hid (Blk w1 w.heap.size r.cells) := Lib.hid hA
  clear hA hb
  refine alloc_g zero50 rfl ?_
  intro w5 hA hb hl
  try simp only [Act.put, List.setIfInBounds_toArray, List.set_cons_succ, List.set_cons_zero]
  clear hl
  have HN6 := Lib.hid (Nat.ne_of_lt F4.out.lt)
  have HG7 : Hid (w.heap.size ≤ w1.heap.size) := Lib.hid F3.out.size
  have F8 := Lib.hid (F3.out.trans (hb.mono F3.out.size))
  have F9 := Lib.hid (F4.out.below hb F4.out.lt)
  clear F3 F4
  have F10 : Hid (Blk w5 w1.heap.size (u8s (zeros 128))) := Lib.hid hA
  clear hA hb
  generalize w1.heap.size = g11 at *
  clear w1
  refine takeL (Value.nilIface) rfl (by go_simp) ?_
  try simp only [Act.put, List.setIfInBounds_toArray, List.set_cons_succ, List.set_cons_zero]
  refine wpList_nil ?_
  go_upto_region 1 with fail
  refine wp_region_lit ?_
  refine load27 (cs := r.cells.toArray) (Blk.all F9.out rfl) (by rw [List.size_toArray]; exact HWF.out.cells) rfl rfl ?_
  try simp only [Act.put, List.setIfInBounds_toArray, List.set_cons_succ, List.set_cons_zero]
  refine wpList_op rfl fun K hK => ?_
  go_simp
  refine (problem_no HGD.out HWF.out _).mono ?_
  rintro e w12 ⟨Tw12, dw12, tw12, tsw12, rfl, hc, hb⟩
  have F13 := Lib.hid (F8.out.trans (hb.mono F8.out.size))
  have F14 := Lib.hid (F9.out.below hb F9.out.lt)
  have F15 := Lib.hid (F10.out.below hb F10.out.lt)
  clear F8 F9 F10
  have F16 := Lib.hid hc
  clear hb hc
  refine hK _ _ ?_
  clear hK K
  try simp only [Act.put, List.setIfInBounds_toArray, List.set_cons_succ, List.set_cons_zero]
  refine takeL (.iface Tw12 dw12) rfl (by go_simp) ?_
  try simp only [Act.put, List.setIfInBounds_toArray, List.set_cons_succ, List.set_cons_zero]
  refine wpList_nil ?_
  go_upto_region 2 with fail
  refine wp_region_lit ?_
  refine takeL (.iface Tw12 dw12) rfl (by go_simp) ?_
  try simp only [Act.put, List.setIfInBounds_toArray, List.set_cons_succ, List.set_cons_zero]
  refine takeL (.bool true) rfl (by go_simp) ?_
  try simp only [Act.put, List.setIfInBounds_toArray, List.set_cons_succ, List.set_cons_zero]
  refine wpList_nil ?_
  go_upto_region 3 with fail
  refine wp_region_lit ?_
  refine build_g (build50 _) rfl ?_
  try simp only [Act.put, List.setIfInBounds_toArray, List.set_cons_succ, List.set_cons_zero]
  refine takeL (.iface Tw12 dw12) rfl (by go_simp) ?_
  try simp only [Act.put, List.setIfInBounds_toArray, List.set_cons_succ, List.set_cons_zero]
  refine wpList_op rfl fun K hK => ?_
  go_simp
  refine (wrap_err _ _ _ _ _ _ F16.out).mono ?_
  rintro e w17 ⟨Tw17, dw17, tw17, tsw17, rfl, hc, hb⟩
  have F18 := Lib.hid (F13.out.trans (hb.mono F13.out.size))
  have F19 := Lib.hid (F14.out.below hb F14.out.lt)
  have F20 := Lib.hid (F15.out.below hb F15.out.lt)
  have F21 := Lib.hid (F16.out.below (Nat.le_refl _) hb)
  clear F13 F14 F15 F16
  have F22 := Lib.hid hc
  clear hb hc
  refine hK _ _ ?_
  clear hK K
  try simp only [Act.put, List.setIfInBounds_toArray, List.set_cons_succ, List.set_cons_zero]
  refine store_all (cs := (u8s (zeros 128)).toArray) F20.out (by simp only [u8s_size, List.size_toArray, List.length_map, HZ128.out, HZ128.out]) (by rw [u8s_size, HZ128.out]; exact info50) (u8s_one _) rfl rfl rfl ?_
  intro w23 hD hO hlD
  try simp only [Act.put, List.setIfInBounds_toArray, List.set_cons_succ, List.set_cons_zero]
  clear hlD
  have F24 := Lib.hid (F18.out.trans (hO.below F18.out.size (fun k hk => by rw [hk]; exact HG7.out)))
  have F25 := Lib.hid (F19.out.only hO (HN6.out))
  have F26 := Lib.hid (F21.out.keep hO (Blk.noStr F20.out (u8s_noStr _)))
  have F27 := Lib.hid (F22.out.keep hO (Blk.noStr F20.out (u8s_noStr _)))
  clear F18 F19 F21 F22 F20
  have F10' : Hid (Blk w23 g11 (u8s (zeros 128))) := Lib.hid hD
  clear hD hO 
  refine takeL (.iface Tw17 dw17) rfl (by go_simp) ?_
  try simp only [Act.put, List.setIfInBounds_toArray, List.set_cons_succ, List.set_cons_zero]
  refine wpList_nil ?_
  go_wp2_with fail
  exact bodyPost_ret (v := .tuple #[.agg (u8s (zeros 128)).toArray, .iface Tw17 dw17]) (results_cell_tmp rfl _ _ g11 0 _ _ _ rfl rfl Tryd.underlying50 rfl (by rw [u8s_size, HZ128.out]; exact info50) (Blk.all F10'.out rfl)) rfl ⟨_, _, _, _, rfl, F27.out, F24.out⟩
set_option maxRecDepth 100000 in
theorem encode_yes {r : Rg} (hg : r.good = true) (hw : r.Wf) (w : World) (hev : ErrVar w) : Calls Tryd.prog 12 #[.agg r.cells.toArray] w fun e w' => e = .returned (.tuple #[.agg (u8s r.enc).toArray, .int .i64 0]) ∧ Below w.heap.size w w' := by
  have HZ128 := Lib.hid (zeros_length 128)
  have HWN := Lib.hid none_wf
  have HBL : Hid (Below w.heap.size w w) := Lib.hid (Below.refl _ _)
  have HEV := Lib.hid hev
  have HE0 := Lib.hid hev.lt
  clear hev
  have HWF := Lib.hid hw
  have HGD := Lib.hid hg
  clear hw hg
  have HE := Lib.hid (enc_length HWF.out.len)
  go_enter Tryd.func12, Tryd.ntmps12
  go_upto_region 0 with fail
  refine wp_region_lit ?_
  refine box_g rfl rfl ?_
  intro w1 hA hb hl
  try simp only [Act.put, List.setIfInBounds_toArray, List.set_cons_succ, List.set_cons_zero]
  clear hl
  have HG2 : Hid (w.heap.size ≤ w.heap.size) := Lib.hid HBL.out.size
  have F3 := Lib.hid (HBL.out.trans (hb.mono HBL.out.size))
  have F4 := Lib.hid (HEV.out.below (Nat.le_refl _) hb)
  clear HBL HEV
  have F5 : Hid (Blk w1 w.heap.size r.cells) := Lib.hid hA
  clear hA hb
  refine alloc_g zero50 rfl ?_
  intro w6 hA hb hl
  try simp only [Act.put, List.setIfInBounds_toArray, List.set_cons_succ, List.set_cons_zero]
  clear hl
  have HN7 := Lib.hid (Nat.ne_of_lt F5.out.lt)
  have HG8 : Hid (w.heap.size ≤ w1.heap.size) := Lib.hid F3.out.size
  have F9 := Lib.hid (F3.out.trans (hb.mono F3.out.size))
  have F10 := Lib.hid (F4.out.below (Nat.le_refl _) hb)
  have F11 := Lib.hid (F5.out.below hb F5.out.lt)
  clear F3 F4 F5
  have F12 : Hid (Blk w6 w1.heap.size (u8s (zeros 128))) := Lib.hid hA
  clear hA hb
  generalize w1.heap.size = g13 at *
  clear w1
  refine takeL (.int .i64 0) rfl (by go_simp) ?_
  try simp only [Act.put, List.setIfInBounds_toArray, List.set_cons_succ, List.set_cons_zero]
  refine wpList_nil ?_
  go_upto_region 1 with fail
  refine wp_region_lit ?_
  refine load27 (cs := r.cells.toArray) (Blk.all F11.out rfl) (by rw [List.size_toArray]; exact HWF.out.cells) rfl rfl ?_
  try simp only [Act.put, List.setIfInBounds_toArray, List.set_cons_succ, List.set_cons_zero]
  refine wpList_op rfl fun K hK => ?_
  go_simp
  refine (sectors_yes HGD.out HWF.out _).mono ?_
  rintro e w14 ⟨rfl, hb⟩
  have F15 := Lib.hid (F9.out.trans (hb.mono F9.out.size))
  have F16 := Lib.hid (F10.out.below (Nat.le_refl _) hb)
  have F17 := Lib.hid (F11.out.below hb F11.out.lt)
  have F18 := Lib.hid (F12.out.below hb F12.out.lt)
  clear F9 F10 F11 F12
  clear hb
  refine hK _ _ ?_
  clear hK K
  try simp only [Act.put, List.setIfInBounds_toArray, List.set_cons_succ, List.set_cons_zero]
  refine takeL (.tuple #[.agg (u8s r.enc).toArray, Value.nilIface]) rfl (by go_simp) ?_
  try simp only [Act.put, List.setIfInBounds_toArray, List.set_cons_succ, List.set_cons_zero]
  refine takeL (.agg (u8s r.enc).toArray) rfl (by go_simp) ?_
  try simp only [Act.put, List.setIfInBounds_toArray, List.set_cons_succ, List.set_cons_zero]
  refine takeL (Value.nilIface) rfl (by go_simp) ?_
  try simp only [Act.put, List.setIfInBounds_toArray, List.set_cons_succ, List.set_cons_zero]
  refine alloc_g zero50 rfl ?_
  intro w19 hA hb hl
  try simp only [Act.put, List.setIfInBounds_toArray, List.set_cons_succ, List.set_cons_zero]
  clear hl
  have HN20 := Lib.hid (Nat.ne_of_lt F17.out.lt)
  have HN21 := Lib.hid (Nat.ne_of_lt F18.out.lt)
  have HG22 : Hid (w.heap.size ≤ w14.heap.size) := Lib.hid F15.out.size
  have F23 := Lib.hid (F15.out.trans (hb.mono F15.out.size))
  have F24 := Lib.hid (F16.out.below (Nat.le_refl _) hb)
  have F25 := Lib.hid (F17.out.below hb F17.out.lt)
  have F26 := Lib.hid (F18.out.below hb F18.out.lt)
  clear F15 F16 F17 F18
  have F27 : Hid (Blk w19 w14.heap.size (u8s (zeros 128))) := Lib.hid hA
  clear hA hb
  generalize w14.heap.size = g28 at *
  clear w14
  refine store_all (cs := (u8s r.enc).toArray) F27.out (by simp only [u8s_size, List.size_toArray, List.length_map, HZ128.out, HE.out]) (by rw [u8s_size, HE.out]; exact info50) (u8s_one _) rfl rfl rfl ?_
  intro w29 hD hO hlD
  try simp only [Act.put, List.setIfInBounds_toArray, List.set_cons_succ, List.set_cons_zero]
  clear hlD
  have F30 := Lib.hid (F23.out.trans (hO.below F23.out.size (fun k hk => by rw [hk]; exact HG22.out)))
  have F31 := Lib.hid (F24.out.keep hO HG22.out HE0.out)
  have F32 := Lib.hid (F25.out.only hO (HN20.out))
  have F33 := Lib.hid (F26.out.only hO (HN21.out))
  clear F23 F24 F25 F26 F27
  have F27' : Hid (Blk w29 g28 (u8s r.enc)) := Lib.hid hD
  clear hD hO 
  refine takeL (Value.nilIface) rfl (by go_simp) ?_
  try simp only [Act.put, List.setIfInBounds_toArray, List.set_cons_succ, List.set_cons_zero]
  refine wpList_nil ?_
  go_upto_region 2 with fail
  refine startH (fun wq => Only (fun k => k = g13) w29 wq) (by kernel_rfl) ?_
  refine takeH 0 (some 11) (.agg (u8s r.enc).toArray) rfl rfl (by kernel_rfl) (by kernel_rfl) (by kernel_rfl) (fun _ _ _ h => h) rfl (fun wq hS => by exact exec_load_at wq _ _ 50 _ rfl g28 0 rfl ((u8s r.enc).toArray) _ Tryd.underlying50 rfl (by rw [u8s_size, HE.out]; exact info50) (Blk.all (F27'.out.only hS (HN21.out.symm)) rfl)) (Only.refl _ _).drew ?_
  try simp only [Act.put, List.setIfInBounds_toArray, List.set_cons_succ, List.set_cons_zero]
  refine takeH 1 (some 12) (Value.nilIface) rfl rfl (by kernel_rfl) (by kernel_rfl) (by kernel_rfl) (fun _ _ _ h => h) rfl (fun wq hS => by go_simp) (Only.refl _ _).drew ?_
  try simp only [Act.put, List.setIfInBounds_toArray, List.set_cons_succ, List.set_cons_zero]
  refine oneH 2 (by kernel_rfl) rfl rfl fun K hK => ?_
  go_simp
  refine (of_none _).mono ?_
  rintro e wx ⟨rfl, hb⟩
  have HS1 := Lib.hid (((Only.refl (fun k => k = g13) w29).drew).trans (Only.of_below hb))
  have HB1 := Lib.hid ((F33.out.drew).below hb F33.out.drew.lt)
  clear hb
  refine hK _ _ HS1.out ?_
  clear hK K
  try simp only [Act.put, List.setIfInBounds_toArray, List.set_cons_succ, List.set_cons_zero]
  refine oneH 3 (by kernel_rfl) rfl rfl fun K hK => ?_
  refine store_W none rfl rfl HB1.out (by simp only [u8s_size, List.size_toArray, List.length_map, HZ128.out, HE.out]) (by rw [u8s_size, HE.out]; exact info50) (u8s_one _) rfl rfl fun wy hD hO => ?_
  have HS2 := Lib.hid (HS1.out.trans hO)
  have HD2 := Lib.hid hD
  clear hD hO
  refine hK _ _ HS2.out ?_
  clear hK K
  try simp only [Act.put, List.setIfInBounds_toArray, List.set_cons_succ, List.set_cons_zero]
  refine takeH 4 (some 3) (.int .i64 0) rfl rfl (by kernel_rfl) (by kernel_rfl) (by kernel_rfl) (fun _ _ _ h => h) rfl (fun wq hS => by go_simp) HS2.out ?_
  try simp only [Act.put, List.setIfInBounds_toArray, List.set_cons_succ, List.set_cons_zero]
  refine wpAnyH_done (by kernel_rfl) ?_ _
  go_wp2_with fail
  exact bodyPost_ret (v := .tuple #[.agg (u8s r.enc).toArray, .int .i64 0]) (results_cell_tmp rfl _ _ g13 0 _ _ _ rfl rfl Tryd.underlying50 rfl (by rw [u8s_size, HE.out]; exact info50) (Blk.all HD2.out rfl)) rfl ⟨rfl, (F30.out.trans (HS2.out.below F30.out.size (fun k hk => by rw [hk]; exact HG8.out)))⟩
set_option maxRecDepth 100000 in
theorem encode_no {r : Rg} (hg : r.good = false) (hw : r.Wf) (w : World) (hev : ErrVar w) : Calls Tryd.prog 12 #[.agg r.cells.toArray] w fun e w' => e = .returned (.tuple #[.agg (u8s (zeros 128)).toArray, .int .i64 11]) ∧ Below w.heap.size w w' := by
  have HZ128 := Lib.hid (zeros_length 128)
  have HWN := Lib.hid none_wf
  have HBL : Hid (Below w.heap.size w w) := Lib.hid (Below.refl _ _)
  have HEV := Lib.hid hev
  have HE0 := Lib.hid hev.lt
  clear hev
  have HWF := Lib.hid hw
  have HGD := Lib.hid hg
  clear hw hg
  go_enter Tryd.func12, Tryd.ntmps12
  go_upto_region 0 with fail
  refine wp_region_lit ?_
  refine box_g rfl rfl ?_
  intro w1 hA hb hl
  try simp only [Act.put, List.setIfInBounds_toArray, List.set_cons_succ, List.set_cons_zero]
  clear hl
  have HG2 : Hid (w.heap.size ≤ w.heap.size) := Lib.hid HBL.out.size
  have F3 := Lib.hid (HBL.out.trans (hb.mono HBL.out.size))
  have F4 := Lib.hid (HEV.out.below (Nat.le_refl _) hb)
  clear HBL HEV
  have F5 : Hid (Blk w1 w.heap.size r.cells) := Lib.hid hA
  clear hA hb
  refine alloc_g zero50 rfl ?_
  intro w6 hA hb hl
  try simp only [Act.put, List.setIfInBounds_toArray, List.set_cons_succ, List.set_cons_zero]
  clear hl
  have HN7 := Lib.hid (Nat.ne_of_lt F5.out.lt)
  have HG8 : Hid (w.heap.size ≤ w1.heap.size) := Lib.hid F3.out.size
  have F9 := Lib.hid (F3.out.trans (hb.mono F3.out.size))
  have F10 := Lib.hid (F4.out.below (Nat.le_refl _) hb)
  have F11 := Lib.hid (F5.out.below hb F5.out.lt)
  clear F3 F4 F5
  have F12 : Hid (Blk w6 w1.heap.size (u8s (zeros 128))) := Lib.hid hA
  clear hA hb
  generalize w1.heap.size = g13 at *
  clear w1
  refine takeL (.int .i64 0) rfl (by go_simp) ?_
  try simp only [Act.put, List.setIfInBounds_toArray, List.set_cons_succ, List.set_cons_zero]
  refine wpList_nil ?_
  go_upto_region 1 with fail
  refine wp_region_lit ?_
  refine load27 (cs := r.cells.toArray) (Blk.all F11.out rfl) (by rw [List.size_toArray]; exact HWF.out.cells) rfl rfl ?_
  try simp only [Act.put, List.setIfInBounds_toArray, List.set_cons_succ, List.set_cons_zero]
  refine wpList_op rfl fun K hK => ?_
  go_simp
  refine (sectors_no HGD.out HWF.out _).mono ?_
  rintro e w14 ⟨Tw14, dw14, tw14, tsw14, rfl, hc, hb⟩
  have F15 := Lib.hid (F9.out.trans (hb.mono F9.out.size))
  have F16 := Lib.hid (F10.out.below (Nat.le_refl _) hb)
  have F17 := Lib.hid (F11.out.below hb F11.out.lt)
  have F18 := Lib.hid (F12.out.below hb F12.out.lt)
  clear F9 F10 F11 F12
  have F19 := Lib.hid hc
  clear hb hc
  refine hK _ _ ?_
  clear hK K
  try simp only [Act.put, List.setIfInBounds_toArray, List.set_cons_succ, List.set_cons_zero]
  refine takeL (.tuple #[.agg (u8s (zeros 128)).toArray, .iface Tw14 dw14]) rfl (by go_simp) ?_
  try simp only [Act.put, List.setIfInBounds_toArray, List.set_cons_succ, List.set_cons_zero]
  refine takeL (.agg (u8s (zeros 128)).toArray) rfl (by go_simp) ?_
  try simp only [Act.put, List.setIfInBounds_toArray, List.set_cons_succ, List.set_cons_zero]
  refine takeL (.iface Tw14 dw14) rfl (by go_simp) ?_
  try simp only [Act.put, List.setIfInBounds_toArray, List.set_cons_succ, List.set_cons_zero]
  refine alloc_g zero50 rfl ?_
  intro w20 hA hb hl
  try simp only [Act.put, List.setIfInBounds_toArray, List.set_cons_succ, List.set_cons_zero]
  clear hl
  have HN21 := Lib.hid (Nat.ne_of_lt F17.out.lt)
  have HN22 := Lib.hid (Nat.ne_of_lt F18.out.lt)
  have HG23 : Hid (w.heap.size ≤ w14.heap.size) := Lib.hid F15.out.size
  have F24 := Lib.hid (F15.out.trans (hb.mono F15.out.size))
  have F25 := Lib.hid (F16.out.below (Nat.le_refl _) hb)
  have F26 := Lib.hid (F17.out.below hb F17.out.lt)
  have F27 := Lib.hid (F18.out.below hb F18.out.lt)
  have F28 := Lib.hid (F19.out.below (Nat.le_refl _) hb)
  clear F15 F16 F17 F18 F19
  have F29 : Hid (Blk w20 w14.heap.size (u8s (zeros 128))) := Lib.hid hA
  clear hA hb
  generalize w14.heap.size = g30 at *
  clear w14
  refine store_all (cs := (u8s (zeros 128)).toArray) F29.out (by simp only [u8s_size, List.size_toArray, List.length_map, HZ128.out, HZ128.out]) (by rw [u8s_size, HZ128.out]; exact info50) (u8s_one _) rfl rfl rfl ?_
  intro w31 hD hO hlD
  try simp only [Act.put, List.setIfInBounds_toArray, List.set_cons_succ, List.set_cons_zero]
  clear hlD
  have F32 := Lib.hid (F24.out.trans (hO.below F24.out.size (fun k hk => by rw [hk]; exact HG23.out)))
  have F33 := Lib.hid (F25.out.keep hO HG23.out HE0.out)
  have F34 := Lib.hid (F26.out.only hO (HN21.out))
  have F35 := Lib.hid (F27.out.only hO (HN22.out))
  have F36 := Lib.hid (F28.out.keep hO (Blk.noStr F29.out (u8s_noStr _)))
  clear F24 F25 F26 F27 F28 F29
  have F29' : Hid (Blk w31 g30 (u8s (zeros 128))) := Lib.hid hD
  clear hD hO 
  refine takeL (.iface Tw14 dw14) rfl (by go_simp) ?_
  try simp only [Act.put, List.setIfInBounds_toArray, List.set_cons_succ, List.set_cons_zero]
  refine wpList_nil ?_
  go_upto_region 2 with fail
  refine startH (fun wq => Only (fun k => k = g13) w31 wq) (by kernel_rfl) ?_
  refine takeH 0 (some 11) (.agg (u8s (zeros 128)).toArray) rfl rfl (by kernel_rfl) (by kernel_rfl) (by kernel_rfl) (fun _ _ _ h => h) rfl (fun wq hS => by exact exec_load_at wq _ _ 50 _ rfl g30 0 rfl ((u8s (zeros 128)).toArray) _ Tryd.underlying50 rfl (by rw [u8s_size, HZ128.out]; exact info50) (Blk.all (F29'.out.only hS (HN22.out.symm)) rfl)) (Only.refl _ _).drew ?_
  try simp only [Act.put, List.setIfInBounds_toArray, List.set_cons_succ, List.set_cons_zero]
  refine takeH 1 (some 12) (.iface Tw14 dw14) rfl rfl (by kernel_rfl) (by kernel_rfl) (by kernel_rfl) (fun _ _ _ h => h) rfl (fun wq hS => by go_simp) (Only.refl _ _).drew ?_
  try simp only [Act.put, List.setIfInBounds_toArray, List.set_cons_succ, List.set_cons_zero]
  refine oneH 2 (by kernel_rfl) rfl rfl fun K hK => ?_
  go_simp
  refine (of_err _ _ _ _ _ (F33.out.below (Nat.le_refl _) (Below.refl _ _).drew) (F36.out.below (Nat.le_refl _) (Below.refl _ _).drew)).mono ?_
  rintro e wx ⟨rfl, hb⟩
  have HS1 := Lib.hid (((Only.refl (fun k => k = g13) w31).drew).trans (Only.of_below hb))
  have HB1 := Lib.hid ((F35.out.drew).below hb F35.out.drew.lt)
  clear hb
  refine hK _ _ HS1.out ?_
  clear hK K
  try simp only [Act.put, List.setIfInBounds_toArray, List.set_cons_succ, List.set_cons_zero]
  refine oneH 3 (by kernel_rfl) rfl rfl fun K hK => ?_
  refine store_W none rfl rfl HB1.out (by simp only [u8s_size, List.size_toArray, List.length_map, HZ128.out, HZ128.out]) (by rw [u8s_size, HZ128.out]; exact info50) (u8s_one _) rfl rfl fun wy hD hO => ?_
  have HS2 := Lib.hid (HS1.out.trans hO)
  have HD2 := Lib.hid hD
  clear hD hO
  refine hK _ _ HS2.out ?_
  clear hK K
  try simp only [Act.put, List.setIfInBounds_toArray, List.set_cons_succ, List.set_cons_zero]
  refine takeH 4 (some 3) (.int .i64 11) rfl rfl (by kernel_rfl) (by kernel_rfl) (by kernel_rfl) (fun _ _ _ h => h) rfl (fun wq hS => by go_simp) HS2.out ?_
  try simp only [Act.put, List.setIfInBounds_toArray, List.set_cons_succ, List.set_cons_zero]
  refine wpAnyH_done (by kernel_rfl) ?_ _
  go_wp2_with fail
  exact bodyPost_ret (v := .tuple #[.agg (u8s (zeros 128)).toArray, .int .i64 11]) (results_cell_tmp rfl _ _ g13 0 _ _ _ rfl rfl Tryd.underlying50 rfl (by rw [u8s_size, HZ128.out]; exact info50) (Blk.all HD2.out rfl)) rfl ⟨rfl, (F32.out.trans (HS2.out.below F32.out.size (fun k hk => by rw [hk]; exact HG8.out)))⟩
theorem encode_any (r : Rg) (hw : r.Wf) (w : World) (hev : ErrVar w) : Calls Tryd.prog 12 #[.agg r.cells.toArray] w fun e w' => e = .returned (.tuple #[.agg (u8s r.sec).toArray, .int .i64 r.err]) ∧ Below w.heap.size w w' := by
  cases h : r.good with
  | true => rw [sec_good h, err_good h]; exact encode_yes h hw w hev
  | false => rw [sec_bad h, err_bad h]; exact encode_no h hw w hev
theorem good_is {r : Rg} (hg : r.good = true) (hw : r.Wf) (w : World) : Calls Tryd.prog 10 #[.agg r.cells.toArray] w fun e w' => e = .returned (.bool true) ∧ Below w.heap.size w w' := by
  have HZ128 := Lib.hid (zeros_length 128)
  have HWN := Lib.hid none_wf
  have HBL : Hid (Below w.heap.size w w) := Lib.hid (Below.refl _ _)
  have HWF := Lib.hid hw
  have HGD := Lib.hid hg
  clear hw hg
  go_enter Tryd.func10, Tryd.ntmps10
  go_upto_region 0 with fail
  refine wp_region_lit ?_
  refine box_g rfl rfl ?_
  intro w1 hA hb hl
  try simp only [Act.put, List.setIfInBounds_toArray, List.set_cons_succ, List.set_cons_zero]
  clear hl
  have HG2 : Hid (w.heap.size ≤ w.heap.size) := Lib.hid HBL.out.size
  have F3 := Lib.hid (HBL.out.trans (hb.mono HBL.out.size))
  clear HBL
  have F4 : Hid (Blk w1 w.heap.size r.cells) := Lib.hid hA
  clear hA hb
  refine takeL (.bool false) rfl (by go_simp) ?_
  try simp only [Act.put, List.setIfInBounds_toArray, List.set_cons_succ, List.set_cons_zero]
  refine wpList_nil ?_
  go_upto_region 1 with fail
  refine wp_region_lit ?_
  refine load27 (cs := r.cells.toArray) (Blk.all F4.out rfl) (by rw [List.size_toArray]; exact HWF.out.cells) rfl rfl ?_
  try simp only [Act.put, List.setIfInBounds_toArray, List.set_cons_succ, List.set_cons_zero]
  refine wpList_op rfl fun K hK => ?_
  go_simp
  refine (problem_yes HGD.out HWF.out _).mono ?_
  rintro e w5 ⟨rfl, hb⟩
  have F6 := Lib.hid (F3.out.trans (hb.mono F3.out.size))
  have F7 := Lib.hid (F4.out.below hb F4.out.lt)
  clear F3 F4
  clear hb
  refine hK _ _ ?_
  clear hK K
  try simp only [Act.put, List.setIfInBounds_toArray, List.set_cons_succ, List.set_cons_zero]
  refine takeL (.bool true) rfl (by go_simp) ?_
  try simp only [Act.put, List.setIfInBounds_toArray, List.set_cons_succ, List.set_cons_zero]
  refine takeL (.bool true) rfl (by go_simp) ?_
  try simp only [Act.put, List.setIfInBounds_toArray, List.set_cons_succ, List.set_cons_zero]
  refine wpList_nil ?_
  go_wp2_with fail
  go_ret
  exact ⟨rfl, F6.out⟩
theorem good_not {r : Rg} (hg : r.good = false) (hw : r.Wf) (w : World) : Calls Tryd.prog 10 #[.agg r.cells.toArray] w fun e w' => e = .returned (.bool false) ∧ Below w.heap.size w w' := by
  have HZ128 := Lib.hid (zeros_length 128)
  have HWN := Lib.hid none_wf
  have HBL : Hid (Below w.heap.size w w) := Lib.hid (Below.refl _ _)
  have HWF := Lib.hid hw
  have HGD := Lib.hid hg
  clear hw hg
  go_enter Tryd.func10, Tryd.ntmps10
  go_upto_region 0 with fail
  refine wp_region_lit ?_
  refine box_g rfl rfl ?_
  intro w1 hA hb hl
  try simp only [Act.put, List.setIfInBounds_toArray, List.set_cons_succ, List.set_cons_zero]
  clear hl
  have HG2 : Hid (w.heap.size ≤ w.heap.size) := Lib.hid HBL.out.size
  have F3 := Lib.hid (HBL.out.trans (hb.mono HBL.out.size))
  clear HBL
  have F4 : Hid (Blk w1 w.heap.size r.cells) := Lib.hid hA
  clear hA hb
  refine takeL (.bool false) rfl (by go_simp) ?_
  try simp only [Act.put, List.setIfInBounds_toArray, List.set_cons_succ, List.set_cons_zero]
  refine wpList_nil ?_
  go_upto_region 1 with fail
  refine wp_region_lit ?_
  refine load27 (cs := r.cells.toArray) (Blk.all F4.out rfl) (by rw [List.size_toArray]; exact HWF.out.cells) rfl rfl ?_
  try simp only [Act.put, List.setIfInBounds_toArray, List.set_cons_succ, List.set_cons_zero]
  refine wpList_op rfl fun K hK => ?_
  go_simp
  refine (problem_no HGD.out HWF.out _).mono ?_
  rintro e w5 ⟨Tw5, dw5, tw5, tsw5, rfl, hc, hb⟩
  have F6 := Lib.hid (F3.out.trans (hb.mono F3.out.size))
  have F7 := Lib.hid (F4.out.below hb F4.out.lt)
  clear F3 F4
  have F8 := Lib.hid hc
  clear hb hc
  refine hK _ _ ?_
  clear hK K
  try simp only [Act.put, List.setIfInBounds_toArray, List.set_cons_succ, List.set_cons_zero]
  refine takeL (.bool false) rfl (by go_simp) ?_
  try simp only [Act.put, List.setIfInBounds_toArray, List.set_cons_succ, List.set_cons_zero]
  refine takeL (.bool false) rfl (by go_simp) ?_
  try simp only [Act.put, List.setIfInBounds_toArray, List.set_cons_succ, List.set_cons_zero]
  refine wpList_nil ?_
  go_wp2_with fail
  go_ret
  exact ⟨rfl, F6.out⟩
theorem good_any (r : Rg) (hw : r.Wf) (w : World) : Calls Tryd.prog 10 #[.agg r.cells.toArray] w fun e w' => e = .returned (.bool r.good) ∧ Below w.heap.size w w' := by
  cases h : r.good with
  | true => exact good_is h hw w
  | false => exact good_not h hw w
end Go.Proofs.YtoiekieddkadmaaDoor
