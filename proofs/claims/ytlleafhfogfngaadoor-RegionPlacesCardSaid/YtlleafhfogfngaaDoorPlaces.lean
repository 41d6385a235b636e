/- The statement RegionPlaces' walk. -/
import Derived.Test.YtlleafhfogfngaaDoorPair
import Derived.BigQuiet
import Derived.Deep.QuietTactic
namespace Go.Proofs.YtlleafhfogfngaaDoor
set_option linter.unusedSimpArgs false
set_option linter.unusedVariables false
open Go.RowKit

/-- What is known while the places are asked. -/
structure PS (W w : World) (a b : Nat) (r : Rg) : Prop where
  arg : Blk w W.heap.size r.cells
  sa : Blk w a (u8s r.s0)
  sb : Blk w b (u8s r.s1)
  bel : Below W.heap.size W w
  ev : ErrVar w
theorem PS.below {W w w' : World} {a b : Nat} {r : Rg} (h : PS W w a b r) (hb : Below w.heap.size w w') : PS W w' a b r :=
  ⟨h.arg.below hb h.arg.lt, h.sa.below hb h.sa.lt, h.sb.below hb h.sb.lt, h.bel.trans (hb.mono h.bel.size), h.ev.below (Nat.le_refl _) hb⟩
theorem PS.drewN {W w : World} {a b : Nat} {r : Rg} (h : PS W w a b r) (n : Nat) : PS W (w.drewN n) a b r := h.below (drewN_below (Below.refl _ _) n)
theorem s1_at {r : Rg} {k : Nat} (hk : k < 8) (hl : r.rs.length = 8) {x : Int} (hx : r.rs[k]? = some x) : r.s1[6 + 2 * k]? = some (x % 256) ∧ r.s1[7 + 2 * k]? = some (x / 256 % 256) := by
  obtain ⟨gen, p, s, l, f, seg, off, seq, rs⟩ := r
  simp only at hl hx ⊢
  obtain ⟨a, b, c, d, e, g, i, j, rfl⟩ := eight hl
  rcases (show k = 0 ∨ k = 1 ∨ k = 2 ∨ k = 3 ∨ k = 4 ∨ k = 5 ∨ k = 6 ∨ k = 7 by omega) with rfl | rfl | rfl | rfl | rfl | rfl | rfl | rfl <;> (cases hx; exact ⟨rfl, rfl⟩)
theorem s1_22 {r : Rg} (hl : r.rs.length = 8) : (u8s r.s1)[22]? = some (.int .u8 0) := by
  obtain ⟨gen, p, s, l, f, seg, off, seq, rs⟩ := r
  simp only at hl ⊢
  obtain ⟨a, b, c, d, e, g, i, j, rfl⟩ := eight hl
  rfl
theorem u8_cell {L : List Int} {i : Nat} {x : Int} (h : L[i]? = some x) : (u8s L)[i]? = some (.int .u8 x) := by rw [List.getElem?_map, h]; rfl
theorem root_sum {x : Int} (h0 : 0 ≤ x) (h1 : x < 65536) : x % 256 + 256 * (x / 256 % 256) = x := by omega
theorem six_p {r : Rg} (h : r.good = true) : (Byte r.p ∧ Byte r.s ∧ Byte r.l) ∧ Byte r.f ∧ Byte r.seg ∧ Byte r.off := by
  have := six_byte h
  simp only [Rg.six, List.mem_cons, List.not_mem_nil, or_false, forall_eq_or_imp, forall_eq] at this
  obtain ⟨h1, h2, h3, h4, h5, h6⟩ := this
  exact ⟨⟨h1, h2, h3⟩, h4, h5, h6⟩

set_option maxHeartbeats 1000000 in
set_option maxRecDepth 100000 in
theorem places_none (r : Rg) (hr : r.Wf) (gr : r.good = false) (w : World) (hev : ErrVar w) : Calls Tryd.prog 5 #[.agg r.cells.toArray] w fun e w' => e = .returned (.bool true) ∧ Below w.heap.size w w' := by
  have HZ128 := Lib.hid (zeros_length 128)
  have HZ64 := Lib.hid (zeros_length 64)
  have HWR := Lib.hid hr
  have HRE := Lib.hid (enc_length hr.len)
  have Hr0 := Lib.hid (s0_length r)
  have Hr1 := Lib.hid (s1_length hr.len)
  have HBL : Hid (Below w.heap.size w w) := Lib.hid (Below.refl _ _)
  have HEV := Lib.hid hev
  have HE0 := Lib.hid hev.lt
  have HGR := Lib.hid gr
  clear hev hr gr
  go_enter Tryd.func5, Tryd.ntmps5
  go_upto_region 0 with fail
  refine wp_region_lit ?_
  refine box_g rfl rfl ?_
  intro w1 hA hb hl
  try simp only [Act.put, List.setIfInBounds_toArray, List.set_cons_succ, List.set_cons_zero]
  clear hl
  have HG2 : Hid (w.heap.size ≤ w.heap.size) := Lib.hid HBL.out.size
  have F3 := Lib.hid (HBL.out.trans (hb.mono HBL.out.size))
  have F4 := Lib.hid (HEV.out.below (Nat.le_refl _) hb)
  clear HBL HEV
  have F5 : Hid (Blk w1 w.heap.size r.cells) := Lib.hid hA
  clear hA hb
  refine takeL (.bool false) rfl (by go_simp) ?_
  try simp only [Act.put, List.setIfInBounds_toArray, List.set_cons_succ, List.set_cons_zero]
  refine wpList_nil ?_
  go_upto_region 1 with fail
  refine wp_region_lit ?_
  refine load27 (cs := r.cells.toArray) (Blk.all F5.out rfl) (by rw [List.size_toArray]; exact HWR.out.cells) rfl rfl ?_
  try simp only [Act.put, List.setIfInBounds_toArray, List.set_cons_succ, List.set_cons_zero]
  refine wpList_op rfl fun K hK => ?_
  go_simp
  refine (encode_no HGR.out HWR.out _ F4.out).mono ?_
  rintro e w6 ⟨rfl, hb⟩
  have F7 := Lib.hid (F3.out.trans (hb.mono F3.out.size))
  have F8 := Lib.hid (F4.out.below (Nat.le_refl _) hb)
  have F9 := Lib.hid (F5.out.below hb F5.out.lt)
  clear F3 F4 F5
  clear hb
  refine hK _ _ ?_
  clear hK K
  try simp only [Act.put, List.setIfInBounds_toArray, List.set_cons_succ, List.set_cons_zero]
  refine takeL (.tuple #[.agg (u8s (zeros 128)).toArray, .int .i64 11]) rfl (by go_simp) ?_
  try simp only [Act.put, List.setIfInBounds_toArray, List.set_cons_succ, List.set_cons_zero]
  refine takeL (.agg (u8s (zeros 128)).toArray) rfl (by go_simp) ?_
  try simp only [Act.put, List.setIfInBounds_toArray, List.set_cons_succ, List.set_cons_zero]
  refine takeL (.int .i64 11) rfl (by go_simp) ?_
  try simp only [Act.put, List.setIfInBounds_toArray, List.set_cons_succ, List.set_cons_zero]
  refine alloc_g zero30 rfl ?_
  intro w10 hA hb hl
  try simp only [Act.put, List.setIfInBounds_toArray, List.set_cons_succ, List.set_cons_zero]
  clear hl
  have HN11 := Lib.hid (Nat.ne_of_lt F9.out.lt)
  have HG12 : Hid (w.heap.size ≤ w6.heap.size) := Lib.hid F7.out.size
  have F13 := Lib.hid (F7.out.trans (hb.mono F7.out.size))
  have F14 := Lib.hid (F8.out.below (Nat.le_refl _) hb)
  have F15 := Lib.hid (F9.out.below hb F9.out.lt)
  clear F7 F8 F9
  have F16 : Hid (Blk w10 w6.heap.size (u8s (zeros 128))) := Lib.hid hA
  clear hA hb
  generalize w6.heap.size = g17 at *
  clear w6
  refine store_all (cs := (u8s (zeros 128)).toArray) F16.out (by simp only [u8s_size, List.size_toArray, List.length_map, HZ128.out, HZ128.out]) (by rw [u8s_size, HZ128.out]; exact info30) (u8s_one _) rfl rfl rfl ?_
  intro w18 hD hO hlD
  try simp only [Act.put, List.setIfInBounds_toArray, List.set_cons_succ, List.set_cons_zero]
  clear hlD
  have F19 := Lib.hid (F13.out.trans (hO.below F13.out.size (fun k hk => by rw [hk]; exact HG12.out)))
  have F20 := Lib.hid (F14.out.keep hO HG12.out HE0.out)
  have F21 := Lib.hid (F15.out.only hO (HN11.out))
  clear F13 F14 F15 F16
  have F16' : Hid (Blk w18 g17 (u8s (zeros 128))) := Lib.hid hD
  clear hD hO 
  refine takeL (.int .i64 11) rfl (by go_simp) ?_
  try simp only [Act.put, List.setIfInBounds_toArray, List.set_cons_succ, List.set_cons_zero]
  refine wpList_nil ?_
  go_upto_region 2 with fail
  refine wp_region_lit ?_
  refine takeL (.int .i64 11) rfl (by go_simp) ?_
  try simp only [Act.put, List.setIfInBounds_toArray, List.set_cons_succ, List.set_cons_zero]
  refine takeL (.bool true) rfl (by go_simp) ?_
  try simp only [Act.put, List.setIfInBounds_toArray, List.set_cons_succ, List.set_cons_zero]
  refine wpList_nil ?_
  go_upto_region 3 with fail
  refine wp_region_lit ?_
  refine load30 (cs := (u8s (zeros 128)).toArray) (Blk.all F16'.out rfl) (by rw [u8s_size, HZ128.out]) rfl rfl ?_
  try simp only [Act.put, List.setIfInBounds_toArray, List.set_cons_succ, List.set_cons_zero]
  refine build_g (build30 _) rfl ?_
  try simp only [Act.put, List.setIfInBounds_toArray, List.set_cons_succ, List.set_cons_zero]
  refine takeL (.bool true) rfl (by exact run_eql_two (v := true) (decide_eq_true rfl) HZ128.out HZ128.out _ _ _ rfl rfl rfl) ?_
  try simp only [Act.put, List.setIfInBounds_toArray, List.set_cons_succ, List.set_cons_zero]
  refine takeL (.bool true) rfl (by go_simp) ?_
  try simp only [Act.put, List.setIfInBounds_toArray, List.set_cons_succ, List.set_cons_zero]
  refine load27 (cs := r.cells.toArray) (Blk.all F21.out rfl) (by rw [List.size_toArray]; exact HWR.out.cells) rfl rfl ?_
  try simp only [Act.put, List.setIfInBounds_toArray, List.set_cons_succ, List.set_cons_zero]
  refine wpList_op rfl fun K hK => ?_
  go_simp
  refine (good_not HGR.out HWR.out _).mono ?_
  rintro e w22 ⟨rfl, hb⟩
  have F23 := Lib.hid (F19.out.trans (hb.mono F19.out.size))
  have F24 := Lib.hid (F20.out.below (Nat.le_refl _) hb)
  have F25 := Lib.hid (F21.out.below hb F21.out.lt)
  have F26 := Lib.hid (F16'.out.below hb F16'.out.lt)
  clear F19 F20 F21 F16'
  clear hb
  refine hK _ _ ?_
  clear hK K
  try simp only [Act.put, List.setIfInBounds_toArray, List.set_cons_succ, List.set_cons_zero]
  refine takeL (.bool true) rfl (by go_simp) ?_
  try simp only [Act.put, List.setIfInBounds_toArray, List.set_cons_succ, List.set_cons_zero]
  refine takeL (.bool true) rfl (by go_simp) ?_
  try simp only [Act.put, List.setIfInBounds_toArray, List.set_cons_succ, List.set_cons_zero]
  refine takeL (.bool true) rfl (by go_simp) ?_
  try simp only [Act.put, List.setIfInBounds_toArray, List.set_cons_succ, List.set_cons_zero]
  refine wpList_op rfl fun K hK => ?_
  go_simp
  refine (wakes_any _ F24.out).mono ?_
  rintro e w27 ⟨rfl, hb⟩
  have F28 := Lib.hid (F23.out.trans (hb.mono F23.out.size))
  have F29 := Lib.hid (F24.out.below (Nat.le_refl _) hb)
  have F30 := Lib.hid (F25.out.below hb F25.out.lt)
  have F31 := Lib.hid (F26.out.below hb F26.out.lt)
  clear F23 F24 F25 F26
  clear hb
  refine hK _ _ ?_
  clear hK K
  try simp only [Act.put, List.setIfInBounds_toArray, List.set_cons_succ, List.set_cons_zero]
  refine takeL (.bool true) rfl (by go_simp) ?_
  try simp only [Act.put, List.setIfInBounds_toArray, List.set_cons_succ, List.set_cons_zero]
  refine takeL (.bool true) rfl (by go_simp) ?_
  try simp only [Act.put, List.setIfInBounds_toArray, List.set_cons_succ, List.set_cons_zero]
  refine wpList_nil ?_
  go_wp2_with fail
  go_ret
  exact ⟨rfl, F28.out⟩
set_option maxHeartbeats 1000000 in
set_option maxRecDepth 100000 in
theorem places_good (r : Rg) (hr : r.Wf) (gr : r.good = true) (w : World) (hev : ErrVar w) : Calls Tryd.prog 5 #[.agg r.cells.toArray] w fun e w' => e = .returned (.bool true) ∧ Below w.heap.size w w' := by
  have HZ128 := Lib.hid (zeros_length 128)
  have HZ64 := Lib.hid (zeros_length 64)
  have HWR := Lib.hid hr
  have HRE := Lib.hid (enc_length hr.len)
  have Hr0 := Lib.hid (s0_length r)
  have Hr1 := Lib.hid (s1_length hr.len)
  have HBL : Hid (Below w.heap.size w w) := Lib.hid (Below.refl _ _)
  have HEV := Lib.hid hev
  have HE0 := Lib.hid hev.lt
  have HGR := Lib.hid gr
  clear hev hr gr
  go_enter Tryd.func5, Tryd.ntmps5
  go_upto_region 0 with fail
  refine wp_region_lit ?_
  refine box_g rfl rfl ?_
  intro w1 hA hb hl
  try simp only [Act.put, List.setIfInBounds_toArray, List.set_cons_succ, List.set_cons_zero]
  clear hl
  have HG2 : Hid (w.heap.size ≤ w.heap.size) := Lib.hid HBL.out.size
  have F3 := Lib.hid (HBL.out.trans (hb.mono HBL.out.size))
  have F4 := Lib.hid (HEV.out.below (Nat.le_refl _) hb)
  clear HBL HEV
  have F5 : Hid (Blk w1 w.heap.size r.cells) := Lib.hid hA
  clear hA hb
  refine takeL (.bool false) rfl (by go_simp) ?_
  try simp only [Act.put, List.setIfInBounds_toArray, List.set_cons_succ, List.set_cons_zero]
  refine wpList_nil ?_
  go_upto_region 1 with fail
  refine wp_region_lit ?_
  refine load27 (cs := r.cells.toArray) (Blk.all F5.out rfl) (by rw [List.size_toArray]; exact HWR.out.cells) rfl rfl ?_
  try simp only [Act.put, List.setIfInBounds_toArray, List.set_cons_succ, List.set_cons_zero]
  refine wpList_op rfl fun K hK => ?_
  go_simp
  refine (encode_yes HGR.out HWR.out _ F4.out).mono ?_
  rintro e w6 ⟨rfl, hb⟩
  have F7 := Lib.hid (F3.out.trans (hb.mono F3.out.size))
  have F8 := Lib.hid (F4.out.below (Nat.le_refl _) hb)
  have F9 := Lib.hid (F5.out.below hb F5.out.lt)
  clear F3 F4 F5
  clear hb
  refine hK _ _ ?_
  clear hK K
  try simp only [Act.put, List.setIfInBounds_toArray, List.set_cons_succ, List.set_cons_zero]
  refine takeL (.tuple #[.agg (u8s r.enc).toArray, .int .i64 0]) rfl (by go_simp) ?_
  try simp only [Act.put, List.setIfInBounds_toArray, List.set_cons_succ, List.set_cons_zero]
  refine takeL (.agg (u8s r.enc).toArray) rfl (by go_simp) ?_
  try simp only [Act.put, List.setIfInBounds_toArray, List.set_cons_succ, List.set_cons_zero]
  refine takeL (.int .i64 0) rfl (by go_simp) ?_
  try simp only [Act.put, List.setIfInBounds_toArray, List.set_cons_succ, List.set_cons_zero]
  refine alloc_g zero30 rfl ?_
  intro w10 hA hb hl
  try simp only [Act.put, List.setIfInBounds_toArray, List.set_cons_succ, List.set_cons_zero]
  clear hl
  have HN11 := Lib.hid (Nat.ne_of_lt F9.out.lt)
  have HG12 : Hid (w.heap.size ≤ w6.heap.size) := Lib.hid F7.out.size
  have F13 := Lib.hid (F7.out.trans (hb.mono F7.out.size))
  have F14 := Lib.hid (F8.out.below (Nat.le_refl _) hb)
  have F15 := Lib.hid (F9.out.below hb F9.out.lt)
  clear F7 F8 F9
  have F16 : Hid (Blk w10 w6.heap.size (u8s (zeros 128))) := Lib.hid hA
  clear hA hb
  generalize w6.heap.size = g17 at *
  clear w6
  refine store_all (cs := (u8s r.enc).toArray) F16.out (by simp only [u8s_size, List.size_toArray, List.length_map, HZ128.out, HRE.out]) (by rw [u8s_size, HRE.out]; exact info30) (u8s_one _) rfl rfl rfl ?_
  intro w18 hD hO hlD
  try simp only [Act.put, List.setIfInBounds_toArray, List.set_cons_succ, List.set_cons_zero]
  clear hlD
  have F19 := Lib.hid (F13.out.trans (hO.below F13.out.size (fun k hk => by rw [hk]; exact HG12.out)))
  have F20 := Lib.hid (F14.out.keep hO HG12.out HE0.out)
  have F21 := Lib.hid (F15.out.only hO (HN11.out))
  clear F13 F14 F15 F16
  have F16' : Hid (Blk w18 g17 (u8s r.enc)) := Lib.hid hD
  clear hD hO 
  refine takeL (.int .i64 0) rfl (by go_simp) ?_
  try simp only [Act.put, List.setIfInBounds_toArray, List.set_cons_succ, List.set_cons_zero]
  refine wpList_nil ?_
  go_upto_region 2 with fail
  refine wp_region_lit ?_
  refine takeL (.int .i64 0) rfl (by go_simp) ?_
  try simp only [Act.put, List.setIfInBounds_toArray, List.set_cons_succ, List.set_cons_zero]
  refine takeL (.bool false) rfl (by go_simp) ?_
  try simp only [Act.put, List.setIfInBounds_toArray, List.set_cons_succ, List.set_cons_zero]
  refine wpList_nil ?_
  go_upto_region 4 with fail
  go_cut [5, 6] from 5 to 32 (fun s5 s6 wx => ∃ a b : Nat, s5 = .pointer (some ⟨a, 0, none⟩) ∧ s6 = .pointer (some ⟨b, 0, none⟩) ∧ PS w wx a b r)
  case first =>
    refine startH (fun wq => Blk wq g17 (u8s r.enc)) (by kernel_rfl) ?_
    refine takeH 0 (some 28) (.pointer (some ⟨g17, 0, none⟩)) rfl rfl (by kernel_rfl) (by kernel_rfl) (by kernel_rfl) (fun _ _ _ h => h) rfl (fun wq hS => by go_simp) F16'.out.drew ?_
    try simp only [Act.put, List.setIfInBounds_toArray, List.set_cons_succ, List.set_cons_zero]
    refine takeH 1 (some 29) (.agg (u8s r.s0).toArray) rfl rfl (by kernel_rfl) (by kernel_rfl) (by kernel_rfl) (fun _ _ _ h => h) rfl (fun wq hS => by exact exec_load_at wq _ _ 29 _ rfl g17 0 rfl (u8s r.s0).toArray _ Tryd.underlying29 rfl (by rw [u8s_size, Hr0.out]; exact info29) (enc_at0 hS HWR.out.len)) F16'.out.drew ?_
    try simp only [Act.put, List.setIfInBounds_toArray, List.set_cons_succ, List.set_cons_zero]
    refine takeH 2 (some 30) (.pointer (some ⟨g17, 64, none⟩)) rfl rfl (by kernel_rfl) (by kernel_rfl) (by kernel_rfl) (fun _ _ _ h => h) rfl (fun wq hS => by go_simp) F16'.out.drew ?_
    try simp only [Act.put, List.setIfInBounds_toArray, List.set_cons_succ, List.set_cons_zero]
    refine takeH 3 (some 31) (.agg (u8s r.s1).toArray) rfl rfl (by kernel_rfl) (by kernel_rfl) (by kernel_rfl) (fun _ _ _ h => h) rfl (fun wq hS => by exact exec_load_at wq _ _ 29 _ rfl g17 64 rfl (u8s r.s1).toArray _ Tryd.underlying29 rfl (by rw [u8s_size, Hr1.out]; exact info29) (enc_at1 hS HWR.out.len)) F16'.out.drew ?_
    try simp only [Act.put, List.setIfInBounds_toArray, List.set_cons_succ, List.set_cons_zero]
    refine twoH 4 5 (by kernel_rfl) rfl rfl rfl rfl (fun K hK => ?_) (fun K hK => ?_)
    · refine wp_runTo (some 5) rfl _ _ (exec_alloc _ _ _ 29 rfl _ zero29) ?_
      have hbA : Below w18.drew.heap.size w18.drew (w18.drew.alloc (.cells (u8s (zeros 64)).toArray 29)) := (Below.refl _ _).alloc (Nat.le_refl _) _
      have hnA : Blk (w18.drew.alloc (.cells (u8s (zeros 64)).toArray 29)) w18.drew.heap.size (u8s (zeros 64)) := Blk.newAt 29 _ _ rfl rfl
      generalize hWA : w18.drew.alloc (.cells (u8s (zeros 64)).toArray 29) = wA at *
      have HLA := Lib.hid ((F16'.out.drew).below hbA (F16'.out.drew).lt)
      refine hK _ _ HLA.out ?_
      clear hK K
      try simp only [Act.put, List.setIfInBounds_toArray, List.set_cons_succ, List.set_cons_zero]
      refine oneH 5 (by kernel_rfl) rfl rfl fun K hK => ?_
      refine wp_runTo (some 6) rfl _ _ (exec_alloc _ _ _ 29 rfl _ zero29) ?_
      have hbB : Below wA.heap.size wA (wA.alloc (.cells (u8s (zeros 64)).toArray 29)) := (Below.refl _ _).alloc (Nat.le_refl _) _
      have hnB : Blk (wA.alloc (.cells (u8s (zeros 64)).toArray 29)) wA.heap.size (u8s (zeros 64)) := Blk.newAt 29 _ _ rfl rfl
      generalize hWB : wA.alloc (.cells (u8s (zeros 64)).toArray 29) = wB at *
      have HLB := Lib.hid (HLA.out.below hbB HLA.out.lt)
      refine hK _ _ HLB.out ?_
      clear hK K
      try simp only [Act.put, List.setIfInBounds_toArray, List.set_cons_succ, List.set_cons_zero]
      have hAB : w18.drew.heap.size ≠ wA.heap.size := Nat.ne_of_lt hnA.lt
      have hBB : Below w18.heap.size w18 wB := (((Below.refl w18.heap.size w18).drew).trans (show Below w18.heap.size w18.drew wA from hbA)).trans (hbB.mono (show w18.heap.size ≤ wA.heap.size from hbA.size))
      have hLA : g17 ≠ w18.drew.heap.size := Nat.ne_of_lt (show _ from F16'.out.lt)
      have hLB : g17 ≠ wA.heap.size := Nat.ne_of_lt HLA.out.lt
      have hzA : Blk wB (w18.drew.heap.size) (u8s (zeros 64)) := (hnA.below hbB hnA.lt)
      have hzB : Blk wB (wA.heap.size) (u8s (zeros 64)) := hnB
      have hgA : w18.heap.size ≤ w18.drew.heap.size := Nat.le_refl _
      have hgB : w18.heap.size ≤ wA.heap.size := hbA.size
      generalize w18.drew.heap.size = A at *
      generalize wA.heap.size = B at *
      refine oneH 6 (by kernel_rfl) rfl rfl fun K hK => ?_
      refine store_W none rfl rfl hzA (by simp only [u8s_size, List.length_map, HZ64.out, Hr0.out]) (by rw [u8s_size, Hr0.out]; exact info29) (u8s_one _) rfl rfl fun wC hD hO => ?_
      have HLC := Lib.hid (HLB.out.only hO hLA)
      refine hK _ _ HLC.out ?_
      clear hK K
      try simp only [Act.put, List.setIfInBounds_toArray, List.set_cons_succ, List.set_cons_zero]
      refine oneH 7 (by kernel_rfl) rfl rfl fun K hK => ?_
      refine store_W none rfl rfl (hzB.only hO (Ne.symm hAB)) (by simp only [u8s_size, List.length_map, HZ64.out, Hr1.out]) (by rw [u8s_size, Hr1.out]; exact info29) (u8s_one _) rfl rfl fun wD hD2 hO2 => ?_
      have HLD := Lib.hid (HLC.out.only hO2 hLB)
      refine hK _ _ HLD.out ?_
      clear hK K
      try simp only [Act.put, List.setIfInBounds_toArray, List.set_cons_succ, List.set_cons_zero]
      refine wpAnyH_done (by kernel_rfl) ?_ _
      go_wp2_with fail
      go_meet
      have hg : w.heap.size < w18.heap.size := F21.out.lt
      exact ⟨A, B, rfl, rfl, ((F21.out.below hBB F21.out.lt).only hO (by omega)).only hO2 (by omega), hD.only hO2 hAB, hD2, ((F19.out.trans (hBB.mono F19.out.size)).trans (hO.below (Nat.le_trans F19.out.size hBB.size) fun k hk => by rw [hk]; omega)).trans (hO2.below (Nat.le_trans F19.out.size (Nat.le_trans hBB.size hO.size)) fun k hk => by rw [hk]; omega), ((F20.out.below (Nat.le_refl _) hBB).keep hO (B := w.heap.size) (by omega) HE0.out).keep hO2 (B := w.heap.size) (by omega) HE0.out⟩
    · refine wp_runTo (some 6) rfl _ _ (exec_alloc _ _ _ 29 rfl _ zero29) ?_
      have hbA : Below w18.drew.heap.size w18.drew (w18.drew.alloc (.cells (u8s (zeros 64)).toArray 29)) := (Below.refl _ _).alloc (Nat.le_refl _) _
      have hnA : Blk (w18.drew.alloc (.cells (u8s (zeros 64)).toArray 29)) w18.drew.heap.size (u8s (zeros 64)) := Blk.newAt 29 _ _ rfl rfl
      generalize hWA : w18.drew.alloc (.cells (u8s (zeros 64)).toArray 29) = wA at *
      have HLA := Lib.hid ((F16'.out.drew).below hbA (F16'.out.drew).lt)
      refine hK _ _ HLA.out ?_
      clear hK K
      try simp only [Act.put, List.setIfInBounds_toArray, List.set_cons_succ, List.set_cons_zero]
      refine oneH 4 (by kernel_rfl) rfl rfl fun K hK => ?_
      refine wp_runTo (some 5) rfl _ _ (exec_alloc _ _ _ 29 rfl _ zero29) ?_
      have hbB : Below wA.heap.size wA (wA.alloc (.cells (u8s (zeros 64)).toArray 29)) := (Below.refl _ _).alloc (Nat.le_refl _) _
      have hnB : Blk (wA.alloc (.cells (u8s (zeros 64)).toArray 29)) wA.heap.size (u8s (zeros 64)) := Blk.newAt 29 _ _ rfl rfl
      generalize hWB : wA.alloc (.cells (u8s (zeros 64)).toArray 29) = wB at *
      have HLB := Lib.hid (HLA.out.below hbB HLA.out.lt)
      refine hK _ _ HLB.out ?_
      clear hK K
      try simp only [Act.put, List.setIfInBounds_toArray, List.set_cons_succ, List.set_cons_zero]
      have hAB : wA.heap.size ≠ w18.drew.heap.size := (Nat.ne_of_lt hnA.lt).symm
      have hBB : Below w18.heap.size w18 wB := (((Below.refl w18.heap.size w18).drew).trans (show Below w18.heap.size w18.drew wA from hbA)).trans (hbB.mono (show w18.heap.size ≤ wA.heap.size from hbA.size))
      have hLA : g17 ≠ wA.heap.size := Nat.ne_of_lt HLA.out.lt
      have hLB : g17 ≠ w18.drew.heap.size := Nat.ne_of_lt (show _ from F16'.out.lt)
      have hzA : Blk wB (wA.heap.size) (u8s (zeros 64)) := hnB
      have hzB : Blk wB (w18.drew.heap.size) (u8s (zeros 64)) := (hnA.below hbB hnA.lt)
      have hgA : w18.heap.size ≤ wA.heap.size := hbA.size
      have hgB : w18.heap.size ≤ w18.drew.heap.size := Nat.le_refl _
      generalize wA.heap.size = A at *
      generalize w18.drew.heap.size = B at *
      refine oneH 6 (by kernel_rfl) rfl rfl fun K hK => ?_
      refine store_W none rfl rfl hzA (by simp only [u8s_size, List.length_map, HZ64.out, Hr0.out]) (by rw [u8s_size, Hr0.out]; exact info29) (u8s_one _) rfl rfl fun wC hD hO => ?_
      have HLC := Lib.hid (HLB.out.only hO hLA)
      refine hK _ _ HLC.out ?_
      clear hK K
      try simp only [Act.put, List.setIfInBounds_toArray, List.set_cons_succ, List.set_cons_zero]
      refine oneH 7 (by kernel_rfl) rfl rfl fun K hK => ?_
      refine store_W none rfl rfl (hzB.only hO (Ne.symm hAB)) (by simp only [u8s_size, List.length_map, HZ64.out, Hr1.out]) (by rw [u8s_size, Hr1.out]; exact info29) (u8s_one _) rfl rfl fun wD hD2 hO2 => ?_
      have HLD := Lib.hid (HLC.out.only hO2 hLB)
      refine hK _ _ HLD.out ?_
      clear hK K
      try simp only [Act.put, List.setIfInBounds_toArray, List.set_cons_succ, List.set_cons_zero]
      refine wpAnyH_done (by kernel_rfl) ?_ _
      go_wp2_with fail
      go_meet
      have hg : w.heap.size < w18.heap.size := F21.out.lt
      exact ⟨A, B, rfl, rfl, ((F21.out.below hBB F21.out.lt).only hO (by omega)).only hO2 (by omega), hD.only hO2 hAB, hD2, ((F19.out.trans (hBB.mono F19.out.size)).trans (hO.below (Nat.le_trans F19.out.size hBB.size) fun k hk => by rw [hk]; omega)).trans (hO2.below (Nat.le_trans F19.out.size (Nat.le_trans hBB.size hO.size)) fun k hk => by rw [hk]; omega), ((F20.out.below (Nat.le_refl _) hBB).keep hO (B := w.heap.size) (by omega) HE0.out).keep hO2 (B := w.heap.size) (by omega) HE0.out⟩
  case rest =>
    obtain ⟨a, b, rfl, rfl, hps⟩ := hcut
    have HP := Lib.hid hps
    clear hps
    obtain ⟨g0, g1⟩ : 0 ≤ r.gen ∧ r.gen < 4294967296 := HWR.out.gen
    obtain ⟨q0, q1⟩ : 0 ≤ r.seq ∧ r.seq < 4294967296 := HWR.out.seq
    go_wp2_with fail
    go_loopg [7] 4 (fun q i wr => ∃ k : Nat, 4 - k ≤ q ∧ k ≤ 4 ∧ i = .int .i64 k ∧ PS w wr a b r)
    case atStart => exact ⟨0, by omega, by omega, rfl, HP.out⟩
    case round =>
      obtain ⟨k, hq, hk, rfl, hls⟩ := hrel
      have HM := Lib.hid hls
      clear HP hls
      rcases (show k = 0 ∨ k = 1 ∨ k = 2 ∨ k = 3 ∨ k = 4 by omega) with rfl | rfl | rfl | rfl | rfl
      · have ca := HM.out.sa.cell (i := 2) (v := .int .u8 (r.gen % 256)) (by rfl)
        have cb := HM.out.sb.cell (i := 2) (v := .int .u8 (r.gen % 256)) (by rfl)
        have cs := HM.out.sa.cell (i := 12) (v := .int .u8 (r.seq % 256)) (by rfl)
        have c0 := HM.out.arg.cell (i := 0) (v := .int .u32 r.gen) rfl
        have c7 := HM.out.arg.cell (i := 7) (v := .int .u32 r.seq) rfl
        go_wp2_with fail
        go_quiet (fail)
        go_wp2_with fail
        go_roundg (4 - (0 + 1))
        case measure => omega
        case rel => exact ⟨1, by omega, by omega, by go_num, HM.out.drewN _⟩
      · have ca := HM.out.sa.cell (i := 3) (v := .int .u8 (r.gen / 256 % 256)) (by rfl)
        have cb := HM.out.sb.cell (i := 3) (v := .int .u8 (r.gen / 256 % 256)) (by rfl)
        have cs := HM.out.sa.cell (i := 13) (v := .int .u8 (r.seq / 256 % 256)) (by rfl)
        have c0 := HM.out.arg.cell (i := 0) (v := .int .u32 r.gen) rfl
        have c7 := HM.out.arg.cell (i := 7) (v := .int .u32 r.seq) rfl
        go_wp2_with fail
        go_quiet (fail)
        go_wp2_with fail
        go_roundg (4 - (1 + 1))
        case measure => omega
        case rel => exact ⟨2, by omega, by omega, by go_num, HM.out.drewN _⟩
      · have ca := HM.out.sa.cell (i := 4) (v := .int .u8 (r.gen / 65536 % 256)) (congrArg (fun x => some (Value.int .u8 x)) (show r.gen / 256 / 256 % 256 = r.gen / 65536 % 256 by omega))
        have cb := HM.out.sb.cell (i := 4) (v := .int .u8 (r.gen / 65536 % 256)) (congrArg (fun x => some (Value.int .u8 x)) (show r.gen / 256 / 256 % 256 = r.gen / 65536 % 256 by omega))
        have cs := HM.out.sa.cell (i := 14) (v := .int .u8 (r.seq / 65536 % 256)) (congrArg (fun x => some (Value.int .u8 x)) (show r.seq / 256 / 256 % 256 = r.seq / 65536 % 256 by omega))
        have c0 := HM.out.arg.cell (i := 0) (v := .int .u32 r.gen) rfl
        have c7 := HM.out.arg.cell (i := 7) (v := .int .u32 r.seq) rfl
        go_wp2_with fail
        go_quiet (fail)
        go_wp2_with fail
        go_roundg (4 - (2 + 1))
        case measure => omega
        case rel => exact ⟨3, by omega, by omega, by go_num, HM.out.drewN _⟩
      · have ca := HM.out.sa.cell (i := 5) (v := .int .u8 (r.gen / 16777216)) (congrArg (fun x => some (Value.int .u8 x)) (show r.gen / 256 / 256 / 256 % 256 = r.gen / 16777216 by omega))
        have cb := HM.out.sb.cell (i := 5) (v := .int .u8 (r.gen / 16777216)) (congrArg (fun x => some (Value.int .u8 x)) (show r.gen / 256 / 256 / 256 % 256 = r.gen / 16777216 by omega))
        have cs := HM.out.sa.cell (i := 15) (v := .int .u8 (r.seq / 16777216)) (congrArg (fun x => some (Value.int .u8 x)) (show r.seq / 256 / 256 / 256 % 256 = r.seq / 16777216 by omega))
        have c0 := HM.out.arg.cell (i := 0) (v := .int .u32 r.gen) rfl
        have c7 := HM.out.arg.cell (i := 7) (v := .int .u32 r.seq) rfl
        go_wp2_with fail
        go_quiet (fail)
        go_wp2_with fail
        go_roundg (4 - (3 + 1))
        case measure => omega
        case rel => exact ⟨4, by omega, by omega, by go_num, HM.out.drewN _⟩
      · go_wp2_with fail
        go_loopg [9] 8 (fun q i wr => ∃ k : Nat, 8 - k ≤ q ∧ k ≤ 8 ∧ i = .int .i64 k ∧ PS w wr a b r)
        case atStart => exact ⟨0, by omega, by omega, rfl, HM.out⟩
        case round =>
          obtain ⟨k, hq, hk, rfl, hls⟩ := hrel
          have HN := Lib.hid hls
          clear HM hls
          rcases (show k = 0 ∨ k = 1 ∨ k = 2 ∨ k = 3 ∨ k = 4 ∨ k = 5 ∨ k = 6 ∨ k = 7 ∨ k = 8 by omega) with rfl | rfl | rfl | rfl | rfl | rfl | rfl | rfl | rfl
          · obtain ⟨x, hx⟩ : ∃ x, r.rs[0]? = some x := ⟨_, List.getElem?_eq_getElem (by rw [HWR.out.len]; decide)⟩
            obtain ⟨x0, x1⟩ := good_all HGR.out HWR.out.len x (List.mem_of_getElem? hx)
            have hs := s1_at (k := 0) (by decide) HWR.out.len hx
            have cl := HN.out.sb.cell (i := 6) (v := .int .u8 (x % 256)) (u8_cell hs.1)
            have ch := HN.out.sb.cell (i := 7) (v := .int .u8 (x / 256 % 256)) (u8_cell hs.2)
            have cr := rootCell HN.out.arg hx
            have hsum := root_sum x0 x1
            clear hs hx
            go_upto_region 14 with fail
            go_quiet (fail)
            go_wp2_with fail
            go_roundg (8 - (0 + 1))
            case measure => omega
            case rel => exact ⟨1, by omega, by omega, by go_num, HN.out.drewN _⟩
          · obtain ⟨x, hx⟩ : ∃ x, r.rs[1]? = some x := ⟨_, List.getElem?_eq_getElem (by rw [HWR.out.len]; decide)⟩
            obtain ⟨x0, x1⟩ := good_all HGR.out HWR.out.len x (List.mem_of_getElem? hx)
            have hs := s1_at (k := 1) (by decide) HWR.out.len hx
            have cl := HN.out.sb.cell (i := 8) (v := .int .u8 (x % 256)) (u8_cell hs.1)
            have ch := HN.out.sb.cell (i := 9) (v := .int .u8 (x / 256 % 256)) (u8_cell hs.2)
            have cr := rootCell HN.out.arg hx
            have hsum := root_sum x0 x1
            clear hs hx
            go_upto_region 14 with fail
            go_quiet (fail)
            go_wp2_with fail
            go_roundg (8 - (1 + 1))
            case measure => omega
            case rel => exact ⟨2, by omega, by omega, by go_num, HN.out.drewN _⟩
          · obtain ⟨x, hx⟩ : ∃ x, r.rs[2]? = some x := ⟨_, List.getElem?_eq_getElem (by rw [HWR.out.len]; decide)⟩
            obtain ⟨x0, x1⟩ := good_all HGR.out HWR.out.len x (List.mem_of_getElem? hx)
            have hs := s1_at (k := 2) (by decide) HWR.out.len hx
            have cl := HN.out.sb.cell (i := 10) (v := .int .u8 (x % 256)) (u8_cell hs.1)
            have ch := HN.out.sb.cell (i := 11) (v := .int .u8 (x / 256 % 256)) (u8_cell hs.2)
            have cr := rootCell HN.out.arg hx
            have hsum := root_sum x0 x1
            clear hs hx
            go_upto_region 14 with fail
            go_quiet (fail)
            go_wp2_with fail
            go_roundg (8 - (2 + 1))
            case measure => omega
            case rel => exact ⟨3, by omega, by omega, by go_num, HN.out.drewN _⟩
          · obtain ⟨x, hx⟩ : ∃ x, r.rs[3]? = some x := ⟨_, List.getElem?_eq_getElem (by rw [HWR.out.len]; decide)⟩
            obtain ⟨x0, x1⟩ := good_all HGR.out HWR.out.len x (List.mem_of_getElem? hx)
            have hs := s1_at (k := 3) (by decide) HWR.out.len hx
            have cl := HN.out.sb.cell (i := 12) (v := .int .u8 (x % 256)) (u8_cell hs.1)
            have ch := HN.out.sb.cell (i := 13) (v := .int .u8 (x / 256 % 256)) (u8_cell hs.2)
            have cr := rootCell HN.out.arg hx
            have hsum := root_sum x0 x1
            clear hs hx
            go_upto_region 14 with fail
            go_quiet (fail)
            go_wp2_with fail
            go_roundg (8 - (3 + 1))
            case measure => omega
            case rel => exact ⟨4, by omega, by omega, by go_num, HN.out.drewN _⟩
          · obtain ⟨x, hx⟩ : ∃ x, r.rs[4]? = some x := ⟨_, List.getElem?_eq_getElem (by rw [HWR.out.len]; decide)⟩
            obtain ⟨x0, x1⟩ := good_all HGR.out HWR.out.len x (List.mem_of_getElem? hx)
            have hs := s1_at (k := 4) (by decide) HWR.out.len hx
            have cl := HN.out.sb.cell (i := 14) (v := .int .u8 (x % 256)) (u8_cell hs.1)
            have ch := HN.out.sb.cell (i := 15) (v := .int .u8 (x / 256 % 256)) (u8_cell hs.2)
            have cr := rootCell HN.out.arg hx
            have hsum := root_sum x0 x1
            clear hs hx
            go_upto_region 14 with fail
            go_quiet (fail)
            go_wp2_with fail
            go_roundg (8 - (4 + 1))
            case measure => omega
            case rel => exact ⟨5, by omega, by omega, by go_num, HN.out.drewN _⟩
          · obtain ⟨x, hx⟩ : ∃ x, r.rs[5]? = some x := ⟨_, List.getElem?_eq_getElem (by rw [HWR.out.len]; decide)⟩
            obtain ⟨x0, x1⟩ := good_all HGR.out HWR.out.len x (List.mem_of_getElem? hx)
            have hs := s1_at (k := 5) (by decide) HWR.out.len hx
            have cl := HN.out.sb.cell (i := 16) (v := .int .u8 (x % 256)) (u8_cell hs.1)
            have ch := HN.out.sb.cell (i := 17) (v := .int .u8 (x / 256 % 256)) (u8_cell hs.2)
            have cr := rootCell HN.out.arg hx
            have hsum := root_sum x0 x1
            clear hs hx
            go_upto_region 14 with fail
            go_quiet (fail)
            go_wp2_with fail
            go_roundg (8 - (5 + 1))
            case measure => omega
            case rel => exact ⟨6, by omega, by omega, by go_num, HN.out.drewN _⟩
          · obtain ⟨x, hx⟩ : ∃ x, r.rs[6]? = some x := ⟨_, List.getElem?_eq_getElem (by rw [HWR.out.len]; decide)⟩
            obtain ⟨x0, x1⟩ := good_all HGR.out HWR.out.len x (List.mem_of_getElem? hx)
            have hs := s1_at (k := 6) (by decide) HWR.out.len hx
            have cl := HN.out.sb.cell (i := 18) (v := .int .u8 (x % 256)) (u8_cell hs.1)
            have ch := HN.out.sb.cell (i := 19) (v := .int .u8 (x / 256 % 256)) (u8_cell hs.2)
            have cr := rootCell HN.out.arg hx
            have hsum := root_sum x0 x1
            clear hs hx
            go_upto_region 14 with fail
            go_quiet (fail)
            go_wp2_with fail
            go_roundg (8 - (6 + 1))
            case measure => omega
            case rel => exact ⟨7, by omega, by omega, by go_num, HN.out.drewN _⟩
          · obtain ⟨x, hx⟩ : ∃ x, r.rs[7]? = some x := ⟨_, List.getElem?_eq_getElem (by rw [HWR.out.len]; decide)⟩
            obtain ⟨x0, x1⟩ := good_all HGR.out HWR.out.len x (List.mem_of_getElem? hx)
            have hs := s1_at (k := 7) (by decide) HWR.out.len hx
            have cl := HN.out.sb.cell (i := 20) (v := .int .u8 (x % 256)) (u8_cell hs.1)
            have ch := HN.out.sb.cell (i := 21) (v := .int .u8 (x / 256 % 256)) (u8_cell hs.2)
            have cr := rootCell HN.out.arg hx
            have hsum := root_sum x0 x1
            clear hs hx
            go_upto_region 14 with fail
            go_quiet (fail)
            go_wp2_with fail
            go_roundg (8 - (7 + 1))
            case measure => omega
            case rel => exact ⟨8, by omega, by omega, by go_num, HN.out.drewN _⟩
          · have FA := Lib.hid HN.out.arg
            have F0 := Lib.hid HN.out.sa
            have F1 := Lib.hid HN.out.sb
            have FL := Lib.hid HN.out.bel
            have FE := Lib.hid HN.out.ev
            have HSX := Lib.hid (six_p HGR.out)
            clear HN
            go_upto_region 16 with fail
            refine wp_region_lit ?_
            try simp only [List.append_eq, List.cons_append, List.nil_append]
            refine takeL (.pointer (some ⟨a, 0, none⟩)) rfl (by go_simp) ?_
            try simp only [Act.put, List.setIfInBounds_toArray, List.set_cons_succ, List.set_cons_zero]
            refine takeL (.int .u8 82) rfl (by have hq := F0.out.cell (i := 0) (v := .int .u8 82) rfl; go_simp) ?_
            try simp only [Act.put, List.setIfInBounds_toArray, List.set_cons_succ, List.set_cons_zero]
            refine takeL (.bool true) rfl (by go_simp) ?_
            try simp only [Act.put, List.setIfInBounds_toArray, List.set_cons_succ, List.set_cons_zero]
            refine takeL (.bool true) rfl (by go_simp) ?_
            try simp only [Act.put, List.setIfInBounds_toArray, List.set_cons_succ, List.set_cons_zero]
            refine takeL (.pointer (some ⟨b, 0, none⟩)) rfl (by go_simp) ?_
            try simp only [Act.put, List.setIfInBounds_toArray, List.set_cons_succ, List.set_cons_zero]
            refine takeL (.int .u8 82) rfl (by have hq := F1.out.cell (i := 0) (v := .int .u8 82) rfl; go_simp) ?_
            try simp only [Act.put, List.setIfInBounds_toArray, List.set_cons_succ, List.set_cons_zero]
            refine takeL (.bool true) rfl (by go_simp) ?_
            try simp only [Act.put, List.setIfInBounds_toArray, List.set_cons_succ, List.set_cons_zero]
            refine takeL (.bool true) rfl (by go_simp) ?_
            try simp only [Act.put, List.setIfInBounds_toArray, List.set_cons_succ, List.set_cons_zero]
            refine takeL (.bool true) rfl (by go_simp) ?_
            try simp only [Act.put, List.setIfInBounds_toArray, List.set_cons_succ, List.set_cons_zero]
            refine takeL (.pointer (some ⟨a, 1, none⟩)) rfl (by go_simp) ?_
            try simp only [Act.put, List.setIfInBounds_toArray, List.set_cons_succ, List.set_cons_zero]
            refine takeL (.int .u8 0) rfl (by have hq := F0.out.cell (i := 1) (v := .int .u8 0) rfl; go_simp) ?_
            try simp only [Act.put, List.setIfInBounds_toArray, List.set_cons_succ, List.set_cons_zero]
            refine takeL (.bool true) rfl (by go_simp) ?_
            try simp only [Act.put, List.setIfInBounds_toArray, List.set_cons_succ, List.set_cons_zero]
            refine takeL (.bool true) rfl (by go_simp) ?_
            try simp only [Act.put, List.setIfInBounds_toArray, List.set_cons_succ, List.set_cons_zero]
            refine takeL (.bool true) rfl (by go_simp) ?_
            try simp only [Act.put, List.setIfInBounds_toArray, List.set_cons_succ, List.set_cons_zero]
            refine takeL (.pointer (some ⟨b, 1, none⟩)) rfl (by go_simp) ?_
            try simp only [Act.put, List.setIfInBounds_toArray, List.set_cons_succ, List.set_cons_zero]
            refine takeL (.int .u8 1) rfl (by have hq := F1.out.cell (i := 1) (v := .int .u8 1) rfl; go_simp) ?_
            try simp only [Act.put, List.setIfInBounds_toArray, List.set_cons_succ, List.set_cons_zero]
            refine takeL (.bool true) rfl (by go_simp) ?_
            try simp only [Act.put, List.setIfInBounds_toArray, List.set_cons_succ, List.set_cons_zero]
            refine takeL (.bool true) rfl (by go_simp) ?_
            try simp only [Act.put, List.setIfInBounds_toArray, List.set_cons_succ, List.set_cons_zero]
            refine takeL (.bool true) rfl (by go_simp) ?_
            try simp only [Act.put, List.setIfInBounds_toArray, List.set_cons_succ, List.set_cons_zero]
            refine takeL (.pointer (some ⟨a, 6, none⟩)) rfl (by go_simp) ?_
            try simp only [Act.put, List.setIfInBounds_toArray, List.set_cons_succ, List.set_cons_zero]
            refine takeL (.int .u8 r.p) rfl (by have hq := F0.out.cell (i := 6) (v := .int .u8 r.p) rfl; go_simp) ?_
            try simp only [Act.put, List.setIfInBounds_toArray, List.set_cons_succ, List.set_cons_zero]
            refine takeL (.int .i64 r.p) rfl (by have hq : Byte r.p := HSX.out.1.1; go_simp <;> exact wrap64 hq.1 (by have := hq.2; omega)) ?_
            try simp only [Act.put, List.setIfInBounds_toArray, List.set_cons_succ, List.set_cons_zero]
            refine takeL (.pointer (some ⟨w.heap.size, 1, none⟩)) rfl (by go_simp) ?_
            try simp only [Act.put, List.setIfInBounds_toArray, List.set_cons_succ, List.set_cons_zero]
            refine takeL (.pointer (some ⟨w.heap.size, 1, none⟩)) rfl (by go_simp) ?_
            try simp only [Act.put, List.setIfInBounds_toArray, List.set_cons_succ, List.set_cons_zero]
            refine takeL (.int .i64 r.p) rfl (by have hq := FA.out.cell (i := 1) (v := .int .i64 r.p) rfl; go_simp) ?_
            try simp only [Act.put, List.setIfInBounds_toArray, List.set_cons_succ, List.set_cons_zero]
            refine takeL (.bool true) rfl (by go_simp) ?_
            try simp only [Act.put, List.setIfInBounds_toArray, List.set_cons_succ, List.set_cons_zero]
            refine takeL (.bool true) rfl (by go_simp) ?_
            try simp only [Act.put, List.setIfInBounds_toArray, List.set_cons_succ, List.set_cons_zero]
            refine takeL (.bool true) rfl (by go_simp) ?_
            try simp only [Act.put, List.setIfInBounds_toArray, List.set_cons_succ, List.set_cons_zero]
            refine takeL (.pointer (some ⟨a, 7, none⟩)) rfl (by go_simp) ?_
            try simp only [Act.put, List.setIfInBounds_toArray, List.set_cons_succ, List.set_cons_zero]
            refine takeL (.int .u8 r.s) rfl (by have hq := F0.out.cell (i := 7) (v := .int .u8 r.s) rfl; go_simp) ?_
            try simp only [Act.put, List.setIfInBounds_toArray, List.set_cons_succ, List.set_cons_zero]
            refine takeL (.int .i64 r.s) rfl (by have hq : Byte r.s := HSX.out.1.2.1; go_simp <;> exact wrap64 hq.1 (by have := hq.2; omega)) ?_
            try simp only [Act.put, List.setIfInBounds_toArray, List.set_cons_succ, List.set_cons_zero]
            refine takeL (.pointer (some ⟨w.heap.size, 1, none⟩)) rfl (by go_simp) ?_
            try simp only [Act.put, List.setIfInBounds_toArray, List.set_cons_succ, List.set_cons_zero]
            refine takeL (.pointer (some ⟨w.heap.size, 2, none⟩)) rfl (by go_simp) ?_
            try simp only [Act.put, List.setIfInBounds_toArray, List.set_cons_succ, List.set_cons_zero]
            refine takeL (.int .i64 r.s) rfl (by have hq := FA.out.cell (i := 2) (v := .int .i64 r.s) rfl; go_simp) ?_
            try simp only [Act.put, List.setIfInBounds_toArray, List.set_cons_succ, List.set_cons_zero]
            refine takeL (.bool true) rfl (by go_simp) ?_
            try simp only [Act.put, List.setIfInBounds_toArray, List.set_cons_succ, List.set_cons_zero]
            refine takeL (.bool true) rfl (by go_simp) ?_
            try simp only [Act.put, List.setIfInBounds_toArray, List.set_cons_succ, List.set_cons_zero]
            refine takeL (.bool true) rfl (by go_simp) ?_
            try simp only [Act.put, List.setIfInBounds_toArray, List.set_cons_succ, List.set_cons_zero]
            refine takeL (.pointer (some ⟨a, 8, none⟩)) rfl (by go_simp) ?_
            try simp only [Act.put, List.setIfInBounds_toArray, List.set_cons_succ, List.set_cons_zero]
            refine takeL (.int .u8 r.l) rfl (by have hq := F0.out.cell (i := 8) (v := .int .u8 r.l) rfl; go_simp) ?_
            try simp only [Act.put, List.setIfInBounds_toArray, List.set_cons_succ, List.set_cons_zero]
            refine takeL (.int .i64 r.l) rfl (by have hq : Byte r.l := HSX.out.1.2.2; go_simp <;> exact wrap64 hq.1 (by have := hq.2; omega)) ?_
            try simp only [Act.put, List.setIfInBounds_toArray, List.set_cons_succ, List.set_cons_zero]
            refine takeL (.pointer (some ⟨w.heap.size, 1, none⟩)) rfl (by go_simp) ?_
            try simp only [Act.put, List.setIfInBounds_toArray, List.set_cons_succ, List.set_cons_zero]
            refine takeL (.pointer (some ⟨w.heap.size, 3, none⟩)) rfl (by go_simp) ?_
            try simp only [Act.put, List.setIfInBounds_toArray, List.set_cons_succ, List.set_cons_zero]
            refine takeL (.int .i64 r.l) rfl (by have hq := FA.out.cell (i := 3) (v := .int .i64 r.l) rfl; go_simp) ?_
            try simp only [Act.put, List.setIfInBounds_toArray, List.set_cons_succ, List.set_cons_zero]
            refine takeL (.bool true) rfl (by go_simp) ?_
            try simp only [Act.put, List.setIfInBounds_toArray, List.set_cons_succ, List.set_cons_zero]
            refine takeL (.bool true) rfl (by go_simp) ?_
            try simp only [Act.put, List.setIfInBounds_toArray, List.set_cons_succ, List.set_cons_zero]
            refine takeL (.bool true) rfl (by go_simp) ?_
            try simp only [Act.put, List.setIfInBounds_toArray, List.set_cons_succ, List.set_cons_zero]
            refine takeL (.pointer (some ⟨a, 9, none⟩)) rfl (by go_simp) ?_
            try simp only [Act.put, List.setIfInBounds_toArray, List.set_cons_succ, List.set_cons_zero]
            refine takeL (.int .u8 r.f) rfl (by have hq := F0.out.cell (i := 9) (v := .int .u8 r.f) rfl; go_simp) ?_
            try simp only [Act.put, List.setIfInBounds_toArray, List.set_cons_succ, List.set_cons_zero]
            refine takeL (.int .i64 r.f) rfl (by have hq : Byte r.f := HSX.out.2.1; go_simp <;> exact wrap64 hq.1 (by have := hq.2; omega)) ?_
            try simp only [Act.put, List.setIfInBounds_toArray, List.set_cons_succ, List.set_cons_zero]
            refine takeL (.pointer (some ⟨w.heap.size, 1, none⟩)) rfl (by go_simp) ?_
            try simp only [Act.put, List.setIfInBounds_toArray, List.set_cons_succ, List.set_cons_zero]
            refine takeL (.pointer (some ⟨w.heap.size, 4, none⟩)) rfl (by go_simp) ?_
            try simp only [Act.put, List.setIfInBounds_toArray, List.set_cons_succ, List.set_cons_zero]
            refine takeL (.int .i64 r.f) rfl (by have hq := FA.out.cell (i := 4) (v := .int .i64 r.f) rfl; go_simp) ?_
            try simp only [Act.put, List.setIfInBounds_toArray, List.set_cons_succ, List.set_cons_zero]
            refine takeL (.bool true) rfl (by go_simp) ?_
            try simp only [Act.put, List.setIfInBounds_toArray, List.set_cons_succ, List.set_cons_zero]
            refine takeL (.bool true) rfl (by go_simp) ?_
            try simp only [Act.put, List.setIfInBounds_toArray, List.set_cons_succ, List.set_cons_zero]
            refine takeL (.bool true) rfl (by go_simp) ?_
            try simp only [Act.put, List.setIfInBounds_toArray, List.set_cons_succ, List.set_cons_zero]
            refine takeL (.pointer (some ⟨a, 10, none⟩)) rfl (by go_simp) ?_
            try simp only [Act.put, List.setIfInBounds_toArray, List.set_cons_succ, List.set_cons_zero]
            refine takeL (.int .u8 r.seg) rfl (by have hq := F0.out.cell (i := 10) (v := .int .u8 r.seg) rfl; go_simp) ?_
            try simp only [Act.put, List.setIfInBounds_toArray, List.set_cons_succ, List.set_cons_zero]
            refine takeL (.int .i64 r.seg) rfl (by have hq : Byte r.seg := HSX.out.2.2.1; go_simp <;> exact wrap64 hq.1 (by have := hq.2; omega)) ?_
            try simp only [Act.put, List.setIfInBounds_toArray, List.set_cons_succ, List.set_cons_zero]
            refine takeL (.pointer (some ⟨w.heap.size, 5, none⟩)) rfl (by go_simp) ?_
            try simp only [Act.put, List.setIfInBounds_toArray, List.set_cons_succ, List.set_cons_zero]
            refine takeL (.int .i64 r.seg) rfl (by have hq := FA.out.cell (i := 5) (v := .int .i64 r.seg) rfl; go_simp) ?_
            try simp only [Act.put, List.setIfInBounds_toArray, List.set_cons_succ, List.set_cons_zero]
            refine takeL (.bool true) rfl (by go_simp) ?_
            try simp only [Act.put, List.setIfInBounds_toArray, List.set_cons_succ, List.set_cons_zero]
            refine takeL (.bool true) rfl (by go_simp) ?_
            try simp only [Act.put, List.setIfInBounds_toArray, List.set_cons_succ, List.set_cons_zero]
            refine takeL (.bool true) rfl (by go_simp) ?_
            try simp only [Act.put, List.setIfInBounds_toArray, List.set_cons_succ, List.set_cons_zero]
            refine takeL (.pointer (some ⟨a, 11, none⟩)) rfl (by go_simp) ?_
            try simp only [Act.put, List.setIfInBounds_toArray, List.set_cons_succ, List.set_cons_zero]
            refine takeL (.int .u8 r.off) rfl (by have hq := F0.out.cell (i := 11) (v := .int .u8 r.off) rfl; go_simp) ?_
            try simp only [Act.put, List.setIfInBounds_toArray, List.set_cons_succ, List.set_cons_zero]
            refine takeL (.int .i64 r.off) rfl (by have hq : Byte r.off := HSX.out.2.2.2; go_simp <;> exact wrap64 hq.1 (by have := hq.2; omega)) ?_
            try simp only [Act.put, List.setIfInBounds_toArray, List.set_cons_succ, List.set_cons_zero]
            refine takeL (.pointer (some ⟨w.heap.size, 6, none⟩)) rfl (by go_simp) ?_
            try simp only [Act.put, List.setIfInBounds_toArray, List.set_cons_succ, List.set_cons_zero]
            refine takeL (.int .i64 r.off) rfl (by have hq := FA.out.cell (i := 6) (v := .int .i64 r.off) rfl; go_simp) ?_
            try simp only [Act.put, List.setIfInBounds_toArray, List.set_cons_succ, List.set_cons_zero]
            refine takeL (.bool true) rfl (by go_simp) ?_
            try simp only [Act.put, List.setIfInBounds_toArray, List.set_cons_succ, List.set_cons_zero]
            refine takeL (.bool true) rfl (by go_simp) ?_
            try simp only [Act.put, List.setIfInBounds_toArray, List.set_cons_succ, List.set_cons_zero]
            refine takeL (.bool true) rfl (by go_simp) ?_
            try simp only [Act.put, List.setIfInBounds_toArray, List.set_cons_succ, List.set_cons_zero]
            refine takeL (.pointer (some ⟨a, 16, none⟩)) rfl (by go_simp) ?_
            try simp only [Act.put, List.setIfInBounds_toArray, List.set_cons_succ, List.set_cons_zero]
            refine takeL (.int .u8 0) rfl (by have hq := F0.out.cell (i := 16) (v := .int .u8 0) rfl; go_simp) ?_
            try simp only [Act.put, List.setIfInBounds_toArray, List.set_cons_succ, List.set_cons_zero]
            refine takeL (.bool true) rfl (by go_simp) ?_
            try simp only [Act.put, List.setIfInBounds_toArray, List.set_cons_succ, List.set_cons_zero]
            refine takeL (.bool true) rfl (by go_simp) ?_
            try simp only [Act.put, List.setIfInBounds_toArray, List.set_cons_succ, List.set_cons_zero]
            refine takeL (.bool true) rfl (by go_simp) ?_
            try simp only [Act.put, List.setIfInBounds_toArray, List.set_cons_succ, List.set_cons_zero]
            refine takeL (.pointer (some ⟨b, 22, none⟩)) rfl (by go_simp) ?_
            try simp only [Act.put, List.setIfInBounds_toArray, List.set_cons_succ, List.set_cons_zero]
            refine takeL (.int .u8 0) rfl (by have hq := F1.out.cell (i := 22) (v := .int .u8 0) (s1_22 HWR.out.len); go_simp) ?_
            try simp only [Act.put, List.setIfInBounds_toArray, List.set_cons_succ, List.set_cons_zero]
            refine takeL (.bool true) rfl (by go_simp) ?_
            try simp only [Act.put, List.setIfInBounds_toArray, List.set_cons_succ, List.set_cons_zero]
            refine takeL (.bool true) rfl (by go_simp) ?_
            try simp only [Act.put, List.setIfInBounds_toArray, List.set_cons_succ, List.set_cons_zero]
            refine takeL (.bool true) rfl (by go_simp) ?_
            try simp only [Act.put, List.setIfInBounds_toArray, List.set_cons_succ, List.set_cons_zero]
            refine load27 (cs := r.cells.toArray) (Blk.all FA.out rfl) (by rw [List.size_toArray]; exact HWR.out.cells) rfl rfl ?_
            try simp only [Act.put, List.setIfInBounds_toArray, List.set_cons_succ, List.set_cons_zero]
            refine wpList_op rfl fun K hK => ?_
            go_simp
            refine (good_is HGR.out HWR.out _).mono ?_
            rintro e w901 ⟨rfl, hb⟩
            have F902 := Lib.hid (FA.out.below hb FA.out.lt)
            have F903 := Lib.hid (F0.out.below hb F0.out.lt)
            have F904 := Lib.hid (F1.out.below hb F1.out.lt)
            have F905 := Lib.hid (FL.out.trans (hb.mono FL.out.size))
            have F906 := Lib.hid (FE.out.below (Nat.le_refl _) hb)
            clear FA F0 F1 FL FE
            clear hb
            refine hK _ _ ?_
            clear hK K
            try simp only [Act.put, List.setIfInBounds_toArray, List.set_cons_succ, List.set_cons_zero]
            refine takeL (.bool true) rfl (by go_simp) ?_
            try simp only [Act.put, List.setIfInBounds_toArray, List.set_cons_succ, List.set_cons_zero]
            refine takeL (.bool true) rfl (by go_simp) ?_
            try simp only [Act.put, List.setIfInBounds_toArray, List.set_cons_succ, List.set_cons_zero]
            refine wpList_op rfl fun K hK => ?_
            go_simp
            refine (wakes_any _ F906.out).mono ?_
            rintro e w907 ⟨rfl, hb⟩
            have F908 := Lib.hid (F902.out.below hb F902.out.lt)
            have F909 := Lib.hid (F903.out.below hb F903.out.lt)
            have F910 := Lib.hid (F904.out.below hb F904.out.lt)
            have F911 := Lib.hid (F905.out.trans (hb.mono F905.out.size))
            have F912 := Lib.hid (F906.out.below (Nat.le_refl _) hb)
            clear F902 F903 F904 F905 F906
            clear hb
            refine hK _ _ ?_
            clear hK K
            try simp only [Act.put, List.setIfInBounds_toArray, List.set_cons_succ, List.set_cons_zero]
            refine takeL (.bool true) rfl (by go_simp) ?_
            try simp only [Act.put, List.setIfInBounds_toArray, List.set_cons_succ, List.set_cons_zero]
            refine takeL (.bool true) rfl (by go_simp) ?_
            try simp only [Act.put, List.setIfInBounds_toArray, List.set_cons_succ, List.set_cons_zero]
            refine wpList_nil ?_
            go_wp2_with fail
            go_ret
            exact ⟨rfl, F911.out⟩
theorem places_any (r : Rg) (hr : r.Wf) (w : World) (hev : ErrVar w) : Calls Tryd.prog 5 #[.agg r.cells.toArray] w fun e w' => e = .returned (.bool true) ∧ Below w.heap.size w w' := by
  cases gr : r.good with
  | false => exact places_none r hr gr w hev
  | true => exact places_good r hr gr w hev
end Go.Proofs.YtlleafhfogfngaaDoor
