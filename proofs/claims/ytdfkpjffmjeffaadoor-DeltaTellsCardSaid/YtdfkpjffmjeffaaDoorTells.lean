/- The statement DeltaTells's walk: whatever the pages and the bytes, the call returns true. -/
import Derived.Test.YtdfkpjffmjeffaaDoorBack
import Derived.Test.YtdfkpjffmjeffaaDoorLays
import Derived.Test.YtdfkpjffmjeffaaDoorRef
namespace Go.Proofs.YtdfkpjffmjeffaaDoor
set_option linter.unusedSimpArgs false
set_option linter.unusedVariables false
open Go.RowKit

theorem Blk.grown {w w' : World} {g : Nat} {l : List Value} {row : Option Nat} (h : Blk w g l) (hg : w.grownBy w' row) (hne : row ≠ some g) : Blk w' g l := h.of_block (hg.block g h.lt fun e => hne e.symm)
theorem app_G {B : Nat} {sv tv : Value} {l m : List Int} {o : Oper} {a : Act} {w : World} {K : Act → World → Prop} {Q : Exit → Act → World → Prop} (x y : Operand) (dst : Option Tmp) (hd : o.dst = dst) (ho : o.op = .call { callee := .builtin .append, args := #[x, y], argTypes := #[24, 24] })
    (h : Own w B sv l) (hB : B ≤ w.heap.size) (k : BytesAt w tv m) (hlen : l.length + m.length ≤ 1000000) (hx : a.eval x = sv) (hy : a.eval y = tv)
    (hh : ∀ sv' w', Own w' B sv' (l ++ m) → w.grownBy w' sv.ownBlock → K (a.put dst sv') w') : o.wp Tryd.prog a w K Q := by
  obtain ⟨sv', w', hr, hO, hg⟩ := app_own h hB k hlen o.type
  exact wp_runTo dst hd sv' w' (exec_app a.eval o x y 24 24 ho sv tv sv' hx hy hr) (hh sv' w' hO hg)
theorem bytes_eq {w : World} {sv cv : Value} {l : List Int} (h : BytesAt w sv l) (k : BytesAt w cv l) (hl : ∀ x ∈ l, Byte x) : Calls Tryd.prog 12 #[sv, cv] w fun e w' => e = .returned (.bool true) ∧ w = w' := by
  have := bytes_any h k hl hl
  rwa [decide_eq_true (rfl : l = l)] at this

set_option maxRecDepth 100000 in
set_option maxHeartbeats 1000000 in
theorem tells_long (a b : List Int) (ha : Pg a) (hb : Pg b) (ox : Int) (sx : Value) (x : List Int) (hyx : ∀ z ∈ x, Byte z) (n : Nat) (hn : x.length = n) (h : 300 < n) (w : World) (hbx : BytesAt w sx x) (hev : ErrVar w) : Calls Tryd.prog 3 #[.agg (u8s a).toArray, .agg (u8s b).toArray, .agg #[.int .i64 ox, sx]] w fun e w' => e = .returned (.bool true) ∧ Below w.heap.size w w' := by
  have HZ32 := Lib.hid (zeros_length 32)
  have HA := Lib.hid ha.length
  have HB := Lib.hid hb.length
  have HPA := Lib.hid ha
  have HPB := Lib.hid hb
  have HBX := Lib.hid hbx
  obtain ⟨ax, cx, he, -⟩ := hbx
  have HEX : Hid (sx = .slice ax n cx) := Lib.hid (hn ▸ he)
  have HN := Lib.hid hn
  clear he hn
  have HBL : Hid (Below w.heap.size w w) := Lib.hid (Below.refl _ _)
  have HEV := Lib.hid hev
  clear hev ha hb
  go_enter Tryd.func3, Tryd.ntmps3
  go_upto_region 0 with fail
  refine wp_region_lit ?_
  refine box_g (cs := (u8s a).toArray) rfl rfl ?_
  intro w1 hA hb hl
  try simp only [Act.put, List.setIfInBounds_toArray, List.set_cons_succ, List.set_cons_zero]
  clear hl
  have F2 := Lib.hid (HBL.out.trans (hb.mono HBL.out.size))
  have F3 := Lib.hid (HEV.out.below (Nat.le_refl _) hb)
  clear HBL HEV
  have F4 : Hid (Blk w1 w.heap.size (u8s a)) := Lib.hid hA
  clear hA hb
  refine box_g (cs := (u8s b).toArray) rfl rfl ?_
  intro w5 hA hb hl
  try simp only [Act.put, List.setIfInBounds_toArray, List.set_cons_succ, List.set_cons_zero]
  clear hl
  have F6 := Lib.hid (F2.out.trans (hb.mono F2.out.size))
  have F7 := Lib.hid (F3.out.below (Nat.le_refl _) hb)
  have F8 := Lib.hid (F4.out.below hb F4.out.lt)
  clear F2 F3 F4
  have F9 : Hid (Blk w5 w1.heap.size (u8s b)) := Lib.hid hA
  clear hA hb
  generalize w1.heap.size = g10 at *
  clear w1
  refine box_g (cs := #[.int .i64 ox, sx]) rfl rfl ?_
  intro w11 hA hb hl
  try simp only [Act.put, List.setIfInBounds_toArray, List.set_cons_succ, List.set_cons_zero]
  clear hl
  have F12 := Lib.hid (F6.out.trans (hb.mono F6.out.size))
  have F13 := Lib.hid (F7.out.below (Nat.le_refl _) hb)
  have F14 := Lib.hid (F8.out.below hb F8.out.lt)
  have F15 := Lib.hid (F9.out.below hb F9.out.lt)
  clear F6 F7 F8 F9
  have F16 : Hid (Blk w11 w5.heap.size [.int .i64 ox, sx]) := Lib.hid hA
  clear hA hb
  generalize w5.heap.size = g17 at *
  clear w5
  refine takeL (.bool false) rfl (by go_simp) ?_
  try simp only [Act.put, List.setIfInBounds_toArray, List.set_cons_succ, List.set_cons_zero]
  refine wpList_nil ?_
  go_upto_region 1 with fail
  refine wp_region_lit ?_
  try simp only [List.append_eq, List.cons_append, List.nil_append]
  refine takeL (.pointer (some ⟨g17, 1, none⟩)) rfl (by go_simp) ?_
  try simp only [Act.put, List.setIfInBounds_toArray, List.set_cons_succ, List.set_cons_zero]
  refine takeL (sx) rfl (by have hq := F16.out.cell (i := 1) (v := sx) rfl; go_simp) ?_
  try simp only [Act.put, List.setIfInBounds_toArray, List.set_cons_succ, List.set_cons_zero]
  refine takeL (.int .i64 n) rfl (by have hq := HEX.out; rw [hq]; go_simp) ?_
  try simp only [Act.put, List.setIfInBounds_toArray, List.set_cons_succ, List.set_cons_zero]
  refine takeL (.bool true) rfl (by go_simp <;> omega) ?_
  try simp only [Act.put, List.setIfInBounds_toArray, List.set_cons_succ, List.set_cons_zero]
  refine wpList_nil ?_
  go_upto_region 2 with fail
  refine wp_region_lit ?_
  try simp only [List.append_eq, List.cons_append, List.nil_append]
  refine wpList_op rfl fun K hK => ?_
  go_simp
  refine (wakes_any _ F13.out).mono ?_
  rintro e w18 ⟨rfl, hb⟩
  have F19 := Lib.hid (F12.out.trans (hb.mono F12.out.size))
  have F20 := Lib.hid (F13.out.below (Nat.le_refl _) hb)
  have F21 := Lib.hid (F14.out.below hb F14.out.lt)
  have F22 := Lib.hid (F15.out.below hb F15.out.lt)
  have F23 := Lib.hid (F16.out.below hb F16.out.lt)
  clear F12 F13 F14 F15 F16
  clear hb
  refine hK _ _ ?_
  clear hK K
  try simp only [Act.put, List.setIfInBounds_toArray, List.set_cons_succ, List.set_cons_zero]
  refine takeL (.bool true) rfl (by go_simp) ?_
  try simp only [Act.put, List.setIfInBounds_toArray, List.set_cons_succ, List.set_cons_zero]
  refine wpList_nil ?_
  go_wp2_with fail
  go_ret
  exact ⟨rfl, F19.out⟩
set_option maxRecDepth 100000 in
set_option maxHeartbeats 1000000 in
theorem tells_none_out (a b : List Int) (ha : Pg a) (hb : Pg b) (ox : Int) (sx : Value) (x : List Int) (hyx : ∀ z ∈ x, Byte z) (n : Nat) (hn : x.length = n) (h : n ≤ 300) (o e : Nat) (hs : Span a b o e) (hh : o = e ∨ 16 < e - o) (hf : ¬ Fits ox x) (w : World) (hbx : BytesAt w sx x) (hev : ErrVar w) : Calls Tryd.prog 3 #[.agg (u8s a).toArray, .agg (u8s b).toArray, .agg #[.int .i64 ox, sx]] w fun e w' => e = .returned (.bool true) ∧ Below w.heap.size w w' := by
  have HZ32 := Lib.hid (zeros_length 32)
  have HA := Lib.hid ha.length
  have HB := Lib.hid hb.length
  have HPA := Lib.hid ha
  have HPB := Lib.hid hb
  have HBX := Lib.hid hbx
  obtain ⟨ax, cx, he, -⟩ := hbx
  have HEX : Hid (sx = .slice ax n cx) := Lib.hid (hn ▸ he)
  have HN := Lib.hid hn
  clear he hn
  have HBL : Hid (Below w.heap.size w w) := Lib.hid (Below.refl _ _)
  have HEV := Lib.hid hev
  clear hev ha hb
  have HS := Lib.hid hs
  clear hs
  have HF := Lib.hid hf
  clear hf
  go_enter Tryd.func3, Tryd.ntmps3
  go_upto_region 0 with fail
  refine wp_region_lit ?_
  refine box_g (cs := (u8s a).toArray) rfl rfl ?_
  intro w1 hA hb hl
  try simp only [Act.put, List.setIfInBounds_toArray, List.set_cons_succ, List.set_cons_zero]
  clear hl
  have F2 := Lib.hid (HBL.out.trans (hb.mono HBL.out.size))
  have F3 := Lib.hid (HEV.out.below (Nat.le_refl _) hb)
  clear HBL HEV
  have F4 : Hid (Blk w1 w.heap.size (u8s a)) := Lib.hid hA
  clear hA hb
  refine box_g (cs := (u8s b).toArray) rfl rfl ?_
  intro w5 hA hb hl
  try simp only [Act.put, List.setIfInBounds_toArray, List.set_cons_succ, List.set_cons_zero]
  clear hl
  have F6 := Lib.hid (F2.out.trans (hb.mono F2.out.size))
  have F7 := Lib.hid (F3.out.below (Nat.le_refl _) hb)
  have F8 := Lib.hid (F4.out.below hb F4.out.lt)
  clear F2 F3 F4
  have F9 : Hid (Blk w5 w1.heap.size (u8s b)) := Lib.hid hA
  clear hA hb
  generalize w1.heap.size = g10 at *
  clear w1
  refine box_g (cs := #[.int .i64 ox, sx]) rfl rfl ?_
  intro w11 hA hb hl
  try simp only [Act.put, List.setIfInBounds_toArray, List.set_cons_succ, List.set_cons_zero]
  clear hl
  have F12 := Lib.hid (F6.out.trans (hb.mono F6.out.size))
  have F13 := Lib.hid (F7.out.below (Nat.le_refl _) hb)
  have F14 := Lib.hid (F8.out.below hb F8.out.lt)
  have F15 := Lib.hid (F9.out.below hb F9.out.lt)
  clear F6 F7 F8 F9
  have F16 : Hid (Blk w11 w5.heap.size [.int .i64 ox, sx]) := Lib.hid hA
  clear hA hb
  generalize w5.heap.size = g17 at *
  clear w5
  refine takeL (.bool false) rfl (by go_simp) ?_
  try simp only [Act.put, List.setIfInBounds_toArray, List.set_cons_succ, List.set_cons_zero]
  refine wpList_nil ?_
  go_upto_region 1 with fail
  refine wp_region_lit ?_
  try simp only [List.append_eq, List.cons_append, List.nil_append]
  refine takeL (.pointer (some ⟨g17, 1, none⟩)) rfl (by go_simp) ?_
  try simp only [Act.put, List.setIfInBounds_toArray, List.set_cons_succ, List.set_cons_zero]
  refine takeL (sx) rfl (by have hq := F16.out.cell (i := 1) (v := sx) rfl; go_simp) ?_
  try simp only [Act.put, List.setIfInBounds_toArray, List.set_cons_succ, List.set_cons_zero]
  refine takeL (.int .i64 n) rfl (by have hq := HEX.out; rw [hq]; go_simp) ?_
  try simp only [Act.put, List.setIfInBounds_toArray, List.set_cons_succ, List.set_cons_zero]
  refine takeL (.bool false) rfl (by go_simp <;> omega) ?_
  try simp only [Act.put, List.setIfInBounds_toArray, List.set_cons_succ, List.set_cons_zero]
  refine wpList_nil ?_
  go_upto_region 3 with fail
  refine wp_region_lit ?_
  try simp only [List.append_eq, List.cons_append, List.nil_append]
  refine load23 (cs := (u8s a).toArray) (Blk.all F14.out rfl) (by rw [u8s_size, HA.out]) rfl rfl ?_
  try simp only [Act.put, List.setIfInBounds_toArray, List.set_cons_succ, List.set_cons_zero]
  refine load23 (cs := (u8s b).toArray) (Blk.all F15.out rfl) (by rw [u8s_size, HB.out]) rfl rfl ?_
  try simp only [Act.put, List.setIfInBounds_toArray, List.set_cons_succ, List.set_cons_zero]
  refine wpList_op rfl fun K hK => ?_
  go_simp
  refine (diff_no a b HPA.out HPB.out o e HS.out hh _).mono ?_
  rintro e w18 ⟨rfl, hb⟩
  have F19 := Lib.hid (F12.out.trans (hb.mono F12.out.size))
  have F20 := Lib.hid (F13.out.below (Nat.le_refl _) hb)
  have F21 := Lib.hid (F14.out.below hb F14.out.lt)
  have F22 := Lib.hid (F15.out.below hb F15.out.lt)
  have F23 := Lib.hid (F16.out.below hb F16.out.lt)
  clear F12 F13 F14 F15 F16
  clear hb
  refine hK _ _ ?_
  clear hK K
  try simp only [Act.put, List.setIfInBounds_toArray, List.set_cons_succ, List.set_cons_zero]
  refine takeL (.tuple #[.int .i64 0, .slice none 0 0, .bool false]) rfl (by go_simp) ?_
  try simp only [Act.put, List.setIfInBounds_toArray, List.set_cons_succ, List.set_cons_zero]
  refine takeL (.int .i64 0) rfl (by go_simp) ?_
  try simp only [Act.put, List.setIfInBounds_toArray, List.set_cons_succ, List.set_cons_zero]
  refine takeL (.slice none 0 0) rfl (by go_simp) ?_
  try simp only [Act.put, List.setIfInBounds_toArray, List.set_cons_succ, List.set_cons_zero]
  refine takeL (.bool false) rfl (by go_simp) ?_
  try simp only [Act.put, List.setIfInBounds_toArray, List.set_cons_succ, List.set_cons_zero]
  refine takeL (.int .i64 0) rfl (by go_simp) ?_
  try simp only [Act.put, List.setIfInBounds_toArray, List.set_cons_succ, List.set_cons_zero]
  refine takeL (.slice none 0 0) rfl (by go_simp) ?_
  try simp only [Act.put, List.setIfInBounds_toArray, List.set_cons_succ, List.set_cons_zero]
  refine takeL (.bool false) rfl (by go_simp) ?_
  try simp only [Act.put, List.setIfInBounds_toArray, List.set_cons_succ, List.set_cons_zero]
  refine wpList_nil ?_
  go_upto_region 4 with fail
  refine wp_region_lit ?_
  try simp only [List.append_eq, List.cons_append, List.nil_append]
  refine load23 (cs := (u8s a).toArray) (Blk.all F21.out rfl) (by rw [u8s_size, HA.out]) rfl rfl ?_
  try simp only [Act.put, List.setIfInBounds_toArray, List.set_cons_succ, List.set_cons_zero]
  refine load23 (cs := (u8s b).toArray) (Blk.all F22.out rfl) (by rw [u8s_size, HB.out]) rfl rfl ?_
  try simp only [Act.put, List.setIfInBounds_toArray, List.set_cons_succ, List.set_cons_zero]
  refine wpList_op rfl fun K hK => ?_
  go_simp
  refine (rdiff_no a b HPA.out HPB.out o e HS.out hh _).mono ?_
  rintro e w24 ⟨rfl, hb⟩
  have F25 := Lib.hid (F19.out.trans (hb.mono F19.out.size))
  have F26 := Lib.hid (F20.out.below (Nat.le_refl _) hb)
  have F27 := Lib.hid (F21.out.below hb F21.out.lt)
  have F28 := Lib.hid (F22.out.below hb F22.out.lt)
  have F29 := Lib.hid (F23.out.below hb F23.out.lt)
  clear F19 F20 F21 F22 F23
  clear hb
  refine hK _ _ ?_
  clear hK K
  try simp only [Act.put, List.setIfInBounds_toArray, List.set_cons_succ, List.set_cons_zero]
  refine alloc_g zero31 rfl ?_
  intro w30 hA hb hl
  try simp only [Act.put, List.setIfInBounds_toArray, List.set_cons_succ, List.set_cons_zero]
  clear hl
  refine store_all (cs := #[.int .i64 0, .slice none 0 0, .bool false]) hA (rfl) info31 (by simp [Value.oneCell']) rfl rfl rfl ?_
  intro w31 hD hO hlD
  try simp only [Act.put, List.setIfInBounds_toArray, List.set_cons_succ, List.set_cons_zero]
  clear hlD hA
  have hbb : Below w24.heap.size w24 w31 := hb.trans (hO.below hb.size fun k hk => Nat.le_of_eq hk.symm)
  clear hb hO
  have F32 := Lib.hid (F25.out.trans (hbb.mono F25.out.size))
  have F33 := Lib.hid (F26.out.below (Nat.le_refl _) hbb)
  have F34 := Lib.hid (F27.out.below hbb F27.out.lt)
  have F35 := Lib.hid (F28.out.below hbb F28.out.lt)
  have F36 := Lib.hid (F29.out.below hbb F29.out.lt)
  clear F25 F26 F27 F28 F29
  have F37 : Hid (Blk w31 w24.heap.size [.int .i64 0, .slice none 0 0, .bool false]) := Lib.hid hD
  clear hD hbb w30
  generalize w24.heap.size = g38 at *
  clear w24
  refine wpList_nil ?_
  go_upto_region 5 with fail
  go_cut [11, 12] from 11 to 39 (fun s11 s12 wx => ∃ g : Nat, s11 = .pointer (some ⟨g, 0, none⟩) ∧ s12 = .int .i64 1 ∧ Blk wx g (u8s (zeros 32)) ∧ Below w31.heap.size w31 wx)
  case first =>
    refine startH (fun wq => Below w31.heap.size w31 wq) (by kernel_rfl) ?_
    have HS0 : Hid (Below w31.heap.size w31 w31.drew) := Lib.hid (Below.refl _ _).drew
    generalize w31.drew = wz at *
    refine takeH 0 (some 30) (.agg (u8s a).toArray) rfl rfl (by kernel_rfl) (by kernel_rfl) (by kernel_rfl) (fun _ _ _ h => h) rfl (fun wq hS => by exact exec_load_at wq _ _ 23 _ rfl w.heap.size 0 rfl ((u8s a).toArray) _ Tryd.underlying23 rfl (by rw [u8s_size, HA.out]; exact info23) (Blk.all (F34.out.below hS F34.out.lt) rfl)) HS0.out ?_
    try simp only [Act.put, List.setIfInBounds_toArray, List.set_cons_succ, List.set_cons_zero]
    refine takeH 1 (some 31) (.pointer (some ⟨g17, 0, none⟩)) rfl rfl (by kernel_rfl) (by kernel_rfl) (by kernel_rfl) (fun _ _ _ h => h) rfl (fun wq hS => by go_simp) HS0.out ?_
    try simp only [Act.put, List.setIfInBounds_toArray, List.set_cons_succ, List.set_cons_zero]
    refine takeH 2 (some 32) (.int .i64 ox) rfl rfl (by kernel_rfl) (by kernel_rfl) (by kernel_rfl) (fun _ _ _ h => h) rfl (fun wq hS => by have hq := (F36.out.below hS F36.out.lt).cell (i := 0) (v := .int .i64 ox) rfl; go_simp) HS0.out ?_
    try simp only [Act.put, List.setIfInBounds_toArray, List.set_cons_succ, List.set_cons_zero]
    refine takeH 4 (some 34) (.pointer (some ⟨g17, 1, none⟩)) rfl rfl (by kernel_rfl) (by kernel_rfl) (by kernel_rfl) (fun _ _ _ h => h) rfl (fun wq hS => by go_simp) HS0.out ?_
    try simp only [Act.put, List.setIfInBounds_toArray, List.set_cons_succ, List.set_cons_zero]
    refine takeH 5 (some 35) (sx) rfl rfl (by kernel_rfl) (by kernel_rfl) (by kernel_rfl) (fun _ _ _ h => h) rfl (fun wq hS => by have hq := (F36.out.below hS F36.out.lt).cell (i := 1) (v := sx) rfl; go_simp) HS0.out ?_
    try simp only [Act.put, List.setIfInBounds_toArray, List.set_cons_succ, List.set_cons_zero]
    refine twoH 3 11 (by kernel_rfl) rfl rfl rfl rfl (fun K hK => ?_) (fun K hK => ?_)
    · refine wp_runTo (some 33) rfl (.slice (some ⟨wz.heap.size, 0, none⟩) 0 0) (wz.alloc (.cells #[] 5)) (by go_simp) ?_
      have hb : Below wz.heap.size wz (wz.alloc (.cells #[] 5)) := (Below.refl _ _).alloc (Nat.le_refl _) _
      have hO := Own.lit wz w31.heap.size HS0.out.size [] (by simp) #[] rfl
      have hlt : wz.heap.size < (wz.alloc (.cells #[] 5)).heap.size := by simp
      generalize wz.alloc (.cells #[] 5) = wn1 at *
      have HSn1 := Lib.hid (stay HS0.out hb)
      have HOWN1 := Lib.hid hO
      have HCC : Hid (w31.heap.size ≤ wz.heap.size) := Lib.hid HS0.out.size
      have HCL : Hid (wz.heap.size < wn1.heap.size) := Lib.hid hlt
      refine hK _ _ HSn1.out ?_
      clear hK K hb hO hlt
      try simp only [Act.put, List.setIfInBounds_toArray, List.set_cons_succ, List.set_cons_zero]
      generalize wz.heap.size = cB at *
      refine twoH 6 11 (by kernel_rfl) rfl rfl rfl rfl (fun K hK => ?_) (fun K hK => ?_)
      · refine app_G (.tmp 33) (.tmp 35) (some 36) rfl rfl HOWN1.out HSn1.out.size ((HBX.out.below F32.out).below HSn1.out) (by rw [HN.out]; simp; omega) rfl rfl fun sv' wn2 hO hg => ?_
        rw [List.nil_append] at hO
        have HCP2 := Lib.hid hO.bytes
        have HSn2 := Lib.hid (HSn1.out.trans (grown_below hg HSn1.out.size fun k hk => by
          have e : k = cB := (Option.some.inj hk).symm
          rw [e]
          exact HCC.out))
        refine hK _ _ HSn2.out ?_
        clear hK K hO hg
        try simp only [Act.put, List.setIfInBounds_toArray, List.set_cons_succ, List.set_cons_zero]
        refine twoH 7 11 (by kernel_rfl) rfl rfl rfl rfl (fun K hK => ?_) (fun K hK => ?_)
        · go_simp
          refine (apply_no a x HA.out ox _ (by rw [HN.out]; omega) HF.out _ HCP2.out (F33.out.below (Nat.le_refl _) HSn2.out)).mono ?_
          rintro e wn3 ⟨rfl, hb⟩
          have HSn3 := Lib.hid (stay HSn2.out hb)
          refine hK _ _ HSn3.out ?_
          clear hK K hb
          try simp only [Act.put, List.setIfInBounds_toArray, List.set_cons_succ, List.set_cons_zero]
          refine takeH 8 (some 29) (.tuple #[.agg (u8s (zeros 32)).toArray, .int .i64 1]) rfl rfl (by kernel_rfl) (by kernel_rfl) (by kernel_rfl) (fun _ _ _ h => h) rfl (fun wq hS => by go_simp) HSn3.out ?_
          try simp only [Act.put, List.setIfInBounds_toArray, List.set_cons_succ, List.set_cons_zero]
          refine takeH 9 (some 38) (.agg (u8s (zeros 32)).toArray) rfl rfl (by kernel_rfl) (by kernel_rfl) (by kernel_rfl) (fun _ _ _ h => h) rfl (fun wq hS => by go_simp) HSn3.out ?_
          try simp only [Act.put, List.setIfInBounds_toArray, List.set_cons_succ, List.set_cons_zero]
          refine takeH 10 (some 39) (.int .i64 1) rfl rfl (by kernel_rfl) (by kernel_rfl) (by kernel_rfl) (fun _ _ _ h => h) rfl (fun wq hS => by go_simp) HSn3.out ?_
          try simp only [Act.put, List.setIfInBounds_toArray, List.set_cons_succ, List.set_cons_zero]
          refine oneH 11 (by kernel_rfl) rfl rfl fun K hK => ?_
          refine wp_runTo (some 11) rfl _ _ (exec_alloc _ _ _ 23 rfl _ zero23) ?_
          have hb : Below wn3.heap.size wn3 (wn3.alloc (.cells (u8s (zeros 32)).toArray 23)) := (Below.refl _ _).alloc (Nat.le_refl _) _
          have hn : Blk (wn3.alloc (.cells (u8s (zeros 32)).toArray 23)) wn3.heap.size (u8s (zeros 32)) := Blk.newAt 23 _ _ rfl rfl
          generalize wn3.alloc (.cells (u8s (zeros 32)).toArray 23) = wn4 at *
          have HSn4 := Lib.hid (stay HSn3.out hb)
          have HV := Lib.hid hn
          have HGE : Hid (w31.heap.size ≤ wn3.heap.size) := Lib.hid HSn3.out.size
          refine hK _ _ HSn4.out ?_
          clear hK K hb hn
          try simp only [Act.put, List.setIfInBounds_toArray, List.set_cons_succ, List.set_cons_zero]
          generalize wn3.heap.size = gV at *
          refine oneH 12 (by kernel_rfl) rfl rfl fun K hK => ?_
          refine store_W none rfl rfl HV.out (by simp only [u8s_size, List.size_toArray, List.length_append, List.length_singleton, List.length_map, HZ32.out]) (by rw [u8s_size, HZ32.out]; exact info23) (u8s_one _) rfl rfl fun wy hD hO => ?_
          have HSy := Lib.hid (HSn4.out.trans (hO.below HSn4.out.size fun k hk => by rw [hk]; exact HGE.out))
          refine hK _ _ HSy.out ?_
          clear hK K
          try simp only [Act.put, List.setIfInBounds_toArray, List.set_cons_succ, List.set_cons_zero]
          refine takeH 13 (some 12) (.int .i64 1) rfl rfl (by kernel_rfl) (by kernel_rfl) (by kernel_rfl) (fun _ _ _ h => h) rfl (fun wq hS => by go_simp) HSy.out ?_
          try simp only [Act.put, List.setIfInBounds_toArray, List.set_cons_succ, List.set_cons_zero]
          refine wpAnyH_done (by kernel_rfl) ?_ _
          go_wp2_with fail
          go_meet
          exact ⟨gV, rfl, rfl, hD, HSy.out⟩
        · refine wp_runTo (some 11) rfl _ _ (exec_alloc _ _ _ 23 rfl _ zero23) ?_
          have hb : Below wn2.heap.size wn2 (wn2.alloc (.cells (u8s (zeros 32)).toArray 23)) := (Below.refl _ _).alloc (Nat.le_refl _) _
          have hn : Blk (wn2.alloc (.cells (u8s (zeros 32)).toArray 23)) wn2.heap.size (u8s (zeros 32)) := Blk.newAt 23 _ _ rfl rfl
          generalize wn2.alloc (.cells (u8s (zeros 32)).toArray 23) = wn3 at *
          have HSn3 := Lib.hid (stay HSn2.out hb)
          have HV := Lib.hid hn
          have HGE : Hid (w31.heap.size ≤ wn2.heap.size) := Lib.hid HSn2.out.size
          have HCP3 := Lib.hid (HCP2.out.below hb)
          refine hK _ _ HSn3.out ?_
          clear hK K hb hn
          try simp only [Act.put, List.setIfInBounds_toArray, List.set_cons_succ, List.set_cons_zero]
          generalize wn2.heap.size = gV at *
          refine oneH 7 (by kernel_rfl) rfl rfl fun K hK => ?_
          go_simp
          refine (apply_no a x HA.out ox _ (by rw [HN.out]; omega) HF.out _ HCP3.out (F33.out.below (Nat.le_refl _) HSn3.out)).mono ?_
          rintro e wn4 ⟨rfl, hb⟩
          have HSn4 := Lib.hid (stay HSn3.out hb)
          have HV4 := Lib.hid (HV.out.below hb HV.out.lt)
          refine hK _ _ HSn4.out ?_
          clear hK K hb
          try simp only [Act.put, List.setIfInBounds_toArray, List.set_cons_succ, List.set_cons_zero]
          refine takeH 8 (some 29) (.tuple #[.agg (u8s (zeros 32)).toArray, .int .i64 1]) rfl rfl (by kernel_rfl) (by kernel_rfl) (by kernel_rfl) (fun _ _ _ h => h) rfl (fun wq hS => by go_simp) HSn4.out ?_
          try simp only [Act.put, List.setIfInBounds_toArray, List.set_cons_succ, List.set_cons_zero]
          refine takeH 9 (some 38) (.agg (u8s (zeros 32)).toArray) rfl rfl (by kernel_rfl) (by kernel_rfl) (by kernel_rfl) (fun _ _ _ h => h) rfl (fun wq hS => by go_simp) HSn4.out ?_
          try simp only [Act.put, List.setIfInBounds_toArray, List.set_cons_succ, List.set_cons_zero]
          refine takeH 10 (some 39) (.int .i64 1) rfl rfl (by kernel_rfl) (by kernel_rfl) (by kernel_rfl) (fun _ _ _ h => h) rfl (fun wq hS => by go_simp) HSn4.out ?_
          try simp only [Act.put, List.setIfInBounds_toArray, List.set_cons_succ, List.set_cons_zero]
          refine oneH 12 (by kernel_rfl) rfl rfl fun K hK => ?_
          refine store_W none rfl rfl HV4.out (by simp only [u8s_size, List.size_toArray, List.length_append, List.length_singleton, List.length_map, HZ32.out]) (by rw [u8s_size, HZ32.out]; exact info23) (u8s_one _) rfl rfl fun wy hD hO => ?_
          have HSy := Lib.hid (HSn4.out.trans (hO.below HSn4.out.size fun k hk => by rw [hk]; exact HGE.out))
          refine hK _ _ HSy.out ?_
          clear hK K
          try simp only [Act.put, List.setIfInBounds_toArray, List.set_cons_succ, List.set_cons_zero]
          refine takeH 13 (some 12) (.int .i64 1) rfl rfl (by kernel_rfl) (by kernel_rfl) (by kernel_rfl) (fun _ _ _ h => h) rfl (fun wq hS => by go_simp) HSy.out ?_
          try simp only [Act.put, List.setIfInBounds_toArray, List.set_cons_succ, List.set_cons_zero]
          refine wpAnyH_done (by kernel_rfl) ?_ _
          go_wp2_with fail
          go_meet
          exact ⟨gV, rfl, rfl, hD, HSy.out⟩
      · refine wp_runTo (some 11) rfl _ _ (exec_alloc _ _ _ 23 rfl _ zero23) ?_
        have hb : Below wn1.heap.size wn1 (wn1.alloc (.cells (u8s (zeros 32)).toArray 23)) := (Below.refl _ _).alloc (Nat.le_refl _) _
        have hn : Blk (wn1.alloc (.cells (u8s (zeros 32)).toArray 23)) wn1.heap.size (u8s (zeros 32)) := Blk.newAt 23 _ _ rfl rfl
        generalize wn1.alloc (.cells (u8s (zeros 32)).toArray 23) = wn2 at *
        have HSn2 := Lib.hid (stay HSn1.out hb)
        have HV := Lib.hid hn
        have HGE : Hid (w31.heap.size ≤ wn1.heap.size) := Lib.hid HSn1.out.size
        have HOWN2 := Lib.hid (HOWN1.out.below hb)
        have HCG : Hid (cB ≠ wn1.heap.size) := Lib.hid (by have := HCL.out; omega)
        refine hK _ _ HSn2.out ?_
        clear hK K hb hn
        try simp only [Act.put, List.setIfInBounds_toArray, List.set_cons_succ, List.set_cons_zero]
        generalize wn1.heap.size = gV at *
        refine oneH 6 (by kernel_rfl) rfl rfl fun K hK => ?_
        refine app_G (.tmp 33) (.tmp 35) (some 36) rfl rfl HOWN2.out HSn2.out.size ((HBX.out.below F32.out).below HSn2.out) (by rw [HN.out]; simp; omega) rfl rfl fun sv' wn3 hO hg => ?_
        rw [List.nil_append] at hO
        have HCP3 := Lib.hid hO.bytes
        have HSn3 := Lib.hid (HSn2.out.trans (grown_below hg HSn2.out.size fun k hk => by
          have e : k = cB := (Option.some.inj hk).symm
          rw [e]
          exact HCC.out))
        have HV3 := Lib.hid (HV.out.grown hg (fun e => HCG.out (Option.some.inj e)))
        refine hK _ _ HSn3.out ?_
        clear hK K hO hg
        try simp only [Act.put, List.setIfInBounds_toArray, List.set_cons_succ, List.set_cons_zero]
        refine oneH 7 (by kernel_rfl) rfl rfl fun K hK => ?_
        go_simp
        refine (apply_no a x HA.out ox _ (by rw [HN.out]; omega) HF.out _ HCP3.out (F33.out.below (Nat.le_refl _) HSn3.out)).mono ?_
        rintro e wn4 ⟨rfl, hb⟩
        have HSn4 := Lib.hid (stay HSn3.out hb)
        have HV4 := Lib.hid (HV3.out.below hb HV3.out.lt)
        refine hK _ _ HSn4.out ?_
        clear hK K hb
        try simp only [Act.put, List.setIfInBounds_toArray, List.set_cons_succ, List.set_cons_zero]
        refine takeH 8 (some 29) (.tuple #[.agg (u8s (zeros 32)).toArray, .int .i64 1]) rfl rfl (by kernel_rfl) (by kernel_rfl) (by kernel_rfl) (fun _ _ _ h => h) rfl (fun wq hS => by go_simp) HSn4.out ?_
        try simp only [Act.put, List.setIfInBounds_toArray, List.set_cons_succ, List.set_cons_zero]
        refine takeH 9 (some 38) (.agg (u8s (zeros 32)).toArray) rfl rfl (by kernel_rfl) (by kernel_rfl) (by kernel_rfl) (fun _ _ _ h => h) rfl (fun wq hS => by go_simp) HSn4.out ?_
        try simp only [Act.put, List.setIfInBounds_toArray, List.set_cons_succ, List.set_cons_zero]
        refine takeH 10 (some 39) (.int .i64 1) rfl rfl (by kernel_rfl) (by kernel_rfl) (by kernel_rfl) (fun _ _ _ h => h) rfl (fun wq hS => by go_simp) HSn4.out ?_
        try simp only [Act.put, List.setIfInBounds_toArray, List.set_cons_succ, List.set_cons_zero]
        refine oneH 12 (by kernel_rfl) rfl rfl fun K hK => ?_
        refine store_W none rfl rfl HV4.out (by simp only [u8s_size, List.size_toArray, List.length_append, List.length_singleton, List.length_map, HZ32.out]) (by rw [u8s_size, HZ32.out]; exact info23) (u8s_one _) rfl rfl fun wy hD hO => ?_
        have HSy := Lib.hid (HSn4.out.trans (hO.below HSn4.out.size fun k hk => by rw [hk]; exact HGE.out))
        refine hK _ _ HSy.out ?_
        clear hK K
        try simp only [Act.put, List.setIfInBounds_toArray, List.set_cons_succ, List.set_cons_zero]
        refine takeH 13 (some 12) (.int .i64 1) rfl rfl (by kernel_rfl) (by kernel_rfl) (by kernel_rfl) (fun _ _ _ h => h) rfl (fun wq hS => by go_simp) HSy.out ?_
        try simp only [Act.put, List.setIfInBounds_toArray, List.set_cons_succ, List.set_cons_zero]
        refine wpAnyH_done (by kernel_rfl) ?_ _
        go_wp2_with fail
        go_meet
        exact ⟨gV, rfl, rfl, hD, HSy.out⟩
    · refine wp_runTo (some 11) rfl _ _ (exec_alloc _ _ _ 23 rfl _ zero23) ?_
      have hb : Below wz.heap.size wz (wz.alloc (.cells (u8s (zeros 32)).toArray 23)) := (Below.refl _ _).alloc (Nat.le_refl _) _
      have hn : Blk (wz.alloc (.cells (u8s (zeros 32)).toArray 23)) wz.heap.size (u8s (zeros 32)) := Blk.newAt 23 _ _ rfl rfl
      generalize wz.alloc (.cells (u8s (zeros 32)).toArray 23) = wn1 at *
      have HSn1 := Lib.hid (stay HS0.out hb)
      have HV := Lib.hid hn
      have HGE : Hid (w31.heap.size ≤ wz.heap.size) := Lib.hid HS0.out.size
      refine hK _ _ HSn1.out ?_
      clear hK K hb hn
      try simp only [Act.put, List.setIfInBounds_toArray, List.set_cons_succ, List.set_cons_zero]
      generalize wz.heap.size = gV at *
      refine oneH 3 (by kernel_rfl) rfl rfl fun K hK => ?_
      refine wp_runTo (some 33) rfl (.slice (some ⟨wn1.heap.size, 0, none⟩) 0 0) (wn1.alloc (.cells #[] 5)) (by go_simp) ?_
      have hb : Below wn1.heap.size wn1 (wn1.alloc (.cells #[] 5)) := (Below.refl _ _).alloc (Nat.le_refl _) _
      have hO := Own.lit wn1 w31.heap.size HSn1.out.size [] (by simp) #[] rfl
      have hlt : wn1.heap.size < (wn1.alloc (.cells #[] 5)).heap.size := by simp
      generalize wn1.alloc (.cells #[] 5) = wn2 at *
      have HSn2 := Lib.hid (stay HSn1.out hb)
      have HOWN2 := Lib.hid hO
      have HCC : Hid (w31.heap.size ≤ wn1.heap.size) := Lib.hid HSn1.out.size
      have HV2 := Lib.hid (HV.out.below hb HV.out.lt)
      have HCG : Hid (wn1.heap.size ≠ gV) := Lib.hid (Nat.ne_of_gt HV.out.lt)
      have HCL : Hid (wn1.heap.size < wn2.heap.size) := Lib.hid hlt
      refine hK _ _ HSn2.out ?_
      clear hK K hb hO hlt
      try simp only [Act.put, List.setIfInBounds_toArray, List.set_cons_succ, List.set_cons_zero]
      generalize wn1.heap.size = cB at *
      refine oneH 6 (by kernel_rfl) rfl rfl fun K hK => ?_
      refine app_G (.tmp 33) (.tmp 35) (some 36) rfl rfl HOWN2.out HSn2.out.size ((HBX.out.below F32.out).below HSn2.out) (by rw [HN.out]; simp; omega) rfl rfl fun sv' wn3 hO hg => ?_
      rw [List.nil_append] at hO
      have HCP3 := Lib.hid hO.bytes
      have HSn3 := Lib.hid (HSn2.out.trans (grown_below hg HSn2.out.size fun k hk => by
        have e : k = cB := (Option.some.inj hk).symm
        rw [e]
        exact HCC.out))
      have HV3 := Lib.hid (HV2.out.grown hg (fun e => HCG.out (Option.some.inj e)))
      refine hK _ _ HSn3.out ?_
      clear hK K hO hg
      try simp only [Act.put, List.setIfInBounds_toArray, List.set_cons_succ, List.set_cons_zero]
      refine oneH 7 (by kernel_rfl) rfl rfl fun K hK => ?_
      go_simp
      refine (apply_no a x HA.out ox _ (by rw [HN.out]; omega) HF.out _ HCP3.out (F33.out.below (Nat.le_refl _) HSn3.out)).mono ?_
      rintro e wn4 ⟨rfl, hb⟩
      have HSn4 := Lib.hid (stay HSn3.out hb)
      have HV4 := Lib.hid (HV3.out.below hb HV3.out.lt)
      refine hK _ _ HSn4.out ?_
      clear hK K hb
      try simp only [Act.put, List.setIfInBounds_toArray, List.set_cons_succ, List.set_cons_zero]
      refine takeH 8 (some 29) (.tuple #[.agg (u8s (zeros 32)).toArray, .int .i64 1]) rfl rfl (by kernel_rfl) (by kernel_rfl) (by kernel_rfl) (fun _ _ _ h => h) rfl (fun wq hS => by go_simp) HSn4.out ?_
      try simp only [Act.put, List.setIfInBounds_toArray, List.set_cons_succ, List.set_cons_zero]
      refine takeH 9 (some 38) (.agg (u8s (zeros 32)).toArray) rfl rfl (by kernel_rfl) (by kernel_rfl) (by kernel_rfl) (fun _ _ _ h => h) rfl (fun wq hS => by go_simp) HSn4.out ?_
      try simp only [Act.put, List.setIfInBounds_toArray, List.set_cons_succ, List.set_cons_zero]
      refine takeH 10 (some 39) (.int .i64 1) rfl rfl (by kernel_rfl) (by kernel_rfl) (by kernel_rfl) (fun _ _ _ h => h) rfl (fun wq hS => by go_simp) HSn4.out ?_
      try simp only [Act.put, List.setIfInBounds_toArray, List.set_cons_succ, List.set_cons_zero]
      refine oneH 12 (by kernel_rfl) rfl rfl fun K hK => ?_
      refine store_W none rfl rfl HV4.out (by simp only [u8s_size, List.size_toArray, List.length_append, List.length_singleton, List.length_map, HZ32.out]) (by rw [u8s_size, HZ32.out]; exact info23) (u8s_one _) rfl rfl fun wy hD hO => ?_
      have HSy := Lib.hid (HSn4.out.trans (hO.below HSn4.out.size fun k hk => by rw [hk]; exact HGE.out))
      refine hK _ _ HSy.out ?_
      clear hK K
      try simp only [Act.put, List.setIfInBounds_toArray, List.set_cons_succ, List.set_cons_zero]
      refine takeH 13 (some 12) (.int .i64 1) rfl rfl (by kernel_rfl) (by kernel_rfl) (by kernel_rfl) (fun _ _ _ h => h) rfl (fun wq hS => by go_simp) HSy.out ?_
      try simp only [Act.put, List.setIfInBounds_toArray, List.set_cons_succ, List.set_cons_zero]
      refine wpAnyH_done (by kernel_rfl) ?_ _
      go_wp2_with fail
      go_meet
      exact ⟨gV, rfl, rfl, hD, HSy.out⟩
  case rest =>
    obtain ⟨g5, rfl, rfl, hD, hb⟩ := hcut

    have F140 := Lib.hid (F32.out.trans (hb.mono F32.out.size))
    have F141 := Lib.hid (F33.out.below (Nat.le_refl _) hb)
    have F142 := Lib.hid (F34.out.below hb F34.out.lt)
    have F143 := Lib.hid (F35.out.below hb F35.out.lt)
    have F144 := Lib.hid (F36.out.below hb F36.out.lt)
    have F145 := Lib.hid (F37.out.below hb F37.out.lt)
    clear F32 F33 F34 F35 F36 F37
    have FP : Hid (Blk wc g5 (u8s (zeros 32))) := Lib.hid hD
    clear hD hb
    go_upto_region 6 with fail
    refine wp_region_lit ?_
    try simp only [List.append_eq, List.cons_append, List.nil_append]
    refine load23 (cs := (u8s a).toArray) (Blk.all F142.out rfl) (by rw [u8s_size, HA.out]) rfl rfl ?_
    try simp only [Act.put, List.setIfInBounds_toArray, List.set_cons_succ, List.set_cons_zero]
    refine takeL (.pointer (some ⟨g17, 0, none⟩)) rfl (by go_simp) ?_
    try simp only [Act.put, List.setIfInBounds_toArray, List.set_cons_succ, List.set_cons_zero]
    refine takeL (.int .i64 ox) rfl (by have hq := F144.out.cell (i := 0) (v := .int .i64 ox) rfl; go_simp) ?_
    try simp only [Act.put, List.setIfInBounds_toArray, List.set_cons_succ, List.set_cons_zero]
    refine takeL (.pointer (some ⟨g17, 1, none⟩)) rfl (by go_simp) ?_
    try simp only [Act.put, List.setIfInBounds_toArray, List.set_cons_succ, List.set_cons_zero]
    refine takeL (sx) rfl (by have hq := F144.out.cell (i := 1) (v := sx) rfl; go_simp) ?_
    try simp only [Act.put, List.setIfInBounds_toArray, List.set_cons_succ, List.set_cons_zero]
    refine wpList_op rfl fun K hK => ?_
    go_simp
    refine (rapply_no a x HA.out ox sx (by rw [HN.out]; omega) HF.out _ (HBX.out.below F140.out)).mono ?_
    rintro e w146 ⟨rfl, hb⟩
    have F147 := Lib.hid (F140.out.trans (hb.mono F140.out.size))
    have F148 := Lib.hid (F141.out.below (Nat.le_refl _) hb)
    have F149 := Lib.hid (F142.out.below hb F142.out.lt)
    have F150 := Lib.hid (F143.out.below hb F143.out.lt)
    have F151 := Lib.hid (F144.out.below hb F144.out.lt)
    have F152 := Lib.hid (F145.out.below hb F145.out.lt)
    have F153 := Lib.hid (FP.out.below hb FP.out.lt)
    clear F140 F141 F142 F143 F144 F145 FP
    clear hb
    refine hK _ _ ?_
    clear hK K
    try simp only [Act.put, List.setIfInBounds_toArray, List.set_cons_succ, List.set_cons_zero]
    refine alloc_g zero37 rfl ?_
    intro w154 hA hb hl
    try simp only [Act.put, List.setIfInBounds_toArray, List.set_cons_succ, List.set_cons_zero]
    clear hl
    refine store_all (cs := (u8s (zeros 32) ++ [Value.bool false]).toArray) hA (by simp only [u8s_size, List.size_toArray, List.length_append, List.length_singleton, List.length_map, HZ32.out]) (by rw [got_size HZ32.out]; exact info37) (got_one _ _) rfl rfl rfl ?_
    intro w155 hD hO hlD
    try simp only [Act.put, List.setIfInBounds_toArray, List.set_cons_succ, List.set_cons_zero]
    clear hlD hA
    have hbb : Below w146.heap.size w146 w155 := hb.trans (hO.below hb.size fun k hk => Nat.le_of_eq hk.symm)
    clear hb hO
    have F156 := Lib.hid (F147.out.trans (hbb.mono F147.out.size))
    have F157 := Lib.hid (F148.out.below (Nat.le_refl _) hbb)
    have F158 := Lib.hid (F149.out.below hbb F149.out.lt)
    have F159 := Lib.hid (F150.out.below hbb F150.out.lt)
    have F160 := Lib.hid (F151.out.below hbb F151.out.lt)
    have F161 := Lib.hid (F152.out.below hbb F152.out.lt)
    have F162 := Lib.hid (F153.out.below hbb F153.out.lt)
    clear F147 F148 F149 F150 F151 F152 F153
    have F163 : Hid (Blk w155 w146.heap.size (u8s (zeros 32) ++ [Value.bool false])) := Lib.hid hD
    clear hD hbb w154
    generalize w146.heap.size = g164 at *
    clear w146
    refine wpList_nil ?_
    go_upto_region 7 with fail
    refine wp_region_lit ?_
    try simp only [List.append_eq, List.cons_append, List.nil_append]
    refine takeL (.int .i64 0) rfl (by go_simp) ?_
    try simp only [Act.put, List.setIfInBounds_toArray, List.set_cons_succ, List.set_cons_zero]
    refine takeL (.pointer (some ⟨g38, 0, none⟩)) rfl (by go_simp) ?_
    try simp only [Act.put, List.setIfInBounds_toArray, List.set_cons_succ, List.set_cons_zero]
    refine takeL (.int .i64 0) rfl (by have hq := F161.out.cell (i := 0) (v := .int .i64 0) rfl; go_simp) ?_
    try simp only [Act.put, List.setIfInBounds_toArray, List.set_cons_succ, List.set_cons_zero]
    refine takeL (.bool true) rfl (by go_simp) ?_
    try simp only [Act.put, List.setIfInBounds_toArray, List.set_cons_succ, List.set_cons_zero]
    refine takeL (.bool true) rfl (by go_simp) ?_
    try simp only [Act.put, List.setIfInBounds_toArray, List.set_cons_succ, List.set_cons_zero]
    refine takeL (.slice none 0 0) rfl (by go_simp) ?_
    try simp only [Act.put, List.setIfInBounds_toArray, List.set_cons_succ, List.set_cons_zero]
    refine takeL (.pointer (some ⟨g38, 1, none⟩)) rfl (by go_simp) ?_
    try simp only [Act.put, List.setIfInBounds_toArray, List.set_cons_succ, List.set_cons_zero]
    refine takeL (.slice none 0 0) rfl (by have hq := F161.out.cell (i := 1) (v := .slice none 0 0) rfl; go_simp) ?_
    try simp only [Act.put, List.setIfInBounds_toArray, List.set_cons_succ, List.set_cons_zero]
    refine wpList_op rfl fun K hK => ?_
    go_simp
    refine (bytes_eq (BytesAt.nil _ _ _) (BytesAt.nil _ _ _) (fun _ h => by cases h)).mono ?_
    rintro e w165 ⟨rfl, rfl⟩
    refine hK _ _ ?_
    clear hK K
    try simp only [Act.put, List.setIfInBounds_toArray, List.set_cons_succ, List.set_cons_zero]
    refine takeL (.bool true) rfl (by go_simp) ?_
    try simp only [Act.put, List.setIfInBounds_toArray, List.set_cons_succ, List.set_cons_zero]
    refine takeL (.bool true) rfl (by go_simp) ?_
    try simp only [Act.put, List.setIfInBounds_toArray, List.set_cons_succ, List.set_cons_zero]
    refine takeL (.bool false) rfl (by go_simp) ?_
    try simp only [Act.put, List.setIfInBounds_toArray, List.set_cons_succ, List.set_cons_zero]
    refine takeL (.pointer (some ⟨g38, 2, none⟩)) rfl (by go_simp) ?_
    try simp only [Act.put, List.setIfInBounds_toArray, List.set_cons_succ, List.set_cons_zero]
    refine takeL (.bool false) rfl (by have hq := F161.out.cell (i := 2) (v := .bool false) rfl; go_simp) ?_
    try simp only [Act.put, List.setIfInBounds_toArray, List.set_cons_succ, List.set_cons_zero]
    refine takeL (.bool true) rfl (by go_simp) ?_
    try simp only [Act.put, List.setIfInBounds_toArray, List.set_cons_succ, List.set_cons_zero]
    refine takeL (.bool true) rfl (by go_simp) ?_
    try simp only [Act.put, List.setIfInBounds_toArray, List.set_cons_succ, List.set_cons_zero]
    refine takeL (.bool true) rfl (by go_simp) ?_
    try simp only [Act.put, List.setIfInBounds_toArray, List.set_cons_succ, List.set_cons_zero]
    refine load23 (cs := (u8s (zeros 32)).toArray) (Blk.all F162.out rfl) (by rw [u8s_size, HZ32.out]) rfl rfl ?_
    try simp only [Act.put, List.setIfInBounds_toArray, List.set_cons_succ, List.set_cons_zero]
    refine takeL (.pointer (some ⟨g164, 0, none⟩)) rfl (by go_simp) ?_
    try simp only [Act.put, List.setIfInBounds_toArray, List.set_cons_succ, List.set_cons_zero]
    refine load23 (cs := (u8s (zeros 32)).toArray) (got_at F163.out) (by rw [u8s_size, HZ32.out]) rfl rfl ?_
    try simp only [Act.put, List.setIfInBounds_toArray, List.set_cons_succ, List.set_cons_zero]
    refine takeL (.bool true) rfl (by exact exec_page (decide_eq_true rfl) HZ32.out HZ32.out _ _ _ rfl rfl rfl) ?_
    try simp only [Act.put, List.setIfInBounds_toArray, List.set_cons_succ, List.set_cons_zero]
    refine takeL (.bool true) rfl (by go_simp) ?_
    try simp only [Act.put, List.setIfInBounds_toArray, List.set_cons_succ, List.set_cons_zero]
    refine takeL (.bool true) rfl (by go_simp) ?_
    try simp only [Act.put, List.setIfInBounds_toArray, List.set_cons_succ, List.set_cons_zero]
    refine takeL (.int .i64 1) rfl (by go_simp) ?_
    try simp only [Act.put, List.setIfInBounds_toArray, List.set_cons_succ, List.set_cons_zero]
    refine takeL (.bool false) rfl (by go_simp) ?_
    try simp only [Act.put, List.setIfInBounds_toArray, List.set_cons_succ, List.set_cons_zero]
    refine takeL (.pointer (some ⟨g164, 32, none⟩)) rfl (by go_simp) ?_
    try simp only [Act.put, List.setIfInBounds_toArray, List.set_cons_succ, List.set_cons_zero]
    refine takeL (.bool false) rfl (by have hq := F163.out.cell (i := 32) (v := .bool false) (got_ok HZ32.out); go_simp) ?_
    try simp only [Act.put, List.setIfInBounds_toArray, List.set_cons_succ, List.set_cons_zero]
    refine takeL (.bool true) rfl (by go_simp) ?_
    try simp only [Act.put, List.setIfInBounds_toArray, List.set_cons_succ, List.set_cons_zero]
    refine takeL (.bool true) rfl (by go_simp) ?_
    try simp only [Act.put, List.setIfInBounds_toArray, List.set_cons_succ, List.set_cons_zero]
    refine takeL (.bool true) rfl (by go_simp) ?_
    try simp only [Act.put, List.setIfInBounds_toArray, List.set_cons_succ, List.set_cons_zero]
    refine takeL (.int .i64 1) rfl (by go_simp) ?_
    try simp only [Act.put, List.setIfInBounds_toArray, List.set_cons_succ, List.set_cons_zero]
    refine takeL (.bool false) rfl (by go_simp) ?_
    try simp only [Act.put, List.setIfInBounds_toArray, List.set_cons_succ, List.set_cons_zero]
    refine takeL (.bool false) rfl (by go_simp) ?_
    try simp only [Act.put, List.setIfInBounds_toArray, List.set_cons_succ, List.set_cons_zero]
    refine takeL (.int .i64 1) rfl (by go_simp) ?_
    try simp only [Act.put, List.setIfInBounds_toArray, List.set_cons_succ, List.set_cons_zero]
    refine takeL (.bool true) rfl (by go_simp) ?_
    try simp only [Act.put, List.setIfInBounds_toArray, List.set_cons_succ, List.set_cons_zero]
    refine takeL (.bool true) rfl (by go_simp) ?_
    try simp only [Act.put, List.setIfInBounds_toArray, List.set_cons_succ, List.set_cons_zero]
    refine takeL (.bool true) rfl (by go_simp) ?_
    try simp only [Act.put, List.setIfInBounds_toArray, List.set_cons_succ, List.set_cons_zero]
    refine takeL (.bool true) rfl (by go_simp) ?_
    try simp only [Act.put, List.setIfInBounds_toArray, List.set_cons_succ, List.set_cons_zero]
    refine wpList_op rfl fun K hK => ?_
    go_simp
    refine (wakes_any _ F157.out).mono ?_
    rintro e w166 ⟨rfl, hb⟩
    have F167 := Lib.hid (F156.out.trans (hb.mono F156.out.size))
    have F168 := Lib.hid (F157.out.below (Nat.le_refl _) hb)
    have F169 := Lib.hid (F158.out.below hb F158.out.lt)
    have F170 := Lib.hid (F159.out.below hb F159.out.lt)
    have F171 := Lib.hid (F160.out.below hb F160.out.lt)
    have F172 := Lib.hid (F161.out.below hb F161.out.lt)
    have F173 := Lib.hid (F162.out.below hb F162.out.lt)
    have F174 := Lib.hid (F163.out.below hb F163.out.lt)
    clear F156 F157 F158 F159 F160 F161 F162 F163
    clear hb
    refine hK _ _ ?_
    clear hK K
    try simp only [Act.put, List.setIfInBounds_toArray, List.set_cons_succ, List.set_cons_zero]
    refine takeL (.bool true) rfl (by go_simp) ?_
    try simp only [Act.put, List.setIfInBounds_toArray, List.set_cons_succ, List.set_cons_zero]
    refine takeL (.bool true) rfl (by go_simp) ?_
    try simp only [Act.put, List.setIfInBounds_toArray, List.set_cons_succ, List.set_cons_zero]
    refine wpList_nil ?_
    go_wp2_with fail
    go_ret
    exact ⟨rfl, F167.out⟩
set_option maxRecDepth 100000 in
set_option maxHeartbeats 1000000 in
theorem tells_none_fit (a b : List Int) (ha : Pg a) (hb : Pg b) (d : Nat) (sx : Value) (x : List Int) (hyx : ∀ z ∈ x, Byte z) (n : Nat) (hn : x.length = n) (h : n ≤ 300) (o e : Nat) (hs : Span a b o e) (hh : o = e ∨ 16 < e - o) (hf : Fits d x) (w : World) (hbx : BytesAt w sx x) (hev : ErrVar w) : Calls Tryd.prog 3 #[.agg (u8s a).toArray, .agg (u8s b).toArray, .agg #[.int .i64 d, sx]] w fun e w' => e = .returned (.bool true) ∧ Below w.heap.size w w' := by
  have HZ32 := Lib.hid (zeros_length 32)
  have HA := Lib.hid ha.length
  have HB := Lib.hid hb.length
  have HPA := Lib.hid ha
  have HPB := Lib.hid hb
  have HBX := Lib.hid hbx
  obtain ⟨ax, cx, he, -⟩ := hbx
  have HEX : Hid (sx = .slice ax n cx) := Lib.hid (hn ▸ he)
  have HN := Lib.hid hn
  clear he hn
  have HBL : Hid (Below w.heap.size w w) := Lib.hid (Below.refl _ _)
  have HEV := Lib.hid hev
  clear hev ha hb
  have HS := Lib.hid hs
  clear hs
  have HF := Lib.hid hf
  obtain ⟨p1, hp1⟩ : ∃ p, layI a d x = p := ⟨_, rfl⟩
  have H1 : Hid (p1.length = 32) := Lib.hid (hp1 ▸ lay_size HA.out d hf)
  have HP1 := Lib.hid hp1
  clear hf hp1
  go_enter Tryd.func3, Tryd.ntmps3
  go_upto_region 0 with fail
  refine wp_region_lit ?_
  refine box_g (cs := (u8s a).toArray) rfl rfl ?_
  intro w1 hA hb hl
  try simp only [Act.put, List.setIfInBounds_toArray, List.set_cons_succ, List.set_cons_zero]
  clear hl
  have F2 := Lib.hid (HBL.out.trans (hb.mono HBL.out.size))
  have F3 := Lib.hid (HEV.out.below (Nat.le_refl _) hb)
  clear HBL HEV
  have F4 : Hid (Blk w1 w.heap.size (u8s a)) := Lib.hid hA
  clear hA hb
  refine box_g (cs := (u8s b).toArray) rfl rfl ?_
  intro w5 hA hb hl
  try simp only [Act.put, List.setIfInBounds_toArray, List.set_cons_succ, List.set_cons_zero]
  clear hl
  have F6 := Lib.hid (F2.out.trans (hb.mono F2.out.size))
  have F7 := Lib.hid (F3.out.below (Nat.le_refl _) hb)
  have F8 := Lib.hid (F4.out.below hb F4.out.lt)
  clear F2 F3 F4
  have F9 : Hid (Blk w5 w1.heap.size (u8s b)) := Lib.hid hA
  clear hA hb
  generalize w1.heap.size = g10 at *
  clear w1
  refine box_g (cs := #[.int .i64 d, sx]) rfl rfl ?_
  intro w11 hA hb hl
  try simp only [Act.put, List.setIfInBounds_toArray, List.set_cons_succ, List.set_cons_zero]
  clear hl
  have F12 := Lib.hid (F6.out.trans (hb.mono F6.out.size))
  have F13 := Lib.hid (F7.out.below (Nat.le_refl _) hb)
  have F14 := Lib.hid (F8.out.below hb F8.out.lt)
  have F15 := Lib.hid (F9.out.below hb F9.out.lt)
  clear F6 F7 F8 F9
  have F16 : Hid (Blk w11 w5.heap.size [.int .i64 d, sx]) := Lib.hid hA
  clear hA hb
  generalize w5.heap.size = g17 at *
  clear w5
  refine takeL (.bool false) rfl (by go_simp) ?_
  try simp only [Act.put, List.setIfInBounds_toArray, List.set_cons_succ, List.set_cons_zero]
  refine wpList_nil ?_
  go_upto_region 1 with fail
  refine wp_region_lit ?_
  try simp only [List.append_eq, List.cons_append, List.nil_append]
  refine takeL (.pointer (some ⟨g17, 1, none⟩)) rfl (by go_simp) ?_
  try simp only [Act.put, List.setIfInBounds_toArray, List.set_cons_succ, List.set_cons_zero]
  refine takeL (sx) rfl (by have hq := F16.out.cell (i := 1) (v := sx) rfl; go_simp) ?_
  try simp only [Act.put, List.setIfInBounds_toArray, List.set_cons_succ, List.set_cons_zero]
  refine takeL (.int .i64 n) rfl (by have hq := HEX.out; rw [hq]; go_simp) ?_
  try simp only [Act.put, List.setIfInBounds_toArray, List.set_cons_succ, List.set_cons_zero]
  refine takeL (.bool false) rfl (by go_simp <;> omega) ?_
  try simp only [Act.put, List.setIfInBounds_toArray, List.set_cons_succ, List.set_cons_zero]
  refine wpList_nil ?_
  go_upto_region 3 with fail
  refine wp_region_lit ?_
  try simp only [List.append_eq, List.cons_append, List.nil_append]
  refine load23 (cs := (u8s a).toArray) (Blk.all F14.out rfl) (by rw [u8s_size, HA.out]) rfl rfl ?_
  try simp only [Act.put, List.setIfInBounds_toArray, List.set_cons_succ, List.set_cons_zero]
  refine load23 (cs := (u8s b).toArray) (Blk.all F15.out rfl) (by rw [u8s_size, HB.out]) rfl rfl ?_
  try simp only [Act.put, List.setIfInBounds_toArray, List.set_cons_succ, List.set_cons_zero]
  refine wpList_op rfl fun K hK => ?_
  go_simp
  refine (diff_no a b HPA.out HPB.out o e HS.out hh _).mono ?_
  rintro e w18 ⟨rfl, hb⟩
  have F19 := Lib.hid (F12.out.trans (hb.mono F12.out.size))
  have F20 := Lib.hid (F13.out.below (Nat.le_refl _) hb)
  have F21 := Lib.hid (F14.out.below hb F14.out.lt)
  have F22 := Lib.hid (F15.out.below hb F15.out.lt)
  have F23 := Lib.hid (F16.out.below hb F16.out.lt)
  clear F12 F13 F14 F15 F16
  clear hb
  refine hK _ _ ?_
  clear hK K
  try simp only [Act.put, List.setIfInBounds_toArray, List.set_cons_succ, List.set_cons_zero]
  refine takeL (.tuple #[.int .i64 0, .slice none 0 0, .bool false]) rfl (by go_simp) ?_
  try simp only [Act.put, List.setIfInBounds_toArray, List.set_cons_succ, List.set_cons_zero]
  refine takeL (.int .i64 0) rfl (by go_simp) ?_
  try simp only [Act.put, List.setIfInBounds_toArray, List.set_cons_succ, List.set_cons_zero]
  refine takeL (.slice none 0 0) rfl (by go_simp) ?_
  try simp only [Act.put, List.setIfInBounds_toArray, List.set_cons_succ, List.set_cons_zero]
  refine takeL (.bool false) rfl (by go_simp) ?_
  try simp only [Act.put, List.setIfInBounds_toArray, List.set_cons_succ, List.set_cons_zero]
  refine takeL (.int .i64 0) rfl (by go_simp) ?_
  try simp only [Act.put, List.setIfInBounds_toArray, List.set_cons_succ, List.set_cons_zero]
  refine takeL (.slice none 0 0) rfl (by go_simp) ?_
  try simp only [Act.put, List.setIfInBounds_toArray, List.set_cons_succ, List.set_cons_zero]
  refine takeL (.bool false) rfl (by go_simp) ?_
  try simp only [Act.put, List.setIfInBounds_toArray, List.set_cons_succ, List.set_cons_zero]
  refine wpList_nil ?_
  go_upto_region 4 with fail
  refine wp_region_lit ?_
  try simp only [List.append_eq, List.cons_append, List.nil_append]
  refine load23 (cs := (u8s a).toArray) (Blk.all F21.out rfl) (by rw [u8s_size, HA.out]) rfl rfl ?_
  try simp only [Act.put, List.setIfInBounds_toArray, List.set_cons_succ, List.set_cons_zero]
  refine load23 (cs := (u8s b).toArray) (Blk.all F22.out rfl) (by rw [u8s_size, HB.out]) rfl rfl ?_
  try simp only [Act.put, List.setIfInBounds_toArray, List.set_cons_succ, List.set_cons_zero]
  refine wpList_op rfl fun K hK => ?_
  go_simp
  refine (rdiff_no a b HPA.out HPB.out o e HS.out hh _).mono ?_
  rintro e w24 ⟨rfl, hb⟩
  have F25 := Lib.hid (F19.out.trans (hb.mono F19.out.size))
  have F26 := Lib.hid (F20.out.below (Nat.le_refl _) hb)
  have F27 := Lib.hid (F21.out.below hb F21.out.lt)
  have F28 := Lib.hid (F22.out.below hb F22.out.lt)
  have F29 := Lib.hid (F23.out.below hb F23.out.lt)
  clear F19 F20 F21 F22 F23
  clear hb
  refine hK _ _ ?_
  clear hK K
  try simp only [Act.put, List.setIfInBounds_toArray, List.set_cons_succ, List.set_cons_zero]
  refine alloc_g zero31 rfl ?_
  intro w30 hA hb hl
  try simp only [Act.put, List.setIfInBounds_toArray, List.set_cons_succ, List.set_cons_zero]
  clear hl
  refine store_all (cs := #[.int .i64 0, .slice none 0 0, .bool false]) hA (rfl) info31 (by simp [Value.oneCell']) rfl rfl rfl ?_
  intro w31 hD hO hlD
  try simp only [Act.put, List.setIfInBounds_toArray, List.set_cons_succ, List.set_cons_zero]
  clear hlD hA
  have hbb : Below w24.heap.size w24 w31 := hb.trans (hO.below hb.size fun k hk => Nat.le_of_eq hk.symm)
  clear hb hO
  have F32 := Lib.hid (F25.out.trans (hbb.mono F25.out.size))
  have F33 := Lib.hid (F26.out.below (Nat.le_refl _) hbb)
  have F34 := Lib.hid (F27.out.below hbb F27.out.lt)
  have F35 := Lib.hid (F28.out.below hbb F28.out.lt)
  have F36 := Lib.hid (F29.out.below hbb F29.out.lt)
  clear F25 F26 F27 F28 F29
  have F37 : Hid (Blk w31 w24.heap.size [.int .i64 0, .slice none 0 0, .bool false]) := Lib.hid hD
  clear hD hbb w30
  generalize w24.heap.size = g38 at *
  clear w24
  refine wpList_nil ?_
  go_upto_region 5 with fail
  go_cut [11, 12] from 11 to 39 (fun s11 s12 wx => ∃ g : Nat, s11 = .pointer (some ⟨g, 0, none⟩) ∧ s12 = .int .i64 0 ∧ Blk wx g (u8s p1) ∧ Below w31.heap.size w31 wx)
  case first =>
    refine startH (fun wq => Below w31.heap.size w31 wq) (by kernel_rfl) ?_
    have HS0 : Hid (Below w31.heap.size w31 w31.drew) := Lib.hid (Below.refl _ _).drew
    generalize w31.drew = wz at *
    refine takeH 0 (some 30) (.agg (u8s a).toArray) rfl rfl (by kernel_rfl) (by kernel_rfl) (by kernel_rfl) (fun _ _ _ h => h) rfl (fun wq hS => by exact exec_load_at wq _ _ 23 _ rfl w.heap.size 0 rfl ((u8s a).toArray) _ Tryd.underlying23 rfl (by rw [u8s_size, HA.out]; exact info23) (Blk.all (F34.out.below hS F34.out.lt) rfl)) HS0.out ?_
    try simp only [Act.put, List.setIfInBounds_toArray, List.set_cons_succ, List.set_cons_zero]
    refine takeH 1 (some 31) (.pointer (some ⟨g17, 0, none⟩)) rfl rfl (by kernel_rfl) (by kernel_rfl) (by kernel_rfl) (fun _ _ _ h => h) rfl (fun wq hS => by go_simp) HS0.out ?_
    try simp only [Act.put, List.setIfInBounds_toArray, List.set_cons_succ, List.set_cons_zero]
    refine takeH 2 (some 32) (.int .i64 d) rfl rfl (by kernel_rfl) (by kernel_rfl) (by kernel_rfl) (fun _ _ _ h => h) rfl (fun wq hS => by have hq := (F36.out.below hS F36.out.lt).cell (i := 0) (v := .int .i64 d) rfl; go_simp) HS0.out ?_
    try simp only [Act.put, List.setIfInBounds_toArray, List.set_cons_succ, List.set_cons_zero]
    refine takeH 4 (some 34) (.pointer (some ⟨g17, 1, none⟩)) rfl rfl (by kernel_rfl) (by kernel_rfl) (by kernel_rfl) (fun _ _ _ h => h) rfl (fun wq hS => by go_simp) HS0.out ?_
    try simp only [Act.put, List.setIfInBounds_toArray, List.set_cons_succ, List.set_cons_zero]
    refine takeH 5 (some 35) (sx) rfl rfl (by kernel_rfl) (by kernel_rfl) (by kernel_rfl) (fun _ _ _ h => h) rfl (fun wq hS => by have hq := (F36.out.below hS F36.out.lt).cell (i := 1) (v := sx) rfl; go_simp) HS0.out ?_
    try simp only [Act.put, List.setIfInBounds_toArray, List.set_cons_succ, List.set_cons_zero]
    refine twoH 3 11 (by kernel_rfl) rfl rfl rfl rfl (fun K hK => ?_) (fun K hK => ?_)
    · refine wp_runTo (some 33) rfl (.slice (some ⟨wz.heap.size, 0, none⟩) 0 0) (wz.alloc (.cells #[] 5)) (by go_simp) ?_
      have hb : Below wz.heap.size wz (wz.alloc (.cells #[] 5)) := (Below.refl _ _).alloc (Nat.le_refl _) _
      have hO := Own.lit wz w31.heap.size HS0.out.size [] (by simp) #[] rfl
      have hlt : wz.heap.size < (wz.alloc (.cells #[] 5)).heap.size := by simp
      generalize wz.alloc (.cells #[] 5) = wn1 at *
      have HSn1 := Lib.hid (stay HS0.out hb)
      have HOWN1 := Lib.hid hO
      have HCC : Hid (w31.heap.size ≤ wz.heap.size) := Lib.hid HS0.out.size
      have HCL : Hid (wz.heap.size < wn1.heap.size) := Lib.hid hlt
      refine hK _ _ HSn1.out ?_
      clear hK K hb hO hlt
      try simp only [Act.put, List.setIfInBounds_toArray, List.set_cons_succ, List.set_cons_zero]
      generalize wz.heap.size = cB at *
      refine twoH 6 11 (by kernel_rfl) rfl rfl rfl rfl (fun K hK => ?_) (fun K hK => ?_)
      · refine app_G (.tmp 33) (.tmp 35) (some 36) rfl rfl HOWN1.out HSn1.out.size ((HBX.out.below F32.out).below HSn1.out) (by rw [HN.out]; simp; omega) rfl rfl fun sv' wn2 hO hg => ?_
        rw [List.nil_append] at hO
        have HCP2 := Lib.hid hO.bytes
        have HSn2 := Lib.hid (HSn1.out.trans (grown_below hg HSn1.out.size fun k hk => by
          have e : k = cB := (Option.some.inj hk).symm
          rw [e]
          exact HCC.out))
        refine hK _ _ HSn2.out ?_
        clear hK K hO hg
        try simp only [Act.put, List.setIfInBounds_toArray, List.set_cons_succ, List.set_cons_zero]
        refine twoH 7 11 (by kernel_rfl) rfl rfl rfl rfl (fun K hK => ?_) (fun K hK => ?_)
        · go_simp
          refine (HP1.out ▸ apply_yes a x HA.out d _ (by rw [HN.out]; omega) HF.out _ HCP2.out (F33.out.below (Nat.le_refl _) HSn2.out)).mono ?_
          rintro e wn3 ⟨rfl, hb⟩
          have HSn3 := Lib.hid (stay HSn2.out hb)
          refine hK _ _ HSn3.out ?_
          clear hK K hb
          try simp only [Act.put, List.setIfInBounds_toArray, List.set_cons_succ, List.set_cons_zero]
          refine takeH 8 (some 29) (.tuple #[.agg (u8s p1).toArray, .int .i64 0]) rfl rfl (by kernel_rfl) (by kernel_rfl) (by kernel_rfl) (fun _ _ _ h => h) rfl (fun wq hS => by go_simp) HSn3.out ?_
          try simp only [Act.put, List.setIfInBounds_toArray, List.set_cons_succ, List.set_cons_zero]
          refine takeH 9 (some 38) (.agg (u8s p1).toArray) rfl rfl (by kernel_rfl) (by kernel_rfl) (by kernel_rfl) (fun _ _ _ h => h) rfl (fun wq hS => by go_simp) HSn3.out ?_
          try simp only [Act.put, List.setIfInBounds_toArray, List.set_cons_succ, List.set_cons_zero]
          refine takeH 10 (some 39) (.int .i64 0) rfl rfl (by kernel_rfl) (by kernel_rfl) (by kernel_rfl) (fun _ _ _ h => h) rfl (fun wq hS => by go_simp) HSn3.out ?_
          try simp only [Act.put, List.setIfInBounds_toArray, List.set_cons_succ, List.set_cons_zero]
          refine oneH 11 (by kernel_rfl) rfl rfl fun K hK => ?_
          refine wp_runTo (some 11) rfl _ _ (exec_alloc _ _ _ 23 rfl _ zero23) ?_
          have hb : Below wn3.heap.size wn3 (wn3.alloc (.cells (u8s (zeros 32)).toArray 23)) := (Below.refl _ _).alloc (Nat.le_refl _) _
          have hn : Blk (wn3.alloc (.cells (u8s (zeros 32)).toArray 23)) wn3.heap.size (u8s (zeros 32)) := Blk.newAt 23 _ _ rfl rfl
          generalize wn3.alloc (.cells (u8s (zeros 32)).toArray 23) = wn4 at *
          have HSn4 := Lib.hid (stay HSn3.out hb)
          have HV := Lib.hid hn
          have HGE : Hid (w31.heap.size ≤ wn3.heap.size) := Lib.hid HSn3.out.size
          refine hK _ _ HSn4.out ?_
          clear hK K hb hn
          try simp only [Act.put, List.setIfInBounds_toArray, List.set_cons_succ, List.set_cons_zero]
          generalize wn3.heap.size = gV at *
          refine oneH 12 (by kernel_rfl) rfl rfl fun K hK => ?_
          refine store_W none rfl rfl HV.out (by simp only [u8s_size, List.size_toArray, List.length_append, List.length_singleton, List.length_map, H1.out, HZ32.out]) (by rw [u8s_size, H1.out]; exact info23) (u8s_one _) rfl rfl fun wy hD hO => ?_
          have HSy := Lib.hid (HSn4.out.trans (hO.below HSn4.out.size fun k hk => by rw [hk]; exact HGE.out))
          refine hK _ _ HSy.out ?_
          clear hK K
          try simp only [Act.put, List.setIfInBounds_toArray, List.set_cons_succ, List.set_cons_zero]
          refine takeH 13 (some 12) (.int .i64 0) rfl rfl (by kernel_rfl) (by kernel_rfl) (by kernel_rfl) (fun _ _ _ h => h) rfl (fun wq hS => by go_simp) HSy.out ?_
          try simp only [Act.put, List.setIfInBounds_toArray, List.set_cons_succ, List.set_cons_zero]
          refine wpAnyH_done (by kernel_rfl) ?_ _
          go_wp2_with fail
          go_meet
          exact ⟨gV, rfl, rfl, hD, HSy.out⟩
        · refine wp_runTo (some 11) rfl _ _ (exec_alloc _ _ _ 23 rfl _ zero23) ?_
          have hb : Below wn2.heap.size wn2 (wn2.alloc (.cells (u8s (zeros 32)).toArray 23)) := (Below.refl _ _).alloc (Nat.le_refl _) _
          have hn : Blk (wn2.alloc (.cells (u8s (zeros 32)).toArray 23)) wn2.heap.size (u8s (zeros 32)) := Blk.newAt 23 _ _ rfl rfl
          generalize wn2.alloc (.cells (u8s (zeros 32)).toArray 23) = wn3 at *
          have HSn3 := Lib.hid (stay HSn2.out hb)
          have HV := Lib.hid hn
          have HGE : Hid (w31.heap.size ≤ wn2.heap.size) := Lib.hid HSn2.out.size
          have HCP3 := Lib.hid (HCP2.out.below hb)
          refine hK _ _ HSn3.out ?_
          clear hK K hb hn
          try simp only [Act.put, List.setIfInBounds_toArray, List.set_cons_succ, List.set_cons_zero]
          generalize wn2.heap.size = gV at *
          refine oneH 7 (by kernel_rfl) rfl rfl fun K hK => ?_
          go_simp
          refine (HP1.out ▸ apply_yes a x HA.out d _ (by rw [HN.out]; omega) HF.out _ HCP3.out (F33.out.below (Nat.le_refl _) HSn3.out)).mono ?_
          rintro e wn4 ⟨rfl, hb⟩
          have HSn4 := Lib.hid (stay HSn3.out hb)
          have HV4 := Lib.hid (HV.out.below hb HV.out.lt)
          refine hK _ _ HSn4.out ?_
          clear hK K hb
          try simp only [Act.put, List.setIfInBounds_toArray, List.set_cons_succ, List.set_cons_zero]
          refine takeH 8 (some 29) (.tuple #[.agg (u8s p1).toArray, .int .i64 0]) rfl rfl (by kernel_rfl) (by kernel_rfl) (by kernel_rfl) (fun _ _ _ h => h) rfl (fun wq hS => by go_simp) HSn4.out ?_
          try simp only [Act.put, List.setIfInBounds_toArray, List.set_cons_succ, List.set_cons_zero]
          refine takeH 9 (some 38) (.agg (u8s p1).toArray) rfl rfl (by kernel_rfl) (by kernel_rfl) (by kernel_rfl) (fun _ _ _ h => h) rfl (fun wq hS => by go_simp) HSn4.out ?_
          try simp only [Act.put, List.setIfInBounds_toArray, List.set_cons_succ, List.set_cons_zero]
          refine takeH 10 (some 39) (.int .i64 0) rfl rfl (by kernel_rfl) (by kernel_rfl) (by kernel_rfl) (fun _ _ _ h => h) rfl (fun wq hS => by go_simp) HSn4.out ?_
          try simp only [Act.put, List.setIfInBounds_toArray, List.set_cons_succ, List.set_cons_zero]
          refine oneH 12 (by kernel_rfl) rfl rfl fun K hK => ?_
          refine store_W none rfl rfl HV4.out (by simp only [u8s_size, List.size_toArray, List.length_append, List.length_singleton, List.length_map, H1.out, HZ32.out]) (by rw [u8s_size, H1.out]; exact info23) (u8s_one _) rfl rfl fun wy hD hO => ?_
          have HSy := Lib.hid (HSn4.out.trans (hO.below HSn4.out.size fun k hk => by rw [hk]; exact HGE.out))
          refine hK _ _ HSy.out ?_
          clear hK K
          try simp only [Act.put, List.setIfInBounds_toArray, List.set_cons_succ, List.set_cons_zero]
          refine takeH 13 (some 12) (.int .i64 0) rfl rfl (by kernel_rfl) (by kernel_rfl) (by kernel_rfl) (fun _ _ _ h => h) rfl (fun wq hS => by go_simp) HSy.out ?_
          try simp only [Act.put, List.setIfInBounds_toArray, List.set_cons_succ, List.set_cons_zero]
          refine wpAnyH_done (by kernel_rfl) ?_ _
          go_wp2_with fail
          go_meet
          exact ⟨gV, rfl, rfl, hD, HSy.out⟩
      · refine wp_runTo (some 11) rfl _ _ (exec_alloc _ _ _ 23 rfl _ zero23) ?_
        have hb : Below wn1.heap.size wn1 (wn1.alloc (.cells (u8s (zeros 32)).toArray 23)) := (Below.refl _ _).alloc (Nat.le_refl _) _
        have hn : Blk (wn1.alloc (.cells (u8s (zeros 32)).toArray 23)) wn1.heap.size (u8s (zeros 32)) := Blk.newAt 23 _ _ rfl rfl
        generalize wn1.alloc (.cells (u8s (zeros 32)).toArray 23) = wn2 at *
        have HSn2 := Lib.hid (stay HSn1.out hb)
        have HV := Lib.hid hn
        have HGE : Hid (w31.heap.size ≤ wn1.heap.size) := Lib.hid HSn1.out.size
        have HOWN2 := Lib.hid (HOWN1.out.below hb)
        have HCG : Hid (cB ≠ wn1.heap.size) := Lib.hid (by have := HCL.out; omega)
        refine hK _ _ HSn2.out ?_
        clear hK K hb hn
        try simp only [Act.put, List.setIfInBounds_toArray, List.set_cons_succ, List.set_cons_zero]
        generalize wn1.heap.size = gV at *
        refine oneH 6 (by kernel_rfl) rfl rfl fun K hK => ?_
        refine app_G (.tmp 33) (.tmp 35) (some 36) rfl rfl HOWN2.out HSn2.out.size ((HBX.out.below F32.out).below HSn2.out) (by rw [HN.out]; simp; omega) rfl rfl fun sv' wn3 hO hg => ?_
        rw [List.nil_append] at hO
        have HCP3 := Lib.hid hO.bytes
        have HSn3 := Lib.hid (HSn2.out.trans (grown_below hg HSn2.out.size fun k hk => by
          have e : k = cB := (Option.some.inj hk).symm
          rw [e]
          exact HCC.out))
        have HV3 := Lib.hid (HV.out.grown hg (fun e => HCG.out (Option.some.inj e)))
        refine hK _ _ HSn3.out ?_
        clear hK K hO hg
        try simp only [Act.put, List.setIfInBounds_toArray, List.set_cons_succ, List.set_cons_zero]
        refine oneH 7 (by kernel_rfl) rfl rfl fun K hK => ?_
        go_simp
        refine (HP1.out ▸ apply_yes a x HA.out d _ (by rw [HN.out]; omega) HF.out _ HCP3.out (F33.out.below (Nat.le_refl _) HSn3.out)).mono ?_
        rintro e wn4 ⟨rfl, hb⟩
        have HSn4 := Lib.hid (stay HSn3.out hb)
        have HV4 := Lib.hid (HV3.out.below hb HV3.out.lt)
        refine hK _ _ HSn4.out ?_
        clear hK K hb
        try simp only [Act.put, List.setIfInBounds_toArray, List.set_cons_succ, List.set_cons_zero]
        refine takeH 8 (some 29) (.tuple #[.agg (u8s p1).toArray, .int .i64 0]) rfl rfl (by kernel_rfl) (by kernel_rfl) (by kernel_rfl) (fun _ _ _ h => h) rfl (fun wq hS => by go_simp) HSn4.out ?_
        try simp only [Act.put, List.setIfInBounds_toArray, List.set_cons_succ, List.set_cons_zero]
        refine takeH 9 (some 38) (.agg (u8s p1).toArray) rfl rfl (by kernel_rfl) (by kernel_rfl) (by kernel_rfl) (fun _ _ _ h => h) rfl (fun wq hS => by go_simp) HSn4.out ?_
        try simp only [Act.put, List.setIfInBounds_toArray, List.set_cons_succ, List.set_cons_zero]
        refine takeH 10 (some 39) (.int .i64 0) rfl rfl (by kernel_rfl) (by kernel_rfl) (by kernel_rfl) (fun _ _ _ h => h) rfl (fun wq hS => by go_simp) HSn4.out ?_
        try simp only [Act.put, List.setIfInBounds_toArray, List.set_cons_succ, List.set_cons_zero]
        refine oneH 12 (by kernel_rfl) rfl rfl fun K hK => ?_
        refine store_W none rfl rfl HV4.out (by simp only [u8s_size, List.size_toArray, List.length_append, List.length_singleton, List.length_map, H1.out, HZ32.out]) (by rw [u8s_size, H1.out]; exact info23) (u8s_one _) rfl rfl fun wy hD hO => ?_
        have HSy := Lib.hid (HSn4.out.trans (hO.below HSn4.out.size fun k hk => by rw [hk]; exact HGE.out))
        refine hK _ _ HSy.out ?_
        clear hK K
        try simp only [Act.put, List.setIfInBounds_toArray, List.set_cons_succ, List.set_cons_zero]
        refine takeH 13 (some 12) (.int .i64 0) rfl rfl (by kernel_rfl) (by kernel_rfl) (by kernel_rfl) (fun _ _ _ h => h) rfl (fun wq hS => by go_simp) HSy.out ?_
        try simp only [Act.put, List.setIfInBounds_toArray, List.set_cons_succ, List.set_cons_zero]
        refine wpAnyH_done (by kernel_rfl) ?_ _
        go_wp2_with fail
        go_meet
        exact ⟨gV, rfl, rfl, hD, HSy.out⟩
    · refine wp_runTo (some 11) rfl _ _ (exec_alloc _ _ _ 23 rfl _ zero23) ?_
      have hb : Below wz.heap.size wz (wz.alloc (.cells (u8s (zeros 32)).toArray 23)) := (Below.refl _ _).alloc (Nat.le_refl _) _
      have hn : Blk (wz.alloc (.cells (u8s (zeros 32)).toArray 23)) wz.heap.size (u8s (zeros 32)) := Blk.newAt 23 _ _ rfl rfl
      generalize wz.alloc (.cells (u8s (zeros 32)).toArray 23) = wn1 at *
      have HSn1 := Lib.hid (stay HS0.out hb)
      have HV := Lib.hid hn
      have HGE : Hid (w31.heap.size ≤ wz.heap.size) := Lib.hid HS0.out.size
      refine hK _ _ HSn1.out ?_
      clear hK K hb hn
      try simp only [Act.put, List.setIfInBounds_toArray, List.set_cons_succ, List.set_cons_zero]
      generalize wz.heap.size = gV at *
      refine oneH 3 (by kernel_rfl) rfl rfl fun K hK => ?_
      refine wp_runTo (some 33) rfl (.slice (some ⟨wn1.heap.size, 0, none⟩) 0 0) (wn1.alloc (.cells #[] 5)) (by go_simp) ?_
      have hb : Below wn1.heap.size wn1 (wn1.alloc (.cells #[] 5)) := (Below.refl _ _).alloc (Nat.le_refl _) _
      have hO := Own.lit wn1 w31.heap.size HSn1.out.size [] (by simp) #[] rfl
      have hlt : wn1.heap.size < (wn1.alloc (.cells #[] 5)).heap.size := by simp
      generalize wn1.alloc (.cells #[] 5) = wn2 at *
      have HSn2 := Lib.hid (stay HSn1.out hb)
      have HOWN2 := Lib.hid hO
      have HCC : Hid (w31.heap.size ≤ wn1.heap.size) := Lib.hid HSn1.out.size
      have HV2 := Lib.hid (HV.out.below hb HV.out.lt)
      have HCG : Hid (wn1.heap.size ≠ gV) := Lib.hid (Nat.ne_of_gt HV.out.lt)
      have HCL : Hid (wn1.heap.size < wn2.heap.size) := Lib.hid hlt
      refine hK _ _ HSn2.out ?_
      clear hK K hb hO hlt
      try simp only [Act.put, List.setIfInBounds_toArray, List.set_cons_succ, List.set_cons_zero]
      generalize wn1.heap.size = cB at *
      refine oneH 6 (by kernel_rfl) rfl rfl fun K hK => ?_
      refine app_G (.tmp 33) (.tmp 35) (some 36) rfl rfl HOWN2.out HSn2.out.size ((HBX.out.below F32.out).below HSn2.out) (by rw [HN.out]; simp; omega) rfl rfl fun sv' wn3 hO hg => ?_
      rw [List.nil_append] at hO
      have HCP3 := Lib.hid hO.bytes
      have HSn3 := Lib.hid (HSn2.out.trans (grown_below hg HSn2.out.size fun k hk => by
        have e : k = cB := (Option.some.inj hk).symm
        rw [e]
        exact HCC.out))
      have HV3 := Lib.hid (HV2.out.grown hg (fun e => HCG.out (Option.some.inj e)))
      refine hK _ _ HSn3.out ?_
      clear hK K hO hg
      try simp only [Act.put, List.setIfInBounds_toArray, List.set_cons_succ, List.set_cons_zero]
      refine oneH 7 (by kernel_rfl) rfl rfl fun K hK => ?_
      go_simp
      refine (HP1.out ▸ apply_yes a x HA.out d _ (by rw [HN.out]; omega) HF.out _ HCP3.out (F33.out.below (Nat.le_refl _) HSn3.out)).mono ?_
      rintro e wn4 ⟨rfl, hb⟩
      have HSn4 := Lib.hid (stay HSn3.out hb)
      have HV4 := Lib.hid (HV3.out.below hb HV3.out.lt)
      refine hK _ _ HSn4.out ?_
      clear hK K hb
      try simp only [Act.put, List.setIfInBounds_toArray, List.set_cons_succ, List.set_cons_zero]
      refine takeH 8 (some 29) (.tuple #[.agg (u8s p1).toArray, .int .i64 0]) rfl rfl (by kernel_rfl) (by kernel_rfl) (by kernel_rfl) (fun _ _ _ h => h) rfl (fun wq hS => by go_simp) HSn4.out ?_
      try simp only [Act.put, List.setIfInBounds_toArray, List.set_cons_succ, List.set_cons_zero]
      refine takeH 9 (some 38) (.agg (u8s p1).toArray) rfl rfl (by kernel_rfl) (by kernel_rfl) (by kernel_rfl) (fun _ _ _ h => h) rfl (fun wq hS => by go_simp) HSn4.out ?_
      try simp only [Act.put, List.setIfInBounds_toArray, List.set_cons_succ, List.set_cons_zero]
      refine takeH 10 (some 39) (.int .i64 0) rfl rfl (by kernel_rfl) (by kernel_rfl) (by kernel_rfl) (fun _ _ _ h => h) rfl (fun wq hS => by go_simp) HSn4.out ?_
      try simp only [Act.put, List.setIfInBounds_toArray, List.set_cons_succ, List.set_cons_zero]
      refine oneH 12 (by kernel_rfl) rfl rfl fun K hK => ?_
      refine store_W none rfl rfl HV4.out (by simp only [u8s_size, List.size_toArray, List.length_append, List.length_singleton, List.length_map, H1.out, HZ32.out]) (by rw [u8s_size, H1.out]; exact info23) (u8s_one _) rfl rfl fun wy hD hO => ?_
      have HSy := Lib.hid (HSn4.out.trans (hO.below HSn4.out.size fun k hk => by rw [hk]; exact HGE.out))
      refine hK _ _ HSy.out ?_
      clear hK K
      try simp only [Act.put, List.setIfInBounds_toArray, List.set_cons_succ, List.set_cons_zero]
      refine takeH 13 (some 12) (.int .i64 0) rfl rfl (by kernel_rfl) (by kernel_rfl) (by kernel_rfl) (fun _ _ _ h => h) rfl (fun wq hS => by go_simp) HSy.out ?_
      try simp only [Act.put, List.setIfInBounds_toArray, List.set_cons_succ, List.set_cons_zero]
      refine wpAnyH_done (by kernel_rfl) ?_ _
      go_wp2_with fail
      go_meet
      exact ⟨gV, rfl, rfl, hD, HSy.out⟩
  case rest =>
    obtain ⟨g5, rfl, rfl, hD, hb⟩ := hcut

    have F140 := Lib.hid (F32.out.trans (hb.mono F32.out.size))
    have F141 := Lib.hid (F33.out.below (Nat.le_refl _) hb)
    have F142 := Lib.hid (F34.out.below hb F34.out.lt)
    have F143 := Lib.hid (F35.out.below hb F35.out.lt)
    have F144 := Lib.hid (F36.out.below hb F36.out.lt)
    have F145 := Lib.hid (F37.out.below hb F37.out.lt)
    clear F32 F33 F34 F35 F36 F37
    have FP : Hid (Blk wc g5 (u8s p1)) := Lib.hid hD
    clear hD hb
    go_upto_region 6 with fail
    refine wp_region_lit ?_
    try simp only [List.append_eq, List.cons_append, List.nil_append]
    refine load23 (cs := (u8s a).toArray) (Blk.all F142.out rfl) (by rw [u8s_size, HA.out]) rfl rfl ?_
    try simp only [Act.put, List.setIfInBounds_toArray, List.set_cons_succ, List.set_cons_zero]
    refine takeL (.pointer (some ⟨g17, 0, none⟩)) rfl (by go_simp) ?_
    try simp only [Act.put, List.setIfInBounds_toArray, List.set_cons_succ, List.set_cons_zero]
    refine takeL (.int .i64 d) rfl (by have hq := F144.out.cell (i := 0) (v := .int .i64 d) rfl; go_simp) ?_
    try simp only [Act.put, List.setIfInBounds_toArray, List.set_cons_succ, List.set_cons_zero]
    refine takeL (.pointer (some ⟨g17, 1, none⟩)) rfl (by go_simp) ?_
    try simp only [Act.put, List.setIfInBounds_toArray, List.set_cons_succ, List.set_cons_zero]
    refine takeL (sx) rfl (by have hq := F144.out.cell (i := 1) (v := sx) rfl; go_simp) ?_
    try simp only [Act.put, List.setIfInBounds_toArray, List.set_cons_succ, List.set_cons_zero]
    refine wpList_op rfl fun K hK => ?_
    go_simp
    refine (HP1.out ▸ rapply_yes a x HA.out d sx n HN.out (by omega) HF.out _ (HBX.out.below F140.out)).mono ?_
    rintro e w146 ⟨rfl, hb⟩
    have F147 := Lib.hid (F140.out.trans (hb.mono F140.out.size))
    have F148 := Lib.hid (F141.out.below (Nat.le_refl _) hb)
    have F149 := Lib.hid (F142.out.below hb F142.out.lt)
    have F150 := Lib.hid (F143.out.below hb F143.out.lt)
    have F151 := Lib.hid (F144.out.below hb F144.out.lt)
    have F152 := Lib.hid (F145.out.below hb F145.out.lt)
    have F153 := Lib.hid (FP.out.below hb FP.out.lt)
    clear F140 F141 F142 F143 F144 F145 FP
    clear hb
    refine hK _ _ ?_
    clear hK K
    try simp only [Act.put, List.setIfInBounds_toArray, List.set_cons_succ, List.set_cons_zero]
    refine alloc_g zero37 rfl ?_
    intro w154 hA hb hl
    try simp only [Act.put, List.setIfInBounds_toArray, List.set_cons_succ, List.set_cons_zero]
    clear hl
    refine store_all (cs := (u8s p1 ++ [Value.bool true]).toArray) hA (by simp only [u8s_size, List.size_toArray, List.length_append, List.length_singleton, List.length_map, H1.out, HZ32.out]) (by rw [got_size H1.out]; exact info37) (got_one _ _) rfl rfl rfl ?_
    intro w155 hD hO hlD
    try simp only [Act.put, List.setIfInBounds_toArray, List.set_cons_succ, List.set_cons_zero]
    clear hlD hA
    have hbb : Below w146.heap.size w146 w155 := hb.trans (hO.below hb.size fun k hk => Nat.le_of_eq hk.symm)
    clear hb hO
    have F156 := Lib.hid (F147.out.trans (hbb.mono F147.out.size))
    have F157 := Lib.hid (F148.out.below (Nat.le_refl _) hbb)
    have F158 := Lib.hid (F149.out.below hbb F149.out.lt)
    have F159 := Lib.hid (F150.out.below hbb F150.out.lt)
    have F160 := Lib.hid (F151.out.below hbb F151.out.lt)
    have F161 := Lib.hid (F152.out.below hbb F152.out.lt)
    have F162 := Lib.hid (F153.out.below hbb F153.out.lt)
    clear F147 F148 F149 F150 F151 F152 F153
    have F163 : Hid (Blk w155 w146.heap.size (u8s p1 ++ [Value.bool true])) := Lib.hid hD
    clear hD hbb w154
    generalize w146.heap.size = g164 at *
    clear w146
    refine wpList_nil ?_
    go_upto_region 7 with fail
    refine wp_region_lit ?_
    try simp only [List.append_eq, List.cons_append, List.nil_append]
    refine takeL (.int .i64 0) rfl (by go_simp) ?_
    try simp only [Act.put, List.setIfInBounds_toArray, List.set_cons_succ, List.set_cons_zero]
    refine takeL (.pointer (some ⟨g38, 0, none⟩)) rfl (by go_simp) ?_
    try simp only [Act.put, List.setIfInBounds_toArray, List.set_cons_succ, List.set_cons_zero]
    refine takeL (.int .i64 0) rfl (by have hq := F161.out.cell (i := 0) (v := .int .i64 0) rfl; go_simp) ?_
    try simp only [Act.put, List.setIfInBounds_toArray, List.set_cons_succ, List.set_cons_zero]
    refine takeL (.bool true) rfl (by go_simp) ?_
    try simp only [Act.put, List.setIfInBounds_toArray, List.set_cons_succ, List.set_cons_zero]
    refine takeL (.bool true) rfl (by go_simp) ?_
    try simp only [Act.put, List.setIfInBounds_toArray, List.set_cons_succ, List.set_cons_zero]
    refine takeL (.slice none 0 0) rfl (by go_simp) ?_
    try simp only [Act.put, List.setIfInBounds_toArray, List.set_cons_succ, List.set_cons_zero]
    refine takeL (.pointer (some ⟨g38, 1, none⟩)) rfl (by go_simp) ?_
    try simp only [Act.put, List.setIfInBounds_toArray, List.set_cons_succ, List.set_cons_zero]
    refine takeL (.slice none 0 0) rfl (by have hq := F161.out.cell (i := 1) (v := .slice none 0 0) rfl; go_simp) ?_
    try simp only [Act.put, List.setIfInBounds_toArray, List.set_cons_succ, List.set_cons_zero]
    refine wpList_op rfl fun K hK => ?_
    go_simp
    refine (bytes_eq (BytesAt.nil _ _ _) (BytesAt.nil _ _ _) (fun _ h => by cases h)).mono ?_
    rintro e w165 ⟨rfl, rfl⟩
    refine hK _ _ ?_
    clear hK K
    try simp only [Act.put, List.setIfInBounds_toArray, List.set_cons_succ, List.set_cons_zero]
    refine takeL (.bool true) rfl (by go_simp) ?_
    try simp only [Act.put, List.setIfInBounds_toArray, List.set_cons_succ, List.set_cons_zero]
    refine takeL (.bool true) rfl (by go_simp) ?_
    try simp only [Act.put, List.setIfInBounds_toArray, List.set_cons_succ, List.set_cons_zero]
    refine takeL (.bool false) rfl (by go_simp) ?_
    try simp only [Act.put, List.setIfInBounds_toArray, List.set_cons_succ, List.set_cons_zero]
    refine takeL (.pointer (some ⟨g38, 2, none⟩)) rfl (by go_simp) ?_
    try simp only [Act.put, List.setIfInBounds_toArray, List.set_cons_succ, List.set_cons_zero]
    refine takeL (.bool false) rfl (by have hq := F161.out.cell (i := 2) (v := .bool false) rfl; go_simp) ?_
    try simp only [Act.put, List.setIfInBounds_toArray, List.set_cons_succ, List.set_cons_zero]
    refine takeL (.bool true) rfl (by go_simp) ?_
    try simp only [Act.put, List.setIfInBounds_toArray, List.set_cons_succ, List.set_cons_zero]
    refine takeL (.bool true) rfl (by go_simp) ?_
    try simp only [Act.put, List.setIfInBounds_toArray, List.set_cons_succ, List.set_cons_zero]
    refine takeL (.bool true) rfl (by go_simp) ?_
    try simp only [Act.put, List.setIfInBounds_toArray, List.set_cons_succ, List.set_cons_zero]
    refine load23 (cs := (u8s p1).toArray) (Blk.all F162.out rfl) (by rw [u8s_size, H1.out]) rfl rfl ?_
    try simp only [Act.put, List.setIfInBounds_toArray, List.set_cons_succ, List.set_cons_zero]
    refine takeL (.pointer (some ⟨g164, 0, none⟩)) rfl (by go_simp) ?_
    try simp only [Act.put, List.setIfInBounds_toArray, List.set_cons_succ, List.set_cons_zero]
    refine load23 (cs := (u8s p1).toArray) (got_at F163.out) (by rw [u8s_size, H1.out]) rfl rfl ?_
    try simp only [Act.put, List.setIfInBounds_toArray, List.set_cons_succ, List.set_cons_zero]
    refine takeL (.bool true) rfl (by exact exec_page (decide_eq_true rfl) H1.out H1.out _ _ _ rfl rfl rfl) ?_
    try simp only [Act.put, List.setIfInBounds_toArray, List.set_cons_succ, List.set_cons_zero]
    refine takeL (.bool true) rfl (by go_simp) ?_
    try simp only [Act.put, List.setIfInBounds_toArray, List.set_cons_succ, List.set_cons_zero]
    refine takeL (.bool true) rfl (by go_simp) ?_
    try simp only [Act.put, List.setIfInBounds_toArray, List.set_cons_succ, List.set_cons_zero]
    refine takeL (.int .i64 0) rfl (by go_simp) ?_
    try simp only [Act.put, List.setIfInBounds_toArray, List.set_cons_succ, List.set_cons_zero]
    refine takeL (.bool true) rfl (by go_simp) ?_
    try simp only [Act.put, List.setIfInBounds_toArray, List.set_cons_succ, List.set_cons_zero]
    refine takeL (.pointer (some ⟨g164, 32, none⟩)) rfl (by go_simp) ?_
    try simp only [Act.put, List.setIfInBounds_toArray, List.set_cons_succ, List.set_cons_zero]
    refine takeL (.bool true) rfl (by have hq := F163.out.cell (i := 32) (v := .bool true) (got_ok H1.out); go_simp) ?_
    try simp only [Act.put, List.setIfInBounds_toArray, List.set_cons_succ, List.set_cons_zero]
    refine takeL (.bool true) rfl (by go_simp) ?_
    try simp only [Act.put, List.setIfInBounds_toArray, List.set_cons_succ, List.set_cons_zero]
    refine takeL (.bool true) rfl (by go_simp) ?_
    try simp only [Act.put, List.setIfInBounds_toArray, List.set_cons_succ, List.set_cons_zero]
    refine takeL (.bool true) rfl (by go_simp) ?_
    try simp only [Act.put, List.setIfInBounds_toArray, List.set_cons_succ, List.set_cons_zero]
    refine takeL (.int .i64 0) rfl (by go_simp) ?_
    try simp only [Act.put, List.setIfInBounds_toArray, List.set_cons_succ, List.set_cons_zero]
    refine takeL (.bool true) rfl (by go_simp) ?_
    try simp only [Act.put, List.setIfInBounds_toArray, List.set_cons_succ, List.set_cons_zero]
    refine takeL (.bool true) rfl (by go_simp) ?_
    try simp only [Act.put, List.setIfInBounds_toArray, List.set_cons_succ, List.set_cons_zero]
    refine passL rfl ?_
    try simp only [Act.put, List.setIfInBounds_toArray, List.set_cons_succ, List.set_cons_zero]
    refine passL rfl ?_
    try simp only [Act.put, List.setIfInBounds_toArray, List.set_cons_succ, List.set_cons_zero]
    refine takeL (.bool true) rfl (by go_simp) ?_
    try simp only [Act.put, List.setIfInBounds_toArray, List.set_cons_succ, List.set_cons_zero]
    refine takeL (.bool true) rfl (by go_simp) ?_
    try simp only [Act.put, List.setIfInBounds_toArray, List.set_cons_succ, List.set_cons_zero]
    refine takeL (.bool true) rfl (by go_simp) ?_
    try simp only [Act.put, List.setIfInBounds_toArray, List.set_cons_succ, List.set_cons_zero]
    refine wpList_op rfl fun K hK => ?_
    go_simp
    refine (wakes_any _ F157.out).mono ?_
    rintro e w166 ⟨rfl, hb⟩
    have F167 := Lib.hid (F156.out.trans (hb.mono F156.out.size))
    have F168 := Lib.hid (F157.out.below (Nat.le_refl _) hb)
    have F169 := Lib.hid (F158.out.below hb F158.out.lt)
    have F170 := Lib.hid (F159.out.below hb F159.out.lt)
    have F171 := Lib.hid (F160.out.below hb F160.out.lt)
    have F172 := Lib.hid (F161.out.below hb F161.out.lt)
    have F173 := Lib.hid (F162.out.below hb F162.out.lt)
    have F174 := Lib.hid (F163.out.below hb F163.out.lt)
    clear F156 F157 F158 F159 F160 F161 F162 F163
    clear hb
    refine hK _ _ ?_
    clear hK K
    try simp only [Act.put, List.setIfInBounds_toArray, List.set_cons_succ, List.set_cons_zero]
    refine takeL (.bool true) rfl (by go_simp) ?_
    try simp only [Act.put, List.setIfInBounds_toArray, List.set_cons_succ, List.set_cons_zero]
    refine takeL (.bool true) rfl (by go_simp) ?_
    try simp only [Act.put, List.setIfInBounds_toArray, List.set_cons_succ, List.set_cons_zero]
    refine wpList_nil ?_
    go_wp2_with fail
    go_ret
    exact ⟨rfl, F167.out⟩
set_option maxRecDepth 100000 in
set_option maxHeartbeats 1000000 in
theorem tells_told_out (a b : List Int) (ha : Pg a) (hb : Pg b) (ox : Int) (sx : Value) (x : List Int) (hyx : ∀ z ∈ x, Byte z) (n : Nat) (hn : x.length = n) (h : n ≤ 300) (o m : Nat) (hs : Span a b o (o + m + 1)) (hm : m < 16) (hf : ¬ Fits ox x) (w : World) (hbx : BytesAt w sx x) (hev : ErrVar w) : Calls Tryd.prog 3 #[.agg (u8s a).toArray, .agg (u8s b).toArray, .agg #[.int .i64 ox, sx]] w fun e w' => e = .returned (.bool true) ∧ Below w.heap.size w w' := by
  have HZ32 := Lib.hid (zeros_length 32)
  have HA := Lib.hid ha.length
  have HB := Lib.hid hb.length
  have HPA := Lib.hid ha
  have HPB := Lib.hid hb
  have HBX := Lib.hid hbx
  obtain ⟨ax, cx, he, -⟩ := hbx
  have HEX : Hid (sx = .slice ax n cx) := Lib.hid (hn ▸ he)
  have HN := Lib.hid hn
  clear he hn
  have HBL : Hid (Below w.heap.size w w) := Lib.hid (Below.refl _ _)
  have HEV := Lib.hid hev
  clear hev ha hb
  have HS := Lib.hid hs
  have HMB := Lib.hid (mid_byte HPB.out o (o + m + 1))
  clear hs
  have HF := Lib.hid hf
  clear hf
  go_enter Tryd.func3, Tryd.ntmps3
  go_upto_region 0 with fail
  refine wp_region_lit ?_
  refine box_g (cs := (u8s a).toArray) rfl rfl ?_
  intro w1 hA hb hl
  try simp only [Act.put, List.setIfInBounds_toArray, List.set_cons_succ, List.set_cons_zero]
  clear hl
  have F2 := Lib.hid (HBL.out.trans (hb.mono HBL.out.size))
  have F3 := Lib.hid (HEV.out.below (Nat.le_refl _) hb)
  clear HBL HEV
  have F4 : Hid (Blk w1 w.heap.size (u8s a)) := Lib.hid hA
  clear hA hb
  refine box_g (cs := (u8s b).toArray) rfl rfl ?_
  intro w5 hA hb hl
  try simp only [Act.put, List.setIfInBounds_toArray, List.set_cons_succ, List.set_cons_zero]
  clear hl
  have F6 := Lib.hid (F2.out.trans (hb.mono F2.out.size))
  have F7 := Lib.hid (F3.out.below (Nat.le_refl _) hb)
  have F8 := Lib.hid (F4.out.below hb F4.out.lt)
  clear F2 F3 F4
  have F9 : Hid (Blk w5 w1.heap.size (u8s b)) := Lib.hid hA
  clear hA hb
  generalize w1.heap.size = g10 at *
  clear w1
  refine box_g (cs := #[.int .i64 ox, sx]) rfl rfl ?_
  intro w11 hA hb hl
  try simp only [Act.put, List.setIfInBounds_toArray, List.set_cons_succ, List.set_cons_zero]
  clear hl
  have F12 := Lib.hid (F6.out.trans (hb.mono F6.out.size))
  have F13 := Lib.hid (F7.out.below (Nat.le_refl _) hb)
  have F14 := Lib.hid (F8.out.below hb F8.out.lt)
  have F15 := Lib.hid (F9.out.below hb F9.out.lt)
  clear F6 F7 F8 F9
  have F16 : Hid (Blk w11 w5.heap.size [.int .i64 ox, sx]) := Lib.hid hA
  clear hA hb
  generalize w5.heap.size = g17 at *
  clear w5
  refine takeL (.bool false) rfl (by go_simp) ?_
  try simp only [Act.put, List.setIfInBounds_toArray, List.set_cons_succ, List.set_cons_zero]
  refine wpList_nil ?_
  go_upto_region 1 with fail
  refine wp_region_lit ?_
  try simp only [List.append_eq, List.cons_append, List.nil_append]
  refine takeL (.pointer (some ⟨g17, 1, none⟩)) rfl (by go_simp) ?_
  try simp only [Act.put, List.setIfInBounds_toArray, List.set_cons_succ, List.set_cons_zero]
  refine takeL (sx) rfl (by have hq := F16.out.cell (i := 1) (v := sx) rfl; go_simp) ?_
  try simp only [Act.put, List.setIfInBounds_toArray, List.set_cons_succ, List.set_cons_zero]
  refine takeL (.int .i64 n) rfl (by have hq := HEX.out; rw [hq]; go_simp) ?_
  try simp only [Act.put, List.setIfInBounds_toArray, List.set_cons_succ, List.set_cons_zero]
  refine takeL (.bool false) rfl (by go_simp <;> omega) ?_
  try simp only [Act.put, List.setIfInBounds_toArray, List.set_cons_succ, List.set_cons_zero]
  refine wpList_nil ?_
  go_upto_region 3 with fail
  refine wp_region_lit ?_
  try simp only [List.append_eq, List.cons_append, List.nil_append]
  refine load23 (cs := (u8s a).toArray) (Blk.all F14.out rfl) (by rw [u8s_size, HA.out]) rfl rfl ?_
  try simp only [Act.put, List.setIfInBounds_toArray, List.set_cons_succ, List.set_cons_zero]
  refine load23 (cs := (u8s b).toArray) (Blk.all F15.out rfl) (by rw [u8s_size, HB.out]) rfl rfl ?_
  try simp only [Act.put, List.setIfInBounds_toArray, List.set_cons_succ, List.set_cons_zero]
  refine wpList_op rfl fun K hK => ?_
  go_simp
  refine (diff_got a b HPA.out HPB.out o m HS.out hm _).mono ?_
  rintro e w18 ⟨p, q, c, rfl, hc, hb⟩
  have F19 := Lib.hid (F12.out.trans (hb.mono F12.out.size))
  have F20 := Lib.hid (F13.out.below (Nat.le_refl _) hb)
  have F21 := Lib.hid (F14.out.below hb F14.out.lt)
  have F22 := Lib.hid (F15.out.below hb F15.out.lt)
  have F23 := Lib.hid (F16.out.below hb F16.out.lt)
  clear F12 F13 F14 F15 F16
  have F24 := Lib.hid hc
  clear hb hc
  refine hK _ _ ?_
  clear hK K
  try simp only [Act.put, List.setIfInBounds_toArray, List.set_cons_succ, List.set_cons_zero]
  refine takeL (.tuple #[.int .i64 o, .slice (some ⟨p, q, none⟩) (m + 1) c, .bool true]) rfl (by go_simp) ?_
  try simp only [Act.put, List.setIfInBounds_toArray, List.set_cons_succ, List.set_cons_zero]
  refine takeL (.int .i64 o) rfl (by go_simp) ?_
  try simp only [Act.put, List.setIfInBounds_toArray, List.set_cons_succ, List.set_cons_zero]
  refine takeL (.slice (some ⟨p, q, none⟩) (m + 1) c) rfl (by go_simp) ?_
  try simp only [Act.put, List.setIfInBounds_toArray, List.set_cons_succ, List.set_cons_zero]
  refine takeL (.bool true) rfl (by go_simp) ?_
  try simp only [Act.put, List.setIfInBounds_toArray, List.set_cons_succ, List.set_cons_zero]
  refine takeL (.int .i64 o) rfl (by go_simp) ?_
  try simp only [Act.put, List.setIfInBounds_toArray, List.set_cons_succ, List.set_cons_zero]
  refine takeL (.slice (some ⟨p, q, none⟩) (m + 1) c) rfl (by go_simp) ?_
  try simp only [Act.put, List.setIfInBounds_toArray, List.set_cons_succ, List.set_cons_zero]
  refine takeL (.bool true) rfl (by go_simp) ?_
  try simp only [Act.put, List.setIfInBounds_toArray, List.set_cons_succ, List.set_cons_zero]
  refine wpList_nil ?_
  go_upto_region 4 with fail
  refine wp_region_lit ?_
  try simp only [List.append_eq, List.cons_append, List.nil_append]
  refine load23 (cs := (u8s a).toArray) (Blk.all F21.out rfl) (by rw [u8s_size, HA.out]) rfl rfl ?_
  try simp only [Act.put, List.setIfInBounds_toArray, List.set_cons_succ, List.set_cons_zero]
  refine load23 (cs := (u8s b).toArray) (Blk.all F22.out rfl) (by rw [u8s_size, HB.out]) rfl rfl ?_
  try simp only [Act.put, List.setIfInBounds_toArray, List.set_cons_succ, List.set_cons_zero]
  refine wpList_op rfl fun K hK => ?_
  go_simp
  refine (rdiff_yes a b HPA.out HPB.out o m HS.out hm _).mono ?_
  rintro e w25 ⟨p2, q2, c2, rfl, hc, hb⟩
  have F26 := Lib.hid (F19.out.trans (hb.mono F19.out.size))
  have F27 := Lib.hid (F20.out.below (Nat.le_refl _) hb)
  have F28 := Lib.hid (F21.out.below hb F21.out.lt)
  have F29 := Lib.hid (F22.out.below hb F22.out.lt)
  have F30 := Lib.hid (F23.out.below hb F23.out.lt)
  have F31 := Lib.hid (F24.out.below hb)
  clear F19 F20 F21 F22 F23 F24
  have F32 := Lib.hid hc
  clear hb hc
  refine hK _ _ ?_
  clear hK K
  try simp only [Act.put, List.setIfInBounds_toArray, List.set_cons_succ, List.set_cons_zero]
  refine alloc_g zero31 rfl ?_
  intro w33 hA hb hl
  try simp only [Act.put, List.setIfInBounds_toArray, List.set_cons_succ, List.set_cons_zero]
  clear hl
  refine store_all (cs := #[.int .i64 o, .slice (some ⟨p2, q2, none⟩) (m + 1) c2, .bool true]) hA (rfl) info31 (by simp [Value.oneCell']) rfl rfl rfl ?_
  intro w34 hD hO hlD
  try simp only [Act.put, List.setIfInBounds_toArray, List.set_cons_succ, List.set_cons_zero]
  clear hlD hA
  have hbb : Below w25.heap.size w25 w34 := hb.trans (hO.below hb.size fun k hk => Nat.le_of_eq hk.symm)
  clear hb hO
  have F35 := Lib.hid (F26.out.trans (hbb.mono F26.out.size))
  have F36 := Lib.hid (F27.out.below (Nat.le_refl _) hbb)
  have F37 := Lib.hid (F28.out.below hbb F28.out.lt)
  have F38 := Lib.hid (F29.out.below hbb F29.out.lt)
  have F39 := Lib.hid (F30.out.below hbb F30.out.lt)
  have F40 := Lib.hid (F31.out.below hbb)
  have F41 := Lib.hid (F32.out.below hbb)
  clear F26 F27 F28 F29 F30 F31 F32
  have F42 : Hid (Blk w34 w25.heap.size [.int .i64 o, .slice (some ⟨p2, q2, none⟩) (m + 1) c2, .bool true]) := Lib.hid hD
  clear hD hbb w33
  generalize w25.heap.size = g43 at *
  clear w25
  refine wpList_nil ?_
  go_upto_region 5 with fail
  go_cut [11, 12] from 11 to 39 (fun s11 s12 wx => ∃ g : Nat, s11 = .pointer (some ⟨g, 0, none⟩) ∧ s12 = .int .i64 1 ∧ Blk wx g (u8s (zeros 32)) ∧ Below w34.heap.size w34 wx)
  case first =>
    refine startH (fun wq => Below w34.heap.size w34 wq) (by kernel_rfl) ?_
    have HS0 : Hid (Below w34.heap.size w34 w34.drew) := Lib.hid (Below.refl _ _).drew
    generalize w34.drew = wz at *
    refine takeH 0 (some 30) (.agg (u8s a).toArray) rfl rfl (by kernel_rfl) (by kernel_rfl) (by kernel_rfl) (fun _ _ _ h => h) rfl (fun wq hS => by exact exec_load_at wq _ _ 23 _ rfl w.heap.size 0 rfl ((u8s a).toArray) _ Tryd.underlying23 rfl (by rw [u8s_size, HA.out]; exact info23) (Blk.all (F37.out.below hS F37.out.lt) rfl)) HS0.out ?_
    try simp only [Act.put, List.setIfInBounds_toArray, List.set_cons_succ, List.set_cons_zero]
    refine takeH 1 (some 31) (.pointer (some ⟨g17, 0, none⟩)) rfl rfl (by kernel_rfl) (by kernel_rfl) (by kernel_rfl) (fun _ _ _ h => h) rfl (fun wq hS => by go_simp) HS0.out ?_
    try simp only [Act.put, List.setIfInBounds_toArray, List.set_cons_succ, List.set_cons_zero]
    refine takeH 2 (some 32) (.int .i64 ox) rfl rfl (by kernel_rfl) (by kernel_rfl) (by kernel_rfl) (fun _ _ _ h => h) rfl (fun wq hS => by have hq := (F39.out.below hS F39.out.lt).cell (i := 0) (v := .int .i64 ox) rfl; go_simp) HS0.out ?_
    try simp only [Act.put, List.setIfInBounds_toArray, List.set_cons_succ, List.set_cons_zero]
    refine takeH 4 (some 34) (.pointer (some ⟨g17, 1, none⟩)) rfl rfl (by kernel_rfl) (by kernel_rfl) (by kernel_rfl) (fun _ _ _ h => h) rfl (fun wq hS => by go_simp) HS0.out ?_
    try simp only [Act.put, List.setIfInBounds_toArray, List.set_cons_succ, List.set_cons_zero]
    refine takeH 5 (some 35) (sx) rfl rfl (by kernel_rfl) (by kernel_rfl) (by kernel_rfl) (fun _ _ _ h => h) rfl (fun wq hS => by have hq := (F39.out.below hS F39.out.lt).cell (i := 1) (v := sx) rfl; go_simp) HS0.out ?_
    try simp only [Act.put, List.setIfInBounds_toArray, List.set_cons_succ, List.set_cons_zero]
    refine twoH 3 11 (by kernel_rfl) rfl rfl rfl rfl (fun K hK => ?_) (fun K hK => ?_)
    · refine wp_runTo (some 33) rfl (.slice (some ⟨wz.heap.size, 0, none⟩) 0 0) (wz.alloc (.cells #[] 5)) (by go_simp) ?_
      have hb : Below wz.heap.size wz (wz.alloc (.cells #[] 5)) := (Below.refl _ _).alloc (Nat.le_refl _) _
      have hO := Own.lit wz w34.heap.size HS0.out.size [] (by simp) #[] rfl
      have hlt : wz.heap.size < (wz.alloc (.cells #[] 5)).heap.size := by simp
      generalize wz.alloc (.cells #[] 5) = wn1 at *
      have HSn1 := Lib.hid (stay HS0.out hb)
      have HOWN1 := Lib.hid hO
      have HCC : Hid (w34.heap.size ≤ wz.heap.size) := Lib.hid HS0.out.size
      have HCL : Hid (wz.heap.size < wn1.heap.size) := Lib.hid hlt
      refine hK _ _ HSn1.out ?_
      clear hK K hb hO hlt
      try simp only [Act.put, List.setIfInBounds_toArray, List.set_cons_succ, List.set_cons_zero]
      generalize wz.heap.size = cB at *
      refine twoH 6 11 (by kernel_rfl) rfl rfl rfl rfl (fun K hK => ?_) (fun K hK => ?_)
      · refine app_G (.tmp 33) (.tmp 35) (some 36) rfl rfl HOWN1.out HSn1.out.size ((HBX.out.below F35.out).below HSn1.out) (by rw [HN.out]; simp; omega) rfl rfl fun sv' wn2 hO hg => ?_
        rw [List.nil_append] at hO
        have HCP2 := Lib.hid hO.bytes
        have HSn2 := Lib.hid (HSn1.out.trans (grown_below hg HSn1.out.size fun k hk => by
          have e : k = cB := (Option.some.inj hk).symm
          rw [e]
          exact HCC.out))
        refine hK _ _ HSn2.out ?_
        clear hK K hO hg
        try simp only [Act.put, List.setIfInBounds_toArray, List.set_cons_succ, List.set_cons_zero]
        refine twoH 7 11 (by kernel_rfl) rfl rfl rfl rfl (fun K hK => ?_) (fun K hK => ?_)
        · go_simp
          refine (apply_no a x HA.out ox _ (by rw [HN.out]; omega) HF.out _ HCP2.out (F36.out.below (Nat.le_refl _) HSn2.out)).mono ?_
          rintro e wn3 ⟨rfl, hb⟩
          have HSn3 := Lib.hid (stay HSn2.out hb)
          refine hK _ _ HSn3.out ?_
          clear hK K hb
          try simp only [Act.put, List.setIfInBounds_toArray, List.set_cons_succ, List.set_cons_zero]
          refine takeH 8 (some 29) (.tuple #[.agg (u8s (zeros 32)).toArray, .int .i64 1]) rfl rfl (by kernel_rfl) (by kernel_rfl) (by kernel_rfl) (fun _ _ _ h => h) rfl (fun wq hS => by go_simp) HSn3.out ?_
          try simp only [Act.put, List.setIfInBounds_toArray, List.set_cons_succ, List.set_cons_zero]
          refine takeH 9 (some 38) (.agg (u8s (zeros 32)).toArray) rfl rfl (by kernel_rfl) (by kernel_rfl) (by kernel_rfl) (fun _ _ _ h => h) rfl (fun wq hS => by go_simp) HSn3.out ?_
          try simp only [Act.put, List.setIfInBounds_toArray, List.set_cons_succ, List.set_cons_zero]
          refine takeH 10 (some 39) (.int .i64 1) rfl rfl (by kernel_rfl) (by kernel_rfl) (by kernel_rfl) (fun _ _ _ h => h) rfl (fun wq hS => by go_simp) HSn3.out ?_
          try simp only [Act.put, List.setIfInBounds_toArray, List.set_cons_succ, List.set_cons_zero]
          refine oneH 11 (by kernel_rfl) rfl rfl fun K hK => ?_
          refine wp_runTo (some 11) rfl _ _ (exec_alloc _ _ _ 23 rfl _ zero23) ?_
          have hb : Below wn3.heap.size wn3 (wn3.alloc (.cells (u8s (zeros 32)).toArray 23)) := (Below.refl _ _).alloc (Nat.le_refl _) _
          have hn : Blk (wn3.alloc (.cells (u8s (zeros 32)).toArray 23)) wn3.heap.size (u8s (zeros 32)) := Blk.newAt 23 _ _ rfl rfl
          generalize wn3.alloc (.cells (u8s (zeros 32)).toArray 23) = wn4 at *
          have HSn4 := Lib.hid (stay HSn3.out hb)
          have HV := Lib.hid hn
          have HGE : Hid (w34.heap.size ≤ wn3.heap.size) := Lib.hid HSn3.out.size
          refine hK _ _ HSn4.out ?_
          clear hK K hb hn
          try simp only [Act.put, List.setIfInBounds_toArray, List.set_cons_succ, List.set_cons_zero]
          generalize wn3.heap.size = gV at *
          refine oneH 12 (by kernel_rfl) rfl rfl fun K hK => ?_
          refine store_W none rfl rfl HV.out (by simp only [u8s_size, List.size_toArray, List.length_append, List.length_singleton, List.length_map, HZ32.out]) (by rw [u8s_size, HZ32.out]; exact info23) (u8s_one _) rfl rfl fun wy hD hO => ?_
          have HSy := Lib.hid (HSn4.out.trans (hO.below HSn4.out.size fun k hk => by rw [hk]; exact HGE.out))
          refine hK _ _ HSy.out ?_
          clear hK K
          try simp only [Act.put, List.setIfInBounds_toArray, List.set_cons_succ, List.set_cons_zero]
          refine takeH 13 (some 12) (.int .i64 1) rfl rfl (by kernel_rfl) (by kernel_rfl) (by kernel_rfl) (fun _ _ _ h => h) rfl (fun wq hS => by go_simp) HSy.out ?_
          try simp only [Act.put, List.setIfInBounds_toArray, List.set_cons_succ, List.set_cons_zero]
          refine wpAnyH_done (by kernel_rfl) ?_ _
          go_wp2_with fail
          go_meet
          exact ⟨gV, rfl, rfl, hD, HSy.out⟩
        · refine wp_runTo (some 11) rfl _ _ (exec_alloc _ _ _ 23 rfl _ zero23) ?_
          have hb : Below wn2.heap.size wn2 (wn2.alloc (.cells (u8s (zeros 32)).toArray 23)) := (Below.refl _ _).alloc (Nat.le_refl _) _
          have hn : Blk (wn2.alloc (.cells (u8s (zeros 32)).toArray 23)) wn2.heap.size (u8s (zeros 32)) := Blk.newAt 23 _ _ rfl rfl
          generalize wn2.alloc (.cells (u8s (zeros 32)).toArray 23) = wn3 at *
          have HSn3 := Lib.hid (stay HSn2.out hb)
          have HV := Lib.hid hn
          have HGE : Hid (w34.heap.size ≤ wn2.heap.size) := Lib.hid HSn2.out.size
          have HCP3 := Lib.hid (HCP2.out.below hb)
          refine hK _ _ HSn3.out ?_
          clear hK K hb hn
          try simp only [Act.put, List.setIfInBounds_toArray, List.set_cons_succ, List.set_cons_zero]
          generalize wn2.heap.size = gV at *
          refine oneH 7 (by kernel_rfl) rfl rfl fun K hK => ?_
          go_simp
          refine (apply_no a x HA.out ox _ (by rw [HN.out]; omega) HF.out _ HCP3.out (F36.out.below (Nat.le_refl _) HSn3.out)).mono ?_
          rintro e wn4 ⟨rfl, hb⟩
          have HSn4 := Lib.hid (stay HSn3.out hb)
          have HV4 := Lib.hid (HV.out.below hb HV.out.lt)
          refine hK _ _ HSn4.out ?_
          clear hK K hb
          try simp only [Act.put, List.setIfInBounds_toArray, List.set_cons_succ, List.set_cons_zero]
          refine takeH 8 (some 29) (.tuple #[.agg (u8s (zeros 32)).toArray, .int .i64 1]) rfl rfl (by kernel_rfl) (by kernel_rfl) (by kernel_rfl) (fun _ _ _ h => h) rfl (fun wq hS => by go_simp) HSn4.out ?_
          try simp only [Act.put, List.setIfInBounds_toArray, List.set_cons_succ, List.set_cons_zero]
          refine takeH 9 (some 38) (.agg (u8s (zeros 32)).toArray) rfl rfl (by kernel_rfl) (by kernel_rfl) (by kernel_rfl) (fun _ _ _ h => h) rfl (fun wq hS => by go_simp) HSn4.out ?_
          try simp only [Act.put, List.setIfInBounds_toArray, List.set_cons_succ, List.set_cons_zero]
          refine takeH 10 (some 39) (.int .i64 1) rfl rfl (by kernel_rfl) (by kernel_rfl) (by kernel_rfl) (fun _ _ _ h => h) rfl (fun wq hS => by go_simp) HSn4.out ?_
          try simp only [Act.put, List.setIfInBounds_toArray, List.set_cons_succ, List.set_cons_zero]
          refine oneH 12 (by kernel_rfl) rfl rfl fun K hK => ?_
          refine store_W none rfl rfl HV4.out (by simp only [u8s_size, List.size_toArray, List.length_append, List.length_singleton, List.length_map, HZ32.out]) (by rw [u8s_size, HZ32.out]; exact info23) (u8s_one _) rfl rfl fun wy hD hO => ?_
          have HSy := Lib.hid (HSn4.out.trans (hO.below HSn4.out.size fun k hk => by rw [hk]; exact HGE.out))
          refine hK _ _ HSy.out ?_
          clear hK K
          try simp only [Act.put, List.setIfInBounds_toArray, List.set_cons_succ, List.set_cons_zero]
          refine takeH 13 (some 12) (.int .i64 1) rfl rfl (by kernel_rfl) (by kernel_rfl) (by kernel_rfl) (fun _ _ _ h => h) rfl (fun wq hS => by go_simp) HSy.out ?_
          try simp only [Act.put, List.setIfInBounds_toArray, List.set_cons_succ, List.set_cons_zero]
          refine wpAnyH_done (by kernel_rfl) ?_ _
          go_wp2_with fail
          go_meet
          exact ⟨gV, rfl, rfl, hD, HSy.out⟩
      · refine wp_runTo (some 11) rfl _ _ (exec_alloc _ _ _ 23 rfl _ zero23) ?_
        have hb : Below wn1.heap.size wn1 (wn1.alloc (.cells (u8s (zeros 32)).toArray 23)) := (Below.refl _ _).alloc (Nat.le_refl _) _
        have hn : Blk (wn1.alloc (.cells (u8s (zeros 32)).toArray 23)) wn1.heap.size (u8s (zeros 32)) := Blk.newAt 23 _ _ rfl rfl
        generalize wn1.alloc (.cells (u8s (zeros 32)).toArray 23) = wn2 at *
        have HSn2 := Lib.hid (stay HSn1.out hb)
        have HV := Lib.hid hn
        have HGE : Hid (w34.heap.size ≤ wn1.heap.size) := Lib.hid HSn1.out.size
        have HOWN2 := Lib.hid (HOWN1.out.below hb)
        have HCG : Hid (cB ≠ wn1.heap.size) := Lib.hid (by have := HCL.out; omega)
        refine hK _ _ HSn2.out ?_
        clear hK K hb hn
        try simp only [Act.put, List.setIfInBounds_toArray, List.set_cons_succ, List.set_cons_zero]
        generalize wn1.heap.size = gV at *
        refine oneH 6 (by kernel_rfl) rfl rfl fun K hK => ?_
        refine app_G (.tmp 33) (.tmp 35) (some 36) rfl rfl HOWN2.out HSn2.out.size ((HBX.out.below F35.out).below HSn2.out) (by rw [HN.out]; simp; omega) rfl rfl fun sv' wn3 hO hg => ?_
        rw [List.nil_append] at hO
        have HCP3 := Lib.hid hO.bytes
        have HSn3 := Lib.hid (HSn2.out.trans (grown_below hg HSn2.out.size fun k hk => by
          have e : k = cB := (Option.some.inj hk).symm
          rw [e]
          exact HCC.out))
        have HV3 := Lib.hid (HV.out.grown hg (fun e => HCG.out (Option.some.inj e)))
        refine hK _ _ HSn3.out ?_
        clear hK K hO hg
        try simp only [Act.put, List.setIfInBounds_toArray, List.set_cons_succ, List.set_cons_zero]
        refine oneH 7 (by kernel_rfl) rfl rfl fun K hK => ?_
        go_simp
        refine (apply_no a x HA.out ox _ (by rw [HN.out]; omega) HF.out _ HCP3.out (F36.out.below (Nat.le_refl _) HSn3.out)).mono ?_
        rintro e wn4 ⟨rfl, hb⟩
        have HSn4 := Lib.hid (stay HSn3.out hb)
        have HV4 := Lib.hid (HV3.out.below hb HV3.out.lt)
        refine hK _ _ HSn4.out ?_
        clear hK K hb
        try simp only [Act.put, List.setIfInBounds_toArray, List.set_cons_succ, List.set_cons_zero]
        refine takeH 8 (some 29) (.tuple #[.agg (u8s (zeros 32)).toArray, .int .i64 1]) rfl rfl (by kernel_rfl) (by kernel_rfl) (by kernel_rfl) (fun _ _ _ h => h) rfl (fun wq hS => by go_simp) HSn4.out ?_
        try simp only [Act.put, List.setIfInBounds_toArray, List.set_cons_succ, List.set_cons_zero]
        refine takeH 9 (some 38) (.agg (u8s (zeros 32)).toArray) rfl rfl (by kernel_rfl) (by kernel_rfl) (by kernel_rfl) (fun _ _ _ h => h) rfl (fun wq hS => by go_simp) HSn4.out ?_
        try simp only [Act.put, List.setIfInBounds_toArray, List.set_cons_succ, List.set_cons_zero]
        refine takeH 10 (some 39) (.int .i64 1) rfl rfl (by kernel_rfl) (by kernel_rfl) (by kernel_rfl) (fun _ _ _ h => h) rfl (fun wq hS => by go_simp) HSn4.out ?_
        try simp only [Act.put, List.setIfInBounds_toArray, List.set_cons_succ, List.set_cons_zero]
        refine oneH 12 (by kernel_rfl) rfl rfl fun K hK => ?_
        refine store_W none rfl rfl HV4.out (by simp only [u8s_size, List.size_toArray, List.length_append, List.length_singleton, List.length_map, HZ32.out]) (by rw [u8s_size, HZ32.out]; exact info23) (u8s_one _) rfl rfl fun wy hD hO => ?_
        have HSy := Lib.hid (HSn4.out.trans (hO.below HSn4.out.size fun k hk => by rw [hk]; exact HGE.out))
        refine hK _ _ HSy.out ?_
        clear hK K
        try simp only [Act.put, List.setIfInBounds_toArray, List.set_cons_succ, List.set_cons_zero]
        refine takeH 13 (some 12) (.int .i64 1) rfl rfl (by kernel_rfl) (by kernel_rfl) (by kernel_rfl) (fun _ _ _ h => h) rfl (fun wq hS => by go_simp) HSy.out ?_
        try simp only [Act.put, List.setIfInBounds_toArray, List.set_cons_succ, List.set_cons_zero]
        refine wpAnyH_done (by kernel_rfl) ?_ _
        go_wp2_with fail
        go_meet
        exact ⟨gV, rfl, rfl, hD, HSy.out⟩
    · refine wp_runTo (some 11) rfl _ _ (exec_alloc _ _ _ 23 rfl _ zero23) ?_
      have hb : Below wz.heap.size wz (wz.alloc (.cells (u8s (zeros 32)).toArray 23)) := (Below.refl _ _).alloc (Nat.le_refl _) _
      have hn : Blk (wz.alloc (.cells (u8s (zeros 32)).toArray 23)) wz.heap.size (u8s (zeros 32)) := Blk.newAt 23 _ _ rfl rfl
      generalize wz.alloc (.cells (u8s (zeros 32)).toArray 23) = wn1 at *
      have HSn1 := Lib.hid (stay HS0.out hb)
      have HV := Lib.hid hn
      have HGE : Hid (w34.heap.size ≤ wz.heap.size) := Lib.hid HS0.out.size
      refine hK _ _ HSn1.out ?_
      clear hK K hb hn
      try simp only [Act.put, List.setIfInBounds_toArray, List.set_cons_succ, List.set_cons_zero]
      generalize wz.heap.size = gV at *
      refine oneH 3 (by kernel_rfl) rfl rfl fun K hK => ?_
      refine wp_runTo (some 33) rfl (.slice (some ⟨wn1.heap.size, 0, none⟩) 0 0) (wn1.alloc (.cells #[] 5)) (by go_simp) ?_
      have hb : Below wn1.heap.size wn1 (wn1.alloc (.cells #[] 5)) := (Below.refl _ _).alloc (Nat.le_refl _) _
      have hO := Own.lit wn1 w34.heap.size HSn1.out.size [] (by simp) #[] rfl
      have hlt : wn1.heap.size < (wn1.alloc (.cells #[] 5)).heap.size := by simp
      generalize wn1.alloc (.cells #[] 5) = wn2 at *
      have HSn2 := Lib.hid (stay HSn1.out hb)
      have HOWN2 := Lib.hid hO
      have HCC : Hid (w34.heap.size ≤ wn1.heap.size) := Lib.hid HSn1.out.size
      have HV2 := Lib.hid (HV.out.below hb HV.out.lt)
      have HCG : Hid (wn1.heap.size ≠ gV) := Lib.hid (Nat.ne_of_gt HV.out.lt)
      have HCL : Hid (wn1.heap.size < wn2.heap.size) := Lib.hid hlt
      refine hK _ _ HSn2.out ?_
      clear hK K hb hO hlt
      try simp only [Act.put, List.setIfInBounds_toArray, List.set_cons_succ, List.set_cons_zero]
      generalize wn1.heap.size = cB at *
      refine oneH 6 (by kernel_rfl) rfl rfl fun K hK => ?_
      refine app_G (.tmp 33) (.tmp 35) (some 36) rfl rfl HOWN2.out HSn2.out.size ((HBX.out.below F35.out).below HSn2.out) (by rw [HN.out]; simp; omega) rfl rfl fun sv' wn3 hO hg => ?_
      rw [List.nil_append] at hO
      have HCP3 := Lib.hid hO.bytes
      have HSn3 := Lib.hid (HSn2.out.trans (grown_below hg HSn2.out.size fun k hk => by
        have e : k = cB := (Option.some.inj hk).symm
        rw [e]
        exact HCC.out))
      have HV3 := Lib.hid (HV2.out.grown hg (fun e => HCG.out (Option.some.inj e)))
      refine hK _ _ HSn3.out ?_
      clear hK K hO hg
      try simp only [Act.put, List.setIfInBounds_toArray, List.set_cons_succ, List.set_cons_zero]
      refine oneH 7 (by kernel_rfl) rfl rfl fun K hK => ?_
      go_simp
      refine (apply_no a x HA.out ox _ (by rw [HN.out]; omega) HF.out _ HCP3.out (F36.out.below (Nat.le_refl _) HSn3.out)).mono ?_
      rintro e wn4 ⟨rfl, hb⟩
      have HSn4 := Lib.hid (stay HSn3.out hb)
      have HV4 := Lib.hid (HV3.out.below hb HV3.out.lt)
      refine hK _ _ HSn4.out ?_
      clear hK K hb
      try simp only [Act.put, List.setIfInBounds_toArray, List.set_cons_succ, List.set_cons_zero]
      refine takeH 8 (some 29) (.tuple #[.agg (u8s (zeros 32)).toArray, .int .i64 1]) rfl rfl (by kernel_rfl) (by kernel_rfl) (by kernel_rfl) (fun _ _ _ h => h) rfl (fun wq hS => by go_simp) HSn4.out ?_
      try simp only [Act.put, List.setIfInBounds_toArray, List.set_cons_succ, List.set_cons_zero]
      refine takeH 9 (some 38) (.agg (u8s (zeros 32)).toArray) rfl rfl (by kernel_rfl) (by kernel_rfl) (by kernel_rfl) (fun _ _ _ h => h) rfl (fun wq hS => by go_simp) HSn4.out ?_
      try simp only [Act.put, List.setIfInBounds_toArray, List.set_cons_succ, List.set_cons_zero]
      refine takeH 10 (some 39) (.int .i64 1) rfl rfl (by kernel_rfl) (by kernel_rfl) (by kernel_rfl) (fun _ _ _ h => h) rfl (fun wq hS => by go_simp) HSn4.out ?_
      try simp only [Act.put, List.setIfInBounds_toArray, List.set_cons_succ, List.set_cons_zero]
      refine oneH 12 (by kernel_rfl) rfl rfl fun K hK => ?_
      refine store_W none rfl rfl HV4.out (by simp only [u8s_size, List.size_toArray, List.length_append, List.length_singleton, List.length_map, HZ32.out]) (by rw [u8s_size, HZ32.out]; exact info23) (u8s_one _) rfl rfl fun wy hD hO => ?_
      have HSy := Lib.hid (HSn4.out.trans (hO.below HSn4.out.size fun k hk => by rw [hk]; exact HGE.out))
      refine hK _ _ HSy.out ?_
      clear hK K
      try simp only [Act.put, List.setIfInBounds_toArray, List.set_cons_succ, List.set_cons_zero]
      refine takeH 13 (some 12) (.int .i64 1) rfl rfl (by kernel_rfl) (by kernel_rfl) (by kernel_rfl) (fun _ _ _ h => h) rfl (fun wq hS => by go_simp) HSy.out ?_
      try simp only [Act.put, List.setIfInBounds_toArray, List.set_cons_succ, List.set_cons_zero]
      refine wpAnyH_done (by kernel_rfl) ?_ _
      go_wp2_with fail
      go_meet
      exact ⟨gV, rfl, rfl, hD, HSy.out⟩
  case rest =>
    obtain ⟨g5, rfl, rfl, hD, hb⟩ := hcut

    have F145 := Lib.hid (F35.out.trans (hb.mono F35.out.size))
    have F146 := Lib.hid (F36.out.below (Nat.le_refl _) hb)
    have F147 := Lib.hid (F37.out.below hb F37.out.lt)
    have F148 := Lib.hid (F38.out.below hb F38.out.lt)
    have F149 := Lib.hid (F39.out.below hb F39.out.lt)
    have F150 := Lib.hid (F40.out.below hb)
    have F151 := Lib.hid (F41.out.below hb)
    have F152 := Lib.hid (F42.out.below hb F42.out.lt)
    clear F35 F36 F37 F38 F39 F40 F41 F42
    have FP : Hid (Blk wc g5 (u8s (zeros 32))) := Lib.hid hD
    clear hD hb
    go_upto_region 6 with fail
    refine wp_region_lit ?_
    try simp only [List.append_eq, List.cons_append, List.nil_append]
    refine load23 (cs := (u8s a).toArray) (Blk.all F147.out rfl) (by rw [u8s_size, HA.out]) rfl rfl ?_
    try simp only [Act.put, List.setIfInBounds_toArray, List.set_cons_succ, List.set_cons_zero]
    refine takeL (.pointer (some ⟨g17, 0, none⟩)) rfl (by go_simp) ?_
    try simp only [Act.put, List.setIfInBounds_toArray, List.set_cons_succ, List.set_cons_zero]
    refine takeL (.int .i64 ox) rfl (by have hq := F149.out.cell (i := 0) (v := .int .i64 ox) rfl; go_simp) ?_
    try simp only [Act.put, List.setIfInBounds_toArray, List.set_cons_succ, List.set_cons_zero]
    refine takeL (.pointer (some ⟨g17, 1, none⟩)) rfl (by go_simp) ?_
    try simp only [Act.put, List.setIfInBounds_toArray, List.set_cons_succ, List.set_cons_zero]
    refine takeL (sx) rfl (by have hq := F149.out.cell (i := 1) (v := sx) rfl; go_simp) ?_
    try simp only [Act.put, List.setIfInBounds_toArray, List.set_cons_succ, List.set_cons_zero]
    refine wpList_op rfl fun K hK => ?_
    go_simp
    refine (rapply_no a x HA.out ox sx (by rw [HN.out]; omega) HF.out _ (HBX.out.below F145.out)).mono ?_
    rintro e w153 ⟨rfl, hb⟩
    have F154 := Lib.hid (F145.out.trans (hb.mono F145.out.size))
    have F155 := Lib.hid (F146.out.below (Nat.le_refl _) hb)
    have F156 := Lib.hid (F147.out.below hb F147.out.lt)
    have F157 := Lib.hid (F148.out.below hb F148.out.lt)
    have F158 := Lib.hid (F149.out.below hb F149.out.lt)
    have F159 := Lib.hid (F150.out.below hb)
    have F160 := Lib.hid (F151.out.below hb)
    have F161 := Lib.hid (F152.out.below hb F152.out.lt)
    have F162 := Lib.hid (FP.out.below hb FP.out.lt)
    clear F145 F146 F147 F148 F149 F150 F151 F152 FP
    clear hb
    refine hK _ _ ?_
    clear hK K
    try simp only [Act.put, List.setIfInBounds_toArray, List.set_cons_succ, List.set_cons_zero]
    refine alloc_g zero37 rfl ?_
    intro w163 hA hb hl
    try simp only [Act.put, List.setIfInBounds_toArray, List.set_cons_succ, List.set_cons_zero]
    clear hl
    refine store_all (cs := (u8s (zeros 32) ++ [Value.bool false]).toArray) hA (by simp only [u8s_size, List.size_toArray, List.length_append, List.length_singleton, List.length_map, HZ32.out]) (by rw [got_size HZ32.out]; exact info37) (got_one _ _) rfl rfl rfl ?_
    intro w164 hD hO hlD
    try simp only [Act.put, List.setIfInBounds_toArray, List.set_cons_succ, List.set_cons_zero]
    clear hlD hA
    have hbb : Below w153.heap.size w153 w164 := hb.trans (hO.below hb.size fun k hk => Nat.le_of_eq hk.symm)
    clear hb hO
    have F165 := Lib.hid (F154.out.trans (hbb.mono F154.out.size))
    have F166 := Lib.hid (F155.out.below (Nat.le_refl _) hbb)
    have F167 := Lib.hid (F156.out.below hbb F156.out.lt)
    have F168 := Lib.hid (F157.out.below hbb F157.out.lt)
    have F169 := Lib.hid (F158.out.below hbb F158.out.lt)
    have F170 := Lib.hid (F159.out.below hbb)
    have F171 := Lib.hid (F160.out.below hbb)
    have F172 := Lib.hid (F161.out.below hbb F161.out.lt)
    have F173 := Lib.hid (F162.out.below hbb F162.out.lt)
    clear F154 F155 F156 F157 F158 F159 F160 F161 F162
    have F174 : Hid (Blk w164 w153.heap.size (u8s (zeros 32) ++ [Value.bool false])) := Lib.hid hD
    clear hD hbb w163
    generalize w153.heap.size = g175 at *
    clear w153
    refine wpList_nil ?_
    go_upto_region 7 with fail
    refine wp_region_lit ?_
    try simp only [List.append_eq, List.cons_append, List.nil_append]
    refine takeL (.int .i64 o) rfl (by go_simp) ?_
    try simp only [Act.put, List.setIfInBounds_toArray, List.set_cons_succ, List.set_cons_zero]
    refine takeL (.pointer (some ⟨g43, 0, none⟩)) rfl (by go_simp) ?_
    try simp only [Act.put, List.setIfInBounds_toArray, List.set_cons_succ, List.set_cons_zero]
    refine takeL (.int .i64 o) rfl (by have hq := F172.out.cell (i := 0) (v := .int .i64 o) rfl; go_simp) ?_
    try simp only [Act.put, List.setIfInBounds_toArray, List.set_cons_succ, List.set_cons_zero]
    refine takeL (.bool true) rfl (by go_simp) ?_
    try simp only [Act.put, List.setIfInBounds_toArray, List.set_cons_succ, List.set_cons_zero]
    refine takeL (.bool true) rfl (by go_simp) ?_
    try simp only [Act.put, List.setIfInBounds_toArray, List.set_cons_succ, List.set_cons_zero]
    refine takeL (.slice (some ⟨p, q, none⟩) (m + 1) c) rfl (by go_simp) ?_
    try simp only [Act.put, List.setIfInBounds_toArray, List.set_cons_succ, List.set_cons_zero]
    refine takeL (.pointer (some ⟨g43, 1, none⟩)) rfl (by go_simp) ?_
    try simp only [Act.put, List.setIfInBounds_toArray, List.set_cons_succ, List.set_cons_zero]
    refine takeL (.slice (some ⟨p2, q2, none⟩) (m + 1) c2) rfl (by have hq := F172.out.cell (i := 1) (v := .slice (some ⟨p2, q2, none⟩) (m + 1) c2) rfl; go_simp) ?_
    try simp only [Act.put, List.setIfInBounds_toArray, List.set_cons_succ, List.set_cons_zero]
    refine wpList_op rfl fun K hK => ?_
    go_simp
    refine (bytes_eq F170.out F171.out HMB.out).mono ?_
    rintro e w176 ⟨rfl, rfl⟩
    refine hK _ _ ?_
    clear hK K
    try simp only [Act.put, List.setIfInBounds_toArray, List.set_cons_succ, List.set_cons_zero]
    refine takeL (.bool true) rfl (by go_simp) ?_
    try simp only [Act.put, List.setIfInBounds_toArray, List.set_cons_succ, List.set_cons_zero]
    refine takeL (.bool true) rfl (by go_simp) ?_
    try simp only [Act.put, List.setIfInBounds_toArray, List.set_cons_succ, List.set_cons_zero]
    refine takeL (.bool true) rfl (by go_simp) ?_
    try simp only [Act.put, List.setIfInBounds_toArray, List.set_cons_succ, List.set_cons_zero]
    refine takeL (.pointer (some ⟨g43, 2, none⟩)) rfl (by go_simp) ?_
    try simp only [Act.put, List.setIfInBounds_toArray, List.set_cons_succ, List.set_cons_zero]
    refine takeL (.bool true) rfl (by have hq := F172.out.cell (i := 2) (v := .bool true) rfl; go_simp) ?_
    try simp only [Act.put, List.setIfInBounds_toArray, List.set_cons_succ, List.set_cons_zero]
    refine takeL (.bool true) rfl (by go_simp) ?_
    try simp only [Act.put, List.setIfInBounds_toArray, List.set_cons_succ, List.set_cons_zero]
    refine takeL (.bool true) rfl (by go_simp) ?_
    try simp only [Act.put, List.setIfInBounds_toArray, List.set_cons_succ, List.set_cons_zero]
    refine takeL (.bool true) rfl (by go_simp) ?_
    try simp only [Act.put, List.setIfInBounds_toArray, List.set_cons_succ, List.set_cons_zero]
    refine load23 (cs := (u8s (zeros 32)).toArray) (Blk.all F173.out rfl) (by rw [u8s_size, HZ32.out]) rfl rfl ?_
    try simp only [Act.put, List.setIfInBounds_toArray, List.set_cons_succ, List.set_cons_zero]
    refine takeL (.pointer (some ⟨g175, 0, none⟩)) rfl (by go_simp) ?_
    try simp only [Act.put, List.setIfInBounds_toArray, List.set_cons_succ, List.set_cons_zero]
    refine load23 (cs := (u8s (zeros 32)).toArray) (got_at F174.out) (by rw [u8s_size, HZ32.out]) rfl rfl ?_
    try simp only [Act.put, List.setIfInBounds_toArray, List.set_cons_succ, List.set_cons_zero]
    refine takeL (.bool true) rfl (by exact exec_page (decide_eq_true rfl) HZ32.out HZ32.out _ _ _ rfl rfl rfl) ?_
    try simp only [Act.put, List.setIfInBounds_toArray, List.set_cons_succ, List.set_cons_zero]
    refine takeL (.bool true) rfl (by go_simp) ?_
    try simp only [Act.put, List.setIfInBounds_toArray, List.set_cons_succ, List.set_cons_zero]
    refine takeL (.bool true) rfl (by go_simp) ?_
    try simp only [Act.put, List.setIfInBounds_toArray, List.set_cons_succ, List.set_cons_zero]
    refine takeL (.int .i64 1) rfl (by go_simp) ?_
    try simp only [Act.put, List.setIfInBounds_toArray, List.set_cons_succ, List.set_cons_zero]
    refine takeL (.bool false) rfl (by go_simp) ?_
    try simp only [Act.put, List.setIfInBounds_toArray, List.set_cons_succ, List.set_cons_zero]
    refine takeL (.pointer (some ⟨g175, 32, none⟩)) rfl (by go_simp) ?_
    try simp only [Act.put, List.setIfInBounds_toArray, List.set_cons_succ, List.set_cons_zero]
    refine takeL (.bool false) rfl (by have hq := F174.out.cell (i := 32) (v := .bool false) (got_ok HZ32.out); go_simp) ?_
    try simp only [Act.put, List.setIfInBounds_toArray, List.set_cons_succ, List.set_cons_zero]
    refine takeL (.bool true) rfl (by go_simp) ?_
    try simp only [Act.put, List.setIfInBounds_toArray, List.set_cons_succ, List.set_cons_zero]
    refine takeL (.bool true) rfl (by go_simp) ?_
    try simp only [Act.put, List.setIfInBounds_toArray, List.set_cons_succ, List.set_cons_zero]
    refine takeL (.bool true) rfl (by go_simp) ?_
    try simp only [Act.put, List.setIfInBounds_toArray, List.set_cons_succ, List.set_cons_zero]
    refine takeL (.int .i64 1) rfl (by go_simp) ?_
    try simp only [Act.put, List.setIfInBounds_toArray, List.set_cons_succ, List.set_cons_zero]
    refine takeL (.bool false) rfl (by go_simp) ?_
    try simp only [Act.put, List.setIfInBounds_toArray, List.set_cons_succ, List.set_cons_zero]
    refine takeL (.bool false) rfl (by go_simp) ?_
    try simp only [Act.put, List.setIfInBounds_toArray, List.set_cons_succ, List.set_cons_zero]
    refine takeL (.int .i64 1) rfl (by go_simp) ?_
    try simp only [Act.put, List.setIfInBounds_toArray, List.set_cons_succ, List.set_cons_zero]
    refine takeL (.bool true) rfl (by go_simp) ?_
    try simp only [Act.put, List.setIfInBounds_toArray, List.set_cons_succ, List.set_cons_zero]
    refine takeL (.bool true) rfl (by go_simp) ?_
    try simp only [Act.put, List.setIfInBounds_toArray, List.set_cons_succ, List.set_cons_zero]
    refine takeL (.bool true) rfl (by go_simp) ?_
    try simp only [Act.put, List.setIfInBounds_toArray, List.set_cons_succ, List.set_cons_zero]
    refine takeL (.bool true) rfl (by go_simp) ?_
    try simp only [Act.put, List.setIfInBounds_toArray, List.set_cons_succ, List.set_cons_zero]
    refine wpList_op rfl fun K hK => ?_
    go_simp
    refine (wakes_any _ F166.out).mono ?_
    rintro e w177 ⟨rfl, hb⟩
    have F178 := Lib.hid (F165.out.trans (hb.mono F165.out.size))
    have F179 := Lib.hid (F166.out.below (Nat.le_refl _) hb)
    have F180 := Lib.hid (F167.out.below hb F167.out.lt)
    have F181 := Lib.hid (F168.out.below hb F168.out.lt)
    have F182 := Lib.hid (F169.out.below hb F169.out.lt)
    have F183 := Lib.hid (F170.out.below hb)
    have F184 := Lib.hid (F171.out.below hb)
    have F185 := Lib.hid (F172.out.below hb F172.out.lt)
    have F186 := Lib.hid (F173.out.below hb F173.out.lt)
    have F187 := Lib.hid (F174.out.below hb F174.out.lt)
    clear F165 F166 F167 F168 F169 F170 F171 F172 F173 F174
    clear hb
    refine hK _ _ ?_
    clear hK K
    try simp only [Act.put, List.setIfInBounds_toArray, List.set_cons_succ, List.set_cons_zero]
    refine takeL (.bool true) rfl (by go_simp) ?_
    try simp only [Act.put, List.setIfInBounds_toArray, List.set_cons_succ, List.set_cons_zero]
    refine takeL (.bool true) rfl (by go_simp) ?_
    try simp only [Act.put, List.setIfInBounds_toArray, List.set_cons_succ, List.set_cons_zero]
    refine wpList_nil ?_
    go_wp2_with fail
    go_ret
    exact ⟨rfl, F178.out⟩
set_option maxRecDepth 100000 in
set_option maxHeartbeats 1000000 in
theorem tells_told_fit (a b : List Int) (ha : Pg a) (hb : Pg b) (d : Nat) (sx : Value) (x : List Int) (hyx : ∀ z ∈ x, Byte z) (n : Nat) (hn : x.length = n) (h : n ≤ 300) (o m : Nat) (hs : Span a b o (o + m + 1)) (hm : m < 16) (hf : Fits d x) (w : World) (hbx : BytesAt w sx x) (hev : ErrVar w) : Calls Tryd.prog 3 #[.agg (u8s a).toArray, .agg (u8s b).toArray, .agg #[.int .i64 d, sx]] w fun e w' => e = .returned (.bool true) ∧ Below w.heap.size w w' := by
  have HZ32 := Lib.hid (zeros_length 32)
  have HA := Lib.hid ha.length
  have HB := Lib.hid hb.length
  have HPA := Lib.hid ha
  have HPB := Lib.hid hb
  have HBX := Lib.hid hbx
  obtain ⟨ax, cx, he, -⟩ := hbx
  have HEX : Hid (sx = .slice ax n cx) := Lib.hid (hn ▸ he)
  have HN := Lib.hid hn
  clear he hn
  have HBL : Hid (Below w.heap.size w w) := Lib.hid (Below.refl _ _)
  have HEV := Lib.hid hev
  clear hev ha hb
  have HS := Lib.hid hs
  have HMB := Lib.hid (mid_byte HPB.out o (o + m + 1))
  clear hs
  have HF := Lib.hid hf
  obtain ⟨p1, hp1⟩ : ∃ p, layI a d x = p := ⟨_, rfl⟩
  have H1 : Hid (p1.length = 32) := Lib.hid (hp1 ▸ lay_size HA.out d hf)
  have HP1 := Lib.hid hp1
  clear hf hp1
  go_enter Tryd.func3, Tryd.ntmps3
  go_upto_region 0 with fail
  refine wp_region_lit ?_
  refine box_g (cs := (u8s a).toArray) rfl rfl ?_
  intro w1 hA hb hl
  try simp only [Act.put, List.setIfInBounds_toArray, List.set_cons_succ, List.set_cons_zero]
  clear hl
  have F2 := Lib.hid (HBL.out.trans (hb.mono HBL.out.size))
  have F3 := Lib.hid (HEV.out.below (Nat.le_refl _) hb)
  clear HBL HEV
  have F4 : Hid (Blk w1 w.heap.size (u8s a)) := Lib.hid hA
  clear hA hb
  refine box_g (cs := (u8s b).toArray) rfl rfl ?_
  intro w5 hA hb hl
  try simp only [Act.put, List.setIfInBounds_toArray, List.set_cons_succ, List.set_cons_zero]
  clear hl
  have F6 := Lib.hid (F2.out.trans (hb.mono F2.out.size))
  have F7 := Lib.hid (F3.out.below (Nat.le_refl _) hb)
  have F8 := Lib.hid (F4.out.below hb F4.out.lt)
  clear F2 F3 F4
  have F9 : Hid (Blk w5 w1.heap.size (u8s b)) := Lib.hid hA
  clear hA hb
  generalize w1.heap.size = g10 at *
  clear w1
  refine box_g (cs := #[.int .i64 d, sx]) rfl rfl ?_
  intro w11 hA hb hl
  try simp only [Act.put, List.setIfInBounds_toArray, List.set_cons_succ, List.set_cons_zero]
  clear hl
  have F12 := Lib.hid (F6.out.trans (hb.mono F6.out.size))
  have F13 := Lib.hid (F7.out.below (Nat.le_refl _) hb)
  have F14 := Lib.hid (F8.out.below hb F8.out.lt)
  have F15 := Lib.hid (F9.out.below hb F9.out.lt)
  clear F6 F7 F8 F9
  have F16 : Hid (Blk w11 w5.heap.size [.int .i64 d, sx]) := Lib.hid hA
  clear hA hb
  generalize w5.heap.size = g17 at *
  clear w5
  refine takeL (.bool false) rfl (by go_simp) ?_
  try simp only [Act.put, List.setIfInBounds_toArray, List.set_cons_succ, List.set_cons_zero]
  refine wpList_nil ?_
  go_upto_region 1 with fail
  refine wp_region_lit ?_
  try simp only [List.append_eq, List.cons_append, List.nil_append]
  refine takeL (.pointer (some ⟨g17, 1, none⟩)) rfl (by go_simp) ?_
  try simp only [Act.put, List.setIfInBounds_toArray, List.set_cons_succ, List.set_cons_zero]
  refine takeL (sx) rfl (by have hq := F16.out.cell (i := 1) (v := sx) rfl; go_simp) ?_
  try simp only [Act.put, List.setIfInBounds_toArray, List.set_cons_succ, List.set_cons_zero]
  refine takeL (.int .i64 n) rfl (by have hq := HEX.out; rw [hq]; go_simp) ?_
  try simp only [Act.put, List.setIfInBounds_toArray, List.set_cons_succ, List.set_cons_zero]
  refine takeL (.bool false) rfl (by go_simp <;> omega) ?_
  try simp only [Act.put, List.setIfInBounds_toArray, List.set_cons_succ, List.set_cons_zero]
  refine wpList_nil ?_
  go_upto_region 3 with fail
  refine wp_region_lit ?_
  try simp only [List.append_eq, List.cons_append, List.nil_append]
  refine load23 (cs := (u8s a).toArray) (Blk.all F14.out rfl) (by rw [u8s_size, HA.out]) rfl rfl ?_
  try simp only [Act.put, List.setIfInBounds_toArray, List.set_cons_succ, List.set_cons_zero]
  refine load23 (cs := (u8s b).toArray) (Blk.all F15.out rfl) (by rw [u8s_size, HB.out]) rfl rfl ?_
  try simp only [Act.put, List.setIfInBounds_toArray, List.set_cons_succ, List.set_cons_zero]
  refine wpList_op rfl fun K hK => ?_
  go_simp
  refine (diff_got a b HPA.out HPB.out o m HS.out hm _).mono ?_
  rintro e w18 ⟨p, q, c, rfl, hc, hb⟩
  have F19 := Lib.hid (F12.out.trans (hb.mono F12.out.size))
  have F20 := Lib.hid (F13.out.below (Nat.le_refl _) hb)
  have F21 := Lib.hid (F14.out.below hb F14.out.lt)
  have F22 := Lib.hid (F15.out.below hb F15.out.lt)
  have F23 := Lib.hid (F16.out.below hb F16.out.lt)
  clear F12 F13 F14 F15 F16
  have F24 := Lib.hid hc
  clear hb hc
  refine hK _ _ ?_
  clear hK K
  try simp only [Act.put, List.setIfInBounds_toArray, List.set_cons_succ, List.set_cons_zero]
  refine takeL (.tuple #[.int .i64 o, .slice (some ⟨p, q, none⟩) (m + 1) c, .bool true]) rfl (by go_simp) ?_
  try simp only [Act.put, List.setIfInBounds_toArray, List.set_cons_succ, List.set_cons_zero]
  refine takeL (.int .i64 o) rfl (by go_simp) ?_
  try simp only [Act.put, List.setIfInBounds_toArray, List.set_cons_succ, List.set_cons_zero]
  refine takeL (.slice (some ⟨p, q, none⟩) (m + 1) c) rfl (by go_simp) ?_
  try simp only [Act.put, List.setIfInBounds_toArray, List.set_cons_succ, List.set_cons_zero]
  refine takeL (.bool true) rfl (by go_simp) ?_
  try simp only [Act.put, List.setIfInBounds_toArray, List.set_cons_succ, List.set_cons_zero]
  refine takeL (.int .i64 o) rfl (by go_simp) ?_
  try simp only [Act.put, List.setIfInBounds_toArray, List.set_cons_succ, List.set_cons_zero]
  refine takeL (.slice (some ⟨p, q, none⟩) (m + 1) c) rfl (by go_simp) ?_
  try simp only [Act.put, List.setIfInBounds_toArray, List.set_cons_succ, List.set_cons_zero]
  refine takeL (.bool true) rfl (by go_simp) ?_
  try simp only [Act.put, List.setIfInBounds_toArray, List.set_cons_succ, List.set_cons_zero]
  refine wpList_nil ?_
  go_upto_region 4 with fail
  refine wp_region_lit ?_
  try simp only [List.append_eq, List.cons_append, List.nil_append]
  refine load23 (cs := (u8s a).toArray) (Blk.all F21.out rfl) (by rw [u8s_size, HA.out]) rfl rfl ?_
  try simp only [Act.put, List.setIfInBounds_toArray, List.set_cons_succ, List.set_cons_zero]
  refine load23 (cs := (u8s b).toArray) (Blk.all F22.out rfl) (by rw [u8s_size, HB.out]) rfl rfl ?_
  try simp only [Act.put, List.setIfInBounds_toArray, List.set_cons_succ, List.set_cons_zero]
  refine wpList_op rfl fun K hK => ?_
  go_simp
  refine (rdiff_yes a b HPA.out HPB.out o m HS.out hm _).mono ?_
  rintro e w25 ⟨p2, q2, c2, rfl, hc, hb⟩
  have F26 := Lib.hid (F19.out.trans (hb.mono F19.out.size))
  have F27 := Lib.hid (F20.out.below (Nat.le_refl _) hb)
  have F28 := Lib.hid (F21.out.below hb F21.out.lt)
  have F29 := Lib.hid (F22.out.below hb F22.out.lt)
  have F30 := Lib.hid (F23.out.below hb F23.out.lt)
  have F31 := Lib.hid (F24.out.below hb)
  clear F19 F20 F21 F22 F23 F24
  have F32 := Lib.hid hc
  clear hb hc
  refine hK _ _ ?_
  clear hK K
  try simp only [Act.put, List.setIfInBounds_toArray, List.set_cons_succ, List.set_cons_zero]
  refine alloc_g zero31 rfl ?_
  intro w33 hA hb hl
  try simp only [Act.put, List.setIfInBounds_toArray, List.set_cons_succ, List.set_cons_zero]
  clear hl
  refine store_all (cs := #[.int .i64 o, .slice (some ⟨p2, q2, none⟩) (m + 1) c2, .bool true]) hA (rfl) info31 (by simp [Value.oneCell']) rfl rfl rfl ?_
  intro w34 hD hO hlD
  try simp only [Act.put, List.setIfInBounds_toArray, List.set_cons_succ, List.set_cons_zero]
  clear hlD hA
  have hbb : Below w25.heap.size w25 w34 := hb.trans (hO.below hb.size fun k hk => Nat.le_of_eq hk.symm)
  clear hb hO
  have F35 := Lib.hid (F26.out.trans (hbb.mono F26.out.size))
  have F36 := Lib.hid (F27.out.below (Nat.le_refl _) hbb)
  have F37 := Lib.hid (F28.out.below hbb F28.out.lt)
  have F38 := Lib.hid (F29.out.below hbb F29.out.lt)
  have F39 := Lib.hid (F30.out.below hbb F30.out.lt)
  have F40 := Lib.hid (F31.out.below hbb)
  have F41 := Lib.hid (F32.out.below hbb)
  clear F26 F27 F28 F29 F30 F31 F32
  have F42 : Hid (Blk w34 w25.heap.size [.int .i64 o, .slice (some ⟨p2, q2, none⟩) (m + 1) c2, .bool true]) := Lib.hid hD
  clear hD hbb w33
  generalize w25.heap.size = g43 at *
  clear w25
  refine wpList_nil ?_
  go_upto_region 5 with fail
  go_cut [11, 12] from 11 to 39 (fun s11 s12 wx => ∃ g : Nat, s11 = .pointer (some ⟨g, 0, none⟩) ∧ s12 = .int .i64 0 ∧ Blk wx g (u8s p1) ∧ Below w34.heap.size w34 wx)
  case first =>
    refine startH (fun wq => Below w34.heap.size w34 wq) (by kernel_rfl) ?_
    have HS0 : Hid (Below w34.heap.size w34 w34.drew) := Lib.hid (Below.refl _ _).drew
    generalize w34.drew = wz at *
    refine takeH 0 (some 30) (.agg (u8s a).toArray) rfl rfl (by kernel_rfl) (by kernel_rfl) (by kernel_rfl) (fun _ _ _ h => h) rfl (fun wq hS => by exact exec_load_at wq _ _ 23 _ rfl w.heap.size 0 rfl ((u8s a).toArray) _ Tryd.underlying23 rfl (by rw [u8s_size, HA.out]; exact info23) (Blk.all (F37.out.below hS F37.out.lt) rfl)) HS0.out ?_
    try simp only [Act.put, List.setIfInBounds_toArray, List.set_cons_succ, List.set_cons_zero]
    refine takeH 1 (some 31) (.pointer (some ⟨g17, 0, none⟩)) rfl rfl (by kernel_rfl) (by kernel_rfl) (by kernel_rfl) (fun _ _ _ h => h) rfl (fun wq hS => by go_simp) HS0.out ?_
    try simp only [Act.put, List.setIfInBounds_toArray, List.set_cons_succ, List.set_cons_zero]
    refine takeH 2 (some 32) (.int .i64 d) rfl rfl (by kernel_rfl) (by kernel_rfl) (by kernel_rfl) (fun _ _ _ h => h) rfl (fun wq hS => by have hq := (F39.out.below hS F39.out.lt).cell (i := 0) (v := .int .i64 d) rfl; go_simp) HS0.out ?_
    try simp only [Act.put, List.setIfInBounds_toArray, List.set_cons_succ, List.set_cons_zero]
    refine takeH 4 (some 34) (.pointer (some ⟨g17, 1, none⟩)) rfl rfl (by kernel_rfl) (by kernel_rfl) (by kernel_rfl) (fun _ _ _ h => h) rfl (fun wq hS => by go_simp) HS0.out ?_
    try simp only [Act.put, List.setIfInBounds_toArray, List.set_cons_succ, List.set_cons_zero]
    refine takeH 5 (some 35) (sx) rfl rfl (by kernel_rfl) (by kernel_rfl) (by kernel_rfl) (fun _ _ _ h => h) rfl (fun wq hS => by have hq := (F39.out.below hS F39.out.lt).cell (i := 1) (v := sx) rfl; go_simp) HS0.out ?_
    try simp only [Act.put, List.setIfInBounds_toArray, List.set_cons_succ, List.set_cons_zero]
    refine twoH 3 11 (by kernel_rfl) rfl rfl rfl rfl (fun K hK => ?_) (fun K hK => ?_)
    · refine wp_runTo (some 33) rfl (.slice (some ⟨wz.heap.size, 0, none⟩) 0 0) (wz.alloc (.cells #[] 5)) (by go_simp) ?_
      have hb : Below wz.heap.size wz (wz.alloc (.cells #[] 5)) := (Below.refl _ _).alloc (Nat.le_refl _) _
      have hO := Own.lit wz w34.heap.size HS0.out.size [] (by simp) #[] rfl
      have hlt : wz.heap.size < (wz.alloc (.cells #[] 5)).heap.size := by simp
      generalize wz.alloc (.cells #[] 5) = wn1 at *
      have HSn1 := Lib.hid (stay HS0.out hb)
      have HOWN1 := Lib.hid hO
      have HCC : Hid (w34.heap.size ≤ wz.heap.size) := Lib.hid HS0.out.size
      have HCL : Hid (wz.heap.size < wn1.heap.size) := Lib.hid hlt
      refine hK _ _ HSn1.out ?_
      clear hK K hb hO hlt
      try simp only [Act.put, List.setIfInBounds_toArray, List.set_cons_succ, List.set_cons_zero]
      generalize wz.heap.size = cB at *
      refine twoH 6 11 (by kernel_rfl) rfl rfl rfl rfl (fun K hK => ?_) (fun K hK => ?_)
      · refine app_G (.tmp 33) (.tmp 35) (some 36) rfl rfl HOWN1.out HSn1.out.size ((HBX.out.below F35.out).below HSn1.out) (by rw [HN.out]; simp; omega) rfl rfl fun sv' wn2 hO hg => ?_
        rw [List.nil_append] at hO
        have HCP2 := Lib.hid hO.bytes
        have HSn2 := Lib.hid (HSn1.out.trans (grown_below hg HSn1.out.size fun k hk => by
          have e : k = cB := (Option.some.inj hk).symm
          rw [e]
          exact HCC.out))
        refine hK _ _ HSn2.out ?_
        clear hK K hO hg
        try simp only [Act.put, List.setIfInBounds_toArray, List.set_cons_succ, List.set_cons_zero]
        refine twoH 7 11 (by kernel_rfl) rfl rfl rfl rfl (fun K hK => ?_) (fun K hK => ?_)
        · go_simp
          refine (HP1.out ▸ apply_yes a x HA.out d _ (by rw [HN.out]; omega) HF.out _ HCP2.out (F36.out.below (Nat.le_refl _) HSn2.out)).mono ?_
          rintro e wn3 ⟨rfl, hb⟩
          have HSn3 := Lib.hid (stay HSn2.out hb)
          refine hK _ _ HSn3.out ?_
          clear hK K hb
          try simp only [Act.put, List.setIfInBounds_toArray, List.set_cons_succ, List.set_cons_zero]
          refine takeH 8 (some 29) (.tuple #[.agg (u8s p1).toArray, .int .i64 0]) rfl rfl (by kernel_rfl) (by kernel_rfl) (by kernel_rfl) (fun _ _ _ h => h) rfl (fun wq hS => by go_simp) HSn3.out ?_
          try simp only [Act.put, List.setIfInBounds_toArray, List.set_cons_succ, List.set_cons_zero]
          refine takeH 9 (some 38) (.agg (u8s p1).toArray) rfl rfl (by kernel_rfl) (by kernel_rfl) (by kernel_rfl) (fun _ _ _ h => h) rfl (fun wq hS => by go_simp) HSn3.out ?_
          try simp only [Act.put, List.setIfInBounds_toArray, List.set_cons_succ, List.set_cons_zero]
          refine takeH 10 (some 39) (.int .i64 0) rfl rfl (by kernel_rfl) (by kernel_rfl) (by kernel_rfl) (fun _ _ _ h => h) rfl (fun wq hS => by go_simp) HSn3.out ?_
          try simp only [Act.put, List.setIfInBounds_toArray, List.set_cons_succ, List.set_cons_zero]
          refine oneH 11 (by kernel_rfl) rfl rfl fun K hK => ?_
          refine wp_runTo (some 11) rfl _ _ (exec_alloc _ _ _ 23 rfl _ zero23) ?_
          have hb : Below wn3.heap.size wn3 (wn3.alloc (.cells (u8s (zeros 32)).toArray 23)) := (Below.refl _ _).alloc (Nat.le_refl _) _
          have hn : Blk (wn3.alloc (.cells (u8s (zeros 32)).toArray 23)) wn3.heap.size (u8s (zeros 32)) := Blk.newAt 23 _ _ rfl rfl
          generalize wn3.alloc (.cells (u8s (zeros 32)).toArray 23) = wn4 at *
          have HSn4 := Lib.hid (stay HSn3.out hb)
          have HV := Lib.hid hn
          have HGE : Hid (w34.heap.size ≤ wn3.heap.size) := Lib.hid HSn3.out.size
          refine hK _ _ HSn4.out ?_
          clear hK K hb hn
          try simp only [Act.put, List.setIfInBounds_toArray, List.set_cons_succ, List.set_cons_zero]
          generalize wn3.heap.size = gV at *
          refine oneH 12 (by kernel_rfl) rfl rfl fun K hK => ?_
          refine store_W none rfl rfl HV.out (by simp only [u8s_size, List.size_toArray, List.length_append, List.length_singleton, List.length_map, H1.out, HZ32.out]) (by rw [u8s_size, H1.out]; exact info23) (u8s_one _) rfl rfl fun wy hD hO => ?_
          have HSy := Lib.hid (HSn4.out.trans (hO.below HSn4.out.size fun k hk => by rw [hk]; exact HGE.out))
          refine hK _ _ HSy.out ?_
          clear hK K
          try simp only [Act.put, List.setIfInBounds_toArray, List.set_cons_succ, List.set_cons_zero]
          refine takeH 13 (some 12) (.int .i64 0) rfl rfl (by kernel_rfl) (by kernel_rfl) (by kernel_rfl) (fun _ _ _ h => h) rfl (fun wq hS => by go_simp) HSy.out ?_
          try simp only [Act.put, List.setIfInBounds_toArray, List.set_cons_succ, List.set_cons_zero]
          refine wpAnyH_done (by kernel_rfl) ?_ _
          go_wp2_with fail
          go_meet
          exact ⟨gV, rfl, rfl, hD, HSy.out⟩
        · refine wp_runTo (some 11) rfl _ _ (exec_alloc _ _ _ 23 rfl _ zero23) ?_
          have hb : Below wn2.heap.size wn2 (wn2.alloc (.cells (u8s (zeros 32)).toArray 23)) := (Below.refl _ _).alloc (Nat.le_refl _) _
          have hn : Blk (wn2.alloc (.cells (u8s (zeros 32)).toArray 23)) wn2.heap.size (u8s (zeros 32)) := Blk.newAt 23 _ _ rfl rfl
          generalize wn2.alloc (.cells (u8s (zeros 32)).toArray 23) = wn3 at *
          have HSn3 := Lib.hid (stay HSn2.out hb)
          have HV := Lib.hid hn
          have HGE : Hid (w34.heap.size ≤ wn2.heap.size) := Lib.hid HSn2.out.size
          have HCP3 := Lib.hid (HCP2.out.below hb)
          refine hK _ _ HSn3.out ?_
          clear hK K hb hn
          try simp only [Act.put, List.setIfInBounds_toArray, List.set_cons_succ, List.set_cons_zero]
          generalize wn2.heap.size = gV at *
          refine oneH 7 (by kernel_rfl) rfl rfl fun K hK => ?_
          go_simp
          refine (HP1.out ▸ apply_yes a x HA.out d _ (by rw [HN.out]; omega) HF.out _ HCP3.out (F36.out.below (Nat.le_refl _) HSn3.out)).mono ?_
          rintro e wn4 ⟨rfl, hb⟩
          have HSn4 := Lib.hid (stay HSn3.out hb)
          have HV4 := Lib.hid (HV.out.below hb HV.out.lt)
          refine hK _ _ HSn4.out ?_
          clear hK K hb
          try simp only [Act.put, List.setIfInBounds_toArray, List.set_cons_succ, List.set_cons_zero]
          refine takeH 8 (some 29) (.tuple #[.agg (u8s p1).toArray, .int .i64 0]) rfl rfl (by kernel_rfl) (by kernel_rfl) (by kernel_rfl) (fun _ _ _ h => h) rfl (fun wq hS => by go_simp) HSn4.out ?_
          try simp only [Act.put, List.setIfInBounds_toArray, List.set_cons_succ, List.set_cons_zero]
          refine takeH 9 (some 38) (.agg (u8s p1).toArray) rfl rfl (by kernel_rfl) (by kernel_rfl) (by kernel_rfl) (fun _ _ _ h => h) rfl (fun wq hS => by go_simp) HSn4.out ?_
          try simp only [Act.put, List.setIfInBounds_toArray, List.set_cons_succ, List.set_cons_zero]
          refine takeH 10 (some 39) (.int .i64 0) rfl rfl (by kernel_rfl) (by kernel_rfl) (by kernel_rfl) (fun _ _ _ h => h) rfl (fun wq hS => by go_simp) HSn4.out ?_
          try simp only [Act.put, List.setIfInBounds_toArray, List.set_cons_succ, List.set_cons_zero]
          refine oneH 12 (by kernel_rfl) rfl rfl fun K hK => ?_
          refine store_W none rfl rfl HV4.out (by simp only [u8s_size, List.size_toArray, List.length_append, List.length_singleton, List.length_map, H1.out, HZ32.out]) (by rw [u8s_size, H1.out]; exact info23) (u8s_one _) rfl rfl fun wy hD hO => ?_
          have HSy := Lib.hid (HSn4.out.trans (hO.below HSn4.out.size fun k hk => by rw [hk]; exact HGE.out))
          refine hK _ _ HSy.out ?_
          clear hK K
          try simp only [Act.put, List.setIfInBounds_toArray, List.set_cons_succ, List.set_cons_zero]
          refine takeH 13 (some 12) (.int .i64 0) rfl rfl (by kernel_rfl) (by kernel_rfl) (by kernel_rfl) (fun _ _ _ h => h) rfl (fun wq hS => by go_simp) HSy.out ?_
          try simp only [Act.put, List.setIfInBounds_toArray, List.set_cons_succ, List.set_cons_zero]
          refine wpAnyH_done (by kernel_rfl) ?_ _
          go_wp2_with fail
          go_meet
          exact ⟨gV, rfl, rfl, hD, HSy.out⟩
      · refine wp_runTo (some 11) rfl _ _ (exec_alloc _ _ _ 23 rfl _ zero23) ?_
        have hb : Below wn1.heap.size wn1 (wn1.alloc (.cells (u8s (zeros 32)).toArray 23)) := (Below.refl _ _).alloc (Nat.le_refl _) _
        have hn : Blk (wn1.alloc (.cells (u8s (zeros 32)).toArray 23)) wn1.heap.size (u8s (zeros 32)) := Blk.newAt 23 _ _ rfl rfl
        generalize wn1.alloc (.cells (u8s (zeros 32)).toArray 23) = wn2 at *
        have HSn2 := Lib.hid (stay HSn1.out hb)
        have HV := Lib.hid hn
        have HGE : Hid (w34.heap.size ≤ wn1.heap.size) := Lib.hid HSn1.out.size
        have HOWN2 := Lib.hid (HOWN1.out.below hb)
        have HCG : Hid (cB ≠ wn1.heap.size) := Lib.hid (by have := HCL.out; omega)
        refine hK _ _ HSn2.out ?_
        clear hK K hb hn
        try simp only [Act.put, List.setIfInBounds_toArray, List.set_cons_succ, List.set_cons_zero]
        generalize wn1.heap.size = gV at *
        refine oneH 6 (by kernel_rfl) rfl rfl fun K hK => ?_
        refine app_G (.tmp 33) (.tmp 35) (some 36) rfl rfl HOWN2.out HSn2.out.size ((HBX.out.below F35.out).below HSn2.out) (by rw [HN.out]; simp; omega) rfl rfl fun sv' wn3 hO hg => ?_
        rw [List.nil_append] at hO
        have HCP3 := Lib.hid hO.bytes
        have HSn3 := Lib.hid (HSn2.out.trans (grown_below hg HSn2.out.size fun k hk => by
          have e : k = cB := (Option.some.inj hk).symm
          rw [e]
          exact HCC.out))
        have HV3 := Lib.hid (HV.out.grown hg (fun e => HCG.out (Option.some.inj e)))
        refine hK _ _ HSn3.out ?_
        clear hK K hO hg
        try simp only [Act.put, List.setIfInBounds_toArray, List.set_cons_succ, List.set_cons_zero]
        refine oneH 7 (by kernel_rfl) rfl rfl fun K hK => ?_
        go_simp
        refine (HP1.out ▸ apply_yes a x HA.out d _ (by rw [HN.out]; omega) HF.out _ HCP3.out (F36.out.below (Nat.le_refl _) HSn3.out)).mono ?_
        rintro e wn4 ⟨rfl, hb⟩
        have HSn4 := Lib.hid (stay HSn3.out hb)
        have HV4 := Lib.hid (HV3.out.below hb HV3.out.lt)
        refine hK _ _ HSn4.out ?_
        clear hK K hb
        try simp only [Act.put, List.setIfInBounds_toArray, List.set_cons_succ, List.set_cons_zero]
        refine takeH 8 (some 29) (.tuple #[.agg (u8s p1).toArray, .int .i64 0]) rfl rfl (by kernel_rfl) (by kernel_rfl) (by kernel_rfl) (fun _ _ _ h => h) rfl (fun wq hS => by go_simp) HSn4.out ?_
        try simp only [Act.put, List.setIfInBounds_toArray, List.set_cons_succ, List.set_cons_zero]
        refine takeH 9 (some 38) (.agg (u8s p1).toArray) rfl rfl (by kernel_rfl) (by kernel_rfl) (by kernel_rfl) (fun _ _ _ h => h) rfl (fun wq hS => by go_simp) HSn4.out ?_
        try simp only [Act.put, List.setIfInBounds_toArray, List.set_cons_succ, List.set_cons_zero]
        refine takeH 10 (some 39) (.int .i64 0) rfl rfl (by kernel_rfl) (by kernel_rfl) (by kernel_rfl) (fun _ _ _ h => h) rfl (fun wq hS => by go_simp) HSn4.out ?_
        try simp only [Act.put, List.setIfInBounds_toArray, List.set_cons_succ, List.set_cons_zero]
        refine oneH 12 (by kernel_rfl) rfl rfl fun K hK => ?_
        refine store_W none rfl rfl HV4.out (by simp only [u8s_size, List.size_toArray, List.length_append, List.length_singleton, List.length_map, H1.out, HZ32.out]) (by rw [u8s_size, H1.out]; exact info23) (u8s_one _) rfl rfl fun wy hD hO => ?_
        have HSy := Lib.hid (HSn4.out.trans (hO.below HSn4.out.size fun k hk => by rw [hk]; exact HGE.out))
        refine hK _ _ HSy.out ?_
        clear hK K
        try simp only [Act.put, List.setIfInBounds_toArray, List.set_cons_succ, List.set_cons_zero]
        refine takeH 13 (some 12) (.int .i64 0) rfl rfl (by kernel_rfl) (by kernel_rfl) (by kernel_rfl) (fun _ _ _ h => h) rfl (fun wq hS => by go_simp) HSy.out ?_
        try simp only [Act.put, List.setIfInBounds_toArray, List.set_cons_succ, List.set_cons_zero]
        refine wpAnyH_done (by kernel_rfl) ?_ _
        go_wp2_with fail
        go_meet
        exact ⟨gV, rfl, rfl, hD, HSy.out⟩
    · refine wp_runTo (some 11) rfl _ _ (exec_alloc _ _ _ 23 rfl _ zero23) ?_
      have hb : Below wz.heap.size wz (wz.alloc (.cells (u8s (zeros 32)).toArray 23)) := (Below.refl _ _).alloc (Nat.le_refl _) _
      have hn : Blk (wz.alloc (.cells (u8s (zeros 32)).toArray 23)) wz.heap.size (u8s (zeros 32)) := Blk.newAt 23 _ _ rfl rfl
      generalize wz.alloc (.cells (u8s (zeros 32)).toArray 23) = wn1 at *
      have HSn1 := Lib.hid (stay HS0.out hb)
      have HV := Lib.hid hn
      have HGE : Hid (w34.heap.size ≤ wz.heap.size) := Lib.hid HS0.out.size
      refine hK _ _ HSn1.out ?_
      clear hK K hb hn
      try simp only [Act.put, List.setIfInBounds_toArray, List.set_cons_succ, List.set_cons_zero]
      generalize wz.heap.size = gV at *
      refine oneH 3 (by kernel_rfl) rfl rfl fun K hK => ?_
      refine wp_runTo (some 33) rfl (.slice (some ⟨wn1.heap.size, 0, none⟩) 0 0) (wn1.alloc (.cells #[] 5)) (by go_simp) ?_
      have hb : Below wn1.heap.size wn1 (wn1.alloc (.cells #[] 5)) := (Below.refl _ _).alloc (Nat.le_refl _) _
      have hO := Own.lit wn1 w34.heap.size HSn1.out.size [] (by simp) #[] rfl
      have hlt : wn1.heap.size < (wn1.alloc (.cells #[] 5)).heap.size := by simp
      generalize wn1.alloc (.cells #[] 5) = wn2 at *
      have HSn2 := Lib.hid (stay HSn1.out hb)
      have HOWN2 := Lib.hid hO
      have HCC : Hid (w34.heap.size ≤ wn1.heap.size) := Lib.hid HSn1.out.size
      have HV2 := Lib.hid (HV.out.below hb HV.out.lt)
      have HCG : Hid (wn1.heap.size ≠ gV) := Lib.hid (Nat.ne_of_gt HV.out.lt)
      have HCL : Hid (wn1.heap.size < wn2.heap.size) := Lib.hid hlt
      refine hK _ _ HSn2.out ?_
      clear hK K hb hO hlt
      try simp only [Act.put, List.setIfInBounds_toArray, List.set_cons_succ, List.set_cons_zero]
      generalize wn1.heap.size = cB at *
      refine oneH 6 (by kernel_rfl) rfl rfl fun K hK => ?_
      refine app_G (.tmp 33) (.tmp 35) (some 36) rfl rfl HOWN2.out HSn2.out.size ((HBX.out.below F35.out).below HSn2.out) (by rw [HN.out]; simp; omega) rfl rfl fun sv' wn3 hO hg => ?_
      rw [List.nil_append] at hO
      have HCP3 := Lib.hid hO.bytes
      have HSn3 := Lib.hid (HSn2.out.trans (grown_below hg HSn2.out.size fun k hk => by
        have e : k = cB := (Option.some.inj hk).symm
        rw [e]
        exact HCC.out))
      have HV3 := Lib.hid (HV2.out.grown hg (fun e => HCG.out (Option.some.inj e)))
      refine hK _ _ HSn3.out ?_
      clear hK K hO hg
      try simp only [Act.put, List.setIfInBounds_toArray, List.set_cons_succ, List.set_cons_zero]
      refine oneH 7 (by kernel_rfl) rfl rfl fun K hK => ?_
      go_simp
      refine (HP1.out ▸ apply_yes a x HA.out d _ (by rw [HN.out]; omega) HF.out _ HCP3.out (F36.out.below (Nat.le_refl _) HSn3.out)).mono ?_
      rintro e wn4 ⟨rfl, hb⟩
      have HSn4 := Lib.hid (stay HSn3.out hb)
      have HV4 := Lib.hid (HV3.out.below hb HV3.out.lt)
      refine hK _ _ HSn4.out ?_
      clear hK K hb
      try simp only [Act.put, List.setIfInBounds_toArray, List.set_cons_succ, List.set_cons_zero]
      refine takeH 8 (some 29) (.tuple #[.agg (u8s p1).toArray, .int .i64 0]) rfl rfl (by kernel_rfl) (by kernel_rfl) (by kernel_rfl) (fun _ _ _ h => h) rfl (fun wq hS => by go_simp) HSn4.out ?_
      try simp only [Act.put, List.setIfInBounds_toArray, List.set_cons_succ, List.set_cons_zero]
      refine takeH 9 (some 38) (.agg (u8s p1).toArray) rfl rfl (by kernel_rfl) (by kernel_rfl) (by kernel_rfl) (fun _ _ _ h => h) rfl (fun wq hS => by go_simp) HSn4.out ?_
      try simp only [Act.put, List.setIfInBounds_toArray, List.set_cons_succ, List.set_cons_zero]
      refine takeH 10 (some 39) (.int .i64 0) rfl rfl (by kernel_rfl) (by kernel_rfl) (by kernel_rfl) (fun _ _ _ h => h) rfl (fun wq hS => by go_simp) HSn4.out ?_
      try simp only [Act.put, List.setIfInBounds_toArray, List.set_cons_succ, List.set_cons_zero]
      refine oneH 12 (by kernel_rfl) rfl rfl fun K hK => ?_
      refine store_W none rfl rfl HV4.out (by simp only [u8s_size, List.size_toArray, List.length_append, List.length_singleton, List.length_map, H1.out, HZ32.out]) (by rw [u8s_size, H1.out]; exact info23) (u8s_one _) rfl rfl fun wy hD hO => ?_
      have HSy := Lib.hid (HSn4.out.trans (hO.below HSn4.out.size fun k hk => by rw [hk]; exact HGE.out))
      refine hK _ _ HSy.out ?_
      clear hK K
      try simp only [Act.put, List.setIfInBounds_toArray, List.set_cons_succ, List.set_cons_zero]
      refine takeH 13 (some 12) (.int .i64 0) rfl rfl (by kernel_rfl) (by kernel_rfl) (by kernel_rfl) (fun _ _ _ h => h) rfl (fun wq hS => by go_simp) HSy.out ?_
      try simp only [Act.put, List.setIfInBounds_toArray, List.set_cons_succ, List.set_cons_zero]
      refine wpAnyH_done (by kernel_rfl) ?_ _
      go_wp2_with fail
      go_meet
      exact ⟨gV, rfl, rfl, hD, HSy.out⟩
  case rest =>
    obtain ⟨g5, rfl, rfl, hD, hb⟩ := hcut

    have F145 := Lib.hid (F35.out.trans (hb.mono F35.out.size))
    have F146 := Lib.hid (F36.out.below (Nat.le_refl _) hb)
    have F147 := Lib.hid (F37.out.below hb F37.out.lt)
    have F148 := Lib.hid (F38.out.below hb F38.out.lt)
    have F149 := Lib.hid (F39.out.below hb F39.out.lt)
    have F150 := Lib.hid (F40.out.below hb)
    have F151 := Lib.hid (F41.out.below hb)
    have F152 := Lib.hid (F42.out.below hb F42.out.lt)
    clear F35 F36 F37 F38 F39 F40 F41 F42
    have FP : Hid (Blk wc g5 (u8s p1)) := Lib.hid hD
    clear hD hb
    go_upto_region 6 with fail
    refine wp_region_lit ?_
    try simp only [List.append_eq, List.cons_append, List.nil_append]
    refine load23 (cs := (u8s a).toArray) (Blk.all F147.out rfl) (by rw [u8s_size, HA.out]) rfl rfl ?_
    try simp only [Act.put, List.setIfInBounds_toArray, List.set_cons_succ, List.set_cons_zero]
    refine takeL (.pointer (some ⟨g17, 0, none⟩)) rfl (by go_simp) ?_
    try simp only [Act.put, List.setIfInBounds_toArray, List.set_cons_succ, List.set_cons_zero]
    refine takeL (.int .i64 d) rfl (by have hq := F149.out.cell (i := 0) (v := .int .i64 d) rfl; go_simp) ?_
    try simp only [Act.put, List.setIfInBounds_toArray, List.set_cons_succ, List.set_cons_zero]
    refine takeL (.pointer (some ⟨g17, 1, none⟩)) rfl (by go_simp) ?_
    try simp only [Act.put, List.setIfInBounds_toArray, List.set_cons_succ, List.set_cons_zero]
    refine takeL (sx) rfl (by have hq := F149.out.cell (i := 1) (v := sx) rfl; go_simp) ?_
    try simp only [Act.put, List.setIfInBounds_toArray, List.set_cons_succ, List.set_cons_zero]
    refine wpList_op rfl fun K hK => ?_
    go_simp
    refine (HP1.out ▸ rapply_yes a x HA.out d sx n HN.out (by omega) HF.out _ (HBX.out.below F145.out)).mono ?_
    rintro e w153 ⟨rfl, hb⟩
    have F154 := Lib.hid (F145.out.trans (hb.mono F145.out.size))
    have F155 := Lib.hid (F146.out.below (Nat.le_refl _) hb)
    have F156 := Lib.hid (F147.out.below hb F147.out.lt)
    have F157 := Lib.hid (F148.out.below hb F148.out.lt)
    have F158 := Lib.hid (F149.out.below hb F149.out.lt)
    have F159 := Lib.hid (F150.out.below hb)
    have F160 := Lib.hid (F151.out.below hb)
    have F161 := Lib.hid (F152.out.below hb F152.out.lt)
    have F162 := Lib.hid (FP.out.below hb FP.out.lt)
    clear F145 F146 F147 F148 F149 F150 F151 F152 FP
    clear hb
    refine hK _ _ ?_
    clear hK K
    try simp only [Act.put, List.setIfInBounds_toArray, List.set_cons_succ, List.set_cons_zero]
    refine alloc_g zero37 rfl ?_
    intro w163 hA hb hl
    try simp only [Act.put, List.setIfInBounds_toArray, List.set_cons_succ, List.set_cons_zero]
    clear hl
    refine store_all (cs := (u8s p1 ++ [Value.bool true]).toArray) hA (by simp only [u8s_size, List.size_toArray, List.length_append, List.length_singleton, List.length_map, H1.out, HZ32.out]) (by rw [got_size H1.out]; exact info37) (got_one _ _) rfl rfl rfl ?_
    intro w164 hD hO hlD
    try simp only [Act.put, List.setIfInBounds_toArray, List.set_cons_succ, List.set_cons_zero]
    clear hlD hA
    have hbb : Below w153.heap.size w153 w164 := hb.trans (hO.below hb.size fun k hk => Nat.le_of_eq hk.symm)
    clear hb hO
    have F165 := Lib.hid (F154.out.trans (hbb.mono F154.out.size))
    have F166 := Lib.hid (F155.out.below (Nat.le_refl _) hbb)
    have F167 := Lib.hid (F156.out.below hbb F156.out.lt)
    have F168 := Lib.hid (F157.out.below hbb F157.out.lt)
    have F169 := Lib.hid (F158.out.below hbb F158.out.lt)
    have F170 := Lib.hid (F159.out.below hbb)
    have F171 := Lib.hid (F160.out.below hbb)
    have F172 := Lib.hid (F161.out.below hbb F161.out.lt)
    have F173 := Lib.hid (F162.out.below hbb F162.out.lt)
    clear F154 F155 F156 F157 F158 F159 F160 F161 F162
    have F174 : Hid (Blk w164 w153.heap.size (u8s p1 ++ [Value.bool true])) := Lib.hid hD
    clear hD hbb w163
    generalize w153.heap.size = g175 at *
    clear w153
    refine wpList_nil ?_
    go_upto_region 7 with fail
    refine wp_region_lit ?_
    try simp only [List.append_eq, List.cons_append, List.nil_append]
    refine takeL (.int .i64 o) rfl (by go_simp) ?_
    try simp only [Act.put, List.setIfInBounds_toArray, List.set_cons_succ, List.set_cons_zero]
    refine takeL (.pointer (some ⟨g43, 0, none⟩)) rfl (by go_simp) ?_
    try simp only [Act.put, List.setIfInBounds_toArray, List.set_cons_succ, List.set_cons_zero]
    refine takeL (.int .i64 o) rfl (by have hq := F172.out.cell (i := 0) (v := .int .i64 o) rfl; go_simp) ?_
    try simp only [Act.put, List.setIfInBounds_toArray, List.set_cons_succ, List.set_cons_zero]
    refine takeL (.bool true) rfl (by go_simp) ?_
    try simp only [Act.put, List.setIfInBounds_toArray, List.set_cons_succ, List.set_cons_zero]
    refine takeL (.bool true) rfl (by go_simp) ?_
    try simp only [Act.put, List.setIfInBounds_toArray, List.set_cons_succ, List.set_cons_zero]
    refine takeL (.slice (some ⟨p, q, none⟩) (m + 1) c) rfl (by go_simp) ?_
    try simp only [Act.put, List.setIfInBounds_toArray, List.set_cons_succ, List.set_cons_zero]
    refine takeL (.pointer (some ⟨g43, 1, none⟩)) rfl (by go_simp) ?_
    try simp only [Act.put, List.setIfInBounds_toArray, List.set_cons_succ, List.set_cons_zero]
    refine takeL (.slice (some ⟨p2, q2, none⟩) (m + 1) c2) rfl (by have hq := F172.out.cell (i := 1) (v := .slice (some ⟨p2, q2, none⟩) (m + 1) c2) rfl; go_simp) ?_
    try simp only [Act.put, List.setIfInBounds_toArray, List.set_cons_succ, List.set_cons_zero]
    refine wpList_op rfl fun K hK => ?_
    go_simp
    refine (bytes_eq F170.out F171.out HMB.out).mono ?_
    rintro e w176 ⟨rfl, rfl⟩
    refine hK _ _ ?_
    clear hK K
    try simp only [Act.put, List.setIfInBounds_toArray, List.set_cons_succ, List.set_cons_zero]
    refine takeL (.bool true) rfl (by go_simp) ?_
    try simp only [Act.put, List.setIfInBounds_toArray, List.set_cons_succ, List.set_cons_zero]
    refine takeL (.bool true) rfl (by go_simp) ?_
    try simp only [Act.put, List.setIfInBounds_toArray, List.set_cons_succ, List.set_cons_zero]
    refine takeL (.bool true) rfl (by go_simp) ?_
    try simp only [Act.put, List.setIfInBounds_toArray, List.set_cons_succ, List.set_cons_zero]
    refine takeL (.pointer (some ⟨g43, 2, none⟩)) rfl (by go_simp) ?_
    try simp only [Act.put, List.setIfInBounds_toArray, List.set_cons_succ, List.set_cons_zero]
    refine takeL (.bool true) rfl (by have hq := F172.out.cell (i := 2) (v := .bool true) rfl; go_simp) ?_
    try simp only [Act.put, List.setIfInBounds_toArray, List.set_cons_succ, List.set_cons_zero]
    refine takeL (.bool true) rfl (by go_simp) ?_
    try simp only [Act.put, List.setIfInBounds_toArray, List.set_cons_succ, List.set_cons_zero]
    refine takeL (.bool true) rfl (by go_simp) ?_
    try simp only [Act.put, List.setIfInBounds_toArray, List.set_cons_succ, List.set_cons_zero]
    refine takeL (.bool true) rfl (by go_simp) ?_
    try simp only [Act.put, List.setIfInBounds_toArray, List.set_cons_succ, List.set_cons_zero]
    refine load23 (cs := (u8s p1).toArray) (Blk.all F173.out rfl) (by rw [u8s_size, H1.out]) rfl rfl ?_
    try simp only [Act.put, List.setIfInBounds_toArray, List.set_cons_succ, List.set_cons_zero]
    refine takeL (.pointer (some ⟨g175, 0, none⟩)) rfl (by go_simp) ?_
    try simp only [Act.put, List.setIfInBounds_toArray, List.set_cons_succ, List.set_cons_zero]
    refine load23 (cs := (u8s p1).toArray) (got_at F174.out) (by rw [u8s_size, H1.out]) rfl rfl ?_
    try simp only [Act.put, List.setIfInBounds_toArray, List.set_cons_succ, List.set_cons_zero]
    refine takeL (.bool true) rfl (by exact exec_page (decide_eq_true rfl) H1.out H1.out _ _ _ rfl rfl rfl) ?_
    try simp only [Act.put, List.setIfInBounds_toArray, List.set_cons_succ, List.set_cons_zero]
    refine takeL (.bool true) rfl (by go_simp) ?_
    try simp only [Act.put, List.setIfInBounds_toArray, List.set_cons_succ, List.set_cons_zero]
    refine takeL (.bool true) rfl (by go_simp) ?_
    try simp only [Act.put, List.setIfInBounds_toArray, List.set_cons_succ, List.set_cons_zero]
    refine takeL (.int .i64 0) rfl (by go_simp) ?_
    try simp only [Act.put, List.setIfInBounds_toArray, List.set_cons_succ, List.set_cons_zero]
    refine takeL (.bool true) rfl (by go_simp) ?_
    try simp only [Act.put, List.setIfInBounds_toArray, List.set_cons_succ, List.set_cons_zero]
    refine takeL (.pointer (some ⟨g175, 32, none⟩)) rfl (by go_simp) ?_
    try simp only [Act.put, List.setIfInBounds_toArray, List.set_cons_succ, List.set_cons_zero]
    refine takeL (.bool true) rfl (by have hq := F174.out.cell (i := 32) (v := .bool true) (got_ok H1.out); go_simp) ?_
    try simp only [Act.put, List.setIfInBounds_toArray, List.set_cons_succ, List.set_cons_zero]
    refine takeL (.bool true) rfl (by go_simp) ?_
    try simp only [Act.put, List.setIfInBounds_toArray, List.set_cons_succ, List.set_cons_zero]
    refine takeL (.bool true) rfl (by go_simp) ?_
    try simp only [Act.put, List.setIfInBounds_toArray, List.set_cons_succ, List.set_cons_zero]
    refine takeL (.bool true) rfl (by go_simp) ?_
    try simp only [Act.put, List.setIfInBounds_toArray, List.set_cons_succ, List.set_cons_zero]
    refine takeL (.int .i64 0) rfl (by go_simp) ?_
    try simp only [Act.put, List.setIfInBounds_toArray, List.set_cons_succ, List.set_cons_zero]
    refine takeL (.bool true) rfl (by go_simp) ?_
    try simp only [Act.put, List.setIfInBounds_toArray, List.set_cons_succ, List.set_cons_zero]
    refine takeL (.bool true) rfl (by go_simp) ?_
    try simp only [Act.put, List.setIfInBounds_toArray, List.set_cons_succ, List.set_cons_zero]
    refine passL rfl ?_
    try simp only [Act.put, List.setIfInBounds_toArray, List.set_cons_succ, List.set_cons_zero]
    refine passL rfl ?_
    try simp only [Act.put, List.setIfInBounds_toArray, List.set_cons_succ, List.set_cons_zero]
    refine takeL (.bool true) rfl (by go_simp) ?_
    try simp only [Act.put, List.setIfInBounds_toArray, List.set_cons_succ, List.set_cons_zero]
    refine takeL (.bool true) rfl (by go_simp) ?_
    try simp only [Act.put, List.setIfInBounds_toArray, List.set_cons_succ, List.set_cons_zero]
    refine takeL (.bool true) rfl (by go_simp) ?_
    try simp only [Act.put, List.setIfInBounds_toArray, List.set_cons_succ, List.set_cons_zero]
    refine wpList_op rfl fun K hK => ?_
    go_simp
    refine (wakes_any _ F166.out).mono ?_
    rintro e w177 ⟨rfl, hb⟩
    have F178 := Lib.hid (F165.out.trans (hb.mono F165.out.size))
    have F179 := Lib.hid (F166.out.below (Nat.le_refl _) hb)
    have F180 := Lib.hid (F167.out.below hb F167.out.lt)
    have F181 := Lib.hid (F168.out.below hb F168.out.lt)
    have F182 := Lib.hid (F169.out.below hb F169.out.lt)
    have F183 := Lib.hid (F170.out.below hb)
    have F184 := Lib.hid (F171.out.below hb)
    have F185 := Lib.hid (F172.out.below hb F172.out.lt)
    have F186 := Lib.hid (F173.out.below hb F173.out.lt)
    have F187 := Lib.hid (F174.out.below hb F174.out.lt)
    clear F165 F166 F167 F168 F169 F170 F171 F172 F173 F174
    clear hb
    refine hK _ _ ?_
    clear hK K
    try simp only [Act.put, List.setIfInBounds_toArray, List.set_cons_succ, List.set_cons_zero]
    refine takeL (.bool true) rfl (by go_simp) ?_
    try simp only [Act.put, List.setIfInBounds_toArray, List.set_cons_succ, List.set_cons_zero]
    refine takeL (.bool true) rfl (by go_simp) ?_
    try simp only [Act.put, List.setIfInBounds_toArray, List.set_cons_succ, List.set_cons_zero]
    refine wpList_nil ?_
    go_wp2_with fail
    go_ret
    exact ⟨rfl, F178.out⟩
theorem tells_any (a : List Int) (ha : Pg a) (b : List Int) (hb : Pg b) (ox : Int) (hox : Small ox) (sx : Value) (x : List Int) (hyx : ∀ z ∈ x, Byte z) (hnx : x.length ≤ 9223372036854775807) (w : World) (hbx : BytesAt w sx x) (hev : ErrVar w) : Calls Tryd.prog 3 #[.agg (u8s a).toArray, .agg (u8s b).toArray, .agg #[.int .i64 ox, sx]] w fun e w' => e = .returned (.bool true) ∧ Below w.heap.size w w' := by
  obtain ⟨n, hn⟩ : ∃ n, x.length = n := ⟨_, rfl⟩
  rcases Nat.lt_or_ge 300 n with h | h
  · exact tells_long a b ha hb ox sx x hyx n hn h w hbx hev
  obtain ⟨o, e, hs⟩ := exists_span ha hb
  have hle := hs.le
  by_cases hh : o = e ∨ 16 < e - o
  · by_cases hf : Fits ox x
    · obtain ⟨d, rfl⟩ := fits_nat hf
      exact tells_none_fit a b ha hb d sx x hyx n hn h o e hs hh hf w hbx hev
    · exact tells_none_out a b ha hb ox sx x hyx n hn h o e hs hh hf w hbx hev
  · obtain ⟨m, rfl⟩ : ∃ m, e = o + m + 1 := ⟨e - o - 1, by omega⟩
    by_cases hf : Fits ox x
    · obtain ⟨d, rfl⟩ := fits_nat hf
      exact tells_told_fit a b ha hb d sx x hyx n hn h o m hs (by omega) hf w hbx hev
    · exact tells_told_out a b ha hb ox sx x hyx n hn h o m hs (by omega) hf w hbx hev
end Go.Proofs.YtdfkpjffmjeffaaDoor
