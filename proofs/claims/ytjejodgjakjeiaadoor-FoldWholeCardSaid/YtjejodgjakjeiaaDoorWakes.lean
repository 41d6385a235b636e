/- The statements' first calls: an ordinary chain, one turned round, none. -/
import Derived.Test.YtjejodgjakjeiaaDoorLead
namespace Go.Proofs.YtjejodgjakjeiaaDoor
set_option linter.unusedSimpArgs false
set_option linter.unusedVariables false
open Go.RowKit

abbrev D2 : Bk := Bk.delta 2 1 [9] 8
abbrev P6 : List Int := filled 7 32
abbrev I2 : Bk := Bk.image 2 P6
def P7 : List Int := layI P6 1 [9]
theorem p6_pg : Pg P6 := ⟨by decide, fun y hy => by
  simp [filled, zeros] at hy
  subst hy
  exact ⟨by decide, by decide⟩⟩
theorem p7_len : P7.length = 32 := by decide
theorem d2_wf : D2.Wf := Bk.delta_wf ⟨by decide, by decide⟩ ⟨by decide, by decide⟩ ⟨by decide, by decide⟩ (by decide) (fun x hx => by
  simp at hx
  subst hx
  exact ⟨by decide, by decide⟩)
theorem i2_wf : I2.Wf := Bk.image_wf ⟨by decide, by decide⟩ p6_pg
theorem told1 : told [D2, I2] = P7 ∧ code [D2, I2] = 0 := by decide
theorem told2 : told [I2, D2] = zeros 32 ∧ code [I2, D2] = 11 := by decide
theorem told3 : told [] = zeros 32 ∧ code [] = 0 := by decide
theorem page1 (bv cv sv : Value) (w : World) (h : BlksAt w sv [(D2, bv), (I2, cv)]) (hev : ErrVar w) : Calls Tryd.prog 8 #[sv] w fun e w' => e = .returned (.tuple #[.agg (u8s P7).toArray, .int .i64 0]) ∧ Below w.heap.size w w' := by
  have := page_any _ sv w h hev
  rwa [show [(D2, bv), (I2, cv)].map (·.1) = [D2, I2] from rfl, told1.1, told1.2] at this
theorem page2 (bv cv sv : Value) (w : World) (h : BlksAt w sv [(I2, cv), (D2, bv)]) (hev : ErrVar w) : Calls Tryd.prog 8 #[sv] w fun e w' => e = .returned (.tuple #[.agg (u8s (zeros 32)).toArray, .int .i64 11]) ∧ Below w.heap.size w w' := by
  have := page_any _ sv w h hev
  rwa [show [(I2, cv), (D2, bv)].map (·.1) = [I2, D2] from rfl, told2.1, told2.2] at this
theorem page3 (w : World) (hev : ErrVar w) : Calls Tryd.prog 8 #[.slice none 0 0] w fun e w' => e = .returned (.tuple #[.agg (u8s (zeros 32)).toArray, .int .i64 0]) ∧ Below w.heap.size w w' := by
  have := page_any [] _ w (BlksAt.nil w none 0) hev
  rwa [show ([] : List (Bk × Value)).map (·.1) = [] from rfl, told3.1, told3.2] at this
theorem lit_W2 {b c : Bk} {bv cv : Value} {o : Oper} {a : Act} {w : World} {K : Act → World → Prop} {Q : Exit → Act → World → Prop} (x y : Operand) (dst : Option Tmp) (hd : o.dst = dst) (ho : o.op = .buildSlice 22 2 #[(0, x), (1, y)])
    (hb : b.Wf) (hc : c.Wf) (hby : BytesAt w bv b.bytes) (hcy : BytesAt w cv c.bytes) (hx : a.eval x = .agg (b.arr bv)) (hy : a.eval y = .agg (c.arr cv))
    (hh : ∀ sv w', OwnB w' w.heap.size sv [(b, bv), (c, cv)] → Below w.heap.size w w' → K (a.put dst sv) w') : o.wp Tryd.prog a w K Q := by
  have h1 : ∀ y ∈ [(b, bv), (c, cv)], y.1.Wf := fun y hy => by
    rcases List.mem_cons.1 hy with rfl | hy
    · exact hb
    · simp at hy; subst hy; exact hc
  have h2 : ∀ y ∈ [(b, bv), (c, cv)], BytesAt w y.2 y.1.bytes := fun y hy => by
    rcases List.mem_cons.1 hy with rfl | hy
    · exact hby
    · simp at hy; subst hy; exact hcy
  have hr := run_lit w [(b, bv), (c, cv)] h1 (by simp) (by simp)
  exact wp_runTo dst hd _ _ (exec_buildSlice _ _ a.eval o 22 2 _ ho #[(0, .agg (b.arr bv)), (1, .agg (c.arr cv))] (by simp [hx, hy]) _ hr) (hh _ _ (OwnB.lit h1 h2 (by simp)) ((Below.refl _ _).alloc (Nat.le_refl _) _))
set_option maxRecDepth 100000 in
set_option maxHeartbeats 1000000 in
theorem wakes_any (w : World) (hev : ErrVar w) : Calls Tryd.prog 7 #[] w fun e w' => e = .returned (.bool true) ∧ Below w.heap.size w w' := by
  have HZ32 := Lib.hid (zeros_length 32)
  have HP6 := Lib.hid p6_pg.length
  have HP7 := Lib.hid p7_len
  have HWD := Lib.hid d2_wf
  have HWI := Lib.hid i2_wf
  have HBL : Hid (Below w.heap.size w w) := Lib.hid (Below.refl _ _)
  have HEV := Lib.hid hev
  have HE0 := Lib.hid hev.lt
  clear hev
  go_enter Tryd.func7, Tryd.ntmps7
  go_upto_region 1 with fail
  refine wp_region_lit ?_
  refine wpList_run (.slice (some ⟨w.heap.size, 0, none⟩) 1 1) (w.alloc (.cells #[.int .u8 9] 5)) rfl (by go_simp) ?_
  try simp only [Act.put, List.setIfInBounds_toArray, List.set_cons_succ, List.set_cons_zero]
  have hb := (Below.refl w.heap.size w).alloc (Nat.le_refl _) (.cells #[.int .u8 9] 5)
  have hB := (Own.lit w w.heap.size (Nat.le_refl _) [9] (by decide) #[.int .u8 9] rfl).bytes
  simp only [List.length_cons, List.length_nil, Nat.zero_add, Nat.reduceAdd] at hB
  generalize w.alloc (.cells #[.int .u8 9] 5) = w1 at *
  have F2 := Lib.hid (HBL.out.trans (hb.mono HBL.out.size))
  have F3 := Lib.hid (HEV.out.below (Nat.le_refl _) hb)
  clear HBL HEV
  have F4 : Hid (BytesAt w1 (.slice (some ⟨w.heap.size, 0, none⟩) 1 1) [9]) := Lib.hid hB
  clear hb hB
  refine takeL (.agg (D2.arr (.slice (some ⟨w.heap.size, 0, none⟩) 1 1))) rfl (exec_build _ _ _ _ 30 _ rfl #[(0, .int .i64 2), (1, .int .i64 2), (3, .int .i64 1), (4, .slice (some ⟨w.heap.size, 0, none⟩) 1 1), (5, .int .i64 8)] (by simp [go_sem]) _ (run_build _ 30 _ _ (built30d 2 1 [9] 8 _ _ _))) ?_
  try simp only [Act.put, List.setIfInBounds_toArray, List.set_cons_succ, List.set_cons_zero]
  refine wpList_op rfl fun K hK => ?_
  go_simp
  refine (leaf_any 7 _).mono ?_
  rintro e w5 ⟨rfl, hb⟩
  have F6 := Lib.hid (F2.out.trans (hb.mono F2.out.size))
  have F7 := Lib.hid (F3.out.below (Nat.le_refl _) hb)
  have F8 := Lib.hid (F4.out.below hb)
  clear F2 F3 F4
  clear hb
  refine hK _ _ ?_
  clear hK K
  try simp only [Act.put, List.setIfInBounds_toArray, List.set_cons_succ, List.set_cons_zero]
  refine takeL (.agg (I2.arr (.slice none 0 0))) rfl (exec_build _ _ _ _ 30 _ rfl #[(0, .int .i64 1), (1, .int .i64 2), (2, .agg (u8s P6).toArray)] (by simp [go_sem]) _ (run_build _ 30 _ _ (built30i 2 HP6.out))) ?_
  try simp only [Act.put, List.setIfInBounds_toArray, List.set_cons_succ, List.set_cons_zero]
  refine lit_L2 HWD.out HWI.out F8.out (BytesAt.nil _ 0 none) rfl rfl rfl ?_
  intro sl w9 hO hb
  try simp only [Act.put, List.setIfInBounds_toArray, List.set_cons_succ, List.set_cons_zero]
  have F10 := Lib.hid (F6.out.trans (hb.mono F6.out.size))
  have F11 := Lib.hid (F7.out.below (Nat.le_refl _) hb)
  have F12 := Lib.hid (F8.out.below hb)
  clear F6 F7 F8
  have F13 := Lib.hid hO.blks
  clear hb hO
  refine takeL (sl) rfl (by go_simp) ?_
  try simp only [Act.put, List.setIfInBounds_toArray, List.set_cons_succ, List.set_cons_zero]
  refine wpList_nil ?_
  go_upto_region 2 with fail
  refine wp_region_lit ?_
  refine takeL (sl) rfl (by go_simp) ?_
  try simp only [Act.put, List.setIfInBounds_toArray, List.set_cons_succ, List.set_cons_zero]
  refine wpList_op rfl fun K hK => ?_
  go_simp
  refine (page1 _ _ _ _ F13.out F11.out).mono ?_
  rintro e w14 ⟨rfl, hb⟩
  have F15 := Lib.hid (F10.out.trans (hb.mono F10.out.size))
  have F16 := Lib.hid (F11.out.below (Nat.le_refl _) hb)
  have F17 := Lib.hid (F12.out.below hb)
  have F18 := Lib.hid (F13.out.below hb)
  clear F10 F11 F12 F13
  clear hb
  refine hK _ _ ?_
  clear hK K
  try simp only [Act.put, List.setIfInBounds_toArray, List.set_cons_succ, List.set_cons_zero]
  refine takeL (.tuple #[.agg (u8s P7).toArray, .int .i64 0]) rfl (by go_simp) ?_
  try simp only [Act.put, List.setIfInBounds_toArray, List.set_cons_succ, List.set_cons_zero]
  refine takeL (.agg (u8s P7).toArray) rfl (by go_simp) ?_
  try simp only [Act.put, List.setIfInBounds_toArray, List.set_cons_succ, List.set_cons_zero]
  refine takeL (.int .i64 0) rfl (by go_simp) ?_
  try simp only [Act.put, List.setIfInBounds_toArray, List.set_cons_succ, List.set_cons_zero]
  refine alloc_g zero26 rfl ?_
  intro w19 hA hb hl
  try simp only [Act.put, List.setIfInBounds_toArray, List.set_cons_succ, List.set_cons_zero]
  clear hl
  refine store_all (cs := (u8s P7).toArray) hA (by simp only [u8s_size, List.size_toArray, List.length_append, List.length_singleton, List.length_map, HP7.out, HZ32.out]) (by rw [u8s_size, HP7.out]; exact info26) (u8s_one _) rfl rfl rfl ?_
  intro w20 hD hO hlD
  try simp only [Act.put, List.setIfInBounds_toArray, List.set_cons_succ, List.set_cons_zero]
  clear hlD hA
  have hbb : Below w14.heap.size w14 w20 := hb.trans (hO.below hb.size fun k hk => Nat.le_of_eq hk.symm)
  clear hb hO
  have HG21 : Hid (w.heap.size ≤ w14.heap.size) := Lib.hid F15.out.size
  have F22 := Lib.hid (F15.out.trans (hbb.mono F15.out.size))
  have F23 := Lib.hid (F16.out.below (Nat.le_refl _) hbb)
  have F24 := Lib.hid (F17.out.below hbb)
  have F25 := Lib.hid (F18.out.below hbb)
  clear F15 F16 F17 F18
  have F26 : Hid (Blk w20 w14.heap.size (u8s P7)) := Lib.hid hD
  clear hD hbb w19
  generalize w14.heap.size = g27 at *
  clear w14
  refine takeL (.int .i64 0) rfl (by go_simp) ?_
  try simp only [Act.put, List.setIfInBounds_toArray, List.set_cons_succ, List.set_cons_zero]
  refine wpList_nil ?_
  obtain ⟨g, o, cap, he, hg, hc⟩ := F25.out.has (by simp)
  have HE : Hid (sl = .slice (some ⟨g, o, none⟩) 2 cap) := Lib.hid he
  have HG := Lib.hid hg
  obtain ⟨-, b0, h0⟩ := hc 0 _ rfl
  obtain ⟨-, b1, h1⟩ := hc 1 _ rfl
  have A0 : Hid (At w20 g o (D2.arr (.slice (some ⟨w.heap.size, 0, none⟩) 1 1))) := Lib.hid h0
  have A1 : Hid (At w20 g (o + 45) (I2.arr (.slice none 0 0))) := Lib.hid h1
  have B0 := Lib.hid b0
  have B1 := Lib.hid b1
  clear he hg hc b0 b1 h0 h1
  go_upto_region 3 with fail
  go_cut [4, 5] from 4 to 28 (fun s4 s5 wx => ∃ g : Nat, s4 = .pointer (some ⟨g, 0, none⟩) ∧ s5 = .int .i64 11 ∧ Blk wx g (u8s (zeros 32)) ∧ Below w20.heap.size w20 wx)
  case first =>
    refine startH (fun wq => Below w20.heap.size w20 wq) (by kernel_rfl) ?_
    have HS0 : Hid (Below w20.heap.size w20 w20.drew) := Lib.hid (Below.refl _ _).drew
    generalize w20.drew = wz at *
    refine takeH 0 (some 19) (sl) rfl rfl (by kernel_rfl) (by kernel_rfl) (by kernel_rfl) (fun _ _ _ h => h) rfl (fun wq hS => by go_simp) HS0.out ?_
    try simp only [Act.put, List.setIfInBounds_toArray, List.set_cons_succ, List.set_cons_zero]
    refine takeH 1 (some 20) (.pointer (some ⟨g, o + 45, none⟩)) rfl rfl (by kernel_rfl) (by kernel_rfl) (by kernel_rfl) (fun _ _ _ h => h) rfl (fun wq hS => by have hq := HE.out; rw [hq]; go_simp) HS0.out ?_
    try simp only [Act.put, List.setIfInBounds_toArray, List.set_cons_succ, List.set_cons_zero]
    refine takeH 2 (some 21) (.agg (I2.arr (.slice none 0 0))) rfl rfl (by kernel_rfl) (by kernel_rfl) (by kernel_rfl) (fun _ _ _ h => h) rfl (fun wq hS => by exact exec_load_at wq _ _ 30 _ rfl g (o + 45) rfl (I2.arr (.slice none 0 0)) _ Tryd.underlying30 rfl (info30s HWI.out _) (A1.out.below hS HG.out)) HS0.out ?_
    try simp only [Act.put, List.setIfInBounds_toArray, List.set_cons_succ, List.set_cons_zero]
    refine takeH 3 (some 22) (sl) rfl rfl (by kernel_rfl) (by kernel_rfl) (by kernel_rfl) (fun _ _ _ h => h) rfl (fun wq hS => by go_simp) HS0.out ?_
    try simp only [Act.put, List.setIfInBounds_toArray, List.set_cons_succ, List.set_cons_zero]
    refine takeH 4 (some 23) (.pointer (some ⟨g, o, none⟩)) rfl rfl (by kernel_rfl) (by kernel_rfl) (by kernel_rfl) (fun _ _ _ h => h) rfl (fun wq hS => by have hq := HE.out; rw [hq]; go_simp) HS0.out ?_
    try simp only [Act.put, List.setIfInBounds_toArray, List.set_cons_succ, List.set_cons_zero]
    refine takeH 5 (some 24) (.agg (D2.arr (.slice (some ⟨w.heap.size, 0, none⟩) 1 1))) rfl rfl (by kernel_rfl) (by kernel_rfl) (by kernel_rfl) (fun _ _ _ h => h) rfl (fun wq hS => by exact exec_load_at wq _ _ 30 _ rfl g (o) rfl (D2.arr (.slice (some ⟨w.heap.size, 0, none⟩) 1 1)) _ Tryd.underlying30 rfl (info30s HWD.out _) (A0.out.below hS HG.out)) HS0.out ?_
    try simp only [Act.put, List.setIfInBounds_toArray, List.set_cons_succ, List.set_cons_zero]
    refine twoH 6 11 (by kernel_rfl) rfl rfl rfl rfl (fun K hK => ?_) (fun K hK => ?_)
    · refine lit_W2 (b := I2) (c := D2) (bv := .slice none 0 0) (cv := .slice (some ⟨w.heap.size, 0, none⟩) 1 1) (.tmp 21) (.tmp 24) (some 25) rfl rfl HWI.out HWD.out (B1.out.below HS0.out) (B0.out.below HS0.out) rfl rfl fun sm wn1 hO hb => ?_
      have HSn1 := Lib.hid (stay HS0.out hb)
      have HBK1 := Lib.hid hO.blks
      refine hK _ _ HSn1.out ?_
      clear hK K hb hO
      try simp only [Act.put, List.setIfInBounds_toArray, List.set_cons_succ, List.set_cons_zero]
      refine twoH 7 11 (by kernel_rfl) rfl rfl rfl rfl (fun K hK => ?_) (fun K hK => ?_)
      · go_simp
        refine (page2 _ _ _ _ HBK1.out (F23.out.below (Nat.le_refl _) HSn1.out)).mono ?_
        rintro e wn2 ⟨rfl, hb⟩
        have HSn2 := Lib.hid (stay HSn1.out hb)
        refine hK _ _ HSn2.out ?_
        clear hK K hb
        try simp only [Act.put, List.setIfInBounds_toArray, List.set_cons_succ, List.set_cons_zero]
        refine takeH 8 (some 18) (.tuple #[.agg (u8s (zeros 32)).toArray, .int .i64 11]) rfl rfl (by kernel_rfl) (by kernel_rfl) (by kernel_rfl) (fun _ _ _ h => h) rfl (fun wq hS => by go_simp) HSn2.out ?_
        try simp only [Act.put, List.setIfInBounds_toArray, List.set_cons_succ, List.set_cons_zero]
        refine takeH 9 (some 27) (.agg (u8s (zeros 32)).toArray) rfl rfl (by kernel_rfl) (by kernel_rfl) (by kernel_rfl) (fun _ _ _ h => h) rfl (fun wq hS => by go_simp) HSn2.out ?_
        try simp only [Act.put, List.setIfInBounds_toArray, List.set_cons_succ, List.set_cons_zero]
        refine takeH 10 (some 28) (.int .i64 11) rfl rfl (by kernel_rfl) (by kernel_rfl) (by kernel_rfl) (fun _ _ _ h => h) rfl (fun wq hS => by go_simp) HSn2.out ?_
        try simp only [Act.put, List.setIfInBounds_toArray, List.set_cons_succ, List.set_cons_zero]
        refine oneH 11 (by kernel_rfl) rfl rfl fun K hK => ?_
        refine wp_runTo (some 4) rfl _ _ (exec_alloc _ _ _ 26 rfl _ zero26) ?_
        have hb : Below wn2.heap.size wn2 (wn2.alloc (.cells (u8s (zeros 32)).toArray 26)) := (Below.refl _ _).alloc (Nat.le_refl _) _
        have hn : Blk (wn2.alloc (.cells (u8s (zeros 32)).toArray 26)) wn2.heap.size (u8s (zeros 32)) := Blk.newAt 26 _ _ rfl rfl
        generalize wn2.alloc (.cells (u8s (zeros 32)).toArray 26) = wn3 at *
        have HSn3 := Lib.hid (stay HSn2.out hb)
        have HV := Lib.hid hn
        have HGE : Hid (w20.heap.size ≤ wn2.heap.size) := Lib.hid HSn2.out.size
        refine hK _ _ HSn3.out ?_
        clear hK K hb hn
        try simp only [Act.put, List.setIfInBounds_toArray, List.set_cons_succ, List.set_cons_zero]
        generalize wn2.heap.size = gV at *
        refine oneH 12 (by kernel_rfl) rfl rfl fun K hK => ?_
        refine store_W none rfl rfl HV.out (by simp only [u8s_size, List.size_toArray, List.length_append, List.length_singleton, List.length_map, HZ32.out]) (by rw [u8s_size, HZ32.out]; exact info26) (u8s_one _) rfl rfl fun wy hD hO => ?_
        have HSy := Lib.hid (HSn3.out.trans (hO.below HSn3.out.size fun k hk => by rw [hk]; exact HGE.out))
        refine hK _ _ HSy.out ?_
        clear hK K
        try simp only [Act.put, List.setIfInBounds_toArray, List.set_cons_succ, List.set_cons_zero]
        refine takeH 13 (some 5) (.int .i64 11) rfl rfl (by kernel_rfl) (by kernel_rfl) (by kernel_rfl) (fun _ _ _ h => h) rfl (fun wq hS => by go_simp) HSy.out ?_
        try simp only [Act.put, List.setIfInBounds_toArray, List.set_cons_succ, List.set_cons_zero]
        refine wpAnyH_done (by kernel_rfl) ?_ _
        go_wp2_with fail
        go_meet
        exact ⟨gV, rfl, rfl, hD, HSy.out⟩
      · refine wp_runTo (some 4) rfl _ _ (exec_alloc _ _ _ 26 rfl _ zero26) ?_
        have hb : Below wn1.heap.size wn1 (wn1.alloc (.cells (u8s (zeros 32)).toArray 26)) := (Below.refl _ _).alloc (Nat.le_refl _) _
        have hn : Blk (wn1.alloc (.cells (u8s (zeros 32)).toArray 26)) wn1.heap.size (u8s (zeros 32)) := Blk.newAt 26 _ _ rfl rfl
        generalize wn1.alloc (.cells (u8s (zeros 32)).toArray 26) = wn2 at *
        have HSn2 := Lib.hid (stay HSn1.out hb)
        have HV := Lib.hid hn
        have HGE : Hid (w20.heap.size ≤ wn1.heap.size) := Lib.hid HSn1.out.size
        have HBK2 := Lib.hid (HBK1.out.below hb)
        refine hK _ _ HSn2.out ?_
        clear hK K hb hn
        try simp only [Act.put, List.setIfInBounds_toArray, List.set_cons_succ, List.set_cons_zero]
        generalize wn1.heap.size = gV at *
        refine oneH 7 (by kernel_rfl) rfl rfl fun K hK => ?_
        go_simp
        refine (page2 _ _ _ _ HBK2.out (F23.out.below (Nat.le_refl _) HSn2.out)).mono ?_
        rintro e wn3 ⟨rfl, hb⟩
        have HSn3 := Lib.hid (stay HSn2.out hb)
        have HV3 := Lib.hid (HV.out.below hb HV.out.lt)
        refine hK _ _ HSn3.out ?_
        clear hK K hb
        try simp only [Act.put, List.setIfInBounds_toArray, List.set_cons_succ, List.set_cons_zero]
        refine takeH 8 (some 18) (.tuple #[.agg (u8s (zeros 32)).toArray, .int .i64 11]) rfl rfl (by kernel_rfl) (by kernel_rfl) (by kernel_rfl) (fun _ _ _ h => h) rfl (fun wq hS => by go_simp) HSn3.out ?_
        try simp only [Act.put, List.setIfInBounds_toArray, List.set_cons_succ, List.set_cons_zero]
        refine takeH 9 (some 27) (.agg (u8s (zeros 32)).toArray) rfl rfl (by kernel_rfl) (by kernel_rfl) (by kernel_rfl) (fun _ _ _ h => h) rfl (fun wq hS => by go_simp) HSn3.out ?_
        try simp only [Act.put, List.setIfInBounds_toArray, List.set_cons_succ, List.set_cons_zero]
        refine takeH 10 (some 28) (.int .i64 11) rfl rfl (by kernel_rfl) (by kernel_rfl) (by kernel_rfl) (fun _ _ _ h => h) rfl (fun wq hS => by go_simp) HSn3.out ?_
        try simp only [Act.put, List.setIfInBounds_toArray, List.set_cons_succ, List.set_cons_zero]
        refine oneH 12 (by kernel_rfl) rfl rfl fun K hK => ?_
        refine store_W none rfl rfl HV3.out (by simp only [u8s_size, List.size_toArray, List.length_append, List.length_singleton, List.length_map, HZ32.out]) (by rw [u8s_size, HZ32.out]; exact info26) (u8s_one _) rfl rfl fun wy hD hO => ?_
        have HSy := Lib.hid (HSn3.out.trans (hO.below HSn3.out.size fun k hk => by rw [hk]; exact HGE.out))
        refine hK _ _ HSy.out ?_
        clear hK K
        try simp only [Act.put, List.setIfInBounds_toArray, List.set_cons_succ, List.set_cons_zero]
        refine takeH 13 (some 5) (.int .i64 11) rfl rfl (by kernel_rfl) (by kernel_rfl) (by kernel_rfl) (fun _ _ _ h => h) rfl (fun wq hS => by go_simp) HSy.out ?_
        try simp only [Act.put, List.setIfInBounds_toArray, List.set_cons_succ, List.set_cons_zero]
        refine wpAnyH_done (by kernel_rfl) ?_ _
        go_wp2_with fail
        go_meet
        exact ⟨gV, rfl, rfl, hD, HSy.out⟩
    · refine wp_runTo (some 4) rfl _ _ (exec_alloc _ _ _ 26 rfl _ zero26) ?_
      have hb : Below wz.heap.size wz (wz.alloc (.cells (u8s (zeros 32)).toArray 26)) := (Below.refl _ _).alloc (Nat.le_refl _) _
      have hn : Blk (wz.alloc (.cells (u8s (zeros 32)).toArray 26)) wz.heap.size (u8s (zeros 32)) := Blk.newAt 26 _ _ rfl rfl
      generalize wz.alloc (.cells (u8s (zeros 32)).toArray 26) = wn1 at *
      have HSn1 := Lib.hid (stay HS0.out hb)
      have HV := Lib.hid hn
      have HGE : Hid (w20.heap.size ≤ wz.heap.size) := Lib.hid HS0.out.size
      refine hK _ _ HSn1.out ?_
      clear hK K hb hn
      try simp only [Act.put, List.setIfInBounds_toArray, List.set_cons_succ, List.set_cons_zero]
      generalize wz.heap.size = gV at *
      refine oneH 6 (by kernel_rfl) rfl rfl fun K hK => ?_
      refine lit_W2 (b := I2) (c := D2) (bv := .slice none 0 0) (cv := .slice (some ⟨w.heap.size, 0, none⟩) 1 1) (.tmp 21) (.tmp 24) (some 25) rfl rfl HWI.out HWD.out (B1.out.below HSn1.out) (B0.out.below HSn1.out) rfl rfl fun sm wn2 hO hb => ?_
      have HSn2 := Lib.hid (stay HSn1.out hb)
      have HBK2 := Lib.hid hO.blks
      have HV2 := Lib.hid (HV.out.below hb HV.out.lt)
      refine hK _ _ HSn2.out ?_
      clear hK K hb hO
      try simp only [Act.put, List.setIfInBounds_toArray, List.set_cons_succ, List.set_cons_zero]
      refine oneH 7 (by kernel_rfl) rfl rfl fun K hK => ?_
      go_simp
      refine (page2 _ _ _ _ HBK2.out (F23.out.below (Nat.le_refl _) HSn2.out)).mono ?_
      rintro e wn3 ⟨rfl, hb⟩
      have HSn3 := Lib.hid (stay HSn2.out hb)
      have HV3 := Lib.hid (HV2.out.below hb HV2.out.lt)
      refine hK _ _ HSn3.out ?_
      clear hK K hb
      try simp only [Act.put, List.setIfInBounds_toArray, List.set_cons_succ, List.set_cons_zero]
      refine takeH 8 (some 18) (.tuple #[.agg (u8s (zeros 32)).toArray, .int .i64 11]) rfl rfl (by kernel_rfl) (by kernel_rfl) (by kernel_rfl) (fun _ _ _ h => h) rfl (fun wq hS => by go_simp) HSn3.out ?_
      try simp only [Act.put, List.setIfInBounds_toArray, List.set_cons_succ, List.set_cons_zero]
      refine takeH 9 (some 27) (.agg (u8s (zeros 32)).toArray) rfl rfl (by kernel_rfl) (by kernel_rfl) (by kernel_rfl) (fun _ _ _ h => h) rfl (fun wq hS => by go_simp) HSn3.out ?_
      try simp only [Act.put, List.setIfInBounds_toArray, List.set_cons_succ, List.set_cons_zero]
      refine takeH 10 (some 28) (.int .i64 11) rfl rfl (by kernel_rfl) (by kernel_rfl) (by kernel_rfl) (fun _ _ _ h => h) rfl (fun wq hS => by go_simp) HSn3.out ?_
      try simp only [Act.put, List.setIfInBounds_toArray, List.set_cons_succ, List.set_cons_zero]
      refine oneH 12 (by kernel_rfl) rfl rfl fun K hK => ?_
      refine store_W none rfl rfl HV3.out (by simp only [u8s_size, List.size_toArray, List.length_append, List.length_singleton, List.length_map, HZ32.out]) (by rw [u8s_size, HZ32.out]; exact info26) (u8s_one _) rfl rfl fun wy hD hO => ?_
      have HSy := Lib.hid (HSn3.out.trans (hO.below HSn3.out.size fun k hk => by rw [hk]; exact HGE.out))
      refine hK _ _ HSy.out ?_
      clear hK K
      try simp only [Act.put, List.setIfInBounds_toArray, List.set_cons_succ, List.set_cons_zero]
      refine takeH 13 (some 5) (.int .i64 11) rfl rfl (by kernel_rfl) (by kernel_rfl) (by kernel_rfl) (fun _ _ _ h => h) rfl (fun wq hS => by go_simp) HSy.out ?_
      try simp only [Act.put, List.setIfInBounds_toArray, List.set_cons_succ, List.set_cons_zero]
      refine wpAnyH_done (by kernel_rfl) ?_ _
      go_wp2_with fail
      go_meet
      exact ⟨gV, rfl, rfl, hD, HSy.out⟩
  case rest =>
    obtain ⟨g5, rfl, rfl, hD, hb⟩ := hcut
    have F128 := Lib.hid (F22.out.trans (hb.mono F22.out.size))
    have F129 := Lib.hid (F23.out.below (Nat.le_refl _) hb)
    have F130 := Lib.hid (F24.out.below hb)
    have F131 := Lib.hid (F25.out.below hb)
    have F132 := Lib.hid (F26.out.below hb F26.out.lt)
    clear F22 F23 F24 F25 F26
    have FP : Hid (Blk wc g5 (u8s (zeros 32))) := Lib.hid hD
    clear hD hb A0 A1 B0 B1 HE HG
    go_upto_region 4 with fail
    refine wp_region_lit ?_
    refine wpList_op rfl fun K hK => ?_
    go_simp
    refine (page3 _ F129.out).mono ?_
    rintro e w133 ⟨rfl, hb⟩
    have F134 := Lib.hid (F128.out.trans (hb.mono F128.out.size))
    have F135 := Lib.hid (F129.out.below (Nat.le_refl _) hb)
    have F136 := Lib.hid (F130.out.below hb)
    have F137 := Lib.hid (F131.out.below hb)
    have F138 := Lib.hid (F132.out.below hb F132.out.lt)
    have F139 := Lib.hid (FP.out.below hb FP.out.lt)
    clear F128 F129 F130 F131 F132 FP
    clear hb
    refine hK _ _ ?_
    clear hK K
    try simp only [Act.put, List.setIfInBounds_toArray, List.set_cons_succ, List.set_cons_zero]
    refine takeL (.tuple #[.agg (u8s (zeros 32)).toArray, .int .i64 0]) rfl (by go_simp) ?_
    try simp only [Act.put, List.setIfInBounds_toArray, List.set_cons_succ, List.set_cons_zero]
    refine takeL (.agg (u8s (zeros 32)).toArray) rfl (by go_simp) ?_
    try simp only [Act.put, List.setIfInBounds_toArray, List.set_cons_succ, List.set_cons_zero]
    refine takeL (.int .i64 0) rfl (by go_simp) ?_
    try simp only [Act.put, List.setIfInBounds_toArray, List.set_cons_succ, List.set_cons_zero]
    refine alloc_g zero26 rfl ?_
    intro w140 hA hb hl
    try simp only [Act.put, List.setIfInBounds_toArray, List.set_cons_succ, List.set_cons_zero]
    clear hl
    refine store_all (cs := (u8s (zeros 32)).toArray) hA (by simp only [u8s_size, List.size_toArray, List.length_append, List.length_singleton, List.length_map, HZ32.out]) (by rw [u8s_size, HZ32.out]; exact info26) (u8s_one _) rfl rfl rfl ?_
    intro w141 hD hO hlD
    try simp only [Act.put, List.setIfInBounds_toArray, List.set_cons_succ, List.set_cons_zero]
    clear hlD hA
    have hbb : Below w133.heap.size w133 w141 := hb.trans (hO.below hb.size fun k hk => Nat.le_of_eq hk.symm)
    clear hb hO
    have HN142 := Lib.hid (Nat.ne_of_lt F138.out.lt)
    have HN143 := Lib.hid (Nat.ne_of_lt F139.out.lt)
    have HG144 : Hid (w.heap.size ≤ w133.heap.size) := Lib.hid F134.out.size
    have F145 := Lib.hid (F134.out.trans (hbb.mono F134.out.size))
    have F146 := Lib.hid (F135.out.below (Nat.le_refl _) hbb)
    have F147 := Lib.hid (F136.out.below hbb)
    have F148 := Lib.hid (F137.out.below hbb)
    have F149 := Lib.hid (F138.out.below hbb F138.out.lt)
    have F150 := Lib.hid (F139.out.below hbb F139.out.lt)
    clear F134 F135 F136 F137 F138 F139
    have F151 : Hid (Blk w141 w133.heap.size (u8s (zeros 32))) := Lib.hid hD
    clear hD hbb w140
    generalize w133.heap.size = g152 at *
    clear w133
    refine takeL (.int .i64 0) rfl (by go_simp) ?_
    try simp only [Act.put, List.setIfInBounds_toArray, List.set_cons_succ, List.set_cons_zero]
    refine wpList_nil ?_
    go_upto_region 5 with fail
    refine wp_region_lit ?_
    try simp only [List.append_eq, List.cons_append, List.nil_append]
    refine takeL (.int .i64 0) rfl (by go_simp) ?_
    try simp only [Act.put, List.setIfInBounds_toArray, List.set_cons_succ, List.set_cons_zero]
    refine takeL (.bool true) rfl (by go_simp) ?_
    try simp only [Act.put, List.setIfInBounds_toArray, List.set_cons_succ, List.set_cons_zero]
    refine takeL (.bool true) rfl (by go_simp) ?_
    try simp only [Act.put, List.setIfInBounds_toArray, List.set_cons_succ, List.set_cons_zero]
    refine takeL (.pointer (some ⟨g27, 0, none⟩)) rfl (by go_simp) ?_
    try simp only [Act.put, List.setIfInBounds_toArray, List.set_cons_succ, List.set_cons_zero]
    refine takeL (.int .u8 7) rfl (by have hq := F149.out.cell (i := 0) (v := .int .u8 7) rfl; go_simp) ?_
    try simp only [Act.put, List.setIfInBounds_toArray, List.set_cons_succ, List.set_cons_zero]
    refine takeL (.bool true) rfl (by go_simp) ?_
    try simp only [Act.put, List.setIfInBounds_toArray, List.set_cons_succ, List.set_cons_zero]
    refine takeL (.bool true) rfl (by go_simp) ?_
    try simp only [Act.put, List.setIfInBounds_toArray, List.set_cons_succ, List.set_cons_zero]
    refine takeL (.bool true) rfl (by go_simp) ?_
    try simp only [Act.put, List.setIfInBounds_toArray, List.set_cons_succ, List.set_cons_zero]
    refine takeL (.pointer (some ⟨g27, 1, none⟩)) rfl (by go_simp) ?_
    try simp only [Act.put, List.setIfInBounds_toArray, List.set_cons_succ, List.set_cons_zero]
    refine takeL (.int .u8 9) rfl (by have hq := F149.out.cell (i := 1) (v := .int .u8 9) rfl; go_simp) ?_
    try simp only [Act.put, List.setIfInBounds_toArray, List.set_cons_succ, List.set_cons_zero]
    refine takeL (.bool true) rfl (by go_simp) ?_
    try simp only [Act.put, List.setIfInBounds_toArray, List.set_cons_succ, List.set_cons_zero]
    refine takeL (.bool true) rfl (by go_simp) ?_
    try simp only [Act.put, List.setIfInBounds_toArray, List.set_cons_succ, List.set_cons_zero]
    refine takeL (.bool true) rfl (by go_simp) ?_
    try simp only [Act.put, List.setIfInBounds_toArray, List.set_cons_succ, List.set_cons_zero]
    refine takeL (.int .i64 11) rfl (by go_simp) ?_
    try simp only [Act.put, List.setIfInBounds_toArray, List.set_cons_succ, List.set_cons_zero]
    refine takeL (.bool true) rfl (by go_simp) ?_
    try simp only [Act.put, List.setIfInBounds_toArray, List.set_cons_succ, List.set_cons_zero]
    refine takeL (.bool true) rfl (by go_simp) ?_
    try simp only [Act.put, List.setIfInBounds_toArray, List.set_cons_succ, List.set_cons_zero]
    refine takeL (.bool true) rfl (by go_simp) ?_
    try simp only [Act.put, List.setIfInBounds_toArray, List.set_cons_succ, List.set_cons_zero]
    refine takeL (.int .i64 0) rfl (by go_simp) ?_
    try simp only [Act.put, List.setIfInBounds_toArray, List.set_cons_succ, List.set_cons_zero]
    refine takeL (.bool true) rfl (by go_simp) ?_
    try simp only [Act.put, List.setIfInBounds_toArray, List.set_cons_succ, List.set_cons_zero]
    refine takeL (.bool true) rfl (by go_simp) ?_
    try simp only [Act.put, List.setIfInBounds_toArray, List.set_cons_succ, List.set_cons_zero]
    refine takeL (.bool true) rfl (by go_simp) ?_
    try simp only [Act.put, List.setIfInBounds_toArray, List.set_cons_succ, List.set_cons_zero]
    refine load26 (cs := (u8s (zeros 32)).toArray) (Blk.all F151.out rfl) (by rw [u8s_size, HZ32.out]) rfl rfl ?_
    try simp only [Act.put, List.setIfInBounds_toArray, List.set_cons_succ, List.set_cons_zero]
    refine build_g (build26 _) rfl ?_
    try simp only [Act.put, List.setIfInBounds_toArray, List.set_cons_succ, List.set_cons_zero]
    refine takeL (.bool true) rfl (by exact exec_page (decide_eq_true rfl) HZ32.out HZ32.out _ _ _ rfl rfl rfl) ?_
    try simp only [Act.put, List.setIfInBounds_toArray, List.set_cons_succ, List.set_cons_zero]
    refine takeL (.bool true) rfl (by go_simp) ?_
    try simp only [Act.put, List.setIfInBounds_toArray, List.set_cons_succ, List.set_cons_zero]
    refine takeL (.bool true) rfl (by go_simp) ?_
    try simp only [Act.put, List.setIfInBounds_toArray, List.set_cons_succ, List.set_cons_zero]
    refine wpList_nil ?_
    go_wp2_with fail
    go_ret
    exact ⟨rfl, F145.out⟩
end Go.Proofs.YtjejodgjakjeiaaDoor
