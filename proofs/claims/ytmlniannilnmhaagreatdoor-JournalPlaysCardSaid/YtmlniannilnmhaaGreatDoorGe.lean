/- Ge: texts of elder seats turned: what the stage needs of them. -/
import Derived.Test.YtmlniannilnmhaaGreatDoorGc
import Derived.Test.YtmlniannilnmhaaGreatDoorGd
import Derived.Deep.Cut
import Derived.Deep.CutRange
namespace Go.Proofs.YtmlniannilnmhaaGreatDoor
set_option linter.unusedSimpArgs false
set_option linter.unusedVariables false
open Go.RowKit

/-- A store into bytes of one's own. -/
theorem Own.set {w : World} {B g n cap : Nat} {l : List Int} (h : Own w B (.slice (some ⟨g, 0, none⟩) n cap) l) (i : Nat) (v : Int) (hi : i < l.length) : Own (w.setCell ⟨g, i, none⟩ (.int .u8 v)) B (.slice (some ⟨g, 0, none⟩) n cap) (l.set i v) := by
  rcases h.2 with ⟨e, _⟩ | ⟨g', cap', cur, e, hb, hg, hn, hm, hs, ht⟩
  · cases e
  · cases e
    refine ⟨by simp, .inr ⟨g, cap, cur.setIfInBounds i (.int .u8 v), by rw [List.length_set], hb, ?_, by rw [List.length_set]; exact hn, hm, by simpa using hs, ?_⟩⟩
    · rw [heap_setCell_same w g i cur 5 (.int .u8 v) hg]
    · have e2 : (cur.setIfInBounds i (.int .u8 v)).toList = cur.toList.set i (.int .u8 v) := by simp
      rw [e2, List.length_set, List.take_set, ht]
      simp
/-- Bytes behind a step that turned one row alone. -/
theorem BytesAt.grown {w w' : World} {row : Option Nat} {sv : Value} {l : List Int} (h : BytesAt w sv l) (hg : w.grownBy w' row) (hne : ∀ b o n c, sv = .slice (some ⟨b, o, none⟩) n c → row ≠ some b) : BytesAt w' sv l := by
  obtain ⟨a, cap, rfl, hc⟩ := h
  refine ⟨a, cap, rfl, fun i x hx => ?_⟩
  obtain ⟨b, o, rfl, hx2⟩ := hc i x hx
  exact ⟨b, o, rfl, by rw [← hx2]; exact cell_same (hg.block b (block_lt_of_cell hx2) fun e => hne _ _ _ _ rfl e.symm)⟩
theorem below_sizeq {B : Nat} {w w' : World} (h : Below B w w') (e : w.heap.size = B) : B ≤ w'.heap.size := by
  have := h.size
  omega
theorem app_W2 {B : Nat} {sv tv : Value} {l m : List Int} {o : Oper} {a : Act} {w : World} {K : Act → World → Prop} {Q : Exit → Act → World → Prop} (x y : Operand) (dst : Option Tmp) (hd : o.dst = dst) (ho : o.op = .call { callee := .builtin .append, args := #[x, y], argTypes := #[97, 97] })
    (h : Own w B sv l) (hB : B ≤ w.heap.size) (k : BytesAt w tv m) (hlen : l.length + m.length ≤ 1000000) (hx : a.eval x = sv) (hy : a.eval y = tv)
    (hh : ∀ sv' w', Own w' B sv' (l ++ m) → w.grownBy w' sv.ownBlock → K (a.put dst sv') w') : o.wp Tryz.prog a w K Q := by
  obtain ⟨sv', w', hr, hO, hg⟩ := app_own h hB k hlen o.type
  exact wp_runTo dst hd sv' w' (exec_app a.eval o x y 97 97 ho sv tv sv' hx hy hr) (hh sv' w' hO hg)
abbrev Sm.rcells (s : Sm) (sv : Value) (e0 : Int) : List Value := [.int .u32 s.seq, .bool s.more, sv, .int .i64 e0]
/-- The statements' summary in a variable (g), the result's variable (r), both made behind W. -/
structure RS (W w : World) (g r : Nat) (s : Sm) (sv : Value) (e0 : Int) : Prop where
  sm : Blk w g (s.rcells sv e0)
  res : Blk w r (u8s (zeros 64))
  mark : MarksAt w sv s.marks
  bel : Below W.heap.size W w
  g0 : W.heap.size ≤ g
  gr : g < r
theorem RS.below {W w w' : World} {g r : Nat} {s : Sm} {sv : Value} {e0 : Int} (h : RS W w g r s sv e0) (hb : Below w.heap.size w w') : RS W w' g r s sv e0 :=
  ⟨h.sm.below hb h.sm.lt, h.res.below hb h.res.lt, h.mark.below hb, h.bel.trans (hb.mono h.bel.size), h.g0, h.gr⟩
/-- The bytes ahead of the marks, and of the first k marks. -/
def pre1 (s : Sm) : List Int := [83, bit s.more] ++ le 4 s.seq ++ [(s.marks.length : Int)]
def preK (s : Sm) (k : Nat) : List Int := pre1 s ++ flat (s.marks.take k)
theorem preK_length (s : Sm) (k : Nat) (h : k ≤ s.marks.length) : (preK s k).length = 7 + 2 * k := by
  simp only [preK, pre1, List.length_append, List.length_cons, List.length_nil, le_length, sflat_length, List.length_take]
  omega
theorem preK_step {s : Sm} {k : Nat} {m : Mk} (h : s.marks[k]? = some m) : preK s (k + 1) = preK s k ++ [m.1, m.2] := by
  unfold preK
  rw [flat_snoc h, List.append_assoc]
theorem preK_all (s : Sm) (hg : s.good = true) : preK s s.marks.length ++ zeros (64 - (preK s s.marks.length).length) = s.enc := by
  have := good_len hg
  rw [preK_length s _ (Nat.le_refl _), show 64 - (7 + 2 * s.marks.length) = 57 - 2 * s.marks.length by omega]
  simp [preK, pre1, Sm.enc, Sm.pre]
set_option maxRecDepth 100000 in
theorem rencode_len (s : Sm) (sv : Value) (e0 : Int) (hl : s.marks.length < 1 ∨ 24 < s.marks.length) (w : World) (h : MarksAt w sv s.marks) : Calls Tryz.prog 70 #[.agg #[.int .u32 s.seq, .bool s.more, sv, .int .i64 e0]] w fun e w' => e = .returned (.tuple #[.agg (u8s (zeros 64)).toArray, .int .i64 11]) ∧ Below w.heap.size w w' := by
  obtain ⟨a, cap, rfl, -⟩ := id h
  have HM := Lib.hid h
  go_enter Tryz.func70, Tryz.ntmps70
  go_upto_region 0 with fail
  refine wp_region_lit ?_
  refine box_g rfl rfl ?_
  intro wA hA hB hl1
  try simp only [Act.put, List.setIfInBounds_toArray, List.set_cons_succ, List.set_cons_zero]
  refine alloc_g zero72 rfl ?_
  intro wB hR hB2 hl2
  try simp only [Act.put, List.setIfInBounds_toArray, List.set_cons_succ, List.set_cons_zero]
  have H0 : Hid (RS w wB w.heap.size wA.heap.size s (.slice a s.marks.length cap) e0) := Lib.hid ⟨hA.below hB2 hl1, hR, h.below (hB.trans (hB2.mono hB.size)), hB.trans (hB2.mono hB.size), Nat.le_refl _, hl1⟩
  clear hA hB hl1 hR hB2 hl2 h HM
  generalize hrr : wA.heap.size = r at *
  clear hrr wA
  refine takeL (.int .i64 0) rfl (by go_simp) ?_
  try simp only [Act.put, List.setIfInBounds_toArray, List.set_cons_succ, List.set_cons_zero]
  refine wpList_nil ?_
  have c2 := H0.out.sm.cell (i := 2) rfl
  rcases hl with hl | hl
  · have hl' : (s.marks.length : Int) < 1 := by omega
    go_upto_region 2 with fail
    refine wp_region_lit ?_
    refine build_g (build72 _) rfl ?_
    try simp only [Act.put, List.setIfInBounds_toArray, List.set_cons_succ, List.set_cons_zero]
    refine store_all H0.out.res (by simp) (by simpa [zeros] using info72) (u8s_one _) rfl rfl rfl ?_
    intro wZ hZ hOZ hlZ
    try simp only [Act.put, List.setIfInBounds_toArray, List.set_cons_succ, List.set_cons_zero]
    refine takeL (.int .i64 11) rfl (by go_simp) ?_
    try simp only [Act.put, List.setIfInBounds_toArray, List.set_cons_succ, List.set_cons_zero]
    have HF := Lib.hid (H0.out.bel.trans (hOZ.below H0.out.bel.size (fun k hk => by have := H0.out.g0; have := H0.out.gr; omega)))
    refine wpList_nil ?_
    go_wp2_with fail
    exact bodyPost_ret (v := .tuple #[.agg (u8s (zeros 64)).toArray, .int .i64 11]) (results_cell_tmp rfl _ _ r 0 _ _ _ rfl rfl Tryz.underlying72 rfl (by simpa [zeros] using info72) (hZ.all rfl)) rfl ⟨rfl, HF.out⟩
  · have hl' : (24 : Int) < (s.marks.length : Int) := by omega
    have hl2 : ¬ (s.marks.length : Int) < 1 := by omega
    go_upto_region 2 with fail
    refine wp_region_lit ?_
    refine build_g (build72 _) rfl ?_
    try simp only [Act.put, List.setIfInBounds_toArray, List.set_cons_succ, List.set_cons_zero]
    refine store_all H0.out.res (by simp) (by simpa [zeros] using info72) (u8s_one _) rfl rfl rfl ?_
    intro wZ hZ hOZ hlZ
    try simp only [Act.put, List.setIfInBounds_toArray, List.set_cons_succ, List.set_cons_zero]
    refine takeL (.int .i64 11) rfl (by go_simp) ?_
    try simp only [Act.put, List.setIfInBounds_toArray, List.set_cons_succ, List.set_cons_zero]
    have HF := Lib.hid (H0.out.bel.trans (hOZ.below H0.out.bel.size (fun k hk => by have := H0.out.g0; have := H0.out.gr; omega)))
    refine wpList_nil ?_
    go_wp2_with fail
    exact bodyPost_ret (v := .tuple #[.agg (u8s (zeros 64)).toArray, .int .i64 11]) (results_cell_tmp rfl _ _ r 0 _ _ _ rfl rfl Tryz.underlying72 rfl (by simpa [zeros] using info72) (hZ.all rfl)) rfl ⟨rfl, HF.out⟩
set_option maxHeartbeats 1000000 in
set_option maxRecDepth 100000 in
theorem rencode_true (s : Sm) (sv : Value) (e0 : Int) (hmo : s.more = true) (hq : 0 ≤ s.seq ∧ s.seq < 4294967296) (hl1 : 1 ≤ s.marks.length) (hl2 : s.marks.length ≤ 24) (w : World) (h : MarksAt w sv s.marks) : Calls Tryz.prog 70 #[.agg #[.int .u32 s.seq, .bool s.more, sv, .int .i64 e0]] w fun e w' => e = .returned (.tuple #[.agg (u8s s.sec).toArray, .int .i64 s.err]) ∧ Below w.heap.size w w' := by
  obtain ⟨a, cap, rfl, -⟩ := id h
  have HMO := Lib.hid hmo
  have HQ := Lib.hid hq
  clear hmo hq
  have HM := Lib.hid h
  go_enter Tryz.func70, Tryz.ntmps70
  go_upto_region 0 with fail
  refine wp_region_lit ?_
  refine box_g rfl rfl ?_
  intro wA hA hB hl1
  try simp only [Act.put, List.setIfInBounds_toArray, List.set_cons_succ, List.set_cons_zero]
  refine alloc_g zero72 rfl ?_
  intro wB hR hB2 hl2
  try simp only [Act.put, List.setIfInBounds_toArray, List.set_cons_succ, List.set_cons_zero]
  have H0 : Hid (RS w wB w.heap.size wA.heap.size s (.slice a s.marks.length cap) e0) := Lib.hid ⟨hA.below hB2 hl1, hR, h.below (hB.trans (hB2.mono hB.size)), hB.trans (hB2.mono hB.size), Nat.le_refl _, hl1⟩
  clear hA hB hl1 hR hB2 hl2 h HM
  generalize hrr : wA.heap.size = r at *
  clear hrr wA
  refine takeL (.int .i64 0) rfl (by go_simp) ?_
  try simp only [Act.put, List.setIfInBounds_toArray, List.set_cons_succ, List.set_cons_zero]
  refine wpList_nil ?_
  have c2 := H0.out.sm.cell (i := 2) rfl
  have c1 := H0.out.sm.cell (i := 1) rfl
  rw [HMO.out] at c1
  have hl3 : ¬ (s.marks.length : Int) < 1 := by omega
  have hl4 : ¬ (24 : Int) < (s.marks.length : Int) := by omega
  go_upto_region 3 with fail
  refine wp_region_lit ?_
  refine wpList_run (.slice (some ⟨wB.heap.size, 0, none⟩) 2 2) (wB.alloc (.cells #[.int .u8 83, .int .u8 0] 5)) rfl (by go_simp) ?_
  try simp only [Act.put, List.setIfInBounds_toArray, List.set_cons_succ, List.set_cons_zero]
  have hb1 := (Below.refl wB.heap.size wB).alloc (Nat.le_refl _) (.cells #[.int .u8 83, .int .u8 0] 5)
  have hlit : Own (wB.alloc (.cells #[.int .u8 83, .int .u8 0] 5)) wB.heap.size (.slice (some ⟨wB.heap.size, 0, none⟩) 2 2) [83, 0] := Own.lit wB wB.heap.size (Nat.le_refl _) [83, 0] (by simp) _ rfl
  have H1 := Lib.hid (H0.out.below hb1)
  have HB0 : Hid (Below wB.heap.size wB (wB.alloc (.cells #[.int .u8 83, .int .u8 0] 5))) := Lib.hid hb1
  have HL1 := Lib.hid hlit
  have hbk := Blk.new wB #[.int .u8 83, .int .u8 0] 5
  clear hlit hb1 c1 c2
  generalize wB.alloc (.cells #[.int .u8 83, .int .u8 0] 5) = w1 at *
  generalize hgB : wB.heap.size = q at *
  have HGB := Lib.hid hgB
  clear hgB
  refine takeL (.slice (some ⟨q, 0, none⟩) 2 2) rfl (by go_simp) ?_
  try simp only [Act.put, List.setIfInBounds_toArray, List.set_cons_succ, List.set_cons_zero]
  refine wpList_nil ?_
  have c1 := H1.out.sm.cell (i := 1) rfl
  rw [HMO.out] at c1
  have cb : w1.cell? ⟨q, 1, none⟩ = some (.int .u8 0) := hbk.cell rfl
  have hfro := hbk.frozen 1
  clear hbk
  have HL2 := Lib.hid (HL1.out.set 1 1 (by decide))
  rw [show ([83, 0] : List Int).set 1 1 = [83, bit s.more] by rw [HMO.out]; rfl] at HL2
  have HB2 : Hid (Below q wB (w1.setCell ⟨q, 1, none⟩ (.int .u8 1))) := Lib.hid (HB0.out.setCell (p := ⟨q, 1, none⟩) (Nat.le_refl _) _)
  obtain ⟨w2, hw2⟩ : ∃ w2, w1.setCell ⟨q, 1, none⟩ (.int .u8 1) = w2 := ⟨_, rfl⟩
  rw [hw2] at HL2 HB2
  go_upto_region 6 with fail
  clear hw2
  have HR0 := Lib.hid (fun wq (hS : Below q wB wq) => H0.out.below (by rw [HGB.out]; exact hS))
  go_cut [4] from 22 to 33 (fun s4 wx => ∃ o, o = s4 ∧ Own wx q o (pre1 s) ∧ Below q wB wx)
  case first =>
    refine startH (fun wq => Below q wB wq) (by kernel_rfl) ?_
    have HS := Lib.hid HB2.out.drew
    have HO := Lib.hid (HL2.out.below (Below.refl _ _).drew)
    generalize w2.drew = wS at *
    refine takeH 0 (some 22) (.slice (some ⟨q, 0, none⟩) 2 2) rfl rfl (by kernel_rfl) (by kernel_rfl) (by kernel_rfl) (fun _ _ _ h => h) rfl (fun wq hS => by go_simp) HS.out ?_
    try simp only [Act.put, List.setIfInBounds_toArray, List.set_cons_succ, List.set_cons_zero]
    refine takeH 1 (some 23) (.pointer (some ⟨w.heap.size, 0, none⟩)) rfl rfl (by kernel_rfl) (by kernel_rfl) (by kernel_rfl) (fun _ _ _ h => h) rfl (fun wq hS => by go_simp) HS.out ?_
    try simp only [Act.put, List.setIfInBounds_toArray, List.set_cons_succ, List.set_cons_zero]
    refine takeH 2 (some 24) (.int .u32 s.seq) rfl rfl (by kernel_rfl) (by kernel_rfl) (by kernel_rfl) (fun _ _ _ h => h) rfl (fun wq hS => by have hq := (HR0.out wq hS).sm.cell (i := 0) rfl; go_simp) HS.out ?_
    try simp only [Act.put, List.setIfInBounds_toArray, List.set_cons_succ, List.set_cons_zero]
    refine takeH 5 (some 27) (.pointer (some ⟨w.heap.size, 2, none⟩)) rfl rfl (by kernel_rfl) (by kernel_rfl) (by kernel_rfl) (fun _ _ _ h => h) rfl (fun wq hS => by go_simp) HS.out ?_
    try simp only [Act.put, List.setIfInBounds_toArray, List.set_cons_succ, List.set_cons_zero]
    refine takeH 6 (some 28) (.slice a s.marks.length cap) rfl rfl (by kernel_rfl) (by kernel_rfl) (by kernel_rfl) (fun _ _ _ h => h) rfl (fun wq hS => by have hq := (HR0.out wq hS).sm.cell (i := 2) rfl; go_simp) HS.out ?_
    try simp only [Act.put, List.setIfInBounds_toArray, List.set_cons_succ, List.set_cons_zero]
    refine takeH 7 (some 29) (.int .i64 s.marks.length) rfl rfl (by kernel_rfl) (by kernel_rfl) (by kernel_rfl) (fun _ _ _ h => h) rfl (fun wq hS => by go_simp) HS.out ?_
    try simp only [Act.put, List.setIfInBounds_toArray, List.set_cons_succ, List.set_cons_zero]
    refine takeH 8 (some 30) (.int .u8 s.marks.length) rfl rfl (by kernel_rfl) (by kernel_rfl) (by kernel_rfl) (fun _ _ _ h => h) rfl (fun wq hS => by go_simp <;> exact wrap8 (by omega) (by omega)) HS.out ?_
    try simp only [Act.put, List.setIfInBounds_toArray, List.set_cons_succ, List.set_cons_zero]
    refine twoH 3 9 (by kernel_rfl) rfl rfl rfl rfl (fun K hK => ?_) (fun K hK => ?_)
    · go_simp
      refine (rput4_any s.seq HQ.out _).mono ?_
      rintro e wa1 ⟨pv, rfl, hpo, hpb⟩
      have HS1 := Lib.hid (HS.out.trans (hpb.mono (below_sizeq HS.out HGB.out)))
      have HO1 := Lib.hid (HO.out.below hpb)
      have HP1 := Lib.hid hpo.bytes
      clear hpo hpb
      refine hK _ _ HS1.out ?_
      clear hK K
      try simp only [Act.put, List.setIfInBounds_toArray, List.set_cons_succ, List.set_cons_zero]
      refine twoH 4 9 (by kernel_rfl) rfl rfl rfl rfl (fun K hK => ?_) (fun K hK => ?_)
      · refine app_W2 _ _ (some 26) rfl rfl HO1.out (below_sizeq HS1.out HGB.out) HP1.out (by simp [le_length]) rfl rfl ?_
        intro ov2 wa2 hO hG
        have hB' := grown_below hG (below_sizeq HS1.out HGB.out) (fun k hk => (HO1.out.lt k hk).1)
        have HS2 := Lib.hid (HS1.out.trans hB')
        have HO2 := Lib.hid hO
        clear hO hG hB'
        refine hK _ _ HS2.out ?_
        clear hK K
        try simp only [Act.put, List.setIfInBounds_toArray, List.set_cons_succ, List.set_cons_zero]
        refine oneH 9 (by kernel_rfl) rfl rfl fun K hK => ?_
        refine wp_runTo (some 31) rfl (.slice (some ⟨wa2.heap.size, 0, none⟩) 1 1) (wa2.alloc (.cells #[.int .u8 s.marks.length] 5)) (by go_simp) ?_
        have hb1 := (Below.refl wa2.heap.size wa2).alloc (Nat.le_refl _) (.cells #[.int .u8 s.marks.length] 5)
        have HL3 : Hid (BytesAt (wa2.alloc (.cells #[.int .u8 s.marks.length] 5)) (.slice (some ⟨wa2.heap.size, 0, none⟩) 1 1) [(s.marks.length : Int)]) := Lib.hid (Own.lit wa2 wa2.heap.size (Nat.le_refl _) [(s.marks.length : Int)] (by simp) _ rfl).bytes
        have HS3 := Lib.hid (HS2.out.trans (hb1.mono (below_sizeq HS2.out HGB.out)))
        have HO3 := Lib.hid (HO2.out.below hb1)
        have NE3 : Hid (∀ b oo nn c, (Value.slice (some ⟨wa2.heap.size, 0, none⟩) 1 1) = .slice (some ⟨b, oo, none⟩) nn c → Value.ownBlock (ov2) ≠ some b) := Lib.hid (fun b oo nn c h hb => by cases h; have := (HO2.out.lt _ hb).2; omega)
        clear hb1
        generalize (Value.slice (some ⟨wa2.heap.size, 0, none⟩) 1 1) = lv at *
        generalize wa2.alloc (.cells #[.int .u8 s.marks.length] 5) = wa3 at *
        refine hK _ _ HS3.out ?_
        clear hK K
        try simp only [Act.put, List.setIfInBounds_toArray, List.set_cons_succ, List.set_cons_zero]
        refine oneH 10 (by kernel_rfl) rfl rfl fun K hK => ?_
        refine app_W2 _ _ (some 32) rfl rfl HO3.out (below_sizeq HS3.out HGB.out) HL3.out (by simp [le_length]) rfl rfl ?_
        intro ov4 wa4 hO hG
        have hB' := grown_below hG (below_sizeq HS3.out HGB.out) (fun k hk => (HO3.out.lt k hk).1)
        have HS4 := Lib.hid (HS3.out.trans hB')
        have HO4 : Hid (Own wa4 q ov4 (pre1 s)) := Lib.hid hO
        clear hO hG hB'
        refine hK _ _ HS4.out ?_
        clear hK K
        try simp only [Act.put, List.setIfInBounds_toArray, List.set_cons_succ, List.set_cons_zero]
        refine takeH 11 (some 4) (ov4) rfl rfl (by kernel_rfl) (by kernel_rfl) (by kernel_rfl) (fun _ _ _ h => h) rfl (fun wq hS => by go_simp) HS4.out ?_
        try simp only [Act.put, List.setIfInBounds_toArray, List.set_cons_succ, List.set_cons_zero]
        refine wpAnyH_done (by kernel_rfl) ?_ _
        go_wp2_with fail
        go_meet
        exact ⟨_, rfl, HO4.out, HS4.out⟩
      · refine wp_runTo (some 31) rfl (.slice (some ⟨wa1.heap.size, 0, none⟩) 1 1) (wa1.alloc (.cells #[.int .u8 s.marks.length] 5)) (by go_simp) ?_
        have hb1 := (Below.refl wa1.heap.size wa1).alloc (Nat.le_refl _) (.cells #[.int .u8 s.marks.length] 5)
        have HL6 : Hid (BytesAt (wa1.alloc (.cells #[.int .u8 s.marks.length] 5)) (.slice (some ⟨wa1.heap.size, 0, none⟩) 1 1) [(s.marks.length : Int)]) := Lib.hid (Own.lit wa1 wa1.heap.size (Nat.le_refl _) [(s.marks.length : Int)] (by simp) _ rfl).bytes
        have HS6 := Lib.hid (HS1.out.trans (hb1.mono (below_sizeq HS1.out HGB.out)))
        have HO6 := Lib.hid (HO1.out.below hb1)
        have NE6 : Hid (∀ b oo nn c, (Value.slice (some ⟨wa1.heap.size, 0, none⟩) 1 1) = .slice (some ⟨b, oo, none⟩) nn c → Value.ownBlock (.slice (some ⟨q, 0, none⟩) 2 2) ≠ some b) := Lib.hid (fun b oo nn c h hb => by cases h; have := (HO1.out.lt _ hb).2; omega)
        have HP6 := Lib.hid (HP1.out.below hb1)
        clear hb1
        generalize (Value.slice (some ⟨wa1.heap.size, 0, none⟩) 1 1) = lv at *
        generalize wa1.alloc (.cells #[.int .u8 s.marks.length] 5) = wa6 at *
        refine hK _ _ HS6.out ?_
        clear hK K
        try simp only [Act.put, List.setIfInBounds_toArray, List.set_cons_succ, List.set_cons_zero]
        refine oneH 4 (by kernel_rfl) rfl rfl fun K hK => ?_
        refine app_W2 _ _ (some 26) rfl rfl HO6.out (below_sizeq HS6.out HGB.out) HP6.out (by simp [le_length]) rfl rfl ?_
        intro ov7 wa7 hO hG
        have hB' := grown_below hG (below_sizeq HS6.out HGB.out) (fun k hk => (HO6.out.lt k hk).1)
        have HS7 := Lib.hid (HS6.out.trans hB')
        have HO7 := Lib.hid hO
        have HL7 := Lib.hid (HL6.out.grown hG NE6.out)
        clear hO hG hB'
        refine hK _ _ HS7.out ?_
        clear hK K
        try simp only [Act.put, List.setIfInBounds_toArray, List.set_cons_succ, List.set_cons_zero]
        refine oneH 10 (by kernel_rfl) rfl rfl fun K hK => ?_
        refine app_W2 _ _ (some 32) rfl rfl HO7.out (below_sizeq HS7.out HGB.out) HL7.out (by simp [le_length]) rfl rfl ?_
        intro ov8 wa8 hO hG
        have hB' := grown_below hG (below_sizeq HS7.out HGB.out) (fun k hk => (HO7.out.lt k hk).1)
        have HS8 := Lib.hid (HS7.out.trans hB')
        have HO8 : Hid (Own wa8 q ov8 (pre1 s)) := Lib.hid hO
        clear hO hG hB'
        refine hK _ _ HS8.out ?_
        clear hK K
        try simp only [Act.put, List.setIfInBounds_toArray, List.set_cons_succ, List.set_cons_zero]
        refine takeH 11 (some 4) (ov8) rfl rfl (by kernel_rfl) (by kernel_rfl) (by kernel_rfl) (fun _ _ _ h => h) rfl (fun wq hS => by go_simp) HS8.out ?_
        try simp only [Act.put, List.setIfInBounds_toArray, List.set_cons_succ, List.set_cons_zero]
        refine wpAnyH_done (by kernel_rfl) ?_ _
        go_wp2_with fail
        go_meet
        exact ⟨_, rfl, HO8.out, HS8.out⟩
    · refine wp_runTo (some 31) rfl (.slice (some ⟨wS.heap.size, 0, none⟩) 1 1) (wS.alloc (.cells #[.int .u8 s.marks.length] 5)) (by go_simp) ?_
      have hb1 := (Below.refl wS.heap.size wS).alloc (Nat.le_refl _) (.cells #[.int .u8 s.marks.length] 5)
      have HL10 : Hid (BytesAt (wS.alloc (.cells #[.int .u8 s.marks.length] 5)) (.slice (some ⟨wS.heap.size, 0, none⟩) 1 1) [(s.marks.length : Int)]) := Lib.hid (Own.lit wS wS.heap.size (Nat.le_refl _) [(s.marks.length : Int)] (by simp) _ rfl).bytes
      have HS10 := Lib.hid (HS.out.trans (hb1.mono (below_sizeq HS.out HGB.out)))
      have HO10 := Lib.hid (HO.out.below hb1)
      have NE10 : Hid (∀ b oo nn c, (Value.slice (some ⟨wS.heap.size, 0, none⟩) 1 1) = .slice (some ⟨b, oo, none⟩) nn c → Value.ownBlock (.slice (some ⟨q, 0, none⟩) 2 2) ≠ some b) := Lib.hid (fun b oo nn c h hb => by cases h; have := (HO.out.lt _ hb).2; omega)
      clear hb1
      generalize (Value.slice (some ⟨wS.heap.size, 0, none⟩) 1 1) = lv at *
      generalize wS.alloc (.cells #[.int .u8 s.marks.length] 5) = wa10 at *
      refine hK _ _ HS10.out ?_
      clear hK K
      try simp only [Act.put, List.setIfInBounds_toArray, List.set_cons_succ, List.set_cons_zero]
      refine oneH 3 (by kernel_rfl) rfl rfl fun K hK => ?_
      go_simp
      refine (rput4_any s.seq HQ.out _).mono ?_
      rintro e wa11 ⟨pv, rfl, hpo, hpb⟩
      have HS11 := Lib.hid (HS10.out.trans (hpb.mono (below_sizeq HS10.out HGB.out)))
      have HO11 := Lib.hid (HO10.out.below hpb)
      have HP11 := Lib.hid hpo.bytes
      have HL11 := Lib.hid (HL10.out.below hpb)
      clear hpo hpb
      refine hK _ _ HS11.out ?_
      clear hK K
      try simp only [Act.put, List.setIfInBounds_toArray, List.set_cons_succ, List.set_cons_zero]
      refine oneH 4 (by kernel_rfl) rfl rfl fun K hK => ?_
      refine app_W2 _ _ (some 26) rfl rfl HO11.out (below_sizeq HS11.out HGB.out) HP11.out (by simp [le_length]) rfl rfl ?_
      intro ov12 wa12 hO hG
      have hB' := grown_below hG (below_sizeq HS11.out HGB.out) (fun k hk => (HO11.out.lt k hk).1)
      have HS12 := Lib.hid (HS11.out.trans hB')
      have HO12 := Lib.hid hO
      have HL12 := Lib.hid (HL11.out.grown hG NE10.out)
      clear hO hG hB'
      refine hK _ _ HS12.out ?_
      clear hK K
      try simp only [Act.put, List.setIfInBounds_toArray, List.set_cons_succ, List.set_cons_zero]
      refine oneH 10 (by kernel_rfl) rfl rfl fun K hK => ?_
      refine app_W2 _ _ (some 32) rfl rfl HO12.out (below_sizeq HS12.out HGB.out) HL12.out (by simp [le_length]) rfl rfl ?_
      intro ov13 wa13 hO hG
      have hB' := grown_below hG (below_sizeq HS12.out HGB.out) (fun k hk => (HO12.out.lt k hk).1)
      have HS13 := Lib.hid (HS12.out.trans hB')
      have HO13 : Hid (Own wa13 q ov13 (pre1 s)) := Lib.hid hO
      clear hO hG hB'
      refine hK _ _ HS13.out ?_
      clear hK K
      try simp only [Act.put, List.setIfInBounds_toArray, List.set_cons_succ, List.set_cons_zero]
      refine takeH 11 (some 4) (ov13) rfl rfl (by kernel_rfl) (by kernel_rfl) (by kernel_rfl) (fun _ _ _ h => h) rfl (fun wq hS => by go_simp) HS13.out ?_
      try simp only [Act.put, List.setIfInBounds_toArray, List.set_cons_succ, List.set_cons_zero]
      refine wpAnyH_done (by kernel_rfl) ?_ _
      go_wp2_with fail
      go_meet
      exact ⟨_, rfl, HO13.out, HS13.out⟩
  case rest =>
    obtain ⟨s4, rfl, hO3, hB3⟩ := hcut
    have HO := Lib.hid hO3
    have HS := Lib.hid hB3
    clear hO3 hB3 HL1 HL2 HB2 HB0 H1
    have HLEN := Lib.hid (show preK s 0 = pre1 s from by unfold preK; exact List.append_nil _)
    go_wp2_with fail
    go_loopg [4, 5] s.marks.length (fun n' o i wr => ∃ k : Nat, s.marks.length - k ≤ n' ∧ k ≤ s.marks.length ∧ i = .int .i64 k ∧ (∀ j m, s.marks[j]? = some m → j < s.marks.length → j < k → okMark m = true) ∧ Own wr q o (preK s k) ∧ Below q wB wr)
    case atStart => exact ⟨0, by omega, by omega, rfl, fun j m _ _ h => by omega, by rw [HLEN.out]; exact HO.out, HS.out⟩
    case round =>
      obtain ⟨k, hgk, hk, rfl, hall, hown, hbel⟩ := hrel
      have HA := Lib.hid hall
      clear HO HS HLEN
      have HO := Lib.hid hown
      have HS := Lib.hid hbel
      have HR := Lib.hid (HR0.out wr hbel)
      clear hown hbel hall
      have hk0 : (0 : Int) ≤ (k : Int) := by omega
      by_cases hlt : k < s.marks.length
      · have hlk : s.marks[k]? = some s.marks[k] := by simp [hlt]
        obtain ⟨b', o', cap', he, hcells⟩ := HR.out.mark.has (by omega)
        cases he
        obtain ⟨c1, c2⟩ := hcells k _ hlk
        have cs := HR.out.sm.cell (i := 2) rfl
        have HLK := Lib.hid hlk
        clear hcells hlk
        generalize s.marks[k] = m at *
        obtain ⟨mk, mi⟩ := m
        simp only at c1 c2
        have hk1 : (k : Int) < (s.marks.length : Int) := by omega
        go_upto_region 10 with fail
        go_wp2_with fail
        refine (rmark_any mk mi _).mono ?_
        rintro e w3 ⟨rfl, hb⟩
        have HS3 := Lib.hid (HS.out.trans (hb.mono (below_sizeq HS.out HGB.out)))
        have HO3 := Lib.hid (HO.out.below hb)
        have HR3 := Lib.hid (HR.out.below hb)
        clear hb
        cases hok : okMark (mk, mi)
        · have HBAD := Lib.hid (good_bad HLK.out hok)
          have HSC : Hid (s.sec = zeros 64) := Lib.hid (by unfold Sm.sec Sm.good; rw [HBAD.out]; rfl)
          have HSE : Hid (s.err = 11) := Lib.hid (by unfold Sm.err Sm.good; rw [HBAD.out]; rfl)
          go_upto_region 11 with fail
          refine wp_region_lit ?_
          refine build_g (build72 _) rfl ?_
          try simp only [Act.put, List.setIfInBounds_toArray, List.set_cons_succ, List.set_cons_zero]
          refine store_all HR3.out.res (by simp) (by simpa [zeros] using info72) (u8s_one _) rfl rfl rfl ?_
          intro wZ hZ hOZ hlZ
          try simp only [Act.put, List.setIfInBounds_toArray, List.set_cons_succ, List.set_cons_zero]
          refine takeL (.int .i64 11) rfl (by go_simp) ?_
          try simp only [Act.put, List.setIfInBounds_toArray, List.set_cons_succ, List.set_cons_zero]
          have HF := Lib.hid (HR3.out.bel.trans (hOZ.below HR3.out.bel.size (fun k hk => by have := HR3.out.g0; have := HR3.out.gr; omega)))
          refine wpList_nil ?_
          go_wp2_with fail
          exact bodyPost_ret (v := .tuple #[.agg (u8s (zeros 64)).toArray, .int .i64 11]) (results_cell_tmp rfl _ _ r 0 _ _ _ rfl rfl Tryz.underlying72 rfl (by simpa [zeros] using info72) (hZ.all rfl)) rfl ⟨by rw [HSC.out, HSE.out], HF.out⟩
        · have HOK := Lib.hid hok
          obtain ⟨hm1, hm2, hm3, hm4, hm5⟩ := okMark_iff.1 hok
          simp only at hm1 hm2 hm3 hm4 hm5
          clear hok c1 c2 cs
          go_upto_region 12 with fail
          have HCC := Lib.hid (fun wq (hS : Below q wB wq) => show wq.cell? ⟨b', o' + k * 2, none⟩ = some (.int .i64 mk) ∧ wq.cell? ⟨b', o' + k * 2 + 1, none⟩ = some (.int .i64 mi) from by
            obtain ⟨_, _, _, he, hcells⟩ := (HR0.out wq hS).mark.has (by omega)
            cases he
            exact hcells k _ HLK.out)
          have HSS := Lib.hid (fun wq (hS : Below q wB wq) => show wq.cell? ⟨w.heap.size, 2, none⟩ = some (.slice (some ⟨b', o', none⟩) s.marks.length cap) from (HR0.out wq hS).sm.cell rfl)
          refine startH (fun wq => Below q wB wq) (by kernel_rfl) ?_
          have HSd := Lib.hid HS3.out.drew
          have HOd := Lib.hid (HO3.out.below (Below.refl _ _).drew)
          generalize w3.drew = wS at *
          refine takeH 0 (some 48) (u4) rfl rfl (by kernel_rfl) (by kernel_rfl) (by kernel_rfl) (fun _ _ _ h => h) rfl (fun wq hS => by go_simp) HSd.out ?_
          try simp only [Act.put, List.setIfInBounds_toArray, List.set_cons_succ, List.set_cons_zero]
          refine takeH 1 (some 49) (.pointer (some ⟨w.heap.size, 2, none⟩)) rfl rfl (by kernel_rfl) (by kernel_rfl) (by kernel_rfl) (fun _ _ _ h => h) rfl (fun wq hS => by go_simp) HSd.out ?_
          try simp only [Act.put, List.setIfInBounds_toArray, List.set_cons_succ, List.set_cons_zero]
          refine takeH 2 (some 50) ((.slice (some ⟨b', o', none⟩) s.marks.length cap)) rfl rfl (by kernel_rfl) (by kernel_rfl) (by kernel_rfl) (fun _ _ _ h => h) rfl (fun wq hS => by have hq := HSS.out wq hS; go_simp) HSd.out ?_
          try simp only [Act.put, List.setIfInBounds_toArray, List.set_cons_succ, List.set_cons_zero]
          refine takeH 3 (some 51) (.int .i64 k) rfl rfl (by kernel_rfl) (by kernel_rfl) (by kernel_rfl) (fun _ _ _ h => h) rfl (fun wq hS => by go_simp) HSd.out ?_
          try simp only [Act.put, List.setIfInBounds_toArray, List.set_cons_succ, List.set_cons_zero]
          refine takeH 4 (some 52) ((.pointer (some ⟨b', o' + k * 2, none⟩))) rfl rfl (by kernel_rfl) (by kernel_rfl) (by kernel_rfl) (fun _ _ _ h => h) rfl (fun wq hS => by go_simp) HSd.out ?_
          try simp only [Act.put, List.setIfInBounds_toArray, List.set_cons_succ, List.set_cons_zero]
          refine takeH 5 (some 53) ((.pointer (some ⟨b', o' + k * 2, none⟩))) rfl rfl (by kernel_rfl) (by kernel_rfl) (by kernel_rfl) (fun _ _ _ h => h) rfl (fun wq hS => by go_simp) HSd.out ?_
          try simp only [Act.put, List.setIfInBounds_toArray, List.set_cons_succ, List.set_cons_zero]
          refine takeH 6 (some 54) (.int .i64 mk) rfl rfl (by kernel_rfl) (by kernel_rfl) (by kernel_rfl) (fun _ _ _ h => h) rfl (fun wq hS => by have hq := (HCC.out wq hS).1; go_simp) HSd.out ?_
          try simp only [Act.put, List.setIfInBounds_toArray, List.set_cons_succ, List.set_cons_zero]
          refine takeH 7 (some 55) (.int .u8 mk) rfl rfl (by kernel_rfl) (by kernel_rfl) (by kernel_rfl) (fun _ _ _ h => h) rfl (fun wq hS => by go_simp; exact wrap8 (by omega) (by omega)) HSd.out ?_
          try simp only [Act.put, List.setIfInBounds_toArray, List.set_cons_succ, List.set_cons_zero]
          refine takeH 8 (some 56) (.pointer (some ⟨w.heap.size, 2, none⟩)) rfl rfl (by kernel_rfl) (by kernel_rfl) (by kernel_rfl) (fun _ _ _ h => h) rfl (fun wq hS => by go_simp) HSd.out ?_
          try simp only [Act.put, List.setIfInBounds_toArray, List.set_cons_succ, List.set_cons_zero]
          refine takeH 9 (some 57) ((.slice (some ⟨b', o', none⟩) s.marks.length cap)) rfl rfl (by kernel_rfl) (by kernel_rfl) (by kernel_rfl) (fun _ _ _ h => h) rfl (fun wq hS => by have hq := HSS.out wq hS; go_simp) HSd.out ?_
          try simp only [Act.put, List.setIfInBounds_toArray, List.set_cons_succ, List.set_cons_zero]
          refine takeH 10 (some 58) (.int .i64 k) rfl rfl (by kernel_rfl) (by kernel_rfl) (by kernel_rfl) (fun _ _ _ h => h) rfl (fun wq hS => by go_simp) HSd.out ?_
          try simp only [Act.put, List.setIfInBounds_toArray, List.set_cons_succ, List.set_cons_zero]
          refine takeH 11 (some 59) ((.pointer (some ⟨b', o' + k * 2, none⟩))) rfl rfl (by kernel_rfl) (by kernel_rfl) (by kernel_rfl) (fun _ _ _ h => h) rfl (fun wq hS => by go_simp) HSd.out ?_
          try simp only [Act.put, List.setIfInBounds_toArray, List.set_cons_succ, List.set_cons_zero]
          refine takeH 12 (some 60) ((.pointer (some ⟨b', o' + k * 2 + 1, none⟩))) rfl rfl (by kernel_rfl) (by kernel_rfl) (by kernel_rfl) (fun _ _ _ h => h) rfl (fun wq hS => by go_simp) HSd.out ?_
          try simp only [Act.put, List.setIfInBounds_toArray, List.set_cons_succ, List.set_cons_zero]
          refine takeH 13 (some 61) (.int .i64 mi) rfl rfl (by kernel_rfl) (by kernel_rfl) (by kernel_rfl) (fun _ _ _ h => h) rfl (fun wq hS => by have hq := (HCC.out wq hS).2; go_simp) HSd.out ?_
          try simp only [Act.put, List.setIfInBounds_toArray, List.set_cons_succ, List.set_cons_zero]
          refine takeH 14 (some 62) (.int .u8 mi) rfl rfl (by kernel_rfl) (by kernel_rfl) (by kernel_rfl) (fun _ _ _ h => h) rfl (fun wq hS => by go_simp; exact wrap8 (by omega) (by omega)) HSd.out ?_
          try simp only [Act.put, List.setIfInBounds_toArray, List.set_cons_succ, List.set_cons_zero]
          refine oneH 15 (by kernel_rfl) rfl rfl fun K hK => ?_
          refine wp_runTo (some 63) rfl (.slice (some ⟨wS.heap.size, 0, none⟩) 2 2) (wS.alloc (.cells #[.int .u8 mk, .int .u8 mi] 5)) (by go_simp) ?_
          have hb1 := (Below.refl wS.heap.size wS).alloc (Nat.le_refl _) (.cells #[.int .u8 mk, .int .u8 mi] 5)
          have HL : Hid (BytesAt (wS.alloc (.cells #[.int .u8 mk, .int .u8 mi] 5)) (.slice (some ⟨wS.heap.size, 0, none⟩) 2 2) [mk, mi]) := Lib.hid (Own.lit wS wS.heap.size (Nat.le_refl _) [mk, mi] (by simp) _ rfl).bytes
          have HSe := Lib.hid (HSd.out.trans (hb1.mono (below_sizeq HSd.out HGB.out)))
          have HOe := Lib.hid (HOd.out.below hb1)
          clear hb1
          generalize wS.alloc (.cells #[.int .u8 mk, .int .u8 mi] 5) = wT at *
          generalize (Value.slice (some ⟨wS.heap.size, 0, none⟩) 2 2) = lv at *
          refine hK _ _ HSe.out ?_
          clear hK K
          try simp only [Act.put, List.setIfInBounds_toArray, List.set_cons_succ, List.set_cons_zero]
          refine oneH 16 (by kernel_rfl) rfl rfl fun K hK => ?_
          refine app_W2 _ _ (some 64) rfl rfl HOe.out (below_sizeq HSe.out HGB.out) HL.out (by rw [preK_length s k hk]; simp; omega) rfl rfl ?_
          intro ov wU hO hG
          have HSf := Lib.hid (HSe.out.trans (grown_below hG (below_sizeq HSe.out HGB.out) (fun k hk => (HOe.out.lt k hk).1)))
          have HOf : Hid (Own wU q ov (preK s (k + 1))) := Lib.hid (by rw [preK_step HLK.out]; exact hO)
          clear hO hG
          refine hK _ _ HSf.out ?_
          clear hK K
          try simp only [Act.put, List.setIfInBounds_toArray, List.set_cons_succ, List.set_cons_zero]
          refine takeH 17 (some 4) ov rfl rfl (by kernel_rfl) (by kernel_rfl) (by kernel_rfl) (fun _ _ _ h => h) rfl (fun wq hS => by go_simp) HSf.out ?_
          try simp only [Act.put, List.setIfInBounds_toArray, List.set_cons_succ, List.set_cons_zero]
          refine wpAnyH_done (by kernel_rfl) ?_ _
          go_wp2_with fail
          go_roundg (s.marks.length - (k + 1))
          case measure => omega
          case rel =>
            refine ⟨k + 1, by omega, by omega, by go_num, fun j m hj hjl hjk => ?_, HOf.out, HSf.out⟩
            by_cases e : j = k
            · subst e
              rw [HLK.out] at hj
              cases hj
              exact HOK.out
            · exact HA.out j m hj hjl (by omega)
      · have hkl : k = s.marks.length := by omega
        subst hkl
        have HG := Lib.hid (good_all (l := s.marks) (by omega) (by omega) (fun j m h1 h2 => HA.out j m h1 h2 h2))
        have HLN := Lib.hid (preK_length s s.marks.length (Nat.le_refl _))
        have HSEC := Lib.hid (preK_all s HG.out)
        have HEL := Lib.hid (senc_length (s := s) HG.out)
        have HSC : Hid (s.sec = s.enc) := Lib.hid (by unfold Sm.sec Sm.good; rw [HG.out]; rfl)
        have HSE : Hid (s.err = 0) := Lib.hid (by unfold Sm.err Sm.good; rw [HG.out]; rfl)
        clear hlt
        have cs := HR.out.sm.cell (i := 2) rfl
        go_upto_region 13 with fail
        refine wp_region_lit ?_
        refine takeL u4 rfl (by go_simp) ?_
        try simp only [Act.put, List.setIfInBounds_toArray, List.set_cons_succ, List.set_cons_zero]
        refine wpList_op rfl fun K hK => ?_
        go_simp
        refine (rsector_any u4 (preK s s.marks.length) (by rw [HLN.out]; omega) (by rw [HLN.out]; omega) _ HO.out.bytes).mono ?_
        rintro e w3 ⟨rfl, hb⟩
        rw [HSEC.out]
        have HR3 := Lib.hid (HR.out.below hb)
        refine hK _ _ ?_
        clear hK K hb
        try simp only [Act.put, List.setIfInBounds_toArray, List.set_cons_succ, List.set_cons_zero]
        refine store_all (cs := (u8s s.enc).toArray) HR3.out.res (by rw [u8s_size, HEL.out]; simp [zeros]) (by rw [u8s_size, HEL.out]; exact info72) (u8s_one _) rfl rfl rfl ?_
        intro wZ hZ hOZ hlZ
        try simp only [Act.put, List.setIfInBounds_toArray, List.set_cons_succ, List.set_cons_zero]
        refine takeL (.int .i64 0) rfl (by go_simp) ?_
        try simp only [Act.put, List.setIfInBounds_toArray, List.set_cons_succ, List.set_cons_zero]
        have HF := Lib.hid (HR3.out.bel.trans (hOZ.below HR3.out.bel.size (fun k hk => by have := HR3.out.g0; have := HR3.out.gr; omega)))
        refine wpList_nil ?_
        go_wp2_with fail
        exact bodyPost_ret (v := .tuple #[.agg (u8s s.enc).toArray, .int .i64 0]) (results_cell_tmp rfl _ _ r 0 _ _ _ rfl rfl Tryz.underlying72 rfl (by rw [u8s_size, HEL.out]; exact info72) (hZ.all rfl)) rfl ⟨by rw [HSC.out, HSE.out], HF.out⟩
set_option maxHeartbeats 1000000 in
set_option maxRecDepth 100000 in
theorem rencode_false (s : Sm) (sv : Value) (e0 : Int) (hmo : s.more = false) (hq : 0 ≤ s.seq ∧ s.seq < 4294967296) (hl1 : 1 ≤ s.marks.length) (hl2 : s.marks.length ≤ 24) (w : World) (h : MarksAt w sv s.marks) : Calls Tryz.prog 70 #[.agg #[.int .u32 s.seq, .bool s.more, sv, .int .i64 e0]] w fun e w' => e = .returned (.tuple #[.agg (u8s s.sec).toArray, .int .i64 s.err]) ∧ Below w.heap.size w w' := by
  obtain ⟨a, cap, rfl, -⟩ := id h
  have HMO := Lib.hid hmo
  have HQ := Lib.hid hq
  clear hmo hq
  have HM := Lib.hid h
  go_enter Tryz.func70, Tryz.ntmps70
  go_upto_region 0 with fail
  refine wp_region_lit ?_
  refine box_g rfl rfl ?_
  intro wA hA hB hl1
  try simp only [Act.put, List.setIfInBounds_toArray, List.set_cons_succ, List.set_cons_zero]
  refine alloc_g zero72 rfl ?_
  intro wB hR hB2 hl2
  try simp only [Act.put, List.setIfInBounds_toArray, List.set_cons_succ, List.set_cons_zero]
  have H0 : Hid (RS w wB w.heap.size wA.heap.size s (.slice a s.marks.length cap) e0) := Lib.hid ⟨hA.below hB2 hl1, hR, h.below (hB.trans (hB2.mono hB.size)), hB.trans (hB2.mono hB.size), Nat.le_refl _, hl1⟩
  clear hA hB hl1 hR hB2 hl2 h HM
  generalize hrr : wA.heap.size = r at *
  clear hrr wA
  refine takeL (.int .i64 0) rfl (by go_simp) ?_
  try simp only [Act.put, List.setIfInBounds_toArray, List.set_cons_succ, List.set_cons_zero]
  refine wpList_nil ?_
  have c2 := H0.out.sm.cell (i := 2) rfl
  have c1 := H0.out.sm.cell (i := 1) rfl
  rw [HMO.out] at c1
  have hl3 : ¬ (s.marks.length : Int) < 1 := by omega
  have hl4 : ¬ (24 : Int) < (s.marks.length : Int) := by omega
  go_upto_region 3 with fail
  refine wp_region_lit ?_
  refine wpList_run (.slice (some ⟨wB.heap.size, 0, none⟩) 2 2) (wB.alloc (.cells #[.int .u8 83, .int .u8 0] 5)) rfl (by go_simp) ?_
  try simp only [Act.put, List.setIfInBounds_toArray, List.set_cons_succ, List.set_cons_zero]
  have hb1 := (Below.refl wB.heap.size wB).alloc (Nat.le_refl _) (.cells #[.int .u8 83, .int .u8 0] 5)
  have hlit : Own (wB.alloc (.cells #[.int .u8 83, .int .u8 0] 5)) wB.heap.size (.slice (some ⟨wB.heap.size, 0, none⟩) 2 2) [83, 0] := Own.lit wB wB.heap.size (Nat.le_refl _) [83, 0] (by simp) _ rfl
  have H1 := Lib.hid (H0.out.below hb1)
  have HB0 : Hid (Below wB.heap.size wB (wB.alloc (.cells #[.int .u8 83, .int .u8 0] 5))) := Lib.hid hb1
  have HL1 := Lib.hid hlit
  have hbk := Blk.new wB #[.int .u8 83, .int .u8 0] 5
  clear hlit hb1 c1 c2
  generalize wB.alloc (.cells #[.int .u8 83, .int .u8 0] 5) = w1 at *
  generalize hgB : wB.heap.size = q at *
  have HGB := Lib.hid hgB
  clear hgB
  refine takeL (.slice (some ⟨q, 0, none⟩) 2 2) rfl (by go_simp) ?_
  try simp only [Act.put, List.setIfInBounds_toArray, List.set_cons_succ, List.set_cons_zero]
  refine wpList_nil ?_
  have c1 := H1.out.sm.cell (i := 1) rfl
  rw [HMO.out] at c1
  clear hbk
  have HL2 := HL1
  rw [show ([83, 0] : List Int) = [83, bit s.more] by rw [HMO.out]; rfl] at HL2
  have HB2 := HB0
  go_upto_region 6 with fail
  generalize w1 = w2 at *
  have HR0 := Lib.hid (fun wq (hS : Below q wB wq) => H0.out.below (by rw [HGB.out]; exact hS))
  go_cut [4] from 22 to 33 (fun s4 wx => ∃ o, o = s4 ∧ Own wx q o (pre1 s) ∧ Below q wB wx)
  case first =>
    refine startH (fun wq => Below q wB wq) (by kernel_rfl) ?_
    have HS := Lib.hid HB2.out.drew
    have HO := Lib.hid (HL2.out.below (Below.refl _ _).drew)
    generalize w2.drew = wS at *
    refine takeH 0 (some 22) (.slice (some ⟨q, 0, none⟩) 2 2) rfl rfl (by kernel_rfl) (by kernel_rfl) (by kernel_rfl) (fun _ _ _ h => h) rfl (fun wq hS => by go_simp) HS.out ?_
    try simp only [Act.put, List.setIfInBounds_toArray, List.set_cons_succ, List.set_cons_zero]
    refine takeH 1 (some 23) (.pointer (some ⟨w.heap.size, 0, none⟩)) rfl rfl (by kernel_rfl) (by kernel_rfl) (by kernel_rfl) (fun _ _ _ h => h) rfl (fun wq hS => by go_simp) HS.out ?_
    try simp only [Act.put, List.setIfInBounds_toArray, List.set_cons_succ, List.set_cons_zero]
    refine takeH 2 (some 24) (.int .u32 s.seq) rfl rfl (by kernel_rfl) (by kernel_rfl) (by kernel_rfl) (fun _ _ _ h => h) rfl (fun wq hS => by have hq := (HR0.out wq hS).sm.cell (i := 0) rfl; go_simp) HS.out ?_
    try simp only [Act.put, List.setIfInBounds_toArray, List.set_cons_succ, List.set_cons_zero]
    refine takeH 5 (some 27) (.pointer (some ⟨w.heap.size, 2, none⟩)) rfl rfl (by kernel_rfl) (by kernel_rfl) (by kernel_rfl) (fun _ _ _ h => h) rfl (fun wq hS => by go_simp) HS.out ?_
    try simp only [Act.put, List.setIfInBounds_toArray, List.set_cons_succ, List.set_cons_zero]
    refine takeH 6 (some 28) (.slice a s.marks.length cap) rfl rfl (by kernel_rfl) (by kernel_rfl) (by kernel_rfl) (fun _ _ _ h => h) rfl (fun wq hS => by have hq := (HR0.out wq hS).sm.cell (i := 2) rfl; go_simp) HS.out ?_
    try simp only [Act.put, List.setIfInBounds_toArray, List.set_cons_succ, List.set_cons_zero]
    refine takeH 7 (some 29) (.int .i64 s.marks.length) rfl rfl (by kernel_rfl) (by kernel_rfl) (by kernel_rfl) (fun _ _ _ h => h) rfl (fun wq hS => by go_simp) HS.out ?_
    try simp only [Act.put, List.setIfInBounds_toArray, List.set_cons_succ, List.set_cons_zero]
    refine takeH 8 (some 30) (.int .u8 s.marks.length) rfl rfl (by kernel_rfl) (by kernel_rfl) (by kernel_rfl) (fun _ _ _ h => h) rfl (fun wq hS => by go_simp <;> exact wrap8 (by omega) (by omega)) HS.out ?_
    try simp only [Act.put, List.setIfInBounds_toArray, List.set_cons_succ, List.set_cons_zero]
    refine twoH 3 9 (by kernel_rfl) rfl rfl rfl rfl (fun K hK => ?_) (fun K hK => ?_)
    · go_simp
      refine (rput4_any s.seq HQ.out _).mono ?_
      rintro e wa1 ⟨pv, rfl, hpo, hpb⟩
      have HS1 := Lib.hid (HS.out.trans (hpb.mono (below_sizeq HS.out HGB.out)))
      have HO1 := Lib.hid (HO.out.below hpb)
      have HP1 := Lib.hid hpo.bytes
      clear hpo hpb
      refine hK _ _ HS1.out ?_
      clear hK K
      try simp only [Act.put, List.setIfInBounds_toArray, List.set_cons_succ, List.set_cons_zero]
      refine twoH 4 9 (by kernel_rfl) rfl rfl rfl rfl (fun K hK => ?_) (fun K hK => ?_)
      · refine app_W2 _ _ (some 26) rfl rfl HO1.out (below_sizeq HS1.out HGB.out) HP1.out (by simp [le_length]) rfl rfl ?_
        intro ov2 wa2 hO hG
        have hB' := grown_below hG (below_sizeq HS1.out HGB.out) (fun k hk => (HO1.out.lt k hk).1)
        have HS2 := Lib.hid (HS1.out.trans hB')
        have HO2 := Lib.hid hO
        clear hO hG hB'
        refine hK _ _ HS2.out ?_
        clear hK K
        try simp only [Act.put, List.setIfInBounds_toArray, List.set_cons_succ, List.set_cons_zero]
        refine oneH 9 (by kernel_rfl) rfl rfl fun K hK => ?_
        refine wp_runTo (some 31) rfl (.slice (some ⟨wa2.heap.size, 0, none⟩) 1 1) (wa2.alloc (.cells #[.int .u8 s.marks.length] 5)) (by go_simp) ?_
        have hb1 := (Below.refl wa2.heap.size wa2).alloc (Nat.le_refl _) (.cells #[.int .u8 s.marks.length] 5)
        have HL3 : Hid (BytesAt (wa2.alloc (.cells #[.int .u8 s.marks.length] 5)) (.slice (some ⟨wa2.heap.size, 0, none⟩) 1 1) [(s.marks.length : Int)]) := Lib.hid (Own.lit wa2 wa2.heap.size (Nat.le_refl _) [(s.marks.length : Int)] (by simp) _ rfl).bytes
        have HS3 := Lib.hid (HS2.out.trans (hb1.mono (below_sizeq HS2.out HGB.out)))
        have HO3 := Lib.hid (HO2.out.below hb1)
        have NE3 : Hid (∀ b oo nn c, (Value.slice (some ⟨wa2.heap.size, 0, none⟩) 1 1) = .slice (some ⟨b, oo, none⟩) nn c → Value.ownBlock (ov2) ≠ some b) := Lib.hid (fun b oo nn c h hb => by cases h; have := (HO2.out.lt _ hb).2; omega)
        clear hb1
        generalize (Value.slice (some ⟨wa2.heap.size, 0, none⟩) 1 1) = lv at *
        generalize wa2.alloc (.cells #[.int .u8 s.marks.length] 5) = wa3 at *
        refine hK _ _ HS3.out ?_
        clear hK K
        try simp only [Act.put, List.setIfInBounds_toArray, List.set_cons_succ, List.set_cons_zero]
        refine oneH 10 (by kernel_rfl) rfl rfl fun K hK => ?_
        refine app_W2 _ _ (some 32) rfl rfl HO3.out (below_sizeq HS3.out HGB.out) HL3.out (by simp [le_length]) rfl rfl ?_
        intro ov4 wa4 hO hG
        have hB' := grown_below hG (below_sizeq HS3.out HGB.out) (fun k hk => (HO3.out.lt k hk).1)
        have HS4 := Lib.hid (HS3.out.trans hB')
        have HO4 : Hid (Own wa4 q ov4 (pre1 s)) := Lib.hid hO
        clear hO hG hB'
        refine hK _ _ HS4.out ?_
        clear hK K
        try simp only [Act.put, List.setIfInBounds_toArray, List.set_cons_succ, List.set_cons_zero]
        refine takeH 11 (some 4) (ov4) rfl rfl (by kernel_rfl) (by kernel_rfl) (by kernel_rfl) (fun _ _ _ h => h) rfl (fun wq hS => by go_simp) HS4.out ?_
        try simp only [Act.put, List.setIfInBounds_toArray, List.set_cons_succ, List.set_cons_zero]
        refine wpAnyH_done (by kernel_rfl) ?_ _
        go_wp2_with fail
        go_meet
        exact ⟨_, rfl, HO4.out, HS4.out⟩
      · refine wp_runTo (some 31) rfl (.slice (some ⟨wa1.heap.size, 0, none⟩) 1 1) (wa1.alloc (.cells #[.int .u8 s.marks.length] 5)) (by go_simp) ?_
        have hb1 := (Below.refl wa1.heap.size wa1).alloc (Nat.le_refl _) (.cells #[.int .u8 s.marks.length] 5)
        have HL6 : Hid (BytesAt (wa1.alloc (.cells #[.int .u8 s.marks.length] 5)) (.slice (some ⟨wa1.heap.size, 0, none⟩) 1 1) [(s.marks.length : Int)]) := Lib.hid (Own.lit wa1 wa1.heap.size (Nat.le_refl _) [(s.marks.length : Int)] (by simp) _ rfl).bytes
        have HS6 := Lib.hid (HS1.out.trans (hb1.mono (below_sizeq HS1.out HGB.out)))
        have HO6 := Lib.hid (HO1.out.below hb1)
        have NE6 : Hid (∀ b oo nn c, (Value.slice (some ⟨wa1.heap.size, 0, none⟩) 1 1) = .slice (some ⟨b, oo, none⟩) nn c → Value.ownBlock (.slice (some ⟨q, 0, none⟩) 2 2) ≠ some b) := Lib.hid (fun b oo nn c h hb => by cases h; have := (HO1.out.lt _ hb).2; omega)
        have HP6 := Lib.hid (HP1.out.below hb1)
        clear hb1
        generalize (Value.slice (some ⟨wa1.heap.size, 0, none⟩) 1 1) = lv at *
        generalize wa1.alloc (.cells #[.int .u8 s.marks.length] 5) = wa6 at *
        refine hK _ _ HS6.out ?_
        clear hK K
        try simp only [Act.put, List.setIfInBounds_toArray, List.set_cons_succ, List.set_cons_zero]
        refine oneH 4 (by kernel_rfl) rfl rfl fun K hK => ?_
        refine app_W2 _ _ (some 26) rfl rfl HO6.out (below_sizeq HS6.out HGB.out) HP6.out (by simp [le_length]) rfl rfl ?_
        intro ov7 wa7 hO hG
        have hB' := grown_below hG (below_sizeq HS6.out HGB.out) (fun k hk => (HO6.out.lt k hk).1)
        have HS7 := Lib.hid (HS6.out.trans hB')
        have HO7 := Lib.hid hO
        have HL7 := Lib.hid (HL6.out.grown hG NE6.out)
        clear hO hG hB'
        refine hK _ _ HS7.out ?_
        clear hK K
        try simp only [Act.put, List.setIfInBounds_toArray, List.set_cons_succ, List.set_cons_zero]
        refine oneH 10 (by kernel_rfl) rfl rfl fun K hK => ?_
        refine app_W2 _ _ (some 32) rfl rfl HO7.out (below_sizeq HS7.out HGB.out) HL7.out (by simp [le_length]) rfl rfl ?_
        intro ov8 wa8 hO hG
        have hB' := grown_below hG (below_sizeq HS7.out HGB.out) (fun k hk => (HO7.out.lt k hk).1)
        have HS8 := Lib.hid (HS7.out.trans hB')
        have HO8 : Hid (Own wa8 q ov8 (pre1 s)) := Lib.hid hO
        clear hO hG hB'
        refine hK _ _ HS8.out ?_
        clear hK K
        try simp only [Act.put, List.setIfInBounds_toArray, List.set_cons_succ, List.set_cons_zero]
        refine takeH 11 (some 4) (ov8) rfl rfl (by kernel_rfl) (by kernel_rfl) (by kernel_rfl) (fun _ _ _ h => h) rfl (fun wq hS => by go_simp) HS8.out ?_
        try simp only [Act.put, List.setIfInBounds_toArray, List.set_cons_succ, List.set_cons_zero]
        refine wpAnyH_done (by kernel_rfl) ?_ _
        go_wp2_with fail
        go_meet
        exact ⟨_, rfl, HO8.out, HS8.out⟩
    · refine wp_runTo (some 31) rfl (.slice (some ⟨wS.heap.size, 0, none⟩) 1 1) (wS.alloc (.cells #[.int .u8 s.marks.length] 5)) (by go_simp) ?_
      have hb1 := (Below.refl wS.heap.size wS).alloc (Nat.le_refl _) (.cells #[.int .u8 s.marks.length] 5)
      have HL10 : Hid (BytesAt (wS.alloc (.cells #[.int .u8 s.marks.length] 5)) (.slice (some ⟨wS.heap.size, 0, none⟩) 1 1) [(s.marks.length : Int)]) := Lib.hid (Own.lit wS wS.heap.size (Nat.le_refl _) [(s.marks.length : Int)] (by simp) _ rfl).bytes
      have HS10 := Lib.hid (HS.out.trans (hb1.mono (below_sizeq HS.out HGB.out)))
      have HO10 := Lib.hid (HO.out.below hb1)
      have NE10 : Hid (∀ b oo nn c, (Value.slice (some ⟨wS.heap.size, 0, none⟩) 1 1) = .slice (some ⟨b, oo, none⟩) nn c → Value.ownBlock (.slice (some ⟨q, 0, none⟩) 2 2) ≠ some b) := Lib.hid (fun b oo nn c h hb => by cases h; have := (HO.out.lt _ hb).2; omega)
      clear hb1
      generalize (Value.slice (some ⟨wS.heap.size, 0, none⟩) 1 1) = lv at *
      generalize wS.alloc (.cells #[.int .u8 s.marks.length] 5) = wa10 at *
      refine hK _ _ HS10.out ?_
      clear hK K
      try simp only [Act.put, List.setIfInBounds_toArray, List.set_cons_succ, List.set_cons_zero]
      refine oneH 3 (by kernel_rfl) rfl rfl fun K hK => ?_
      go_simp
      refine (rput4_any s.seq HQ.out _).mono ?_
      rintro e wa11 ⟨pv, rfl, hpo, hpb⟩
      have HS11 := Lib.hid (HS10.out.trans (hpb.mono (below_sizeq HS10.out HGB.out)))
      have HO11 := Lib.hid (HO10.out.below hpb)
      have HP11 := Lib.hid hpo.bytes
      have HL11 := Lib.hid (HL10.out.below hpb)
      clear hpo hpb
      refine hK _ _ HS11.out ?_
      clear hK K
      try simp only [Act.put, List.setIfInBounds_toArray, List.set_cons_succ, List.set_cons_zero]
      refine oneH 4 (by kernel_rfl) rfl rfl fun K hK => ?_
      refine app_W2 _ _ (some 26) rfl rfl HO11.out (below_sizeq HS11.out HGB.out) HP11.out (by simp [le_length]) rfl rfl ?_
      intro ov12 wa12 hO hG
      have hB' := grown_below hG (below_sizeq HS11.out HGB.out) (fun k hk => (HO11.out.lt k hk).1)
      have HS12 := Lib.hid (HS11.out.trans hB')
      have HO12 := Lib.hid hO
      have HL12 := Lib.hid (HL11.out.grown hG NE10.out)
      clear hO hG hB'
      refine hK _ _ HS12.out ?_
      clear hK K
      try simp only [Act.put, List.setIfInBounds_toArray, List.set_cons_succ, List.set_cons_zero]
      refine oneH 10 (by kernel_rfl) rfl rfl fun K hK => ?_
      refine app_W2 _ _ (some 32) rfl rfl HO12.out (below_sizeq HS12.out HGB.out) HL12.out (by simp [le_length]) rfl rfl ?_
      intro ov13 wa13 hO hG
      have hB' := grown_below hG (below_sizeq HS12.out HGB.out) (fun k hk => (HO12.out.lt k hk).1)
      have HS13 := Lib.hid (HS12.out.trans hB')
      have HO13 : Hid (Own wa13 q ov13 (pre1 s)) := Lib.hid hO
      clear hO hG hB'
      refine hK _ _ HS13.out ?_
      clear hK K
      try simp only [Act.put, List.setIfInBounds_toArray, List.set_cons_succ, List.set_cons_zero]
      refine takeH 11 (some 4) (ov13) rfl rfl (by kernel_rfl) (by kernel_rfl) (by kernel_rfl) (fun _ _ _ h => h) rfl (fun wq hS => by go_simp) HS13.out ?_
      try simp only [Act.put, List.setIfInBounds_toArray, List.set_cons_succ, List.set_cons_zero]
      refine wpAnyH_done (by kernel_rfl) ?_ _
      go_wp2_with fail
      go_meet
      exact ⟨_, rfl, HO13.out, HS13.out⟩
  case rest =>
    obtain ⟨s4, rfl, hO3, hB3⟩ := hcut
    have HO := Lib.hid hO3
    have HS := Lib.hid hB3
    clear hO3 hB3 HL1 HL2 HB2 HB0 H1
    have HLEN := Lib.hid (show preK s 0 = pre1 s from by unfold preK; exact List.append_nil _)
    go_wp2_with fail
    go_loopg [4, 5] s.marks.length (fun n' o i wr => ∃ k : Nat, s.marks.length - k ≤ n' ∧ k ≤ s.marks.length ∧ i = .int .i64 k ∧ (∀ j m, s.marks[j]? = some m → j < s.marks.length → j < k → okMark m = true) ∧ Own wr q o (preK s k) ∧ Below q wB wr)
    case atStart => exact ⟨0, by omega, by omega, rfl, fun j m _ _ h => by omega, by rw [HLEN.out]; exact HO.out, HS.out⟩
    case round =>
      obtain ⟨k, hgk, hk, rfl, hall, hown, hbel⟩ := hrel
      have HA := Lib.hid hall
      clear HO HS HLEN
      have HO := Lib.hid hown
      have HS := Lib.hid hbel
      have HR := Lib.hid (HR0.out wr hbel)
      clear hown hbel hall
      have hk0 : (0 : Int) ≤ (k : Int) := by omega
      by_cases hlt : k < s.marks.length
      · have hlk : s.marks[k]? = some s.marks[k] := by simp [hlt]
        obtain ⟨b', o', cap', he, hcells⟩ := HR.out.mark.has (by omega)
        cases he
        obtain ⟨c1, c2⟩ := hcells k _ hlk
        have cs := HR.out.sm.cell (i := 2) rfl
        have HLK := Lib.hid hlk
        clear hcells hlk
        generalize s.marks[k] = m at *
        obtain ⟨mk, mi⟩ := m
        simp only at c1 c2
        have hk1 : (k : Int) < (s.marks.length : Int) := by omega
        go_upto_region 10 with fail
        go_wp2_with fail
        refine (rmark_any mk mi _).mono ?_
        rintro e w3 ⟨rfl, hb⟩
        have HS3 := Lib.hid (HS.out.trans (hb.mono (below_sizeq HS.out HGB.out)))
        have HO3 := Lib.hid (HO.out.below hb)
        have HR3 := Lib.hid (HR.out.below hb)
        clear hb
        cases hok : okMark (mk, mi)
        · have HBAD := Lib.hid (good_bad HLK.out hok)
          have HSC : Hid (s.sec = zeros 64) := Lib.hid (by unfold Sm.sec Sm.good; rw [HBAD.out]; rfl)
          have HSE : Hid (s.err = 11) := Lib.hid (by unfold Sm.err Sm.good; rw [HBAD.out]; rfl)
          go_upto_region 11 with fail
          refine wp_region_lit ?_
          refine build_g (build72 _) rfl ?_
          try simp only [Act.put, List.setIfInBounds_toArray, List.set_cons_succ, List.set_cons_zero]
          refine store_all HR3.out.res (by simp) (by simpa [zeros] using info72) (u8s_one _) rfl rfl rfl ?_
          intro wZ hZ hOZ hlZ
          try simp only [Act.put, List.setIfInBounds_toArray, List.set_cons_succ, List.set_cons_zero]
          refine takeL (.int .i64 11) rfl (by go_simp) ?_
          try simp only [Act.put, List.setIfInBounds_toArray, List.set_cons_succ, List.set_cons_zero]
          have HF := Lib.hid (HR3.out.bel.trans (hOZ.below HR3.out.bel.size (fun k hk => by have := HR3.out.g0; have := HR3.out.gr; omega)))
          refine wpList_nil ?_
          go_wp2_with fail
          exact bodyPost_ret (v := .tuple #[.agg (u8s (zeros 64)).toArray, .int .i64 11]) (results_cell_tmp rfl _ _ r 0 _ _ _ rfl rfl Tryz.underlying72 rfl (by simpa [zeros] using info72) (hZ.all rfl)) rfl ⟨by rw [HSC.out, HSE.out], HF.out⟩
        · have HOK := Lib.hid hok
          obtain ⟨hm1, hm2, hm3, hm4, hm5⟩ := okMark_iff.1 hok
          simp only at hm1 hm2 hm3 hm4 hm5
          clear hok c1 c2 cs
          go_upto_region 12 with fail
          have HCC := Lib.hid (fun wq (hS : Below q wB wq) => show wq.cell? ⟨b', o' + k * 2, none⟩ = some (.int .i64 mk) ∧ wq.cell? ⟨b', o' + k * 2 + 1, none⟩ = some (.int .i64 mi) from by
            obtain ⟨_, _, _, he, hcells⟩ := (HR0.out wq hS).mark.has (by omega)
            cases he
            exact hcells k _ HLK.out)
          have HSS := Lib.hid (fun wq (hS : Below q wB wq) => show wq.cell? ⟨w.heap.size, 2, none⟩ = some (.slice (some ⟨b', o', none⟩) s.marks.length cap) from (HR0.out wq hS).sm.cell rfl)
          refine startH (fun wq => Below q wB wq) (by kernel_rfl) ?_
          have HSd := Lib.hid HS3.out.drew
          have HOd := Lib.hid (HO3.out.below (Below.refl _ _).drew)
          generalize w3.drew = wS at *
          refine takeH 0 (some 48) (u4) rfl rfl (by kernel_rfl) (by kernel_rfl) (by kernel_rfl) (fun _ _ _ h => h) rfl (fun wq hS => by go_simp) HSd.out ?_
          try simp only [Act.put, List.setIfInBounds_toArray, List.set_cons_succ, List.set_cons_zero]
          refine takeH 1 (some 49) (.pointer (some ⟨w.heap.size, 2, none⟩)) rfl rfl (by kernel_rfl) (by kernel_rfl) (by kernel_rfl) (fun _ _ _ h => h) rfl (fun wq hS => by go_simp) HSd.out ?_
          try simp only [Act.put, List.setIfInBounds_toArray, List.set_cons_succ, List.set_cons_zero]
          refine takeH 2 (some 50) ((.slice (some ⟨b', o', none⟩) s.marks.length cap)) rfl rfl (by kernel_rfl) (by kernel_rfl) (by kernel_rfl) (fun _ _ _ h => h) rfl (fun wq hS => by have hq := HSS.out wq hS; go_simp) HSd.out ?_
          try simp only [Act.put, List.setIfInBounds_toArray, List.set_cons_succ, List.set_cons_zero]
          refine takeH 3 (some 51) (.int .i64 k) rfl rfl (by kernel_rfl) (by kernel_rfl) (by kernel_rfl) (fun _ _ _ h => h) rfl (fun wq hS => by go_simp) HSd.out ?_
          try simp only [Act.put, List.setIfInBounds_toArray, List.set_cons_succ, List.set_cons_zero]
          refine takeH 4 (some 52) ((.pointer (some ⟨b', o' + k * 2, none⟩))) rfl rfl (by kernel_rfl) (by kernel_rfl) (by kernel_rfl) (fun _ _ _ h => h) rfl (fun wq hS => by go_simp) HSd.out ?_
          try simp only [Act.put, List.setIfInBounds_toArray, List.set_cons_succ, List.set_cons_zero]
          refine takeH 5 (some 53) ((.pointer (some ⟨b', o' + k * 2, none⟩))) rfl rfl (by kernel_rfl) (by kernel_rfl) (by kernel_rfl) (fun _ _ _ h => h) rfl (fun wq hS => by go_simp) HSd.out ?_
          try simp only [Act.put, List.setIfInBounds_toArray, List.set_cons_succ, List.set_cons_zero]
          refine takeH 6 (some 54) (.int .i64 mk) rfl rfl (by kernel_rfl) (by kernel_rfl) (by kernel_rfl) (fun _ _ _ h => h) rfl (fun wq hS => by have hq := (HCC.out wq hS).1; go_simp) HSd.out ?_
          try simp only [Act.put, List.setIfInBounds_toArray, List.set_cons_succ, List.set_cons_zero]
          refine takeH 7 (some 55) (.int .u8 mk) rfl rfl (by kernel_rfl) (by kernel_rfl) (by kernel_rfl) (fun _ _ _ h => h) rfl (fun wq hS => by go_simp; exact wrap8 (by omega) (by omega)) HSd.out ?_
          try simp only [Act.put, List.setIfInBounds_toArray, List.set_cons_succ, List.set_cons_zero]
          refine takeH 8 (some 56) (.pointer (some ⟨w.heap.size, 2, none⟩)) rfl rfl (by kernel_rfl) (by kernel_rfl) (by kernel_rfl) (fun _ _ _ h => h) rfl (fun wq hS => by go_simp) HSd.out ?_
          try simp only [Act.put, List.setIfInBounds_toArray, List.set_cons_succ, List.set_cons_zero]
          refine takeH 9 (some 57) ((.slice (some ⟨b', o', none⟩) s.marks.length cap)) rfl rfl (by kernel_rfl) (by kernel_rfl) (by kernel_rfl) (fun _ _ _ h => h) rfl (fun wq hS => by have hq := HSS.out wq hS; go_simp) HSd.out ?_
          try simp only [Act.put, List.setIfInBounds_toArray, List.set_cons_succ, List.set_cons_zero]
          refine takeH 10 (some 58) (.int .i64 k) rfl rfl (by kernel_rfl) (by kernel_rfl) (by kernel_rfl) (fun _ _ _ h => h) rfl (fun wq hS => by go_simp) HSd.out ?_
          try simp only [Act.put, List.setIfInBounds_toArray, List.set_cons_succ, List.set_cons_zero]
          refine takeH 11 (some 59) ((.pointer (some ⟨b', o' + k * 2, none⟩))) rfl rfl (by kernel_rfl) (by kernel_rfl) (by kernel_rfl) (fun _ _ _ h => h) rfl (fun wq hS => by go_simp) HSd.out ?_
          try simp only [Act.put, List.setIfInBounds_toArray, List.set_cons_succ, List.set_cons_zero]
          refine takeH 12 (some 60) ((.pointer (some ⟨b', o' + k * 2 + 1, none⟩))) rfl rfl (by kernel_rfl) (by kernel_rfl) (by kernel_rfl) (fun _ _ _ h => h) rfl (fun wq hS => by go_simp) HSd.out ?_
          try simp only [Act.put, List.setIfInBounds_toArray, List.set_cons_succ, List.set_cons_zero]
          refine takeH 13 (some 61) (.int .i64 mi) rfl rfl (by kernel_rfl) (by kernel_rfl) (by kernel_rfl) (fun _ _ _ h => h) rfl (fun wq hS => by have hq := (HCC.out wq hS).2; go_simp) HSd.out ?_
          try simp only [Act.put, List.setIfInBounds_toArray, List.set_cons_succ, List.set_cons_zero]
          refine takeH 14 (some 62) (.int .u8 mi) rfl rfl (by kernel_rfl) (by kernel_rfl) (by kernel_rfl) (fun _ _ _ h => h) rfl (fun wq hS => by go_simp; exact wrap8 (by omega) (by omega)) HSd.out ?_
          try simp only [Act.put, List.setIfInBounds_toArray, List.set_cons_succ, List.set_cons_zero]
          refine oneH 15 (by kernel_rfl) rfl rfl fun K hK => ?_
          refine wp_runTo (some 63) rfl (.slice (some ⟨wS.heap.size, 0, none⟩) 2 2) (wS.alloc (.cells #[.int .u8 mk, .int .u8 mi] 5)) (by go_simp) ?_
          have hb1 := (Below.refl wS.heap.size wS).alloc (Nat.le_refl _) (.cells #[.int .u8 mk, .int .u8 mi] 5)
          have HL : Hid (BytesAt (wS.alloc (.cells #[.int .u8 mk, .int .u8 mi] 5)) (.slice (some ⟨wS.heap.size, 0, none⟩) 2 2) [mk, mi]) := Lib.hid (Own.lit wS wS.heap.size (Nat.le_refl _) [mk, mi] (by simp) _ rfl).bytes
          have HSe := Lib.hid (HSd.out.trans (hb1.mono (below_sizeq HSd.out HGB.out)))
          have HOe := Lib.hid (HOd.out.below hb1)
          clear hb1
          generalize wS.alloc (.cells #[.int .u8 mk, .int .u8 mi] 5) = wT at *
          generalize (Value.slice (some ⟨wS.heap.size, 0, none⟩) 2 2) = lv at *
          refine hK _ _ HSe.out ?_
          clear hK K
          try simp only [Act.put, List.setIfInBounds_toArray, List.set_cons_succ, List.set_cons_zero]
          refine oneH 16 (by kernel_rfl) rfl rfl fun K hK => ?_
          refine app_W2 _ _ (some 64) rfl rfl HOe.out (below_sizeq HSe.out HGB.out) HL.out (by rw [preK_length s k hk]; simp; omega) rfl rfl ?_
          intro ov wU hO hG
          have HSf := Lib.hid (HSe.out.trans (grown_below hG (below_sizeq HSe.out HGB.out) (fun k hk => (HOe.out.lt k hk).1)))
          have HOf : Hid (Own wU q ov (preK s (k + 1))) := Lib.hid (by rw [preK_step HLK.out]; exact hO)
          clear hO hG
          refine hK _ _ HSf.out ?_
          clear hK K
          try simp only [Act.put, List.setIfInBounds_toArray, List.set_cons_succ, List.set_cons_zero]
          refine takeH 17 (some 4) ov rfl rfl (by kernel_rfl) (by kernel_rfl) (by kernel_rfl) (fun _ _ _ h => h) rfl (fun wq hS => by go_simp) HSf.out ?_
          try simp only [Act.put, List.setIfInBounds_toArray, List.set_cons_succ, List.set_cons_zero]
          refine wpAnyH_done (by kernel_rfl) ?_ _
          go_wp2_with fail
          go_roundg (s.marks.length - (k + 1))
          case measure => omega
          case rel =>
            refine ⟨k + 1, by omega, by omega, by go_num, fun j m hj hjl hjk => ?_, HOf.out, HSf.out⟩
            by_cases e : j = k
            · subst e
              rw [HLK.out] at hj
              cases hj
              exact HOK.out
            · exact HA.out j m hj hjl (by omega)
      · have hkl : k = s.marks.length := by omega
        subst hkl
        have HG := Lib.hid (good_all (l := s.marks) (by omega) (by omega) (fun j m h1 h2 => HA.out j m h1 h2 h2))
        have HLN := Lib.hid (preK_length s s.marks.length (Nat.le_refl _))
        have HSEC := Lib.hid (preK_all s HG.out)
        have HEL := Lib.hid (senc_length (s := s) HG.out)
        have HSC : Hid (s.sec = s.enc) := Lib.hid (by unfold Sm.sec Sm.good; rw [HG.out]; rfl)
        have HSE : Hid (s.err = 0) := Lib.hid (by unfold Sm.err Sm.good; rw [HG.out]; rfl)
        clear hlt
        have cs := HR.out.sm.cell (i := 2) rfl
        go_upto_region 13 with fail
        refine wp_region_lit ?_
        refine takeL u4 rfl (by go_simp) ?_
        try simp only [Act.put, List.setIfInBounds_toArray, List.set_cons_succ, List.set_cons_zero]
        refine wpList_op rfl fun K hK => ?_
        go_simp
        refine (rsector_any u4 (preK s s.marks.length) (by rw [HLN.out]; omega) (by rw [HLN.out]; omega) _ HO.out.bytes).mono ?_
        rintro e w3 ⟨rfl, hb⟩
        rw [HSEC.out]
        have HR3 := Lib.hid (HR.out.below hb)
        refine hK _ _ ?_
        clear hK K hb
        try simp only [Act.put, List.setIfInBounds_toArray, List.set_cons_succ, List.set_cons_zero]
        refine store_all (cs := (u8s s.enc).toArray) HR3.out.res (by rw [u8s_size, HEL.out]; simp [zeros]) (by rw [u8s_size, HEL.out]; exact info72) (u8s_one _) rfl rfl rfl ?_
        intro wZ hZ hOZ hlZ
        try simp only [Act.put, List.setIfInBounds_toArray, List.set_cons_succ, List.set_cons_zero]
        refine takeL (.int .i64 0) rfl (by go_simp) ?_
        try simp only [Act.put, List.setIfInBounds_toArray, List.set_cons_succ, List.set_cons_zero]
        have HF := Lib.hid (HR3.out.bel.trans (hOZ.below HR3.out.bel.size (fun k hk => by have := HR3.out.g0; have := HR3.out.gr; omega)))
        refine wpList_nil ?_
        go_wp2_with fail
        exact bodyPost_ret (v := .tuple #[.agg (u8s s.enc).toArray, .int .i64 0]) (results_cell_tmp rfl _ _ r 0 _ _ _ rfl rfl Tryz.underlying72 rfl (by rw [u8s_size, HEL.out]; exact info72) (hZ.all rfl)) rfl ⟨by rw [HSC.out, HSE.out], HF.out⟩
theorem srencode_any (s : Sm) (sv : Value) (e0 : Int) (hw : s.Wf) (w : World) (h : MarksAt w sv s.marks) : Calls Tryz.prog 70 #[.agg #[.int .u32 s.seq, .bool s.more, sv, .int .i64 e0]] w fun e w' => e = .returned (.tuple #[.agg (u8s s.sec).toArray, .int .i64 s.err]) ∧ Below w.heap.size w w' := by
  by_cases hl : s.marks.length < 1 ∨ 24 < s.marks.length
  · have hg : s.good = false := by
      rcases hl with hl | hl
      · exact good_short hl
      · exact good_long hl
    rw [show s.sec = zeros 64 from by unfold Sm.sec; rw [hg]; rfl, show s.err = 11 from by unfold Sm.err; rw [hg]; rfl]
    exact rencode_len s sv e0 hl w h
  · cases hm : s.more
    · have := rencode_false s sv e0 hm hw.seq (by omega) (by omega) w h
      rwa [hm] at this
    · have := rencode_true s sv e0 hm hw.seq (by omega) (by omega) w h
      rwa [hm] at this
theorem swp_skipTo {P : Program} {o : Oper} {a : Act} {w : World} {K : Act → World → Prop} {Q : Exit → Act → World → Prop} (dst : Option Tmp) (hd : o.dst = dst) (w' : World) (hr : (execOp a.eval o).run P w = .ok .skip w') (h : K (a.put dst undef) w') : o.wp P a w K Q := by
  subst hd
  unfold Oper.wp
  rw [hr]
  exact h
theorem built150n (n : Int) (b : Bool) : Tryz.prog.built 150 [(0, .int .u32 n), (1, .bool b)] = some #[.int .u32 n, .bool b, .slice none 0 0, .int .i64 0] := by kernel_rfl
theorem rsm_one0 (n : Int) (b : Bool) (e0 : Int) : ∀ v ∈ (#[.int .u32 n, .bool b, .slice none 0 0, .int .i64 e0] : Array Value), v.oneCell' = true := fun v hv => by
  simp only [List.mem_toArray, List.mem_cons, List.not_mem_nil, or_false] at hv
  rcases hv with rfl | rfl | rfl | rfl <;> rfl
section
variable {W w w' : World} {B g r t : Nat} {x : List Int} {q : Int} {b : Bool} {sv : Value}
end

end Go.Proofs.YtmlniannilnmhaaGreatDoor
