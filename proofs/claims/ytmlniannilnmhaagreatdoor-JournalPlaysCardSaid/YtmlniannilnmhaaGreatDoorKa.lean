/- The statements' own helpers: Own, Same. -/
import Derived.Test.YtmlniannilnmhaaGreatDoorJw
namespace Go.Proofs.YtmlniannilnmhaaGreatDoor
set_option linter.unusedSimpArgs false
set_option linter.unusedVariables false
open Go.RowKit

theorem app_WN {B : Nat} {sv tv : Value} {l m : List Int} {o : Oper} {a : Act} {w : World} {K : Act → World → Prop} {Q : Exit → Act → World → Prop} (x y : Operand) (dst : Option Tmp) (hd : o.dst = dst) (ho : o.op = .call { callee := .builtin .append, args := #[x, y], argTypes := #[25, 25] })
    (h : OwnN w B sv l) (hB : B ≤ w.heap.size) (k : IntsAt w tv m) (hlen : l.length + m.length ≤ 1000000) (hx : a.eval x = sv) (hy : a.eval y = tv)
    (hh : ∀ sv' w', OwnN w' B sv' (l ++ m) → Below B w w' → K (a.put dst sv') w') : o.wp Tryz.prog a w K Q := by
  obtain ⟨sv', w', hr, hO, hg⟩ := app_ownN h hB k hlen o.type
  exact wp_runTo dst hd sv' w' (exec_app a.eval o x y 25 25 ho sv tv sv' hx hy hr) (hh sv' w' hO (grown_below hg hB fun k hk => (h.lt k hk).1))
theorem Only.of_belowB {B : Nat} {a b : World} (h : Below B a b) : Only (fun j => B ≤ j) a b := ⟨h.os, h.tape, h.output, h.size, fun i hi hn => h.block i (by omega)⟩
theorem zero47 : (Tryz.prog.info? 47).bind (·.zero) = some (.agg #[.int .i64 0, .int .i64 0, .int .u32 0, .slice none 0 0]) := by kernel_rfl
theorem info47 : (Tryz.prog.info? 47).map (·.size) = some 4 := by kernel_rfl
theorem built47 (s o q : Int) (a : Option Addr) (n c : Nat) : Tryz.prog.built 47 [(0, .int .i64 s), (1, .int .i64 o), (2, .int .u32 q), (3, .slice a n c)] = some #[.int .i64 s, .int .i64 o, .int .u32 q, .slice a n c] := by kernel_rfl
theorem wp_store_all {P : Program} {o : Oper} {a : Act} {w : World} {K : Act → World → Prop} {Q : Exit → Act → World → Prop} (ty : TypeId) (x y : Operand) (ho : o.op = .store ty x y) (g : Nat) (cs : Array Value) (hx : a.eval x = .pointer (some ⟨g, 0, none⟩)) (hy : a.eval y = .agg cs) (l : List Value) (hg : Blk w g l) (hl : l.length = cs.size) (hi : (P.info? ty).map (·.size) = some cs.size) (h1 : ∀ v ∈ cs, v.oneCell' = true)
    (h : ∀ wX, Blk wX g cs.toList → Only (fun k => k = g) w wX → K (a.put o.dst undef) wX) : o.wp P a w K Q := by
  refine wp_store_at ty x y ho g 0 cs hx hy l hg hi (by omega) h1 ?_
  rw [splice_all _ _ hl]
  exact h _ (hg.row cs) ((Only.refl (fun k => k = g) w).setRow (g := g) (.inl rfl) cs)
section
variable {w : World}
set_option maxRecDepth 100000 in
theorem lown_any (a : Ja) (fv : Value) (hl : a.free.length ≤ 1000000) (h : IntsAt w fv a.free) : Calls Tryz.prog 16 #[.agg #[.int .i64 a.seg, .int .i64 a.off, .int .u32 a.seq, fv]] w fun e w' => ∃ tv, e = .returned (.agg #[.int .i64 a.seg, .int .i64 a.off, .int .u32 a.seq, tv]) ∧ OwnN w' w.heap.size tv a.free ∧ Below w.heap.size w w' := by
  obtain ⟨fa, fc, hfv⟩ := h.form
  obtain ⟨n, hnn⟩ : ∃ n, a.free.length = n := ⟨_, rfl⟩
  rw [hnn] at hfv hl
  subst hfv
  have HN := Lib.hid hnn
  have HI := Lib.hid h
  have HL := Lib.hid hl
  clear h hnn hl
  go_enter Tryz.func16, Tryz.ntmps16
  go_upto_region 0 with fail
  refine wp_region_lit ?_
  refine box_g rfl rfl ?_
  try simp only [Act.put, List.setIfInBounds_toArray, List.set_cons_succ, List.set_cons_zero]
  intro w1 hV hb hl
  try simp only [Act.put, List.setIfInBounds_toArray, List.set_cons_succ, List.set_cons_zero]
  have HV := Lib.hid hV
  have HB := Lib.hid hb
  have HLT : Hid (w.heap.size < w1.heap.size) := Lib.hid hl
  clear hV hb hl
  refine alloc_g zero47 rfl ?_
  intro w2 hR hb hl
  try simp only [Act.put, List.setIfInBounds_toArray, List.set_cons_succ, List.set_cons_zero]
  have HR := Lib.hid hR
  have HV2 := Lib.hid (HV.out.below hb HV.out.lt)
  have HB2 := Lib.hid (stay HB.out hb)
  have HI2 := Lib.hid (HI.out.below HB2.out)
  have HNE : Hid (¬ w.heap.size = w1.heap.size) := Lib.hid (by have := HLT.out; omega)
  have HW1 : Hid (w.heap.size ≤ w1.heap.size ∧ w1.heap.size < w2.heap.size) := Lib.hid ⟨by have := HLT.out; omega, hl⟩
  clear hR hb hl HV HB
  generalize w1.heap.size = r at *
  refine wpList_nil ?_
  go_upto_region 1 with fail
  refine startH (fun wq => Only (fun k => k = r) w2 wq) (by kernel_rfl) ?_
  have HS0 : Hid (Only (fun k => k = r) w2 w2.drew) := Lib.hid (Only.refl _ _).drew
  have HR0 : Hid (Blk w2.drew r [.int .i64 0, .int .i64 0, .int .u32 0, .slice none 0 0]) := Lib.hid HR.out.drew
  have HUR : Hid (r < w2.drew.heap.size) := Lib.hid HR0.out.lt
  generalize w2.drew = u0 at *
  refine takeH 0 (some 3) (.pointer (some ⟨w.heap.size, 0, none⟩)) rfl rfl (by kernel_rfl) (by kernel_rfl) (by kernel_rfl) (fun _ _ _ h => h) rfl (fun wq hS => by go_simp) HS0.out ?_
  try simp only [Act.put, List.setIfInBounds_toArray, List.set_cons_succ, List.set_cons_zero]
  refine takeH 1 (some 4) (.int .i64 a.seg) rfl rfl (by kernel_rfl) (by kernel_rfl) (by kernel_rfl) (fun _ _ _ h => h) rfl (fun wq hS => by have q := (HV2.out.only hS HNE.out).cell (i := 0) rfl; go_simp) HS0.out ?_
  try simp only [Act.put, List.setIfInBounds_toArray, List.set_cons_succ, List.set_cons_zero]
  refine takeH 2 (some 5) (.pointer (some ⟨w.heap.size, 1, none⟩)) rfl rfl (by kernel_rfl) (by kernel_rfl) (by kernel_rfl) (fun _ _ _ h => h) rfl (fun wq hS => by go_simp) HS0.out ?_
  try simp only [Act.put, List.setIfInBounds_toArray, List.set_cons_succ, List.set_cons_zero]
  refine takeH 3 (some 6) (.int .i64 a.off) rfl rfl (by kernel_rfl) (by kernel_rfl) (by kernel_rfl) (fun _ _ _ h => h) rfl (fun wq hS => by have q := (HV2.out.only hS HNE.out).cell (i := 1) rfl; go_simp) HS0.out ?_
  try simp only [Act.put, List.setIfInBounds_toArray, List.set_cons_succ, List.set_cons_zero]
  refine takeH 4 (some 7) (.pointer (some ⟨w.heap.size, 2, none⟩)) rfl rfl (by kernel_rfl) (by kernel_rfl) (by kernel_rfl) (fun _ _ _ h => h) rfl (fun wq hS => by go_simp) HS0.out ?_
  try simp only [Act.put, List.setIfInBounds_toArray, List.set_cons_succ, List.set_cons_zero]
  refine takeH 5 (some 8) (.int .u32 a.seq) rfl rfl (by kernel_rfl) (by kernel_rfl) (by kernel_rfl) (fun _ _ _ h => h) rfl (fun wq hS => by have q := (HV2.out.only hS HNE.out).cell (i := 2) rfl; go_simp) HS0.out ?_
  try simp only [Act.put, List.setIfInBounds_toArray, List.set_cons_succ, List.set_cons_zero]
  refine takeH 7 (some 10) (.pointer (some ⟨w.heap.size, 3, none⟩)) rfl rfl (by kernel_rfl) (by kernel_rfl) (by kernel_rfl) (fun _ _ _ h => h) rfl (fun wq hS => by go_simp) HS0.out ?_
  try simp only [Act.put, List.setIfInBounds_toArray, List.set_cons_succ, List.set_cons_zero]
  refine takeH 8 (some 11) (.slice fa n fc) rfl rfl (by kernel_rfl) (by kernel_rfl) (by kernel_rfl) (fun _ _ _ h => h) rfl (fun wq hS => by have q := (HV2.out.only hS HNE.out).cell (i := 3) rfl; go_simp) HS0.out ?_
  try simp only [Act.put, List.setIfInBounds_toArray, List.set_cons_succ, List.set_cons_zero]
  refine oneH 6 (by kernel_rfl) rfl rfl fun K hK => ?_
  refine wp_runTo (some 9) rfl (.slice (some ⟨u0.heap.size, 0, none⟩) 0 0) (u0.alloc (.cells #[] 3)) (by go_simp) ?_
  have HO1 : Hid (OwnN (u0.alloc (.cells #[] 3)) u0.heap.size (.slice (some ⟨u0.heap.size, 0, none⟩) 0 0) []) := Lib.hid (OwnN.lit u0 u0.heap.size (Nat.le_refl _) [] (by simp) #[] rfl)
  have HS1 : Hid (Only (fun k => k = r) w2 (u0.alloc (.cells #[] 3))) := Lib.hid (HS0.out.alloc _)
  have HR1 : Hid (Blk (u0.alloc (.cells #[] 3)) r [.int .i64 0, .int .i64 0, .int .u32 0, .slice none 0 0]) := Lib.hid (HR0.out.alloc _)
  have HU1 : Hid (u0.heap.size ≤ (u0.alloc (.cells #[] 3)).heap.size) := Lib.hid (by simp)
  have HUW : Hid (w2.heap.size ≤ u0.heap.size) := Lib.hid HS0.out.size
  refine hK _ _ HS1.out ?_
  clear hK K
  generalize u0.alloc (.cells #[] 3) = u1 at *
  generalize u0.heap.size = g1 at *
  try simp only [Act.put, List.setIfInBounds_toArray, List.set_cons_succ, List.set_cons_zero]
  refine oneH 9 (by kernel_rfl) rfl rfl fun K hK => ?_
  have HB3 : Hid (Below w.heap.size w u1) := Lib.hid (HB2.out.trans (HS1.out.below HB2.out.size fun k hk => by rw [hk]; exact HW1.out.1))
  refine app_WN _ _ (some 12) rfl rfl HO1.out HU1.out (HI.out.below HB3.out) (by simp only [List.length_nil, HN.out]; have := HL.out; omega) rfl rfl ?_
  intro tv u2 ho hb
  rw [List.nil_append] at ho
  have HO2 := Lib.hid ho
  have HS2 : Hid (Only (fun k => k = r) w2 u2) := Lib.hid (HS1.out.then (Only.of_belowB hb) fun j hj => .inr (Nat.le_trans HUW.out hj))
  have HR2 := Lib.hid (HR1.out.below hb HUR.out)
  obtain ⟨ta, tc, htv⟩ := ho.ints.form
  rw [HN.out] at htv
  subst htv
  refine hK _ _ HS2.out ?_
  clear hK K ho hb
  try simp only [Act.put, List.setIfInBounds_toArray, List.set_cons_succ, List.set_cons_zero]
  refine takeH 10 (some 13) (.agg #[.int .i64 a.seg, .int .i64 a.off, .int .u32 a.seq, .slice ta n tc]) rfl rfl (by kernel_rfl) (by kernel_rfl) (by kernel_rfl) (fun _ _ _ h => h) rfl (fun wq hS => by exact exec_build _ _ _ _ 47 _ rfl #[(0, .int .i64 a.seg), (1, .int .i64 a.off), (2, .int .u32 a.seq), (3, .slice ta n tc)] (by simp only [List.map_toArray, List.map_cons, List.map_nil]; rfl) _ (run_build wq 47 _ _ (built47 _ _ _ _ _ _))) HS2.out ?_
  try simp only [Act.put, List.setIfInBounds_toArray, List.set_cons_succ, List.set_cons_zero]
  refine oneH 11 (by kernel_rfl) rfl rfl fun K hK => ?_
  refine wp_store_all 47 _ _ rfl r #[.int .i64 a.seg, .int .i64 a.off, .int .u32 a.seq, .slice ta n tc] rfl rfl _ HR2.out rfl info47 (at_one _ _ _ _ _ _) ?_
  intro u3 hD hO
  have HD := Lib.hid hD
  have HS3 : Hid (Only (fun k => k = r) w2 u3) := Lib.hid (HS2.out.trans hO)
  have HO3 := Lib.hid (HO2.out.onlyN hO HUR.out)
  refine hK _ _ HS3.out ?_
  clear hK K hD hO
  try simp only [Act.put, List.setIfInBounds_toArray, List.set_cons_succ, List.set_cons_zero]
  refine wpAnyH_done (by kernel_rfl) ?_ _
  have HB4 : Hid (Below w.heap.size w u3) := Lib.hid (HB2.out.trans (HS3.out.below HB2.out.size fun k hk => by rw [hk]; exact HW1.out.1))
  go_wp2_with fail
  refine bodyPost_ret (v := .agg #[.int .i64 a.seg, .int .i64 a.off, .int .u32 a.seq, .slice ta n tc]) (results_cell_at rfl _ _ r 0 _ _ rfl Tryz.underlying47 rfl info47 (HD.out.all rfl)) rfl ⟨_, rfl, HO3.out.mono (Nat.le_trans HB2.out.size HUW.out), HB4.out⟩
set_option maxRecDepth 100000 in
theorem same_yes (a : Ja) (fv gv : Value) (hl : a.free.length ≤ 1000) (h : IntsAt w fv a.free) (k : IntsAt w gv a.free) : Calls Tryz.prog 26 #[.agg #[.int .i64 a.seg, .int .i64 a.off, .int .u32 a.seq, fv], .agg #[.int .i64 a.seg, .int .i64 a.off, .int .u32 a.seq, gv]] w fun e w' => e = .returned (.bool true) ∧ Below w.heap.size w w' := by
  obtain ⟨fa, fc, hfv⟩ := h.form
  obtain ⟨ga, gc, hgv⟩ := k.form
  obtain ⟨n, hnn⟩ : ∃ n, a.free.length = n := ⟨_, rfl⟩
  rw [hnn] at hfv hgv
  subst hfv
  subst hgv
  have HI := Lib.hid h
  have HK := Lib.hid k
  have HIA := Lib.hid fun sv tv w h k => ints_any a.free a.free hl hl sv tv w h k
  rw [decide_eq_true (rfl : a.free = a.free)] at HIA
  clear h k hl hnn
  go_enter Tryz.func26, Tryz.ntmps26
  go_upto_region 0 with fail
  refine wp_region_lit ?_
  refine box_g rfl rfl ?_
  try simp only [Act.put, List.setIfInBounds_toArray, List.set_cons_succ, List.set_cons_zero]
  intro w1 hV hb hl
  try simp only [Act.put, List.setIfInBounds_toArray, List.set_cons_succ, List.set_cons_zero]
  have HV := Lib.hid hV
  have HB := Lib.hid hb
  have HLT : Hid (w.heap.size < w1.heap.size) := Lib.hid hl
  clear hV hb hl
  refine box_g rfl rfl ?_
  try simp only [Act.put, List.setIfInBounds_toArray, List.set_cons_succ, List.set_cons_zero]
  intro w2 hV hb hl
  try simp only [Act.put, List.setIfInBounds_toArray, List.set_cons_succ, List.set_cons_zero]
  have HR := Lib.hid hV
  have HV2 := Lib.hid (HV.out.below hb HV.out.lt)
  have HB2 := Lib.hid (stay HB.out hb)
  clear hV hb hl HV HB
  generalize w1.heap.size = r at *
  refine takeL (.bool false) rfl (by go_simp) ?_
  try simp only [Act.put, List.setIfInBounds_toArray, List.set_cons_succ, List.set_cons_zero]
  refine wpList_nil ?_
  have q0 := HV2.out.cell (i := 0) rfl
  have q1 := HV2.out.cell (i := 1) rfl
  have q2 := HV2.out.cell (i := 2) rfl
  have q3 := HV2.out.cell (i := 3) rfl
  have p0 := HR.out.cell (i := 0) rfl
  have p1 := HR.out.cell (i := 1) rfl
  have p2 := HR.out.cell (i := 2) rfl
  have p3 := HR.out.cell (i := 3) rfl
  go_wp2_with fail
  refine (HIA.out _ _ _ (HI.out.below HB2.out) (HK.out.below HB2.out)).mono ?_
  rintro e w3 ⟨rfl, hb⟩
  have HB3 := Lib.hid (stay HB2.out hb)
  clear q0 q1 q2 q3 p0 p1 p2 p3 hb
  go_wp2_with fail
  go_ret
  exact ⟨rfl, HB3.out⟩
end

end Go.Proofs.YtmlniannilnmhaaGreatDoor
