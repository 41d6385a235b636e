/- The statements' first call: two groups are put. -/
import Derived.Test.YtmlniannilnmhaaGreatDoorJk
namespace Go.Proofs.YtmlniannilnmhaaGreatDoor
set_option linter.unusedSimpArgs false
set_option linter.unusedVariables false
open Go.RowKit

theorem built27 (s o q : Int) (a : Option Addr) (n c : Nat) : Tryz.prog.built 27 [(0, .int .i64 s), (1, .int .i64 o), (2, .int .u32 q), (3, .slice a n c)] = some #[.int .i64 s, .int .i64 o, .int .u32 q, .slice a n c] := by kernel_rfl
/-- What lies in memory when the answer is made. -/
structure WX (w wx : World) (jb b : Nat) (F : Nat → Prop) (d : De.D) (a : Ja) (fv : Value) : Prop where
  jn : Jn w wx jb b F d WG a fv
  bel : Below w.heap.size w wx
theorem WX.below {w wx wy : World} {jb b : Nat} {F : Nat → Prop} {d : De.D} {a : Ja} {fv : Value} (h : WX w wx jb b F d a fv) (hb : Below wx.heap.size wx wy) : WX w wy jb b F d a fv := ⟨h.jn.below hb, stay h.bel hb⟩
section
variable {w : World}
set_option maxRecDepth 100000 in
set_option maxHeartbeats 4000000 in
theorem wakes_any (hv : Vars w) : Calls Tryz.prog 10 #[] w fun e w' => e = .returned (.bool true) ∧ Below w.heap.size w w' := by
  have HV := Lib.hid hv
  clear hv
  go_enter Tryz.func10, Tryz.ntmps10
  go_upto_region 1 with fail
  refine wp_region_lit ?_
  refine wpList_op rfl fun K hK => ?_
  go_simp
  refine (De.dv_new w w (Below.refl _ _) 200 (by decide)).mono ?_
  rintro e w1 ⟨b, F, rfl, hdv, hb, hF⟩
  have HD1 := Lib.hid hdv
  have HB1 := Lib.hid hb
  clear hdv hb hF
  refine hK _ _ ?_
  clear hK K
  try simp only [Act.put, List.setIfInBounds_toArray, List.set_cons_succ, List.set_cons_zero]
  refine takeL (.tuple #[.pointer (some ⟨b, 0, none⟩), .int .i64 0]) rfl (by go_simp) ?_
  try simp only [Act.put, List.setIfInBounds_toArray, List.set_cons_succ, List.set_cons_zero]
  refine takeL (.pointer (some ⟨b, 0, none⟩)) rfl (by go_simp) ?_
  try simp only [Act.put, List.setIfInBounds_toArray, List.set_cons_succ, List.set_cons_zero]
  refine takeL (.int .i64 0) rfl (by go_simp) ?_
  try simp only [Act.put, List.setIfInBounds_toArray, List.set_cons_succ, List.set_cons_zero]
  refine takeL (.pointer (some ⟨b, 0, none⟩)) rfl (by go_simp) ?_
  try simp only [Act.put, List.setIfInBounds_toArray, List.set_cons_succ, List.set_cons_zero]
  refine takeL (.int .i64 0) rfl (by go_simp) ?_
  try simp only [Act.put, List.setIfInBounds_toArray, List.set_cons_succ, List.set_cons_zero]
  refine wpList_nil ?_
  go_upto_region 2 with fail
  refine wp_region_lit ?_
  refine takeL (.pointer (some ⟨b, 0, none⟩)) rfl (by go_simp) ?_
  try simp only [Act.put, List.setIfInBounds_toArray, List.set_cons_succ, List.set_cons_zero]
  refine wpList_op rfl fun K hK => ?_
  go_simp
  refine (Pl.small_any _).mono ?_
  rintro e w2 ⟨rfl, hb⟩
  have HD2 := Lib.hid (HD1.out.below hb)
  clear hb HD1
  refine hK _ _ ?_
  clear hK K
  try simp only [Act.put, List.setIfInBounds_toArray, List.set_cons_succ, List.set_cons_zero]
  refine wpList_run (.slice (some ⟨w2.heap.size, 0, none⟩) 2 2) (w2.alloc (.cells #[.int .i64 3, .int .i64 4] 3)) rfl (by go_simp) ?_
  try simp only [Act.put, List.setIfInBounds_toArray, List.set_cons_succ, List.set_cons_zero]
  have HI3 : Hid (IntsAt (w2.alloc (.cells #[.int .i64 3, .int .i64 4] 3)) (.slice (some ⟨w2.heap.size, 0, none⟩) 2 2) [3, 4]) := Lib.hid (OwnN.lit w2 w2.heap.size (Nat.le_refl _) [3, 4] (by decide) _ rfl).ints
  have HD3 := Lib.hid (HD2.out.below (alloc_bel w2 (.cells #[.int .i64 3, .int .i64 4] 3)))
  generalize w2.alloc (.cells #[.int .i64 3, .int .i64 4] 3) = w3 at *
  generalize w2.heap.size = g3 at *
  clear HD2
  refine takeL (.agg #[.int .i64 1, .int .i64 22, .int .u32 5, .slice (some ⟨g3, 0, none⟩) 2 2]) rfl (exec_build _ _ _ _ 27 _ rfl #[(0, .int .i64 1), (1, .int .i64 22), (2, .int .u32 5), (3, .slice (some ⟨g3, 0, none⟩) 2 2)] (by simp only [List.map_toArray, List.map_cons, List.map_nil]; rfl) _ (run_build w3 27 _ _ (built27 _ _ _ _ _ _))) ?_
  try simp only [Act.put, List.setIfInBounds_toArray, List.set_cons_succ, List.set_cons_zero]
  refine wpList_op rfl fun K hK => ?_
  go_simp
  refine (new_yes (W := w) b F (De.newD 200) (by rw [newD_len]; decide) WG WA0 (.slice (some ⟨g3, 0, none⟩) 2 2) (by decide) (by rw [newD_len]; decide) (seqN 5 (by decide)) _ HI3.out HD3.out).mono ?_
  rintro e w4 ⟨jb, tv, rfl, hj, -, hb⟩
  have HX4 : Hid (WX w w4 jb b F (De.newD 200) WA0 tv) := Lib.hid ⟨hj, hj.dv.2⟩
  clear hj hb HI3 HD3 HB1
  refine hK _ _ ?_
  clear hK K
  try simp only [Act.put, List.setIfInBounds_toArray, List.set_cons_succ, List.set_cons_zero]
  refine takeL (.tuple #[.pointer (some ⟨jb, 0, none⟩), .int .i64 0]) rfl (by go_simp) ?_
  try simp only [Act.put, List.setIfInBounds_toArray, List.set_cons_succ, List.set_cons_zero]
  refine takeL (.pointer (some ⟨jb, 0, none⟩)) rfl (by go_simp) ?_
  try simp only [Act.put, List.setIfInBounds_toArray, List.set_cons_succ, List.set_cons_zero]
  refine takeL (.int .i64 0) rfl (by go_simp) ?_
  try simp only [Act.put, List.setIfInBounds_toArray, List.set_cons_succ, List.set_cons_zero]
  refine takeL (.pointer (some ⟨jb, 0, none⟩)) rfl (by go_simp) ?_
  try simp only [Act.put, List.setIfInBounds_toArray, List.set_cons_succ, List.set_cons_zero]
  refine takeL (.int .i64 0) rfl (by go_simp) ?_
  try simp only [Act.put, List.setIfInBounds_toArray, List.set_cons_succ, List.set_cons_zero]
  refine wpList_nil ?_
  go_upto_region 5 with fail
  refine wp_region_lit ?_
  refine takeL (.pointer (some ⟨jb, 0, none⟩)) rfl (by go_simp) ?_
  try simp only [Act.put, List.setIfInBounds_toArray, List.set_cons_succ, List.set_cons_zero]
  refine wpList_op rfl fun K hK => ?_
  go_simp
  refine (image_any 3 7 (smallN 3 (by decide)) (byteN 7 (by decide)) _).mono ?_
  rintro e w5 ⟨rfl, hb⟩
  have HX5 := Lib.hid (HX4.out.below hb)
  clear hb HX4
  refine hK _ _ ?_
  clear hK K
  try simp only [Act.put, List.setIfInBounds_toArray, List.set_cons_succ, List.set_cons_zero]
  have hw1 := imgI_wf (smallN 3 (by decide)) (byteN 7 (by decide))
  refine wpList_run _ _ rfl (exec_buildSlice _ _ _ _ 51 1 _ rfl #[(0, .agg ((imgI 3 7).arr nb))] (by simp only [List.map_toArray, List.map_cons, List.map_nil]; rfl) _ (lit1_run w5 hw1)) ?_
  try simp only [Act.put, List.setIfInBounds_toArray, List.set_cons_succ, List.set_cons_zero]
  have hit := lit_its w5 (l := [(imgI 3 7, nb)]) (fun x hx => by obtain rfl := List.mem_singleton.1 hx; exact ⟨hw1, rfl, rfl⟩) 1 rfl (by decide) (F := F) (fun k hk => (HX5.out.jn.dv.lt k hk).2)
  have HIT := Lib.hid hit
  have HX6 := Lib.hid (HX5.out.below (alloc_bel w5 (.cells (itCells [(imgI 3 7, nb)]).toArray 102)))
  generalize w5.alloc (.cells (itCells [(imgI 3 7, nb)]).toArray 102) = w6 at *
  generalize w5.heap.size = g5 at *
  clear hit hw1 HX5
  refine wpList_op rfl fun K hK => ?_
  go_simp
  refine (put_any HX6.out.jn HV.out [(imgI 3 7, nb)] WL1 rfl _ (by decide) HIT.out.1 HIT.out.2 (by rw [newD_len]; decide) (by decide) (by decide)).mono ?_
  rintro e w7 ⟨pv, rfl, F1, fv1, ho, hj, hon, hn, hpa, -⟩
  obtain ⟨p1, p2, p3, p4, p5, p6, p7⟩ := wk_put1
  rw [p1]
  rw [p2] at ho
  rw [p3] at hj
  have HX7 : Hid (WX w w7 jb b F1 (jput WG WA0 (De.newD 200) WL1).d WA1 fv1) := Lib.hid ⟨hj, hj.dv.2⟩
  have HPV := Lib.hid ho
  have HPA := Lib.hid hpa
  generalize (jput WG WA0 (De.newD 200) WL1).d = d1 at *
  have HS1 := Lib.hid p6
  have HF1 := Lib.hid p7
  have HL1 : Hid (d1.L.length ≤ 800000 ∧ d1.T ≤ 800000 ∧ d1.S.length ≤ 1024) := Lib.hid (by rw [p4, p5, p6]; decide)
  obtain ⟨pa, pc, hpv⟩ := ho.ints.form
  subst hpv
  clear ho hj hon hn hpa p1 p2 p3 p4 p5 p6 p7 HX6 HIT
  refine hK _ _ ?_
  clear hK K
  try simp only [Act.put, List.setIfInBounds_toArray, List.set_cons_succ, List.set_cons_zero]
  refine takeL (.tuple #[.slice pa 1 pc, .int .i64 0]) rfl (by go_simp) ?_
  try simp only [Act.put, List.setIfInBounds_toArray, List.set_cons_succ, List.set_cons_zero]
  refine takeL (.slice pa 1 pc) rfl (by go_simp) ?_
  try simp only [Act.put, List.setIfInBounds_toArray, List.set_cons_succ, List.set_cons_zero]
  refine takeL (.int .i64 0) rfl (by go_simp) ?_
  try simp only [Act.put, List.setIfInBounds_toArray, List.set_cons_succ, List.set_cons_zero]
  refine takeL (.slice pa 1 pc) rfl (by go_simp) ?_
  try simp only [Act.put, List.setIfInBounds_toArray, List.set_cons_succ, List.set_cons_zero]
  refine takeL (.int .i64 0) rfl (by go_simp) ?_
  try simp only [Act.put, List.setIfInBounds_toArray, List.set_cons_succ, List.set_cons_zero]
  refine wpList_nil ?_
  go_upto_region 6 with fail
  refine wp_region_lit ?_
  refine takeL (.pointer (some ⟨jb, 0, none⟩)) rfl (by go_simp) ?_
  try simp only [Act.put, List.setIfInBounds_toArray, List.set_cons_succ, List.set_cons_zero]
  refine wpList_op rfl fun K hK => ?_
  go_simp
  refine (image_any 4 8 (smallN 4 (by decide)) (byteN 8 (by decide)) _).mono ?_
  rintro e w8 ⟨rfl, hb⟩
  have HX8 := Lib.hid (HX7.out.below hb)
  have HPV8 := Lib.hid (HPV.out.below hb)
  clear hb HX7 HPV
  refine hK _ _ ?_
  clear hK K
  try simp only [Act.put, List.setIfInBounds_toArray, List.set_cons_succ, List.set_cons_zero]
  refine takeL (.agg #[.int .i64 5, .int .i64 5]) rfl (exec_build _ _ _ _ 94 _ rfl #[(0, .int .i64 5), (1, .int .i64 5)] (by simp only [List.map_toArray, List.map_cons, List.map_nil]; rfl) _ (run_build w8 94 _ _ (built94 _ _))) ?_
  try simp only [Act.put, List.setIfInBounds_toArray, List.set_cons_succ, List.set_cons_zero]
  refine takeL (.agg ((markI 5 5).arr nb)) rfl (exec_build _ _ _ _ 102 _ rfl #[(0, .agg #[.int .i64 5, .int .i64 5])] (by simp only [List.map_toArray, List.map_cons, List.map_nil]; rfl) _ (run_build w8 102 _ _ (built102m _ _))) ?_
  try simp only [Act.put, List.setIfInBounds_toArray, List.set_cons_succ, List.set_cons_zero]
  have hw1 := imgI_wf (smallN 4 (by decide)) (byteN 8 (by decide))
  have hw2 := markI_wf (smallN 5 (by decide)) (smallN 5 (by decide))
  refine wpList_run _ _ rfl (exec_buildSlice _ _ _ _ 51 2 _ rfl #[(0, .agg ((imgI 4 8).arr nb)), (1, .agg ((markI 5 5).arr nb))] (by simp only [List.map_toArray, List.map_cons, List.map_nil]; rfl) _ (lit2_run w8 hw1 hw2)) ?_
  try simp only [Act.put, List.setIfInBounds_toArray, List.set_cons_succ, List.set_cons_zero]
  have hit := lit_its w8 (l := [(imgI 4 8, nb), (markI 5 5, nb)]) (fun x hx => by simp only [List.mem_cons, List.not_mem_nil, or_false] at hx; rcases hx with rfl | rfl; exact ⟨hw1, rfl, rfl⟩; exact ⟨hw2, rfl, rfl⟩) 2 rfl (by decide) (F := F1) (fun k hk => (HX8.out.jn.dv.lt k hk).2)
  have HIT := Lib.hid hit
  have HX9 := Lib.hid (HX8.out.below (alloc_bel w8 (.cells (itCells [(imgI 4 8, nb), (markI 5 5, nb)]).toArray 102)))
  have HPV9 := Lib.hid (HPV8.out.below (alloc_bel w8 (.cells (itCells [(imgI 4 8, nb), (markI 5 5, nb)]).toArray 102)))
  generalize w8.alloc (.cells (itCells [(imgI 4 8, nb), (markI 5 5, nb)]).toArray 102) = w9 at *
  generalize w8.heap.size = g8 at *
  clear hit hw1 hw2 HX8 HPV8
  refine wpList_op rfl fun K hK => ?_
  go_simp
  refine (put_any HX9.out.jn HV.out [(imgI 4 8, nb), (markI 5 5, nb)] WL2 rfl _ (by decide) HIT.out.1 HIT.out.2 HL1.out.2.2 HL1.out.2.1 HL1.out.1).mono ?_
  rintro e wA ⟨pv, rfl, F2, fv2, ho, hj, hon, hn, hpa, -⟩
  obtain ⟨p1, p2, p3, p4⟩ := wk_put2 HS1.out HF1.out
  rw [p1]
  rw [p2] at ho
  rw [p3] at hj
  have HXA : Hid (WX w wA jb b F2 (jput WG WA1 d1 WL2).d WA2 fv2) := Lib.hid ⟨hj, hj.dv.2⟩
  have HQA := Lib.hid ho.ints
  have HPVA := Lib.hid (HPV9.out.ints.onlyF hon fun b' o n c e hF => by
    have := HPA.out b' (by rw [e]; rfl)
    rcases hF with hF | hF
    · exact this.1 hF
    · exact this.2 hF)
  have HLA := Lib.hid p4
  generalize (jput WG WA1 d1 WL2).d = d2 at *
  obtain ⟨qa, qc, hqv⟩ := ho.ints.form
  subst hqv
  clear ho hj hon hn hpa p1 p2 p3 p4 HX9 HIT HPV9 HPA HS1 HF1 HL1
  refine hK _ _ ?_
  clear hK K
  try simp only [Act.put, List.setIfInBounds_toArray, List.set_cons_succ, List.set_cons_zero]
  refine takeL (.tuple #[.slice qa 2 qc, .int .i64 0]) rfl (by go_simp) ?_
  try simp only [Act.put, List.setIfInBounds_toArray, List.set_cons_succ, List.set_cons_zero]
  refine takeL (.slice qa 2 qc) rfl (by go_simp) ?_
  try simp only [Act.put, List.setIfInBounds_toArray, List.set_cons_succ, List.set_cons_zero]
  refine takeL (.int .i64 0) rfl (by go_simp) ?_
  try simp only [Act.put, List.setIfInBounds_toArray, List.set_cons_succ, List.set_cons_zero]
  refine takeL (.slice qa 2 qc) rfl (by go_simp) ?_
  try simp only [Act.put, List.setIfInBounds_toArray, List.set_cons_succ, List.set_cons_zero]
  refine takeL (.int .i64 0) rfl (by go_simp) ?_
  try simp only [Act.put, List.setIfInBounds_toArray, List.set_cons_succ, List.set_cons_zero]
  refine wpList_nil ?_
  go_upto_region 7 with fail
  refine wp_region_lit ?_
  refine takeL (.pointer (some ⟨jb, 0, none⟩)) rfl (by go_simp) ?_
  try simp only [Act.put, List.setIfInBounds_toArray, List.set_cons_succ, List.set_cons_zero]
  refine wpList_op rfl fun K hK => ?_
  go_simp
  refine (at_any HXA.out.jn).mono ?_
  rintro e wB ⟨tv2, rfl, ho, hb⟩
  have HXB := Lib.hid (HXA.out.below hb)
  have HPVB := Lib.hid (HPVA.out.below hb)
  have HQB := Lib.hid (HQA.out.below hb)
  have HTB := Lib.hid ho.ints
  obtain ⟨ta, tc, htv⟩ := ho.ints.form
  subst htv
  clear ho hb HXA HPVA HQA
  refine hK _ _ ?_
  clear hK K
  try simp only [Act.put, List.setIfInBounds_toArray, List.set_cons_succ, List.set_cons_zero]
  refine alloc_g zero27 rfl ?_
  intro wC hA hb hl
  try simp only [Act.put, List.setIfInBounds_toArray, List.set_cons_succ, List.set_cons_zero]
  refine store_all (cs := #[.int .i64 3, .int .i64 2, .int .u32 7, .slice ta 1 tc]) hA rfl info27 (at_one _ _ _ _ _ _) rfl rfl rfl ?_
  intro wD hD hO hlD
  try simp only [Act.put, List.setIfInBounds_toArray, List.set_cons_succ, List.set_cons_zero]
  have hbb : Below wB.heap.size wB wD := hb.trans (hO.below hb.size fun k hk => Nat.le_of_eq hk.symm)
  have HXD := Lib.hid (HXB.out.below hbb)
  have HPD := Lib.hid (HPVB.out.below hbb)
  have HQD := Lib.hid (HQB.out.below hbb)
  have HTD := Lib.hid (HTB.out.below hbb)
  have HVD := Lib.hid hD
  generalize wB.heap.size = v at *
  clear hA hb hl hD hO hlD hbb HXB HPVB HQB HTB
  refine wpList_nil ?_
  have HI51 := Lib.hid fun sv tv w h k => ints_any [51] [51] (by decide) (by decide) sv tv w h k
  have HI77 := Lib.hid fun sv tv w h k => ints_any [77, 0] [77, 0] (by decide) (by decide) sv tv w h k
  have HI4 := Lib.hid fun sv tv w h k => ints_any [4] [4] (by decide) (by decide) sv tv w h k
  have HGD := Lib.hid fun w h => jgood_any WG WA2 (.slice ta 1 tc) 1 rfl (by decide) w h
  rw [show decide (([51] : List Int) = [51]) = true by decide] at HI51
  rw [show decide (([77, 0] : List Int) = [77, 0]) = true by decide] at HI77
  rw [show decide (([4] : List Int) = [4]) = true by decide] at HI4
  rw [WA2_good] at HGD
  go_upto_region 8 with fail
  refine startH (fun wq => Below wD.heap.size wD wq) (by kernel_rfl) ?_
  have HS0 : Hid (Below wD.heap.size wD wD.drew) := Lib.hid (Below.refl _ _).drew
  generalize wD.drew = u0 at *
  refine takeH 0 (some 50) (.int .i64 0) rfl rfl (by kernel_rfl) (by kernel_rfl) (by kernel_rfl) (fun _ _ _ h => h) rfl (fun wq hS => by go_simp) HS0.out ?_
  try simp only [Act.put, List.setIfInBounds_toArray, List.set_cons_succ, List.set_cons_zero]
  refine takeH 1 (some 51) (.bool true) rfl rfl (by kernel_rfl) (by kernel_rfl) (by kernel_rfl) (fun _ _ _ h => h) rfl (fun wq hS => by go_simp) HS0.out ?_
  try simp only [Act.put, List.setIfInBounds_toArray, List.set_cons_succ, List.set_cons_zero]
  refine takeH 2 (some 52) (.bool true) rfl rfl (by kernel_rfl) (by kernel_rfl) (by kernel_rfl) (fun _ _ _ h => h) rfl (fun wq hS => by go_simp) HS0.out ?_
  try simp only [Act.put, List.setIfInBounds_toArray, List.set_cons_succ, List.set_cons_zero]
  refine takeH 3 (some 53) (.slice pa 1 pc) rfl rfl (by kernel_rfl) (by kernel_rfl) (by kernel_rfl) (fun _ _ _ h => h) rfl (fun wq hS => by go_simp) HS0.out ?_
  try simp only [Act.put, List.setIfInBounds_toArray, List.set_cons_succ, List.set_cons_zero]
  refine oneH 4 (by kernel_rfl) rfl rfl fun K hK => ?_
  refine wp_runTo (some 54) rfl (.slice (some ⟨u0.heap.size, 0, none⟩) 1 1) (u0.alloc (.cells #[.int .i64 51] 3)) (by go_simp) ?_
  have HL1 : Hid (IntsAt (u0.alloc (.cells #[.int .i64 51] 3)) (.slice (some ⟨u0.heap.size, 0, none⟩) 1 1) [51]) := Lib.hid (OwnN.lit u0 u0.heap.size (Nat.le_refl _) [51] (by decide) _ rfl).ints
  have HS1 := Lib.hid (stay HS0.out (alloc_bel u0 (.cells #[.int .i64 51] 3)))
  generalize u0.alloc (.cells #[.int .i64 51] 3) = u1 at *
  generalize u0.heap.size = g1 at *
  refine hK _ _ HS1.out ?_
  clear hK K
  try simp only [Act.put, List.setIfInBounds_toArray, List.set_cons_succ, List.set_cons_zero]
  refine oneH 5 (by kernel_rfl) rfl rfl fun K hK => ?_
  go_simp
  refine (HI51.out _ _ _ (HPD.out.below HS1.out) HL1.out).mono ?_
  rintro e u2 ⟨rfl, hb⟩
  have HS2 := Lib.hid (stay HS1.out hb)
  refine hK _ _ HS2.out ?_
  clear hK K hb
  try simp only [Act.put, List.setIfInBounds_toArray, List.set_cons_succ, List.set_cons_zero]
  refine takeH 6 (some 56) (.bool true) rfl rfl (by kernel_rfl) (by kernel_rfl) (by kernel_rfl) (fun _ _ _ h => h) rfl (fun wq hS => by go_simp) HS2.out ?_
  try simp only [Act.put, List.setIfInBounds_toArray, List.set_cons_succ, List.set_cons_zero]
  refine takeH 7 (some 57) (.bool true) rfl rfl (by kernel_rfl) (by kernel_rfl) (by kernel_rfl) (fun _ _ _ h => h) rfl (fun wq hS => by go_simp) HS2.out ?_
  try simp only [Act.put, List.setIfInBounds_toArray, List.set_cons_succ, List.set_cons_zero]
  refine takeH 8 (some 58) (.int .i64 0) rfl rfl (by kernel_rfl) (by kernel_rfl) (by kernel_rfl) (fun _ _ _ h => h) rfl (fun wq hS => by go_simp) HS2.out ?_
  try simp only [Act.put, List.setIfInBounds_toArray, List.set_cons_succ, List.set_cons_zero]
  refine takeH 9 (some 59) (.bool true) rfl rfl (by kernel_rfl) (by kernel_rfl) (by kernel_rfl) (fun _ _ _ h => h) rfl (fun wq hS => by go_simp) HS2.out ?_
  try simp only [Act.put, List.setIfInBounds_toArray, List.set_cons_succ, List.set_cons_zero]
  refine takeH 10 (some 60) (.bool true) rfl rfl (by kernel_rfl) (by kernel_rfl) (by kernel_rfl) (fun _ _ _ h => h) rfl (fun wq hS => by go_simp) HS2.out ?_
  try simp only [Act.put, List.setIfInBounds_toArray, List.set_cons_succ, List.set_cons_zero]
  refine takeH 11 (some 61) (.bool true) rfl rfl (by kernel_rfl) (by kernel_rfl) (by kernel_rfl) (fun _ _ _ h => h) rfl (fun wq hS => by go_simp) HS2.out ?_
  try simp only [Act.put, List.setIfInBounds_toArray, List.set_cons_succ, List.set_cons_zero]
  refine takeH 12 (some 62) (.slice qa 2 qc) rfl rfl (by kernel_rfl) (by kernel_rfl) (by kernel_rfl) (fun _ _ _ h => h) rfl (fun wq hS => by go_simp) HS2.out ?_
  try simp only [Act.put, List.setIfInBounds_toArray, List.set_cons_succ, List.set_cons_zero]
  refine oneH 13 (by kernel_rfl) rfl rfl fun K hK => ?_
  refine wp_runTo (some 63) rfl (.slice (some ⟨u2.heap.size, 0, none⟩) 2 2) (u2.alloc (.cells #[.int .i64 77, .int .i64 0] 3)) (by go_simp) ?_
  have HL3 : Hid (IntsAt (u2.alloc (.cells #[.int .i64 77, .int .i64 0] 3)) (.slice (some ⟨u2.heap.size, 0, none⟩) 2 2) [77, 0]) := Lib.hid (OwnN.lit u2 u2.heap.size (Nat.le_refl _) [77, 0] (by decide) _ rfl).ints
  have HS3 := Lib.hid (stay HS2.out (alloc_bel u2 (.cells #[.int .i64 77, .int .i64 0] 3)))
  generalize u2.alloc (.cells #[.int .i64 77, .int .i64 0] 3) = u3 at *
  generalize u2.heap.size = g3 at *
  refine hK _ _ HS3.out ?_
  clear hK K
  try simp only [Act.put, List.setIfInBounds_toArray, List.set_cons_succ, List.set_cons_zero]
  refine oneH 14 (by kernel_rfl) rfl rfl fun K hK => ?_
  go_simp
  refine (HI77.out _ _ _ (HQD.out.below HS3.out) HL3.out).mono ?_
  rintro e u4 ⟨rfl, hb⟩
  have HS4 := Lib.hid (stay HS3.out hb)
  refine hK _ _ HS4.out ?_
  clear hK K hb
  try simp only [Act.put, List.setIfInBounds_toArray, List.set_cons_succ, List.set_cons_zero]
  refine takeH 15 (some 65) (.bool true) rfl rfl (by kernel_rfl) (by kernel_rfl) (by kernel_rfl) (fun _ _ _ h => h) rfl (fun wq hS => by go_simp) HS4.out ?_
  try simp only [Act.put, List.setIfInBounds_toArray, List.set_cons_succ, List.set_cons_zero]
  refine takeH 16 (some 66) (.bool true) rfl rfl (by kernel_rfl) (by kernel_rfl) (by kernel_rfl) (fun _ _ _ h => h) rfl (fun wq hS => by go_simp) HS4.out ?_
  try simp only [Act.put, List.setIfInBounds_toArray, List.set_cons_succ, List.set_cons_zero]
  refine takeH 17 (some 67) (.pointer (some ⟨v, 0, none⟩)) rfl rfl (by kernel_rfl) (by kernel_rfl) (by kernel_rfl) (fun _ _ _ h => h) rfl (fun wq hS => by go_simp) HS4.out ?_
  try simp only [Act.put, List.setIfInBounds_toArray, List.set_cons_succ, List.set_cons_zero]
  refine takeH 18 (some 68) (.int .i64 3) rfl rfl (by kernel_rfl) (by kernel_rfl) (by kernel_rfl) (fun _ _ _ h => h) rfl (fun wq hS => by have q := (HVD.out.below hS HVD.out.lt).cell (i := 0) rfl; go_simp) HS4.out ?_
  try simp only [Act.put, List.setIfInBounds_toArray, List.set_cons_succ, List.set_cons_zero]
  refine takeH 19 (some 69) (.bool true) rfl rfl (by kernel_rfl) (by kernel_rfl) (by kernel_rfl) (fun _ _ _ h => h) rfl (fun wq hS => by go_simp) HS4.out ?_
  try simp only [Act.put, List.setIfInBounds_toArray, List.set_cons_succ, List.set_cons_zero]
  refine takeH 20 (some 70) (.bool true) rfl rfl (by kernel_rfl) (by kernel_rfl) (by kernel_rfl) (fun _ _ _ h => h) rfl (fun wq hS => by go_simp) HS4.out ?_
  try simp only [Act.put, List.setIfInBounds_toArray, List.set_cons_succ, List.set_cons_zero]
  refine takeH 21 (some 71) (.bool true) rfl rfl (by kernel_rfl) (by kernel_rfl) (by kernel_rfl) (fun _ _ _ h => h) rfl (fun wq hS => by go_simp) HS4.out ?_
  try simp only [Act.put, List.setIfInBounds_toArray, List.set_cons_succ, List.set_cons_zero]
  refine takeH 22 (some 72) (.pointer (some ⟨v, 1, none⟩)) rfl rfl (by kernel_rfl) (by kernel_rfl) (by kernel_rfl) (fun _ _ _ h => h) rfl (fun wq hS => by go_simp) HS4.out ?_
  try simp only [Act.put, List.setIfInBounds_toArray, List.set_cons_succ, List.set_cons_zero]
  refine takeH 23 (some 73) (.int .i64 2) rfl rfl (by kernel_rfl) (by kernel_rfl) (by kernel_rfl) (fun _ _ _ h => h) rfl (fun wq hS => by have q := (HVD.out.below hS HVD.out.lt).cell (i := 1) rfl; go_simp) HS4.out ?_
  try simp only [Act.put, List.setIfInBounds_toArray, List.set_cons_succ, List.set_cons_zero]
  refine takeH 24 (some 74) (.bool true) rfl rfl (by kernel_rfl) (by kernel_rfl) (by kernel_rfl) (fun _ _ _ h => h) rfl (fun wq hS => by go_simp) HS4.out ?_
  try simp only [Act.put, List.setIfInBounds_toArray, List.set_cons_succ, List.set_cons_zero]
  refine takeH 25 (some 75) (.bool true) rfl rfl (by kernel_rfl) (by kernel_rfl) (by kernel_rfl) (fun _ _ _ h => h) rfl (fun wq hS => by go_simp) HS4.out ?_
  try simp only [Act.put, List.setIfInBounds_toArray, List.set_cons_succ, List.set_cons_zero]
  refine takeH 26 (some 76) (.bool true) rfl rfl (by kernel_rfl) (by kernel_rfl) (by kernel_rfl) (fun _ _ _ h => h) rfl (fun wq hS => by go_simp) HS4.out ?_
  try simp only [Act.put, List.setIfInBounds_toArray, List.set_cons_succ, List.set_cons_zero]
  refine takeH 27 (some 77) (.pointer (some ⟨v, 2, none⟩)) rfl rfl (by kernel_rfl) (by kernel_rfl) (by kernel_rfl) (fun _ _ _ h => h) rfl (fun wq hS => by go_simp) HS4.out ?_
  try simp only [Act.put, List.setIfInBounds_toArray, List.set_cons_succ, List.set_cons_zero]
  refine takeH 28 (some 78) (.int .u32 7) rfl rfl (by kernel_rfl) (by kernel_rfl) (by kernel_rfl) (fun _ _ _ h => h) rfl (fun wq hS => by have q := (HVD.out.below hS HVD.out.lt).cell (i := 2) rfl; go_simp) HS4.out ?_
  try simp only [Act.put, List.setIfInBounds_toArray, List.set_cons_succ, List.set_cons_zero]
  refine takeH 29 (some 79) (.bool true) rfl rfl (by kernel_rfl) (by kernel_rfl) (by kernel_rfl) (fun _ _ _ h => h) rfl (fun wq hS => by go_simp) HS4.out ?_
  try simp only [Act.put, List.setIfInBounds_toArray, List.set_cons_succ, List.set_cons_zero]
  refine takeH 30 (some 80) (.bool true) rfl rfl (by kernel_rfl) (by kernel_rfl) (by kernel_rfl) (fun _ _ _ h => h) rfl (fun wq hS => by go_simp) HS4.out ?_
  try simp only [Act.put, List.setIfInBounds_toArray, List.set_cons_succ, List.set_cons_zero]
  refine takeH 31 (some 81) (.bool true) rfl rfl (by kernel_rfl) (by kernel_rfl) (by kernel_rfl) (fun _ _ _ h => h) rfl (fun wq hS => by go_simp) HS4.out ?_
  try simp only [Act.put, List.setIfInBounds_toArray, List.set_cons_succ, List.set_cons_zero]
  refine takeH 32 (some 82) (.pointer (some ⟨v, 3, none⟩)) rfl rfl (by kernel_rfl) (by kernel_rfl) (by kernel_rfl) (fun _ _ _ h => h) rfl (fun wq hS => by go_simp) HS4.out ?_
  try simp only [Act.put, List.setIfInBounds_toArray, List.set_cons_succ, List.set_cons_zero]
  refine takeH 33 (some 83) (.slice ta 1 tc) rfl rfl (by kernel_rfl) (by kernel_rfl) (by kernel_rfl) (fun _ _ _ h => h) rfl (fun wq hS => by have q := (HVD.out.below hS HVD.out.lt).cell (i := 3) rfl; go_simp) HS4.out ?_
  try simp only [Act.put, List.setIfInBounds_toArray, List.set_cons_succ, List.set_cons_zero]
  refine oneH 34 (by kernel_rfl) rfl rfl fun K hK => ?_
  refine wp_runTo (some 84) rfl (.slice (some ⟨u4.heap.size, 0, none⟩) 1 1) (u4.alloc (.cells #[.int .i64 4] 3)) (by go_simp) ?_
  have HL5 : Hid (IntsAt (u4.alloc (.cells #[.int .i64 4] 3)) (.slice (some ⟨u4.heap.size, 0, none⟩) 1 1) [4]) := Lib.hid (OwnN.lit u4 u4.heap.size (Nat.le_refl _) [4] (by decide) _ rfl).ints
  have HS5 := Lib.hid (stay HS4.out (alloc_bel u4 (.cells #[.int .i64 4] 3)))
  generalize u4.alloc (.cells #[.int .i64 4] 3) = u5 at *
  generalize u4.heap.size = g5 at *
  refine hK _ _ HS5.out ?_
  clear hK K
  try simp only [Act.put, List.setIfInBounds_toArray, List.set_cons_succ, List.set_cons_zero]
  refine oneH 35 (by kernel_rfl) rfl rfl fun K hK => ?_
  go_simp
  refine (HI4.out _ _ _ (HTD.out.below HS5.out) HL5.out).mono ?_
  rintro e u6 ⟨rfl, hb⟩
  have HS6 := Lib.hid (stay HS5.out hb)
  refine hK _ _ HS6.out ?_
  clear hK K hb
  try simp only [Act.put, List.setIfInBounds_toArray, List.set_cons_succ, List.set_cons_zero]
  refine takeH 36 (some 86) (.bool true) rfl rfl (by kernel_rfl) (by kernel_rfl) (by kernel_rfl) (fun _ _ _ h => h) rfl (fun wq hS => by go_simp) HS6.out ?_
  try simp only [Act.put, List.setIfInBounds_toArray, List.set_cons_succ, List.set_cons_zero]
  refine takeH 37 (some 87) (.bool true) rfl rfl (by kernel_rfl) (by kernel_rfl) (by kernel_rfl) (fun _ _ _ h => h) rfl (fun wq hS => by go_simp) HS6.out ?_
  try simp only [Act.put, List.setIfInBounds_toArray, List.set_cons_succ, List.set_cons_zero]
  refine takeH 38 (some 88) (.pointer (some ⟨b, 0, none⟩)) rfl rfl (by kernel_rfl) (by kernel_rfl) (by kernel_rfl) (fun _ _ _ h => h) rfl (fun wq hS => by go_simp) HS6.out ?_
  try simp only [Act.put, List.setIfInBounds_toArray, List.set_cons_succ, List.set_cons_zero]
  refine oneH 39 (by kernel_rfl) rfl rfl fun K hK => ?_
  go_simp
  refine (De.dv_loose (HXD.out.jn.dv.below HS6.out)).mono ?_
  rintro e u7 ⟨rfl, rfl⟩
  rw [HLA.out]
  refine hK _ _ HS6.out ?_
  clear hK K
  try simp only [Act.put, List.setIfInBounds_toArray, List.set_cons_succ, List.set_cons_zero]
  refine takeH 40 (some 90) (.bool true) rfl rfl (by kernel_rfl) (by kernel_rfl) (by kernel_rfl) (fun _ _ _ h => h) rfl (fun wq hS => by go_simp) HS6.out ?_
  try simp only [Act.put, List.setIfInBounds_toArray, List.set_cons_succ, List.set_cons_zero]
  refine takeH 41 (some 91) (.bool true) rfl rfl (by kernel_rfl) (by kernel_rfl) (by kernel_rfl) (fun _ _ _ h => h) rfl (fun wq hS => by go_simp) HS6.out ?_
  try simp only [Act.put, List.setIfInBounds_toArray, List.set_cons_succ, List.set_cons_zero]
  refine takeH 42 (some 92) (.bool true) rfl rfl (by kernel_rfl) (by kernel_rfl) (by kernel_rfl) (fun _ _ _ h => h) rfl (fun wq hS => by go_simp) HS6.out ?_
  try simp only [Act.put, List.setIfInBounds_toArray, List.set_cons_succ, List.set_cons_zero]
  refine takeH 44 (some 94) (.agg #[.int .i64 3, .int .i64 2, .int .u32 7, .slice ta 1 tc]) rfl rfl (by kernel_rfl) (by kernel_rfl) (by kernel_rfl) (fun _ _ _ h => h) rfl (fun wq hS => by have q := HVD.out.below hS HVD.out.lt; have q0 := q.cell (i := 0) rfl; have q1 := q.cell (i := 1) rfl; have q2 := q.cell (i := 2) rfl; have q3 := q.cell (i := 3) rfl; go_simp) HS6.out ?_
  try simp only [Act.put, List.setIfInBounds_toArray, List.set_cons_succ, List.set_cons_zero]
  refine oneH 43 (by kernel_rfl) rfl rfl fun K hK => ?_
  go_simp
  refine (Pl.small_any _).mono ?_
  rintro e u7 ⟨rfl, hb⟩
  have HS7 := Lib.hid (stay HS6.out hb)
  refine hK _ _ HS7.out ?_
  clear hK K hb
  try simp only [Act.put, List.setIfInBounds_toArray, List.set_cons_succ, List.set_cons_zero]
  refine oneH 45 (by kernel_rfl) rfl rfl fun K hK => ?_
  go_simp
  refine (HGD.out _ (HTD.out.below HS7.out)).mono ?_
  rintro e u8 ⟨rfl, hb⟩
  have HS8 := Lib.hid (stay HS7.out hb)
  refine hK _ _ HS8.out ?_
  clear hK K hb
  try simp only [Act.put, List.setIfInBounds_toArray, List.set_cons_succ, List.set_cons_zero]
  refine takeH 46 (some 96) (.bool true) rfl rfl (by kernel_rfl) (by kernel_rfl) (by kernel_rfl) (fun _ _ _ h => h) rfl (fun wq hS => by go_simp) HS8.out ?_
  try simp only [Act.put, List.setIfInBounds_toArray, List.set_cons_succ, List.set_cons_zero]
  refine takeH 47 (some 0) (.bool true) rfl rfl (by kernel_rfl) (by kernel_rfl) (by kernel_rfl) (fun _ _ _ h => h) rfl (fun wq hS => by go_simp) HS8.out ?_
  try simp only [Act.put, List.setIfInBounds_toArray, List.set_cons_succ, List.set_cons_zero]
  refine wpAnyH_done (by kernel_rfl) ?_ _
  have HBE := Lib.hid (stay HXD.out.bel HS8.out)
  go_wp2_with fail
  go_ret
  exact ⟨rfl, HBE.out⟩
end

end Go.Proofs.YtmlniannilnmhaaGreatDoor
