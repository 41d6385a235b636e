/- Package journal: New, At, SetFree, SetSeq. -/
import Derived.Test.YthlnmdihdcfphaaGreatDoorJb
namespace Go.Proofs.YthlnmdihdcfphaaGreatDoor
set_option linter.unusedSimpArgs false
set_option linter.unusedVariables false
open Go.RowKit

set_option maxRecDepth 100000 in
set_option maxHeartbeats 1000000 in
theorem new_yes {W : World} (b : Nat) (F : Nat → Prop) (d : De.D) (hm : d.S.length ≤ 1000000) (g : Pl.Gm) (a : Ja) (fv : Value) (hbig : a.free.length ≤ 9223372036854775807) (hf : fits g a d.S.length = true) (hq : Seq32 a.seq) (w : World) (h : IntsAt w fv a.free) (hdv : De.Dv W w b F d) :
    Calls Tryz.prog 11 #[.pointer (some ⟨b, 0, none⟩), g.v, .agg #[.int .i64 a.seg, .int .i64 a.off, .int .u32 a.seq, fv]] w fun e w' => ∃ jb tv, e = .returned (.tuple #[.pointer (some ⟨jb, 0, none⟩), .int .i64 0]) ∧ Jn W w' jb b F d g a tv ∧ w.heap.size ≤ jb ∧ Below w.heap.size w w' := by
  obtain ⟨fa, fc, hfv⟩ := h.form
  obtain ⟨n, hnn⟩ : ∃ n, a.free.length = n := ⟨_, rfl⟩
  rw [hnn] at hfv
  subst hfv
  have hgood : a.good g = true ∧ 4 + g.s * g.l ≤ (d.S.length : Int) := by
    unfold fits at hf
    simp only [Bool.and_eq_true, decide_eq_true_eq] at hf
    exact hf
  have HGO := Lib.hid hgood
  have hfew := Ja.few hgood.1
  have HPR := Lib.hid fun w h hL => problem_any (some ⟨b, 0, none⟩) d.S.length hm g a (.slice fa n fc) hbig w h hL
  have HCO := Lib.hid fun w h => copyOf_any a (.slice fa n fc) (by omega) w h
  have HFR := Lib.hid h
  have HDV := Lib.hid hdv
  have HFS := Lib.hid hf
  have HQ := Lib.hid hq
  have HN := Lib.hid hnn
  have HBT := Lib.hid (fun (x y z : Int) (q : Option Addr) k c => built87 (some ⟨b, 0, none⟩) g.p g.s g.l g.f x y z q k c)
  have HJ : Hid (∀ (jb : Nat) (tv : Value) (w' : World), Blk w' jb [.pointer (some ⟨b, 0, none⟩), .int .i64 g.p, .int .i64 g.s, .int .i64 g.l, .int .i64 g.f, .int .i64 a.seg, .int .i64 a.off, .int .u32 a.seq, tv] → w.heap.size ≤ jb → OwnN w' w.heap.size tv a.free → tv.ownBlock ≠ some jb → Below w.heap.size w w' → Jn W w' jb b F d g a tv) := Lib.hid (fun jb tv w' h1 h2 h3 h4 h5 =>
    ⟨HDV.out.below h5, h1, h3.ints, Nat.le_trans HDV.out.2.size h2, fun hF => by have := (HDV.out.lt jb hF).2; omega, fun b' o n c e => by
      have h6 := h3.lt b' (by rw [e]; rfl)
      have h7 := HDV.out.2.size
      refine ⟨by omega, fun e2 => h4 (by rw [e, ← e2]; rfl), fun hF => by have := (HDV.out.lt b' hF).2; omega, h6.2⟩, HGO.out.1, HQ.out, HGO.out.2, h3.cp⟩)
  obtain ⟨seg, off, seq, l⟩ := a
  obtain ⟨p, s, sl, f⟩ := g
  simp only at HPR HFR HFS HCO HBT HJ HN ⊢
  have HG1 := Lib.hid fun wr hb => two_box w #[.int .i64 p, .int .i64 s, .int .i64 sl, .int .i64 f] #[.int .i64 seg, .int .i64 off, .int .u32 seq, .slice fa n fc] 23 40 wr hb
  have HS2 := Lib.hid (two_size w #[.int .i64 p, .int .i64 s, .int .i64 sl, .int .i64 f] #[.int .i64 seg, .int .i64 off, .int .u32 seq, .slice fa n fc] 23 40)
  have HB2 : Hid (Below w.heap.size w ((w.alloc (.cells #[.int .i64 p, .int .i64 s, .int .i64 sl, .int .i64 f] 23)).alloc (.cells #[.int .i64 seg, .int .i64 off, .int .u32 seq, .slice fa n fc] 40))) := Lib.hid (((Below.refl w.heap.size w).alloc (Nat.le_refl _) _).alloc (by simp) _)
  clear hnn h hdv hf hbig hq hgood hfew
  go_enter Tryz.func11, Tryz.ntmps11
  go_wp2_with fail
  refine (HPR.out _ (HFR.out.below HB2.out) (fun w' hb => De.dv_len (HDV.out.below (stay HB2.out hb)))).mono ?_
  generalize (w.alloc (.cells #[.int .i64 p, .int .i64 s, .int .i64 sl, .int .i64 f] 23)).alloc (.cells #[.int .i64 seg, .int .i64 off, .int .u32 seq, .slice fa n fc] 40) = w2 at *
  rintro e w3 ⟨v, rfl, hb, hor⟩
  have HB3 := Lib.hid (stay HB2.out hb)
  rcases hor with ⟨-, rfl⟩ | ⟨h1, -⟩
  rotate_left
  · rw [HFS.out] at h1
    cases h1
  obtain ⟨hB, hg0, ha0⟩ := HG1.out w3 (hb.mono (by rw [HS2.out]; exact Nat.le_refl _))
  have HVG := Lib.hid hg0
  have HVA := Lib.hid ha0
  clear hb hB hg0 ha0 HPR HG1
  go_upto_region 4 with fail
  go_cut [6, 7] from 17 to 22 (fun s6 s7 wx => ∃ jb tv, s6 = .pointer (some ⟨jb, 0, none⟩) ∧ s7 = .int .i64 0 ∧ Jn W wx jb b F d ⟨p, s, sl, f⟩ ⟨seg, off, seq, l⟩ tv ∧ w.heap.size ≤ jb ∧ Below w.heap.size w wx)
  case first =>
    refine startH (fun wq => Below w3.heap.size w3 wq) (by kernel_rfl) ?_
    have HSd : Hid (Below w3.heap.size w3 w3.drew) := Lib.hid (Below.refl _ _).drew
    refine takeH 0 (some 17) (.pointer (some ⟨b, 0, none⟩)) rfl rfl (by kernel_rfl) (by kernel_rfl) (by kernel_rfl) (fun _ _ _ h => h) rfl (fun wq hS => by go_simp) HSd.out ?_
    try simp only [Act.put, List.setIfInBounds_toArray, List.set_cons_succ, List.set_cons_zero]
    refine takeH 1 (some 18) (.agg #[.int .i64 p, .int .i64 s, .int .i64 sl, .int .i64 f]) rfl rfl (by kernel_rfl) (by kernel_rfl) (by kernel_rfl) (fun _ _ _ h => h) rfl (fun wq hS => by have q := HVG.out.below hS HVG.out.lt; have q0 := q.cell (i := 0) rfl; have q1 := q.cell (i := 1) rfl; have q2 := q.cell (i := 2) rfl; have q3 := q.cell (i := 3) rfl; go_simp) HSd.out ?_
    try simp only [Act.put, List.setIfInBounds_toArray, List.set_cons_succ, List.set_cons_zero]
    refine takeH 2 (some 19) (.agg #[.int .i64 seg, .int .i64 off, .int .u32 seq, .slice fa n fc]) rfl rfl (by kernel_rfl) (by kernel_rfl) (by kernel_rfl) (fun _ _ _ h => h) rfl (fun wq hS => by have q := HVA.out.below hS HVA.out.lt; have q0 := q.cell (i := 0) rfl; have q1 := q.cell (i := 1) rfl; have q2 := q.cell (i := 2) rfl; have q3 := q.cell (i := 3) rfl; go_simp) HSd.out ?_
    try simp only [Act.put, List.setIfInBounds_toArray, List.set_cons_succ, List.set_cons_zero]
    refine oneH 3 (by kernel_rfl) rfl rfl fun K hK => ?_
    go_simp
    refine (HCO.out _ (HFR.out.below (stay HB3.out HSd.out))).mono ?_
    rintro e w4 ⟨tv, rfl, ho, hb⟩
    have HO := Lib.hid ho
    have HS4 := Lib.hid (stay HSd.out hb)
    obtain ⟨ta, tc, htv⟩ := ho.ints.form
    rw [HN.out] at htv
    subst htv
    have HSZ : Hid (w.heap.size ≤ w3.drew.heap.size) := Lib.hid (stay HB3.out HSd.out).size
    refine hK _ _ HS4.out ?_
    clear hK K hb ho
    try simp only [Act.put, List.setIfInBounds_toArray, List.set_cons_succ, List.set_cons_zero]
    refine takeH 4 (some 21) (.agg #[.pointer (some ⟨b, 0, none⟩), .int .i64 p, .int .i64 s, .int .i64 sl, .int .i64 f, .int .i64 seg, .int .i64 off, .int .u32 seq, .slice ta n tc]) rfl rfl (by kernel_rfl) (by kernel_rfl) (by kernel_rfl) (fun _ _ _ h => h) rfl (fun wq hS => by exact exec_build _ _ _ _ 87 _ rfl #[(0, .pointer (some ⟨b, 0, none⟩)), (1, .agg #[.int .i64 p, .int .i64 s, .int .i64 sl, .int .i64 f]), (2, .agg #[.int .i64 seg, .int .i64 off, .int .u32 seq, .slice ta n tc])] (by simp only [List.map_toArray, List.map_cons, List.map_nil]; rfl) _ (run_build _ 87 _ _ (HBT.out _ _ _ _ _ _))) HS4.out ?_
    try simp only [Act.put, List.setIfInBounds_toArray, List.set_cons_succ, List.set_cons_zero]
    refine oneH 5 (by kernel_rfl) rfl rfl fun K hK => ?_
    refine wp_runTo (some 22) rfl (.pointer (some ⟨w4.heap.size, 0, none⟩)) (w4.alloc (.cells #[.pointer (some ⟨b, 0, none⟩), .int .i64 p, .int .i64 s, .int .i64 sl, .int .i64 f, .int .i64 seg, .int .i64 off, .int .u32 seq, .slice ta n tc] 87)) (by go_simp) ?_
    have hbl : Below w4.heap.size w4 (w4.alloc (.cells #[.pointer (some ⟨b, 0, none⟩), .int .i64 p, .int .i64 s, .int .i64 sl, .int .i64 f, .int .i64 seg, .int .i64 off, .int .u32 seq, .slice ta n tc] 87)) := (Below.refl _ _).alloc (Nat.le_refl _) _
    have HS5 := Lib.hid (stay HS4.out hbl)
    have HBL := Lib.hid hbl
    have HNB := Lib.hid (Blk.new w4 #[.pointer (some ⟨b, 0, none⟩), .int .i64 p, .int .i64 s, .int .i64 sl, .int .i64 f, .int .i64 seg, .int .i64 off, .int .u32 seq, .slice ta n tc] 87)
    refine hK _ _ HS5.out ?_
    clear hK K hbl
    try simp only [Act.put, List.setIfInBounds_toArray, List.set_cons_succ, List.set_cons_zero]
    refine takeH 6 (some 6) (.pointer (some ⟨w4.heap.size, 0, none⟩)) rfl rfl (by kernel_rfl) (by kernel_rfl) (by kernel_rfl) (fun _ _ _ h => h) rfl (fun wq hS => by go_simp) HS5.out ?_
    try simp only [Act.put, List.setIfInBounds_toArray, List.set_cons_succ, List.set_cons_zero]
    refine takeH 7 (some 7) (.int .i64 0) rfl rfl (by kernel_rfl) (by kernel_rfl) (by kernel_rfl) (fun _ _ _ h => h) rfl (fun wq hS => by go_simp) HS5.out ?_
    try simp only [Act.put, List.setIfInBounds_toArray, List.set_cons_succ, List.set_cons_zero]
    refine wpAnyH_done (by kernel_rfl) ?_ _
    go_wp2_with fail
    go_meet
    have hle : w.heap.size ≤ w4.heap.size := (stay HB3.out HS4.out).size
    exact ⟨_, _, rfl, rfl, HJ.out _ _ _ HNB.out hle ((HO.out.below HBL.out).mono HSZ.out) (fun e => by have := (HO.out.lt _ e).2; omega) (stay HB3.out HS5.out), hle, stay HB3.out HS5.out⟩
  case rest =>
    obtain ⟨jb, tv, rfl, rfl, hj, hle, hb⟩ := hcut
    have HJ5 := Lib.hid hj
    have HB5 := Lib.hid hb
    have HLE := Lib.hid hle
    clear hj hb hle
    go_wp2_with fail
    first | go_ret2 | go_ret
    exact ⟨jb, tv, rfl, HJ5.out, HLE.out, HB5.out⟩
theorem zero40 : (Tryz.prog.info? 40).bind (·.zero) = some (.agg #[.int .i64 0, .int .i64 0, .int .u32 0, .slice none 0 0]) := by kernel_rfl
theorem built40z : Tryz.prog.built 40 [] = some #[.int .i64 0, .int .i64 0, .int .u32 0, .slice none 0 0] := by kernel_rfl
section
variable {W w : World} {jb b : Nat} {F : Nat → Prop} {d : De.D} {g : Pl.Gm} {a : Ja} {fv : Value}
theorem Jn.cells (h : Jn W w jb b F d g a fv) : w.cell? ⟨jb, 0, none⟩ = some (.pointer (some ⟨b, 0, none⟩)) ∧ w.cell? ⟨jb, 1, none⟩ = some (.int .i64 g.p) ∧ w.cell? ⟨jb, 2, none⟩ = some (.int .i64 g.s) ∧ w.cell? ⟨jb, 3, none⟩ = some (.int .i64 g.l) ∧ w.cell? ⟨jb, 4, none⟩ = some (.int .i64 g.f) ∧ w.cell? ⟨jb, 5, none⟩ = some (.int .i64 a.seg) ∧ w.cell? ⟨jb, 6, none⟩ = some (.int .i64 a.off) ∧ w.cell? ⟨jb, 7, none⟩ = some (.int .u32 a.seq) ∧ w.cell? ⟨jb, 8, none⟩ = some fv :=
  ⟨h.blk.cell rfl, h.blk.cell rfl, h.blk.cell rfl, h.blk.cell rfl, h.blk.cell rfl, h.blk.cell rfl, h.blk.cell rfl, h.blk.cell rfl, h.blk.cell rfl⟩
theorem Jn.form (h : Jn W w jb b F d g a fv) : ∃ fa fc, fv = .slice fa a.free.length fc := h.fr.form
set_option maxRecDepth 100000 in
theorem at_any (h : Jn W w jb b F d g a fv) : Calls Tryz.prog 20 #[.pointer (some ⟨jb, 0, none⟩)] w fun e w' => ∃ tv, e = .returned (.agg #[.int .i64 a.seg, .int .i64 a.off, .int .u32 a.seq, tv]) ∧ OwnN w' w.heap.size tv a.free ∧ Below w.heap.size w w' := by
  have hfew := Ja.few h.good
  obtain ⟨fa, fc, hfv⟩ := h.form
  obtain ⟨n, hnn⟩ : ∃ n, a.free.length = n := ⟨_, rfl⟩
  rw [hnn] at hfv
  subst hfv
  have HCO := Lib.hid fun w h => copyOf_any a (.slice fa n fc) (by omega) w h
  have HJ := Lib.hid h
  have HN := Lib.hid hnn
  clear hfew hnn h
  go_enter Tryz.func20, Tryz.ntmps20
  go_upto_region 0 with fail
  refine wp_region_lit ?_
  refine alloc_g zero40 rfl ?_
  intro w0 hR hb hl
  try simp only [Act.put, List.setIfInBounds_toArray, List.set_cons_succ, List.set_cons_zero]
  have HR := Lib.hid hR
  have HB := Lib.hid hb
  have HJ0 := Lib.hid (HJ.out.below hb)
  clear hR hb hl
  refine wpList_nil ?_
  go_upto_region 3 with fail
  refine wp_region_lit ?_
  refine takeL (.pointer (some ⟨jb, 0, none⟩)) rfl (by go_simp) ?_
  try simp only [Act.put, List.setIfInBounds_toArray, List.set_cons_succ, List.set_cons_zero]
  refine takeL (.pointer (some ⟨jb, 0, none⟩)) rfl (by go_simp) ?_
  try simp only [Act.put, List.setIfInBounds_toArray, List.set_cons_succ, List.set_cons_zero]
  refine takeL (.pointer (some ⟨jb, 5, none⟩)) rfl (by go_simp) ?_
  try simp only [Act.put, List.setIfInBounds_toArray, List.set_cons_succ, List.set_cons_zero]
  refine takeL (.agg #[.int .i64 a.seg, .int .i64 a.off, .int .u32 a.seq, .slice fa n fc]) rfl (by obtain ⟨c0, c1, c2, c3, c4, c5, c6, c7, c8⟩ := HJ0.out.cells; go_simp) ?_
  try simp only [Act.put, List.setIfInBounds_toArray, List.set_cons_succ, List.set_cons_zero]
  refine wpList_op rfl fun K hK => ?_
  go_simp
  refine (HCO.out _ HJ0.out.fr).mono ?_
  rintro e w1 ⟨tv, rfl, ho, hb⟩
  have HO := Lib.hid ho
  have HB1 := Lib.hid (stay HB.out hb)
  have HR1 := Lib.hid (HR.out.below hb HR.out.lt)
  have HLT : Hid (w.heap.size < w0.heap.size) := Lib.hid HR.out.lt
  obtain ⟨ta, tc, htv⟩ := ho.ints.form
  rw [HN.out] at htv
  subst htv
  clear ho hb HB HR HJ0
  refine hK _ _ ?_
  clear hK K
  try simp only [Act.put, List.setIfInBounds_toArray, List.set_cons_succ, List.set_cons_zero]
  refine store_all (cs := #[.int .i64 a.seg, .int .i64 a.off, .int .u32 a.seq, .slice ta n tc]) HR1.out rfl info40 (at_one _ _ _ _ _ _) rfl rfl rfl ?_
  intro w2 hD hO hlD
  try simp only [Act.put, List.setIfInBounds_toArray, List.set_cons_succ, List.set_cons_zero]
  have HB2 := Lib.hid (HB1.out.trans (hO.below HB1.out.size fun k hk => Nat.le_of_eq hk.symm))
  have HD := Lib.hid hD
  have HO2 := Lib.hid (OwnN.onlyN HO.out hO HLT.out)
  clear hD hO hlD
  refine wpList_nil ?_
  go_wp2_with fail
  refine bodyPost_ret (v := .agg #[.int .i64 a.seg, .int .i64 a.off, .int .u32 a.seq, .slice ta n tc]) (results_cell_at rfl _ _ w.heap.size 0 _ _ rfl Tryz.underlying40 rfl info40 (HD.out.all rfl)) rfl ⟨_, rfl, HO2.out.mono (Nat.le_of_lt HLT.out), HB2.out⟩
end

end Go.Proofs.YthlnmdihdcfphaaGreatDoor
