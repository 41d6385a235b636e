/- The statement FoldWhole's walk, where the second block is too long. -/
import Derived.Test.YtjejodgjakjeiaaDoorWholeA
namespace Go.Proofs.YtjejodgjakjeiaaDoor
set_option linter.unusedSimpArgs false
set_option linter.unusedVariables false
open Go.RowKit

set_option maxRecDepth 100000 in
set_option maxHeartbeats 4000000 in
theorem whole_yfl (p : List Int) (hp : Pg p) (b c : Bk) (bv cv : Value) (hb : b.Wf) (hc : c.Wf) (id : Int) (hid : Byte id) (h1 : b.bytes.length ≤ 300) (h2 : c.bytes.length ≤ 300) (u : Nat) (hu : b.off = u) (hf1 : Fits u b.bytes) (hl1 : b.bytes.length ≤ 16) (v : Nat) (hv : c.off = v) (hf2 : Fits v c.bytes) (hl2 : 16 < c.bytes.length) (w : World) (hbv : BytesAt w bv b.bytes) (hcv : BytesAt w cv c.bytes) (hev : ErrVar w) : Calls Tryd.prog 5 #[.agg (u8s p).toArray, .agg (b.cells bv ++ c.cells cv).toArray, .int .u8 id] w fun e w' => e = .returned (.bool true) ∧ Below w.heap.size w w' := by
  have HZ32 := Lib.hid (zeros_length 32)
  have HNW := Lib.hid Bk.none_wf
  have HNL : Hid (Len (.slice none 0 0) 0) := Lib.hid ⟨none, 0, rfl⟩
  have HBL : Hid (Below w.heap.size w w) := Lib.hid (Below.refl _ _)
  have HEV := Lib.hid hev
  have HE0 := Lib.hid hev.lt
  have HPL := Lib.hid hp.length
  have HW := Lib.hid hb
  have HWC := Lib.hid hc
  have HBV := Lib.hid hbv
  have HCV := Lib.hid hcv
  obtain ⟨ba, bc, he, -⟩ := hbv
  obtain ⟨bn, hbn⟩ : ∃ n, b.bytes.length = n := ⟨_, rfl⟩
  rw [hbn] at he
  subst he
  obtain ⟨ca, cc, he, -⟩ := hcv
  obtain ⟨cn, hcn⟩ : ∃ n, c.bytes.length = n := ⟨_, rfl⟩
  rw [hcn] at he
  subst he
  have HBN := Lib.hid hbn
  have HCN := Lib.hid hcn
  have HLB : Hid (Len (.slice ba bn bc) b.bytes.length) := Lib.hid (by rw [hbn]; exact ⟨_, _, rfl⟩)
  have HLC : Hid (Len (.slice ca cn cc) c.bytes.length) := Lib.hid (by rw [hcn]; exact ⟨_, _, rfl⟩)
  have T35 : Hid ((b.cells (.slice ba bn bc) ++ c.cells (.slice ca cn cc))[35]? = some (.slice ba bn bc)) := Lib.hid ((pair_left hb (by decide)).trans (b.at35 hb _))
  have T80 : Hid ((b.cells (.slice ba bn bc) ++ c.cells (.slice ca cn cc))[80]? = some (.slice ca cn cc)) := Lib.hid ((pair_right hb 35).trans (c.at35 hc _))

  rw [hbn] at h1 hl1
  rw [hcn] at h2 hl2
  have a0 : decide (300 < (bn : Int)) = false := decide_eq_false (by omega)
  have a1 : decide (300 < (cn : Int)) = false := decide_eq_false (by omega)
  have a2 : decide (16 < (bn : Int)) = false := decide_eq_false (by omega)
  have HX1 := Lib.hid (show b.bytes.length ≤ 1000 by omega)
  have HX2 := Lib.hid (show c.bytes.length ≤ 1000 by omega)
  have HF1 := Lib.hid hf1
  obtain ⟨k, hk⟩ : ∃ k : Int, id % 64 = k := ⟨_, rfl⟩
  have hk0 : 0 ≤ k := by rw [← hk]; exact Int.emod_nonneg _ (by decide)
  have hk1 : k ≤ 63 := by
    have := Int.emod_lt_of_pos id (show (0 : Int) < 64 by decide)
    omega
  have hid0 : 0 ≤ id := hid.1
  have hid1 := hid.2
  have hmod : Int.tmod id 64 = k := by rw [Int.tmod_eq_emod_of_nonneg hid0]; exact hk
  have hsk : Small k := ⟨by omega, by omega⟩
  have HWR : Hid (IntKind.i64.wrap id = id) := Lib.hid (wrap64 (by omega) (by omega))
  obtain ⟨j, hj⟩ : ∃ j : Int, (k + 1) % 64 = j := ⟨_, rfl⟩
  have hj0 : 0 ≤ j := by rw [← hj]; exact Int.emod_nonneg _ (by decide)
  have hj1 : j < 64 := by rw [← hj]; exact Int.emod_lt_of_pos _ (by decide)
  have hjk : j ≠ k := by omega
  have hmod2 : Int.tmod (k + 1) 64 = j := by rw [Int.tmod_eq_emod_of_nonneg (by omega)]; exact hj
  have gk : IntKind.i64.wrap (k + 1) = k + 1 := wrap64 (by omega) (by omega)
  obtain ⟨I, hI⟩ : ∃ I, Bk.image k p = I := ⟨_, rfl⟩
  have HWI : Hid I.Wf := Lib.hid (hI ▸ Bk.image_wf hsk hp)
  have HIB : Hid (I.bytes = []) := Lib.hid (hI ▸ rfl)
  have HIL : Hid (Len (.slice none 0 0) I.bytes.length) := Lib.hid (by rw [HIB.out]; exact ⟨none, 0, rfl⟩)
  have HBI : Hid (Tryd.prog.built 30 [(0, .int .i64 1), (1, .int .i64 k), (2, .agg (u8s p).toArray)] = some (I.arr (.slice none 0 0))) := Lib.hid (hI ▸ built30i k hp.length)
  have HTI : Hid (told [I] = p) := Lib.hid (hI ▸ told_img hk0 hk1)
  have HCI : Hid (code [I] = 0) := Lib.hid (hI ▸ code_yes (chain_img hk0 hk1))
  obtain ⟨b1, b2, b3, b4, ⟨w1, w2, w3, w4⟩, s1, s2, s3, s4, s5⟩ := turn_to hb hsk (pv := 9) ⟨by decide, by decide⟩
  obtain ⟨c1, c2, c3, c4, ⟨x1, x2, x3, x4⟩, t1, t2, t3, t4, t5⟩ := turn_to hc hsk (pv := 1) ⟨by decide, by decide⟩
  have W1 := Lib.hid w1
  have W2 := Lib.hid w2
  have W3 := Lib.hid w3
  have W4 := Lib.hid w4
  have X1 := Lib.hid x1
  have X2 := Lib.hid x2
  have X3 := Lib.hid x3
  have X4 := Lib.hid x4
  have S1 := Lib.hid s1
  have S2 := Lib.hid s2
  have S3 := Lib.hid s3
  have S4 := Lib.hid s4
  have U1 := Lib.hid t1
  have U2 := Lib.hid t2
  have U3 := Lib.hid t3
  have U4 := Lib.hid t4
  have hmain : isChain [Bk.delta k b.off b.bytes 9, Bk.image k p] = true := by
    have hm := chain_more (h := Bk.image k p) (r := []) (off := b.off) (l := b.bytes) (pv := 9) (by decide) (by decide) (by decide) (chain_img hk0 hk1)
    rw [show (Bk.image k p).id = k from rfl] at hm
    rw [hm]
    simp
    exact ⟨hu ▸ hf1, by omega⟩
  obtain ⟨D, hD⟩ : ∃ D, Bk.delta k b.off b.bytes 9 = D := ⟨_, rfl⟩
  have HWD : Hid D.Wf := Lib.hid (hD ▸ Bk.delta_wf hsk hb.off ⟨by decide, by decide⟩ hb.bytes hb.bytess)
  have HDB : Hid (D.bytes = b.bytes) := Lib.hid (hD ▸ rfl)
  have HDO : Hid (D.off = u) := Lib.hid (by rw [← hD]; exact hu)
  have HLD : Hid (Len (.slice ba bn bc) D.bytes.length) := Lib.hid (by rw [HDB.out]; exact HLB.out)
  obtain ⟨F, hF⟩ : ∃ F, Bk.delta k c.off c.bytes 1 = F := ⟨_, rfl⟩
  have HWF : Hid F.Wf := Lib.hid (hF ▸ Bk.delta_wf hsk hc.off ⟨by decide, by decide⟩ hc.bytes hc.bytess)
  have HFB : Hid (F.bytes = c.bytes) := Lib.hid (hF ▸ rfl)
  have HLF : Hid (Len (.slice ca cn cc) F.bytes.length) := Lib.hid (by rw [HFB.out]; exact HLC.out)
  have S5 : Hid (∀ sv, (b4.cells sv).set 36 (.int .i64 9) = D.cells sv) := Lib.hid (hD ▸ s5)
  have U5 : Hid (∀ sv, (c4.cells sv).set 36 (.int .i64 1) = F.cells sv) := Lib.hid (hF ▸ t5)

  obtain ⟨p1, hp1⟩ : ∃ p1, layI p u b.bytes = p1 := ⟨_, rfl⟩
  have H1 : Hid (p1.length = 32) := Lib.hid (hp1 ▸ lay_size HPL.out u hf1)
  have HP1 := Lib.hid hp1
  have hto := told_more (h := Bk.image k p) (r := []) (o := u) (l := b.bytes) (pv := 9) (chain_img hk0 hk1) (hu ▸ hmain)
  rw [told_img hk0 hk1, hp1] at hto
  have HT : Hid (told [D, I] = p1) := Lib.hid (by rw [← hD, ← hI, hu]; exact hto)
  have HCD : Hid (code [D, I] = 0) := Lib.hid (by rw [← hD, ← hI]; exact code_yes hmain)
  clear hto
  have a3 : decide (16 < (cn : Int)) = true := decide_eq_true (by omega)
  have HF2 := Lib.hid hf2
  have HFO : Hid (F.off = v) := Lib.hid (by rw [← hF]; exact hv)
  have hsec : isChain [Bk.delta k b.off b.bytes 9, Bk.delta k c.off c.bytes 1] = false := by
    rw [chain_two hk0 hk1]
    exact Bool.and_eq_false_iff.2 (.inr (decide_eq_false fun h => absurd h.2 (by omega)))
  obtain ⟨q1, hq1⟩ : ∃ q1, layI (zeros 32) v c.bytes = q1 := ⟨_, rfl⟩
  have H2 : Hid (q1.length = 32) := Lib.hid (hq1 ▸ lay_size (zeros_length 32) v hf2)
  have HQ1 := Lib.hid hq1
  have HT2 : Hid (told [D, F] = zeros 32) := Lib.hid (by rw [← hD, ← hF]; exact (told_no hsec).1)
  have HCD2 : Hid (code [D, F] = 11) := Lib.hid (by rw [← hD, ← hF]; exact (told_no hsec).2)
  clear hq1
  clear hsec hf2 hl2 hv
  have HMOD := Lib.hid hmod
  have HMOD2 := Lib.hid hmod2
  clear hmod hmod2 hev hbn hcn h1 h2 hf1 hl1 hk hid hid0 hid1 hI w1 w2 w3 w4 x1 x2 x3 x4 s1 s2 s3 s4 s5 t1 t2 t3 t4 t5 hmain hD hF hp hb hc hj hj0 hj1 hjk hk0 hk1 hsk hp1 hu
  go_enter Tryd.func5, Tryd.ntmps5
  go_upto_region 0 with fail
  refine wp_region_lit ?_
  refine box_g (cs := (u8s p).toArray) rfl rfl ?_
  intro w1 hA hb hl
  try simp only [Act.put, List.setIfInBounds_toArray, List.set_cons_succ, List.set_cons_zero]
  clear hl
  have HG2 : Hid (w.heap.size ≤ w.heap.size) := Lib.hid HBL.out.size
  have F3 := Lib.hid (HBL.out.trans (hb.mono HBL.out.size))
  have F4 := Lib.hid (HEV.out.below (Nat.le_refl _) hb)
  clear HBL HEV
  have F5 : Hid (Blk w1 w.heap.size (u8s p)) := Lib.hid hA
  clear hA hb
  refine box_g (cs := (b.cells (.slice ba bn bc) ++ c.cells (.slice ca cn cc)).toArray) rfl rfl ?_
  intro w6 hA hb hl
  try simp only [Act.put, List.setIfInBounds_toArray, List.set_cons_succ, List.set_cons_zero]
  clear hl
  have HN7 := Lib.hid (Nat.ne_of_lt F5.out.lt)
  have HG8 : Hid (w.heap.size ≤ w1.heap.size) := Lib.hid F3.out.size
  have F9 := Lib.hid (F3.out.trans (hb.mono F3.out.size))
  have F10 := Lib.hid (F4.out.below (Nat.le_refl _) hb)
  have F11 := Lib.hid (F5.out.below hb F5.out.lt)
  clear F3 F4 F5
  have F12 : Hid (Blk w6 w1.heap.size (b.cells (.slice ba bn bc) ++ c.cells (.slice ca cn cc))) := Lib.hid hA
  clear hA hb
  generalize w1.heap.size = g13 at *
  clear w1
  refine takeL (.bool false) rfl (by go_simp) ?_
  try simp only [Act.put, List.setIfInBounds_toArray, List.set_cons_succ, List.set_cons_zero]
  refine wpList_nil ?_
  go_upto_region 1 with fail
  refine wp_region_lit ?_
  try simp only [List.append_eq, List.cons_append, List.nil_append]
  refine takeL (.pointer (some ⟨g13, 0, none⟩)) rfl (by go_simp) ?_
  try simp only [Act.put, List.setIfInBounds_toArray, List.set_cons_succ, List.set_cons_zero]
  refine takeL (.pointer (some ⟨g13, 35, none⟩)) rfl (by go_simp) ?_
  try simp only [Act.put, List.setIfInBounds_toArray, List.set_cons_succ, List.set_cons_zero]
  refine takeL (.slice ba bn bc) rfl (by have hq := F12.out.cell (i := 35) (v := .slice ba bn bc) T35.out; go_simp) ?_
  try simp only [Act.put, List.setIfInBounds_toArray, List.set_cons_succ, List.set_cons_zero]
  refine takeL (.int .i64 bn) rfl (by go_simp) ?_
  try simp only [Act.put, List.setIfInBounds_toArray, List.set_cons_succ, List.set_cons_zero]
  refine takeL (.bool false) rfl (by go_simp) ?_
  try simp only [Act.put, List.setIfInBounds_toArray, List.set_cons_succ, List.set_cons_zero]
  refine takeL (.bool false) rfl (by go_simp) ?_
  try simp only [Act.put, List.setIfInBounds_toArray, List.set_cons_succ, List.set_cons_zero]
  refine takeL (.pointer (some ⟨g13, 45, none⟩)) rfl (by go_simp) ?_
  try simp only [Act.put, List.setIfInBounds_toArray, List.set_cons_succ, List.set_cons_zero]
  refine takeL (.pointer (some ⟨g13, 80, none⟩)) rfl (by go_simp) ?_
  try simp only [Act.put, List.setIfInBounds_toArray, List.set_cons_succ, List.set_cons_zero]
  refine takeL (.slice ca cn cc) rfl (by have hq := F12.out.cell (i := 80) (v := .slice ca cn cc) T80.out; go_simp) ?_
  try simp only [Act.put, List.setIfInBounds_toArray, List.set_cons_succ, List.set_cons_zero]
  refine takeL (.int .i64 cn) rfl (by go_simp) ?_
  try simp only [Act.put, List.setIfInBounds_toArray, List.set_cons_succ, List.set_cons_zero]
  refine takeL (.bool false) rfl (by go_simp) ?_
  try simp only [Act.put, List.setIfInBounds_toArray, List.set_cons_succ, List.set_cons_zero]
  refine takeL (.bool false) rfl (by go_simp) ?_
  try simp only [Act.put, List.setIfInBounds_toArray, List.set_cons_succ, List.set_cons_zero]
  refine wpList_nil ?_
  go_upto_region 3 with fail
  refine wp_region_lit ?_
  try simp only [List.append_eq, List.cons_append, List.nil_append]
  refine takeL (.int .u8 id) rfl (by go_simp) ?_
  try simp only [Act.put, List.setIfInBounds_toArray, List.set_cons_succ, List.set_cons_zero]
  refine takeL (.int .i64 id) rfl (by have hq := HWR.out; go_simp) ?_
  try simp only [Act.put, List.setIfInBounds_toArray, List.set_cons_succ, List.set_cons_zero]
  refine takeL (.int .i64 k) rfl (by have hq := HMOD.out; go_simp) ?_
  try simp only [Act.put, List.setIfInBounds_toArray, List.set_cons_succ, List.set_cons_zero]
  refine takeL (.int .i64 k) rfl (by go_simp) ?_
  try simp only [Act.put, List.setIfInBounds_toArray, List.set_cons_succ, List.set_cons_zero]
  refine wpList_nil ?_
  go_upto_region 4 with fail
  refine wp_region_lit ?_
  try simp only [List.append_eq, List.cons_append, List.nil_append]
  refine takeL (.int .i64 k) rfl (by go_simp) ?_
  try simp only [Act.put, List.setIfInBounds_toArray, List.set_cons_succ, List.set_cons_zero]
  refine load26 (cs := (u8s p).toArray) (Blk.all F11.out rfl) (by rw [u8s_size, HPL.out]) rfl rfl ?_
  try simp only [Act.put, List.setIfInBounds_toArray, List.set_cons_succ, List.set_cons_zero]
  refine takeL (.agg (I.arr (.slice none 0 0))) rfl (exec_build _ _ _ _ 30 _ rfl #[(0, .int .i64 1), (1, .int .i64 k), (2, .agg (u8s p).toArray)] (by simp [go_sem]) _ (run_build _ 30 _ _ HBI.out)) ?_
  try simp only [Act.put, List.setIfInBounds_toArray, List.set_cons_succ, List.set_cons_zero]
  refine alloc_g zero30b rfl ?_
  intro w14 hA hb hl
  try simp only [Act.put, List.setIfInBounds_toArray, List.set_cons_succ, List.set_cons_zero]
  clear hl
  refine store_all (cs := (I.arr (.slice none 0 0))) hA (same30 HNW.out HWI.out _ _) (info30s HWI.out _) (Bk.arr_one (slice_one HIL.out)) rfl rfl rfl ?_
  intro w15 hD hO hlD
  try simp only [Act.put, List.setIfInBounds_toArray, List.set_cons_succ, List.set_cons_zero]
  clear hlD hA
  have hbb : Below w6.heap.size w6 w15 := hb.trans (hO.below hb.size fun k hk => Nat.le_of_eq hk.symm)
  clear hb hO
  have HN16 := Lib.hid (Nat.ne_of_lt F11.out.lt)
  have HN17 := Lib.hid (Nat.ne_of_lt F12.out.lt)
  have HG18 : Hid (w.heap.size ≤ w6.heap.size) := Lib.hid F9.out.size
  have F19 := Lib.hid (F9.out.trans (hbb.mono F9.out.size))
  have F20 := Lib.hid (F10.out.below (Nat.le_refl _) hbb)
  have F21 := Lib.hid (F11.out.below hbb F11.out.lt)
  have F22 := Lib.hid (F12.out.below hbb F12.out.lt)
  clear F9 F10 F11 F12
  have F23 : Hid (Blk w15 w6.heap.size (I.cells (.slice none 0 0))) := Lib.hid hD
  clear hD hbb w14
  generalize w6.heap.size = g24 at *
  clear w6
  refine wpList_nil ?_
  go_upto_region 5 with fail
  refine wp_region_lit ?_
  try simp only [List.append_eq, List.cons_append, List.nil_append]
  refine load30 (cs := (I.arr (.slice none 0 0))) (Blk.all F23.out rfl) (I.arr_size HWI.out (.slice none 0 0)) rfl rfl ?_
  try simp only [Act.put, List.setIfInBounds_toArray, List.set_cons_succ, List.set_cons_zero]
  refine lit_L1 HWI.out (by rw [HIB.out]; exact BytesAt.nil _ _ _) rfl rfl ?_
  intro slw25 w25 hO hb
  try simp only [Act.put, List.setIfInBounds_toArray, List.set_cons_succ, List.set_cons_zero]
  have F26 := Lib.hid (F19.out.trans (hb.mono F19.out.size))
  have F27 := Lib.hid (F20.out.below (Nat.le_refl _) hb)
  have F28 := Lib.hid (F21.out.below hb F21.out.lt)
  have F29 := Lib.hid (F22.out.below hb F22.out.lt)
  have F30 := Lib.hid (F23.out.below hb F23.out.lt)
  clear F19 F20 F21 F22 F23
  have F31 := Lib.hid hO.blks
  clear hb hO
  refine wpList_op rfl fun K hK => ?_
  go_simp
  refine (page_to (m := [(I, Value.slice none 0 0)]) rfl HTI.out HCI.out _ _ F31.out F27.out).mono ?_
  rintro e w32 ⟨rfl, hb⟩
  have F33 := Lib.hid (F26.out.trans (hb.mono F26.out.size))
  have F34 := Lib.hid (F27.out.below (Nat.le_refl _) hb)
  have F35 := Lib.hid (F28.out.below hb F28.out.lt)
  have F36 := Lib.hid (F29.out.below hb F29.out.lt)
  have F37 := Lib.hid (F30.out.below hb F30.out.lt)
  clear F26 F27 F28 F29 F30
  clear hb
  refine hK _ _ ?_
  clear hK K
  try simp only [Act.put, List.setIfInBounds_toArray, List.set_cons_succ, List.set_cons_zero]
  refine takeL (.tuple #[.agg (u8s p).toArray, .int .i64 0]) rfl (by go_simp) ?_
  try simp only [Act.put, List.setIfInBounds_toArray, List.set_cons_succ, List.set_cons_zero]
  refine takeL (.agg (u8s p).toArray) rfl (by go_simp) ?_
  try simp only [Act.put, List.setIfInBounds_toArray, List.set_cons_succ, List.set_cons_zero]
  refine takeL (.int .i64 0) rfl (by go_simp) ?_
  try simp only [Act.put, List.setIfInBounds_toArray, List.set_cons_succ, List.set_cons_zero]
  refine alloc_g zero26 rfl ?_
  intro w38 hA hb hl
  try simp only [Act.put, List.setIfInBounds_toArray, List.set_cons_succ, List.set_cons_zero]
  clear hl
  refine store_all (cs := (u8s p).toArray) hA (by simp only [u8s_size, List.size_toArray, List.length_append, List.length_singleton, List.length_map, HPL.out, HZ32.out]) (by rw [u8s_size, HPL.out]; exact info26) (u8s_one _) rfl rfl rfl ?_
  intro w39 hD hO hlD
  try simp only [Act.put, List.setIfInBounds_toArray, List.set_cons_succ, List.set_cons_zero]
  clear hlD hA
  have hbb : Below w32.heap.size w32 w39 := hb.trans (hO.below hb.size fun k hk => Nat.le_of_eq hk.symm)
  clear hb hO
  have HN40 := Lib.hid (Nat.ne_of_lt F35.out.lt)
  have HN41 := Lib.hid (Nat.ne_of_lt F36.out.lt)
  have HN42 := Lib.hid (Nat.ne_of_lt F37.out.lt)
  have HG43 : Hid (w.heap.size ≤ w32.heap.size) := Lib.hid F33.out.size
  have F44 := Lib.hid (F33.out.trans (hbb.mono F33.out.size))
  have F45 := Lib.hid (F34.out.below (Nat.le_refl _) hbb)
  have F46 := Lib.hid (F35.out.below hbb F35.out.lt)
  have F47 := Lib.hid (F36.out.below hbb F36.out.lt)
  have F48 := Lib.hid (F37.out.below hbb F37.out.lt)
  clear F33 F34 F35 F36 F37
  have F49 : Hid (Blk w39 w32.heap.size (u8s p)) := Lib.hid hD
  clear hD hbb w38
  generalize w32.heap.size = g50 at *
  clear w32
  refine takeL (.int .i64 0) rfl (by go_simp) ?_
  try simp only [Act.put, List.setIfInBounds_toArray, List.set_cons_succ, List.set_cons_zero]
  refine wpList_nil ?_
  go_upto_region 6 with fail
  refine wp_region_lit ?_
  try simp only [List.append_eq, List.cons_append, List.nil_append]
  refine takeL (.int .i64 0) rfl (by go_simp) ?_
  try simp only [Act.put, List.setIfInBounds_toArray, List.set_cons_succ, List.set_cons_zero]
  refine takeL (.bool false) rfl (by go_simp) ?_
  try simp only [Act.put, List.setIfInBounds_toArray, List.set_cons_succ, List.set_cons_zero]
  refine takeL (.bool false) rfl (by go_simp) ?_
  try simp only [Act.put, List.setIfInBounds_toArray, List.set_cons_succ, List.set_cons_zero]
  refine load26 (cs := (u8s p).toArray) (Blk.all F49.out rfl) (by rw [u8s_size, HPL.out]) rfl rfl ?_
  try simp only [Act.put, List.setIfInBounds_toArray, List.set_cons_succ, List.set_cons_zero]
  refine load26 (cs := (u8s p).toArray) (Blk.all F46.out rfl) (by rw [u8s_size, HPL.out]) rfl rfl ?_
  try simp only [Act.put, List.setIfInBounds_toArray, List.set_cons_succ, List.set_cons_zero]
  refine takeL (.bool false) rfl (by exact exec_npage (by simp) HPL.out HPL.out _ _ _ rfl rfl rfl) ?_
  try simp only [Act.put, List.setIfInBounds_toArray, List.set_cons_succ, List.set_cons_zero]
  refine takeL (.bool false) rfl (by go_simp) ?_
  try simp only [Act.put, List.setIfInBounds_toArray, List.set_cons_succ, List.set_cons_zero]
  refine wpList_nil ?_
  clear F49
  have A0 := Lib.hid (pair_at0 F47.out HW.out)
  have A1 := Lib.hid (pair_at45 F47.out HW.out HWC.out)
  have HG4 := Lib.hid F47.out.lt
  go_upto_region 8 with fail
  go_cut [11, 12] from 11 to 62 (fun s11 s12 wx => ∃ g1 g2 : Nat, s11 = .pointer (some ⟨g1, 0, none⟩) ∧ s12 = .pointer (some ⟨g2, 0, none⟩) ∧ g1 ≠ g2 ∧ w39.heap.size ≤ g1 ∧ w39.heap.size ≤ g2 ∧ Blk wx g1 (b.cells (.slice ba bn bc)) ∧ Blk wx g2 (c.cells (.slice ca cn cc)) ∧ Below w39.heap.size w39 wx)
  case first =>
    refine startH (fun wq => Below w39.heap.size w39 wq) (by kernel_rfl) ?_
    have HS0 : Hid (Below w39.heap.size w39 w39.drew) := Lib.hid (Below.refl _ _).drew
    generalize w39.drew = wz at *
    refine takeH 0 (some 59) (.pointer (some ⟨g13, 0, none⟩)) rfl rfl (by kernel_rfl) (by kernel_rfl) (by kernel_rfl) (fun _ _ _ h => h) rfl (fun wq hS => by go_simp) HS0.out ?_
    try simp only [Act.put, List.setIfInBounds_toArray, List.set_cons_succ, List.set_cons_zero]
    refine takeH 1 (some 60) (.agg (b.arr (.slice ba bn bc))) rfl rfl (by kernel_rfl) (by kernel_rfl) (by kernel_rfl) (fun _ _ _ h => h) rfl (fun wq hS => by exact exec_load_at wq _ _ 30 _ rfl g13 0 rfl (b.arr (.slice ba bn bc)) _ Tryd.underlying30 rfl (info30s HW.out _) (A0.out.below hS HG4.out)) HS0.out ?_
    try simp only [Act.put, List.setIfInBounds_toArray, List.set_cons_succ, List.set_cons_zero]
    refine takeH 2 (some 61) (.pointer (some ⟨g13, 45, none⟩)) rfl rfl (by kernel_rfl) (by kernel_rfl) (by kernel_rfl) (fun _ _ _ h => h) rfl (fun wq hS => by go_simp) HS0.out ?_
    try simp only [Act.put, List.setIfInBounds_toArray, List.set_cons_succ, List.set_cons_zero]
    refine takeH 3 (some 62) (.agg (c.arr (.slice ca cn cc))) rfl rfl (by kernel_rfl) (by kernel_rfl) (by kernel_rfl) (fun _ _ _ h => h) rfl (fun wq hS => by exact exec_load_at wq _ _ 30 _ rfl g13 45 rfl (c.arr (.slice ca cn cc)) _ Tryd.underlying30 rfl (info30s HWC.out _) (A1.out.below hS HG4.out)) HS0.out ?_
    try simp only [Act.put, List.setIfInBounds_toArray, List.set_cons_succ, List.set_cons_zero]
    refine twoH 4 5 (by kernel_rfl) rfl rfl rfl rfl (fun K hK => ?_) (fun K hK => ?_)
    · refine wp_runTo (some 11) rfl _ _ (exec_alloc _ _ _ 30 rfl _ zero30b) ?_
      have hb : Below wz.heap.size wz (wz.alloc (.cells (Bk.none.arr (.slice none 0 0)) 30)) := (Below.refl _ _).alloc (Nat.le_refl _) _
      have hn : Blk (wz.alloc (.cells (Bk.none.arr (.slice none 0 0)) 30)) wz.heap.size (Bk.none.cells (.slice none 0 0)) := Blk.newAt 30 _ _ rfl rfl
      have hge : w39.heap.size ≤ wz.heap.size := HS0.out.size
      generalize wz.alloc (.cells (Bk.none.arr (.slice none 0 0)) 30) = wn1 at *
      have HSn1 := Lib.hid (stay HS0.out hb)
      have HV11 := Lib.hid hn
      have HGE11 := Lib.hid hge
      refine hK _ _ HSn1.out ?_
      clear hK K hb hn hge
      try simp only [Act.put, List.setIfInBounds_toArray, List.set_cons_succ, List.set_cons_zero]
      generalize wz.heap.size = g11 at *
      refine oneH 5 (by kernel_rfl) rfl rfl fun K hK => ?_
      refine wp_runTo (some 12) rfl _ _ (exec_alloc _ _ _ 30 rfl _ zero30b) ?_
      have hb : Below wn1.heap.size wn1 (wn1.alloc (.cells (Bk.none.arr (.slice none 0 0)) 30)) := (Below.refl _ _).alloc (Nat.le_refl _) _
      have hn : Blk (wn1.alloc (.cells (Bk.none.arr (.slice none 0 0)) 30)) wn1.heap.size (Bk.none.cells (.slice none 0 0)) := Blk.newAt 30 _ _ rfl rfl
      have hge : w39.heap.size ≤ wn1.heap.size := HSn1.out.size
      generalize wn1.alloc (.cells (Bk.none.arr (.slice none 0 0)) 30) = wn2 at *
      have HSn2 := Lib.hid (stay HSn1.out hb)
      have HV12 := Lib.hid hn
      have HGE12 := Lib.hid hge
      have HNE : Hid (g11 ≠ wn1.heap.size) := Lib.hid (Nat.ne_of_lt HV11.out.lt)
      have HV11b := Lib.hid (HV11.out.below hb HV11.out.lt)
      clear HV11
      have HV11 := HV11b
      clear HV11b
      refine hK _ _ HSn2.out ?_
      clear hK K hb hn hge
      try simp only [Act.put, List.setIfInBounds_toArray, List.set_cons_succ, List.set_cons_zero]
      generalize wn1.heap.size = g12 at *
      refine oneH 6 (by kernel_rfl) rfl rfl fun K hK => ?_
      refine store_W (cs := b.arr (.slice ba bn bc)) none rfl rfl HV11.out (same30 HNW.out HW.out _ _) (info30s HW.out _) (Bk.arr_one (slice_one HLB.out)) rfl rfl fun wy1 hD hO => ?_
      have HSy1 := Lib.hid (HSn2.out.trans (hO.below HSn2.out.size fun k hk => by rw [hk]; exact HGE11.out))
      have HD11 : Hid (Blk wy1 g11 (b.cells (.slice ba bn bc))) := Lib.hid hD
      have HD12 := Lib.hid (HV12.out.only hO (HNE.out.symm))
      refine hK _ _ HSy1.out ?_
      clear hK K hD hO
      try simp only [Act.put, List.setIfInBounds_toArray, List.set_cons_succ, List.set_cons_zero]
      refine oneH 7 (by kernel_rfl) rfl rfl fun K hK => ?_
      refine store_W (cs := c.arr (.slice ca cn cc)) none rfl rfl HD12.out (same30 HNW.out HWC.out _ _) (info30s HWC.out _) (Bk.arr_one (slice_one HLC.out)) rfl rfl fun wy2 hD hO => ?_
      have HSy2 := Lib.hid (HSy1.out.trans (hO.below HSy1.out.size fun k hk => by rw [hk]; exact HGE12.out))
      have HE12 : Hid (Blk wy2 g12 (c.cells (.slice ca cn cc))) := Lib.hid hD
      have HE11 := Lib.hid (HD11.out.only hO (HNE.out))
      refine hK _ _ HSy2.out ?_
      clear hK K hD hO
      try simp only [Act.put, List.setIfInBounds_toArray, List.set_cons_succ, List.set_cons_zero]
      refine wpAnyH_done (by kernel_rfl) ?_ _
      go_wp2_with fail
      go_meet
      exact ⟨g11, g12, rfl, rfl, HNE.out, HGE11.out, HGE12.out, HE11.out, HE12.out, HSy2.out⟩
    · refine wp_runTo (some 12) rfl _ _ (exec_alloc _ _ _ 30 rfl _ zero30b) ?_
      have hb : Below wz.heap.size wz (wz.alloc (.cells (Bk.none.arr (.slice none 0 0)) 30)) := (Below.refl _ _).alloc (Nat.le_refl _) _
      have hn : Blk (wz.alloc (.cells (Bk.none.arr (.slice none 0 0)) 30)) wz.heap.size (Bk.none.cells (.slice none 0 0)) := Blk.newAt 30 _ _ rfl rfl
      have hge : w39.heap.size ≤ wz.heap.size := HS0.out.size
      generalize wz.alloc (.cells (Bk.none.arr (.slice none 0 0)) 30) = wn1 at *
      have HSn1 := Lib.hid (stay HS0.out hb)
      have HV12 := Lib.hid hn
      have HGE12 := Lib.hid hge
      refine hK _ _ HSn1.out ?_
      clear hK K hb hn hge
      try simp only [Act.put, List.setIfInBounds_toArray, List.set_cons_succ, List.set_cons_zero]
      generalize wz.heap.size = g12 at *
      refine oneH 4 (by kernel_rfl) rfl rfl fun K hK => ?_
      refine wp_runTo (some 11) rfl _ _ (exec_alloc _ _ _ 30 rfl _ zero30b) ?_
      have hb : Below wn1.heap.size wn1 (wn1.alloc (.cells (Bk.none.arr (.slice none 0 0)) 30)) := (Below.refl _ _).alloc (Nat.le_refl _) _
      have hn : Blk (wn1.alloc (.cells (Bk.none.arr (.slice none 0 0)) 30)) wn1.heap.size (Bk.none.cells (.slice none 0 0)) := Blk.newAt 30 _ _ rfl rfl
      have hge : w39.heap.size ≤ wn1.heap.size := HSn1.out.size
      generalize wn1.alloc (.cells (Bk.none.arr (.slice none 0 0)) 30) = wn2 at *
      have HSn2 := Lib.hid (stay HSn1.out hb)
      have HV11 := Lib.hid hn
      have HGE11 := Lib.hid hge
      have HNE : Hid (g12 ≠ wn1.heap.size) := Lib.hid (Nat.ne_of_lt HV12.out.lt)
      have HV12b := Lib.hid (HV12.out.below hb HV12.out.lt)
      clear HV12
      have HV12 := HV12b
      clear HV12b
      refine hK _ _ HSn2.out ?_
      clear hK K hb hn hge
      try simp only [Act.put, List.setIfInBounds_toArray, List.set_cons_succ, List.set_cons_zero]
      generalize wn1.heap.size = g11 at *
      refine oneH 6 (by kernel_rfl) rfl rfl fun K hK => ?_
      refine store_W (cs := b.arr (.slice ba bn bc)) none rfl rfl HV11.out (same30 HNW.out HW.out _ _) (info30s HW.out _) (Bk.arr_one (slice_one HLB.out)) rfl rfl fun wy1 hD hO => ?_
      have HSy1 := Lib.hid (HSn2.out.trans (hO.below HSn2.out.size fun k hk => by rw [hk]; exact HGE11.out))
      have HD11 : Hid (Blk wy1 g11 (b.cells (.slice ba bn bc))) := Lib.hid hD
      have HD12 := Lib.hid (HV12.out.only hO (HNE.out))
      refine hK _ _ HSy1.out ?_
      clear hK K hD hO
      try simp only [Act.put, List.setIfInBounds_toArray, List.set_cons_succ, List.set_cons_zero]
      refine oneH 7 (by kernel_rfl) rfl rfl fun K hK => ?_
      refine store_W (cs := c.arr (.slice ca cn cc)) none rfl rfl HD12.out (same30 HNW.out HWC.out _ _) (info30s HWC.out _) (Bk.arr_one (slice_one HLC.out)) rfl rfl fun wy2 hD hO => ?_
      have HSy2 := Lib.hid (HSy1.out.trans (hO.below HSy1.out.size fun k hk => by rw [hk]; exact HGE12.out))
      have HE12 : Hid (Blk wy2 g12 (c.cells (.slice ca cn cc))) := Lib.hid hD
      have HE11 := Lib.hid (HD11.out.only hO (HNE.out.symm))
      refine hK _ _ HSy2.out ?_
      clear hK K hD hO
      try simp only [Act.put, List.setIfInBounds_toArray, List.set_cons_succ, List.set_cons_zero]
      refine wpAnyH_done (by kernel_rfl) ?_ _
      go_wp2_with fail
      go_meet
      exact ⟨g11, g12, rfl, rfl, HNE.out.symm, HGE11.out, HGE12.out, HE11.out, HE12.out, HSy2.out⟩
  case rest =>
    obtain ⟨g11, g12, rfl, rfl, hne, hg1, hg2, hD1, hD2, hb⟩ := hcut
    have NEG := Lib.hid hne
    have GE1 := Lib.hid (Nat.le_trans F44.out.size hg1)
    have GE2 := Lib.hid (Nat.le_trans F44.out.size hg2)
    have HN151 := Lib.hid (Nat.ne_of_lt (Nat.lt_of_lt_of_le F46.out.lt hg1))
    have HN152 := Lib.hid (Nat.ne_of_lt (Nat.lt_of_lt_of_le F46.out.lt hg2))
    have HN153 := Lib.hid (Nat.ne_of_lt (Nat.lt_of_lt_of_le F47.out.lt hg1))
    have HN154 := Lib.hid (Nat.ne_of_lt (Nat.lt_of_lt_of_le F47.out.lt hg2))
    have HN155 := Lib.hid (Nat.ne_of_lt (Nat.lt_of_lt_of_le F48.out.lt hg1))
    have HN156 := Lib.hid (Nat.ne_of_lt (Nat.lt_of_lt_of_le F48.out.lt hg2))
    have F157 := Lib.hid (F44.out.trans (hb.mono F44.out.size))
    have F158 := Lib.hid (F45.out.below (Nat.le_refl _) hb)
    have F159 := Lib.hid (F46.out.below hb F46.out.lt)
    have F160 := Lib.hid (F47.out.below hb F47.out.lt)
    have F161 := Lib.hid (F48.out.below hb F48.out.lt)
    clear F44 F45 F46 F47 F48
    have FG11 : Hid (Blk wc g11 (b.cells (.slice ba bn bc))) := Lib.hid hD1
    have FG12 : Hid (Blk wc g12 (c.cells (.slice ca cn cc))) := Lib.hid hD2
    clear hD1 hD2 hb hne hg1 hg2 A0 A1 HG4
    clear F160
    go_upto_region 9 with fail
    refine wp_region_lit ?_
    try simp only [List.append_eq, List.cons_append, List.nil_append]
    refine takeL (.int .i64 k) rfl (by go_simp) ?_
    try simp only [Act.put, List.setIfInBounds_toArray, List.set_cons_succ, List.set_cons_zero]
    refine build_g (build26 _) rfl ?_
    try simp only [Act.put, List.setIfInBounds_toArray, List.set_cons_succ, List.set_cons_zero]
    refine build_g (build28 _) rfl ?_
    try simp only [Act.put, List.setIfInBounds_toArray, List.set_cons_succ, List.set_cons_zero]
    refine takeL (.pointer (some ⟨g11, 0, none⟩)) rfl (by go_simp) ?_
    try simp only [Act.put, List.setIfInBounds_toArray, List.set_cons_succ, List.set_cons_zero]
    refine skipL (wc.setCell ⟨g11, 0, none⟩ (.int .i64 2)) rfl (by have hq := FG11.out.cell (i := 0) (v := .int .i64 b.kind) (b.at0 _); have hf := FG11.out.frozen 0; go_simp) ?_
    try simp only [Act.put, List.setIfInBounds_toArray, List.set_cons_succ, List.set_cons_zero]
    have hO : Only (fun k => k = g11) wc (wc.setCell ⟨g11, 0, none⟩ (.int .i64 2)) := (Only.refl (fun k => k = g11) wc).setCell (p := ⟨g11, 0, none⟩) (.inl rfl) _
    have hD := FG11.out.set 0 (.int .i64 2)
    generalize wc.setCell ⟨g11, 0, none⟩ (.int .i64 2) = w162 at *
    rw [S1.out] at hD
    have F163 := Lib.hid (F157.out.trans (hO.below F157.out.size (fun k hk => by rw [hk]; exact GE1.out)))
    have F164 := Lib.hid (F158.out.keep hO GE1.out HE0.out)
    have F165 := Lib.hid (F159.out.only hO (HN151.out))
    have F166 := Lib.hid (F161.out.only hO (HN155.out))
    have F167 := Lib.hid (FG12.out.only hO (NEG.out.symm))
    clear F157 F158 F159 F161 FG12 FG11
    have FG11' : Hid (Blk w162 g11 (b1.cells (.slice ba bn bc))) := Lib.hid hD
    clear hD hO
    refine takeL (.pointer (some ⟨g11, 1, none⟩)) rfl (by go_simp) ?_
    try simp only [Act.put, List.setIfInBounds_toArray, List.set_cons_succ, List.set_cons_zero]
    refine skipL (w162.setCell ⟨g11, 1, none⟩ (.int .i64 k)) rfl (by have hq := FG11'.out.cell (i := 1) (v := .int .i64 b1.id) (b1.at1 _); have hf := FG11'.out.frozen 1; go_simp) ?_
    try simp only [Act.put, List.setIfInBounds_toArray, List.set_cons_succ, List.set_cons_zero]
    have hO : Only (fun k => k = g11) w162 (w162.setCell ⟨g11, 1, none⟩ (.int .i64 k)) := (Only.refl (fun k => k = g11) w162).setCell (p := ⟨g11, 1, none⟩) (.inl rfl) _
    have hD := FG11'.out.set 1 (.int .i64 k)
    generalize w162.setCell ⟨g11, 1, none⟩ (.int .i64 k) = w168 at *
    rw [S2.out] at hD
    have F169 := Lib.hid (F163.out.trans (hO.below F163.out.size (fun k hk => by rw [hk]; exact GE1.out)))
    have F170 := Lib.hid (F164.out.keep hO GE1.out HE0.out)
    have F171 := Lib.hid (F165.out.only hO (HN151.out))
    have F172 := Lib.hid (F166.out.only hO (HN155.out))
    have F173 := Lib.hid (F167.out.only hO (NEG.out.symm))
    clear F163 F164 F165 F166 F167 FG11'
    have FG11'' : Hid (Blk w168 g11 (b2.cells (.slice ba bn bc))) := Lib.hid hD
    clear hD hO
    refine takeL (.pointer (some ⟨g11, 2, none⟩)) rfl (by go_simp) ?_
    try simp only [Act.put, List.setIfInBounds_toArray, List.set_cons_succ, List.set_cons_zero]
    refine store_g (cs := (u8s (zeros 32)).toArray) FG11''.out (by rw [u8s_size, HZ32.out]; exact info26) (by rw [b2.cells_length W2.out]; simp [zeros]) (u8s_one _) rfl rfl rfl ?_
    intro w174 hD hO hlD
    try simp only [Act.put, List.setIfInBounds_toArray, List.set_cons_succ, List.set_cons_zero]
    clear hlD
    rw [S3.out] at hD
    have F175 := Lib.hid (F169.out.trans (hO.below F169.out.size (fun k hk => by rw [hk]; exact GE1.out)))
    have F176 := Lib.hid (F170.out.keep hO GE1.out HE0.out)
    have F177 := Lib.hid (F171.out.only hO (HN151.out))
    have F178 := Lib.hid (F172.out.only hO (HN155.out))
    have F179 := Lib.hid (F173.out.only hO (NEG.out.symm))
    clear F169 F170 F171 F172 F173 FG11''
    have FG11''' : Hid (Blk w174 g11 (b3.cells (.slice ba bn bc))) := Lib.hid hD
    clear hD hO
    refine takeL (.pointer (some ⟨g11, 37, none⟩)) rfl (by go_simp) ?_
    try simp only [Act.put, List.setIfInBounds_toArray, List.set_cons_succ, List.set_cons_zero]
    refine store_g (cs := (i64s (zeros 8)).toArray) FG11'''.out info28w (by rw [b3.cells_length W3.out]; simp [zeros]) (i64s_one _) rfl rfl rfl ?_
    intro w180 hD hO hlD
    try simp only [Act.put, List.setIfInBounds_toArray, List.set_cons_succ, List.set_cons_zero]
    clear hlD
    rw [S4.out] at hD
    have F181 := Lib.hid (F175.out.trans (hO.below F175.out.size (fun k hk => by rw [hk]; exact GE1.out)))
    have F182 := Lib.hid (F176.out.keep hO GE1.out HE0.out)
    have F183 := Lib.hid (F177.out.only hO (HN151.out))
    have F184 := Lib.hid (F178.out.only hO (HN155.out))
    have F185 := Lib.hid (F179.out.only hO (NEG.out.symm))
    clear F175 F176 F177 F178 F179 FG11'''
    have FG11'''' : Hid (Blk w180 g11 (b4.cells (.slice ba bn bc))) := Lib.hid hD
    clear hD hO
    refine wpList_nil ?_
    go_upto_region 10 with fail
    refine wp_region_lit ?_
    try simp only [List.append_eq, List.cons_append, List.nil_append]
    refine takeL (.int .i64 k) rfl (by go_simp) ?_
    try simp only [Act.put, List.setIfInBounds_toArray, List.set_cons_succ, List.set_cons_zero]
    refine build_g (build26 _) rfl ?_
    try simp only [Act.put, List.setIfInBounds_toArray, List.set_cons_succ, List.set_cons_zero]
    refine build_g (build28 _) rfl ?_
    try simp only [Act.put, List.setIfInBounds_toArray, List.set_cons_succ, List.set_cons_zero]
    refine takeL (.pointer (some ⟨g12, 0, none⟩)) rfl (by go_simp) ?_
    try simp only [Act.put, List.setIfInBounds_toArray, List.set_cons_succ, List.set_cons_zero]
    refine skipL (w180.setCell ⟨g12, 0, none⟩ (.int .i64 2)) rfl (by have hq := F185.out.cell (i := 0) (v := .int .i64 c.kind) (c.at0 _); have hf := F185.out.frozen 0; go_simp) ?_
    try simp only [Act.put, List.setIfInBounds_toArray, List.set_cons_succ, List.set_cons_zero]
    have hO : Only (fun k => k = g12) w180 (w180.setCell ⟨g12, 0, none⟩ (.int .i64 2)) := (Only.refl (fun k => k = g12) w180).setCell (p := ⟨g12, 0, none⟩) (.inl rfl) _
    have hD := F185.out.set 0 (.int .i64 2)
    generalize w180.setCell ⟨g12, 0, none⟩ (.int .i64 2) = w186 at *
    rw [U1.out] at hD
    have F187 := Lib.hid (F181.out.trans (hO.below F181.out.size (fun k hk => by rw [hk]; exact GE2.out)))
    have F188 := Lib.hid (F182.out.keep hO GE2.out HE0.out)
    have F189 := Lib.hid (F183.out.only hO (HN152.out))
    have F190 := Lib.hid (F184.out.only hO (HN156.out))
    have F191 := Lib.hid (FG11''''.out.only hO (NEG.out))
    clear F181 F182 F183 F184 FG11'''' F185
    have FG12' : Hid (Blk w186 g12 (c1.cells (.slice ca cn cc))) := Lib.hid hD
    clear hD hO
    refine takeL (.pointer (some ⟨g12, 1, none⟩)) rfl (by go_simp) ?_
    try simp only [Act.put, List.setIfInBounds_toArray, List.set_cons_succ, List.set_cons_zero]
    refine skipL (w186.setCell ⟨g12, 1, none⟩ (.int .i64 k)) rfl (by have hq := FG12'.out.cell (i := 1) (v := .int .i64 c1.id) (c1.at1 _); have hf := FG12'.out.frozen 1; go_simp) ?_
    try simp only [Act.put, List.setIfInBounds_toArray, List.set_cons_succ, List.set_cons_zero]
    have hO : Only (fun k => k = g12) w186 (w186.setCell ⟨g12, 1, none⟩ (.int .i64 k)) := (Only.refl (fun k => k = g12) w186).setCell (p := ⟨g12, 1, none⟩) (.inl rfl) _
    have hD := FG12'.out.set 1 (.int .i64 k)
    generalize w186.setCell ⟨g12, 1, none⟩ (.int .i64 k) = w192 at *
    rw [U2.out] at hD
    have F193 := Lib.hid (F187.out.trans (hO.below F187.out.size (fun k hk => by rw [hk]; exact GE2.out)))
    have F194 := Lib.hid (F188.out.keep hO GE2.out HE0.out)
    have F195 := Lib.hid (F189.out.only hO (HN152.out))
    have F196 := Lib.hid (F190.out.only hO (HN156.out))
    have F197 := Lib.hid (F191.out.only hO (NEG.out))
    clear F187 F188 F189 F190 F191 FG12'
    have FG12'' : Hid (Blk w192 g12 (c2.cells (.slice ca cn cc))) := Lib.hid hD
    clear hD hO
    refine takeL (.pointer (some ⟨g12, 2, none⟩)) rfl (by go_simp) ?_
    try simp only [Act.put, List.setIfInBounds_toArray, List.set_cons_succ, List.set_cons_zero]
    refine store_g (cs := (u8s (zeros 32)).toArray) FG12''.out (by rw [u8s_size, HZ32.out]; exact info26) (by rw [c2.cells_length X2.out]; simp [zeros]) (u8s_one _) rfl rfl rfl ?_
    intro w198 hD hO hlD
    try simp only [Act.put, List.setIfInBounds_toArray, List.set_cons_succ, List.set_cons_zero]
    clear hlD
    rw [U3.out] at hD
    have F199 := Lib.hid (F193.out.trans (hO.below F193.out.size (fun k hk => by rw [hk]; exact GE2.out)))
    have F200 := Lib.hid (F194.out.keep hO GE2.out HE0.out)
    have F201 := Lib.hid (F195.out.only hO (HN152.out))
    have F202 := Lib.hid (F196.out.only hO (HN156.out))
    have F203 := Lib.hid (F197.out.only hO (NEG.out))
    clear F193 F194 F195 F196 F197 FG12''
    have FG12''' : Hid (Blk w198 g12 (c3.cells (.slice ca cn cc))) := Lib.hid hD
    clear hD hO
    refine takeL (.pointer (some ⟨g12, 37, none⟩)) rfl (by go_simp) ?_
    try simp only [Act.put, List.setIfInBounds_toArray, List.set_cons_succ, List.set_cons_zero]
    refine store_g (cs := (i64s (zeros 8)).toArray) FG12'''.out info28w (by rw [c3.cells_length X3.out]; simp [zeros]) (i64s_one _) rfl rfl rfl ?_
    intro w204 hD hO hlD
    try simp only [Act.put, List.setIfInBounds_toArray, List.set_cons_succ, List.set_cons_zero]
    clear hlD
    rw [U4.out] at hD
    have F205 := Lib.hid (F199.out.trans (hO.below F199.out.size (fun k hk => by rw [hk]; exact GE2.out)))
    have F206 := Lib.hid (F200.out.keep hO GE2.out HE0.out)
    have F207 := Lib.hid (F201.out.only hO (HN152.out))
    have F208 := Lib.hid (F202.out.only hO (HN156.out))
    have F209 := Lib.hid (F203.out.only hO (NEG.out))
    clear F199 F200 F201 F202 F203 FG12'''
    have FG12'''' : Hid (Blk w204 g12 (c4.cells (.slice ca cn cc))) := Lib.hid hD
    clear hD hO
    refine wpList_nil ?_
    go_upto_region 11 with fail
    refine wp_region_lit ?_
    try simp only [List.append_eq, List.cons_append, List.nil_append]
    refine takeL (.pointer (some ⟨g11, 36, none⟩)) rfl (by go_simp) ?_
    try simp only [Act.put, List.setIfInBounds_toArray, List.set_cons_succ, List.set_cons_zero]
    refine skipL (w204.setCell ⟨g11, 36, none⟩ (.int .i64 9)) rfl (by have hq := F209.out.cell (i := 36) (v := .int .i64 b4.prev) (b4.at36 W4.out _); have hf := F209.out.frozen 36; go_simp) ?_
    try simp only [Act.put, List.setIfInBounds_toArray, List.set_cons_succ, List.set_cons_zero]
    have hO : Only (fun k => k = g11) w204 (w204.setCell ⟨g11, 36, none⟩ (.int .i64 9)) := (Only.refl (fun k => k = g11) w204).setCell (p := ⟨g11, 36, none⟩) (.inl rfl) _
    have hD := F209.out.set 36 (.int .i64 9)
    generalize w204.setCell ⟨g11, 36, none⟩ (.int .i64 9) = w210 at *
    rw [S5.out] at hD
    have F211 := Lib.hid (F205.out.trans (hO.below F205.out.size (fun k hk => by rw [hk]; exact GE1.out)))
    have F212 := Lib.hid (F206.out.keep hO GE1.out HE0.out)
    have F213 := Lib.hid (F207.out.only hO (HN151.out))
    have F214 := Lib.hid (F208.out.only hO (HN155.out))
    have F215 := Lib.hid (FG12''''.out.only hO (NEG.out.symm))
    clear F205 F206 F207 F208 FG12'''' F209
    have FG11''''' : Hid (Blk w210 g11 (D.cells (.slice ba bn bc))) := Lib.hid hD
    clear hD hO
    refine takeL (.pointer (some ⟨g12, 36, none⟩)) rfl (by go_simp) ?_
    try simp only [Act.put, List.setIfInBounds_toArray, List.set_cons_succ, List.set_cons_zero]
    refine skipL (w210.setCell ⟨g12, 36, none⟩ (.int .i64 1)) rfl (by have hq := F215.out.cell (i := 36) (v := .int .i64 c4.prev) (c4.at36 X4.out _); have hf := F215.out.frozen 36; go_simp) ?_
    try simp only [Act.put, List.setIfInBounds_toArray, List.set_cons_succ, List.set_cons_zero]
    have hO : Only (fun k => k = g12) w210 (w210.setCell ⟨g12, 36, none⟩ (.int .i64 1)) := (Only.refl (fun k => k = g12) w210).setCell (p := ⟨g12, 36, none⟩) (.inl rfl) _
    have hD := F215.out.set 36 (.int .i64 1)
    generalize w210.setCell ⟨g12, 36, none⟩ (.int .i64 1) = w216 at *
    rw [U5.out] at hD
    have F217 := Lib.hid (F211.out.trans (hO.below F211.out.size (fun k hk => by rw [hk]; exact GE2.out)))
    have F218 := Lib.hid (F212.out.keep hO GE2.out HE0.out)
    have F219 := Lib.hid (F213.out.only hO (HN152.out))
    have F220 := Lib.hid (F214.out.only hO (HN156.out))
    have F221 := Lib.hid (FG11'''''.out.only hO (NEG.out))
    clear F211 F212 F213 F214 FG11''''' F215
    have FG12''''' : Hid (Blk w216 g12 (F.cells (.slice ca cn cc))) := Lib.hid hD
    clear hD hO
    refine wpList_nil ?_
    go_upto_region 12 with fail
    refine wp_region_lit ?_
    try simp only [List.append_eq, List.cons_append, List.nil_append]
    refine load30 (cs := (D.arr (.slice ba bn bc))) (Blk.all F221.out rfl) (D.arr_size HWD.out (.slice ba bn bc)) rfl rfl ?_
    try simp only [Act.put, List.setIfInBounds_toArray, List.set_cons_succ, List.set_cons_zero]
    refine load30 (cs := (I.arr (.slice none 0 0))) (Blk.all F220.out rfl) (I.arr_size HWI.out (.slice none 0 0)) rfl rfl ?_
    try simp only [Act.put, List.setIfInBounds_toArray, List.set_cons_succ, List.set_cons_zero]
    refine lit_L2 HWD.out HWI.out (by rw [HDB.out]; exact (HBV.out.below F217.out)) (by rw [HIB.out]; exact BytesAt.nil _ _ _) rfl rfl rfl ?_
    intro slw222 w222 hO hb
    try simp only [Act.put, List.setIfInBounds_toArray, List.set_cons_succ, List.set_cons_zero]
    have F223 := Lib.hid (F217.out.trans (hb.mono F217.out.size))
    have F224 := Lib.hid (F218.out.below (Nat.le_refl _) hb)
    have F225 := Lib.hid (F219.out.below hb F219.out.lt)
    have F226 := Lib.hid (F220.out.below hb F220.out.lt)
    have F227 := Lib.hid (F221.out.below hb F221.out.lt)
    have F228 := Lib.hid (FG12'''''.out.below hb FG12'''''.out.lt)
    clear F217 F218 F219 F220 F221 FG12'''''
    have F229 := Lib.hid hO.blks
    clear hb hO
    refine wpList_op rfl fun K hK => ?_
    go_simp
    refine (page_to (m := [(D, Value.slice ba bn bc), (I, Value.slice none 0 0)]) rfl HT.out HCD.out _ _ F229.out F224.out).mono ?_
    rintro e w230 ⟨rfl, hb⟩
    have F231 := Lib.hid (F223.out.trans (hb.mono F223.out.size))
    have F232 := Lib.hid (F224.out.below (Nat.le_refl _) hb)
    have F233 := Lib.hid (F225.out.below hb F225.out.lt)
    have F234 := Lib.hid (F226.out.below hb F226.out.lt)
    have F235 := Lib.hid (F227.out.below hb F227.out.lt)
    have F236 := Lib.hid (F228.out.below hb F228.out.lt)
    clear F223 F224 F225 F226 F227 F228
    clear hb
    refine hK _ _ ?_
    clear hK K
    try simp only [Act.put, List.setIfInBounds_toArray, List.set_cons_succ, List.set_cons_zero]
    refine takeL (.tuple #[.agg (u8s p1).toArray, .int .i64 0]) rfl (by go_simp) ?_
    try simp only [Act.put, List.setIfInBounds_toArray, List.set_cons_succ, List.set_cons_zero]
    refine takeL (.agg (u8s p1).toArray) rfl (by go_simp) ?_
    try simp only [Act.put, List.setIfInBounds_toArray, List.set_cons_succ, List.set_cons_zero]
    refine takeL (.int .i64 0) rfl (by go_simp) ?_
    try simp only [Act.put, List.setIfInBounds_toArray, List.set_cons_succ, List.set_cons_zero]
    refine alloc_g zero26 rfl ?_
    intro w237 hA hb hl
    try simp only [Act.put, List.setIfInBounds_toArray, List.set_cons_succ, List.set_cons_zero]
    clear hl
    refine store_all (cs := (u8s p1).toArray) hA (by simp only [u8s_size, List.size_toArray, List.length_append, List.length_singleton, List.length_map, H1.out, HZ32.out]) (by rw [u8s_size, H1.out]; exact info26) (u8s_one _) rfl rfl rfl ?_
    intro w238 hD hO hlD
    try simp only [Act.put, List.setIfInBounds_toArray, List.set_cons_succ, List.set_cons_zero]
    clear hlD hA
    have hbb : Below w230.heap.size w230 w238 := hb.trans (hO.below hb.size fun k hk => Nat.le_of_eq hk.symm)
    clear hb hO
    have HN239 := Lib.hid (Nat.ne_of_lt F233.out.lt)
    have HN240 := Lib.hid (Nat.ne_of_lt F234.out.lt)
    have HN241 := Lib.hid (Nat.ne_of_lt F235.out.lt)
    have HN242 := Lib.hid (Nat.ne_of_lt F236.out.lt)
    have HG243 : Hid (w.heap.size ≤ w230.heap.size) := Lib.hid F231.out.size
    have F244 := Lib.hid (F231.out.trans (hbb.mono F231.out.size))
    have F245 := Lib.hid (F232.out.below (Nat.le_refl _) hbb)
    have F246 := Lib.hid (F233.out.below hbb F233.out.lt)
    have F247 := Lib.hid (F234.out.below hbb F234.out.lt)
    have F248 := Lib.hid (F235.out.below hbb F235.out.lt)
    have F249 := Lib.hid (F236.out.below hbb F236.out.lt)
    clear F231 F232 F233 F234 F235 F236
    have F250 : Hid (Blk w238 w230.heap.size (u8s p1)) := Lib.hid hD
    clear hD hbb w237
    generalize w230.heap.size = g251 at *
    clear w230
    refine takeL (.int .i64 0) rfl (by go_simp) ?_
    try simp only [Act.put, List.setIfInBounds_toArray, List.set_cons_succ, List.set_cons_zero]
    refine wpList_nil ?_
    go_upto_region 13 with fail
    refine wp_region_lit ?_
    try simp only [List.append_eq, List.cons_append, List.nil_append]
    refine load26 (cs := (u8s p).toArray) (Blk.all F246.out rfl) (by rw [u8s_size, HPL.out]) rfl rfl ?_
    try simp only [Act.put, List.setIfInBounds_toArray, List.set_cons_succ, List.set_cons_zero]
    refine takeL (.pointer (some ⟨g11, 34, none⟩)) rfl (by go_simp) ?_
    try simp only [Act.put, List.setIfInBounds_toArray, List.set_cons_succ, List.set_cons_zero]
    refine takeL (.int .i64 u) rfl (by have hq := F248.out.cell (i := 34) (v := .int .i64 D.off) (D.at34 HWD.out _); rw [HDO.out] at hq; go_simp) ?_
    try simp only [Act.put, List.setIfInBounds_toArray, List.set_cons_succ, List.set_cons_zero]
    refine takeL (.pointer (some ⟨g11, 35, none⟩)) rfl (by go_simp) ?_
    try simp only [Act.put, List.setIfInBounds_toArray, List.set_cons_succ, List.set_cons_zero]
    refine takeL ((.slice ba bn bc)) rfl (by have hq := F248.out.cell (i := 35) (v := (.slice ba bn bc)) (D.at35 HWD.out _); go_simp) ?_
    try simp only [Act.put, List.setIfInBounds_toArray, List.set_cons_succ, List.set_cons_zero]
    refine wpList_op rfl fun K hK => ?_
    go_simp
    refine (HP1.out ▸ apply_yes p b.bytes HPL.out u _ HX1.out HF1.out _ (HBV.out.below F244.out) F245.out).mono ?_
    rintro e w252 ⟨rfl, hb⟩
    have F253 := Lib.hid (F244.out.trans (hb.mono F244.out.size))
    have F254 := Lib.hid (F245.out.below (Nat.le_refl _) hb)
    have F255 := Lib.hid (F246.out.below hb F246.out.lt)
    have F256 := Lib.hid (F247.out.below hb F247.out.lt)
    have F257 := Lib.hid (F248.out.below hb F248.out.lt)
    have F258 := Lib.hid (F249.out.below hb F249.out.lt)
    have F259 := Lib.hid (F250.out.below hb F250.out.lt)
    clear F244 F245 F246 F247 F248 F249 F250
    clear hb
    refine hK _ _ ?_
    clear hK K
    try simp only [Act.put, List.setIfInBounds_toArray, List.set_cons_succ, List.set_cons_zero]
    refine takeL (.tuple #[.agg (u8s p1).toArray, .int .i64 0]) rfl (by go_simp) ?_
    try simp only [Act.put, List.setIfInBounds_toArray, List.set_cons_succ, List.set_cons_zero]
    refine takeL (.agg (u8s p1).toArray) rfl (by go_simp) ?_
    try simp only [Act.put, List.setIfInBounds_toArray, List.set_cons_succ, List.set_cons_zero]
    refine takeL (.int .i64 0) rfl (by go_simp) ?_
    try simp only [Act.put, List.setIfInBounds_toArray, List.set_cons_succ, List.set_cons_zero]
    refine alloc_g zero26 rfl ?_
    intro w260 hA hb hl
    try simp only [Act.put, List.setIfInBounds_toArray, List.set_cons_succ, List.set_cons_zero]
    clear hl
    refine store_all (cs := (u8s p1).toArray) hA (by simp only [u8s_size, List.size_toArray, List.length_append, List.length_singleton, List.length_map, H1.out, HZ32.out]) (by rw [u8s_size, H1.out]; exact info26) (u8s_one _) rfl rfl rfl ?_
    intro w261 hD hO hlD
    try simp only [Act.put, List.setIfInBounds_toArray, List.set_cons_succ, List.set_cons_zero]
    clear hlD hA
    have hbb : Below w252.heap.size w252 w261 := hb.trans (hO.below hb.size fun k hk => Nat.le_of_eq hk.symm)
    clear hb hO
    have HN262 := Lib.hid (Nat.ne_of_lt F255.out.lt)
    have HN263 := Lib.hid (Nat.ne_of_lt F256.out.lt)
    have HN264 := Lib.hid (Nat.ne_of_lt F257.out.lt)
    have HN265 := Lib.hid (Nat.ne_of_lt F258.out.lt)
    have HN266 := Lib.hid (Nat.ne_of_lt F259.out.lt)
    have HG267 : Hid (w.heap.size ≤ w252.heap.size) := Lib.hid F253.out.size
    have F268 := Lib.hid (F253.out.trans (hbb.mono F253.out.size))
    have F269 := Lib.hid (F254.out.below (Nat.le_refl _) hbb)
    have F270 := Lib.hid (F255.out.below hbb F255.out.lt)
    have F271 := Lib.hid (F256.out.below hbb F256.out.lt)
    have F272 := Lib.hid (F257.out.below hbb F257.out.lt)
    have F273 := Lib.hid (F258.out.below hbb F258.out.lt)
    have F274 := Lib.hid (F259.out.below hbb F259.out.lt)
    clear F253 F254 F255 F256 F257 F258 F259
    have F275 : Hid (Blk w261 w252.heap.size (u8s p1)) := Lib.hid hD
    clear hD hbb w260
    generalize w252.heap.size = g276 at *
    clear w252
    refine takeL (.int .i64 0) rfl (by go_simp) ?_
    try simp only [Act.put, List.setIfInBounds_toArray, List.set_cons_succ, List.set_cons_zero]
    refine wpList_nil ?_
    go_upto_region 14 with fail
    refine wp_region_lit ?_
    try simp only [List.append_eq, List.cons_append, List.nil_append]
    refine takeL (.pointer (some ⟨g11, 35, none⟩)) rfl (by go_simp) ?_
    try simp only [Act.put, List.setIfInBounds_toArray, List.set_cons_succ, List.set_cons_zero]
    refine takeL ((.slice ba bn bc)) rfl (by have hq := F272.out.cell (i := 35) (v := (.slice ba bn bc)) (D.at35 HWD.out _); go_simp) ?_
    try simp only [Act.put, List.setIfInBounds_toArray, List.set_cons_succ, List.set_cons_zero]
    refine takeL (.int .i64 bn) rfl (by go_simp) ?_
    try simp only [Act.put, List.setIfInBounds_toArray, List.set_cons_succ, List.set_cons_zero]
    refine takeL (.bool false) rfl (by go_simp) ?_
    try simp only [Act.put, List.setIfInBounds_toArray, List.set_cons_succ, List.set_cons_zero]
    refine takeL (.bool false) rfl (by go_simp) ?_
    try simp only [Act.put, List.setIfInBounds_toArray, List.set_cons_succ, List.set_cons_zero]
    refine takeL (.int .i64 0) rfl (by go_simp) ?_
    try simp only [Act.put, List.setIfInBounds_toArray, List.set_cons_succ, List.set_cons_zero]
    refine takeL (.bool false) rfl (by go_simp) ?_
    try simp only [Act.put, List.setIfInBounds_toArray, List.set_cons_succ, List.set_cons_zero]
    refine takeL (.bool false) rfl (by go_simp) ?_
    try simp only [Act.put, List.setIfInBounds_toArray, List.set_cons_succ, List.set_cons_zero]
    refine wpList_nil ?_
    go_upto_region 16 with fail
    refine wp_region_lit ?_
    try simp only [List.append_eq, List.cons_append, List.nil_append]
    refine takeL (.int .i64 0) rfl (by go_simp) ?_
    try simp only [Act.put, List.setIfInBounds_toArray, List.set_cons_succ, List.set_cons_zero]
    refine takeL (.bool false) rfl (by go_simp) ?_
    try simp only [Act.put, List.setIfInBounds_toArray, List.set_cons_succ, List.set_cons_zero]
    refine takeL (.bool false) rfl (by go_simp) ?_
    try simp only [Act.put, List.setIfInBounds_toArray, List.set_cons_succ, List.set_cons_zero]
    refine load26 (cs := (u8s p1).toArray) (Blk.all F274.out rfl) (by rw [u8s_size, H1.out]) rfl rfl ?_
    try simp only [Act.put, List.setIfInBounds_toArray, List.set_cons_succ, List.set_cons_zero]
    refine load26 (cs := (u8s p1).toArray) (Blk.all F275.out rfl) (by rw [u8s_size, H1.out]) rfl rfl ?_
    try simp only [Act.put, List.setIfInBounds_toArray, List.set_cons_succ, List.set_cons_zero]
    refine takeL (.bool false) rfl (by exact exec_npage (by simp) H1.out H1.out _ _ _ rfl rfl rfl) ?_
    try simp only [Act.put, List.setIfInBounds_toArray, List.set_cons_succ, List.set_cons_zero]
    refine takeL (.bool false) rfl (by go_simp) ?_
    try simp only [Act.put, List.setIfInBounds_toArray, List.set_cons_succ, List.set_cons_zero]
    refine wpList_nil ?_
    clear F274
    clear F275
    go_upto_region 18 with fail
    refine wp_region_lit ?_
    try simp only [List.append_eq, List.cons_append, List.nil_append]
    refine build_g (build26 _) rfl ?_
    try simp only [Act.put, List.setIfInBounds_toArray, List.set_cons_succ, List.set_cons_zero]
    refine takeL (.pointer (some ⟨g12, 34, none⟩)) rfl (by go_simp) ?_
    try simp only [Act.put, List.setIfInBounds_toArray, List.set_cons_succ, List.set_cons_zero]
    refine takeL (.int .i64 v) rfl (by have hq := F273.out.cell (i := 34) (v := .int .i64 F.off) (F.at34 HWF.out _); rw [HFO.out] at hq; go_simp) ?_
    try simp only [Act.put, List.setIfInBounds_toArray, List.set_cons_succ, List.set_cons_zero]
    refine takeL (.pointer (some ⟨g12, 35, none⟩)) rfl (by go_simp) ?_
    try simp only [Act.put, List.setIfInBounds_toArray, List.set_cons_succ, List.set_cons_zero]
    refine takeL ((.slice ca cn cc)) rfl (by have hq := F273.out.cell (i := 35) (v := (.slice ca cn cc)) (F.at35 HWF.out _); go_simp) ?_
    try simp only [Act.put, List.setIfInBounds_toArray, List.set_cons_succ, List.set_cons_zero]
    refine wpList_op rfl fun K hK => ?_
    go_simp
    refine (HQ1.out ▸ apply_yes (zeros 32) c.bytes HZ32.out v _ HX2.out HF2.out _ (HCV.out.below F268.out) F269.out).mono ?_
    rintro e w277 ⟨rfl, hb⟩
    have F278 := Lib.hid (F268.out.trans (hb.mono F268.out.size))
    have F279 := Lib.hid (F269.out.below (Nat.le_refl _) hb)
    have F280 := Lib.hid (F270.out.below hb F270.out.lt)
    have F281 := Lib.hid (F271.out.below hb F271.out.lt)
    have F282 := Lib.hid (F272.out.below hb F272.out.lt)
    have F283 := Lib.hid (F273.out.below hb F273.out.lt)
    clear F268 F269 F270 F271 F272 F273
    clear hb
    refine hK _ _ ?_
    clear hK K
    try simp only [Act.put, List.setIfInBounds_toArray, List.set_cons_succ, List.set_cons_zero]
    refine takeL (.tuple #[.agg (u8s q1).toArray, .int .i64 0]) rfl (by go_simp) ?_
    try simp only [Act.put, List.setIfInBounds_toArray, List.set_cons_succ, List.set_cons_zero]
    refine takeL (.agg (u8s q1).toArray) rfl (by go_simp) ?_
    try simp only [Act.put, List.setIfInBounds_toArray, List.set_cons_succ, List.set_cons_zero]
    refine takeL (.int .i64 0) rfl (by go_simp) ?_
    try simp only [Act.put, List.setIfInBounds_toArray, List.set_cons_succ, List.set_cons_zero]
    refine alloc_g zero26 rfl ?_
    intro w284 hA hb hl
    try simp only [Act.put, List.setIfInBounds_toArray, List.set_cons_succ, List.set_cons_zero]
    clear hl
    refine store_all (cs := (u8s q1).toArray) hA (by simp only [u8s_size, List.size_toArray, List.length_append, List.length_singleton, List.length_map, H2.out, HZ32.out]) (by rw [u8s_size, H2.out]; exact info26) (u8s_one _) rfl rfl rfl ?_
    intro w285 hD hO hlD
    try simp only [Act.put, List.setIfInBounds_toArray, List.set_cons_succ, List.set_cons_zero]
    clear hlD hA
    have hbb : Below w277.heap.size w277 w285 := hb.trans (hO.below hb.size fun k hk => Nat.le_of_eq hk.symm)
    clear hb hO
    have HN286 := Lib.hid (Nat.ne_of_lt F280.out.lt)
    have HN287 := Lib.hid (Nat.ne_of_lt F281.out.lt)
    have HN288 := Lib.hid (Nat.ne_of_lt F282.out.lt)
    have HN289 := Lib.hid (Nat.ne_of_lt F283.out.lt)
    have HG290 : Hid (w.heap.size ≤ w277.heap.size) := Lib.hid F278.out.size
    have F291 := Lib.hid (F278.out.trans (hbb.mono F278.out.size))
    have F292 := Lib.hid (F279.out.below (Nat.le_refl _) hbb)
    have F293 := Lib.hid (F280.out.below hbb F280.out.lt)
    have F294 := Lib.hid (F281.out.below hbb F281.out.lt)
    have F295 := Lib.hid (F282.out.below hbb F282.out.lt)
    have F296 := Lib.hid (F283.out.below hbb F283.out.lt)
    clear F278 F279 F280 F281 F282 F283
    have F297 : Hid (Blk w285 w277.heap.size (u8s q1)) := Lib.hid hD
    clear hD hbb w284
    generalize w277.heap.size = g298 at *
    clear w277
    refine takeL (.int .i64 0) rfl (by go_simp) ?_
    try simp only [Act.put, List.setIfInBounds_toArray, List.set_cons_succ, List.set_cons_zero]
    refine wpList_nil ?_
    go_upto_region 19 with fail
    refine wp_region_lit ?_
    try simp only [List.append_eq, List.cons_append, List.nil_append]
    refine load30 (cs := (D.arr (.slice ba bn bc))) (Blk.all F295.out rfl) (D.arr_size HWD.out (.slice ba bn bc)) rfl rfl ?_
    try simp only [Act.put, List.setIfInBounds_toArray, List.set_cons_succ, List.set_cons_zero]
    refine load30 (cs := (F.arr (.slice ca cn cc))) (Blk.all F296.out rfl) (F.arr_size HWF.out (.slice ca cn cc)) rfl rfl ?_
    try simp only [Act.put, List.setIfInBounds_toArray, List.set_cons_succ, List.set_cons_zero]
    refine lit_L2 HWD.out HWF.out (by rw [HDB.out]; exact (HBV.out.below F291.out)) (by rw [HFB.out]; exact (HCV.out.below F291.out)) rfl rfl rfl ?_
    intro slw299 w299 hO hb
    try simp only [Act.put, List.setIfInBounds_toArray, List.set_cons_succ, List.set_cons_zero]
    have F300 := Lib.hid (F291.out.trans (hb.mono F291.out.size))
    have F301 := Lib.hid (F292.out.below (Nat.le_refl _) hb)
    have F302 := Lib.hid (F293.out.below hb F293.out.lt)
    have F303 := Lib.hid (F294.out.below hb F294.out.lt)
    have F304 := Lib.hid (F295.out.below hb F295.out.lt)
    have F305 := Lib.hid (F296.out.below hb F296.out.lt)
    have F306 := Lib.hid (F297.out.below hb F297.out.lt)
    clear F291 F292 F293 F294 F295 F296 F297
    have F307 := Lib.hid hO.blks
    clear hb hO
    refine wpList_op rfl fun K hK => ?_
    go_simp
    refine (page_to (m := [(D, Value.slice ba bn bc), (F, Value.slice ca cn cc)]) rfl HT2.out HCD2.out _ _ F307.out F301.out).mono ?_
    rintro e w308 ⟨rfl, hb⟩
    have F309 := Lib.hid (F300.out.trans (hb.mono F300.out.size))
    have F310 := Lib.hid (F301.out.below (Nat.le_refl _) hb)
    have F311 := Lib.hid (F302.out.below hb F302.out.lt)
    have F312 := Lib.hid (F303.out.below hb F303.out.lt)
    have F313 := Lib.hid (F304.out.below hb F304.out.lt)
    have F314 := Lib.hid (F305.out.below hb F305.out.lt)
    have F315 := Lib.hid (F306.out.below hb F306.out.lt)
    clear F300 F301 F302 F303 F304 F305 F306
    clear hb
    refine hK _ _ ?_
    clear hK K
    try simp only [Act.put, List.setIfInBounds_toArray, List.set_cons_succ, List.set_cons_zero]
    refine takeL (.tuple #[.agg (u8s (zeros 32)).toArray, .int .i64 11]) rfl (by go_simp) ?_
    try simp only [Act.put, List.setIfInBounds_toArray, List.set_cons_succ, List.set_cons_zero]
    refine takeL (.agg (u8s (zeros 32)).toArray) rfl (by go_simp) ?_
    try simp only [Act.put, List.setIfInBounds_toArray, List.set_cons_succ, List.set_cons_zero]
    refine takeL (.int .i64 11) rfl (by go_simp) ?_
    try simp only [Act.put, List.setIfInBounds_toArray, List.set_cons_succ, List.set_cons_zero]
    refine alloc_g zero26 rfl ?_
    intro w316 hA hb hl
    try simp only [Act.put, List.setIfInBounds_toArray, List.set_cons_succ, List.set_cons_zero]
    clear hl
    refine store_all (cs := (u8s (zeros 32)).toArray) hA (by simp only [u8s_size, List.size_toArray, List.length_append, List.length_singleton, List.length_map, HZ32.out]) (by rw [u8s_size, HZ32.out]; exact info26) (u8s_one _) rfl rfl rfl ?_
    intro w317 hD hO hlD
    try simp only [Act.put, List.setIfInBounds_toArray, List.set_cons_succ, List.set_cons_zero]
    clear hlD hA
    have hbb : Below w308.heap.size w308 w317 := hb.trans (hO.below hb.size fun k hk => Nat.le_of_eq hk.symm)
    clear hb hO
    have HN318 := Lib.hid (Nat.ne_of_lt F311.out.lt)
    have HN319 := Lib.hid (Nat.ne_of_lt F312.out.lt)
    have HN320 := Lib.hid (Nat.ne_of_lt F313.out.lt)
    have HN321 := Lib.hid (Nat.ne_of_lt F314.out.lt)
    have HN322 := Lib.hid (Nat.ne_of_lt F315.out.lt)
    have HG323 : Hid (w.heap.size ≤ w308.heap.size) := Lib.hid F309.out.size
    have F324 := Lib.hid (F309.out.trans (hbb.mono F309.out.size))
    have F325 := Lib.hid (F310.out.below (Nat.le_refl _) hbb)
    have F326 := Lib.hid (F311.out.below hbb F311.out.lt)
    have F327 := Lib.hid (F312.out.below hbb F312.out.lt)
    have F328 := Lib.hid (F313.out.below hbb F313.out.lt)
    have F329 := Lib.hid (F314.out.below hbb F314.out.lt)
    have F330 := Lib.hid (F315.out.below hbb F315.out.lt)
    clear F309 F310 F311 F312 F313 F314 F315
    have F331 : Hid (Blk w317 w308.heap.size (u8s (zeros 32))) := Lib.hid hD
    clear hD hbb w316
    generalize w308.heap.size = g332 at *
    clear w308
    refine takeL (.int .i64 11) rfl (by go_simp) ?_
    try simp only [Act.put, List.setIfInBounds_toArray, List.set_cons_succ, List.set_cons_zero]
    refine wpList_nil ?_
    go_upto_region 20 with fail
    refine wp_region_lit ?_
    try simp only [List.append_eq, List.cons_append, List.nil_append]
    refine takeL (.pointer (some ⟨g12, 35, none⟩)) rfl (by go_simp) ?_
    try simp only [Act.put, List.setIfInBounds_toArray, List.set_cons_succ, List.set_cons_zero]
    refine takeL ((.slice ca cn cc)) rfl (by have hq := F329.out.cell (i := 35) (v := (.slice ca cn cc)) (F.at35 HWF.out _); go_simp) ?_
    try simp only [Act.put, List.setIfInBounds_toArray, List.set_cons_succ, List.set_cons_zero]
    refine takeL (.int .i64 cn) rfl (by go_simp) ?_
    try simp only [Act.put, List.setIfInBounds_toArray, List.set_cons_succ, List.set_cons_zero]
    refine takeL (.bool true) rfl (by go_simp) ?_
    try simp only [Act.put, List.setIfInBounds_toArray, List.set_cons_succ, List.set_cons_zero]
    refine takeL (.bool true) rfl (by go_simp) ?_
    try simp only [Act.put, List.setIfInBounds_toArray, List.set_cons_succ, List.set_cons_zero]
    refine passL rfl ?_
    try simp only [Act.put, List.setIfInBounds_toArray, List.set_cons_succ, List.set_cons_zero]
    refine passL rfl ?_
    try simp only [Act.put, List.setIfInBounds_toArray, List.set_cons_succ, List.set_cons_zero]
    refine takeL (.bool true) rfl (by go_simp) ?_
    try simp only [Act.put, List.setIfInBounds_toArray, List.set_cons_succ, List.set_cons_zero]
    refine wpList_nil ?_
    go_upto_region 21 with fail
    refine wp_region_lit ?_
    try simp only [List.append_eq, List.cons_append, List.nil_append]
    refine takeL (.int .i64 11) rfl (by go_simp) ?_
    try simp only [Act.put, List.setIfInBounds_toArray, List.set_cons_succ, List.set_cons_zero]
    refine takeL (.bool true) rfl (by go_simp) ?_
    try simp only [Act.put, List.setIfInBounds_toArray, List.set_cons_succ, List.set_cons_zero]
    refine takeL (.bool true) rfl (by go_simp) ?_
    try simp only [Act.put, List.setIfInBounds_toArray, List.set_cons_succ, List.set_cons_zero]
    refine wpList_op rfl fun K hK => ?_
    go_simp
    refine (wakes_any _ F325.out).mono ?_
    rintro e w333 ⟨rfl, hb⟩
    have F334 := Lib.hid (F324.out.trans (hb.mono F324.out.size))
    have F335 := Lib.hid (F325.out.below (Nat.le_refl _) hb)
    have F336 := Lib.hid (F326.out.below hb F326.out.lt)
    have F337 := Lib.hid (F327.out.below hb F327.out.lt)
    have F338 := Lib.hid (F328.out.below hb F328.out.lt)
    have F339 := Lib.hid (F329.out.below hb F329.out.lt)
    have F340 := Lib.hid (F330.out.below hb F330.out.lt)
    have F341 := Lib.hid (F331.out.below hb F331.out.lt)
    clear F324 F325 F326 F327 F328 F329 F330 F331
    clear hb
    refine hK _ _ ?_
    clear hK K
    try simp only [Act.put, List.setIfInBounds_toArray, List.set_cons_succ, List.set_cons_zero]
    refine takeL (.bool true) rfl (by go_simp) ?_
    try simp only [Act.put, List.setIfInBounds_toArray, List.set_cons_succ, List.set_cons_zero]
    refine takeL (.bool true) rfl (by go_simp) ?_
    try simp only [Act.put, List.setIfInBounds_toArray, List.set_cons_succ, List.set_cons_zero]
    refine wpList_nil ?_
    go_wp2_with fail
    go_ret
    exact ⟨rfl, F334.out⟩
set_option maxRecDepth 100000 in
set_option maxHeartbeats 4000000 in
theorem whole_yol (p : List Int) (hp : Pg p) (b c : Bk) (bv cv : Value) (hb : b.Wf) (hc : c.Wf) (id : Int) (hid : Byte id) (h1 : b.bytes.length ≤ 300) (h2 : c.bytes.length ≤ 300) (u : Nat) (hu : b.off = u) (hf1 : Fits u b.bytes) (hl1 : b.bytes.length ≤ 16) (hf2 : ¬ Fits c.off c.bytes) (hl2 : 16 < c.bytes.length) (w : World) (hbv : BytesAt w bv b.bytes) (hcv : BytesAt w cv c.bytes) (hev : ErrVar w) : Calls Tryd.prog 5 #[.agg (u8s p).toArray, .agg (b.cells bv ++ c.cells cv).toArray, .int .u8 id] w fun e w' => e = .returned (.bool true) ∧ Below w.heap.size w w' := by
  have HZ32 := Lib.hid (zeros_length 32)
  have HNW := Lib.hid Bk.none_wf
  have HNL : Hid (Len (.slice none 0 0) 0) := Lib.hid ⟨none, 0, rfl⟩
  have HBL : Hid (Below w.heap.size w w) := Lib.hid (Below.refl _ _)
  have HEV := Lib.hid hev
  have HE0 := Lib.hid hev.lt
  have HPL := Lib.hid hp.length
  have HW := Lib.hid hb
  have HWC := Lib.hid hc
  have HBV := Lib.hid hbv
  have HCV := Lib.hid hcv
  obtain ⟨ba, bc, he, -⟩ := hbv
  obtain ⟨bn, hbn⟩ : ∃ n, b.bytes.length = n := ⟨_, rfl⟩
  rw [hbn] at he
  subst he
  obtain ⟨ca, cc, he, -⟩ := hcv
  obtain ⟨cn, hcn⟩ : ∃ n, c.bytes.length = n := ⟨_, rfl⟩
  rw [hcn] at he
  subst he
  have HBN := Lib.hid hbn
  have HCN := Lib.hid hcn
  have HLB : Hid (Len (.slice ba bn bc) b.bytes.length) := Lib.hid (by rw [hbn]; exact ⟨_, _, rfl⟩)
  have HLC : Hid (Len (.slice ca cn cc) c.bytes.length) := Lib.hid (by rw [hcn]; exact ⟨_, _, rfl⟩)
  have T35 : Hid ((b.cells (.slice ba bn bc) ++ c.cells (.slice ca cn cc))[35]? = some (.slice ba bn bc)) := Lib.hid ((pair_left hb (by decide)).trans (b.at35 hb _))
  have T80 : Hid ((b.cells (.slice ba bn bc) ++ c.cells (.slice ca cn cc))[80]? = some (.slice ca cn cc)) := Lib.hid ((pair_right hb 35).trans (c.at35 hc _))

  rw [hbn] at h1 hl1
  rw [hcn] at h2 hl2
  have a0 : decide (300 < (bn : Int)) = false := decide_eq_false (by omega)
  have a1 : decide (300 < (cn : Int)) = false := decide_eq_false (by omega)
  have a2 : decide (16 < (bn : Int)) = false := decide_eq_false (by omega)
  have HX1 := Lib.hid (show b.bytes.length ≤ 1000 by omega)
  have HX2 := Lib.hid (show c.bytes.length ≤ 1000 by omega)
  have HF1 := Lib.hid hf1
  obtain ⟨k, hk⟩ : ∃ k : Int, id % 64 = k := ⟨_, rfl⟩
  have hk0 : 0 ≤ k := by rw [← hk]; exact Int.emod_nonneg _ (by decide)
  have hk1 : k ≤ 63 := by
    have := Int.emod_lt_of_pos id (show (0 : Int) < 64 by decide)
    omega
  have hid0 : 0 ≤ id := hid.1
  have hid1 := hid.2
  have hmod : Int.tmod id 64 = k := by rw [Int.tmod_eq_emod_of_nonneg hid0]; exact hk
  have hsk : Small k := ⟨by omega, by omega⟩
  have HWR : Hid (IntKind.i64.wrap id = id) := Lib.hid (wrap64 (by omega) (by omega))
  obtain ⟨j, hj⟩ : ∃ j : Int, (k + 1) % 64 = j := ⟨_, rfl⟩
  have hj0 : 0 ≤ j := by rw [← hj]; exact Int.emod_nonneg _ (by decide)
  have hj1 : j < 64 := by rw [← hj]; exact Int.emod_lt_of_pos _ (by decide)
  have hjk : j ≠ k := by omega
  have hmod2 : Int.tmod (k + 1) 64 = j := by rw [Int.tmod_eq_emod_of_nonneg (by omega)]; exact hj
  have gk : IntKind.i64.wrap (k + 1) = k + 1 := wrap64 (by omega) (by omega)
  obtain ⟨I, hI⟩ : ∃ I, Bk.image k p = I := ⟨_, rfl⟩
  have HWI : Hid I.Wf := Lib.hid (hI ▸ Bk.image_wf hsk hp)
  have HIB : Hid (I.bytes = []) := Lib.hid (hI ▸ rfl)
  have HIL : Hid (Len (.slice none 0 0) I.bytes.length) := Lib.hid (by rw [HIB.out]; exact ⟨none, 0, rfl⟩)
  have HBI : Hid (Tryd.prog.built 30 [(0, .int .i64 1), (1, .int .i64 k), (2, .agg (u8s p).toArray)] = some (I.arr (.slice none 0 0))) := Lib.hid (hI ▸ built30i k hp.length)
  have HTI : Hid (told [I] = p) := Lib.hid (hI ▸ told_img hk0 hk1)
  have HCI : Hid (code [I] = 0) := Lib.hid (hI ▸ code_yes (chain_img hk0 hk1))
  obtain ⟨b1, b2, b3, b4, ⟨w1, w2, w3, w4⟩, s1, s2, s3, s4, s5⟩ := turn_to hb hsk (pv := 9) ⟨by decide, by decide⟩
  obtain ⟨c1, c2, c3, c4, ⟨x1, x2, x3, x4⟩, t1, t2, t3, t4, t5⟩ := turn_to hc hsk (pv := 1) ⟨by decide, by decide⟩
  have W1 := Lib.hid w1
  have W2 := Lib.hid w2
  have W3 := Lib.hid w3
  have W4 := Lib.hid w4
  have X1 := Lib.hid x1
  have X2 := Lib.hid x2
  have X3 := Lib.hid x3
  have X4 := Lib.hid x4
  have S1 := Lib.hid s1
  have S2 := Lib.hid s2
  have S3 := Lib.hid s3
  have S4 := Lib.hid s4
  have U1 := Lib.hid t1
  have U2 := Lib.hid t2
  have U3 := Lib.hid t3
  have U4 := Lib.hid t4
  have hmain : isChain [Bk.delta k b.off b.bytes 9, Bk.image k p] = true := by
    have hm := chain_more (h := Bk.image k p) (r := []) (off := b.off) (l := b.bytes) (pv := 9) (by decide) (by decide) (by decide) (chain_img hk0 hk1)
    rw [show (Bk.image k p).id = k from rfl] at hm
    rw [hm]
    simp
    exact ⟨hu ▸ hf1, by omega⟩
  obtain ⟨D, hD⟩ : ∃ D, Bk.delta k b.off b.bytes 9 = D := ⟨_, rfl⟩
  have HWD : Hid D.Wf := Lib.hid (hD ▸ Bk.delta_wf hsk hb.off ⟨by decide, by decide⟩ hb.bytes hb.bytess)
  have HDB : Hid (D.bytes = b.bytes) := Lib.hid (hD ▸ rfl)
  have HDO : Hid (D.off = u) := Lib.hid (by rw [← hD]; exact hu)
  have HLD : Hid (Len (.slice ba bn bc) D.bytes.length) := Lib.hid (by rw [HDB.out]; exact HLB.out)
  obtain ⟨F, hF⟩ : ∃ F, Bk.delta k c.off c.bytes 1 = F := ⟨_, rfl⟩
  have HWF : Hid F.Wf := Lib.hid (hF ▸ Bk.delta_wf hsk hc.off ⟨by decide, by decide⟩ hc.bytes hc.bytess)
  have HFB : Hid (F.bytes = c.bytes) := Lib.hid (hF ▸ rfl)
  have HLF : Hid (Len (.slice ca cn cc) F.bytes.length) := Lib.hid (by rw [HFB.out]; exact HLC.out)
  have S5 : Hid (∀ sv, (b4.cells sv).set 36 (.int .i64 9) = D.cells sv) := Lib.hid (hD ▸ s5)
  have U5 : Hid (∀ sv, (c4.cells sv).set 36 (.int .i64 1) = F.cells sv) := Lib.hid (hF ▸ t5)

  obtain ⟨p1, hp1⟩ : ∃ p1, layI p u b.bytes = p1 := ⟨_, rfl⟩
  have H1 : Hid (p1.length = 32) := Lib.hid (hp1 ▸ lay_size HPL.out u hf1)
  have HP1 := Lib.hid hp1
  have hto := told_more (h := Bk.image k p) (r := []) (o := u) (l := b.bytes) (pv := 9) (chain_img hk0 hk1) (hu ▸ hmain)
  rw [told_img hk0 hk1, hp1] at hto
  have HT : Hid (told [D, I] = p1) := Lib.hid (by rw [← hD, ← hI, hu]; exact hto)
  have HCD : Hid (code [D, I] = 0) := Lib.hid (by rw [← hD, ← hI]; exact code_yes hmain)
  clear hto
  have a3 : decide (16 < (cn : Int)) = true := decide_eq_true (by omega)
  have HF2 := Lib.hid hf2
  have HFO : Hid (F.off = c.off) := Lib.hid (by rw [← hF]; exact rfl)
  have hsec : isChain [Bk.delta k b.off b.bytes 9, Bk.delta k c.off c.bytes 1] = false := by
    rw [chain_two hk0 hk1]
    exact Bool.and_eq_false_iff.2 (.inr (decide_eq_false fun h => absurd h.2 (by omega)))
  have HT2 : Hid (told [D, F] = zeros 32) := Lib.hid (by rw [← hD, ← hF]; exact (told_no hsec).1)
  have HCD2 : Hid (code [D, F] = 11) := Lib.hid (by rw [← hD, ← hF]; exact (told_no hsec).2)
  clear hsec hf2 hl2
  have HMOD := Lib.hid hmod
  have HMOD2 := Lib.hid hmod2
  clear hmod hmod2 hev hbn hcn h1 h2 hf1 hl1 hk hid hid0 hid1 hI w1 w2 w3 w4 x1 x2 x3 x4 s1 s2 s3 s4 s5 t1 t2 t3 t4 t5 hmain hD hF hp hb hc hj hj0 hj1 hjk hk0 hk1 hsk hp1 hu
  go_enter Tryd.func5, Tryd.ntmps5
  go_upto_region 0 with fail
  refine wp_region_lit ?_
  refine box_g (cs := (u8s p).toArray) rfl rfl ?_
  intro w1 hA hb hl
  try simp only [Act.put, List.setIfInBounds_toArray, List.set_cons_succ, List.set_cons_zero]
  clear hl
  have HG2 : Hid (w.heap.size ≤ w.heap.size) := Lib.hid HBL.out.size
  have F3 := Lib.hid (HBL.out.trans (hb.mono HBL.out.size))
  have F4 := Lib.hid (HEV.out.below (Nat.le_refl _) hb)
  clear HBL HEV
  have F5 : Hid (Blk w1 w.heap.size (u8s p)) := Lib.hid hA
  clear hA hb
  refine box_g (cs := (b.cells (.slice ba bn bc) ++ c.cells (.slice ca cn cc)).toArray) rfl rfl ?_
  intro w6 hA hb hl
  try simp only [Act.put, List.setIfInBounds_toArray, List.set_cons_succ, List.set_cons_zero]
  clear hl
  have HN7 := Lib.hid (Nat.ne_of_lt F5.out.lt)
  have HG8 : Hid (w.heap.size ≤ w1.heap.size) := Lib.hid F3.out.size
  have F9 := Lib.hid (F3.out.trans (hb.mono F3.out.size))
  have F10 := Lib.hid (F4.out.below (Nat.le_refl _) hb)
  have F11 := Lib.hid (F5.out.below hb F5.out.lt)
  clear F3 F4 F5
  have F12 : Hid (Blk w6 w1.heap.size (b.cells (.slice ba bn bc) ++ c.cells (.slice ca cn cc))) := Lib.hid hA
  clear hA hb
  generalize w1.heap.size = g13 at *
  clear w1
  refine takeL (.bool false) rfl (by go_simp) ?_
  try simp only [Act.put, List.setIfInBounds_toArray, List.set_cons_succ, List.set_cons_zero]
  refine wpList_nil ?_
  go_upto_region 1 with fail
  refine wp_region_lit ?_
  try simp only [List.append_eq, List.cons_append, List.nil_append]
  refine takeL (.pointer (some ⟨g13, 0, none⟩)) rfl (by go_simp) ?_
  try simp only [Act.put, List.setIfInBounds_toArray, List.set_cons_succ, List.set_cons_zero]
  refine takeL (.pointer (some ⟨g13, 35, none⟩)) rfl (by go_simp) ?_
  try simp only [Act.put, List.setIfInBounds_toArray, List.set_cons_succ, List.set_cons_zero]
  refine takeL (.slice ba bn bc) rfl (by have hq := F12.out.cell (i := 35) (v := .slice ba bn bc) T35.out; go_simp) ?_
  try simp only [Act.put, List.setIfInBounds_toArray, List.set_cons_succ, List.set_cons_zero]
  refine takeL (.int .i64 bn) rfl (by go_simp) ?_
  try simp only [Act.put, List.setIfInBounds_toArray, List.set_cons_succ, List.set_cons_zero]
  refine takeL (.bool false) rfl (by go_simp) ?_
  try simp only [Act.put, List.setIfInBounds_toArray, List.set_cons_succ, List.set_cons_zero]
  refine takeL (.bool false) rfl (by go_simp) ?_
  try simp only [Act.put, List.setIfInBounds_toArray, List.set_cons_succ, List.set_cons_zero]
  refine takeL (.pointer (some ⟨g13, 45, none⟩)) rfl (by go_simp) ?_
  try simp only [Act.put, List.setIfInBounds_toArray, List.set_cons_succ, List.set_cons_zero]
  refine takeL (.pointer (some ⟨g13, 80, none⟩)) rfl (by go_simp) ?_
  try simp only [Act.put, List.setIfInBounds_toArray, List.set_cons_succ, List.set_cons_zero]
  refine takeL (.slice ca cn cc) rfl (by have hq := F12.out.cell (i := 80) (v := .slice ca cn cc) T80.out; go_simp) ?_
  try simp only [Act.put, List.setIfInBounds_toArray, List.set_cons_succ, List.set_cons_zero]
  refine takeL (.int .i64 cn) rfl (by go_simp) ?_
  try simp only [Act.put, List.setIfInBounds_toArray, List.set_cons_succ, List.set_cons_zero]
  refine takeL (.bool false) rfl (by go_simp) ?_
  try simp only [Act.put, List.setIfInBounds_toArray, List.set_cons_succ, List.set_cons_zero]
  refine takeL (.bool false) rfl (by go_simp) ?_
  try simp only [Act.put, List.setIfInBounds_toArray, List.set_cons_succ, List.set_cons_zero]
  refine wpList_nil ?_
  go_upto_region 3 with fail
  refine wp_region_lit ?_
  try simp only [List.append_eq, List.cons_append, List.nil_append]
  refine takeL (.int .u8 id) rfl (by go_simp) ?_
  try simp only [Act.put, List.setIfInBounds_toArray, List.set_cons_succ, List.set_cons_zero]
  refine takeL (.int .i64 id) rfl (by have hq := HWR.out; go_simp) ?_
  try simp only [Act.put, List.setIfInBounds_toArray, List.set_cons_succ, List.set_cons_zero]
  refine takeL (.int .i64 k) rfl (by have hq := HMOD.out; go_simp) ?_
  try simp only [Act.put, List.setIfInBounds_toArray, List.set_cons_succ, List.set_cons_zero]
  refine takeL (.int .i64 k) rfl (by go_simp) ?_
  try simp only [Act.put, List.setIfInBounds_toArray, List.set_cons_succ, List.set_cons_zero]
  refine wpList_nil ?_
  go_upto_region 4 with fail
  refine wp_region_lit ?_
  try simp only [List.append_eq, List.cons_append, List.nil_append]
  refine takeL (.int .i64 k) rfl (by go_simp) ?_
  try simp only [Act.put, List.setIfInBounds_toArray, List.set_cons_succ, List.set_cons_zero]
  refine load26 (cs := (u8s p).toArray) (Blk.all F11.out rfl) (by rw [u8s_size, HPL.out]) rfl rfl ?_
  try simp only [Act.put, List.setIfInBounds_toArray, List.set_cons_succ, List.set_cons_zero]
  refine takeL (.agg (I.arr (.slice none 0 0))) rfl (exec_build _ _ _ _ 30 _ rfl #[(0, .int .i64 1), (1, .int .i64 k), (2, .agg (u8s p).toArray)] (by simp [go_sem]) _ (run_build _ 30 _ _ HBI.out)) ?_
  try simp only [Act.put, List.setIfInBounds_toArray, List.set_cons_succ, List.set_cons_zero]
  refine alloc_g zero30b rfl ?_
  intro w14 hA hb hl
  try simp only [Act.put, List.setIfInBounds_toArray, List.set_cons_succ, List.set_cons_zero]
  clear hl
  refine store_all (cs := (I.arr (.slice none 0 0))) hA (same30 HNW.out HWI.out _ _) (info30s HWI.out _) (Bk.arr_one (slice_one HIL.out)) rfl rfl rfl ?_
  intro w15 hD hO hlD
  try simp only [Act.put, List.setIfInBounds_toArray, List.set_cons_succ, List.set_cons_zero]
  clear hlD hA
  have hbb : Below w6.heap.size w6 w15 := hb.trans (hO.below hb.size fun k hk => Nat.le_of_eq hk.symm)
  clear hb hO
  have HN16 := Lib.hid (Nat.ne_of_lt F11.out.lt)
  have HN17 := Lib.hid (Nat.ne_of_lt F12.out.lt)
  have HG18 : Hid (w.heap.size ≤ w6.heap.size) := Lib.hid F9.out.size
  have F19 := Lib.hid (F9.out.trans (hbb.mono F9.out.size))
  have F20 := Lib.hid (F10.out.below (Nat.le_refl _) hbb)
  have F21 := Lib.hid (F11.out.below hbb F11.out.lt)
  have F22 := Lib.hid (F12.out.below hbb F12.out.lt)
  clear F9 F10 F11 F12
  have F23 : Hid (Blk w15 w6.heap.size (I.cells (.slice none 0 0))) := Lib.hid hD
  clear hD hbb w14
  generalize w6.heap.size = g24 at *
  clear w6
  refine wpList_nil ?_
  go_upto_region 5 with fail
  refine wp_region_lit ?_
  try simp only [List.append_eq, List.cons_append, List.nil_append]
  refine load30 (cs := (I.arr (.slice none 0 0))) (Blk.all F23.out rfl) (I.arr_size HWI.out (.slice none 0 0)) rfl rfl ?_
  try simp only [Act.put, List.setIfInBounds_toArray, List.set_cons_succ, List.set_cons_zero]
  refine lit_L1 HWI.out (by rw [HIB.out]; exact BytesAt.nil _ _ _) rfl rfl ?_
  intro slw25 w25 hO hb
  try simp only [Act.put, List.setIfInBounds_toArray, List.set_cons_succ, List.set_cons_zero]
  have F26 := Lib.hid (F19.out.trans (hb.mono F19.out.size))
  have F27 := Lib.hid (F20.out.below (Nat.le_refl _) hb)
  have F28 := Lib.hid (F21.out.below hb F21.out.lt)
  have F29 := Lib.hid (F22.out.below hb F22.out.lt)
  have F30 := Lib.hid (F23.out.below hb F23.out.lt)
  clear F19 F20 F21 F22 F23
  have F31 := Lib.hid hO.blks
  clear hb hO
  refine wpList_op rfl fun K hK => ?_
  go_simp
  refine (page_to (m := [(I, Value.slice none 0 0)]) rfl HTI.out HCI.out _ _ F31.out F27.out).mono ?_
  rintro e w32 ⟨rfl, hb⟩
  have F33 := Lib.hid (F26.out.trans (hb.mono F26.out.size))
  have F34 := Lib.hid (F27.out.below (Nat.le_refl _) hb)
  have F35 := Lib.hid (F28.out.below hb F28.out.lt)
  have F36 := Lib.hid (F29.out.below hb F29.out.lt)
  have F37 := Lib.hid (F30.out.below hb F30.out.lt)
  clear F26 F27 F28 F29 F30
  clear hb
  refine hK _ _ ?_
  clear hK K
  try simp only [Act.put, List.setIfInBounds_toArray, List.set_cons_succ, List.set_cons_zero]
  refine takeL (.tuple #[.agg (u8s p).toArray, .int .i64 0]) rfl (by go_simp) ?_
  try simp only [Act.put, List.setIfInBounds_toArray, List.set_cons_succ, List.set_cons_zero]
  refine takeL (.agg (u8s p).toArray) rfl (by go_simp) ?_
  try simp only [Act.put, List.setIfInBounds_toArray, List.set_cons_succ, List.set_cons_zero]
  refine takeL (.int .i64 0) rfl (by go_simp) ?_
  try simp only [Act.put, List.setIfInBounds_toArray, List.set_cons_succ, List.set_cons_zero]
  refine alloc_g zero26 rfl ?_
  intro w38 hA hb hl
  try simp only [Act.put, List.setIfInBounds_toArray, List.set_cons_succ, List.set_cons_zero]
  clear hl
  refine store_all (cs := (u8s p).toArray) hA (by simp only [u8s_size, List.size_toArray, List.length_append, List.length_singleton, List.length_map, HPL.out, HZ32.out]) (by rw [u8s_size, HPL.out]; exact info26) (u8s_one _) rfl rfl rfl ?_
  intro w39 hD hO hlD
  try simp only [Act.put, List.setIfInBounds_toArray, List.set_cons_succ, List.set_cons_zero]
  clear hlD hA
  have hbb : Below w32.heap.size w32 w39 := hb.trans (hO.below hb.size fun k hk => Nat.le_of_eq hk.symm)
  clear hb hO
  have HN40 := Lib.hid (Nat.ne_of_lt F35.out.lt)
  have HN41 := Lib.hid (Nat.ne_of_lt F36.out.lt)
  have HN42 := Lib.hid (Nat.ne_of_lt F37.out.lt)
  have HG43 : Hid (w.heap.size ≤ w32.heap.size) := Lib.hid F33.out.size
  have F44 := Lib.hid (F33.out.trans (hbb.mono F33.out.size))
  have F45 := Lib.hid (F34.out.below (Nat.le_refl _) hbb)
  have F46 := Lib.hid (F35.out.below hbb F35.out.lt)
  have F47 := Lib.hid (F36.out.below hbb F36.out.lt)
  have F48 := Lib.hid (F37.out.below hbb F37.out.lt)
  clear F33 F34 F35 F36 F37
  have F49 : Hid (Blk w39 w32.heap.size (u8s p)) := Lib.hid hD
  clear hD hbb w38
  generalize w32.heap.size = g50 at *
  clear w32
  refine takeL (.int .i64 0) rfl (by go_simp) ?_
  try simp only [Act.put, List.setIfInBounds_toArray, List.set_cons_succ, List.set_cons_zero]
  refine wpList_nil ?_
  go_upto_region 6 with fail
  refine wp_region_lit ?_
  try simp only [List.append_eq, List.cons_append, List.nil_append]
  refine takeL (.int .i64 0) rfl (by go_simp) ?_
  try simp only [Act.put, List.setIfInBounds_toArray, List.set_cons_succ, List.set_cons_zero]
  refine takeL (.bool false) rfl (by go_simp) ?_
  try simp only [Act.put, List.setIfInBounds_toArray, List.set_cons_succ, List.set_cons_zero]
  refine takeL (.bool false) rfl (by go_simp) ?_
  try simp only [Act.put, List.setIfInBounds_toArray, List.set_cons_succ, List.set_cons_zero]
  refine load26 (cs := (u8s p).toArray) (Blk.all F49.out rfl) (by rw [u8s_size, HPL.out]) rfl rfl ?_
  try simp only [Act.put, List.setIfInBounds_toArray, List.set_cons_succ, List.set_cons_zero]
  refine load26 (cs := (u8s p).toArray) (Blk.all F46.out rfl) (by rw [u8s_size, HPL.out]) rfl rfl ?_
  try simp only [Act.put, List.setIfInBounds_toArray, List.set_cons_succ, List.set_cons_zero]
  refine takeL (.bool false) rfl (by exact exec_npage (by simp) HPL.out HPL.out _ _ _ rfl rfl rfl) ?_
  try simp only [Act.put, List.setIfInBounds_toArray, List.set_cons_succ, List.set_cons_zero]
  refine takeL (.bool false) rfl (by go_simp) ?_
  try simp only [Act.put, List.setIfInBounds_toArray, List.set_cons_succ, List.set_cons_zero]
  refine wpList_nil ?_
  clear F49
  have A0 := Lib.hid (pair_at0 F47.out HW.out)
  have A1 := Lib.hid (pair_at45 F47.out HW.out HWC.out)
  have HG4 := Lib.hid F47.out.lt
  go_upto_region 8 with fail
  go_cut [11, 12] from 11 to 62 (fun s11 s12 wx => ∃ g1 g2 : Nat, s11 = .pointer (some ⟨g1, 0, none⟩) ∧ s12 = .pointer (some ⟨g2, 0, none⟩) ∧ g1 ≠ g2 ∧ w39.heap.size ≤ g1 ∧ w39.heap.size ≤ g2 ∧ Blk wx g1 (b.cells (.slice ba bn bc)) ∧ Blk wx g2 (c.cells (.slice ca cn cc)) ∧ Below w39.heap.size w39 wx)
  case first =>
    refine startH (fun wq => Below w39.heap.size w39 wq) (by kernel_rfl) ?_
    have HS0 : Hid (Below w39.heap.size w39 w39.drew) := Lib.hid (Below.refl _ _).drew
    generalize w39.drew = wz at *
    refine takeH 0 (some 59) (.pointer (some ⟨g13, 0, none⟩)) rfl rfl (by kernel_rfl) (by kernel_rfl) (by kernel_rfl) (fun _ _ _ h => h) rfl (fun wq hS => by go_simp) HS0.out ?_
    try simp only [Act.put, List.setIfInBounds_toArray, List.set_cons_succ, List.set_cons_zero]
    refine takeH 1 (some 60) (.agg (b.arr (.slice ba bn bc))) rfl rfl (by kernel_rfl) (by kernel_rfl) (by kernel_rfl) (fun _ _ _ h => h) rfl (fun wq hS => by exact exec_load_at wq _ _ 30 _ rfl g13 0 rfl (b.arr (.slice ba bn bc)) _ Tryd.underlying30 rfl (info30s HW.out _) (A0.out.below hS HG4.out)) HS0.out ?_
    try simp only [Act.put, List.setIfInBounds_toArray, List.set_cons_succ, List.set_cons_zero]
    refine takeH 2 (some 61) (.pointer (some ⟨g13, 45, none⟩)) rfl rfl (by kernel_rfl) (by kernel_rfl) (by kernel_rfl) (fun _ _ _ h => h) rfl (fun wq hS => by go_simp) HS0.out ?_
    try simp only [Act.put, List.setIfInBounds_toArray, List.set_cons_succ, List.set_cons_zero]
    refine takeH 3 (some 62) (.agg (c.arr (.slice ca cn cc))) rfl rfl (by kernel_rfl) (by kernel_rfl) (by kernel_rfl) (fun _ _ _ h => h) rfl (fun wq hS => by exact exec_load_at wq _ _ 30 _ rfl g13 45 rfl (c.arr (.slice ca cn cc)) _ Tryd.underlying30 rfl (info30s HWC.out _) (A1.out.below hS HG4.out)) HS0.out ?_
    try simp only [Act.put, List.setIfInBounds_toArray, List.set_cons_succ, List.set_cons_zero]
    refine twoH 4 5 (by kernel_rfl) rfl rfl rfl rfl (fun K hK => ?_) (fun K hK => ?_)
    · refine wp_runTo (some 11) rfl _ _ (exec_alloc _ _ _ 30 rfl _ zero30b) ?_
      have hb : Below wz.heap.size wz (wz.alloc (.cells (Bk.none.arr (.slice none 0 0)) 30)) := (Below.refl _ _).alloc (Nat.le_refl _) _
      have hn : Blk (wz.alloc (.cells (Bk.none.arr (.slice none 0 0)) 30)) wz.heap.size (Bk.none.cells (.slice none 0 0)) := Blk.newAt 30 _ _ rfl rfl
      have hge : w39.heap.size ≤ wz.heap.size := HS0.out.size
      generalize wz.alloc (.cells (Bk.none.arr (.slice none 0 0)) 30) = wn1 at *
      have HSn1 := Lib.hid (stay HS0.out hb)
      have HV11 := Lib.hid hn
      have HGE11 := Lib.hid hge
      refine hK _ _ HSn1.out ?_
      clear hK K hb hn hge
      try simp only [Act.put, List.setIfInBounds_toArray, List.set_cons_succ, List.set_cons_zero]
      generalize wz.heap.size = g11 at *
      refine oneH 5 (by kernel_rfl) rfl rfl fun K hK => ?_
      refine wp_runTo (some 12) rfl _ _ (exec_alloc _ _ _ 30 rfl _ zero30b) ?_
      have hb : Below wn1.heap.size wn1 (wn1.alloc (.cells (Bk.none.arr (.slice none 0 0)) 30)) := (Below.refl _ _).alloc (Nat.le_refl _) _
      have hn : Blk (wn1.alloc (.cells (Bk.none.arr (.slice none 0 0)) 30)) wn1.heap.size (Bk.none.cells (.slice none 0 0)) := Blk.newAt 30 _ _ rfl rfl
      have hge : w39.heap.size ≤ wn1.heap.size := HSn1.out.size
      generalize wn1.alloc (.cells (Bk.none.arr (.slice none 0 0)) 30) = wn2 at *
      have HSn2 := Lib.hid (stay HSn1.out hb)
      have HV12 := Lib.hid hn
      have HGE12 := Lib.hid hge
      have HNE : Hid (g11 ≠ wn1.heap.size) := Lib.hid (Nat.ne_of_lt HV11.out.lt)
      have HV11b := Lib.hid (HV11.out.below hb HV11.out.lt)
      clear HV11
      have HV11 := HV11b
      clear HV11b
      refine hK _ _ HSn2.out ?_
      clear hK K hb hn hge
      try simp only [Act.put, List.setIfInBounds_toArray, List.set_cons_succ, List.set_cons_zero]
      generalize wn1.heap.size = g12 at *
      refine oneH 6 (by kernel_rfl) rfl rfl fun K hK => ?_
      refine store_W (cs := b.arr (.slice ba bn bc)) none rfl rfl HV11.out (same30 HNW.out HW.out _ _) (info30s HW.out _) (Bk.arr_one (slice_one HLB.out)) rfl rfl fun wy1 hD hO => ?_
      have HSy1 := Lib.hid (HSn2.out.trans (hO.below HSn2.out.size fun k hk => by rw [hk]; exact HGE11.out))
      have HD11 : Hid (Blk wy1 g11 (b.cells (.slice ba bn bc))) := Lib.hid hD
      have HD12 := Lib.hid (HV12.out.only hO (HNE.out.symm))
      refine hK _ _ HSy1.out ?_
      clear hK K hD hO
      try simp only [Act.put, List.setIfInBounds_toArray, List.set_cons_succ, List.set_cons_zero]
      refine oneH 7 (by kernel_rfl) rfl rfl fun K hK => ?_
      refine store_W (cs := c.arr (.slice ca cn cc)) none rfl rfl HD12.out (same30 HNW.out HWC.out _ _) (info30s HWC.out _) (Bk.arr_one (slice_one HLC.out)) rfl rfl fun wy2 hD hO => ?_
      have HSy2 := Lib.hid (HSy1.out.trans (hO.below HSy1.out.size fun k hk => by rw [hk]; exact HGE12.out))
      have HE12 : Hid (Blk wy2 g12 (c.cells (.slice ca cn cc))) := Lib.hid hD
      have HE11 := Lib.hid (HD11.out.only hO (HNE.out))
      refine hK _ _ HSy2.out ?_
      clear hK K hD hO
      try simp only [Act.put, List.setIfInBounds_toArray, List.set_cons_succ, List.set_cons_zero]
      refine wpAnyH_done (by kernel_rfl) ?_ _
      go_wp2_with fail
      go_meet
      exact ⟨g11, g12, rfl, rfl, HNE.out, HGE11.out, HGE12.out, HE11.out, HE12.out, HSy2.out⟩
    · refine wp_runTo (some 12) rfl _ _ (exec_alloc _ _ _ 30 rfl _ zero30b) ?_
      have hb : Below wz.heap.size wz (wz.alloc (.cells (Bk.none.arr (.slice none 0 0)) 30)) := (Below.refl _ _).alloc (Nat.le_refl _) _
      have hn : Blk (wz.alloc (.cells (Bk.none.arr (.slice none 0 0)) 30)) wz.heap.size (Bk.none.cells (.slice none 0 0)) := Blk.newAt 30 _ _ rfl rfl
      have hge : w39.heap.size ≤ wz.heap.size := HS0.out.size
      generalize wz.alloc (.cells (Bk.none.arr (.slice none 0 0)) 30) = wn1 at *
      have HSn1 := Lib.hid (stay HS0.out hb)
      have HV12 := Lib.hid hn
      have HGE12 := Lib.hid hge
      refine hK _ _ HSn1.out ?_
      clear hK K hb hn hge
      try simp only [Act.put, List.setIfInBounds_toArray, List.set_cons_succ, List.set_cons_zero]
      generalize wz.heap.size = g12 at *
      refine oneH 4 (by kernel_rfl) rfl rfl fun K hK => ?_
      refine wp_runTo (some 11) rfl _ _ (exec_alloc _ _ _ 30 rfl _ zero30b) ?_
      have hb : Below wn1.heap.size wn1 (wn1.alloc (.cells (Bk.none.arr (.slice none 0 0)) 30)) := (Below.refl _ _).alloc (Nat.le_refl _) _
      have hn : Blk (wn1.alloc (.cells (Bk.none.arr (.slice none 0 0)) 30)) wn1.heap.size (Bk.none.cells (.slice none 0 0)) := Blk.newAt 30 _ _ rfl rfl
      have hge : w39.heap.size ≤ wn1.heap.size := HSn1.out.size
      generalize wn1.alloc (.cells (Bk.none.arr (.slice none 0 0)) 30) = wn2 at *
      have HSn2 := Lib.hid (stay HSn1.out hb)
      have HV11 := Lib.hid hn
      have HGE11 := Lib.hid hge
      have HNE : Hid (g12 ≠ wn1.heap.size) := Lib.hid (Nat.ne_of_lt HV12.out.lt)
      have HV12b := Lib.hid (HV12.out.below hb HV12.out.lt)
      clear HV12
      have HV12 := HV12b
      clear HV12b
      refine hK _ _ HSn2.out ?_
      clear hK K hb hn hge
      try simp only [Act.put, List.setIfInBounds_toArray, List.set_cons_succ, List.set_cons_zero]
      generalize wn1.heap.size = g11 at *
      refine oneH 6 (by kernel_rfl) rfl rfl fun K hK => ?_
      refine store_W (cs := b.arr (.slice ba bn bc)) none rfl rfl HV11.out (same30 HNW.out HW.out _ _) (info30s HW.out _) (Bk.arr_one (slice_one HLB.out)) rfl rfl fun wy1 hD hO => ?_
      have HSy1 := Lib.hid (HSn2.out.trans (hO.below HSn2.out.size fun k hk => by rw [hk]; exact HGE11.out))
      have HD11 : Hid (Blk wy1 g11 (b.cells (.slice ba bn bc))) := Lib.hid hD
      have HD12 := Lib.hid (HV12.out.only hO (HNE.out))
      refine hK _ _ HSy1.out ?_
      clear hK K hD hO
      try simp only [Act.put, List.setIfInBounds_toArray, List.set_cons_succ, List.set_cons_zero]
      refine oneH 7 (by kernel_rfl) rfl rfl fun K hK => ?_
      refine store_W (cs := c.arr (.slice ca cn cc)) none rfl rfl HD12.out (same30 HNW.out HWC.out _ _) (info30s HWC.out _) (Bk.arr_one (slice_one HLC.out)) rfl rfl fun wy2 hD hO => ?_
      have HSy2 := Lib.hid (HSy1.out.trans (hO.below HSy1.out.size fun k hk => by rw [hk]; exact HGE12.out))
      have HE12 : Hid (Blk wy2 g12 (c.cells (.slice ca cn cc))) := Lib.hid hD
      have HE11 := Lib.hid (HD11.out.only hO (HNE.out.symm))
      refine hK _ _ HSy2.out ?_
      clear hK K hD hO
      try simp only [Act.put, List.setIfInBounds_toArray, List.set_cons_succ, List.set_cons_zero]
      refine wpAnyH_done (by kernel_rfl) ?_ _
      go_wp2_with fail
      go_meet
      exact ⟨g11, g12, rfl, rfl, HNE.out.symm, HGE11.out, HGE12.out, HE11.out, HE12.out, HSy2.out⟩
  case rest =>
    obtain ⟨g11, g12, rfl, rfl, hne, hg1, hg2, hD1, hD2, hb⟩ := hcut
    have NEG := Lib.hid hne
    have GE1 := Lib.hid (Nat.le_trans F44.out.size hg1)
    have GE2 := Lib.hid (Nat.le_trans F44.out.size hg2)
    have HN151 := Lib.hid (Nat.ne_of_lt (Nat.lt_of_lt_of_le F46.out.lt hg1))
    have HN152 := Lib.hid (Nat.ne_of_lt (Nat.lt_of_lt_of_le F46.out.lt hg2))
    have HN153 := Lib.hid (Nat.ne_of_lt (Nat.lt_of_lt_of_le F47.out.lt hg1))
    have HN154 := Lib.hid (Nat.ne_of_lt (Nat.lt_of_lt_of_le F47.out.lt hg2))
    have HN155 := Lib.hid (Nat.ne_of_lt (Nat.lt_of_lt_of_le F48.out.lt hg1))
    have HN156 := Lib.hid (Nat.ne_of_lt (Nat.lt_of_lt_of_le F48.out.lt hg2))
    have F157 := Lib.hid (F44.out.trans (hb.mono F44.out.size))
    have F158 := Lib.hid (F45.out.below (Nat.le_refl _) hb)
    have F159 := Lib.hid (F46.out.below hb F46.out.lt)
    have F160 := Lib.hid (F47.out.below hb F47.out.lt)
    have F161 := Lib.hid (F48.out.below hb F48.out.lt)
    clear F44 F45 F46 F47 F48
    have FG11 : Hid (Blk wc g11 (b.cells (.slice ba bn bc))) := Lib.hid hD1
    have FG12 : Hid (Blk wc g12 (c.cells (.slice ca cn cc))) := Lib.hid hD2
    clear hD1 hD2 hb hne hg1 hg2 A0 A1 HG4
    clear F160
    go_upto_region 9 with fail
    refine wp_region_lit ?_
    try simp only [List.append_eq, List.cons_append, List.nil_append]
    refine takeL (.int .i64 k) rfl (by go_simp) ?_
    try simp only [Act.put, List.setIfInBounds_toArray, List.set_cons_succ, List.set_cons_zero]
    refine build_g (build26 _) rfl ?_
    try simp only [Act.put, List.setIfInBounds_toArray, List.set_cons_succ, List.set_cons_zero]
    refine build_g (build28 _) rfl ?_
    try simp only [Act.put, List.setIfInBounds_toArray, List.set_cons_succ, List.set_cons_zero]
    refine takeL (.pointer (some ⟨g11, 0, none⟩)) rfl (by go_simp) ?_
    try simp only [Act.put, List.setIfInBounds_toArray, List.set_cons_succ, List.set_cons_zero]
    refine skipL (wc.setCell ⟨g11, 0, none⟩ (.int .i64 2)) rfl (by have hq := FG11.out.cell (i := 0) (v := .int .i64 b.kind) (b.at0 _); have hf := FG11.out.frozen 0; go_simp) ?_
    try simp only [Act.put, List.setIfInBounds_toArray, List.set_cons_succ, List.set_cons_zero]
    have hO : Only (fun k => k = g11) wc (wc.setCell ⟨g11, 0, none⟩ (.int .i64 2)) := (Only.refl (fun k => k = g11) wc).setCell (p := ⟨g11, 0, none⟩) (.inl rfl) _
    have hD := FG11.out.set 0 (.int .i64 2)
    generalize wc.setCell ⟨g11, 0, none⟩ (.int .i64 2) = w162 at *
    rw [S1.out] at hD
    have F163 := Lib.hid (F157.out.trans (hO.below F157.out.size (fun k hk => by rw [hk]; exact GE1.out)))
    have F164 := Lib.hid (F158.out.keep hO GE1.out HE0.out)
    have F165 := Lib.hid (F159.out.only hO (HN151.out))
    have F166 := Lib.hid (F161.out.only hO (HN155.out))
    have F167 := Lib.hid (FG12.out.only hO (NEG.out.symm))
    clear F157 F158 F159 F161 FG12 FG11
    have FG11' : Hid (Blk w162 g11 (b1.cells (.slice ba bn bc))) := Lib.hid hD
    clear hD hO
    refine takeL (.pointer (some ⟨g11, 1, none⟩)) rfl (by go_simp) ?_
    try simp only [Act.put, List.setIfInBounds_toArray, List.set_cons_succ, List.set_cons_zero]
    refine skipL (w162.setCell ⟨g11, 1, none⟩ (.int .i64 k)) rfl (by have hq := FG11'.out.cell (i := 1) (v := .int .i64 b1.id) (b1.at1 _); have hf := FG11'.out.frozen 1; go_simp) ?_
    try simp only [Act.put, List.setIfInBounds_toArray, List.set_cons_succ, List.set_cons_zero]
    have hO : Only (fun k => k = g11) w162 (w162.setCell ⟨g11, 1, none⟩ (.int .i64 k)) := (Only.refl (fun k => k = g11) w162).setCell (p := ⟨g11, 1, none⟩) (.inl rfl) _
    have hD := FG11'.out.set 1 (.int .i64 k)
    generalize w162.setCell ⟨g11, 1, none⟩ (.int .i64 k) = w168 at *
    rw [S2.out] at hD
    have F169 := Lib.hid (F163.out.trans (hO.below F163.out.size (fun k hk => by rw [hk]; exact GE1.out)))
    have F170 := Lib.hid (F164.out.keep hO GE1.out HE0.out)
    have F171 := Lib.hid (F165.out.only hO (HN151.out))
    have F172 := Lib.hid (F166.out.only hO (HN155.out))
    have F173 := Lib.hid (F167.out.only hO (NEG.out.symm))
    clear F163 F164 F165 F166 F167 FG11'
    have FG11'' : Hid (Blk w168 g11 (b2.cells (.slice ba bn bc))) := Lib.hid hD
    clear hD hO
    refine takeL (.pointer (some ⟨g11, 2, none⟩)) rfl (by go_simp) ?_
    try simp only [Act.put, List.setIfInBounds_toArray, List.set_cons_succ, List.set_cons_zero]
    refine store_g (cs := (u8s (zeros 32)).toArray) FG11''.out (by rw [u8s_size, HZ32.out]; exact info26) (by rw [b2.cells_length W2.out]; simp [zeros]) (u8s_one _) rfl rfl rfl ?_
    intro w174 hD hO hlD
    try simp only [Act.put, List.setIfInBounds_toArray, List.set_cons_succ, List.set_cons_zero]
    clear hlD
    rw [S3.out] at hD
    have F175 := Lib.hid (F169.out.trans (hO.below F169.out.size (fun k hk => by rw [hk]; exact GE1.out)))
    have F176 := Lib.hid (F170.out.keep hO GE1.out HE0.out)
    have F177 := Lib.hid (F171.out.only hO (HN151.out))
    have F178 := Lib.hid (F172.out.only hO (HN155.out))
    have F179 := Lib.hid (F173.out.only hO (NEG.out.symm))
    clear F169 F170 F171 F172 F173 FG11''
    have FG11''' : Hid (Blk w174 g11 (b3.cells (.slice ba bn bc))) := Lib.hid hD
    clear hD hO
    refine takeL (.pointer (some ⟨g11, 37, none⟩)) rfl (by go_simp) ?_
    try simp only [Act.put, List.setIfInBounds_toArray, List.set_cons_succ, List.set_cons_zero]
    refine store_g (cs := (i64s (zeros 8)).toArray) FG11'''.out info28w (by rw [b3.cells_length W3.out]; simp [zeros]) (i64s_one _) rfl rfl rfl ?_
    intro w180 hD hO hlD
    try simp only [Act.put, List.setIfInBounds_toArray, List.set_cons_succ, List.set_cons_zero]
    clear hlD
    rw [S4.out] at hD
    have F181 := Lib.hid (F175.out.trans (hO.below F175.out.size (fun k hk => by rw [hk]; exact GE1.out)))
    have F182 := Lib.hid (F176.out.keep hO GE1.out HE0.out)
    have F183 := Lib.hid (F177.out.only hO (HN151.out))
    have F184 := Lib.hid (F178.out.only hO (HN155.out))
    have F185 := Lib.hid (F179.out.only hO (NEG.out.symm))
    clear F175 F176 F177 F178 F179 FG11'''
    have FG11'''' : Hid (Blk w180 g11 (b4.cells (.slice ba bn bc))) := Lib.hid hD
    clear hD hO
    refine wpList_nil ?_
    go_upto_region 10 with fail
    refine wp_region_lit ?_
    try simp only [List.append_eq, List.cons_append, List.nil_append]
    refine takeL (.int .i64 k) rfl (by go_simp) ?_
    try simp only [Act.put, List.setIfInBounds_toArray, List.set_cons_succ, List.set_cons_zero]
    refine build_g (build26 _) rfl ?_
    try simp only [Act.put, List.setIfInBounds_toArray, List.set_cons_succ, List.set_cons_zero]
    refine build_g (build28 _) rfl ?_
    try simp only [Act.put, List.setIfInBounds_toArray, List.set_cons_succ, List.set_cons_zero]
    refine takeL (.pointer (some ⟨g12, 0, none⟩)) rfl (by go_simp) ?_
    try simp only [Act.put, List.setIfInBounds_toArray, List.set_cons_succ, List.set_cons_zero]
    refine skipL (w180.setCell ⟨g12, 0, none⟩ (.int .i64 2)) rfl (by have hq := F185.out.cell (i := 0) (v := .int .i64 c.kind) (c.at0 _); have hf := F185.out.frozen 0; go_simp) ?_
    try simp only [Act.put, List.setIfInBounds_toArray, List.set_cons_succ, List.set_cons_zero]
    have hO : Only (fun k => k = g12) w180 (w180.setCell ⟨g12, 0, none⟩ (.int .i64 2)) := (Only.refl (fun k => k = g12) w180).setCell (p := ⟨g12, 0, none⟩) (.inl rfl) _
    have hD := F185.out.set 0 (.int .i64 2)
    generalize w180.setCell ⟨g12, 0, none⟩ (.int .i64 2) = w186 at *
    rw [U1.out] at hD
    have F187 := Lib.hid (F181.out.trans (hO.below F181.out.size (fun k hk => by rw [hk]; exact GE2.out)))
    have F188 := Lib.hid (F182.out.keep hO GE2.out HE0.out)
    have F189 := Lib.hid (F183.out.only hO (HN152.out))
    have F190 := Lib.hid (F184.out.only hO (HN156.out))
    have F191 := Lib.hid (FG11''''.out.only hO (NEG.out))
    clear F181 F182 F183 F184 FG11'''' F185
    have FG12' : Hid (Blk w186 g12 (c1.cells (.slice ca cn cc))) := Lib.hid hD
    clear hD hO
    refine takeL (.pointer (some ⟨g12, 1, none⟩)) rfl (by go_simp) ?_
    try simp only [Act.put, List.setIfInBounds_toArray, List.set_cons_succ, List.set_cons_zero]
    refine skipL (w186.setCell ⟨g12, 1, none⟩ (.int .i64 k)) rfl (by have hq := FG12'.out.cell (i := 1) (v := .int .i64 c1.id) (c1.at1 _); have hf := FG12'.out.frozen 1; go_simp) ?_
    try simp only [Act.put, List.setIfInBounds_toArray, List.set_cons_succ, List.set_cons_zero]
    have hO : Only (fun k => k = g12) w186 (w186.setCell ⟨g12, 1, none⟩ (.int .i64 k)) := (Only.refl (fun k => k = g12) w186).setCell (p := ⟨g12, 1, none⟩) (.inl rfl) _
    have hD := FG12'.out.set 1 (.int .i64 k)
    generalize w186.setCell ⟨g12, 1, none⟩ (.int .i64 k) = w192 at *
    rw [U2.out] at hD
    have F193 := Lib.hid (F187.out.trans (hO.below F187.out.size (fun k hk => by rw [hk]; exact GE2.out)))
    have F194 := Lib.hid (F188.out.keep hO GE2.out HE0.out)
    have F195 := Lib.hid (F189.out.only hO (HN152.out))
    have F196 := Lib.hid (F190.out.only hO (HN156.out))
    have F197 := Lib.hid (F191.out.only hO (NEG.out))
    clear F187 F188 F189 F190 F191 FG12'
    have FG12'' : Hid (Blk w192 g12 (c2.cells (.slice ca cn cc))) := Lib.hid hD
    clear hD hO
    refine takeL (.pointer (some ⟨g12, 2, none⟩)) rfl (by go_simp) ?_
    try simp only [Act.put, List.setIfInBounds_toArray, List.set_cons_succ, List.set_cons_zero]
    refine store_g (cs := (u8s (zeros 32)).toArray) FG12''.out (by rw [u8s_size, HZ32.out]; exact info26) (by rw [c2.cells_length X2.out]; simp [zeros]) (u8s_one _) rfl rfl rfl ?_
    intro w198 hD hO hlD
    try simp only [Act.put, List.setIfInBounds_toArray, List.set_cons_succ, List.set_cons_zero]
    clear hlD
    rw [U3.out] at hD
    have F199 := Lib.hid (F193.out.trans (hO.below F193.out.size (fun k hk => by rw [hk]; exact GE2.out)))
    have F200 := Lib.hid (F194.out.keep hO GE2.out HE0.out)
    have F201 := Lib.hid (F195.out.only hO (HN152.out))
    have F202 := Lib.hid (F196.out.only hO (HN156.out))
    have F203 := Lib.hid (F197.out.only hO (NEG.out))
    clear F193 F194 F195 F196 F197 FG12''
    have FG12''' : Hid (Blk w198 g12 (c3.cells (.slice ca cn cc))) := Lib.hid hD
    clear hD hO
    refine takeL (.pointer (some ⟨g12, 37, none⟩)) rfl (by go_simp) ?_
    try simp only [Act.put, List.setIfInBounds_toArray, List.set_cons_succ, List.set_cons_zero]
    refine store_g (cs := (i64s (zeros 8)).toArray) FG12'''.out info28w (by rw [c3.cells_length X3.out]; simp [zeros]) (i64s_one _) rfl rfl rfl ?_
    intro w204 hD hO hlD
    try simp only [Act.put, List.setIfInBounds_toArray, List.set_cons_succ, List.set_cons_zero]
    clear hlD
    rw [U4.out] at hD
    have F205 := Lib.hid (F199.out.trans (hO.below F199.out.size (fun k hk => by rw [hk]; exact GE2.out)))
    have F206 := Lib.hid (F200.out.keep hO GE2.out HE0.out)
    have F207 := Lib.hid (F201.out.only hO (HN152.out))
    have F208 := Lib.hid (F202.out.only hO (HN156.out))
    have F209 := Lib.hid (F203.out.only hO (NEG.out))
    clear F199 F200 F201 F202 F203 FG12'''
    have FG12'''' : Hid (Blk w204 g12 (c4.cells (.slice ca cn cc))) := Lib.hid hD
    clear hD hO
    refine wpList_nil ?_
    go_upto_region 11 with fail
    refine wp_region_lit ?_
    try simp only [List.append_eq, List.cons_append, List.nil_append]
    refine takeL (.pointer (some ⟨g11, 36, none⟩)) rfl (by go_simp) ?_
    try simp only [Act.put, List.setIfInBounds_toArray, List.set_cons_succ, List.set_cons_zero]
    refine skipL (w204.setCell ⟨g11, 36, none⟩ (.int .i64 9)) rfl (by have hq := F209.out.cell (i := 36) (v := .int .i64 b4.prev) (b4.at36 W4.out _); have hf := F209.out.frozen 36; go_simp) ?_
    try simp only [Act.put, List.setIfInBounds_toArray, List.set_cons_succ, List.set_cons_zero]
    have hO : Only (fun k => k = g11) w204 (w204.setCell ⟨g11, 36, none⟩ (.int .i64 9)) := (Only.refl (fun k => k = g11) w204).setCell (p := ⟨g11, 36, none⟩) (.inl rfl) _
    have hD := F209.out.set 36 (.int .i64 9)
    generalize w204.setCell ⟨g11, 36, none⟩ (.int .i64 9) = w210 at *
    rw [S5.out] at hD
    have F211 := Lib.hid (F205.out.trans (hO.below F205.out.size (fun k hk => by rw [hk]; exact GE1.out)))
    have F212 := Lib.hid (F206.out.keep hO GE1.out HE0.out)
    have F213 := Lib.hid (F207.out.only hO (HN151.out))
    have F214 := Lib.hid (F208.out.only hO (HN155.out))
    have F215 := Lib.hid (FG12''''.out.only hO (NEG.out.symm))
    clear F205 F206 F207 F208 FG12'''' F209
    have FG11''''' : Hid (Blk w210 g11 (D.cells (.slice ba bn bc))) := Lib.hid hD
    clear hD hO
    refine takeL (.pointer (some ⟨g12, 36, none⟩)) rfl (by go_simp) ?_
    try simp only [Act.put, List.setIfInBounds_toArray, List.set_cons_succ, List.set_cons_zero]
    refine skipL (w210.setCell ⟨g12, 36, none⟩ (.int .i64 1)) rfl (by have hq := F215.out.cell (i := 36) (v := .int .i64 c4.prev) (c4.at36 X4.out _); have hf := F215.out.frozen 36; go_simp) ?_
    try simp only [Act.put, List.setIfInBounds_toArray, List.set_cons_succ, List.set_cons_zero]
    have hO : Only (fun k => k = g12) w210 (w210.setCell ⟨g12, 36, none⟩ (.int .i64 1)) := (Only.refl (fun k => k = g12) w210).setCell (p := ⟨g12, 36, none⟩) (.inl rfl) _
    have hD := F215.out.set 36 (.int .i64 1)
    generalize w210.setCell ⟨g12, 36, none⟩ (.int .i64 1) = w216 at *
    rw [U5.out] at hD
    have F217 := Lib.hid (F211.out.trans (hO.below F211.out.size (fun k hk => by rw [hk]; exact GE2.out)))
    have F218 := Lib.hid (F212.out.keep hO GE2.out HE0.out)
    have F219 := Lib.hid (F213.out.only hO (HN152.out))
    have F220 := Lib.hid (F214.out.only hO (HN156.out))
    have F221 := Lib.hid (FG11'''''.out.only hO (NEG.out))
    clear F211 F212 F213 F214 FG11''''' F215
    have FG12''''' : Hid (Blk w216 g12 (F.cells (.slice ca cn cc))) := Lib.hid hD
    clear hD hO
    refine wpList_nil ?_
    go_upto_region 12 with fail
    refine wp_region_lit ?_
    try simp only [List.append_eq, List.cons_append, List.nil_append]
    refine load30 (cs := (D.arr (.slice ba bn bc))) (Blk.all F221.out rfl) (D.arr_size HWD.out (.slice ba bn bc)) rfl rfl ?_
    try simp only [Act.put, List.setIfInBounds_toArray, List.set_cons_succ, List.set_cons_zero]
    refine load30 (cs := (I.arr (.slice none 0 0))) (Blk.all F220.out rfl) (I.arr_size HWI.out (.slice none 0 0)) rfl rfl ?_
    try simp only [Act.put, List.setIfInBounds_toArray, List.set_cons_succ, List.set_cons_zero]
    refine lit_L2 HWD.out HWI.out (by rw [HDB.out]; exact (HBV.out.below F217.out)) (by rw [HIB.out]; exact BytesAt.nil _ _ _) rfl rfl rfl ?_
    intro slw222 w222 hO hb
    try simp only [Act.put, List.setIfInBounds_toArray, List.set_cons_succ, List.set_cons_zero]
    have F223 := Lib.hid (F217.out.trans (hb.mono F217.out.size))
    have F224 := Lib.hid (F218.out.below (Nat.le_refl _) hb)
    have F225 := Lib.hid (F219.out.below hb F219.out.lt)
    have F226 := Lib.hid (F220.out.below hb F220.out.lt)
    have F227 := Lib.hid (F221.out.below hb F221.out.lt)
    have F228 := Lib.hid (FG12'''''.out.below hb FG12'''''.out.lt)
    clear F217 F218 F219 F220 F221 FG12'''''
    have F229 := Lib.hid hO.blks
    clear hb hO
    refine wpList_op rfl fun K hK => ?_
    go_simp
    refine (page_to (m := [(D, Value.slice ba bn bc), (I, Value.slice none 0 0)]) rfl HT.out HCD.out _ _ F229.out F224.out).mono ?_
    rintro e w230 ⟨rfl, hb⟩
    have F231 := Lib.hid (F223.out.trans (hb.mono F223.out.size))
    have F232 := Lib.hid (F224.out.below (Nat.le_refl _) hb)
    have F233 := Lib.hid (F225.out.below hb F225.out.lt)
    have F234 := Lib.hid (F226.out.below hb F226.out.lt)
    have F235 := Lib.hid (F227.out.below hb F227.out.lt)
    have F236 := Lib.hid (F228.out.below hb F228.out.lt)
    clear F223 F224 F225 F226 F227 F228
    clear hb
    refine hK _ _ ?_
    clear hK K
    try simp only [Act.put, List.setIfInBounds_toArray, List.set_cons_succ, List.set_cons_zero]
    refine takeL (.tuple #[.agg (u8s p1).toArray, .int .i64 0]) rfl (by go_simp) ?_
    try simp only [Act.put, List.setIfInBounds_toArray, List.set_cons_succ, List.set_cons_zero]
    refine takeL (.agg (u8s p1).toArray) rfl (by go_simp) ?_
    try simp only [Act.put, List.setIfInBounds_toArray, List.set_cons_succ, List.set_cons_zero]
    refine takeL (.int .i64 0) rfl (by go_simp) ?_
    try simp only [Act.put, List.setIfInBounds_toArray, List.set_cons_succ, List.set_cons_zero]
    refine alloc_g zero26 rfl ?_
    intro w237 hA hb hl
    try simp only [Act.put, List.setIfInBounds_toArray, List.set_cons_succ, List.set_cons_zero]
    clear hl
    refine store_all (cs := (u8s p1).toArray) hA (by simp only [u8s_size, List.size_toArray, List.length_append, List.length_singleton, List.length_map, H1.out, HZ32.out]) (by rw [u8s_size, H1.out]; exact info26) (u8s_one _) rfl rfl rfl ?_
    intro w238 hD hO hlD
    try simp only [Act.put, List.setIfInBounds_toArray, List.set_cons_succ, List.set_cons_zero]
    clear hlD hA
    have hbb : Below w230.heap.size w230 w238 := hb.trans (hO.below hb.size fun k hk => Nat.le_of_eq hk.symm)
    clear hb hO
    have HN239 := Lib.hid (Nat.ne_of_lt F233.out.lt)
    have HN240 := Lib.hid (Nat.ne_of_lt F234.out.lt)
    have HN241 := Lib.hid (Nat.ne_of_lt F235.out.lt)
    have HN242 := Lib.hid (Nat.ne_of_lt F236.out.lt)
    have HG243 : Hid (w.heap.size ≤ w230.heap.size) := Lib.hid F231.out.size
    have F244 := Lib.hid (F231.out.trans (hbb.mono F231.out.size))
    have F245 := Lib.hid (F232.out.below (Nat.le_refl _) hbb)
    have F246 := Lib.hid (F233.out.below hbb F233.out.lt)
    have F247 := Lib.hid (F234.out.below hbb F234.out.lt)
    have F248 := Lib.hid (F235.out.below hbb F235.out.lt)
    have F249 := Lib.hid (F236.out.below hbb F236.out.lt)
    clear F231 F232 F233 F234 F235 F236
    have F250 : Hid (Blk w238 w230.heap.size (u8s p1)) := Lib.hid hD
    clear hD hbb w237
    generalize w230.heap.size = g251 at *
    clear w230
    refine takeL (.int .i64 0) rfl (by go_simp) ?_
    try simp only [Act.put, List.setIfInBounds_toArray, List.set_cons_succ, List.set_cons_zero]
    refine wpList_nil ?_
    go_upto_region 13 with fail
    refine wp_region_lit ?_
    try simp only [List.append_eq, List.cons_append, List.nil_append]
    refine load26 (cs := (u8s p).toArray) (Blk.all F246.out rfl) (by rw [u8s_size, HPL.out]) rfl rfl ?_
    try simp only [Act.put, List.setIfInBounds_toArray, List.set_cons_succ, List.set_cons_zero]
    refine takeL (.pointer (some ⟨g11, 34, none⟩)) rfl (by go_simp) ?_
    try simp only [Act.put, List.setIfInBounds_toArray, List.set_cons_succ, List.set_cons_zero]
    refine takeL (.int .i64 u) rfl (by have hq := F248.out.cell (i := 34) (v := .int .i64 D.off) (D.at34 HWD.out _); rw [HDO.out] at hq; go_simp) ?_
    try simp only [Act.put, List.setIfInBounds_toArray, List.set_cons_succ, List.set_cons_zero]
    refine takeL (.pointer (some ⟨g11, 35, none⟩)) rfl (by go_simp) ?_
    try simp only [Act.put, List.setIfInBounds_toArray, List.set_cons_succ, List.set_cons_zero]
    refine takeL ((.slice ba bn bc)) rfl (by have hq := F248.out.cell (i := 35) (v := (.slice ba bn bc)) (D.at35 HWD.out _); go_simp) ?_
    try simp only [Act.put, List.setIfInBounds_toArray, List.set_cons_succ, List.set_cons_zero]
    refine wpList_op rfl fun K hK => ?_
    go_simp
    refine (HP1.out ▸ apply_yes p b.bytes HPL.out u _ HX1.out HF1.out _ (HBV.out.below F244.out) F245.out).mono ?_
    rintro e w252 ⟨rfl, hb⟩
    have F253 := Lib.hid (F244.out.trans (hb.mono F244.out.size))
    have F254 := Lib.hid (F245.out.below (Nat.le_refl _) hb)
    have F255 := Lib.hid (F246.out.below hb F246.out.lt)
    have F256 := Lib.hid (F247.out.below hb F247.out.lt)
    have F257 := Lib.hid (F248.out.below hb F248.out.lt)
    have F258 := Lib.hid (F249.out.below hb F249.out.lt)
    have F259 := Lib.hid (F250.out.below hb F250.out.lt)
    clear F244 F245 F246 F247 F248 F249 F250
    clear hb
    refine hK _ _ ?_
    clear hK K
    try simp only [Act.put, List.setIfInBounds_toArray, List.set_cons_succ, List.set_cons_zero]
    refine takeL (.tuple #[.agg (u8s p1).toArray, .int .i64 0]) rfl (by go_simp) ?_
    try simp only [Act.put, List.setIfInBounds_toArray, List.set_cons_succ, List.set_cons_zero]
    refine takeL (.agg (u8s p1).toArray) rfl (by go_simp) ?_
    try simp only [Act.put, List.setIfInBounds_toArray, List.set_cons_succ, List.set_cons_zero]
    refine takeL (.int .i64 0) rfl (by go_simp) ?_
    try simp only [Act.put, List.setIfInBounds_toArray, List.set_cons_succ, List.set_cons_zero]
    refine alloc_g zero26 rfl ?_
    intro w260 hA hb hl
    try simp only [Act.put, List.setIfInBounds_toArray, List.set_cons_succ, List.set_cons_zero]
    clear hl
    refine store_all (cs := (u8s p1).toArray) hA (by simp only [u8s_size, List.size_toArray, List.length_append, List.length_singleton, List.length_map, H1.out, HZ32.out]) (by rw [u8s_size, H1.out]; exact info26) (u8s_one _) rfl rfl rfl ?_
    intro w261 hD hO hlD
    try simp only [Act.put, List.setIfInBounds_toArray, List.set_cons_succ, List.set_cons_zero]
    clear hlD hA
    have hbb : Below w252.heap.size w252 w261 := hb.trans (hO.below hb.size fun k hk => Nat.le_of_eq hk.symm)
    clear hb hO
    have HN262 := Lib.hid (Nat.ne_of_lt F255.out.lt)
    have HN263 := Lib.hid (Nat.ne_of_lt F256.out.lt)
    have HN264 := Lib.hid (Nat.ne_of_lt F257.out.lt)
    have HN265 := Lib.hid (Nat.ne_of_lt F258.out.lt)
    have HN266 := Lib.hid (Nat.ne_of_lt F259.out.lt)
    have HG267 : Hid (w.heap.size ≤ w252.heap.size) := Lib.hid F253.out.size
    have F268 := Lib.hid (F253.out.trans (hbb.mono F253.out.size))
    have F269 := Lib.hid (F254.out.below (Nat.le_refl _) hbb)
    have F270 := Lib.hid (F255.out.below hbb F255.out.lt)
    have F271 := Lib.hid (F256.out.below hbb F256.out.lt)
    have F272 := Lib.hid (F257.out.below hbb F257.out.lt)
    have F273 := Lib.hid (F258.out.below hbb F258.out.lt)
    have F274 := Lib.hid (F259.out.below hbb F259.out.lt)
    clear F253 F254 F255 F256 F257 F258 F259
    have F275 : Hid (Blk w261 w252.heap.size (u8s p1)) := Lib.hid hD
    clear hD hbb w260
    generalize w252.heap.size = g276 at *
    clear w252
    refine takeL (.int .i64 0) rfl (by go_simp) ?_
    try simp only [Act.put, List.setIfInBounds_toArray, List.set_cons_succ, List.set_cons_zero]
    refine wpList_nil ?_
    go_upto_region 14 with fail
    refine wp_region_lit ?_
    try simp only [List.append_eq, List.cons_append, List.nil_append]
    refine takeL (.pointer (some ⟨g11, 35, none⟩)) rfl (by go_simp) ?_
    try simp only [Act.put, List.setIfInBounds_toArray, List.set_cons_succ, List.set_cons_zero]
    refine takeL ((.slice ba bn bc)) rfl (by have hq := F272.out.cell (i := 35) (v := (.slice ba bn bc)) (D.at35 HWD.out _); go_simp) ?_
    try simp only [Act.put, List.setIfInBounds_toArray, List.set_cons_succ, List.set_cons_zero]
    refine takeL (.int .i64 bn) rfl (by go_simp) ?_
    try simp only [Act.put, List.setIfInBounds_toArray, List.set_cons_succ, List.set_cons_zero]
    refine takeL (.bool false) rfl (by go_simp) ?_
    try simp only [Act.put, List.setIfInBounds_toArray, List.set_cons_succ, List.set_cons_zero]
    refine takeL (.bool false) rfl (by go_simp) ?_
    try simp only [Act.put, List.setIfInBounds_toArray, List.set_cons_succ, List.set_cons_zero]
    refine takeL (.int .i64 0) rfl (by go_simp) ?_
    try simp only [Act.put, List.setIfInBounds_toArray, List.set_cons_succ, List.set_cons_zero]
    refine takeL (.bool false) rfl (by go_simp) ?_
    try simp only [Act.put, List.setIfInBounds_toArray, List.set_cons_succ, List.set_cons_zero]
    refine takeL (.bool false) rfl (by go_simp) ?_
    try simp only [Act.put, List.setIfInBounds_toArray, List.set_cons_succ, List.set_cons_zero]
    refine wpList_nil ?_
    go_upto_region 16 with fail
    refine wp_region_lit ?_
    try simp only [List.append_eq, List.cons_append, List.nil_append]
    refine takeL (.int .i64 0) rfl (by go_simp) ?_
    try simp only [Act.put, List.setIfInBounds_toArray, List.set_cons_succ, List.set_cons_zero]
    refine takeL (.bool false) rfl (by go_simp) ?_
    try simp only [Act.put, List.setIfInBounds_toArray, List.set_cons_succ, List.set_cons_zero]
    refine takeL (.bool false) rfl (by go_simp) ?_
    try simp only [Act.put, List.setIfInBounds_toArray, List.set_cons_succ, List.set_cons_zero]
    refine load26 (cs := (u8s p1).toArray) (Blk.all F274.out rfl) (by rw [u8s_size, H1.out]) rfl rfl ?_
    try simp only [Act.put, List.setIfInBounds_toArray, List.set_cons_succ, List.set_cons_zero]
    refine load26 (cs := (u8s p1).toArray) (Blk.all F275.out rfl) (by rw [u8s_size, H1.out]) rfl rfl ?_
    try simp only [Act.put, List.setIfInBounds_toArray, List.set_cons_succ, List.set_cons_zero]
    refine takeL (.bool false) rfl (by exact exec_npage (by simp) H1.out H1.out _ _ _ rfl rfl rfl) ?_
    try simp only [Act.put, List.setIfInBounds_toArray, List.set_cons_succ, List.set_cons_zero]
    refine takeL (.bool false) rfl (by go_simp) ?_
    try simp only [Act.put, List.setIfInBounds_toArray, List.set_cons_succ, List.set_cons_zero]
    refine wpList_nil ?_
    clear F274
    clear F275
    go_upto_region 18 with fail
    refine wp_region_lit ?_
    try simp only [List.append_eq, List.cons_append, List.nil_append]
    refine build_g (build26 _) rfl ?_
    try simp only [Act.put, List.setIfInBounds_toArray, List.set_cons_succ, List.set_cons_zero]
    refine takeL (.pointer (some ⟨g12, 34, none⟩)) rfl (by go_simp) ?_
    try simp only [Act.put, List.setIfInBounds_toArray, List.set_cons_succ, List.set_cons_zero]
    refine takeL (.int .i64 c.off) rfl (by have hq := F273.out.cell (i := 34) (v := .int .i64 F.off) (F.at34 HWF.out _); rw [HFO.out] at hq; go_simp) ?_
    try simp only [Act.put, List.setIfInBounds_toArray, List.set_cons_succ, List.set_cons_zero]
    refine takeL (.pointer (some ⟨g12, 35, none⟩)) rfl (by go_simp) ?_
    try simp only [Act.put, List.setIfInBounds_toArray, List.set_cons_succ, List.set_cons_zero]
    refine takeL ((.slice ca cn cc)) rfl (by have hq := F273.out.cell (i := 35) (v := (.slice ca cn cc)) (F.at35 HWF.out _); go_simp) ?_
    try simp only [Act.put, List.setIfInBounds_toArray, List.set_cons_succ, List.set_cons_zero]
    refine wpList_op rfl fun K hK => ?_
    go_simp
    refine (apply_no (zeros 32) c.bytes HZ32.out c.off _ HX2.out HF2.out _ (HCV.out.below F268.out) F269.out).mono ?_
    rintro e w277 ⟨rfl, hb⟩
    have F278 := Lib.hid (F268.out.trans (hb.mono F268.out.size))
    have F279 := Lib.hid (F269.out.below (Nat.le_refl _) hb)
    have F280 := Lib.hid (F270.out.below hb F270.out.lt)
    have F281 := Lib.hid (F271.out.below hb F271.out.lt)
    have F282 := Lib.hid (F272.out.below hb F272.out.lt)
    have F283 := Lib.hid (F273.out.below hb F273.out.lt)
    clear F268 F269 F270 F271 F272 F273
    clear hb
    refine hK _ _ ?_
    clear hK K
    try simp only [Act.put, List.setIfInBounds_toArray, List.set_cons_succ, List.set_cons_zero]
    refine takeL (.tuple #[.agg (u8s (zeros 32)).toArray, .int .i64 1]) rfl (by go_simp) ?_
    try simp only [Act.put, List.setIfInBounds_toArray, List.set_cons_succ, List.set_cons_zero]
    refine takeL (.agg (u8s (zeros 32)).toArray) rfl (by go_simp) ?_
    try simp only [Act.put, List.setIfInBounds_toArray, List.set_cons_succ, List.set_cons_zero]
    refine takeL (.int .i64 1) rfl (by go_simp) ?_
    try simp only [Act.put, List.setIfInBounds_toArray, List.set_cons_succ, List.set_cons_zero]
    refine alloc_g zero26 rfl ?_
    intro w284 hA hb hl
    try simp only [Act.put, List.setIfInBounds_toArray, List.set_cons_succ, List.set_cons_zero]
    clear hl
    refine store_all (cs := (u8s (zeros 32)).toArray) hA (by simp only [u8s_size, List.size_toArray, List.length_append, List.length_singleton, List.length_map, HZ32.out]) (by rw [u8s_size, HZ32.out]; exact info26) (u8s_one _) rfl rfl rfl ?_
    intro w285 hD hO hlD
    try simp only [Act.put, List.setIfInBounds_toArray, List.set_cons_succ, List.set_cons_zero]
    clear hlD hA
    have hbb : Below w277.heap.size w277 w285 := hb.trans (hO.below hb.size fun k hk => Nat.le_of_eq hk.symm)
    clear hb hO
    have HN286 := Lib.hid (Nat.ne_of_lt F280.out.lt)
    have HN287 := Lib.hid (Nat.ne_of_lt F281.out.lt)
    have HN288 := Lib.hid (Nat.ne_of_lt F282.out.lt)
    have HN289 := Lib.hid (Nat.ne_of_lt F283.out.lt)
    have HG290 : Hid (w.heap.size ≤ w277.heap.size) := Lib.hid F278.out.size
    have F291 := Lib.hid (F278.out.trans (hbb.mono F278.out.size))
    have F292 := Lib.hid (F279.out.below (Nat.le_refl _) hbb)
    have F293 := Lib.hid (F280.out.below hbb F280.out.lt)
    have F294 := Lib.hid (F281.out.below hbb F281.out.lt)
    have F295 := Lib.hid (F282.out.below hbb F282.out.lt)
    have F296 := Lib.hid (F283.out.below hbb F283.out.lt)
    clear F278 F279 F280 F281 F282 F283
    have F297 : Hid (Blk w285 w277.heap.size (u8s (zeros 32))) := Lib.hid hD
    clear hD hbb w284
    generalize w277.heap.size = g298 at *
    clear w277
    refine takeL (.int .i64 1) rfl (by go_simp) ?_
    try simp only [Act.put, List.setIfInBounds_toArray, List.set_cons_succ, List.set_cons_zero]
    refine wpList_nil ?_
    go_upto_region 19 with fail
    refine wp_region_lit ?_
    try simp only [List.append_eq, List.cons_append, List.nil_append]
    refine load30 (cs := (D.arr (.slice ba bn bc))) (Blk.all F295.out rfl) (D.arr_size HWD.out (.slice ba bn bc)) rfl rfl ?_
    try simp only [Act.put, List.setIfInBounds_toArray, List.set_cons_succ, List.set_cons_zero]
    refine load30 (cs := (F.arr (.slice ca cn cc))) (Blk.all F296.out rfl) (F.arr_size HWF.out (.slice ca cn cc)) rfl rfl ?_
    try simp only [Act.put, List.setIfInBounds_toArray, List.set_cons_succ, List.set_cons_zero]
    refine lit_L2 HWD.out HWF.out (by rw [HDB.out]; exact (HBV.out.below F291.out)) (by rw [HFB.out]; exact (HCV.out.below F291.out)) rfl rfl rfl ?_
    intro slw299 w299 hO hb
    try simp only [Act.put, List.setIfInBounds_toArray, List.set_cons_succ, List.set_cons_zero]
    have F300 := Lib.hid (F291.out.trans (hb.mono F291.out.size))
    have F301 := Lib.hid (F292.out.below (Nat.le_refl _) hb)
    have F302 := Lib.hid (F293.out.below hb F293.out.lt)
    have F303 := Lib.hid (F294.out.below hb F294.out.lt)
    have F304 := Lib.hid (F295.out.below hb F295.out.lt)
    have F305 := Lib.hid (F296.out.below hb F296.out.lt)
    have F306 := Lib.hid (F297.out.below hb F297.out.lt)
    clear F291 F292 F293 F294 F295 F296 F297
    have F307 := Lib.hid hO.blks
    clear hb hO
    refine wpList_op rfl fun K hK => ?_
    go_simp
    refine (page_to (m := [(D, Value.slice ba bn bc), (F, Value.slice ca cn cc)]) rfl HT2.out HCD2.out _ _ F307.out F301.out).mono ?_
    rintro e w308 ⟨rfl, hb⟩
    have F309 := Lib.hid (F300.out.trans (hb.mono F300.out.size))
    have F310 := Lib.hid (F301.out.below (Nat.le_refl _) hb)
    have F311 := Lib.hid (F302.out.below hb F302.out.lt)
    have F312 := Lib.hid (F303.out.below hb F303.out.lt)
    have F313 := Lib.hid (F304.out.below hb F304.out.lt)
    have F314 := Lib.hid (F305.out.below hb F305.out.lt)
    have F315 := Lib.hid (F306.out.below hb F306.out.lt)
    clear F300 F301 F302 F303 F304 F305 F306
    clear hb
    refine hK _ _ ?_
    clear hK K
    try simp only [Act.put, List.setIfInBounds_toArray, List.set_cons_succ, List.set_cons_zero]
    refine takeL (.tuple #[.agg (u8s (zeros 32)).toArray, .int .i64 11]) rfl (by go_simp) ?_
    try simp only [Act.put, List.setIfInBounds_toArray, List.set_cons_succ, List.set_cons_zero]
    refine takeL (.agg (u8s (zeros 32)).toArray) rfl (by go_simp) ?_
    try simp only [Act.put, List.setIfInBounds_toArray, List.set_cons_succ, List.set_cons_zero]
    refine takeL (.int .i64 11) rfl (by go_simp) ?_
    try simp only [Act.put, List.setIfInBounds_toArray, List.set_cons_succ, List.set_cons_zero]
    refine alloc_g zero26 rfl ?_
    intro w316 hA hb hl
    try simp only [Act.put, List.setIfInBounds_toArray, List.set_cons_succ, List.set_cons_zero]
    clear hl
    refine store_all (cs := (u8s (zeros 32)).toArray) hA (by simp only [u8s_size, List.size_toArray, List.length_append, List.length_singleton, List.length_map, HZ32.out]) (by rw [u8s_size, HZ32.out]; exact info26) (u8s_one _) rfl rfl rfl ?_
    intro w317 hD hO hlD
    try simp only [Act.put, List.setIfInBounds_toArray, List.set_cons_succ, List.set_cons_zero]
    clear hlD hA
    have hbb : Below w308.heap.size w308 w317 := hb.trans (hO.below hb.size fun k hk => Nat.le_of_eq hk.symm)
    clear hb hO
    have HN318 := Lib.hid (Nat.ne_of_lt F311.out.lt)
    have HN319 := Lib.hid (Nat.ne_of_lt F312.out.lt)
    have HN320 := Lib.hid (Nat.ne_of_lt F313.out.lt)
    have HN321 := Lib.hid (Nat.ne_of_lt F314.out.lt)
    have HN322 := Lib.hid (Nat.ne_of_lt F315.out.lt)
    have HG323 : Hid (w.heap.size ≤ w308.heap.size) := Lib.hid F309.out.size
    have F324 := Lib.hid (F309.out.trans (hbb.mono F309.out.size))
    have F325 := Lib.hid (F310.out.below (Nat.le_refl _) hbb)
    have F326 := Lib.hid (F311.out.below hbb F311.out.lt)
    have F327 := Lib.hid (F312.out.below hbb F312.out.lt)
    have F328 := Lib.hid (F313.out.below hbb F313.out.lt)
    have F329 := Lib.hid (F314.out.below hbb F314.out.lt)
    have F330 := Lib.hid (F315.out.below hbb F315.out.lt)
    clear F309 F310 F311 F312 F313 F314 F315
    have F331 : Hid (Blk w317 w308.heap.size (u8s (zeros 32))) := Lib.hid hD
    clear hD hbb w316
    generalize w308.heap.size = g332 at *
    clear w308
    refine takeL (.int .i64 11) rfl (by go_simp) ?_
    try simp only [Act.put, List.setIfInBounds_toArray, List.set_cons_succ, List.set_cons_zero]
    refine wpList_nil ?_
    go_upto_region 20 with fail
    refine wp_region_lit ?_
    try simp only [List.append_eq, List.cons_append, List.nil_append]
    refine takeL (.pointer (some ⟨g12, 35, none⟩)) rfl (by go_simp) ?_
    try simp only [Act.put, List.setIfInBounds_toArray, List.set_cons_succ, List.set_cons_zero]
    refine takeL ((.slice ca cn cc)) rfl (by have hq := F329.out.cell (i := 35) (v := (.slice ca cn cc)) (F.at35 HWF.out _); go_simp) ?_
    try simp only [Act.put, List.setIfInBounds_toArray, List.set_cons_succ, List.set_cons_zero]
    refine takeL (.int .i64 cn) rfl (by go_simp) ?_
    try simp only [Act.put, List.setIfInBounds_toArray, List.set_cons_succ, List.set_cons_zero]
    refine takeL (.bool true) rfl (by go_simp) ?_
    try simp only [Act.put, List.setIfInBounds_toArray, List.set_cons_succ, List.set_cons_zero]
    refine takeL (.bool true) rfl (by go_simp) ?_
    try simp only [Act.put, List.setIfInBounds_toArray, List.set_cons_succ, List.set_cons_zero]
    refine passL rfl ?_
    try simp only [Act.put, List.setIfInBounds_toArray, List.set_cons_succ, List.set_cons_zero]
    refine passL rfl ?_
    try simp only [Act.put, List.setIfInBounds_toArray, List.set_cons_succ, List.set_cons_zero]
    refine takeL (.bool true) rfl (by go_simp) ?_
    try simp only [Act.put, List.setIfInBounds_toArray, List.set_cons_succ, List.set_cons_zero]
    refine wpList_nil ?_
    go_upto_region 21 with fail
    refine wp_region_lit ?_
    try simp only [List.append_eq, List.cons_append, List.nil_append]
    refine takeL (.int .i64 11) rfl (by go_simp) ?_
    try simp only [Act.put, List.setIfInBounds_toArray, List.set_cons_succ, List.set_cons_zero]
    refine takeL (.bool true) rfl (by go_simp) ?_
    try simp only [Act.put, List.setIfInBounds_toArray, List.set_cons_succ, List.set_cons_zero]
    refine takeL (.bool true) rfl (by go_simp) ?_
    try simp only [Act.put, List.setIfInBounds_toArray, List.set_cons_succ, List.set_cons_zero]
    refine wpList_op rfl fun K hK => ?_
    go_simp
    refine (wakes_any _ F325.out).mono ?_
    rintro e w333 ⟨rfl, hb⟩
    have F334 := Lib.hid (F324.out.trans (hb.mono F324.out.size))
    have F335 := Lib.hid (F325.out.below (Nat.le_refl _) hb)
    have F336 := Lib.hid (F326.out.below hb F326.out.lt)
    have F337 := Lib.hid (F327.out.below hb F327.out.lt)
    have F338 := Lib.hid (F328.out.below hb F328.out.lt)
    have F339 := Lib.hid (F329.out.below hb F329.out.lt)
    have F340 := Lib.hid (F330.out.below hb F330.out.lt)
    have F341 := Lib.hid (F331.out.below hb F331.out.lt)
    clear F324 F325 F326 F327 F328 F329 F330 F331
    clear hb
    refine hK _ _ ?_
    clear hK K
    try simp only [Act.put, List.setIfInBounds_toArray, List.set_cons_succ, List.set_cons_zero]
    refine takeL (.bool true) rfl (by go_simp) ?_
    try simp only [Act.put, List.setIfInBounds_toArray, List.set_cons_succ, List.set_cons_zero]
    refine takeL (.bool true) rfl (by go_simp) ?_
    try simp only [Act.put, List.setIfInBounds_toArray, List.set_cons_succ, List.set_cons_zero]
    refine wpList_nil ?_
    go_wp2_with fail
    go_ret
    exact ⟨rfl, F334.out⟩
end Go.Proofs.YtjejodgjakjeiaaDoor
