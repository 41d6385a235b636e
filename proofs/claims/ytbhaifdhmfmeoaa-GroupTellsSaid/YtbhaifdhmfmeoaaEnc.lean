/- Encode: the sector of a block that may be, and what else. -/
import Derived.Test.YtbhaifdhmfmeoaaLay
namespace Go.Proofs.Ytbhaifdhmfmeoaa
set_option linter.unusedSimpArgs false
set_option linter.unusedVariables false
open Go.RowKit

set_option maxRecDepth 100000 in
theorem encode_no (b : Bk) (sv : Value) (n : Int) (w : World) (hs : BytesAt w sv b.bytes) (hw : b.Wf) (hg : b.good = false) : Calls Try.prog 50 #[.agg (b.arr sv), .int .u32 n] w fun e w' => e = .returned (.tuple #[.agg (u8s (zeros 64)).toArray, .int .i64 11]) ∧ Below w.heap.size w w' := by
  have HSZ := Lib.hid (b.arr_size hw sv)
  have HW := Lib.hid hw
  have HG := Lib.hid fun w => good_any b sv hs.len hw w
  rw [hg] at HG
  go_enter Try.func50, Try.ntmps50
  repeat (first | (with_reducible refine stopR (id := 0) ?_) | go_values | go_skip | go_guarded | go_step | go_upon | go_back)
  refine Stop.mk (wp_region_lit ?_)
  refine box_g rfl rfl ?_
  intro wA hA hB hl
  try simp only [Act.put, List.setIfInBounds_toArray, List.set_cons_succ, List.set_cons_zero]
  refine alloc_g zero50 rfl ?_
  intro wB hR hB2 hl2
  try simp only [Act.put, List.setIfInBounds_toArray, List.set_cons_succ, List.set_cons_zero]
  refine takeL (.int .i64 0) rfl (by go_simp) ?_
  try simp only [Act.put, List.setIfInBounds_toArray, List.set_cons_succ, List.set_cons_zero]
  have H0 : Hid (ES w wB w.heap.size wA.heap.size b sv) := Lib.hid ⟨⟨hA.below hB2 hl, HW.out⟩, hR, hB.trans (hB2.mono hB.size), Nat.le_refl _, hl⟩
  clear hA hB hl hR hB2 hl2
  generalize hgg : w.heap.size = g at *
  generalize hrr : wA.heap.size = r at *
  have HGG := Lib.hid hgg
  clear hgg hrr wA
  refine wpList_nil ?_
  repeat (first | (with_reducible refine stopR (id := 1) ?_) | go_values | go_skip | go_guarded | go_step | go_upon | go_back)
  refine Stop.mk (wp_region_lit ?_)
  refine load57 H0.out.bat.all HSZ.out rfl rfl ?_
  try simp only [Act.put, List.setIfInBounds_toArray, List.set_cons_succ, List.set_cons_zero]
  refine wpList_op rfl fun K hK => ?_
  go_simp
  refine (HG.out _).mono ?_
  rintro e w1 ⟨rfl, hb⟩
  refine hK _ _ ?_
  clear hK K
  try simp only [Act.put, List.setIfInBounds_toArray, List.set_cons_succ, List.set_cons_zero]
  have H1 := Lib.hid (H0.out.below hb)
  clear hb H0
  refine takeL (.bool true) rfl (by go_simp) ?_
  try simp only [Act.put, List.setIfInBounds_toArray, List.set_cons_succ, List.set_cons_zero]
  refine wpList_nil ?_
  repeat (first | (with_reducible refine stopR (id := 2) ?_) | go_values | go_skip | go_guarded | go_step | go_upon | go_back)
  refine Stop.mk (wp_region_lit ?_)
  refine build_g (build50 _) rfl ?_
  try simp only [Act.put, List.setIfInBounds_toArray, List.set_cons_succ, List.set_cons_zero]
  refine store_all H1.out.res (by simp) (by simpa [zeros] using info50) (u8s_one _) rfl rfl rfl ?_
  intro wZ hZ hOZ hlZ
  try simp only [Act.put, List.setIfInBounds_toArray, List.set_cons_succ, List.set_cons_zero]
  refine takeL (.int .i64 11) rfl (by go_simp) ?_
  try simp only [Act.put, List.setIfInBounds_toArray, List.set_cons_succ, List.set_cons_zero]
  have HF := Lib.hid (H1.out.bel.trans (hOZ.below H1.out.bel.size (fun k hk => by have := H1.out.g0; have := H1.out.gr; omega)))
  refine wpList_nil ?_
  go_wp2_with fail
  refine bodyPost_ret (v := .tuple #[.agg (u8s (zeros 64)).toArray, .int .i64 11]) (results_cell_tmp rfl _ _ r 0 _ _ _ rfl rfl Try.underlying50 rfl (by simpa [zeros] using info50) (hZ.all rfl)) rfl ⟨rfl, HF.out⟩
set_option maxRecDepth 100000 in
theorem encode_img (b : Bk) (sv : Value) (n : Int) (w : World) (hs : BytesAt w sv b.bytes) (hw : b.Wf) (hg : b.good = true) (hk : b.kind = 1) (hn : 0 ≤ n ∧ n < 4294967296) : Calls Try.prog 50 #[.agg (b.arr sv), .int .u32 n] w fun e w' => e = .returned (.tuple #[.agg (u8s (b.enc n)).toArray, .int .i64 0]) ∧ Below w.heap.size w w' := by
  have HSZ := Lib.hid (b.arr_size hw sv)
  have HW := Lib.hid hw
  have HG := Lib.hid fun w => good_any b sv hs.len hw w
  rw [hg] at HG
  obtain ⟨hn1, hn2⟩ := hn
  obtain ⟨_, hi1, hi2⟩ := good_kind hg
  have HK := Lib.hid hk
  have HL := Lib.hid (enc_length hg hw n)
  have HEQ : Hid (layI (layI (1 :: b.id :: zeros 62) 2 (le 4 n)) 6 b.page = b.enc n) := Lib.hid (by
    have hp := hw.page
    simp [Bk.enc, hk, layI, le, zeros, hp])
  clear hg hk hw
  go_enter Try.func50, Try.ntmps50
  repeat (first | (with_reducible refine stopR (id := 0) ?_) | go_values | go_skip | go_guarded | go_step | go_upon | go_back)
  refine Stop.mk (wp_region_lit ?_)
  refine box_g rfl rfl ?_
  intro wA hA hB hl
  try simp only [Act.put, List.setIfInBounds_toArray, List.set_cons_succ, List.set_cons_zero]
  refine alloc_g zero50 rfl ?_
  intro wB hR hB2 hl2
  try simp only [Act.put, List.setIfInBounds_toArray, List.set_cons_succ, List.set_cons_zero]
  refine takeL (.int .i64 0) rfl (by go_simp) ?_
  try simp only [Act.put, List.setIfInBounds_toArray, List.set_cons_succ, List.set_cons_zero]
  have H0 : Hid (ES w wB w.heap.size wA.heap.size b sv) := Lib.hid ⟨⟨hA.below hB2 hl, HW.out⟩, hR, hB.trans (hB2.mono hB.size), Nat.le_refl _, hl⟩
  clear hA hB hl hR hB2 hl2
  generalize hgg : w.heap.size = g at *
  generalize hrr : wA.heap.size = r at *
  have HGG := Lib.hid hgg
  clear hgg hrr wA
  refine wpList_nil ?_
  repeat (first | (with_reducible refine stopR (id := 1) ?_) | go_values | go_skip | go_guarded | go_step | go_upon | go_back)
  refine Stop.mk (wp_region_lit ?_)
  refine load57 H0.out.bat.all HSZ.out rfl rfl ?_
  try simp only [Act.put, List.setIfInBounds_toArray, List.set_cons_succ, List.set_cons_zero]
  refine wpList_op rfl fun K hK => ?_
  go_simp
  refine (HG.out _).mono ?_
  rintro e w1 ⟨rfl, hb⟩
  refine hK _ _ ?_
  clear hK K
  try simp only [Act.put, List.setIfInBounds_toArray, List.set_cons_succ, List.set_cons_zero]
  have H1 := Lib.hid (H0.out.below hb)
  clear hb H0
  refine takeL (.bool false) rfl (by go_simp) ?_
  try simp only [Act.put, List.setIfInBounds_toArray, List.set_cons_succ, List.set_cons_zero]
  refine wpList_nil ?_
  repeat (first | (with_reducible refine stopR (id := 3) ?_) | go_values | go_skip | go_guarded | go_step | go_upon | go_back)
  refine Stop.mk (wp_region_lit ?_)
  have c0 := H1.out.bat.c0
  rw [HK.out] at c0
  have c1 := H1.out.bat.c1
  refine takeL (.pointer (some ⟨g, 0, none⟩)) rfl (by go_simp) ?_
  try simp only [Act.put, List.setIfInBounds_toArray, List.set_cons_succ, List.set_cons_zero]
  refine takeL (.int .i64 1) rfl (by go_simp) ?_
  try simp only [Act.put, List.setIfInBounds_toArray, List.set_cons_succ, List.set_cons_zero]
  refine takeL (.int .u8 1) rfl (by go_simp; rfl) ?_
  try simp only [Act.put, List.setIfInBounds_toArray, List.set_cons_succ, List.set_cons_zero]
  refine takeL (.pointer (some ⟨g, 1, none⟩)) rfl (by go_simp) ?_
  try simp only [Act.put, List.setIfInBounds_toArray, List.set_cons_succ, List.set_cons_zero]
  refine takeL (.int .i64 b.id) rfl (by go_simp) ?_
  try simp only [Act.put, List.setIfInBounds_toArray, List.set_cons_succ, List.set_cons_zero]
  refine takeL (.int .u8 b.id) rfl (by go_simp; exact wrap8 (by omega) (by omega)) ?_
  try simp only [Act.put, List.setIfInBounds_toArray, List.set_cons_succ, List.set_cons_zero]
  refine takeL (.agg (u8s (1 :: b.id :: zeros 62)).toArray) rfl (exec_build _ _ _ _ 50 #[(0, .tmp 15), (1, .tmp 18)] rfl #[(0, .int .u8 1), (1, .int .u8 b.id)] (by simp only [List.map_toArray, List.map_cons, List.map_nil]; rfl) _ (build50k 1 b.id _)) ?_
  try simp only [Act.put, List.setIfInBounds_toArray, List.set_cons_succ, List.set_cons_zero]
  refine alloc_g zero50 rfl ?_
  intro wC hC hBC hlC
  try simp only [Act.put, List.setIfInBounds_toArray, List.set_cons_succ, List.set_cons_zero]
  refine store_all hC (by simp [zeros]) (by simpa [zeros] using info50) (u8s_one _) rfl rfl rfl ?_
  intro wD hD hOD hlD
  try simp only [Act.put, List.setIfInBounds_toArray, List.set_cons_succ, List.set_cons_zero]
  have H2 : Hid (ET w wD g r w1.heap.size b sv (1 :: b.id :: zeros 62)) := Lib.hid (ET.mk (H1.out.below (hBC.trans (hOD.below hBC.size (fun k hk => Nat.le_of_eq hk.symm)))) hD H1.out.res.lt)
  clear c0 c1 hC hBC hlC hD hOD hlD
  generalize hss : w1.heap.size = s at *
  clear hss
  refine wpList_nil ?_
  go_wp2_with fail
  refine (put4_any wD s 2 62 _ H2.out.sec (by simp [zeros]) n ⟨hn1, hn2⟩ ).mono ?_
  rintro e w2 ⟨rfl, hb, ho⟩
  rw [lay_u8s] at hb
  have H3 := Lib.hid (H2.out.put hb ho)
  clear hb ho H2
  have c0 := H3.out.es.bat.c0
  rw [HK.out] at c0
  go_wp2_with fail
  refine startH (fun _ => True) (by kernel_rfl) ?_
  refine takeH 0 (some 27) (.slice (some ⟨s, 6, none⟩) 58 58) rfl rfl (by kernel_rfl) (by kernel_rfl) (by kernel_rfl) (fun _ _ _ h => h) rfl (fun w _ => by go_simp) trivial ?_
  try simp only [Act.put, List.setIfInBounds_toArray, List.set_cons_succ, List.set_cons_zero]
  refine takeH 1 (some 28) (.pointer (some ⟨g, 2, none⟩)) rfl rfl (by kernel_rfl) (by kernel_rfl) (by kernel_rfl) (fun _ _ _ h => h) rfl (fun w _ => by go_simp) trivial ?_
  try simp only [Act.put, List.setIfInBounds_toArray, List.set_cons_succ, List.set_cons_zero]
  refine takeH 2 (some 29) (.slice (some ⟨g, 2, none⟩) 32 32) rfl rfl (by kernel_rfl) (by kernel_rfl) (by kernel_rfl) (fun _ _ _ h => h) rfl (fun w _ => by go_simp) trivial ?_
  try simp only [Act.put, List.setIfInBounds_toArray, List.set_cons_succ, List.set_cons_zero]
  refine oneH 3 (by kernel_rfl) rfl rfl fun K hK => ?_
  refine wp_copy _ _ rfl Try.underlying54 info5s s 6 58 58 g 2 32 32 rfl rfl (u8s (layI (1 :: b.id :: zeros 62) 2 (le 4 n))) b.page H3.out.drew.sec (by rw [HW.out.page]; rfl) (fun j v hv => H3.out.drew.es.bat.page_at j v hv) (by rw [HW.out.page]; simp [layI, zeros, le]) (some 30) rfl fun wC hb ho => ?_
  refine hK _ _ trivial ?_
  clear hK K
  try simp only [Act.put, List.setIfInBounds_toArray, List.set_cons_succ, List.set_cons_zero]
  rw [lay_u8s, HEQ.out] at hb
  have H4 := Lib.hid (H3.out.drew.put hb ho)
  clear hb ho c0
  refine wpAnyH_done (by kernel_rfl) ?_ _
  repeat (first | (with_reducible refine stopR (id := 19) ?_) | go_values | go_skip | go_guarded | go_step | go_upon | go_back)
  refine Stop.mk (wp_region_lit ?_)
  refine load50 (Blk.all (cs := (u8s (b.enc n)).toArray) H4.out.sec rfl) (by rw [u8s_size, HL.out]) rfl rfl ?_
  try simp only [Act.put, List.setIfInBounds_toArray, List.set_cons_succ, List.set_cons_zero]
  refine store_all H4.out.es.res (by rw [u8s_size, HL.out]; simp [zeros]) (by rw [u8s_size, HL.out]; exact info50) (u8s_one _) rfl rfl rfl ?_
  intro wZ hZ hOZ hlZ
  try simp only [Act.put, List.setIfInBounds_toArray, List.set_cons_succ, List.set_cons_zero]
  refine takeL (.int .i64 0) rfl (by go_simp) ?_
  try simp only [Act.put, List.setIfInBounds_toArray, List.set_cons_succ, List.set_cons_zero]
  have HF := Lib.hid (H4.out.es.bel.trans (hOZ.below H4.out.es.bel.size (fun k hk => by have := H4.out.es.g0; have := H4.out.es.gr; omega)))
  refine wpList_nil ?_
  go_wp2_with fail
  refine bodyPost_ret (v := .tuple #[.agg (u8s (b.enc n)).toArray, .int .i64 0]) (results_cell_tmp rfl _ _ r 0 _ _ _ rfl rfl Try.underlying50 rfl (by rw [u8s_size, HL.out]; exact info50) ?_) rfl ⟨rfl, HF.out⟩
  exact Blk.all (cs := (u8s (b.enc n)).toArray) hZ rfl
set_option maxRecDepth 100000 in
theorem encode_dlt (b : Bk) (sv : Value) (n : Int) (w : World) (hs : BytesAt w sv b.bytes) (hw : b.Wf) (hg : b.good = true) (hk : b.kind = 2) (hn : 0 ≤ n ∧ n < 4294967296) : Calls Try.prog 50 #[.agg (b.arr sv), .int .u32 n] w fun e w' => e = .returned (.tuple #[.agg (u8s (b.enc n)).toArray, .int .i64 0]) ∧ Below w.heap.size w w' := by
  have HSZ := Lib.hid (b.arr_size hw sv)
  have HW := Lib.hid hw
  have HG := Lib.hid fun w => good_any b sv hs.len hw w
  rw [hg] at HG
  obtain ⟨hn1, hn2⟩ := hn
  obtain ⟨_, hi1, hi2⟩ := good_kind hg
  have HK := Lib.hid hk
  have HL := Lib.hid (enc_length hg hw n)
  have HEQ : Hid (layI (layI (((layI (2 :: b.id :: zeros 62) 2 (le 4 n)).set 6 b.off).set 7 b.bytes.length) 8 b.bytes) 24 (le 2 b.prev) = b.enc n) := Lib.hid (by
    rw [delta_laid _ _ _ _ _ (good2 hg hk).1.2]
    unfold Bk.enc
    rw [if_neg (by omega), if_pos hk])
  obtain ⟨⟨hb1, hb2⟩, ⟨ho1, ho2⟩, ⟨hp1, hp2⟩, _⟩ := good2 hg hk
  have HBY := Lib.hid hs
  obtain ⟨p, q, cap, hsv, _⟩ := hs.has (by omega)
  have HSV := Lib.hid hsv
  clear hsv
  clear hg hk hw
  go_enter Try.func50, Try.ntmps50
  repeat (first | (with_reducible refine stopR (id := 0) ?_) | go_values | go_skip | go_guarded | go_step | go_upon | go_back)
  refine Stop.mk (wp_region_lit ?_)
  refine box_g rfl rfl ?_
  intro wA hA hB hl
  try simp only [Act.put, List.setIfInBounds_toArray, List.set_cons_succ, List.set_cons_zero]
  refine alloc_g zero50 rfl ?_
  intro wB hR hB2 hl2
  try simp only [Act.put, List.setIfInBounds_toArray, List.set_cons_succ, List.set_cons_zero]
  refine takeL (.int .i64 0) rfl (by go_simp) ?_
  try simp only [Act.put, List.setIfInBounds_toArray, List.set_cons_succ, List.set_cons_zero]
  have H0 : Hid (ES w wB w.heap.size wA.heap.size b sv) := Lib.hid ⟨⟨hA.below hB2 hl, HW.out⟩, hR, hB.trans (hB2.mono hB.size), Nat.le_refl _, hl⟩
  clear hA hB hl hR hB2 hl2
  generalize hgg : w.heap.size = g at *
  generalize hrr : wA.heap.size = r at *
  have HGG := Lib.hid hgg
  clear hgg hrr wA
  refine wpList_nil ?_
  repeat (first | (with_reducible refine stopR (id := 1) ?_) | go_values | go_skip | go_guarded | go_step | go_upon | go_back)
  refine Stop.mk (wp_region_lit ?_)
  refine load57 H0.out.bat.all HSZ.out rfl rfl ?_
  try simp only [Act.put, List.setIfInBounds_toArray, List.set_cons_succ, List.set_cons_zero]
  refine wpList_op rfl fun K hK => ?_
  go_simp
  refine (HG.out _).mono ?_
  rintro e w1 ⟨rfl, hb⟩
  refine hK _ _ ?_
  clear hK K
  try simp only [Act.put, List.setIfInBounds_toArray, List.set_cons_succ, List.set_cons_zero]
  have H1 := Lib.hid (H0.out.below hb)
  clear hb H0
  refine takeL (.bool false) rfl (by go_simp) ?_
  try simp only [Act.put, List.setIfInBounds_toArray, List.set_cons_succ, List.set_cons_zero]
  refine wpList_nil ?_
  repeat (first | (with_reducible refine stopR (id := 3) ?_) | go_values | go_skip | go_guarded | go_step | go_upon | go_back)
  refine Stop.mk (wp_region_lit ?_)
  have c0 := H1.out.bat.c0
  rw [HK.out] at c0
  have c1 := H1.out.bat.c1
  refine takeL (.pointer (some ⟨g, 0, none⟩)) rfl (by go_simp) ?_
  try simp only [Act.put, List.setIfInBounds_toArray, List.set_cons_succ, List.set_cons_zero]
  refine takeL (.int .i64 2) rfl (by go_simp) ?_
  try simp only [Act.put, List.setIfInBounds_toArray, List.set_cons_succ, List.set_cons_zero]
  refine takeL (.int .u8 2) rfl (by go_simp; rfl) ?_
  try simp only [Act.put, List.setIfInBounds_toArray, List.set_cons_succ, List.set_cons_zero]
  refine takeL (.pointer (some ⟨g, 1, none⟩)) rfl (by go_simp) ?_
  try simp only [Act.put, List.setIfInBounds_toArray, List.set_cons_succ, List.set_cons_zero]
  refine takeL (.int .i64 b.id) rfl (by go_simp) ?_
  try simp only [Act.put, List.setIfInBounds_toArray, List.set_cons_succ, List.set_cons_zero]
  refine takeL (.int .u8 b.id) rfl (by go_simp; exact wrap8 (by omega) (by omega)) ?_
  try simp only [Act.put, List.setIfInBounds_toArray, List.set_cons_succ, List.set_cons_zero]
  refine takeL (.agg (u8s (2 :: b.id :: zeros 62)).toArray) rfl (exec_build _ _ _ _ 50 #[(0, .tmp 15), (1, .tmp 18)] rfl #[(0, .int .u8 2), (1, .int .u8 b.id)] (by simp only [List.map_toArray, List.map_cons, List.map_nil]; rfl) _ (build50k 2 b.id _)) ?_
  try simp only [Act.put, List.setIfInBounds_toArray, List.set_cons_succ, List.set_cons_zero]
  refine alloc_g zero50 rfl ?_
  intro wC hC hBC hlC
  try simp only [Act.put, List.setIfInBounds_toArray, List.set_cons_succ, List.set_cons_zero]
  refine store_all hC (by simp [zeros]) (by simpa [zeros] using info50) (u8s_one _) rfl rfl rfl ?_
  intro wD hD hOD hlD
  try simp only [Act.put, List.setIfInBounds_toArray, List.set_cons_succ, List.set_cons_zero]
  have H2 : Hid (ET w wD g r w1.heap.size b sv (2 :: b.id :: zeros 62)) := Lib.hid (ET.mk (H1.out.below (hBC.trans (hOD.below hBC.size (fun k hk => Nat.le_of_eq hk.symm)))) hD H1.out.res.lt)
  clear c0 c1 hC hBC hlC hD hOD hlD
  generalize hss : w1.heap.size = s at *
  clear hss
  refine wpList_nil ?_
  go_wp2_with fail
  refine (put4_any wD s 2 62 _ H2.out.sec (by simp [zeros]) n ⟨hn1, hn2⟩ ).mono ?_
  rintro e w2 ⟨rfl, hb, ho⟩
  rw [lay_u8s] at hb
  have H3 := Lib.hid (H2.out.put hb ho)
  clear hb ho H2
  have c0 := H3.out.es.bat.c0
  rw [HK.out] at c0
  simp only []
  repeat (first | (with_reducible refine stopR (id := 9) ?_) | go_values | go_skip | go_guarded | go_step | go_upon | go_back)
  refine Stop.mk (wp_region_lit ?_)
  have c34 := H3.out.es.bat.c34
  have hc := H3.out.sec.cell (i := 6) (v := .int .u8 0) (by simp [layI, zeros, le])
  have hf := H3.out.sec.frozen 6
  refine takeL (.pointer (some ⟨g, 34, none⟩)) rfl (by go_simp) ?_
  try simp only [Act.put, List.setIfInBounds_toArray, List.set_cons_succ, List.set_cons_zero]
  refine takeL (.int .i64 b.off) rfl (by go_simp) ?_
  try simp only [Act.put, List.setIfInBounds_toArray, List.set_cons_succ, List.set_cons_zero]
  refine takeL (.int .u8 b.off) rfl (by go_simp; exact wrap8 (by omega) (by omega)) ?_
  try simp only [Act.put, List.setIfInBounds_toArray, List.set_cons_succ, List.set_cons_zero]
  refine takeL (.pointer (some ⟨s, 6, none⟩)) rfl (by go_simp) ?_
  try simp only [Act.put, List.setIfInBounds_toArray, List.set_cons_succ, List.set_cons_zero]
  refine skipL (w2.setCell ⟨s, 6, none⟩ (.int .u8 b.off)) rfl (by go_simp) ?_
  try simp only [Act.put, List.setIfInBounds_toArray, List.set_cons_succ, List.set_cons_zero]
  have H4 := Lib.hid (H3.out.set 6 b.off)
  clear c34 hc hf c0 H3
  generalize w2.setCell ⟨s, 6, none⟩ (.int .u8 b.off) = w3 at *
  refine wpList_nil ?_
  repeat (first | (with_reducible refine stopR (id := 10) ?_) | go_values | go_skip | go_guarded | go_step | go_upon | go_back)
  refine Stop.mk (wp_region_lit ?_)
  have c35 := H4.out.es.bat.c35
  rw [HSV.out] at c35
  have hc := H4.out.sec.cell (i := 7) (v := .int .u8 0) (by simp [layI, zeros, le])
  have hf := H4.out.sec.frozen 7
  refine takeL (.pointer (some ⟨g, 35, none⟩)) rfl (by go_simp) ?_
  try simp only [Act.put, List.setIfInBounds_toArray, List.set_cons_succ, List.set_cons_zero]
  refine takeL (.slice (some ⟨p, q, none⟩) b.bytes.length cap) rfl (by go_simp) ?_
  try simp only [Act.put, List.setIfInBounds_toArray, List.set_cons_succ, List.set_cons_zero]
  refine takeL (.int .i64 b.bytes.length) rfl (by go_simp) ?_
  try simp only [Act.put, List.setIfInBounds_toArray, List.set_cons_succ, List.set_cons_zero]
  refine takeL (.int .u8 b.bytes.length) rfl (by go_simp; exact wrap8 (by omega) (by omega)) ?_
  try simp only [Act.put, List.setIfInBounds_toArray, List.set_cons_succ, List.set_cons_zero]
  refine takeL (.pointer (some ⟨s, 7, none⟩)) rfl (by go_simp) ?_
  try simp only [Act.put, List.setIfInBounds_toArray, List.set_cons_succ, List.set_cons_zero]
  refine skipL (w3.setCell ⟨s, 7, none⟩ (.int .u8 b.bytes.length)) rfl (by go_simp) ?_
  try simp only [Act.put, List.setIfInBounds_toArray, List.set_cons_succ, List.set_cons_zero]
  have H5 := Lib.hid (H4.out.set 7 b.bytes.length)
  clear c35 hc hf H4
  generalize w3.setCell ⟨s, 7, none⟩ (.int .u8 b.bytes.length) = w4 at *
  refine wpList_nil ?_
  go_wp2_with fail
  have c35 := H5.out.drew.es.bat.c35
  rw [HSV.out] at c35
  refine startH (fun wq => wq.cell? ⟨g, 35, none⟩ = some (.slice (some ⟨p, q, none⟩) b.bytes.length cap)) (by kernel_rfl) ?_
  refine takeH 0 (some 42) (.slice (some ⟨s, 8, none⟩) 16 56) rfl rfl (by kernel_rfl) (by kernel_rfl) (by kernel_rfl) (fun _ _ _ h => h) rfl (fun w _ => by go_simp) c35 ?_
  try simp only [Act.put, List.setIfInBounds_toArray, List.set_cons_succ, List.set_cons_zero]
  refine takeH 1 (some 43) (.pointer (some ⟨g, 35, none⟩)) rfl rfl (by kernel_rfl) (by kernel_rfl) (by kernel_rfl) (fun _ _ _ h => h) rfl (fun w _ => by go_simp) c35 ?_
  try simp only [Act.put, List.setIfInBounds_toArray, List.set_cons_succ, List.set_cons_zero]
  refine takeH 2 (some 44) (.slice (some ⟨p, q, none⟩) b.bytes.length cap) rfl rfl (by kernel_rfl) (by kernel_rfl) (by kernel_rfl) (fun _ _ _ h => h) rfl (fun w hS => by go_simp) c35 ?_
  try simp only [Act.put, List.setIfInBounds_toArray, List.set_cons_succ, List.set_cons_zero]
  refine oneH 3 (by kernel_rfl) rfl rfl fun K hK => ?_
  have HBB := HBY.out.below (H5.out.drew.es.bel)
  obtain ⟨p', q', cap', hsv', hsrc⟩ := HBB.has (by omega)
  rw [HSV.out] at hsv'
  cases hsv'
  refine wp_copy _ _ rfl Try.underlying54 info5s s 8 16 56 p q b.bytes.length cap rfl rfl (u8s (((layI (2 :: b.id :: zeros 62) 2 (le 4 n)).set 6 b.off).set 7 b.bytes.length)) b.bytes H5.out.drew.sec (Nat.min_eq_left hb2).symm hsrc (by simp [layI, zeros, le]; omega) (some 45) rfl fun wC hb ho => ?_
  rw [lay_u8s] at hb
  have H6 := Lib.hid (H5.out.drew.put hb ho)
  have c35' := H6.out.es.bat.c35
  rw [HSV.out] at c35'
  refine hK _ _ c35' ?_
  clear hK K c35 c35' hb ho hsrc HBB H5
  try simp only [Act.put, List.setIfInBounds_toArray, List.set_cons_succ, List.set_cons_zero]
  refine wpAnyH_done (by kernel_rfl) ?_ _
  go_wp2_with fail
  have c36 := H6.out.drew.es.bat.c36
  refine startH (fun wq => wq.cell? ⟨g, 36, none⟩ = some (.int .i64 b.prev)) (by kernel_rfl) ?_
  refine takeH 0 (some 46) (.slice (some ⟨s, 24, none⟩) 2 40) rfl rfl (by kernel_rfl) (by kernel_rfl) (by kernel_rfl) (fun _ _ _ h => h) rfl (fun w _ => by go_simp) c36 ?_
  try simp only [Act.put, List.setIfInBounds_toArray, List.set_cons_succ, List.set_cons_zero]
  refine takeH 1 (some 47) (.pointer (some ⟨g, 36, none⟩)) rfl rfl (by kernel_rfl) (by kernel_rfl) (by kernel_rfl) (fun _ _ _ h => h) rfl (fun w _ => by go_simp) c36 ?_
  try simp only [Act.put, List.setIfInBounds_toArray, List.set_cons_succ, List.set_cons_zero]
  refine takeH 2 (some 48) (.int .i64 b.prev) rfl rfl (by kernel_rfl) (by kernel_rfl) (by kernel_rfl) (fun _ _ _ h => h) rfl (fun w hS => by go_simp) c36 ?_
  try simp only [Act.put, List.setIfInBounds_toArray, List.set_cons_succ, List.set_cons_zero]
  refine takeH 3 (some 49) (.int .u32 b.prev) rfl rfl (by kernel_rfl) (by kernel_rfl) (by kernel_rfl) (fun _ _ _ h => h) rfl (fun w hS => by go_simp; exact wrap32 (by omega) (by omega)) c36 ?_
  try simp only [Act.put, List.setIfInBounds_toArray, List.set_cons_succ, List.set_cons_zero]
  refine oneH 4 (by kernel_rfl) rfl rfl fun K hK => ?_
  go_simp
  refine (put2_any _ s 24 40 _ H6.out.drew.sec (by simp [layI, zeros, le]; omega) b.prev ⟨by omega, by omega⟩).mono ?_
  rintro e w6 ⟨rfl, hb, ho⟩
  rw [lay_u8s, HEQ.out] at hb
  have H7 := Lib.hid (H6.out.drew.put hb ho)
  refine hK _ _ H7.out.es.bat.c36 ?_
  clear hK K c36 hb ho H6
  try simp only [Act.put, List.setIfInBounds_toArray, List.set_cons_succ, List.set_cons_zero]
  refine wpAnyH_done (by kernel_rfl) ?_ _
  repeat (first | (with_reducible refine stopR (id := 19) ?_) | go_values | go_skip | go_guarded | go_step | go_upon | go_back)
  refine Stop.mk (wp_region_lit ?_)
  refine load50 (Blk.all (cs := (u8s (b.enc n)).toArray) H7.out.sec rfl) (by rw [u8s_size, HL.out]) rfl rfl ?_
  try simp only [Act.put, List.setIfInBounds_toArray, List.set_cons_succ, List.set_cons_zero]
  refine store_all H7.out.es.res (by rw [u8s_size, HL.out]; simp [zeros]) (by rw [u8s_size, HL.out]; exact info50) (u8s_one _) rfl rfl rfl ?_
  intro wZ hZ hOZ hlZ
  try simp only [Act.put, List.setIfInBounds_toArray, List.set_cons_succ, List.set_cons_zero]
  refine takeL (.int .i64 0) rfl (by go_simp) ?_
  try simp only [Act.put, List.setIfInBounds_toArray, List.set_cons_succ, List.set_cons_zero]
  have HF := Lib.hid (H7.out.es.bel.trans (hOZ.below H7.out.es.bel.size (fun k hk => by have := H7.out.es.g0; have := H7.out.es.gr; omega)))
  refine wpList_nil ?_
  go_wp2_with fail
  refine bodyPost_ret (v := .tuple #[.agg (u8s (b.enc n)).toArray, .int .i64 0]) (results_cell_tmp rfl _ _ r 0 _ _ _ rfl rfl Try.underlying50 rfl (by rw [u8s_size, HL.out]; exact info50) ?_) rfl ⟨rfl, HF.out⟩
  exact Blk.all (cs := (u8s (b.enc n)).toArray) hZ rfl
set_option maxRecDepth 100000 in
theorem encode_map (b : Bk) (sv : Value) (n : Int) (w : World) (hs : BytesAt w sv b.bytes) (hw : b.Wf) (hg : b.good = true) (hk : b.kind = 3) (hn : 0 ≤ n ∧ n < 4294967296) : Calls Try.prog 50 #[.agg (b.arr sv), .int .u32 n] w fun e w' => e = .returned (.tuple #[.agg (u8s (b.enc n)).toArray, .int .i64 0]) ∧ Below w.heap.size w w' := by
  have HSZ := Lib.hid (b.arr_size hw sv)
  have HW := Lib.hid hw
  have HG := Lib.hid fun w => good_any b sv hs.len hw w
  rw [hg] at HG
  obtain ⟨hn1, hn2⟩ := hn
  obtain ⟨_, hi1, hi2⟩ := good_kind hg
  have HK := Lib.hid hk
  have HL := Lib.hid (enc_length hg hw n)
  have HEQ : Hid (layI (layI (3 :: b.id :: zeros 62) 2 (le 4 n)) 6 (b.heads.flatMap (le 2)) = b.enc n) := Lib.hid (by
    have hh := flat_length b.heads
    rw [hw.heads] at hh
    unfold Bk.enc
    rw [if_neg (by omega), if_neg (by omega)]
    generalize b.heads.flatMap (le 2) = F at hh ⊢
    simp [layI, le, zeros, hh])
  obtain ⟨hhs, _⟩ := good3 hg hk
  have HHS := Lib.hid hhs
  have hh8 : (i64s b.heads).toArray.size = 8 := by simpa using hw.heads
  have HIX := Lib.hid fun (j : Nat) (x : Int) (hx : b.heads[j]? = some x) (w : World) => index55 w b.heads hw.heads j x hx
  clear hhs
  clear hg hk hw
  go_enter Try.func50, Try.ntmps50
  repeat (first | (with_reducible refine stopR (id := 0) ?_) | go_values | go_skip | go_guarded | go_step | go_upon | go_back)
  refine Stop.mk (wp_region_lit ?_)
  refine box_g rfl rfl ?_
  intro wA hA hB hl
  try simp only [Act.put, List.setIfInBounds_toArray, List.set_cons_succ, List.set_cons_zero]
  refine alloc_g zero50 rfl ?_
  intro wB hR hB2 hl2
  try simp only [Act.put, List.setIfInBounds_toArray, List.set_cons_succ, List.set_cons_zero]
  refine takeL (.int .i64 0) rfl (by go_simp) ?_
  try simp only [Act.put, List.setIfInBounds_toArray, List.set_cons_succ, List.set_cons_zero]
  have H0 : Hid (ES w wB w.heap.size wA.heap.size b sv) := Lib.hid ⟨⟨hA.below hB2 hl, HW.out⟩, hR, hB.trans (hB2.mono hB.size), Nat.le_refl _, hl⟩
  clear hA hB hl hR hB2 hl2
  generalize hgg : w.heap.size = g at *
  generalize hrr : wA.heap.size = r at *
  have HGG := Lib.hid hgg
  clear hgg hrr wA
  refine wpList_nil ?_
  repeat (first | (with_reducible refine stopR (id := 1) ?_) | go_values | go_skip | go_guarded | go_step | go_upon | go_back)
  refine Stop.mk (wp_region_lit ?_)
  refine load57 H0.out.bat.all HSZ.out rfl rfl ?_
  try simp only [Act.put, List.setIfInBounds_toArray, List.set_cons_succ, List.set_cons_zero]
  refine wpList_op rfl fun K hK => ?_
  go_simp
  refine (HG.out _).mono ?_
  rintro e w1 ⟨rfl, hb⟩
  refine hK _ _ ?_
  clear hK K
  try simp only [Act.put, List.setIfInBounds_toArray, List.set_cons_succ, List.set_cons_zero]
  have H1 := Lib.hid (H0.out.below hb)
  clear hb H0
  refine takeL (.bool false) rfl (by go_simp) ?_
  try simp only [Act.put, List.setIfInBounds_toArray, List.set_cons_succ, List.set_cons_zero]
  refine wpList_nil ?_
  repeat (first | (with_reducible refine stopR (id := 3) ?_) | go_values | go_skip | go_guarded | go_step | go_upon | go_back)
  refine Stop.mk (wp_region_lit ?_)
  have c0 := H1.out.bat.c0
  rw [HK.out] at c0
  have c1 := H1.out.bat.c1
  refine takeL (.pointer (some ⟨g, 0, none⟩)) rfl (by go_simp) ?_
  try simp only [Act.put, List.setIfInBounds_toArray, List.set_cons_succ, List.set_cons_zero]
  refine takeL (.int .i64 3) rfl (by go_simp) ?_
  try simp only [Act.put, List.setIfInBounds_toArray, List.set_cons_succ, List.set_cons_zero]
  refine takeL (.int .u8 3) rfl (by go_simp; rfl) ?_
  try simp only [Act.put, List.setIfInBounds_toArray, List.set_cons_succ, List.set_cons_zero]
  refine takeL (.pointer (some ⟨g, 1, none⟩)) rfl (by go_simp) ?_
  try simp only [Act.put, List.setIfInBounds_toArray, List.set_cons_succ, List.set_cons_zero]
  refine takeL (.int .i64 b.id) rfl (by go_simp) ?_
  try simp only [Act.put, List.setIfInBounds_toArray, List.set_cons_succ, List.set_cons_zero]
  refine takeL (.int .u8 b.id) rfl (by go_simp; exact wrap8 (by omega) (by omega)) ?_
  try simp only [Act.put, List.setIfInBounds_toArray, List.set_cons_succ, List.set_cons_zero]
  refine takeL (.agg (u8s (3 :: b.id :: zeros 62)).toArray) rfl (exec_build _ _ _ _ 50 #[(0, .tmp 15), (1, .tmp 18)] rfl #[(0, .int .u8 3), (1, .int .u8 b.id)] (by simp only [List.map_toArray, List.map_cons, List.map_nil]; rfl) _ (build50k 3 b.id _)) ?_
  try simp only [Act.put, List.setIfInBounds_toArray, List.set_cons_succ, List.set_cons_zero]
  refine alloc_g zero50 rfl ?_
  intro wC hC hBC hlC
  try simp only [Act.put, List.setIfInBounds_toArray, List.set_cons_succ, List.set_cons_zero]
  refine store_all hC (by simp [zeros]) (by simpa [zeros] using info50) (u8s_one _) rfl rfl rfl ?_
  intro wD hD hOD hlD
  try simp only [Act.put, List.setIfInBounds_toArray, List.set_cons_succ, List.set_cons_zero]
  have H2 : Hid (ET w wD g r w1.heap.size b sv (3 :: b.id :: zeros 62)) := Lib.hid (ET.mk (H1.out.below (hBC.trans (hOD.below hBC.size (fun k hk => Nat.le_of_eq hk.symm)))) hD H1.out.res.lt)
  clear c0 c1 hC hBC hlC hD hOD hlD
  generalize hss : w1.heap.size = s at *
  clear hss
  refine wpList_nil ?_
  go_wp2_with fail
  refine (put4_any wD s 2 62 _ H2.out.sec (by simp [zeros]) n ⟨hn1, hn2⟩ ).mono ?_
  rintro e w2 ⟨rfl, hb, ho⟩
  rw [lay_u8s] at hb
  have H3 := Lib.hid (H2.out.put hb ho)
  clear hb ho H2
  have c0 := H3.out.es.bat.c0
  rw [HK.out] at c0
  simp only []
  repeat (first | (with_reducible refine stopR (id := 14) ?_) | go_values | go_skip | go_guarded | go_step | go_upon | go_back)
  refine Stop.mk (wp_region_lit ?_)
  refine takeL (.pointer (some ⟨g, 37, none⟩)) rfl (by go_simp) ?_
  try simp only [Act.put, List.setIfInBounds_toArray, List.set_cons_succ, List.set_cons_zero]
  refine load55 (cs := (i64s b.heads).toArray) H3.out.es.bat.heads hh8 rfl rfl ?_
  try simp only [Act.put, List.setIfInBounds_toArray, List.set_cons_succ, List.set_cons_zero]
  refine takeL (.int .i64 0) rfl (by go_simp) ?_
  try simp only [Act.put, List.setIfInBounds_toArray, List.set_cons_succ, List.set_cons_zero]
  refine wpList_nil ?_
  clear c0
  go_wp2_with fail
  go_loopg [55] 8 (fun q i wr => ∃ k : Nat, 8 - k ≤ q ∧ k ≤ 8 ∧ i = .int .i64 k ∧ ET w wr g r s b sv (layI (layI (3 :: b.id :: zeros 62) 2 (le 4 n)) 6 ((b.heads.take k).flatMap (le 2))))
  case atStart => exact ⟨0, by omega, by omega, rfl, by rw [List.take_zero, List.flatMap_nil, layI_nil]; exact H3.out⟩
  case round =>
    obtain ⟨k, hg, hk, rfl, het⟩ := hrel
    have HE := Lib.hid het
    clear het
    by_cases hlt : k < 8
    · obtain ⟨x, hx⟩ : ∃ x, b.heads[k]? = some x := ⟨_, List.getElem?_eq_getElem (by rw [HW.out.heads]; exact hlt)⟩
      have h3 := HIX.out k x hx
      obtain ⟨hx1, hx2⟩ := HHS.out x (List.mem_of_getElem? hx)
      have HX := Lib.hid hx
      clear hx
      have HLK : Hid ((layI (layI (3 :: b.id :: zeros 62) 2 (le 4 n)) 6 ((b.heads.take k).flatMap (le 2))).length = 64 ∧ ((b.heads.take k).flatMap (le 2)).length = 2 * k) := Lib.hid (by
        have hf := flat_length (b.heads.take k)
        rw [List.length_take, HW.out.heads, Nat.min_eq_left hk] at hf
        refine ⟨?_, hf⟩
        rw [layI_length (by rw [hf]; simp [layI, zeros, le]; omega)]
        simp [layI, zeros, le])
      have HNX : Hid (layI (layI (layI (3 :: b.id :: zeros 62) 2 (le 4 n)) 6 ((b.heads.take k).flatMap (le 2))) (6 + 2 * k) (le 2 x) = layI (layI (3 :: b.id :: zeros 62) 2 (le 4 n)) 6 ((b.heads.take (k + 1)).flatMap (le 2))) := Lib.hid (by
        have := layI_snoc (L := layI (3 :: b.id :: zeros 62) 2 (le 4 n)) (o := 6) (bs := (b.heads.take k).flatMap (le 2)) (cs := le 2 x) (by rw [HLK.out.2, le_length]; simp [layI, zeros, le]; omega)
        rw [HLK.out.2] at this
        rw [this, List.take_add_one, HX.out]
        simp)
      go_wp2_with fail
      refine (headOf_any wr s k hlt).mono ?_
      rintro e w6 ⟨rfl, rfl⟩
      go_wp2_with fail
      refine (put2_any wr s (6 + 2 * k) (64 - (6 + 2 * k)) _ HE.out.sec (by have := HLK.out.1; simp only [List.length_map]; omega) x ⟨by omega, by omega⟩).mono ?_
      rintro e w7 ⟨rfl, hb, ho⟩
      rw [lay_u8s, HNX.out] at hb
      have HE2 := Lib.hid (HE.out.put hb ho)
      clear hb ho
      go_wp2_with fail
      go_roundg (8 - (k + 1))
      case measure => omega
      case rel => exact ⟨k + 1, by omega, by omega, by go_num, HE2.out⟩
    · have H9 : Hid (ET w wr g r s b sv (b.enc n)) := Lib.hid (by
        obtain rfl : k = 8 := by omega
        have := HE.out
        rwa [List.take_of_length_le (by rw [HW.out.heads]; omega), HEQ.out] at this)
      have hk8 : k = 8 := by omega
      clear HE
      subst hk8
      repeat (first | (with_reducible refine stopR (id := 19) ?_) | go_values | go_skip | go_guarded | go_step | go_upon | go_back)
      refine Stop.mk (wp_region_lit ?_)
      refine load50 (Blk.all (cs := (u8s (b.enc n)).toArray) H9.out.sec rfl) (by rw [u8s_size, HL.out]) rfl rfl ?_
      try simp only [Act.put, List.setIfInBounds_toArray, List.set_cons_succ, List.set_cons_zero]
      refine store_all H9.out.es.res (by rw [u8s_size, HL.out]; simp [zeros]) (by rw [u8s_size, HL.out]; exact info50) (u8s_one _) rfl rfl rfl ?_
      intro wZ hZ hOZ hlZ
      try simp only [Act.put, List.setIfInBounds_toArray, List.set_cons_succ, List.set_cons_zero]
      refine takeL (.int .i64 0) rfl (by go_simp) ?_
      try simp only [Act.put, List.setIfInBounds_toArray, List.set_cons_succ, List.set_cons_zero]
      have HF := Lib.hid (H9.out.es.bel.trans (hOZ.below H9.out.es.bel.size (fun k hk => by have := H9.out.es.g0; have := H9.out.es.gr; omega)))
      refine wpList_nil ?_
      go_wp2_with fail
      refine bodyPost_ret (v := .tuple #[.agg (u8s (b.enc n)).toArray, .int .i64 0]) (results_cell_tmp rfl _ _ r 0 _ _ _ rfl rfl Try.underlying50 rfl (by rw [u8s_size, HL.out]; exact info50) ?_) rfl ⟨rfl, HF.out⟩
      exact Blk.all (cs := (u8s (b.enc n)).toArray) hZ rfl
theorem encode_any (b : Bk) (sv : Value) (n : Int) (w : World) (hs : BytesAt w sv b.bytes) (hw : b.Wf) (hn : 0 ≤ n ∧ n < 4294967296) : Calls Try.prog 50 #[.agg (b.arr sv), .int .u32 n] w fun e w' => e = .returned (.tuple #[.agg (u8s (b.sec n)).toArray, .int .i64 b.err]) ∧ Below w.heap.size w w' := by
  unfold Bk.sec Bk.err
  cases hg : b.good
  · simp only [Bool.false_eq_true, if_false]
    exact encode_no b sv n w hs hw hg
  · simp only [if_true]
    rcases (good_kind hg).1 with k | k | k
    · exact encode_img b sv n w hs hw hg k hn
    · exact encode_dlt b sv n w hs hw hg k hn
    · exact encode_map b sv n w hs hw hg k hn
end Go.Proofs.Ytbhaifdhmfmeoaa
