/- Encode: the sector of a summary that may be, and what else. -/
import Derived.Test.YtbhaifdhmfmeoaaMarks
import Derived.Deep.Cut
import Derived.Deep.CutRange
namespace Go.Proofs.Ytbhaifdhmfmeoaa
set_option linter.unusedSimpArgs false
set_option linter.unusedVariables false
open Go.RowKit

abbrev Sm.cells (s : Sm) (sv : Value) : List Value := [.int .u32 s.seq, .bool s.more, sv]
/-- A summary in a variable (g), the result's variable (r), both made behind W. -/
structure sES (W w : World) (g r : Nat) (s : Sm) (sv : Value) : Prop where
  sm : Blk w g (s.cells sv)
  res : Blk w r (u8s (zeros 64))
  bel : Below W.heap.size W w
  g0 : W.heap.size ≤ g
  gr : g < r
theorem sES.below {W w w' : World} {g r : Nat} {s : Sm} {sv : Value} (h : sES W w g r s sv) (hb : Below w.heap.size w w') : sES W w' g r s sv :=
  ⟨h.sm.below hb h.sm.lt, h.res.below hb h.res.lt, h.bel.trans (hb.mono h.bel.size), h.g0, h.gr⟩
/-- And the sector (x). -/
structure sET (W w : World) (g r x : Nat) (s : Sm) (sv : Value) (L : List Int) : Prop where
  es : sES W w g r s sv
  sec : Blk w x (u8s L)
  rx : r < x
theorem sET.below {W w w' : World} {g r x : Nat} {s : Sm} {sv : Value} {L : List Int} (h : sET W w g r x s sv L) (hb : Below w.heap.size w w') : sET W w' g r x s sv L :=
  ⟨h.es.below hb, h.sec.below hb h.sec.lt, h.rx⟩
theorem sET.drew {W w : World} {g r x : Nat} {s : Sm} {sv : Value} {L : List Int} (h : sET W w g r x s sv L) : sET W w.drew g r x s sv L := h.below (Below.refl _ _).drew
theorem sET.alloc {W w : World} {g r x : Nat} {s : Sm} {sv : Value} {L : List Int} (h : sET W w g r x s sv L) (o : Obj) : sET W (w.alloc o) g r x s sv L := h.below ((Below.refl _ _).alloc (Nat.le_refl _) _)
theorem sET.put {W w w' : World} {g r x : Nat} {s : Sm} {sv : Value} {L M : List Int} (h : sET W w g r x s sv L) (hs : Blk w' x (u8s M)) (ho : Only (fun k => k = x) w w') : sET W w' g r x s sv M :=
  ⟨⟨h.es.sm.only ho (by have := h.rx; have := h.es.gr; omega), h.es.res.only ho (by have := h.rx; omega), h.es.bel.trans (ho.below h.es.bel.size (fun k hk => by have := h.es.g0; have := h.es.gr; have := h.rx; omega)), h.es.g0, h.es.gr⟩, hs, h.rx⟩
theorem sET.set {W w : World} {g r x : Nat} {s : Sm} {sv : Value} {L : List Int} (h : sET W w g r x s sv L) (i : Nat) (v : Int) : sET W (w.setCell ⟨x, i, none⟩ (.int .u8 v)) g r x s sv (L.set i v) :=
  h.put (by have := h.sec.set i (.int .u8 v); rwa [← List.map_set] at this) ((Only.refl (fun k => k = x) w).setCell (p := ⟨x, i, none⟩) (.inl rfl) _)
theorem u8s_at {L : List Int} {i : Nat} (h : i < L.length) : (u8s L)[i]? = some (.int .u8 (L.getD i 0)) := by
  rw [List.getElem?_map, List.getD_eq_getElem?_getD, List.getElem?_eq_getElem h]
  rfl

def encL (s : Sm) (k : Nat) : List Int := 83 :: bit s.more :: ((le 4 s.seq).take k ++ zeros (62 - k))
def encM (s : Sm) (k : Nat) : List Int := s.pre ++ (flat (s.marks.take k) ++ zeros (57 - 2 * k))
theorem encL_length (s : Sm) (k : Nat) (h : k ≤ 4) : (encL s k).length = 64 := by
  simp only [encL, List.length_cons, List.length_append, List.length_take, le_length, zeros_length]
  omega
theorem encL_0 (s : Sm) : encL s 0 = 83 :: bit s.more :: zeros 62 := rfl
theorem encL_1 (s : Sm) : (encL s 0).set 2 (s.seq % 256) = encL s 1 := rfl
theorem encL_2 (s : Sm) : (encL s 1).set 3 (s.seq / 256 % 256) = encL s 2 := rfl
theorem encL_3 (s : Sm) : (encL s 2).set 4 (s.seq / 65536 % 256) = encL s 3 := by
  rw [show s.seq / 65536 = s.seq / 256 / 256 by omega]; rfl
theorem encL_4 (s : Sm) : (encL s 3).set 5 (s.seq / 16777216 % 256) = encL s 4 := by
  rw [show s.seq / 16777216 = s.seq / 256 / 256 / 256 by omega]; rfl
theorem encL_5 (s : Sm) : (encL s 4).set 6 (s.marks.length : Int) = encM s 0 := rfl
theorem encM_length (s : Sm) (k : Nat) (hk : k ≤ s.marks.length) (h : k ≤ 24) : (encM s k).length = 64 := by
  simp only [encM, List.length_append, pre_length, sflat_length, List.length_take, zeros_length]
  omega
theorem encM_all (s : Sm) : encM s s.marks.length = s.enc := by simp [encM, Sm.enc]
theorem pre_set (s : Sm) (X : List Int) (j : Nat) (v : Int) : (s.pre ++ X).set (7 + j) v = s.pre ++ X.set j v := by
  rw [List.set_append_right _ _ (by rw [pre_length]; omega), pre_length, show 7 + j - 7 = j by omega]
theorem encM_step {s : Sm} {k : Nat} {m : Mk} (hm : s.marks[k]? = some m) (h : k < 24) : ((encM s k).set (7 + k * 2) m.1).set (7 + k * 2 + 1) m.2 = encM s (k + 1) := by
  have hk : k < s.marks.length := (List.getElem?_eq_some_iff.1 hm).1
  have hz : zeros (57 - 2 * k) = 0 :: 0 :: zeros (57 - 2 * (k + 1)) := by
    rw [show 57 - 2 * k = (57 - 2 * (k + 1)) + 1 + 1 by omega]
    rfl
  have hf : (flat (s.marks.take k)).length = 2 * k := by rw [sflat_length, List.length_take]; omega
  unfold encM
  rw [hz, flat_snoc hm, pre_set, show 7 + k * 2 + 1 = 7 + (k * 2 + 1) by omega, pre_set]
  congr 1
  rw [List.set_append_right _ _ (by omega), List.set_append_right _ _ (by omega), hf, show k * 2 - 2 * k = 0 by omega, show k * 2 + 1 - 2 * k = 1 by omega]
  simp

theorem built50f : Try.prog.built 50 [(0, .int .u8 83)] = some (u8s (83 :: zeros 63)).toArray := by kernel_rfl
theorem build50f (w : World) : (Instr.build 50 #[(0, .int .u8 83)]).run Try.prog w = .ok (.agg (u8s (83 :: zeros 63)).toArray) w := run_build w 50 _ _ built50f

set_option maxRecDepth 100000 in
theorem sencode_no (s : Sm) (sv : Value) (hl : s.marks.length ≤ 1000000) (w : World) (h : MarksAt w sv s.marks) (hg : s.good = false) : Calls Try.prog 49 #[.agg #[.int .u32 s.seq, .bool s.more, sv]] w fun e w' => e = .returned (.tuple #[.agg (u8s (zeros 64)).toArray, .int .i64 11]) ∧ Below w.heap.size w w' := by
  have HM := Lib.hid h
  have HG := Lib.hid hg
  clear h hg
  go_enter Try.func49, Try.ntmps49
  repeat (first | (with_reducible refine stopR (id := 0) ?_) | go_values | go_skip | go_guarded | go_step | go_upon | go_back)
  refine Stop.mk (wp_region_lit ?_)
  refine box_g rfl rfl ?_
  intro wA hA hB hl1
  try simp only [Act.put, List.setIfInBounds_toArray, List.set_cons_succ, List.set_cons_zero]
  refine alloc_g zero50 rfl ?_
  intro wB hR hB2 hl2
  try simp only [Act.put, List.setIfInBounds_toArray, List.set_cons_succ, List.set_cons_zero]
  have H0 : Hid (sES w wB w.heap.size wA.heap.size s sv) := Lib.hid ⟨hA.below hB2 hl1, hR, hB.trans (hB2.mono hB.size), Nat.le_refl _, hl1⟩
  have HM0 := Lib.hid (HM.out.below H0.out.bel)
  have HG1 := Lib.hid fun w' (h' : MarksAt w' sv s.marks) => areMarks_any sv s.marks hl w' h'
  clear hA hB hl1 hR hB2 hl2
  generalize hgg : w.heap.size = g at *
  generalize hrr : wA.heap.size = r at *
  have HGG := Lib.hid hgg
  clear hgg hrr wA
  refine takeL (.int .i64 0) rfl (by go_simp) ?_
  try simp only [Act.put, List.setIfInBounds_toArray, List.set_cons_succ, List.set_cons_zero]
  refine wpList_nil ?_
  have c2 := H0.out.sm.cell (i := 2) rfl
  go_wp2_with fail
  refine (HG1.out _ HM0.out).mono ?_
  rintro e w1 ⟨rfl, hb⟩
  have H1 := Lib.hid (H0.out.below hb)
  have HM1 := Lib.hid (HM0.out.below hb)
  clear hb H0 HM0 c2 HG1
  rw [show goodMarks s.marks = false from HG.out]
  go_upto_region 2 with fail
  refine wp_region_lit ?_
  refine build_g (build50 _) rfl ?_
  try simp only [Act.put, List.setIfInBounds_toArray, List.set_cons_succ, List.set_cons_zero]
  refine store_all H1.out.res (by simp) (by simpa [zeros] using info50) (u8s_one _) rfl rfl rfl ?_
  intro wZ hZ hOZ hlZ
  try simp only [Act.put, List.setIfInBounds_toArray, List.set_cons_succ, List.set_cons_zero]
  refine takeL (.int .i64 11) rfl (by go_simp) ?_
  try simp only [Act.put, List.setIfInBounds_toArray, List.set_cons_succ, List.set_cons_zero]
  have HF := Lib.hid (H1.out.bel.trans (hOZ.below H1.out.bel.size (fun k hk => by have := H1.out.g0; have := H1.out.gr; omega)))
  refine wpList_nil ?_
  go_wp2_with fail
  refine bodyPost_ret (v := .tuple #[.agg (u8s (zeros 64)).toArray, .int .i64 11]) (results_cell_tmp rfl _ _ r 0 _ _ _ rfl rfl Try.underlying50 rfl (by simpa [zeros] using info50) (hZ.all rfl)) rfl ⟨rfl, by first | exact HF.out | (rw [HGG.out]; exact HF.out)⟩
set_option maxRecDepth 100000 in
theorem encode_yes_true (s : Sm) (sv : Value) (hmo : s.more = true) (hq : 0 ≤ s.seq ∧ s.seq < 4294967296) (w : World) (h : MarksAt w sv s.marks) (hg : s.good = true) : Calls Try.prog 49 #[.agg #[.int .u32 s.seq, .bool s.more, sv]] w fun e w' => e = .returned (.tuple #[.agg (u8s s.enc).toArray, .int .i64 0]) ∧ Below w.heap.size w w' := by
  have HM := Lib.hid h
  have HG := Lib.hid hg
  obtain ⟨hn1, hn2⟩ := good_len hg
  have hl : s.marks.length ≤ 1000000 := by omega
  obtain ⟨hq1, hq2⟩ := hq
  obtain ⟨a, o, cap, hsv, _⟩ := h.has (by omega)
  have HMO := Lib.hid hmo
  have HSV := Lib.hid hsv
  clear hg h hmo hsv
  go_enter Try.func49, Try.ntmps49
  repeat (first | (with_reducible refine stopR (id := 0) ?_) | go_values | go_skip | go_guarded | go_step | go_upon | go_back)
  refine Stop.mk (wp_region_lit ?_)
  refine box_g rfl rfl ?_
  intro wA hA hB hl1
  try simp only [Act.put, List.setIfInBounds_toArray, List.set_cons_succ, List.set_cons_zero]
  refine alloc_g zero50 rfl ?_
  intro wB hR hB2 hl2
  try simp only [Act.put, List.setIfInBounds_toArray, List.set_cons_succ, List.set_cons_zero]
  have H0 : Hid (sES w wB w.heap.size wA.heap.size s sv) := Lib.hid ⟨hA.below hB2 hl1, hR, hB.trans (hB2.mono hB.size), Nat.le_refl _, hl1⟩
  have HM0 := Lib.hid (HM.out.below H0.out.bel)
  have HG1 := Lib.hid fun w' (h' : MarksAt w' sv s.marks) => areMarks_any sv s.marks hl w' h'
  clear hA hB hl1 hR hB2 hl2
  generalize hgg : w.heap.size = g at *
  generalize hrr : wA.heap.size = r at *
  have HGG := Lib.hid hgg
  clear hgg hrr wA
  refine takeL (.int .i64 0) rfl (by go_simp) ?_
  try simp only [Act.put, List.setIfInBounds_toArray, List.set_cons_succ, List.set_cons_zero]
  refine wpList_nil ?_
  have c2 := H0.out.sm.cell (i := 2) rfl
  go_wp2_with fail
  refine (HG1.out _ HM0.out).mono ?_
  rintro e w1 ⟨rfl, hb⟩
  have H1 := Lib.hid (H0.out.below hb)
  have HM1 := Lib.hid (HM0.out.below hb)
  clear hb H0 HM0 c2 HG1
  rw [show goodMarks s.marks = true from HG.out]
  go_upto_region 3 with fail
  refine wp_region_lit ?_
  refine takeL (.agg (u8s (83 :: zeros 63)).toArray) rfl (exec_build _ _ _ _ 50 #[(0, .const (.int .u8 83))] rfl #[(0, .int .u8 83)] (by simp only [List.map_toArray, List.map_cons, List.map_nil]; rfl) _ (build50f _)) ?_
  try simp only [Act.put, List.setIfInBounds_toArray, List.set_cons_succ, List.set_cons_zero]
  refine alloc_g zero50 rfl ?_
  intro wC hC hBC hlC
  try simp only [Act.put, List.setIfInBounds_toArray, List.set_cons_succ, List.set_cons_zero]
  refine store_all hC (by simp [zeros]) (by simpa [zeros] using info50) (u8s_one _) rfl rfl rfl ?_
  intro wD hD hOD hlD
  try simp only [Act.put, List.setIfInBounds_toArray, List.set_cons_succ, List.set_cons_zero]
  have hBD := hBC.trans (hOD.below hBC.size (fun k hk => Nat.le_of_eq hk.symm))
  have H2 : Hid (sET w wD g r w1.heap.size s sv (83 :: zeros 63)) := Lib.hid (sET.mk (H1.out.below hBD) hD H1.out.res.lt)
  clear hC hBC hlC hD hOD hlD hBD HM1
  generalize hss : w1.heap.size = x at *
  clear hss
  refine wpList_nil ?_
  have c1 := H2.out.es.sm.cell (i := 1) rfl
  rw [HMO.out] at c1
  have cb := H2.out.sec.cell (i := 1) rfl
  have hfro := H2.out.sec.frozen 1
  go_wp2_with fail
  go_loopg [18] 4 (fun q i wr => ∃ k : Nat, 4 - k ≤ q ∧ k ≤ 4 ∧ i = .int .i64 k ∧ sET w wr g r x s sv (encL s k))
  case atStart =>
    refine ⟨0, by omega, by omega, rfl, ?_⟩
    have hs := H2.out.set 1 1
    rw [show (83 :: zeros 63 : List Int).set 1 1 = encL s 0 by rw [encL_0, HMO.out]; rfl] at hs
    exact hs
  case round =>
    obtain ⟨k, hgk, hk, rfl, het⟩ := hrel
    have HL := Lib.hid het
    clear het
    rcases (show k = 0 ∨ k = 1 ∨ k = 2 ∨ k = 3 ∨ k = 4 by omega) with rfl | rfl | rfl | rfl | rfl
    · have c0 := HL.out.es.sm.cell (i := 0) rfl
      have cx := HL.out.sec.cell (i := 2) (u8s_at (by rw [encL_length _ _ (by omega)]; omega))
      have hfro := HL.out.sec.frozen 2
      go_wp2_with fail
      go_roundg (4 - 1)
      case measure => omega
      case rel =>
        refine ⟨1, by omega, by omega, by go_num, ?_⟩
        have hs := HL.out.set 2 (s.seq % 256)
        rw [encL_1] at hs
        first | exact hs | simpa using hs | (rw [show s.seq / 16777216 % 256 = s.seq / 16777216 by omega] at hs; exact hs)
    · have c0 := HL.out.es.sm.cell (i := 0) rfl
      have cx := HL.out.sec.cell (i := 3) (u8s_at (by rw [encL_length _ _ (by omega)]; omega))
      have hfro := HL.out.sec.frozen 3
      go_wp2_with fail
      go_roundg (4 - 2)
      case measure => omega
      case rel =>
        refine ⟨2, by omega, by omega, by go_num, ?_⟩
        have hs := HL.out.set 3 (s.seq / 256 % 256)
        rw [encL_2] at hs
        first | exact hs | simpa using hs | (rw [show s.seq / 16777216 % 256 = s.seq / 16777216 by omega] at hs; exact hs)
    · have c0 := HL.out.es.sm.cell (i := 0) rfl
      have cx := HL.out.sec.cell (i := 4) (u8s_at (by rw [encL_length _ _ (by omega)]; omega))
      have hfro := HL.out.sec.frozen 4
      go_wp2_with fail
      go_roundg (4 - 3)
      case measure => omega
      case rel =>
        refine ⟨3, by omega, by omega, by go_num, ?_⟩
        have hs := HL.out.set 4 (s.seq / 65536 % 256)
        rw [encL_3] at hs
        first | exact hs | simpa using hs | (rw [show s.seq / 16777216 % 256 = s.seq / 16777216 by omega] at hs; exact hs)
    · have c0 := HL.out.es.sm.cell (i := 0) rfl
      have cx := HL.out.sec.cell (i := 5) (u8s_at (by rw [encL_length _ _ (by omega)]; omega))
      have hfro := HL.out.sec.frozen 5
      go_wp2_with fail
      go_roundg (4 - 4)
      case measure => omega
      case rel =>
        refine ⟨4, by omega, by omega, by go_num, ?_⟩
        have hs := HL.out.set 5 (s.seq / 16777216 % 256)
        rw [encL_4] at hs
        first | exact hs | simpa using hs | (rw [show s.seq / 16777216 % 256 = s.seq / 16777216 by omega] at hs; exact hs)
    · have HM4 := Lib.hid (HM.out.below HL.out.es.bel)
      rw [HSV.out] at HM4
      have c2 := HL.out.es.sm.cell (i := 2) rfl
      rw [HSV.out] at c2
      have cx := HL.out.sec.cell (i := 6) (u8s_at (by rw [encL_length _ _ (by omega)]; omega))
      have hfro := HL.out.sec.frozen 6
      have hn1' : (1 : Int) ≤ (s.marks.length : Int) := by omega
      have hn2' : (s.marks.length : Int) ≤ 24 := by omega
      go_wp2_with fail
      go_loopg [39] s.marks.length (fun q i wq => ∃ k : Nat, s.marks.length - k ≤ q ∧ k ≤ s.marks.length ∧ i = .int .i64 k ∧ sET w wq g r x s sv (encM s k))
      case atStart =>
        refine ⟨0, by omega, by omega, rfl, ?_⟩
        have hs := HL.out.set 6 s.marks.length
        rw [encL_5] at hs
        exact hs
      case round =>
        obtain ⟨k, hgk, hk, rfl, het⟩ := hrel
        have HE := Lib.hid het
        clear het HL HM4 c2 cx hfro
        by_cases hlt : k < s.marks.length
        · have hlk : s.marks[k]? = some s.marks[k] := by simp [hlt]
          have HM5 := HM.out.below HE.out.es.bel
          rw [HSV.out] at HM5
          obtain ⟨b', o', cap', he, hcells⟩ := HM5.has (by omega)
          cases he
          obtain ⟨c1, c2⟩ := hcells k _ hlk
          have hmb := good_byte HG.out _ (List.getElem_mem hlt)
          have HST := Lib.hid (encM_step hlk (by omega))
          clear hcells HM5 hlk
          generalize s.marks[k] = m at *
          obtain ⟨mk, mi⟩ := m
          obtain ⟨⟨hm1, hm2⟩, ⟨hm3, hm4⟩⟩ := hmb
          simp only at c1 c2 hm1 hm2 hm3 hm4
          have hk0 : (0 : Int) ≤ (k : Int) := by omega
          have hk1 : (k : Int) < (s.marks.length : Int) := by omega
          have hk2 : (k : Int) < 24 := by omega
          go_upto_region 16 with fail
          have HE2 := Lib.hid (HE.out.alloc (Obj.cells #[Value.int IntKind.i64 mk, Value.int IntKind.i64 mi] 70))
          have hnew := Blk.new wr #[Value.int IntKind.i64 mk, Value.int IntKind.i64 mi] 70
          have d1 := hnew.cell (i := 0) rfl
          have d2 := hnew.cell (i := 1) rfl
          have hnx : x < wr.heap.size := HE.out.sec.lt
          clear hnew c1 c2 HE
          generalize wr.heap.size = nn at *
          generalize wr.alloc (Obj.cells #[Value.int IntKind.i64 mk, Value.int IntKind.i64 mi] 70) = wn at *
          have e1 := HE2.out.sec.cell (i := 7 + k * 2) (u8s_at (by rw [encM_length _ _ (by omega) (by omega)]; omega))
          have e2 := HE2.out.sec.cell (i := 7 + k * 2 + 1) (u8s_at (by rw [encM_length _ _ (by omega) (by omega)]; omega))
          have f1 := HE2.out.sec.frozen (7 + k * 2)
          have f2 := HE2.out.sec.frozen (7 + k * 2 + 1)
          go_region
          go_wp2_with fail
          go_roundg (s.marks.length - (k + 1))
          case measure => omega
          case rel =>
            refine ⟨k + 1, by omega, by omega, by go_num, ?_⟩
            have hs := ((HE2.out.set (7 + k * 2) mk).set (7 + k * 2 + 1) mi).drew
            rw [HST.out] at hs
            exact hs
        · have hkl : k = s.marks.length := by omega
          subst hkl
          have HE2 := HE.out
          rw [encM_all] at HE2
          have HE2 := Lib.hid HE2
          have HLN := Lib.hid (senc_length HG.out)
          clear hlt HE
          go_upto_region 18 with fail
          refine wp_region_lit ?_
          refine load50 (cs := (u8s s.enc).toArray) (Blk.all HE2.out.sec rfl) (by rw [u8s_size, HLN.out]) rfl rfl ?_
          try simp only [Act.put, List.setIfInBounds_toArray, List.set_cons_succ, List.set_cons_zero]
          refine store_all (cs := (u8s s.enc).toArray) HE2.out.es.res (by rw [u8s_size, HLN.out]; simp [zeros]) (by rw [u8s_size, HLN.out]; exact info50) (u8s_one _) rfl rfl rfl ?_
          intro wZ hZ hOZ hlZ
          try simp only [Act.put, List.setIfInBounds_toArray, List.set_cons_succ, List.set_cons_zero]
          have HF := Lib.hid (HE2.out.es.bel.trans (hOZ.below HE2.out.es.bel.size (fun k hk => by have := HE2.out.es.g0; have := HE2.out.es.gr; omega)))
          refine takeL (.int .i64 0) rfl (by go_simp) ?_
          try simp only [Act.put, List.setIfInBounds_toArray, List.set_cons_succ, List.set_cons_zero]
          refine wpList_nil ?_
          go_wp2_with fail
          refine bodyPost_ret (v := .tuple #[.agg (u8s s.enc).toArray, .int .i64 0]) (results_cell_tmp rfl _ _ r 0 _ _ _ rfl rfl Try.underlying50 rfl (by rw [u8s_size, HLN.out]; exact info50) (hZ.all rfl)) rfl ⟨rfl, by first | exact HF.out | (rw [HGG.out]; exact HF.out)⟩
set_option maxRecDepth 100000 in
theorem encode_yes_false (s : Sm) (sv : Value) (hmo : s.more = false) (hq : 0 ≤ s.seq ∧ s.seq < 4294967296) (w : World) (h : MarksAt w sv s.marks) (hg : s.good = true) : Calls Try.prog 49 #[.agg #[.int .u32 s.seq, .bool s.more, sv]] w fun e w' => e = .returned (.tuple #[.agg (u8s s.enc).toArray, .int .i64 0]) ∧ Below w.heap.size w w' := by
  have HM := Lib.hid h
  have HG := Lib.hid hg
  obtain ⟨hn1, hn2⟩ := good_len hg
  have hl : s.marks.length ≤ 1000000 := by omega
  obtain ⟨hq1, hq2⟩ := hq
  obtain ⟨a, o, cap, hsv, _⟩ := h.has (by omega)
  have HMO := Lib.hid hmo
  have HSV := Lib.hid hsv
  clear hg h hmo hsv
  go_enter Try.func49, Try.ntmps49
  repeat (first | (with_reducible refine stopR (id := 0) ?_) | go_values | go_skip | go_guarded | go_step | go_upon | go_back)
  refine Stop.mk (wp_region_lit ?_)
  refine box_g rfl rfl ?_
  intro wA hA hB hl1
  try simp only [Act.put, List.setIfInBounds_toArray, List.set_cons_succ, List.set_cons_zero]
  refine alloc_g zero50 rfl ?_
  intro wB hR hB2 hl2
  try simp only [Act.put, List.setIfInBounds_toArray, List.set_cons_succ, List.set_cons_zero]
  have H0 : Hid (sES w wB w.heap.size wA.heap.size s sv) := Lib.hid ⟨hA.below hB2 hl1, hR, hB.trans (hB2.mono hB.size), Nat.le_refl _, hl1⟩
  have HM0 := Lib.hid (HM.out.below H0.out.bel)
  have HG1 := Lib.hid fun w' (h' : MarksAt w' sv s.marks) => areMarks_any sv s.marks hl w' h'
  clear hA hB hl1 hR hB2 hl2
  generalize hgg : w.heap.size = g at *
  generalize hrr : wA.heap.size = r at *
  have HGG := Lib.hid hgg
  clear hgg hrr wA
  refine takeL (.int .i64 0) rfl (by go_simp) ?_
  try simp only [Act.put, List.setIfInBounds_toArray, List.set_cons_succ, List.set_cons_zero]
  refine wpList_nil ?_
  have c2 := H0.out.sm.cell (i := 2) rfl
  go_wp2_with fail
  refine (HG1.out _ HM0.out).mono ?_
  rintro e w1 ⟨rfl, hb⟩
  have H1 := Lib.hid (H0.out.below hb)
  have HM1 := Lib.hid (HM0.out.below hb)
  clear hb H0 HM0 c2 HG1
  rw [show goodMarks s.marks = true from HG.out]
  go_upto_region 3 with fail
  refine wp_region_lit ?_
  refine takeL (.agg (u8s (83 :: zeros 63)).toArray) rfl (exec_build _ _ _ _ 50 #[(0, .const (.int .u8 83))] rfl #[(0, .int .u8 83)] (by simp only [List.map_toArray, List.map_cons, List.map_nil]; rfl) _ (build50f _)) ?_
  try simp only [Act.put, List.setIfInBounds_toArray, List.set_cons_succ, List.set_cons_zero]
  refine alloc_g zero50 rfl ?_
  intro wC hC hBC hlC
  try simp only [Act.put, List.setIfInBounds_toArray, List.set_cons_succ, List.set_cons_zero]
  refine store_all hC (by simp [zeros]) (by simpa [zeros] using info50) (u8s_one _) rfl rfl rfl ?_
  intro wD hD hOD hlD
  try simp only [Act.put, List.setIfInBounds_toArray, List.set_cons_succ, List.set_cons_zero]
  have hBD := hBC.trans (hOD.below hBC.size (fun k hk => Nat.le_of_eq hk.symm))
  have H2 : Hid (sET w wD g r w1.heap.size s sv (83 :: zeros 63)) := Lib.hid (sET.mk (H1.out.below hBD) hD H1.out.res.lt)
  clear hC hBC hlC hD hOD hlD hBD HM1
  generalize hss : w1.heap.size = x at *
  clear hss
  refine wpList_nil ?_
  have c1 := H2.out.es.sm.cell (i := 1) rfl
  rw [HMO.out] at c1
  have cb := H2.out.sec.cell (i := 1) rfl
  have hfro := H2.out.sec.frozen 1
  go_wp2_with fail
  go_loopg [18] 4 (fun q i wr => ∃ k : Nat, 4 - k ≤ q ∧ k ≤ 4 ∧ i = .int .i64 k ∧ sET w wr g r x s sv (encL s k))
  case atStart =>
    refine ⟨0, by omega, by omega, rfl, ?_⟩
    have hs := H2.out
    rw [show (83 :: zeros 63 : List Int) = encL s 0 by rw [encL_0, HMO.out]; rfl] at hs
    exact hs
  case round =>
    obtain ⟨k, hgk, hk, rfl, het⟩ := hrel
    have HL := Lib.hid het
    clear het
    rcases (show k = 0 ∨ k = 1 ∨ k = 2 ∨ k = 3 ∨ k = 4 by omega) with rfl | rfl | rfl | rfl | rfl
    · have c0 := HL.out.es.sm.cell (i := 0) rfl
      have cx := HL.out.sec.cell (i := 2) (u8s_at (by rw [encL_length _ _ (by omega)]; omega))
      have hfro := HL.out.sec.frozen 2
      go_wp2_with fail
      go_roundg (4 - 1)
      case measure => omega
      case rel =>
        refine ⟨1, by omega, by omega, by go_num, ?_⟩
        have hs := HL.out.set 2 (s.seq % 256)
        rw [encL_1] at hs
        first | exact hs | simpa using hs | (rw [show s.seq / 16777216 % 256 = s.seq / 16777216 by omega] at hs; exact hs)
    · have c0 := HL.out.es.sm.cell (i := 0) rfl
      have cx := HL.out.sec.cell (i := 3) (u8s_at (by rw [encL_length _ _ (by omega)]; omega))
      have hfro := HL.out.sec.frozen 3
      go_wp2_with fail
      go_roundg (4 - 2)
      case measure => omega
      case rel =>
        refine ⟨2, by omega, by omega, by go_num, ?_⟩
        have hs := HL.out.set 3 (s.seq / 256 % 256)
        rw [encL_2] at hs
        first | exact hs | simpa using hs | (rw [show s.seq / 16777216 % 256 = s.seq / 16777216 by omega] at hs; exact hs)
    · have c0 := HL.out.es.sm.cell (i := 0) rfl
      have cx := HL.out.sec.cell (i := 4) (u8s_at (by rw [encL_length _ _ (by omega)]; omega))
      have hfro := HL.out.sec.frozen 4
      go_wp2_with fail
      go_roundg (4 - 3)
      case measure => omega
      case rel =>
        refine ⟨3, by omega, by omega, by go_num, ?_⟩
        have hs := HL.out.set 4 (s.seq / 65536 % 256)
        rw [encL_3] at hs
        first | exact hs | simpa using hs | (rw [show s.seq / 16777216 % 256 = s.seq / 16777216 by omega] at hs; exact hs)
    · have c0 := HL.out.es.sm.cell (i := 0) rfl
      have cx := HL.out.sec.cell (i := 5) (u8s_at (by rw [encL_length _ _ (by omega)]; omega))
      have hfro := HL.out.sec.frozen 5
      go_wp2_with fail
      go_roundg (4 - 4)
      case measure => omega
      case rel =>
        refine ⟨4, by omega, by omega, by go_num, ?_⟩
        have hs := HL.out.set 5 (s.seq / 16777216 % 256)
        rw [encL_4] at hs
        first | exact hs | simpa using hs | (rw [show s.seq / 16777216 % 256 = s.seq / 16777216 by omega] at hs; exact hs)
    · have HM4 := Lib.hid (HM.out.below HL.out.es.bel)
      rw [HSV.out] at HM4
      have c2 := HL.out.es.sm.cell (i := 2) rfl
      rw [HSV.out] at c2
      have cx := HL.out.sec.cell (i := 6) (u8s_at (by rw [encL_length _ _ (by omega)]; omega))
      have hfro := HL.out.sec.frozen 6
      have hn1' : (1 : Int) ≤ (s.marks.length : Int) := by omega
      have hn2' : (s.marks.length : Int) ≤ 24 := by omega
      go_wp2_with fail
      go_loopg [39] s.marks.length (fun q i wq => ∃ k : Nat, s.marks.length - k ≤ q ∧ k ≤ s.marks.length ∧ i = .int .i64 k ∧ sET w wq g r x s sv (encM s k))
      case atStart =>
        refine ⟨0, by omega, by omega, rfl, ?_⟩
        have hs := HL.out.set 6 s.marks.length
        rw [encL_5] at hs
        exact hs
      case round =>
        obtain ⟨k, hgk, hk, rfl, het⟩ := hrel
        have HE := Lib.hid het
        clear het HL HM4 c2 cx hfro
        by_cases hlt : k < s.marks.length
        · have hlk : s.marks[k]? = some s.marks[k] := by simp [hlt]
          have HM5 := HM.out.below HE.out.es.bel
          rw [HSV.out] at HM5
          obtain ⟨b', o', cap', he, hcells⟩ := HM5.has (by omega)
          cases he
          obtain ⟨c1, c2⟩ := hcells k _ hlk
          have hmb := good_byte HG.out _ (List.getElem_mem hlt)
          have HST := Lib.hid (encM_step hlk (by omega))
          clear hcells HM5 hlk
          generalize s.marks[k] = m at *
          obtain ⟨mk, mi⟩ := m
          obtain ⟨⟨hm1, hm2⟩, ⟨hm3, hm4⟩⟩ := hmb
          simp only at c1 c2 hm1 hm2 hm3 hm4
          have hk0 : (0 : Int) ≤ (k : Int) := by omega
          have hk1 : (k : Int) < (s.marks.length : Int) := by omega
          have hk2 : (k : Int) < 24 := by omega
          go_upto_region 16 with fail
          have HE2 := Lib.hid (HE.out.alloc (Obj.cells #[Value.int IntKind.i64 mk, Value.int IntKind.i64 mi] 70))
          have hnew := Blk.new wr #[Value.int IntKind.i64 mk, Value.int IntKind.i64 mi] 70
          have d1 := hnew.cell (i := 0) rfl
          have d2 := hnew.cell (i := 1) rfl
          have hnx : x < wr.heap.size := HE.out.sec.lt
          clear hnew c1 c2 HE
          generalize wr.heap.size = nn at *
          generalize wr.alloc (Obj.cells #[Value.int IntKind.i64 mk, Value.int IntKind.i64 mi] 70) = wn at *
          have e1 := HE2.out.sec.cell (i := 7 + k * 2) (u8s_at (by rw [encM_length _ _ (by omega) (by omega)]; omega))
          have e2 := HE2.out.sec.cell (i := 7 + k * 2 + 1) (u8s_at (by rw [encM_length _ _ (by omega) (by omega)]; omega))
          have f1 := HE2.out.sec.frozen (7 + k * 2)
          have f2 := HE2.out.sec.frozen (7 + k * 2 + 1)
          go_region
          go_wp2_with fail
          go_roundg (s.marks.length - (k + 1))
          case measure => omega
          case rel =>
            refine ⟨k + 1, by omega, by omega, by go_num, ?_⟩
            have hs := ((HE2.out.set (7 + k * 2) mk).set (7 + k * 2 + 1) mi).drew
            rw [HST.out] at hs
            exact hs
        · have hkl : k = s.marks.length := by omega
          subst hkl
          have HE2 := HE.out
          rw [encM_all] at HE2
          have HE2 := Lib.hid HE2
          have HLN := Lib.hid (senc_length HG.out)
          clear hlt HE
          go_upto_region 18 with fail
          refine wp_region_lit ?_
          refine load50 (cs := (u8s s.enc).toArray) (Blk.all HE2.out.sec rfl) (by rw [u8s_size, HLN.out]) rfl rfl ?_
          try simp only [Act.put, List.setIfInBounds_toArray, List.set_cons_succ, List.set_cons_zero]
          refine store_all (cs := (u8s s.enc).toArray) HE2.out.es.res (by rw [u8s_size, HLN.out]; simp [zeros]) (by rw [u8s_size, HLN.out]; exact info50) (u8s_one _) rfl rfl rfl ?_
          intro wZ hZ hOZ hlZ
          try simp only [Act.put, List.setIfInBounds_toArray, List.set_cons_succ, List.set_cons_zero]
          have HF := Lib.hid (HE2.out.es.bel.trans (hOZ.below HE2.out.es.bel.size (fun k hk => by have := HE2.out.es.g0; have := HE2.out.es.gr; omega)))
          refine takeL (.int .i64 0) rfl (by go_simp) ?_
          try simp only [Act.put, List.setIfInBounds_toArray, List.set_cons_succ, List.set_cons_zero]
          refine wpList_nil ?_
          go_wp2_with fail
          refine bodyPost_ret (v := .tuple #[.agg (u8s s.enc).toArray, .int .i64 0]) (results_cell_tmp rfl _ _ r 0 _ _ _ rfl rfl Try.underlying50 rfl (by rw [u8s_size, HLN.out]; exact info50) (hZ.all rfl)) rfl ⟨rfl, by first | exact HF.out | (rw [HGG.out]; exact HF.out)⟩
set_option linter.unusedVariables false in
theorem sencode_any (s : Sm) (sv : Value) (hl : s.marks.length ≤ 1000000) (hw : s.Wf) (w : World) (h : MarksAt w sv s.marks) : Calls Try.prog 49 #[.agg #[.int .u32 s.seq, .bool s.more, sv]] w fun e w' => e = .returned (.tuple #[.agg (u8s s.sec).toArray, .int .i64 s.err]) ∧ Below w.heap.size w w' := by
  unfold Sm.sec Sm.err
  cases hg : s.good with
  | false => exact sencode_no s sv hl w h hg
  | true =>
    cases hm : s.more with
    | false => have := encode_yes_false s sv hm hw.seq w h hg; rw [hm] at this; exact this
    | true => have := encode_yes_true s sv hm hw.seq w h hg; rw [hm] at this; exact this
end Go.Proofs.Ytbhaifdhmfmeoaa
