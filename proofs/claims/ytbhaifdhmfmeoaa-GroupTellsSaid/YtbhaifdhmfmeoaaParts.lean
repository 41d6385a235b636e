/- Package group's marksOf, headOf, bodyOf, Size and Parts. -/
import Derived.Test.YtbhaifdhmfmeoaaMay
import Derived.Test.YtbhaifdhmfmeoaaSread
import Derived.Test.YtbhaifdhmfmeoaaEnc
namespace Go.Proofs.Ytbhaifdhmfmeoaa
set_option linter.unusedSimpArgs false
set_option linter.unusedVariables false
open Go.RowKit

theorem mrow_step {ms : List Mk} {k n : Nat} {m : Mk} (hk : k < n) (hm : ms.length = k) : ((flat ms ++ zeros ((n - k) * 2)).set (k * 2) m.1).set (k * 2 + 1) m.2 = flat (ms ++ [m]) ++ zeros ((n - (k + 1)) * 2) := by
  have hz : zeros ((n - k) * 2) = 0 :: 0 :: zeros ((n - (k + 1)) * 2) := by
    rw [show (n - k) * 2 = (n - (k + 1)) * 2 + 1 + 1 by omega]
    rfl
  have hf : (flat ms).length = k * 2 := by rw [sflat_length, hm]; omega
  rw [hz, flat_append, List.set_append_right _ _ (by omega), List.set_append_right _ _ (by omega), hf, Nat.sub_self, show k * 2 + 1 - k * 2 = 1 by omega]
  simp [flat]
theorem madeMk (n : Nat) (hn : n < 100000) (w : World) : (Instr.makeSlice 61 (.int .i64 n) (.int .i64 n)).run Try.prog w = .ok (.slice (some ⟨w.heap.size, 0, none⟩) n n) (w.alloc (.cells (madeCells #[.int .i64 0, .int .i64 0] (n * 2)) 70)) := by
  obtain ⟨i, hi, hz, hs, hb⟩ := inf70
  have hr := run_makeSlice (P := Try.prog) w 61 70 i (.agg #[.int .i64 0, .int .i64 0]) Try.underlying61 hi hz .i64 .i64 n n (by omega) (Int.le_refl _) (by rw [hs]; omega) (by rw [hb]; omega) (by omega)
  simpa [hs, Value.cells] using hr
theorem marks_snoc {L : List It} {k : Nat} {x : It} (hx : L[k]? = some x) : marks (L.take (k + 1)) = marks (L.take k) ++ [x.mark] := by rw [take_snoc hx]; simp [marks]
set_option maxRecDepth 100000 in
set_option maxHeartbeats 2000000 in
theorem gmarks_any (l : List (It × Value)) (L : List It) (hL : l.map (·.1) = L) (n : Nat) (hn : l.length = n) (sv : Value) (hlen : n < 100000) (w : World) (h : ItemsAt w sv l) : Calls Try.prog 39 #[sv] w fun e w' => ∃ cap, e = .returned (.slice (some ⟨w.heap.size, 0, none⟩) n cap) ∧ MarksAt w' (.slice (some ⟨w.heap.size, 0, none⟩) n cap) (marks L) ∧ Below w.heap.size w w' := by
  have hLn : L.length = n := by rw [← hL, List.length_map, hn]
  obtain ⟨a, cap, rfl, hcap, hc⟩ := h
  rw [hn]
  have HC := Lib.hid hc
  have HL := Lib.hid hL
  have HLN := Lib.hid hLn
  have HN := Lib.hid hn
  have hmk := madeMk n hlen w
  clear hc hL hLn hn hcap
  go_enter Try.func39, Try.ntmps39
  go_upto_region 1 with fail
  go_wp2_with fail
  have HT0 : Hid (Blk (w.alloc (.cells (madeCells #[.int .i64 0, .int .i64 0] (n * 2)) 70)) w.heap.size (i64s (zeros (n * 2)))) := Lib.hid (by
    have := Blk.new w (madeCells #[.int .i64 0, .int .i64 0] (n * 2)) 70
    rwa [made_marks] at this)
  have HB0 : Hid (Below w.heap.size w (w.alloc (.cells (madeCells #[.int .i64 0, .int .i64 0] (n * 2)) 70))) := Lib.hid ((Below.refl _ _).alloc (Nat.le_refl _) _)
  go_loopg [11] n (fun q i wr => ∃ k : Nat, n - k ≤ q ∧ k ≤ n ∧ i = .int .i64 k ∧ Blk wr w.heap.size (i64s (flat (marks (L.take k)) ++ zeros ((n - k) * 2))) ∧ Below w.heap.size w wr)
  case atStart => exact ⟨0, by omega, by omega, rfl, HT0.out, HB0.out⟩
  case round =>
    obtain ⟨k, hq, hk, rfl, hblk, hb⟩ := hrel
    have HBK := Lib.hid hblk
    have HB := Lib.hid hb
    clear hblk hb HT0 HB0 hmk
    by_cases hlt : k < n
    · obtain ⟨xv, hx⟩ : ∃ x, l[k]? = some x := ⟨_, List.getElem?_eq_getElem (by have := HN.out; omega)⟩
      obtain ⟨x, bv⟩ := xv
      obtain ⟨x1, x2, g, o, rfl, x3⟩ := HC.out k _ hx
      have HLX : Hid (L[k]? = some x) := Lib.hid (by rw [← HL.out, List.getElem?_map, hx]; rfl)
      have HW := Lib.hid x1
      have HLE := Lib.hid x2.len
      have HX := Lib.hid (x3.below HB.out (x3.lt (by rw [It.arr_size x1]; decide)))
      have gk : decide ((k : Int) < (n : Int)) = true := decide_eq_true (by omega)
      have hk0 : (k : Int) < (n : Int) := by omega
      clear x1 x2 x3 hx
      go_upto_region 4 with fail
      refine wp_region_lit ?_
      refine takeL (.int .i64 k) rfl (by go_simp) ?_
      try simp only [Act.put, List.setIfInBounds_toArray, List.set_cons_succ, List.set_cons_zero]
      refine takeL (.pointer (some ⟨g, o + k * 47, none⟩)) rfl (by go_simp) ?_
      try simp only [Act.put, List.setIfInBounds_toArray, List.set_cons_succ, List.set_cons_zero]
      refine load72 HX.out (x.arr_size HW.out bv) rfl rfl ?_
      try simp only [Act.put, List.setIfInBounds_toArray, List.set_cons_succ, List.set_cons_zero]
      refine alloc_g zero72b rfl ?_
      intro w1 hA hb hl
      try simp only [Act.put, List.setIfInBounds_toArray, List.set_cons_succ, List.set_cons_zero]
      refine takeL (.int .i64 k) rfl (by go_simp) ?_
      try simp only [Act.put, List.setIfInBounds_toArray, List.set_cons_succ, List.set_cons_zero]
      refine store_all (cs := x.arr bv) hA (same72 It.none_wf HW.out _ _) (info72s HW.out _) (It.arr_one (slice_one HLE.out)) rfl rfl rfl ?_
      intro w2 hD hO hlD
      try simp only [Act.put, List.setIfInBounds_toArray, List.set_cons_succ, List.set_cons_zero]
      have hbb : Below wr.heap.size wr w2 := hb.trans (hO.below hb.size fun k hk => Nat.le_of_eq hk.symm)
      have HB2 := Lib.hid (stay HB.out hbb)
      have HK2 := Lib.hid (HBK.out.below hbb HBK.out.lt)
      have HA2 := Lib.hid (ItAt.of (x := x) (sv := bv) (w := w2) (g := wr.heap.size) (off := 0) (hD.all rfl))
      have HNE : Hid (w.heap.size ≠ wr.heap.size) := Lib.hid (by have := HBK.out.lt; omega)
      generalize wr.heap.size = t at *
      clear hA hb hl hD hO hlD hbb HX HB HBK
      refine wpList_nil ?_
      have c0 : w2.cell? ⟨t, 0, none⟩ = some (.int .i64 x.mark.1) := HA2.out.c0
      have c1 : w2.cell? ⟨t, 1, none⟩ = some (.int .i64 x.mark.2) := HA2.out.c1
      have hz : (flat (marks (L.take k)) ++ zeros ((n - k) * 2)).length = n * 2 := by
        rw [List.length_append, sflat_length, zeros_length, List.length_map, List.length_take, HLN.out]
        omega
      have hd0 : ∃ v, (i64s (flat (marks (L.take k)) ++ zeros ((n - k) * 2)))[k * 2]? = some v := ⟨_, List.getElem?_eq_getElem (by rw [List.length_map, hz]; omega)⟩
      have hd1 : ∃ v, (i64s (flat (marks (L.take k)) ++ zeros ((n - k) * 2)))[k * 2 + 1]? = some v := ⟨_, List.getElem?_eq_getElem (by rw [List.length_map, hz]; omega)⟩
      obtain ⟨v0, hd0⟩ := hd0
      obtain ⟨v1, hd1⟩ := hd1
      have p0 : w2.cell? ⟨w.heap.size, k * 2, none⟩ = some v0 := HK2.out.cell hd0
      have p1 : w2.cell? ⟨w.heap.size, k * 2 + 1, none⟩ = some v1 := HK2.out.cell hd1
      have f0 : w2.frozen? ⟨w.heap.size, k * 2, none⟩ = false := HK2.out.frozen _
      have f1 : w2.frozen? ⟨w.heap.size, k * 2 + 1, none⟩ = false := HK2.out.frozen _
      have HK6 : Hid (Blk ((w2.setCell ⟨w.heap.size, k * 2, none⟩ (.int .i64 x.mark.1)).setCell ⟨w.heap.size, k * 2 + 1, none⟩ (.int .i64 x.mark.2)) w.heap.size (i64s (flat (marks (L.take (k + 1))) ++ zeros ((n - (k + 1)) * 2)))) := Lib.hid (by
        have := (HK2.out.set (k * 2) (.int .i64 x.mark.1)).set (k * 2 + 1) (.int .i64 x.mark.2)
        rw [marks_snoc HLX.out, ← mrow_step hlt (m := x.mark) (by rw [List.length_map, List.length_take, HLN.out]; omega)]
        simpa [i64s, List.map_set] using this)
      have HB6 : Hid (Below w.heap.size w ((w2.setCell ⟨w.heap.size, k * 2, none⟩ (.int .i64 x.mark.1)).setCell ⟨w.heap.size, k * 2 + 1, none⟩ (.int .i64 x.mark.2))) := Lib.hid ⟨HB2.out.os, HB2.out.tape, HB2.out.output, by simpa using HB2.out.size, fun i hi => ((heap_setCell_other _ ⟨w.heap.size, k * 2 + 1, none⟩ i _ (by simp; omega)).trans (heap_setCell_other w2 ⟨w.heap.size, k * 2, none⟩ i _ (by simp; omega))).trans (HB2.out.block i hi)⟩
      clear hd0 hd1 hz
      go_wp2_with fail
      go_roundg (n - (k + 1))
      case measure => omega
      case rel => exact ⟨k + 1, by omega, by omega, by go_num, HK6.out, HB6.out⟩
    · obtain rfl : k = n := by omega
      have HM : Hid (MarksAt wr (.slice (some ⟨w.heap.size, 0, none⟩) k k) (marks L)) := Lib.hid (by
        have := HBK.out
        rw [Nat.sub_self, Nat.zero_mul, List.take_of_length_le (by have := HLN.out; omega)] at this
        exact MarksAt.of_row (by simpa [zeros] using this) (by rw [List.length_map]; exact HLN.out))
      have gk : decide ((k : Int) < (k : Int)) = false := decide_eq_false (by omega)
      go_wp2_with fail
      go_ret
      exact ⟨_, rfl, HM.out, HB.out⟩
theorem built100s (n : Int) (b : Bool) (a : Option Addr) (k c : Nat) : Try.prog.built 100 [(0, .int .u32 n), (1, .bool b), (2, .slice a k c)] = some #[.int .u32 n, .bool b, .slice a k c] := by kernel_rfl
theorem items_small {w : World} {sv : Value} {l : List (It × Value)} (h : ItemsAt w sv l) : ∀ m ∈ marks (l.map (·.1)), Small m.1 ∧ Small m.2 := fun m hm => by
  obtain ⟨x, hx, rfl⟩ := List.mem_map.1 hm
  exact ⟨(h.wf x hx).k, (h.wf x hx).i⟩
set_option maxRecDepth 100000 in
theorem headOf_any2 (l : List (It × Value)) (L : List It) (hL : l.map (·.1) = L) (sv : Value) (hlen : l.length < 100000) (n : Int) (hn : Seq32 n) (m : Bool) (w : World) (h : ItemsAt w sv l) : Calls Try.prog 32 #[.int .u32 n, .bool m, sv] w fun e w' => e = .returned (.agg (u8s (headOfPart n m L)).toArray) ∧ Below w.heap.size w w' := by
  have HI := Lib.hid h
  have HM := Lib.hid fun w h => gmarks_any l L hL l.length rfl sv hlen w h
  have HE := Lib.hid fun tv w h => sencode_any ⟨n, m, marks L⟩ tv (by simp only [List.length_map]; rw [← hL, List.length_map]; omega) ⟨hn, by rw [← hL]; exact items_small HI.out⟩ w h
  have HS := Lib.hid (ssec_length ⟨n, m, marks L⟩)
  obtain ⟨e0, he0⟩ : ∃ e0, Sm.err ⟨n, m, marks L⟩ = e0 := ⟨_, rfl⟩
  have hh : headOfPart n m L = Sm.sec ⟨n, m, marks L⟩ := rfl
  rw [hh]
  generalize Sm.sec ⟨n, m, marks L⟩ = x at *
  rw [he0] at HE
  clear hh he0 hL
  obtain ⟨a, cap, rfl, -⟩ := h
  go_enter Try.func32, Try.ntmps32
  go_upto_region 0 with fail
  refine wp_region_lit ?_
  refine alloc_g zero50 rfl ?_
  intro w0 hR hb0 hl0
  try simp only [Act.put, List.setIfInBounds_toArray, List.set_cons_succ, List.set_cons_zero]
  have HR := Lib.hid hR
  have HB := Lib.hid hb0
  have HI0 := Lib.hid (HI.out.below hb0)
  have HL0 := Lib.hid hl0
  clear hR hb0 hl0
  refine wpList_nil ?_
  go_upto_region 1 with fail
  refine wp_region_lit ?_
  refine takeL (.int .u32 n) rfl (by go_simp) ?_
  try simp only [Act.put, List.setIfInBounds_toArray, List.set_cons_succ, List.set_cons_zero]
  refine takeL (.bool m) rfl (by go_simp) ?_
  try simp only [Act.put, List.setIfInBounds_toArray, List.set_cons_succ, List.set_cons_zero]
  refine takeL (.slice a l.length cap) rfl (by go_simp) ?_
  try simp only [Act.put, List.setIfInBounds_toArray, List.set_cons_succ, List.set_cons_zero]
  refine wpList_op rfl fun K hK => ?_
  go_simp
  refine (HM.out _ HI0.out).mono ?_
  rintro e w1 ⟨cap1, rfl, hm1, hb⟩
  have HB1 := Lib.hid (stay HB.out hb)
  have HR1 := Lib.hid (HR.out.below hb HL0.out)
  have HM1 := Lib.hid hm1
  have HL1 : Hid (w.heap.size < w1.heap.size) := Lib.hid (Nat.lt_of_lt_of_le HL0.out hb.size)
  clear hm1 hb HB HR HI0 HM
  refine hK _ _ ?_
  clear hK K
  try simp only [Act.put, List.setIfInBounds_toArray, List.set_cons_succ, List.set_cons_zero]
  refine takeL (.agg #[.int .u32 n, .bool m, .slice (some ⟨w0.heap.size, 0, none⟩) l.length cap1]) rfl (exec_build _ _ _ _ 100 _ rfl #[(0, .int .u32 n), (1, .bool m), (2, .slice (some ⟨w0.heap.size, 0, none⟩) l.length cap1)] (by simp only [List.map_toArray, List.map_cons, List.map_nil]; rfl) _ (run_build w1 100 _ _ (built100s _ _ _ _ _))) ?_
  try simp only [Act.put, List.setIfInBounds_toArray, List.set_cons_succ, List.set_cons_zero]
  refine wpList_op rfl fun K hK => ?_
  go_simp
  refine (HE.out _ _ HM1.out).mono ?_
  rintro e w2 ⟨rfl, hb⟩
  have HB2 := Lib.hid (stay HB1.out hb)
  have HR2 := Lib.hid (HR1.out.below hb HL1.out)
  have HL2 : Hid (w.heap.size < w2.heap.size) := Lib.hid (Nat.lt_of_lt_of_le HL1.out hb.size)
  clear hb HB1 HR1 HM1 HE
  refine hK _ _ ?_
  clear hK K
  try simp only [Act.put, List.setIfInBounds_toArray, List.set_cons_succ, List.set_cons_zero]
  refine takeL (.tuple #[.agg (u8s x).toArray, .int .i64 e0]) rfl (by go_simp) ?_
  try simp only [Act.put, List.setIfInBounds_toArray, List.set_cons_succ, List.set_cons_zero]
  refine takeL (.agg (u8s x).toArray) rfl (by go_simp) ?_
  try simp only [Act.put, List.setIfInBounds_toArray, List.set_cons_succ, List.set_cons_zero]
  refine takeL (.int .i64 e0) rfl (by go_simp) ?_
  try simp only [Act.put, List.setIfInBounds_toArray, List.set_cons_succ, List.set_cons_zero]
  refine alloc_g zero50 rfl ?_
  intro w3 hA hb hl
  try simp only [Act.put, List.setIfInBounds_toArray, List.set_cons_succ, List.set_cons_zero]
  refine store_all (cs := (u8s x).toArray) hA (by rw [u8s_size, HS.out]; rfl) (by rw [u8s_size, HS.out]; exact info50) (u8s_one _) rfl rfl rfl ?_
  intro w4 hD hO hlD
  try simp only [Act.put, List.setIfInBounds_toArray, List.set_cons_succ, List.set_cons_zero]
  have hbb : Below w2.heap.size w2 w4 := hb.trans (hO.below hb.size fun k hk => Nat.le_of_eq hk.symm)
  have HB4 := Lib.hid (stay HB2.out hbb)
  have HR4 := Lib.hid (HR2.out.below hbb HL2.out)
  have HD4 := Lib.hid hD
  clear hA hb hl hD hO hlD HB2 HR2 hbb
  refine takeL (.int .i64 e0) rfl (by go_simp) ?_
  try simp only [Act.put, List.setIfInBounds_toArray, List.set_cons_succ, List.set_cons_zero]
  refine wpList_nil ?_
  go_upto_region 2 with fail
  refine wp_region_lit ?_
  refine load50 (cs := (u8s x).toArray) (Blk.all HD4.out rfl) (by rw [u8s_size, HS.out]) rfl rfl ?_
  try simp only [Act.put, List.setIfInBounds_toArray, List.set_cons_succ, List.set_cons_zero]
  refine store_all (cs := (u8s x).toArray) HR4.out (by rw [u8s_size, HS.out]; rfl) (by rw [u8s_size, HS.out]; exact info50) (u8s_one _) rfl rfl rfl ?_
  intro w5 hZ hO hlZ
  try simp only [Act.put, List.setIfInBounds_toArray, List.set_cons_succ, List.set_cons_zero]
  have HB5 := Lib.hid (HB4.out.trans (hO.below HB4.out.size fun k hk => Nat.le_of_eq hk.symm))
  refine wpList_nil ?_
  go_wp2_with fail
  refine bodyPost_ret (v := .agg (u8s x).toArray) (results_cell_at rfl _ _ w.heap.size 0 _ _ rfl Try.underlying50 rfl (by rw [u8s_size, HS.out]; exact info50) (Blk.all hZ rfl)) rfl ⟨rfl, HB5.out⟩
set_option maxRecDepth 100000 in
theorem bodyOf_any (x : It) (bv : Value) (hw : x.Wf) (n : Int) (hn : Seq32 n) (w : World) (hb : BytesAt w bv x.blk.bytes) : Calls Try.prog 34 #[.int .u32 n, .agg (x.arr bv)] w fun e w' => e = .returned (.agg (u8s (x.blk.sec n)).toArray) ∧ Below w.heap.size w w' := by
  have HE := Lib.hid fun w h => encode_any x.blk bv n w h hw.b hn
  have HS := Lib.hid (bsec_sc hw.b n).length
  have HA0 := Lib.hid (ItAt.box hw bv w)
  have HB0 := Lib.hid (ibox_below x bv w)
  have HBY0 := Lib.hid (hb.below (ibox_below x bv w))
  have HAS := Lib.hid (x.blk.arr_size hw.b bv)
  have HLT0 : Hid (w.heap.size < (x.box bv w).heap.size) := Lib.hid (by simp)
  generalize x.blk.sec n = y at *
  obtain ⟨e0, he0⟩ : ∃ e0, x.blk.err = e0 := ⟨_, rfl⟩
  rw [he0] at HE
  clear he0 hw hb
  go_enter Try.func34, Try.ntmps34
  go_upto_region 0 with fail
  refine wp_region_lit ?_
  refine wpList_run (.pointer (some ⟨w.heap.size, 0, none⟩)) (x.box bv w) rfl (by go_simp <;> rfl) ?_
  try simp only [Act.put, List.setIfInBounds_toArray, List.set_cons_succ, List.set_cons_zero]
  generalize x.box bv w = w9 at *
  refine alloc_g zero50 rfl ?_
  intro w0 hR hb0 hl0
  try simp only [Act.put, List.setIfInBounds_toArray, List.set_cons_succ, List.set_cons_zero]
  have HR := Lib.hid hR
  have HB := Lib.hid (stay HB0.out hb0)
  have HA := Lib.hid (HA0.out.below hb0 HLT0.out)
  have HBY := Lib.hid (HBY0.out.below hb0)
  have HL0 := Lib.hid hl0
  have HLT : Hid (w.heap.size < w0.heap.size) := Lib.hid (Nat.lt_trans HLT0.out hl0)
  have HG9 : Hid (w.heap.size ≤ w9.heap.size) := Lib.hid HB0.out.size
  generalize w9.heap.size = r at *
  clear hR hb0 hl0 HA0 HB0 HBY0 HLT0
  refine wpList_nil ?_
  go_upto_region 1 with fail
  refine wp_region_lit ?_
  refine takeL (.pointer (some ⟨w.heap.size, 2, none⟩)) rfl (by go_simp) ?_
  try simp only [Act.put, List.setIfInBounds_toArray, List.set_cons_succ, List.set_cons_zero]
  refine load57 HA.out.blk HAS.out rfl rfl ?_
  try simp only [Act.put, List.setIfInBounds_toArray, List.set_cons_succ, List.set_cons_zero]
  refine takeL (.int .u32 n) rfl (by go_simp) ?_
  try simp only [Act.put, List.setIfInBounds_toArray, List.set_cons_succ, List.set_cons_zero]
  refine wpList_op rfl fun K hK => ?_
  go_simp
  refine (HE.out _ HBY.out).mono ?_
  rintro e w2 ⟨rfl, hb⟩
  have HB2 := Lib.hid (stay HB.out hb)
  have HR2 := Lib.hid (HR.out.below hb HL0.out)
  have HL2 : Hid (r < w2.heap.size) := Lib.hid (Nat.lt_of_lt_of_le HL0.out hb.size)
  clear hb HB HR HA HBY HE
  refine hK _ _ ?_
  clear hK K
  try simp only [Act.put, List.setIfInBounds_toArray, List.set_cons_succ, List.set_cons_zero]
  refine takeL (.tuple #[.agg (u8s y).toArray, .int .i64 e0]) rfl (by go_simp) ?_
  try simp only [Act.put, List.setIfInBounds_toArray, List.set_cons_succ, List.set_cons_zero]
  refine takeL (.agg (u8s y).toArray) rfl (by go_simp) ?_
  try simp only [Act.put, List.setIfInBounds_toArray, List.set_cons_succ, List.set_cons_zero]
  refine takeL (.int .i64 e0) rfl (by go_simp) ?_
  try simp only [Act.put, List.setIfInBounds_toArray, List.set_cons_succ, List.set_cons_zero]
  refine alloc_g zero50 rfl ?_
  intro w3 hA hb hl
  try simp only [Act.put, List.setIfInBounds_toArray, List.set_cons_succ, List.set_cons_zero]
  refine store_all (cs := (u8s y).toArray) hA (by rw [u8s_size, HS.out]; rfl) (by rw [u8s_size, HS.out]; exact info50) (u8s_one _) rfl rfl rfl ?_
  intro w4 hD hO hlD
  try simp only [Act.put, List.setIfInBounds_toArray, List.set_cons_succ, List.set_cons_zero]
  have hbb : Below w2.heap.size w2 w4 := hb.trans (hO.below hb.size fun k hk => Nat.le_of_eq hk.symm)
  have HB4 := Lib.hid (stay HB2.out hbb)
  have HR4 := Lib.hid (HR2.out.below hbb HL2.out)
  have HD4 := Lib.hid hD
  clear hA hb hl hD hO hlD HB2 HR2 hbb
  refine takeL (.int .i64 e0) rfl (by go_simp) ?_
  try simp only [Act.put, List.setIfInBounds_toArray, List.set_cons_succ, List.set_cons_zero]
  refine wpList_nil ?_
  go_upto_region 2 with fail
  refine wp_region_lit ?_
  refine load50 (cs := (u8s y).toArray) (Blk.all HD4.out rfl) (by rw [u8s_size, HS.out]) rfl rfl ?_
  try simp only [Act.put, List.setIfInBounds_toArray, List.set_cons_succ, List.set_cons_zero]
  refine store_all (cs := (u8s y).toArray) HR4.out (by rw [u8s_size, HS.out]; rfl) (by rw [u8s_size, HS.out]; exact info50) (u8s_one _) rfl rfl rfl ?_
  intro w5 hZ hO hlZ
  try simp only [Act.put, List.setIfInBounds_toArray, List.set_cons_succ, List.set_cons_zero]
  have HB5 := Lib.hid (HB4.out.trans (hO.below HB4.out.size fun k hk => by have := HG9.out; omega))
  refine wpList_nil ?_
  go_wp2_with fail
  refine bodyPost_ret (v := .agg (u8s y).toArray) (results_cell_at rfl _ _ r 0 _ _ rfl Try.underlying50 rfl (by rw [u8s_size, HS.out]; exact info50) (Blk.all hZ rfl)) rfl ⟨rfl, HB5.out⟩
theorem ItemsAt.len {w : World} {sv : Value} {l : List (It × Value)} (h : ItemsAt w sv l) : Len sv l.length := let ⟨a, cap, h, _⟩ := h; ⟨a, cap, h⟩
def sizeOf' (L : List It) : Int := if mayBe L then ((parts L.length + blocks (marks L) : Nat) : Int) else 0
def partsN (L : List It) : Int := if mayBe L then ((parts L.length : Nat) : Int) else 0
set_option maxRecDepth 100000 in
theorem partsG_any (l : List (It × Value)) (L : List It) (hL : l.map (·.1) = L) (sv : Value) (hlen : l.length < 100000) (w : World) (h : ItemsAt w sv l) : Calls Try.prog 18 #[sv] w fun e w' => e = .returned (.int .i64 (partsN L)) ∧ Below w.heap.size w w' := by
  have HM := Lib.hid (hL ▸ mayBe_any l l.length rfl sv (by omega) w h)
  have HP := Lib.hid fun w => partsOf_any sv l.length h.len (by omega) w
  have HLN : Hid (L.length = l.length) := Lib.hid (by rw [← hL, List.length_map])
  obtain ⟨a, cap, rfl, -⟩ := h
  clear hL
  go_enter Try.func18, Try.ntmps18
  go_wp2_with fail
  refine HM.out.mono ?_
  rintro e w1 ⟨rfl, hb⟩
  have HB := Lib.hid hb
  clear hb HM
  cases hm : mayBe L
  · have HX : Hid (partsN L = 0) := Lib.hid (by unfold partsN; rw [hm]; rfl)
    go_wp2_with fail
    go_ret
    exact ⟨by rw [HX.out]; rfl, HB.out⟩
  · have HX : Hid (partsN L = ((parts l.length : Nat) : Int)) := Lib.hid (by unfold partsN; rw [hm, HLN.out]; rfl)
    go_wp2_with fail
    refine (HP.out _).mono ?_
    rintro e w2 ⟨rfl, rfl⟩
    go_wp2_with fail
    go_ret
    exact ⟨by rw [HX.out]; rfl, HB.out⟩
set_option maxRecDepth 100000 in
theorem sizeG_any (l : List (It × Value)) (L : List It) (hL : l.map (·.1) = L) (sv : Value) (hlen : l.length < 100000) (w : World) (h : ItemsAt w sv l) : Calls Try.prog 16 #[sv] w fun e w' => e = .returned (.int .i64 (sizeOf' L)) ∧ Below w.heap.size w w' := by
  have HM := Lib.hid (hL ▸ mayBe_any l l.length rfl sv (by omega) w h)
  have HP := Lib.hid fun w => partsOf_any sv l.length h.len (by omega) w
  have HK := Lib.hid fun w h => gmarks_any l L hL l.length rfl sv hlen w h
  have HLN : Hid (L.length = l.length) := Lib.hid (by rw [← hL, List.length_map])
  have HI := Lib.hid h
  have HBL := Lib.hid fun tv w h => blocks_any tv (marks L) (by rw [List.length_map, HLN.out]; omega) w h
  have hbl := blocks_le (marks L)
  rw [List.length_map, HLN.out] at hbl
  have hpp : parts l.length ≤ l.length + 1 := by unfold parts; omega
  obtain ⟨pn, hpn⟩ : ∃ n, parts l.length = n := ⟨_, rfl⟩
  obtain ⟨bn, hbn⟩ : ∃ n, blocks (marks L) = n := ⟨_, rfl⟩
  rw [hpn] at HP hpp
  rw [hbn] at HBL hbl
  have HPN := Lib.hid hpn
  have HBN := Lib.hid hbn
  clear hpn hbn
  obtain ⟨a, cap, rfl, -⟩ := h
  clear hL
  go_enter Try.func16, Try.ntmps16
  go_wp2_with fail
  refine HM.out.mono ?_
  rintro e w1 ⟨rfl, hb⟩
  have HB := Lib.hid hb
  have HI1 := Lib.hid (HI.out.below hb)
  clear hb HM
  cases hm : mayBe L
  · have HX : Hid (sizeOf' L = 0) := Lib.hid (by unfold sizeOf'; rw [hm]; rfl)
    go_wp2_with fail
    go_ret
    exact ⟨by rw [HX.out]; rfl, HB.out⟩
  · have HX : Hid (sizeOf' L = ((parts L.length + blocks (marks L) : Nat) : Int)) := Lib.hid (by unfold sizeOf'; rw [hm]; rfl)
    go_wp2_with fail
    refine (HP.out _).mono ?_
    rintro e w2 ⟨rfl, rfl⟩
    go_wp2_with fail
    refine (HK.out _ HI1.out).mono ?_
    rintro e w2 ⟨cap2, rfl, hm2, hb⟩
    have HM2 := Lib.hid hm2
    have HB2 := Lib.hid (stay HB.out hb)
    clear hm2 hb
    go_wp2_with fail
    refine (HBL.out _ _ HM2.out).mono ?_
    rintro e w3 ⟨rfl, hb⟩
    have HB3 := Lib.hid (stay HB2.out hb)
    clear hb
    go_wp2_with fail
    go_ret
    exact ⟨by rw [HX.out, HLN.out, HPN.out, HBN.out]; rfl, HB3.out⟩

end Go.Proofs.Ytbhaifdhmfmeoaa
