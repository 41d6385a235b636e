/- Gk: texts of elder seats turned: what the stage needs of them. -/
import Derived.Test.YtmlniannilnmhaaGreatDoorGj
import Derived.Test.YtmlniannilnmhaaGreatDoorGc
import Derived.BigQuiet
import Derived.Deep.QuietTactic
import Derived.RegionTactic
namespace Go.Proofs.YtmlniannilnmhaaGreatDoor
set_option linter.unusedSimpArgs false
set_option linter.unusedVariables false
open Go.RowKit

theorem It.split (x : It) (sv : Value) : x.cells sv = (.int .i64 x.mark.1 :: .int .i64 x.mark.2 :: .int .i64 x.blk.kind :: .int .i64 x.blk.id :: (u8s x.blk.page ++ [.int .i64 x.blk.off])) ++ sv :: (.int .i64 x.blk.prev :: i64s x.blk.heads) := by simp [It.cells, Bk.cells]
theorem It.at37 {x : It} (h : x.Wf) (sv : Value) : (x.cells sv)[37]? = some sv := by
  have hp := h.b.page
  rw [It.split, List.getElem?_append_right (by simp [hp])]
  simp [hp]
theorem It.set37 {x : It} (h : x.Wf) (sv tv : Value) : (x.cells sv).set 37 tv = x.cells tv := by
  have hp := h.b.page
  rw [It.split, It.split, List.set_append_right _ _ (by simp [hp])]
  simp [hp]
theorem lit0B (w : World) (B : Nat) (hB : B ≤ w.heap.size) : Own (w.alloc (.cells #[] 5)) B (.slice (some ⟨w.heap.size, 0, none⟩) 0 0) [] := Own.lit w B hB [] (by simp) #[] (by simp)
theorem Own.only1 {w w' : World} {B t : Nat} {sv : Value} {l : List Int} (h : Own w B sv l) (ho : Only (fun k => k = t) w w') (ht : t < B) : Own w' B sv l := by
  refine ⟨h.1, ?_⟩
  rcases h.2 with hn | ⟨g, cap, cur, e, hB, hg, r⟩
  · exact .inl hn
  · exact .inr ⟨g, cap, cur, e, hB, (ho.block g (Array.getElem?_eq_some_iff.1 hg).1 (by omega)).trans hg, r⟩
set_option maxRecDepth 100000 in
theorem kown_any (x : It) (sv : Value) (hw : x.Wf) (hl : x.blk.bytes.length ≤ 1000) (w : World) (h : BytesAt w sv x.blk.bytes) : Calls Tryz.prog 47 #[.agg (x.arr sv)] w fun e w' => ∃ tv, e = .returned (.agg (x.arr tv)) ∧ Own w' w.heap.size tv x.blk.bytes ∧ Below w.heap.size w w' := by
  obtain ⟨sa, sc, hs⟩ : ∃ a c, sv = .slice a x.blk.bytes.length c := by
    obtain ⟨a, c, e, -⟩ := h
    exact ⟨a, c, e⟩
  subst hs
  have HH := Lib.hid h
  have HW := Lib.hid hw
  have HLN := Lib.hid hl
  clear h hw hl
  go_enter Tryz.func47, Tryz.ntmps47
  go_upto_region 0 with fail
  refine wp_region_lit ?_
  refine box_g (cs := x.arr (.slice sa x.blk.bytes.length sc)) rfl rfl ?_
  intro w1 hB hb hlt
  try simp only [Act.put, List.setIfInBounds_toArray, List.set_cons_succ, List.set_cons_zero]
  have HB1 := Lib.hid hB
  have HL1 := Lib.hid hb
  have HT1 := Lib.hid hlt
  clear hB hb hlt
  refine alloc_g zero102b rfl ?_
  intro w2 hA hb hlt
  try simp only [Act.put, List.setIfInBounds_toArray, List.set_cons_succ, List.set_cons_zero]
  have HA := Lib.hid hA
  have HB2 := Lib.hid (HB1.out.below hb HT1.out)
  have HL2 := Lib.hid (stay HL1.out hb)
  have HT2 := Lib.hid hlt
  have HT3 := Lib.hid HL1.out.size
  clear hA hb hlt HB1 HL1
  refine wpList_nil ?_
  go_upto_region 1 with fail
  refine wp_region_lit ?_
  refine wpList_run (.slice (some ⟨w2.heap.size, 0, none⟩) 0 0) (w2.alloc (.cells #[] 5)) rfl (by go_simp) ?_
  try simp only [Act.put, List.setIfInBounds_toArray, List.set_cons_succ, List.set_cons_zero]
  have HO := Lib.hid (lit0B w2 w2.heap.size (Nat.le_refl _))
  have HL3 := Lib.hid (alloc_bel w2 (.cells #[] 5))
  generalize w2.alloc (.cells #[] 5) = w3 at *
  have c37 : w3.cell? ⟨w.heap.size, 37, none⟩ = some (.slice sa x.blk.bytes.length sc) := by
    refine (HB2.out.below HL3.out HB2.out.lt).cell ?_
    simpa [It.arr] using It.at37 HW.out (.slice sa x.blk.bytes.length sc)
  refine takeL (.pointer (some ⟨w.heap.size, 2, none⟩)) rfl (by go_simp) ?_
  try simp only [Act.put, List.setIfInBounds_toArray, List.set_cons_succ, List.set_cons_zero]
  refine takeL (.pointer (some ⟨w.heap.size, 37, none⟩)) rfl (by go_simp) ?_
  try simp only [Act.put, List.setIfInBounds_toArray, List.set_cons_succ, List.set_cons_zero]
  refine takeL (.slice sa x.blk.bytes.length sc) rfl (by go_simp) ?_
  try simp only [Act.put, List.setIfInBounds_toArray, List.set_cons_succ, List.set_cons_zero]
  refine app_L HO.out HL3.out.size ((HH.out.below HL2.out).below HL3.out) (by have := HLN.out; simp only [List.length_nil]; omega) rfl rfl rfl ?_
  intro tv w4 ho hb4
  try simp only [Act.put, List.setIfInBounds_toArray, List.set_cons_succ, List.set_cons_zero]
  rw [List.nil_append] at ho
  have HO4 := Lib.hid ho
  have HL4 := Lib.hid (HL3.out.trans hb4)
  clear ho hb4 c37 HO HL3
  have hb5 := HB2.out.below HL4.out HB2.out.lt
  have c37 : w4.cell? ⟨w.heap.size, 37, none⟩ = some (.slice sa x.blk.bytes.length sc) := by
    refine hb5.cell ?_
    simpa [It.arr] using It.at37 HW.out (.slice sa x.blk.bytes.length sc)
  have hf := hb5.frozen 37
  have HB5 := Lib.hid hb5
  clear hb5
  obtain ⟨ta, tc, htv⟩ : ∃ ta tc, tv = .slice ta x.blk.bytes.length tc := by
    obtain ⟨a, c, e, -⟩ := HO4.out.bytes
    exact ⟨a, c, e⟩
  subst htv
  refine takeL (.pointer (some ⟨w.heap.size, 2, none⟩)) rfl (by go_simp) ?_
  try simp only [Act.put, List.setIfInBounds_toArray, List.set_cons_succ, List.set_cons_zero]
  refine takeL (.pointer (some ⟨w.heap.size, 37, none⟩)) rfl (by go_simp) ?_
  try simp only [Act.put, List.setIfInBounds_toArray, List.set_cons_succ, List.set_cons_zero]
  have HO5 : Hid (Only (fun k => k = w.heap.size) w4 (w4.setCell ⟨w.heap.size, 37, none⟩ (.slice ta x.blk.bytes.length tc))) := Lib.hid ((Only.refl (fun k => k = w.heap.size) w4).setCell (p := ⟨w.heap.size, 37, none⟩) (.inl rfl) _)
  have HB6 : Hid (Blk (w4.setCell ⟨w.heap.size, 37, none⟩ (.slice ta x.blk.bytes.length tc)) w.heap.size (x.arr (.slice ta x.blk.bytes.length tc)).toList) := Lib.hid (by
    have := HB5.out.set 37 (.slice ta x.blk.bytes.length tc)
    have e : (x.arr (.slice sa x.blk.bytes.length sc)).toList.set 37 (.slice ta x.blk.bytes.length tc) = (x.arr (.slice ta x.blk.bytes.length tc)).toList := by
      simp only [It.arr]
      exact It.set37 HW.out _ _
    rwa [e] at this)
  have HO6 := Lib.hid (HO4.out.only1 HO5.out (by have := HB2.out.lt; omega))
  have HA5 := Lib.hid ((HA.out.below HL4.out HA.out.lt).only HO5.out (by have := HT1.out; omega))
  have HW5 := Lib.hid ((stay HL2.out HL4.out).trans (HO5.out.below (B := w.heap.size) (Nat.le_trans HL2.out.size HL4.out.size) fun k hk => by omega))
  go_upto_region 2 with fail
  generalize w4.setCell ⟨w.heap.size, 37, none⟩ (.slice ta x.blk.bytes.length tc) = w5 at *
  refine wp_region_lit ?_
  refine load102 (g := w.heap.size) (off := 0) (cs := x.arr (.slice ta x.blk.bytes.length tc)) (HB6.out.all rfl) (x.arr_size HW.out _) rfl rfl ?_
  try simp only [Act.put, List.setIfInBounds_toArray, List.set_cons_succ, List.set_cons_zero]
  refine store_all (cs := x.arr (.slice ta x.blk.bytes.length tc)) HA5.out (same102 It.none_wf HW.out _ _) (info102s HW.out _) (It.arr_one rfl) rfl rfl rfl ?_
  intro w6 hD hO hlD
  try simp only [Act.put, List.setIfInBounds_toArray, List.set_cons_succ, List.set_cons_zero]
  have HO7 := Lib.hid (HO6.out.only1 hO (by have := HT2.out; omega))
  have HW6 := Lib.hid (HW5.out.trans (hO.below HW5.out.size fun k hk => by have := HT3.out; omega))
  refine wpList_nil ?_
  go_wp2_with fail
  refine bodyPost_ret (v := .agg (x.arr (.slice ta x.blk.bytes.length tc))) (results_cell_at rfl _ _ w1.heap.size 0 _ _ rfl Tryz.underlying102 rfl (info102s HW.out _) (hD.all rfl)) rfl ⟨_, rfl, HO7.out.mono HL2.out.size, HW6.out⟩
theorem Own.fresh {w : World} {B : Nat} {sv : Value} {l : List Int} (h : Own w B sv l) : Fresh B sv := fun b o n c e => (h.lt b (by rw [e]; rfl)).1
/-- What the reference's Good says. -/
def GoodC (sv : Value) (l : List (It × Value)) (L : List It) : Prop := ∀ w, ItemsAt w sv l → Calls Tryz.prog 55 #[sv] w fun e w' => e = .returned (.bool (mayBe L)) ∧ Below w.heap.size w w'
set_option maxRecDepth 100000 in
theorem rparts_of (l : List (It × Value)) (L : List It) (hL : l.map (·.1) = L) (sv : Value) (HG : GoodC sv l L) (w : World) (h : ItemsAt w sv l) : Calls Tryz.prog 36 #[sv] w fun e w' => e = .returned (.int .i64 (partsN L)) ∧ Below w.heap.size w w' := by
  obtain ⟨a, c, hs⟩ := items_one h
  subst hs
  have HH := Lib.hid h
  have HGG := Lib.hid HG
  have hlen : L.length = l.length := by rw [← hL, List.length_map]
  clear h HG hL
  cases hm : mayBe L
  · have hp : partsN L = 0 := by unfold partsN; rw [hm]; rfl
    rw [hp]
    have HGW := HGG.out w HH.out
    rw [hm] at HGW
    have HGX := Lib.hid HGW
    clear HGW hm hp
    go_enter Tryz.func36, Tryz.ntmps36
    go_wp2_with fail
    refine HGX.out.mono ?_
    rintro e w2 ⟨rfl, hb⟩
    have HB := Lib.hid hb
    clear hb
    go_wp2_with fail
    go_ret
    exact ⟨rfl, HB.out⟩
  · have h64 := (mayBe_iff.1 hm).2.1
    obtain ⟨N, hN⟩ : ∃ N, l.length = N := ⟨_, rfl⟩
    rw [hlen, hN] at h64
    have hp : partsN L = (parts N : Int) := by unfold partsN; rw [hm, if_pos rfl, hlen, hN]
    rw [hp]
    have HGW := HGG.out w HH.out
    rw [hm] at HGW
    rw [hN] at HGW ⊢
    have HGX := Lib.hid HGW
    obtain ⟨P, hP⟩ : ∃ P, parts N = P := ⟨_, rfl⟩
    have gp2 : ((N : Int) + 23) / 24 = (P : Int) := by rw [← hP]; unfold parts; omega
    have hP3 : P ≤ 4 := by rw [← hP]; unfold parts; omega
    have gp3 : IntKind.i64.wrap (((N : Int) + 23).tdiv 24) = (P : Int) := by rw [Int.tdiv_eq_ediv_of_nonneg (by omega), gp2]; exact wrap64 (by omega) (by omega)
    have gp4 : IntKind.i64.wrap ((N : Int) + 23) = (N : Int) + 23 := wrap64 (by omega) (by omega)
    rw [hP]
    clear HGW hm hp hP hN hlen
    go_enter Tryz.func36, Tryz.ntmps36
    go_wp2_with fail
    refine HGX.out.mono ?_
    rintro e w2 ⟨rfl, hb⟩
    have HB := Lib.hid hb
    clear hb
    go_wp2_with fail
    go_ret
    exact ⟨rfl, HB.out⟩
theorem slot_eq {a b : Mk} (ha : okMark a = true) (hb : okMark b = true) : slotOf a = slotOf b ↔ (a.2 = b.2 ∧ (a.1 = 3 ↔ b.1 = 3)) := by
  have h1 := okMark_iff.1 ha
  have h2 := okMark_iff.1 hb
  unfold slotOf
  split <;> split <;> omega
theorem zero100t : (Tryz.prog.info? 100).bind (·.zero) = some (.agg (Bk.none.arr (.slice none 0 0))) := by kernel_rfl
theorem none_not_any {l : List It} {k : Nat} {x : It} (h : ∀ y ∈ l.take k, slotOf y.mark ≠ slotOf x.mark) : ((l.take k).any fun y => decide (slotOf y.mark = slotOf x.mark)) = false := by
  rw [← Bool.not_eq_true, List.any_eq_true]
  rintro ⟨y, hy, e⟩
  exact h y hy (of_decide_eq_true e)
theorem none_any {l : List It} {j k : Nat} {x y : It} (hy : l[j]? = some y) (hj : j < k) (e : slotOf y.mark = slotOf x.mark) : ((l.take k).any fun y => decide (slotOf y.mark = slotOf x.mark)) = true := by
  rw [List.any_eq_true]
  refine ⟨y, ?_, decide_eq_true e⟩
  exact List.mem_of_getElem? (i := j) (by rw [List.getElem?_take, if_pos hj]; exact hy)
theorem BAt.ofBlk {w : World} {g : Nat} {b : Bk} {sv : Value} (h : Blk w g (b.arr sv).toList) (hw : b.Wf) : BAt w g b sv := ⟨by simpa [Bk.arr] using h, hw⟩
theorem neq98 (w : World) (l m : List Int) (hl : l.length = 8) (hm : m.length = 8) : (binOp .neq 98 (.agg (i64s l).toArray) (.agg (i64s m).toArray)).run Tryz.prog w = .ok (.bool (!decide (l = m))) w := by
  obtain ⟨i, hi, hs⟩ := size_of info3
  exact run_neq_ints w 98 3 8 .i64 .i64 i l m Tryz.underlying98 Tryz.underlying3 hi hs hl hm
theorem same100 {b c : Bk} (h : b.Wf) (k : c.Wf) (sv cv : Value) : (b.cells sv).length = (c.arr cv).size := by rw [Bk.cells_length h, Bk.arr_size k]
set_option maxRecDepth 100000 in
set_option maxHeartbeats 4000000 in
theorem rgoodG_any (l : List (It × Value)) (n : Nat) (hn : l.length = n) (sv : Value) (hlen : n ≤ 1000000) (w : World) (h : ItemsAt w sv l) : Calls Tryz.prog 55 #[sv] w fun e w' => e = .returned (.bool (mayBe (l.map (·.1)))) ∧ Below w.heap.size w w' := by
  obtain ⟨L, hL⟩ : ∃ L, l.map (·.1) = L := ⟨_, rfl⟩
  have hLn : L.length = n := by rw [← hL, List.length_map, hn]
  rw [hL]
  by_cases h1 : n < 1
  · obtain ⟨a, cap, rfl, -⟩ := h
    have HX : Hid (mayBe L = false) := Lib.hid (by rw [← Bool.not_eq_true, mayBe_iff]; omega)
    rw [HX.out, hn]
    have d1 : decide ((n : Int) < 1) = true := decide_eq_true (by omega)
    clear hn hL hLn h1
    go_enter Tryz.func55, Tryz.ntmps55
    go_wp2_with fail
    go_ret
    exact ⟨rfl, Below.refl _ _⟩
  by_cases h2 : 64 < n
  · obtain ⟨a, cap, rfl, -⟩ := h
    have HX : Hid (mayBe L = false) := Lib.hid (by rw [← Bool.not_eq_true, mayBe_iff]; omega)
    rw [HX.out, hn]
    have d1 : decide ((n : Int) < 1) = false := decide_eq_false (by omega)
    have d2 : decide (64 < (n : Int)) = true := decide_eq_true (by omega)
    clear hn hL hLn h1 h2
    go_enter Tryz.func55, Tryz.ntmps55
    go_wp2_with fail
    go_ret
    exact ⟨rfl, Below.refl _ _⟩
  obtain ⟨g, o, cap, rfl, hcap, hg, hc⟩ := h.has (by omega)
  rw [hn]
  have d1 : decide ((n : Int) < 1) = false := decide_eq_false (by omega)
  have d2 : decide (64 < (n : Int)) = false := decide_eq_false (by omega)
  have HC := Lib.hid hc
  have HG := Lib.hid hg
  have HL := Lib.hid hL
  have HLN := Lib.hid hLn
  have HN := Lib.hid hn
  have hn64 : (n : Int) ≤ 64 := by omega
  have HN1 : Hid (1 ≤ n) := Lib.hid (by omega)
  clear hc hg hL hLn hn h1 h2 h hcap hlen
  go_enter Tryz.func55, Tryz.ntmps55
  go_wp2_with fail
  go_loopg [3] n (fun q i wr => ∃ k : Nat, n - k ≤ q ∧ k ≤ n ∧ i = .int .i64 k ∧ okTo L k ∧ Below w.heap.size w wr)
  case atStart => exact ⟨0, by omega, by omega, rfl, okTo_zero L, Below.refl _ _⟩
  case round =>
    obtain ⟨k, hq, hk, rfl, hok, hb⟩ := hrel
    have HOK := Lib.hid hok
    have HB := Lib.hid hb
    clear hok hb
    by_cases hlt : k < n
    · obtain ⟨xv, hx⟩ : ∃ x, l[k]? = some x := ⟨_, List.getElem?_eq_getElem (by have := HN.out; omega)⟩
      obtain ⟨x, bv⟩ := xv
      obtain ⟨x1, x2, x3⟩ := HC.out k _ hx
      have HLX : Hid (L[k]? = some x) := Lib.hid (by rw [← HL.out, List.getElem?_map, hx]; rfl)
      have HW := Lib.hid x1
      have HLE := Lib.hid x2.len
      have HX := Lib.hid (x3.below HB.out HG.out)
      have HM := Lib.hid fun w => rmark_any x.mark.1 x.mark.2 w
      have HF := Lib.hid fun w => rgood_any x.blk bv x2.len x1.b w
      have gk : decide ((k : Int) < (n : Int)) = true := decide_eq_true (by omega)
      have hk0 : (k : Int) < (n : Int) := by omega
      clear x1 x2 x3 hx
      go_upto_region 6 with fail
      refine wp_region_lit ?_
      refine takeL (.slice (some ⟨g, o, none⟩) n cap) rfl (by go_simp) ?_
      try simp only [Act.put, List.setIfInBounds_toArray, List.set_cons_succ, List.set_cons_zero]
      refine takeL (.int .i64 k) rfl (by go_simp) ?_
      try simp only [Act.put, List.setIfInBounds_toArray, List.set_cons_succ, List.set_cons_zero]
      refine takeL (.pointer (some ⟨g, o + k * 47, none⟩)) rfl (by go_simp) ?_
      try simp only [Act.put, List.setIfInBounds_toArray, List.set_cons_succ, List.set_cons_zero]
      refine load102 HX.out (x.arr_size HW.out bv) rfl rfl ?_
      try simp only [Act.put, List.setIfInBounds_toArray, List.set_cons_succ, List.set_cons_zero]
      refine alloc_g zero102b rfl ?_
      intro w1 hA hb hl
      try simp only [Act.put, List.setIfInBounds_toArray, List.set_cons_succ, List.set_cons_zero]
      refine store_all (cs := x.arr bv) hA (same102 It.none_wf HW.out _ _) (info102s HW.out _) (It.arr_one (slice_one HLE.out)) rfl rfl rfl ?_
      intro w2 hD hO hlD
      try simp only [Act.put, List.setIfInBounds_toArray, List.set_cons_succ, List.set_cons_zero]
      have hbb : Below wr.heap.size wr w2 := hb.trans (hO.below hb.size fun k hk => Nat.le_of_eq hk.symm)
      have HB2 := Lib.hid (stay HB.out hbb)
      have HA2 := Lib.hid (ItAt.of (x := x) (sv := bv) (w := w2) (g := wr.heap.size) (off := 0) (hD.all rfl))
      have HLT : Hid (wr.heap.size < w2.heap.size) := Lib.hid (by omega)
      generalize wr.heap.size = t at *
      clear hA hb hl hD hO hlD hbb HX HB
      refine wpList_nil ?_
      have c0 : w2.cell? ⟨t, 0, none⟩ = some (.int .i64 x.mark.1) := HA2.out.c0
      have c1 : w2.cell? ⟨t, 1, none⟩ = some (.int .i64 x.mark.2) := HA2.out.c1
      go_wp2_with fail
      refine (HM.out _).mono ?_
      rintro e w3 ⟨rfl, hb⟩
      have HB3 := Lib.hid (stay HB2.out hb)
      have HA3 := Lib.hid (HA2.out.below hb HLT.out)
      have HLT3 : Hid (t < w3.heap.size) := Lib.hid (Nat.lt_of_lt_of_le HLT.out hb.size)
      clear hb HB2 HA2 HLT c0 c1 HM
      have HMI : Hid (okMark (x.mark.1, x.mark.2) = okMark x.mark) := Lib.hid rfl
      rw [HMI.out]
      cases hm : okMark x.mark
      · have HX : Hid (mayBe L = false) := Lib.hid (no_ok HLX.out (by unfold It.ok; rw [hm]; rfl))
        go_wp2_with fail
        go_ret
        exact ⟨ret_bool HX.out.symm, HB3.out⟩
      have HMK := Lib.hid hm
      clear hm HMI
      go_upto_region 9 with fail
      refine wp_region_lit ?_
      refine takeL (.pointer (some ⟨t, 2, none⟩)) rfl (by go_simp) ?_
      try simp only [Act.put, List.setIfInBounds_toArray, List.set_cons_succ, List.set_cons_zero]
      refine load100 HA3.out.blk (Bk.arr_size HW.out.b bv) rfl rfl ?_
      try simp only [Act.put, List.setIfInBounds_toArray, List.set_cons_succ, List.set_cons_zero]
      refine alloc_g zero100t rfl ?_
      intro w4 hA hb hl
      try simp only [Act.put, List.setIfInBounds_toArray, List.set_cons_succ, List.set_cons_zero]
      refine store_all (cs := x.blk.arr bv) hA (same100 none_wf HW.out.b _ _) (info100s HW.out.b _) (Bk.arr_one (slice_one HLE.out)) rfl rfl rfl ?_
      intro w5 hD hO hlD
      try simp only [Act.put, List.setIfInBounds_toArray, List.set_cons_succ, List.set_cons_zero]
      have hbb : Below w3.heap.size w3 w5 := hb.trans (hO.below hb.size fun k hk => Nat.le_of_eq hk.symm)
      have HB5 := Lib.hid (stay HB3.out hbb)
      have HA5 := Lib.hid (HA3.out.below hbb HLT3.out)
      have HD5 := Lib.hid (BAt.ofBlk hD HW.out.b)
      have HLT5 : Hid (t < w5.heap.size) := Lib.hid (Nat.lt_of_lt_of_le HLT3.out hbb.size)
      generalize w3.heap.size = u at *
      clear hA hb hl hD hO hlD hbb HB3 HA3 HLT3
      refine wpList_nil ?_
      obtain ⟨xm, hxm⟩ : ∃ m, x.mark = m := ⟨_, rfl⟩
      have HXM := Lib.hid hxm
      obtain ⟨xk, xi⟩ := xm
      have HMK2 : Hid (okMark (xk, xi) = true) := Lib.hid (by rw [← HXM.out]; exact HMK.out)
      have c0 : w5.cell? ⟨t, 0, none⟩ = some (.int .i64 xk) := by have := HA5.out.c0; rwa [hxm] at this
      have c1 : w5.cell? ⟨t, 1, none⟩ = some (.int .i64 xi) := by have := HA5.out.c1; rwa [hxm] at this
      have b0 := HD5.out.c0
      have b1 := HD5.out.c1
      have HKH : Hid (x.has = decide (xk ≤ 3)) := Lib.hid (by
        have := okMark_iff.1 HMK2.out
        unfold It.has
        rw [hxm]
        unfold hasBlock
        simp only at this
        rw [Bool.eq_iff_iff]
        simp
        omega)
      clear hxm
      by_cases hk3 : xk ≤ 3
      · have g3 : decide (xk ≤ 3) = true := decide_eq_true hk3
        have HHAS : Hid (x.has = true) := Lib.hid (by rw [HKH.out]; exact g3)
        go_upto_region 11 with fail
        refine wp_region_lit ?_
        refine load100 HD5.out.all (Bk.arr_size HW.out.b bv) rfl rfl ?_
        try simp only [Act.put, List.setIfInBounds_toArray, List.set_cons_succ, List.set_cons_zero]
        clear c0 c1 b0 b1
        refine wpList_op rfl fun K hK => ?_
        go_simp
        refine (HF.out _).mono ?_
        rintro e w6 ⟨rfl, hb⟩
        have HB7 := Lib.hid (stay HB5.out hb)
        have HA7 := Lib.hid (HA5.out.below hb HLT5.out)
        have HLT7 : Hid (t < w6.heap.size) := Lib.hid (Nat.lt_of_lt_of_le HLT5.out hb.size)
        have HD7 := Lib.hid (HD5.out.below hb HD5.out.lt)
        have c0 : w6.cell? ⟨t, 0, none⟩ = some (.int .i64 xk) := by have := HA7.out.c0; rwa [HXM.out] at this
        have c1 : w6.cell? ⟨t, 1, none⟩ = some (.int .i64 xi) := by have := HA7.out.c1; rwa [HXM.out] at this
        have b0 := HD7.out.c0
        have b1 := HD7.out.c1
        clear hb HB5 HA5 HLT5 HF
        refine hK _ _ ?_
        clear hK K
        try simp only [Act.put, List.setIfInBounds_toArray, List.set_cons_succ, List.set_cons_zero]
        have HXB : Hid (x.fits = (decide (x.blk.kind = xk) && decide (x.blk.id = xi) && x.blk.good)) := Lib.hid (by unfold It.fits; rw [HHAS.out, HXM.out]; rfl)
        cases hgd : x.blk.good
        · have HX : Hid (mayBe L = false) := Lib.hid (no_ok HLX.out (by unfold It.ok; rw [HXB.out, hgd, Bool.and_false, Bool.and_false]))
          refine takeL (.bool true) rfl (by go_simp) ?_
          try simp only [Act.put, List.setIfInBounds_toArray, List.set_cons_succ, List.set_cons_zero]
          go_wp2_with fail
          go_ret
          exact ⟨ret_bool HX.out.symm, HB7.out⟩
        refine takeL (.bool false) rfl (by go_simp) ?_
        try simp only [Act.put, List.setIfInBounds_toArray, List.set_cons_succ, List.set_cons_zero]
        refine (Decidable.em (x.blk.kind = xk)).symm.elim (fun q0 => ?_) (fun q0 => ?_)
        · have HX : Hid (mayBe L = false) := Lib.hid (no_ok HLX.out (by unfold It.ok; rw [HXB.out, decide_eq_false q0]; simp))
          go_wp2_with fail
          go_ret
          exact ⟨ret_bool HX.out.symm, HB7.out⟩
        refine (Decidable.em (x.blk.id = xi)).symm.elim (fun q1 => ?_) (fun q1 => ?_)
        · have HX : Hid (mayBe L = false) := Lib.hid (no_ok HLX.out (by unfold It.ok; rw [HXB.out, decide_eq_false q1]; simp))
          go_wp2_with fail
          go_ret
          exact ⟨ret_bool HX.out.symm, HB7.out⟩
        have HOKX : Hid (x.ok = true) := Lib.hid (by unfold It.ok; rw [HXB.out, HXM.out, HMK2.out, hgd, decide_eq_true q0, decide_eq_true q1]; rfl)
        rw [q0] at b0
        rw [q1] at b1
        clear hgd q0 q1 HXB
        go_wp2_with fail
        go_loopg [6] k (fun q i wr => ∃ j : Nat, k - j ≤ q ∧ j ≤ k ∧ i = .int .i64 j ∧ (∀ y ∈ L.take j, slotOf y.mark ≠ slotOf x.mark) ∧ Below w6.heap.size w6 wr)
        case atStart => exact ⟨0, by omega, by omega, rfl, fun y hy => by simp at hy, Below.refl _ _⟩
        case round =>
          obtain ⟨j, hq2, hj, rfl, hno, hb⟩ := hrel
          have HNO := Lib.hid hno
          have HBI := Lib.hid hb
          clear hno hb
          by_cases hjk : j < k
          · have gj : decide ((j : Int) < (k : Int)) = true := decide_eq_true (by omega)
            have hj0 : (j : Int) < (k : Int) := by omega
            have hjn : (j : Int) < (n : Int) := by omega
            obtain ⟨yv, hy⟩ : ∃ y, l[j]? = some y := ⟨_, List.getElem?_eq_getElem (by have := HN.out; omega)⟩
            obtain ⟨y, cv⟩ := yv
            obtain ⟨y1, y2, y3⟩ := HC.out j _ hy
            have HLY : Hid (L[j]? = some y) := Lib.hid (by rw [← HL.out, List.getElem?_map, hy]; rfl)
            have HBA := Lib.hid (stay HB7.out HBI.out)
            have hY := ItAt.of (y3.below HBA.out HG.out)
            have hX := HA7.out.below HBI.out HLT7.out
            have e0 := hY.c0
            have e1 := hY.c1
            have f0 := hX.c0
            have f1 := hX.c1
            rw [HXM.out] at f0 f1
            have HYM : Hid (okMark y.mark = true) := Lib.hid (ok_mark (HOK.out.1 y (List.mem_of_getElem? (i := j) (by rw [List.getElem?_take, if_pos hjk]; exact HLY.out))))
            have HSE := Lib.hid (slot_eq HYM.out HMK2.out)
            obtain ⟨ym, hym⟩ : ∃ m, y.mark = m := ⟨_, rfl⟩
            have HYE := Lib.hid hym
            rw [hym] at HSE e0 e1
            obtain ⟨yk, yi⟩ := ym
            clear y1 y2 y3 hy hY hX hym
            simp only at e0 e1 f0 f1
            by_cases hid : yi = xi
            · have hidb : (yi == xi) = true := beq_iff_eq.2 hid
              have HID := Lib.hid hid
              clear hid
              by_cases hk3 : yk = 3
              · have hkb : (yk == 3) = true := beq_iff_eq.2 hk3
                have HK3 := Lib.hid hk3
                clear hk3
                by_cases hx3 : xk = 3
                · have hxb : (xk == 3) = true := beq_iff_eq.2 hx3
                  have HX : Hid (mayBe L = false) := Lib.hid (no_twice HLX.out (none_any HLY.out hjk (by rw [HYE.out, HXM.out]; exact HSE.out.2 ⟨HID.out, by rw [HK3.out]; exact ⟨fun _ => hx3, fun _ => rfl⟩⟩)))
                  clear hx3
                  go_upto_region 18 with fail
                  go_quiet (fail)
                  go_wp2_with fail
                  go_ret
                  exact ⟨ret_bool HX.out.symm, drewN_below HBA.out _⟩
                · have hxb : (xk == 3) = false := beq_eq_false_iff_ne.2 hx3
                  have HNX : Hid (slotOf (yk, yi) ≠ slotOf x.mark) := Lib.hid (by rw [HXM.out]; intro e; have h3 := HK3.out; have := (HSE.out.1 e).2; simp only at this; omega)
                  clear hx3
                  have HNN : Hid (∀ z ∈ L.take (j + 1), slotOf z.mark ≠ slotOf x.mark) := Lib.hid (by
                    intro z hz
                    rw [take_snoc HLY.out] at hz
                    rcases List.mem_append.1 hz with hz | hz
                    · exact HNO.out z hz
                    · obtain rfl := List.mem_singleton.1 hz
                      rw [HYE.out]
                      exact HNX.out)
                  go_upto_region 18 with fail
                  go_quiet (fail)
                  go_wp2_with fail
                  go_roundg (k - (j + 1))
                  case measure => omega
                  case rel => exact ⟨j + 1, by omega, by omega, by go_num, HNN.out, drewN_below HBI.out _⟩
              · have hkb : (yk == 3) = false := beq_eq_false_iff_ne.2 hk3
                by_cases hx3 : xk = 3
                · have hxb : (xk == 3) = true := beq_iff_eq.2 hx3
                  have HNX : Hid (slotOf (yk, yi) ≠ slotOf x.mark) := Lib.hid (by rw [HXM.out]; intro e; have := (HSE.out.1 e).2; simp only at this; omega)
                  clear hx3 hk3
                  have HNN : Hid (∀ z ∈ L.take (j + 1), slotOf z.mark ≠ slotOf x.mark) := Lib.hid (by
                    intro z hz
                    rw [take_snoc HLY.out] at hz
                    rcases List.mem_append.1 hz with hz | hz
                    · exact HNO.out z hz
                    · obtain rfl := List.mem_singleton.1 hz
                      rw [HYE.out]
                      exact HNX.out)
                  go_upto_region 18 with fail
                  go_quiet (fail)
                  go_wp2_with fail
                  go_roundg (k - (j + 1))
                  case measure => omega
                  case rel => exact ⟨j + 1, by omega, by omega, by go_num, HNN.out, drewN_below HBI.out _⟩
                · have hxb : (xk == 3) = false := beq_eq_false_iff_ne.2 hx3
                  have HX : Hid (mayBe L = false) := Lib.hid (no_twice HLX.out (none_any HLY.out hjk (by rw [HYE.out, HXM.out]; exact HSE.out.2 ⟨HID.out, by simp [hk3, hx3]⟩)))
                  clear hx3 hk3
                  go_upto_region 18 with fail
                  go_quiet (fail)
                  go_wp2_with fail
                  go_ret
                  exact ⟨ret_bool HX.out.symm, drewN_below HBA.out _⟩
            · have hidb : (yi == xi) = false := beq_eq_false_iff_ne.2 hid
              have HNX : Hid (slotOf (yk, yi) ≠ slotOf x.mark) := Lib.hid (by rw [HXM.out]; intro e; exact hid (HSE.out.1 e).1)
              clear hid
              have HNN : Hid (∀ z ∈ L.take (j + 1), slotOf z.mark ≠ slotOf x.mark) := Lib.hid (by
                intro z hz
                rw [take_snoc HLY.out] at hz
                rcases List.mem_append.1 hz with hz | hz
                · exact HNO.out z hz
                · obtain rfl := List.mem_singleton.1 hz
                  rw [HYE.out]
                  exact HNX.out)
              go_upto_region 18 with fail
              go_quiet (fail)
              go_wp2_with fail
              go_roundg (k - (j + 1))
              case measure => omega
              case rel => exact ⟨j + 1, by omega, by omega, by go_num, HNN.out, drewN_below HBI.out _⟩
          · obtain rfl : j = k := by omega
            have gj : decide ((j : Int) < (j : Int)) = false := decide_eq_false (by omega)
            have HST := Lib.hid (okTo_step HOK.out HLX.out HOKX.out (none_not_any HNO.out))
            have HBA := Lib.hid (stay HB7.out HBI.out)
            go_wp2_with fail
            go_roundg (n - (j + 1))
            case measure => omega
            case rel => exact ⟨j + 1, by omega, by omega, by go_num, HST.out, HBA.out⟩
      · have g3 : decide (xk ≤ 3) = false := decide_eq_false hk3
        have HHAS : Hid (x.has = false) := Lib.hid (by rw [HKH.out]; exact g3)
        have HXB : Hid (x.fits = x.blk.isZ) := Lib.hid (by unfold It.fits; rw [HHAS.out]; rfl)
        have HB7 := HB5
        have HA7 := HA5
        have HLT7 := HLT5
        obtain ⟨ba, bc, hbv⟩ := HLE.out
        have HHS : Hid ((i64s x.blk.heads).toArray.size = 8) := Lib.hid (by simpa using HW.out.b.heads)
        have HPS : Hid ((u8s x.blk.page).toArray.size = 32) := Lib.hid (by simpa using HW.out.b.page)
        have HE := Lib.hid fun w => neq98 w x.blk.heads (zeros 8) HW.out.b.heads (zeros_length 8)
        have HP := Lib.hid fun w => neq96 w x.blk.page (zeros 32) HW.out.b.page (zeros_length 32)
        have b34 := HD5.out.c34
        have b35 := HD5.out.c35.trans (congrArg some hbv)
        have b36 := HD5.out.c36
        clear hbv HB5 HA5 HLT5 HF
        go_upto_region 13 with fail
        refine wp_region_lit ?_
        refine takeL (.pointer (some ⟨u, 0, none⟩)) rfl (by go_simp) ?_
        try simp only [Act.put, List.setIfInBounds_toArray, List.set_cons_succ, List.set_cons_zero]
        refine takeL (.int .i64 x.blk.kind) rfl (by go_simp) ?_
        try simp only [Act.put, List.setIfInBounds_toArray, List.set_cons_succ, List.set_cons_zero]
        refine (Decidable.em (x.blk.kind = 0)).symm.elim (fun z0 => ?_) (fun z0 => ?_)
        · have HX : Hid (mayBe L = false) := Lib.hid (no_ok HLX.out (by unfold It.ok; rw [HXB.out]; simp [Bk.isZ, z0]))
          refine takeL (.bool true) rfl (by go_simp) ?_
          try simp only [Act.put, List.setIfInBounds_toArray, List.set_cons_succ, List.set_cons_zero]
          go_wp2_with fail
          go_ret
          exact ⟨ret_bool HX.out.symm, HB7.out⟩
        refine takeL (.bool false) rfl (by go_simp) ?_
        try simp only [Act.put, List.setIfInBounds_toArray, List.set_cons_succ, List.set_cons_zero]
        refine takeL (.bool false) rfl (by go_simp) ?_
        try simp only [Act.put, List.setIfInBounds_toArray, List.set_cons_succ, List.set_cons_zero]
        refine takeL (.pointer (some ⟨u, 1, none⟩)) rfl (by go_simp) ?_
        try simp only [Act.put, List.setIfInBounds_toArray, List.set_cons_succ, List.set_cons_zero]
        refine takeL (.int .i64 x.blk.id) rfl (by go_simp) ?_
        try simp only [Act.put, List.setIfInBounds_toArray, List.set_cons_succ, List.set_cons_zero]
        refine (Decidable.em (x.blk.id = 0)).symm.elim (fun z1 => ?_) (fun z1 => ?_)
        · have HX : Hid (mayBe L = false) := Lib.hid (no_ok HLX.out (by unfold It.ok; rw [HXB.out]; simp [Bk.isZ, z1]))
          refine takeL (.bool true) rfl (by go_simp) ?_
          try simp only [Act.put, List.setIfInBounds_toArray, List.set_cons_succ, List.set_cons_zero]
          go_wp2_with fail
          go_ret
          exact ⟨ret_bool HX.out.symm, HB7.out⟩
        refine takeL (.bool false) rfl (by go_simp) ?_
        try simp only [Act.put, List.setIfInBounds_toArray, List.set_cons_succ, List.set_cons_zero]
        refine takeL (.bool false) rfl (by go_simp) ?_
        try simp only [Act.put, List.setIfInBounds_toArray, List.set_cons_succ, List.set_cons_zero]
        refine takeL (.bool false) rfl (by go_simp) ?_
        try simp only [Act.put, List.setIfInBounds_toArray, List.set_cons_succ, List.set_cons_zero]
        refine takeL (.pointer (some ⟨u, 34, none⟩)) rfl (by go_simp) ?_
        try simp only [Act.put, List.setIfInBounds_toArray, List.set_cons_succ, List.set_cons_zero]
        refine takeL (.int .i64 x.blk.off) rfl (by go_simp) ?_
        try simp only [Act.put, List.setIfInBounds_toArray, List.set_cons_succ, List.set_cons_zero]
        refine (Decidable.em (x.blk.off = 0)).symm.elim (fun z2 => ?_) (fun z2 => ?_)
        · have HX : Hid (mayBe L = false) := Lib.hid (no_ok HLX.out (by unfold It.ok; rw [HXB.out]; simp [Bk.isZ, z2]))
          refine takeL (.bool true) rfl (by go_simp) ?_
          try simp only [Act.put, List.setIfInBounds_toArray, List.set_cons_succ, List.set_cons_zero]
          go_wp2_with fail
          go_ret
          exact ⟨ret_bool HX.out.symm, HB7.out⟩
        refine takeL (.bool false) rfl (by go_simp) ?_
        try simp only [Act.put, List.setIfInBounds_toArray, List.set_cons_succ, List.set_cons_zero]
        refine takeL (.bool false) rfl (by go_simp) ?_
        try simp only [Act.put, List.setIfInBounds_toArray, List.set_cons_succ, List.set_cons_zero]
        refine takeL (.bool false) rfl (by go_simp) ?_
        try simp only [Act.put, List.setIfInBounds_toArray, List.set_cons_succ, List.set_cons_zero]
        refine takeL (.pointer (some ⟨u, 36, none⟩)) rfl (by go_simp) ?_
        try simp only [Act.put, List.setIfInBounds_toArray, List.set_cons_succ, List.set_cons_zero]
        refine takeL (.int .i64 x.blk.prev) rfl (by go_simp) ?_
        try simp only [Act.put, List.setIfInBounds_toArray, List.set_cons_succ, List.set_cons_zero]
        refine (Decidable.em (x.blk.prev = 0)).symm.elim (fun z3 => ?_) (fun z3 => ?_)
        · have HX : Hid (mayBe L = false) := Lib.hid (no_ok HLX.out (by unfold It.ok; rw [HXB.out]; simp [Bk.isZ, z3]))
          refine takeL (.bool true) rfl (by go_simp) ?_
          try simp only [Act.put, List.setIfInBounds_toArray, List.set_cons_succ, List.set_cons_zero]
          go_wp2_with fail
          go_ret
          exact ⟨ret_bool HX.out.symm, HB7.out⟩
        refine takeL (.bool false) rfl (by go_simp) ?_
        try simp only [Act.put, List.setIfInBounds_toArray, List.set_cons_succ, List.set_cons_zero]
        refine takeL (.bool false) rfl (by go_simp) ?_
        try simp only [Act.put, List.setIfInBounds_toArray, List.set_cons_succ, List.set_cons_zero]
        refine takeL (.bool false) rfl (by go_simp) ?_
        try simp only [Act.put, List.setIfInBounds_toArray, List.set_cons_succ, List.set_cons_zero]
        refine takeL (.pointer (some ⟨u, 35, none⟩)) rfl (by go_simp) ?_
        try simp only [Act.put, List.setIfInBounds_toArray, List.set_cons_succ, List.set_cons_zero]
        refine takeL (.slice ba x.blk.bytes.length bc) rfl (by go_simp) ?_
        try simp only [Act.put, List.setIfInBounds_toArray, List.set_cons_succ, List.set_cons_zero]
        refine takeL (.int .i64 x.blk.bytes.length) rfl (by go_simp) ?_
        try simp only [Act.put, List.setIfInBounds_toArray, List.set_cons_succ, List.set_cons_zero]
        refine (Decidable.em (x.blk.bytes.length = 0)).symm.elim (fun z4 => ?_) (fun z4 => ?_)
        · have HX : Hid (mayBe L = false) := Lib.hid (no_ok HLX.out (by unfold It.ok; rw [HXB.out]; simp [Bk.isZ, z4]))
          refine takeL (.bool true) rfl (by go_simp) ?_
          try simp only [Act.put, List.setIfInBounds_toArray, List.set_cons_succ, List.set_cons_zero]
          go_wp2_with fail
          go_ret
          exact ⟨ret_bool HX.out.symm, HB7.out⟩
        refine takeL (.bool false) rfl (by go_simp) ?_
        try simp only [Act.put, List.setIfInBounds_toArray, List.set_cons_succ, List.set_cons_zero]
        refine takeL (.bool false) rfl (by go_simp) ?_
        try simp only [Act.put, List.setIfInBounds_toArray, List.set_cons_succ, List.set_cons_zero]
        refine takeL (.bool false) rfl (by go_simp) ?_
        try simp only [Act.put, List.setIfInBounds_toArray, List.set_cons_succ, List.set_cons_zero]
        refine takeL (.pointer (some ⟨u, 2, none⟩)) rfl (by go_simp) ?_
        try simp only [Act.put, List.setIfInBounds_toArray, List.set_cons_succ, List.set_cons_zero]
        refine load96 HD5.out.page HPS.out rfl rfl ?_
        try simp only [Act.put, List.setIfInBounds_toArray, List.set_cons_succ, List.set_cons_zero]
        refine build_g (build96 _) rfl ?_
        try simp only [Act.put, List.setIfInBounds_toArray, List.set_cons_succ, List.set_cons_zero]
        refine (Decidable.em (x.blk.page = zeros 32)).symm.elim (fun z5 => ?_) (fun z5 => ?_)
        · have HX : Hid (mayBe L = false) := Lib.hid (no_ok HLX.out (by unfold It.ok; rw [HXB.out]; simp [Bk.isZ, z5]))
          have hq := HP.out
          simp only [z5, decide_false, Bool.not_false] at hq
          refine takeL (.bool true) rfl (by go_simp) ?_
          try simp only [Act.put, List.setIfInBounds_toArray, List.set_cons_succ, List.set_cons_zero]
          go_wp2_with fail
          go_ret
          exact ⟨ret_bool HX.out.symm, HB7.out⟩
        have hq5 := HP.out
        simp only [z5, decide_true, Bool.not_true] at hq5
        refine takeL (.bool false) rfl (by go_simp) ?_
        try simp only [Act.put, List.setIfInBounds_toArray, List.set_cons_succ, List.set_cons_zero]
        clear hq5
        refine takeL (.bool false) rfl (by go_simp) ?_
        try simp only [Act.put, List.setIfInBounds_toArray, List.set_cons_succ, List.set_cons_zero]
        refine takeL (.bool false) rfl (by go_simp) ?_
        try simp only [Act.put, List.setIfInBounds_toArray, List.set_cons_succ, List.set_cons_zero]
        refine takeL (.pointer (some ⟨u, 37, none⟩)) rfl (by go_simp) ?_
        try simp only [Act.put, List.setIfInBounds_toArray, List.set_cons_succ, List.set_cons_zero]
        refine load98 HD5.out.heads HHS.out rfl rfl ?_
        try simp only [Act.put, List.setIfInBounds_toArray, List.set_cons_succ, List.set_cons_zero]
        refine build_g (build98 _) rfl ?_
        try simp only [Act.put, List.setIfInBounds_toArray, List.set_cons_succ, List.set_cons_zero]
        refine (Decidable.em (x.blk.heads = zeros 8)).symm.elim (fun z6 => ?_) (fun z6 => ?_)
        · have HX : Hid (mayBe L = false) := Lib.hid (no_ok HLX.out (by unfold It.ok; rw [HXB.out]; simp [Bk.isZ, z6]))
          have hq := HE.out
          simp only [z6, decide_false, Bool.not_false] at hq
          refine takeL (.bool true) rfl (by go_simp) ?_
          try simp only [Act.put, List.setIfInBounds_toArray, List.set_cons_succ, List.set_cons_zero]
          go_wp2_with fail
          go_ret
          exact ⟨ret_bool HX.out.symm, HB7.out⟩
        have hq6 := HE.out
        simp only [z6, decide_true, Bool.not_true] at hq6
        refine takeL (.bool false) rfl (by go_simp) ?_
        try simp only [Act.put, List.setIfInBounds_toArray, List.set_cons_succ, List.set_cons_zero]
        clear hq6
        refine takeL (.bool false) rfl (by go_simp) ?_
        try simp only [Act.put, List.setIfInBounds_toArray, List.set_cons_succ, List.set_cons_zero]
        refine wpList_nil ?_
        have HOKX : Hid (x.ok = true) := Lib.hid (by unfold It.ok; rw [HXB.out, HXM.out, HMK2.out]; simp [Bk.isZ, z0, z1, z2, z3, z4, z5, z6])
        clear z0 z1 z2 z3 z4 z5 z6 HXB HE HP b34 b35 b36
        go_wp2_with fail
        go_loopg [6] k (fun q i wr => ∃ j : Nat, k - j ≤ q ∧ j ≤ k ∧ i = .int .i64 j ∧ (∀ y ∈ L.take j, slotOf y.mark ≠ slotOf x.mark) ∧ Below w5.heap.size w5 wr)
        case atStart => exact ⟨0, by omega, by omega, rfl, fun y hy => by simp at hy, Below.refl _ _⟩
        case round =>
          obtain ⟨j, hq2, hj, rfl, hno, hb⟩ := hrel
          have HNO := Lib.hid hno
          have HBI := Lib.hid hb
          clear hno hb
          by_cases hjk : j < k
          · have gj : decide ((j : Int) < (k : Int)) = true := decide_eq_true (by omega)
            have hj0 : (j : Int) < (k : Int) := by omega
            have hjn : (j : Int) < (n : Int) := by omega
            obtain ⟨yv, hy⟩ : ∃ y, l[j]? = some y := ⟨_, List.getElem?_eq_getElem (by have := HN.out; omega)⟩
            obtain ⟨y, cv⟩ := yv
            obtain ⟨y1, y2, y3⟩ := HC.out j _ hy
            have HLY : Hid (L[j]? = some y) := Lib.hid (by rw [← HL.out, List.getElem?_map, hy]; rfl)
            have HBA := Lib.hid (stay HB7.out HBI.out)
            have hY := ItAt.of (y3.below HBA.out HG.out)
            have hX := HA7.out.below HBI.out HLT7.out
            have e0 := hY.c0
            have e1 := hY.c1
            have f0 := hX.c0
            have f1 := hX.c1
            rw [HXM.out] at f0 f1
            have HYM : Hid (okMark y.mark = true) := Lib.hid (ok_mark (HOK.out.1 y (List.mem_of_getElem? (i := j) (by rw [List.getElem?_take, if_pos hjk]; exact HLY.out))))
            have HSE := Lib.hid (slot_eq HYM.out HMK2.out)
            obtain ⟨ym, hym⟩ : ∃ m, y.mark = m := ⟨_, rfl⟩
            have HYE := Lib.hid hym
            rw [hym] at HSE e0 e1
            obtain ⟨yk, yi⟩ := ym
            clear y1 y2 y3 hy hY hX hym
            simp only at e0 e1 f0 f1
            by_cases hid : yi = xi
            · have hidb : (yi == xi) = true := beq_iff_eq.2 hid
              have HID := Lib.hid hid
              clear hid
              by_cases hk3 : yk = 3
              · have hkb : (yk == 3) = true := beq_iff_eq.2 hk3
                have HK3 := Lib.hid hk3
                clear hk3
                by_cases hx3 : xk = 3
                · have hxb : (xk == 3) = true := beq_iff_eq.2 hx3
                  have HX : Hid (mayBe L = false) := Lib.hid (no_twice HLX.out (none_any HLY.out hjk (by rw [HYE.out, HXM.out]; exact HSE.out.2 ⟨HID.out, by rw [HK3.out]; exact ⟨fun _ => hx3, fun _ => rfl⟩⟩)))
                  clear hx3
                  go_upto_region 18 with fail
                  go_quiet (fail)
                  go_wp2_with fail
                  go_ret
                  exact ⟨ret_bool HX.out.symm, drewN_below HBA.out _⟩
                · have hxb : (xk == 3) = false := beq_eq_false_iff_ne.2 hx3
                  have HNX : Hid (slotOf (yk, yi) ≠ slotOf x.mark) := Lib.hid (by rw [HXM.out]; intro e; have h3 := HK3.out; have := (HSE.out.1 e).2; simp only at this; omega)
                  clear hx3
                  have HNN : Hid (∀ z ∈ L.take (j + 1), slotOf z.mark ≠ slotOf x.mark) := Lib.hid (by
                    intro z hz
                    rw [take_snoc HLY.out] at hz
                    rcases List.mem_append.1 hz with hz | hz
                    · exact HNO.out z hz
                    · obtain rfl := List.mem_singleton.1 hz
                      rw [HYE.out]
                      exact HNX.out)
                  go_upto_region 18 with fail
                  go_quiet (fail)
                  go_wp2_with fail
                  go_roundg (k - (j + 1))
                  case measure => omega
                  case rel => exact ⟨j + 1, by omega, by omega, by go_num, HNN.out, drewN_below HBI.out _⟩
              · have hkb : (yk == 3) = false := beq_eq_false_iff_ne.2 hk3
                by_cases hx3 : xk = 3
                · have hxb : (xk == 3) = true := beq_iff_eq.2 hx3
                  have HNX : Hid (slotOf (yk, yi) ≠ slotOf x.mark) := Lib.hid (by rw [HXM.out]; intro e; have := (HSE.out.1 e).2; simp only at this; omega)
                  clear hx3 hk3
                  have HNN : Hid (∀ z ∈ L.take (j + 1), slotOf z.mark ≠ slotOf x.mark) := Lib.hid (by
                    intro z hz
                    rw [take_snoc HLY.out] at hz
                    rcases List.mem_append.1 hz with hz | hz
                    · exact HNO.out z hz
                    · obtain rfl := List.mem_singleton.1 hz
                      rw [HYE.out]
                      exact HNX.out)
                  go_upto_region 18 with fail
                  go_quiet (fail)
                  go_wp2_with fail
                  go_roundg (k - (j + 1))
                  case measure => omega
                  case rel => exact ⟨j + 1, by omega, by omega, by go_num, HNN.out, drewN_below HBI.out _⟩
                · have hxb : (xk == 3) = false := beq_eq_false_iff_ne.2 hx3
                  have HX : Hid (mayBe L = false) := Lib.hid (no_twice HLX.out (none_any HLY.out hjk (by rw [HYE.out, HXM.out]; exact HSE.out.2 ⟨HID.out, by simp [hk3, hx3]⟩)))
                  clear hx3 hk3
                  go_upto_region 18 with fail
                  go_quiet (fail)
                  go_wp2_with fail
                  go_ret
                  exact ⟨ret_bool HX.out.symm, drewN_below HBA.out _⟩
            · have hidb : (yi == xi) = false := beq_eq_false_iff_ne.2 hid
              have HNX : Hid (slotOf (yk, yi) ≠ slotOf x.mark) := Lib.hid (by rw [HXM.out]; intro e; exact hid (HSE.out.1 e).1)
              clear hid
              have HNN : Hid (∀ z ∈ L.take (j + 1), slotOf z.mark ≠ slotOf x.mark) := Lib.hid (by
                intro z hz
                rw [take_snoc HLY.out] at hz
                rcases List.mem_append.1 hz with hz | hz
                · exact HNO.out z hz
                · obtain rfl := List.mem_singleton.1 hz
                  rw [HYE.out]
                  exact HNX.out)
              go_upto_region 18 with fail
              go_quiet (fail)
              go_wp2_with fail
              go_roundg (k - (j + 1))
              case measure => omega
              case rel => exact ⟨j + 1, by omega, by omega, by go_num, HNN.out, drewN_below HBI.out _⟩
          · obtain rfl : j = k := by omega
            have gj : decide ((j : Int) < (j : Int)) = false := decide_eq_false (by omega)
            have HST := Lib.hid (okTo_step HOK.out HLX.out HOKX.out (none_not_any HNO.out))
            have HBA := Lib.hid (stay HB7.out HBI.out)
            go_wp2_with fail
            go_roundg (n - (j + 1))
            case measure => omega
            case rel => exact ⟨j + 1, by omega, by omega, by go_num, HST.out, HBA.out⟩
    · obtain rfl : k = n := by omega
      have HX : Hid (mayBe L = true) := Lib.hid (may_all (by have := HLN.out; have := HN1.out; omega) (by have := HLN.out; omega) (by have := HLN.out; rw [this]; exact HOK.out))
      have gk : decide ((k : Int) < (k : Int)) = false := decide_eq_false (by omega)
      go_wp2_with fail
      go_ret
      exact ⟨ret_bool HX.out.symm, HB.out⟩

end Go.Proofs.YtmlniannilnmhaaGreatDoor
