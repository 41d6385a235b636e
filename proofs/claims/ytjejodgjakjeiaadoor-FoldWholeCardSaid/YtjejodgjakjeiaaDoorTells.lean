/- The statement FoldTells's walk: whatever the blocks, the call returns true. -/
import Derived.Test.YtjejodgjakjeiaaDoorWakes
namespace Go.Proofs.YtjejodgjakjeiaaDoor
set_option linter.unusedSimpArgs false
set_option linter.unusedVariables false
open Go.RowKit

theorem Bk.set35 {b : Bk} (h : b.Wf) (sv cv : Value) : (b.cells sv).set 35 cv = b.cells cv := by
  unfold Bk.cells
  simp only [List.set_cons_succ]
  rw [List.set_append_right _ _ (by simp [h.page])]
  simp [h.page]
/-- Bytes that lie in a row of bytes. -/
structure Row5 (w : World) (sv : Value) (l : List Int) : Prop where
  bytes : BytesAt w sv l
  row : ∀ b o n c, sv = .slice (some ⟨b, o, none⟩) n c → 0 < l.length → ∃ cur fz, w.heap[b]? = some (Obj.cells cur 5 fz)
theorem Own.row5 {w : World} {B : Nat} {sv : Value} {l : List Int} (h : Own w B sv l) : Row5 w sv l := ⟨h.bytes, fun b o n c e hl => by
  rcases h.2 with ⟨e2, -⟩ | ⟨g, cap, cur, e2, -, hg, -⟩
  · rw [e] at e2; cases e2
  · rw [e] at e2; cases e2; exact ⟨_, _, hg⟩⟩
theorem Row5.only {w w' : World} {sv : Value} {l : List Int} {t : Nat} (h : Row5 w sv l) (ho : Only (fun k => k = t) w w') (ht : ∀ b o n c, sv = .slice (some ⟨b, o, none⟩) n c → b ≠ t) : Row5 w' sv l := ⟨h.bytes.only ho ht, fun b o n c e hl => by
  obtain ⟨cur, fz, hg⟩ := h.row b o n c e hl
  exact ⟨cur, fz, (ho.block b (Array.getElem?_eq_some_iff.1 hg).1 (ht b o n c e)).trans hg⟩⟩
theorem Row5.below {w w' : World} {sv : Value} {l : List Int} (h : Row5 w sv l) (hb : Below w.heap.size w w') : Row5 w' sv l := ⟨h.bytes.below hb, fun b o n c e hl => by
  obtain ⟨cur, fz, hg⟩ := h.row b o n c e hl
  exact ⟨cur, fz, (hb.block b (Array.getElem?_eq_some_iff.1 hg).1).trans hg⟩⟩
theorem Row5.apart {w : World} {sv : Value} {l : List Int} (h : Row5 w sv l) (B : Nat) : Apart w B sv l := fun b o n c e hl => .inr (h.row b o n c e hl)
theorem block_self (b : Bk) (sv cv : Value) (hb : b.Wf) (w : World) (hsv : BytesAt w sv b.bytes) (hcv : BytesAt w cv b.bytes) : Calls Tryd.prog 10 #[.agg (b.arr sv), .agg (b.arr cv)] w fun e w' => e = .returned (.bool true) ∧ Below w.heap.size w w' := by
  have := block_any b b sv cv hb hb w hsv hcv
  rwa [(Bk.same_iff b b).2 rfl] at this
theorem page_to {m : List (Bk × Value)} {L : List Bk} {q : List Int} {e : Int} (hm : m.map (·.1) = L) (h1 : told L = q) (h2 : code L = e) (sv : Value) (w : World) (h : BlksAt w sv m) (hev : ErrVar w) : Calls Tryd.prog 8 #[sv] w fun r w' => r = .returned (.tuple #[.agg (u8s q).toArray, .int .i64 e]) ∧ Below w.heap.size w w' := by
  have := page_any m sv w h hev
  rwa [hm, h1, h2] at this
theorem rpage_to {m : List (Bk × Value)} {L : List Bk} {q : List Int} {c : Bool} (hm : m.map (·.1) = L) (h1 : told L = q) (h2 : isChain L = c) (sv : Value) (w : World) (h : BlksAt w sv m) : Calls Tryd.prog 9 #[sv] w fun r w' => r = .returned (.agg (u8s q ++ [Value.bool c]).toArray) ∧ Below w.heap.size w w' := by
  have := rpage_any m sv w h
  rwa [hm, h1, h2] at this
theorem take_snoc {L : List Bk} {m : List (Bk × Value)} {k : Nat} {b : Bk} {sv : Value} (h : m.map (·.1) = L.take k) (hb : L[k]? = some b) : (m ++ [(b, sv)]).map (·.1) = L.take (k + 1) := by
  rw [List.map_append, h, List.take_add_one, hb]
  rfl
set_option maxRecDepth 100000 in
theorem tells_unfair (l : List (Bk × Value)) (hbig : l.length ≤ 9223372036854775807) (sv : Value) (w : World) (h : BlksAt w sv l) (hev : ErrVar w) (hf : fair (l.map (·.1)) = false) : Calls Tryd.prog 3 #[sv] w fun e w' => e = .returned (.bool true) ∧ Below w.heap.size w w' := by
  have HF := Lib.hid fun w' (hw : w = w') => fair_any l l.length rfl hbig sv w h
  have HEV := Lib.hid hev
  clear h hev hbig
  go_enter Tryd.func3, Tryd.ntmps3
  go_wp2_with fail
  have hq := HF.out w rfl
  rw [hf] at hq
  refine hq.mono ?_
  rintro e w1 ⟨rfl, rfl⟩
  go_wp2_with fail
  refine (wakes_any _ HEV.out).mono ?_
  rintro e w1 ⟨rfl, hb⟩
  go_wp2_with fail
  go_ret
  exact ⟨rfl, hb⟩
set_option maxRecDepth 100000 in
set_option maxHeartbeats 2000000 in
theorem tells_true (l : List (Bk × Value)) (n : Nat) (hn : l.length = n) (sv : Value) (w : World) (h : BlksAt w sv l) (hev : ErrVar w) (hf : fair (l.map (·.1)) = true) (hcc : isChain (l.map (·.1)) = true) : Calls Tryd.prog 3 #[sv] w fun e w' => e = .returned (.bool true) ∧ Below w.heap.size w w' := by
  have HZ32 := Lib.hid (zeros_length 32)
  have HNW := Lib.hid Bk.none_wf
  have HNL : Hid (Len (.slice none 0 0) 0) := Lib.hid ⟨none, 0, rfl⟩
  have HBL : Hid (Below w.heap.size w w) := Lib.hid (Below.refl _ _)
  have HEV := Lib.hid hev
  have HE0 := Lib.hid hev.lt
  obtain ⟨L, hL⟩ : ∃ L, l.map (·.1) = L := ⟨_, rfl⟩
  rw [hL] at hf hcc
  have h20 : n ≤ 20 := by
    have := (fair_iff hf).1
    rw [← hL, List.length_map, hn] at this
    exact this
  have HFR : Hid (∀ b ∈ L, b.bytes.length ≤ 300) := Lib.hid (fair_iff hf).2
  have HFA : Hid (∀ w, BlksAt w sv l → Calls Tryd.prog 6 #[sv] w fun e w' => e = .returned (.bool true) ∧ w = w') := Lib.hid fun w h => by
    have := fair_any l n hn (by omega) sv w h
    rwa [hL, hf] at this
  obtain ⟨q, hq⟩ : ∃ q, told L = q := ⟨_, rfl⟩
  have HQL : Hid (q.length = 32) := Lib.hid (by rw [← hq]; exact told_length (by rw [← hL]; exact h.wf))
  have HCD : Hid (code L = 0) := Lib.hid (by unfold code; rw [hcc]; rfl)
  have HQ := Lib.hid hq
  have HCC := Lib.hid hcc
  have HLM := Lib.hid hL
  have HN := Lib.hid hn
  have HBS := Lib.hid h
  have HLN : Hid (L.length = n) := Lib.hid (by rw [← hL, List.length_map, hn])
  obtain ⟨sa, sc, he, -⟩ := h
  rw [hn] at he
  subst he
  clear hev hf hcc hq hL hn
  go_enter Tryd.func3, Tryd.ntmps3
  go_upto_region 1 with fail
  refine wp_region_lit ?_
  refine takeL (.slice sa n sc) rfl (by go_simp) ?_
  try simp only [Act.put, List.setIfInBounds_toArray, List.set_cons_succ, List.set_cons_zero]
  refine wpList_op rfl fun K hK => ?_
  go_simp
  refine (HFA.out _ HBS.out).mono ?_
  rintro e w1 ⟨rfl, rfl⟩
  refine hK _ _ ?_
  clear hK K
  try simp only [Act.put, List.setIfInBounds_toArray, List.set_cons_succ, List.set_cons_zero]
  refine takeL (.bool false) rfl (by go_simp) ?_
  try simp only [Act.put, List.setIfInBounds_toArray, List.set_cons_succ, List.set_cons_zero]
  refine wpList_nil ?_
  go_wp2_with fail
  go_loopg [3, 4] n (fun q s3 s4 wr => ∃ (k : Nat) (m : List (Bk × Value)) (o : Value), o = s3 ∧ n - k ≤ q ∧ k ≤ n ∧ s4 = .int .i64 k ∧ m.map (·.1) = L.take k ∧ OwnB wr w.heap.size o m ∧ Below w.heap.size w wr)
  case atStart => exact ⟨0, [], _, rfl, by omega, by omega, rfl, rfl, OwnB.nil _ _, Below.refl _ _⟩
  case round =>
    obtain ⟨k, m, s3, rfl, hq, hk, rfl, hm, hO, hJ⟩ := hrel
    have HM := Lib.hid hm
    have HOB := Lib.hid hO
    have JB := Lib.hid hJ
    clear hm hO hJ
    by_cases hlt : k < n
    · obtain ⟨g, o, cap, he, hg, hc⟩ := HBS.out.has (by have := HN.out; omega)
      rw [HN.out] at he
      injection he with e1 e2 e3
      subst e1
      subst e3
      have HQ2 := Lib.hid hq
      clear hq
      obtain ⟨x, hx⟩ : ∃ x, l[k]? = some x := ⟨_, List.getElem?_eq_getElem (by have := HN.out; omega)⟩
      obtain ⟨b, bv⟩ := x
      obtain ⟨x1, x2, x3⟩ := hc k _ hx
      have hLk : L[k]? = some b := by rw [← HLM.out, List.getElem?_map, hx]; rfl
      have HLK := Lib.hid hLk
      have HW := Lib.hid x1
      have HLB := Lib.hid x2.len
      have hb300 : b.bytes.length ≤ 300 := HFR.out b (List.mem_of_getElem? hLk)
      have HB3 := Lib.hid hb300
      have HBY := Lib.hid (x2.below JB.out)
      have F0 := Lib.hid (x3.below JB.out hg)
      have HBL2 : Hid (Below wr.heap.size wr wr) := Lib.hid (Below.refl _ _)
      have hml : m.length = k := by
        have := congrArg List.length HM.out
        rw [List.length_map, List.length_take, HLN.out] at this
        omega
      have gk : decide ((k : Int) < (n : Int)) = true := decide_eq_true (by omega)
      have gw : IntKind.i64.wrap ((k : Int) + 1) = (k : Int) + 1 := by rw [IntKind.wrap_i64]; omega
      have HML := Lib.hid hml
      clear x1 x2 x3 hx hLk hb300 hg hc hml HBL
      go_upto_region 7 with fail
      refine wp_region_lit ?_
      refine takeL (.slice (some ⟨g, o, none⟩) n sc) rfl (by go_simp) ?_
      try simp only [Act.put, List.setIfInBounds_toArray, List.set_cons_succ, List.set_cons_zero]
      refine takeL (.int .i64 k) rfl (by go_simp) ?_
      try simp only [Act.put, List.setIfInBounds_toArray, List.set_cons_succ, List.set_cons_zero]
      refine takeL (.pointer (some ⟨g, o + k * 45, none⟩)) rfl (by go_simp) ?_
      try simp only [Act.put, List.setIfInBounds_toArray, List.set_cons_succ, List.set_cons_zero]
      refine load30 (cs := b.arr bv) F0.out (b.arr_size HW.out bv) rfl rfl ?_
      try simp only [Act.put, List.setIfInBounds_toArray, List.set_cons_succ, List.set_cons_zero]
      clear F0
      refine alloc_g zero30b rfl ?_
      intro w2 hA hb hl
      try simp only [Act.put, List.setIfInBounds_toArray, List.set_cons_succ, List.set_cons_zero]
      clear hl
      refine store_all (cs := (b.arr bv)) hA (same30 HNW.out HW.out _ _) (info30s HW.out _) (Bk.arr_one (slice_one HLB.out)) rfl rfl rfl ?_
      intro w3 hD hO hlD
      try simp only [Act.put, List.setIfInBounds_toArray, List.set_cons_succ, List.set_cons_zero]
      clear hlD hA
      have hbb : Below wr.heap.size wr w3 := hb.trans (hO.below hb.size fun k hk => Nat.le_of_eq hk.symm)
      clear hb hO
      have HG4 : Hid (wr.heap.size ≤ wr.heap.size) := Lib.hid HBL2.out.size
      have F5 := Lib.hid (HBL2.out.trans (hbb.mono HBL2.out.size))
      have F6 := Lib.hid (HBY.out.below hbb)
      clear HBL2 HBY
      have F7 : Hid (Blk w3 wr.heap.size (b.cells bv)) := Lib.hid hD
      clear hD hbb w2
      refine wpList_nil ?_
      go_upto_region 8 with fail
      refine wp_region_lit ?_
      refine wpList_run (.slice (some ⟨w3.heap.size, 0, none⟩) 0 0) (w3.alloc (.cells #[] 5)) rfl (by go_simp) ?_
      try simp only [Act.put, List.setIfInBounds_toArray, List.set_cons_succ, List.set_cons_zero]
      have hb := (Below.refl w3.heap.size w3).alloc (Nat.le_refl _) (.cells #[] 5)
      have hO := Own.lit w3 w3.heap.size (Nat.le_refl _) [] (by simp) #[] rfl
      generalize w3.alloc (.cells #[] 5) = wl at *
      have HB1 := Lib.hid hb
      have HO1 := Lib.hid hO
      clear hb hO
      refine takeL (.pointer (some ⟨wr.heap.size, 35, none⟩)) rfl (by go_simp) ?_
      try simp only [Act.put, List.setIfInBounds_toArray, List.set_cons_succ, List.set_cons_zero]
      refine takeL (bv) rfl (by have hq := (F7.out.below HB1.out F7.out.lt).cell (i := 35) (v := bv) (b.at35 HW.out _); go_simp) ?_
      try simp only [Act.put, List.setIfInBounds_toArray, List.set_cons_succ, List.set_cons_zero]
      refine app_L HO1.out HB1.out.size (F6.out.below HB1.out) (by have := HB3.out; simp; omega) rfl rfl rfl ?_
      intro sn wm hO hb
      try simp only [Act.put, List.setIfInBounds_toArray, List.set_cons_succ, List.set_cons_zero]
      simp only [List.nil_append] at hO
      have hbb := HB1.out.trans hb
      have HT : Hid (∀ b o n c, sn = .slice (some ⟨b, o, none⟩) n c → b ≠ wr.heap.size) := Lib.hid fun b o n c e => by
        have h1 := (hO.lt b (by rw [e]; rfl)).1
        have h2 := F7.out.lt
        omega
      obtain ⟨na, nc, hsn⟩ := hO.bytes.len
      have HSN := Lib.hid hsn
      clear HB1 HO1 hb hsn
      clear F6
      have F8 := Lib.hid (F5.out.trans (hbb.mono F5.out.size))
      have F9 := Lib.hid (F7.out.below hbb F7.out.lt)
      clear F5 F7
      have R5 := Lib.hid hO.row5
      clear hO hbb
      refine takeL (.pointer (some ⟨wr.heap.size, 35, none⟩)) rfl (by go_simp) ?_
      try simp only [Act.put, List.setIfInBounds_toArray, List.set_cons_succ, List.set_cons_zero]
      refine skipL (wm.setCell ⟨wr.heap.size, 35, none⟩ sn) rfl (by have hq := F9.out.cell (i := 35) (v := bv) (b.at35 HW.out _); have hf := F9.out.frozen 35; have hs := HSN.out; rw [hs]; go_simp) ?_
      try simp only [Act.put, List.setIfInBounds_toArray, List.set_cons_succ, List.set_cons_zero]
      have hO : Only (fun k => k = wr.heap.size) wm (wm.setCell ⟨wr.heap.size, 35, none⟩ sn) := (Only.refl (fun k => k = wr.heap.size) wm).setCell (p := ⟨wr.heap.size, 35, none⟩) (.inl rfl) _
      have hD := F9.out.set 35 sn
      generalize wm.setCell ⟨wr.heap.size, 35, none⟩ sn = wn at *
      rw [Bk.set35 HW.out] at hD
      have F10 := Lib.hid (F8.out.trans (hO.below F8.out.size (fun k hk => by rw [hk]; exact HG4.out)))
      clear F8 F9
      have R6 := Lib.hid (R5.out.only hO HT.out)
      have HLS := Lib.hid R6.out.bytes.len
      have FV : Hid (Blk wn wr.heap.size (b.cells sn)) := Lib.hid hD
      clear R5 HT hO hD
      refine wpList_nil ?_
      go_upto_region 9 with fail
      refine wp_region_lit ?_
      refine takeL (s3) rfl (by go_simp) ?_
      try simp only [Act.put, List.setIfInBounds_toArray, List.set_cons_succ, List.set_cons_zero]
      refine load30 (cs := (b.arr sn)) (Blk.all FV.out rfl) (b.arr_size HW.out sn) rfl rfl ?_
      try simp only [Act.put, List.setIfInBounds_toArray, List.set_cons_succ, List.set_cons_zero]
      refine lit_L1 HW.out R6.out.bytes rfl rfl ?_
      intro sx w11 hO hb
      try simp only [Act.put, List.setIfInBounds_toArray, List.set_cons_succ, List.set_cons_zero]
      have F12 := Lib.hid (F10.out.trans (hb.mono F10.out.size))
      have F13 := Lib.hid (FV.out.below hb FV.out.lt)
      have F14 := Lib.hid (R6.out.below hb)
      clear F10 FV R6
      have HX := Lib.hid hO.blks
      clear hO hb
      refine app_LB (HOB.out.below F12.out) (Nat.le_trans JB.out.size F12.out.size) HX.out (fun x hx => by
        rw [List.mem_singleton.1 hx]
        exact F14.out.apart _) (by have := HML.out; simp; omega) rfl rfl rfl ?_
      intro sy wy hO hb
      try simp only [Act.put, List.setIfInBounds_toArray, List.set_cons_succ, List.set_cons_zero]
      have HOY := Lib.hid hO
      have HBZ := Lib.hid ((JB.out.trans (F12.out.mono JB.out.size)).trans hb)
      clear hO hb
      refine takeL (sy) rfl (by go_simp) ?_
      try simp only [Act.put, List.setIfInBounds_toArray, List.set_cons_succ, List.set_cons_zero]
      refine wpList_nil ?_
      go_wp2_with fail
      go_roundg (n - (k + 1))
      case measure => have := HQ2.out; omega
      case rel => exact ⟨k + 1, _, _, rfl, by omega, by omega, by go_num, take_snoc HM.out HLK.out, HOY.out, HBZ.out⟩
    · obtain rfl : k = n := by omega
      have gk : decide ((k : Int) < (k : Int)) = false := decide_eq_false (by omega)
      have HMM : Hid (m.map (·.1) = L) := Lib.hid (by rw [HM.out, List.take_of_length_le (by rw [HLN.out]; exact Nat.le_refl _)])
      have BM := Lib.hid HOB.out.blks
      have BL := Lib.hid (HBS.out.below JB.out)
      have EV2 := Lib.hid (HEV.out.below (Nat.le_refl _) JB.out)
      clear HM HOB HEV HBL HBS HFA hq
      go_upto_region 10 with fail
      refine wp_region_lit ?_
      refine takeL (s3) rfl (by go_simp) ?_
      try simp only [Act.put, List.setIfInBounds_toArray, List.set_cons_succ, List.set_cons_zero]
      refine wpList_op rfl fun K hK => ?_
      go_simp
      refine (page_to HMM.out HQ.out HCD.out _ _ BM.out EV2.out).mono ?_
      rintro e w15 ⟨rfl, hb⟩
      have F16 := Lib.hid (JB.out.trans (hb.mono JB.out.size))
      have F17 := Lib.hid (EV2.out.below (Nat.le_refl _) hb)
      have F18 := Lib.hid (BM.out.below hb)
      have F19 := Lib.hid (BL.out.below hb)
      clear JB EV2 BM BL
      clear hb
      refine hK _ _ ?_
      clear hK K
      try simp only [Act.put, List.setIfInBounds_toArray, List.set_cons_succ, List.set_cons_zero]
      refine takeL (.tuple #[.agg (u8s q).toArray, .int .i64 0]) rfl (by go_simp) ?_
      try simp only [Act.put, List.setIfInBounds_toArray, List.set_cons_succ, List.set_cons_zero]
      refine takeL (.agg (u8s q).toArray) rfl (by go_simp) ?_
      try simp only [Act.put, List.setIfInBounds_toArray, List.set_cons_succ, List.set_cons_zero]
      refine takeL (.int .i64 0) rfl (by go_simp) ?_
      try simp only [Act.put, List.setIfInBounds_toArray, List.set_cons_succ, List.set_cons_zero]
      refine alloc_g zero26 rfl ?_
      intro w20 hA hb hl
      try simp only [Act.put, List.setIfInBounds_toArray, List.set_cons_succ, List.set_cons_zero]
      clear hl
      refine store_all (cs := (u8s q).toArray) hA (by simp only [u8s_size, List.size_toArray, List.length_append, List.length_singleton, List.length_map, HQL.out, HZ32.out]) (by rw [u8s_size, HQL.out]; exact info26) (u8s_one _) rfl rfl rfl ?_
      intro w21 hD hO hlD
      try simp only [Act.put, List.setIfInBounds_toArray, List.set_cons_succ, List.set_cons_zero]
      clear hlD hA
      have hbb : Below w15.heap.size w15 w21 := hb.trans (hO.below hb.size fun k hk => Nat.le_of_eq hk.symm)
      clear hb hO
      have HG22 : Hid (w.heap.size ≤ w15.heap.size) := Lib.hid F16.out.size
      have F23 := Lib.hid (F16.out.trans (hbb.mono F16.out.size))
      have F24 := Lib.hid (F17.out.below (Nat.le_refl _) hbb)
      have F25 := Lib.hid (F18.out.below hbb)
      have F26 := Lib.hid (F19.out.below hbb)
      clear F16 F17 F18 F19
      have F27 : Hid (Blk w21 w15.heap.size (u8s q)) := Lib.hid hD
      clear hD hbb w20
      generalize w15.heap.size = g28 at *
      clear w15
      refine takeL (.int .i64 0) rfl (by go_simp) ?_
      try simp only [Act.put, List.setIfInBounds_toArray, List.set_cons_succ, List.set_cons_zero]
      refine wpList_nil ?_
      go_upto_region 11 with fail
      refine wp_region_lit ?_
      refine takeL (.slice sa k sc) rfl (by go_simp) ?_
      try simp only [Act.put, List.setIfInBounds_toArray, List.set_cons_succ, List.set_cons_zero]
      refine wpList_op rfl fun K hK => ?_
      go_simp
      refine (rpage_to HLM.out HQ.out HCC.out _ _ F26.out).mono ?_
      rintro e w29 ⟨rfl, hb⟩
      have F30 := Lib.hid (F23.out.trans (hb.mono F23.out.size))
      have F31 := Lib.hid (F24.out.below (Nat.le_refl _) hb)
      have F32 := Lib.hid (F25.out.below hb)
      have F33 := Lib.hid (F26.out.below hb)
      have F34 := Lib.hid (F27.out.below hb F27.out.lt)
      clear F23 F24 F25 F26 F27
      clear hb
      refine hK _ _ ?_
      clear hK K
      try simp only [Act.put, List.setIfInBounds_toArray, List.set_cons_succ, List.set_cons_zero]
      refine alloc_g zero35 rfl ?_
      intro w35 hA hb hl
      try simp only [Act.put, List.setIfInBounds_toArray, List.set_cons_succ, List.set_cons_zero]
      clear hl
      refine store_all (cs := (u8s q ++ [Value.bool true]).toArray) hA (by simp only [u8s_size, List.size_toArray, List.length_append, List.length_singleton, List.length_map, HQL.out, HZ32.out]) (by rw [got_size HQL.out]; exact info35) (got_one _ _) rfl rfl rfl ?_
      intro w36 hD hO hlD
      try simp only [Act.put, List.setIfInBounds_toArray, List.set_cons_succ, List.set_cons_zero]
      clear hlD hA
      have hbb : Below w29.heap.size w29 w36 := hb.trans (hO.below hb.size fun k hk => Nat.le_of_eq hk.symm)
      clear hb hO
      have HN37 := Lib.hid (Nat.ne_of_lt F34.out.lt)
      have HG38 : Hid (w.heap.size ≤ w29.heap.size) := Lib.hid F30.out.size
      have F39 := Lib.hid (F30.out.trans (hbb.mono F30.out.size))
      have F40 := Lib.hid (F31.out.below (Nat.le_refl _) hbb)
      have F41 := Lib.hid (F32.out.below hbb)
      have F42 := Lib.hid (F33.out.below hbb)
      have F43 := Lib.hid (F34.out.below hbb F34.out.lt)
      clear F30 F31 F32 F33 F34
      have F44 : Hid (Blk w36 w29.heap.size (u8s q ++ [Value.bool true])) := Lib.hid hD
      clear hD hbb w35
      generalize w29.heap.size = g45 at *
      clear w29
      refine wpList_nil ?_
      go_wp2_with fail
      go_loopg [9] k (fun q i wr => ∃ j : Nat, k - j ≤ q ∧ j ≤ k ∧ i = .int .i64 j ∧ Below w36.heap.size w36 wr)
      case atStart => exact ⟨0, by omega, by omega, rfl, Below.refl _ _⟩
      case round =>
        obtain ⟨j, hq2, hj, rfl, hJ⟩ := hrel
        have JC := Lib.hid hJ
        clear hJ
        by_cases hlt2 : j < k
        · obtain ⟨g, o, cap, he, hg, hc⟩ := F42.out.has (by have := HN.out; omega)
          rw [HN.out] at he
          injection he with e1 e2 e3
          subst e1
          subst e3
          have hml : m.length = k := by
            have := congrArg List.length HMM.out
            rw [List.length_map, HLN.out] at this
            exact this
          obtain ⟨g3, o3, cap3, he3, hg3, hc3⟩ := F41.out.has (by omega)
          rw [hml] at he3
          subst he3
          obtain ⟨x, hx⟩ : ∃ x, l[j]? = some x := ⟨_, List.getElem?_eq_getElem (by have := HN.out; omega)⟩
          obtain ⟨b, bv⟩ := x
          obtain ⟨y, hy⟩ : ∃ y, m[j]? = some y := ⟨_, List.getElem?_eq_getElem (by omega)⟩
          obtain ⟨b3, cv⟩ := y
          obtain rfl : b3 = b := by
            have h1 : L[j]? = some b := by rw [← HLM.out, List.getElem?_map, hx]; rfl
            have h2 : L[j]? = some b3 := by rw [← HMM.out, List.getElem?_map, hy]; rfl
            exact Option.some.inj (h2.symm.trans h1)
          obtain ⟨x1, x2, x3⟩ := hc j _ hx
          obtain ⟨y1, y2, y3⟩ := hc3 j _ hy
          have HW := Lib.hid x1
          have A1 := Lib.hid (y3.below JC.out hg3)
          have A2 := Lib.hid (x3.below JC.out hg)
          have B1 := Lib.hid (y2.below JC.out)
          have B2 := Lib.hid (x2.below JC.out)
          have HG1 := Lib.hid (Nat.lt_of_lt_of_le hg JC.out.size)
          have HG3 := Lib.hid (Nat.lt_of_lt_of_le hg3 JC.out.size)
          have HBL3 : Hid (Below wr.heap.size wr wr) := Lib.hid (Below.refl _ _)
          have gj : decide ((j : Int) < (k : Int)) = true := decide_eq_true (by omega)
          have gw : IntKind.i64.wrap ((j : Int) + 1) = (j : Int) + 1 := by rw [IntKind.wrap_i64]; omega
          clear x1 x2 x3 y1 y2 y3 hx hy hg hg3 hc hc3 hml
          go_upto_region 15 with fail
          refine startH (fun wq => Below wr.heap.size wr wq) (by kernel_rfl) ?_
          refine takeH 0 (some 46) (.slice (some ⟨g3, o3, none⟩) k cap3) rfl rfl (by kernel_rfl) (by kernel_rfl) (by kernel_rfl) (fun _ _ _ h => h) rfl (fun wq hS => by go_simp) (Below.refl _ _).drew ?_
          try simp only [Act.put, List.setIfInBounds_toArray, List.set_cons_succ, List.set_cons_zero]
          refine takeH 1 (some 47) (.int .i64 j) rfl rfl (by kernel_rfl) (by kernel_rfl) (by kernel_rfl) (fun _ _ _ h => h) rfl (fun wq hS => by go_simp) (Below.refl _ _).drew ?_
          try simp only [Act.put, List.setIfInBounds_toArray, List.set_cons_succ, List.set_cons_zero]
          refine takeH 2 (some 48) (.pointer (some ⟨g3, o3 + j * 45, none⟩)) rfl rfl (by kernel_rfl) (by kernel_rfl) (by kernel_rfl) (fun _ _ _ h => h) rfl (fun wq hS => by go_simp) (Below.refl _ _).drew ?_
          try simp only [Act.put, List.setIfInBounds_toArray, List.set_cons_succ, List.set_cons_zero]
          refine takeH 3 (some 49) (.agg (b3.arr cv)) rfl rfl (by kernel_rfl) (by kernel_rfl) (by kernel_rfl) (fun _ _ _ h => h) rfl (fun wq hS => by exact exec_load_at wq _ _ 30 _ rfl g3 (o3 + j * 45) rfl (b3.arr cv) _ Tryd.underlying30 rfl (info30s HW.out _) (A1.out.below hS HG3.out)) (Below.refl _ _).drew ?_
          try simp only [Act.put, List.setIfInBounds_toArray, List.set_cons_succ, List.set_cons_zero]
          refine takeH 4 (some 50) (.slice (some ⟨g, o, none⟩) k sc) rfl rfl (by kernel_rfl) (by kernel_rfl) (by kernel_rfl) (fun _ _ _ h => h) rfl (fun wq hS => by go_simp) (Below.refl _ _).drew ?_
          try simp only [Act.put, List.setIfInBounds_toArray, List.set_cons_succ, List.set_cons_zero]
          refine takeH 5 (some 51) (.int .i64 j) rfl rfl (by kernel_rfl) (by kernel_rfl) (by kernel_rfl) (fun _ _ _ h => h) rfl (fun wq hS => by go_simp) (Below.refl _ _).drew ?_
          try simp only [Act.put, List.setIfInBounds_toArray, List.set_cons_succ, List.set_cons_zero]
          refine takeH 6 (some 52) (.pointer (some ⟨g, o + j * 45, none⟩)) rfl rfl (by kernel_rfl) (by kernel_rfl) (by kernel_rfl) (fun _ _ _ h => h) rfl (fun wq hS => by go_simp) (Below.refl _ _).drew ?_
          try simp only [Act.put, List.setIfInBounds_toArray, List.set_cons_succ, List.set_cons_zero]
          refine takeH 7 (some 53) (.agg (b3.arr bv)) rfl rfl (by kernel_rfl) (by kernel_rfl) (by kernel_rfl) (fun _ _ _ h => h) rfl (fun wq hS => by exact exec_load_at wq _ _ 30 _ rfl g (o + j * 45) rfl (b3.arr bv) _ Tryd.underlying30 rfl (info30s HW.out _) (A2.out.below hS HG1.out)) (Below.refl _ _).drew ?_
          try simp only [Act.put, List.setIfInBounds_toArray, List.set_cons_succ, List.set_cons_zero]
          refine oneH 8 (by kernel_rfl) rfl rfl fun K hK => ?_
          go_simp
          refine (block_self b3 cv bv HW.out _ (B1.out.below (Below.refl _ _).drew) (B2.out.below (Below.refl _ _).drew)).mono ?_
          rintro e w46 ⟨rfl, hb⟩
          have HS47 := Lib.hid (stay (Below.refl _ _).drew hb)
          clear hb
          refine hK _ _ HS47.out ?_
          clear hK K
          try simp only [Act.put, List.setIfInBounds_toArray, List.set_cons_succ, List.set_cons_zero]
          refine takeH 9 (some 55) (.bool false) rfl rfl (by kernel_rfl) (by kernel_rfl) (by kernel_rfl) (fun _ _ _ h => h) rfl (fun wq hS => by go_simp) HS47.out ?_
          try simp only [Act.put, List.setIfInBounds_toArray, List.set_cons_succ, List.set_cons_zero]
          refine wpAnyH_done (by kernel_rfl) ?_ _
          have hb := HS47.out
          have F48 := Lib.hid (HBL3.out.trans (hb.mono HBL3.out.size))
          clear HBL3
          clear hb
          go_wp2_with fail
          go_roundg (k - (j + 1))
          case measure => omega
          case rel => exact ⟨j + 1, by omega, by omega, by go_num, JC.out.trans (F48.out.mono JC.out.size)⟩
        · obtain rfl : j = k := by omega
          have gj : decide ((j : Int) < (j : Int)) = false := decide_eq_false (by omega)
          clear F42 F41
          have F49 := Lib.hid (F39.out.trans (JC.out.mono F39.out.size))
          have F50 := Lib.hid (F40.out.below (Nat.le_refl _) JC.out)
          have F51 := Lib.hid (F43.out.below JC.out F43.out.lt)
          have F52 := Lib.hid (F44.out.below JC.out F44.out.lt)
          clear F39 F40 F43 F44
          clear JC
          go_upto_region 17 with fail
          refine wp_region_lit ?_
          try simp only [List.append_eq, List.cons_append, List.nil_append]
          refine load26 (cs := (u8s q).toArray) (Blk.all F51.out rfl) (by rw [u8s_size, HQL.out]) rfl rfl ?_
          try simp only [Act.put, List.setIfInBounds_toArray, List.set_cons_succ, List.set_cons_zero]
          refine takeL (.pointer (some ⟨g45, 0, none⟩)) rfl (by go_simp) ?_
          try simp only [Act.put, List.setIfInBounds_toArray, List.set_cons_succ, List.set_cons_zero]
          refine load26 (cs := (u8s q).toArray) (got_at F52.out) (by rw [u8s_size, HQL.out]) rfl rfl ?_
          try simp only [Act.put, List.setIfInBounds_toArray, List.set_cons_succ, List.set_cons_zero]
          refine takeL (.bool true) rfl (by exact exec_page (decide_eq_true rfl) HQL.out HQL.out _ _ _ rfl rfl rfl) ?_
          try simp only [Act.put, List.setIfInBounds_toArray, List.set_cons_succ, List.set_cons_zero]
          refine takeL (.bool true) rfl (by go_simp) ?_
          try simp only [Act.put, List.setIfInBounds_toArray, List.set_cons_succ, List.set_cons_zero]
          refine takeL (.int .i64 0) rfl (by go_simp) ?_
          try simp only [Act.put, List.setIfInBounds_toArray, List.set_cons_succ, List.set_cons_zero]
          refine takeL (.bool true) rfl (by go_simp) ?_
          try simp only [Act.put, List.setIfInBounds_toArray, List.set_cons_succ, List.set_cons_zero]
          refine takeL (.pointer (some ⟨g45, 32, none⟩)) rfl (by go_simp) ?_
          try simp only [Act.put, List.setIfInBounds_toArray, List.set_cons_succ, List.set_cons_zero]
          refine takeL (.bool true) rfl (by have hq := F52.out.cell (i := 32) (v := .bool true) (got_ok HQL.out); go_simp) ?_
          try simp only [Act.put, List.setIfInBounds_toArray, List.set_cons_succ, List.set_cons_zero]
          refine takeL (.bool true) rfl (by go_simp) ?_
          try simp only [Act.put, List.setIfInBounds_toArray, List.set_cons_succ, List.set_cons_zero]
          refine takeL (.bool true) rfl (by go_simp) ?_
          try simp only [Act.put, List.setIfInBounds_toArray, List.set_cons_succ, List.set_cons_zero]
          refine takeL (.bool true) rfl (by go_simp) ?_
          try simp only [Act.put, List.setIfInBounds_toArray, List.set_cons_succ, List.set_cons_zero]
          refine takeL (.int .i64 0) rfl (by go_simp) ?_
          try simp only [Act.put, List.setIfInBounds_toArray, List.set_cons_succ, List.set_cons_zero]
          refine takeL (.bool true) rfl (by go_simp) ?_
          try simp only [Act.put, List.setIfInBounds_toArray, List.set_cons_succ, List.set_cons_zero]
          refine takeL (.bool true) rfl (by go_simp) ?_
          try simp only [Act.put, List.setIfInBounds_toArray, List.set_cons_succ, List.set_cons_zero]
          refine passL rfl ?_
          try simp only [Act.put, List.setIfInBounds_toArray, List.set_cons_succ, List.set_cons_zero]
          refine passL rfl ?_
          try simp only [Act.put, List.setIfInBounds_toArray, List.set_cons_succ, List.set_cons_zero]
          refine takeL (.bool true) rfl (by go_simp) ?_
          try simp only [Act.put, List.setIfInBounds_toArray, List.set_cons_succ, List.set_cons_zero]
          refine takeL (.bool true) rfl (by go_simp) ?_
          try simp only [Act.put, List.setIfInBounds_toArray, List.set_cons_succ, List.set_cons_zero]
          refine takeL (.bool true) rfl (by go_simp) ?_
          try simp only [Act.put, List.setIfInBounds_toArray, List.set_cons_succ, List.set_cons_zero]
          refine wpList_op rfl fun K hK => ?_
          go_simp
          refine (wakes_any _ F50.out).mono ?_
          rintro e w53 ⟨rfl, hb⟩
          have F54 := Lib.hid (F49.out.trans (hb.mono F49.out.size))
          have F55 := Lib.hid (F50.out.below (Nat.le_refl _) hb)
          have F56 := Lib.hid (F51.out.below hb F51.out.lt)
          have F57 := Lib.hid (F52.out.below hb F52.out.lt)
          clear F49 F50 F51 F52
          clear hb
          refine hK _ _ ?_
          clear hK K
          try simp only [Act.put, List.setIfInBounds_toArray, List.set_cons_succ, List.set_cons_zero]
          refine takeL (.bool true) rfl (by go_simp) ?_
          try simp only [Act.put, List.setIfInBounds_toArray, List.set_cons_succ, List.set_cons_zero]
          refine takeL (.bool true) rfl (by go_simp) ?_
          try simp only [Act.put, List.setIfInBounds_toArray, List.set_cons_succ, List.set_cons_zero]
          refine wpList_nil ?_
          go_wp2_with fail
          go_ret
          exact ⟨rfl, F54.out⟩
set_option maxRecDepth 100000 in
set_option maxHeartbeats 2000000 in
theorem tells_false (l : List (Bk × Value)) (n : Nat) (hn : l.length = n) (sv : Value) (w : World) (h : BlksAt w sv l) (hev : ErrVar w) (hf : fair (l.map (·.1)) = true) (hcc : isChain (l.map (·.1)) = false) : Calls Tryd.prog 3 #[sv] w fun e w' => e = .returned (.bool true) ∧ Below w.heap.size w w' := by
  have HZ32 := Lib.hid (zeros_length 32)
  have HNW := Lib.hid Bk.none_wf
  have HNL : Hid (Len (.slice none 0 0) 0) := Lib.hid ⟨none, 0, rfl⟩
  have HBL : Hid (Below w.heap.size w w) := Lib.hid (Below.refl _ _)
  have HEV := Lib.hid hev
  have HE0 := Lib.hid hev.lt
  obtain ⟨L, hL⟩ : ∃ L, l.map (·.1) = L := ⟨_, rfl⟩
  rw [hL] at hf hcc
  have h20 : n ≤ 20 := by
    have := (fair_iff hf).1
    rw [← hL, List.length_map, hn] at this
    exact this
  have HFR : Hid (∀ b ∈ L, b.bytes.length ≤ 300) := Lib.hid (fair_iff hf).2
  have HFA : Hid (∀ w, BlksAt w sv l → Calls Tryd.prog 6 #[sv] w fun e w' => e = .returned (.bool true) ∧ w = w') := Lib.hid fun w h => by
    have := fair_any l n hn (by omega) sv w h
    rwa [hL, hf] at this
  obtain ⟨q, hq⟩ : ∃ q, told L = q := ⟨_, rfl⟩
  have HQL : Hid (q.length = 32) := Lib.hid (by rw [← hq]; exact told_length (by rw [← hL]; exact h.wf))
  have HCD : Hid (code L = 11) := Lib.hid (by unfold code; rw [hcc]; rfl)
  have HQ := Lib.hid hq
  have HCC := Lib.hid hcc
  have HLM := Lib.hid hL
  have HN := Lib.hid hn
  have HBS := Lib.hid h
  have HLN : Hid (L.length = n) := Lib.hid (by rw [← hL, List.length_map, hn])
  obtain ⟨sa, sc, he, -⟩ := h
  rw [hn] at he
  subst he
  clear hev hf hcc hq hL hn
  go_enter Tryd.func3, Tryd.ntmps3
  go_upto_region 1 with fail
  refine wp_region_lit ?_
  refine takeL (.slice sa n sc) rfl (by go_simp) ?_
  try simp only [Act.put, List.setIfInBounds_toArray, List.set_cons_succ, List.set_cons_zero]
  refine wpList_op rfl fun K hK => ?_
  go_simp
  refine (HFA.out _ HBS.out).mono ?_
  rintro e w1 ⟨rfl, rfl⟩
  refine hK _ _ ?_
  clear hK K
  try simp only [Act.put, List.setIfInBounds_toArray, List.set_cons_succ, List.set_cons_zero]
  refine takeL (.bool false) rfl (by go_simp) ?_
  try simp only [Act.put, List.setIfInBounds_toArray, List.set_cons_succ, List.set_cons_zero]
  refine wpList_nil ?_
  go_wp2_with fail
  go_loopg [3, 4] n (fun q s3 s4 wr => ∃ (k : Nat) (m : List (Bk × Value)) (o : Value), o = s3 ∧ n - k ≤ q ∧ k ≤ n ∧ s4 = .int .i64 k ∧ m.map (·.1) = L.take k ∧ OwnB wr w.heap.size o m ∧ Below w.heap.size w wr)
  case atStart => exact ⟨0, [], _, rfl, by omega, by omega, rfl, rfl, OwnB.nil _ _, Below.refl _ _⟩
  case round =>
    obtain ⟨k, m, s3, rfl, hq, hk, rfl, hm, hO, hJ⟩ := hrel
    have HM := Lib.hid hm
    have HOB := Lib.hid hO
    have JB := Lib.hid hJ
    clear hm hO hJ
    by_cases hlt : k < n
    · obtain ⟨g, o, cap, he, hg, hc⟩ := HBS.out.has (by have := HN.out; omega)
      rw [HN.out] at he
      injection he with e1 e2 e3
      subst e1
      subst e3
      have HQ2 := Lib.hid hq
      clear hq
      obtain ⟨x, hx⟩ : ∃ x, l[k]? = some x := ⟨_, List.getElem?_eq_getElem (by have := HN.out; omega)⟩
      obtain ⟨b, bv⟩ := x
      obtain ⟨x1, x2, x3⟩ := hc k _ hx
      have hLk : L[k]? = some b := by rw [← HLM.out, List.getElem?_map, hx]; rfl
      have HLK := Lib.hid hLk
      have HW := Lib.hid x1
      have HLB := Lib.hid x2.len
      have hb300 : b.bytes.length ≤ 300 := HFR.out b (List.mem_of_getElem? hLk)
      have HB3 := Lib.hid hb300
      have HBY := Lib.hid (x2.below JB.out)
      have F0 := Lib.hid (x3.below JB.out hg)
      have HBL2 : Hid (Below wr.heap.size wr wr) := Lib.hid (Below.refl _ _)
      have hml : m.length = k := by
        have := congrArg List.length HM.out
        rw [List.length_map, List.length_take, HLN.out] at this
        omega
      have gk : decide ((k : Int) < (n : Int)) = true := decide_eq_true (by omega)
      have gw : IntKind.i64.wrap ((k : Int) + 1) = (k : Int) + 1 := by rw [IntKind.wrap_i64]; omega
      have HML := Lib.hid hml
      clear x1 x2 x3 hx hLk hb300 hg hc hml HBL
      go_upto_region 7 with fail
      refine wp_region_lit ?_
      refine takeL (.slice (some ⟨g, o, none⟩) n sc) rfl (by go_simp) ?_
      try simp only [Act.put, List.setIfInBounds_toArray, List.set_cons_succ, List.set_cons_zero]
      refine takeL (.int .i64 k) rfl (by go_simp) ?_
      try simp only [Act.put, List.setIfInBounds_toArray, List.set_cons_succ, List.set_cons_zero]
      refine takeL (.pointer (some ⟨g, o + k * 45, none⟩)) rfl (by go_simp) ?_
      try simp only [Act.put, List.setIfInBounds_toArray, List.set_cons_succ, List.set_cons_zero]
      refine load30 (cs := b.arr bv) F0.out (b.arr_size HW.out bv) rfl rfl ?_
      try simp only [Act.put, List.setIfInBounds_toArray, List.set_cons_succ, List.set_cons_zero]
      clear F0
      refine alloc_g zero30b rfl ?_
      intro w2 hA hb hl
      try simp only [Act.put, List.setIfInBounds_toArray, List.set_cons_succ, List.set_cons_zero]
      clear hl
      refine store_all (cs := (b.arr bv)) hA (same30 HNW.out HW.out _ _) (info30s HW.out _) (Bk.arr_one (slice_one HLB.out)) rfl rfl rfl ?_
      intro w3 hD hO hlD
      try simp only [Act.put, List.setIfInBounds_toArray, List.set_cons_succ, List.set_cons_zero]
      clear hlD hA
      have hbb : Below wr.heap.size wr w3 := hb.trans (hO.below hb.size fun k hk => Nat.le_of_eq hk.symm)
      clear hb hO
      have HG4 : Hid (wr.heap.size ≤ wr.heap.size) := Lib.hid HBL2.out.size
      have F5 := Lib.hid (HBL2.out.trans (hbb.mono HBL2.out.size))
      have F6 := Lib.hid (HBY.out.below hbb)
      clear HBL2 HBY
      have F7 : Hid (Blk w3 wr.heap.size (b.cells bv)) := Lib.hid hD
      clear hD hbb w2
      refine wpList_nil ?_
      go_upto_region 8 with fail
      refine wp_region_lit ?_
      refine wpList_run (.slice (some ⟨w3.heap.size, 0, none⟩) 0 0) (w3.alloc (.cells #[] 5)) rfl (by go_simp) ?_
      try simp only [Act.put, List.setIfInBounds_toArray, List.set_cons_succ, List.set_cons_zero]
      have hb := (Below.refl w3.heap.size w3).alloc (Nat.le_refl _) (.cells #[] 5)
      have hO := Own.lit w3 w3.heap.size (Nat.le_refl _) [] (by simp) #[] rfl
      generalize w3.alloc (.cells #[] 5) = wl at *
      have HB1 := Lib.hid hb
      have HO1 := Lib.hid hO
      clear hb hO
      refine takeL (.pointer (some ⟨wr.heap.size, 35, none⟩)) rfl (by go_simp) ?_
      try simp only [Act.put, List.setIfInBounds_toArray, List.set_cons_succ, List.set_cons_zero]
      refine takeL (bv) rfl (by have hq := (F7.out.below HB1.out F7.out.lt).cell (i := 35) (v := bv) (b.at35 HW.out _); go_simp) ?_
      try simp only [Act.put, List.setIfInBounds_toArray, List.set_cons_succ, List.set_cons_zero]
      refine app_L HO1.out HB1.out.size (F6.out.below HB1.out) (by have := HB3.out; simp; omega) rfl rfl rfl ?_
      intro sn wm hO hb
      try simp only [Act.put, List.setIfInBounds_toArray, List.set_cons_succ, List.set_cons_zero]
      simp only [List.nil_append] at hO
      have hbb := HB1.out.trans hb
      have HT : Hid (∀ b o n c, sn = .slice (some ⟨b, o, none⟩) n c → b ≠ wr.heap.size) := Lib.hid fun b o n c e => by
        have h1 := (hO.lt b (by rw [e]; rfl)).1
        have h2 := F7.out.lt
        omega
      obtain ⟨na, nc, hsn⟩ := hO.bytes.len
      have HSN := Lib.hid hsn
      clear HB1 HO1 hb hsn
      clear F6
      have F8 := Lib.hid (F5.out.trans (hbb.mono F5.out.size))
      have F9 := Lib.hid (F7.out.below hbb F7.out.lt)
      clear F5 F7
      have R5 := Lib.hid hO.row5
      clear hO hbb
      refine takeL (.pointer (some ⟨wr.heap.size, 35, none⟩)) rfl (by go_simp) ?_
      try simp only [Act.put, List.setIfInBounds_toArray, List.set_cons_succ, List.set_cons_zero]
      refine skipL (wm.setCell ⟨wr.heap.size, 35, none⟩ sn) rfl (by have hq := F9.out.cell (i := 35) (v := bv) (b.at35 HW.out _); have hf := F9.out.frozen 35; have hs := HSN.out; rw [hs]; go_simp) ?_
      try simp only [Act.put, List.setIfInBounds_toArray, List.set_cons_succ, List.set_cons_zero]
      have hO : Only (fun k => k = wr.heap.size) wm (wm.setCell ⟨wr.heap.size, 35, none⟩ sn) := (Only.refl (fun k => k = wr.heap.size) wm).setCell (p := ⟨wr.heap.size, 35, none⟩) (.inl rfl) _
      have hD := F9.out.set 35 sn
      generalize wm.setCell ⟨wr.heap.size, 35, none⟩ sn = wn at *
      rw [Bk.set35 HW.out] at hD
      have F10 := Lib.hid (F8.out.trans (hO.below F8.out.size (fun k hk => by rw [hk]; exact HG4.out)))
      clear F8 F9
      have R6 := Lib.hid (R5.out.only hO HT.out)
      have HLS := Lib.hid R6.out.bytes.len
      have FV : Hid (Blk wn wr.heap.size (b.cells sn)) := Lib.hid hD
      clear R5 HT hO hD
      refine wpList_nil ?_
      go_upto_region 9 with fail
      refine wp_region_lit ?_
      refine takeL (s3) rfl (by go_simp) ?_
      try simp only [Act.put, List.setIfInBounds_toArray, List.set_cons_succ, List.set_cons_zero]
      refine load30 (cs := (b.arr sn)) (Blk.all FV.out rfl) (b.arr_size HW.out sn) rfl rfl ?_
      try simp only [Act.put, List.setIfInBounds_toArray, List.set_cons_succ, List.set_cons_zero]
      refine lit_L1 HW.out R6.out.bytes rfl rfl ?_
      intro sx w11 hO hb
      try simp only [Act.put, List.setIfInBounds_toArray, List.set_cons_succ, List.set_cons_zero]
      have F12 := Lib.hid (F10.out.trans (hb.mono F10.out.size))
      have F13 := Lib.hid (FV.out.below hb FV.out.lt)
      have F14 := Lib.hid (R6.out.below hb)
      clear F10 FV R6
      have HX := Lib.hid hO.blks
      clear hO hb
      refine app_LB (HOB.out.below F12.out) (Nat.le_trans JB.out.size F12.out.size) HX.out (fun x hx => by
        rw [List.mem_singleton.1 hx]
        exact F14.out.apart _) (by have := HML.out; simp; omega) rfl rfl rfl ?_
      intro sy wy hO hb
      try simp only [Act.put, List.setIfInBounds_toArray, List.set_cons_succ, List.set_cons_zero]
      have HOY := Lib.hid hO
      have HBZ := Lib.hid ((JB.out.trans (F12.out.mono JB.out.size)).trans hb)
      clear hO hb
      refine takeL (sy) rfl (by go_simp) ?_
      try simp only [Act.put, List.setIfInBounds_toArray, List.set_cons_succ, List.set_cons_zero]
      refine wpList_nil ?_
      go_wp2_with fail
      go_roundg (n - (k + 1))
      case measure => have := HQ2.out; omega
      case rel => exact ⟨k + 1, _, _, rfl, by omega, by omega, by go_num, take_snoc HM.out HLK.out, HOY.out, HBZ.out⟩
    · obtain rfl : k = n := by omega
      have gk : decide ((k : Int) < (k : Int)) = false := decide_eq_false (by omega)
      have HMM : Hid (m.map (·.1) = L) := Lib.hid (by rw [HM.out, List.take_of_length_le (by rw [HLN.out]; exact Nat.le_refl _)])
      have BM := Lib.hid HOB.out.blks
      have BL := Lib.hid (HBS.out.below JB.out)
      have EV2 := Lib.hid (HEV.out.below (Nat.le_refl _) JB.out)
      clear HM HOB HEV HBL HBS HFA hq
      go_upto_region 10 with fail
      refine wp_region_lit ?_
      refine takeL (s3) rfl (by go_simp) ?_
      try simp only [Act.put, List.setIfInBounds_toArray, List.set_cons_succ, List.set_cons_zero]
      refine wpList_op rfl fun K hK => ?_
      go_simp
      refine (page_to HMM.out HQ.out HCD.out _ _ BM.out EV2.out).mono ?_
      rintro e w15 ⟨rfl, hb⟩
      have F16 := Lib.hid (JB.out.trans (hb.mono JB.out.size))
      have F17 := Lib.hid (EV2.out.below (Nat.le_refl _) hb)
      have F18 := Lib.hid (BM.out.below hb)
      have F19 := Lib.hid (BL.out.below hb)
      clear JB EV2 BM BL
      clear hb
      refine hK _ _ ?_
      clear hK K
      try simp only [Act.put, List.setIfInBounds_toArray, List.set_cons_succ, List.set_cons_zero]
      refine takeL (.tuple #[.agg (u8s q).toArray, .int .i64 11]) rfl (by go_simp) ?_
      try simp only [Act.put, List.setIfInBounds_toArray, List.set_cons_succ, List.set_cons_zero]
      refine takeL (.agg (u8s q).toArray) rfl (by go_simp) ?_
      try simp only [Act.put, List.setIfInBounds_toArray, List.set_cons_succ, List.set_cons_zero]
      refine takeL (.int .i64 11) rfl (by go_simp) ?_
      try simp only [Act.put, List.setIfInBounds_toArray, List.set_cons_succ, List.set_cons_zero]
      refine alloc_g zero26 rfl ?_
      intro w20 hA hb hl
      try simp only [Act.put, List.setIfInBounds_toArray, List.set_cons_succ, List.set_cons_zero]
      clear hl
      refine store_all (cs := (u8s q).toArray) hA (by simp only [u8s_size, List.size_toArray, List.length_append, List.length_singleton, List.length_map, HQL.out, HZ32.out]) (by rw [u8s_size, HQL.out]; exact info26) (u8s_one _) rfl rfl rfl ?_
      intro w21 hD hO hlD
      try simp only [Act.put, List.setIfInBounds_toArray, List.set_cons_succ, List.set_cons_zero]
      clear hlD hA
      have hbb : Below w15.heap.size w15 w21 := hb.trans (hO.below hb.size fun k hk => Nat.le_of_eq hk.symm)
      clear hb hO
      have HG22 : Hid (w.heap.size ≤ w15.heap.size) := Lib.hid F16.out.size
      have F23 := Lib.hid (F16.out.trans (hbb.mono F16.out.size))
      have F24 := Lib.hid (F17.out.below (Nat.le_refl _) hbb)
      have F25 := Lib.hid (F18.out.below hbb)
      have F26 := Lib.hid (F19.out.below hbb)
      clear F16 F17 F18 F19
      have F27 : Hid (Blk w21 w15.heap.size (u8s q)) := Lib.hid hD
      clear hD hbb w20
      generalize w15.heap.size = g28 at *
      clear w15
      refine takeL (.int .i64 11) rfl (by go_simp) ?_
      try simp only [Act.put, List.setIfInBounds_toArray, List.set_cons_succ, List.set_cons_zero]
      refine wpList_nil ?_
      go_upto_region 11 with fail
      refine wp_region_lit ?_
      refine takeL (.slice sa k sc) rfl (by go_simp) ?_
      try simp only [Act.put, List.setIfInBounds_toArray, List.set_cons_succ, List.set_cons_zero]
      refine wpList_op rfl fun K hK => ?_
      go_simp
      refine (rpage_to HLM.out HQ.out HCC.out _ _ F26.out).mono ?_
      rintro e w29 ⟨rfl, hb⟩
      have F30 := Lib.hid (F23.out.trans (hb.mono F23.out.size))
      have F31 := Lib.hid (F24.out.below (Nat.le_refl _) hb)
      have F32 := Lib.hid (F25.out.below hb)
      have F33 := Lib.hid (F26.out.below hb)
      have F34 := Lib.hid (F27.out.below hb F27.out.lt)
      clear F23 F24 F25 F26 F27
      clear hb
      refine hK _ _ ?_
      clear hK K
      try simp only [Act.put, List.setIfInBounds_toArray, List.set_cons_succ, List.set_cons_zero]
      refine alloc_g zero35 rfl ?_
      intro w35 hA hb hl
      try simp only [Act.put, List.setIfInBounds_toArray, List.set_cons_succ, List.set_cons_zero]
      clear hl
      refine store_all (cs := (u8s q ++ [Value.bool false]).toArray) hA (by simp only [u8s_size, List.size_toArray, List.length_append, List.length_singleton, List.length_map, HQL.out, HZ32.out]) (by rw [got_size HQL.out]; exact info35) (got_one _ _) rfl rfl rfl ?_
      intro w36 hD hO hlD
      try simp only [Act.put, List.setIfInBounds_toArray, List.set_cons_succ, List.set_cons_zero]
      clear hlD hA
      have hbb : Below w29.heap.size w29 w36 := hb.trans (hO.below hb.size fun k hk => Nat.le_of_eq hk.symm)
      clear hb hO
      have HN37 := Lib.hid (Nat.ne_of_lt F34.out.lt)
      have HG38 : Hid (w.heap.size ≤ w29.heap.size) := Lib.hid F30.out.size
      have F39 := Lib.hid (F30.out.trans (hbb.mono F30.out.size))
      have F40 := Lib.hid (F31.out.below (Nat.le_refl _) hbb)
      have F41 := Lib.hid (F32.out.below hbb)
      have F42 := Lib.hid (F33.out.below hbb)
      have F43 := Lib.hid (F34.out.below hbb F34.out.lt)
      clear F30 F31 F32 F33 F34
      have F44 : Hid (Blk w36 w29.heap.size (u8s q ++ [Value.bool false])) := Lib.hid hD
      clear hD hbb w35
      generalize w29.heap.size = g45 at *
      clear w29
      refine wpList_nil ?_
      go_wp2_with fail
      go_loopg [9] k (fun q i wr => ∃ j : Nat, k - j ≤ q ∧ j ≤ k ∧ i = .int .i64 j ∧ Below w36.heap.size w36 wr)
      case atStart => exact ⟨0, by omega, by omega, rfl, Below.refl _ _⟩
      case round =>
        obtain ⟨j, hq2, hj, rfl, hJ⟩ := hrel
        have JC := Lib.hid hJ
        clear hJ
        by_cases hlt2 : j < k
        · obtain ⟨g, o, cap, he, hg, hc⟩ := F42.out.has (by have := HN.out; omega)
          rw [HN.out] at he
          injection he with e1 e2 e3
          subst e1
          subst e3
          have hml : m.length = k := by
            have := congrArg List.length HMM.out
            rw [List.length_map, HLN.out] at this
            exact this
          obtain ⟨g3, o3, cap3, he3, hg3, hc3⟩ := F41.out.has (by omega)
          rw [hml] at he3
          subst he3
          obtain ⟨x, hx⟩ : ∃ x, l[j]? = some x := ⟨_, List.getElem?_eq_getElem (by have := HN.out; omega)⟩
          obtain ⟨b, bv⟩ := x
          obtain ⟨y, hy⟩ : ∃ y, m[j]? = some y := ⟨_, List.getElem?_eq_getElem (by omega)⟩
          obtain ⟨b3, cv⟩ := y
          obtain rfl : b3 = b := by
            have h1 : L[j]? = some b := by rw [← HLM.out, List.getElem?_map, hx]; rfl
            have h2 : L[j]? = some b3 := by rw [← HMM.out, List.getElem?_map, hy]; rfl
            exact Option.some.inj (h2.symm.trans h1)
          obtain ⟨x1, x2, x3⟩ := hc j _ hx
          obtain ⟨y1, y2, y3⟩ := hc3 j _ hy
          have HW := Lib.hid x1
          have A1 := Lib.hid (y3.below JC.out hg3)
          have A2 := Lib.hid (x3.below JC.out hg)
          have B1 := Lib.hid (y2.below JC.out)
          have B2 := Lib.hid (x2.below JC.out)
          have HG1 := Lib.hid (Nat.lt_of_lt_of_le hg JC.out.size)
          have HG3 := Lib.hid (Nat.lt_of_lt_of_le hg3 JC.out.size)
          have HBL3 : Hid (Below wr.heap.size wr wr) := Lib.hid (Below.refl _ _)
          have gj : decide ((j : Int) < (k : Int)) = true := decide_eq_true (by omega)
          have gw : IntKind.i64.wrap ((j : Int) + 1) = (j : Int) + 1 := by rw [IntKind.wrap_i64]; omega
          clear x1 x2 x3 y1 y2 y3 hx hy hg hg3 hc hc3 hml
          go_upto_region 15 with fail
          refine startH (fun wq => Below wr.heap.size wr wq) (by kernel_rfl) ?_
          refine takeH 0 (some 46) (.slice (some ⟨g3, o3, none⟩) k cap3) rfl rfl (by kernel_rfl) (by kernel_rfl) (by kernel_rfl) (fun _ _ _ h => h) rfl (fun wq hS => by go_simp) (Below.refl _ _).drew ?_
          try simp only [Act.put, List.setIfInBounds_toArray, List.set_cons_succ, List.set_cons_zero]
          refine takeH 1 (some 47) (.int .i64 j) rfl rfl (by kernel_rfl) (by kernel_rfl) (by kernel_rfl) (fun _ _ _ h => h) rfl (fun wq hS => by go_simp) (Below.refl _ _).drew ?_
          try simp only [Act.put, List.setIfInBounds_toArray, List.set_cons_succ, List.set_cons_zero]
          refine takeH 2 (some 48) (.pointer (some ⟨g3, o3 + j * 45, none⟩)) rfl rfl (by kernel_rfl) (by kernel_rfl) (by kernel_rfl) (fun _ _ _ h => h) rfl (fun wq hS => by go_simp) (Below.refl _ _).drew ?_
          try simp only [Act.put, List.setIfInBounds_toArray, List.set_cons_succ, List.set_cons_zero]
          refine takeH 3 (some 49) (.agg (b3.arr cv)) rfl rfl (by kernel_rfl) (by kernel_rfl) (by kernel_rfl) (fun _ _ _ h => h) rfl (fun wq hS => by exact exec_load_at wq _ _ 30 _ rfl g3 (o3 + j * 45) rfl (b3.arr cv) _ Tryd.underlying30 rfl (info30s HW.out _) (A1.out.below hS HG3.out)) (Below.refl _ _).drew ?_
          try simp only [Act.put, List.setIfInBounds_toArray, List.set_cons_succ, List.set_cons_zero]
          refine takeH 4 (some 50) (.slice (some ⟨g, o, none⟩) k sc) rfl rfl (by kernel_rfl) (by kernel_rfl) (by kernel_rfl) (fun _ _ _ h => h) rfl (fun wq hS => by go_simp) (Below.refl _ _).drew ?_
          try simp only [Act.put, List.setIfInBounds_toArray, List.set_cons_succ, List.set_cons_zero]
          refine takeH 5 (some 51) (.int .i64 j) rfl rfl (by kernel_rfl) (by kernel_rfl) (by kernel_rfl) (fun _ _ _ h => h) rfl (fun wq hS => by go_simp) (Below.refl _ _).drew ?_
          try simp only [Act.put, List.setIfInBounds_toArray, List.set_cons_succ, List.set_cons_zero]
          refine takeH 6 (some 52) (.pointer (some ⟨g, o + j * 45, none⟩)) rfl rfl (by kernel_rfl) (by kernel_rfl) (by kernel_rfl) (fun _ _ _ h => h) rfl (fun wq hS => by go_simp) (Below.refl _ _).drew ?_
          try simp only [Act.put, List.setIfInBounds_toArray, List.set_cons_succ, List.set_cons_zero]
          refine takeH 7 (some 53) (.agg (b3.arr bv)) rfl rfl (by kernel_rfl) (by kernel_rfl) (by kernel_rfl) (fun _ _ _ h => h) rfl (fun wq hS => by exact exec_load_at wq _ _ 30 _ rfl g (o + j * 45) rfl (b3.arr bv) _ Tryd.underlying30 rfl (info30s HW.out _) (A2.out.below hS HG1.out)) (Below.refl _ _).drew ?_
          try simp only [Act.put, List.setIfInBounds_toArray, List.set_cons_succ, List.set_cons_zero]
          refine oneH 8 (by kernel_rfl) rfl rfl fun K hK => ?_
          go_simp
          refine (block_self b3 cv bv HW.out _ (B1.out.below (Below.refl _ _).drew) (B2.out.below (Below.refl _ _).drew)).mono ?_
          rintro e w46 ⟨rfl, hb⟩
          have HS47 := Lib.hid (stay (Below.refl _ _).drew hb)
          clear hb
          refine hK _ _ HS47.out ?_
          clear hK K
          try simp only [Act.put, List.setIfInBounds_toArray, List.set_cons_succ, List.set_cons_zero]
          refine takeH 9 (some 55) (.bool false) rfl rfl (by kernel_rfl) (by kernel_rfl) (by kernel_rfl) (fun _ _ _ h => h) rfl (fun wq hS => by go_simp) HS47.out ?_
          try simp only [Act.put, List.setIfInBounds_toArray, List.set_cons_succ, List.set_cons_zero]
          refine wpAnyH_done (by kernel_rfl) ?_ _
          have hb := HS47.out
          have F48 := Lib.hid (HBL3.out.trans (hb.mono HBL3.out.size))
          clear HBL3
          clear hb
          go_wp2_with fail
          go_roundg (k - (j + 1))
          case measure => omega
          case rel => exact ⟨j + 1, by omega, by omega, by go_num, JC.out.trans (F48.out.mono JC.out.size)⟩
        · obtain rfl : j = k := by omega
          have gj : decide ((j : Int) < (j : Int)) = false := decide_eq_false (by omega)
          clear F42 F41
          have F49 := Lib.hid (F39.out.trans (JC.out.mono F39.out.size))
          have F50 := Lib.hid (F40.out.below (Nat.le_refl _) JC.out)
          have F51 := Lib.hid (F43.out.below JC.out F43.out.lt)
          have F52 := Lib.hid (F44.out.below JC.out F44.out.lt)
          clear F39 F40 F43 F44
          clear JC
          go_upto_region 17 with fail
          refine wp_region_lit ?_
          try simp only [List.append_eq, List.cons_append, List.nil_append]
          refine load26 (cs := (u8s q).toArray) (Blk.all F51.out rfl) (by rw [u8s_size, HQL.out]) rfl rfl ?_
          try simp only [Act.put, List.setIfInBounds_toArray, List.set_cons_succ, List.set_cons_zero]
          refine takeL (.pointer (some ⟨g45, 0, none⟩)) rfl (by go_simp) ?_
          try simp only [Act.put, List.setIfInBounds_toArray, List.set_cons_succ, List.set_cons_zero]
          refine load26 (cs := (u8s q).toArray) (got_at F52.out) (by rw [u8s_size, HQL.out]) rfl rfl ?_
          try simp only [Act.put, List.setIfInBounds_toArray, List.set_cons_succ, List.set_cons_zero]
          refine takeL (.bool true) rfl (by exact exec_page (decide_eq_true rfl) HQL.out HQL.out _ _ _ rfl rfl rfl) ?_
          try simp only [Act.put, List.setIfInBounds_toArray, List.set_cons_succ, List.set_cons_zero]
          refine takeL (.bool true) rfl (by go_simp) ?_
          try simp only [Act.put, List.setIfInBounds_toArray, List.set_cons_succ, List.set_cons_zero]
          refine takeL (.int .i64 11) rfl (by go_simp) ?_
          try simp only [Act.put, List.setIfInBounds_toArray, List.set_cons_succ, List.set_cons_zero]
          refine takeL (.bool false) rfl (by go_simp) ?_
          try simp only [Act.put, List.setIfInBounds_toArray, List.set_cons_succ, List.set_cons_zero]
          refine takeL (.pointer (some ⟨g45, 32, none⟩)) rfl (by go_simp) ?_
          try simp only [Act.put, List.setIfInBounds_toArray, List.set_cons_succ, List.set_cons_zero]
          refine takeL (.bool false) rfl (by have hq := F52.out.cell (i := 32) (v := .bool false) (got_ok HQL.out); go_simp) ?_
          try simp only [Act.put, List.setIfInBounds_toArray, List.set_cons_succ, List.set_cons_zero]
          refine takeL (.bool true) rfl (by go_simp) ?_
          try simp only [Act.put, List.setIfInBounds_toArray, List.set_cons_succ, List.set_cons_zero]
          refine takeL (.bool true) rfl (by go_simp) ?_
          try simp only [Act.put, List.setIfInBounds_toArray, List.set_cons_succ, List.set_cons_zero]
          refine takeL (.bool true) rfl (by go_simp) ?_
          try simp only [Act.put, List.setIfInBounds_toArray, List.set_cons_succ, List.set_cons_zero]
          refine takeL (.int .i64 11) rfl (by go_simp) ?_
          try simp only [Act.put, List.setIfInBounds_toArray, List.set_cons_succ, List.set_cons_zero]
          refine takeL (.bool false) rfl (by go_simp) ?_
          try simp only [Act.put, List.setIfInBounds_toArray, List.set_cons_succ, List.set_cons_zero]
          refine takeL (.bool false) rfl (by go_simp) ?_
          try simp only [Act.put, List.setIfInBounds_toArray, List.set_cons_succ, List.set_cons_zero]
          refine takeL (.int .i64 11) rfl (by go_simp) ?_
          try simp only [Act.put, List.setIfInBounds_toArray, List.set_cons_succ, List.set_cons_zero]
          refine takeL (.bool true) rfl (by go_simp) ?_
          try simp only [Act.put, List.setIfInBounds_toArray, List.set_cons_succ, List.set_cons_zero]
          refine takeL (.bool true) rfl (by go_simp) ?_
          try simp only [Act.put, List.setIfInBounds_toArray, List.set_cons_succ, List.set_cons_zero]
          refine takeL (.bool true) rfl (by go_simp) ?_
          try simp only [Act.put, List.setIfInBounds_toArray, List.set_cons_succ, List.set_cons_zero]
          refine takeL (.bool true) rfl (by go_simp) ?_
          try simp only [Act.put, List.setIfInBounds_toArray, List.set_cons_succ, List.set_cons_zero]
          refine wpList_op rfl fun K hK => ?_
          go_simp
          refine (wakes_any _ F50.out).mono ?_
          rintro e w53 ⟨rfl, hb⟩
          have F54 := Lib.hid (F49.out.trans (hb.mono F49.out.size))
          have F55 := Lib.hid (F50.out.below (Nat.le_refl _) hb)
          have F56 := Lib.hid (F51.out.below hb F51.out.lt)
          have F57 := Lib.hid (F52.out.below hb F52.out.lt)
          clear F49 F50 F51 F52
          clear hb
          refine hK _ _ ?_
          clear hK K
          try simp only [Act.put, List.setIfInBounds_toArray, List.set_cons_succ, List.set_cons_zero]
          refine takeL (.bool true) rfl (by go_simp) ?_
          try simp only [Act.put, List.setIfInBounds_toArray, List.set_cons_succ, List.set_cons_zero]
          refine takeL (.bool true) rfl (by go_simp) ?_
          try simp only [Act.put, List.setIfInBounds_toArray, List.set_cons_succ, List.set_cons_zero]
          refine wpList_nil ?_
          go_wp2_with fail
          go_ret
          exact ⟨rfl, F54.out⟩
theorem tells_any (l : List (Bk × Value)) (hbig : l.length ≤ 9223372036854775807) (sv : Value) (w : World) (h : BlksAt w sv l) (hev : ErrVar w) : Calls Tryd.prog 3 #[sv] w fun e w' => e = .returned (.bool true) ∧ Below w.heap.size w w' := by
  cases hf : fair (l.map (·.1)) with
  | false => exact tells_unfair l hbig sv w h hev hf
  | true =>
    cases hc : isChain (l.map (·.1)) with
    | false => exact tells_false l _ rfl sv w h hev hf hc
    | true => exact tells_true l _ rfl sv w h hev hf hc
end Go.Proofs.YtjejodgjakjeiaaDoor
