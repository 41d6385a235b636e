/- The statement ScanStale, walked. -/
import Derived.Test.YthlnmdihdcfphaaGreatDoorLe
namespace Go.Proofs.YthlnmdihdcfphaaGreatDoor
set_option linter.unusedSimpArgs false
set_option linter.unusedVariables false
open Go.RowKit

section
variable {w : World}
set_option maxRecDepth 100000 in
set_option maxHeartbeats 8000000 in
theorem sstale_any (hv : Vars w) (g : Pl.Gm) (os : List (Value × List (It × Value))) (nos : os.length ≤ 9223372036854775807) (ov : Value) (ho : GroupsAt w ov os) (gs : List (Value × List (It × Value))) (ng : gs.length ≤ 9223372036854775807) (sv : Value) (hg : GroupsAt w sv gs) : Calls Tryz.prog 5 #[g.v, ov, sv] w fun e w' => e = .returned (.bool true) ∧ Below w.heap.size w w' := by
  have HV := Lib.hid hv
  have HOS := Lib.hid ho
  have HGS := Lib.hid hg
  obtain ⟨ga, gc, hsv, -⟩ := id hg
  obtain ⟨oa, oc, hov, -⟩ := id ho
  obtain ⟨N, hK⟩ : ∃ N, gs.length = N := ⟨_, rfl⟩
  obtain ⟨NO, hKO⟩ : ∃ N, os.length = N := ⟨_, rfl⟩
  rw [hK] at hsv
  rw [hKO] at hov
  subst hsv
  subst hov
  have HK := Lib.hid hK
  have HKO := Lib.hid hKO
  clear hv hK hKO ng hg nos ho
  go_enter Tryz.func5, Tryz.ntmps5
  go_upto_region 0 with fail
  refine wp_region_lit ?_
  refine box_g rfl rfl ?_
  try simp only [Act.put, List.setIfInBounds_toArray, List.set_cons_succ, List.set_cons_zero]
  intro w1 hV hb hl
  try simp only [Act.put, List.setIfInBounds_toArray, List.set_cons_succ, List.set_cons_zero]
  have HG1 := Lib.hid hV
  have HB1 := Lib.hid hb
  clear hV hb hl

  refine takeL (.bool false) rfl (by go_simp) ?_
  try simp only [Act.put, List.setIfInBounds_toArray, List.set_cons_succ, List.set_cons_zero]
  refine wpList_nil ?_
  have q0 := HG1.out.cell (i := 0) rfl
  have q1 := HG1.out.cell (i := 1) rfl
  have q2 := HG1.out.cell (i := 2) rfl
  have q3 := HG1.out.cell (i := 3) rfl
  by_cases hok : g.Ok
  rotate_left
  · have HOK := Lib.hid hok
    clear hok
    go_wp2_with fail
    refine (Pl.rgood_no g HOK.out _).mono ?_
    rintro e w3 ⟨rfl, hb⟩
    have HB3 := Lib.hid (stay HB1.out hb)
    clear hb q0 q1 q2 q3
    go_wp2_with fail
    refine (wakes_any (Vars.below (Nat.le_refl _) HB3.out HV.out)).mono ?_
    rintro e w4 ⟨rfl, hb⟩
    have HB4 := Lib.hid (stay HB3.out hb)
    clear hb
    go_wp2_with fail
    go_ret
    exact ⟨rfl, HB4.out⟩
  have HOK := Lib.hid hok
  clear hok
  go_wp2_with fail
  refine (Pl.rgood_yes g HOK.out _).mono ?_
  rintro e w3 ⟨rfl, hb⟩
  have HB3 := Lib.hid (stay HB1.out hb)
  have HG3 := Lib.hid (HG1.out.below hb HG1.out.lt)
  clear hb q0 q1 q2 q3 HG1
  by_cases hlimNO : 12 < NO
  · have dlimNO : decide ((12 : Int) < (NO : Int)) = true := decide_eq_true (by omega)
  
    go_wp2_with fail
    refine (wakes_any (Vars.below (Nat.le_refl _) HB3.out HV.out)).mono ?_
    rintro e w4 ⟨rfl, hb⟩
    have HB4 := Lib.hid (stay HB3.out hb)
    clear hb
    go_wp2_with fail
    go_ret
    exact ⟨rfl, HB4.out⟩
  have dlimNO : decide ((12 : Int) < (NO : Int)) = false := decide_eq_false (by omega)
  have HLNO : Hid (NO ≤ 12) := Lib.hid (by omega)
  by_cases hlimN : 12 < N
  · have dlimN : decide ((12 : Int) < (N : Int)) = true := decide_eq_true (by omega)
  
    go_wp2_with fail
    refine (wakes_any (Vars.below (Nat.le_refl _) HB3.out HV.out)).mono ?_
    rintro e w4 ⟨rfl, hb⟩
    have HB4 := Lib.hid (stay HB3.out hb)
    clear hb
    go_wp2_with fail
    go_ret
    exact ⟨rfl, HB4.out⟩
  have dlimN : decide ((12 : Int) < (N : Int)) = false := decide_eq_false (by omega)
  have HLN : Hid (N ≤ 12) := Lib.hid (by omega)

  obtain ⟨t, ht, ht1, ht2⟩ := Pl.Gm.total HOK.out
  have HT := Lib.hid ht
  have HTB : Hid (1 ≤ t ∧ t ≤ 1024) := Lib.hid ⟨ht1, ht2⟩
  clear hlimNO hlimN ht ht1 ht2
  go_upto_region 3 with fail
  refine wp_region_lit ?_
  clear dlimNO dlimN
  refine takeL (.agg #[.int .i64 g.p, .int .i64 g.s, .int .i64 g.l, .int .i64 g.f]) rfl (by have q := HG3.out; have q0 := q.cell (i := 0) rfl; have q1 := q.cell (i := 1) rfl; have q2 := q.cell (i := 2) rfl; have q3 := q.cell (i := 3) rfl; go_simp) ?_
  try simp only [Act.put, List.setIfInBounds_toArray, List.set_cons_succ, List.set_cons_zero]
  refine wpList_op rfl fun K hK => ?_
  go_simp
  refine (Pl.rof_yes g HOK.out _).mono ?_
  rintro e w5 ⟨rfl, hb⟩
  rw [HT.out]
  have HB5 := Lib.hid (stay HB3.out hb)
  have HG5 := Lib.hid (HG3.out.below hb HG3.out.lt)
  clear hb HG3 HB3
  refine hK _ _ ?_
  clear hK K
  try simp only [Act.put, List.setIfInBounds_toArray, List.set_cons_succ, List.set_cons_zero]
  refine takeL (.int .i64 (t : Int)) rfl (by have z := field35m g.maps (t : Int) g.cap w5; go_simp) ?_
  try simp only [Act.put, List.setIfInBounds_toArray, List.set_cons_succ, List.set_cons_zero]
  refine wpList_op rfl fun K hK => ?_
  go_simp
  refine (De.dv_new w5 _ (Below.refl _ _) t HTB.out).mono ?_
  rintro e w6 ⟨b, F, rfl, hdv, hb, hF⟩
  have HG6 := Lib.hid (HG5.out.below hb HG5.out.lt)
  have HW56 : Hid (w5.heap.size ≤ w6.heap.size) := Lib.hid hb.size
  have HD6 := Lib.hid hdv
  have HB6 := Lib.hid (stay HB5.out hb)
  have HGS6 : Hid (¬ F w.heap.size ∧ w.heap.size < w6.heap.size) := Lib.hid ⟨fun hf => by have h1 := hF _ hf; have h2 := HG5.out.lt; omega, HG6.out.lt⟩
  clear hdv hb hF HG5
  refine hK _ _ ?_
  clear hK K
  try simp only [Act.put, List.setIfInBounds_toArray, List.set_cons_succ, List.set_cons_zero]
  refine takeL (.tuple #[.pointer (some ⟨b, 0, none⟩), .int .i64 0]) rfl (by go_simp) ?_
  try simp only [Act.put, List.setIfInBounds_toArray, List.set_cons_succ, List.set_cons_zero]
  refine takeL (.pointer (some ⟨b, 0, none⟩)) rfl (by go_simp) ?_
  try simp only [Act.put, List.setIfInBounds_toArray, List.set_cons_succ, List.set_cons_zero]
  refine takeL (.int .i64 0) rfl (by go_simp) ?_
  try simp only [Act.put, List.setIfInBounds_toArray, List.set_cons_succ, List.set_cons_zero]
  refine takeL (.pointer (some ⟨b, 0, none⟩)) rfl (by go_simp) ?_
  try simp only [Act.put, List.setIfInBounds_toArray, List.set_cons_succ, List.set_cons_zero]
  refine takeL (.int .i64 0) rfl (by go_simp) ?_
  try simp only [Act.put, List.setIfInBounds_toArray, List.set_cons_succ, List.set_cons_zero]
  refine wpList_nil ?_
  obtain ⟨sN, hsN⟩ : ∃ sN : Nat, g.s = (sN : Int) := ⟨g.s.toNat, by have := HOK.out.2.1; omega⟩
  have HSN : Hid (g.s = (sN : Int) ∧ 6 ≤ sN ∧ sN ≤ 16) := Lib.hid ⟨hsN, by have := HOK.out.2.1; omega, by have := HOK.out.2.1; omega⟩
  clear hsN
  have hO0 : Hid (OwnN w6 w6.heap.size (.slice none 0 0) (frm 1 0)) := Lib.hid (OwnN.nil _ _)
  go_wp2_with fail
  go_loopg [9, 10] sN (fun q u9 i wr => ∃ (j : Nat) (s9 : Value), s9 = u9 ∧ sN - j ≤ q ∧ i = .int .i64 (1 + (j : Int)) ∧ j + 1 ≤ sN ∧ OwnN wr w6.heap.size s9 (frm 1 j) ∧ Below w6.heap.size w6 wr)
  case atStart => exact ⟨0, _, rfl, by omega, rfl, by have := HSN.out; omega, hO0.out, Below.refl _ _⟩
  case round =>
    obtain ⟨j, s9, rfl, hq, rfl, hjs, hown, hbel⟩ := hrel
    have HOW := Lib.hid hown
    have HBR := Lib.hid hbel
    have HGR := Lib.hid (HG6.out.below hbel HG6.out.lt)
    obtain ⟨fa, fc, hfv⟩ := hown.ints.form
    rw [frm_len] at hfv
    subst hfv
    clear hown hbel
    have q1 := HGR.out.cell (i := 1) rfl
  
    by_cases hc : (1 + (j : Int)) < g.s
    · have dc : decide ((1 + (j : Int)) < g.s) = true := decide_eq_true hc
      have hj2 : j + 2 ≤ sN ∧ j + 1 ≤ 16 := by have := HSN.out; omega
      have gw : IntKind.i64.wrap ((1 + (j : Int)) + 1) = 1 + ((j + 1 : Nat) : Int) := by rw [wrap64 (by omega) (by omega)]; push_cast; omega
      go_upto_region 8 with fail
      refine wp_region_lit ?_
      refine takeL (.slice fa j fc) rfl (by go_simp) ?_
      try simp only [Act.put, List.setIfInBounds_toArray, List.set_cons_succ, List.set_cons_zero]
      refine takeL (.int .i64 (1 + (j : Int))) rfl (by go_simp) ?_
      try simp only [Act.put, List.setIfInBounds_toArray, List.set_cons_succ, List.set_cons_zero]
      refine wpList_run (.slice (some ⟨wr.heap.size, 0, none⟩) 1 1) (wr.alloc (.cells #[.int .i64 (1 + (j : Int))] 3)) rfl (by go_simp) ?_
      try simp only [Act.put, List.setIfInBounds_toArray, List.set_cons_succ, List.set_cons_zero]
      have hb1 := alloc_bel wr (.cells #[.int .i64 (1 + (j : Int))] 3)
      have hl1 : IntsAt (wr.alloc (.cells #[.int .i64 (1 + (j : Int))] 3)) (.slice (some ⟨wr.heap.size, 0, none⟩) 1 1) [(1 + (j : Int))] := (OwnN.lit wr wr.heap.size (Nat.le_refl _) [(1 + (j : Int))] (by simp) _ rfl).ints
      refine app_LNg (HOW.out.below hb1) (Nat.le_trans HBR.out.size hb1.size) hl1 (by rw [frm_len]; simp only [List.length_cons, List.length_nil]; omega) rfl rfl rfl ?_
      intro tv w8 ho hg8
      try simp only [Act.put, List.setIfInBounds_toArray, List.set_cons_succ, List.set_cons_zero]
      rw [← frm_next] at ho
      have HO8 := Lib.hid ho
      have HB8 : Hid (Below w6.heap.size w6 w8) := Lib.hid ((stay HBR.out hb1).trans (grown_below hg8 (Nat.le_trans HBR.out.size hb1.size) fun k hk => (HOW.out.lt k hk).1))
      obtain ⟨ta, tc, htv⟩ := ho.ints.form
      rw [frm_len] at htv
      subst htv
      clear hb1 hl1 ho hg8 HOW HBR HGR q1
      refine takeL (.slice ta (j + 1) tc) rfl (by go_simp) ?_
      try simp only [Act.put, List.setIfInBounds_toArray, List.set_cons_succ, List.set_cons_zero]
      refine wpList_nil ?_
      go_wp2_with fail
      go_roundg (sN - (j + 1))
      case measure => omega
      case rel => exact ⟨j + 1, _, rfl, by omega, congrArg (Value.int IntKind.i64) (by omega), by omega, HO8.out, HB8.out⟩
    · have dc : decide ((1 + (j : Int)) < g.s) = false := decide_eq_false hc
      have HJS : Hid (j + 1 = sN) := Lib.hid (by have := HSN.out; omega)
      clear hq
      have HOI := Lib.hid HOW.out.ints
      have HDQ : Hid (Dq w5 w wr b F (De.newD t) [(w.heap.size, [.int .i64 g.p, .int .i64 g.s, .int .i64 g.l, .int .i64 g.f])] [(.slice fa j fc, frm 1 j)]) := Lib.hid (by
        have h2 := HGS6.out
        have h3 := HBR.out.size
        refine ⟨HD6.out.below HBR.out, fun x hx => ?_, fun x hx => ?_, stay HB6.out HBR.out, HB5.out.size, Nat.le_trans HW56.out HBR.out.size⟩
        · obtain rfl := List.mem_singleton.1 hx
          exact ⟨HGR.out, by show w.heap.size < _; omega, h2.1⟩
        · obtain rfl := List.mem_singleton.1 hx
          refine ⟨HOW.out.ints, fun b' o n c e => ?_⟩
          have h4 := HOW.out.lt b' (by rw [show Value.slice fa j fc = .slice (some ⟨b', o, none⟩) n c from e]; rfl)
          exact ⟨h4.2, fun hf => by have := (HD6.out.lt _ hf).2; omega⟩)
      have HWW : Hid (w.heap.size < wr.heap.size ∧ w5.heap.size ≤ wr.heap.size) := Lib.hid ⟨by have h2 := HGS6.out.2; have h3 := HBR.out.size; omega, Nat.le_trans HW56.out HBR.out.size⟩
      clear HOW HBR hc HGR
      have HGD : Hid (∀ q : Int, (⟨0, 0, q, frm 1 j⟩ : Ja).good g = true) := Lib.hid fun q => frm_good HOK.out ⟨Int.le_refl _, by have := HSN.out; omega⟩ ⟨Int.le_refl _, by have := HOK.out.2.2.1.1; omega⟩ (by decide) (by have h1 := HSN.out; have h2 := HJS.out; omega) (.inl (by decide))
      have HFT : Hid (∀ (c : Ja) (n : Nat), c.good g = true → n = t → fits g c n = true) := Lib.hid fun c n hc hn => by
        have h : 4 + g.s * g.l ≤ (n : Int) := by rw [hn, HT.out]; exact Int.le_refl _
        unfold fits
        rw [hc, decide_eq_true h]
        rfl
      have HFL : Hid ((frm 1 j).length ≤ 9223372036854775807) := Lib.hid (by rw [frm_len]; have h1 := HSN.out; have h2 := HJS.out; omega)
      go_wp2_with fail
      clear q1 dc
      go_loopg [11] 2 (fun q u11 wr => ∃ (s : Nat) (Fk : Nat → Prop) (d : De.D) (X : List (List Int)), u11 = .int .i64 (s : Int) ∧ 2 - s ≤ q ∧ s ≤ 2 ∧ Dq w5 w wr b Fk d [(w.heap.size, [.int .i64 g.p, .int .i64 g.s, .int .i64 g.l, .int .i64 g.f])] [(.slice fa j fc, frm 1 j)] ∧ Img d X ∧ (∀ y ∈ X, Far y) ∧ d.F < 0 ∧ d.L = [] ∧ d.S.length = t ∧ d.T ≤ 1025 * (12 * s))
      case atStart => exact ⟨0, F, _, _, rfl, by omega, by omega, HDQ.out, img_new t, fun y hy => by rw [List.eq_of_mem_replicate hy]; exact far_zero, (by show (-1 : Int) < 0; decide), rfl, newD_len t, Nat.zero_le _⟩
      case round =>
        obtain ⟨s, Fk, d, X, rfl, hq, hs, hdq, himg, hfar, hF, hL, hS, hT⟩ := hrel
        have HDQ2 := Lib.hid hdq
        have HIM : Hid (Img d X ∧ ∀ y ∈ X, Far y) := Lib.hid ⟨himg, hfar⟩
        have HDF : Hid (d.F < 0 ∧ d.L = [] ∧ d.S.length = t ∧ d.T ≤ 1025 * (12 * s)) := Lib.hid ⟨hF, hL, hS, hT⟩
        clear hdq himg hfar hF hL hS hT HDQ
        by_cases hs2 : s < 2
        · have ds : decide ((s : Int) < 2) = true := decide_eq_true (by omega)
          obtain ⟨sq, hsq⟩ : ∃ sq : Int, 1 + 100000 * (s : Int) = sq := ⟨_, rfl⟩
          have HSQ : Hid (sq = 1 ∨ sq = 100001) := Lib.hid (by omega)
          have gm : Hid (IntKind.i64.wrap (100000 * (s : Int)) = 100000 * (s : Int)) := Lib.hid (wrap64 (by omega) (by omega))
          have gad : Hid (IntKind.i64.wrap (1 + 100000 * (s : Int)) = sq) := Lib.hid (by rw [wrap64 (by omega) (by omega)]; exact hsq)
          have gu : Hid (IntKind.u32.wrap sq = sq) := Lib.hid (wrap32 (by omega) (by omega))
          have HSS : Hid (Seq32 sq) := Lib.hid ⟨by omega, by unfold M32; omega⟩
          clear hsq
          go_upto_region 12 with fail
          clear ds
          refine wp_region_lit ?_
          refine takeL (.pointer (some ⟨b, 0, none⟩)) rfl (by go_simp) ?_
          try simp only [Act.put, List.setIfInBounds_toArray, List.set_cons_succ, List.set_cons_zero]
          refine takeL (.agg #[.int .i64 g.p, .int .i64 g.s, .int .i64 g.l, .int .i64 g.f]) rfl (by have q := (HDQ2.out.bl _ (.head _)).1; have q0 := q.cell (i := 0) rfl; have q1 := q.cell (i := 1) rfl; have q2 := q.cell (i := 2) rfl; have q3 := q.cell (i := 3) rfl; go_simp) ?_
          try simp only [Act.put, List.setIfInBounds_toArray, List.set_cons_succ, List.set_cons_zero]
          refine takeL (.int .i64 (s : Int)) rfl (by go_simp) ?_
          try simp only [Act.put, List.setIfInBounds_toArray, List.set_cons_succ, List.set_cons_zero]
          refine takeL (.int .i64 (100000 * (s : Int))) rfl (by have z := gm.out; go_simp) ?_
          try simp only [Act.put, List.setIfInBounds_toArray, List.set_cons_succ, List.set_cons_zero]
          refine takeL (.int .i64 sq) rfl (by have z := gad.out; go_simp) ?_
          try simp only [Act.put, List.setIfInBounds_toArray, List.set_cons_succ, List.set_cons_zero]
          refine takeL (.int .u32 sq) rfl (by have z := gu.out; go_simp) ?_
          try simp only [Act.put, List.setIfInBounds_toArray, List.set_cons_succ, List.set_cons_zero]
          refine takeL (.slice fa j fc) rfl (by go_simp) ?_
          try simp only [Act.put, List.setIfInBounds_toArray, List.set_cons_succ, List.set_cons_zero]
          refine takeL (.agg #[.int .i64 0, .int .i64 0, .int .u32 sq, .slice fa j fc]) rfl (exec_build _ _ _ _ 40 _ rfl #[(2, .int .u32 sq), (3, .slice fa j fc)] (by simp only [List.map_toArray, List.map_cons, List.map_nil]; rfl) _ (run_build wr 40 _ _ (built40c _ _ _ _))) ?_
          try simp only [Act.put, List.setIfInBounds_toArray, List.set_cons_succ, List.set_cons_zero]
          refine wpList_op rfl fun K hK => ?_
          go_simp
          refine (new_yes (W := w5) b Fk d (by rw [HDF.out.2.2.1]; have := HTB.out; omega) g ⟨0, 0, sq, frm 1 j⟩ (.slice fa j fc) HFL.out (HFT.out _ _ (HGD.out _) HDF.out.2.2.1) HSS.out _ (HDQ2.out.il _ (.head _)).1 HDQ2.out.dv).mono ?_
          rintro e w9 ⟨jb, tv, rfl, hj, hjl, hb⟩
          have HKQ := Lib.hid (HDQ2.out.new hb hj hjl)
          clear hj hjl hb HDQ2
          refine hK _ _ ?_
          clear hK K
          try simp only [Act.put, List.setIfInBounds_toArray, List.set_cons_succ, List.set_cons_zero]
          refine takeL (.tuple #[.pointer (some ⟨jb, 0, none⟩), .int .i64 0]) rfl (by go_simp) ?_
          try simp only [Act.put, List.setIfInBounds_toArray, List.set_cons_succ, List.set_cons_zero]
          refine takeL (.pointer (some ⟨jb, 0, none⟩)) rfl (by go_simp) ?_
          try simp only [Act.put, List.setIfInBounds_toArray, List.set_cons_succ, List.set_cons_zero]
          refine takeL (.int .i64 0) rfl (by go_simp) ?_
          try simp only [Act.put, List.setIfInBounds_toArray, List.set_cons_succ, List.set_cons_zero]
          refine takeL (.pointer (some ⟨jb, 0, none⟩)) rfl (by go_simp) ?_
          try simp only [Act.put, List.setIfInBounds_toArray, List.set_cons_succ, List.set_cons_zero]
          refine takeL (.int .i64 0) rfl (by go_simp) ?_
          try simp only [Act.put, List.setIfInBounds_toArray, List.set_cons_succ, List.set_cons_zero]
          refine wpList_nil ?_
          have HI0 : Hid (sq ≤ (⟨0, 0, sq, frm 1 j⟩ : Ja).seq ∧ (⟨0, 0, sq, frm 1 j⟩ : Ja).seq ≤ sq + 3 * ((0 : Nat) : Int)) := Lib.hid ⟨Int.le_refl _, by show sq ≤ _; omega⟩
          go_wp2_with fail
          go_loopg [14] NO (fun q u14 wr => ∃ (i : Nat) (Fk : Nat → Prop) (a : Ja) (d : De.D) (fv : Value) (X : List (List Int)), u14 = .int .i64 (i : Int) ∧ NO - i ≤ q ∧ i ≤ NO ∧ Kp w5 w wr jb b Fk d g a fv [(w.heap.size, [.int .i64 g.p, .int .i64 g.s, .int .i64 g.l, .int .i64 g.f])] [(.slice fa j fc, frm 1 j)] ∧ Img d X ∧ (∀ y ∈ X, Far y) ∧ d.F < 0 ∧ d.L = [] ∧ d.S.length = t ∧ d.T ≤ 1025 * (12 * s + i) ∧ sq ≤ a.seq ∧ a.seq ≤ sq + 3 * (i : Int))
          case atStart => exact ⟨0, Fk, _, d, tv, X, rfl, by omega, by omega, HKQ.out, HIM.out.1, HIM.out.2, HDF.out.1, HDF.out.2.1, HDF.out.2.2.1, HDF.out.2.2.2, HI0.out⟩
          case round =>
            obtain ⟨i, Fk, a, d, fv, X, rfl, hq, hi, hkp, himg, hfar, hF, hL, hS, hT, hsl, hsh⟩ := hrel
            clear HIM HDF HKQ HI0
            have HKP := Lib.hid hkp
            have HIM : Hid (Img d X ∧ ∀ y ∈ X, Far y) := Lib.hid ⟨himg, hfar⟩
            have HDF : Hid (d.F < 0 ∧ d.L = [] ∧ d.S.length = t ∧ d.T ≤ 1025 * (12 * s + i)) := Lib.hid ⟨hF, hL, hS, hT⟩
            have HSEQ : Hid (sq ≤ a.seq ∧ a.seq ≤ sq + 3 * (i : Int)) := Lib.hid ⟨hsl, hsh⟩
            clear hkp himg hfar hF hL hS hT hsl hsh
            by_cases hiN : i < NO
            · have dN : decide ((i : Int) < (NO : Int)) = true := decide_eq_true (by omega)
              have hiI : (i : Int) < (NO : Int) := by omega
              obtain ⟨x, hx⟩ : ∃ x, os[i]? = some x := ⟨_, List.getElem?_eq_getElem (by have := HKO.out; omega)⟩
              obtain ⟨xb, xo, xc, hxe, hxc, hxi, hxl⟩ := HOS.out.at hx
              rw [HKO.out] at hxe
              injection hxe with e1 e2 e3
              subst e1
              subst e3
              obtain ⟨lv, ll⟩ := x
              simp only at hxc hxi hxl
              have HXC := Lib.hid hxc
              have HXI := Lib.hid hxi
              have HXL := Lib.hid hxl
              obtain ⟨la, lc, hlv⟩ := items_one hxi
              obtain ⟨ln, hln⟩ : ∃ n, ll.length = n := ⟨_, rfl⟩
              rw [hln] at hlv
              subst hlv
              have HLL := Lib.hid hln
              clear hx hxc hxi hxl e2 hln
              have cx := cell_bel HXC.out HKP.out.bel
              go_wp2_with fail
              refine (fair_any ll ln HLL.out (by rw [← HLL.out]; exact HXL.out) (.slice la ln lc) _ (HXI.out.below HKP.out.bel)).mono ?_
              rintro e wD ⟨rfl, rfl⟩
              cases hfair : fair (ll.map (·.1))
              · clear hfair
                have HBX := Lib.hid HKP.out.bel
                go_wp2_with fail
                refine (wakes_any (Vars.below (Nat.le_refl _) HBX.out HV.out)).mono ?_
                rintro e w4 ⟨rfl, hb⟩
                have HB4 := Lib.hid (stay HBX.out hb)
                clear hb
                go_wp2_with fail
                go_ret
                exact ⟨rfl, HB4.out⟩
              have HFAIR := Lib.hid hfair
              clear hfair
              have hL0 : ll.length ≤ 100 := by have := fair_len HFAIR.out; rw [List.length_map] at this; exact this
              have HLE := Lib.hid hL0
              have HBE : Hid (∀ x ∈ ll, x.1.blk.bytes.length ≤ 300) := Lib.hid fun x hx => fair_bytes HFAIR.out x.1 (List.mem_map.2 ⟨x, hx, rfl⟩)
              clear hL0
              go_upto_region 20 with fail
              clear cx
              refine wp_region_lit ?_
              refine takeL (.pointer (some ⟨jb, 0, none⟩)) rfl (by go_simp) ?_
              try simp only [Act.put, List.setIfInBounds_toArray, List.set_cons_succ, List.set_cons_zero]
              refine takeL (.slice (some ⟨xb, xo, none⟩) NO oc) rfl (by go_simp) ?_
              try simp only [Act.put, List.setIfInBounds_toArray, List.set_cons_succ, List.set_cons_zero]
              refine takeL (.int .i64 (i : Int)) rfl (by go_simp) ?_
              try simp only [Act.put, List.setIfInBounds_toArray, List.set_cons_succ, List.set_cons_zero]
              refine takeL (.pointer (some ⟨xb, xo + i, none⟩)) rfl (by go_simp) ?_
              try simp only [Act.put, List.setIfInBounds_toArray, List.set_cons_succ, List.set_cons_zero]
              refine takeL (.slice la ln lc) rfl (by have q := cell_bel HXC.out HKP.out.bel; go_simp) ?_
              try simp only [Act.put, List.setIfInBounds_toArray, List.set_cons_succ, List.set_cons_zero]
              refine wpList_op rfl fun K hK => ?_
              go_simp
              refine (own_new ll HLE.out HBE.out _ _ (HXI.out.below HKP.out.bel)).mono ?_
              rintro e wA ⟨tv, m, rfl, hm, hit, hb, hn1, hn2⟩
              have HKA := Lib.hid (HKP.out.below hb)
              have HFS := Lib.hid (fun (q : Nat) (hq : Fk q) => (HKP.out.jn.dv.lt q hq).2)
              have HM := Lib.hid hm
              have HMI := Lib.hid hit
              have HN1 := Lib.hid hn1
              have HN2 := Lib.hid hn2
              have HML : Hid (m.length ≤ 100) := Lib.hid (by have := congrArg List.length hm; rw [List.length_map, List.length_map] at this; have := HLE.out; omega)
              have HWF := Lib.hid (its_wf HXI.out)
              obtain ⟨ta, tc, htv⟩ := items_one hit
              obtain ⟨mn, hmn⟩ : ∃ n, m.length = n := ⟨_, rfl⟩
              rw [hmn] at htv
              subst htv
              clear hm hit hb hn1 hn2 hmn HKP
              refine hK _ _ ?_
              clear hK K
              try simp only [Act.put, List.setIfInBounds_toArray, List.set_cons_succ, List.set_cons_zero]
              refine wpList_op rfl fun K hK => ?_
              go_simp
              refine (put_any HKA.out.jn (Vars.below (Nat.le_refl _) HB5.out HV.out) m (ll.map (·.1)) HM.out _ (by have := HML.out; omega) HMI.out (fun w' ho => own_kept _ HFS.out HMI.out HN1.out HN2.out ho) (by rw [HDF.out.2.2.1]; exact HTB.out.2) (by have := HDF.out.2.2.2; have := HLN.out; have := HLNO.out; omega) (by rw [HDF.out.2.1]; exact Nat.zero_le _)).mono ?_
              rintro e wB ⟨pv, rfl, F2, f3, ho, hj, hon, hn, hpa, hsr⟩
              have hln := jput_len (g := g) (a := a) d (L := ll.map (·.1)) (by have := (Ja.good_parts HKA.out.jn.good).1.2.2.1.2; omega)
              have hgo := old_goes HKA.out.jn.good HIM.out.1 HKA.out.jn.total HIM.out.2 HDF.out.1 HDF.out.2.1 (ll.map (·.1)) HWF.out (by have h1 := HSEQ.out; have h2 := HSQ.out; have h3 := HLNO.out; rcases h2 with h2 | h2 <;> omega)
              obtain ⟨⟨pe, pl, a2, d2⟩, hp⟩ : ∃ p, jput g a d (ll.map (·.1)) = p := ⟨_, rfl⟩
              rw [hp] at ho hj hln hgo ⊢
              dsimp only at ho hj hln hgo ⊢
              have HKB := Lib.hid (HKA.out.put hj hon hn)
              have HNM : Hid (d2.S.length = t ∧ d2.T ≤ d.T + 1025) := Lib.hid ⟨hln.1.trans HDF.out.2.2.1, hln.2.1⟩
              have HGO := Lib.hid hgo
              obtain ⟨pa, pc, hpv⟩ := ho.ints.form
              obtain ⟨pn, hpn⟩ : ∃ n, pl.length = n := ⟨_, rfl⟩
              rw [hpn] at hpv
              subst hpv
              clear hp ho hj hon hn hpa hsr hln hgo hpn HKA
              refine hK _ _ ?_
              clear hK K
              try simp only [Act.put, List.setIfInBounds_toArray, List.set_cons_succ, List.set_cons_zero]

              refine wpList_nil ?_
              obtain ⟨X2, k1, k2, k3, k4, k5, k6⟩ := HGO.out
              have HR : Hid (Img d2 X2 ∧ (∀ y ∈ X2, Far y) ∧ d2.F < 0 ∧ d2.L = [] ∧ d2.S.length = t ∧ d2.T ≤ 1025 * (12 * s + (i + 1)) ∧ sq ≤ a2.seq ∧ a2.seq ≤ sq + 3 * ((i + 1 : Nat) : Int)) := Lib.hid ⟨k1, k2, k4, k3, HNM.out.1, by have := HNM.out.2; have := HDF.out.2.2.2; omega, by have := HSEQ.out; omega, by have := HSEQ.out; push_cast; omega⟩
              clear k1 k2 k3 k4 k5 k6 HGO HNM HSEQ HDF HIM
              have gii : IntKind.i64.wrap ((i : Int) + 1) = ((i + 1 : Nat) : Int) := by have := HLNO.out; rw [wrap64 (by omega) (by omega)]; push_cast; rfl
              go_wp2_with fail
              go_roundg (NO - (i + 1))
              case measure => omega
              case rel => exact ⟨i + 1, F2, a2, d2, f3, X2, by go_num, by omega, by omega, HKB.out, HR.out⟩
            · obtain rfl : i = NO := by omega
              have dN : decide ((i : Int) < (i : Int)) = false := decide_eq_false (by omega)
              have HDQ3 := Lib.hid (Dq.of HKP.out)
              have HTT : Hid (d.T ≤ 1025 * (12 * (s + 1))) := Lib.hid (by have := HDF.out.2.2.2; have := HLNO.out; omega)
              have gss : IntKind.i64.wrap ((s : Int) + 1) = ((s + 1 : Nat) : Int) := by rw [wrap64 (by omega) (by omega)]; push_cast; rfl
              clear HKP HSEQ hi
              go_wp2_with fail
              go_roundg (2 - (s + 1))
              case measure => omega
              case rel => exact ⟨s + 1, Fk, d, X, by go_num, by omega, by omega, HDQ3.out, HIM.out.1, HIM.out.2, HDF.out.1, HDF.out.2.1, HDF.out.2.2.1, HTT.out⟩

        · obtain rfl : s = 2 := by omega
          clear hq hs hs2
          have ds : decide (((2 : Nat) : Int) < 2) = false := rfl
          go_upto_region 21 with fail
          clear ds
          refine wp_region_lit ?_
          refine takeL (.slice fa j fc) rfl (by go_simp) ?_
          try simp only [Act.put, List.setIfInBounds_toArray, List.set_cons_succ, List.set_cons_zero]
          refine takeL (.agg #[.int .i64 0, .int .i64 0, .int .u32 5000, .slice fa j fc]) rfl (exec_build _ _ _ _ 40 _ rfl #[(2, .int .u32 5000), (3, .slice fa j fc)] (by simp only [List.map_toArray, List.map_cons, List.map_nil]; rfl) _ (run_build wr 40 _ _ (built40c _ _ _ _))) ?_
          try simp only [Act.put, List.setIfInBounds_toArray, List.set_cons_succ, List.set_cons_zero]
          refine alloc_g zero40 rfl ?_
          intro w7 hA hb7 hl7
          try simp only [Act.put, List.setIfInBounds_toArray, List.set_cons_succ, List.set_cons_zero]
          refine store_all (cs := #[.int .i64 0, .int .i64 0, .int .u32 5000, .slice fa j fc]) hA rfl info40 (at_one _ _ _ _ _ _) rfl rfl rfl ?_
          intro w8 hD hO hlD
          try simp only [Act.put, List.setIfInBounds_toArray, List.set_cons_succ, List.set_cons_zero]
          have hbb : Below wr.heap.size wr w8 := hb7.trans (hO.below hb7.size fun k hk => Nat.le_of_eq hk.symm)
          have HDQ3 : Hid (Dq w5 w w8 b Fk d [(w.heap.size, [.int .i64 g.p, .int .i64 g.s, .int .i64 g.l, .int .i64 g.f]), (wr.heap.size, [.int .i64 0, .int .i64 0, .int .u32 5000, .slice fa j fc])] [(.slice fa j fc, frm 1 j)]) := Lib.hid (by
            have h := HDQ2.out.below hbb
            refine ⟨h.dv, fun x hx => ?_, h.il, h.bel, h.hW, h.wl⟩
            simp only [List.mem_cons, List.not_mem_nil, or_false] at hx
            rcases hx with rfl | rfl
            · exact h.bl _ (.head _)
            · exact ⟨hD, hD.lt, fun hf => by have := (HDQ2.out.dv.lt _ hf).2; omega⟩)
          have HAB : Hid (wr.heap.size < w8.heap.size ∧ w.heap.size < w8.heap.size ∧ w5.heap.size ≤ w8.heap.size) := Lib.hid ⟨hD.lt, (HDQ3.out.bl _ (.head _)).2.1, Nat.le_trans HDQ2.out.wl hbb.size⟩
          clear hA hb7 hl7 hD hO hlD hbb HDQ2
          generalize wr.heap.size = aB at *
          refine wpList_nil ?_
          go_upto_region 22 with fail
          refine wp_region_lit ?_
          refine takeL (.pointer (some ⟨b, 0, none⟩)) rfl (by go_simp) ?_
          try simp only [Act.put, List.setIfInBounds_toArray, List.set_cons_succ, List.set_cons_zero]
          refine takeL (.agg #[.int .i64 g.p, .int .i64 g.s, .int .i64 g.l, .int .i64 g.f]) rfl (by have q := (HDQ3.out.bl _ (.head _)).1; have q0 := q.cell (i := 0) rfl; have q1 := q.cell (i := 1) rfl; have q2 := q.cell (i := 2) rfl; have q3 := q.cell (i := 3) rfl; go_simp) ?_
          try simp only [Act.put, List.setIfInBounds_toArray, List.set_cons_succ, List.set_cons_zero]
          refine takeL (.agg #[.int .i64 0, .int .i64 0, .int .u32 5000, .slice fa j fc]) rfl (by have q := (HDQ3.out.bl _ (.tail _ (.head _))).1; have q0 := q.cell (i := 0) rfl; have q1 := q.cell (i := 1) rfl; have q2 := q.cell (i := 2) rfl; have q3 := q.cell (i := 3) rfl; go_simp) ?_
          try simp only [Act.put, List.setIfInBounds_toArray, List.set_cons_succ, List.set_cons_zero]
          refine wpList_op rfl fun K hK => ?_
          go_simp
          refine (new_yes (W := w5) b Fk d (by rw [HDF.out.2.2.1]; have := HTB.out; omega) g ⟨0, 0, 5000, frm 1 j⟩ (.slice fa j fc) HFL.out (HFT.out _ _ (HGD.out _) HDF.out.2.2.1) (show Seq32 (5000 : Int) from ⟨by omega, by unfold M32; omega⟩) _ (HDQ3.out.il _ (.head _)).1 HDQ3.out.dv).mono ?_
          rintro e w9 ⟨jb, tv, rfl, hj, hjl, hb⟩
          have HKQ := Lib.hid (HDQ3.out.new hb hj hjl)
          have HBL : Hid (w5.heap.size ≤ w9.heap.size ∧ (∀ x ∈ ([(w.heap.size, [.int .i64 g.p, .int .i64 g.s, .int .i64 g.l, .int .i64 g.f]), (aB, [.int .i64 0, .int .i64 0, .int .u32 5000, .slice fa j fc])] : List (Nat × List Value)), x.1 < w9.heap.size) ∧ ∀ x ∈ ([(.slice fa j fc, frm 1 j)] : List (Value × List Int)), ∀ b' o n c, x.1 = .slice (some ⟨b', o, none⟩) n c → b' < w9.heap.size) := Lib.hid ⟨Nat.le_trans HAB.out.2.2 hb.size, fun x hx => Nat.lt_of_lt_of_le (HDQ3.out.bl x hx).2.1 hb.size, fun x hx b' o n c e => Nat.lt_of_lt_of_le ((HDQ3.out.il x hx).2 b' o n c e).1 hb.size⟩
          have HSN0 : Hid (Sn d X g ⟨0, 0, 5000, frm 1 j⟩ [] ⟨0, 0, 5000, frm 1 j⟩ Far) := Lib.hid (Sn.new HIM.out.1 (HGD.out _) (show Seq32 (5000 : Int) from ⟨by omega, by unfold M32; omega⟩) hj.total HIM.out.2)
          clear hj hjl hb HDQ3 HAB HIM
          generalize hBB : w9.heap.size = BB at HBL
          refine hK _ _ ?_
          clear hK K
          try simp only [Act.put, List.setIfInBounds_toArray, List.set_cons_succ, List.set_cons_zero]
          refine takeL (.tuple #[.pointer (some ⟨jb, 0, none⟩), .int .i64 0]) rfl (by go_simp) ?_
          try simp only [Act.put, List.setIfInBounds_toArray, List.set_cons_succ, List.set_cons_zero]
          refine takeL (.pointer (some ⟨jb, 0, none⟩)) rfl (by go_simp) ?_
          try simp only [Act.put, List.setIfInBounds_toArray, List.set_cons_succ, List.set_cons_zero]
          refine takeL (.int .i64 0) rfl (by go_simp) ?_
          try simp only [Act.put, List.setIfInBounds_toArray, List.set_cons_succ, List.set_cons_zero]
          refine takeL (.pointer (some ⟨jb, 0, none⟩)) rfl (by go_simp) ?_
          try simp only [Act.put, List.setIfInBounds_toArray, List.set_cons_succ, List.set_cons_zero]
          refine takeL (.int .i64 0) rfl (by go_simp) ?_
          try simp only [Act.put, List.setIfInBounds_toArray, List.set_cons_succ, List.set_cons_zero]
          refine wpList_nil ?_
          have HSZ : Hid (BB ≤ w9.heap.size) := Lib.hid (Nat.le_of_eq hBB.symm)
          clear hBB
          go_wp2_with fail
          go_loopg [18, 19] N (fun q u18 u19 wr => ∃ (i : Nat) (Fk : Nat → Prop) (a : Ja) (d : De.D) (fv s18 : Value) (X : List (List Int)) (P : List (List It × List Int)) (vs : List Value), s18 = u18 ∧ u19 = .int .i64 (i : Int) ∧ N - i ≤ q ∧ i ≤ N ∧ Kp w5 w wr jb b Fk d g a fv [(w.heap.size, [.int .i64 g.p, .int .i64 g.s, .int .i64 g.l, .int .i64 g.f]), (aB, [.int .i64 0, .int .i64 0, .int .u32 5000, .slice fa j fc])] [(.slice fa j fc, frm 1 j)] ∧ Sn d X g ⟨0, 0, 5000, frm 1 j⟩ P a Far ∧ Pv wr BB jb Fk fv s18 vs ∧ PL w P vs ∧ d.F < 0 ∧ d.L = [] ∧ d.S.length = t ∧ d.T ≤ 1025 * (24 + i) ∧ 5000 ≤ a.seq ∧ a.seq ≤ 5000 + 3 * (i : Int) ∧ vs.length ≤ i ∧ BB ≤ wr.heap.size)
          case atStart => exact ⟨0, Fk, _, d, tv, _, X, [], [], rfl, rfl, by omega, by omega, HKQ.out, HSN0.out, Pv.nil _ _ _ _ _, PL.nil w, HDF.out.1, HDF.out.2.1, HDF.out.2.2.1, HDF.out.2.2.2, (by show (5000 : Int) ≤ 5000; omega), (by show (5000 : Int) ≤ 5000 + 3 * ((0 : Nat) : Int); omega), Nat.le_refl _, HSZ.out⟩
          case round =>
            obtain ⟨i, Fk, a, d, fv, s18, X, P, vs, rfl, rfl, hq, hi, hkp, hsn, hpv, hpl, hF, hL, hS, hT, hsl, hsh, hvl, hsz⟩ := hrel
            clear HDF HKQ HSN0 HSZ
            have HKP := Lib.hid hkp
            have HSN2 := Lib.hid hsn
            have HPV := Lib.hid hpv
            have HPL := Lib.hid hpl
            have HDF : Hid (d.F < 0 ∧ d.L = [] ∧ d.S.length = t ∧ d.T ≤ 1025 * (24 + i)) := Lib.hid ⟨hF, hL, hS, hT⟩
            have HSEQ : Hid (5000 ≤ a.seq ∧ a.seq ≤ 5000 + 3 * (i : Int)) := Lib.hid ⟨hsl, hsh⟩
            have HVL : Hid (vs.length ≤ i ∧ BB ≤ wr.heap.size) := Lib.hid ⟨hvl, hsz⟩
            clear hkp hsn hpv hpl hF hL hS hT hsl hsh hvl hsz
            have HNH : Hid (∀ y, Far y → NH a.seq y) := Lib.hid (Far.nh ⟨HSEQ.out.1, by have := HSEQ.out.2; have := HLN.out; omega⟩)
            by_cases hiN : i < N
            · have dN : decide ((i : Int) < (N : Int)) = true := decide_eq_true (by omega)
              have hiI : (i : Int) < (N : Int) := by omega
              obtain ⟨x, hx⟩ : ∃ x, gs[i]? = some x := ⟨_, List.getElem?_eq_getElem (by have := HK.out; omega)⟩
              obtain ⟨xb, xo, xc, hxe, hxc, hxi, hxl⟩ := HGS.out.at hx
              rw [HK.out] at hxe
              injection hxe with e1 e2 e3
              subst e1
              subst e3
              obtain ⟨lv, ll⟩ := x
              simp only at hxc hxi hxl
              have HXC := Lib.hid hxc
              have HXI := Lib.hid hxi
              have HXL := Lib.hid hxl
              obtain ⟨la, lc, hlv⟩ := items_one hxi
              obtain ⟨ln, hln⟩ : ∃ n, ll.length = n := ⟨_, rfl⟩
              rw [hln] at hlv
              subst hlv
              have HLL := Lib.hid hln
              clear hx hxc hxi hxl e2 hln
              have cx := cell_bel HXC.out HKP.out.bel
              go_wp2_with fail
              refine (fair_any ll ln HLL.out (by rw [← HLL.out]; exact HXL.out) (.slice la ln lc) _ (HXI.out.below HKP.out.bel)).mono ?_
              rintro e wD ⟨rfl, rfl⟩
              cases hfair : fair (ll.map (·.1))
              · clear hfair
                have HBX := Lib.hid HKP.out.bel
                go_wp2_with fail
                refine (wakes_any (Vars.below (Nat.le_refl _) HBX.out HV.out)).mono ?_
                rintro e w4 ⟨rfl, hb⟩
                have HB4 := Lib.hid (stay HBX.out hb)
                clear hb
                go_wp2_with fail
                go_ret
                exact ⟨rfl, HB4.out⟩
              have HFAIR := Lib.hid hfair
              clear hfair
              have hL0 : ll.length ≤ 100 := by have := fair_len HFAIR.out; rw [List.length_map] at this; exact this
              have HLE := Lib.hid hL0
              have HBE : Hid (∀ x ∈ ll, x.1.blk.bytes.length ≤ 300) := Lib.hid fun x hx => fair_bytes HFAIR.out x.1 (List.mem_map.2 ⟨x, hx, rfl⟩)
              clear hL0
              go_upto_region 31 with fail
              clear cx
              refine wp_region_lit ?_
              refine takeL (.pointer (some ⟨jb, 0, none⟩)) rfl (by go_simp) ?_
              try simp only [Act.put, List.setIfInBounds_toArray, List.set_cons_succ, List.set_cons_zero]
              refine takeL (.slice (some ⟨xb, xo, none⟩) N gc) rfl (by go_simp) ?_
              try simp only [Act.put, List.setIfInBounds_toArray, List.set_cons_succ, List.set_cons_zero]
              refine takeL (.int .i64 (i : Int)) rfl (by go_simp) ?_
              try simp only [Act.put, List.setIfInBounds_toArray, List.set_cons_succ, List.set_cons_zero]
              refine takeL (.pointer (some ⟨xb, xo + i, none⟩)) rfl (by go_simp) ?_
              try simp only [Act.put, List.setIfInBounds_toArray, List.set_cons_succ, List.set_cons_zero]
              refine takeL (.slice la ln lc) rfl (by have q := cell_bel HXC.out HKP.out.bel; go_simp) ?_
              try simp only [Act.put, List.setIfInBounds_toArray, List.set_cons_succ, List.set_cons_zero]
              refine wpList_op rfl fun K hK => ?_
              go_simp
              refine (own_new ll HLE.out HBE.out _ _ (HXI.out.below HKP.out.bel)).mono ?_
              rintro e wA ⟨tv, m, rfl, hm, hit, hb, hn1, hn2⟩
              have HKA := Lib.hid (HKP.out.below hb)
              have HPA := Lib.hid (HPV.out.below hb)
              have HSA := Lib.hid hb.size
              have HFS := Lib.hid (fun (q : Nat) (hq : Fk q) => (HKP.out.jn.dv.lt q hq).2)
              have HM := Lib.hid hm
              have HMI := Lib.hid hit
              have HN1 := Lib.hid hn1
              have HN2 := Lib.hid hn2
              have HML : Hid (m.length ≤ 100) := Lib.hid (by have := congrArg List.length hm; rw [List.length_map, List.length_map] at this; have := HLE.out; omega)
              have HWF := Lib.hid (its_wf HXI.out)
              obtain ⟨ta, tc, htv⟩ := items_one hit
              obtain ⟨mn, hmn⟩ : ∃ n, m.length = n := ⟨_, rfl⟩
              rw [hmn] at htv
              subst htv
              clear hm hit hb hn1 hn2 hmn HKP
              refine hK _ _ ?_
              clear hK K
              try simp only [Act.put, List.setIfInBounds_toArray, List.set_cons_succ, List.set_cons_zero]
              refine wpList_op rfl fun K hK => ?_
              go_simp
              refine (put_any HKA.out.jn (Vars.below (Nat.le_refl _) HB5.out HV.out) m (ll.map (·.1)) HM.out _ (by have := HML.out; omega) HMI.out (fun w' ho => own_kept _ HFS.out HMI.out HN1.out HN2.out ho) (by rw [HDF.out.2.2.1]; exact HTB.out.2) (by have := HDF.out.2.2.2; have := HLN.out; have := HLNO.out; omega) (by rw [HDF.out.2.1]; exact Nat.zero_le _)).mono ?_
              rintro e wB ⟨pv, rfl, F2, f3, ho, hj, hon, hn, hpa, hsr⟩
              have hln := jput_len (g := g) (a := a) d (L := ll.map (·.1)) (by have := (Ja.good_parts HKA.out.jn.good).1.2.2.1.2; omega)
              have hgo := HSN2.out.goes HNH.out HDF.out.1 (ll.map (·.1)) HWF.out
              obtain ⟨⟨pe, pl, a2, d2⟩, hp⟩ : ∃ p, jput g a d (ll.map (·.1)) = p := ⟨_, rfl⟩
              rw [hp] at ho hj hln hgo ⊢
              dsimp only at ho hj hln hgo ⊢
              have HKB := Lib.hid (HKA.out.put hj hon hn)
              have HPB := Lib.hid (HPA.out.put hon hn hsr)
              have HSB := Lib.hid (Nat.le_trans HSA.out hon.size)
              have HNM : Hid (d2.S.length = t ∧ d2.T ≤ d.T + 1025) := Lib.hid ⟨hln.1.trans HDF.out.2.2.1, hln.2.1⟩
              have HGO := Lib.hid hgo
              obtain ⟨pa, pc, hpv⟩ := ho.ints.form
              obtain ⟨pn, hpn⟩ : ∃ n, pl.length = n := ⟨_, rfl⟩
              rw [hpn] at hpv
              subst hpv
              clear hp ho hj hon hn hpa hsr hln hgo hpn HKA HPA HPV HSA
              refine hK _ _ ?_
              clear hK K
              try simp only [Act.put, List.setIfInBounds_toArray, List.set_cons_succ, List.set_cons_zero]

              refine takeL (.tuple #[.slice pa pn pc, .int .i64 pe]) rfl (by go_simp) ?_
              try simp only [Act.put, List.setIfInBounds_toArray, List.set_cons_succ, List.set_cons_zero]
              refine takeL (.slice pa pn pc) rfl (by go_simp) ?_
              try simp only [Act.put, List.setIfInBounds_toArray, List.set_cons_succ, List.set_cons_zero]
              refine takeL (.int .i64 pe) rfl (by go_simp) ?_
              try simp only [Act.put, List.setIfInBounds_toArray, List.set_cons_succ, List.set_cons_zero]
              refine takeL (.slice pa pn pc) rfl (by go_simp) ?_
              try simp only [Act.put, List.setIfInBounds_toArray, List.set_cons_succ, List.set_cons_zero]
              refine takeL (.int .i64 pe) rfl (by go_simp) ?_
              try simp only [Act.put, List.setIfInBounds_toArray, List.set_cons_succ, List.set_cons_zero]
              refine wpList_nil ?_
              have gii : IntKind.i64.wrap ((i : Int) + 1) = ((i + 1 : Nat) : Int) := by have := HLN.out; rw [wrap64 (by omega) (by omega)]; push_cast; rfl
              have HT2 : Hid (d2.S.length = t ∧ d2.T ≤ 1025 * (24 + (i + 1))) := Lib.hid ⟨HNM.out.1, by have := HNM.out.2; have := HDF.out.2.2.2; omega⟩
              rcases HGO.out with ⟨rfl, k1, k2, k3, k4, k5, X2, k6⟩ | ⟨k1, rfl, rfl⟩
              · have HS2 := Lib.hid k6
                have HR : Hid (d2.F < 0 ∧ d2.L = [] ∧ 5000 ≤ a2.seq ∧ a2.seq ≤ 5000 + 3 * ((i + 1 : Nat) : Int)) := Lib.hid (by
                  have h := HSEQ.out
                  have h2 := HLN.out
                  rw [Int.emod_eq_of_lt (by omega) (by unfold M32; omega)] at k3
                  exact ⟨k1, k2, by omega, by push_cast; omega⟩)
                clear k1 k2 k3 k4 k5 k6 HGO HNM HSEQ HDF HNH
                go_upto_region 33 with fail
                refine wp_region_lit ?_
                refine takeL (s18) rfl (by go_simp) ?_
                try simp only [Act.put, List.setIfInBounds_toArray, List.set_cons_succ, List.set_cons_zero]
                refine takeL (.slice (some ⟨xb, xo, none⟩) N gc) rfl (by go_simp) ?_
                try simp only [Act.put, List.setIfInBounds_toArray, List.set_cons_succ, List.set_cons_zero]
                refine takeL (.int .i64 (i : Int)) rfl (by go_simp) ?_
                try simp only [Act.put, List.setIfInBounds_toArray, List.set_cons_succ, List.set_cons_zero]
                refine takeL (.pointer (some ⟨xb, xo + i, none⟩)) rfl (by go_simp) ?_
                try simp only [Act.put, List.setIfInBounds_toArray, List.set_cons_succ, List.set_cons_zero]
                refine takeL (.slice la ln lc) rfl (by have q := cell_bel HXC.out HKB.out.bel; go_simp) ?_
                try simp only [Act.put, List.setIfInBounds_toArray, List.set_cons_succ, List.set_cons_zero]
                refine wpList_run (.slice (some ⟨wB.heap.size, 0, none⟩) 1 1) (wB.alloc (.cells #[.slice la ln lc] 44)) rfl (by go_simp) ?_
                try simp only [Act.put, List.setIfInBounds_toArray, List.set_cons_succ, List.set_cons_zero]
                have hb1 := alloc_bel wB (.cells #[.slice la ln lc] 44)
                have hc0 := (Blk.new wB #[.slice la ln lc] 44).cell (i := 0) rfl
                refine app_LV (HPB.out.below hb1).own (Nat.le_trans (Nat.le_trans HVL.out.2 HSB.out) hb1.size) _ hc0 rfl (by have := HVL.out.1; have := HLN.out; omega) rfl rfl rfl ?_
                intro tv8 w8 ho hg hr
                try simp only [Act.put, List.setIfInBounds_toArray, List.set_cons_succ, List.set_cons_zero]
                obtain ⟨hpv2, hkp2⟩ := Pv.app (HPB.out.below hb1) (HKB.out.below hb1) HBL.out.1 HBL.out.2.1 HBL.out.2.2 ho hg hr
                have HKC := Lib.hid hkp2
                have HPC := Lib.hid hpv2
                have HLC : Hid (PL w (P ++ [(ll.map (·.1), pl)]) (vs ++ [.slice la ln lc])) := Lib.hid (HPL.out.snoc HXI.out pl)
                have HVC : Hid ((vs ++ [(.slice la ln lc : Value)]).length ≤ i + 1 ∧ BB ≤ w8.heap.size) := Lib.hid ⟨by rw [List.length_append]; have := HVL.out.1; simp only [List.length_cons, List.length_nil]; omega, Nat.le_trans (Nat.le_trans (Nat.le_trans HVL.out.2 HSB.out) hb1.size) ((Only.refl (fun _ => True) _).grown hg fun k _ => .inl trivial).size⟩
                clear hb1 hc0 ho hg hr hpv2 hkp2 HKB HPB
                refine takeL (tv8) rfl (by go_simp) ?_
                try simp only [Act.put, List.setIfInBounds_toArray, List.set_cons_succ, List.set_cons_zero]
                refine wpList_nil ?_
                go_wp2_with fail
                go_roundg (N - (i + 1))
                case measure => omega
                case rel => exact ⟨i + 1, F2, a2, d2, f3, _, X2, _, _, rfl, by go_num, by omega, by omega, HKC.out, HS2.out, HPC.out, HLC.out, HR.out.1, HR.out.2.1, HT2.out.1, HT2.out.2, HR.out.2.2.1, HR.out.2.2.2, HVC.out⟩
              · have de : (pe == 0) = false := by rcases k1 with k1 | k1 <;> rw [k1] <;> rfl
                have HR : Hid (d2.F < 0 ∧ d2.L = [] ∧ 5000 ≤ a2.seq ∧ a2.seq ≤ 5000 + 3 * ((i + 1 : Nat) : Int)) := Lib.hid ⟨HDF.out.1, HDF.out.2.1, HSEQ.out.1, by have := HSEQ.out.2; push_cast; omega⟩
                have HVC : Hid (vs.length ≤ i + 1 ∧ BB ≤ wB.heap.size) := Lib.hid ⟨by have := HVL.out.1; omega, Nat.le_trans HVL.out.2 HSB.out⟩
                clear k1
                go_wp2_with fail
                go_roundg (N - (i + 1))
                case measure => omega
                case rel => exact ⟨i + 1, F2, a2, d2, f3, s18, X, P, vs, rfl, by go_num, by omega, by omega, HKB.out, HSN2.out, HPB.out, HPL.out, HR.out.1, HR.out.2.1, HT2.out.1, HT2.out.2, HR.out.2.2.1, HR.out.2.2.2, HVC.out⟩
            · obtain rfl : i = N := by omega
              have dN : decide ((i : Int) < (i : Int)) = false := decide_eq_false (by omega)
              have HSML : Hid (P.length ≤ 1000 ∧ ∀ x ∈ P, x.1.length ≤ 64 ∧ x.2.length ≤ 64) := Lib.hid ((HSN2.out.read HNH.out).1.small (HGD.out _))
              have HXB : Hid (X.length ≤ 1024) := Lib.hid (by have h1 := HSN2.out.img.len; have h2 := HDF.out.2.2.1; have h3 := HTB.out; omega)
              have HLZ : Hid (d.L.length ≤ 1000000) := Lib.hid (by rw [HDF.out.2.1]; exact Nat.zero_le _)
              have HAF : Hid (a.free.length ≤ 1000) := Lib.hid (by have := Ja.few HKP.out.jn.good; omega)
              clear HSEQ HVL
              go_upto_region 34 with fail
              refine wp_region_lit ?_
              refine takeL (.pointer (some ⟨b, 0, none⟩)) rfl (by go_simp) ?_
              try simp only [Act.put, List.setIfInBounds_toArray, List.set_cons_succ, List.set_cons_zero]
              refine takeL (.agg #[.int .i64 g.p, .int .i64 g.s, .int .i64 g.l, .int .i64 g.f]) rfl (by have q := (HKP.out.bl _ (.head _)).1; have q0 := q.cell (i := 0) rfl; have q1 := q.cell (i := 1) rfl; have q2 := q.cell (i := 2) rfl; have q3 := q.cell (i := 3) rfl; go_simp) ?_
              try simp only [Act.put, List.setIfInBounds_toArray, List.set_cons_succ, List.set_cons_zero]
              refine takeL (.agg #[.int .i64 0, .int .i64 0, .int .u32 5000, .slice fa j fc]) rfl (by have q := (HKP.out.bl _ (.tail _ (.head _))).1; have q0 := q.cell (i := 0) rfl; have q1 := q.cell (i := 1) rfl; have q2 := q.cell (i := 2) rfl; have q3 := q.cell (i := 3) rfl; go_simp) ?_
              try simp only [Act.put, List.setIfInBounds_toArray, List.set_cons_succ, List.set_cons_zero]
              refine wpList_op rfl fun K hK => ?_
              go_simp
              refine (sread_yes (a := ⟨0, 0, 5000, frm 1 j⟩) (fv := .slice fa j fc) HKP.out.jn.dv HSN2.out.img HXB.out HLZ.out (HFT.out _ _ (HGD.out _) HDF.out.2.2.1) ((show Seq32 (5000 : Int) from ⟨by omega, by unfold M32; omega⟩)) (HKP.out.il _ (.head _)).1).mono ?_
              rintro e x1 ⟨P', b1, sv1, tv1, hw1, hn1, rfl, hgs1, hf1, hb1⟩
              obtain ⟨hq1, hq2⟩ := Way.uniq (HSN2.out.read HNH.out).1 (HSN2.out.read HNH.out).2 hw1 hn1
              rw [hq1] at hgs1
              rw [hq2] at hf1 ⊢
              have HG10 := Lib.hid hgs1
              have HF10 := Lib.hid hf1
              have HKPm := Lib.hid (HKP.out.below hb1)
              have HPVm := Lib.hid (HPV.out.below hb1)
              obtain ⟨sa, ca, hsv⟩ := hgs1.form
              obtain ⟨na, hna⟩ : ∃ n, P.length = n := ⟨_, rfl⟩
              rw [hna] at hsv
              subst hsv
              have HNa := Lib.hid hna
              obtain ⟨ua, va, huv⟩ := hf1.form
              obtain ⟨ma, hma⟩ : ∃ n, a.free.length = n := ⟨_, rfl⟩
              rw [hma] at huv
              subst huv
              have HMa := Lib.hid hma
              clear hw1 hn1 hgs1 hf1 hb1 hq1 hq2 hna hma HKP HPV
              refine hK _ _ ?_
              clear hK K
              try simp only [Act.put, List.setIfInBounds_toArray, List.set_cons_succ, List.set_cons_zero]
              refine takeL (.tuple #[.slice sa na ca, .agg #[.int .i64 a.seg, .int .i64 a.off, .int .u32 a.seq, .slice ua ma va], .int .i64 0]) rfl (by go_simp) ?_
              try simp only [Act.put, List.setIfInBounds_toArray, List.set_cons_succ, List.set_cons_zero]
              refine takeL (.slice sa na ca) rfl (by go_simp) ?_
              try simp only [Act.put, List.setIfInBounds_toArray, List.set_cons_succ, List.set_cons_zero]
              refine takeL (.agg #[.int .i64 a.seg, .int .i64 a.off, .int .u32 a.seq, .slice ua ma va]) rfl (by go_simp) ?_
              try simp only [Act.put, List.setIfInBounds_toArray, List.set_cons_succ, List.set_cons_zero]
              refine takeL (.int .i64 0) rfl (by go_simp) ?_
              try simp only [Act.put, List.setIfInBounds_toArray, List.set_cons_succ, List.set_cons_zero]
              refine alloc_g zero40 rfl ?_
              intro x2 hA hb7 hl7
              try simp only [Act.put, List.setIfInBounds_toArray, List.set_cons_succ, List.set_cons_zero]
              refine takeL (.slice sa na ca) rfl (by go_simp) ?_
              try simp only [Act.put, List.setIfInBounds_toArray, List.set_cons_succ, List.set_cons_zero]
              refine store_all (cs := #[.int .i64 a.seg, .int .i64 a.off, .int .u32 a.seq, .slice ua ma va]) hA rfl info40 (at_one _ _ _ _ _ _) rfl rfl rfl ?_
              intro x3 hD hO hlD
              try simp only [Act.put, List.setIfInBounds_toArray, List.set_cons_succ, List.set_cons_zero]
              refine takeL (.int .i64 0) rfl (by go_simp) ?_
              try simp only [Act.put, List.setIfInBounds_toArray, List.set_cons_succ, List.set_cons_zero]
              refine wpList_nil ?_
              have hbb : Below x1.heap.size x1 x3 := hb7.trans (hO.below hb7.size fun k hk => Nat.le_of_eq hk.symm)
              have HZ1 := Lib.hid hD
              have HG1 := Lib.hid (HG10.out.below hbb)
              have HF1 := Lib.hid (HF10.out.below hbb)
              have HKPmm := Lib.hid (HKPm.out.below hbb)
              have HPVmm := Lib.hid (HPVm.out.below hbb)
              clear hA hb7 hl7 hD hO hlD hbb HG10 HF10 HKPm HPVm
              generalize x1.heap.size = za at *

              obtain ⟨ba, bc, hs18, -⟩ := HPVmm.out.own.len
              rw [HPL.out.len, HNa.out] at hs18
              subst hs18
              clear HNH dN
              go_upto_region 35 with fail
              refine startH (fun wq => Below x3.heap.size x3 wq) (by kernel_rfl) ?_
              have HSd : Hid (Below x3.heap.size x3 x3.drew) := Lib.hid (Below.refl _ _).drew
              generalize x3.drew = wS at *
              refine takeH 0 (some 154) (.int .i64 0) rfl rfl (by kernel_rfl) (by kernel_rfl) (by kernel_rfl) (fun _ _ _ h => h) rfl (fun wq hS => by go_simp) HSd.out ?_
              try simp only [Act.put, List.setIfInBounds_toArray, List.set_cons_succ, List.set_cons_zero]
              refine takeH 1 (some 155) (.bool false) rfl rfl (by kernel_rfl) (by kernel_rfl) (by kernel_rfl) (fun _ _ _ h => h) rfl (fun wq hS => by go_simp) HSd.out ?_
              try simp only [Act.put, List.setIfInBounds_toArray, List.set_cons_succ, List.set_cons_zero]
              refine takeH 2 (some 156) (.bool false) rfl rfl (by kernel_rfl) (by kernel_rfl) (by kernel_rfl) (fun _ _ _ h => h) rfl (fun wq hS => by go_simp) HSd.out ?_
              try simp only [Act.put, List.setIfInBounds_toArray, List.set_cons_succ, List.set_cons_zero]
              refine takeH 3 (some 157) (.slice sa na ca) rfl rfl (by kernel_rfl) (by kernel_rfl) (by kernel_rfl) (fun _ _ _ h => h) rfl (fun wq hS => by go_simp) HSd.out ?_
              try simp only [Act.put, List.setIfInBounds_toArray, List.set_cons_succ, List.set_cons_zero]
              refine takeH 4 (some 158) (.int .i64 na) rfl rfl (by kernel_rfl) (by kernel_rfl) (by kernel_rfl) (fun _ _ _ h => h) rfl (fun wq hS => by go_simp) HSd.out ?_
              try simp only [Act.put, List.setIfInBounds_toArray, List.set_cons_succ, List.set_cons_zero]
              refine takeH 5 (some 159) (.slice ba na bc) rfl rfl (by kernel_rfl) (by kernel_rfl) (by kernel_rfl) (fun _ _ _ h => h) rfl (fun wq hS => by go_simp) HSd.out ?_
              try simp only [Act.put, List.setIfInBounds_toArray, List.set_cons_succ, List.set_cons_zero]
              refine takeH 6 (some 160) (.int .i64 na) rfl rfl (by kernel_rfl) (by kernel_rfl) (by kernel_rfl) (fun _ _ _ h => h) rfl (fun wq hS => by go_simp) HSd.out ?_
              try simp only [Act.put, List.setIfInBounds_toArray, List.set_cons_succ, List.set_cons_zero]
              refine takeH 7 (some 161) (.bool false) rfl rfl (by kernel_rfl) (by kernel_rfl) (by kernel_rfl) (fun _ _ _ h => h) rfl (fun wq hS => by go_simp) HSd.out ?_
              try simp only [Act.put, List.setIfInBounds_toArray, List.set_cons_succ, List.set_cons_zero]
              refine takeH 8 (some 162) (.bool false) rfl rfl (by kernel_rfl) (by kernel_rfl) (by kernel_rfl) (fun _ _ _ h => h) rfl (fun wq hS => by go_simp) HSd.out ?_
              try simp only [Act.put, List.setIfInBounds_toArray, List.set_cons_succ, List.set_cons_zero]
              refine takeH 9 (some 163) (.bool false) rfl rfl (by kernel_rfl) (by kernel_rfl) (by kernel_rfl) (fun _ _ _ h => h) rfl (fun wq hS => by go_simp) HSd.out ?_
              try simp only [Act.put, List.setIfInBounds_toArray, List.set_cons_succ, List.set_cons_zero]
              refine takeH 10 (some 164) (.agg #[.int .i64 a.seg, .int .i64 a.off, .int .u32 a.seq, .slice ua ma va]) rfl rfl (by kernel_rfl) (by kernel_rfl) (by kernel_rfl) (fun _ _ _ h => h) rfl (fun wq hS => by have q := (HZ1.out.below hS HZ1.out.lt); have q0 := q.cell (i := 0) rfl; have q1 := q.cell (i := 1) rfl; have q2 := q.cell (i := 2) rfl; have q3 := q.cell (i := 3) rfl; go_simp) HSd.out ?_
              try simp only [Act.put, List.setIfInBounds_toArray, List.set_cons_succ, List.set_cons_zero]
              refine takeH 11 (some 165) (.pointer (some ⟨jb, 0, none⟩)) rfl rfl (by kernel_rfl) (by kernel_rfl) (by kernel_rfl) (fun _ _ _ h => h) rfl (fun wq hS => by go_simp) HSd.out ?_
              try simp only [Act.put, List.setIfInBounds_toArray, List.set_cons_succ, List.set_cons_zero]
              refine oneH 12 (by kernel_rfl) rfl rfl fun K hK => ?_
              go_simp
              refine (at_any (HKPmm.out.below HSd.out).jn).mono ?_
              rintro e wT ⟨tv0, rfl, ho, hb⟩
              have ST := Lib.hid (stay HSd.out hb)
              have HT0 := Lib.hid ho.ints
              obtain ⟨t0a, t0c, ht0⟩ := ho.ints.form
              rw [HMa.out] at ht0
              subst ht0
              clear ho hb
              refine hK _ _ ST.out ?_
              clear hK K
              try simp only [Act.put, List.setIfInBounds_toArray, List.set_cons_succ, List.set_cons_zero]
              refine oneH 13 (by kernel_rfl) rfl rfl fun K hK => ?_
              go_simp
              refine (lown_any a (.slice t0a ma t0c) (by have := HAF.out; omega) HT0.out).mono ?_
              rintro e wU ⟨tv2, rfl, ho, hb⟩
              have SU := Lib.hid (stay ST.out hb)
              have HOI2 := Lib.hid ho.ints
              obtain ⟨ta, tc, htv⟩ := ho.ints.form
              rw [HMa.out] at htv
              subst htv
              clear ho hb
              refine hK _ _ SU.out ?_
              clear hK K
              try simp only [Act.put, List.setIfInBounds_toArray, List.set_cons_succ, List.set_cons_zero]
              refine oneH 14 (by kernel_rfl) rfl rfl fun K hK => ?_
              go_simp
              refine (same_yes a (.slice ua ma va) _ HAF.out (HF1.out.below SU.out) HOI2.out).mono ?_
              rintro e wV ⟨rfl, hb⟩
              have SV := Lib.hid (stay SU.out hb)
              refine hK _ _ SV.out ?_
              clear hK K hb
              try simp only [Act.put, List.setIfInBounds_toArray, List.set_cons_succ, List.set_cons_zero]
              refine takeH 15 (some 169) (.bool false) rfl rfl (by kernel_rfl) (by kernel_rfl) (by kernel_rfl) (fun _ _ _ h => h) rfl (fun wq hS => by go_simp) SV.out ?_
              try simp only [Act.put, List.setIfInBounds_toArray, List.set_cons_succ, List.set_cons_zero]
              refine takeH 16 (some 170) (.bool false) rfl rfl (by kernel_rfl) (by kernel_rfl) (by kernel_rfl) (fun _ _ _ h => h) rfl (fun wq hS => by go_simp) SV.out ?_
              try simp only [Act.put, List.setIfInBounds_toArray, List.set_cons_succ, List.set_cons_zero]
              refine wpAnyH_done (by kernel_rfl) ?_ _
              have HGA := Lib.hid (HG1.out.below SV.out)
              have HVA := Lib.hid (HPVmm.out.own.below SV.out)
              have HBV := Lib.hid (stay HKPmm.out.bel SV.out)
              clear HG1 HPVmm HKPmm HSd ST SU SV HT0 HOI2 HZ1 HF1
              go_wp2_with fail
              go_loopg [25] na (fun q u25 wr => ∃ r : Nat, u25 = .int .i64 (r : Int) ∧ na - r ≤ q ∧ r ≤ na ∧ Below wV.heap.size wV wr)
              case atStart => exact ⟨0, rfl, by omega, by omega, Below.refl _ _⟩
              case round =>
                obtain ⟨r, rfl, hq, hr, hb⟩ := hrel
                have HBR := Lib.hid hb
                have HA := Lib.hid (HGA.out.below hb)
                have HB := Lib.hid (HVA.out.below hb)
                clear hb
                by_cases hrn : r < na
                · have dr : decide ((r : Int) < (na : Int)) = true := decide_eq_true (by omega)
                  have gri : (r : Int) < (na : Int) := by omega
                  obtain ⟨x, hx⟩ : ∃ x, P[r]? = some x := ⟨_, List.getElem?_eq_getElem (by rw [HNa.out]; exact hrn)⟩
                  obtain ⟨v, hv⟩ : ∃ v, vs[r]? = some v := ⟨_, List.getElem?_eq_getElem (by rw [HPL.out.len, HNa.out]; exact hrn)⟩
                  have hxs := HSML.out.2 x (List.mem_of_getElem? hx)
                  obtain ⟨g1, k1, iv1, pv1, pl1, e1, -, p1, p2, p3, p4, p5⟩ := HA.out.at hx
                  obtain ⟨g2, k2, e2, r1⟩ := HB.out.at hv
                  obtain ⟨pl2, r3, r4⟩ := HPL.out.at_ r v x hv hx
                  injection e1 with e11 e12 e13
                  injection e2 with e21 e22 e23
                  subst e11
                  subst e21
                  subst e13
                  subst e23
                  obtain ⟨ia1, ic1, hi1⟩ := items_one p3
                  obtain ⟨ia2, ic2, hi2⟩ := items_one r3
                  obtain ⟨l1, hl1⟩ : ∃ n, pl1.length = n := ⟨_, rfl⟩
                  obtain ⟨l2, hl2⟩ : ∃ n, pl2.length = n := ⟨_, rfl⟩
                  rw [hl1] at hi1
                  rw [hl2] at hi2
                  subst hi1
                  subst hi2
                  have HLL2 : Hid (pl1.length ≤ 100000 ∧ pl2.length ≤ 100000) := Lib.hid (by
                    have h1 := congrArg List.length p4
                    have h2 := congrArg List.length r4
                    rw [List.length_map] at h1 h2
                    exact ⟨by omega, by omega⟩)
                  have K1 := Lib.hid p1
                  have K3 := Lib.hid p3
                  have J1 := Lib.hid r1
                  have J3 := Lib.hid ((r3.below HBV.out).below HBR.out)
                  have HSM := Lib.hid (sameIts_yes (p4.trans r4.symm))
                  clear p1 p2 p3 p4 p5 r1 r3 r4 hx hv hxs hl1 hl2 e12 e22 HA HB
                  go_upto_region 40 with fail
                  refine startH (fun wq => Below wr.heap.size wr wq) (by kernel_rfl) ?_
                  have HSd : Hid (Below wr.heap.size wr wr.drew) := Lib.hid (Below.refl _ _).drew
                  generalize wr.drew = wS2 at *
                  refine takeH 0 (some 177) (.slice (some ⟨g1, 0, none⟩) na ca) rfl rfl (by kernel_rfl) (by kernel_rfl) (by kernel_rfl) (fun _ _ _ h => h) rfl (fun wq hS => by go_simp) HSd.out ?_
                  try simp only [Act.put, List.setIfInBounds_toArray, List.set_cons_succ, List.set_cons_zero]
                  refine takeH 1 (some 178) (.int .i64 r) rfl rfl (by kernel_rfl) (by kernel_rfl) (by kernel_rfl) (fun _ _ _ h => h) rfl (fun wq hS => by go_simp) HSd.out ?_
                  try simp only [Act.put, List.setIfInBounds_toArray, List.set_cons_succ, List.set_cons_zero]
                  refine takeH 2 (some 179) (.pointer (some ⟨g1, r * 2, none⟩)) rfl rfl (by kernel_rfl) (by kernel_rfl) (by kernel_rfl) (fun _ _ _ h => h) rfl (fun wq hS => by go_simp) HSd.out ?_
                  try simp only [Act.put, List.setIfInBounds_toArray, List.set_cons_succ, List.set_cons_zero]
                  refine takeH 3 (some 180) (.pointer (some ⟨g1, r * 2, none⟩)) rfl rfl (by kernel_rfl) (by kernel_rfl) (by kernel_rfl) (fun _ _ _ h => h) rfl (fun wq hS => by go_simp) HSd.out ?_
                  try simp only [Act.put, List.setIfInBounds_toArray, List.set_cons_succ, List.set_cons_zero]
                  refine takeH 4 (some 181) (.slice ia1 l1 ic1) rfl rfl (by kernel_rfl) (by kernel_rfl) (by kernel_rfl) (fun _ _ _ h => h) rfl (fun wq hS => by have z := cell_bel K1.out hS; go_simp) HSd.out ?_
                  try simp only [Act.put, List.setIfInBounds_toArray, List.set_cons_succ, List.set_cons_zero]
                  refine takeH 5 (some 182) (.slice (some ⟨g2, 0, none⟩) na bc) rfl rfl (by kernel_rfl) (by kernel_rfl) (by kernel_rfl) (fun _ _ _ h => h) rfl (fun wq hS => by go_simp) HSd.out ?_
                  try simp only [Act.put, List.setIfInBounds_toArray, List.set_cons_succ, List.set_cons_zero]
                  refine takeH 6 (some 183) (.int .i64 r) rfl rfl (by kernel_rfl) (by kernel_rfl) (by kernel_rfl) (fun _ _ _ h => h) rfl (fun wq hS => by go_simp) HSd.out ?_
                  try simp only [Act.put, List.setIfInBounds_toArray, List.set_cons_succ, List.set_cons_zero]
                  refine takeH 7 (some 184) (.pointer (some ⟨g2, r, none⟩)) rfl rfl (by kernel_rfl) (by kernel_rfl) (by kernel_rfl) (fun _ _ _ h => h) rfl (fun wq hS => by go_simp) HSd.out ?_
                  try simp only [Act.put, List.setIfInBounds_toArray, List.set_cons_succ, List.set_cons_zero]
                  refine takeH 8 (some 185) (.slice ia2 l2 ic2) rfl rfl (by kernel_rfl) (by kernel_rfl) (by kernel_rfl) (fun _ _ _ h => h) rfl (fun wq hS => by have z := cell_bel J1.out hS; go_simp) HSd.out ?_
                  try simp only [Act.put, List.setIfInBounds_toArray, List.set_cons_succ, List.set_cons_zero]
                  refine oneH 9 (by kernel_rfl) rfl rfl fun K hK => ?_
                  go_simp
                  refine (items_any _ _ pl1 pl2 HLL2.out.1 HLL2.out.2 _ (K3.out.below HSd.out) (J3.out.below HSd.out)).mono ?_
                  rintro e wU ⟨rfl, hb⟩
                  rw [HSM.out]
                  have SU := Lib.hid (stay HSd.out hb)
                  refine hK _ _ SU.out ?_
                  clear hK K hb
                  try simp only [Act.put, List.setIfInBounds_toArray, List.set_cons_succ, List.set_cons_zero]
                  refine takeH 10 (some 187) (.bool false) rfl rfl (by kernel_rfl) (by kernel_rfl) (by kernel_rfl) (fun _ _ _ h => h) rfl (fun wq hS => by go_simp) SU.out ?_
                  try simp only [Act.put, List.setIfInBounds_toArray, List.set_cons_succ, List.set_cons_zero]
                  refine wpAnyH_done (by kernel_rfl) ?_ _
                  have HBE2 := Lib.hid (stay HBR.out SU.out)
                  have grr : IntKind.i64.wrap ((r : Int) + 1) = ((r + 1 : Nat) : Int) := by have h1 := HSML.out.1; rw [HNa.out] at h1; rw [wrap64 (by omega) (by omega)]; push_cast; rfl
                  clear HSd SU
                  go_wp2_with fail
                  go_roundg (na - (r + 1))
                  case measure => omega
                  case rel => exact ⟨r + 1, by go_num, by omega, by omega, HBE2.out⟩
                · obtain rfl : r = na := by omega
                  have dr : decide ((r : Int) < (r : Int)) = false := decide_eq_false (by omega)
                  have HBF := Lib.hid (stay HBV.out HBR.out)
                  go_wp2_with fail
                  refine (wakes_any (Vars.below (Nat.le_refl _) HBF.out HV.out)).mono ?_
                  rintro e w4 ⟨rfl, hb⟩
                  have HB4 := Lib.hid (stay HBF.out hb)
                  clear hb
                  go_wp2_with fail
                  go_ret
                  exact ⟨rfl, HB4.out⟩
end

end Go.Proofs.YthlnmdihdcfphaaGreatDoor
