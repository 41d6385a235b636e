/- The statement ScanBack, walked. -/
import Derived.Test.YthlnmdihdcfphaaGreatDoorLg
namespace Go.Proofs.YthlnmdihdcfphaaGreatDoor
set_option linter.unusedSimpArgs false
set_option linter.unusedVariables false
open Go.RowKit

theorem nil44 (b o n c : Nat) (w : World) : (binOp .eql 44 (.slice (some ⟨b, o, none⟩) n c) (.slice none 0 0)).run Tryz.prog w = .ok (.bool false) w := by kernel_rfl
section
variable {w : World}
set_option maxRecDepth 100000 in
set_option maxHeartbeats 8000000 in
theorem sback_any (hv : Vars w) (g : Pl.Gm) (gs : List (Value × List (It × Value))) (ng : gs.length ≤ 9223372036854775807) (sv : Value) (hg : GroupsAt w sv gs) (xo xa : Int) (hxo : Small xo) (hxa : Small xa) (kl : List Int) (kv : Value) (nkl : kl.length ≤ 9223372036854775807) (hkb : ∀ x ∈ kl, Byte x) (hkv : BytesAt w kv kl) : Calls Tryz.prog 3 #[g.v, sv, .agg #[.int .i64 xo, .int .i64 xa, kv]] w fun e w' => e = .returned (.bool true) ∧ Below w.heap.size w w' := by
  have HV := Lib.hid hv
  have HGS := Lib.hid hg
  obtain ⟨ga, gc, hsv, -⟩ := id hg
  obtain ⟨N, hK⟩ : ∃ N, gs.length = N := ⟨_, rfl⟩
  obtain ⟨ka, kc, hkf, -⟩ := id hkv
  obtain ⟨KN, hKN⟩ : ∃ N, kl.length = N := ⟨_, rfl⟩
  rw [hK] at hsv
  rw [hKN] at hkf
  subst hsv
  subst hkf
  have HK := Lib.hid hK
  have HKN := Lib.hid hKN
  have HKV := Lib.hid hkv
  have HKB := Lib.hid hkb
  have HXO := Lib.hid hxo
  have HXA := Lib.hid hxa
  clear hv hK hKN ng hg nkl hkb hkv hxo hxa
  go_enter Tryz.func3, Tryz.ntmps3
  go_upto_region 0 with fail
  refine wp_region_lit ?_
  refine box_g rfl rfl ?_
  try simp only [Act.put, List.setIfInBounds_toArray, List.set_cons_succ, List.set_cons_zero]
  intro w1 hV hb hl
  try simp only [Act.put, List.setIfInBounds_toArray, List.set_cons_succ, List.set_cons_zero]
  have HG1 := Lib.hid hV
  have HB1 := Lib.hid hb
  clear hV hb hl
  refine box_g (cs := #[.int .i64 xo, .int .i64 xa, .slice ka KN kc]) rfl rfl ?_
  try simp only [Act.put, List.setIfInBounds_toArray, List.set_cons_succ, List.set_cons_zero]
  intro w2 hV hb hl
  try simp only [Act.put, List.setIfInBounds_toArray, List.set_cons_succ, List.set_cons_zero]
  have HX1 := Lib.hid hV
  have HG1b := Lib.hid (HG1.out.below hb HG1.out.lt)
  have HB1b := Lib.hid (stay HB1.out hb)
  have HXL : Hid (w.heap.size < w1.heap.size) := Lib.hid HG1.out.lt
  clear HG1 HB1 hV hb hl
  generalize w1.heap.size = xB at *
  have HG1 := Lib.hid HG1b.out
  have HB1 := Lib.hid HB1b.out
  clear HG1b HB1b

  refine takeL (.bool false) rfl (by go_simp) ?_
  try simp only [Act.put, List.setIfInBounds_toArray, List.set_cons_succ, List.set_cons_zero]
  refine wpList_nil ?_
  have q0 := HG1.out.cell (i := 0) rfl
  have q1 := HG1.out.cell (i := 1) rfl
  have q2 := HG1.out.cell (i := 2) rfl
  have q3 := HG1.out.cell (i := 3) rfl
  by_cases hok : g.Ok
  rotate_left
  · have HOK := Lib.hid hok
    clear hok
    go_wp2_with fail
    refine (Pl.rgood_no g HOK.out _).mono ?_
    rintro e w3 ⟨rfl, hb⟩
    have HB3 := Lib.hid (stay HB1.out hb)
    clear hb q0 q1 q2 q3
    go_wp2_with fail
    refine (wakes_any (Vars.below (Nat.le_refl _) HB3.out HV.out)).mono ?_
    rintro e w4 ⟨rfl, hb⟩
    have HB4 := Lib.hid (stay HB3.out hb)
    clear hb
    go_wp2_with fail
    go_ret
    exact ⟨rfl, HB4.out⟩
  have HOK := Lib.hid hok
  clear hok
  go_wp2_with fail
  refine (Pl.rgood_yes g HOK.out _).mono ?_
  rintro e w3 ⟨rfl, hb⟩
  have HB3 := Lib.hid (stay HB1.out hb)
  have HG3 := Lib.hid (HG1.out.below hb HG1.out.lt)
  have HX3 := Lib.hid (HX1.out.below hb HX1.out.lt)
  have qx := HX3.out.cell (i := 2) rfl
  clear HX1
  clear hb q0 q1 q2 q3 HG1
  by_cases hlimN : 30 < N
  · have dlimN : decide ((30 : Int) < (N : Int)) = true := decide_eq_true (by omega)
  
    go_wp2_with fail
    refine (wakes_any (Vars.below (Nat.le_refl _) HB3.out HV.out)).mono ?_
    rintro e w4 ⟨rfl, hb⟩
    have HB4 := Lib.hid (stay HB3.out hb)
    clear hb
    go_wp2_with fail
    go_ret
    exact ⟨rfl, HB4.out⟩
  have dlimN : decide ((30 : Int) < (N : Int)) = false := decide_eq_false (by omega)
  have HLN : Hid (N ≤ 30) := Lib.hid (by omega)
  by_cases hlimKN : 100 < KN
  · have dlimKN : decide ((100 : Int) < (KN : Int)) = true := decide_eq_true (by omega)
  
    go_wp2_with fail
    refine (wakes_any (Vars.below (Nat.le_refl _) HB3.out HV.out)).mono ?_
    rintro e w4 ⟨rfl, hb⟩
    have HB4 := Lib.hid (stay HB3.out hb)
    clear hb
    go_wp2_with fail
    go_ret
    exact ⟨rfl, HB4.out⟩
  have dlimKN : decide ((100 : Int) < (KN : Int)) = false := decide_eq_false (by omega)
  have HLKN : Hid (KN ≤ 100) := Lib.hid (by omega)

  obtain ⟨t, ht, ht1, ht2⟩ := Pl.Gm.total HOK.out
  have HT := Lib.hid ht
  have HTB : Hid (1 ≤ t ∧ t ≤ 1024) := Lib.hid ⟨ht1, ht2⟩
  clear hlimN hlimKN ht ht1 ht2
  go_upto_region 3 with fail
  refine wp_region_lit ?_
  clear dlimN dlimKN qx
  refine takeL (.agg #[.int .i64 g.p, .int .i64 g.s, .int .i64 g.l, .int .i64 g.f]) rfl (by have q := HG3.out; have q0 := q.cell (i := 0) rfl; have q1 := q.cell (i := 1) rfl; have q2 := q.cell (i := 2) rfl; have q3 := q.cell (i := 3) rfl; go_simp) ?_
  try simp only [Act.put, List.setIfInBounds_toArray, List.set_cons_succ, List.set_cons_zero]
  refine wpList_op rfl fun K hK => ?_
  go_simp
  refine (Pl.rof_yes g HOK.out _).mono ?_
  rintro e w5 ⟨rfl, hb⟩
  rw [HT.out]
  have HB5 := Lib.hid (stay HB3.out hb)
  have HG5 := Lib.hid (HG3.out.below hb HG3.out.lt)
  have HX5 := Lib.hid (HX3.out.below hb HX3.out.lt)
  clear hb HG3 HB3
  refine hK _ _ ?_
  clear hK K
  try simp only [Act.put, List.setIfInBounds_toArray, List.set_cons_succ, List.set_cons_zero]
  refine takeL (.int .i64 (t : Int)) rfl (by have z := field35m g.maps (t : Int) g.cap w5; go_simp) ?_
  try simp only [Act.put, List.setIfInBounds_toArray, List.set_cons_succ, List.set_cons_zero]
  refine wpList_op rfl fun K hK => ?_
  go_simp
  refine (De.dv_new w5 _ (Below.refl _ _) t HTB.out).mono ?_
  rintro e w6 ⟨b, F, rfl, hdv, hb, hF⟩
  have HG6 := Lib.hid (HG5.out.below hb HG5.out.lt)
  have HX6 := Lib.hid (HX5.out.below hb HX5.out.lt)
  have HW56 : Hid (w5.heap.size ≤ w6.heap.size) := Lib.hid hb.size
  have HD6 := Lib.hid hdv
  have HB6 := Lib.hid (stay HB5.out hb)
  have HGS6 : Hid (¬ F w.heap.size ∧ w.heap.size < w6.heap.size) := Lib.hid ⟨fun hf => by have h1 := hF _ hf; have h2 := HG5.out.lt; omega, HG6.out.lt⟩
  clear hdv hb hF HG5
  refine hK _ _ ?_
  clear hK K
  try simp only [Act.put, List.setIfInBounds_toArray, List.set_cons_succ, List.set_cons_zero]
  refine takeL (.tuple #[.pointer (some ⟨b, 0, none⟩), .int .i64 0]) rfl (by go_simp) ?_
  try simp only [Act.put, List.setIfInBounds_toArray, List.set_cons_succ, List.set_cons_zero]
  refine takeL (.pointer (some ⟨b, 0, none⟩)) rfl (by go_simp) ?_
  try simp only [Act.put, List.setIfInBounds_toArray, List.set_cons_succ, List.set_cons_zero]
  refine takeL (.int .i64 0) rfl (by go_simp) ?_
  try simp only [Act.put, List.setIfInBounds_toArray, List.set_cons_succ, List.set_cons_zero]
  refine takeL (.pointer (some ⟨b, 0, none⟩)) rfl (by go_simp) ?_
  try simp only [Act.put, List.setIfInBounds_toArray, List.set_cons_succ, List.set_cons_zero]
  refine takeL (.int .i64 0) rfl (by go_simp) ?_
  try simp only [Act.put, List.setIfInBounds_toArray, List.set_cons_succ, List.set_cons_zero]
  refine wpList_nil ?_
  obtain ⟨sN, hsN⟩ : ∃ sN : Nat, g.s = (sN : Int) := ⟨g.s.toNat, by have := HOK.out.2.1; omega⟩
  have HSN : Hid (g.s = (sN : Int) ∧ 6 ≤ sN ∧ sN ≤ 16) := Lib.hid ⟨hsN, by have := HOK.out.2.1; omega, by have := HOK.out.2.1; omega⟩
  clear hsN
  have hO0 : Hid (OwnN w6 w6.heap.size (.slice none 0 0) (frm 0 0)) := Lib.hid (OwnN.nil _ _)
  go_wp2_with fail
  go_loopg [9, 10] sN (fun q u9 i wr => ∃ (j : Nat) (s9 : Value), s9 = u9 ∧ sN - j ≤ q ∧ i = .int .i64 (j : Int) ∧ j + 1 ≤ sN ∧ OwnN wr w6.heap.size s9 (frm 0 j) ∧ Below w6.heap.size w6 wr)
  case atStart => exact ⟨0, _, rfl, by omega, rfl, by have := HSN.out; omega, hO0.out, Below.refl _ _⟩
  case round =>
    obtain ⟨j, s9, rfl, hq, rfl, hjs, hown, hbel⟩ := hrel
    have HOW := Lib.hid hown
    have HBR := Lib.hid hbel
    have HGR := Lib.hid (HG6.out.below hbel HG6.out.lt)
    obtain ⟨fa, fc, hfv⟩ := hown.ints.form
    rw [frm_len] at hfv
    subst hfv
    clear hown hbel
    have q1 := HGR.out.cell (i := 1) rfl
    have gwl : IntKind.i64.wrap ((j : Int) + 1) = (j : Int) + 1 := by have h1 := HSN.out; exact wrap64 (by omega) (by omega)
    by_cases hc : ((j : Int) + 1) < g.s
    · have dc : decide (((j : Int) + 1) < g.s) = true := decide_eq_true hc
      have hj2 : j + 2 ≤ sN ∧ j + 1 ≤ 16 := by have := HSN.out; omega
      have gw : IntKind.i64.wrap ((j : Int) + 1) = ((j + 1 : Nat) : Int) := by rw [wrap64 (by omega) (by omega)]; push_cast; omega
      go_upto_region 8 with fail
      refine wp_region_lit ?_
      refine takeL (.slice fa j fc) rfl (by go_simp) ?_
      try simp only [Act.put, List.setIfInBounds_toArray, List.set_cons_succ, List.set_cons_zero]
      refine takeL (.int .i64 (j : Int)) rfl (by go_simp) ?_
      try simp only [Act.put, List.setIfInBounds_toArray, List.set_cons_succ, List.set_cons_zero]
      refine wpList_run (.slice (some ⟨wr.heap.size, 0, none⟩) 1 1) (wr.alloc (.cells #[.int .i64 (j : Int)] 3)) rfl (by go_simp) ?_
      try simp only [Act.put, List.setIfInBounds_toArray, List.set_cons_succ, List.set_cons_zero]
      have hb1 := alloc_bel wr (.cells #[.int .i64 (j : Int)] 3)
      have hl1 : IntsAt (wr.alloc (.cells #[.int .i64 (j : Int)] 3)) (.slice (some ⟨wr.heap.size, 0, none⟩) 1 1) [(j : Int)] := (OwnN.lit wr wr.heap.size (Nat.le_refl _) [(j : Int)] (by simp) _ rfl).ints
      refine app_LNg (HOW.out.below hb1) (Nat.le_trans HBR.out.size hb1.size) hl1 (by rw [frm_len]; simp only [List.length_cons, List.length_nil]; omega) rfl rfl rfl ?_
      intro tv w8 ho hg8
      try simp only [Act.put, List.setIfInBounds_toArray, List.set_cons_succ, List.set_cons_zero]
      rw [show frm 0 j ++ [(j : Int)] = frm 0 (j + 1) by rw [frm_next, Int.zero_add]] at ho
      have HO8 := Lib.hid ho
      have HB8 : Hid (Below w6.heap.size w6 w8) := Lib.hid ((stay HBR.out hb1).trans (grown_below hg8 (Nat.le_trans HBR.out.size hb1.size) fun k hk => (HOW.out.lt k hk).1))
      obtain ⟨ta, tc, htv⟩ := ho.ints.form
      rw [frm_len] at htv
      subst htv
      clear hb1 hl1 ho hg8 HOW HBR HGR q1
      refine takeL (.slice ta (j + 1) tc) rfl (by go_simp) ?_
      try simp only [Act.put, List.setIfInBounds_toArray, List.set_cons_succ, List.set_cons_zero]
      refine wpList_nil ?_
      go_wp2_with fail
      go_roundg (sN - (j + 1))
      case measure => omega
      case rel => exact ⟨j + 1, _, rfl, by omega, congrArg (Value.int IntKind.i64) (by omega), by omega, HO8.out, HB8.out⟩
    · have dc : decide (((j : Int) + 1) < g.s) = false := decide_eq_false hc
      have HJS : Hid (j + 1 = sN) := Lib.hid (by have := HSN.out; omega)
      clear hq
      have HDQ : Hid (Dq w5 w wr b F (De.newD t) [(w.heap.size, [.int .i64 g.p, .int .i64 g.s, .int .i64 g.l, .int .i64 g.f]), (xB, [.int .i64 xo, .int .i64 xa, .slice ka KN kc])] [(.slice fa j fc, frm 0 j)]) := Lib.hid (by
        have h2 := HGS6.out
        have h3 := HBR.out.size
        refine ⟨HD6.out.below HBR.out, fun x hx => ?_, fun x hx => ?_, stay HB6.out HBR.out, HB5.out.size, Nat.le_trans HW56.out HBR.out.size⟩
        · simp only [List.mem_cons, List.not_mem_nil, or_false] at hx
          rcases hx with rfl | rfl
          · exact ⟨HGR.out, by show w.heap.size < _; omega, h2.1⟩
          · have h5 := HX5.out.lt
            exact ⟨HX6.out.below HBR.out HX6.out.lt, by show xB < _; have := HX6.out.lt; omega, fun hf => by have h6 := (HD6.out.lt _ hf).1; have h7 : xB < w5.heap.size := h5; omega⟩
        · obtain rfl := List.mem_singleton.1 hx
          refine ⟨HOW.out.ints, fun b' o n c e => ?_⟩
          have h4 := HOW.out.lt b' (by rw [show Value.slice fa j fc = .slice (some ⟨b', o, none⟩) n c from e]; rfl)
          exact ⟨h4.2, fun hf => by have := (HD6.out.lt _ hf).2; omega⟩)
      clear HOW HBR hc HGR
      obtain ⟨rm, hrm⟩ : ∃ rm, xo.tmod (g.l + 1) = rm := ⟨_, rfl⟩
      have HLL : Hid (1 ≤ g.l ∧ g.l ≤ 1024) := Lib.hid (by have := HOK.out.2.2.1; omega)
      have HRM : Hid (rm ≤ g.l) := Lib.hid (by
        have h1 := HLL.out
        rw [← hrm]
        have := Int.tmod_lt_of_pos xo (show 0 < g.l + 1 by omega)
        omega)
      have gs1 : Hid (IntKind.i64.wrap (g.s - 1) = (j : Int)) := Lib.hid (by have h1 := HSN.out; have h2 := HJS.out; rw [wrap64 (by omega) (by omega)]; omega)
      have gl1 : Hid (IntKind.i64.wrap (g.l + 1) = g.l + 1) := Lib.hid (by have h1 := HLL.out; exact wrap64 (by omega) (by omega))
      have gl0 : Hid (¬ g.l + 1 = 0) := Lib.hid (by have h1 := HLL.out; omega)
      have grm : Hid (xo.tmod (g.l + 1) = rm) := Lib.hid hrm
      clear hrm
      go_upto_region 9 with fail
      clear q1 dc
      go_cut [11] from 57 to 68 (fun s11 wx => ∃ (k : Nat), s11 = .pointer (some ⟨k, 0, none⟩) ∧ wr.heap.size ≤ k ∧ Blk wx k [.int .i64 j, .int .i64 rm, .int .u32 9, .slice fa j fc] ∧ Below wr.heap.size wr wx)
      case first =>
        refine startH (fun wq => Below wr.heap.size wr wq) (by kernel_rfl) ?_
        have HSd : Hid (Below wr.heap.size wr wr.drew) := Lib.hid (Below.refl _ _).drew
        generalize wr.drew = wS at *
        refine takeH 0 (some 57) (.pointer (some ⟨w.heap.size, 1, none⟩)) rfl rfl (by kernel_rfl) (by kernel_rfl) (by kernel_rfl) (fun _ _ _ h => h) rfl (fun wq hS => by go_simp) HSd.out ?_
        try simp only [Act.put, List.setIfInBounds_toArray, List.set_cons_succ, List.set_cons_zero]
        refine takeH 1 (some 58) (.int .i64 g.s) rfl rfl (by kernel_rfl) (by kernel_rfl) (by kernel_rfl) (fun _ _ _ h => h) rfl (fun wq hS => by have q := (HDQ.out.bl _ (.head _)).1.below hS (HDQ.out.bl _ (.head _)).1.lt; have q1 := q.cell (i := 1) rfl; have q2 := q.cell (i := 2) rfl; go_simp) HSd.out ?_
        try simp only [Act.put, List.setIfInBounds_toArray, List.set_cons_succ, List.set_cons_zero]
        refine takeH 2 (some 59) (.int .i64 (j : Int)) rfl rfl (by kernel_rfl) (by kernel_rfl) (by kernel_rfl) (fun _ _ _ h => h) rfl (fun wq hS => by have z := gs1.out; go_simp) HSd.out ?_
        try simp only [Act.put, List.setIfInBounds_toArray, List.set_cons_succ, List.set_cons_zero]
        refine takeH 3 (some 60) (.pointer (some ⟨xB, 0, none⟩)) rfl rfl (by kernel_rfl) (by kernel_rfl) (by kernel_rfl) (fun _ _ _ h => h) rfl (fun wq hS => by go_simp) HSd.out ?_
        try simp only [Act.put, List.setIfInBounds_toArray, List.set_cons_succ, List.set_cons_zero]
        refine takeH 4 (some 61) (.int .i64 xo) rfl rfl (by kernel_rfl) (by kernel_rfl) (by kernel_rfl) (fun _ _ _ h => h) rfl (fun wq hS => by have q := (HDQ.out.bl _ (.tail _ (.head _))).1.below hS (HDQ.out.bl _ (.tail _ (.head _))).1.lt; have q0 := q.cell (i := 0) rfl; go_simp) HSd.out ?_
        try simp only [Act.put, List.setIfInBounds_toArray, List.set_cons_succ, List.set_cons_zero]
        refine takeH 5 (some 62) (.pointer (some ⟨w.heap.size, 2, none⟩)) rfl rfl (by kernel_rfl) (by kernel_rfl) (by kernel_rfl) (fun _ _ _ h => h) rfl (fun wq hS => by go_simp) HSd.out ?_
        try simp only [Act.put, List.setIfInBounds_toArray, List.set_cons_succ, List.set_cons_zero]
        refine takeH 6 (some 63) (.int .i64 g.l) rfl rfl (by kernel_rfl) (by kernel_rfl) (by kernel_rfl) (fun _ _ _ h => h) rfl (fun wq hS => by have q := (HDQ.out.bl _ (.head _)).1.below hS (HDQ.out.bl _ (.head _)).1.lt; have q1 := q.cell (i := 1) rfl; have q2 := q.cell (i := 2) rfl; go_simp) HSd.out ?_
        try simp only [Act.put, List.setIfInBounds_toArray, List.set_cons_succ, List.set_cons_zero]
        refine takeH 7 (some 64) (.int .i64 (g.l + 1)) rfl rfl (by kernel_rfl) (by kernel_rfl) (by kernel_rfl) (fun _ _ _ h => h) rfl (fun wq hS => by have z := gl1.out; go_simp) HSd.out ?_
        try simp only [Act.put, List.setIfInBounds_toArray, List.set_cons_succ, List.set_cons_zero]
        refine takeH 8 (some 65) (.int .i64 rm) rfl rfl (by kernel_rfl) (by kernel_rfl) (by kernel_rfl) (fun _ _ _ h => h) rfl (fun wq hS => by have z := grm.out; have z0 := gl0.out; go_simp) HSd.out ?_
        try simp only [Act.put, List.setIfInBounds_toArray, List.set_cons_succ, List.set_cons_zero]
        refine takeH 9 (some 66) (.slice fa j fc) rfl rfl (by kernel_rfl) (by kernel_rfl) (by kernel_rfl) (fun _ _ _ h => h) rfl (fun wq hS => by go_simp) HSd.out ?_
        try simp only [Act.put, List.setIfInBounds_toArray, List.set_cons_succ, List.set_cons_zero]
        refine takeH 10 (some 67) (.agg #[.int .i64 j, .int .i64 rm, .int .u32 9, .slice fa j fc]) rfl rfl (by kernel_rfl) (by kernel_rfl) (by kernel_rfl) (fun _ _ _ h => h) rfl (fun wq hS => by exact exec_build _ _ _ _ 40 _ rfl #[(0, .int .i64 j), (1, .int .i64 rm), (2, .int .u32 9), (3, .slice fa j fc)] (by simp only [List.map_toArray, List.map_cons, List.map_nil]; rfl) _ (run_build wq 40 _ _ (built40f _ _ _ _ _ _))) HSd.out ?_
        try simp only [Act.put, List.setIfInBounds_toArray, List.set_cons_succ, List.set_cons_zero]
        refine oneH 11 (by kernel_rfl) rfl rfl fun K hK => ?_
        refine wp_runTo (some 11) rfl _ _ (exec_alloc _ _ _ 40 rfl _ zero40) ?_
        have hb := alloc_bel wS (.cells #[.int .i64 0, .int .i64 0, .int .u32 0, .slice none 0 0] 40)
        have KA := Lib.hid (Blk.new wS #[.int .i64 0, .int .i64 0, .int .u32 0, .slice none 0 0] 40)
        have SA := Lib.hid (stay HSd.out hb)
        have KL : Hid (wr.heap.size ≤ wS.heap.size) := Lib.hid HSd.out.size
        refine hK _ _ SA.out ?_
        clear hK K hb
        generalize wS.alloc (.cells #[.int .i64 0, .int .i64 0, .int .u32 0, .slice none 0 0] 40) = wA at *
        generalize wS.heap.size = kB at *
        try simp only [Act.put, List.setIfInBounds_toArray, List.set_cons_succ, List.set_cons_zero]
        refine oneH 12 (by kernel_rfl) rfl rfl fun K hK => ?_
        refine wp_store_all 40 _ _ rfl kB #[.int .i64 j, .int .i64 rm, .int .u32 9, .slice fa j fc] rfl rfl _ KA.out rfl info40 (at_one _ _ _ _ _ _) ?_
        intro wz hD hO
        have SZ : Hid (Below wr.heap.size wr wz) := Lib.hid (SA.out.trans (hO.below SA.out.size fun k hk => by rw [hk]; exact KL.out))
        have HDZ := Lib.hid hD
        refine hK _ _ SZ.out ?_
        clear hK K hD hO
        try simp only [Act.put, List.setIfInBounds_toArray, List.set_cons_succ, List.set_cons_zero]
        refine wpAnyH_done (by kernel_rfl) ?_ _
        go_wp2_with fail
        go_meet
        exact ⟨kB, rfl, KL.out, HDZ.out, SZ.out⟩
      case rest =>
      obtain ⟨kB, rfl, hkl, hbk, hbx⟩ := hcut
      have HKL := Lib.hid hkl
      have HBK := Lib.hid hbk
      have HBX := Lib.hid hbx
      clear hkl hbk hbx
      generalize wc = wy at *
      obtain ⟨bm, hbm⟩ : ∃ c, decide (rm < 0) = c := ⟨_, rfl⟩
      have HBM := Lib.hid hbm
      have z := hbm
      clear hbm
      have qk := HBK.out.cell (i := 1) rfl
      go_upto_if 70 with fail
      clear z qk
      go_cut [] from 71 to 72 (fun wx => ∃ om : Int, 0 ≤ om ∧ om ≤ g.l ∧ Blk wx kB [.int .i64 j, .int .i64 om, .int .u32 9, .slice fa j fc] ∧ Below wr.heap.size wr wx)
      case first =>
        cases bm
        · have h0 : 0 ≤ rm := by have := of_decide_eq_false HBM.out; omega
          go_wp2_with fail
          go_meet
          exact ⟨rm, h0, HRM.out, HBK.out, HBX.out⟩
        · have qk := HBK.out.cell (i := 1) rfl
          have hfz := HBK.out.frozen 1
          have HST : Hid (Blk (wy.setCell ⟨kB, 1, none⟩ (.int .i64 0)) kB [.int .i64 j, .int .i64 0, .int .u32 9, .slice fa j fc] ∧ Below wr.heap.size wr (wy.setCell ⟨kB, 1, none⟩ (.int .i64 0))) := Lib.hid ⟨HBK.out.set 1 _, set_bel HBX.out HKL.out (Nat.le_refl _)⟩
          go_wp2_with fail
          go_meet
          exact ⟨0, Int.le_refl _, by have := HLL.out; omega, HST.out.1, HST.out.2⟩
      case rest =>
      obtain ⟨om, ho0, hol, hbk2, hbx2⟩ := hcut
      generalize wc = wq at *
      have HOM : Hid (0 ≤ om ∧ om ≤ g.l) := Lib.hid ⟨ho0, hol⟩
      have HDQ3 : Hid (Dq w5 w wq b F (De.newD t) [(w.heap.size, [.int .i64 g.p, .int .i64 g.s, .int .i64 g.l, .int .i64 g.f]), (xB, [.int .i64 xo, .int .i64 xa, .slice ka KN kc]), (kB, [.int .i64 j, .int .i64 om, .int .u32 9, .slice fa j fc])] [(.slice fa j fc, frm 0 j)]) := Lib.hid (by
        have h := HDQ.out.below hbx2
        have h3 := HKL.out
        refine ⟨h.dv, fun x hx => ?_, h.il, h.bel, h.hW, h.wl⟩
        simp only [List.mem_cons, List.not_mem_nil, or_false] at hx
        rcases hx with rfl | rfl | rfl
        · exact h.bl _ (.head _)
        · exact h.bl _ (.tail _ (.head _))
        · exact ⟨hbk2, hbk2.lt, fun hf => by have := (HDQ.out.dv.lt _ hf).2; omega⟩)
      clear ho0 hol hbk2 hbx2 HDQ HBK HBX HBM HKL
      have HGD : Hid ((⟨(j : Int), om, 9, frm 0 j⟩ : Ja).good g = true) := Lib.hid (frm_good HOK.out ⟨by omega, by have h1 := HSN.out; have h2 := HJS.out; omega⟩ HOM.out (Int.le_refl _) (by have h1 := HSN.out; have h2 := HJS.out; omega) (.inr (by omega)))
      have HFT : Hid (∀ n : Nat, n = t → fits g ⟨(j : Int), om, 9, frm 0 j⟩ n = true) := Lib.hid fun n hn => by
        have h : 4 + g.s * g.l ≤ (n : Int) := by rw [hn, HT.out]; exact Int.le_refl _
        unfold fits
        rw [HGD.out, decide_eq_true h]
        rfl
      have HFL : Hid ((frm 0 j).length ≤ 9223372036854775807) := Lib.hid (by rw [frm_len]; have h1 := HSN.out; have h2 := HJS.out; omega)
      go_upto_region 12 with fail
      refine wp_region_lit ?_
      refine takeL (.pointer (some ⟨b, 0, none⟩)) rfl (by go_simp) ?_
      try simp only [Act.put, List.setIfInBounds_toArray, List.set_cons_succ, List.set_cons_zero]
      refine takeL (.agg #[.int .i64 g.p, .int .i64 g.s, .int .i64 g.l, .int .i64 g.f]) rfl (by have q := (HDQ3.out.bl _ (.head _)).1; have q0 := q.cell (i := 0) rfl; have q1 := q.cell (i := 1) rfl; have q2 := q.cell (i := 2) rfl; have q3 := q.cell (i := 3) rfl; go_simp) ?_
      try simp only [Act.put, List.setIfInBounds_toArray, List.set_cons_succ, List.set_cons_zero]
      refine takeL (.agg #[.int .i64 j, .int .i64 om, .int .u32 9, .slice fa j fc]) rfl (by have q := (HDQ3.out.bl _ (.tail _ (.tail _ (.head _)))).1; have q0 := q.cell (i := 0) rfl; have q1 := q.cell (i := 1) rfl; have q2 := q.cell (i := 2) rfl; have q3 := q.cell (i := 3) rfl; go_simp) ?_
      try simp only [Act.put, List.setIfInBounds_toArray, List.set_cons_succ, List.set_cons_zero]
      refine wpList_op rfl fun K hK => ?_
      go_simp
      refine (new_yes (W := w5) b F (De.newD t) (by rw [newD_len]; have := HTB.out; omega) g ⟨(j : Int), om, 9, frm 0 j⟩ (.slice fa j fc) HFL.out (HFT.out _ (newD_len t)) (seqN 9 (by decide)) _ (HDQ3.out.il _ (.head _)).1 HDQ3.out.dv).mono ?_
      rintro e w9 ⟨jb, tv, rfl, hj, hjl, hb⟩
      have HKQ := Lib.hid (HDQ3.out.new hb hj hjl)
      have HBL : Hid (w5.heap.size ≤ w9.heap.size ∧ (∀ x ∈ ([(w.heap.size, [.int .i64 g.p, .int .i64 g.s, .int .i64 g.l, .int .i64 g.f]), (xB, [.int .i64 xo, .int .i64 xa, .slice ka KN kc]), (kB, [.int .i64 j, .int .i64 om, .int .u32 9, .slice fa j fc])] : List (Nat × List Value)), x.1 < w9.heap.size) ∧ ∀ x ∈ ([(.slice fa j fc, frm 0 j)] : List (Value × List Int)), ∀ b' o n c, x.1 = .slice (some ⟨b', o, none⟩) n c → b' < w9.heap.size) := Lib.hid ⟨Nat.le_trans HDQ3.out.wl hb.size, fun x hx => Nat.lt_of_lt_of_le (HDQ3.out.bl x hx).2.1 hb.size, fun x hx b' o n c e => Nat.lt_of_lt_of_le ((HDQ3.out.il x hx).2 b' o n c e).1 hb.size⟩
      have HWB0 : Hid (Wb w N 0 (De.newD t) g ⟨(j : Int), om, 9, frm 0 j⟩ [] ⟨(j : Int), om, 9, frm 0 j⟩ (.slice none 0 0)) := Lib.hid (Wb.new (Sn.new (img_new t) HGD.out (seqN 9 (by decide)) (by rw [newD_len, HT.out]; exact Int.le_refl _) fun y hy => List.eq_of_mem_replicate hy) (by show (-1 : Int) < 0; decide) rfl w N)
      clear hj hjl hb HDQ3 HLL HRM
      generalize hBB : w9.heap.size = BB at HBL
      refine hK _ _ ?_
      clear hK K
      try simp only [Act.put, List.setIfInBounds_toArray, List.set_cons_succ, List.set_cons_zero]
      refine takeL (.tuple #[.pointer (some ⟨jb, 0, none⟩), .int .i64 0]) rfl (by go_simp) ?_
      try simp only [Act.put, List.setIfInBounds_toArray, List.set_cons_succ, List.set_cons_zero]
      refine takeL (.pointer (some ⟨jb, 0, none⟩)) rfl (by go_simp) ?_
      try simp only [Act.put, List.setIfInBounds_toArray, List.set_cons_succ, List.set_cons_zero]
      refine takeL (.int .i64 0) rfl (by go_simp) ?_
      try simp only [Act.put, List.setIfInBounds_toArray, List.set_cons_succ, List.set_cons_zero]
      refine takeL (.pointer (some ⟨jb, 0, none⟩)) rfl (by go_simp) ?_
      try simp only [Act.put, List.setIfInBounds_toArray, List.set_cons_succ, List.set_cons_zero]
      refine takeL (.int .i64 0) rfl (by go_simp) ?_
      try simp only [Act.put, List.setIfInBounds_toArray, List.set_cons_succ, List.set_cons_zero]
      refine wpList_nil ?_
      have HSZ : Hid (BB ≤ w9.heap.size) := Lib.hid (Nat.le_of_eq hBB.symm)
      clear hBB
      go_wp2_with fail
      go_loopg [14, 15, 16] N (fun q u14 u15 u16 wr => ∃ (i : Nat) (Fk : Nat → Prop) (a : Ja) (d : De.D) (fv s14 s15 : Value) (P : List (List It × List Int)) (vs : List Value), s14 = u14 ∧ s15 = u15 ∧ u16 = .int .i64 (i : Int) ∧ N - i ≤ q ∧ i ≤ N ∧ Kp w5 w wr jb b Fk d g a fv [(w.heap.size, [.int .i64 g.p, .int .i64 g.s, .int .i64 g.l, .int .i64 g.f]), (xB, [.int .i64 xo, .int .i64 xa, .slice ka KN kc]), (kB, [.int .i64 j, .int .i64 om, .int .u32 9, .slice fa j fc])] [(.slice fa j fc, frm 0 j)] ∧ Wb w N i d g ⟨(j : Int), om, 9, frm 0 j⟩ P a s15 ∧ Pv wr BB jb Fk fv s14 vs ∧ PL w P vs ∧ d.S.length = t ∧ d.T ≤ 1025 * i ∧ d.L.length ≤ 1024 * i ∧ vs.length ≤ i ∧ BB ≤ wr.heap.size)
      case atStart => exact ⟨0, F, _, _, tv, _, _, [], [], rfl, rfl, rfl, by omega, by omega, HKQ.out, HWB0.out, Pv.nil _ _ _ _ _, PL.nil w, newD_len t, Nat.zero_le _, Nat.zero_le _, Nat.le_refl _, HSZ.out⟩
      case round =>
        obtain ⟨i, Fk, a, d, fv, s14, s15, P, vs, rfl, rfl, rfl, hq, hi, hkp, hwb, hpv, hpl, hS, hT, hL, hvl, hsz⟩ := hrel
        clear HKQ HWB0 HSZ
        have HKP := Lib.hid hkp
        have HWB := Lib.hid hwb
        have HPV := Lib.hid hpv
        have HPL := Lib.hid hpl
        have HDF : Hid (d.S.length = t ∧ d.T ≤ 1025 * i ∧ d.L.length ≤ 1024 * i) := Lib.hid ⟨hS, hT, hL⟩
        have HVL : Hid (vs.length ≤ i ∧ BB ≤ wr.heap.size) := Lib.hid ⟨hvl, hsz⟩
        clear hkp hwb hpv hpl hS hT hL hvl hsz
        by_cases hiN : i < N
        · have dN : decide ((i : Int) < (N : Int)) = true := decide_eq_true (by omega)
          have hiI : (i : Int) < (N : Int) := by omega
          obtain ⟨x, hx⟩ : ∃ x, gs[i]? = some x := ⟨_, List.getElem?_eq_getElem (by have := HK.out; omega)⟩
          obtain ⟨xb, yo, xc, hxe, hxc, hxi, hxl⟩ := HGS.out.at hx
          rw [HK.out] at hxe
          injection hxe with e1 e2 e3
          subst e1
          subst e3
          obtain ⟨lv, ll⟩ := x
          simp only at hxc hxi hxl
          have HXC := Lib.hid hxc
          have HXI := Lib.hid hxi
          have HXL := Lib.hid hxl
          obtain ⟨la, lc, hlv⟩ := items_one hxi
          obtain ⟨ln, hln⟩ : ∃ n, ll.length = n := ⟨_, rfl⟩
          rw [hln] at hlv
          subst hlv
          have HLL := Lib.hid hln
          clear hx hxc hxi hxl e2 hln
          have cx := cell_bel HXC.out HKP.out.bel
          go_wp2_with fail
          refine (fair_any ll ln HLL.out (by rw [← HLL.out]; exact HXL.out) (.slice la ln lc) _ (HXI.out.below HKP.out.bel)).mono ?_
          rintro e wD ⟨rfl, rfl⟩
          cases hfair : fair (ll.map (·.1))
          · clear hfair
            have HBX := Lib.hid HKP.out.bel
            go_wp2_with fail
            refine (wakes_any (Vars.below (Nat.le_refl _) HBX.out HV.out)).mono ?_
            rintro e w4 ⟨rfl, hb⟩
            have HB4 := Lib.hid (stay HBX.out hb)
            clear hb
            go_wp2_with fail
            go_ret
            exact ⟨rfl, HB4.out⟩
          have HFAIR := Lib.hid hfair
          clear hfair
          have hL0 : ll.length ≤ 100 := by have := fair_len HFAIR.out; rw [List.length_map] at this; exact this
          have HLE := Lib.hid hL0
          clear hL0
          go_upto_region 22 with fail
          clear cx
          go_cut [107] from 98 to 108 (fun s107 wx => ∃ bb : Bool, s107 = .bool bb ∧ (bb = true → i + 1 = N ∧ 0 ≤ xa) ∧ wx = wr)
          case first =>
            as_aux_lemma =>
              have gi1 : IntKind.i64.wrap ((i : Int) + 1) = (i : Int) + 1 := by have := HLN.out; exact wrap64 (by omega) (by omega)
              have cA := (HKP.out.bl _ (.tail _ (.head _))).1.cell (i := 1) rfl
              by_cases h1 : i + 1 = N
              · have e1 : (((i : Int) + 1) == (N : Int)) = true := beq_iff_eq.2 (by omega)
                by_cases h2 : 0 ≤ xa
                · have e2 : decide (0 ≤ xa) = true := decide_eq_true h2
                  have HN1 : Hid (i + 1 = N ∧ 0 ≤ xa) := Lib.hid ⟨h1, h2⟩
                  clear h1 h2
                  go_wp2_with fail
                  go_meet
                  exact ⟨true, rfl, fun _ => HN1.out, rfl⟩
                · have e2 : decide (0 ≤ xa) = false := decide_eq_false h2
                  clear h1 h2
                  go_wp2_with fail
                  go_meet
                  exact ⟨false, rfl, (fun h => by cases h), rfl⟩
              · have e1 : (((i : Int) + 1) == (N : Int)) = false := beq_eq_false_iff_ne.2 (by omega)
                clear h1
                go_wp2_with fail
                go_meet
                exact ⟨false, rfl, (fun h => by cases h), rfl⟩
          case rest =>
          obtain ⟨bb, rfl, hbb, hwc⟩ := hcut
          subst hwc
          have HBB := Lib.hid hbb
          clear hbb
          go_upto_if 107 with fail
          go_cut [] from 108 to 112 (fun wx => ∃ (n : Int) (F1 : Nat → Prop), (i + 1 < N → n < 0) ∧ Kp w5 w wx jb b F1 { d with F := n } g a fv [(w.heap.size, [.int .i64 g.p, .int .i64 g.s, .int .i64 g.l, .int .i64 g.f]), (xB, [.int .i64 xo, .int .i64 xa, .slice ka KN kc]), (kB, [.int .i64 j, .int .i64 om, .int .u32 9, .slice fa j fc])] [(.slice fa j fc, frm 0 j)] ∧ Pv wx BB jb F1 fv s14 vs ∧ wc.heap.size ≤ wx.heap.size)
          case first =>
            as_aux_lemma =>
              cases bb
              · have HN0 : Hid (∃ (n : Int) (F1 : Nat → Prop), (i + 1 < N → n < 0) ∧ Kp w5 w wc jb b F1 { d with F := n } g a fv [(w.heap.size, [.int .i64 g.p, .int .i64 g.s, .int .i64 g.l, .int .i64 g.f]), (xB, [.int .i64 xo, .int .i64 xa, .slice ka KN kc]), (kB, [.int .i64 j, .int .i64 om, .int .u32 9, .slice fa j fc])] [(.slice fa j fc, frm 0 j)] ∧ Pv wc BB jb F1 fv s14 vs ∧ wc.heap.size ≤ wc.heap.size) := Lib.hid ⟨d.F, Fk, fun _ => (HWB.out.1 hiN).2.1, HKP.out, HPV.out, Nat.le_refl _⟩
                go_wp2_with fail
                go_meet
                exact HN0.out
              · have cA := (HKP.out.bl _ (.tail _ (.head _))).1.cell (i := 1) rfl
                have HN1 : Hid (¬ i + 1 < N) := Lib.hid (by have := (HBB.out rfl).1; omega)
                go_wp2_with fail
                refine (fail_law HKP.out.jn xa ⟨HXA.out.1, by have := HXA.out.2; omega⟩).mono ?_
                rintro e wz ⟨F2, rfl, hj, ho, hn⟩
                have HKZ := Lib.hid (HKP.out.dev hj ho hn)
                have HPZ := Lib.hid (HPV.out.put (ho.more fun _ _ hk => .inl hk) hn (Src.refl _))
                have HOZ : Hid (wc.heap.size ≤ wz.heap.size) := Lib.hid ho.size
                clear hj ho hn cA
                go_wp2_with fail
                go_meet
                exact ⟨xa, F2, fun h => absurd h HN1.out, HKZ.out, HPZ.out, HOZ.out⟩
          case rest =>
          obtain ⟨n, F1, hn, hkp, hpv, hsz⟩ := hcut
          generalize wc = wp at *
          have HNN := Lib.hid hn
          have HVP : Hid (vs.length ≤ i ∧ BB ≤ wp.heap.size) := Lib.hid ⟨HVL.out.1, Nat.le_trans HVL.out.2 hsz⟩
          clear HKP HPV HVL
          have HKP := Lib.hid hkp
          have HPV := Lib.hid hpv
          clear hn hkp hpv hsz
          have HWF := Lib.hid (its_wf HXI.out)
          have HI5 := Lib.hid (HXI.out.below HB5.out)
          have HLN0 : Hid (d.L = []) := Lib.hid (HWB.out.1 hiN).2.2.1
          go_upto_region 24 with fail
          refine wp_region_lit ?_
          refine takeL (.pointer (some ⟨jb, 0, none⟩)) rfl (by go_simp) ?_
          try simp only [Act.put, List.setIfInBounds_toArray, List.set_cons_succ, List.set_cons_zero]
          refine takeL (.slice (some ⟨xb, yo, none⟩) N gc) rfl (by go_simp) ?_
          try simp only [Act.put, List.setIfInBounds_toArray, List.set_cons_succ, List.set_cons_zero]
          refine takeL (.int .i64 (i : Int)) rfl (by go_simp) ?_
          try simp only [Act.put, List.setIfInBounds_toArray, List.set_cons_succ, List.set_cons_zero]
          refine takeL (.pointer (some ⟨xb, yo + i, none⟩)) rfl (by go_simp) ?_
          try simp only [Act.put, List.setIfInBounds_toArray, List.set_cons_succ, List.set_cons_zero]
          refine takeL (.slice la ln lc) rfl (by have q := cell_bel HXC.out HKP.out.bel; go_simp) ?_
          try simp only [Act.put, List.setIfInBounds_toArray, List.set_cons_succ, List.set_cons_zero]
          refine wpList_op rfl fun K hK => ?_
          go_simp
          refine (put_law HKP.out.jn (Vars.below (Nat.le_refl _) HB5.out HV.out) ll (ll.map (·.1)) rfl _ (by have := HLE.out; omega) HI5.out (by rw [show ({ d with F := n } : De.D).S = d.S from rfl, HDF.out.1]; exact HTB.out.2) (by have := HDF.out.2.1; have := HLN.out; show d.T ≤ 800000; omega) (by show d.L.length ≤ 800000; rw [HLN0.out]; exact Nat.zero_le _)).mono ?_
          rintro e wB ⟨pv, rfl, F2, f3, ho, hj, hon, hn, hpa, hsr⟩
          have hln := jput_len (g := g) (a := a) { d with F := n } (L := ll.map (·.1)) (by have := (Ja.good_parts HKP.out.jn.good).1.2.2.1.2; omega)
          have hst := HWB.out.step hiN n HNN.out HXI.out HWF.out
          obtain ⟨⟨pe, pl, a2, d2⟩, hp⟩ : ∃ p, jput g a { d with F := n } (ll.map (·.1)) = p := ⟨_, rfl⟩
          rw [hp] at ho hj hln hst ⊢
          dsimp only at ho hj hln hst ⊢
          have HKB := Lib.hid (HKP.out.put hj hon hn)
          have HPB := Lib.hid (HPV.out.put hon hn hsr)
          have HSB : Hid (wp.heap.size ≤ wB.heap.size) := Lib.hid hon.size
          have HNM : Hid (d2.S.length = t ∧ d2.T ≤ 1025 * (i + 1) ∧ d2.L.length ≤ 1024 * (i + 1)) := Lib.hid ⟨hln.1.trans HDF.out.1, by have := hln.2.1; have := HDF.out.2.1; omega, by have := hln.2.2; have := HDF.out.2.2; omega⟩
          have HST := Lib.hid hst
          obtain ⟨pa, pc, hpv⟩ := ho.ints.form
          obtain ⟨pn, hpn⟩ : ∃ n, pl.length = n := ⟨_, rfl⟩
          rw [hpn] at hpv
          subst hpv
          clear hp ho hj hon hn hpa hsr hln hst hpn HKP HPV HDF HNN HWB
          refine hK _ _ ?_
          clear hK K
          try simp only [Act.put, List.setIfInBounds_toArray, List.set_cons_succ, List.set_cons_zero]
          refine takeL (.tuple #[.slice pa pn pc, .int .i64 pe]) rfl (by go_simp) ?_
          try simp only [Act.put, List.setIfInBounds_toArray, List.set_cons_succ, List.set_cons_zero]
          refine takeL (.slice pa pn pc) rfl (by go_simp) ?_
          try simp only [Act.put, List.setIfInBounds_toArray, List.set_cons_succ, List.set_cons_zero]
          refine takeL (.int .i64 pe) rfl (by go_simp) ?_
          try simp only [Act.put, List.setIfInBounds_toArray, List.set_cons_succ, List.set_cons_zero]
          refine takeL (.slice pa pn pc) rfl (by go_simp) ?_
          try simp only [Act.put, List.setIfInBounds_toArray, List.set_cons_succ, List.set_cons_zero]
          refine takeL (.int .i64 pe) rfl (by go_simp) ?_
          try simp only [Act.put, List.setIfInBounds_toArray, List.set_cons_succ, List.set_cons_zero]
          refine wpList_nil ?_
          have gii : IntKind.i64.wrap ((i : Int) + 1) = ((i + 1 : Nat) : Int) := by have := HLN.out; rw [wrap64 (by omega) (by omega)]; push_cast; rfl
          have HVC : Hid (vs.length ≤ i + 1 ∧ BB ≤ wB.heap.size) := Lib.hid ⟨by have := HVP.out.1; omega, Nat.le_trans HVP.out.2 HSB.out⟩
          rcases HST.out with ⟨rfl, k1⟩ | ⟨rfl, k1⟩ | ⟨k0, k1⟩
          · have HW2 := Lib.hid k1
            clear k1 HST HVC
            as_aux_lemma =>
              go_upto_region 26 with fail
              refine wp_region_lit ?_
              refine takeL (s14) rfl (by go_simp) ?_
              try simp only [Act.put, List.setIfInBounds_toArray, List.set_cons_succ, List.set_cons_zero]
              refine takeL (.slice (some ⟨xb, yo, none⟩) N gc) rfl (by go_simp) ?_
              try simp only [Act.put, List.setIfInBounds_toArray, List.set_cons_succ, List.set_cons_zero]
              refine takeL (.int .i64 (i : Int)) rfl (by go_simp) ?_
              try simp only [Act.put, List.setIfInBounds_toArray, List.set_cons_succ, List.set_cons_zero]
              refine takeL (.pointer (some ⟨xb, yo + i, none⟩)) rfl (by go_simp) ?_
              try simp only [Act.put, List.setIfInBounds_toArray, List.set_cons_succ, List.set_cons_zero]
              refine takeL (.slice la ln lc) rfl (by have q := cell_bel HXC.out HKB.out.bel; go_simp) ?_
              try simp only [Act.put, List.setIfInBounds_toArray, List.set_cons_succ, List.set_cons_zero]
              refine wpList_run (.slice (some ⟨wB.heap.size, 0, none⟩) 1 1) (wB.alloc (.cells #[.slice la ln lc] 44)) rfl (by go_simp) ?_
              try simp only [Act.put, List.setIfInBounds_toArray, List.set_cons_succ, List.set_cons_zero]
              have hb1 := alloc_bel wB (.cells #[.slice la ln lc] 44)
              have hc0 := (Blk.new wB #[.slice la ln lc] 44).cell (i := 0) rfl
              refine app_LV (HPB.out.below hb1).own (Nat.le_trans (Nat.le_trans HVP.out.2 HSB.out) hb1.size) _ hc0 rfl (by have := HVP.out.1; have := HLN.out; omega) rfl rfl rfl ?_
              intro tv8 w8 ho hg hr
              try simp only [Act.put, List.setIfInBounds_toArray, List.set_cons_succ, List.set_cons_zero]
              obtain ⟨hpv2, hkp2⟩ := Pv.app (HPB.out.below hb1) (HKB.out.below hb1) HBL.out.1 HBL.out.2.1 HBL.out.2.2 ho hg hr
              have HKC := Lib.hid hkp2
              have HPC := Lib.hid hpv2
              have HLC : Hid (PL w (P ++ [(ll.map (·.1), pl)]) (vs ++ [.slice la ln lc])) := Lib.hid (HPL.out.snoc HXI.out pl)
              have HVC : Hid ((vs ++ [(.slice la ln lc : Value)]).length ≤ i + 1 ∧ BB ≤ w8.heap.size) := Lib.hid ⟨by rw [List.length_append]; have := HVP.out.1; simp only [List.length_cons, List.length_nil]; omega, Nat.le_trans (Nat.le_trans (Nat.le_trans HVP.out.2 HSB.out) hb1.size) ((Only.refl (fun _ => True) _).grown hg fun k _ => .inl trivial).size⟩
              clear hb1 hc0 ho hg hr hpv2 hkp2 HKB HPB
              refine takeL (tv8) rfl (by go_simp) ?_
              try simp only [Act.put, List.setIfInBounds_toArray, List.set_cons_succ, List.set_cons_zero]
              refine wpList_nil ?_
              go_wp2_with fail
              go_roundg (N - (i + 1))
              case measure => omega
              case rel => exact ⟨i + 1, F2, a2, d2, f3, _, s15, _, _, rfl, rfl, by go_num, by omega, by omega, HKC.out, HW2.out, HPC.out, HLC.out, HNM.out.1, HNM.out.2.1, HNM.out.2.2, HVC.out⟩
          · have HW2 := Lib.hid k1
            clear k1 HST
            as_aux_lemma =>
              have cx2 := cell_bel HXC.out HKB.out.bel
              go_wp2_with fail
              go_roundg (N - (i + 1))
              case measure => omega
              case rel => exact ⟨i + 1, F2, a2, d2, f3, s14, _, P, vs, rfl, rfl, by go_num, by omega, by omega, HKB.out, HW2.out, HPB.out, HPL.out, HNM.out.1, HNM.out.2.1, HNM.out.2.2, HVC.out⟩
          · have HW2 := Lib.hid k1
            have de : (pe == 0) = false := by rcases k0 with k0 | k0 <;> rw [k0] <;> rfl
            have de2 : (pe == 12) = false := by rcases k0 with k0 | k0 <;> rw [k0] <;> rfl
            clear k1 k0 HST
            as_aux_lemma =>
              go_wp2_with fail
              go_roundg (N - (i + 1))
              case measure => omega
              case rel => exact ⟨i + 1, F2, a2, d2, f3, s14, s15, P, vs, rfl, rfl, by go_num, by omega, by omega, HKB.out, HW2.out, HPB.out, HPL.out, HNM.out.1, HNM.out.2.1, HNM.out.2.2, HVC.out⟩
        · obtain rfl : i = N := by omega
          have dN : decide ((i : Int) < (i : Int)) = false := decide_eq_false (by omega)
          obtain ⟨ba, bc, hs14, -⟩ := HPV.out.own.len
          obtain ⟨np, hnp⟩ : ∃ n, P.length = n := ⟨_, rfl⟩
          rw [HPL.out.len, hnp] at hs14
          subst hs14
          have HNP := Lib.hid hnp
          obtain ⟨X, PP, c, hX, hW, hNX, hC⟩ := HWB.out.2 rfl kl
          have HX := Lib.hid hX
          have HW := Lib.hid hW
          have HNX := Lib.hid hNX
          have HCC := Lib.hid hC
          clear hnp dN hX hW hNX hC HVL HWB
          have HSML := Lib.hid (HW.out.small HGD.out)
          have HFW := Lib.hid (HW.out.few HGD.out).2.2
          have HCG := Lib.hid (HW.out.few HGD.out).1
          have HCF : Hid (c.free.length ≤ 1000) := Lib.hid (Nat.le_trans (Ja.few HCG.out) (by decide))
          have HCS : Hid ((d.crash kl).S.length = t) := Lib.hid ((De.app_length _ _).trans HDF.out.1)
          have HXB : Hid (X.length ≤ 1024) := Lib.hid (by rw [← HX.out.len, HCS.out]; exact HTB.out.2)
          go_upto_region 29 with fail
          refine wp_region_lit ?_
          refine takeL (.pointer (some ⟨b, 0, none⟩)) rfl (by go_simp) ?_
          try simp only [Act.put, List.setIfInBounds_toArray, List.set_cons_succ, List.set_cons_zero]
          refine wpList_run (.slice (some ⟨wr.heap.size, 0, none⟩) 0 0) (wr.alloc (.cells #[] 5)) rfl (by go_simp) ?_
          try simp only [Act.put, List.setIfInBounds_toArray, List.set_cons_succ, List.set_cons_zero]
          have hb1 := alloc_bel wr (.cells #[] 5)
          have HLT : Hid (Own (wr.alloc (.cells #[] 5)) wr.heap.size (.slice (some ⟨wr.heap.size, 0, none⟩) 0 0) []) := Lib.hid (Own.lit wr wr.heap.size (Nat.le_refl _) [] (by simp) _ rfl)
          have HKA := Lib.hid (HKP.out.below hb1)
          refine takeL (.pointer (some ⟨xB, 2, none⟩)) rfl (by go_simp) ?_
          try simp only [Act.put, List.setIfInBounds_toArray, List.set_cons_succ, List.set_cons_zero]
          refine takeL (.slice ka KN kc) rfl (by have q := (HKA.out.bl _ (.tail _ (.head _))).1.cell (i := 2) rfl; go_simp) ?_
          try simp only [Act.put, List.setIfInBounds_toArray, List.set_cons_succ, List.set_cons_zero]
          refine app_L (B := wr.heap.size) HLT.out hb1.size (HKV.out.below HKA.out.bel) (by rw [List.length_nil, HKN.out]; have := HLKN.out; omega) rfl rfl rfl ?_
          intro kv2 w8 ho hb2
          try simp only [Act.put, List.setIfInBounds_toArray, List.set_cons_succ, List.set_cons_zero]
          have HKC := Lib.hid (HKP.out.below (hb1.trans hb2))
          have HPC := Lib.hid (HPV.out.below (hb1.trans hb2))
          have HKE : Hid (De.BytesAt w8 kv2 kl) := Lib.hid (De.keep_at ho.bytes (by rw [HKN.out]; have := HLKN.out; exact Nat.le_trans this (by decide)) HKB.out)
          have HSP : Hid (∀ k, kv2.ownBlock = some k → ¬ Fk k) := Lib.hid fun k hk hf => by have h1 := (ho.lt k hk).1; have h2 := (HKP.out.jn.dv.lt k hf).2; omega
          clear hb1 hb2 ho HLT HKA HKP HPV
          refine wpList_op rfl fun K hK => ?_
          go_simp
          refine (De.dv_crash HKC.out.jn.dv (by have := HDF.out.2.2; have := HLN.out; omega) kv2 kl HKE.out HSP.out).mono ?_
          rintro e w9 ⟨F2, rfl, hd, ho2, hn⟩
          have HKP := Lib.hid (HKC.out.dev (HKC.out.jn.dev hd ho2 hn (De.app_length _ _)) ho2 hn)
          have HPV := Lib.hid (HPC.out.put (ho2.more fun _ _ hk => .inl hk) hn (Src.refl _))
          clear hd ho2 hn HKC HPC HKE HSP
          refine hK _ _ ?_
          clear hK K
          try simp only [Act.put, List.setIfInBounds_toArray, List.set_cons_succ, List.set_cons_zero]
          refine wpList_nil ?_
          go_upto_region 30 with fail
          refine wp_region_lit ?_
          refine takeL (.pointer (some ⟨b, 0, none⟩)) rfl (by go_simp) ?_
          try simp only [Act.put, List.setIfInBounds_toArray, List.set_cons_succ, List.set_cons_zero]
          refine takeL (.agg #[.int .i64 g.p, .int .i64 g.s, .int .i64 g.l, .int .i64 g.f]) rfl (by have q := (HKP.out.bl _ (.head _)).1; have q0 := q.cell (i := 0) rfl; have q1 := q.cell (i := 1) rfl; have q2 := q.cell (i := 2) rfl; have q3 := q.cell (i := 3) rfl; go_simp) ?_
          try simp only [Act.put, List.setIfInBounds_toArray, List.set_cons_succ, List.set_cons_zero]
          refine takeL (.agg #[.int .i64 j, .int .i64 om, .int .u32 9, .slice fa j fc]) rfl (by have q := (HKP.out.bl _ (.tail _ (.tail _ (.head _)))).1; have q0 := q.cell (i := 0) rfl; have q1 := q.cell (i := 1) rfl; have q2 := q.cell (i := 2) rfl; have q3 := q.cell (i := 3) rfl; go_simp) ?_
          try simp only [Act.put, List.setIfInBounds_toArray, List.set_cons_succ, List.set_cons_zero]
          refine wpList_op rfl fun K hK => ?_
          go_simp
          refine (sread_yes (a := ⟨(j : Int), om, 9, frm 0 j⟩) (fv := .slice fa j fc) HKP.out.jn.dv HX.out HXB.out (Nat.zero_le _) (HFT.out _ HCS.out) (seqN 9 (by decide)) (HKP.out.il _ (.head _)).1).mono ?_
          rintro e x1 ⟨P', b1, sv1, tv1, hw1, hn1, rfl, hgs1, hf1, hb1⟩
          obtain ⟨hq1, hq2⟩ := Way.uniq HW.out HNX.out hw1 hn1
          rw [hq1] at hgs1
          rw [hq2] at hf1 ⊢
          have HG10 := Lib.hid hgs1
          have HF10 := Lib.hid hf1
          have HKPm := Lib.hid (HKP.out.below hb1)
          have HPVm := Lib.hid (HPV.out.below hb1)
          obtain ⟨sa, ca, hsv⟩ := hgs1.form
          obtain ⟨na, hna⟩ : ∃ n, PP.length = n := ⟨_, rfl⟩
          rw [hna] at hsv
          subst hsv
          have HNa := Lib.hid hna
          obtain ⟨ua, va, huv⟩ := hf1.form
          obtain ⟨ma, hma⟩ : ∃ n, c.free.length = n := ⟨_, rfl⟩
          rw [hma] at huv
          subst huv
          have HMa := Lib.hid hma
          clear hw1 hn1 hgs1 hf1 hb1 hq1 hq2 hna hma HKP HPV
          refine hK _ _ ?_
          clear hK K
          try simp only [Act.put, List.setIfInBounds_toArray, List.set_cons_succ, List.set_cons_zero]
          refine takeL (.tuple #[.slice sa na ca, .agg #[.int .i64 c.seg, .int .i64 c.off, .int .u32 c.seq, .slice ua ma va], .int .i64 0]) rfl (by go_simp) ?_
          try simp only [Act.put, List.setIfInBounds_toArray, List.set_cons_succ, List.set_cons_zero]
          refine takeL (.slice sa na ca) rfl (by go_simp) ?_
          try simp only [Act.put, List.setIfInBounds_toArray, List.set_cons_succ, List.set_cons_zero]
          refine takeL (.agg #[.int .i64 c.seg, .int .i64 c.off, .int .u32 c.seq, .slice ua ma va]) rfl (by go_simp) ?_
          try simp only [Act.put, List.setIfInBounds_toArray, List.set_cons_succ, List.set_cons_zero]
          refine takeL (.int .i64 0) rfl (by go_simp) ?_
          try simp only [Act.put, List.setIfInBounds_toArray, List.set_cons_succ, List.set_cons_zero]
          refine alloc_g zero40 rfl ?_
          intro x2 hA hb7 hl7
          try simp only [Act.put, List.setIfInBounds_toArray, List.set_cons_succ, List.set_cons_zero]
          refine takeL (.slice sa na ca) rfl (by go_simp) ?_
          try simp only [Act.put, List.setIfInBounds_toArray, List.set_cons_succ, List.set_cons_zero]
          refine store_all (cs := #[.int .i64 c.seg, .int .i64 c.off, .int .u32 c.seq, .slice ua ma va]) hA rfl info40 (at_one _ _ _ _ _ _) rfl rfl rfl ?_
          intro x3 hD hO hlD
          try simp only [Act.put, List.setIfInBounds_toArray, List.set_cons_succ, List.set_cons_zero]
          refine takeL (.int .i64 0) rfl (by go_simp) ?_
          try simp only [Act.put, List.setIfInBounds_toArray, List.set_cons_succ, List.set_cons_zero]
          refine wpList_nil ?_
          have hbb : Below x1.heap.size x1 x3 := hb7.trans (hO.below hb7.size fun k hk => Nat.le_of_eq hk.symm)
          have HZ1 := Lib.hid hD
          have HG1 := Lib.hid (HG10.out.below hbb)
          have HF1 := Lib.hid (HF10.out.below hbb)
          have HKP := Lib.hid (HKPm.out.below hbb)
          have HPV := Lib.hid (HPVm.out.below hbb)
          clear hA hb7 hl7 hD hO hlD hbb HG10 HF10 HKPm HPVm
          generalize x1.heap.size = za at *
          have HNN : Hid (na ≤ 1000 ∧ np ≤ na ∧ na ≤ np + 1 ∧ (¬ na = np → ∃ (l : List (It × Value)), ItemsAt w s15 l ∧ mayBe (l.map (·.1)) = true)) := Lib.hid (by
            have h1 := HSML.out.1
            rw [HNa.out] at h1
            rcases HCC.out with ⟨h2, -⟩ | ⟨l, pl, h3, h2⟩
            · have h4 : na = np := by rw [← HNa.out, ← HNP.out, h2]
              exact ⟨h1, by omega, by omega, fun h => absurd h4 h⟩
            · have h4 : na = np + 1 := by rw [← HNa.out, ← HNP.out, h2, List.length_append]; rfl
              exact ⟨h1, by omega, by omega, fun _ => ⟨l, h3, (HFW.out (l.map (·.1), pl) (by rw [h2]; exact List.mem_append.2 (.inr (List.mem_singleton.2 rfl)))).1⟩⟩)
          go_upto_region 31 with fail
          go_cut [177] from 150 to 178 (fun s177 wx => s177 = .bool false ∧ wx = x3)
          case first =>
            as_aux_lemma =>
              have f1 : decide ((na : Int) < (np : Int)) = false := decide_eq_false (by have := HNN.out; omega)
              have f2 : decide ((np : Int) + 1 < (na : Int)) = false := decide_eq_false (by have := HNN.out; omega)
              have f1b : decide (na < np) = false := decide_eq_false (by have := HNN.out; omega)
              have f2b : decide (np + 1 < na) = false := decide_eq_false (by have := HNN.out; omega)
              have gw : IntKind.i64.wrap ((np : Int) + 1) = (np : Int) + 1 := by have := HNN.out; exact wrap64 (by omega) (by omega)
              by_cases hnn : na = np
              · have f3 : decide ((np : Int) < (na : Int)) = false := decide_eq_false (by omega)
                have f3b : decide (np < na) = false := decide_eq_false (by omega)
                clear hnn
                go_wp2_with fail
                go_meet
                exact ⟨rfl, rfl⟩
              · obtain ⟨l, hi, hm⟩ := HNN.out.2.2.2 hnn
                obtain ⟨lb, lo, lc, hlv, -⟩ := may_some hi hm
                clear hi hm
                generalize l.length = ln at hlv
                subst hlv
                have f3 : decide ((np : Int) < (na : Int)) = true := decide_eq_true (by have := HNN.out; omega)
                have f3b : decide (np < na) = true := decide_eq_true (by have := HNN.out; omega)
                clear hnn
                have zq := nil44 lb lo ln lc x3
                go_wp2_with fail
                go_meet
                exact ⟨rfl, rfl⟩
          case rest =>
          obtain ⟨rfl, hwc⟩ := hcut
          subst hwc
          have HBV := Lib.hid HKP.out.bel
          go_wp2_with fail
          go_loopg [22] na (fun q u22 wr => ∃ r : Nat, u22 = .int .i64 (r : Int) ∧ na - r ≤ q ∧ r ≤ na ∧ Below wc.heap.size wc wr)
          case atStart => exact ⟨0, rfl, by omega, by omega, Below.refl _ _⟩
          case round =>
            obtain ⟨r, rfl, hq, hr, hb⟩ := hrel
            have HBR := Lib.hid hb
            have HA := Lib.hid (HG1.out.below hb)
            have HB := Lib.hid (HPV.out.own.below hb)
            clear hb
            by_cases hrn : r < na
            · have dr : decide ((r : Int) < (na : Int)) = true := decide_eq_true (by omega)
              have gri : (r : Int) < (na : Int) := by omega
              obtain ⟨x, hx⟩ : ∃ x, PP[r]? = some x := ⟨_, List.getElem?_eq_getElem (by rw [HNa.out]; exact hrn)⟩
              have HWA := Lib.hid (want_at (X := X) HPL.out HCC.out hx)
              have HXS := Lib.hid (HSML.out.2 x (List.mem_of_getElem? hx))
              have HXM := Lib.hid (HFW.out x (List.mem_of_getElem? hx))
              have HXX := Lib.hid hx
              clear hx
              obtain ⟨bp, hbp⟩ : ∃ c, decide (r < np) = c := ⟨_, rfl⟩
              have HBP := Lib.hid hbp
              have z1 : decide ((r : Int) < (np : Int)) = bp := by rw [← hbp]; exact decide_eq_decide.2 Int.ofNat_lt
              have z2 := hbp
              clear hbp
              go_upto_if 188 with fail
              clear z1 z2
              go_cut [23] from 189 to 193 (fun s23 wx => ∃ (pl2 : List (It × Value)) (ia : Option Addr) (l2 ic : Nat), s23 = .slice ia l2 ic ∧ pl2.length = l2 ∧ ItemsAt w (.slice ia l2 ic) pl2 ∧ pl2.map (·.1) = x.1 ∧ wx = wr)
              case first =>
                as_aux_lemma =>
                  cases bp
                  · have hrp : ¬ r < np := of_decide_eq_false HBP.out
                    obtain ⟨pl2, hi, hm⟩ := HWA.out.2 (by rw [HNP.out]; exact hrp)
                    obtain ⟨ia, ic, hv2⟩ := items_one hi
                    obtain ⟨l2, hl2⟩ : ∃ n, pl2.length = n := ⟨_, rfl⟩
                    rw [hl2] at hv2
                    subst hv2
                    have HI2 := Lib.hid hi
                    have HM2 := Lib.hid hm
                    have HL2 := Lib.hid hl2
                    clear hi hm hl2 hrp
                    go_wp2_with fail
                    go_meet
                    exact ⟨pl2, ia, l2, ic, rfl, HL2.out, HI2.out, HM2.out, rfl⟩
                  · have hrp : r < np := of_decide_eq_true HBP.out
                    have gpi : (r : Int) < (np : Int) := by omega
                    obtain ⟨v, pl2, hv, hi, hm⟩ := HWA.out.1 (by rw [HNP.out]; exact hrp)
                    obtain ⟨g2, k2, e2, r1⟩ := HB.out.at hv
                    injection e2 with e21 e22 e23
                    subst e21
                    subst e23
                    obtain ⟨ia, ic, hv2⟩ := items_one hi
                    obtain ⟨l2, hl2⟩ : ∃ n, pl2.length = n := ⟨_, rfl⟩
                    rw [hl2] at hv2
                    subst hv2
                    have HI2 := Lib.hid hi
                    have HM2 := Lib.hid hm
                    have HL2 := Lib.hid hl2
                    clear hv hi hm e22 hl2
                    go_wp2_with fail
                    go_meet
                    exact ⟨pl2, ia, l2, ic, rfl, HL2.out, HI2.out, HM2.out, rfl⟩
              case rest =>
                as_aux_lemma =>
                  obtain ⟨pl2, ia2, l2, ic2, rfl, hl2, hi2, hm2, hwc2⟩ := hcut
                  subst hwc2
                  obtain ⟨g1, k1, iv1, pv1, pl1, e1, -, p1, p2, p3, p4, p5⟩ := HA.out.at HXX.out
                  injection e1 with e11 e12 e13
                  subst e11
                  subst e13
                  obtain ⟨ia1, ic1, hi1⟩ := items_one p3
                  obtain ⟨pa1, pc1, hp1⟩ := p5.form
                  obtain ⟨l1, hl1⟩ : ∃ n, pl1.length = n := ⟨_, rfl⟩
                  rw [hl1] at hi1
                  subst hi1
                  have h6 : x.2.length = l2 := by rw [HXM.out.2, ← hl2, ← hm2, List.length_map]
                  rw [h6] at hp1
                  subst hp1
                  have HLL2 : Hid (pl1.length ≤ 100000 ∧ pl2.length ≤ 100000) := Lib.hid (by
                    have h1 := congrArg List.length p4
                    have h2 := congrArg List.length hm2
                    have h3 := HXS.out.1
                    rw [List.length_map] at h1 h2
                    exact ⟨by omega, by omega⟩)
                  have K2 := Lib.hid p2
                  have K3 := Lib.hid p3
                  have J3 := Lib.hid ((hi2.below HBV.out).below HBR.out)
                  have HSM := Lib.hid (sameIts_yes (p4.trans hm2.symm))
                  have em : (((l2 : Nat) : Int) != (l2 : Int)) = false := by simp
                  have grr : IntKind.i64.wrap ((r : Int) + 1) = ((r + 1 : Nat) : Int) := by have h1 := HNN.out; rw [wrap64 (by omega) (by omega)]; push_cast; rfl
                  clear p3 p4 p5 hl1 e12 hl2 hi2 hm2 h6 HA HB
                  go_wp2_with fail
                  refine (items_any _ _ pl1 pl2 HLL2.out.1 HLL2.out.2 _ K3.out J3.out).mono ?_
                  rintro e wU ⟨rfl, hb⟩
                  rw [HSM.out]
                  have HBE2 := Lib.hid (stay HBR.out hb)
                  have p2' := cell_bel K2.out hb
                  clear hb p1 p2
                  go_wp2_with fail
                  go_roundg (na - (r + 1))
                  case measure => omega
                  case rel => exact ⟨r + 1, by go_num, by omega, by omega, HBE2.out⟩
            · obtain rfl : r = na := by omega
              have dr : decide ((r : Int) < (r : Int)) = false := decide_eq_false (by omega)
              clear HA HB
              rcases HCC.out with ⟨h1, rfl⟩ | ⟨l, pl, -, h1⟩
              · have f3 : Hid (r ≤ np) := Lib.hid (Nat.le_of_eq (by rw [← HNa.out, ← HNP.out, h1]))
                clear h1
                as_aux_lemma =>
                  go_upto_region 41 with fail
                  refine startH (fun wq => Below wr.heap.size wr wq) (by kernel_rfl) ?_
                  have HSd : Hid (Below wr.heap.size wr wr.drew) := Lib.hid (Below.refl _ _).drew
                  generalize wr.drew = wS at *
                  refine takeH 0 (some 212) (.slice sa r ca) rfl rfl (by kernel_rfl) (by kernel_rfl) (by kernel_rfl) (fun _ _ _ h => h) rfl (fun wq hS => by go_simp) HSd.out ?_
                  try simp only [Act.put, List.setIfInBounds_toArray, List.set_cons_succ, List.set_cons_zero]
                  refine takeH 1 (some 213) (.int .i64 r) rfl rfl (by kernel_rfl) (by kernel_rfl) (by kernel_rfl) (fun _ _ _ h => h) rfl (fun wq hS => by go_simp) HSd.out ?_
                  try simp only [Act.put, List.setIfInBounds_toArray, List.set_cons_succ, List.set_cons_zero]
                  refine takeH 2 (some 214) (.slice ba np bc) rfl rfl (by kernel_rfl) (by kernel_rfl) (by kernel_rfl) (fun _ _ _ h => h) rfl (fun wq hS => by go_simp) HSd.out ?_
                  try simp only [Act.put, List.setIfInBounds_toArray, List.set_cons_succ, List.set_cons_zero]
                  refine takeH 3 (some 215) (.int .i64 np) rfl rfl (by kernel_rfl) (by kernel_rfl) (by kernel_rfl) (fun _ _ _ h => h) rfl (fun wq hS => by go_simp) HSd.out ?_
                  try simp only [Act.put, List.setIfInBounds_toArray, List.set_cons_succ, List.set_cons_zero]
                  refine takeH 4 (some 216) (.bool false) rfl rfl (by kernel_rfl) (by kernel_rfl) (by kernel_rfl) (fun _ _ _ h => h) rfl (fun wq hS => by have z := f3.out; go_simp) HSd.out ?_
                  try simp only [Act.put, List.setIfInBounds_toArray, List.set_cons_succ, List.set_cons_zero]
                  refine takeH 5 (some 217) (.bool false) rfl rfl (by kernel_rfl) (by kernel_rfl) (by kernel_rfl) (fun _ _ _ h => h) rfl (fun wq hS => by go_simp) HSd.out ?_
                  try simp only [Act.put, List.setIfInBounds_toArray, List.set_cons_succ, List.set_cons_zero]
                  refine takeH 6 (some 218) (.agg #[.int .i64 c.seg, .int .i64 c.off, .int .u32 c.seq, .slice ua ma va]) rfl rfl (by kernel_rfl) (by kernel_rfl) (by kernel_rfl) (fun _ _ _ h => h) rfl (fun wq hS => by have q := ((HZ1.out.below HBR.out HZ1.out.lt).below hS (HZ1.out.below HBR.out HZ1.out.lt).lt); have q0 := q.cell (i := 0) rfl; have q1 := q.cell (i := 1) rfl; have q2 := q.cell (i := 2) rfl; have q3 := q.cell (i := 3) rfl; go_simp) HSd.out ?_
                  try simp only [Act.put, List.setIfInBounds_toArray, List.set_cons_succ, List.set_cons_zero]
                  refine takeH 7 (some 219) (.pointer (some ⟨jb, 0, none⟩)) rfl rfl (by kernel_rfl) (by kernel_rfl) (by kernel_rfl) (fun _ _ _ h => h) rfl (fun wq hS => by go_simp) HSd.out ?_
                  try simp only [Act.put, List.setIfInBounds_toArray, List.set_cons_succ, List.set_cons_zero]
                  refine oneH 8 (by kernel_rfl) rfl rfl fun K hK => ?_
                  go_simp
                  refine (at_any ((HKP.out.below HBR.out).below HSd.out).jn).mono ?_
                  rintro e wT ⟨tv0, rfl, ho, hb⟩
                  have ST := Lib.hid (stay HSd.out hb)
                  have HT0 := Lib.hid ho.ints
                  obtain ⟨t0a, t0c, ht0⟩ := ho.ints.form
                  rw [HMa.out] at ht0
                  subst ht0
                  clear ho hb
                  refine hK _ _ ST.out ?_
                  clear hK K
                  try simp only [Act.put, List.setIfInBounds_toArray, List.set_cons_succ, List.set_cons_zero]
                  refine oneH 9 (by kernel_rfl) rfl rfl fun K hK => ?_
                  go_simp
                  refine (lown_any c (.slice t0a ma t0c) (by have := HCF.out; omega) HT0.out).mono ?_
                  rintro e wU ⟨tv2, rfl, ho, hb⟩
                  have SU := Lib.hid (stay ST.out hb)
                  have HOI2 := Lib.hid ho.ints
                  obtain ⟨ta, tc, htv⟩ := ho.ints.form
                  rw [HMa.out] at htv
                  subst htv
                  clear ho hb
                  refine hK _ _ SU.out ?_
                  clear hK K
                  try simp only [Act.put, List.setIfInBounds_toArray, List.set_cons_succ, List.set_cons_zero]
                  refine oneH 10 (by kernel_rfl) rfl rfl fun K hK => ?_
                  go_simp
                  refine (same_yes c (.slice ua ma va) _ HCF.out ((HF1.out.below HBR.out).below SU.out) HOI2.out).mono ?_
                  rintro e wV ⟨rfl, hb⟩
                  have SV := Lib.hid (stay SU.out hb)
                  refine hK _ _ SV.out ?_
                  clear hK K hb
                  try simp only [Act.put, List.setIfInBounds_toArray, List.set_cons_succ, List.set_cons_zero]
                  refine takeH 11 (some 223) (.bool true) rfl rfl (by kernel_rfl) (by kernel_rfl) (by kernel_rfl) (fun _ _ _ h => h) rfl (fun wq hS => by go_simp) SV.out ?_
                  try simp only [Act.put, List.setIfInBounds_toArray, List.set_cons_succ, List.set_cons_zero]
                  refine takeH 12 (some 224) (.bool true) rfl rfl (by kernel_rfl) (by kernel_rfl) (by kernel_rfl) (fun _ _ _ h => h) rfl (fun wq hS => by go_simp) SV.out ?_
                  try simp only [Act.put, List.setIfInBounds_toArray, List.set_cons_succ, List.set_cons_zero]
                  refine oneH 13 (by kernel_rfl) rfl rfl fun K hK => ?_
                  go_simp
                  refine (wakes_any (Vars.below (Nat.le_refl _) (stay (stay HBV.out HBR.out) SV.out) HV.out)).mono ?_
                  rintro e wX ⟨rfl, hb⟩
                  have SX := Lib.hid (stay SV.out hb)
                  refine hK _ _ SX.out ?_
                  clear hK K hb
                  try simp only [Act.put, List.setIfInBounds_toArray, List.set_cons_succ, List.set_cons_zero]
                  refine takeH 14 (some 226) (.bool true) rfl rfl (by kernel_rfl) (by kernel_rfl) (by kernel_rfl) (fun _ _ _ h => h) rfl (fun wq hS => by go_simp) SX.out ?_
                  try simp only [Act.put, List.setIfInBounds_toArray, List.set_cons_succ, List.set_cons_zero]
                  refine takeH 15 (some 6) (.bool true) rfl rfl (by kernel_rfl) (by kernel_rfl) (by kernel_rfl) (fun _ _ _ h => h) rfl (fun wq hS => by go_simp) SX.out ?_
                  try simp only [Act.put, List.setIfInBounds_toArray, List.set_cons_succ, List.set_cons_zero]
                  refine wpAnyH_done (by kernel_rfl) ?_ _
                  have HFIN := Lib.hid (stay (stay HBV.out HBR.out) SX.out)
                  go_wp2_with fail
                  go_ret
                  exact ⟨rfl, HFIN.out⟩
              · have f3 : Hid (np < r) := Lib.hid (Nat.lt_of_lt_of_eq (Nat.lt_succ_self np) (by rw [← HNa.out, ← HNP.out, h1, List.length_append]; rfl))
                clear h1
                as_aux_lemma =>
                  go_upto_region 41 with fail
                  refine startH (fun wq => Below wr.heap.size wr wq) (by kernel_rfl) ?_
                  have SV : Hid (Below wr.heap.size wr wr.drew) := Lib.hid (Below.refl _ _).drew
                  generalize wr.drew = wV at *
                  refine takeH 0 (some 212) (.slice sa r ca) rfl rfl (by kernel_rfl) (by kernel_rfl) (by kernel_rfl) (fun _ _ _ h => h) rfl (fun wq hS => by go_simp) SV.out ?_
                  try simp only [Act.put, List.setIfInBounds_toArray, List.set_cons_succ, List.set_cons_zero]
                  refine takeH 1 (some 213) (.int .i64 r) rfl rfl (by kernel_rfl) (by kernel_rfl) (by kernel_rfl) (fun _ _ _ h => h) rfl (fun wq hS => by go_simp) SV.out ?_
                  try simp only [Act.put, List.setIfInBounds_toArray, List.set_cons_succ, List.set_cons_zero]
                  refine takeH 2 (some 214) (.slice ba np bc) rfl rfl (by kernel_rfl) (by kernel_rfl) (by kernel_rfl) (fun _ _ _ h => h) rfl (fun wq hS => by go_simp) SV.out ?_
                  try simp only [Act.put, List.setIfInBounds_toArray, List.set_cons_succ, List.set_cons_zero]
                  refine takeH 3 (some 215) (.int .i64 np) rfl rfl (by kernel_rfl) (by kernel_rfl) (by kernel_rfl) (fun _ _ _ h => h) rfl (fun wq hS => by go_simp) SV.out ?_
                  try simp only [Act.put, List.setIfInBounds_toArray, List.set_cons_succ, List.set_cons_zero]
                  refine takeH 4 (some 216) (.bool true) rfl rfl (by kernel_rfl) (by kernel_rfl) (by kernel_rfl) (fun _ _ _ h => h) rfl (fun wq hS => by have z := f3.out; go_simp) SV.out ?_
                  try simp only [Act.put, List.setIfInBounds_toArray, List.set_cons_succ, List.set_cons_zero]
                  refine takeH 5 (some 217) (.bool true) rfl rfl (by kernel_rfl) (by kernel_rfl) (by kernel_rfl) (fun _ _ _ h => h) rfl (fun wq hS => by go_simp) SV.out ?_
                  try simp only [Act.put, List.setIfInBounds_toArray, List.set_cons_succ, List.set_cons_zero]
                  refine passH 6 (some 218) rfl rfl (by kernel_rfl) (by kernel_rfl) (by kernel_rfl) (fun _ _ _ h => h) rfl SV.out ?_
                  try simp only [Act.put, List.setIfInBounds_toArray, List.set_cons_succ, List.set_cons_zero]
                  refine passH 7 (some 219) rfl rfl (by kernel_rfl) (by kernel_rfl) (by kernel_rfl) (fun _ _ _ h => h) rfl SV.out ?_
                  try simp only [Act.put, List.setIfInBounds_toArray, List.set_cons_succ, List.set_cons_zero]
                  refine passH 8 (some 220) rfl rfl (by kernel_rfl) (by kernel_rfl) (by kernel_rfl) (fun _ _ _ h => h) rfl SV.out ?_
                  try simp only [Act.put, List.setIfInBounds_toArray, List.set_cons_succ, List.set_cons_zero]
                  refine passH 9 (some 221) rfl rfl (by kernel_rfl) (by kernel_rfl) (by kernel_rfl) (fun _ _ _ h => h) rfl SV.out ?_
                  try simp only [Act.put, List.setIfInBounds_toArray, List.set_cons_succ, List.set_cons_zero]
                  refine passH 10 (some 222) rfl rfl (by kernel_rfl) (by kernel_rfl) (by kernel_rfl) (fun _ _ _ h => h) rfl SV.out ?_
                  try simp only [Act.put, List.setIfInBounds_toArray, List.set_cons_succ, List.set_cons_zero]
                  refine takeH 11 (some 223) (.bool true) rfl rfl (by kernel_rfl) (by kernel_rfl) (by kernel_rfl) (fun _ _ _ h => h) rfl (fun wq hS => by go_simp) SV.out ?_
                  try simp only [Act.put, List.setIfInBounds_toArray, List.set_cons_succ, List.set_cons_zero]
                  refine takeH 12 (some 224) (.bool true) rfl rfl (by kernel_rfl) (by kernel_rfl) (by kernel_rfl) (fun _ _ _ h => h) rfl (fun wq hS => by go_simp) SV.out ?_
                  try simp only [Act.put, List.setIfInBounds_toArray, List.set_cons_succ, List.set_cons_zero]
                  refine oneH 13 (by kernel_rfl) rfl rfl fun K hK => ?_
                  go_simp
                  refine (wakes_any (Vars.below (Nat.le_refl _) (stay (stay HBV.out HBR.out) SV.out) HV.out)).mono ?_
                  rintro e wX ⟨rfl, hb⟩
                  have SX := Lib.hid (stay SV.out hb)
                  refine hK _ _ SX.out ?_
                  clear hK K hb
                  try simp only [Act.put, List.setIfInBounds_toArray, List.set_cons_succ, List.set_cons_zero]
                  refine takeH 14 (some 226) (.bool true) rfl rfl (by kernel_rfl) (by kernel_rfl) (by kernel_rfl) (fun _ _ _ h => h) rfl (fun wq hS => by go_simp) SX.out ?_
                  try simp only [Act.put, List.setIfInBounds_toArray, List.set_cons_succ, List.set_cons_zero]
                  refine takeH 15 (some 6) (.bool true) rfl rfl (by kernel_rfl) (by kernel_rfl) (by kernel_rfl) (fun _ _ _ h => h) rfl (fun wq hS => by go_simp) SX.out ?_
                  try simp only [Act.put, List.setIfInBounds_toArray, List.set_cons_succ, List.set_cons_zero]
                  refine wpAnyH_done (by kernel_rfl) ?_ _
                  have HFIN := Lib.hid (stay (stay HBV.out HBR.out) SX.out)
                  go_wp2_with fail
                  go_ret
                  exact ⟨rfl, HFIN.out⟩
end

end Go.Proofs.YthlnmdihdcfphaaGreatDoor
