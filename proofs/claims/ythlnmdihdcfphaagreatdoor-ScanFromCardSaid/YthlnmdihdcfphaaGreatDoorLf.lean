/- The statement ScanFrom, walked. -/
import Derived.Test.YthlnmdihdcfphaaGreatDoorLd
namespace Go.Proofs.YthlnmdihdcfphaaGreatDoor
set_option linter.unusedSimpArgs false
set_option linter.unusedVariables false
open Go.RowKit

section
variable {w : World}
/-- What was put, as two records have it: from the first place on; from the middle one on. -/
def FR (g : Pl.Gm) (first mid a : Ja) (d : De.D) (i k ah : Nat) (X : List (List Int)) (P : List (List It × List Int)) : Prop := Sn d X g first P a (· = zeros 64) ∧ (i ≤ k → ah = P.length) ∧ (k < i → ∃ P1 P2, P = P1 ++ P2 ∧ P1.length = ah ∧ Sn d X g mid P2 a (· = zeros 64))
theorem Sn.here {d : De.D} {X : List (List Int)} {g : Pl.Gm} {a b : Ja} {P : List (List It × List Int)} {Q : List Int → Prop} (h : Sn d X g a P b Q) : Sn d X g b [] b Q := ⟨h.img, .nil, h.cl, h.good, h.seq, h.tot⟩
theorem FR.turn {g : Pl.Gm} {first mid a : Ja} {d : De.D} {k ah : Nat} {X : List (List Int)} {P : List (List It × List Int)} (h : FR g first mid a d k k ah X P) : FR g first a a d (k + 1) k ah X P :=
  ⟨h.1, fun hh => by omega, fun _ => ⟨P, [], by simp, (h.2.1 (Nat.le_refl _)).symm, h.1.here⟩⟩
theorem FR.same {g : Pl.Gm} {first mid a : Ja} {d : De.D} {i k ah : Nat} {X : List (List Int)} {P : List (List It × List Int)} (h : FR g first mid a d i k ah X P) (hne : i ≠ k) : FR g first mid a d (i + 1) k ah X P :=
  ⟨h.1, fun hh => h.2.1 (by omega), fun hh => h.2.2 (by omega)⟩
theorem FR.put {g : Pl.Gm} {first mid a : Ja} {d : De.D} {i k ah : Nat} {X : List (List Int)} {P : List (List It × List Int)} (h : FR g first mid a d (i + 1) k ah X P) (L : List It) (wf : ∀ x ∈ L, x.Wf) (he : (jput g a d L).e = 0) :
    ∃ X' P', FR g first mid (jput g a d L).a (jput g a d L).d (i + 1) k (if i < k then ah + 1 else ah) X' P' := by
  by_cases hk : i < k
  · obtain ⟨X', h1, -⟩ := h.1.put (zero_nh _) L wf he
    refine ⟨X', _, h1, fun hh => ?_, fun hh => by omega⟩
    rw [if_pos hk, List.length_append, h.2.1 (by omega)]
    rfl
  · obtain ⟨P1, P2, rfl, hl, h2⟩ := h.2.2 (by omega)
    obtain ⟨X', h3, h4⟩ := h.1.put2 h2 (zero_nh _) L wf he
    refine ⟨X', _, h3, fun hh => by omega, fun _ => ⟨P1, P2 ++ [(L, (jput g a d L).pl)], by rw [List.append_assoc], by rw [if_neg hk]; exact hl, h4⟩⟩
theorem FR.goes {g : Pl.Gm} {first mid a : Ja} {d : De.D} {i k ah : Nat} {X : List (List Int)} {P : List (List It × List Int)} (h : FR g first mid a d (i + 1) k ah X P) (hF : d.F < 0) (hL : d.L = []) (L : List It) (wf : ∀ x ∈ L, x.Wf) :
    ∃ X' P', FR g first mid (jput g a d L).a (jput g a d L).d (i + 1) k (if (jput g a d L).e = 0 ∧ i < k then ah + 1 else ah) X' P' ∧ (jput g a d L).d.F < 0 ∧ (jput g a d L).d.L = [] := by
  rcases h.1.goes (zero_nh _) hF L wf with ⟨he, h1, h2, -⟩ | ⟨he, ha, hd⟩
  · obtain ⟨X', P', h3⟩ := h.put L wf he
    refine ⟨X', P', ?_, h1, h2⟩
    by_cases hk : i < k
    · rw [if_pos hk] at h3
      rw [if_pos ⟨he, hk⟩]
      exact h3
    · rw [if_neg hk] at h3
      rw [if_neg (fun q => hk q.2)]
      exact h3
  · rw [ha, hd, if_neg (fun q => by rw [q.1] at he; rcases he with he | he <;> exact absurd he (by decide))]
    exact ⟨X, P, h, hF, hL⟩
theorem built40c (q : Int) (a : Option Addr) (n c : Nat) : Tryz.prog.built 40 [(2, .int .u32 q), (3, .slice a n c)] = some #[.int .i64 0, .int .i64 0, .int .u32 q, .slice a n c] := by kernel_rfl
/-- The middle place in its variable, apart from what the journal has. -/
structure Mid (wr : World) (jb : Nat) (F : Nat → Prop) (fv : Value) (mB : Nat) (mid : Ja) (fm : Value) : Prop where
  mb : Blk wr mB [.int .i64 mid.seg, .int .i64 mid.off, .int .u32 mid.seq, fm]
  sf : Safe wr F jb mB
  fr : IntsAt wr fm mid.free
  fs : ∀ b' o n c, fm = .slice (some ⟨b', o, none⟩) n c → Safe wr F jb b' ∧ b' ≠ mB
  fv : ∀ b' o n c, fv = .slice (some ⟨b', o, none⟩) n c → b' ≠ mB
theorem Mid.below {wr wx : World} {jb : Nat} {F : Nat → Prop} {fv : Value} {mB : Nat} {mid : Ja} {fm : Value} (h : Mid wr jb F fv mB mid fm) (hb : Below wr.heap.size wr wx) : Mid wx jb F fv mB mid fm :=
  ⟨h.mb.below hb h.mb.lt, h.sf.below hb, h.fr.below hb, fun b' o n c e => ⟨(h.fs b' o n c e).1.below hb, (h.fs b' o n c e).2⟩, h.fv⟩
theorem Mid.put {wr wx : World} {jb : Nat} {F F' : Nat → Prop} {fv fv' : Value} {mB : Nat} {mid : Ja} {fm : Value} (h : Mid wr jb F fv mB mid fm) (ho : Only (fun k => F k ∨ k = jb) wr wx) (hn : ∀ k, F' k → F k ∨ wr.heap.size ≤ k) (hs : Src fv fv') : Mid wx jb F' fv' mB mid fm :=
  ⟨h.sf.blk ho h.mb, h.sf.next ho hn, h.fr.onlyF ho fun b' o n c e hF => hF.elim (h.fs b' o n c e).1.2.1 (h.fs b' o n c e).1.2.2, fun b' o n c e => ⟨(h.fs b' o n c e).1.next ho hn, (h.fs b' o n c e).2⟩, fun b' o n c e => by
    obtain ⟨o2, n2, c2, e2⟩ := hs b' o n c e
    exact h.fv b' o2 n2 c2 e2⟩
set_option maxRecDepth 100000 in
set_option maxHeartbeats 8000000 in
theorem sfrom_any (hv : Vars w) (g : Pl.Gm) (gs : List (Value × List (It × Value))) (ng : gs.length ≤ 9223372036854775807) (sv : Value) (hg : GroupsAt w sv gs) (y : Int) (hy : Byte y) : Calls Tryz.prog 6 #[g.v, sv, .int .u8 y] w fun e w' => e = .returned (.bool true) ∧ Below w.heap.size w w' := by
  have HV := Lib.hid hv
  have HGS := Lib.hid hg
  have HY := Lib.hid hy
  obtain ⟨ga, gc, hsv, -⟩ := id hg
  obtain ⟨N, hK⟩ : ∃ N, gs.length = N := ⟨_, rfl⟩
  rw [hK] at hsv
  subst hsv
  have HK := Lib.hid hK
  clear hv hy hK ng hg
  go_enter Tryz.func6, Tryz.ntmps6
  go_upto_region 0 with fail
  refine wp_region_lit ?_
  refine box_g rfl rfl ?_
  try simp only [Act.put, List.setIfInBounds_toArray, List.set_cons_succ, List.set_cons_zero]
  intro w1 hV hb hl
  try simp only [Act.put, List.setIfInBounds_toArray, List.set_cons_succ, List.set_cons_zero]
  have HG1 := Lib.hid hV
  have HB1 := Lib.hid hb
  clear hV hb hl

  refine takeL (.bool false) rfl (by go_simp) ?_
  try simp only [Act.put, List.setIfInBounds_toArray, List.set_cons_succ, List.set_cons_zero]
  refine wpList_nil ?_
  have q0 := HG1.out.cell (i := 0) rfl
  have q1 := HG1.out.cell (i := 1) rfl
  have q2 := HG1.out.cell (i := 2) rfl
  have q3 := HG1.out.cell (i := 3) rfl
  by_cases hok : g.Ok
  rotate_left
  · have HOK := Lib.hid hok
    clear hok
    go_wp2_with fail
    refine (Pl.rgood_no g HOK.out _).mono ?_
    rintro e w3 ⟨rfl, hb⟩
    have HB3 := Lib.hid (stay HB1.out hb)
    clear hb q0 q1 q2 q3
    go_wp2_with fail
    refine (wakes_any (Vars.below (Nat.le_refl _) HB3.out HV.out)).mono ?_
    rintro e w4 ⟨rfl, hb⟩
    have HB4 := Lib.hid (stay HB3.out hb)
    clear hb
    go_wp2_with fail
    go_ret
    exact ⟨rfl, HB4.out⟩
  have HOK := Lib.hid hok
  clear hok
  go_wp2_with fail
  refine (Pl.rgood_yes g HOK.out _).mono ?_
  rintro e w3 ⟨rfl, hb⟩
  have HB3 := Lib.hid (stay HB1.out hb)
  have HG3 := Lib.hid (HG1.out.below hb HG1.out.lt)
  clear hb q0 q1 q2 q3 HG1
  by_cases hlimN : 20 < N
  · have dlimN : decide ((20 : Int) < (N : Int)) = true := decide_eq_true (by omega)
  
    go_wp2_with fail
    refine (wakes_any (Vars.below (Nat.le_refl _) HB3.out HV.out)).mono ?_
    rintro e w4 ⟨rfl, hb⟩
    have HB4 := Lib.hid (stay HB3.out hb)
    clear hb
    go_wp2_with fail
    go_ret
    exact ⟨rfl, HB4.out⟩
  have dlimN : decide ((20 : Int) < (N : Int)) = false := decide_eq_false (by omega)
  have HLN : Hid (N ≤ 20) := Lib.hid (by omega)

  obtain ⟨t, ht, ht1, ht2⟩ := Pl.Gm.total HOK.out
  have HT := Lib.hid ht
  have HTB : Hid (1 ≤ t ∧ t ≤ 1024) := Lib.hid ⟨ht1, ht2⟩
  clear hlimN ht ht1 ht2
  go_upto_region 3 with fail
  refine wp_region_lit ?_
  clear dlimN
  refine takeL (.agg #[.int .i64 g.p, .int .i64 g.s, .int .i64 g.l, .int .i64 g.f]) rfl (by have q := HG3.out; have q0 := q.cell (i := 0) rfl; have q1 := q.cell (i := 1) rfl; have q2 := q.cell (i := 2) rfl; have q3 := q.cell (i := 3) rfl; go_simp) ?_
  try simp only [Act.put, List.setIfInBounds_toArray, List.set_cons_succ, List.set_cons_zero]
  refine wpList_op rfl fun K hK => ?_
  go_simp
  refine (Pl.rof_yes g HOK.out _).mono ?_
  rintro e w5 ⟨rfl, hb⟩
  rw [HT.out]
  have HB5 := Lib.hid (stay HB3.out hb)
  have HG5 := Lib.hid (HG3.out.below hb HG3.out.lt)
  clear hb HG3 HB3
  refine hK _ _ ?_
  clear hK K
  try simp only [Act.put, List.setIfInBounds_toArray, List.set_cons_succ, List.set_cons_zero]
  refine takeL (.int .i64 (t : Int)) rfl (by have z := field35m g.maps (t : Int) g.cap w5; go_simp) ?_
  try simp only [Act.put, List.setIfInBounds_toArray, List.set_cons_succ, List.set_cons_zero]
  refine wpList_op rfl fun K hK => ?_
  go_simp
  refine (De.dv_new w5 _ (Below.refl _ _) t HTB.out).mono ?_
  rintro e w6 ⟨b, F, rfl, hdv, hb, hF⟩
  have HG6 := Lib.hid (HG5.out.below hb HG5.out.lt)
  have HD6 := Lib.hid hdv
  have HB6 := Lib.hid (stay HB5.out hb)
  have HGS6 : Hid (¬ F w.heap.size ∧ w.heap.size < w6.heap.size) := Lib.hid ⟨fun hf => by have h1 := hF _ hf; have h2 := HG5.out.lt; omega, HG6.out.lt⟩
  clear hdv hb hF HG5
  refine hK _ _ ?_
  clear hK K
  try simp only [Act.put, List.setIfInBounds_toArray, List.set_cons_succ, List.set_cons_zero]
  refine takeL (.tuple #[.pointer (some ⟨b, 0, none⟩), .int .i64 0]) rfl (by go_simp) ?_
  try simp only [Act.put, List.setIfInBounds_toArray, List.set_cons_succ, List.set_cons_zero]
  refine takeL (.pointer (some ⟨b, 0, none⟩)) rfl (by go_simp) ?_
  try simp only [Act.put, List.setIfInBounds_toArray, List.set_cons_succ, List.set_cons_zero]
  refine takeL (.int .i64 0) rfl (by go_simp) ?_
  try simp only [Act.put, List.setIfInBounds_toArray, List.set_cons_succ, List.set_cons_zero]
  refine takeL (.pointer (some ⟨b, 0, none⟩)) rfl (by go_simp) ?_
  try simp only [Act.put, List.setIfInBounds_toArray, List.set_cons_succ, List.set_cons_zero]
  refine takeL (.int .i64 0) rfl (by go_simp) ?_
  try simp only [Act.put, List.setIfInBounds_toArray, List.set_cons_succ, List.set_cons_zero]
  refine wpList_nil ?_
  obtain ⟨sN, hsN⟩ : ∃ sN : Nat, g.s = (sN : Int) := ⟨g.s.toNat, by have := HOK.out.2.1; omega⟩
  have HSN : Hid (g.s = (sN : Int) ∧ 6 ≤ sN ∧ sN ≤ 16) := Lib.hid ⟨hsN, by have := HOK.out.2.1; omega, by have := HOK.out.2.1; omega⟩
  clear hsN
  have hO0 : Hid (OwnN w6 w6.heap.size (.slice none 0 0) (frm 1 0)) := Lib.hid (OwnN.nil _ _)
  go_wp2_with fail
  go_loopg [9, 10] sN (fun q u9 i wr => ∃ (j : Nat) (s9 : Value), s9 = u9 ∧ sN - j ≤ q ∧ i = .int .i64 (1 + (j : Int)) ∧ j + 1 ≤ sN ∧ OwnN wr w6.heap.size s9 (frm 1 j) ∧ Below w6.heap.size w6 wr)
  case atStart => exact ⟨0, _, rfl, by omega, rfl, by have := HSN.out; omega, hO0.out, Below.refl _ _⟩
  case round =>
    obtain ⟨j, s9, rfl, hq, rfl, hjs, hown, hbel⟩ := hrel
    have HOW := Lib.hid hown
    have HBR := Lib.hid hbel
    have HGR := Lib.hid (HG6.out.below hbel HG6.out.lt)
    obtain ⟨fa, fc, hfv⟩ := hown.ints.form
    rw [frm_len] at hfv
    subst hfv
    clear hown hbel
    have q1 := HGR.out.cell (i := 1) rfl
  
    by_cases hc : (1 + (j : Int)) < g.s
    · have dc : decide ((1 + (j : Int)) < g.s) = true := decide_eq_true hc
      have hj2 : j + 2 ≤ sN ∧ j + 1 ≤ 16 := by have := HSN.out; omega
      have gw : IntKind.i64.wrap ((1 + (j : Int)) + 1) = 1 + ((j + 1 : Nat) : Int) := by rw [wrap64 (by omega) (by omega)]; push_cast; omega
      go_upto_region 8 with fail
      refine wp_region_lit ?_
      refine takeL (.slice fa j fc) rfl (by go_simp) ?_
      try simp only [Act.put, List.setIfInBounds_toArray, List.set_cons_succ, List.set_cons_zero]
      refine takeL (.int .i64 (1 + (j : Int))) rfl (by go_simp) ?_
      try simp only [Act.put, List.setIfInBounds_toArray, List.set_cons_succ, List.set_cons_zero]
      refine wpList_run (.slice (some ⟨wr.heap.size, 0, none⟩) 1 1) (wr.alloc (.cells #[.int .i64 (1 + (j : Int))] 3)) rfl (by go_simp) ?_
      try simp only [Act.put, List.setIfInBounds_toArray, List.set_cons_succ, List.set_cons_zero]
      have hb1 := alloc_bel wr (.cells #[.int .i64 (1 + (j : Int))] 3)
      have hl1 : IntsAt (wr.alloc (.cells #[.int .i64 (1 + (j : Int))] 3)) (.slice (some ⟨wr.heap.size, 0, none⟩) 1 1) [(1 + (j : Int))] := (OwnN.lit wr wr.heap.size (Nat.le_refl _) [(1 + (j : Int))] (by simp) _ rfl).ints
      refine app_LNg (HOW.out.below hb1) (Nat.le_trans HBR.out.size hb1.size) hl1 (by rw [frm_len]; simp only [List.length_cons, List.length_nil]; omega) rfl rfl rfl ?_
      intro tv w8 ho hg8
      try simp only [Act.put, List.setIfInBounds_toArray, List.set_cons_succ, List.set_cons_zero]
      rw [← frm_next] at ho
      have HO8 := Lib.hid ho
      have HB8 : Hid (Below w6.heap.size w6 w8) := Lib.hid ((stay HBR.out hb1).trans (grown_below hg8 (Nat.le_trans HBR.out.size hb1.size) fun k hk => (HOW.out.lt k hk).1))
      obtain ⟨ta, tc, htv⟩ := ho.ints.form
      rw [frm_len] at htv
      subst htv
      clear hb1 hl1 ho hg8 HOW HBR HGR q1
      refine takeL (.slice ta (j + 1) tc) rfl (by go_simp) ?_
      try simp only [Act.put, List.setIfInBounds_toArray, List.set_cons_succ, List.set_cons_zero]
      refine wpList_nil ?_
      go_wp2_with fail
      go_roundg (sN - (j + 1))
      case measure => omega
      case rel => exact ⟨j + 1, _, rfl, by omega, congrArg (Value.int IntKind.i64) (by omega), by omega, HO8.out, HB8.out⟩
    · have dc : decide ((1 + (j : Int)) < g.s) = false := decide_eq_false hc
      have HJS : Hid (j + 1 = sN) := Lib.hid (by have := HSN.out; omega)
      clear hq
      have HOI := Lib.hid HOW.out.ints
      have HOL : Hid (∀ b' o n c, Value.slice fa j fc = .slice (some ⟨b', o, none⟩) n c → w6.heap.size ≤ b' ∧ b' < wr.heap.size) := Lib.hid fun b' o n c e => HOW.out.lt b' (by rw [e]; rfl)
      have HDR := Lib.hid (HD6.out.below HBR.out)
      have HFL : Hid (∀ k, F k → k < w6.heap.size) := Lib.hid fun k hk => (HD6.out.lt k hk).2
      have HBW := Lib.hid (stay HB6.out HBR.out)
      have HWR : Hid (w6.heap.size ≤ wr.heap.size) := Lib.hid HBR.out.size
      have HW5 : Hid (w.heap.size ≤ w5.heap.size) := Lib.hid HB5.out.size
      clear HOW HBR hc
      go_upto_region 9 with fail
      clear q1 dc
      refine wp_region_lit ?_
      refine takeL (.slice fa j fc) rfl (by go_simp) ?_
      try simp only [Act.put, List.setIfInBounds_toArray, List.set_cons_succ, List.set_cons_zero]
      refine takeL (.agg #[.int .i64 0, .int .i64 0, .int .u32 3, .slice fa j fc]) rfl (exec_build _ _ _ _ 40 _ rfl #[(2, .int .u32 3), (3, .slice fa j fc)] (by simp only [List.map_toArray, List.map_cons, List.map_nil]; rfl) _ (run_build wr 40 _ _ (built40c _ _ _ _))) ?_
      try simp only [Act.put, List.setIfInBounds_toArray, List.set_cons_succ, List.set_cons_zero]
      refine alloc_g zero40 rfl ?_
      intro w7 hA hb7 hl7
      try simp only [Act.put, List.setIfInBounds_toArray, List.set_cons_succ, List.set_cons_zero]
      refine store_all (cs := #[.int .i64 0, .int .i64 0, .int .u32 3, .slice fa j fc]) hA rfl info40 (at_one _ _ _ _ _ _) rfl rfl rfl ?_
      intro w8 hD hO hlD
      try simp only [Act.put, List.setIfInBounds_toArray, List.set_cons_succ, List.set_cons_zero]
      have hbb : Below wr.heap.size wr w8 := hb7.trans (hO.below hb7.size fun k hk => Nat.le_of_eq hk.symm)
      have HA8 := Lib.hid hD
      have HG8 := Lib.hid (HGR.out.below hbb HGR.out.lt)
      have HD8 := Lib.hid (HDR.out.below hbb)
      have HO8 := Lib.hid (HOI.out.below hbb)
      have HB8 := Lib.hid (stay HBW.out hbb)
      have HW8 : Hid (wr.heap.size < w8.heap.size) := Lib.hid (by omega)
      clear hA hb7 hl7 hD hO hlD hbb HGR HDR HOI HBW
      refine wpList_nil ?_
      go_upto_region 10 with fail
      refine wp_region_lit ?_
      refine takeL (.pointer (some ⟨b, 0, none⟩)) rfl (by go_simp) ?_
      try simp only [Act.put, List.setIfInBounds_toArray, List.set_cons_succ, List.set_cons_zero]
      refine takeL (.agg #[.int .i64 g.p, .int .i64 g.s, .int .i64 g.l, .int .i64 g.f]) rfl (by have q := HG8.out; have q0 := q.cell (i := 0) rfl; have q1 := q.cell (i := 1) rfl; have q2 := q.cell (i := 2) rfl; have q3 := q.cell (i := 3) rfl; go_simp) ?_
      try simp only [Act.put, List.setIfInBounds_toArray, List.set_cons_succ, List.set_cons_zero]
      refine takeL (.agg #[.int .i64 0, .int .i64 0, .int .u32 3, .slice fa j fc]) rfl (by have q := HA8.out; have q0 := q.cell (i := 0) rfl; have q1 := q.cell (i := 1) rfl; have q2 := q.cell (i := 2) rfl; have q3 := q.cell (i := 3) rfl; go_simp) ?_
      try simp only [Act.put, List.setIfInBounds_toArray, List.set_cons_succ, List.set_cons_zero]
      have HGD : Hid ((⟨0, 0, 3, frm 1 j⟩ : Ja).good g = true) := Lib.hid (frm_good HOK.out ⟨Int.le_refl _, by have := HSN.out; omega⟩ ⟨Int.le_refl _, by have := HOK.out.2.2.1.1; omega⟩ (by decide) (by have h1 := HSN.out; have h2 := HJS.out; omega) (.inl (by decide)))
      refine wpList_op rfl fun K hK => ?_
      go_simp
      refine (new_yes (W := w5) b F (De.newD t) (by rw [newD_len]; have := HTB.out; omega) g ⟨0, 0, 3, frm 1 j⟩ (.slice fa j fc) (by rw [frm_len]; have h1 := HSN.out; have h2 := HJS.out; omega) (by rw [newD_len, fits_tot (fun _ => HT.out)]; exact HGD.out) (seqN 3 (by decide)) _ HO8.out HD8.out).mono ?_
      rintro e w9 ⟨jb, tv, rfl, hj, hjl, hb⟩
      have HKP : Hid (Kp w5 w w9 jb b F (De.newD t) g ⟨0, 0, 3, frm 1 j⟩ tv [(w.heap.size, [.int .i64 g.p, .int .i64 g.s, .int .i64 g.l, .int .i64 g.f]), (wr.heap.size, [.int .i64 0, .int .i64 0, .int .u32 3, .slice fa j fc])] [(.slice fa j fc, frm 1 j)]) := Lib.hid (by
        have h1 := hb.size
        have h2 := HGS6.out
        have h3 := HWR.out
        have h4 := HW8.out
        refine ⟨hj, fun x hx => ?_, fun x hx => ?_, stay HB8.out hb, HW5.out⟩
        · simp only [List.mem_cons, List.not_mem_nil, or_false] at hx
          rcases hx with rfl | rfl
          · exact ⟨HG8.out.below hb HG8.out.lt, by show w.heap.size < _; omega, h2.1, by show ¬ w.heap.size = jb; omega⟩
          · exact ⟨HA8.out.below hb HA8.out.lt, by show wr.heap.size < _; omega, fun hf => by have := HFL.out _ hf; omega, by show ¬ wr.heap.size = jb; omega⟩
        · obtain rfl := List.mem_singleton.1 hx
          refine ⟨HO8.out.below hb, fun b' o n c e => ?_⟩
          have h5 := HOL.out b' o n c e
          exact ⟨by omega, fun hf => by have := HFL.out _ hf; omega, by omega⟩)
      have HJB : Hid (∀ b' o n c, tv = .slice (some ⟨b', o, none⟩) n c → b' < w9.heap.size) := Lib.hid fun b' o n c e => (hj.sep b' o n c e).2.2.2
      have HSN0 : Hid (Sn (De.newD t) (List.replicate t (zeros 64)) g ⟨0, 0, 3, frm 1 j⟩ [] ⟨0, 0, 3, frm 1 j⟩ (· = zeros 64)) := Lib.hid (Sn.new (img_new t) HGD.out (seqN 3 (by decide)) (by rw [newD_len, HT.out]; exact Int.le_refl _) fun y hy => List.eq_of_mem_replicate hy)
      have HJL : Hid (w8.heap.size ≤ jb) := Lib.hid hjl
      clear hj hjl hb HA8 HG8 HD8 HO8 HB8
      refine hK _ _ ?_
      clear hK K
      try simp only [Act.put, List.setIfInBounds_toArray, List.set_cons_succ, List.set_cons_zero]
      refine takeL (.tuple #[.pointer (some ⟨jb, 0, none⟩), .int .i64 0]) rfl (by go_simp) ?_
      try simp only [Act.put, List.setIfInBounds_toArray, List.set_cons_succ, List.set_cons_zero]
      refine takeL (.pointer (some ⟨jb, 0, none⟩)) rfl (by go_simp) ?_
      try simp only [Act.put, List.setIfInBounds_toArray, List.set_cons_succ, List.set_cons_zero]
      refine takeL (.int .i64 0) rfl (by go_simp) ?_
      try simp only [Act.put, List.setIfInBounds_toArray, List.set_cons_succ, List.set_cons_zero]
      refine takeL (.pointer (some ⟨jb, 0, none⟩)) rfl (by go_simp) ?_
      try simp only [Act.put, List.setIfInBounds_toArray, List.set_cons_succ, List.set_cons_zero]
      refine takeL (.int .i64 0) rfl (by go_simp) ?_
      try simp only [Act.put, List.setIfInBounds_toArray, List.set_cons_succ, List.set_cons_zero]
      refine wpList_nil ?_
      obtain ⟨k, hk⟩ : ∃ k : Nat, y % ((N : Int) + 1) = (k : Int) := ⟨(y % ((N : Int) + 1)).toNat, by have := Int.emod_nonneg y (show (N : Int) + 1 ≠ 0 by omega); omega⟩
      have HKN : Hid (k ≤ N) := Lib.hid (by have := Int.emod_lt_of_pos y (show 0 < (N : Int) + 1 by omega); omega)
      have gy : Hid (IntKind.i64.wrap y = y) := Lib.hid (wrap64 (by have := HY.out.1; omega) (by have := HY.out.2; omega))
      have gl1 : Hid (IntKind.i64.wrap ((N : Int) + 1) = (N : Int) + 1) := Lib.hid (by have := HLN.out; exact wrap64 (by omega) (by omega))
      have glz : Hid (¬ (N : Int) + 1 = 0) := Lib.hid (by omega)
      have gr : Hid (y.tmod ((N : Int) + 1) = (k : Int)) := Lib.hid (by rw [Int.tmod_eq_emod_of_nonneg HY.out.1, hk])
      clear hk
      go_upto_region 13 with fail
      refine wp_region_lit ?_
      refine takeL (.int .u8 y) rfl (by go_simp) ?_
      try simp only [Act.put, List.setIfInBounds_toArray, List.set_cons_succ, List.set_cons_zero]
      refine takeL (.int .i64 y) rfl (by have z := gy.out; go_simp) ?_
      try simp only [Act.put, List.setIfInBounds_toArray, List.set_cons_succ, List.set_cons_zero]
      refine takeL (.slice ga N gc) rfl (by go_simp) ?_
      try simp only [Act.put, List.setIfInBounds_toArray, List.set_cons_succ, List.set_cons_zero]
      refine takeL (.int .i64 N) rfl (by go_simp) ?_
      try simp only [Act.put, List.setIfInBounds_toArray, List.set_cons_succ, List.set_cons_zero]
      refine takeL (.int .i64 ((N : Int) + 1)) rfl (by have z := gl1.out; go_simp) ?_
      try simp only [Act.put, List.setIfInBounds_toArray, List.set_cons_succ, List.set_cons_zero]
      refine takeL (.int .i64 (k : Int)) rfl (by have z := gr.out; have z0 := glz.out; go_simp) ?_
      try simp only [Act.put, List.setIfInBounds_toArray, List.set_cons_succ, List.set_cons_zero]
      refine takeL (.int .i64 (k : Int)) rfl (by go_simp) ?_
      try simp only [Act.put, List.setIfInBounds_toArray, List.set_cons_succ, List.set_cons_zero]
      refine wpList_nil ?_
      go_upto_region 14 with fail
      refine wp_region_lit ?_
      refine takeL (.agg #[.int .i64 0, .int .i64 0, .int .u32 3, .slice fa j fc]) rfl (by have q := (HKP.out.bl _ (.tail _ (.head _))).1; have q0 := q.cell (i := 0) rfl; have q1 := q.cell (i := 1) rfl; have q2 := q.cell (i := 2) rfl; have q3 := q.cell (i := 3) rfl; go_simp) ?_
      try simp only [Act.put, List.setIfInBounds_toArray, List.set_cons_succ, List.set_cons_zero]
      refine alloc_g zero40 rfl ?_
      intro wA hA hb7 hl7
      try simp only [Act.put, List.setIfInBounds_toArray, List.set_cons_succ, List.set_cons_zero]
      refine store_all (cs := #[.int .i64 0, .int .i64 0, .int .u32 3, .slice fa j fc]) hA rfl info40 (at_one _ _ _ _ _ _) rfl rfl rfl ?_
      intro wB hD hO hlD
      try simp only [Act.put, List.setIfInBounds_toArray, List.set_cons_succ, List.set_cons_zero]
      have hbb : Below w9.heap.size w9 wB := hb7.trans (hO.below hb7.size fun k hk => Nat.le_of_eq hk.symm)
      have HKB := Lib.hid (HKP.out.below hbb)
      have HMB : Hid (Mid wB jb F tv w9.heap.size ⟨0, 0, 3, frm 1 j⟩ (.slice fa j fc)) := Lib.hid (by
        have h1 := HKP.out.jn.blk.lt
        exact ⟨hD, ⟨by omega, fun hf => by have := (HKP.out.jn.dv.lt _ hf).2; omega, by omega⟩, (HKB.out.il _ (.head _)).1, fun b' o n c e => ⟨(HKB.out.il _ (.head _)).2 b' o n c e, by have := ((HKP.out.il _ (.head _)).2 b' o n c e).1; omega⟩, fun b' o n c e => by have := HJB.out b' o n c e; omega⟩)
      have HWM : Hid (w5.heap.size ≤ w9.heap.size) := Lib.hid HKP.out.jn.bel.size
      have HMBS : Hid (w.heap.size < w9.heap.size ∧ wr.heap.size < w9.heap.size) := Lib.hid (by have h1 := HGS6.out.2; have h2 := HWR.out; have h3 := HW8.out; have h4 := HJL.out; have h5 := HKP.out.jn.blk.lt; exact ⟨by omega, by omega⟩)
      clear hA hb7 hl7 hD hO hlD hbb HKP HJB
      generalize w9.heap.size = mB at *
      generalize wr.heap.size = fB at *
      refine wpList_nil ?_
      have HFR : Hid (FR g ⟨0, 0, 3, frm 1 j⟩ ⟨0, 0, 3, frm 1 j⟩ ⟨0, 0, 3, frm 1 j⟩ (De.newD t) 0 k 0 (List.replicate t (zeros 64)) []) := Lib.hid ⟨HSN0.out, fun _ => rfl, fun h => by omega⟩
      have HMG0 : Hid ((⟨0, 0, 3, frm 1 j⟩ : Ja).good g = true ∧ Seq32 (⟨0, 0, 3, frm 1 j⟩ : Ja).seq) := Lib.hid ⟨HGD.out, seqN 3 (by decide)⟩
      go_wp2_with fail
      go_loopg [16, 17] N (fun q u16 u17 wr => ∃ (i ah : Nat) (Fk : Nat → Prop) (a mid : Ja) (d : De.D) (fv fm : Value) (X : List (List Int)) (P : List (List It × List Int)), u16 = .int .i64 (ah : Int) ∧ u17 = .int .i64 (i : Int) ∧ N - i ≤ q ∧ i ≤ N ∧ ah ≤ i ∧ Kp w5 w wr jb b Fk d g a fv [(w.heap.size, [.int .i64 g.p, .int .i64 g.s, .int .i64 g.l, .int .i64 g.f]), (fB, [.int .i64 0, .int .i64 0, .int .u32 3, .slice fa j fc])] [(.slice fa j fc, frm 1 j)] ∧ Mid wr jb Fk fv mB mid fm ∧ FR g ⟨0, 0, 3, frm 1 j⟩ mid a d i k ah X P ∧ d.F < 0 ∧ d.L = [] ∧ d.S.length = t ∧ d.T ≤ 1025 * i ∧ (mid.good g = true ∧ Seq32 mid.seq))
      case atStart => exact ⟨0, 0, F, _, _, _, _, _, _, _, rfl, rfl, by omega, by omega, Nat.le_refl _, HKB.out, HMB.out, HFR.out, (by show (-1 : Int) < 0; decide), rfl, newD_len t, Nat.zero_le _, HMG0.out⟩
      case round =>
        obtain ⟨i, ah, Fk, a, mid, d, fv, fm, X, P, rfl, rfl, hq, hi, hah, hkp, hmid, hfr, hF, hL, hS, hT, hmg⟩ := hrel
        have HKP := Lib.hid hkp
        have HMD := Lib.hid hmid
        have HFR := Lib.hid hfr
        have HDF : Hid (d.F < 0 ∧ d.L = [] ∧ d.S.length = t ∧ d.T ≤ 1025 * i) := Lib.hid ⟨hF, hL, hS, hT⟩
        have HMG := Lib.hid hmg
        clear hkp hmid hfr hF hL hS hT HKB HMB HSN0 HMG0 hmg
        by_cases hiN : i < N
        · have dN : decide ((i : Int) < (N : Int)) = true := decide_eq_true (by omega)
          have hiI : (i : Int) < (N : Int) := by omega
          obtain ⟨x, hx⟩ : ∃ x, gs[i]? = some x := ⟨_, List.getElem?_eq_getElem (by have := HK.out; omega)⟩
          obtain ⟨xb, xo, xc, hxe, hxc, hxi, hxl⟩ := (HGS.out.below HKP.out.bel).at hx
          rw [HK.out] at hxe
          injection hxe with e1 e2 e3
          subst e1
          subst e3
          obtain ⟨lv, ll⟩ := x
          simp only at hxc hxi hxl
          have HXC := Lib.hid hxc
          have HXI := Lib.hid hxi
          have HXL := Lib.hid hxl
          obtain ⟨la, lc, hlv⟩ := items_one hxi
          obtain ⟨ln, hln⟩ : ∃ n, ll.length = n := ⟨_, rfl⟩
          rw [hln] at hlv
          subst hlv
          have HLL := Lib.hid hln
          have HX := Lib.hid hx
          clear hx hxc hxi hxl e2 hln
          have cx := HXC.out
          go_wp2_with fail
          refine (fair_any ll ln HLL.out (by rw [← HLL.out]; exact HXL.out) (.slice la ln lc) _ HXI.out).mono ?_
          rintro e wD ⟨rfl, rfl⟩
          cases hfair : fair (ll.map (·.1))
          · clear hfair
            go_wp2_with fail
            refine (wakes_any (Vars.below (Nat.le_refl _) HKP.out.bel HV.out)).mono ?_
            rintro e w4 ⟨rfl, hb⟩
            have HB4 := Lib.hid (stay HKP.out.bel hb)
            clear hb
            go_wp2_with fail
            go_ret
            exact ⟨rfl, HB4.out⟩
          have HFAIR := Lib.hid hfair
          clear hfair
          obtain ⟨bk, hbk⟩ : ∃ c, ((i : Int) == (k : Int)) = c := ⟨_, rfl⟩
          have HBK := Lib.hid hbk
          have z := hbk
          clear hbk
          go_upto_if 90 with fail
          clear z cx
          go_cut [17] from 91 to 93 (fun s17 wx => s17 = .int .i64 (i : Int) ∧ ∃ mid2 fm2, Kp w5 w wx jb b Fk d g a fv [(w.heap.size, [.int .i64 g.p, .int .i64 g.s, .int .i64 g.l, .int .i64 g.f]), (fB, [.int .i64 0, .int .i64 0, .int .u32 3, .slice fa j fc])] [(.slice fa j fc, frm 1 j)] ∧ Mid wx jb Fk fv mB mid2 fm2 ∧ FR g ⟨0, 0, 3, frm 1 j⟩ mid2 a d (i + 1) k ah X P ∧ mid2.good g = true ∧ Seq32 mid2.seq)
          case first =>
            cases bk
            rotate_left
            · have hik : i = k := by have := eq_of_beq HBK.out; omega
              subst hik
              have HF2 : Hid (FR g ⟨0, 0, 3, frm 1 j⟩ a a d (i + 1) i ah X P) := Lib.hid HFR.out.turn
              go_upto_region 22 with fail
              refine wp_region_lit ?_
              refine takeL (.pointer (some ⟨jb, 0, none⟩)) rfl (by go_simp) ?_
              try simp only [Act.put, List.setIfInBounds_toArray, List.set_cons_succ, List.set_cons_zero]
              refine wpList_op rfl fun K hK => ?_
              go_simp
              refine (at_any HKP.out.jn).mono ?_
              rintro e wE ⟨tv2, rfl, ho, hb⟩
              have HKE := Lib.hid (HKP.out.below hb)
              have HME := Lib.hid (HMD.out.below hb)
              have HT2 := Lib.hid ho.ints
              have HTL : Hid (∀ b' o n c, tv2 = .slice (some ⟨b', o, none⟩) n c → wr.heap.size ≤ b' ∧ b' < wE.heap.size) := Lib.hid fun b' o n c e => ho.lt b' (by rw [e]; rfl)
              have HFB2 : Hid (∀ k, Fk k → k < wr.heap.size) := Lib.hid fun k hk => (HKP.out.jn.dv.lt k hk).2
              have HJB2 : Hid (jb < wr.heap.size ∧ mB < wr.heap.size) := Lib.hid ⟨HKP.out.jn.blk.lt, HMD.out.sf.1⟩
              obtain ⟨ta, tc, htv⟩ := ho.ints.form
              obtain ⟨tn, htn⟩ : ∃ n, a.free.length = n := ⟨_, rfl⟩
              rw [htn] at htv
              subst htv
              clear ho hb htn HKP HMD
              refine hK _ _ ?_
              clear hK K
              try simp only [Act.put, List.setIfInBounds_toArray, List.set_cons_succ, List.set_cons_zero]
              refine store_all (cs := #[.int .i64 a.seg, .int .i64 a.off, .int .u32 a.seq, .slice ta tn tc]) HME.out.mb rfl info40 (at_one _ _ _ _ _ _) rfl rfl rfl ?_
              intro wF hD hO hlD
              try simp only [Act.put, List.setIfInBounds_toArray, List.set_cons_succ, List.set_cons_zero]
              refine wpList_nil ?_
              have HKF : Hid (Kp w5 w wF jb b Fk d g a fv [(w.heap.size, [.int .i64 g.p, .int .i64 g.s, .int .i64 g.l, .int .i64 g.f]), (fB, [.int .i64 0, .int .i64 0, .int .u32 3, .slice fa j fc])] [(.slice fa j fc, frm 1 j)]) := Lib.hid (by
                have hsf := HME.out.sf
                refine ⟨HKE.out.jn.other hO HWM.out hsf.2.1 hsf.2.2 (fun b' o n c e => HME.out.fv b' o n c e), fun x hx => ?_, fun x hx => ?_, HKE.out.bel.trans (hO.below HKE.out.bel.size fun k hk => by rw [hk]; exact Nat.le_trans HKE.out.hW HWM.out), HKE.out.hW⟩
                · have h1 := HKE.out.bl x hx
                  refine ⟨h1.1.only hO ?_, by have := h1.2.1; omega, h1.2.2⟩
                  simp only [List.mem_cons, List.not_mem_nil, or_false] at hx
                  rcases hx with rfl | rfl
                  · have := HMBS.out.1; show ¬ w.heap.size = mB; omega
                  · have := HMBS.out.2; show ¬ fB = mB; omega
                · have h1 := HKE.out.il x hx
                  obtain rfl := List.mem_singleton.1 hx
                  refine ⟨h1.1.onlyF hO fun b' o n c e => ?_, fun b' o n c e => ?_⟩
                  · have := HOL.out b' o n c e; have := HMBS.out.2; omega
                  · have := h1.2 b' o n c e; exact ⟨by have := this.1; omega, this.2⟩)
              have HMF : Hid (Mid wF jb Fk fv mB a (.slice ta tn tc)) := Lib.hid (by
                refine ⟨hD, ⟨by have := HME.out.sf.1; omega, HME.out.sf.2⟩, HT2.out.onlyF hO fun b' o n c e => ?_, fun b' o n c e => ?_, HME.out.fv⟩
                · have h1 := HTL.out b' o n c e; have h2 := HJB2.out; omega
                · have h1 := HTL.out b' o n c e; have h2 := HJB2.out; exact ⟨⟨by omega, fun hf => by have := HFB2.out _ hf; omega, by omega⟩, by omega⟩)
              clear hD hO hlD HKE HME
              go_wp2_with fail
              go_meet
              exact ⟨rfl, a, _, HKF.out, HMF.out, HF2.out, HKF.out.jn.good, HKF.out.jn.seq⟩
            · have hik : i ≠ k := by have := HBK.out; rw [beq_eq_false_iff_ne] at this; omega
              have HF2 : Hid (FR g ⟨0, 0, 3, frm 1 j⟩ mid a d (i + 1) k ah X P) := Lib.hid (HFR.out.same hik)
              clear hik
              go_wp2_with fail
              go_meet
              exact ⟨rfl, mid, fm, HKP.out, HMD.out, HF2.out, HMG.out⟩
          case rest =>
          obtain ⟨rfl, mid2, fm2, hkp, hmd, hfr, hmg2⟩ := hcut
          clear HKP HMD HFR HMG HXC HXI
          have HKP := Lib.hid hkp
          have HMD := Lib.hid hmd
          have HFR := Lib.hid hfr
          have HMG := Lib.hid hmg2
          clear hkp hmd hfr hmg2
          obtain ⟨yb, yo, yc, hye, hyc, hyi, hyl⟩ := (HGS.out.below HKP.out.bel).at HX.out
          rw [HK.out] at hye
          obtain ⟨rfl, rfl, rfl⟩ : xb = yb ∧ xo = yo ∧ gc = yc := by
            injection hye with e1 e2 e3
            injection e1 with e1
            injection e1 with e4 e5
            exact ⟨e4, e5, e3⟩
          have HYC := Lib.hid hyc
          have HYI := Lib.hid hyi
          clear hye hyc hyi hyl
          have hL0 : ll.length ≤ 100 := by have := fair_len HFAIR.out; rw [List.length_map] at this; exact this
          have HLE := Lib.hid hL0
          have HBE : Hid (∀ x ∈ ll, x.1.blk.bytes.length ≤ 300) := Lib.hid fun x hx => fair_bytes HFAIR.out x.1 (List.mem_map.2 ⟨x, hx, rfl⟩)
          clear hL0
          go_upto_region 23 with fail
          refine wp_region_lit ?_
          refine takeL (.pointer (some ⟨jb, 0, none⟩)) rfl (by go_simp) ?_
          try simp only [Act.put, List.setIfInBounds_toArray, List.set_cons_succ, List.set_cons_zero]
          refine takeL (.slice (some ⟨xb, xo, none⟩) N gc) rfl (by go_simp) ?_
          try simp only [Act.put, List.setIfInBounds_toArray, List.set_cons_succ, List.set_cons_zero]
          refine takeL (.int .i64 (i : Int)) rfl (by go_simp) ?_
          try simp only [Act.put, List.setIfInBounds_toArray, List.set_cons_succ, List.set_cons_zero]
          refine takeL (.pointer (some ⟨xb, xo + i, none⟩)) rfl (by go_simp) ?_
          try simp only [Act.put, List.setIfInBounds_toArray, List.set_cons_succ, List.set_cons_zero]
          refine takeL (.slice la ln lc) rfl (by have q := HYC.out; go_simp) ?_
          try simp only [Act.put, List.setIfInBounds_toArray, List.set_cons_succ, List.set_cons_zero]
          refine wpList_op rfl fun K hK => ?_
          go_simp
          refine (own_new ll HLE.out HBE.out _ _ HYI.out).mono ?_
          rintro e wA ⟨tv, m, rfl, hm, hit, hb, hn1, hn2⟩
          have HKA := Lib.hid (HKP.out.below hb)
          have HMA := Lib.hid (HMD.out.below hb)
          have HFS := Lib.hid (fun (q : Nat) (hq : Fk q) => (HKP.out.jn.dv.lt q hq).2)
          have HM := Lib.hid hm
          have HMI := Lib.hid hit
          have HN1 := Lib.hid hn1
          have HN2 := Lib.hid hn2
          have HML : Hid (m.length ≤ 100) := Lib.hid (by have := congrArg List.length hm; rw [List.length_map, List.length_map] at this; have := HLE.out; omega)
          have HWF := Lib.hid (its_wf HYI.out)
          obtain ⟨ta, tc, htv⟩ := items_one hit
          obtain ⟨mn, hmn⟩ : ∃ n, m.length = n := ⟨_, rfl⟩
          rw [hmn] at htv
          subst htv
          clear hm hit hb hn1 hn2 hmn HKP HMD HYC HYI
          refine hK _ _ ?_
          clear hK K
          try simp only [Act.put, List.setIfInBounds_toArray, List.set_cons_succ, List.set_cons_zero]
          refine wpList_op rfl fun K hK => ?_
          go_simp
          refine (put_any HKA.out.jn (Vars.below (Nat.le_refl _) HB5.out HV.out) m (ll.map (·.1)) HM.out _ (by have := HML.out; omega) HMI.out (fun w' ho => own_kept _ HFS.out HMI.out HN1.out HN2.out ho) (by rw [HDF.out.2.2.1]; exact HTB.out.2) (by have := HDF.out.2.2.2; have := HLN.out; omega) (by rw [HDF.out.2.1]; exact Nat.zero_le _)).mono ?_
          rintro e wB ⟨pv, rfl, F2, f3, ho, hj, hon, hn, hpa, hsr⟩
          have hln := jput_len (g := g) (a := a) d (L := ll.map (·.1)) (by have := (Ja.good_parts HKA.out.jn.good).1.2.2.1.2; omega)
          have hgo := HFR.out.goes HDF.out.1 HDF.out.2.1 (ll.map (·.1)) HWF.out
          obtain ⟨⟨pe, pl, a2, d2⟩, hp⟩ : ∃ p, jput g a d (ll.map (·.1)) = p := ⟨_, rfl⟩
          rw [hp] at ho hj hln hgo ⊢
          dsimp only at ho hj hln hgo ⊢
          obtain ⟨X2, P2, hfr2, hF2, hL2⟩ := hgo
          have HKB := Lib.hid (HKA.out.put hj hon hn)
          have HMB := Lib.hid (HMA.out.put hon hn hsr)
          have HFR2 := Lib.hid hfr2
          have HDF2 : Hid (d2.F < 0 ∧ d2.L = [] ∧ d2.S.length = t ∧ d2.T ≤ 1025 * (i + 1)) := Lib.hid ⟨hF2, hL2, hln.1.trans HDF.out.2.2.1, by have := HDF.out.2.2.2; have := hln.2.1; omega⟩
          obtain ⟨pa, pc, hpv⟩ := ho.ints.form
          obtain ⟨pn, hpn⟩ : ∃ n, pl.length = n := ⟨_, rfl⟩
          rw [hpn] at hpv
          subst hpv
          clear hp ho hj hon hn hpa hsr hln hfr2 hF2 hL2 hpn HKA HMA HFR HDF
          refine hK _ _ ?_
          clear hK K
          try simp only [Act.put, List.setIfInBounds_toArray, List.set_cons_succ, List.set_cons_zero]
          refine takeL (.tuple #[.slice pa pn pc, .int .i64 pe]) rfl (by go_simp) ?_
          try simp only [Act.put, List.setIfInBounds_toArray, List.set_cons_succ, List.set_cons_zero]
          refine takeL (.slice pa pn pc) rfl (by go_simp) ?_
          try simp only [Act.put, List.setIfInBounds_toArray, List.set_cons_succ, List.set_cons_zero]
          refine takeL (.int .i64 pe) rfl (by go_simp) ?_
          try simp only [Act.put, List.setIfInBounds_toArray, List.set_cons_succ, List.set_cons_zero]
          refine takeL (.slice pa pn pc) rfl (by go_simp) ?_
          try simp only [Act.put, List.setIfInBounds_toArray, List.set_cons_succ, List.set_cons_zero]
          refine takeL (.int .i64 pe) rfl (by go_simp) ?_
          try simp only [Act.put, List.setIfInBounds_toArray, List.set_cons_succ, List.set_cons_zero]
          refine wpList_nil ?_
          by_cases he : pe = 0
          · subst he
            by_cases hk : i < k
            · have dk : decide ((i : Int) < (k : Int)) = true := decide_eq_true (by omega)
              have HFR3 : Hid (FR g ⟨0, 0, 3, frm 1 j⟩ mid2 a2 d2 (i + 1) k (ah + 1) X2 P2) := Lib.hid (by have := HFR2.out; rwa [if_pos ⟨rfl, hk⟩] at this)
              clear HFR2
              have gah : IntKind.i64.wrap ((ah : Int) + 1) = ((ah + 1 : Nat) : Int) := by have := HLN.out; rw [wrap64 (by omega) (by omega)]; push_cast; rfl
              have gii : IntKind.i64.wrap ((i : Int) + 1) = ((i + 1 : Nat) : Int) := by have := HLN.out; rw [wrap64 (by omega) (by omega)]; push_cast; rfl
              go_wp2_with fail
              go_roundg (N - (i + 1))
              case measure => omega
              case rel => exact ⟨i + 1, ah + 1, F2, a2, mid2, d2, f3, fm2, X2, P2, by go_num, by go_num, by omega, by omega, by omega, HKB.out, HMB.out, HFR3.out, HDF2.out.1, HDF2.out.2.1, HDF2.out.2.2.1, HDF2.out.2.2.2, HMG.out⟩
            · have dk : decide ((i : Int) < (k : Int)) = false := decide_eq_false (by omega)
              have HFR3 : Hid (FR g ⟨0, 0, 3, frm 1 j⟩ mid2 a2 d2 (i + 1) k ah X2 P2) := Lib.hid (by have := HFR2.out; rwa [if_neg (fun q => hk q.2)] at this)
              clear HFR2
              have gii : IntKind.i64.wrap ((i : Int) + 1) = ((i + 1 : Nat) : Int) := by have := HLN.out; rw [wrap64 (by omega) (by omega)]; push_cast; rfl
              go_wp2_with fail
              go_roundg (N - (i + 1))
              case measure => omega
              case rel => exact ⟨i + 1, ah, F2, a2, mid2, d2, f3, fm2, X2, P2, by go_num, by go_num, by omega, by omega, by omega, HKB.out, HMB.out, HFR3.out, HDF2.out.1, HDF2.out.2.1, HDF2.out.2.2.1, HDF2.out.2.2.2, HMG.out⟩
          · have de : (pe == 0) = false := beq_eq_false_iff_ne.2 he
            have HFR3 : Hid (FR g ⟨0, 0, 3, frm 1 j⟩ mid2 a2 d2 (i + 1) k ah X2 P2) := Lib.hid (by have := HFR2.out; rwa [if_neg (fun q => he q.1)] at this)
            clear HFR2
            have gii : IntKind.i64.wrap ((i : Int) + 1) = ((i + 1 : Nat) : Int) := by have := HLN.out; rw [wrap64 (by omega) (by omega)]; push_cast; rfl
            go_wp2_with fail
            go_roundg (N - (i + 1))
            case measure => omega
            case rel => exact ⟨i + 1, ah, F2, a2, mid2, d2, f3, fm2, X2, P2, by go_num, by go_num, by omega, by omega, by omega, HKB.out, HMB.out, HFR3.out, HDF2.out.1, HDF2.out.2.1, HDF2.out.2.2.1, HDF2.out.2.2.2, HMG.out⟩

        · obtain rfl : i = N := by omega
          have dN : decide ((i : Int) < (i : Int)) = false := decide_eq_false (by omega)
          obtain ⟨bk, hbk⟩ : ∃ c, ((k : Int) == (i : Int)) = c := ⟨_, rfl⟩
          have HBK := Lib.hid hbk
          have z := hbk
          clear hbk
          go_upto_if 115 with fail
          clear z
          go_cut [16] from 116 to 118 (fun s16 wx => s16 = .int .i64 (ah : Int) ∧ ∃ mid2 fm2, Kp w5 w wx jb b Fk d g a fv [(w.heap.size, [.int .i64 g.p, .int .i64 g.s, .int .i64 g.l, .int .i64 g.f]), (fB, [.int .i64 0, .int .i64 0, .int .u32 3, .slice fa j fc])] [(.slice fa j fc, frm 1 j)] ∧ Mid wx jb Fk fv mB mid2 fm2 ∧ (∃ P1 P2, P = P1 ++ P2 ∧ P1.length = ah ∧ Sn d X g mid2 P2 a (· = zeros 64)) ∧ mid2.good g = true ∧ Seq32 mid2.seq)
          case first =>
            cases bk
            rotate_left
            · have hik : k = i := by have := eq_of_beq HBK.out; omega
              have HF2 : Hid (∃ P1 P2, P = P1 ++ P2 ∧ P1.length = ah ∧ Sn d X g a P2 a (· = zeros 64)) := Lib.hid (by
                have h := HFR.out
                rw [← hik] at h
                exact h.turn.2.2 (by omega))
              clear hik
              go_upto_region 27 with fail
              refine wp_region_lit ?_
              refine takeL (.pointer (some ⟨jb, 0, none⟩)) rfl (by go_simp) ?_
              try simp only [Act.put, List.setIfInBounds_toArray, List.set_cons_succ, List.set_cons_zero]
              refine wpList_op rfl fun K hK => ?_
              go_simp
              refine (at_any HKP.out.jn).mono ?_
              rintro e wE ⟨tv2, rfl, ho, hb⟩
              have HKE := Lib.hid (HKP.out.below hb)
              have HME := Lib.hid (HMD.out.below hb)
              have HT2 := Lib.hid ho.ints
              have HTL : Hid (∀ b' o n c, tv2 = .slice (some ⟨b', o, none⟩) n c → wr.heap.size ≤ b' ∧ b' < wE.heap.size) := Lib.hid fun b' o n c e => ho.lt b' (by rw [e]; rfl)
              have HFB2 : Hid (∀ k, Fk k → k < wr.heap.size) := Lib.hid fun k hk => (HKP.out.jn.dv.lt k hk).2
              have HJB2 : Hid (jb < wr.heap.size ∧ mB < wr.heap.size) := Lib.hid ⟨HKP.out.jn.blk.lt, HMD.out.sf.1⟩
              obtain ⟨ta, tc, htv⟩ := ho.ints.form
              obtain ⟨tn, htn⟩ : ∃ n, a.free.length = n := ⟨_, rfl⟩
              rw [htn] at htv
              subst htv
              clear ho hb htn HKP HMD
              refine hK _ _ ?_
              clear hK K
              try simp only [Act.put, List.setIfInBounds_toArray, List.set_cons_succ, List.set_cons_zero]
              refine store_all (cs := #[.int .i64 a.seg, .int .i64 a.off, .int .u32 a.seq, .slice ta tn tc]) HME.out.mb rfl info40 (at_one _ _ _ _ _ _) rfl rfl rfl ?_
              intro wF hD hO hlD
              try simp only [Act.put, List.setIfInBounds_toArray, List.set_cons_succ, List.set_cons_zero]
              refine wpList_nil ?_
              have HKF : Hid (Kp w5 w wF jb b Fk d g a fv [(w.heap.size, [.int .i64 g.p, .int .i64 g.s, .int .i64 g.l, .int .i64 g.f]), (fB, [.int .i64 0, .int .i64 0, .int .u32 3, .slice fa j fc])] [(.slice fa j fc, frm 1 j)]) := Lib.hid (by
                have hsf := HME.out.sf
                refine ⟨HKE.out.jn.other hO HWM.out hsf.2.1 hsf.2.2 (fun b' o n c e => HME.out.fv b' o n c e), fun x hx => ?_, fun x hx => ?_, HKE.out.bel.trans (hO.below HKE.out.bel.size fun k hk => by rw [hk]; exact Nat.le_trans HKE.out.hW HWM.out), HKE.out.hW⟩
                · have h1 := HKE.out.bl x hx
                  refine ⟨h1.1.only hO ?_, by have := h1.2.1; omega, h1.2.2⟩
                  simp only [List.mem_cons, List.not_mem_nil, or_false] at hx
                  rcases hx with rfl | rfl
                  · have := HMBS.out.1; show ¬ w.heap.size = mB; omega
                  · have := HMBS.out.2; show ¬ fB = mB; omega
                · have h1 := HKE.out.il x hx
                  obtain rfl := List.mem_singleton.1 hx
                  refine ⟨h1.1.onlyF hO fun b' o n c e => ?_, fun b' o n c e => ?_⟩
                  · have := HOL.out b' o n c e; have := HMBS.out.2; omega
                  · have := h1.2 b' o n c e; exact ⟨by have := this.1; omega, this.2⟩)
              have HMF : Hid (Mid wF jb Fk fv mB a (.slice ta tn tc)) := Lib.hid (by
                refine ⟨hD, ⟨by have := HME.out.sf.1; omega, HME.out.sf.2⟩, HT2.out.onlyF hO fun b' o n c e => ?_, fun b' o n c e => ?_, HME.out.fv⟩
                · have h1 := HTL.out b' o n c e; have h2 := HJB2.out; omega
                · have h1 := HTL.out b' o n c e; have h2 := HJB2.out; exact ⟨⟨by omega, fun hf => by have := HFB2.out _ hf; omega, by omega⟩, by omega⟩)
              clear hD hO hlD HKE HME
              go_wp2_with fail
              go_meet
              exact ⟨rfl, a, _, HKF.out, HMF.out, HF2.out, HKF.out.jn.good, HKF.out.jn.seq⟩
            · have hik : k < i := by have := HBK.out; rw [beq_eq_false_iff_ne] at this; have := HKN.out; omega
              have HF2 := Lib.hid (HFR.out.2.2 hik)
              clear hik
              go_wp2_with fail
              go_meet
              exact ⟨rfl, mid, fm, HKP.out, HMD.out, HF2.out, HMG.out⟩
          case rest =>
          obtain ⟨rfl, mid2, fm2, hkp, hmd, ⟨P1, P2, hPP, hP1, hsn2⟩, hmg2⟩ := hcut
          clear HKP HMD HMG
          obtain ⟨qa, qc, hfm⟩ := hmd.fr.form
          obtain ⟨qn, hqn⟩ : ∃ n, mid2.free.length = n := ⟨_, rfl⟩
          rw [hqn] at hfm
          subst hfm
          clear hqn
          have HKP := Lib.hid hkp
          have HMD := Lib.hid hmd
          have HMG := Lib.hid hmg2
          have HX := Lib.hid HFR.out.1
          have HX2 := Lib.hid hsn2
          have HPP : Hid (P = P1 ++ P2 ∧ P1.length = ah) := Lib.hid ⟨hPP, hP1⟩
          have HSML : Hid (P.length ≤ 1000 ∧ ∀ x ∈ P, x.1.length ≤ 64 ∧ x.2.length ≤ 64) := Lib.hid ((HX.out.read (zero_nh _)).1.small HGD.out)
          have HXB : Hid (X.length ≤ 1024) := Lib.hid (by have h1 := HX.out.img.len; have h2 := HDF.out.2.2.1; have h3 := HTB.out; omega)
          have HLZ : Hid (d.L.length ≤ 1000000) := Lib.hid (by rw [HDF.out.2.1]; exact Nat.zero_le _)
          have HFT : Hid (∀ c : Ja, c.good g = true → fits g c d.S.length = true) := Lib.hid fun c hc => by
            unfold fits
            rw [hc, decide_eq_true hkp.jn.total]
            rfl
          have HAF : Hid (a.free.length ≤ 1000) := Lib.hid (by have := Ja.few hkp.jn.good; omega)
          clear hkp hmd hPP hP1 hsn2 hmg2
          go_upto_region 28 with fail
          refine wp_region_lit ?_
          refine takeL (.pointer (some ⟨b, 0, none⟩)) rfl (by go_simp) ?_
          try simp only [Act.put, List.setIfInBounds_toArray, List.set_cons_succ, List.set_cons_zero]
          refine takeL (.agg #[.int .i64 g.p, .int .i64 g.s, .int .i64 g.l, .int .i64 g.f]) rfl (by have q := (HKP.out.bl _ (.head _)).1; have q0 := q.cell (i := 0) rfl; have q1 := q.cell (i := 1) rfl; have q2 := q.cell (i := 2) rfl; have q3 := q.cell (i := 3) rfl; go_simp) ?_
          try simp only [Act.put, List.setIfInBounds_toArray, List.set_cons_succ, List.set_cons_zero]
          refine takeL (.agg #[.int .i64 0, .int .i64 0, .int .u32 3, .slice fa j fc]) rfl (by have q := (HKP.out.bl _ (.tail _ (.head _))).1; have q0 := q.cell (i := 0) rfl; have q1 := q.cell (i := 1) rfl; have q2 := q.cell (i := 2) rfl; have q3 := q.cell (i := 3) rfl; go_simp) ?_
          try simp only [Act.put, List.setIfInBounds_toArray, List.set_cons_succ, List.set_cons_zero]
          refine wpList_op rfl fun K hK => ?_
          go_simp
          refine (sread_yes (a := ⟨0, 0, 3, frm 1 j⟩) (fv := .slice fa j fc) HKP.out.jn.dv HX.out.img HXB.out HLZ.out (HFT.out _ HGD.out) (seqN 3 (by decide)) (HKP.out.il _ (.head _)).1).mono ?_
          rintro e x1 ⟨P', b1, sv1, tv1, hw1, hn1, rfl, hgs1, hf1, hb1⟩
          obtain ⟨hq1, hq2⟩ := Way.uniq (HX.out.read (zero_nh _)).1 (HX.out.read (zero_nh _)).2 hw1 hn1
          rw [hq1] at hgs1
          rw [hq2] at hf1 ⊢
          have HG10 := Lib.hid hgs1
          have HF10 := Lib.hid hf1
          have HKPm := Lib.hid (HKP.out.below hb1)
          have HMDm := Lib.hid (HMD.out.below hb1)
          obtain ⟨sa, ca, hsv⟩ := hgs1.form
          obtain ⟨na, hna⟩ : ∃ n, P.length = n := ⟨_, rfl⟩
          rw [hna] at hsv
          subst hsv
          have HNa := Lib.hid hna
          obtain ⟨ua, va, huv⟩ := hf1.form
          obtain ⟨ma, hma⟩ : ∃ n, a.free.length = n := ⟨_, rfl⟩
          rw [hma] at huv
          subst huv
          have HMa := Lib.hid hma
          clear hw1 hn1 hgs1 hf1 hb1 hq1 hq2 hna hma HKP HMD
          refine hK _ _ ?_
          clear hK K
          try simp only [Act.put, List.setIfInBounds_toArray, List.set_cons_succ, List.set_cons_zero]
          refine takeL (.tuple #[.slice sa na ca, .agg #[.int .i64 a.seg, .int .i64 a.off, .int .u32 a.seq, .slice ua ma va], .int .i64 0]) rfl (by go_simp) ?_
          try simp only [Act.put, List.setIfInBounds_toArray, List.set_cons_succ, List.set_cons_zero]
          refine takeL (.slice sa na ca) rfl (by go_simp) ?_
          try simp only [Act.put, List.setIfInBounds_toArray, List.set_cons_succ, List.set_cons_zero]
          refine takeL (.agg #[.int .i64 a.seg, .int .i64 a.off, .int .u32 a.seq, .slice ua ma va]) rfl (by go_simp) ?_
          try simp only [Act.put, List.setIfInBounds_toArray, List.set_cons_succ, List.set_cons_zero]
          refine takeL (.int .i64 0) rfl (by go_simp) ?_
          try simp only [Act.put, List.setIfInBounds_toArray, List.set_cons_succ, List.set_cons_zero]
          refine alloc_g zero40 rfl ?_
          intro x2 hA hb7 hl7
          try simp only [Act.put, List.setIfInBounds_toArray, List.set_cons_succ, List.set_cons_zero]
          refine takeL (.slice sa na ca) rfl (by go_simp) ?_
          try simp only [Act.put, List.setIfInBounds_toArray, List.set_cons_succ, List.set_cons_zero]
          refine store_all (cs := #[.int .i64 a.seg, .int .i64 a.off, .int .u32 a.seq, .slice ua ma va]) hA rfl info40 (at_one _ _ _ _ _ _) rfl rfl rfl ?_
          intro x3 hD hO hlD
          try simp only [Act.put, List.setIfInBounds_toArray, List.set_cons_succ, List.set_cons_zero]
          refine takeL (.int .i64 0) rfl (by go_simp) ?_
          try simp only [Act.put, List.setIfInBounds_toArray, List.set_cons_succ, List.set_cons_zero]
          refine wpList_nil ?_
          have hbb : Below x1.heap.size x1 x3 := hb7.trans (hO.below hb7.size fun k hk => Nat.le_of_eq hk.symm)
          have HZ1 := Lib.hid hD
          have HG1 := Lib.hid (HG10.out.below hbb)
          have HF1 := Lib.hid (HF10.out.below hbb)
          have HKPmm := Lib.hid (HKPm.out.below hbb)
          have HMDmm := Lib.hid (HMDm.out.below hbb)
          clear hA hb7 hl7 hD hO hlD hbb HG10 HF10 HKPm HMDm
          generalize x1.heap.size = za at *

          go_upto_region 29 with fail
          refine wp_region_lit ?_
          refine takeL (.pointer (some ⟨b, 0, none⟩)) rfl (by go_simp) ?_
          try simp only [Act.put, List.setIfInBounds_toArray, List.set_cons_succ, List.set_cons_zero]
          refine takeL (.agg #[.int .i64 g.p, .int .i64 g.s, .int .i64 g.l, .int .i64 g.f]) rfl (by have q := (HKPmm.out.bl _ (.head _)).1; have q0 := q.cell (i := 0) rfl; have q1 := q.cell (i := 1) rfl; have q2 := q.cell (i := 2) rfl; have q3 := q.cell (i := 3) rfl; go_simp) ?_
          try simp only [Act.put, List.setIfInBounds_toArray, List.set_cons_succ, List.set_cons_zero]
          refine takeL (.agg #[.int .i64 mid2.seg, .int .i64 mid2.off, .int .u32 mid2.seq, .slice qa qn qc]) rfl (by have q := HMDmm.out.mb; have q0 := q.cell (i := 0) rfl; have q1 := q.cell (i := 1) rfl; have q2 := q.cell (i := 2) rfl; have q3 := q.cell (i := 3) rfl; go_simp) ?_
          try simp only [Act.put, List.setIfInBounds_toArray, List.set_cons_succ, List.set_cons_zero]
          refine wpList_op rfl fun K hK => ?_
          go_simp
          refine (sread_yes (a := mid2) (fv := .slice qa qn qc) HKPmm.out.jn.dv HX2.out.img HXB.out HLZ.out (HFT.out _ HMG.out.1) (HMG.out.2) HMDmm.out.fr).mono ?_
          rintro e x4 ⟨P', b1, sv1, tv1, hw1, hn1, rfl, hgs1, hf1, hb1⟩
          obtain ⟨hq1, hq2⟩ := Way.uniq (HX2.out.read (zero_nh _)).1 (HX2.out.read (zero_nh _)).2 hw1 hn1
          rw [hq1] at hgs1
          rw [hq2] at hf1 ⊢
          have HG20 := Lib.hid hgs1
          have HF20 := Lib.hid hf1
          have HKPmmm := Lib.hid (HKPmm.out.below hb1)
          have HMDmmm := Lib.hid (HMDmm.out.below hb1)
          have HG1m := Lib.hid (HG1.out.below hb1)
          have HZ1m := Lib.hid (HZ1.out.below hb1 HZ1.out.lt)
          have HF1m := Lib.hid (HF1.out.below hb1)
          obtain ⟨sb, cb, hsv⟩ := hgs1.form
          obtain ⟨nb, hnb⟩ : ∃ n, P2.length = n := ⟨_, rfl⟩
          rw [hnb] at hsv
          subst hsv
          have HNb := Lib.hid hnb
          obtain ⟨ub, vb, huv⟩ := hf1.form
          obtain ⟨mb, hmb⟩ : ∃ n, a.free.length = n := ⟨_, rfl⟩
          rw [hmb] at huv
          subst huv
          have HMb := Lib.hid hmb
          clear hw1 hn1 hgs1 hf1 hb1 hq1 hq2 hnb hmb HKPmm HMDmm HG1 HZ1 HF1
          refine hK _ _ ?_
          clear hK K
          try simp only [Act.put, List.setIfInBounds_toArray, List.set_cons_succ, List.set_cons_zero]
          refine takeL (.tuple #[.slice sb nb cb, .agg #[.int .i64 a.seg, .int .i64 a.off, .int .u32 a.seq, .slice ub mb vb], .int .i64 0]) rfl (by go_simp) ?_
          try simp only [Act.put, List.setIfInBounds_toArray, List.set_cons_succ, List.set_cons_zero]
          refine takeL (.slice sb nb cb) rfl (by go_simp) ?_
          try simp only [Act.put, List.setIfInBounds_toArray, List.set_cons_succ, List.set_cons_zero]
          refine takeL (.agg #[.int .i64 a.seg, .int .i64 a.off, .int .u32 a.seq, .slice ub mb vb]) rfl (by go_simp) ?_
          try simp only [Act.put, List.setIfInBounds_toArray, List.set_cons_succ, List.set_cons_zero]
          refine takeL (.int .i64 0) rfl (by go_simp) ?_
          try simp only [Act.put, List.setIfInBounds_toArray, List.set_cons_succ, List.set_cons_zero]
          refine alloc_g zero40 rfl ?_
          intro x5 hA hb7 hl7
          try simp only [Act.put, List.setIfInBounds_toArray, List.set_cons_succ, List.set_cons_zero]
          refine takeL (.slice sb nb cb) rfl (by go_simp) ?_
          try simp only [Act.put, List.setIfInBounds_toArray, List.set_cons_succ, List.set_cons_zero]
          refine store_all (cs := #[.int .i64 a.seg, .int .i64 a.off, .int .u32 a.seq, .slice ub mb vb]) hA rfl info40 (at_one _ _ _ _ _ _) rfl rfl rfl ?_
          intro x6 hD hO hlD
          try simp only [Act.put, List.setIfInBounds_toArray, List.set_cons_succ, List.set_cons_zero]
          refine takeL (.int .i64 0) rfl (by go_simp) ?_
          try simp only [Act.put, List.setIfInBounds_toArray, List.set_cons_succ, List.set_cons_zero]
          refine wpList_nil ?_
          have hbb : Below x4.heap.size x4 x6 := hb7.trans (hO.below hb7.size fun k hk => Nat.le_of_eq hk.symm)
          have HZ2 := Lib.hid hD
          have HG2 := Lib.hid (HG20.out.below hbb)
          have HF2 := Lib.hid (HF20.out.below hbb)
          have HKPmmmm := Lib.hid (HKPmmm.out.below hbb)
          have HMDmmmm := Lib.hid (HMDmmm.out.below hbb)
          have HG1mm := Lib.hid (HG1m.out.below hbb)
          have HZ1mm := Lib.hid (HZ1m.out.below hbb HZ1m.out.lt)
          have HF1mm := Lib.hid (HF1m.out.below hbb)
          clear hA hb7 hl7 hD hO hlD hbb HG20 HF20 HKPmmm HMDmmm HG1m HZ1m HF1m
          generalize x4.heap.size = zb at *

          have HBL := Lib.hid HKPmmmm.out.bel
          have gsum : Hid (IntKind.i64.wrap ((ah : Int) + (nb : Int)) = (na : Int) ∧ ah + nb = na ∧ na ≤ 1000) := Lib.hid (by
            have h1 := congrArg List.length HPP.out.1
            rw [List.length_append, HPP.out.2, HNa.out, HNb.out] at h1
            have h2 := HSML.out.1
            rw [HNa.out] at h2
            exact ⟨by rw [wrap64 (by omega) (by omega)]; omega, h1.symm, h2⟩)
          clear HKPmmmm HMDmmmm
          go_upto_region 30 with fail
          refine startH (fun wq => Below x6.heap.size x6 wq) (by kernel_rfl) ?_
          have HSd : Hid (Below x6.heap.size x6 x6.drew) := Lib.hid (Below.refl _ _).drew
          generalize x6.drew = wS at *
          refine takeH 0 (some 134) (.int .i64 0) rfl rfl (by kernel_rfl) (by kernel_rfl) (by kernel_rfl) (fun _ _ _ h => h) rfl (fun wq hS => by go_simp) HSd.out ?_
          try simp only [Act.put, List.setIfInBounds_toArray, List.set_cons_succ, List.set_cons_zero]
          refine takeH 1 (some 135) (.bool false) rfl rfl (by kernel_rfl) (by kernel_rfl) (by kernel_rfl) (fun _ _ _ h => h) rfl (fun wq hS => by go_simp) HSd.out ?_
          try simp only [Act.put, List.setIfInBounds_toArray, List.set_cons_succ, List.set_cons_zero]
          refine takeH 2 (some 136) (.bool false) rfl rfl (by kernel_rfl) (by kernel_rfl) (by kernel_rfl) (fun _ _ _ h => h) rfl (fun wq hS => by go_simp) HSd.out ?_
          try simp only [Act.put, List.setIfInBounds_toArray, List.set_cons_succ, List.set_cons_zero]
          refine takeH 3 (some 137) (.int .i64 0) rfl rfl (by kernel_rfl) (by kernel_rfl) (by kernel_rfl) (fun _ _ _ h => h) rfl (fun wq hS => by go_simp) HSd.out ?_
          try simp only [Act.put, List.setIfInBounds_toArray, List.set_cons_succ, List.set_cons_zero]
          refine takeH 4 (some 138) (.bool false) rfl rfl (by kernel_rfl) (by kernel_rfl) (by kernel_rfl) (fun _ _ _ h => h) rfl (fun wq hS => by go_simp) HSd.out ?_
          try simp only [Act.put, List.setIfInBounds_toArray, List.set_cons_succ, List.set_cons_zero]
          refine takeH 5 (some 139) (.bool false) rfl rfl (by kernel_rfl) (by kernel_rfl) (by kernel_rfl) (fun _ _ _ h => h) rfl (fun wq hS => by go_simp) HSd.out ?_
          try simp only [Act.put, List.setIfInBounds_toArray, List.set_cons_succ, List.set_cons_zero]
          refine takeH 6 (some 140) (.bool false) rfl rfl (by kernel_rfl) (by kernel_rfl) (by kernel_rfl) (fun _ _ _ h => h) rfl (fun wq hS => by go_simp) HSd.out ?_
          try simp only [Act.put, List.setIfInBounds_toArray, List.set_cons_succ, List.set_cons_zero]
          refine takeH 7 (some 141) (.slice sa na ca) rfl rfl (by kernel_rfl) (by kernel_rfl) (by kernel_rfl) (fun _ _ _ h => h) rfl (fun wq hS => by go_simp) HSd.out ?_
          try simp only [Act.put, List.setIfInBounds_toArray, List.set_cons_succ, List.set_cons_zero]
          refine takeH 8 (some 142) (.int .i64 na) rfl rfl (by kernel_rfl) (by kernel_rfl) (by kernel_rfl) (fun _ _ _ h => h) rfl (fun wq hS => by go_simp) HSd.out ?_
          try simp only [Act.put, List.setIfInBounds_toArray, List.set_cons_succ, List.set_cons_zero]
          refine takeH 9 (some 143) (.int .i64 ah) rfl rfl (by kernel_rfl) (by kernel_rfl) (by kernel_rfl) (fun _ _ _ h => h) rfl (fun wq hS => by go_simp) HSd.out ?_
          try simp only [Act.put, List.setIfInBounds_toArray, List.set_cons_succ, List.set_cons_zero]
          refine takeH 10 (some 144) (.slice sb nb cb) rfl rfl (by kernel_rfl) (by kernel_rfl) (by kernel_rfl) (fun _ _ _ h => h) rfl (fun wq hS => by go_simp) HSd.out ?_
          try simp only [Act.put, List.setIfInBounds_toArray, List.set_cons_succ, List.set_cons_zero]
          refine takeH 11 (some 145) (.int .i64 nb) rfl rfl (by kernel_rfl) (by kernel_rfl) (by kernel_rfl) (fun _ _ _ h => h) rfl (fun wq hS => by go_simp) HSd.out ?_
          try simp only [Act.put, List.setIfInBounds_toArray, List.set_cons_succ, List.set_cons_zero]
          refine takeH 12 (some 146) (.int .i64 na) rfl rfl (by kernel_rfl) (by kernel_rfl) (by kernel_rfl) (fun _ _ _ h => h) rfl (fun wq hS => by have z := gsum.out.1; go_simp) HSd.out ?_
          try simp only [Act.put, List.setIfInBounds_toArray, List.set_cons_succ, List.set_cons_zero]
          refine takeH 13 (some 147) (.bool false) rfl rfl (by kernel_rfl) (by kernel_rfl) (by kernel_rfl) (fun _ _ _ h => h) rfl (fun wq hS => by go_simp) HSd.out ?_
          try simp only [Act.put, List.setIfInBounds_toArray, List.set_cons_succ, List.set_cons_zero]
          refine takeH 14 (some 148) (.bool false) rfl rfl (by kernel_rfl) (by kernel_rfl) (by kernel_rfl) (fun _ _ _ h => h) rfl (fun wq hS => by go_simp) HSd.out ?_
          try simp only [Act.put, List.setIfInBounds_toArray, List.set_cons_succ, List.set_cons_zero]
          refine takeH 15 (some 149) (.bool false) rfl rfl (by kernel_rfl) (by kernel_rfl) (by kernel_rfl) (fun _ _ _ h => h) rfl (fun wq hS => by go_simp) HSd.out ?_
          try simp only [Act.put, List.setIfInBounds_toArray, List.set_cons_succ, List.set_cons_zero]
          refine takeH 16 (some 150) (.agg #[.int .i64 a.seg, .int .i64 a.off, .int .u32 a.seq, .slice ua ma va]) rfl rfl (by kernel_rfl) (by kernel_rfl) (by kernel_rfl) (fun _ _ _ h => h) rfl (fun wq hS => by have q := (HZ1mm.out.below hS HZ1mm.out.lt); have q0 := q.cell (i := 0) rfl; have q1 := q.cell (i := 1) rfl; have q2 := q.cell (i := 2) rfl; have q3 := q.cell (i := 3) rfl; go_simp) HSd.out ?_
          try simp only [Act.put, List.setIfInBounds_toArray, List.set_cons_succ, List.set_cons_zero]
          refine takeH 17 (some 151) (.agg #[.int .i64 a.seg, .int .i64 a.off, .int .u32 a.seq, .slice ub mb vb]) rfl rfl (by kernel_rfl) (by kernel_rfl) (by kernel_rfl) (fun _ _ _ h => h) rfl (fun wq hS => by have q := (HZ2.out.below hS HZ2.out.lt); have q0 := q.cell (i := 0) rfl; have q1 := q.cell (i := 1) rfl; have q2 := q.cell (i := 2) rfl; have q3 := q.cell (i := 3) rfl; go_simp) HSd.out ?_
          try simp only [Act.put, List.setIfInBounds_toArray, List.set_cons_succ, List.set_cons_zero]
          refine oneH 18 (by kernel_rfl) rfl rfl fun K hK => ?_
          go_simp
          refine (lown_any a (.slice ub mb vb) (by have := HAF.out; omega) (HF2.out.below HSd.out)).mono ?_
          rintro e wU ⟨tv, rfl, ho, hb⟩
          have SU := Lib.hid (stay HSd.out hb)
          have HOI := Lib.hid ho.ints
          obtain ⟨ta, tc, htv⟩ := ho.ints.form
          rw [HMb.out] at htv
          subst htv
          clear ho hb
          refine hK _ _ SU.out ?_
          clear hK K
          try simp only [Act.put, List.setIfInBounds_toArray, List.set_cons_succ, List.set_cons_zero]
          refine oneH 19 (by kernel_rfl) rfl rfl fun K hK => ?_
          go_simp
          refine (same_yes a (.slice ua ma va) _ HAF.out (HF1mm.out.below SU.out) HOI.out).mono ?_
          rintro e wV ⟨rfl, hb⟩
          have SV := Lib.hid (stay SU.out hb)
          refine hK _ _ SV.out ?_
          clear hK K hb
          try simp only [Act.put, List.setIfInBounds_toArray, List.set_cons_succ, List.set_cons_zero]
          refine takeH 20 (some 154) (.bool false) rfl rfl (by kernel_rfl) (by kernel_rfl) (by kernel_rfl) (fun _ _ _ h => h) rfl (fun wq hS => by go_simp) SV.out ?_
          try simp only [Act.put, List.setIfInBounds_toArray, List.set_cons_succ, List.set_cons_zero]
          refine takeH 21 (some 155) (.bool false) rfl rfl (by kernel_rfl) (by kernel_rfl) (by kernel_rfl) (fun _ _ _ h => h) rfl (fun wq hS => by go_simp) SV.out ?_
          try simp only [Act.put, List.setIfInBounds_toArray, List.set_cons_succ, List.set_cons_zero]
          refine wpAnyH_done (by kernel_rfl) ?_ _
          have HGA := Lib.hid (HG1mm.out.below SV.out)
          have HGB := Lib.hid (HG2.out.below SV.out)
          have HBV := Lib.hid (stay HBL.out SV.out)
          clear HG1mm HG2 HSd SU SV HOI HZ1mm HZ2 HF1mm HF2 HBL
          go_wp2_with fail
          go_loopg [26] nb (fun q u26 wr => ∃ r : Nat, u26 = .int .i64 (r : Int) ∧ nb - r ≤ q ∧ r ≤ nb ∧ Below wV.heap.size wV wr)
          case atStart => exact ⟨0, rfl, by omega, by omega, Below.refl _ _⟩
          case round =>
            obtain ⟨r, rfl, hq, hr, hb⟩ := hrel
            have HBR := Lib.hid hb
            have HA := Lib.hid (HGA.out.below hb)
            have HB := Lib.hid (HGB.out.below hb)
            clear hb
            by_cases hrn : r < nb
            · have dr : decide ((r : Int) < (nb : Int)) = true := decide_eq_true (by omega)
              have gri : (r : Int) < (nb : Int) := by omega
              obtain ⟨x, hx⟩ : ∃ x, P2[r]? = some x := ⟨_, List.getElem?_eq_getElem (by rw [HNb.out]; exact hrn)⟩
              have hx1 : P[ah + r]? = some x := by rw [HPP.out.1, List.getElem?_append_right (by rw [HPP.out.2]; omega), HPP.out.2, Nat.add_sub_cancel_left]; exact hx
              have hxs := HSML.out.2 x (List.mem_of_getElem? hx1)
              obtain ⟨q, hqq⟩ : ∃ q, ah + r = q := ⟨_, rfl⟩
              rw [hqq] at hx1
              obtain ⟨g1, k1, iv1, pv1, pl1, e1, -, p1, p2, p3, p4, p5⟩ := HA.out.at hx1
              obtain ⟨g2, k2, iv2, pv2, pl2, e2, -, r1, r2, r3, r4, r5⟩ := HB.out.at hx
              injection e1 with e11 e12 e13
              injection e2 with e21 e22 e23
              subst e11
              subst e21
              subst e13
              subst e23
              obtain ⟨ia1, ic1, hi1⟩ := items_one p3
              obtain ⟨ia2, ic2, hi2⟩ := items_one r3
              obtain ⟨pa1, pc1, hp1⟩ := p5.form
              obtain ⟨pa2, pc2, hp2⟩ := r5.form
              obtain ⟨l1, hl1⟩ : ∃ n, pl1.length = n := ⟨_, rfl⟩
              obtain ⟨l2, hl2⟩ : ∃ n, pl2.length = n := ⟨_, rfl⟩
              obtain ⟨l3, hl3⟩ : ∃ n, x.2.length = n := ⟨_, rfl⟩
              rw [hl1] at hi1
              rw [hl2] at hi2
              rw [hl3] at hp1 hp2
              subst hi1
              subst hi2
              subst hp1
              subst hp2
              have HLL2 : Hid (pl1.length ≤ 100000 ∧ pl2.length ≤ 100000 ∧ x.2.length ≤ 1000) := Lib.hid (by
                have h1 := congrArg List.length p4
                have h2 := congrArg List.length r4
                rw [List.length_map] at h1 h2
                exact ⟨by omega, by omega, by omega⟩)
              have gq : Hid (IntKind.i64.wrap ((ah : Int) + (r : Int)) = (q : Int)) := Lib.hid (by have := gsum.out.2; rw [wrap64 (by omega) (by omega)]; omega)
              have gqn : (q : Int) < (na : Int) := by have := gsum.out.2; omega
              have K1 := Lib.hid p1
              have K2 := Lib.hid p2
              have K3 := Lib.hid p3
              have K5 := Lib.hid p5
              have J1 := Lib.hid r1
              have J2 := Lib.hid r2
              have J3 := Lib.hid r3
              have J5 := Lib.hid r5
              have HSM := Lib.hid (sameIts_yes (p4.trans r4.symm))
              clear p1 p2 p3 p4 p5 r1 r2 r3 r4 r5 hx hx1 hxs hl1 hl2 hl3 e12 e22 HA HB
              go_upto_region 35 with fail
              refine startH (fun wq => Below wr.heap.size wr wq) (by kernel_rfl) ?_
              have HSd : Hid (Below wr.heap.size wr wr.drew) := Lib.hid (Below.refl _ _).drew
              generalize wr.drew = wS2 at *
              refine takeH 0 (some 162) (.slice (some ⟨g1, 0, none⟩) na ca) rfl rfl (by kernel_rfl) (by kernel_rfl) (by kernel_rfl) (fun _ _ _ h => h) rfl (fun wq hS => by go_simp) HSd.out ?_
              try simp only [Act.put, List.setIfInBounds_toArray, List.set_cons_succ, List.set_cons_zero]
              refine takeH 1 (some 163) (.int .i64 ah) rfl rfl (by kernel_rfl) (by kernel_rfl) (by kernel_rfl) (fun _ _ _ h => h) rfl (fun wq hS => by go_simp) HSd.out ?_
              try simp only [Act.put, List.setIfInBounds_toArray, List.set_cons_succ, List.set_cons_zero]
              refine takeH 2 (some 164) (.int .i64 r) rfl rfl (by kernel_rfl) (by kernel_rfl) (by kernel_rfl) (fun _ _ _ h => h) rfl (fun wq hS => by go_simp) HSd.out ?_
              try simp only [Act.put, List.setIfInBounds_toArray, List.set_cons_succ, List.set_cons_zero]
              refine takeH 3 (some 165) (.int .i64 q) rfl rfl (by kernel_rfl) (by kernel_rfl) (by kernel_rfl) (fun _ _ _ h => h) rfl (fun wq hS => by have z := gq.out; go_simp) HSd.out ?_
              try simp only [Act.put, List.setIfInBounds_toArray, List.set_cons_succ, List.set_cons_zero]
              refine takeH 4 (some 166) (.pointer (some ⟨g1, q * 2, none⟩)) rfl rfl (by kernel_rfl) (by kernel_rfl) (by kernel_rfl) (fun _ _ _ h => h) rfl (fun wq hS => by go_simp) HSd.out ?_
              try simp only [Act.put, List.setIfInBounds_toArray, List.set_cons_succ, List.set_cons_zero]
              refine takeH 5 (some 167) (.pointer (some ⟨g1, q * 2, none⟩)) rfl rfl (by kernel_rfl) (by kernel_rfl) (by kernel_rfl) (fun _ _ _ h => h) rfl (fun wq hS => by go_simp) HSd.out ?_
              try simp only [Act.put, List.setIfInBounds_toArray, List.set_cons_succ, List.set_cons_zero]
              refine takeH 6 (some 168) (.slice ia1 l1 ic1) rfl rfl (by kernel_rfl) (by kernel_rfl) (by kernel_rfl) (fun _ _ _ h => h) rfl (fun wq hS => by have z := cell_bel K1.out hS; go_simp) HSd.out ?_
              try simp only [Act.put, List.setIfInBounds_toArray, List.set_cons_succ, List.set_cons_zero]
              refine takeH 7 (some 169) (.slice (some ⟨g2, 0, none⟩) nb cb) rfl rfl (by kernel_rfl) (by kernel_rfl) (by kernel_rfl) (fun _ _ _ h => h) rfl (fun wq hS => by go_simp) HSd.out ?_
              try simp only [Act.put, List.setIfInBounds_toArray, List.set_cons_succ, List.set_cons_zero]
              refine takeH 8 (some 170) (.int .i64 r) rfl rfl (by kernel_rfl) (by kernel_rfl) (by kernel_rfl) (fun _ _ _ h => h) rfl (fun wq hS => by go_simp) HSd.out ?_
              try simp only [Act.put, List.setIfInBounds_toArray, List.set_cons_succ, List.set_cons_zero]
              refine takeH 9 (some 171) (.pointer (some ⟨g2, r * 2, none⟩)) rfl rfl (by kernel_rfl) (by kernel_rfl) (by kernel_rfl) (fun _ _ _ h => h) rfl (fun wq hS => by go_simp) HSd.out ?_
              try simp only [Act.put, List.setIfInBounds_toArray, List.set_cons_succ, List.set_cons_zero]
              refine takeH 10 (some 172) (.pointer (some ⟨g2, r * 2, none⟩)) rfl rfl (by kernel_rfl) (by kernel_rfl) (by kernel_rfl) (fun _ _ _ h => h) rfl (fun wq hS => by go_simp) HSd.out ?_
              try simp only [Act.put, List.setIfInBounds_toArray, List.set_cons_succ, List.set_cons_zero]
              refine takeH 11 (some 173) (.slice ia2 l2 ic2) rfl rfl (by kernel_rfl) (by kernel_rfl) (by kernel_rfl) (fun _ _ _ h => h) rfl (fun wq hS => by have z := cell_bel J1.out hS; go_simp) HSd.out ?_
              try simp only [Act.put, List.setIfInBounds_toArray, List.set_cons_succ, List.set_cons_zero]
              refine oneH 12 (by kernel_rfl) rfl rfl fun K hK => ?_
              go_simp
              refine (items_any _ _ pl1 pl2 HLL2.out.1 HLL2.out.2.1 _ (K3.out.below HSd.out) (J3.out.below HSd.out)).mono ?_
              rintro e wU ⟨rfl, hb⟩
              rw [HSM.out]
              have SU := Lib.hid (stay HSd.out hb)
              refine hK _ _ SU.out ?_
              clear hK K hb
              try simp only [Act.put, List.setIfInBounds_toArray, List.set_cons_succ, List.set_cons_zero]
              refine takeH 13 (some 175) (.bool false) rfl rfl (by kernel_rfl) (by kernel_rfl) (by kernel_rfl) (fun _ _ _ h => h) rfl (fun wq hS => by go_simp) SU.out ?_
              try simp only [Act.put, List.setIfInBounds_toArray, List.set_cons_succ, List.set_cons_zero]
              refine takeH 14 (some 176) (.bool false) rfl rfl (by kernel_rfl) (by kernel_rfl) (by kernel_rfl) (fun _ _ _ h => h) rfl (fun wq hS => by go_simp) SU.out ?_
              try simp only [Act.put, List.setIfInBounds_toArray, List.set_cons_succ, List.set_cons_zero]
              refine takeH 15 (some 177) (.slice (some ⟨g1, 0, none⟩) na ca) rfl rfl (by kernel_rfl) (by kernel_rfl) (by kernel_rfl) (fun _ _ _ h => h) rfl (fun wq hS => by go_simp) SU.out ?_
              try simp only [Act.put, List.setIfInBounds_toArray, List.set_cons_succ, List.set_cons_zero]
              refine takeH 16 (some 178) (.int .i64 ah) rfl rfl (by kernel_rfl) (by kernel_rfl) (by kernel_rfl) (fun _ _ _ h => h) rfl (fun wq hS => by go_simp) SU.out ?_
              try simp only [Act.put, List.setIfInBounds_toArray, List.set_cons_succ, List.set_cons_zero]
              refine takeH 17 (some 179) (.int .i64 r) rfl rfl (by kernel_rfl) (by kernel_rfl) (by kernel_rfl) (fun _ _ _ h => h) rfl (fun wq hS => by go_simp) SU.out ?_
              try simp only [Act.put, List.setIfInBounds_toArray, List.set_cons_succ, List.set_cons_zero]
              refine takeH 18 (some 180) (.int .i64 q) rfl rfl (by kernel_rfl) (by kernel_rfl) (by kernel_rfl) (fun _ _ _ h => h) rfl (fun wq hS => by have z := gq.out; go_simp) SU.out ?_
              try simp only [Act.put, List.setIfInBounds_toArray, List.set_cons_succ, List.set_cons_zero]
              refine takeH 19 (some 181) (.pointer (some ⟨g1, q * 2, none⟩)) rfl rfl (by kernel_rfl) (by kernel_rfl) (by kernel_rfl) (fun _ _ _ h => h) rfl (fun wq hS => by go_simp) SU.out ?_
              try simp only [Act.put, List.setIfInBounds_toArray, List.set_cons_succ, List.set_cons_zero]
              refine takeH 20 (some 182) (.pointer (some ⟨g1, q * 2 + 1, none⟩)) rfl rfl (by kernel_rfl) (by kernel_rfl) (by kernel_rfl) (fun _ _ _ h => h) rfl (fun wq hS => by go_simp) SU.out ?_
              try simp only [Act.put, List.setIfInBounds_toArray, List.set_cons_succ, List.set_cons_zero]
              refine takeH 21 (some 183) (.slice pa1 l3 pc1) rfl rfl (by kernel_rfl) (by kernel_rfl) (by kernel_rfl) (fun _ _ _ h => h) rfl (fun wq hS => by have z := cell_bel K2.out hS; go_simp) SU.out ?_
              try simp only [Act.put, List.setIfInBounds_toArray, List.set_cons_succ, List.set_cons_zero]
              refine takeH 22 (some 184) (.slice (some ⟨g2, 0, none⟩) nb cb) rfl rfl (by kernel_rfl) (by kernel_rfl) (by kernel_rfl) (fun _ _ _ h => h) rfl (fun wq hS => by go_simp) SU.out ?_
              try simp only [Act.put, List.setIfInBounds_toArray, List.set_cons_succ, List.set_cons_zero]
              refine takeH 23 (some 185) (.int .i64 r) rfl rfl (by kernel_rfl) (by kernel_rfl) (by kernel_rfl) (fun _ _ _ h => h) rfl (fun wq hS => by go_simp) SU.out ?_
              try simp only [Act.put, List.setIfInBounds_toArray, List.set_cons_succ, List.set_cons_zero]
              refine takeH 24 (some 186) (.pointer (some ⟨g2, r * 2, none⟩)) rfl rfl (by kernel_rfl) (by kernel_rfl) (by kernel_rfl) (fun _ _ _ h => h) rfl (fun wq hS => by go_simp) SU.out ?_
              try simp only [Act.put, List.setIfInBounds_toArray, List.set_cons_succ, List.set_cons_zero]
              refine takeH 25 (some 187) (.pointer (some ⟨g2, r * 2 + 1, none⟩)) rfl rfl (by kernel_rfl) (by kernel_rfl) (by kernel_rfl) (fun _ _ _ h => h) rfl (fun wq hS => by go_simp) SU.out ?_
              try simp only [Act.put, List.setIfInBounds_toArray, List.set_cons_succ, List.set_cons_zero]
              refine takeH 26 (some 188) (.slice pa2 l3 pc2) rfl rfl (by kernel_rfl) (by kernel_rfl) (by kernel_rfl) (fun _ _ _ h => h) rfl (fun wq hS => by have z := cell_bel J2.out hS; go_simp) SU.out ?_
              try simp only [Act.put, List.setIfInBounds_toArray, List.set_cons_succ, List.set_cons_zero]
              refine oneH 27 (by kernel_rfl) rfl rfl fun K hK => ?_
              go_simp
              refine (ints_any x.2 x.2 HLL2.out.2.2 HLL2.out.2.2 _ _ _ (K5.out.below SU.out) (J5.out.below SU.out)).mono ?_
              rintro e wW ⟨rfl, hb⟩
              rw [decide_eq_true rfl]
              have SW := Lib.hid (stay SU.out hb)
              refine hK _ _ SW.out ?_
              clear hK K hb
              try simp only [Act.put, List.setIfInBounds_toArray, List.set_cons_succ, List.set_cons_zero]
              refine takeH 28 (some 190) (.bool false) rfl rfl (by kernel_rfl) (by kernel_rfl) (by kernel_rfl) (fun _ _ _ h => h) rfl (fun wq hS => by go_simp) SW.out ?_
              try simp only [Act.put, List.setIfInBounds_toArray, List.set_cons_succ, List.set_cons_zero]
              refine takeH 29 (some 191) (.bool false) rfl rfl (by kernel_rfl) (by kernel_rfl) (by kernel_rfl) (fun _ _ _ h => h) rfl (fun wq hS => by go_simp) SW.out ?_
              try simp only [Act.put, List.setIfInBounds_toArray, List.set_cons_succ, List.set_cons_zero]
              refine wpAnyH_done (by kernel_rfl) ?_ _
              have HBE2 := Lib.hid (stay HBR.out SW.out)
              have grr : IntKind.i64.wrap ((r : Int) + 1) = ((r + 1 : Nat) : Int) := by have := gsum.out.2; rw [wrap64 (by omega) (by omega)]; push_cast; rfl
              clear HSd SU SW
              go_wp2_with fail
              go_roundg (nb - (r + 1))
              case measure => omega
              case rel => exact ⟨r + 1, by go_num, by omega, by omega, HBE2.out⟩
            · obtain rfl : r = nb := by omega
              have dr : decide ((r : Int) < (r : Int)) = false := decide_eq_false (by omega)
              have HBF := Lib.hid (stay HBV.out HBR.out)
              go_wp2_with fail
              refine (wakes_any (Vars.below (Nat.le_refl _) HBF.out HV.out)).mono ?_
              rintro e w4 ⟨rfl, hb⟩
              have HB4 := Lib.hid (stay HBF.out hb)
              clear hb
              go_wp2_with fail
              go_ret
              exact ⟨rfl, HB4.out⟩
end

end Go.Proofs.YthlnmdihdcfphaaGreatDoor
