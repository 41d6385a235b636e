/- The reference's journal: Next. -/
import Derived.Test.YtmlniannilnmhaaGreatDoorRa
namespace Go.Proofs.YtmlniannilnmhaaGreatDoor
set_option linter.unusedSimpArgs false
set_option linter.unusedVariables false
open Go.RowKit

section
variable {w : World}
/-- Where the next group goes, told by the reference. -/
def NextOut (w : World) (g : Pl.Gm) (a : Ja) (n : Nat) (e : Ending) (w' : World) : Prop :=
  (nextP g a n = none ∧ ∃ ta tc, e = .returned (.tuple #[.agg #[.int .i64 a.seg, .int .i64 a.off, .int .u32 a.seq, .slice ta 0 tc], .bool false])) ∨
  (∃ a1 tv, nextP g a n = some a1 ∧ e = .returned (.tuple #[.agg #[.int .i64 a1.seg, .int .i64 a1.off, .int .u32 a1.seq, tv], .bool true]) ∧ IntsAt w' tv a1.free ∧ (∀ b o n c, tv = .slice (some ⟨b, o, none⟩) n c → w.heap.size ≤ b ∧ b < w'.heap.size) ∧ ∀ q n c, tv = .slice q n c → n ≤ c)
set_option maxRecDepth 100000 in
set_option maxHeartbeats 2000000 in
theorem rnext_any (g : Pl.Gm) (a : Ja) (fv : Value) (hg : a.good g = true) (h : IntsAt w fv a.free) (n : Nat) : Calls Tryz.prog 49 #[g.v, .agg #[.int .i64 a.seg, .int .i64 a.off, .int .u32 a.seq, fv], .int .i64 n] w fun e w' => NextOut w g a n e w' ∧ Below w.heap.size w w' := by
  have hfew := Ja.few hg
  have hgp := Ja.good_parts hg
  have hgl := hgp.1.2.2.1
  have gsub : IntKind.i64.wrap (g.l - a.off) = g.l - a.off := wrap64 (by omega) (by omega)
  have HI := Lib.hid h
  have HFW := Lib.hid hfew
  obtain ⟨fa, fc, hfv⟩ := h.form
  obtain ⟨m, hm⟩ : ∃ m, a.free.length = m := ⟨_, rfl⟩
  rw [hm] at hfv
  subst hfv
  have HM := Lib.hid hm
  clear hg hgp hgl h hm hfew
  go_enter Tryz.func49, Tryz.ntmps49
  go_upto_region 0 with fail
  refine wp_region_lit ?_
  refine box_g rfl rfl ?_
  try simp only [Act.put, List.setIfInBounds_toArray, List.set_cons_succ, List.set_cons_zero]
  intro w1 hV hb hl
  try simp only [Act.put, List.setIfInBounds_toArray, List.set_cons_succ, List.set_cons_zero]
  have HG1 := Lib.hid hV
  have HB1 := Lib.hid hb
  have HL1 : Hid (w.heap.size < w1.heap.size) := Lib.hid hl
  clear hV hb hl
  refine box_g rfl rfl ?_
  try simp only [Act.put, List.setIfInBounds_toArray, List.set_cons_succ, List.set_cons_zero]
  intro w2 hV hb hl
  try simp only [Act.put, List.setIfInBounds_toArray, List.set_cons_succ, List.set_cons_zero]
  have HV2 := Lib.hid hV
  have HG2 := Lib.hid (HG1.out.below hb HG1.out.lt)
  have HB2 := Lib.hid (stay HB1.out hb)
  have HL2 : Hid (w.heap.size < w1.heap.size ∧ w1.heap.size < w2.heap.size) := Lib.hid ⟨HL1.out, hl⟩
  clear hV hb hl HG1 HB1 HL1
  generalize w1.heap.size = v at *
  refine alloc_g zero47 rfl ?_
  intro w3 hR hb hl
  try simp only [Act.put, List.setIfInBounds_toArray, List.set_cons_succ, List.set_cons_zero]
  have HR3 := Lib.hid hR
  have HV3 := Lib.hid (HV2.out.below hb HV2.out.lt)
  have HG3 := Lib.hid (HG2.out.below hb HG2.out.lt)
  have HB3 := Lib.hid (stay HB2.out hb)
  have HL3 : Hid (w.heap.size < v ∧ v < w2.heap.size ∧ w2.heap.size < w3.heap.size) := Lib.hid ⟨HL2.out.1, HL2.out.2, hl⟩
  clear hR hb hl HG2 HB2 HL2 HV2
  generalize w2.heap.size = r at *
  refine takeL (.bool false) rfl (by go_simp) ?_
  try simp only [Act.put, List.setIfInBounds_toArray, List.set_cons_succ, List.set_cons_zero]
  refine wpList_nil ?_
  go_upto_region 1 with fail
  refine wp_region_lit ?_
  refine takeL (.agg #[.int .i64 a.seg, .int .i64 a.off, .int .u32 a.seq, .slice fa m fc]) rfl (by have q0 := HV3.out.cell (i := 0) rfl; have q1 := HV3.out.cell (i := 1) rfl; have q2 := HV3.out.cell (i := 2) rfl; have q3 := HV3.out.cell (i := 3) rfl; go_simp) ?_
  try simp only [Act.put, List.setIfInBounds_toArray, List.set_cons_succ, List.set_cons_zero]
  refine wpList_op rfl fun K hK => ?_
  go_simp
  refine (rcopy_any a (.slice fa m fc) (by have := HFW.out; omega) (HI.out.below HB3.out)).mono ?_
  rintro e w4 ⟨tv, rfl, ho, hb⟩
  have HV4 := Lib.hid (HV3.out.below hb HV3.out.lt)
  have HR4 := Lib.hid (HR3.out.below hb HR3.out.lt)
  have HG4 := Lib.hid (HG3.out.below hb HG3.out.lt)
  have HB4 := Lib.hid (stay HB3.out hb)
  have HO4 := Lib.hid ho
  obtain ⟨ta, tc, htv⟩ := ho.ints.form
  rw [HM.out] at htv
  subst htv
  have HCP := Lib.hid (ho.cp _ _ _ rfl)
  clear ho hb HV3 HR3 HG3 HB3
  refine hK _ _ ?_
  clear hK K
  try simp only [Act.put, List.setIfInBounds_toArray, List.set_cons_succ, List.set_cons_zero]
  refine store_all (cs := #[.int .i64 a.seg, .int .i64 a.off, .int .u32 a.seq, .slice ta m tc]) HV4.out rfl info47 (at_one _ _ _ _ _ _) rfl rfl rfl ?_
  intro w5 hD hO hlD
  try simp only [Act.put, List.setIfInBounds_toArray, List.set_cons_succ, List.set_cons_zero]
  have HV5 := Lib.hid hD
  have HR5 := Lib.hid (HR4.out.only hO (by have := HL3.out; omega))
  have HG5 := Lib.hid (HG4.out.only hO (by have := HL3.out; omega))
  have HO5 := Lib.hid (HO4.out.onlyN hO (by have := HL3.out; omega))
  have HB5 := Lib.hid (HB4.out.trans (hO.below HB4.out.size fun k hk => by rw [hk]; have := HL3.out; omega))
  have HBL : Hid (∀ b o n c, Value.slice ta m tc = .slice (some ⟨b, o, none⟩) n c → w.heap.size ≤ b ∧ b < w5.heap.size ∧ r < b) := Lib.hid fun b o n c e => by
    have h1 := HO4.out.lt b (by rw [e]; rfl)
    have := HL3.out
    exact ⟨by omega, by rw [hlD]; exact h1.2, by omega⟩
  clear hD hO hlD HV4 HR4 HG4 HB4 HO4
  refine wpList_nil ?_
  have g2 := HG5.out.cell (i := 2) rfl
  have v1 := HV5.out.cell (i := 1) rfl
  by_cases hn : (n : Int) ≤ g.l - a.off
  · have dn : decide ((n : Int) ≤ g.l - a.off) = true := decide_eq_true hn
    have HNX : Hid (nextP g a n = some a) := Lib.hid (by unfold nextP; rw [if_pos hn])
    clear hn
    go_upto_region 3 with fail
    refine wp_region_lit ?_
    refine takeL (.agg #[.int .i64 a.seg, .int .i64 a.off, .int .u32 a.seq, .slice ta m tc]) rfl (by have q0 := HV5.out.cell (i := 0) rfl; have q1 := HV5.out.cell (i := 1) rfl; have q2 := HV5.out.cell (i := 2) rfl; have q3 := HV5.out.cell (i := 3) rfl; go_simp) ?_
    try simp only [Act.put, List.setIfInBounds_toArray, List.set_cons_succ, List.set_cons_zero]
    refine store_all (cs := #[.int .i64 a.seg, .int .i64 a.off, .int .u32 a.seq, .slice ta m tc]) HR5.out rfl info47 (at_one _ _ _ _ _ _) rfl rfl rfl ?_
    intro w6 hD hO hlD
    try simp only [Act.put, List.setIfInBounds_toArray, List.set_cons_succ, List.set_cons_zero]
    have HD := Lib.hid hD
    have HO6 := Lib.hid (HO5.out.ints.only hO fun b o k c e => by have := HBL.out b o k c e; omega)
    have HB6 := Lib.hid (HB5.out.trans (hO.below HB5.out.size fun k hk => by rw [hk]; have := HL3.out; omega))
    have HBL6 : Hid (∀ b o n c, Value.slice ta m tc = .slice (some ⟨b, o, none⟩) n c → w.heap.size ≤ b ∧ b < w6.heap.size) := Lib.hid fun b o n c e => by have := HBL.out b o n c e; exact ⟨this.1, by rw [hlD]; exact this.2.1⟩
    clear hD hO hlD g2 v1
    refine takeL (.bool true) rfl (by go_simp) ?_
    try simp only [Act.put, List.setIfInBounds_toArray, List.set_cons_succ, List.set_cons_zero]
    refine wpList_nil ?_
    go_wp2_with fail
    refine bodyPost_ret (v := .tuple #[.agg #[.int .i64 a.seg, .int .i64 a.off, .int .u32 a.seq, .slice ta m tc], .bool true]) (De.results_cell_tmp rfl _ _ r 0 _ _ _ rfl rfl Tryz.underlying47 rfl info47 (HD.out.all rfl)) rfl ⟨.inr ⟨a, _, HNX.out, rfl, HO6.out, HBL6.out, fun q n c e => by cases e; exact HCP.out⟩, HB6.out⟩
  have dn : decide ((n : Int) ≤ g.l - a.off) = false := decide_eq_false hn
  have v3 := HV5.out.cell (i := 3) rfl
  cases hfr : a.free with
  | nil =>
    have hm0 : m = 0 := by rw [← HM.out, hfr]; rfl
    subst hm0
    have HNX : Hid (nextP g a n = none) := Lib.hid (by unfold nextP; rw [if_neg hn, hfr])
    clear hn
    go_upto_region 5 with fail
    refine wp_region_lit ?_
    refine takeL (.agg #[.int .i64 a.seg, .int .i64 a.off, .int .u32 a.seq, .slice ta 0 tc]) rfl (by have q0 := HV5.out.cell (i := 0) rfl; have q1 := HV5.out.cell (i := 1) rfl; have q2 := HV5.out.cell (i := 2) rfl; have q3 := HV5.out.cell (i := 3) rfl; go_simp) ?_
    try simp only [Act.put, List.setIfInBounds_toArray, List.set_cons_succ, List.set_cons_zero]
    refine store_all (cs := #[.int .i64 a.seg, .int .i64 a.off, .int .u32 a.seq, .slice ta 0 tc]) HR5.out rfl info47 (at_one _ _ _ _ _ _) rfl rfl rfl ?_
    intro w6 hD hO hlD
    try simp only [Act.put, List.setIfInBounds_toArray, List.set_cons_succ, List.set_cons_zero]
    have HD := Lib.hid hD
    have HB6 := Lib.hid (HB5.out.trans (hO.below HB5.out.size fun k hk => by rw [hk]; have := HL3.out; omega))
    clear hD hO hlD g2 v1 v3
    refine takeL (.bool false) rfl (by go_simp) ?_
    try simp only [Act.put, List.setIfInBounds_toArray, List.set_cons_succ, List.set_cons_zero]
    refine wpList_nil ?_
    go_wp2_with fail
    refine bodyPost_ret (v := .tuple #[.agg #[.int .i64 a.seg, .int .i64 a.off, .int .u32 a.seq, .slice ta 0 tc], .bool false]) (De.results_cell_tmp rfl _ _ r 0 _ _ _ rfl rfl Tryz.underlying47 rfl info47 (HD.out.all rfl)) rfl ⟨.inl ⟨HNX.out, _, _, rfl⟩, HB6.out⟩
  | cons f rr =>
    have hmr : m = rr.length + 1 := by rw [← HM.out, hfr]; rfl
    have HNX : Hid (nextP g a n = some ⟨f, 0, a.seq, rr⟩) := Lib.hid (by unfold nextP; rw [if_neg hn, hfr])
    have HMR := Lib.hid hmr
    have hmz : ((m : Int) == 0) = false := by rw [beq_eq_false_iff_ne]; omega
    have hmp : (0 : Int) < (m : Int) := by omega
    have hmn : 1 ≤ m := by omega
    have HT : Hid (∀ w', Only (fun k => k = v ∨ k = r) w5 w' → IntsAt w' (.slice (cutA ta 1 tc 1) (m - 1) (tc - 1)) rr ∧ ∀ b o m' c, Value.slice (cutA ta 1 tc 1) (m - 1) (tc - 1) = .slice (some ⟨b, o, none⟩) m' c → ∃ o2, ta = some ⟨b, o2, none⟩) := Lib.hid fun w' hb => (show IntsAt w' (.slice ta m tc) (f :: rr) from by
      rw [← hfr]
      exact HO5.out.ints.onlyF hb fun b o k c e hk => by
        have := HBL.out b o k c e
        have := HL3.out
        omega).tail HCP.out
    obtain ⟨qb, qo, hfa, hq0⟩ : ∃ b o, ta = some ⟨b, o, none⟩ ∧ w5.cell? ⟨b, o, none⟩ = some (.int .i64 f) := by
      obtain ⟨q', c', e, hc⟩ := HO5.out.ints
      obtain ⟨b2, o2, h1, h2⟩ := hc 0 f (by rw [hfr]; rfl)
      injection e with e1 e2 e3
      exact ⟨b2, o2, by rw [e1, h1], h2⟩
    subst hfa
    have HQ := Lib.hid hq0
    have HQR : Hid (r < qb) := Lib.hid (HBL.out qb qo m tc rfl).2.2
    clear hn hmr hq0
    go_upto_region 6 with fail
    clear g2 v1 v3
    go_cut [28] from 23 to 32 (fun s wx => s = .slice (some ⟨qb, qo, none⟩) m tc ∧ Blk wx v [.int .i64 f, .int .i64 0, .int .u32 a.seq, .slice (cutA (some ⟨qb, qo, none⟩) 1 tc 1) (m - 1) (tc - 1)] ∧ Only (fun k => k = v) w5 wx)
    case first =>
      refine startH (fun wq => Only (fun k => k = v) w5 wq) (by kernel_rfl) ?_
      have HSd : Hid (Only (fun k => k = v) w5 w5.drew) := Lib.hid (Only.refl _ _).drew
      have HVd := Lib.hid HV5.out.drew
      have HQ3 : Hid (∀ wq, Only (fun k => k = v) w5 wq → wq.cell? ⟨qb, qo, none⟩ = some (.int .i64 f)) := Lib.hid fun wq hS => hS.cellZ (a := ⟨qb, qo, none⟩) (by have h1 := HQR.out; have h2 := HL3.out; show ¬ qb = v; omega) HQ.out
      generalize w5.drew = wS at *
      refine takeH 0 (some 23) (.pointer (some ⟨v, 3, none⟩)) rfl rfl (by kernel_rfl) (by kernel_rfl) (by kernel_rfl) (fun _ _ _ h => h) rfl (fun wq hS => by go_simp) HSd.out ?_
      try simp only [Act.put, List.setIfInBounds_toArray, List.set_cons_succ, List.set_cons_zero]
      refine takeH 4 (some 27) (.pointer (some ⟨v, 3, none⟩)) rfl rfl (by kernel_rfl) (by kernel_rfl) (by kernel_rfl) (fun _ _ _ h => h) rfl (fun wq hS => by go_simp) HSd.out ?_
      try simp only [Act.put, List.setIfInBounds_toArray, List.set_cons_succ, List.set_cons_zero]
      refine twoH 1 5 (by kernel_rfl) rfl rfl rfl rfl (fun K hK => ?_) (fun K hK => ?_)
      · refine wp_runTo (some 24) rfl (.slice (some ⟨qb, qo, none⟩) m tc) wS (by have hq := HVd.out.cell (i := 3) rfl; go_simp) ?_
        refine hK _ _ HSd.out ?_
        clear hK K
        try simp only [Act.put, List.setIfInBounds_toArray, List.set_cons_succ, List.set_cons_zero]
        refine takeH 2 (some 25) (.pointer (some ⟨qb, qo, none⟩)) rfl rfl (by kernel_rfl) (by kernel_rfl) (by kernel_rfl) (fun _ _ _ h => h) rfl (fun wq hS => by have hm0 : ¬ m = 0 := (by omega); have hm1 : (0 : Int) < (m : Int) := hmp; go_simp) HSd.out ?_
        try simp only [Act.put, List.setIfInBounds_toArray, List.set_cons_succ, List.set_cons_zero]
        refine takeH 3 (some 26) (.int .i64 f) rfl rfl (by kernel_rfl) (by kernel_rfl) (by kernel_rfl) (fun _ _ _ h => h) rfl (fun wq hS => by have q := HQ3.out wq hS; go_simp) HSd.out ?_
        try simp only [Act.put, List.setIfInBounds_toArray, List.set_cons_succ, List.set_cons_zero]
        refine oneH 5 (by kernel_rfl) rfl rfl fun K hK => ?_
        refine wp_runTo (some 28) rfl (.slice (some ⟨qb, qo, none⟩) m tc) wS (by have hq := HVd.out.cell (i := 3) rfl; go_simp) ?_
        refine hK _ _ HSd.out ?_
        clear hK K
        try simp only [Act.put, List.setIfInBounds_toArray, List.set_cons_succ, List.set_cons_zero]
        refine takeH 6 (some 29) (.slice (cutA (some ⟨qb, qo, none⟩) 1 tc 1) (m - 1) (tc - 1)) rfl rfl (by kernel_rfl) (by kernel_rfl) (by kernel_rfl) (fun _ _ _ h => h) rfl (fun wq hS => exec_from25 wq _ _ _ _ rfl (some ⟨qb, qo, none⟩) m tc 1 rfl rfl hmn) HSd.out ?_
        try simp only [Act.put, List.setIfInBounds_toArray, List.set_cons_succ, List.set_cons_zero]
        refine takeH 7 (some 30) (.pointer (some ⟨v, 0, none⟩)) rfl rfl (by kernel_rfl) (by kernel_rfl) (by kernel_rfl) (fun _ _ _ h => h) rfl (fun wq hS => by go_simp) HSd.out ?_
        try simp only [Act.put, List.setIfInBounds_toArray, List.set_cons_succ, List.set_cons_zero]
        refine oneH 8 (by kernel_rfl) rfl rfl fun K hK => ?_
        refine swp_skipTo none rfl (wS.setCell ⟨v, 0, none⟩ (.int .i64 f)) (by have hq := HVd.out.cell (i := 0) rfl; have hf := HVd.out.frozen 0; go_simp) ?_
        have HSe : Hid (Only (fun k => k = v) w5 (wS.setCell ⟨v, 0, none⟩ (.int .i64 f))) := Lib.hid (HSd.out.setCell (p := ⟨v, 0, none⟩) (.inl rfl) _)
        have HVe := Lib.hid (HVd.out.set 0 (.int .i64 f))
        refine hK _ _ HSe.out ?_
        clear hK K
        generalize wS.setCell ⟨v, 0, none⟩ (.int .i64 f) = wT at *
        try simp only [Act.put, List.setIfInBounds_toArray, List.set_cons_succ, List.set_cons_zero]
        refine takeH 9 (some 31) (.pointer (some ⟨v, 1, none⟩)) rfl rfl (by kernel_rfl) (by kernel_rfl) (by kernel_rfl) (fun _ _ _ h => h) rfl (fun wq hS => by go_simp) HSe.out ?_
        try simp only [Act.put, List.setIfInBounds_toArray, List.set_cons_succ, List.set_cons_zero]
        refine oneH 10 (by kernel_rfl) rfl rfl fun K hK => ?_
        refine swp_skipTo none rfl (wT.setCell ⟨v, 1, none⟩ (.int .i64 0)) (by have hq := HVe.out.cell (i := 1) rfl; have hf := HVe.out.frozen 1; go_simp) ?_
        have HSf : Hid (Only (fun k => k = v) w5 (wT.setCell ⟨v, 1, none⟩ (.int .i64 0))) := Lib.hid (HSe.out.setCell (p := ⟨v, 1, none⟩) (.inl rfl) _)
        have HVf := Lib.hid (HVe.out.set 1 (.int .i64 0))
        refine hK _ _ HSf.out ?_
        clear hK K
        generalize wT.setCell ⟨v, 1, none⟩ (.int .i64 0) = wU at *
        try simp only [Act.put, List.setIfInBounds_toArray, List.set_cons_succ, List.set_cons_zero]
        refine takeH 11 (some 32) (.pointer (some ⟨v, 3, none⟩)) rfl rfl (by kernel_rfl) (by kernel_rfl) (by kernel_rfl) (fun _ _ _ h => h) rfl (fun wq hS => by go_simp) HSf.out ?_
        try simp only [Act.put, List.setIfInBounds_toArray, List.set_cons_succ, List.set_cons_zero]
        refine oneH 12 (by kernel_rfl) rfl rfl fun K hK => ?_
        refine swp_skipTo none rfl (wU.setCell ⟨v, 3, none⟩ (.slice (cutA (some ⟨qb, qo, none⟩) 1 tc 1) (m - 1) (tc - 1))) (by have hq := HVf.out.cell (i := 3) rfl; have hf := HVf.out.frozen 3; go_simp) ?_
        have HSg : Hid (Only (fun k => k = v) w5 (wU.setCell ⟨v, 3, none⟩ (.slice (cutA (some ⟨qb, qo, none⟩) 1 tc 1) (m - 1) (tc - 1)))) := Lib.hid (HSf.out.setCell (p := ⟨v, 3, none⟩) (.inl rfl) _)
        have HVg := Lib.hid (HVf.out.set 3 (.slice (cutA (some ⟨qb, qo, none⟩) 1 tc 1) (m - 1) (tc - 1)))
        refine hK _ _ HSg.out ?_
        clear hK K
        generalize wU.setCell ⟨v, 3, none⟩ (.slice (cutA (some ⟨qb, qo, none⟩) 1 tc 1) (m - 1) (tc - 1)) = wV at *
        try simp only [Act.put, List.setIfInBounds_toArray, List.set_cons_succ, List.set_cons_zero]
        refine wpAnyH_done (by kernel_rfl) ?_ _
        go_wp2_with fail
        go_meet
        exact ⟨rfl, HVg.out, HSg.out⟩
      · refine wp_runTo (some 28) rfl (.slice (some ⟨qb, qo, none⟩) m tc) wS (by have hq := HVd.out.cell (i := 3) rfl; go_simp) ?_
        refine hK _ _ HSd.out ?_
        clear hK K
        try simp only [Act.put, List.setIfInBounds_toArray, List.set_cons_succ, List.set_cons_zero]
        refine takeH 6 (some 29) (.slice (cutA (some ⟨qb, qo, none⟩) 1 tc 1) (m - 1) (tc - 1)) rfl rfl (by kernel_rfl) (by kernel_rfl) (by kernel_rfl) (fun _ _ _ h => h) rfl (fun wq hS => exec_from25 wq _ _ _ _ rfl (some ⟨qb, qo, none⟩) m tc 1 rfl rfl hmn) HSd.out ?_
        try simp only [Act.put, List.setIfInBounds_toArray, List.set_cons_succ, List.set_cons_zero]
        refine oneH 1 (by kernel_rfl) rfl rfl fun K hK => ?_
        refine wp_runTo (some 24) rfl (.slice (some ⟨qb, qo, none⟩) m tc) wS (by have hq := HVd.out.cell (i := 3) rfl; go_simp) ?_
        refine hK _ _ HSd.out ?_
        clear hK K
        try simp only [Act.put, List.setIfInBounds_toArray, List.set_cons_succ, List.set_cons_zero]
        refine takeH 2 (some 25) (.pointer (some ⟨qb, qo, none⟩)) rfl rfl (by kernel_rfl) (by kernel_rfl) (by kernel_rfl) (fun _ _ _ h => h) rfl (fun wq hS => by have hm0 : ¬ m = 0 := (by omega); have hm1 : (0 : Int) < (m : Int) := hmp; go_simp) HSd.out ?_
        try simp only [Act.put, List.setIfInBounds_toArray, List.set_cons_succ, List.set_cons_zero]
        refine takeH 3 (some 26) (.int .i64 f) rfl rfl (by kernel_rfl) (by kernel_rfl) (by kernel_rfl) (fun _ _ _ h => h) rfl (fun wq hS => by have q := HQ3.out wq hS; go_simp) HSd.out ?_
        try simp only [Act.put, List.setIfInBounds_toArray, List.set_cons_succ, List.set_cons_zero]
        refine takeH 7 (some 30) (.pointer (some ⟨v, 0, none⟩)) rfl rfl (by kernel_rfl) (by kernel_rfl) (by kernel_rfl) (fun _ _ _ h => h) rfl (fun wq hS => by go_simp) HSd.out ?_
        try simp only [Act.put, List.setIfInBounds_toArray, List.set_cons_succ, List.set_cons_zero]
        refine oneH 8 (by kernel_rfl) rfl rfl fun K hK => ?_
        refine swp_skipTo none rfl (wS.setCell ⟨v, 0, none⟩ (.int .i64 f)) (by have hq := HVd.out.cell (i := 0) rfl; have hf := HVd.out.frozen 0; go_simp) ?_
        have HSe : Hid (Only (fun k => k = v) w5 (wS.setCell ⟨v, 0, none⟩ (.int .i64 f))) := Lib.hid (HSd.out.setCell (p := ⟨v, 0, none⟩) (.inl rfl) _)
        have HVe := Lib.hid (HVd.out.set 0 (.int .i64 f))
        refine hK _ _ HSe.out ?_
        clear hK K
        generalize wS.setCell ⟨v, 0, none⟩ (.int .i64 f) = wT at *
        try simp only [Act.put, List.setIfInBounds_toArray, List.set_cons_succ, List.set_cons_zero]
        refine takeH 9 (some 31) (.pointer (some ⟨v, 1, none⟩)) rfl rfl (by kernel_rfl) (by kernel_rfl) (by kernel_rfl) (fun _ _ _ h => h) rfl (fun wq hS => by go_simp) HSe.out ?_
        try simp only [Act.put, List.setIfInBounds_toArray, List.set_cons_succ, List.set_cons_zero]
        refine oneH 10 (by kernel_rfl) rfl rfl fun K hK => ?_
        refine swp_skipTo none rfl (wT.setCell ⟨v, 1, none⟩ (.int .i64 0)) (by have hq := HVe.out.cell (i := 1) rfl; have hf := HVe.out.frozen 1; go_simp) ?_
        have HSf : Hid (Only (fun k => k = v) w5 (wT.setCell ⟨v, 1, none⟩ (.int .i64 0))) := Lib.hid (HSe.out.setCell (p := ⟨v, 1, none⟩) (.inl rfl) _)
        have HVf := Lib.hid (HVe.out.set 1 (.int .i64 0))
        refine hK _ _ HSf.out ?_
        clear hK K
        generalize wT.setCell ⟨v, 1, none⟩ (.int .i64 0) = wU at *
        try simp only [Act.put, List.setIfInBounds_toArray, List.set_cons_succ, List.set_cons_zero]
        refine takeH 11 (some 32) (.pointer (some ⟨v, 3, none⟩)) rfl rfl (by kernel_rfl) (by kernel_rfl) (by kernel_rfl) (fun _ _ _ h => h) rfl (fun wq hS => by go_simp) HSf.out ?_
        try simp only [Act.put, List.setIfInBounds_toArray, List.set_cons_succ, List.set_cons_zero]
        refine oneH 12 (by kernel_rfl) rfl rfl fun K hK => ?_
        refine swp_skipTo none rfl (wU.setCell ⟨v, 3, none⟩ (.slice (cutA (some ⟨qb, qo, none⟩) 1 tc 1) (m - 1) (tc - 1))) (by have hq := HVf.out.cell (i := 3) rfl; have hf := HVf.out.frozen 3; go_simp) ?_
        have HSg : Hid (Only (fun k => k = v) w5 (wU.setCell ⟨v, 3, none⟩ (.slice (cutA (some ⟨qb, qo, none⟩) 1 tc 1) (m - 1) (tc - 1)))) := Lib.hid (HSf.out.setCell (p := ⟨v, 3, none⟩) (.inl rfl) _)
        have HVg := Lib.hid (HVf.out.set 3 (.slice (cutA (some ⟨qb, qo, none⟩) 1 tc 1) (m - 1) (tc - 1)))
        refine hK _ _ HSg.out ?_
        clear hK K
        generalize wU.setCell ⟨v, 3, none⟩ (.slice (cutA (some ⟨qb, qo, none⟩) 1 tc 1) (m - 1) (tc - 1)) = wV at *
        try simp only [Act.put, List.setIfInBounds_toArray, List.set_cons_succ, List.set_cons_zero]
        refine wpAnyH_done (by kernel_rfl) ?_ _
        go_wp2_with fail
        go_meet
        exact ⟨rfl, HVg.out, HSg.out⟩
    case rest =>
      obtain ⟨rfl, hv, ho⟩ := hcut
      have HVx := Lib.hid hv
      have HRx := Lib.hid (HR5.out.only ho (by have := HL3.out; omega))
      have HBx := Lib.hid (HB5.out.trans (ho.below HB5.out.size fun k hk => by rw [hk]; have := HL3.out; omega))
      have HOx := Lib.hid ho
      clear hv ho
      go_upto_region 7 with fail
      refine wp_region_lit ?_
      refine takeL (.agg #[.int .i64 f, .int .i64 0, .int .u32 a.seq, .slice (cutA (some ⟨qb, qo, none⟩) 1 tc 1) (m - 1) (tc - 1)]) rfl (by have q := HVx.out; have q0 := q.cell (i := 0) rfl; have q1 := q.cell (i := 1) rfl; have q2 := q.cell (i := 2) rfl; have q3 := q.cell (i := 3) rfl; go_simp) ?_
      try simp only [Act.put, List.setIfInBounds_toArray, List.set_cons_succ, List.set_cons_zero]
      refine store_all (cs := #[.int .i64 f, .int .i64 0, .int .u32 a.seq, .slice (cutA (some ⟨qb, qo, none⟩) 1 tc 1) (m - 1) (tc - 1)]) HRx.out rfl info47 (at_one _ _ _ _ _ _) rfl rfl rfl ?_
      intro w6 hD hO hlD
      try simp only [Act.put, List.setIfInBounds_toArray, List.set_cons_succ, List.set_cons_zero]
      have HD := Lib.hid hD
      have HT6 := Lib.hid (HT.out w6 ((HOx.out.more fun _ _ h => .inl h).trans (hO.more fun _ _ h => .inr h)))
      have HB6 := Lib.hid (HBx.out.trans (hO.below HBx.out.size fun k hk => by rw [hk]; have := HL3.out; omega))
      have HSZ : Hid (w5.heap.size ≤ w6.heap.size) := Lib.hid (Nat.le_trans HOx.out.size hO.size)
      clear hD hO hlD
      refine takeL (.bool true) rfl (by go_simp) ?_
      try simp only [Act.put, List.setIfInBounds_toArray, List.set_cons_succ, List.set_cons_zero]
      refine wpList_nil ?_
      go_wp2_with fail
      refine bodyPost_ret (v := .tuple #[.agg #[.int .i64 f, .int .i64 0, .int .u32 a.seq, .slice (cutA (some ⟨qb, qo, none⟩) 1 tc 1) (m - 1) (tc - 1)], .bool true]) (De.results_cell_tmp rfl _ _ r 0 _ _ _ rfl rfl Tryz.underlying47 rfl info47 (HD.out.all rfl)) rfl ⟨.inr ⟨_, _, HNX.out, rfl, HT6.out.1, fun b o n c e => ?_, fun q n c e => ?_⟩, HB6.out⟩
      · obtain ⟨o2, h3⟩ := HT6.out.2 b o n c e
        have := HBL.out b o2 m tc (by rw [h3])
        exact ⟨this.1, Nat.lt_of_lt_of_le this.2.1 HSZ.out⟩
      · have := HCP.out
        injection e with e1 e2 e3
        omega
theorem NextOut.uni {g : Pl.Gm} {a : Ja} {n : Nat} {e : Ending} {w' : World} (h : NextOut w g a n e w') : ∃ a1 ok ta tn tc, e = .returned (.tuple #[.agg #[.int .i64 a1.seg, .int .i64 a1.off, .int .u32 a1.seq, .slice ta tn tc], .bool ok]) ∧ ((ok = false ∧ nextP g a n = none) ∨ (ok = true ∧ nextP g a n = some a1 ∧ IntsAt w' (.slice ta tn tc) a1.free ∧ (∀ b o n c, Value.slice ta tn tc = .slice (some ⟨b, o, none⟩) n c → w.heap.size ≤ b ∧ b < w'.heap.size) ∧ ∀ q n c, Value.slice ta tn tc = .slice q n c → n ≤ c)) := by
  rcases h with ⟨h1, ta, tc, rfl⟩ | ⟨a1, tv, h1, rfl, h2, h3, h4⟩
  · exact ⟨a, false, ta, 0, tc, rfl, .inl ⟨rfl, h1⟩⟩
  · obtain ⟨ta, tc, rfl⟩ := h2.form
    exact ⟨a1, true, ta, _, tc, rfl, .inr ⟨rfl, h1, h2, h3, h4⟩⟩
end

end Go.Proofs.YtmlniannilnmhaaGreatDoor
