/- What each statement asks first. -/
import Derived.Test.YtaemjglblfencaaGreatDoorGb
import Derived.Deep.Cut
import Derived.Deep.CutRange
namespace Go.Proofs.YtaemjglblfencaaGreatDoor
set_option linter.unusedSimpArgs false
set_option linter.unusedVariables false
open Go.RowKit Kl

def wk0 : Fs := newFs 2
def wnow : List Int := layI (leaf 7) 1 [9]
def wk1 : Fs := (wk0.hold 0 5 (leaf 7)).2
def wk2 : Fs := (wk1.write 5 1 [9]).2
def wk3 : Fs := (wk2.write 6 1 [9]).2
def wk4 : Fs := (wk3.write 5 32 [9]).2
def wk5 : Fs := (wk4.hold 0 6 (leaf 1)).2
def wk6 : Fs := wk5.clean 5
def wmap : List Int := [4, 0, 0, 0, 0, 0, 0, 0]
def wk7 : Fs := (wk6.holdMap 1 3 wmap).2
def wk8 : Fs := wk7.forget 5
def wk9 : Fs := wk8.forget 5
theorem byte_of {n : Int} (h : decide (0 ≤ n) && decide (n < 256) = true) : Byte n := by simpa [Byte] using h
theorem nine : ∀ y ∈ ([9] : List Int), Byte y := by intro y hy; simp only [List.mem_singleton] at hy; subst hy; exact ⟨by decide, by decide⟩
theorem wk0_ok : wk0.Ok 0 := newFs_ok (by decide) (by decide)
theorem wk1_ok : wk1.Ok 0 := wk0_ok.hold 0 5 (leaf_pg ⟨by decide, by decide⟩)
theorem wk2_ok : wk2.Ok 0 := wk1_ok.write 5 1 nine
theorem wk3_ok : wk3.Ok 0 := wk2_ok.write 6 1 nine
theorem wk4_ok : wk4.Ok 0 := wk3_ok.write 5 32 nine
theorem wk5_ok : wk5.Ok 0 := wk4_ok.hold 0 6 (leaf_pg ⟨by decide, by decide⟩)
theorem wk6_ok : wk6.Ok 0 := wk5_ok.clean 5
theorem wk7_ok : wk7.Ok 0 := wk6_ok.holdMap 1 3 rfl
theorem wk8_ok : wk8.Ok 0 := wk7_ok.forget 5
set_option maxRecDepth 100000 in
theorem wv1 : (wk0.hold 0 5 (leaf 7)).1 = true := by kernel_rfl
set_option maxRecDepth 100000 in
theorem wv2 : (wk1.write 5 1 [9]).1 = 0 := by kernel_rfl
set_option maxRecDepth 100000 in
theorem wv3 : (wk2.write 6 1 [9]).1 = 17 := by kernel_rfl
set_option maxRecDepth 100000 in
theorem wv4 : (wk3.write 5 32 [9]).1 = 18 := by kernel_rfl
set_option maxRecDepth 100000 in
theorem wp4 : wk4.held 5 = some ⟨leaf 7, wnow, zeros 8⟩ := by kernel_rfl
set_option maxRecDepth 100000 in
theorem wd4 : wk4.dirties = [5] := by kernel_rfl
set_option maxRecDepth 100000 in
theorem wv5 : (wk4.hold 0 6 (leaf 1)).1 = false := by kernel_rfl
set_option maxRecDepth 100000 in
theorem wv7 : (wk6.holdMap 1 3 wmap).1 = true := by kernel_rfl
set_option maxRecDepth 100000 in
theorem wm7 : wk7.heldMap 3 = some ⟨zeros 32, zeros 32, wmap⟩ := by kernel_rfl
set_option maxRecDepth 100000 in
theorem wd7 : wk7.dirties = [] := by kernel_rfl
set_option maxRecDepth 100000 in
theorem wv8 : wk7.forgets 5 = true := by kernel_rfl
set_option maxRecDepth 100000 in
theorem wv9 : wk8.forgets 5 = false := by kernel_rfl
section
variable {W w : World} {G : Nat → Prop} {L : Lay}
theorem wc1 (h : Fz W G w L wk0) : Calls Tryz.prog 9 #[.pointer (some ⟨L.b, 0, none⟩), .int .i64 0, .int .i64 5, .agg (u8s (leaf 7)).toArray] w fun e w' => e = .returned (.bool true) ∧ Fz W G w' L wk1 ∧ Only (fun k => ¬ G k) w w' := (fz_hold h wk0_ok 0 5 (leaf_pg ⟨by decide, by decide⟩)).mono fun e w' ⟨h1, h2, h3⟩ => ⟨by rw [h1, wv1], h2, h3⟩
theorem wc2 (h : Fz W G w L wk1) (hev : ErrVar W) (sv : Value) (hb : BytesAt w sv [9]) : Calls Tryz.prog 14 #[.pointer (some ⟨L.b, 0, none⟩), .int .i64 5, .int .i64 1, sv] w fun e w' => e = .returned (.int .i64 0) ∧ Fz W G w' L wk2 ∧ Only (fun k => ¬ G k) w w' := (fz_write h wk1_ok hev 5 1 sv [9] (by decide) hb).mono fun e w' ⟨h1, h2, h3⟩ => ⟨by rw [h1, wv2], h2, h3⟩
theorem wc3 (h : Fz W G w L wk2) (hev : ErrVar W) (sv : Value) (hb : BytesAt w sv [9]) : Calls Tryz.prog 14 #[.pointer (some ⟨L.b, 0, none⟩), .int .i64 6, .int .i64 1, sv] w fun e w' => e = .returned (.int .i64 17) ∧ Fz W G w' L wk3 ∧ Only (fun k => ¬ G k) w w' := (fz_write h wk2_ok hev 6 1 sv [9] (by decide) hb).mono fun e w' ⟨h1, h2, h3⟩ => ⟨by rw [h1, wv3], h2, h3⟩
theorem wc4 (h : Fz W G w L wk3) (hev : ErrVar W) (sv : Value) (hb : BytesAt w sv [9]) : Calls Tryz.prog 14 #[.pointer (some ⟨L.b, 0, none⟩), .int .i64 5, .int .i64 32, sv] w fun e w' => e = .returned (.int .i64 18) ∧ Fz W G w' L wk4 ∧ Only (fun k => ¬ G k) w w' := (fz_write h wk3_ok hev 5 32 sv [9] (by decide) hb).mono fun e w' ⟨h1, h2, h3⟩ => ⟨by rw [h1, wv4], h2, h3⟩
theorem wc5 (h : Fz W G w L wk4) : Calls Tryz.prog 9 #[.pointer (some ⟨L.b, 0, none⟩), .int .i64 0, .int .i64 6, .agg (u8s (leaf 1)).toArray] w fun e w' => e = .returned (.bool false) ∧ Fz W G w' L wk5 ∧ Only (fun k => ¬ G k) w w' := (fz_hold h wk4_ok 0 6 (leaf_pg ⟨by decide, by decide⟩)).mono fun e w' ⟨h1, h2, h3⟩ => ⟨by rw [h1, wv5], h2, h3⟩
theorem wc7 (h : Fz W G w L wk6) : Calls Tryz.prog 12 #[.pointer (some ⟨L.b, 0, none⟩), .int .i64 1, .int .i64 3, .agg (i64s wmap).toArray] w fun e w' => e = .returned (.bool true) ∧ Fz W G w' L wk7 ∧ Only (fun k => ¬ G k) w w' := (fz_holdMap h wk6_ok 1 3 ⟨by decide, by decide⟩ rfl).mono fun e w' ⟨h1, h2, h3⟩ => ⟨by rw [h1, wv7], h2, h3⟩
theorem wc8 (h : Fz W G w L wk7) : Calls Tryz.prog 18 #[.pointer (some ⟨L.b, 0, none⟩), .int .i64 5] w fun e w' => e = .returned (.bool true) ∧ Fz W G w' L wk8 ∧ Only (fun k => ¬ G k) w w' := (fz_forget h wk7_ok 5).mono fun e w' ⟨h1, h2, h3⟩ => ⟨by rw [h1, wv8], h2, h3⟩
theorem wc9 (h : Fz W G w L wk8) : Calls Tryz.prog 18 #[.pointer (some ⟨L.b, 0, none⟩), .int .i64 5] w fun e w' => e = .returned (.bool false) ∧ Fz W G w' L wk9 ∧ Only (fun k => ¬ G k) w w' := (fz_forget h wk8_ok 5).mono fun e w' ⟨h1, h2, h3⟩ => ⟨by rw [h1, wv9], h2, h3⟩
end
theorem builtM : Tryz.prog.built 41 [(0, .int .i64 4)] = some (i64s wmap).toArray := by kernel_rfl
theorem _root_.Go.Proofs.YtaemjglblfencaaGreatDoor.Kl.IntsAt.keep {S : Nat → Prop} {w w' : World} {b o n cap : Nat} {l : List Int} (h : Kl.IntsAt w (.slice (some ⟨b, o, none⟩) n cap) l) (ho : Only S w w') (hS : ¬ S b) : Kl.IntsAt w' (.slice (some ⟨b, o, none⟩) n cap) l := by
  obtain ⟨a, c, e, hc⟩ := h
  cases e
  refine ⟨_, _, rfl, fun i x hx => ?_⟩
  obtain ⟨b', o', e2, h2⟩ := hc i x hx
  cases e2
  have hb : w'.heap[b]? = w.heap[b]? := ho.block b (block_lt_of_cell h2) hS
  refine ⟨b, o, rfl, ?_⟩
  rw [← h2]
  simp only [World.cell?, hb]

theorem wnow_len : wnow.length = 32 := by decide
theorem intsT {l : List Int} {sv tv : Value} {w : World} (h : Kl.IntsAt w sv l) (k : Kl.IntsAt w tv l) (hl : l.length ≤ 1000) : Calls Tryz.prog 24 #[sv, tv] w fun e w' => e = .returned (.bool true) ∧ Below w.heap.size w w' := by
  have := ints_any l l hl hl sv tv w h k
  rwa [decide_eq_true rfl] at this
theorem wdir {W w : World} {G : Nat → Prop} {L : Lay} (h : Fz W G w L wk7) : Calls Tryz.prog 25 #[.pointer (some ⟨L.b, 0, none⟩)] w fun e w' => ∃ a c, e = .returned (.slice a 0 c) ∧ Below w.heap.size w w' := by
  refine (fz_dirty h wk7_ok).mono ?_
  rintro e w' ⟨sv, rfl, ho, hb⟩
  rw [wd7] at ho
  obtain ⟨a, c, e2, _⟩ := ho.ints
  exact ⟨a, c, by rw [e2]; rfl, hb⟩

set_option maxRecDepth 100000 in
set_option maxHeartbeats 1000000 in
theorem wakes_any (w : World) (hev : ErrVar w) : Calls Tryz.prog 5 #[] w fun e w' => e = .returned (.bool true) ∧ Below w.heap.size w w' := by
  have HEV := Lib.hid hev
  have HN := Lib.hid (fz_new w 2 (by decide) (by decide))
  have HZ32 := Lib.hid (zeros_length 32)
  clear hev
  go_enter Tryz.func5, Tryz.ntmps5
  go_wp2_with fail
  refine HN.out.mono ?_
  rintro e w1 ⟨L, rfl, hz, hb⟩
  have HZ1 : Hid (Fz w (fun k => k < w.heap.size) w1 L wk0) := Lib.hid hz
  clear hz hb
  go_upto_region 2 with fail
  refine wp_region_lit ?_
  refine takeL (.int .i64 0) rfl (by go_simp) ?_
  try simp only [Act.put, List.setIfInBounds_toArray, List.set_cons_succ, List.set_cons_zero]
  refine takeL (.bool false) rfl (by go_simp) ?_
  try simp only [Act.put, List.setIfInBounds_toArray, List.set_cons_succ, List.set_cons_zero]
  refine takeL (.bool false) rfl (by go_simp) ?_
  try simp only [Act.put, List.setIfInBounds_toArray, List.set_cons_succ, List.set_cons_zero]
  refine takeL (.pointer (some ⟨L.b, 0, none⟩)) rfl (by go_simp) ?_
  try simp only [Act.put, List.setIfInBounds_toArray, List.set_cons_succ, List.set_cons_zero]
  refine takeL (.bool false) rfl (by go_simp) ?_
  try simp only [Act.put, List.setIfInBounds_toArray, List.set_cons_succ, List.set_cons_zero]
  refine takeL (.bool false) rfl (by go_simp) ?_
  try simp only [Act.put, List.setIfInBounds_toArray, List.set_cons_succ, List.set_cons_zero]
  refine takeL (.bool false) rfl (by go_simp) ?_
  try simp only [Act.put, List.setIfInBounds_toArray, List.set_cons_succ, List.set_cons_zero]
  refine takeL (.pointer (some ⟨L.b, 0, none⟩)) rfl (by go_simp) ?_
  try simp only [Act.put, List.setIfInBounds_toArray, List.set_cons_succ, List.set_cons_zero]
  refine wpList_op rfl fun K hK => ?_
  go_simp
  refine (fz_clock HZ1.out).mono ?_
  rintro e w2 ⟨rfl, rfl⟩
  refine hK _ _ ?_
  clear hK K
  try simp only [Act.put, List.setIfInBounds_toArray, List.set_cons_succ, List.set_cons_zero]
  refine takeL (.bool false) rfl (by go_simp) ?_
  try simp only [Act.put, List.setIfInBounds_toArray, List.set_cons_succ, List.set_cons_zero]
  refine takeL (.bool false) rfl (by go_simp) ?_
  try simp only [Act.put, List.setIfInBounds_toArray, List.set_cons_succ, List.set_cons_zero]
  refine takeL (.bool false) rfl (by go_simp) ?_
  try simp only [Act.put, List.setIfInBounds_toArray, List.set_cons_succ, List.set_cons_zero]
  refine takeL (.pointer (some ⟨L.b, 0, none⟩)) rfl (by go_simp) ?_
  try simp only [Act.put, List.setIfInBounds_toArray, List.set_cons_succ, List.set_cons_zero]
  refine wpList_op rfl fun K hK => ?_
  go_simp
  refine (Leaf_any 7 _).mono ?_
  rintro e w3 ⟨rfl, hb⟩
  have HZ3 := Lib.hid (HZ1.out.below hb)
  clear hb
  refine hK _ _ ?_
  clear hK K
  try simp only [Act.put, List.setIfInBounds_toArray, List.set_cons_succ, List.set_cons_zero]
  refine wpList_op rfl fun K hK => ?_
  go_simp
  refine (wc1 HZ3.out).mono ?_
  rintro e w4 ⟨rfl, hz, ho⟩
  have HZ4 := Lib.hid hz
  clear hz ho
  refine hK _ _ ?_
  clear hK K
  try simp only [Act.put, List.setIfInBounds_toArray, List.set_cons_succ, List.set_cons_zero]
  refine takeL (.bool false) rfl (by go_simp) ?_
  try simp only [Act.put, List.setIfInBounds_toArray, List.set_cons_succ, List.set_cons_zero]
  refine takeL (.bool false) rfl (by go_simp) ?_
  try simp only [Act.put, List.setIfInBounds_toArray, List.set_cons_succ, List.set_cons_zero]
  refine takeL (.bool false) rfl (by go_simp) ?_
  try simp only [Act.put, List.setIfInBounds_toArray, List.set_cons_succ, List.set_cons_zero]
  refine takeL (.pointer (some ⟨L.b, 0, none⟩)) rfl (by go_simp) ?_
  try simp only [Act.put, List.setIfInBounds_toArray, List.set_cons_succ, List.set_cons_zero]
  refine wpList_run (.slice (some ⟨w4.heap.size, 0, none⟩) 1 1) (w4.alloc (.cells #[.int .u8 9] 5)) rfl (by go_simp) ?_
  try simp only [Act.put, List.setIfInBounds_toArray, List.set_cons_succ, List.set_cons_zero]
  have hbl : Below w4.heap.size w4 (w4.alloc (.cells #[.int .u8 9] 5)) := (Below.refl _ _).alloc (Nat.le_refl _) _
  have HL5 : Hid (Own (w4.alloc (.cells #[.int .u8 9] 5)) w4.heap.size (.slice (some ⟨w4.heap.size, 0, none⟩) 1 1) [9]) := Lib.hid (Own.lit w4 w4.heap.size (Nat.le_refl _) [9] (by simp) _ rfl)
  have HZ5 := Lib.hid (HZ4.out.below hbl)
  clear hbl
  obtain ⟨w5, hw5⟩ : ∃ u, w4.alloc (.cells #[.int .u8 9] 5) = u := ⟨_, rfl⟩
  obtain ⟨b5, hbn5⟩ : ∃ u, w4.heap.size = u := ⟨_, rfl⟩
  rw [hw5] at HL5 HZ5 ⊢
  rw [hbn5] at HL5 ⊢
  clear hw5 hbn5
  refine wpList_op rfl fun K hK => ?_
  go_simp
  refine (wc2 HZ5.out HEV.out _ HL5.out.bytes).mono ?_
  rintro e w6 ⟨rfl, hz, ho⟩
  have HZ6 := Lib.hid hz
  clear hz ho
  refine hK _ _ ?_
  clear hK K
  try simp only [Act.put, List.setIfInBounds_toArray, List.set_cons_succ, List.set_cons_zero]
  refine takeL (.bool false) rfl (by go_simp) ?_
  try simp only [Act.put, List.setIfInBounds_toArray, List.set_cons_succ, List.set_cons_zero]
  refine takeL (.bool false) rfl (by go_simp) ?_
  try simp only [Act.put, List.setIfInBounds_toArray, List.set_cons_succ, List.set_cons_zero]
  refine takeL (.bool false) rfl (by go_simp) ?_
  try simp only [Act.put, List.setIfInBounds_toArray, List.set_cons_succ, List.set_cons_zero]
  refine takeL (.pointer (some ⟨L.b, 0, none⟩)) rfl (by go_simp) ?_
  try simp only [Act.put, List.setIfInBounds_toArray, List.set_cons_succ, List.set_cons_zero]
  refine wpList_run (.slice (some ⟨w6.heap.size, 0, none⟩) 1 1) (w6.alloc (.cells #[.int .u8 9] 5)) rfl (by go_simp) ?_
  try simp only [Act.put, List.setIfInBounds_toArray, List.set_cons_succ, List.set_cons_zero]
  have hbl : Below w6.heap.size w6 (w6.alloc (.cells #[.int .u8 9] 5)) := (Below.refl _ _).alloc (Nat.le_refl _) _
  have HL7 : Hid (Own (w6.alloc (.cells #[.int .u8 9] 5)) w6.heap.size (.slice (some ⟨w6.heap.size, 0, none⟩) 1 1) [9]) := Lib.hid (Own.lit w6 w6.heap.size (Nat.le_refl _) [9] (by simp) _ rfl)
  have HZ7 := Lib.hid (HZ6.out.below hbl)
  clear hbl
  obtain ⟨w7, hw7⟩ : ∃ u, w6.alloc (.cells #[.int .u8 9] 5) = u := ⟨_, rfl⟩
  obtain ⟨b7, hbn7⟩ : ∃ u, w6.heap.size = u := ⟨_, rfl⟩
  rw [hw7] at HL7 HZ7 ⊢
  rw [hbn7] at HL7 ⊢
  clear hw7 hbn7
  refine wpList_op rfl fun K hK => ?_
  go_simp
  refine (wc3 HZ7.out HEV.out _ HL7.out.bytes).mono ?_
  rintro e w8 ⟨rfl, hz, ho⟩
  have HZ8 := Lib.hid hz
  clear hz ho
  refine hK _ _ ?_
  clear hK K
  try simp only [Act.put, List.setIfInBounds_toArray, List.set_cons_succ, List.set_cons_zero]
  refine takeL (.bool false) rfl (by go_simp) ?_
  try simp only [Act.put, List.setIfInBounds_toArray, List.set_cons_succ, List.set_cons_zero]
  refine takeL (.bool false) rfl (by go_simp) ?_
  try simp only [Act.put, List.setIfInBounds_toArray, List.set_cons_succ, List.set_cons_zero]
  refine takeL (.bool false) rfl (by go_simp) ?_
  try simp only [Act.put, List.setIfInBounds_toArray, List.set_cons_succ, List.set_cons_zero]
  refine takeL (.pointer (some ⟨L.b, 0, none⟩)) rfl (by go_simp) ?_
  try simp only [Act.put, List.setIfInBounds_toArray, List.set_cons_succ, List.set_cons_zero]
  refine wpList_run (.slice (some ⟨w8.heap.size, 0, none⟩) 1 1) (w8.alloc (.cells #[.int .u8 9] 5)) rfl (by go_simp) ?_
  try simp only [Act.put, List.setIfInBounds_toArray, List.set_cons_succ, List.set_cons_zero]
  have hbl : Below w8.heap.size w8 (w8.alloc (.cells #[.int .u8 9] 5)) := (Below.refl _ _).alloc (Nat.le_refl _) _
  have HL9 : Hid (Own (w8.alloc (.cells #[.int .u8 9] 5)) w8.heap.size (.slice (some ⟨w8.heap.size, 0, none⟩) 1 1) [9]) := Lib.hid (Own.lit w8 w8.heap.size (Nat.le_refl _) [9] (by simp) _ rfl)
  have HZ9 := Lib.hid (HZ8.out.below hbl)
  clear hbl
  obtain ⟨w9, hw9⟩ : ∃ u, w8.alloc (.cells #[.int .u8 9] 5) = u := ⟨_, rfl⟩
  obtain ⟨b9, hbn9⟩ : ∃ u, w8.heap.size = u := ⟨_, rfl⟩
  rw [hw9] at HL9 HZ9 ⊢
  rw [hbn9] at HL9 ⊢
  clear hw9 hbn9
  refine wpList_op rfl fun K hK => ?_
  go_simp
  refine (wc4 HZ9.out HEV.out _ HL9.out.bytes).mono ?_
  rintro e w10 ⟨rfl, hz, ho⟩
  have HZ10 := Lib.hid hz
  clear hz ho
  refine hK _ _ ?_
  clear hK K
  try simp only [Act.put, List.setIfInBounds_toArray, List.set_cons_succ, List.set_cons_zero]
  refine takeL (.bool false) rfl (by go_simp) ?_
  try simp only [Act.put, List.setIfInBounds_toArray, List.set_cons_succ, List.set_cons_zero]
  refine takeL (.bool false) rfl (by go_simp) ?_
  try simp only [Act.put, List.setIfInBounds_toArray, List.set_cons_succ, List.set_cons_zero]
  refine wpList_nil ?_
  have HPG := fz_page HZ10.out wk4_ok 5
  rw [wp4] at HPG
  simp only [pageR] at HPG
  have HPP := Lib.hid HPG
  clear HPG
  go_upto_region 4 with fail
  refine wp_region_lit ?_
  refine takeL (.pointer (some ⟨L.b, 0, none⟩)) rfl (by go_simp) ?_
  try simp only [Act.put, List.setIfInBounds_toArray, List.set_cons_succ, List.set_cons_zero]
  refine wpList_op rfl fun K hK => ?_
  go_simp
  refine (HPP.out).mono ?_
  rintro e wp ⟨rfl, hb⟩
  have HZp := Lib.hid (HZ10.out.below hb)
  clear hb
  refine hK _ _ ?_
  clear hK K
  try simp only [Act.put, List.setIfInBounds_toArray, List.set_cons_succ, List.set_cons_zero]
  refine takeL (.tuple #[.agg (u8s (leaf 7)).toArray, .agg (u8s wnow).toArray, .bool true]) rfl (by go_simp) ?_
  try simp only [Act.put, List.setIfInBounds_toArray, List.set_cons_succ, List.set_cons_zero]
  refine takeL (.agg (u8s (leaf 7)).toArray) rfl (by go_simp) ?_
  try simp only [Act.put, List.setIfInBounds_toArray, List.set_cons_succ, List.set_cons_zero]
  refine takeL (.agg (u8s wnow).toArray) rfl (by go_simp) ?_
  try simp only [Act.put, List.setIfInBounds_toArray, List.set_cons_succ, List.set_cons_zero]
  refine takeL (.bool true) rfl (by go_simp) ?_
  try simp only [Act.put, List.setIfInBounds_toArray, List.set_cons_succ, List.set_cons_zero]
  refine alloc_g zero39 rfl ?_
  intro wa hA hb hl
  try simp only [Act.put, List.setIfInBounds_toArray, List.set_cons_succ, List.set_cons_zero]
  refine alloc_g zero39 rfl ?_
  intro wb hA2 hb2 hl2
  try simp only [Act.put, List.setIfInBounds_toArray, List.set_cons_succ, List.set_cons_zero]
  have HBab := Lib.hid (hb.trans (hb2.mono hb.size))
  have H3 : Hid (Blk wb wp.heap.size (u8s (zeros 32))) := Lib.hid (by simpa using hA.below hb2 hA.lt)
  have H4 : Hid (Blk wb wa.heap.size (u8s (zeros 32))) := Lib.hid (by simpa using hA2)
  have HN34 : Hid (wp.heap.size ≠ wa.heap.size) := Lib.hid (Nat.ne_of_lt hl)
  have HGa : Hid (wp.heap.size ≤ wa.heap.size) := Lib.hid (Nat.le_of_lt hl)
  clear hA hb hl hA2 hb2 hl2
  generalize wa.heap.size = g4 at *
  clear wa
  refine store_all (cs := (u8s (leaf 7)).toArray) H3.out (by simp only [u8s_size, List.size_toArray, List.length_map, (leaf_len 7), HZ32.out]) (by rw [u8s_size, (leaf_len 7)]; exact info39) (u8s_one _) rfl rfl rfl ?_
  intro ws3 hD hO hlD
  try simp only [Act.put, List.setIfInBounds_toArray, List.set_cons_succ, List.set_cons_zero]
  have H3s : Hid (Blk ws3 wp.heap.size (u8s (leaf 7))) := Lib.hid (by simpa using hD)
  have H4s := Lib.hid (H4.out.only hO HN34.out.symm)
  have HBs := Lib.hid (HBab.out.trans (hO.below HBab.out.size fun k hk => Nat.le_of_eq hk.symm))
  clear H3 H4 HBab hD hO hlD
  have H4 := H4s
  clear H4s
  refine store_all (cs := (u8s wnow).toArray) H4.out (by simp only [u8s_size, List.size_toArray, List.length_map, wnow_len, HZ32.out]) (by rw [u8s_size, wnow_len]; exact info39) (u8s_one _) rfl rfl rfl ?_
  intro ws4 hD hO hlD
  try simp only [Act.put, List.setIfInBounds_toArray, List.set_cons_succ, List.set_cons_zero]
  have H4t : Hid (Blk ws4 g4 (u8s wnow)) := Lib.hid (by simpa using hD)
  have H3t := Lib.hid (H3s.out.only hO HN34.out)
  have HBt := Lib.hid (HBs.out.trans (hO.below HBs.out.size fun k hk => by rw [hk]; exact HGa.out))
  clear H3s H4 HBs hD hO hlD
  refine takeL (.bool true) rfl (by go_simp) ?_
  try simp only [Act.put, List.setIfInBounds_toArray, List.set_cons_succ, List.set_cons_zero]
  refine wpList_nil ?_
  have HZd := Lib.hid (HZp.out.below HBt.out)
  have HDI := fz_dirty HZd.out wk4_ok
  rw [wd4] at HDI
  have HDD := Lib.hid HDI
  clear HDI
  go_wp2_with fail
  refine HDD.out.mono ?_
  rintro e wd ⟨dv, rfl, hown, hb⟩
  obtain ⟨gd, od, cd, rfl, hcd⟩ := hown.ints.has (by decide)
  have HID := Lib.hid hown.ints
  have hgd : ws4.heap.size ≤ gd := (hown.lt gd rfl).1
  have hgd2 : gd < wd.heap.size := (hown.lt gd rfl).2
  have H3d := Lib.hid (H3t.out.below hb H3t.out.lt)
  have H4d := Lib.hid (H4t.out.below hb H4t.out.lt)
  have HZe : Hid (Fz w (fun k => k < w.heap.size ∨ k = wp.heap.size ∨ k = g4 ∨ k = gd) wd L wk4) := Lib.hid (HZp.out.add wk4_ok (stay HBt.out hb) (fun k hk => .inl hk) (fun k hk => by
    have h3 := H3d.out.lt
    have h4 := H4d.out.lt
    have h5 := HGa.out
    have h6 := HBt.out.size
    rcases hk with hk | hk | hk | hk
    · exact .inl hk
    · exact .inr (by omega)
    · exact .inr (by omega)
    · exact .inr (by omega)))
  clear hown hcd hb hgd hgd2 HZp HZd HBt H3t H4t HDD HGa HN34
  generalize wp.heap.size = g3 at *
  simp only [List.length_cons, List.length_nil] at HID ⊢
  go_upto_region 6 with fail
  refine wp_region_lit ?_
  refine takeL (.pointer (some ⟨L.b, 0, none⟩)) rfl (by go_simp) ?_
  try simp only [Act.put, List.setIfInBounds_toArray, List.set_cons_succ, List.set_cons_zero]
  refine wpList_op rfl fun K hK => ?_
  go_simp
  refine (Leaf_any 1 _).mono ?_
  rintro e w101 ⟨rfl, hb⟩
  have HZ101 := Lib.hid (HZe.out.below hb)
  have H3_101 := Lib.hid (H3d.out.below hb H3d.out.lt)
  clear H3d
  have H4_101 := Lib.hid (H4d.out.below hb H4d.out.lt)
  clear H4d
  have HI_101 := Lib.hid (HID.out.below hb)
  clear HID
  clear hb
  refine hK _ _ ?_
  clear hK K
  try simp only [Act.put, List.setIfInBounds_toArray, List.set_cons_succ, List.set_cons_zero]
  refine wpList_op rfl fun K hK => ?_
  go_simp
  refine (wc5 HZ101.out).mono ?_
  rintro e w102 ⟨rfl, hz, ho⟩
  have HZ102 := Lib.hid hz
  have H3_102 := Lib.hid (H3_101.out.only ho (fun q => q (.inr (.inl rfl))))
  clear H3_101
  have H4_102 := Lib.hid (H4_101.out.only ho (fun q => q (.inr (.inr (.inl rfl)))))
  clear H4_101
  have HI_102 := Lib.hid (HI_101.out.keep ho (fun q => q (.inr (.inr (.inr rfl)))))
  clear HI_101
  clear hz ho
  refine hK _ _ ?_
  clear hK K
  try simp only [Act.put, List.setIfInBounds_toArray, List.set_cons_succ, List.set_cons_zero]
  refine takeL (.bool false) rfl (by go_simp) ?_
  try simp only [Act.put, List.setIfInBounds_toArray, List.set_cons_succ, List.set_cons_zero]
  refine wpList_nil ?_
  have HCL := Lib.hid (fz_clean HZ102.out wk5_ok 5)
  go_wp2_with fail
  refine HCL.out.mono ?_
  rintro e wc ⟨rfl, hz, ho⟩
  have HZc : Hid (Fz w (fun k => k < w.heap.size ∨ k = g3 ∨ k = g4 ∨ k = gd) wc L wk6) := Lib.hid hz
  have H3_200 := Lib.hid (H3_102.out.only ho (fun q => q (.inr (.inl rfl))))
  clear H3_102
  have H4_200 := Lib.hid (H4_102.out.only ho (fun q => q (.inr (.inr (.inl rfl)))))
  clear H4_102
  have HI_200 := Lib.hid (HI_102.out.keep ho (fun q => q (.inr (.inr (.inr rfl)))))
  clear HI_102
  clear hz ho HCL
  go_upto_region 8 with fail
  refine wp_region_lit ?_
  refine takeL (.pointer (some ⟨L.b, 0, none⟩)) rfl (by go_simp) ?_
  try simp only [Act.put, List.setIfInBounds_toArray, List.set_cons_succ, List.set_cons_zero]
  refine takeL (.agg (i64s wmap).toArray) rfl (by exact exec_build _ _ _ _ 41 _ rfl #[(0, .int .i64 4)] (by simp only [List.map_toArray, List.map_cons, List.map_nil]; rfl) _ (run_build _ 41 _ _ builtM)) ?_
  try simp only [Act.put, List.setIfInBounds_toArray, List.set_cons_succ, List.set_cons_zero]
  refine wpList_op rfl fun K hK => ?_
  go_simp
  refine (wc7 HZc.out).mono ?_
  rintro e wm ⟨rfl, hz, ho⟩
  have HZm := Lib.hid hz
  have H3_201 := Lib.hid (H3_200.out.only ho (fun q => q (.inr (.inl rfl))))
  clear H3_200
  have H4_201 := Lib.hid (H4_200.out.only ho (fun q => q (.inr (.inr (.inl rfl)))))
  clear H4_200
  have HI_201 := Lib.hid (HI_200.out.keep ho (fun q => q (.inr (.inr (.inr rfl)))))
  clear HI_200
  clear hz ho
  refine hK _ _ ?_
  clear hK K
  try simp only [Act.put, List.setIfInBounds_toArray, List.set_cons_succ, List.set_cons_zero]
  refine takeL (.bool true) rfl (by go_simp) ?_
  try simp only [Act.put, List.setIfInBounds_toArray, List.set_cons_succ, List.set_cons_zero]
  refine wpList_nil ?_
  have HMP := fz_map HZm.out wk7_ok 3 ⟨by decide, by decide⟩
  rw [wm7] at HMP
  simp only [mapR] at HMP
  have HMM := Lib.hid HMP
  clear HMP
  go_upto_region 9 with fail
  refine wp_region_lit ?_
  refine takeL (.pointer (some ⟨L.b, 0, none⟩)) rfl (by go_simp) ?_
  try simp only [Act.put, List.setIfInBounds_toArray, List.set_cons_succ, List.set_cons_zero]
  refine wpList_op rfl fun K hK => ?_
  go_simp
  refine (HMM.out).mono ?_
  rintro e wq9 ⟨rfl, hb⟩
  have HZq := Lib.hid (HZm.out.below hb)
  have H3_202 := Lib.hid (H3_201.out.below hb H3_201.out.lt)
  clear H3_201
  have H4_202 := Lib.hid (H4_201.out.below hb H4_201.out.lt)
  clear H4_201
  have HI_202 := Lib.hid (HI_201.out.below hb)
  clear HI_201
  clear hb
  refine hK _ _ ?_
  clear hK K
  try simp only [Act.put, List.setIfInBounds_toArray, List.set_cons_succ, List.set_cons_zero]
  refine takeL (.tuple #[.agg (i64s wmap).toArray, .bool true]) rfl (by go_simp) ?_
  try simp only [Act.put, List.setIfInBounds_toArray, List.set_cons_succ, List.set_cons_zero]
  refine takeL (.agg (i64s wmap).toArray) rfl (by go_simp) ?_
  try simp only [Act.put, List.setIfInBounds_toArray, List.set_cons_succ, List.set_cons_zero]
  refine takeL (.bool true) rfl (by go_simp) ?_
  try simp only [Act.put, List.setIfInBounds_toArray, List.set_cons_succ, List.set_cons_zero]
  refine alloc_g zero41 rfl ?_
  intro wa9 hA hb hl
  try simp only [Act.put, List.setIfInBounds_toArray, List.set_cons_succ, List.set_cons_zero]
  refine store_all (cs := (i64s wmap).toArray) hA (by simp [wmap, zeros]) (by simp only [List.size_toArray, List.length_map]; exact info41) (i64s_one _) rfl rfl rfl ?_
  intro ws9 hD hO hlD
  try simp only [Act.put, List.setIfInBounds_toArray, List.set_cons_succ, List.set_cons_zero]
  have hbb : Below wq9.heap.size wq9 ws9 := hb.trans (hO.below hb.size fun k hk => Nat.le_of_eq hk.symm)
  have H9 : Hid (Blk ws9 wq9.heap.size (i64s wmap)) := Lib.hid (by simpa using hD)
  have HZn : Hid (Fz w (fun k => k < w.heap.size ∨ k = g3 ∨ k = g4 ∨ k = gd ∨ k = wq9.heap.size) ws9 L wk7) := Lib.hid (HZq.out.add wk7_ok hbb (fun k hk => by rcases hk with hk | hk | hk | hk <;> simp [hk]) (fun k hk => by
    have h3 := H9.out.lt
    rcases hk with hk | hk | hk | hk | hk
    · exact .inl (.inl hk)
    · exact .inl (.inr (.inl hk))
    · exact .inl (.inr (.inr (.inl hk)))
    · exact .inl (.inr (.inr (.inr hk)))
    · exact .inr (by omega)))
  have H3_203 := Lib.hid (H3_202.out.below hbb H3_202.out.lt)
  clear H3_202
  have H4_203 := Lib.hid (H4_202.out.below hbb H4_202.out.lt)
  clear H4_202
  have HI_203 := Lib.hid (HI_202.out.below hbb)
  clear HI_202
  clear hA hb hl hD hO hlD hbb HZm HZq HMM
  generalize wq9.heap.size = g9 at *
  refine takeL (.bool true) rfl (by go_simp) ?_
  try simp only [Act.put, List.setIfInBounds_toArray, List.set_cons_succ, List.set_cons_zero]
  refine wpList_nil ?_
  go_upto_region 10 with fail
  refine startH (fun wq => Only (fun k => ¬ (k < w.heap.size ∨ k = g3 ∨ k = g4 ∨ k = gd ∨ k = g9)) ws9 wq) (by kernel_rfl) ?_
  refine takeH 0 (some 71) (.bool true) rfl rfl (by kernel_rfl) (by kernel_rfl) (by kernel_rfl) (fun _ _ _ h => h) rfl (fun wq hS => by go_simp) (Only.refl _ _).drew ?_
  try simp only [Act.put, List.setIfInBounds_toArray, List.set_cons_succ, List.set_cons_zero]
  refine takeH 1 (some 72) (.bool true) rfl rfl (by kernel_rfl) (by kernel_rfl) (by kernel_rfl) (fun _ _ _ h => h) rfl (fun wq hS => by go_simp) (Only.refl _ _).drew ?_
  try simp only [Act.put, List.setIfInBounds_toArray, List.set_cons_succ, List.set_cons_zero]
  refine takeH 2 (some 73) (.agg (u8s (leaf 7)).toArray) rfl rfl (by kernel_rfl) (by kernel_rfl) (by kernel_rfl) (fun _ _ _ h => h) rfl (fun wq hS => by exact exec_load_at wq _ _ 39 _ rfl (g3) (0) rfl ((u8s (leaf 7)).toArray) _ Tryz.underlying39 rfl (by rw [u8s_size, leaf_len]; exact info39) (Blk.all (H3_203.out.only hS (fun q => q (.inr (.inl rfl)))) rfl)) (Only.refl _ _).drew ?_
  try simp only [Act.put, List.setIfInBounds_toArray, List.set_cons_succ, List.set_cons_zero]
  refine oneH 3 (by kernel_rfl) rfl rfl fun K hK => ?_
  go_simp
  refine (Leaf_any 7 _).mono ?_
  rintro e v1 ⟨rfl, hb⟩
  have T1 := Lib.hid ((((Below.refl (World.heap ws9).size ws9).drew)).trans (hb.mono (((Below.refl (World.heap ws9).size ws9).drew)).size))
  have HS1 : Hid (Only (fun k => ¬ (k < w.heap.size ∨ k = g3 ∨ k = g4 ∨ k = gd ∨ k = g9)) ws9 v1) := Lib.hid (Only.of_below T1.out)
  clear hb
  refine hK _ _ HS1.out ?_
  clear hK K
  try simp only [Act.put, List.setIfInBounds_toArray, List.set_cons_succ, List.set_cons_zero]
  refine takeH 4 (some 75) (.bool true) rfl rfl (by kernel_rfl) (by kernel_rfl) (by kernel_rfl) (fun _ _ _ h => h) rfl (fun wq hS => by exact exec_page (by rw [decide_eq_true rfl]) (leaf_len 7) (leaf_len 7) _ _ _ rfl rfl rfl) HS1.out ?_
  try simp only [Act.put, List.setIfInBounds_toArray, List.set_cons_succ, List.set_cons_zero]
  refine takeH 5 (some 76) (.bool true) rfl rfl (by kernel_rfl) (by kernel_rfl) (by kernel_rfl) (fun _ _ _ h => h) rfl (fun wq hS => by go_simp) HS1.out ?_
  try simp only [Act.put, List.setIfInBounds_toArray, List.set_cons_succ, List.set_cons_zero]
  refine takeH 6 (some 77) (.bool true) rfl rfl (by kernel_rfl) (by kernel_rfl) (by kernel_rfl) (fun _ _ _ h => h) rfl (fun wq hS => by go_simp) HS1.out ?_
  try simp only [Act.put, List.setIfInBounds_toArray, List.set_cons_succ, List.set_cons_zero]
  refine takeH 7 (some 78) (.pointer (some ⟨g4, 1, none⟩)) rfl rfl (by kernel_rfl) (by kernel_rfl) (by kernel_rfl) (fun _ _ _ h => h) rfl (fun wq hS => by go_simp) HS1.out ?_
  try simp only [Act.put, List.setIfInBounds_toArray, List.set_cons_succ, List.set_cons_zero]
  refine takeH 8 (some 79) (.int .u8 9) rfl rfl (by kernel_rfl) (by kernel_rfl) (by kernel_rfl) (fun _ _ _ h => h) rfl (fun wq hS => by have hq := (H4_203.out.only hS (fun q => q (.inr (.inr (.inl rfl))))).cell (i := 1) (v := .int .u8 9) rfl; go_simp) HS1.out ?_
  try simp only [Act.put, List.setIfInBounds_toArray, List.set_cons_succ, List.set_cons_zero]
  refine takeH 9 (some 80) (.bool true) rfl rfl (by kernel_rfl) (by kernel_rfl) (by kernel_rfl) (fun _ _ _ h => h) rfl (fun wq hS => by go_simp) HS1.out ?_
  try simp only [Act.put, List.setIfInBounds_toArray, List.set_cons_succ, List.set_cons_zero]
  refine takeH 10 (some 81) (.bool true) rfl rfl (by kernel_rfl) (by kernel_rfl) (by kernel_rfl) (fun _ _ _ h => h) rfl (fun wq hS => by go_simp) HS1.out ?_
  try simp only [Act.put, List.setIfInBounds_toArray, List.set_cons_succ, List.set_cons_zero]
  refine takeH 11 (some 82) (.bool true) rfl rfl (by kernel_rfl) (by kernel_rfl) (by kernel_rfl) (fun _ _ _ h => h) rfl (fun wq hS => by go_simp) HS1.out ?_
  try simp only [Act.put, List.setIfInBounds_toArray, List.set_cons_succ, List.set_cons_zero]
  refine takeH 12 (some 83) (.pointer (some ⟨g4, 0, none⟩)) rfl rfl (by kernel_rfl) (by kernel_rfl) (by kernel_rfl) (fun _ _ _ h => h) rfl (fun wq hS => by go_simp) HS1.out ?_
  try simp only [Act.put, List.setIfInBounds_toArray, List.set_cons_succ, List.set_cons_zero]
  refine takeH 13 (some 84) (.int .u8 7) rfl rfl (by kernel_rfl) (by kernel_rfl) (by kernel_rfl) (fun _ _ _ h => h) rfl (fun wq hS => by have hq := (H4_203.out.only hS (fun q => q (.inr (.inr (.inl rfl))))).cell (i := 0) (v := .int .u8 7) rfl; go_simp) HS1.out ?_
  try simp only [Act.put, List.setIfInBounds_toArray, List.set_cons_succ, List.set_cons_zero]
  refine takeH 14 (some 85) (.bool true) rfl rfl (by kernel_rfl) (by kernel_rfl) (by kernel_rfl) (fun _ _ _ h => h) rfl (fun wq hS => by go_simp) HS1.out ?_
  try simp only [Act.put, List.setIfInBounds_toArray, List.set_cons_succ, List.set_cons_zero]
  refine takeH 15 (some 86) (.bool true) rfl rfl (by kernel_rfl) (by kernel_rfl) (by kernel_rfl) (fun _ _ _ h => h) rfl (fun wq hS => by go_simp) HS1.out ?_
  try simp only [Act.put, List.setIfInBounds_toArray, List.set_cons_succ, List.set_cons_zero]
  refine takeH 16 (some 87) (.bool true) rfl rfl (by kernel_rfl) (by kernel_rfl) (by kernel_rfl) (fun _ _ _ h => h) rfl (fun wq hS => by go_simp) HS1.out ?_
  try simp only [Act.put, List.setIfInBounds_toArray, List.set_cons_succ, List.set_cons_zero]
  refine takeH 17 (some 88) (.slice (some ⟨gd, od, none⟩) 1 cd) rfl rfl (by kernel_rfl) (by kernel_rfl) (by kernel_rfl) (fun _ _ _ h => h) rfl (fun wq hS => by go_simp) HS1.out ?_
  try simp only [Act.put, List.setIfInBounds_toArray, List.set_cons_succ, List.set_cons_zero]
  refine oneH 18 (by kernel_rfl) rfl rfl fun K hK => ?_
  refine wp_runTo (some 89) rfl (.slice (some ⟨v1.heap.size, 0, none⟩) 1 1) (v1.alloc (.cells #[.int .i64 5] 3)) (by go_simp) ?_
  have hb : Below v1.heap.size v1 (v1.alloc (.cells #[.int .i64 5] 3)) := (Below.refl _ _).alloc (Nat.le_refl _) _
  have HLI := Lib.hid (Kl.Own.lit v1 v1.heap.size (Nat.le_refl _) [5] (by simp) _ rfl)
  have T2 := Lib.hid ((T1.out).trans (hb.mono (T1.out).size))
  have HS2 : Hid (Only (fun k => ¬ (k < w.heap.size ∨ k = g3 ∨ k = g4 ∨ k = gd ∨ k = g9)) ws9 (v1.alloc (.cells #[.int .i64 5] 3))) := Lib.hid (Only.of_below T2.out)
  clear hb
  refine hK _ _ HS2.out ?_
  clear hK K
  try simp only [Act.put, List.setIfInBounds_toArray, List.set_cons_succ, List.set_cons_zero]
  refine oneH 19 (by kernel_rfl) rfl rfl fun K hK => ?_
  go_simp
  refine (intsT (HI_203.out.below (T2.out)) HLI.out.ints (by decide)).mono ?_
  rintro e v3 ⟨rfl, hb⟩
  have T3 := Lib.hid ((T2.out).trans (hb.mono (T2.out).size))
  have HS3 : Hid (Only (fun k => ¬ (k < w.heap.size ∨ k = g3 ∨ k = g4 ∨ k = gd ∨ k = g9)) ws9 v3) := Lib.hid (Only.of_below T3.out)
  clear hb
  refine hK _ _ HS3.out ?_
  clear hK K
  try simp only [Act.put, List.setIfInBounds_toArray, List.set_cons_succ, List.set_cons_zero]
  refine takeH 20 (some 91) (.bool true) rfl rfl (by kernel_rfl) (by kernel_rfl) (by kernel_rfl) (fun _ _ _ h => h) rfl (fun wq hS => by go_simp) HS3.out ?_
  try simp only [Act.put, List.setIfInBounds_toArray, List.set_cons_succ, List.set_cons_zero]
  refine takeH 21 (some 92) (.bool true) rfl rfl (by kernel_rfl) (by kernel_rfl) (by kernel_rfl) (fun _ _ _ h => h) rfl (fun wq hS => by go_simp) HS3.out ?_
  try simp only [Act.put, List.setIfInBounds_toArray, List.set_cons_succ, List.set_cons_zero]
  refine takeH 22 (some 93) (.bool false) rfl rfl (by kernel_rfl) (by kernel_rfl) (by kernel_rfl) (fun _ _ _ h => h) rfl (fun wq hS => by go_simp) HS3.out ?_
  try simp only [Act.put, List.setIfInBounds_toArray, List.set_cons_succ, List.set_cons_zero]
  refine takeH 23 (some 94) (.bool true) rfl rfl (by kernel_rfl) (by kernel_rfl) (by kernel_rfl) (fun _ _ _ h => h) rfl (fun wq hS => by go_simp) HS3.out ?_
  try simp only [Act.put, List.setIfInBounds_toArray, List.set_cons_succ, List.set_cons_zero]
  refine takeH 24 (some 95) (.bool true) rfl rfl (by kernel_rfl) (by kernel_rfl) (by kernel_rfl) (fun _ _ _ h => h) rfl (fun wq hS => by go_simp) HS3.out ?_
  try simp only [Act.put, List.setIfInBounds_toArray, List.set_cons_succ, List.set_cons_zero]
  refine takeH 25 (some 96) (.bool true) rfl rfl (by kernel_rfl) (by kernel_rfl) (by kernel_rfl) (fun _ _ _ h => h) rfl (fun wq hS => by go_simp) HS3.out ?_
  try simp only [Act.put, List.setIfInBounds_toArray, List.set_cons_succ, List.set_cons_zero]
  refine takeH 26 (some 97) (.pointer (some ⟨L.b, 0, none⟩)) rfl rfl (by kernel_rfl) (by kernel_rfl) (by kernel_rfl) (fun _ _ _ h => h) rfl (fun wq hS => by go_simp) HS3.out ?_
  try simp only [Act.put, List.setIfInBounds_toArray, List.set_cons_succ, List.set_cons_zero]
  refine oneH 27 (by kernel_rfl) rfl rfl fun K hK => ?_
  go_simp
  refine (wdir (HZn.out.below (T3.out))).mono ?_
  rintro e v4 ⟨dv2, cv2, rfl, hb⟩
  have T4 := Lib.hid ((T3.out).trans (hb.mono (T3.out).size))
  have HS4 : Hid (Only (fun k => ¬ (k < w.heap.size ∨ k = g3 ∨ k = g4 ∨ k = gd ∨ k = g9)) ws9 v4) := Lib.hid (Only.of_below T4.out)
  clear hb
  refine hK _ _ HS4.out ?_
  clear hK K
  try simp only [Act.put, List.setIfInBounds_toArray, List.set_cons_succ, List.set_cons_zero]
  refine takeH 28 (some 99) (.int .i64 0) rfl rfl (by kernel_rfl) (by kernel_rfl) (by kernel_rfl) (fun _ _ _ h => h) rfl (fun wq hS => by go_simp) HS4.out ?_
  try simp only [Act.put, List.setIfInBounds_toArray, List.set_cons_succ, List.set_cons_zero]
  refine takeH 29 (some 100) (.bool true) rfl rfl (by kernel_rfl) (by kernel_rfl) (by kernel_rfl) (fun _ _ _ h => h) rfl (fun wq hS => by go_simp) HS4.out ?_
  try simp only [Act.put, List.setIfInBounds_toArray, List.set_cons_succ, List.set_cons_zero]
  refine takeH 30 (some 101) (.bool true) rfl rfl (by kernel_rfl) (by kernel_rfl) (by kernel_rfl) (fun _ _ _ h => h) rfl (fun wq hS => by go_simp) HS4.out ?_
  try simp only [Act.put, List.setIfInBounds_toArray, List.set_cons_succ, List.set_cons_zero]
  refine takeH 31 (some 102) (.bool true) rfl rfl (by kernel_rfl) (by kernel_rfl) (by kernel_rfl) (fun _ _ _ h => h) rfl (fun wq hS => by go_simp) HS4.out ?_
  try simp only [Act.put, List.setIfInBounds_toArray, List.set_cons_succ, List.set_cons_zero]
  refine takeH 32 (some 103) (.bool true) rfl rfl (by kernel_rfl) (by kernel_rfl) (by kernel_rfl) (fun _ _ _ h => h) rfl (fun wq hS => by go_simp) HS4.out ?_
  try simp only [Act.put, List.setIfInBounds_toArray, List.set_cons_succ, List.set_cons_zero]
  refine takeH 33 (some 104) (.bool true) rfl rfl (by kernel_rfl) (by kernel_rfl) (by kernel_rfl) (fun _ _ _ h => h) rfl (fun wq hS => by go_simp) HS4.out ?_
  try simp only [Act.put, List.setIfInBounds_toArray, List.set_cons_succ, List.set_cons_zero]
  refine takeH 34 (some 105) (.bool true) rfl rfl (by kernel_rfl) (by kernel_rfl) (by kernel_rfl) (fun _ _ _ h => h) rfl (fun wq hS => by go_simp) HS4.out ?_
  try simp only [Act.put, List.setIfInBounds_toArray, List.set_cons_succ, List.set_cons_zero]
  refine takeH 35 (some 106) (.bool true) rfl rfl (by kernel_rfl) (by kernel_rfl) (by kernel_rfl) (fun _ _ _ h => h) rfl (fun wq hS => by go_simp) HS4.out ?_
  try simp only [Act.put, List.setIfInBounds_toArray, List.set_cons_succ, List.set_cons_zero]
  refine takeH 36 (some 107) (.bool true) rfl rfl (by kernel_rfl) (by kernel_rfl) (by kernel_rfl) (fun _ _ _ h => h) rfl (fun wq hS => by go_simp) HS4.out ?_
  try simp only [Act.put, List.setIfInBounds_toArray, List.set_cons_succ, List.set_cons_zero]
  refine takeH 37 (some 108) (.bool true) rfl rfl (by kernel_rfl) (by kernel_rfl) (by kernel_rfl) (fun _ _ _ h => h) rfl (fun wq hS => by go_simp) HS4.out ?_
  try simp only [Act.put, List.setIfInBounds_toArray, List.set_cons_succ, List.set_cons_zero]
  refine takeH 38 (some 109) (.pointer (some ⟨g9, 0, none⟩)) rfl rfl (by kernel_rfl) (by kernel_rfl) (by kernel_rfl) (fun _ _ _ h => h) rfl (fun wq hS => by go_simp) HS4.out ?_
  try simp only [Act.put, List.setIfInBounds_toArray, List.set_cons_succ, List.set_cons_zero]
  refine takeH 39 (some 110) (.int .i64 4) rfl rfl (by kernel_rfl) (by kernel_rfl) (by kernel_rfl) (fun _ _ _ h => h) rfl (fun wq hS => by have hq := (H9.out.only hS (fun q => q (.inr (.inr (.inr (.inr rfl)))))).cell (i := 0) (v := .int .i64 4) rfl; go_simp) HS4.out ?_
  try simp only [Act.put, List.setIfInBounds_toArray, List.set_cons_succ, List.set_cons_zero]
  refine takeH 40 (some 111) (.bool true) rfl rfl (by kernel_rfl) (by kernel_rfl) (by kernel_rfl) (fun _ _ _ h => h) rfl (fun wq hS => by go_simp) HS4.out ?_
  try simp only [Act.put, List.setIfInBounds_toArray, List.set_cons_succ, List.set_cons_zero]
  refine takeH 41 (some 112) (.bool true) rfl rfl (by kernel_rfl) (by kernel_rfl) (by kernel_rfl) (fun _ _ _ h => h) rfl (fun wq hS => by go_simp) HS4.out ?_
  try simp only [Act.put, List.setIfInBounds_toArray, List.set_cons_succ, List.set_cons_zero]
  refine takeH 42 (some 113) (.bool true) rfl rfl (by kernel_rfl) (by kernel_rfl) (by kernel_rfl) (fun _ _ _ h => h) rfl (fun wq hS => by go_simp) HS4.out ?_
  try simp only [Act.put, List.setIfInBounds_toArray, List.set_cons_succ, List.set_cons_zero]
  refine takeH 43 (some 114) (.pointer (some ⟨L.b, 0, none⟩)) rfl rfl (by kernel_rfl) (by kernel_rfl) (by kernel_rfl) (fun _ _ _ h => h) rfl (fun wq hS => by go_simp) HS4.out ?_
  try simp only [Act.put, List.setIfInBounds_toArray, List.set_cons_succ, List.set_cons_zero]
  refine oneH 44 (by kernel_rfl) rfl rfl fun K hK => ?_
  go_simp
  refine (wc8 (HZn.out.below (T4.out))).mono ?_
  rintro e v5 ⟨rfl, hz, ho⟩
  have HZf := Lib.hid hz
  have HS5 := Lib.hid ((HS4.out).trans ho)
  clear hz ho
  refine hK _ _ HS5.out ?_
  clear hK K
  try simp only [Act.put, List.setIfInBounds_toArray, List.set_cons_succ, List.set_cons_zero]
  refine takeH 45 (some 116) (.bool true) rfl rfl (by kernel_rfl) (by kernel_rfl) (by kernel_rfl) (fun _ _ _ h => h) rfl (fun wq hS => by go_simp) HS5.out ?_
  try simp only [Act.put, List.setIfInBounds_toArray, List.set_cons_succ, List.set_cons_zero]
  refine takeH 46 (some 117) (.bool true) rfl rfl (by kernel_rfl) (by kernel_rfl) (by kernel_rfl) (fun _ _ _ h => h) rfl (fun wq hS => by go_simp) HS5.out ?_
  try simp only [Act.put, List.setIfInBounds_toArray, List.set_cons_succ, List.set_cons_zero]
  refine takeH 47 (some 118) (.pointer (some ⟨L.b, 0, none⟩)) rfl rfl (by kernel_rfl) (by kernel_rfl) (by kernel_rfl) (fun _ _ _ h => h) rfl (fun wq hS => by go_simp) HS5.out ?_
  try simp only [Act.put, List.setIfInBounds_toArray, List.set_cons_succ, List.set_cons_zero]
  refine oneH 48 (by kernel_rfl) rfl rfl fun K hK => ?_
  go_simp
  refine (wc9 HZf.out).mono ?_
  rintro e v6 ⟨rfl, hz, ho⟩
  have HZg := Lib.hid hz
  have HS6 := Lib.hid ((HS5.out).trans ho)
  clear hz ho
  refine hK _ _ HS6.out ?_
  clear hK K
  try simp only [Act.put, List.setIfInBounds_toArray, List.set_cons_succ, List.set_cons_zero]
  refine takeH 49 (some 120) (.bool true) rfl rfl (by kernel_rfl) (by kernel_rfl) (by kernel_rfl) (fun _ _ _ h => h) rfl (fun wq hS => by go_simp) HS6.out ?_
  try simp only [Act.put, List.setIfInBounds_toArray, List.set_cons_succ, List.set_cons_zero]
  refine takeH 50 (some 121) (.bool true) rfl rfl (by kernel_rfl) (by kernel_rfl) (by kernel_rfl) (fun _ _ _ h => h) rfl (fun wq hS => by go_simp) HS6.out ?_
  try simp only [Act.put, List.setIfInBounds_toArray, List.set_cons_succ, List.set_cons_zero]
  refine takeH 51 (some 0) (.bool true) rfl rfl (by kernel_rfl) (by kernel_rfl) (by kernel_rfl) (fun _ _ _ h => h) rfl (fun wq hS => by go_simp) HS6.out ?_
  try simp only [Act.put, List.setIfInBounds_toArray, List.set_cons_succ, List.set_cons_zero]
  refine wpAnyH_done (by kernel_rfl) ?_ _
  go_wp2_with fail
  go_ret
  exact ⟨rfl, HZg.out.bel⟩

end Go.Proofs.YtaemjglblfencaaGreatDoor
