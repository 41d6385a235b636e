/- The statement SummaryPlaces' walk. -/
import Derived.Test.YtfhpmhigfhnbaaaBack
namespace Go.Proofs.Ytfhpmhigfhnbaaa
set_option linter.unusedSimpArgs false
set_option linter.unusedVariables false
open Go.RowKit

theorem blocks_of {l : List Mk} {n : Nat} (h : blocks l = n) (sv : Value) (hl : l.length ≤ 1000000) (w : World) (hm : MarksAt w sv l) : Calls Try.prog 14 #[sv] w fun e w' => e = .returned (.int .i64 n) ∧ Below w.heap.size w w' := by
  have := blocks_any sv l hl w hm
  rwa [h] at this
/-- Marks from k on. -/
theorem MarksAt.rest {w : World} {a : Option Addr} {n cap : Nat} {l : List Mk} (h : MarksAt w (.slice a n cap) l) (hn : n ≤ cap) (k : Nat) (hk : k ≤ n) : MarksAt w (sliced a k n cap 2) (l.drop k) := by
  obtain ⟨b, c, e, hc⟩ := h
  cases e
  unfold sliced
  refine ⟨_, cap - k, by rw [List.length_drop], fun i m hi => ?_⟩
  rw [List.getElem?_drop] at hi
  have hlt := (List.getElem?_eq_some_iff.1 hi).1
  obtain ⟨b, o, rfl, h1, h2⟩ := hc _ m hi
  rw [if_neg (by omega)]
  refine ⟨b, o + k * 2, ?_, ?_, ?_⟩
  · rw [Option.map_some]
    unfold Addr.add
    split <;> simp_all
  · rw [show o + k * 2 + i * 2 = o + (k + i) * 2 by omega]
    exact h1
  · rw [show o + k * 2 + i * 2 = o + (k + i) * 2 by omega]
    exact h2
/-- Marks up to k. -/
theorem MarksAt.upto {w : World} {a : Option Addr} {n cap : Nat} {l : List Mk} (h : MarksAt w (.slice a n cap) l) (hn : n ≤ cap) (k : Nat) (hk : k ≤ n) : MarksAt w (sliced a 0 k cap 2) (l.take k) := by
  obtain ⟨b, c, e, hc⟩ := h
  cases e
  unfold sliced
  refine ⟨_, cap - 0, by rw [List.length_take, Nat.min_eq_left hk, Nat.sub_zero], fun i m hi => ?_⟩
  have hlt : i < k := by
    have := (List.getElem?_eq_some_iff.1 hi).1
    rw [List.length_take] at this
    omega
  rw [List.getElem?_take_of_lt hlt] at hi
  have hil := (List.getElem?_eq_some_iff.1 hi).1
  obtain ⟨b, o, rfl, h1, h2⟩ := hc _ m hi
  rw [if_neg (by omega)]
  refine ⟨b, o, ?_, h1, h2⟩
  rw [Option.map_some]
  unfold Addr.add
  split <;> simp_all
theorem enc_cell {s : Sm} (h : s.good = true) {i : Nat} (hi : i < 64) : (u8s s.enc)[i]? = some (.int .u8 (s.enc.getD i 0)) := u8s_at (by rw [enc_length h]; exact hi)

set_option maxHeartbeats 1000000 in
set_option maxRecDepth 100000 in
theorem places_long (s : Sm) (a : Option Addr) (cap : Nat) (y : Int) (hs : s.Wf) (hy : Byte y) (hcap : s.marks.length ≤ cap) (hl : 300 < s.marks.length) (w : World) (hms : MarksAt w (.slice a s.marks.length cap) s.marks) : Calls Try.prog 5 #[.agg #[.int .u32 s.seq, .bool s.more, .slice a s.marks.length cap], .int .u8 y] w fun e w' => e = .returned (.bool true) ∧ Below w.heap.size w w' := by
  have HWs := Lib.hid hs
  have HSs := Lib.hid (sec_length s)
  have HZ64 : Hid ((zeros 64).length = 64) := Lib.hid rfl
  obtain ⟨hy1, hy2⟩ := hy
  have FYS := Lib.hid hms
  have HBL : Hid (Below w.heap.size w w) := Lib.hid (Below.refl _ _)
  have hl2 : (300 : Int) < s.marks.length := by omega
  clear hs hms
  go_enter Try.func5, Try.ntmps5
  go_upto_region 0 with fail
  refine wp_region_lit ?_
  refine box_g rfl rfl ?_
  intro w1 hA hb hl
  try simp only [Act.put, List.setIfInBounds_toArray, List.set_cons_succ, List.set_cons_zero]
  clear hl
  have F2 := Lib.hid (HBL.out.trans (hb.mono HBL.out.size))
  have F3 := Lib.hid (FYS.out.below hb)
  clear HBL FYS
  have F4 := Lib.hid hA
  clear hA hb
  refine takeL (.bool false) rfl (by go_simp) ?_
  try simp only [Act.put, List.setIfInBounds_toArray, List.set_cons_succ, List.set_cons_zero]
  refine wpList_nil ?_
  go_upto_region 1 with fail
  refine wp_region_lit ?_
  refine takeL (.pointer (some ⟨w.heap.size, 2, none⟩)) rfl (by go_simp) ?_
  try simp only [Act.put, List.setIfInBounds_toArray, List.set_cons_succ, List.set_cons_zero]
  refine takeL ((.slice a s.marks.length cap)) rfl (by have hq := F4.out.cell (i := 2) (v := (.slice a s.marks.length cap)) rfl; go_simp) ?_
  try simp only [Act.put, List.setIfInBounds_toArray, List.set_cons_succ, List.set_cons_zero]
  refine takeL (.int .i64 (s.marks.length)) rfl (by go_simp) ?_
  try simp only [Act.put, List.setIfInBounds_toArray, List.set_cons_succ, List.set_cons_zero]
  refine takeL (.bool true) rfl (by go_simp) ?_
  try simp only [Act.put, List.setIfInBounds_toArray, List.set_cons_succ, List.set_cons_zero]
  refine wpList_nil ?_
  go_upto_region 2 with fail
  refine wp_region_lit ?_
  refine wpList_op rfl fun K hK => ?_
  go_simp
  refine (wakes_any _).mono ?_
  rintro e w5 ⟨rfl, hb⟩
  have F6 := Lib.hid (F2.out.trans (hb.mono F2.out.size))
  have F7 := Lib.hid (F3.out.below hb)
  have F8 := Lib.hid (F4.out.below hb F4.out.lt)
  clear F2 F3 F4
  clear hb
  refine hK _ _ ?_
  clear hK K
  try simp only [Act.put, List.setIfInBounds_toArray, List.set_cons_succ, List.set_cons_zero]
  refine takeL (.bool true) rfl (by go_simp) ?_
  try simp only [Act.put, List.setIfInBounds_toArray, List.set_cons_succ, List.set_cons_zero]
  refine wpList_nil ?_
  go_wp2_with fail
  go_ret
  exact ⟨rfl, F6.out⟩
set_option maxHeartbeats 1000000 in
set_option maxRecDepth 100000 in
theorem places_n (s : Sm) (a : Option Addr) (cap : Nat) (y : Int) (hs : s.Wf) (hy : Byte y) (hcap : s.marks.length ≤ cap) (hl : s.marks.length ≤ 300) (hg : s.good = false) (w : World) (hms : MarksAt w (.slice a s.marks.length cap) s.marks) : Calls Try.prog 5 #[.agg #[.int .u32 s.seq, .bool s.more, .slice a s.marks.length cap], .int .u8 y] w fun e w' => e = .returned (.bool true) ∧ Below w.heap.size w w' := by
  have HWs := Lib.hid hs
  have HSs := Lib.hid (sec_length s)
  have HZ64 : Hid ((zeros 64).length = 64) := Lib.hid rfl
  obtain ⟨hy1, hy2⟩ := hy
  have FYS := Lib.hid hms
  have HBL : Hid (Below w.heap.size w w) := Lib.hid (Below.refl _ _)
  have hl2 : ¬ (300 : Int) < s.marks.length := by omega
  have HLs : Hid (s.marks.length ≤ 1000000) := Lib.hid (by omega)
  have HG := Lib.hid hg
  clear hg
  clear hs hms
  go_enter Try.func5, Try.ntmps5
  go_upto_region 0 with fail
  refine wp_region_lit ?_
  refine box_g rfl rfl ?_
  intro w1 hA hb hl
  try simp only [Act.put, List.setIfInBounds_toArray, List.set_cons_succ, List.set_cons_zero]
  clear hl
  have F2 := Lib.hid (HBL.out.trans (hb.mono HBL.out.size))
  have F3 := Lib.hid (FYS.out.below hb)
  clear HBL FYS
  have F4 := Lib.hid hA
  clear hA hb
  refine takeL (.bool false) rfl (by go_simp) ?_
  try simp only [Act.put, List.setIfInBounds_toArray, List.set_cons_succ, List.set_cons_zero]
  refine wpList_nil ?_
  go_upto_region 1 with fail
  refine wp_region_lit ?_
  refine takeL (.pointer (some ⟨w.heap.size, 2, none⟩)) rfl (by go_simp) ?_
  try simp only [Act.put, List.setIfInBounds_toArray, List.set_cons_succ, List.set_cons_zero]
  refine takeL ((.slice a s.marks.length cap)) rfl (by have hq := F4.out.cell (i := 2) (v := (.slice a s.marks.length cap)) rfl; go_simp) ?_
  try simp only [Act.put, List.setIfInBounds_toArray, List.set_cons_succ, List.set_cons_zero]
  refine takeL (.int .i64 (s.marks.length)) rfl (by go_simp) ?_
  try simp only [Act.put, List.setIfInBounds_toArray, List.set_cons_succ, List.set_cons_zero]
  refine takeL (.bool false) rfl (by go_simp) ?_
  try simp only [Act.put, List.setIfInBounds_toArray, List.set_cons_succ, List.set_cons_zero]
  refine wpList_nil ?_
  obtain ⟨k, hk⟩ : ∃ k : Nat, y % (s.marks.length + 1) = (k : Int) := ⟨(y % (s.marks.length + 1)).toNat, by have := Int.emod_nonneg y (show (s.marks.length : Int) + 1 ≠ 0 by omega); omega⟩
  have hkl : k ≤ s.marks.length := by have := Int.emod_lt_of_pos y (show (0 : Int) < (s.marks.length : Int) + 1 by omega); omega
  have HK := Lib.hid hk
  clear hk
  go_upto_region 3 with fail
  refine wp_region_lit ?_
  refine takeL (.int .u8 y) rfl (by go_simp) ?_
  try simp only [Act.put, List.setIfInBounds_toArray, List.set_cons_succ, List.set_cons_zero]
  refine takeL (.int .i64 y) rfl (by go_simp; exact wrap64 hy1 (by omega)) ?_
  try simp only [Act.put, List.setIfInBounds_toArray, List.set_cons_succ, List.set_cons_zero]
  refine takeL (.pointer (some ⟨w.heap.size, 2, none⟩)) rfl (by go_simp) ?_
  try simp only [Act.put, List.setIfInBounds_toArray, List.set_cons_succ, List.set_cons_zero]
  refine takeL ((.slice a s.marks.length cap)) rfl (by have hq := F4.out.cell (i := 2) (v := (.slice a s.marks.length cap)) rfl; go_simp) ?_
  try simp only [Act.put, List.setIfInBounds_toArray, List.set_cons_succ, List.set_cons_zero]
  refine takeL (.int .i64 (s.marks.length)) rfl (by go_simp) ?_
  try simp only [Act.put, List.setIfInBounds_toArray, List.set_cons_succ, List.set_cons_zero]
  refine takeL (.int .i64 (s.marks.length + 1)) rfl (by go_simp <;> exact wrap64 (by omega) (by omega)) ?_
  try simp only [Act.put, List.setIfInBounds_toArray, List.set_cons_succ, List.set_cons_zero]
  refine takeL (.int .i64 k) rfl (by go_simp; rw [if_neg (by omega), Int.tmod_eq_emod_of_nonneg hy1, HK.out]) ?_
  try simp only [Act.put, List.setIfInBounds_toArray, List.set_cons_succ, List.set_cons_zero]
  refine takeL (.int .i64 k) rfl (by go_simp) ?_
  try simp only [Act.put, List.setIfInBounds_toArray, List.set_cons_succ, List.set_cons_zero]
  refine wpList_nil ?_
  have FY1 := Lib.hid (F3.out.upto hcap k hkl)
  have FY2 := Lib.hid (F3.out.rest hcap k hkl)
  obtain ⟨s1, hs1⟩ : ∃ v, sliced a 0 k cap 2 = v := ⟨_, rfl⟩
  obtain ⟨s2, hs2⟩ : ∃ v, sliced a k s.marks.length cap 2 = v := ⟨_, rfl⟩
  rw [hs1] at FY1
  rw [hs2] at FY2
  have HS1 := Lib.hid hs1
  have HS2 := Lib.hid hs2
  obtain ⟨n1, hn1⟩ : ∃ n, blocks (s.marks.take k) = n := ⟨_, rfl⟩
  obtain ⟨n2, hn2⟩ : ∃ n, blocks (s.marks.drop k) = n := ⟨_, rfl⟩
  obtain ⟨n3, hn3⟩ : ∃ n, blocks s.marks = n := ⟨_, rfl⟩
  have HN1 := Lib.hid hn1
  have HN2 := Lib.hid hn2
  have HN3 := Lib.hid hn3
  have hsum : n1 + n2 = n3 := by rw [← hn1, ← hn2, ← hn3, ← blocks_append, List.take_append_drop]
  have hle3 : n3 ≤ s.marks.length := by rw [← hn3]; exact blocks_le _
  have HT : Hid ((s.marks.take k).length ≤ 1000000) := Lib.hid (by rw [List.length_take]; omega)
  have HD : Hid ((s.marks.drop k).length ≤ 1000000) := Lib.hid (by rw [List.length_drop]; omega)
  have hk0 : (0 : Int) ≤ (k : Int) := by omega
  have hk1 : (k : Int) ≤ (s.marks.length : Int) := by omega
  have hk2 : (k : Int) ≤ (cap : Int) := by omega
  have hsumi : (n1 : Int) + (n2 : Int) = (n3 : Int) := by omega
  have hle3i : ¬ (s.marks.length : Int) < (n3 : Int) := by omega
  clear hs1 hs2 hn1 hn2 hn3
  go_upto_region 4 with fail
  refine startH (fun wq => Below w1.heap.size w1 wq) (by kernel_rfl) ?_
  refine takeH 0 (some 25) (.pointer (some ⟨w.heap.size, 2, none⟩)) rfl rfl (by kernel_rfl) (by kernel_rfl) (by kernel_rfl) (fun _ _ _ h => h) rfl (fun wq hS => by go_simp) (Below.refl _ _).drew ?_
  try simp only [Act.put, List.setIfInBounds_toArray, List.set_cons_succ, List.set_cons_zero]
  refine takeH 1 (some 26) ((.slice a s.marks.length cap)) rfl rfl (by kernel_rfl) (by kernel_rfl) (by kernel_rfl) (fun _ _ _ h => h) rfl (fun wq hS => by have hq := (F4.out.below hS F4.out.lt).cell (i := 2) (v := (.slice a s.marks.length cap)) rfl; go_simp) (Below.refl _ _).drew ?_
  try simp only [Act.put, List.setIfInBounds_toArray, List.set_cons_succ, List.set_cons_zero]
  refine takeH 2 (some 27) (.int .i64 k) rfl rfl (by kernel_rfl) (by kernel_rfl) (by kernel_rfl) (fun _ _ _ h => h) rfl (fun wq hS => by go_simp) (Below.refl _ _).drew ?_
  try simp only [Act.put, List.setIfInBounds_toArray, List.set_cons_succ, List.set_cons_zero]
  refine takeH 3 (some 28) (s1) rfl rfl (by kernel_rfl) (by kernel_rfl) (by kernel_rfl) (fun _ _ _ h => h) rfl (fun wq hS => by rw [← HS1.out]; go_simp) (Below.refl _ _).drew ?_
  try simp only [Act.put, List.setIfInBounds_toArray, List.set_cons_succ, List.set_cons_zero]
  refine takeH 5 (some 30) (.pointer (some ⟨w.heap.size, 2, none⟩)) rfl rfl (by kernel_rfl) (by kernel_rfl) (by kernel_rfl) (fun _ _ _ h => h) rfl (fun wq hS => by go_simp) (Below.refl _ _).drew ?_
  try simp only [Act.put, List.setIfInBounds_toArray, List.set_cons_succ, List.set_cons_zero]
  refine takeH 6 (some 31) ((.slice a s.marks.length cap)) rfl rfl (by kernel_rfl) (by kernel_rfl) (by kernel_rfl) (fun _ _ _ h => h) rfl (fun wq hS => by have hq := (F4.out.below hS F4.out.lt).cell (i := 2) (v := (.slice a s.marks.length cap)) rfl; go_simp) (Below.refl _ _).drew ?_
  try simp only [Act.put, List.setIfInBounds_toArray, List.set_cons_succ, List.set_cons_zero]
  refine takeH 7 (some 32) (.int .i64 k) rfl rfl (by kernel_rfl) (by kernel_rfl) (by kernel_rfl) (fun _ _ _ h => h) rfl (fun wq hS => by go_simp) (Below.refl _ _).drew ?_
  try simp only [Act.put, List.setIfInBounds_toArray, List.set_cons_succ, List.set_cons_zero]
  refine takeH 8 (some 33) (s2) rfl rfl (by kernel_rfl) (by kernel_rfl) (by kernel_rfl) (fun _ _ _ h => h) rfl (fun wq hS => by rw [← HS2.out]; go_simp) (Below.refl _ _).drew ?_
  try simp only [Act.put, List.setIfInBounds_toArray, List.set_cons_succ, List.set_cons_zero]
  refine takeH 11 (some 36) (.pointer (some ⟨w.heap.size, 2, none⟩)) rfl rfl (by kernel_rfl) (by kernel_rfl) (by kernel_rfl) (fun _ _ _ h => h) rfl (fun wq hS => by go_simp) (Below.refl _ _).drew ?_
  try simp only [Act.put, List.setIfInBounds_toArray, List.set_cons_succ, List.set_cons_zero]
  refine takeH 12 (some 37) ((.slice a s.marks.length cap)) rfl rfl (by kernel_rfl) (by kernel_rfl) (by kernel_rfl) (fun _ _ _ h => h) rfl (fun wq hS => by have hq := (F4.out.below hS F4.out.lt).cell (i := 2) (v := (.slice a s.marks.length cap)) rfl; go_simp) (Below.refl _ _).drew ?_
  try simp only [Act.put, List.setIfInBounds_toArray, List.set_cons_succ, List.set_cons_zero]
  refine oneH 4 (by kernel_rfl) rfl rfl fun K hK => ?_
  go_simp
  refine (blocks_of HN1.out _ HT.out _ (FY1.out.below (Below.refl _ _).drew)).mono ?_
  rintro e w5 ⟨rfl, hb⟩
  have HS6 := Lib.hid (stay (Below.refl _ _).drew hb)
  clear hb
  refine hK _ _ HS6.out ?_
  clear hK K
  try simp only [Act.put, List.setIfInBounds_toArray, List.set_cons_succ, List.set_cons_zero]
  refine oneH 9 (by kernel_rfl) rfl rfl fun K hK => ?_
  go_simp
  refine (blocks_of HN2.out _ HD.out _ (FY2.out.below HS6.out)).mono ?_
  rintro e w7 ⟨rfl, hb⟩
  have HS8 := Lib.hid (stay HS6.out hb)
  clear hb
  refine hK _ _ HS8.out ?_
  clear hK K
  try simp only [Act.put, List.setIfInBounds_toArray, List.set_cons_succ, List.set_cons_zero]
  refine takeH 10 (some 35) (.int .i64 n3) rfl rfl (by kernel_rfl) (by kernel_rfl) (by kernel_rfl) (fun _ _ _ h => h) rfl (fun wq hS => by go_simp <;> exact wrap64 (by omega) (by omega)) HS8.out ?_
  try simp only [Act.put, List.setIfInBounds_toArray, List.set_cons_succ, List.set_cons_zero]
  refine oneH 13 (by kernel_rfl) rfl rfl fun K hK => ?_
  go_simp
  refine (blocks_of HN3.out _ HLs.out _ (F3.out.below HS8.out)).mono ?_
  rintro e w9 ⟨rfl, hb⟩
  have HS10 := Lib.hid (stay HS8.out hb)
  clear hb
  refine hK _ _ HS10.out ?_
  clear hK K
  try simp only [Act.put, List.setIfInBounds_toArray, List.set_cons_succ, List.set_cons_zero]
  refine takeH 14 (some 39) (.bool false) rfl rfl (by kernel_rfl) (by kernel_rfl) (by kernel_rfl) (fun _ _ _ h => h) rfl (fun wq hS => by go_simp) HS10.out ?_
  try simp only [Act.put, List.setIfInBounds_toArray, List.set_cons_succ, List.set_cons_zero]
  refine takeH 15 (some 40) (.bool false) rfl rfl (by kernel_rfl) (by kernel_rfl) (by kernel_rfl) (fun _ _ _ h => h) rfl (fun wq hS => by go_simp) HS10.out ?_
  try simp only [Act.put, List.setIfInBounds_toArray, List.set_cons_succ, List.set_cons_zero]
  refine takeH 16 (some 41) (.pointer (some ⟨w.heap.size, 2, none⟩)) rfl rfl (by kernel_rfl) (by kernel_rfl) (by kernel_rfl) (fun _ _ _ h => h) rfl (fun wq hS => by go_simp) HS10.out ?_
  try simp only [Act.put, List.setIfInBounds_toArray, List.set_cons_succ, List.set_cons_zero]
  refine takeH 17 (some 42) ((.slice a s.marks.length cap)) rfl rfl (by kernel_rfl) (by kernel_rfl) (by kernel_rfl) (fun _ _ _ h => h) rfl (fun wq hS => by have hq := (F4.out.below hS F4.out.lt).cell (i := 2) (v := (.slice a s.marks.length cap)) rfl; go_simp) HS10.out ?_
  try simp only [Act.put, List.setIfInBounds_toArray, List.set_cons_succ, List.set_cons_zero]
  refine takeH 19 (some 44) (.pointer (some ⟨w.heap.size, 2, none⟩)) rfl rfl (by kernel_rfl) (by kernel_rfl) (by kernel_rfl) (fun _ _ _ h => h) rfl (fun wq hS => by go_simp) HS10.out ?_
  try simp only [Act.put, List.setIfInBounds_toArray, List.set_cons_succ, List.set_cons_zero]
  refine takeH 20 (some 45) ((.slice a s.marks.length cap)) rfl rfl (by kernel_rfl) (by kernel_rfl) (by kernel_rfl) (fun _ _ _ h => h) rfl (fun wq hS => by have hq := (F4.out.below hS F4.out.lt).cell (i := 2) (v := (.slice a s.marks.length cap)) rfl; go_simp) HS10.out ?_
  try simp only [Act.put, List.setIfInBounds_toArray, List.set_cons_succ, List.set_cons_zero]
  refine takeH 21 (some 46) (.int .i64 (s.marks.length)) rfl rfl (by kernel_rfl) (by kernel_rfl) (by kernel_rfl) (fun _ _ _ h => h) rfl (fun wq hS => by go_simp) HS10.out ?_
  try simp only [Act.put, List.setIfInBounds_toArray, List.set_cons_succ, List.set_cons_zero]
  refine oneH 18 (by kernel_rfl) rfl rfl fun K hK => ?_
  go_simp
  refine (blocks_of HN3.out _ HLs.out _ (F3.out.below HS10.out)).mono ?_
  rintro e w11 ⟨rfl, hb⟩
  have HS12 := Lib.hid (stay HS10.out hb)
  clear hb
  refine hK _ _ HS12.out ?_
  clear hK K
  try simp only [Act.put, List.setIfInBounds_toArray, List.set_cons_succ, List.set_cons_zero]
  refine takeH 22 (some 47) (.bool false) rfl rfl (by kernel_rfl) (by kernel_rfl) (by kernel_rfl) (fun _ _ _ h => h) rfl (fun wq hS => by go_simp) HS12.out ?_
  try simp only [Act.put, List.setIfInBounds_toArray, List.set_cons_succ, List.set_cons_zero]
  refine takeH 23 (some 48) (.bool false) rfl rfl (by kernel_rfl) (by kernel_rfl) (by kernel_rfl) (fun _ _ _ h => h) rfl (fun wq hS => by go_simp) HS12.out ?_
  try simp only [Act.put, List.setIfInBounds_toArray, List.set_cons_succ, List.set_cons_zero]
  refine wpAnyH_done (by kernel_rfl) ?_ _
  have hb := HS12.out
  have F13 := Lib.hid (F2.out.trans (hb.mono F2.out.size))
  have F14 := Lib.hid (F3.out.below hb)
  have F15 := Lib.hid (F4.out.below hb F4.out.lt)
  have F16 := Lib.hid (FY1.out.below hb)
  have F17 := Lib.hid (FY2.out.below hb)
  clear F2 F3 F4 FY1 FY2
  clear hb
  clear hsumi hle3i hk0 hk1 hk2
  go_upto_region 6 with fail
  refine wp_region_lit ?_
  refine load25 (cs := #[.int .u32 s.seq, .bool s.more, (.slice a s.marks.length cap)]) (Blk.all F15.out rfl) rfl rfl rfl ?_
  try simp only [Act.put, List.setIfInBounds_toArray, List.set_cons_succ, List.set_cons_zero]
  refine wpList_op rfl fun K hK => ?_
  go_simp
  refine (enc_no HG.out _ HLs.out HWs.out _ F14.out).mono ?_
  rintro e w18 ⟨rfl, hb⟩
  have F19 := Lib.hid (F13.out.trans (hb.mono F13.out.size))
  have F20 := Lib.hid (F14.out.below hb)
  have F21 := Lib.hid (F15.out.below hb F15.out.lt)
  have F22 := Lib.hid (F16.out.below hb)
  have F23 := Lib.hid (F17.out.below hb)
  clear F13 F14 F15 F16 F17
  clear hb
  refine hK _ _ ?_
  clear hK K
  try simp only [Act.put, List.setIfInBounds_toArray, List.set_cons_succ, List.set_cons_zero]
  refine takeL (.tuple #[.agg (u8s s.sec).toArray, .int .i64 11]) rfl (by go_simp) ?_
  try simp only [Act.put, List.setIfInBounds_toArray, List.set_cons_succ, List.set_cons_zero]
  refine takeL (.agg (u8s s.sec).toArray) rfl (by go_simp) ?_
  try simp only [Act.put, List.setIfInBounds_toArray, List.set_cons_succ, List.set_cons_zero]
  refine takeL (.int .i64 11) rfl (by go_simp) ?_
  try simp only [Act.put, List.setIfInBounds_toArray, List.set_cons_succ, List.set_cons_zero]
  refine alloc_g zero27 rfl ?_
  intro w24 hC hBC hlC
  try simp only [Act.put, List.setIfInBounds_toArray, List.set_cons_succ, List.set_cons_zero]
  refine store_all (cs := (u8s s.sec).toArray) hC (by rw [u8s_size, HSs.out]; simp [zeros]) (by rw [u8s_size, HSs.out]; exact info27) (u8s_one _) rfl rfl rfl ?_
  intro w25 hD hOD hlD
  try simp only [Act.put, List.setIfInBounds_toArray, List.set_cons_succ, List.set_cons_zero]
  have hb := hBC.trans (hOD.below hBC.size (fun k hk => Nat.le_of_eq hk.symm))
  have F26 := Lib.hid (F19.out.trans (hb.mono F19.out.size))
  have F27 := Lib.hid (F20.out.below hb)
  have F28 := Lib.hid (F21.out.below hb F21.out.lt)
  have F29 := Lib.hid (F22.out.below hb)
  have F30 := Lib.hid (F23.out.below hb)
  clear F19 F20 F21 F22 F23
  have F31 := Lib.hid hD
  clear hC hBC hlC hD hOD hlD hb
  generalize w18.heap.size = g32 at *
  clear w24 w18
  refine takeL (.int .i64 11) rfl (by go_simp) ?_
  try simp only [Act.put, List.setIfInBounds_toArray, List.set_cons_succ, List.set_cons_zero]
  refine wpList_nil ?_
  go_upto_region 7 with fail
  refine wp_region_lit ?_
  refine takeL (.int .i64 11) rfl (by go_simp) ?_
  try simp only [Act.put, List.setIfInBounds_toArray, List.set_cons_succ, List.set_cons_zero]
  refine takeL (.bool true) rfl (by go_simp) ?_
  try simp only [Act.put, List.setIfInBounds_toArray, List.set_cons_succ, List.set_cons_zero]
  refine wpList_nil ?_
  go_upto_region 8 with fail
  refine wp_region_lit ?_
  refine takeL (.int .i64 11) rfl (by go_simp) ?_
  try simp only [Act.put, List.setIfInBounds_toArray, List.set_cons_succ, List.set_cons_zero]
  refine takeL (.bool true) rfl (by go_simp) ?_
  try simp only [Act.put, List.setIfInBounds_toArray, List.set_cons_succ, List.set_cons_zero]
  refine takeL (.bool true) rfl (by go_simp) ?_
  try simp only [Act.put, List.setIfInBounds_toArray, List.set_cons_succ, List.set_cons_zero]
  refine load27 (cs := (u8s s.sec).toArray) (Blk.all F31.out rfl) (by rw [u8s_size, HSs.out]) rfl rfl ?_
  try simp only [Act.put, List.setIfInBounds_toArray, List.set_cons_succ, List.set_cons_zero]
  refine build_g (build27 _) rfl ?_
  try simp only [Act.put, List.setIfInBounds_toArray, List.set_cons_succ, List.set_cons_zero]
  refine takeL (.bool true) rfl (by exact eql27v (decide_eq_true (sec_bad HG.out)) HSs.out HZ64.out _ _ _ rfl rfl rfl) ?_
  try simp only [Act.put, List.setIfInBounds_toArray, List.set_cons_succ, List.set_cons_zero]
  refine takeL (.bool true) rfl (by go_simp) ?_
  try simp only [Act.put, List.setIfInBounds_toArray, List.set_cons_succ, List.set_cons_zero]
  refine takeL (.bool true) rfl (by go_simp) ?_
  try simp only [Act.put, List.setIfInBounds_toArray, List.set_cons_succ, List.set_cons_zero]
  refine wpList_op rfl fun K hK => ?_
  go_simp
  refine (wakes_any _).mono ?_
  rintro e w33 ⟨rfl, hb⟩
  have F34 := Lib.hid (F26.out.trans (hb.mono F26.out.size))
  have F35 := Lib.hid (F27.out.below hb)
  have F36 := Lib.hid (F28.out.below hb F28.out.lt)
  have F37 := Lib.hid (F29.out.below hb)
  have F38 := Lib.hid (F30.out.below hb)
  have F39 := Lib.hid (F31.out.below hb F31.out.lt)
  clear F26 F27 F28 F29 F30 F31
  clear hb
  refine hK _ _ ?_
  clear hK K
  try simp only [Act.put, List.setIfInBounds_toArray, List.set_cons_succ, List.set_cons_zero]
  refine takeL (.bool true) rfl (by go_simp) ?_
  try simp only [Act.put, List.setIfInBounds_toArray, List.set_cons_succ, List.set_cons_zero]
  refine takeL (.bool true) rfl (by go_simp) ?_
  try simp only [Act.put, List.setIfInBounds_toArray, List.set_cons_succ, List.set_cons_zero]
  refine wpList_nil ?_
  go_wp2_with fail
  go_ret
  exact ⟨rfl, F34.out⟩
set_option maxHeartbeats 1000000 in
set_option maxRecDepth 100000 in
theorem places_t (s : Sm) (a : Option Addr) (cap : Nat) (y : Int) (hs : s.Wf) (hy : Byte y) (hcap : s.marks.length ≤ cap) (hl : s.marks.length ≤ 300) (hg : s.good = true) (hmo : s.more = true) (w : World) (hms : MarksAt w (.slice a s.marks.length cap) s.marks) : Calls Try.prog 5 #[.agg #[.int .u32 s.seq, .bool s.more, .slice a s.marks.length cap], .int .u8 y] w fun e w' => e = .returned (.bool true) ∧ Below w.heap.size w w' := by
  have HWs := Lib.hid hs
  have HSs := Lib.hid (sec_length s)
  have HZ64 : Hid ((zeros 64).length = 64) := Lib.hid rfl
  obtain ⟨hy1, hy2⟩ := hy
  have FYS := Lib.hid hms
  have HBL : Hid (Below w.heap.size w w) := Lib.hid (Below.refl _ _)
  have hl2 : ¬ (300 : Int) < s.marks.length := by omega
  have HLs : Hid (s.marks.length ≤ 1000000) := Lib.hid (by omega)
  have HG := Lib.hid hg
  clear hg
  have HMO := Lib.hid hmo
  clear hmo
  clear hs hms
  go_enter Try.func5, Try.ntmps5
  go_upto_region 0 with fail
  refine wp_region_lit ?_
  refine box_g rfl rfl ?_
  intro w1 hA hb hl
  try simp only [Act.put, List.setIfInBounds_toArray, List.set_cons_succ, List.set_cons_zero]
  clear hl
  have F2 := Lib.hid (HBL.out.trans (hb.mono HBL.out.size))
  have F3 := Lib.hid (FYS.out.below hb)
  clear HBL FYS
  have F4 := Lib.hid hA
  clear hA hb
  refine takeL (.bool false) rfl (by go_simp) ?_
  try simp only [Act.put, List.setIfInBounds_toArray, List.set_cons_succ, List.set_cons_zero]
  refine wpList_nil ?_
  go_upto_region 1 with fail
  refine wp_region_lit ?_
  refine takeL (.pointer (some ⟨w.heap.size, 2, none⟩)) rfl (by go_simp) ?_
  try simp only [Act.put, List.setIfInBounds_toArray, List.set_cons_succ, List.set_cons_zero]
  refine takeL ((.slice a s.marks.length cap)) rfl (by have hq := F4.out.cell (i := 2) (v := (.slice a s.marks.length cap)) rfl; go_simp) ?_
  try simp only [Act.put, List.setIfInBounds_toArray, List.set_cons_succ, List.set_cons_zero]
  refine takeL (.int .i64 (s.marks.length)) rfl (by go_simp) ?_
  try simp only [Act.put, List.setIfInBounds_toArray, List.set_cons_succ, List.set_cons_zero]
  refine takeL (.bool false) rfl (by go_simp) ?_
  try simp only [Act.put, List.setIfInBounds_toArray, List.set_cons_succ, List.set_cons_zero]
  refine wpList_nil ?_
  obtain ⟨k, hk⟩ : ∃ k : Nat, y % (s.marks.length + 1) = (k : Int) := ⟨(y % (s.marks.length + 1)).toNat, by have := Int.emod_nonneg y (show (s.marks.length : Int) + 1 ≠ 0 by omega); omega⟩
  have hkl : k ≤ s.marks.length := by have := Int.emod_lt_of_pos y (show (0 : Int) < (s.marks.length : Int) + 1 by omega); omega
  have HK := Lib.hid hk
  clear hk
  go_upto_region 3 with fail
  refine wp_region_lit ?_
  refine takeL (.int .u8 y) rfl (by go_simp) ?_
  try simp only [Act.put, List.setIfInBounds_toArray, List.set_cons_succ, List.set_cons_zero]
  refine takeL (.int .i64 y) rfl (by go_simp; exact wrap64 hy1 (by omega)) ?_
  try simp only [Act.put, List.setIfInBounds_toArray, List.set_cons_succ, List.set_cons_zero]
  refine takeL (.pointer (some ⟨w.heap.size, 2, none⟩)) rfl (by go_simp) ?_
  try simp only [Act.put, List.setIfInBounds_toArray, List.set_cons_succ, List.set_cons_zero]
  refine takeL ((.slice a s.marks.length cap)) rfl (by have hq := F4.out.cell (i := 2) (v := (.slice a s.marks.length cap)) rfl; go_simp) ?_
  try simp only [Act.put, List.setIfInBounds_toArray, List.set_cons_succ, List.set_cons_zero]
  refine takeL (.int .i64 (s.marks.length)) rfl (by go_simp) ?_
  try simp only [Act.put, List.setIfInBounds_toArray, List.set_cons_succ, List.set_cons_zero]
  refine takeL (.int .i64 (s.marks.length + 1)) rfl (by go_simp <;> exact wrap64 (by omega) (by omega)) ?_
  try simp only [Act.put, List.setIfInBounds_toArray, List.set_cons_succ, List.set_cons_zero]
  refine takeL (.int .i64 k) rfl (by go_simp; rw [if_neg (by omega), Int.tmod_eq_emod_of_nonneg hy1, HK.out]) ?_
  try simp only [Act.put, List.setIfInBounds_toArray, List.set_cons_succ, List.set_cons_zero]
  refine takeL (.int .i64 k) rfl (by go_simp) ?_
  try simp only [Act.put, List.setIfInBounds_toArray, List.set_cons_succ, List.set_cons_zero]
  refine wpList_nil ?_
  have FY1 := Lib.hid (F3.out.upto hcap k hkl)
  have FY2 := Lib.hid (F3.out.rest hcap k hkl)
  obtain ⟨s1, hs1⟩ : ∃ v, sliced a 0 k cap 2 = v := ⟨_, rfl⟩
  obtain ⟨s2, hs2⟩ : ∃ v, sliced a k s.marks.length cap 2 = v := ⟨_, rfl⟩
  rw [hs1] at FY1
  rw [hs2] at FY2
  have HS1 := Lib.hid hs1
  have HS2 := Lib.hid hs2
  obtain ⟨n1, hn1⟩ : ∃ n, blocks (s.marks.take k) = n := ⟨_, rfl⟩
  obtain ⟨n2, hn2⟩ : ∃ n, blocks (s.marks.drop k) = n := ⟨_, rfl⟩
  obtain ⟨n3, hn3⟩ : ∃ n, blocks s.marks = n := ⟨_, rfl⟩
  have HN1 := Lib.hid hn1
  have HN2 := Lib.hid hn2
  have HN3 := Lib.hid hn3
  have hsum : n1 + n2 = n3 := by rw [← hn1, ← hn2, ← hn3, ← blocks_append, List.take_append_drop]
  have hle3 : n3 ≤ s.marks.length := by rw [← hn3]; exact blocks_le _
  have HT : Hid ((s.marks.take k).length ≤ 1000000) := Lib.hid (by rw [List.length_take]; omega)
  have HD : Hid ((s.marks.drop k).length ≤ 1000000) := Lib.hid (by rw [List.length_drop]; omega)
  have hk0 : (0 : Int) ≤ (k : Int) := by omega
  have hk1 : (k : Int) ≤ (s.marks.length : Int) := by omega
  have hk2 : (k : Int) ≤ (cap : Int) := by omega
  have hsumi : (n1 : Int) + (n2 : Int) = (n3 : Int) := by omega
  have hle3i : ¬ (s.marks.length : Int) < (n3 : Int) := by omega
  clear hs1 hs2 hn1 hn2 hn3
  go_upto_region 4 with fail
  refine startH (fun wq => Below w1.heap.size w1 wq) (by kernel_rfl) ?_
  refine takeH 0 (some 25) (.pointer (some ⟨w.heap.size, 2, none⟩)) rfl rfl (by kernel_rfl) (by kernel_rfl) (by kernel_rfl) (fun _ _ _ h => h) rfl (fun wq hS => by go_simp) (Below.refl _ _).drew ?_
  try simp only [Act.put, List.setIfInBounds_toArray, List.set_cons_succ, List.set_cons_zero]
  refine takeH 1 (some 26) ((.slice a s.marks.length cap)) rfl rfl (by kernel_rfl) (by kernel_rfl) (by kernel_rfl) (fun _ _ _ h => h) rfl (fun wq hS => by have hq := (F4.out.below hS F4.out.lt).cell (i := 2) (v := (.slice a s.marks.length cap)) rfl; go_simp) (Below.refl _ _).drew ?_
  try simp only [Act.put, List.setIfInBounds_toArray, List.set_cons_succ, List.set_cons_zero]
  refine takeH 2 (some 27) (.int .i64 k) rfl rfl (by kernel_rfl) (by kernel_rfl) (by kernel_rfl) (fun _ _ _ h => h) rfl (fun wq hS => by go_simp) (Below.refl _ _).drew ?_
  try simp only [Act.put, List.setIfInBounds_toArray, List.set_cons_succ, List.set_cons_zero]
  refine takeH 3 (some 28) (s1) rfl rfl (by kernel_rfl) (by kernel_rfl) (by kernel_rfl) (fun _ _ _ h => h) rfl (fun wq hS => by rw [← HS1.out]; go_simp) (Below.refl _ _).drew ?_
  try simp only [Act.put, List.setIfInBounds_toArray, List.set_cons_succ, List.set_cons_zero]
  refine takeH 5 (some 30) (.pointer (some ⟨w.heap.size, 2, none⟩)) rfl rfl (by kernel_rfl) (by kernel_rfl) (by kernel_rfl) (fun _ _ _ h => h) rfl (fun wq hS => by go_simp) (Below.refl _ _).drew ?_
  try simp only [Act.put, List.setIfInBounds_toArray, List.set_cons_succ, List.set_cons_zero]
  refine takeH 6 (some 31) ((.slice a s.marks.length cap)) rfl rfl (by kernel_rfl) (by kernel_rfl) (by kernel_rfl) (fun _ _ _ h => h) rfl (fun wq hS => by have hq := (F4.out.below hS F4.out.lt).cell (i := 2) (v := (.slice a s.marks.length cap)) rfl; go_simp) (Below.refl _ _).drew ?_
  try simp only [Act.put, List.setIfInBounds_toArray, List.set_cons_succ, List.set_cons_zero]
  refine takeH 7 (some 32) (.int .i64 k) rfl rfl (by kernel_rfl) (by kernel_rfl) (by kernel_rfl) (fun _ _ _ h => h) rfl (fun wq hS => by go_simp) (Below.refl _ _).drew ?_
  try simp only [Act.put, List.setIfInBounds_toArray, List.set_cons_succ, List.set_cons_zero]
  refine takeH 8 (some 33) (s2) rfl rfl (by kernel_rfl) (by kernel_rfl) (by kernel_rfl) (fun _ _ _ h => h) rfl (fun wq hS => by rw [← HS2.out]; go_simp) (Below.refl _ _).drew ?_
  try simp only [Act.put, List.setIfInBounds_toArray, List.set_cons_succ, List.set_cons_zero]
  refine takeH 11 (some 36) (.pointer (some ⟨w.heap.size, 2, none⟩)) rfl rfl (by kernel_rfl) (by kernel_rfl) (by kernel_rfl) (fun _ _ _ h => h) rfl (fun wq hS => by go_simp) (Below.refl _ _).drew ?_
  try simp only [Act.put, List.setIfInBounds_toArray, List.set_cons_succ, List.set_cons_zero]
  refine takeH 12 (some 37) ((.slice a s.marks.length cap)) rfl rfl (by kernel_rfl) (by kernel_rfl) (by kernel_rfl) (fun _ _ _ h => h) rfl (fun wq hS => by have hq := (F4.out.below hS F4.out.lt).cell (i := 2) (v := (.slice a s.marks.length cap)) rfl; go_simp) (Below.refl _ _).drew ?_
  try simp only [Act.put, List.setIfInBounds_toArray, List.set_cons_succ, List.set_cons_zero]
  refine oneH 4 (by kernel_rfl) rfl rfl fun K hK => ?_
  go_simp
  refine (blocks_of HN1.out _ HT.out _ (FY1.out.below (Below.refl _ _).drew)).mono ?_
  rintro e w5 ⟨rfl, hb⟩
  have HS6 := Lib.hid (stay (Below.refl _ _).drew hb)
  clear hb
  refine hK _ _ HS6.out ?_
  clear hK K
  try simp only [Act.put, List.setIfInBounds_toArray, List.set_cons_succ, List.set_cons_zero]
  refine oneH 9 (by kernel_rfl) rfl rfl fun K hK => ?_
  go_simp
  refine (blocks_of HN2.out _ HD.out _ (FY2.out.below HS6.out)).mono ?_
  rintro e w7 ⟨rfl, hb⟩
  have HS8 := Lib.hid (stay HS6.out hb)
  clear hb
  refine hK _ _ HS8.out ?_
  clear hK K
  try simp only [Act.put, List.setIfInBounds_toArray, List.set_cons_succ, List.set_cons_zero]
  refine takeH 10 (some 35) (.int .i64 n3) rfl rfl (by kernel_rfl) (by kernel_rfl) (by kernel_rfl) (fun _ _ _ h => h) rfl (fun wq hS => by go_simp <;> exact wrap64 (by omega) (by omega)) HS8.out ?_
  try simp only [Act.put, List.setIfInBounds_toArray, List.set_cons_succ, List.set_cons_zero]
  refine oneH 13 (by kernel_rfl) rfl rfl fun K hK => ?_
  go_simp
  refine (blocks_of HN3.out _ HLs.out _ (F3.out.below HS8.out)).mono ?_
  rintro e w9 ⟨rfl, hb⟩
  have HS10 := Lib.hid (stay HS8.out hb)
  clear hb
  refine hK _ _ HS10.out ?_
  clear hK K
  try simp only [Act.put, List.setIfInBounds_toArray, List.set_cons_succ, List.set_cons_zero]
  refine takeH 14 (some 39) (.bool false) rfl rfl (by kernel_rfl) (by kernel_rfl) (by kernel_rfl) (fun _ _ _ h => h) rfl (fun wq hS => by go_simp) HS10.out ?_
  try simp only [Act.put, List.setIfInBounds_toArray, List.set_cons_succ, List.set_cons_zero]
  refine takeH 15 (some 40) (.bool false) rfl rfl (by kernel_rfl) (by kernel_rfl) (by kernel_rfl) (fun _ _ _ h => h) rfl (fun wq hS => by go_simp) HS10.out ?_
  try simp only [Act.put, List.setIfInBounds_toArray, List.set_cons_succ, List.set_cons_zero]
  refine takeH 16 (some 41) (.pointer (some ⟨w.heap.size, 2, none⟩)) rfl rfl (by kernel_rfl) (by kernel_rfl) (by kernel_rfl) (fun _ _ _ h => h) rfl (fun wq hS => by go_simp) HS10.out ?_
  try simp only [Act.put, List.setIfInBounds_toArray, List.set_cons_succ, List.set_cons_zero]
  refine takeH 17 (some 42) ((.slice a s.marks.length cap)) rfl rfl (by kernel_rfl) (by kernel_rfl) (by kernel_rfl) (fun _ _ _ h => h) rfl (fun wq hS => by have hq := (F4.out.below hS F4.out.lt).cell (i := 2) (v := (.slice a s.marks.length cap)) rfl; go_simp) HS10.out ?_
  try simp only [Act.put, List.setIfInBounds_toArray, List.set_cons_succ, List.set_cons_zero]
  refine takeH 19 (some 44) (.pointer (some ⟨w.heap.size, 2, none⟩)) rfl rfl (by kernel_rfl) (by kernel_rfl) (by kernel_rfl) (fun _ _ _ h => h) rfl (fun wq hS => by go_simp) HS10.out ?_
  try simp only [Act.put, List.setIfInBounds_toArray, List.set_cons_succ, List.set_cons_zero]
  refine takeH 20 (some 45) ((.slice a s.marks.length cap)) rfl rfl (by kernel_rfl) (by kernel_rfl) (by kernel_rfl) (fun _ _ _ h => h) rfl (fun wq hS => by have hq := (F4.out.below hS F4.out.lt).cell (i := 2) (v := (.slice a s.marks.length cap)) rfl; go_simp) HS10.out ?_
  try simp only [Act.put, List.setIfInBounds_toArray, List.set_cons_succ, List.set_cons_zero]
  refine takeH 21 (some 46) (.int .i64 (s.marks.length)) rfl rfl (by kernel_rfl) (by kernel_rfl) (by kernel_rfl) (fun _ _ _ h => h) rfl (fun wq hS => by go_simp) HS10.out ?_
  try simp only [Act.put, List.setIfInBounds_toArray, List.set_cons_succ, List.set_cons_zero]
  refine oneH 18 (by kernel_rfl) rfl rfl fun K hK => ?_
  go_simp
  refine (blocks_of HN3.out _ HLs.out _ (F3.out.below HS10.out)).mono ?_
  rintro e w11 ⟨rfl, hb⟩
  have HS12 := Lib.hid (stay HS10.out hb)
  clear hb
  refine hK _ _ HS12.out ?_
  clear hK K
  try simp only [Act.put, List.setIfInBounds_toArray, List.set_cons_succ, List.set_cons_zero]
  refine takeH 22 (some 47) (.bool false) rfl rfl (by kernel_rfl) (by kernel_rfl) (by kernel_rfl) (fun _ _ _ h => h) rfl (fun wq hS => by go_simp) HS12.out ?_
  try simp only [Act.put, List.setIfInBounds_toArray, List.set_cons_succ, List.set_cons_zero]
  refine takeH 23 (some 48) (.bool false) rfl rfl (by kernel_rfl) (by kernel_rfl) (by kernel_rfl) (fun _ _ _ h => h) rfl (fun wq hS => by go_simp) HS12.out ?_
  try simp only [Act.put, List.setIfInBounds_toArray, List.set_cons_succ, List.set_cons_zero]
  refine wpAnyH_done (by kernel_rfl) ?_ _
  have hb := HS12.out
  have F13 := Lib.hid (F2.out.trans (hb.mono F2.out.size))
  have F14 := Lib.hid (F3.out.below hb)
  have F15 := Lib.hid (F4.out.below hb F4.out.lt)
  have F16 := Lib.hid (FY1.out.below hb)
  have F17 := Lib.hid (FY2.out.below hb)
  clear F2 F3 F4 FY1 FY2
  clear hb
  clear hsumi hle3i hk0 hk1 hk2
  go_upto_region 6 with fail
  refine wp_region_lit ?_
  refine load25 (cs := #[.int .u32 s.seq, .bool s.more, (.slice a s.marks.length cap)]) (Blk.all F15.out rfl) rfl rfl rfl ?_
  try simp only [Act.put, List.setIfInBounds_toArray, List.set_cons_succ, List.set_cons_zero]
  refine wpList_op rfl fun K hK => ?_
  go_simp
  refine (enc_ok HG.out _ HLs.out HWs.out _ F14.out).mono ?_
  rintro e w18 ⟨rfl, hb⟩
  have F19 := Lib.hid (F13.out.trans (hb.mono F13.out.size))
  have F20 := Lib.hid (F14.out.below hb)
  have F21 := Lib.hid (F15.out.below hb F15.out.lt)
  have F22 := Lib.hid (F16.out.below hb)
  have F23 := Lib.hid (F17.out.below hb)
  clear F13 F14 F15 F16 F17
  clear hb
  refine hK _ _ ?_
  clear hK K
  try simp only [Act.put, List.setIfInBounds_toArray, List.set_cons_succ, List.set_cons_zero]
  refine takeL (.tuple #[.agg (u8s s.sec).toArray, .int .i64 0]) rfl (by go_simp) ?_
  try simp only [Act.put, List.setIfInBounds_toArray, List.set_cons_succ, List.set_cons_zero]
  refine takeL (.agg (u8s s.sec).toArray) rfl (by go_simp) ?_
  try simp only [Act.put, List.setIfInBounds_toArray, List.set_cons_succ, List.set_cons_zero]
  refine takeL (.int .i64 0) rfl (by go_simp) ?_
  try simp only [Act.put, List.setIfInBounds_toArray, List.set_cons_succ, List.set_cons_zero]
  refine alloc_g zero27 rfl ?_
  intro w24 hC hBC hlC
  try simp only [Act.put, List.setIfInBounds_toArray, List.set_cons_succ, List.set_cons_zero]
  refine store_all (cs := (u8s s.sec).toArray) hC (by rw [u8s_size, HSs.out]; simp [zeros]) (by rw [u8s_size, HSs.out]; exact info27) (u8s_one _) rfl rfl rfl ?_
  intro w25 hD hOD hlD
  try simp only [Act.put, List.setIfInBounds_toArray, List.set_cons_succ, List.set_cons_zero]
  have hb := hBC.trans (hOD.below hBC.size (fun k hk => Nat.le_of_eq hk.symm))
  have F26 := Lib.hid (F19.out.trans (hb.mono F19.out.size))
  have F27 := Lib.hid (F20.out.below hb)
  have F28 := Lib.hid (F21.out.below hb F21.out.lt)
  have F29 := Lib.hid (F22.out.below hb)
  have F30 := Lib.hid (F23.out.below hb)
  clear F19 F20 F21 F22 F23
  have F31 := Lib.hid hD
  clear hC hBC hlC hD hOD hlD hb
  generalize w18.heap.size = g32 at *
  clear w24 w18
  refine takeL (.int .i64 0) rfl (by go_simp) ?_
  try simp only [Act.put, List.setIfInBounds_toArray, List.set_cons_succ, List.set_cons_zero]
  refine wpList_nil ?_
  go_upto_region 7 with fail
  refine wp_region_lit ?_
  refine takeL (.int .i64 0) rfl (by go_simp) ?_
  try simp only [Act.put, List.setIfInBounds_toArray, List.set_cons_succ, List.set_cons_zero]
  refine takeL (.bool false) rfl (by go_simp) ?_
  try simp only [Act.put, List.setIfInBounds_toArray, List.set_cons_succ, List.set_cons_zero]
  refine wpList_nil ?_
  have HXB : Hid (Blk w25 g32 (u8s s.enc)) := Lib.hid (by rw [← sec_good HG.out]; exact F31.out)
  have c0 : w25.cell? ⟨g32, 0, none⟩ = some (.int .u8 83) := HXB.out.cell (enc_cell HG.out (by decide))
  have c1 : w25.cell? ⟨g32, 1, none⟩ = some (.int .u8 1) := by
    have := HXB.out.cell (enc_cell HG.out (i := 1) (by decide))
    rwa [enc_1, HMO.out] at this
  have c6 : w25.cell? ⟨g32, 6, none⟩ = some (.int .u8 (s.marks.length : Int)) := HXB.out.cell (enc_cell HG.out (by decide))
  have g1 := F28.out.cell (i := 1) rfl
  have g2 := F28.out.cell (i := 2) rfl
  rw [HMO.out] at g1
  obtain ⟨hn1, hn2⟩ := good_len HG.out
  have hn1' : (1 : Int) ≤ (s.marks.length : Int) := by omega
  have hn2' : (s.marks.length : Int) ≤ 24 := by omega
  have HSQ := Lib.hid HWs.out.seq
  go_wp2_with fail
  go_loopg [9] 4 (fun q i wr => ∃ j : Nat, 4 - j ≤ q ∧ j ≤ 4 ∧ i = .int .i64 j ∧ Below w25.heap.size w25 wr)
  case atStart => exact ⟨0, by omega, by omega, rfl, Below.refl _ _⟩
  case round =>
    obtain ⟨j, hgj, hj, rfl, hbel⟩ := hrel
    have HBR := Lib.hid hbel
    have HXR := Lib.hid (HXB.out.below hbel HXB.out.lt)
    have HGR := Lib.hid (F28.out.below hbel F28.out.lt)
    have HYR := Lib.hid (F27.out.below hbel)
    have HBL2 := Lib.hid (F26.out.trans (hbel.mono F26.out.size))
    clear hbel c0 c1 c6 g1 g2
    rcases (show j = 0 ∨ j = 1 ∨ j = 2 ∨ j = 3 ∨ j = 4 by omega) with rfl | rfl | rfl | rfl | rfl
    · have cx : wr.cell? ⟨g32, 2, none⟩ = some (.int .u8 (s.seq % 256)) := by
        have := HXR.out.cell (enc_cell HG.out (i := 2 + 0) (by decide))
        rw [enc_seq s 0 (by decide), le4] at this
        exact this
      have g0 := HGR.out.cell (i := 0) rfl
      obtain ⟨hq1, hq2⟩ := HSQ.out
      skip
      go_upto_region 17 with fail
      go_region
      go_wp2_with fail
      go_roundg (4 - 1)
      case measure => omega
      case rel => exact ⟨1, by omega, by omega, by go_num, HBR.out.drew⟩
    · have cx : wr.cell? ⟨g32, 3, none⟩ = some (.int .u8 (s.seq / 256 % 256)) := by
        have := HXR.out.cell (enc_cell HG.out (i := 2 + 1) (by decide))
        rw [enc_seq s 1 (by decide), le4] at this
        exact this
      have g0 := HGR.out.cell (i := 0) rfl
      obtain ⟨hq1, hq2⟩ := HSQ.out
      skip
      go_upto_region 17 with fail
      go_region
      go_wp2_with fail
      go_roundg (4 - 2)
      case measure => omega
      case rel => exact ⟨2, by omega, by omega, by go_num, HBR.out.drew⟩
    · have cx : wr.cell? ⟨g32, 4, none⟩ = some (.int .u8 (s.seq / 65536 % 256)) := by
        have := HXR.out.cell (enc_cell HG.out (i := 2 + 2) (by decide))
        rw [enc_seq s 2 (by decide), le4] at this
        exact this
      have g0 := HGR.out.cell (i := 0) rfl
      obtain ⟨hq1, hq2⟩ := HSQ.out
      skip
      go_upto_region 17 with fail
      go_region
      go_wp2_with fail
      go_roundg (4 - 3)
      case measure => omega
      case rel => exact ⟨3, by omega, by omega, by go_num, HBR.out.drew⟩
    · have cx : wr.cell? ⟨g32, 5, none⟩ = some (.int .u8 (s.seq / 16777216 % 256)) := by
        have := HXR.out.cell (enc_cell HG.out (i := 2 + 3) (by decide))
        rw [enc_seq s 3 (by decide), le4] at this
        exact this
      have g0 := HGR.out.cell (i := 0) rfl
      obtain ⟨hq1, hq2⟩ := HSQ.out
      rw [show s.seq / 16777216 % 256 = s.seq / 16777216 by omega] at cx
      go_upto_region 17 with fail
      go_region
      go_wp2_with fail
      go_roundg (4 - 4)
      case measure => omega
      case rel => exact ⟨4, by omega, by omega, by go_num, HBR.out.drew⟩
    · go_wp2_with fail
      go_loopg [10] 24 (fun q i wq => ∃ j : Nat, 24 - j ≤ q ∧ j ≤ 24 ∧ i = .int .i64 j ∧ Below wr.heap.size wr wq)
      case atStart => exact ⟨0, by omega, by omega, rfl, Below.refl _ _⟩
      case round =>
        obtain ⟨j, hgj, hj, rfl, hbel⟩ := hrel
        have HBR := Lib.hid hbel
        have HXQ := Lib.hid (HXR.out.below hbel HXR.out.lt)
        have HGQ := Lib.hid (HGR.out.below hbel HGR.out.lt)
        have HYQ := Lib.hid (HYR.out.below hbel)
        have HBL3 := Lib.hid (HBL2.out.trans (hbel.mono HBL2.out.size))
        clear hbel
        by_cases hlt : j < 24
        · have hj0 : (0 : Int) ≤ (j : Int) := by omega
          have hj1 : (j : Int) < 24 := by omega
          have g2 := HGQ.out.cell (i := 2) rfl
          have x1 := HXQ.out.cell (enc_cell HG.out (i := 7 + 2 * j) (by omega))
          have x2 := HXQ.out.cell (enc_cell HG.out (i := 8 + 2 * j) (by omega))
          rw [enc_kind] at x1
          rw [enc_id] at x2
          by_cases hjl : j < s.marks.length
          · have hlk : s.marks[j]? = some s.marks[j] := by simp [hjl]
            obtain ⟨b', o', cap', he, hcells⟩ := HYQ.out.has (by omega)
            cases he
            obtain ⟨m1, m2⟩ := hcells j _ hlk
            have hmb := good_byte HG.out _ (List.getElem_mem hjl)
            rw [List.getD_eq_getElem?_getD, hlk, Option.getD_some] at x1 x2
            clear hcells hlk
            generalize s.marks[j] = m at *
            obtain ⟨mk, mi⟩ := m
            obtain ⟨⟨hm1, hm2⟩, ⟨hm3, hm4⟩⟩ := hmb
            simp only at m1 m2 x1 x2 hm1 hm2 hm3 hm4
            have hjli : (j : Int) < (s.marks.length : Int) := by omega
            go_upto_region 24 with fail
            go_region
            go_wp2_with fail
            go_roundg (24 - (j + 1))
            case measure => omega
            case rel => exact ⟨j + 1, by omega, by omega, by go_num, HBR.out.drew⟩
          · rw [List.getD_eq_getElem?_getD, List.getElem?_eq_none (by omega), Option.getD_none] at x1 x2
            have hjli : ¬ (j : Int) < (s.marks.length : Int) := by omega
            go_wp2_with fail
            go_roundg (24 - (j + 1))
            case measure => omega
            case rel => exact ⟨j + 1, by omega, by omega, by go_num, HBR.out⟩
        · have hj24 : j = 24 := by omega
          subst hj24
          go_upto_region 27 with fail
          refine wp_region_lit ?_
          refine wpList_op rfl fun K hK => ?_
          go_simp
          refine (wakes_any _).mono ?_
          rintro e wz ⟨rfl, hb⟩
          refine hK _ _ ?_
          clear hK K
          try simp only [Act.put, List.setIfInBounds_toArray, List.set_cons_succ, List.set_cons_zero]
          have HF := Lib.hid (HBL3.out.trans (hb.mono HBL3.out.size))
          refine takeL (.bool true) rfl (by go_simp) ?_
          try simp only [Act.put, List.setIfInBounds_toArray, List.set_cons_succ, List.set_cons_zero]
          refine wpList_nil ?_
          go_wp2_with fail
          go_ret
          exact ⟨rfl, HF.out⟩
set_option maxHeartbeats 1000000 in
set_option maxRecDepth 100000 in
theorem places_f (s : Sm) (a : Option Addr) (cap : Nat) (y : Int) (hs : s.Wf) (hy : Byte y) (hcap : s.marks.length ≤ cap) (hl : s.marks.length ≤ 300) (hg : s.good = true) (hmo : s.more = false) (w : World) (hms : MarksAt w (.slice a s.marks.length cap) s.marks) : Calls Try.prog 5 #[.agg #[.int .u32 s.seq, .bool s.more, .slice a s.marks.length cap], .int .u8 y] w fun e w' => e = .returned (.bool true) ∧ Below w.heap.size w w' := by
  have HWs := Lib.hid hs
  have HSs := Lib.hid (sec_length s)
  have HZ64 : Hid ((zeros 64).length = 64) := Lib.hid rfl
  obtain ⟨hy1, hy2⟩ := hy
  have FYS := Lib.hid hms
  have HBL : Hid (Below w.heap.size w w) := Lib.hid (Below.refl _ _)
  have hl2 : ¬ (300 : Int) < s.marks.length := by omega
  have HLs : Hid (s.marks.length ≤ 1000000) := Lib.hid (by omega)
  have HG := Lib.hid hg
  clear hg
  have HMO := Lib.hid hmo
  clear hmo
  clear hs hms
  go_enter Try.func5, Try.ntmps5
  go_upto_region 0 with fail
  refine wp_region_lit ?_
  refine box_g rfl rfl ?_
  intro w1 hA hb hl
  try simp only [Act.put, List.setIfInBounds_toArray, List.set_cons_succ, List.set_cons_zero]
  clear hl
  have F2 := Lib.hid (HBL.out.trans (hb.mono HBL.out.size))
  have F3 := Lib.hid (FYS.out.below hb)
  clear HBL FYS
  have F4 := Lib.hid hA
  clear hA hb
  refine takeL (.bool false) rfl (by go_simp) ?_
  try simp only [Act.put, List.setIfInBounds_toArray, List.set_cons_succ, List.set_cons_zero]
  refine wpList_nil ?_
  go_upto_region 1 with fail
  refine wp_region_lit ?_
  refine takeL (.pointer (some ⟨w.heap.size, 2, none⟩)) rfl (by go_simp) ?_
  try simp only [Act.put, List.setIfInBounds_toArray, List.set_cons_succ, List.set_cons_zero]
  refine takeL ((.slice a s.marks.length cap)) rfl (by have hq := F4.out.cell (i := 2) (v := (.slice a s.marks.length cap)) rfl; go_simp) ?_
  try simp only [Act.put, List.setIfInBounds_toArray, List.set_cons_succ, List.set_cons_zero]
  refine takeL (.int .i64 (s.marks.length)) rfl (by go_simp) ?_
  try simp only [Act.put, List.setIfInBounds_toArray, List.set_cons_succ, List.set_cons_zero]
  refine takeL (.bool false) rfl (by go_simp) ?_
  try simp only [Act.put, List.setIfInBounds_toArray, List.set_cons_succ, List.set_cons_zero]
  refine wpList_nil ?_
  obtain ⟨k, hk⟩ : ∃ k : Nat, y % (s.marks.length + 1) = (k : Int) := ⟨(y % (s.marks.length + 1)).toNat, by have := Int.emod_nonneg y (show (s.marks.length : Int) + 1 ≠ 0 by omega); omega⟩
  have hkl : k ≤ s.marks.length := by have := Int.emod_lt_of_pos y (show (0 : Int) < (s.marks.length : Int) + 1 by omega); omega
  have HK := Lib.hid hk
  clear hk
  go_upto_region 3 with fail
  refine wp_region_lit ?_
  refine takeL (.int .u8 y) rfl (by go_simp) ?_
  try simp only [Act.put, List.setIfInBounds_toArray, List.set_cons_succ, List.set_cons_zero]
  refine takeL (.int .i64 y) rfl (by go_simp; exact wrap64 hy1 (by omega)) ?_
  try simp only [Act.put, List.setIfInBounds_toArray, List.set_cons_succ, List.set_cons_zero]
  refine takeL (.pointer (some ⟨w.heap.size, 2, none⟩)) rfl (by go_simp) ?_
  try simp only [Act.put, List.setIfInBounds_toArray, List.set_cons_succ, List.set_cons_zero]
  refine takeL ((.slice a s.marks.length cap)) rfl (by have hq := F4.out.cell (i := 2) (v := (.slice a s.marks.length cap)) rfl; go_simp) ?_
  try simp only [Act.put, List.setIfInBounds_toArray, List.set_cons_succ, List.set_cons_zero]
  refine takeL (.int .i64 (s.marks.length)) rfl (by go_simp) ?_
  try simp only [Act.put, List.setIfInBounds_toArray, List.set_cons_succ, List.set_cons_zero]
  refine takeL (.int .i64 (s.marks.length + 1)) rfl (by go_simp <;> exact wrap64 (by omega) (by omega)) ?_
  try simp only [Act.put, List.setIfInBounds_toArray, List.set_cons_succ, List.set_cons_zero]
  refine takeL (.int .i64 k) rfl (by go_simp; rw [if_neg (by omega), Int.tmod_eq_emod_of_nonneg hy1, HK.out]) ?_
  try simp only [Act.put, List.setIfInBounds_toArray, List.set_cons_succ, List.set_cons_zero]
  refine takeL (.int .i64 k) rfl (by go_simp) ?_
  try simp only [Act.put, List.setIfInBounds_toArray, List.set_cons_succ, List.set_cons_zero]
  refine wpList_nil ?_
  have FY1 := Lib.hid (F3.out.upto hcap k hkl)
  have FY2 := Lib.hid (F3.out.rest hcap k hkl)
  obtain ⟨s1, hs1⟩ : ∃ v, sliced a 0 k cap 2 = v := ⟨_, rfl⟩
  obtain ⟨s2, hs2⟩ : ∃ v, sliced a k s.marks.length cap 2 = v := ⟨_, rfl⟩
  rw [hs1] at FY1
  rw [hs2] at FY2
  have HS1 := Lib.hid hs1
  have HS2 := Lib.hid hs2
  obtain ⟨n1, hn1⟩ : ∃ n, blocks (s.marks.take k) = n := ⟨_, rfl⟩
  obtain ⟨n2, hn2⟩ : ∃ n, blocks (s.marks.drop k) = n := ⟨_, rfl⟩
  obtain ⟨n3, hn3⟩ : ∃ n, blocks s.marks = n := ⟨_, rfl⟩
  have HN1 := Lib.hid hn1
  have HN2 := Lib.hid hn2
  have HN3 := Lib.hid hn3
  have hsum : n1 + n2 = n3 := by rw [← hn1, ← hn2, ← hn3, ← blocks_append, List.take_append_drop]
  have hle3 : n3 ≤ s.marks.length := by rw [← hn3]; exact blocks_le _
  have HT : Hid ((s.marks.take k).length ≤ 1000000) := Lib.hid (by rw [List.length_take]; omega)
  have HD : Hid ((s.marks.drop k).length ≤ 1000000) := Lib.hid (by rw [List.length_drop]; omega)
  have hk0 : (0 : Int) ≤ (k : Int) := by omega
  have hk1 : (k : Int) ≤ (s.marks.length : Int) := by omega
  have hk2 : (k : Int) ≤ (cap : Int) := by omega
  have hsumi : (n1 : Int) + (n2 : Int) = (n3 : Int) := by omega
  have hle3i : ¬ (s.marks.length : Int) < (n3 : Int) := by omega
  clear hs1 hs2 hn1 hn2 hn3
  go_upto_region 4 with fail
  refine startH (fun wq => Below w1.heap.size w1 wq) (by kernel_rfl) ?_
  refine takeH 0 (some 25) (.pointer (some ⟨w.heap.size, 2, none⟩)) rfl rfl (by kernel_rfl) (by kernel_rfl) (by kernel_rfl) (fun _ _ _ h => h) rfl (fun wq hS => by go_simp) (Below.refl _ _).drew ?_
  try simp only [Act.put, List.setIfInBounds_toArray, List.set_cons_succ, List.set_cons_zero]
  refine takeH 1 (some 26) ((.slice a s.marks.length cap)) rfl rfl (by kernel_rfl) (by kernel_rfl) (by kernel_rfl) (fun _ _ _ h => h) rfl (fun wq hS => by have hq := (F4.out.below hS F4.out.lt).cell (i := 2) (v := (.slice a s.marks.length cap)) rfl; go_simp) (Below.refl _ _).drew ?_
  try simp only [Act.put, List.setIfInBounds_toArray, List.set_cons_succ, List.set_cons_zero]
  refine takeH 2 (some 27) (.int .i64 k) rfl rfl (by kernel_rfl) (by kernel_rfl) (by kernel_rfl) (fun _ _ _ h => h) rfl (fun wq hS => by go_simp) (Below.refl _ _).drew ?_
  try simp only [Act.put, List.setIfInBounds_toArray, List.set_cons_succ, List.set_cons_zero]
  refine takeH 3 (some 28) (s1) rfl rfl (by kernel_rfl) (by kernel_rfl) (by kernel_rfl) (fun _ _ _ h => h) rfl (fun wq hS => by rw [← HS1.out]; go_simp) (Below.refl _ _).drew ?_
  try simp only [Act.put, List.setIfInBounds_toArray, List.set_cons_succ, List.set_cons_zero]
  refine takeH 5 (some 30) (.pointer (some ⟨w.heap.size, 2, none⟩)) rfl rfl (by kernel_rfl) (by kernel_rfl) (by kernel_rfl) (fun _ _ _ h => h) rfl (fun wq hS => by go_simp) (Below.refl _ _).drew ?_
  try simp only [Act.put, List.setIfInBounds_toArray, List.set_cons_succ, List.set_cons_zero]
  refine takeH 6 (some 31) ((.slice a s.marks.length cap)) rfl rfl (by kernel_rfl) (by kernel_rfl) (by kernel_rfl) (fun _ _ _ h => h) rfl (fun wq hS => by have hq := (F4.out.below hS F4.out.lt).cell (i := 2) (v := (.slice a s.marks.length cap)) rfl; go_simp) (Below.refl _ _).drew ?_
  try simp only [Act.put, List.setIfInBounds_toArray, List.set_cons_succ, List.set_cons_zero]
  refine takeH 7 (some 32) (.int .i64 k) rfl rfl (by kernel_rfl) (by kernel_rfl) (by kernel_rfl) (fun _ _ _ h => h) rfl (fun wq hS => by go_simp) (Below.refl _ _).drew ?_
  try simp only [Act.put, List.setIfInBounds_toArray, List.set_cons_succ, List.set_cons_zero]
  refine takeH 8 (some 33) (s2) rfl rfl (by kernel_rfl) (by kernel_rfl) (by kernel_rfl) (fun _ _ _ h => h) rfl (fun wq hS => by rw [← HS2.out]; go_simp) (Below.refl _ _).drew ?_
  try simp only [Act.put, List.setIfInBounds_toArray, List.set_cons_succ, List.set_cons_zero]
  refine takeH 11 (some 36) (.pointer (some ⟨w.heap.size, 2, none⟩)) rfl rfl (by kernel_rfl) (by kernel_rfl) (by kernel_rfl) (fun _ _ _ h => h) rfl (fun wq hS => by go_simp) (Below.refl _ _).drew ?_
  try simp only [Act.put, List.setIfInBounds_toArray, List.set_cons_succ, List.set_cons_zero]
  refine takeH 12 (some 37) ((.slice a s.marks.length cap)) rfl rfl (by kernel_rfl) (by kernel_rfl) (by kernel_rfl) (fun _ _ _ h => h) rfl (fun wq hS => by have hq := (F4.out.below hS F4.out.lt).cell (i := 2) (v := (.slice a s.marks.length cap)) rfl; go_simp) (Below.refl _ _).drew ?_
  try simp only [Act.put, List.setIfInBounds_toArray, List.set_cons_succ, List.set_cons_zero]
  refine oneH 4 (by kernel_rfl) rfl rfl fun K hK => ?_
  go_simp
  refine (blocks_of HN1.out _ HT.out _ (FY1.out.below (Below.refl _ _).drew)).mono ?_
  rintro e w5 ⟨rfl, hb⟩
  have HS6 := Lib.hid (stay (Below.refl _ _).drew hb)
  clear hb
  refine hK _ _ HS6.out ?_
  clear hK K
  try simp only [Act.put, List.setIfInBounds_toArray, List.set_cons_succ, List.set_cons_zero]
  refine oneH 9 (by kernel_rfl) rfl rfl fun K hK => ?_
  go_simp
  refine (blocks_of HN2.out _ HD.out _ (FY2.out.below HS6.out)).mono ?_
  rintro e w7 ⟨rfl, hb⟩
  have HS8 := Lib.hid (stay HS6.out hb)
  clear hb
  refine hK _ _ HS8.out ?_
  clear hK K
  try simp only [Act.put, List.setIfInBounds_toArray, List.set_cons_succ, List.set_cons_zero]
  refine takeH 10 (some 35) (.int .i64 n3) rfl rfl (by kernel_rfl) (by kernel_rfl) (by kernel_rfl) (fun _ _ _ h => h) rfl (fun wq hS => by go_simp <;> exact wrap64 (by omega) (by omega)) HS8.out ?_
  try simp only [Act.put, List.setIfInBounds_toArray, List.set_cons_succ, List.set_cons_zero]
  refine oneH 13 (by kernel_rfl) rfl rfl fun K hK => ?_
  go_simp
  refine (blocks_of HN3.out _ HLs.out _ (F3.out.below HS8.out)).mono ?_
  rintro e w9 ⟨rfl, hb⟩
  have HS10 := Lib.hid (stay HS8.out hb)
  clear hb
  refine hK _ _ HS10.out ?_
  clear hK K
  try simp only [Act.put, List.setIfInBounds_toArray, List.set_cons_succ, List.set_cons_zero]
  refine takeH 14 (some 39) (.bool false) rfl rfl (by kernel_rfl) (by kernel_rfl) (by kernel_rfl) (fun _ _ _ h => h) rfl (fun wq hS => by go_simp) HS10.out ?_
  try simp only [Act.put, List.setIfInBounds_toArray, List.set_cons_succ, List.set_cons_zero]
  refine takeH 15 (some 40) (.bool false) rfl rfl (by kernel_rfl) (by kernel_rfl) (by kernel_rfl) (fun _ _ _ h => h) rfl (fun wq hS => by go_simp) HS10.out ?_
  try simp only [Act.put, List.setIfInBounds_toArray, List.set_cons_succ, List.set_cons_zero]
  refine takeH 16 (some 41) (.pointer (some ⟨w.heap.size, 2, none⟩)) rfl rfl (by kernel_rfl) (by kernel_rfl) (by kernel_rfl) (fun _ _ _ h => h) rfl (fun wq hS => by go_simp) HS10.out ?_
  try simp only [Act.put, List.setIfInBounds_toArray, List.set_cons_succ, List.set_cons_zero]
  refine takeH 17 (some 42) ((.slice a s.marks.length cap)) rfl rfl (by kernel_rfl) (by kernel_rfl) (by kernel_rfl) (fun _ _ _ h => h) rfl (fun wq hS => by have hq := (F4.out.below hS F4.out.lt).cell (i := 2) (v := (.slice a s.marks.length cap)) rfl; go_simp) HS10.out ?_
  try simp only [Act.put, List.setIfInBounds_toArray, List.set_cons_succ, List.set_cons_zero]
  refine takeH 19 (some 44) (.pointer (some ⟨w.heap.size, 2, none⟩)) rfl rfl (by kernel_rfl) (by kernel_rfl) (by kernel_rfl) (fun _ _ _ h => h) rfl (fun wq hS => by go_simp) HS10.out ?_
  try simp only [Act.put, List.setIfInBounds_toArray, List.set_cons_succ, List.set_cons_zero]
  refine takeH 20 (some 45) ((.slice a s.marks.length cap)) rfl rfl (by kernel_rfl) (by kernel_rfl) (by kernel_rfl) (fun _ _ _ h => h) rfl (fun wq hS => by have hq := (F4.out.below hS F4.out.lt).cell (i := 2) (v := (.slice a s.marks.length cap)) rfl; go_simp) HS10.out ?_
  try simp only [Act.put, List.setIfInBounds_toArray, List.set_cons_succ, List.set_cons_zero]
  refine takeH 21 (some 46) (.int .i64 (s.marks.length)) rfl rfl (by kernel_rfl) (by kernel_rfl) (by kernel_rfl) (fun _ _ _ h => h) rfl (fun wq hS => by go_simp) HS10.out ?_
  try simp only [Act.put, List.setIfInBounds_toArray, List.set_cons_succ, List.set_cons_zero]
  refine oneH 18 (by kernel_rfl) rfl rfl fun K hK => ?_
  go_simp
  refine (blocks_of HN3.out _ HLs.out _ (F3.out.below HS10.out)).mono ?_
  rintro e w11 ⟨rfl, hb⟩
  have HS12 := Lib.hid (stay HS10.out hb)
  clear hb
  refine hK _ _ HS12.out ?_
  clear hK K
  try simp only [Act.put, List.setIfInBounds_toArray, List.set_cons_succ, List.set_cons_zero]
  refine takeH 22 (some 47) (.bool false) rfl rfl (by kernel_rfl) (by kernel_rfl) (by kernel_rfl) (fun _ _ _ h => h) rfl (fun wq hS => by go_simp) HS12.out ?_
  try simp only [Act.put, List.setIfInBounds_toArray, List.set_cons_succ, List.set_cons_zero]
  refine takeH 23 (some 48) (.bool false) rfl rfl (by kernel_rfl) (by kernel_rfl) (by kernel_rfl) (fun _ _ _ h => h) rfl (fun wq hS => by go_simp) HS12.out ?_
  try simp only [Act.put, List.setIfInBounds_toArray, List.set_cons_succ, List.set_cons_zero]
  refine wpAnyH_done (by kernel_rfl) ?_ _
  have hb := HS12.out
  have F13 := Lib.hid (F2.out.trans (hb.mono F2.out.size))
  have F14 := Lib.hid (F3.out.below hb)
  have F15 := Lib.hid (F4.out.below hb F4.out.lt)
  have F16 := Lib.hid (FY1.out.below hb)
  have F17 := Lib.hid (FY2.out.below hb)
  clear F2 F3 F4 FY1 FY2
  clear hb
  clear hsumi hle3i hk0 hk1 hk2
  go_upto_region 6 with fail
  refine wp_region_lit ?_
  refine load25 (cs := #[.int .u32 s.seq, .bool s.more, (.slice a s.marks.length cap)]) (Blk.all F15.out rfl) rfl rfl rfl ?_
  try simp only [Act.put, List.setIfInBounds_toArray, List.set_cons_succ, List.set_cons_zero]
  refine wpList_op rfl fun K hK => ?_
  go_simp
  refine (enc_ok HG.out _ HLs.out HWs.out _ F14.out).mono ?_
  rintro e w18 ⟨rfl, hb⟩
  have F19 := Lib.hid (F13.out.trans (hb.mono F13.out.size))
  have F20 := Lib.hid (F14.out.below hb)
  have F21 := Lib.hid (F15.out.below hb F15.out.lt)
  have F22 := Lib.hid (F16.out.below hb)
  have F23 := Lib.hid (F17.out.below hb)
  clear F13 F14 F15 F16 F17
  clear hb
  refine hK _ _ ?_
  clear hK K
  try simp only [Act.put, List.setIfInBounds_toArray, List.set_cons_succ, List.set_cons_zero]
  refine takeL (.tuple #[.agg (u8s s.sec).toArray, .int .i64 0]) rfl (by go_simp) ?_
  try simp only [Act.put, List.setIfInBounds_toArray, List.set_cons_succ, List.set_cons_zero]
  refine takeL (.agg (u8s s.sec).toArray) rfl (by go_simp) ?_
  try simp only [Act.put, List.setIfInBounds_toArray, List.set_cons_succ, List.set_cons_zero]
  refine takeL (.int .i64 0) rfl (by go_simp) ?_
  try simp only [Act.put, List.setIfInBounds_toArray, List.set_cons_succ, List.set_cons_zero]
  refine alloc_g zero27 rfl ?_
  intro w24 hC hBC hlC
  try simp only [Act.put, List.setIfInBounds_toArray, List.set_cons_succ, List.set_cons_zero]
  refine store_all (cs := (u8s s.sec).toArray) hC (by rw [u8s_size, HSs.out]; simp [zeros]) (by rw [u8s_size, HSs.out]; exact info27) (u8s_one _) rfl rfl rfl ?_
  intro w25 hD hOD hlD
  try simp only [Act.put, List.setIfInBounds_toArray, List.set_cons_succ, List.set_cons_zero]
  have hb := hBC.trans (hOD.below hBC.size (fun k hk => Nat.le_of_eq hk.symm))
  have F26 := Lib.hid (F19.out.trans (hb.mono F19.out.size))
  have F27 := Lib.hid (F20.out.below hb)
  have F28 := Lib.hid (F21.out.below hb F21.out.lt)
  have F29 := Lib.hid (F22.out.below hb)
  have F30 := Lib.hid (F23.out.below hb)
  clear F19 F20 F21 F22 F23
  have F31 := Lib.hid hD
  clear hC hBC hlC hD hOD hlD hb
  generalize w18.heap.size = g32 at *
  clear w24 w18
  refine takeL (.int .i64 0) rfl (by go_simp) ?_
  try simp only [Act.put, List.setIfInBounds_toArray, List.set_cons_succ, List.set_cons_zero]
  refine wpList_nil ?_
  go_upto_region 7 with fail
  refine wp_region_lit ?_
  refine takeL (.int .i64 0) rfl (by go_simp) ?_
  try simp only [Act.put, List.setIfInBounds_toArray, List.set_cons_succ, List.set_cons_zero]
  refine takeL (.bool false) rfl (by go_simp) ?_
  try simp only [Act.put, List.setIfInBounds_toArray, List.set_cons_succ, List.set_cons_zero]
  refine wpList_nil ?_
  have HXB : Hid (Blk w25 g32 (u8s s.enc)) := Lib.hid (by rw [← sec_good HG.out]; exact F31.out)
  have c0 : w25.cell? ⟨g32, 0, none⟩ = some (.int .u8 83) := HXB.out.cell (enc_cell HG.out (by decide))
  have c1 : w25.cell? ⟨g32, 1, none⟩ = some (.int .u8 0) := by
    have := HXB.out.cell (enc_cell HG.out (i := 1) (by decide))
    rwa [enc_1, HMO.out] at this
  have c6 : w25.cell? ⟨g32, 6, none⟩ = some (.int .u8 (s.marks.length : Int)) := HXB.out.cell (enc_cell HG.out (by decide))
  have g1 := F28.out.cell (i := 1) rfl
  have g2 := F28.out.cell (i := 2) rfl
  rw [HMO.out] at g1
  obtain ⟨hn1, hn2⟩ := good_len HG.out
  have hn1' : (1 : Int) ≤ (s.marks.length : Int) := by omega
  have hn2' : (s.marks.length : Int) ≤ 24 := by omega
  have HSQ := Lib.hid HWs.out.seq
  go_wp2_with fail
  go_loopg [9] 4 (fun q i wr => ∃ j : Nat, 4 - j ≤ q ∧ j ≤ 4 ∧ i = .int .i64 j ∧ Below w25.heap.size w25 wr)
  case atStart => exact ⟨0, by omega, by omega, rfl, Below.refl _ _⟩
  case round =>
    obtain ⟨j, hgj, hj, rfl, hbel⟩ := hrel
    have HBR := Lib.hid hbel
    have HXR := Lib.hid (HXB.out.below hbel HXB.out.lt)
    have HGR := Lib.hid (F28.out.below hbel F28.out.lt)
    have HYR := Lib.hid (F27.out.below hbel)
    have HBL2 := Lib.hid (F26.out.trans (hbel.mono F26.out.size))
    clear hbel c0 c1 c6 g1 g2
    rcases (show j = 0 ∨ j = 1 ∨ j = 2 ∨ j = 3 ∨ j = 4 by omega) with rfl | rfl | rfl | rfl | rfl
    · have cx : wr.cell? ⟨g32, 2, none⟩ = some (.int .u8 (s.seq % 256)) := by
        have := HXR.out.cell (enc_cell HG.out (i := 2 + 0) (by decide))
        rw [enc_seq s 0 (by decide), le4] at this
        exact this
      have g0 := HGR.out.cell (i := 0) rfl
      obtain ⟨hq1, hq2⟩ := HSQ.out
      skip
      go_upto_region 17 with fail
      go_region
      go_wp2_with fail
      go_roundg (4 - 1)
      case measure => omega
      case rel => exact ⟨1, by omega, by omega, by go_num, HBR.out.drew⟩
    · have cx : wr.cell? ⟨g32, 3, none⟩ = some (.int .u8 (s.seq / 256 % 256)) := by
        have := HXR.out.cell (enc_cell HG.out (i := 2 + 1) (by decide))
        rw [enc_seq s 1 (by decide), le4] at this
        exact this
      have g0 := HGR.out.cell (i := 0) rfl
      obtain ⟨hq1, hq2⟩ := HSQ.out
      skip
      go_upto_region 17 with fail
      go_region
      go_wp2_with fail
      go_roundg (4 - 2)
      case measure => omega
      case rel => exact ⟨2, by omega, by omega, by go_num, HBR.out.drew⟩
    · have cx : wr.cell? ⟨g32, 4, none⟩ = some (.int .u8 (s.seq / 65536 % 256)) := by
        have := HXR.out.cell (enc_cell HG.out (i := 2 + 2) (by decide))
        rw [enc_seq s 2 (by decide), le4] at this
        exact this
      have g0 := HGR.out.cell (i := 0) rfl
      obtain ⟨hq1, hq2⟩ := HSQ.out
      skip
      go_upto_region 17 with fail
      go_region
      go_wp2_with fail
      go_roundg (4 - 3)
      case measure => omega
      case rel => exact ⟨3, by omega, by omega, by go_num, HBR.out.drew⟩
    · have cx : wr.cell? ⟨g32, 5, none⟩ = some (.int .u8 (s.seq / 16777216 % 256)) := by
        have := HXR.out.cell (enc_cell HG.out (i := 2 + 3) (by decide))
        rw [enc_seq s 3 (by decide), le4] at this
        exact this
      have g0 := HGR.out.cell (i := 0) rfl
      obtain ⟨hq1, hq2⟩ := HSQ.out
      rw [show s.seq / 16777216 % 256 = s.seq / 16777216 by omega] at cx
      go_upto_region 17 with fail
      go_region
      go_wp2_with fail
      go_roundg (4 - 4)
      case measure => omega
      case rel => exact ⟨4, by omega, by omega, by go_num, HBR.out.drew⟩
    · go_wp2_with fail
      go_loopg [10] 24 (fun q i wq => ∃ j : Nat, 24 - j ≤ q ∧ j ≤ 24 ∧ i = .int .i64 j ∧ Below wr.heap.size wr wq)
      case atStart => exact ⟨0, by omega, by omega, rfl, Below.refl _ _⟩
      case round =>
        obtain ⟨j, hgj, hj, rfl, hbel⟩ := hrel
        have HBR := Lib.hid hbel
        have HXQ := Lib.hid (HXR.out.below hbel HXR.out.lt)
        have HGQ := Lib.hid (HGR.out.below hbel HGR.out.lt)
        have HYQ := Lib.hid (HYR.out.below hbel)
        have HBL3 := Lib.hid (HBL2.out.trans (hbel.mono HBL2.out.size))
        clear hbel
        by_cases hlt : j < 24
        · have hj0 : (0 : Int) ≤ (j : Int) := by omega
          have hj1 : (j : Int) < 24 := by omega
          have g2 := HGQ.out.cell (i := 2) rfl
          have x1 := HXQ.out.cell (enc_cell HG.out (i := 7 + 2 * j) (by omega))
          have x2 := HXQ.out.cell (enc_cell HG.out (i := 8 + 2 * j) (by omega))
          rw [enc_kind] at x1
          rw [enc_id] at x2
          by_cases hjl : j < s.marks.length
          · have hlk : s.marks[j]? = some s.marks[j] := by simp [hjl]
            obtain ⟨b', o', cap', he, hcells⟩ := HYQ.out.has (by omega)
            cases he
            obtain ⟨m1, m2⟩ := hcells j _ hlk
            have hmb := good_byte HG.out _ (List.getElem_mem hjl)
            rw [List.getD_eq_getElem?_getD, hlk, Option.getD_some] at x1 x2
            clear hcells hlk
            generalize s.marks[j] = m at *
            obtain ⟨mk, mi⟩ := m
            obtain ⟨⟨hm1, hm2⟩, ⟨hm3, hm4⟩⟩ := hmb
            simp only at m1 m2 x1 x2 hm1 hm2 hm3 hm4
            have hjli : (j : Int) < (s.marks.length : Int) := by omega
            go_upto_region 24 with fail
            go_region
            go_wp2_with fail
            go_roundg (24 - (j + 1))
            case measure => omega
            case rel => exact ⟨j + 1, by omega, by omega, by go_num, HBR.out.drew⟩
          · rw [List.getD_eq_getElem?_getD, List.getElem?_eq_none (by omega), Option.getD_none] at x1 x2
            have hjli : ¬ (j : Int) < (s.marks.length : Int) := by omega
            go_wp2_with fail
            go_roundg (24 - (j + 1))
            case measure => omega
            case rel => exact ⟨j + 1, by omega, by omega, by go_num, HBR.out⟩
        · have hj24 : j = 24 := by omega
          subst hj24
          go_upto_region 27 with fail
          refine wp_region_lit ?_
          refine wpList_op rfl fun K hK => ?_
          go_simp
          refine (wakes_any _).mono ?_
          rintro e wz ⟨rfl, hb⟩
          refine hK _ _ ?_
          clear hK K
          try simp only [Act.put, List.setIfInBounds_toArray, List.set_cons_succ, List.set_cons_zero]
          have HF := Lib.hid (HBL3.out.trans (hb.mono HBL3.out.size))
          refine takeL (.bool true) rfl (by go_simp) ?_
          try simp only [Act.put, List.setIfInBounds_toArray, List.set_cons_succ, List.set_cons_zero]
          refine wpList_nil ?_
          go_wp2_with fail
          go_ret
          exact ⟨rfl, HF.out⟩
theorem places_any (s : Sm) (a : Option Addr) (cap : Nat) (y : Int) (hs : s.Wf) (hy : Byte y) (hcap : s.marks.length ≤ cap) (w : World) (hms : MarksAt w (.slice a s.marks.length cap) s.marks) : Calls Try.prog 5 #[.agg #[.int .u32 s.seq, .bool s.more, .slice a s.marks.length cap], .int .u8 y] w fun e w' => e = .returned (.bool true) ∧ Below w.heap.size w w' := by
  by_cases h1 : s.marks.length ≤ 300
  · cases hg : s.good
    · exact places_n s a cap y hs hy hcap h1 hg w hms
    · cases hm : s.more
      · have := places_f s a cap y hs hy hcap h1 hg hm w hms
        rwa [hm] at this
      · have := places_t s a cap y hs hy hcap h1 hg hm w hms
        rwa [hm] at this
  · exact places_long s a cap y hs hy hcap (by omega) w hms
end Go.Proofs.Ytfhpmhigfhnbaaa
