/- The statements' own difference of two pages, and their own bytes laid over a page; two lists of bytes compared. -/
import Derived.Test.YtaemjglblfencaaGreatDoorApp
import Derived.Laws.BytesArg
namespace Go.Proofs.YtaemjglblfencaaGreatDoor
set_option linter.unusedSimpArgs false
set_option linter.unusedVariables false
open Go.RowKit

theorem list32 {l : List Int} (h : l.length = 32) : ∃ x0 x1 x2 x3 x4 x5 x6 x7 x8 x9 x10 x11 x12 x13 x14 x15 x16 x17 x18 x19 x20 x21 x22 x23 x24 x25 x26 x27 x28 x29 x30 x31 : Int, l = [x0, x1, x2, x3, x4, x5, x6, x7, x8, x9, x10, x11, x12, x13, x14, x15, x16, x17, x18, x19, x20, x21, x22, x23, x24, x25, x26, x27, x28, x29, x30, x31] := by
  match l, h with
  | [x0, x1, x2, x3, x4, x5, x6, x7, x8, x9, x10, x11, x12, x13, x14, x15, x16, x17, x18, x19, x20, x21, x22, x23, x24, x25, x26, x27, x28, x29, x30, x31], _ => exact ⟨x0, x1, x2, x3, x4, x5, x6, x7, x8, x9, x10, x11, x12, x13, x14, x15, x16, x17, x18, x19, x20, x21, x22, x23, x24, x25, x26, x27, x28, x29, x30, x31, rfl⟩
set_option maxRecDepth 100000 in
theorem built82_32 (x0 x1 x2 x3 x4 x5 x6 x7 x8 x9 x10 x11 x12 x13 x14 x15 x16 x17 x18 x19 x20 x21 x22 x23 x24 x25 x26 x27 x28 x29 x30 x31 : Int) (v : Bool) : Tryz.prog.built 82 [(0, .agg #[.int .u8 x0, .int .u8 x1, .int .u8 x2, .int .u8 x3, .int .u8 x4, .int .u8 x5, .int .u8 x6, .int .u8 x7, .int .u8 x8, .int .u8 x9, .int .u8 x10, .int .u8 x11, .int .u8 x12, .int .u8 x13, .int .u8 x14, .int .u8 x15, .int .u8 x16, .int .u8 x17, .int .u8 x18, .int .u8 x19, .int .u8 x20, .int .u8 x21, .int .u8 x22, .int .u8 x23, .int .u8 x24, .int .u8 x25, .int .u8 x26, .int .u8 x27, .int .u8 x28, .int .u8 x29, .int .u8 x30, .int .u8 x31]), (1, .bool v)] = some #[.int .u8 x0, .int .u8 x1, .int .u8 x2, .int .u8 x3, .int .u8 x4, .int .u8 x5, .int .u8 x6, .int .u8 x7, .int .u8 x8, .int .u8 x9, .int .u8 x10, .int .u8 x11, .int .u8 x12, .int .u8 x13, .int .u8 x14, .int .u8 x15, .int .u8 x16, .int .u8 x17, .int .u8 x18, .int .u8 x19, .int .u8 x20, .int .u8 x21, .int .u8 x22, .int .u8 x23, .int .u8 x24, .int .u8 x25, .int .u8 x26, .int .u8 x27, .int .u8 x28, .int .u8 x29, .int .u8 x30, .int .u8 x31, .bool v] := by kernel_rfl
set_option maxRecDepth 100000 in
theorem built82 {l : List Int} (h : l.length = 32) (v : Bool) : Tryz.prog.built 82 [(0, .agg (u8s l).toArray), (1, .bool v)] = some (u8s l ++ [Value.bool v]).toArray := by
  obtain ⟨x0, x1, x2, x3, x4, x5, x6, x7, x8, x9, x10, x11, x12, x13, x14, x15, x16, x17, x18, x19, x20, x21, x22, x23, x24, x25, x26, x27, x28, x29, x30, x31, rfl⟩ := list32 h
  exact built82_32 x0 x1 x2 x3 x4 x5 x6 x7 x8 x9 x10 x11 x12 x13 x14 x15 x16 x17 x18 x19 x20 x21 x22 x23 x24 x25 x26 x27 x28 x29 x30 x31 v
theorem info82 : (Tryz.prog.info? 82).map (·.size) = some 33 := by kernel_rfl
theorem zero82 : (Tryz.prog.info? 82).bind (·.zero) = some (.agg (u8s (zeros 32) ++ [Value.bool false]).toArray) := by kernel_rfl
theorem built82n : Tryz.prog.built 82 [] = some (u8s (zeros 32) ++ [Value.bool false]).toArray := by kernel_rfl
theorem build82n (w : World) : (Instr.build 82 #[]).run Tryz.prog w = .ok (.agg (u8s (zeros 32) ++ [Value.bool false]).toArray) w := run_build w 82 _ _ built82n
theorem got_size {l : List Int} {v : Bool} (h : l.length = 32) : (u8s l ++ [Value.bool v]).toArray.size = 33 := by simp [h]
theorem got_one (l : List Int) (v : Bool) : ∀ z ∈ (u8s l ++ [Value.bool v]).toArray, z.oneCell' = true := fun z hz => by
  rcases List.mem_append.1 (by simpa using hz : z ∈ u8s l ++ [Value.bool v]) with h | h
  · obtain ⟨y, _, rfl⟩ := List.mem_map.1 h
    rfl
  · rw [List.mem_singleton.1 h]
    rfl
theorem got_ok {l : List Int} {v : Bool} (h : l.length = 32) : (u8s l ++ [Value.bool v])[32]? = some (.bool v) := by
  rw [List.getElem?_append_right (by simp [h])]
  simp [h]
theorem got_at {w : World} {g : Nat} {l : List Int} {v : Bool} (h : Blk w g (u8s l ++ [Value.bool v])) : At w g 0 (u8s l).toArray := h.sub 0 fun j hj => by
  have hj' : j < (u8s l).length := by simpa using hj
  rw [Nat.zero_add, List.getElem?_append_left hj', List.getElem?_eq_getElem hj']
  simp
set_option maxRecDepth 100000 in
set_option maxHeartbeats 1000000 in
theorem rapply_no0 (p l : List Int) (hp : p.length = 32) (off : Int) (sv : Value) (n : Nat) (hn : l.length = n) (hl : n ≤ 1000) (h1 : off < 0) (w : World) (hbs : BytesAt w sv l) : Calls Tryz.prog 40 #[.agg (u8s p).toArray, .int .i64 off, sv] w fun e w' => e = .returned (.agg (u8s (zeros 32) ++ [Value.bool false]).toArray) ∧ Below w.heap.size w w' := by
  have HZ32 := Lib.hid (zeros_length 32)
  have HP := Lib.hid hp
  have HBL : Hid (Below w.heap.size w w) := Lib.hid (Below.refl _ _)
  have HBY := Lib.hid hbs
  obtain ⟨sa, sc, he, -⟩ := hbs
  rw [hn] at he
  have HN := Lib.hid hn
  subst he
  clear hp hn
  go_enter Tryz.func40, Tryz.ntmps40
  go_upto_region 0 with fail
  refine wp_region_lit ?_
  refine box_g (cs := (u8s p).toArray) rfl rfl ?_
  intro w1 hA hb hl
  try simp only [Act.put, List.setIfInBounds_toArray, List.set_cons_succ, List.set_cons_zero]
  clear hl
  have HG2 : Hid (w.heap.size ≤ w.heap.size) := Lib.hid HBL.out.size
  have F3 := Lib.hid (HBL.out.trans (hb.mono HBL.out.size))
  clear HBL
  have F4 : Hid (Blk w1 w.heap.size (u8s p)) := Lib.hid hA
  clear hA hb
  refine alloc_g zero82 rfl ?_
  intro w5 hA hb hl
  try simp only [Act.put, List.setIfInBounds_toArray, List.set_cons_succ, List.set_cons_zero]
  clear hl
  have HN6 := Lib.hid (Nat.ne_of_lt F4.out.lt)
  have HG7 : Hid (w.heap.size ≤ w1.heap.size) := Lib.hid F3.out.size
  have F8 := Lib.hid (F3.out.trans (hb.mono F3.out.size))
  have F9 := Lib.hid (F4.out.below hb F4.out.lt)
  clear F3 F4
  have F10 : Hid (Blk w5 w1.heap.size (u8s (zeros 32) ++ [Value.bool false])) := Lib.hid hA
  clear hA hb
  generalize w1.heap.size = g11 at *
  clear w1
  refine wpList_nil ?_
  have d0 : decide (off < 0) = true := decide_eq_true (by omega)
  have d0p : (off < 0) := by omega
  clear h1
  go_upto_region 2 with fail
  refine wp_region_lit ?_
  try simp only [List.append_eq, List.cons_append, List.nil_append]
  refine build_g (build82n _) rfl ?_
  try simp only [Act.put, List.setIfInBounds_toArray, List.set_cons_succ, List.set_cons_zero]
  refine store_all (cs := (u8s (zeros 32) ++ [Value.bool false]).toArray) F10.out (by simp only [u8s_size, List.size_toArray, List.length_append, List.length_singleton, List.length_map, HZ32.out]) (by rw [got_size HZ32.out]; exact info82) (got_one _ _) rfl rfl rfl ?_
  intro w12 hD hO hlD
  try simp only [Act.put, List.setIfInBounds_toArray, List.set_cons_succ, List.set_cons_zero]
  clear hlD
  have F13 := Lib.hid (F8.out.trans (hO.below F8.out.size (fun k hk => by rw [hk]; exact HG7.out)))
  have F14 := Lib.hid (F9.out.only hO (HN6.out))
  clear F8 F9 F10
  have F10' : Hid (Blk w12 g11 (u8s (zeros 32) ++ [Value.bool false])) := Lib.hid hD
  clear hD hO
  refine wpList_nil ?_
  go_wp2_with fail
  exact bodyPost_ret (v := .agg (u8s (zeros 32) ++ [Value.bool false]).toArray) (results_cell_at rfl _ _ g11 0 (u8s (zeros 32) ++ [Value.bool false]).toArray _ rfl Tryz.underlying82 rfl (by rw [got_size HZ32.out]; exact info82) (Blk.all F10'.out rfl)) rfl ⟨rfl, F13.out⟩
set_option maxRecDepth 100000 in
set_option maxHeartbeats 1000000 in
theorem rapply_no1 (p l : List Int) (hp : p.length = 32) (off : Int) (sv : Value) (n : Nat) (hn : l.length = n) (hl : n ≤ 1000) (h1 : 32 < off) (w : World) (hbs : BytesAt w sv l) : Calls Tryz.prog 40 #[.agg (u8s p).toArray, .int .i64 off, sv] w fun e w' => e = .returned (.agg (u8s (zeros 32) ++ [Value.bool false]).toArray) ∧ Below w.heap.size w w' := by
  have HZ32 := Lib.hid (zeros_length 32)
  have HP := Lib.hid hp
  have HBL : Hid (Below w.heap.size w w) := Lib.hid (Below.refl _ _)
  have HBY := Lib.hid hbs
  obtain ⟨sa, sc, he, -⟩ := hbs
  rw [hn] at he
  have HN := Lib.hid hn
  subst he
  clear hp hn
  go_enter Tryz.func40, Tryz.ntmps40
  go_upto_region 0 with fail
  refine wp_region_lit ?_
  refine box_g (cs := (u8s p).toArray) rfl rfl ?_
  intro w1 hA hb hl
  try simp only [Act.put, List.setIfInBounds_toArray, List.set_cons_succ, List.set_cons_zero]
  clear hl
  have HG2 : Hid (w.heap.size ≤ w.heap.size) := Lib.hid HBL.out.size
  have F3 := Lib.hid (HBL.out.trans (hb.mono HBL.out.size))
  clear HBL
  have F4 : Hid (Blk w1 w.heap.size (u8s p)) := Lib.hid hA
  clear hA hb
  refine alloc_g zero82 rfl ?_
  intro w5 hA hb hl
  try simp only [Act.put, List.setIfInBounds_toArray, List.set_cons_succ, List.set_cons_zero]
  clear hl
  have HN6 := Lib.hid (Nat.ne_of_lt F4.out.lt)
  have HG7 : Hid (w.heap.size ≤ w1.heap.size) := Lib.hid F3.out.size
  have F8 := Lib.hid (F3.out.trans (hb.mono F3.out.size))
  have F9 := Lib.hid (F4.out.below hb F4.out.lt)
  clear F3 F4
  have F10 : Hid (Blk w5 w1.heap.size (u8s (zeros 32) ++ [Value.bool false])) := Lib.hid hA
  clear hA hb
  generalize w1.heap.size = g11 at *
  clear w1
  refine wpList_nil ?_
  have d0 : decide (off < 0) = false := decide_eq_false (by omega)
  have d0p : ¬ (off < 0) := by omega
  have d1 : decide (32 < off) = true := decide_eq_true (by omega)
  have d1p : (32 < off) := by omega
  clear h1
  go_upto_region 2 with fail
  refine wp_region_lit ?_
  try simp only [List.append_eq, List.cons_append, List.nil_append]
  refine build_g (build82n _) rfl ?_
  try simp only [Act.put, List.setIfInBounds_toArray, List.set_cons_succ, List.set_cons_zero]
  refine store_all (cs := (u8s (zeros 32) ++ [Value.bool false]).toArray) F10.out (by simp only [u8s_size, List.size_toArray, List.length_append, List.length_singleton, List.length_map, HZ32.out]) (by rw [got_size HZ32.out]; exact info82) (got_one _ _) rfl rfl rfl ?_
  intro w12 hD hO hlD
  try simp only [Act.put, List.setIfInBounds_toArray, List.set_cons_succ, List.set_cons_zero]
  clear hlD
  have F13 := Lib.hid (F8.out.trans (hO.below F8.out.size (fun k hk => by rw [hk]; exact HG7.out)))
  have F14 := Lib.hid (F9.out.only hO (HN6.out))
  clear F8 F9 F10
  have F10' : Hid (Blk w12 g11 (u8s (zeros 32) ++ [Value.bool false])) := Lib.hid hD
  clear hD hO
  refine wpList_nil ?_
  go_wp2_with fail
  exact bodyPost_ret (v := .agg (u8s (zeros 32) ++ [Value.bool false]).toArray) (results_cell_at rfl _ _ g11 0 (u8s (zeros 32) ++ [Value.bool false]).toArray _ rfl Tryz.underlying82 rfl (by rw [got_size HZ32.out]; exact info82) (Blk.all F10'.out rfl)) rfl ⟨rfl, F13.out⟩
set_option maxRecDepth 100000 in
set_option maxHeartbeats 1000000 in
theorem rapply_no2 (p l : List Int) (hp : p.length = 32) (off : Int) (sv : Value) (n : Nat) (hn : l.length = n) (hl : n ≤ 1000) (h0 : 0 ≤ off) (h1 : off ≤ 32) (h2 : n < 1) (w : World) (hbs : BytesAt w sv l) : Calls Tryz.prog 40 #[.agg (u8s p).toArray, .int .i64 off, sv] w fun e w' => e = .returned (.agg (u8s (zeros 32) ++ [Value.bool false]).toArray) ∧ Below w.heap.size w w' := by
  have HZ32 := Lib.hid (zeros_length 32)
  have HP := Lib.hid hp
  have HBL : Hid (Below w.heap.size w w) := Lib.hid (Below.refl _ _)
  have HBY := Lib.hid hbs
  obtain ⟨sa, sc, he, -⟩ := hbs
  rw [hn] at he
  have HN := Lib.hid hn
  subst he
  clear hp hn
  go_enter Tryz.func40, Tryz.ntmps40
  go_upto_region 0 with fail
  refine wp_region_lit ?_
  refine box_g (cs := (u8s p).toArray) rfl rfl ?_
  intro w1 hA hb hl
  try simp only [Act.put, List.setIfInBounds_toArray, List.set_cons_succ, List.set_cons_zero]
  clear hl
  have HG2 : Hid (w.heap.size ≤ w.heap.size) := Lib.hid HBL.out.size
  have F3 := Lib.hid (HBL.out.trans (hb.mono HBL.out.size))
  clear HBL
  have F4 : Hid (Blk w1 w.heap.size (u8s p)) := Lib.hid hA
  clear hA hb
  refine alloc_g zero82 rfl ?_
  intro w5 hA hb hl
  try simp only [Act.put, List.setIfInBounds_toArray, List.set_cons_succ, List.set_cons_zero]
  clear hl
  have HN6 := Lib.hid (Nat.ne_of_lt F4.out.lt)
  have HG7 : Hid (w.heap.size ≤ w1.heap.size) := Lib.hid F3.out.size
  have F8 := Lib.hid (F3.out.trans (hb.mono F3.out.size))
  have F9 := Lib.hid (F4.out.below hb F4.out.lt)
  clear F3 F4
  have F10 : Hid (Blk w5 w1.heap.size (u8s (zeros 32) ++ [Value.bool false])) := Lib.hid hA
  clear hA hb
  generalize w1.heap.size = g11 at *
  clear w1
  refine wpList_nil ?_
  have d0 : decide (off < 0) = false := decide_eq_false (by omega)
  have d0p : ¬ (off < 0) := by omega
  have d1 : decide (32 < off) = false := decide_eq_false (by omega)
  have d1p : ¬ (32 < off) := by omega
  have d2 : decide ((n : Int) < 1) = true := decide_eq_true (by omega)
  have d2p : ((n : Int) < 1) := by omega
  clear h0 h1 h2
  go_upto_region 2 with fail
  refine wp_region_lit ?_
  try simp only [List.append_eq, List.cons_append, List.nil_append]
  refine build_g (build82n _) rfl ?_
  try simp only [Act.put, List.setIfInBounds_toArray, List.set_cons_succ, List.set_cons_zero]
  refine store_all (cs := (u8s (zeros 32) ++ [Value.bool false]).toArray) F10.out (by simp only [u8s_size, List.size_toArray, List.length_append, List.length_singleton, List.length_map, HZ32.out]) (by rw [got_size HZ32.out]; exact info82) (got_one _ _) rfl rfl rfl ?_
  intro w12 hD hO hlD
  try simp only [Act.put, List.setIfInBounds_toArray, List.set_cons_succ, List.set_cons_zero]
  clear hlD
  have F13 := Lib.hid (F8.out.trans (hO.below F8.out.size (fun k hk => by rw [hk]; exact HG7.out)))
  have F14 := Lib.hid (F9.out.only hO (HN6.out))
  clear F8 F9 F10
  have F10' : Hid (Blk w12 g11 (u8s (zeros 32) ++ [Value.bool false])) := Lib.hid hD
  clear hD hO
  refine wpList_nil ?_
  go_wp2_with fail
  exact bodyPost_ret (v := .agg (u8s (zeros 32) ++ [Value.bool false]).toArray) (results_cell_at rfl _ _ g11 0 (u8s (zeros 32) ++ [Value.bool false]).toArray _ rfl Tryz.underlying82 rfl (by rw [got_size HZ32.out]; exact info82) (Blk.all F10'.out rfl)) rfl ⟨rfl, F13.out⟩
set_option maxRecDepth 100000 in
set_option maxHeartbeats 1000000 in
theorem rapply_no3 (p l : List Int) (hp : p.length = 32) (off : Int) (sv : Value) (n : Nat) (hn : l.length = n) (hl : n ≤ 1000) (h0 : 0 ≤ off) (h1 : off ≤ 32) (h2 : 1 ≤ n) (h3 : 32 - off < n) (w : World) (hbs : BytesAt w sv l) : Calls Tryz.prog 40 #[.agg (u8s p).toArray, .int .i64 off, sv] w fun e w' => e = .returned (.agg (u8s (zeros 32) ++ [Value.bool false]).toArray) ∧ Below w.heap.size w w' := by
  have HZ32 := Lib.hid (zeros_length 32)
  have HP := Lib.hid hp
  have HBL : Hid (Below w.heap.size w w) := Lib.hid (Below.refl _ _)
  have HBY := Lib.hid hbs
  obtain ⟨sa, sc, he, -⟩ := hbs
  rw [hn] at he
  have HN := Lib.hid hn
  subst he
  clear hp hn
  go_enter Tryz.func40, Tryz.ntmps40
  go_upto_region 0 with fail
  refine wp_region_lit ?_
  refine box_g (cs := (u8s p).toArray) rfl rfl ?_
  intro w1 hA hb hl
  try simp only [Act.put, List.setIfInBounds_toArray, List.set_cons_succ, List.set_cons_zero]
  clear hl
  have HG2 : Hid (w.heap.size ≤ w.heap.size) := Lib.hid HBL.out.size
  have F3 := Lib.hid (HBL.out.trans (hb.mono HBL.out.size))
  clear HBL
  have F4 : Hid (Blk w1 w.heap.size (u8s p)) := Lib.hid hA
  clear hA hb
  refine alloc_g zero82 rfl ?_
  intro w5 hA hb hl
  try simp only [Act.put, List.setIfInBounds_toArray, List.set_cons_succ, List.set_cons_zero]
  clear hl
  have HN6 := Lib.hid (Nat.ne_of_lt F4.out.lt)
  have HG7 : Hid (w.heap.size ≤ w1.heap.size) := Lib.hid F3.out.size
  have F8 := Lib.hid (F3.out.trans (hb.mono F3.out.size))
  have F9 := Lib.hid (F4.out.below hb F4.out.lt)
  clear F3 F4
  have F10 : Hid (Blk w5 w1.heap.size (u8s (zeros 32) ++ [Value.bool false])) := Lib.hid hA
  clear hA hb
  generalize w1.heap.size = g11 at *
  clear w1
  refine wpList_nil ?_
  have d0 : decide (off < 0) = false := decide_eq_false (by omega)
  have d0p : ¬ (off < 0) := by omega
  have d1 : decide (32 < off) = false := decide_eq_false (by omega)
  have d1p : ¬ (32 < off) := by omega
  have d2 : decide ((n : Int) < 1) = false := decide_eq_false (by omega)
  have d2p : ¬ ((n : Int) < 1) := by omega
  have w1 : IntKind.i64.wrap (32 - off) = 32 - off := wrap64 (by omega) (by omega)
  have d3 : decide (32 - off < (n : Int)) = true := decide_eq_true (by omega)
  have d3p : (32 - off < (n : Int)) := by omega
  clear h0 h1 h2 h3
  go_upto_region 2 with fail
  refine wp_region_lit ?_
  try simp only [List.append_eq, List.cons_append, List.nil_append]
  refine build_g (build82n _) rfl ?_
  try simp only [Act.put, List.setIfInBounds_toArray, List.set_cons_succ, List.set_cons_zero]
  refine store_all (cs := (u8s (zeros 32) ++ [Value.bool false]).toArray) F10.out (by simp only [u8s_size, List.size_toArray, List.length_append, List.length_singleton, List.length_map, HZ32.out]) (by rw [got_size HZ32.out]; exact info82) (got_one _ _) rfl rfl rfl ?_
  intro w12 hD hO hlD
  try simp only [Act.put, List.setIfInBounds_toArray, List.set_cons_succ, List.set_cons_zero]
  clear hlD
  have F13 := Lib.hid (F8.out.trans (hO.below F8.out.size (fun k hk => by rw [hk]; exact HG7.out)))
  have F14 := Lib.hid (F9.out.only hO (HN6.out))
  clear F8 F9 F10
  have F10' : Hid (Blk w12 g11 (u8s (zeros 32) ++ [Value.bool false])) := Lib.hid hD
  clear hD hO
  refine wpList_nil ?_
  go_wp2_with fail
  exact bodyPost_ret (v := .agg (u8s (zeros 32) ++ [Value.bool false]).toArray) (results_cell_at rfl _ _ g11 0 (u8s (zeros 32) ++ [Value.bool false]).toArray _ rfl Tryz.underlying82 rfl (by rw [got_size HZ32.out]; exact info82) (Blk.all F10'.out rfl)) rfl ⟨rfl, F13.out⟩
set_option maxRecDepth 100000 in
set_option maxHeartbeats 1000000 in
theorem rapply_yes (p l : List Int) (hp : p.length = 32) (o : Nat) (sv : Value) (n : Nat) (hn : l.length = n) (hl : n ≤ 1000) (h : Fits o l) (w : World) (hbs : BytesAt w sv l) : Calls Tryz.prog 40 #[.agg (u8s p).toArray, .int .i64 o, sv] w fun e w' => e = .returned (.agg (u8s (layI p o l) ++ [Value.bool true]).toArray) ∧ Below w.heap.size w w' := by
  have HZ32 := Lib.hid (zeros_length 32)
  have HP := Lib.hid hp
  have HBL : Hid (Below w.heap.size w w) := Lib.hid (Below.refl _ _)
  have HBY := Lib.hid hbs
  obtain ⟨sa, sc, he, -⟩ := hbs
  rw [hn] at he
  have HN := Lib.hid hn
  subst he
  clear hp hn
  have HF := Lib.hid h
  have HLY := Lib.hid (lay_size HP.out o HF.out)
  have hf1 : 0 < n := HN.out ▸ h.2.1
  have hf2 : (o : Int) + n ≤ 32 := HN.out ▸ h.2.2
  clear h
  go_enter Tryz.func40, Tryz.ntmps40
  go_upto_region 0 with fail
  refine wp_region_lit ?_
  refine box_g (cs := (u8s p).toArray) rfl rfl ?_
  intro w1 hA hb hl
  try simp only [Act.put, List.setIfInBounds_toArray, List.set_cons_succ, List.set_cons_zero]
  clear hl
  have HG2 : Hid (w.heap.size ≤ w.heap.size) := Lib.hid HBL.out.size
  have F3 := Lib.hid (HBL.out.trans (hb.mono HBL.out.size))
  clear HBL
  have F4 : Hid (Blk w1 w.heap.size (u8s p)) := Lib.hid hA
  clear hA hb
  refine alloc_g zero82 rfl ?_
  intro w5 hA hb hl
  try simp only [Act.put, List.setIfInBounds_toArray, List.set_cons_succ, List.set_cons_zero]
  clear hl
  have HN6 := Lib.hid (Nat.ne_of_lt F4.out.lt)
  have HG7 : Hid (w.heap.size ≤ w1.heap.size) := Lib.hid F3.out.size
  have F8 := Lib.hid (F3.out.trans (hb.mono F3.out.size))
  have F9 := Lib.hid (F4.out.below hb F4.out.lt)
  clear F3 F4
  have F10 : Hid (Blk w5 w1.heap.size (u8s (zeros 32) ++ [Value.bool false])) := Lib.hid hA
  clear hA hb
  generalize w1.heap.size = g11 at *
  clear w1
  refine wpList_nil ?_
  have d0 : decide ((o : Int) < 0) = false := decide_eq_false (by omega)
  have d0p : ¬ ((o : Int) < 0) := by omega
  have d1 : decide (32 < (o : Int)) = false := decide_eq_false (by omega)
  have d1p : ¬ (32 < (o : Int)) := by omega
  have d2 : decide ((n : Int) < 1) = false := decide_eq_false (by omega)
  have d2p : ¬ ((n : Int) < 1) := by omega
  have w1 : IntKind.i64.wrap (32 - (o : Int)) = 32 - (o : Int) := wrap64 (by omega) (by omega)
  have d3 : decide (32 - (o : Int) < (n : Int)) = false := decide_eq_false (by omega)
  have d3p : ¬ (32 - (o : Int) < (n : Int)) := by omega
  go_upto_region 3 with fail
  refine wp_region_lit ?_
  try simp only [List.append_eq, List.cons_append, List.nil_append]
  clear d0 d0p d1 d1p d2 d2p w1 d3 d3p
  refine takeL (.int .i64 o) rfl (by go_simp) ?_
  try simp only [Act.put, List.setIfInBounds_toArray, List.set_cons_succ, List.set_cons_zero]
  refine takeL (.slice (some ⟨w.heap.size, o, none⟩) (32 - o) (32 - o)) rfl (exec_slice_from _ _ _ _ _ rfl w.heap.size o rfl rfl (by omega)) ?_
  try simp only [Act.put, List.setIfInBounds_toArray, List.set_cons_succ, List.set_cons_zero]
  refine takeL (.slice sa n sc) rfl (by go_simp) ?_
  try simp only [Act.put, List.setIfInBounds_toArray, List.set_cons_succ, List.set_cons_zero]
  have HB2 := HBY.out.below F8.out
  obtain ⟨p', q', cap', hsv', hsrc⟩ := HB2.has (by rw [HN.out]; exact hf1)
  refine wpList_op rfl fun K hK => ?_
  refine wp_copy _ _ rfl Tryz.underlying34 info5s w.heap.size o (32 - o) (32 - o) p' q' l.length cap' rfl hsv' (u8s p) l F9.out (Nat.min_eq_left (by rw [HN.out]; omega)).symm hsrc (by rw [List.length_map, HP.out, HN.out]; omega) (some 29) rfl fun w12 hD hO => ?_
  refine hK _ _ ?_
  clear hK K HB2 hsv' hsrc
  try simp only [Act.put, List.setIfInBounds_toArray, List.set_cons_succ, List.set_cons_zero]
  rw [lay_u8s] at hD
  have F13 := Lib.hid (F8.out.trans (hO.below F8.out.size (fun k hk => by rw [hk]; exact HG2.out)))
  have F14 := Lib.hid (F10.out.only hO (HN6.out.symm))
  clear F8 F10 F9
  have FL : Hid (Blk w12 w.heap.size (u8s (layI p o l))) := Lib.hid hD
  clear hD hO
  refine wpList_nil ?_
  go_upto_region 4 with fail
  refine wp_region_lit ?_
  try simp only [List.append_eq, List.cons_append, List.nil_append]
  refine load39 (cs := (u8s (layI p o l)).toArray) (Blk.all FL.out rfl) (by rw [u8s_size, HLY.out]) rfl rfl ?_
  try simp only [Act.put, List.setIfInBounds_toArray, List.set_cons_succ, List.set_cons_zero]
  refine takeL (.agg (u8s (layI p o l) ++ [Value.bool true]).toArray) rfl (exec_build _ _ _ _ 82 _ rfl #[(0, .agg (u8s (layI p o l)).toArray), (1, .bool true)] (by simp only [List.map_toArray, List.map_cons, List.map_nil]; rfl) _ (run_build _ 82 _ _ (built82 HLY.out true))) ?_
  try simp only [Act.put, List.setIfInBounds_toArray, List.set_cons_succ, List.set_cons_zero]
  refine store_all (cs := (u8s (layI p o l) ++ [Value.bool true]).toArray) F14.out (by simp only [u8s_size, List.size_toArray, List.length_append, List.length_singleton, List.length_map, HLY.out, HZ32.out]) (by rw [got_size HLY.out]; exact info82) (got_one _ _) rfl rfl rfl ?_
  intro w15 hD hO hlD
  try simp only [Act.put, List.setIfInBounds_toArray, List.set_cons_succ, List.set_cons_zero]
  clear hlD
  have F16 := Lib.hid (F13.out.trans (hO.below F13.out.size (fun k hk => by rw [hk]; exact HG7.out)))
  have F17 := Lib.hid (FL.out.only hO (HN6.out))
  clear F13 FL F14
  have F10' : Hid (Blk w15 g11 (u8s (layI p o l) ++ [Value.bool true])) := Lib.hid hD
  clear hD hO
  refine wpList_nil ?_
  go_wp2_with fail
  exact bodyPost_ret (v := .agg (u8s (layI p o l) ++ [Value.bool true]).toArray) (results_cell_at rfl _ _ g11 0 (u8s (layI p o l) ++ [Value.bool true]).toArray _ rfl Tryz.underlying82 rfl (by rw [got_size HLY.out]; exact info82) (Blk.all F10'.out rfl)) rfl ⟨rfl, F16.out⟩
theorem rapply_no (p l : List Int) (hp : p.length = 32) (off : Int) (sv : Value) (hl : l.length ≤ 1000) (h : ¬ Fits off l) (w : World) (hbs : BytesAt w sv l) : Calls Tryz.prog 40 #[.agg (u8s p).toArray, .int .i64 off, sv] w fun e w' => e = .returned (.agg (u8s (zeros 32) ++ [Value.bool false]).toArray) ∧ Below w.heap.size w w' := by
  obtain ⟨n, hn⟩ : ∃ n, l.length = n := ⟨_, rfl⟩
  unfold Fits at h
  rw [hn] at hl h
  by_cases h0 : off < 0
  · exact rapply_no0 p l hp off sv n hn hl h0 w hbs
  by_cases h1 : 32 < off
  · exact rapply_no1 p l hp off sv n hn hl h1 w hbs
  by_cases h2 : n < 1
  · exact rapply_no2 p l hp off sv n hn hl (by omega) (by omega) h2 w hbs
  · exact rapply_no3 p l hp off sv n hn hl (by omega) (by omega) (by omega) (by omega) w hbs
end Go.Proofs.YtaemjglblfencaaGreatDoor
