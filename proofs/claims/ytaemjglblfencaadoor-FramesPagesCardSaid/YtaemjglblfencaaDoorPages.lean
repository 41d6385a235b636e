/- The statement FramesPages' walk: whatever the numbers, the call returns true. -/
import Derived.Test.YtaemjglblfencaaDoorPg
namespace Go.Proofs.YtaemjglblfencaaDoor
set_option linter.unusedSimpArgs false
set_option linter.unusedVariables false
open Go.RowKit Kl

theorem bm_len {b : Int} : (bm b).length = 8 := rfl
theorem builtB (b : Int) : Tryd.prog.built 49 [(0, .int .i64 b)] = some (i64s (bm b)).toArray := by kernel_rfl
section
variable {W w : World} {G : Nat → Prop} {L : Lay} {k : Nat} {a b : Int}
theorem byte_small {n : Int} (h : 0 ≤ n ∧ n < 1000) : Kl.Small n := ⟨by omega, by omega⟩
theorem pok1 (hk : k < 8) (ha : Byte a) (hb : Byte b) : (pg1 k a).Ok 0 := by
  have := (newFs_ok (n := 3) (by decide) (by decide)).hold 0 k (leaf_pg ha)
  rwa [pf1 k hk a b] at this
theorem pok2 (hk : k < 8) (ha : Byte a) (hb : Byte b) : (pg2 k a b).Ok 0 := by
  have := (pok1 hk ha hb).holdMap 1 k (l := bm b) rfl
  rwa [pf3 k hk a b] at this
theorem pok3t (hk : k < 8) (ha : Byte a) (hb : Byte b) : (pg3 k a b true).Ok 1 := by
  have := (pok2 hk ha hb).pin 0
  rwa [(pf5 k hk a b).2] at this
theorem pok3f (hk : k < 8) (ha : Byte a) (hb : Byte b) : (pg3 k a b false).Ok 1 := (pok2 hk ha hb).mono (by decide)
theorem pok4t (hk : k < 8) (ha : Byte a) (hb : Byte b) : (pg4 k a b true).Ok 1 := pok3t hk ha hb
theorem pok4f (hk : k < 8) (ha : Byte a) (hb : Byte b) : (pg4 k a b false).Ok 1 := by
  have := (pok3f hk ha hb).hold 0 ((k + 1) % 8 : Nat) (leaf_pg hb)
  rwa [pf6f k hk a b] at this
theorem pc1 (hk : k < 8) (ha : Byte a) (hb : Byte b) (h : Fz W G w L (newFs 3)) : Calls Tryd.prog 12 #[.pointer (some ⟨L.b, 0, none⟩), .int .i64 0, .int .i64 k, .agg (u8s (leaf a)).toArray] w fun e w' => e = .returned (.bool true) ∧ Fz W G w' L (pg1 k a) ∧ Only (fun q => ¬ G q) w w' := by
  have := fz_hold h (newFs_ok (by decide) (by decide)) 0 k (leaf_pg ha)
  rwa [pf1 k hk a b] at this
theorem pc2 (hk : k < 8) (ha : Byte a) (hb : Byte b) (h : Fz W G w L (pg1 k a)) : Calls Tryd.prog 12 #[.pointer (some ⟨L.b, 0, none⟩), .int .i64 1, .int .i64 k, .agg (u8s (leaf b)).toArray] w fun e w' => e = .returned (.bool false) ∧ Fz W G w' L (pg1 k a) ∧ Only (fun q => ¬ G q) w w' := by
  have := fz_hold h (pok1 hk ha hb) 1 k (leaf_pg hb)
  rwa [pf2 k hk a b] at this
theorem pc3 (hk : k < 8) (ha : Byte a) (hb : Byte b) (h : Fz W G w L (pg1 k a)) : Calls Tryd.prog 19 #[.pointer (some ⟨L.b, 0, none⟩), .int .i64 1, .int .i64 k, .agg (i64s (bm b)).toArray] w fun e w' => e = .returned (.bool true) ∧ Fz W G w' L (pg2 k a b) ∧ Only (fun q => ¬ G q) w w' := by
  have := fz_holdMap h (pok1 hk ha hb) 1 k (byte_small (by omega)) (heads := bm b) rfl
  rwa [pf3 k hk a b] at this
theorem pc4 (hk : k < 8) (ha : Byte a) (hb : Byte b) (h : Fz W G w L (pg2 k a b)) : Calls Tryd.prog 19 #[.pointer (some ⟨L.b, 0, none⟩), .int .i64 2, .int .i64 k, .agg (i64s (zeros 8)).toArray] w fun e w' => e = .returned (.bool false) ∧ Fz W G w' L (pg2 k a b) ∧ Only (fun q => ¬ G q) w w' := by
  have := fz_holdMap h (pok2 hk ha hb) 2 k (byte_small (by omega)) (heads := zeros 8) rfl
  rwa [pf4 k hk a b] at this
theorem pc5 (hk : k < 8) (ha : Byte a) (hb : Byte b) (h : Fz W G w L (pg2 k a b)) : Calls Tryd.prog 21 #[.pointer (some ⟨L.cb, 0, none⟩), .int .i64 0] w fun e w' => e = .returned (.bool true) ∧ Fz W G w' L (pg3 k a b true) ∧ Only (fun q => ¬ G q) w w' := by
  have := fz_pin h (pok2 hk ha hb) (by decide) 0
  rwa [(pf5 k hk a b).1, (pf5 k hk a b).2] at this
theorem pc6t (hk : k < 8) (ha : Byte a) (hb : Byte b) (h : Fz W G w L (pg3 k a b true)) : Calls Tryd.prog 12 #[.pointer (some ⟨L.b, 0, none⟩), .int .i64 0, .int .i64 (((k + 1) % 8 : Nat) : Int), .agg (u8s (leaf b)).toArray] w fun e w' => e = .returned (.bool false) ∧ Fz W G w' L (pg4 k a b true) ∧ Only (fun q => ¬ G q) w w' := by
  have := fz_hold h (pok3t hk ha hb) 0 ((k + 1) % 8 : Nat) (leaf_pg hb)
  rwa [pf6t k hk a b] at this
theorem pc6f (hk : k < 8) (ha : Byte a) (hb : Byte b) (h : Fz W G w L (pg3 k a b false)) : Calls Tryd.prog 12 #[.pointer (some ⟨L.b, 0, none⟩), .int .i64 0, .int .i64 (((k + 1) % 8 : Nat) : Int), .agg (u8s (leaf b)).toArray] w fun e w' => e = .returned (.bool true) ∧ Fz W G w' L (pg4 k a b false) ∧ Only (fun q => ¬ G q) w w' := by
  have := fz_hold h (pok3f hk ha hb) 0 ((k + 1) % 8 : Nat) (leaf_pg hb)
  rwa [pf6f k hk a b] at this
theorem pp7t (hk : k < 8) (ha : Byte a) (hb : Byte b) (h : Fz W G w L (pg4 k a b true)) : Calls Tryd.prog 16 #[.pointer (some ⟨L.b, 0, none⟩), .int .i64 k] w fun e w' => e = .returned (.tuple #[.agg (u8s (leaf a)).toArray, .agg (u8s (leaf a)).toArray, .bool true]) ∧ Below w.heap.size w w' := by
  have := fz_page h (pok4t hk ha hb) k
  rwa [pf7t k hk a b] at this
theorem pp7f (hk : k < 8) (ha : Byte a) (hb : Byte b) (h : Fz W G w L (pg4 k a b false)) : Calls Tryd.prog 16 #[.pointer (some ⟨L.b, 0, none⟩), .int .i64 k] w fun e w' => e = .returned (.tuple #[.agg (u8s (zeros 32)).toArray, .agg (u8s (zeros 32)).toArray, .bool false]) ∧ Below w.heap.size w w' := by
  have := fz_page h (pok4f hk ha hb) k
  rwa [pf7f k hk a b] at this
theorem pp8t (hk : k < 8) (ha : Byte a) (hb : Byte b) (h : Fz W G w L (pg4 k a b true)) : Calls Tryd.prog 18 #[.pointer (some ⟨L.b, 0, none⟩), .int .i64 k] w fun e w' => e = .returned (.tuple #[.agg (i64s (bm b)).toArray, .bool true]) ∧ Below w.heap.size w w' := by
  have := fz_map h (pok4t hk ha hb) k (byte_small (by omega))
  rwa [pf8t k hk a b] at this
theorem pc9t (hk : k < 8) (ha : Byte a) (hb : Byte b) (h : Fz W G w L (pg4 k a b true)) : Calls Tryd.prog 20 #[.pointer (some ⟨L.b, 0, none⟩), .int .i64 k] w fun e w' => e = .returned (.bool false) ∧ Fz W G w' L (pg4 k a b true) ∧ Only (fun q => ¬ G q) w w' := by
  have := fz_forget h (pok4t hk ha hb) k
  rwa [(pf9t k hk a b).1, (pf9t k hk a b).2] at this
theorem pc10t (hk : k < 8) (ha : Byte a) (hb : Byte b) (h : Fz W G w L (pg4 k a b true)) : Calls Tryd.prog 20 #[.pointer (some ⟨L.b, 0, none⟩), .int .i64 (64 + (k : Int))] w fun e w' => e = .returned (.bool true) ∧ Fz W G w' L ((pg4 k a b true).forget (64 + k)) ∧ Only (fun q => ¬ G q) w w' := by
  have := fz_forget h (pok4t hk ha hb) (64 + k)
  rwa [pf10t k hk a b] at this
theorem pp8f (hk : k < 8) (ha : Byte a) (hb : Byte b) (h : Fz W G w L (pg4 k a b false)) : Calls Tryd.prog 18 #[.pointer (some ⟨L.b, 0, none⟩), .int .i64 k] w fun e w' => e = .returned (.tuple #[.agg (i64s (bm b)).toArray, .bool true]) ∧ Below w.heap.size w w' := by
  have := fz_map h (pok4f hk ha hb) k (byte_small (by omega))
  rwa [pf8f k hk a b] at this
theorem pc9f (hk : k < 8) (ha : Byte a) (hb : Byte b) (h : Fz W G w L (pg4 k a b false)) : Calls Tryd.prog 20 #[.pointer (some ⟨L.b, 0, none⟩), .int .i64 k] w fun e w' => e = .returned (.bool false) ∧ Fz W G w' L (pg4 k a b false) ∧ Only (fun q => ¬ G q) w w' := by
  have := fz_forget h (pok4f hk ha hb) k
  rwa [(pf9f k hk a b).1, (pf9f k hk a b).2] at this
theorem pc10f (hk : k < 8) (ha : Byte a) (hb : Byte b) (h : Fz W G w L (pg4 k a b false)) : Calls Tryd.prog 20 #[.pointer (some ⟨L.b, 0, none⟩), .int .i64 (64 + (k : Int))] w fun e w' => e = .returned (.bool true) ∧ Fz W G w' L ((pg4 k a b false).forget (64 + k)) ∧ Only (fun q => ¬ G q) w w' := by
  have := fz_forget h (pok4f hk ha hb) (64 + k)
  rwa [pf10f k hk a b] at this
end

set_option maxRecDepth 100000 in
set_option maxHeartbeats 2000000 in
theorem pages_true (w : World) (id a b : Int) (hid : Byte id) (ha : Byte a) (hb : Byte b) (hev : ErrVar w) : Calls Tryd.prog 5 #[.int .u8 id, .agg #[.int .u8 a, .int .u8 b], .bool true] w fun e w' => e = .returned (.bool true) ∧ Below w.heap.size w w' := by
  obtain ⟨k, hk, hkid⟩ : ∃ k : Nat, k < 8 ∧ id.tmod 8 = (k : Int) := by
    have h0 := hid.1
    have h1 := Int.tmod_nonneg 8 h0
    have h2 := Int.tmod_lt_of_pos id (by decide : (0 : Int) < 8)
    exact ⟨(id.tmod 8).toNat, by omega, by omega⟩
  have hid0 := hid.1
  have hid1 := hid.2
  have ha0 := ha.1
  have ha1 := ha.2
  have hb0 := hb.1
  have hb1 := hb.2
  have HA := Lib.hid ha
  have HB := Lib.hid hb
  have HRM : Hid (((k : Int) + 1).tmod 8 = (((k + 1) % 8 : Nat) : Int)) := Lib.hid (by
    rw [Int.tmod_eq_emod_of_nonneg (by omega)]
    omega)
  have HZ32 := Lib.hid (zeros_length 32)
  have HEV1 := Lib.hid (hev.below (Nat.le_refl _) (Kl.alloc_below w (.cells #[.int .u8 a, .int .u8 b] 55)))
  have HX1 : Hid (Blk (w.alloc (.cells #[.int .u8 a, .int .u8 b] 55)) w.heap.size [.int .u8 a, .int .u8 b]) := Lib.hid (Kl.Blk.newAt _ _ _ rfl rfl)
  have HBA := Lib.hid (Kl.alloc_below w (.cells #[.int .u8 a, .int .u8 b] 55))
  have HN := Lib.hid (fz_new (w.alloc (.cells #[.int .u8 a, .int .u8 b] 55)) 3 (by decide) (by decide))
  clear hid ha hb hev
  go_enter Tryd.func5, Tryd.ntmps5
  go_wp2_with fail
  refine HN.out.mono ?_
  rintro e w2 ⟨L, rfl, hz, hb⟩
  have HX2 := Lib.hid (HX1.out.below hb HX1.out.lt)
  have HBL0 := HX1.out.lt
  obtain ⟨w1, hw1⟩ : ∃ u, w.alloc (.cells #[.int .u8 a, .int .u8 b] 55) = u := ⟨_, rfl⟩
  rw [hw1] at hz HEV1 HBA HBL0
  have HBL : Hid (w.heap.size < w1.heap.size) := Lib.hid HBL0
  have HBG : Hid (w.heap.size < w1.heap.size) := Lib.hid HBL0
  have HZ2 : Hid (Fz w1 (fun q => q < w1.heap.size) w2 L (newFs 3)) := Lib.hid hz
  clear hz hb HX1 HN hw1 HBL0
  go_upto_region 3 with fail
  refine wp_region_lit ?_
  refine takeL (.int .i64 0) rfl (by go_simp) ?_
  try simp only [Act.put, List.setIfInBounds_toArray, List.set_cons_succ, List.set_cons_zero]
  refine takeL (.bool false) rfl (by go_simp) ?_
  try simp only [Act.put, List.setIfInBounds_toArray, List.set_cons_succ, List.set_cons_zero]
  refine takeL (.bool false) rfl (by go_simp) ?_
  try simp only [Act.put, List.setIfInBounds_toArray, List.set_cons_succ, List.set_cons_zero]
  refine takeL (.pointer (some ⟨L.b, 0, none⟩)) rfl (by go_simp) ?_
  try simp only [Act.put, List.setIfInBounds_toArray, List.set_cons_succ, List.set_cons_zero]
  refine takeL (.bool false) rfl (by go_simp) ?_
  try simp only [Act.put, List.setIfInBounds_toArray, List.set_cons_succ, List.set_cons_zero]
  refine takeL (.bool false) rfl (by go_simp) ?_
  try simp only [Act.put, List.setIfInBounds_toArray, List.set_cons_succ, List.set_cons_zero]
  refine takeL (.bool false) rfl (by go_simp) ?_
  try simp only [Act.put, List.setIfInBounds_toArray, List.set_cons_succ, List.set_cons_zero]
  refine takeL (.pointer (some ⟨L.b, 0, none⟩)) rfl (by go_simp) ?_
  try simp only [Act.put, List.setIfInBounds_toArray, List.set_cons_succ, List.set_cons_zero]
  refine wpList_op rfl fun K hK => ?_
  go_simp
  refine (fz_clock HZ2.out).mono ?_
  rintro e w3 ⟨rfl, rfl⟩
  refine hK _ _ ?_
  clear hK K
  try simp only [Act.put, List.setIfInBounds_toArray, List.set_cons_succ, List.set_cons_zero]
  refine takeL (.bool false) rfl (by go_simp) ?_
  try simp only [Act.put, List.setIfInBounds_toArray, List.set_cons_succ, List.set_cons_zero]
  refine takeL (.bool false) rfl (by go_simp) ?_
  try simp only [Act.put, List.setIfInBounds_toArray, List.set_cons_succ, List.set_cons_zero]
  refine takeL (.bool false) rfl (by go_simp) ?_
  try simp only [Act.put, List.setIfInBounds_toArray, List.set_cons_succ, List.set_cons_zero]
  refine takeL (.pointer (some ⟨L.b, 0, none⟩)) rfl (by go_simp) ?_
  try simp only [Act.put, List.setIfInBounds_toArray, List.set_cons_succ, List.set_cons_zero]
  refine takeL (.int .i64 k) rfl (by go_simp) ?_
  try simp only [Act.put, List.setIfInBounds_toArray, List.set_cons_succ, List.set_cons_zero]
  refine takeL (.pointer (some ⟨w.heap.size, 0, none⟩)) rfl (by go_simp) ?_
  try simp only [Act.put, List.setIfInBounds_toArray, List.set_cons_succ, List.set_cons_zero]
  refine takeL (.int .u8 a) rfl (by have hq := HX2.out.cell (i := 0) rfl; go_simp) ?_
  try simp only [Act.put, List.setIfInBounds_toArray, List.set_cons_succ, List.set_cons_zero]
  refine wpList_op rfl fun K hK => ?_
  go_simp
  refine (Leaf_any a _).mono ?_
  rintro e w4 ⟨rfl, hb⟩
  have HX4 := Lib.hid (HX2.out.below hb HX2.out.lt)
  clear HX2
  have HZ4 := Lib.hid (HZ2.out.below hb)
  clear hb
  refine hK _ _ ?_
  clear hK K
  try simp only [Act.put, List.setIfInBounds_toArray, List.set_cons_succ, List.set_cons_zero]
  refine wpList_op rfl fun K hK => ?_
  go_simp
  refine (pc1 hk HA.out HB.out HZ4.out).mono ?_
  rintro e w5 ⟨rfl, hz, ho⟩
  have HX5 := Lib.hid (HX4.out.only ho (fun q => q HBG.out))
  clear HX4
  have HZ5 := Lib.hid hz
  clear hz ho
  refine hK _ _ ?_
  clear hK K
  try simp only [Act.put, List.setIfInBounds_toArray, List.set_cons_succ, List.set_cons_zero]
  refine takeL (.bool false) rfl (by go_simp) ?_
  try simp only [Act.put, List.setIfInBounds_toArray, List.set_cons_succ, List.set_cons_zero]
  refine takeL (.bool false) rfl (by go_simp) ?_
  try simp only [Act.put, List.setIfInBounds_toArray, List.set_cons_succ, List.set_cons_zero]
  refine takeL (.bool false) rfl (by go_simp) ?_
  try simp only [Act.put, List.setIfInBounds_toArray, List.set_cons_succ, List.set_cons_zero]
  refine takeL (.pointer (some ⟨L.b, 0, none⟩)) rfl (by go_simp) ?_
  try simp only [Act.put, List.setIfInBounds_toArray, List.set_cons_succ, List.set_cons_zero]
  refine takeL (.int .i64 k) rfl (by go_simp) ?_
  try simp only [Act.put, List.setIfInBounds_toArray, List.set_cons_succ, List.set_cons_zero]
  refine takeL (.pointer (some ⟨w.heap.size, 1, none⟩)) rfl (by go_simp) ?_
  try simp only [Act.put, List.setIfInBounds_toArray, List.set_cons_succ, List.set_cons_zero]
  refine takeL (.int .u8 b) rfl (by have hq := HX5.out.cell (i := 1) rfl; go_simp) ?_
  try simp only [Act.put, List.setIfInBounds_toArray, List.set_cons_succ, List.set_cons_zero]
  refine wpList_op rfl fun K hK => ?_
  go_simp
  refine (Leaf_any b _).mono ?_
  rintro e w6 ⟨rfl, hb⟩
  have HX6 := Lib.hid (HX5.out.below hb HX5.out.lt)
  clear HX5
  have HZ6 := Lib.hid (HZ5.out.below hb)
  clear hb
  refine hK _ _ ?_
  clear hK K
  try simp only [Act.put, List.setIfInBounds_toArray, List.set_cons_succ, List.set_cons_zero]
  refine wpList_op rfl fun K hK => ?_
  go_simp
  refine (pc2 hk HA.out HB.out HZ6.out).mono ?_
  rintro e w7 ⟨rfl, hz, ho⟩
  have HX7 := Lib.hid (HX6.out.only ho (fun q => q HBG.out))
  clear HX6
  have HZ7 := Lib.hid hz
  clear hz ho
  refine hK _ _ ?_
  clear hK K
  try simp only [Act.put, List.setIfInBounds_toArray, List.set_cons_succ, List.set_cons_zero]
  refine takeL (.bool false) rfl (by go_simp) ?_
  try simp only [Act.put, List.setIfInBounds_toArray, List.set_cons_succ, List.set_cons_zero]
  refine takeL (.bool false) rfl (by go_simp) ?_
  try simp only [Act.put, List.setIfInBounds_toArray, List.set_cons_succ, List.set_cons_zero]
  refine takeL (.pointer (some ⟨L.b, 0, none⟩)) rfl (by go_simp) ?_
  try simp only [Act.put, List.setIfInBounds_toArray, List.set_cons_succ, List.set_cons_zero]
  refine takeL (.int .i64 k) rfl (by go_simp) ?_
  try simp only [Act.put, List.setIfInBounds_toArray, List.set_cons_succ, List.set_cons_zero]
  refine takeL (.pointer (some ⟨w.heap.size, 1, none⟩)) rfl (by go_simp) ?_
  try simp only [Act.put, List.setIfInBounds_toArray, List.set_cons_succ, List.set_cons_zero]
  refine takeL (.int .u8 b) rfl (by have hq := HX7.out.cell (i := 1) rfl; go_simp) ?_
  try simp only [Act.put, List.setIfInBounds_toArray, List.set_cons_succ, List.set_cons_zero]
  refine takeL (.int .i64 b) rfl (by go_simp; exact Kl.wrap63 (by omega) (by omega)) ?_
  try simp only [Act.put, List.setIfInBounds_toArray, List.set_cons_succ, List.set_cons_zero]
  refine takeL (.agg (i64s (bm b)).toArray) rfl (by exact exec_build _ _ _ _ 49 _ rfl #[(0, .int .i64 b)] (by simp only [List.map_toArray, List.map_cons, List.map_nil]; rfl) _ (run_build _ 49 _ _ (builtB b))) ?_
  try simp only [Act.put, List.setIfInBounds_toArray, List.set_cons_succ, List.set_cons_zero]
  refine wpList_op rfl fun K hK => ?_
  go_simp
  refine (pc3 hk HA.out HB.out HZ7.out).mono ?_
  rintro e w8 ⟨rfl, hz, ho⟩
  have HX8 := Lib.hid (HX7.out.only ho (fun q => q HBG.out))
  clear HX7
  have HZ8 := Lib.hid hz
  clear hz ho
  refine hK _ _ ?_
  clear hK K
  try simp only [Act.put, List.setIfInBounds_toArray, List.set_cons_succ, List.set_cons_zero]
  refine takeL (.bool false) rfl (by go_simp) ?_
  try simp only [Act.put, List.setIfInBounds_toArray, List.set_cons_succ, List.set_cons_zero]
  refine takeL (.bool false) rfl (by go_simp) ?_
  try simp only [Act.put, List.setIfInBounds_toArray, List.set_cons_succ, List.set_cons_zero]
  refine takeL (.bool false) rfl (by go_simp) ?_
  try simp only [Act.put, List.setIfInBounds_toArray, List.set_cons_succ, List.set_cons_zero]
  refine takeL (.pointer (some ⟨L.b, 0, none⟩)) rfl (by go_simp) ?_
  try simp only [Act.put, List.setIfInBounds_toArray, List.set_cons_succ, List.set_cons_zero]
  refine takeL (.int .i64 k) rfl (by go_simp) ?_
  try simp only [Act.put, List.setIfInBounds_toArray, List.set_cons_succ, List.set_cons_zero]
  refine build_g (build49 _) rfl ?_
  try simp only [Act.put, List.setIfInBounds_toArray, List.set_cons_succ, List.set_cons_zero]
  refine wpList_op rfl fun K hK => ?_
  go_simp
  refine (pc4 hk HA.out HB.out HZ8.out).mono ?_
  rintro e w9 ⟨rfl, hz, ho⟩
  have HX9 := Lib.hid (HX8.out.only ho (fun q => q HBG.out))
  clear HX8
  have HZ9 := Lib.hid hz
  clear hz ho
  refine hK _ _ ?_
  clear hK K
  try simp only [Act.put, List.setIfInBounds_toArray, List.set_cons_succ, List.set_cons_zero]
  refine takeL (.bool false) rfl (by go_simp) ?_
  try simp only [Act.put, List.setIfInBounds_toArray, List.set_cons_succ, List.set_cons_zero]
  refine wpList_nil ?_
  have HPN := Lib.hid (pc5 hk HA.out HB.out HZ9.out)
  go_wp2_with (first | (refine (fz_clock HZ9.out).mono ?_; rintro e wz ⟨rfl, rfl⟩))
  refine HPN.out.mono ?_
  rintro e w10 ⟨rfl, hz, ho⟩
  have HX10 := Lib.hid (HX9.out.only ho (fun q => q HBG.out))
  clear HX9
  have HZ10 := Lib.hid hz
  clear hz ho HPN
  go_upto_region 7 with fail
  refine wp_region_lit ?_
  refine takeL (.pointer (some ⟨L.b, 0, none⟩)) rfl (by go_simp) ?_
  try simp only [Act.put, List.setIfInBounds_toArray, List.set_cons_succ, List.set_cons_zero]
  refine takeL (.int .i64 k) rfl (by go_simp) ?_
  try simp only [Act.put, List.setIfInBounds_toArray, List.set_cons_succ, List.set_cons_zero]
  refine takeL (.int .i64 ((k : Int) + 1)) rfl (by go_simp; exact Kl.wrap63 (by omega) (by omega)) ?_
  try simp only [Act.put, List.setIfInBounds_toArray, List.set_cons_succ, List.set_cons_zero]
  refine takeL (.int .i64 (((k + 1) % 8 : Nat) : Int)) rfl (by have hq := HRM.out; go_simp) ?_
  try simp only [Act.put, List.setIfInBounds_toArray, List.set_cons_succ, List.set_cons_zero]
  refine takeL (.pointer (some ⟨w.heap.size, 1, none⟩)) rfl (by go_simp) ?_
  try simp only [Act.put, List.setIfInBounds_toArray, List.set_cons_succ, List.set_cons_zero]
  refine takeL (.int .u8 b) rfl (by have hq := HX10.out.cell (i := 1) rfl; go_simp) ?_
  try simp only [Act.put, List.setIfInBounds_toArray, List.set_cons_succ, List.set_cons_zero]
  refine wpList_op rfl fun K hK => ?_
  go_simp
  refine (Leaf_any b _).mono ?_
  rintro e w11 ⟨rfl, hb⟩
  have HX11 := Lib.hid (HX10.out.below hb HX10.out.lt)
  clear HX10
  have HZ11 := Lib.hid (HZ10.out.below hb)
  clear hb
  refine hK _ _ ?_
  clear hK K
  try simp only [Act.put, List.setIfInBounds_toArray, List.set_cons_succ, List.set_cons_zero]
  refine wpList_op rfl fun K hK => ?_
  go_simp
  refine (pc6t hk HA.out HB.out HZ11.out).mono ?_
  rintro e w12 ⟨rfl, hz, ho⟩
  have HX12 := Lib.hid (HX11.out.only ho (fun q => q HBG.out))
  clear HX11
  have HZ12 := Lib.hid hz
  clear hz ho
  refine hK _ _ ?_
  clear hK K
  try simp only [Act.put, List.setIfInBounds_toArray, List.set_cons_succ, List.set_cons_zero]
  refine takeL (.bool false) rfl (by go_simp) ?_
  try simp only [Act.put, List.setIfInBounds_toArray, List.set_cons_succ, List.set_cons_zero]
  refine wpList_nil ?_
  go_upto_region 8 with fail
  refine wp_region_lit ?_
  refine takeL (.pointer (some ⟨L.b, 0, none⟩)) rfl (by go_simp) ?_
  try simp only [Act.put, List.setIfInBounds_toArray, List.set_cons_succ, List.set_cons_zero]
  refine takeL (.int .i64 k) rfl (by go_simp) ?_
  try simp only [Act.put, List.setIfInBounds_toArray, List.set_cons_succ, List.set_cons_zero]
  refine wpList_op rfl fun K hK => ?_
  go_simp
  refine (pp7t hk HA.out HB.out HZ12.out).mono ?_
  rintro e w80c ⟨rfl, hb⟩
  have HX80c := Lib.hid (HX12.out.below hb HX12.out.lt)
  clear HX12
  have HZ80c := Lib.hid (HZ12.out.below hb)
  clear hb
  refine hK _ _ ?_
  clear hK K
  try simp only [Act.put, List.setIfInBounds_toArray, List.set_cons_succ, List.set_cons_zero]
  refine takeL (.tuple #[.agg (u8s (leaf a)).toArray, .agg (u8s (leaf a)).toArray, .bool true]) rfl (by go_simp) ?_
  try simp only [Act.put, List.setIfInBounds_toArray, List.set_cons_succ, List.set_cons_zero]
  refine takeL (.agg (u8s (leaf a)).toArray) rfl (by go_simp) ?_
  try simp only [Act.put, List.setIfInBounds_toArray, List.set_cons_succ, List.set_cons_zero]
  refine takeL (.agg (u8s (leaf a)).toArray) rfl (by go_simp) ?_
  try simp only [Act.put, List.setIfInBounds_toArray, List.set_cons_succ, List.set_cons_zero]
  refine takeL (.bool true) rfl (by go_simp) ?_
  try simp only [Act.put, List.setIfInBounds_toArray, List.set_cons_succ, List.set_cons_zero]
  refine alloc_g zero32 rfl ?_
  intro wa hA hb hl
  try simp only [Act.put, List.setIfInBounds_toArray, List.set_cons_succ, List.set_cons_zero]
  refine alloc_g zero32 rfl ?_
  intro wb hA2 hb2 hl2
  try simp only [Act.put, List.setIfInBounds_toArray, List.set_cons_succ, List.set_cons_zero]
  have Vab := Lib.hid (hb.trans (hb2.mono hb.size))
  have V3 : Hid (Blk wb w80c.heap.size (u8s (zeros 32))) := Lib.hid (by simpa using hA.below hb2 hA.lt)
  have V4 : Hid (Blk wb wa.heap.size (u8s (zeros 32))) := Lib.hid (by simpa using hA2)
  have VN80 : Hid (w80c.heap.size ≠ wa.heap.size) := Lib.hid (Nat.ne_of_lt hl)
  have VG80 : Hid (w80c.heap.size ≤ wa.heap.size) := Lib.hid (Nat.le_of_lt hl)
  clear hA hb hl hA2 hb2 hl2
  generalize wa.heap.size = gb80 at *
  clear wa
  refine store_all (cs := (u8s (leaf a)).toArray) V3.out (by simp only [u8s_size, List.size_toArray, List.length_map, leaf_len, zeros_length]) (by rw [u8s_size, leaf_len]; exact info32) (u8s_one _) rfl rfl rfl ?_
  intro wt hD hO hlD
  try simp only [Act.put, List.setIfInBounds_toArray, List.set_cons_succ, List.set_cons_zero]
  have V3s : Hid (Blk wt w80c.heap.size (u8s (leaf a))) := Lib.hid (by simpa using hD)
  have V4s := Lib.hid (V4.out.only hO VN80.out.symm)
  have Vs := Lib.hid (Vab.out.trans (hO.below Vab.out.size fun k hk => Nat.le_of_eq hk.symm))
  clear V3 V4 Vab hD hO hlD
  have V4 := V4s
  clear V4s
  refine store_all (cs := (u8s (leaf a)).toArray) V4.out (by simp only [u8s_size, List.size_toArray, List.length_map, leaf_len, zeros_length]) (by rw [u8s_size, leaf_len]; exact info32) (u8s_one _) rfl rfl rfl ?_
  intro w80 hD hO hlD
  try simp only [Act.put, List.setIfInBounds_toArray, List.set_cons_succ, List.set_cons_zero]
  have VB80 : Hid (Blk w80 gb80 (u8s (leaf a))) := Lib.hid (by simpa using hD)
  have VA80 := Lib.hid (V3s.out.only hO VN80.out)
  have VE80 := Lib.hid (Vs.out.trans (hO.below Vs.out.size fun k hk => by rw [hk]; exact VG80.out))
  clear V3s V4 Vs hD hO hlD
  clear wt
  refine takeL (.bool true) rfl (by go_simp) ?_
  try simp only [Act.put, List.setIfInBounds_toArray, List.set_cons_succ, List.set_cons_zero]
  refine wpList_nil ?_
  have HX80 := Lib.hid (HX80c.out.below VE80.out HX80c.out.lt)
  clear HX80c
  have HZ80 : Hid (Fz w1 (fun q => q < w1.heap.size ∨ q = w80c.heap.size) w80 L (pg4 k a b true)) := Lib.hid (HZ80c.out.add (pok4t hk HA.out HB.out) VE80.out (fun q hq => .inl hq) (fun q hq => by
    have := VA80.out.lt
    rcases hq with hq | hq
    · exact .inl hq
    · exact .inr (by omega)))
  clear VB80 VE80 VN80 VG80 HZ80c
  generalize w80c.heap.size = g11 at *
  go_upto_region 9 with fail
  refine wp_region_lit ?_
  refine takeL (.pointer (some ⟨L.b, 0, none⟩)) rfl (by go_simp) ?_
  try simp only [Act.put, List.setIfInBounds_toArray, List.set_cons_succ, List.set_cons_zero]
  refine takeL (.int .i64 k) rfl (by go_simp) ?_
  try simp only [Act.put, List.setIfInBounds_toArray, List.set_cons_succ, List.set_cons_zero]
  refine wpList_op rfl fun K hK => ?_
  go_simp
  refine (pp8t hk HA.out HB.out HZ80.out).mono ?_
  rintro e w90c ⟨rfl, hb⟩
  have HX90c := Lib.hid (HX80.out.below hb HX80.out.lt)
  clear HX80
  have HZ90c := Lib.hid (HZ80.out.below hb)
  have VA90c := Lib.hid (VA80.out.below hb VA80.out.lt)
  clear hb VA80
  refine hK _ _ ?_
  clear hK K
  try simp only [Act.put, List.setIfInBounds_toArray, List.set_cons_succ, List.set_cons_zero]
  refine takeL (.tuple #[.agg (i64s (bm b)).toArray, .bool true]) rfl (by go_simp) ?_
  try simp only [Act.put, List.setIfInBounds_toArray, List.set_cons_succ, List.set_cons_zero]
  refine takeL (.agg (i64s (bm b)).toArray) rfl (by go_simp) ?_
  try simp only [Act.put, List.setIfInBounds_toArray, List.set_cons_succ, List.set_cons_zero]
  refine takeL (.bool true) rfl (by go_simp) ?_
  try simp only [Act.put, List.setIfInBounds_toArray, List.set_cons_succ, List.set_cons_zero]
  refine alloc_g zero49 rfl ?_
  intro wa hA hb hl
  try simp only [Act.put, List.setIfInBounds_toArray, List.set_cons_succ, List.set_cons_zero]
  refine store_all (cs := (i64s (bm b)).toArray) hA (by simp only [List.size_toArray, List.length_map, bm_len, zeros_length]) (by simp only [List.size_toArray, List.length_map, bm_len]; exact info49) (i64s_one _) rfl rfl rfl ?_
  intro w90 hD hO hlD
  try simp only [Act.put, List.setIfInBounds_toArray, List.set_cons_succ, List.set_cons_zero]
  have VA90 : Hid (Blk w90 w90c.heap.size (i64s (bm b))) := Lib.hid (by simpa using hD)
  have VE90 : Hid (Below w90c.heap.size w90c w90) := Lib.hid (hb.trans (hO.below hb.size fun k hk => Nat.le_of_eq hk.symm))
  clear hA hb hl hD hO hlD
  refine takeL (.bool true) rfl (by go_simp) ?_
  try simp only [Act.put, List.setIfInBounds_toArray, List.set_cons_succ, List.set_cons_zero]
  refine wpList_nil ?_
  have HX90 := Lib.hid (HX90c.out.below VE90.out HX90c.out.lt)
  clear HX90c
  have VP90 := Lib.hid (VA90c.out.below VE90.out VA90c.out.lt)
  have HZ90 : Hid (Fz w1 (fun q => q < w1.heap.size ∨ q = g11 ∨ q = w90c.heap.size) w90 L (pg4 k a b true)) := Lib.hid (HZ90c.out.add (pok4t hk HA.out HB.out) VE90.out (fun q hq => by rcases hq with hq | hq <;> simp [hq]) (fun q hq => by
    have := VA90.out.lt
    rcases hq with hq | hq | hq
    · exact .inl (.inl hq)
    · exact .inl (.inr hq)
    · exact .inr (by omega)))
  clear VE90 HZ90c VA90c
  generalize w90c.heap.size = g14 at *
  go_upto_region 10 with fail
  refine wp_region_lit ?_
  refine takeL (.pointer (some ⟨L.b, 0, none⟩)) rfl (by go_simp) ?_
  try simp only [Act.put, List.setIfInBounds_toArray, List.set_cons_succ, List.set_cons_zero]
  refine takeL (.int .i64 k) rfl (by go_simp) ?_
  try simp only [Act.put, List.setIfInBounds_toArray, List.set_cons_succ, List.set_cons_zero]
  refine wpList_op rfl fun K hK => ?_
  go_simp
  refine (pc9t hk HA.out HB.out HZ90.out).mono ?_
  rintro e wa0 ⟨rfl, hz, ho⟩
  have HXa0 := Lib.hid (HX90.out.only ho (fun q => q (.inl HBL.out)))
  clear HX90
  have VPa := Lib.hid (VP90.out.only ho (fun q => q (.inr (.inl rfl))))
  have VQa := Lib.hid (VA90.out.only ho (fun q => q (.inr (.inr rfl))))
  have HZa := Lib.hid hz
  clear hz ho VP90 VA90
  refine hK _ _ ?_
  clear hK K
  try simp only [Act.put, List.setIfInBounds_toArray, List.set_cons_succ, List.set_cons_zero]
  refine takeL (.bool false) rfl (by go_simp) ?_
  try simp only [Act.put, List.setIfInBounds_toArray, List.set_cons_succ, List.set_cons_zero]
  refine wpList_nil ?_
  go_upto_region 11 with fail
  refine startH (fun wq => Only (fun q => ¬ (q < w1.heap.size ∨ q = g11 ∨ q = g14)) wa0 wq) (by kernel_rfl) ?_
  refine takeH 0 (some 99) (.bool false) rfl rfl (by kernel_rfl) (by kernel_rfl) (by kernel_rfl) (fun _ _ _ h => h) rfl (fun wq hS => by go_simp) (Only.refl _ _).drew ?_
  try simp only [Act.put, List.setIfInBounds_toArray, List.set_cons_succ, List.set_cons_zero]
  refine takeH 1 (some 100) (.bool true) rfl rfl (by kernel_rfl) (by kernel_rfl) (by kernel_rfl) (fun _ _ _ h => h) rfl (fun wq hS => by go_simp) (Only.refl _ _).drew ?_
  try simp only [Act.put, List.setIfInBounds_toArray, List.set_cons_succ, List.set_cons_zero]
  refine takeH 2 (some 101) (.bool false) rfl rfl (by kernel_rfl) (by kernel_rfl) (by kernel_rfl) (fun _ _ _ h => h) rfl (fun wq hS => by go_simp) (Only.refl _ _).drew ?_
  try simp only [Act.put, List.setIfInBounds_toArray, List.set_cons_succ, List.set_cons_zero]
  refine takeH 3 (some 102) (.bool true) rfl rfl (by kernel_rfl) (by kernel_rfl) (by kernel_rfl) (fun _ _ _ h => h) rfl (fun wq hS => by go_simp) (Only.refl _ _).drew ?_
  try simp only [Act.put, List.setIfInBounds_toArray, List.set_cons_succ, List.set_cons_zero]
  refine takeH 4 (some 103) (.bool true) rfl rfl (by kernel_rfl) (by kernel_rfl) (by kernel_rfl) (fun _ _ _ h => h) rfl (fun wq hS => by go_simp) (Only.refl _ _).drew ?_
  try simp only [Act.put, List.setIfInBounds_toArray, List.set_cons_succ, List.set_cons_zero]
  refine takeH 5 (some 104) (.bool true) rfl rfl (by kernel_rfl) (by kernel_rfl) (by kernel_rfl) (fun _ _ _ h => h) rfl (fun wq hS => by go_simp) (Only.refl _ _).drew ?_
  try simp only [Act.put, List.setIfInBounds_toArray, List.set_cons_succ, List.set_cons_zero]
  refine takeH 6 (some 105) (.bool true) rfl rfl (by kernel_rfl) (by kernel_rfl) (by kernel_rfl) (fun _ _ _ h => h) rfl (fun wq hS => by go_simp) (Only.refl _ _).drew ?_
  try simp only [Act.put, List.setIfInBounds_toArray, List.set_cons_succ, List.set_cons_zero]
  refine takeH 7 (some 106) (.bool true) rfl rfl (by kernel_rfl) (by kernel_rfl) (by kernel_rfl) (fun _ _ _ h => h) rfl (fun wq hS => by go_simp) (Only.refl _ _).drew ?_
  try simp only [Act.put, List.setIfInBounds_toArray, List.set_cons_succ, List.set_cons_zero]
  refine takeH 8 (some 107) (.bool true) rfl rfl (by kernel_rfl) (by kernel_rfl) (by kernel_rfl) (fun _ _ _ h => h) rfl (fun wq hS => by go_simp) (Only.refl _ _).drew ?_
  try simp only [Act.put, List.setIfInBounds_toArray, List.set_cons_succ, List.set_cons_zero]
  refine takeH 9 (some 108) (.bool true) rfl rfl (by kernel_rfl) (by kernel_rfl) (by kernel_rfl) (fun _ _ _ h => h) rfl (fun wq hS => by go_simp) (Only.refl _ _).drew ?_
  try simp only [Act.put, List.setIfInBounds_toArray, List.set_cons_succ, List.set_cons_zero]
  refine takeH 10 (some 109) (.bool true) rfl rfl (by kernel_rfl) (by kernel_rfl) (by kernel_rfl) (fun _ _ _ h => h) rfl (fun wq hS => by go_simp) (Only.refl _ _).drew ?_
  try simp only [Act.put, List.setIfInBounds_toArray, List.set_cons_succ, List.set_cons_zero]
  refine takeH 11 (some 110) (.bool false) rfl rfl (by kernel_rfl) (by kernel_rfl) (by kernel_rfl) (fun _ _ _ h => h) rfl (fun wq hS => by go_simp) (Only.refl _ _).drew ?_
  try simp only [Act.put, List.setIfInBounds_toArray, List.set_cons_succ, List.set_cons_zero]
  refine takeH 12 (some 111) (.bool false) rfl rfl (by kernel_rfl) (by kernel_rfl) (by kernel_rfl) (fun _ _ _ h => h) rfl (fun wq hS => by go_simp) (Only.refl _ _).drew ?_
  try simp only [Act.put, List.setIfInBounds_toArray, List.set_cons_succ, List.set_cons_zero]
  refine takeH 13 (some 112) (.agg (u8s (leaf a)).toArray) rfl rfl (by kernel_rfl) (by kernel_rfl) (by kernel_rfl) (fun _ _ _ h => h) rfl (fun wq hS => by exact exec_load_at wq _ _ 32 _ rfl (g11) (0) rfl ((u8s (leaf a)).toArray) _ Tryd.underlying32 rfl (by rw [u8s_size, leaf_len]; exact info32) (Blk.all (VPa.out.only hS (fun q => q (.inr (.inl rfl)))) rfl)) (Only.refl _ _).drew ?_
  try simp only [Act.put, List.setIfInBounds_toArray, List.set_cons_succ, List.set_cons_zero]
  refine takeH 14 (some 113) (.pointer (some ⟨w.heap.size, 0, none⟩)) rfl rfl (by kernel_rfl) (by kernel_rfl) (by kernel_rfl) (fun _ _ _ h => h) rfl (fun wq hS => by go_simp) (Only.refl _ _).drew ?_
  try simp only [Act.put, List.setIfInBounds_toArray, List.set_cons_succ, List.set_cons_zero]
  refine takeH 15 (some 114) (.int .u8 a) rfl rfl (by kernel_rfl) (by kernel_rfl) (by kernel_rfl) (fun _ _ _ h => h) rfl (fun wq hS => by have hq := (HXa0.out.only hS (fun q => q (.inl HBL.out))).cell (i := 0) rfl; go_simp) (Only.refl _ _).drew ?_
  try simp only [Act.put, List.setIfInBounds_toArray, List.set_cons_succ, List.set_cons_zero]
  refine oneH 16 (by kernel_rfl) rfl rfl fun K hK => ?_
  go_simp
  refine (Leaf_any a _).mono ?_
  rintro e v1 ⟨rfl, hb⟩
  have T1 := Lib.hid ((((Below.refl (World.heap wa0).size wa0).drew)).trans (hb.mono (((Below.refl (World.heap wa0).size wa0).drew)).size))
  have HS1 : Hid (Only (fun q => ¬ (q < w1.heap.size ∨ q = g11 ∨ q = g14)) wa0 v1) := Lib.hid (Only.of_below T1.out)
  clear hb
  refine hK _ _ HS1.out ?_
  clear hK K
  try simp only [Act.put, List.setIfInBounds_toArray, List.set_cons_succ, List.set_cons_zero]
  refine takeH 17 (some 116) (.bool true) rfl rfl (by kernel_rfl) (by kernel_rfl) (by kernel_rfl) (fun _ _ _ h => h) rfl (fun wq hS => by exact exec_page (by rw [decide_eq_true rfl]) (leaf_len a) (leaf_len a) _ _ _ rfl rfl rfl) HS1.out ?_
  try simp only [Act.put, List.setIfInBounds_toArray, List.set_cons_succ, List.set_cons_zero]
  refine takeH 18 (some 117) (.bool true) rfl rfl (by kernel_rfl) (by kernel_rfl) (by kernel_rfl) (fun _ _ _ h => h) rfl (fun wq hS => by go_simp) HS1.out ?_
  try simp only [Act.put, List.setIfInBounds_toArray, List.set_cons_succ, List.set_cons_zero]
  refine takeH 19 (some 118) (.bool true) rfl rfl (by kernel_rfl) (by kernel_rfl) (by kernel_rfl) (fun _ _ _ h => h) rfl (fun wq hS => by go_simp) HS1.out ?_
  try simp only [Act.put, List.setIfInBounds_toArray, List.set_cons_succ, List.set_cons_zero]
  refine takeH 20 (some 119) (.bool true) rfl rfl (by kernel_rfl) (by kernel_rfl) (by kernel_rfl) (fun _ _ _ h => h) rfl (fun wq hS => by go_simp) HS1.out ?_
  try simp only [Act.put, List.setIfInBounds_toArray, List.set_cons_succ, List.set_cons_zero]
  refine takeH 21 (some 120) (.bool true) rfl rfl (by kernel_rfl) (by kernel_rfl) (by kernel_rfl) (fun _ _ _ h => h) rfl (fun wq hS => by go_simp) HS1.out ?_
  try simp only [Act.put, List.setIfInBounds_toArray, List.set_cons_succ, List.set_cons_zero]
  refine takeH 22 (some 121) (.bool true) rfl rfl (by kernel_rfl) (by kernel_rfl) (by kernel_rfl) (fun _ _ _ h => h) rfl (fun wq hS => by go_simp) HS1.out ?_
  try simp only [Act.put, List.setIfInBounds_toArray, List.set_cons_succ, List.set_cons_zero]
  refine takeH 23 (some 122) (.bool true) rfl rfl (by kernel_rfl) (by kernel_rfl) (by kernel_rfl) (fun _ _ _ h => h) rfl (fun wq hS => by go_simp) HS1.out ?_
  try simp only [Act.put, List.setIfInBounds_toArray, List.set_cons_succ, List.set_cons_zero]
  refine takeH 24 (some 123) (.pointer (some ⟨g14, 0, none⟩)) rfl rfl (by kernel_rfl) (by kernel_rfl) (by kernel_rfl) (fun _ _ _ h => h) rfl (fun wq hS => by go_simp) HS1.out ?_
  try simp only [Act.put, List.setIfInBounds_toArray, List.set_cons_succ, List.set_cons_zero]
  refine takeH 25 (some 124) (.int .i64 b) rfl rfl (by kernel_rfl) (by kernel_rfl) (by kernel_rfl) (fun _ _ _ h => h) rfl (fun wq hS => by have hq := (VQa.out.only hS (fun q => q (.inr (.inr rfl)))).cell (i := 0) (v := .int .i64 b) rfl; go_simp) HS1.out ?_
  try simp only [Act.put, List.setIfInBounds_toArray, List.set_cons_succ, List.set_cons_zero]
  refine takeH 26 (some 125) (.pointer (some ⟨w.heap.size, 1, none⟩)) rfl rfl (by kernel_rfl) (by kernel_rfl) (by kernel_rfl) (fun _ _ _ h => h) rfl (fun wq hS => by go_simp) HS1.out ?_
  try simp only [Act.put, List.setIfInBounds_toArray, List.set_cons_succ, List.set_cons_zero]
  refine takeH 27 (some 126) (.int .u8 b) rfl rfl (by kernel_rfl) (by kernel_rfl) (by kernel_rfl) (fun _ _ _ h => h) rfl (fun wq hS => by have hq := (HXa0.out.only hS (fun q => q (.inl HBL.out))).cell (i := 1) rfl; go_simp) HS1.out ?_
  try simp only [Act.put, List.setIfInBounds_toArray, List.set_cons_succ, List.set_cons_zero]
  refine takeH 28 (some 127) (.int .i64 b) rfl rfl (by kernel_rfl) (by kernel_rfl) (by kernel_rfl) (fun _ _ _ h => h) rfl (fun wq hS => by go_simp; exact Kl.wrap63 (by omega) (by omega)) HS1.out ?_
  try simp only [Act.put, List.setIfInBounds_toArray, List.set_cons_succ, List.set_cons_zero]
  refine takeH 29 (some 128) (.bool true) rfl rfl (by kernel_rfl) (by kernel_rfl) (by kernel_rfl) (fun _ _ _ h => h) rfl (fun wq hS => by go_simp) HS1.out ?_
  try simp only [Act.put, List.setIfInBounds_toArray, List.set_cons_succ, List.set_cons_zero]
  refine takeH 30 (some 129) (.bool true) rfl rfl (by kernel_rfl) (by kernel_rfl) (by kernel_rfl) (fun _ _ _ h => h) rfl (fun wq hS => by go_simp) HS1.out ?_
  try simp only [Act.put, List.setIfInBounds_toArray, List.set_cons_succ, List.set_cons_zero]
  refine takeH 31 (some 130) (.bool true) rfl rfl (by kernel_rfl) (by kernel_rfl) (by kernel_rfl) (fun _ _ _ h => h) rfl (fun wq hS => by go_simp) HS1.out ?_
  try simp only [Act.put, List.setIfInBounds_toArray, List.set_cons_succ, List.set_cons_zero]
  refine takeH 32 (some 131) (.bool false) rfl rfl (by kernel_rfl) (by kernel_rfl) (by kernel_rfl) (fun _ _ _ h => h) rfl (fun wq hS => by go_simp) HS1.out ?_
  try simp only [Act.put, List.setIfInBounds_toArray, List.set_cons_succ, List.set_cons_zero]
  refine takeH 33 (some 132) (.bool true) rfl rfl (by kernel_rfl) (by kernel_rfl) (by kernel_rfl) (fun _ _ _ h => h) rfl (fun wq hS => by go_simp) HS1.out ?_
  try simp only [Act.put, List.setIfInBounds_toArray, List.set_cons_succ, List.set_cons_zero]
  refine takeH 34 (some 133) (.bool true) rfl rfl (by kernel_rfl) (by kernel_rfl) (by kernel_rfl) (fun _ _ _ h => h) rfl (fun wq hS => by go_simp) HS1.out ?_
  try simp only [Act.put, List.setIfInBounds_toArray, List.set_cons_succ, List.set_cons_zero]
  refine takeH 35 (some 134) (.bool true) rfl rfl (by kernel_rfl) (by kernel_rfl) (by kernel_rfl) (fun _ _ _ h => h) rfl (fun wq hS => by go_simp) HS1.out ?_
  try simp only [Act.put, List.setIfInBounds_toArray, List.set_cons_succ, List.set_cons_zero]
  refine takeH 36 (some 135) (.pointer (some ⟨L.b, 0, none⟩)) rfl rfl (by kernel_rfl) (by kernel_rfl) (by kernel_rfl) (fun _ _ _ h => h) rfl (fun wq hS => by go_simp) HS1.out ?_
  try simp only [Act.put, List.setIfInBounds_toArray, List.set_cons_succ, List.set_cons_zero]
  refine takeH 37 (some 136) (.int .i64 k) rfl rfl (by kernel_rfl) (by kernel_rfl) (by kernel_rfl) (fun _ _ _ h => h) rfl (fun wq hS => by go_simp) HS1.out ?_
  try simp only [Act.put, List.setIfInBounds_toArray, List.set_cons_succ, List.set_cons_zero]
  refine takeH 38 (some 137) (.int .i64 (64 + (k : Int))) rfl rfl (by kernel_rfl) (by kernel_rfl) (by kernel_rfl) (fun _ _ _ h => h) rfl (fun wq hS => by go_simp; exact Kl.wrap63 (by omega) (by omega)) HS1.out ?_
  try simp only [Act.put, List.setIfInBounds_toArray, List.set_cons_succ, List.set_cons_zero]
  refine oneH 39 (by kernel_rfl) rfl rfl fun K hK => ?_
  go_simp
  refine (pc10t hk HA.out HB.out (HZa.out.below (T1.out))).mono ?_
  rintro e v2 ⟨rfl, hz, ho⟩
  have HZf := Lib.hid hz
  have HS2 := Lib.hid ((HS1.out).trans ho)
  clear hz ho
  refine hK _ _ HS2.out ?_
  clear hK K
  try simp only [Act.put, List.setIfInBounds_toArray, List.set_cons_succ, List.set_cons_zero]
  refine takeH 40 (some 139) (.bool true) rfl rfl (by kernel_rfl) (by kernel_rfl) (by kernel_rfl) (fun _ _ _ h => h) rfl (fun wq hS => by go_simp) HS2.out ?_
  try simp only [Act.put, List.setIfInBounds_toArray, List.set_cons_succ, List.set_cons_zero]
  refine takeH 41 (some 140) (.bool true) rfl rfl (by kernel_rfl) (by kernel_rfl) (by kernel_rfl) (fun _ _ _ h => h) rfl (fun wq hS => by go_simp) HS2.out ?_
  try simp only [Act.put, List.setIfInBounds_toArray, List.set_cons_succ, List.set_cons_zero]
  refine oneH 42 (by kernel_rfl) rfl rfl fun K hK => ?_
  go_simp
  refine (wakes_any _ (HZf.out.ev HEV1.out)).mono ?_
  rintro e v3 ⟨rfl, hb⟩
  have HBz := Lib.hid (stay HZf.out.bel hb)
  have HS3 : Hid (Only (fun q => ¬ (q < w1.heap.size ∨ q = g11 ∨ q = g14)) wa0 v3) := Lib.hid ((HS2.out).trans (Only.of_below hb))
  clear hb
  refine hK _ _ HS3.out ?_
  clear hK K
  try simp only [Act.put, List.setIfInBounds_toArray, List.set_cons_succ, List.set_cons_zero]
  refine takeH 43 (some 142) (.bool true) rfl rfl (by kernel_rfl) (by kernel_rfl) (by kernel_rfl) (fun _ _ _ h => h) rfl (fun wq hS => by go_simp) HS3.out ?_
  try simp only [Act.put, List.setIfInBounds_toArray, List.set_cons_succ, List.set_cons_zero]
  refine takeH 44 (some 6) (.bool true) rfl rfl (by kernel_rfl) (by kernel_rfl) (by kernel_rfl) (fun _ _ _ h => h) rfl (fun wq hS => by go_simp) HS3.out ?_
  try simp only [Act.put, List.setIfInBounds_toArray, List.set_cons_succ, List.set_cons_zero]
  refine wpAnyH_done (by kernel_rfl) ?_ _
  go_wp2_with fail
  go_ret
  exact ⟨rfl, HBA.out.trans (HBz.out.mono HBA.out.size)⟩

set_option maxRecDepth 100000 in
set_option maxHeartbeats 2000000 in
theorem pages_false (w : World) (id a b : Int) (hid : Byte id) (ha : Byte a) (hb : Byte b) (hev : ErrVar w) : Calls Tryd.prog 5 #[.int .u8 id, .agg #[.int .u8 a, .int .u8 b], .bool false] w fun e w' => e = .returned (.bool true) ∧ Below w.heap.size w w' := by
  obtain ⟨k, hk, hkid⟩ : ∃ k : Nat, k < 8 ∧ id.tmod 8 = (k : Int) := by
    have h0 := hid.1
    have h1 := Int.tmod_nonneg 8 h0
    have h2 := Int.tmod_lt_of_pos id (by decide : (0 : Int) < 8)
    exact ⟨(id.tmod 8).toNat, by omega, by omega⟩
  have hid0 := hid.1
  have hid1 := hid.2
  have ha0 := ha.1
  have ha1 := ha.2
  have hb0 := hb.1
  have hb1 := hb.2
  have HA := Lib.hid ha
  have HB := Lib.hid hb
  have HRM : Hid (((k : Int) + 1).tmod 8 = (((k + 1) % 8 : Nat) : Int)) := Lib.hid (by
    rw [Int.tmod_eq_emod_of_nonneg (by omega)]
    omega)
  have HZ32 := Lib.hid (zeros_length 32)
  have HEV1 := Lib.hid (hev.below (Nat.le_refl _) (Kl.alloc_below w (.cells #[.int .u8 a, .int .u8 b] 55)))
  have HX1 : Hid (Blk (w.alloc (.cells #[.int .u8 a, .int .u8 b] 55)) w.heap.size [.int .u8 a, .int .u8 b]) := Lib.hid (Kl.Blk.newAt _ _ _ rfl rfl)
  have HBA := Lib.hid (Kl.alloc_below w (.cells #[.int .u8 a, .int .u8 b] 55))
  have HN := Lib.hid (fz_new (w.alloc (.cells #[.int .u8 a, .int .u8 b] 55)) 3 (by decide) (by decide))
  clear hid ha hb hev
  go_enter Tryd.func5, Tryd.ntmps5
  go_wp2_with fail
  refine HN.out.mono ?_
  rintro e w2 ⟨L, rfl, hz, hb⟩
  have HX2 := Lib.hid (HX1.out.below hb HX1.out.lt)
  have HBL0 := HX1.out.lt
  obtain ⟨w1, hw1⟩ : ∃ u, w.alloc (.cells #[.int .u8 a, .int .u8 b] 55) = u := ⟨_, rfl⟩
  rw [hw1] at hz HEV1 HBA HBL0
  have HBL : Hid (w.heap.size < w1.heap.size) := Lib.hid HBL0
  have HBG : Hid (w.heap.size < w1.heap.size) := Lib.hid HBL0
  have HZ2 : Hid (Fz w1 (fun q => q < w1.heap.size) w2 L (newFs 3)) := Lib.hid hz
  clear hz hb HX1 HN hw1 HBL0
  go_upto_region 3 with fail
  refine wp_region_lit ?_
  refine takeL (.int .i64 0) rfl (by go_simp) ?_
  try simp only [Act.put, List.setIfInBounds_toArray, List.set_cons_succ, List.set_cons_zero]
  refine takeL (.bool false) rfl (by go_simp) ?_
  try simp only [Act.put, List.setIfInBounds_toArray, List.set_cons_succ, List.set_cons_zero]
  refine takeL (.bool false) rfl (by go_simp) ?_
  try simp only [Act.put, List.setIfInBounds_toArray, List.set_cons_succ, List.set_cons_zero]
  refine takeL (.pointer (some ⟨L.b, 0, none⟩)) rfl (by go_simp) ?_
  try simp only [Act.put, List.setIfInBounds_toArray, List.set_cons_succ, List.set_cons_zero]
  refine takeL (.bool false) rfl (by go_simp) ?_
  try simp only [Act.put, List.setIfInBounds_toArray, List.set_cons_succ, List.set_cons_zero]
  refine takeL (.bool false) rfl (by go_simp) ?_
  try simp only [Act.put, List.setIfInBounds_toArray, List.set_cons_succ, List.set_cons_zero]
  refine takeL (.bool false) rfl (by go_simp) ?_
  try simp only [Act.put, List.setIfInBounds_toArray, List.set_cons_succ, List.set_cons_zero]
  refine takeL (.pointer (some ⟨L.b, 0, none⟩)) rfl (by go_simp) ?_
  try simp only [Act.put, List.setIfInBounds_toArray, List.set_cons_succ, List.set_cons_zero]
  refine wpList_op rfl fun K hK => ?_
  go_simp
  refine (fz_clock HZ2.out).mono ?_
  rintro e w3 ⟨rfl, rfl⟩
  refine hK _ _ ?_
  clear hK K
  try simp only [Act.put, List.setIfInBounds_toArray, List.set_cons_succ, List.set_cons_zero]
  refine takeL (.bool false) rfl (by go_simp) ?_
  try simp only [Act.put, List.setIfInBounds_toArray, List.set_cons_succ, List.set_cons_zero]
  refine takeL (.bool false) rfl (by go_simp) ?_
  try simp only [Act.put, List.setIfInBounds_toArray, List.set_cons_succ, List.set_cons_zero]
  refine takeL (.bool false) rfl (by go_simp) ?_
  try simp only [Act.put, List.setIfInBounds_toArray, List.set_cons_succ, List.set_cons_zero]
  refine takeL (.pointer (some ⟨L.b, 0, none⟩)) rfl (by go_simp) ?_
  try simp only [Act.put, List.setIfInBounds_toArray, List.set_cons_succ, List.set_cons_zero]
  refine takeL (.int .i64 k) rfl (by go_simp) ?_
  try simp only [Act.put, List.setIfInBounds_toArray, List.set_cons_succ, List.set_cons_zero]
  refine takeL (.pointer (some ⟨w.heap.size, 0, none⟩)) rfl (by go_simp) ?_
  try simp only [Act.put, List.setIfInBounds_toArray, List.set_cons_succ, List.set_cons_zero]
  refine takeL (.int .u8 a) rfl (by have hq := HX2.out.cell (i := 0) rfl; go_simp) ?_
  try simp only [Act.put, List.setIfInBounds_toArray, List.set_cons_succ, List.set_cons_zero]
  refine wpList_op rfl fun K hK => ?_
  go_simp
  refine (Leaf_any a _).mono ?_
  rintro e w4 ⟨rfl, hb⟩
  have HX4 := Lib.hid (HX2.out.below hb HX2.out.lt)
  clear HX2
  have HZ4 := Lib.hid (HZ2.out.below hb)
  clear hb
  refine hK _ _ ?_
  clear hK K
  try simp only [Act.put, List.setIfInBounds_toArray, List.set_cons_succ, List.set_cons_zero]
  refine wpList_op rfl fun K hK => ?_
  go_simp
  refine (pc1 hk HA.out HB.out HZ4.out).mono ?_
  rintro e w5 ⟨rfl, hz, ho⟩
  have HX5 := Lib.hid (HX4.out.only ho (fun q => q HBG.out))
  clear HX4
  have HZ5 := Lib.hid hz
  clear hz ho
  refine hK _ _ ?_
  clear hK K
  try simp only [Act.put, List.setIfInBounds_toArray, List.set_cons_succ, List.set_cons_zero]
  refine takeL (.bool false) rfl (by go_simp) ?_
  try simp only [Act.put, List.setIfInBounds_toArray, List.set_cons_succ, List.set_cons_zero]
  refine takeL (.bool false) rfl (by go_simp) ?_
  try simp only [Act.put, List.setIfInBounds_toArray, List.set_cons_succ, List.set_cons_zero]
  refine takeL (.bool false) rfl (by go_simp) ?_
  try simp only [Act.put, List.setIfInBounds_toArray, List.set_cons_succ, List.set_cons_zero]
  refine takeL (.pointer (some ⟨L.b, 0, none⟩)) rfl (by go_simp) ?_
  try simp only [Act.put, List.setIfInBounds_toArray, List.set_cons_succ, List.set_cons_zero]
  refine takeL (.int .i64 k) rfl (by go_simp) ?_
  try simp only [Act.put, List.setIfInBounds_toArray, List.set_cons_succ, List.set_cons_zero]
  refine takeL (.pointer (some ⟨w.heap.size, 1, none⟩)) rfl (by go_simp) ?_
  try simp only [Act.put, List.setIfInBounds_toArray, List.set_cons_succ, List.set_cons_zero]
  refine takeL (.int .u8 b) rfl (by have hq := HX5.out.cell (i := 1) rfl; go_simp) ?_
  try simp only [Act.put, List.setIfInBounds_toArray, List.set_cons_succ, List.set_cons_zero]
  refine wpList_op rfl fun K hK => ?_
  go_simp
  refine (Leaf_any b _).mono ?_
  rintro e w6 ⟨rfl, hb⟩
  have HX6 := Lib.hid (HX5.out.below hb HX5.out.lt)
  clear HX5
  have HZ6 := Lib.hid (HZ5.out.below hb)
  clear hb
  refine hK _ _ ?_
  clear hK K
  try simp only [Act.put, List.setIfInBounds_toArray, List.set_cons_succ, List.set_cons_zero]
  refine wpList_op rfl fun K hK => ?_
  go_simp
  refine (pc2 hk HA.out HB.out HZ6.out).mono ?_
  rintro e w7 ⟨rfl, hz, ho⟩
  have HX7 := Lib.hid (HX6.out.only ho (fun q => q HBG.out))
  clear HX6
  have HZ7 := Lib.hid hz
  clear hz ho
  refine hK _ _ ?_
  clear hK K
  try simp only [Act.put, List.setIfInBounds_toArray, List.set_cons_succ, List.set_cons_zero]
  refine takeL (.bool false) rfl (by go_simp) ?_
  try simp only [Act.put, List.setIfInBounds_toArray, List.set_cons_succ, List.set_cons_zero]
  refine takeL (.bool false) rfl (by go_simp) ?_
  try simp only [Act.put, List.setIfInBounds_toArray, List.set_cons_succ, List.set_cons_zero]
  refine takeL (.pointer (some ⟨L.b, 0, none⟩)) rfl (by go_simp) ?_
  try simp only [Act.put, List.setIfInBounds_toArray, List.set_cons_succ, List.set_cons_zero]
  refine takeL (.int .i64 k) rfl (by go_simp) ?_
  try simp only [Act.put, List.setIfInBounds_toArray, List.set_cons_succ, List.set_cons_zero]
  refine takeL (.pointer (some ⟨w.heap.size, 1, none⟩)) rfl (by go_simp) ?_
  try simp only [Act.put, List.setIfInBounds_toArray, List.set_cons_succ, List.set_cons_zero]
  refine takeL (.int .u8 b) rfl (by have hq := HX7.out.cell (i := 1) rfl; go_simp) ?_
  try simp only [Act.put, List.setIfInBounds_toArray, List.set_cons_succ, List.set_cons_zero]
  refine takeL (.int .i64 b) rfl (by go_simp; exact Kl.wrap63 (by omega) (by omega)) ?_
  try simp only [Act.put, List.setIfInBounds_toArray, List.set_cons_succ, List.set_cons_zero]
  refine takeL (.agg (i64s (bm b)).toArray) rfl (by exact exec_build _ _ _ _ 49 _ rfl #[(0, .int .i64 b)] (by simp only [List.map_toArray, List.map_cons, List.map_nil]; rfl) _ (run_build _ 49 _ _ (builtB b))) ?_
  try simp only [Act.put, List.setIfInBounds_toArray, List.set_cons_succ, List.set_cons_zero]
  refine wpList_op rfl fun K hK => ?_
  go_simp
  refine (pc3 hk HA.out HB.out HZ7.out).mono ?_
  rintro e w8 ⟨rfl, hz, ho⟩
  have HX8 := Lib.hid (HX7.out.only ho (fun q => q HBG.out))
  clear HX7
  have HZ8 := Lib.hid hz
  clear hz ho
  refine hK _ _ ?_
  clear hK K
  try simp only [Act.put, List.setIfInBounds_toArray, List.set_cons_succ, List.set_cons_zero]
  refine takeL (.bool false) rfl (by go_simp) ?_
  try simp only [Act.put, List.setIfInBounds_toArray, List.set_cons_succ, List.set_cons_zero]
  refine takeL (.bool false) rfl (by go_simp) ?_
  try simp only [Act.put, List.setIfInBounds_toArray, List.set_cons_succ, List.set_cons_zero]
  refine takeL (.bool false) rfl (by go_simp) ?_
  try simp only [Act.put, List.setIfInBounds_toArray, List.set_cons_succ, List.set_cons_zero]
  refine takeL (.pointer (some ⟨L.b, 0, none⟩)) rfl (by go_simp) ?_
  try simp only [Act.put, List.setIfInBounds_toArray, List.set_cons_succ, List.set_cons_zero]
  refine takeL (.int .i64 k) rfl (by go_simp) ?_
  try simp only [Act.put, List.setIfInBounds_toArray, List.set_cons_succ, List.set_cons_zero]
  refine build_g (build49 _) rfl ?_
  try simp only [Act.put, List.setIfInBounds_toArray, List.set_cons_succ, List.set_cons_zero]
  refine wpList_op rfl fun K hK => ?_
  go_simp
  refine (pc4 hk HA.out HB.out HZ8.out).mono ?_
  rintro e w9 ⟨rfl, hz, ho⟩
  have HX9 := Lib.hid (HX8.out.only ho (fun q => q HBG.out))
  clear HX8
  have HZ9 := Lib.hid hz
  clear hz ho
  refine hK _ _ ?_
  clear hK K
  try simp only [Act.put, List.setIfInBounds_toArray, List.set_cons_succ, List.set_cons_zero]
  refine takeL (.bool false) rfl (by go_simp) ?_
  try simp only [Act.put, List.setIfInBounds_toArray, List.set_cons_succ, List.set_cons_zero]
  refine wpList_nil ?_
  have HZ50 : Hid (Fz w1 (fun q => q < w1.heap.size) w9 L (pg3 k a b false)) := HZ9
  go_upto_region 7 with fail
  refine wp_region_lit ?_
  refine takeL (.pointer (some ⟨L.b, 0, none⟩)) rfl (by go_simp) ?_
  try simp only [Act.put, List.setIfInBounds_toArray, List.set_cons_succ, List.set_cons_zero]
  refine takeL (.int .i64 k) rfl (by go_simp) ?_
  try simp only [Act.put, List.setIfInBounds_toArray, List.set_cons_succ, List.set_cons_zero]
  refine takeL (.int .i64 ((k : Int) + 1)) rfl (by go_simp; exact Kl.wrap63 (by omega) (by omega)) ?_
  try simp only [Act.put, List.setIfInBounds_toArray, List.set_cons_succ, List.set_cons_zero]
  refine takeL (.int .i64 (((k + 1) % 8 : Nat) : Int)) rfl (by have hq := HRM.out; go_simp) ?_
  try simp only [Act.put, List.setIfInBounds_toArray, List.set_cons_succ, List.set_cons_zero]
  refine takeL (.pointer (some ⟨w.heap.size, 1, none⟩)) rfl (by go_simp) ?_
  try simp only [Act.put, List.setIfInBounds_toArray, List.set_cons_succ, List.set_cons_zero]
  refine takeL (.int .u8 b) rfl (by have hq := HX9.out.cell (i := 1) rfl; go_simp) ?_
  try simp only [Act.put, List.setIfInBounds_toArray, List.set_cons_succ, List.set_cons_zero]
  refine wpList_op rfl fun K hK => ?_
  go_simp
  refine (Leaf_any b _).mono ?_
  rintro e w10 ⟨rfl, hb⟩
  have HX10 := Lib.hid (HX9.out.below hb HX9.out.lt)
  clear HX9
  have HZ10 := Lib.hid (HZ50.out.below hb)
  clear hb
  refine hK _ _ ?_
  clear hK K
  try simp only [Act.put, List.setIfInBounds_toArray, List.set_cons_succ, List.set_cons_zero]
  refine wpList_op rfl fun K hK => ?_
  go_simp
  refine (pc6f hk HA.out HB.out HZ10.out).mono ?_
  rintro e w11 ⟨rfl, hz, ho⟩
  have HX11 := Lib.hid (HX10.out.only ho (fun q => q HBG.out))
  clear HX10
  have HZ11 := Lib.hid hz
  clear hz ho
  refine hK _ _ ?_
  clear hK K
  try simp only [Act.put, List.setIfInBounds_toArray, List.set_cons_succ, List.set_cons_zero]
  refine takeL (.bool true) rfl (by go_simp) ?_
  try simp only [Act.put, List.setIfInBounds_toArray, List.set_cons_succ, List.set_cons_zero]
  refine wpList_nil ?_
  go_upto_region 8 with fail
  refine wp_region_lit ?_
  refine takeL (.pointer (some ⟨L.b, 0, none⟩)) rfl (by go_simp) ?_
  try simp only [Act.put, List.setIfInBounds_toArray, List.set_cons_succ, List.set_cons_zero]
  refine takeL (.int .i64 k) rfl (by go_simp) ?_
  try simp only [Act.put, List.setIfInBounds_toArray, List.set_cons_succ, List.set_cons_zero]
  refine wpList_op rfl fun K hK => ?_
  go_simp
  refine (pp7f hk HA.out HB.out HZ11.out).mono ?_
  rintro e w80c ⟨rfl, hb⟩
  have HX80c := Lib.hid (HX11.out.below hb HX11.out.lt)
  clear HX11
  have HZ80c := Lib.hid (HZ11.out.below hb)
  clear hb
  refine hK _ _ ?_
  clear hK K
  try simp only [Act.put, List.setIfInBounds_toArray, List.set_cons_succ, List.set_cons_zero]
  refine takeL (.tuple #[.agg (u8s (zeros 32)).toArray, .agg (u8s (zeros 32)).toArray, .bool false]) rfl (by go_simp) ?_
  try simp only [Act.put, List.setIfInBounds_toArray, List.set_cons_succ, List.set_cons_zero]
  refine takeL (.agg (u8s (zeros 32)).toArray) rfl (by go_simp) ?_
  try simp only [Act.put, List.setIfInBounds_toArray, List.set_cons_succ, List.set_cons_zero]
  refine takeL (.agg (u8s (zeros 32)).toArray) rfl (by go_simp) ?_
  try simp only [Act.put, List.setIfInBounds_toArray, List.set_cons_succ, List.set_cons_zero]
  refine takeL (.bool false) rfl (by go_simp) ?_
  try simp only [Act.put, List.setIfInBounds_toArray, List.set_cons_succ, List.set_cons_zero]
  refine alloc_g zero32 rfl ?_
  intro wa hA hb hl
  try simp only [Act.put, List.setIfInBounds_toArray, List.set_cons_succ, List.set_cons_zero]
  refine alloc_g zero32 rfl ?_
  intro wb hA2 hb2 hl2
  try simp only [Act.put, List.setIfInBounds_toArray, List.set_cons_succ, List.set_cons_zero]
  have Vab := Lib.hid (hb.trans (hb2.mono hb.size))
  have V3 : Hid (Blk wb w80c.heap.size (u8s (zeros 32))) := Lib.hid (by simpa using hA.below hb2 hA.lt)
  have V4 : Hid (Blk wb wa.heap.size (u8s (zeros 32))) := Lib.hid (by simpa using hA2)
  have VN80 : Hid (w80c.heap.size ≠ wa.heap.size) := Lib.hid (Nat.ne_of_lt hl)
  have VG80 : Hid (w80c.heap.size ≤ wa.heap.size) := Lib.hid (Nat.le_of_lt hl)
  clear hA hb hl hA2 hb2 hl2
  generalize wa.heap.size = gb80 at *
  clear wa
  refine store_all (cs := (u8s (zeros 32)).toArray) V3.out (by simp only [u8s_size, List.size_toArray, List.length_map, zeros_length, zeros_length]) (by rw [u8s_size, zeros_length]; exact info32) (u8s_one _) rfl rfl rfl ?_
  intro wt hD hO hlD
  try simp only [Act.put, List.setIfInBounds_toArray, List.set_cons_succ, List.set_cons_zero]
  have V3s : Hid (Blk wt w80c.heap.size (u8s (zeros 32))) := Lib.hid (by simpa using hD)
  have V4s := Lib.hid (V4.out.only hO VN80.out.symm)
  have Vs := Lib.hid (Vab.out.trans (hO.below Vab.out.size fun k hk => Nat.le_of_eq hk.symm))
  clear V3 V4 Vab hD hO hlD
  have V4 := V4s
  clear V4s
  refine store_all (cs := (u8s (zeros 32)).toArray) V4.out (by simp only [u8s_size, List.size_toArray, List.length_map, zeros_length, zeros_length]) (by rw [u8s_size, zeros_length]; exact info32) (u8s_one _) rfl rfl rfl ?_
  intro w80 hD hO hlD
  try simp only [Act.put, List.setIfInBounds_toArray, List.set_cons_succ, List.set_cons_zero]
  have VB80 : Hid (Blk w80 gb80 (u8s (zeros 32))) := Lib.hid (by simpa using hD)
  have VA80 := Lib.hid (V3s.out.only hO VN80.out)
  have VE80 := Lib.hid (Vs.out.trans (hO.below Vs.out.size fun k hk => by rw [hk]; exact VG80.out))
  clear V3s V4 Vs hD hO hlD
  clear wt
  refine takeL (.bool false) rfl (by go_simp) ?_
  try simp only [Act.put, List.setIfInBounds_toArray, List.set_cons_succ, List.set_cons_zero]
  refine wpList_nil ?_
  have HX80 := Lib.hid (HX80c.out.below VE80.out HX80c.out.lt)
  clear HX80c
  have HZ80 : Hid (Fz w1 (fun q => q < w1.heap.size ∨ q = w80c.heap.size) w80 L (pg4 k a b false)) := Lib.hid (HZ80c.out.add (pok4f hk HA.out HB.out) VE80.out (fun q hq => .inl hq) (fun q hq => by
    have := VA80.out.lt
    rcases hq with hq | hq
    · exact .inl hq
    · exact .inr (by omega)))
  clear VB80 VE80 VN80 VG80 HZ80c
  generalize w80c.heap.size = g11 at *
  go_upto_region 9 with fail
  refine wp_region_lit ?_
  refine takeL (.pointer (some ⟨L.b, 0, none⟩)) rfl (by go_simp) ?_
  try simp only [Act.put, List.setIfInBounds_toArray, List.set_cons_succ, List.set_cons_zero]
  refine takeL (.int .i64 k) rfl (by go_simp) ?_
  try simp only [Act.put, List.setIfInBounds_toArray, List.set_cons_succ, List.set_cons_zero]
  refine wpList_op rfl fun K hK => ?_
  go_simp
  refine (pp8f hk HA.out HB.out HZ80.out).mono ?_
  rintro e w90c ⟨rfl, hb⟩
  have HX90c := Lib.hid (HX80.out.below hb HX80.out.lt)
  clear HX80
  have HZ90c := Lib.hid (HZ80.out.below hb)
  have VA90c := Lib.hid (VA80.out.below hb VA80.out.lt)
  clear hb VA80
  refine hK _ _ ?_
  clear hK K
  try simp only [Act.put, List.setIfInBounds_toArray, List.set_cons_succ, List.set_cons_zero]
  refine takeL (.tuple #[.agg (i64s (bm b)).toArray, .bool true]) rfl (by go_simp) ?_
  try simp only [Act.put, List.setIfInBounds_toArray, List.set_cons_succ, List.set_cons_zero]
  refine takeL (.agg (i64s (bm b)).toArray) rfl (by go_simp) ?_
  try simp only [Act.put, List.setIfInBounds_toArray, List.set_cons_succ, List.set_cons_zero]
  refine takeL (.bool true) rfl (by go_simp) ?_
  try simp only [Act.put, List.setIfInBounds_toArray, List.set_cons_succ, List.set_cons_zero]
  refine alloc_g zero49 rfl ?_
  intro wa hA hb hl
  try simp only [Act.put, List.setIfInBounds_toArray, List.set_cons_succ, List.set_cons_zero]
  refine store_all (cs := (i64s (bm b)).toArray) hA (by simp only [List.size_toArray, List.length_map, bm_len, zeros_length]) (by simp only [List.size_toArray, List.length_map, bm_len]; exact info49) (i64s_one _) rfl rfl rfl ?_
  intro w90 hD hO hlD
  try simp only [Act.put, List.setIfInBounds_toArray, List.set_cons_succ, List.set_cons_zero]
  have VA90 : Hid (Blk w90 w90c.heap.size (i64s (bm b))) := Lib.hid (by simpa using hD)
  have VE90 : Hid (Below w90c.heap.size w90c w90) := Lib.hid (hb.trans (hO.below hb.size fun k hk => Nat.le_of_eq hk.symm))
  clear hA hb hl hD hO hlD
  refine takeL (.bool true) rfl (by go_simp) ?_
  try simp only [Act.put, List.setIfInBounds_toArray, List.set_cons_succ, List.set_cons_zero]
  refine wpList_nil ?_
  have HX90 := Lib.hid (HX90c.out.below VE90.out HX90c.out.lt)
  clear HX90c
  have VP90 := Lib.hid (VA90c.out.below VE90.out VA90c.out.lt)
  have HZ90 : Hid (Fz w1 (fun q => q < w1.heap.size ∨ q = g11 ∨ q = w90c.heap.size) w90 L (pg4 k a b false)) := Lib.hid (HZ90c.out.add (pok4f hk HA.out HB.out) VE90.out (fun q hq => by rcases hq with hq | hq <;> simp [hq]) (fun q hq => by
    have := VA90.out.lt
    rcases hq with hq | hq | hq
    · exact .inl (.inl hq)
    · exact .inl (.inr hq)
    · exact .inr (by omega)))
  clear VE90 HZ90c VA90c
  generalize w90c.heap.size = g14 at *
  go_upto_region 10 with fail
  refine wp_region_lit ?_
  refine takeL (.pointer (some ⟨L.b, 0, none⟩)) rfl (by go_simp) ?_
  try simp only [Act.put, List.setIfInBounds_toArray, List.set_cons_succ, List.set_cons_zero]
  refine takeL (.int .i64 k) rfl (by go_simp) ?_
  try simp only [Act.put, List.setIfInBounds_toArray, List.set_cons_succ, List.set_cons_zero]
  refine wpList_op rfl fun K hK => ?_
  go_simp
  refine (pc9f hk HA.out HB.out HZ90.out).mono ?_
  rintro e wa0 ⟨rfl, hz, ho⟩
  have HXa0 := Lib.hid (HX90.out.only ho (fun q => q (.inl HBL.out)))
  clear HX90
  have VPa := Lib.hid (VP90.out.only ho (fun q => q (.inr (.inl rfl))))
  have VQa := Lib.hid (VA90.out.only ho (fun q => q (.inr (.inr rfl))))
  have HZa := Lib.hid hz
  clear hz ho VP90 VA90
  refine hK _ _ ?_
  clear hK K
  try simp only [Act.put, List.setIfInBounds_toArray, List.set_cons_succ, List.set_cons_zero]
  refine takeL (.bool false) rfl (by go_simp) ?_
  try simp only [Act.put, List.setIfInBounds_toArray, List.set_cons_succ, List.set_cons_zero]
  refine wpList_nil ?_
  go_upto_region 11 with fail
  refine startH (fun wq => Only (fun q => ¬ (q < w1.heap.size ∨ q = g11 ∨ q = g14)) wa0 wq) (by kernel_rfl) ?_
  refine takeH 0 (some 99) (.bool true) rfl rfl (by kernel_rfl) (by kernel_rfl) (by kernel_rfl) (fun _ _ _ h => h) rfl (fun wq hS => by go_simp) (Only.refl _ _).drew ?_
  try simp only [Act.put, List.setIfInBounds_toArray, List.set_cons_succ, List.set_cons_zero]
  refine takeH 1 (some 100) (.bool false) rfl rfl (by kernel_rfl) (by kernel_rfl) (by kernel_rfl) (fun _ _ _ h => h) rfl (fun wq hS => by go_simp) (Only.refl _ _).drew ?_
  try simp only [Act.put, List.setIfInBounds_toArray, List.set_cons_succ, List.set_cons_zero]
  refine takeH 2 (some 101) (.bool true) rfl rfl (by kernel_rfl) (by kernel_rfl) (by kernel_rfl) (fun _ _ _ h => h) rfl (fun wq hS => by go_simp) (Only.refl _ _).drew ?_
  try simp only [Act.put, List.setIfInBounds_toArray, List.set_cons_succ, List.set_cons_zero]
  refine takeH 3 (some 102) (.bool true) rfl rfl (by kernel_rfl) (by kernel_rfl) (by kernel_rfl) (fun _ _ _ h => h) rfl (fun wq hS => by go_simp) (Only.refl _ _).drew ?_
  try simp only [Act.put, List.setIfInBounds_toArray, List.set_cons_succ, List.set_cons_zero]
  refine takeH 4 (some 103) (.bool true) rfl rfl (by kernel_rfl) (by kernel_rfl) (by kernel_rfl) (fun _ _ _ h => h) rfl (fun wq hS => by go_simp) (Only.refl _ _).drew ?_
  try simp only [Act.put, List.setIfInBounds_toArray, List.set_cons_succ, List.set_cons_zero]
  refine takeH 5 (some 104) (.bool false) rfl rfl (by kernel_rfl) (by kernel_rfl) (by kernel_rfl) (fun _ _ _ h => h) rfl (fun wq hS => by go_simp) (Only.refl _ _).drew ?_
  try simp only [Act.put, List.setIfInBounds_toArray, List.set_cons_succ, List.set_cons_zero]
  refine takeH 6 (some 105) (.bool false) rfl rfl (by kernel_rfl) (by kernel_rfl) (by kernel_rfl) (fun _ _ _ h => h) rfl (fun wq hS => by go_simp) (Only.refl _ _).drew ?_
  try simp only [Act.put, List.setIfInBounds_toArray, List.set_cons_succ, List.set_cons_zero]
  refine takeH 7 (some 106) (.bool true) rfl rfl (by kernel_rfl) (by kernel_rfl) (by kernel_rfl) (fun _ _ _ h => h) rfl (fun wq hS => by go_simp) (Only.refl _ _).drew ?_
  try simp only [Act.put, List.setIfInBounds_toArray, List.set_cons_succ, List.set_cons_zero]
  refine takeH 8 (some 107) (.bool true) rfl rfl (by kernel_rfl) (by kernel_rfl) (by kernel_rfl) (fun _ _ _ h => h) rfl (fun wq hS => by go_simp) (Only.refl _ _).drew ?_
  try simp only [Act.put, List.setIfInBounds_toArray, List.set_cons_succ, List.set_cons_zero]
  refine takeH 9 (some 108) (.bool true) rfl rfl (by kernel_rfl) (by kernel_rfl) (by kernel_rfl) (fun _ _ _ h => h) rfl (fun wq hS => by go_simp) (Only.refl _ _).drew ?_
  try simp only [Act.put, List.setIfInBounds_toArray, List.set_cons_succ, List.set_cons_zero]
  refine takeH 10 (some 109) (.bool false) rfl rfl (by kernel_rfl) (by kernel_rfl) (by kernel_rfl) (fun _ _ _ h => h) rfl (fun wq hS => by go_simp) (Only.refl _ _).drew ?_
  try simp only [Act.put, List.setIfInBounds_toArray, List.set_cons_succ, List.set_cons_zero]
  refine takeH 11 (some 110) (.bool true) rfl rfl (by kernel_rfl) (by kernel_rfl) (by kernel_rfl) (fun _ _ _ h => h) rfl (fun wq hS => by go_simp) (Only.refl _ _).drew ?_
  try simp only [Act.put, List.setIfInBounds_toArray, List.set_cons_succ, List.set_cons_zero]
  refine takeH 12 (some 111) (.bool true) rfl rfl (by kernel_rfl) (by kernel_rfl) (by kernel_rfl) (fun _ _ _ h => h) rfl (fun wq hS => by go_simp) (Only.refl _ _).drew ?_
  try simp only [Act.put, List.setIfInBounds_toArray, List.set_cons_succ, List.set_cons_zero]
  refine passH 13 (some 112) rfl rfl (by kernel_rfl) (by kernel_rfl) (by kernel_rfl) (fun _ _ _ h => h) rfl (Only.refl _ _).drew ?_
  try simp only [Act.put, List.setIfInBounds_toArray, List.set_cons_succ, List.set_cons_zero]
  refine passH 14 (some 113) rfl rfl (by kernel_rfl) (by kernel_rfl) (by kernel_rfl) (fun _ _ _ h => h) rfl (Only.refl _ _).drew ?_
  try simp only [Act.put, List.setIfInBounds_toArray, List.set_cons_succ, List.set_cons_zero]
  refine passH 15 (some 114) rfl rfl (by kernel_rfl) (by kernel_rfl) (by kernel_rfl) (fun _ _ _ h => h) rfl (Only.refl _ _).drew ?_
  try simp only [Act.put, List.setIfInBounds_toArray, List.set_cons_succ, List.set_cons_zero]
  refine noneH 16 (some 115) (by kernel_rfl) rfl rfl rfl (Only.refl _ _).drew ?_
  try simp only [Act.put, List.setIfInBounds_toArray, List.set_cons_succ, List.set_cons_zero]
  refine passH 17 (some 116) rfl rfl (by kernel_rfl) (by kernel_rfl) (by kernel_rfl) (fun _ _ _ h => h) rfl (Only.refl _ _).drew ?_
  try simp only [Act.put, List.setIfInBounds_toArray, List.set_cons_succ, List.set_cons_zero]
  refine takeH 18 (some 117) (.bool true) rfl rfl (by kernel_rfl) (by kernel_rfl) (by kernel_rfl) (fun _ _ _ h => h) rfl (fun wq hS => by go_simp) (Only.refl _ _).drew ?_
  try simp only [Act.put, List.setIfInBounds_toArray, List.set_cons_succ, List.set_cons_zero]
  refine takeH 19 (some 118) (.bool true) rfl rfl (by kernel_rfl) (by kernel_rfl) (by kernel_rfl) (fun _ _ _ h => h) rfl (fun wq hS => by go_simp) (Only.refl _ _).drew ?_
  try simp only [Act.put, List.setIfInBounds_toArray, List.set_cons_succ, List.set_cons_zero]
  refine takeH 20 (some 119) (.bool true) rfl rfl (by kernel_rfl) (by kernel_rfl) (by kernel_rfl) (fun _ _ _ h => h) rfl (fun wq hS => by go_simp) (Only.refl _ _).drew ?_
  try simp only [Act.put, List.setIfInBounds_toArray, List.set_cons_succ, List.set_cons_zero]
  refine takeH 21 (some 120) (.bool true) rfl rfl (by kernel_rfl) (by kernel_rfl) (by kernel_rfl) (fun _ _ _ h => h) rfl (fun wq hS => by go_simp) (Only.refl _ _).drew ?_
  try simp only [Act.put, List.setIfInBounds_toArray, List.set_cons_succ, List.set_cons_zero]
  refine takeH 22 (some 121) (.bool true) rfl rfl (by kernel_rfl) (by kernel_rfl) (by kernel_rfl) (fun _ _ _ h => h) rfl (fun wq hS => by go_simp) (Only.refl _ _).drew ?_
  try simp only [Act.put, List.setIfInBounds_toArray, List.set_cons_succ, List.set_cons_zero]
  refine takeH 23 (some 122) (.bool true) rfl rfl (by kernel_rfl) (by kernel_rfl) (by kernel_rfl) (fun _ _ _ h => h) rfl (fun wq hS => by go_simp) (Only.refl _ _).drew ?_
  try simp only [Act.put, List.setIfInBounds_toArray, List.set_cons_succ, List.set_cons_zero]
  refine takeH 24 (some 123) (.pointer (some ⟨g14, 0, none⟩)) rfl rfl (by kernel_rfl) (by kernel_rfl) (by kernel_rfl) (fun _ _ _ h => h) rfl (fun wq hS => by go_simp) (Only.refl _ _).drew ?_
  try simp only [Act.put, List.setIfInBounds_toArray, List.set_cons_succ, List.set_cons_zero]
  refine takeH 25 (some 124) (.int .i64 b) rfl rfl (by kernel_rfl) (by kernel_rfl) (by kernel_rfl) (fun _ _ _ h => h) rfl (fun wq hS => by have hq := (VQa.out.only hS (fun q => q (.inr (.inr rfl)))).cell (i := 0) (v := .int .i64 b) rfl; go_simp) (Only.refl _ _).drew ?_
  try simp only [Act.put, List.setIfInBounds_toArray, List.set_cons_succ, List.set_cons_zero]
  refine takeH 26 (some 125) (.pointer (some ⟨w.heap.size, 1, none⟩)) rfl rfl (by kernel_rfl) (by kernel_rfl) (by kernel_rfl) (fun _ _ _ h => h) rfl (fun wq hS => by go_simp) (Only.refl _ _).drew ?_
  try simp only [Act.put, List.setIfInBounds_toArray, List.set_cons_succ, List.set_cons_zero]
  refine takeH 27 (some 126) (.int .u8 b) rfl rfl (by kernel_rfl) (by kernel_rfl) (by kernel_rfl) (fun _ _ _ h => h) rfl (fun wq hS => by have hq := (HXa0.out.only hS (fun q => q (.inl HBL.out))).cell (i := 1) rfl; go_simp) (Only.refl _ _).drew ?_
  try simp only [Act.put, List.setIfInBounds_toArray, List.set_cons_succ, List.set_cons_zero]
  refine takeH 28 (some 127) (.int .i64 b) rfl rfl (by kernel_rfl) (by kernel_rfl) (by kernel_rfl) (fun _ _ _ h => h) rfl (fun wq hS => by go_simp; exact Kl.wrap63 (by omega) (by omega)) (Only.refl _ _).drew ?_
  try simp only [Act.put, List.setIfInBounds_toArray, List.set_cons_succ, List.set_cons_zero]
  refine takeH 29 (some 128) (.bool true) rfl rfl (by kernel_rfl) (by kernel_rfl) (by kernel_rfl) (fun _ _ _ h => h) rfl (fun wq hS => by go_simp) (Only.refl _ _).drew ?_
  try simp only [Act.put, List.setIfInBounds_toArray, List.set_cons_succ, List.set_cons_zero]
  refine takeH 30 (some 129) (.bool true) rfl rfl (by kernel_rfl) (by kernel_rfl) (by kernel_rfl) (fun _ _ _ h => h) rfl (fun wq hS => by go_simp) (Only.refl _ _).drew ?_
  try simp only [Act.put, List.setIfInBounds_toArray, List.set_cons_succ, List.set_cons_zero]
  refine takeH 31 (some 130) (.bool true) rfl rfl (by kernel_rfl) (by kernel_rfl) (by kernel_rfl) (fun _ _ _ h => h) rfl (fun wq hS => by go_simp) (Only.refl _ _).drew ?_
  try simp only [Act.put, List.setIfInBounds_toArray, List.set_cons_succ, List.set_cons_zero]
  refine takeH 32 (some 131) (.bool false) rfl rfl (by kernel_rfl) (by kernel_rfl) (by kernel_rfl) (fun _ _ _ h => h) rfl (fun wq hS => by go_simp) (Only.refl _ _).drew ?_
  try simp only [Act.put, List.setIfInBounds_toArray, List.set_cons_succ, List.set_cons_zero]
  refine takeH 33 (some 132) (.bool true) rfl rfl (by kernel_rfl) (by kernel_rfl) (by kernel_rfl) (fun _ _ _ h => h) rfl (fun wq hS => by go_simp) (Only.refl _ _).drew ?_
  try simp only [Act.put, List.setIfInBounds_toArray, List.set_cons_succ, List.set_cons_zero]
  refine takeH 34 (some 133) (.bool true) rfl rfl (by kernel_rfl) (by kernel_rfl) (by kernel_rfl) (fun _ _ _ h => h) rfl (fun wq hS => by go_simp) (Only.refl _ _).drew ?_
  try simp only [Act.put, List.setIfInBounds_toArray, List.set_cons_succ, List.set_cons_zero]
  refine takeH 35 (some 134) (.bool true) rfl rfl (by kernel_rfl) (by kernel_rfl) (by kernel_rfl) (fun _ _ _ h => h) rfl (fun wq hS => by go_simp) (Only.refl _ _).drew ?_
  try simp only [Act.put, List.setIfInBounds_toArray, List.set_cons_succ, List.set_cons_zero]
  refine takeH 36 (some 135) (.pointer (some ⟨L.b, 0, none⟩)) rfl rfl (by kernel_rfl) (by kernel_rfl) (by kernel_rfl) (fun _ _ _ h => h) rfl (fun wq hS => by go_simp) (Only.refl _ _).drew ?_
  try simp only [Act.put, List.setIfInBounds_toArray, List.set_cons_succ, List.set_cons_zero]
  refine takeH 37 (some 136) (.int .i64 k) rfl rfl (by kernel_rfl) (by kernel_rfl) (by kernel_rfl) (fun _ _ _ h => h) rfl (fun wq hS => by go_simp) (Only.refl _ _).drew ?_
  try simp only [Act.put, List.setIfInBounds_toArray, List.set_cons_succ, List.set_cons_zero]
  refine takeH 38 (some 137) (.int .i64 (64 + (k : Int))) rfl rfl (by kernel_rfl) (by kernel_rfl) (by kernel_rfl) (fun _ _ _ h => h) rfl (fun wq hS => by go_simp; exact Kl.wrap63 (by omega) (by omega)) (Only.refl _ _).drew ?_
  try simp only [Act.put, List.setIfInBounds_toArray, List.set_cons_succ, List.set_cons_zero]
  refine oneH 39 (by kernel_rfl) rfl rfl fun K hK => ?_
  go_simp
  refine (pc10f hk HA.out HB.out (HZa.out.below (((Below.refl (World.heap wa0).size wa0).drew)))).mono ?_
  rintro e v1 ⟨rfl, hz, ho⟩
  have HZf := Lib.hid hz
  have HS1 := Lib.hid (((Only.refl _ _).drew).trans ho)
  clear hz ho
  refine hK _ _ HS1.out ?_
  clear hK K
  try simp only [Act.put, List.setIfInBounds_toArray, List.set_cons_succ, List.set_cons_zero]
  refine takeH 40 (some 139) (.bool true) rfl rfl (by kernel_rfl) (by kernel_rfl) (by kernel_rfl) (fun _ _ _ h => h) rfl (fun wq hS => by go_simp) HS1.out ?_
  try simp only [Act.put, List.setIfInBounds_toArray, List.set_cons_succ, List.set_cons_zero]
  refine takeH 41 (some 140) (.bool true) rfl rfl (by kernel_rfl) (by kernel_rfl) (by kernel_rfl) (fun _ _ _ h => h) rfl (fun wq hS => by go_simp) HS1.out ?_
  try simp only [Act.put, List.setIfInBounds_toArray, List.set_cons_succ, List.set_cons_zero]
  refine oneH 42 (by kernel_rfl) rfl rfl fun K hK => ?_
  go_simp
  refine (wakes_any _ (HZf.out.ev HEV1.out)).mono ?_
  rintro e v2 ⟨rfl, hb⟩
  have HBz := Lib.hid (stay HZf.out.bel hb)
  have HS2 : Hid (Only (fun q => ¬ (q < w1.heap.size ∨ q = g11 ∨ q = g14)) wa0 v2) := Lib.hid ((HS1.out).trans (Only.of_below hb))
  clear hb
  refine hK _ _ HS2.out ?_
  clear hK K
  try simp only [Act.put, List.setIfInBounds_toArray, List.set_cons_succ, List.set_cons_zero]
  refine takeH 43 (some 142) (.bool true) rfl rfl (by kernel_rfl) (by kernel_rfl) (by kernel_rfl) (fun _ _ _ h => h) rfl (fun wq hS => by go_simp) HS2.out ?_
  try simp only [Act.put, List.setIfInBounds_toArray, List.set_cons_succ, List.set_cons_zero]
  refine takeH 44 (some 6) (.bool true) rfl rfl (by kernel_rfl) (by kernel_rfl) (by kernel_rfl) (fun _ _ _ h => h) rfl (fun wq hS => by go_simp) HS2.out ?_
  try simp only [Act.put, List.setIfInBounds_toArray, List.set_cons_succ, List.set_cons_zero]
  refine wpAnyH_done (by kernel_rfl) ?_ _
  go_wp2_with fail
  go_ret
  exact ⟨rfl, HBA.out.trans (HBz.out.mono HBA.out.size)⟩
theorem pages_any (w : World) (id a b : Int) (pin : Bool) (hid : Byte id) (ha : Byte a) (hb : Byte b) (hev : ErrVar w) : Calls Tryd.prog 5 #[.int .u8 id, .agg #[.int .u8 a, .int .u8 b], .bool pin] w fun e w' => e = .returned (.bool true) ∧ Below w.heap.size w w' := by
  cases pin with
  | true => exact pages_true w id a b hid ha hb hev
  | false => exact pages_false w id a b hid ha hb hev

end Go.Proofs.YtaemjglblfencaaDoor
