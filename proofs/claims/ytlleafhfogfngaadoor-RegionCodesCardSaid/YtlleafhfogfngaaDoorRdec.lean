/- The statements' own reading of two sectors. -/
import Derived.Test.YtlleafhfogfngaaDoorRenc
namespace Go.Proofs.YtlleafhfogfngaaDoor
set_option linter.unusedSimpArgs false
set_option linter.unusedVariables false
open Go.RowKit

theorem sub_cells {w : World} {p : Nat} {x y : List Int} {s : Nat} (e : (x.drop s).take 64 = y) (h : Blk w p (u8s y)) (o n : Nat) (hon : o + n ≤ 64) : ∀ i v, ((x.drop (s + o)).take n)[i]? = some v → w.cell? ⟨p, o + i, none⟩ = some (.int .u8 v) := fun i v hv => by
  refine h.cell ?_
  rw [List.getElem?_take] at hv
  split at hv
  · rw [List.getElem?_drop] at hv
    rw [List.getElem?_map, ← e, List.getElem?_take_of_lt (by omega), List.getElem?_drop, show s + (o + i) = s + o + i by omega, hv]
    rfl
  · cases hv
theorem sub_byte {w : World} {p : Nat} {x y : List Int} {s : Nat} (e : (x.drop s).take 64 = y) (h : Blk w p (u8s y)) (hx : x.length = 128) (i : Nat) (hi : i < 64) (hs : s ≤ 64) : w.cell? ⟨p, i, none⟩ = some (.int .u8 (x.getD (s + i) 0)) := by
  refine h.cell ?_
  rw [List.getElem?_map, ← e, List.getElem?_take_of_lt hi, List.getElem?_drop, List.getD_eq_getElem?_getD, List.getElem?_eq_getElem (by omega)]
  rfl
theorem rnum4_at {w : World} {p : Nat} {x y : List Int} {s : Nat} (e : (x.drop s).take 64 = y) (h : Blk w p (u8s y)) (hx : Sc2 x) (hs : s ≤ 64) (o cap : Nat) (ho : o + 4 ≤ 64) : Calls Tryd.prog 19 #[.slice (some ⟨p, o, none⟩) 4 cap] w fun e w' => e = .returned (.int .u32 (num ((x.drop (s + o)).take 4))) ∧ w = w' :=
  rnum4_any w p o cap _ (part_len hx.length (by omega)) (fun y hy => hx.bytes y (List.mem_of_mem_drop (List.mem_of_mem_take hy))) (sub_cells e h o 4 ho)
theorem rnum2_at {w : World} {p : Nat} {x y : List Int} {s : Nat} (e : (x.drop s).take 64 = y) (h : Blk w p (u8s y)) (hx : Sc2 x) (hs : s ≤ 64) (o cap : Nat) (ho : o + 2 ≤ 64) : Calls Tryd.prog 19 #[.slice (some ⟨p, o, none⟩) 2 cap] w fun e w' => e = .returned (.int .u32 (num ((x.drop (s + o)).take 2))) ∧ w = w' :=
  rnum2_any w p o cap _ (part_len hx.length (by omega)) (fun y hy => hx.bytes y (List.mem_of_mem_drop (List.mem_of_mem_take hy))) (sub_cells e h o 2 ho)
/-- Both sectors, each in a variable of its own. -/
structure PQ (W w : World) (b p q : Nat) (x x0 x1 : List Int) : Prop where
  arg : Blk w W.heap.size (u8s x)
  res : Blk w b Rg.none.cells
  bp : Blk w p (u8s x0)
  bq : Blk w q (u8s x1)
  bel : Below W.heap.size W w
  lb : W.heap.size < b
theorem PQ.below {W w w' : World} {b p q : Nat} {x x0 x1 : List Int} (h : PQ W w b p q x x0 x1) (hb : Below w.heap.size w w') : PQ W w' b p q x x0 x1 :=
  ⟨h.arg.below hb h.arg.lt, h.res.below hb h.res.lt, h.bp.below hb h.bp.lt, h.bq.below hb h.bq.lt, h.bel.trans (hb.mono h.bel.size), h.lb⟩
theorem PQ.only {W w w' : World} {b p q c : Nat} {x x0 x1 : List Int} (h : PQ W w b p q x x0 x1) (ho : Only (fun k => k = c) w w') (h1 : W.heap.size < c) (h2 : b ≠ c) (h3 : p ≠ c) (h4 : q ≠ c) : PQ W w' b p q x x0 x1 :=
  ⟨h.arg.only ho (by omega), h.res.only ho h2, h.bp.only ho h3, h.bq.only ho h4, h.bel.trans (ho.below h.bel.size fun k hk => by omega), h.lb⟩
/-- And a region in a third one. -/
structure QS (W w : World) (b p q c : Nat) (x x0 x1 : List Int) (L : List Value) : Prop where
  pq : PQ W w b p q x x0 x1
  var : Blk w c L
  lc : W.heap.size < c
  bc : b ≠ c
  pc : p ≠ c
  qc : q ≠ c
theorem QS.below {W w w' : World} {b p q c : Nat} {x x0 x1 : List Int} {L : List Value} (h : QS W w b p q c x x0 x1 L) (hb : Below w.heap.size w w') : QS W w' b p q c x x0 x1 L :=
  ⟨h.pq.below hb, h.var.below hb h.var.lt, h.lc, h.bc, h.pc, h.qc⟩
theorem QS.put {W w w' : World} {b p q c : Nat} {x x0 x1 : List Int} {L M : List Value} (h : QS W w b p q c x x0 x1 L) (ho : Only (fun k => k = c) w w') (hs : Blk w' c M) : QS W w' b p q c x x0 x1 M :=
  ⟨h.pq.only ho h.lc h.bc h.pc h.qc, hs, h.lc, h.bc, h.pc, h.qc⟩
theorem QS.set {W w : World} {b p q c : Nat} {x x0 x1 : List Int} {L : List Value} (h : QS W w b p q c x x0 x1 L) (i : Nat) (v : Value) : QS W (w.setCell ⟨c, i, none⟩ v) b p q c x x0 x1 (L.set i v) :=
  h.put ((Only.refl (fun k => k = c) w).setCell (p := ⟨c, i, none⟩) (.inl rfl) _) (h.var.set i v)
/-- A region whose geometry is not set yet. -/
def rz (x : List Int) : Rg := ⟨num ((x.drop (0 + 2)).take 4), 0, 0, 0, 0, x.getD (0 + 10) 0, x.getD (0 + 11) 0, num ((x.drop (0 + 12)).take 4), zeros 8⟩
theorem built27d (n a b m : Int) : Tryd.prog.built 27 [(0, .int .u32 n), (2, .int .i64 a), (3, .int .i64 b), (4, .int .u32 m)] = some (Rg.cells ⟨n, 0, 0, 0, 0, a, b, m, zeros 8⟩).toArray := by kernel_rfl
theorem rz_len (x : List Int) : (rz x).cells.length = 16 := rfl
theorem rz_geom (x : List Int) (p s l f : Int) (hp : x.getD (0 + 6) 0 = p) (hs : x.getD (0 + 7) 0 = s) (hl : x.getD (0 + 8) 0 = l) (hf : x.getD (0 + 9) 0 = f) : (splice (rz x).cells 1 #[.int .i64 p, .int .i64 s, .int .i64 l, .int .i64 f]).toList = rm x 0 := by
  subst hp hs hl hf
  rfl
theorem built24 (p s l f : Int) : Tryd.prog.built 24 [(0, .int .i64 p), (1, .int .i64 s), (2, .int .i64 l), (3, .int .i64 f)] = some #[.int .i64 p, .int .i64 s, .int .i64 l, .int .i64 f] := by kernel_rfl

theorem slice_at (q k : Nat) (hk : k < 8) (ev : Operand → Value) (o : Oper) (w : World) {a b c : Operand} (ho : o.op = .slice 29 a (some b) (some c) none) (ha : ev a = .pointer (some ⟨q, 0, none⟩)) (hb : ev b = .int .i64 (6 + 2 * k)) (hc : ev c = .int .i64 (8 + 2 * k)) : (execOp ev o).run Tryd.prog w = .ok (.value (.slice (some ⟨q, 6 + 2 * k, none⟩) 2 (58 - 2 * k))) w := by
  rcases (show k = 0 ∨ k = 1 ∨ k = 2 ∨ k = 3 ∨ k = 4 ∨ k = 5 ∨ k = 6 ∨ k = 7 by omega) with rfl | rfl | rfl | rfl | rfl | rfl | rfl | rfl <;> (unfold execOp; rw [ho]; simp only [Option.map, ha, hb, hc]; go_simp)
set_option maxHeartbeats 1000000 in
set_option maxRecDepth 100000 in
theorem rdecode_any (x : List Int) (hx : Sc2 x) (w : World) : Calls Tryd.prog 10 #[.agg (u8s x).toArray] w fun e w' => e = .returned (.tuple #[.agg (dec x).cells.toArray, .int .i64 (decE x)]) ∧ Below w.heap.size w w' := by
  have HSC := Lib.hid hx
  have HXL := Lib.hid hx.length
  have HWN := Lib.hid none_wf
  have HZ64 := Lib.hid (zeros_length 64)
  have HZ128 := Lib.hid (zeros_length 128)
  have HWF := Lib.hid (readOf_wf hx)
  obtain ⟨x0, hx0⟩ : ∃ y, (x.drop 0).take 64 = y := ⟨_, rfl⟩
  obtain ⟨x1, hx1⟩ : ∃ y, (x.drop 64).take 64 = y := ⟨_, rfl⟩
  have HX0 := Lib.hid hx0
  have HX1 := Lib.hid hx1
  have H0 : Hid (x0.length = 64) := Lib.hid (hx0 ▸ part_len hx.length (by decide))
  have H1 : Hid (x1.length = 64) := Lib.hid (hx1 ▸ part_len hx.length (by decide))
  have HBL : Hid (Below w.heap.size w w) := Lib.hid (Below.refl _ _)
  clear hx hx0 hx1
  go_enter Tryd.func10, Tryd.ntmps10
  go_upto_region 0 with fail
  refine wp_region_lit ?_
  refine box_g rfl rfl ?_
  intro w1 hA hb hl
  try simp only [Act.put, List.setIfInBounds_toArray, List.set_cons_succ, List.set_cons_zero]
  clear hl
  have HG2 : Hid (w.heap.size ≤ w.heap.size) := Lib.hid HBL.out.size
  have F3 := Lib.hid (HBL.out.trans (hb.mono HBL.out.size))
  clear HBL
  have F4 : Hid (Blk w1 w.heap.size (u8s x)) := Lib.hid hA
  clear hA hb
  refine alloc_g zero27 rfl ?_
  intro w5 hA hb hl
  try simp only [Act.put, List.setIfInBounds_toArray, List.set_cons_succ, List.set_cons_zero]
  clear hl
  have HN6 := Lib.hid (Nat.ne_of_lt F4.out.lt)
  have HG7 : Hid (w.heap.size ≤ w1.heap.size) := Lib.hid F3.out.size
  have F8 := Lib.hid (F3.out.trans (hb.mono F3.out.size))
  have F9 := Lib.hid (F4.out.below hb F4.out.lt)
  clear F3 F4
  have F10 : Hid (Blk w5 w1.heap.size Rg.none.cells) := Lib.hid hA
  clear hA hb
  generalize w1.heap.size = g11 at *
  clear w1
  refine takeL (.int .i64 0) rfl (by go_simp) ?_
  try simp only [Act.put, List.setIfInBounds_toArray, List.set_cons_succ, List.set_cons_zero]
  refine wpList_nil ?_
  go_upto_region 1 with fail
  go_cut [4, 5] from 4 to 14 (fun s4 s5 wx => ∃ p q : Nat, s4 = .pointer (some ⟨p, 0, none⟩) ∧ s5 = .pointer (some ⟨q, 0, none⟩) ∧ PQ w wx g11 p q x x0 x1)
  case first =>
    refine startH (fun wq => Blk wq w.heap.size (u8s x)) (by kernel_rfl) ?_
    refine takeH 0 (some 10) (.pointer (some ⟨w.heap.size, 0, none⟩)) rfl rfl (by kernel_rfl) (by kernel_rfl) (by kernel_rfl) (fun _ _ _ h => h) rfl (fun wq hS => by go_simp) F9.out.drew ?_
    try simp only [Act.put, List.setIfInBounds_toArray, List.set_cons_succ, List.set_cons_zero]
    refine takeH 1 (some 11) (.agg (u8s x0).toArray) rfl rfl (by kernel_rfl) (by kernel_rfl) (by kernel_rfl) (fun _ _ _ h => h) rfl (fun wq hS => by exact exec_load_at wq _ _ 29 _ rfl w.heap.size 0 rfl (u8s x0).toArray _ Tryd.underlying29 rfl (by rw [u8s_size, H0.out]; exact info29) (by have := Blk.part hS 0 64 (by rw [HXL.out]; decide); rwa [HX0.out] at this)) F9.out.drew ?_
    try simp only [Act.put, List.setIfInBounds_toArray, List.set_cons_succ, List.set_cons_zero]
    refine takeH 2 (some 12) (.pointer (some ⟨w.heap.size, 64, none⟩)) rfl rfl (by kernel_rfl) (by kernel_rfl) (by kernel_rfl) (fun _ _ _ h => h) rfl (fun wq hS => by go_simp) F9.out.drew ?_
    try simp only [Act.put, List.setIfInBounds_toArray, List.set_cons_succ, List.set_cons_zero]
    refine takeH 3 (some 13) (.agg (u8s x1).toArray) rfl rfl (by kernel_rfl) (by kernel_rfl) (by kernel_rfl) (fun _ _ _ h => h) rfl (fun wq hS => by exact exec_load_at wq _ _ 29 _ rfl w.heap.size 64 rfl (u8s x1).toArray _ Tryd.underlying29 rfl (by rw [u8s_size, H1.out]; exact info29) (by have := Blk.part hS 64 64 (by rw [HXL.out]; decide); rwa [HX1.out] at this)) F9.out.drew ?_
    try simp only [Act.put, List.setIfInBounds_toArray, List.set_cons_succ, List.set_cons_zero]
    refine twoH 4 5 (by kernel_rfl) rfl rfl rfl rfl (fun K hK => ?_) (fun K hK => ?_)
    · refine wp_runTo (some 4) rfl _ _ (exec_alloc _ _ _ 29 rfl _ zero29) ?_
      have hbA : Below w5.drew.heap.size w5.drew (w5.drew.alloc (.cells (u8s (zeros 64)).toArray 29)) := (Below.refl _ _).alloc (Nat.le_refl _) _
      have hnA : Blk (w5.drew.alloc (.cells (u8s (zeros 64)).toArray 29)) w5.drew.heap.size (u8s (zeros 64)) := Blk.newAt 29 _ _ rfl rfl
      generalize hWA : w5.drew.alloc (.cells (u8s (zeros 64)).toArray 29) = wA at *
      have HLA := Lib.hid ((F9.out.drew).below hbA (F9.out.drew).lt)
      refine hK _ _ HLA.out ?_
      clear hK K
      try simp only [Act.put, List.setIfInBounds_toArray, List.set_cons_succ, List.set_cons_zero]
      refine oneH 5 (by kernel_rfl) rfl rfl fun K hK => ?_
      refine wp_runTo (some 5) rfl _ _ (exec_alloc _ _ _ 29 rfl _ zero29) ?_
      have hbB : Below wA.heap.size wA (wA.alloc (.cells (u8s (zeros 64)).toArray 29)) := (Below.refl _ _).alloc (Nat.le_refl _) _
      have hnB : Blk (wA.alloc (.cells (u8s (zeros 64)).toArray 29)) wA.heap.size (u8s (zeros 64)) := Blk.newAt 29 _ _ rfl rfl
      generalize hWB : wA.alloc (.cells (u8s (zeros 64)).toArray 29) = wB at *
      have HLB := Lib.hid (HLA.out.below hbB HLA.out.lt)
      refine hK _ _ HLB.out ?_
      clear hK K
      try simp only [Act.put, List.setIfInBounds_toArray, List.set_cons_succ, List.set_cons_zero]
      have hAB : w5.drew.heap.size ≠ wA.heap.size := Nat.ne_of_lt hnA.lt
      have hBB : Below w5.heap.size w5 wB := (((Below.refl w5.heap.size w5).drew).trans (show Below w5.heap.size w5.drew wA from hbA)).trans (hbB.mono (show w5.heap.size ≤ wA.heap.size from hbA.size))
      have hzA : Blk wB (w5.drew.heap.size) (u8s (zeros 64)) := (hnA.below hbB hnA.lt)
      have hzB : Blk wB (wA.heap.size) (u8s (zeros 64)) := hnB
      have hgA : w5.heap.size ≤ w5.drew.heap.size := Nat.le_refl _
      have hgB : w5.heap.size ≤ wA.heap.size := hbA.size
      have hg : w.heap.size < w5.heap.size := F9.out.lt
      have hgb : g11 < w5.heap.size := F10.out.lt
      have hwb : w.heap.size < g11 := by have h1 := HN6.out; have h2 := HG7.out; omega
      generalize w5.drew.heap.size = A at *
      generalize wA.heap.size = B at *
      refine oneH 6 (by kernel_rfl) rfl rfl fun K hK => ?_
      refine store_W none rfl rfl hzA (by simp only [u8s_size, List.length_map, HZ64.out, H0.out]) (by rw [u8s_size, H0.out]; exact info29) (u8s_one _) rfl rfl fun wC hD hO => ?_
      have HLC := Lib.hid (HLB.out.only hO (by omega))
      refine hK _ _ HLC.out ?_
      clear hK K
      try simp only [Act.put, List.setIfInBounds_toArray, List.set_cons_succ, List.set_cons_zero]
      refine oneH 7 (by kernel_rfl) rfl rfl fun K hK => ?_
      refine store_W none rfl rfl (hzB.only hO (Ne.symm hAB)) (by simp only [u8s_size, List.length_map, HZ64.out, H1.out]) (by rw [u8s_size, H1.out]; exact info29) (u8s_one _) rfl rfl fun wD hD2 hO2 => ?_
      have HLD := Lib.hid (HLC.out.only hO2 (by omega))
      refine hK _ _ HLD.out ?_
      clear hK K
      try simp only [Act.put, List.setIfInBounds_toArray, List.set_cons_succ, List.set_cons_zero]
      refine wpAnyH_done (by kernel_rfl) ?_ _
      go_wp2_with fail
      go_meet
      exact ⟨A, B, rfl, rfl, HLD.out, ((F10.out.below hBB F10.out.lt).only hO (by omega)).only hO2 (by omega), hD.only hO2 hAB, hD2, ((F8.out.trans (hBB.mono F8.out.size)).trans (hO.below (Nat.le_trans F8.out.size hBB.size) fun k hk => by rw [hk]; omega)).trans (hO2.below (Nat.le_trans F8.out.size (Nat.le_trans hBB.size hO.size)) fun k hk => by rw [hk]; omega), hwb⟩
    · refine wp_runTo (some 5) rfl _ _ (exec_alloc _ _ _ 29 rfl _ zero29) ?_
      have hbA : Below w5.drew.heap.size w5.drew (w5.drew.alloc (.cells (u8s (zeros 64)).toArray 29)) := (Below.refl _ _).alloc (Nat.le_refl _) _
      have hnA : Blk (w5.drew.alloc (.cells (u8s (zeros 64)).toArray 29)) w5.drew.heap.size (u8s (zeros 64)) := Blk.newAt 29 _ _ rfl rfl
      generalize hWA : w5.drew.alloc (.cells (u8s (zeros 64)).toArray 29) = wA at *
      have HLA := Lib.hid ((F9.out.drew).below hbA (F9.out.drew).lt)
      refine hK _ _ HLA.out ?_
      clear hK K
      try simp only [Act.put, List.setIfInBounds_toArray, List.set_cons_succ, List.set_cons_zero]
      refine oneH 4 (by kernel_rfl) rfl rfl fun K hK => ?_
      refine wp_runTo (some 4) rfl _ _ (exec_alloc _ _ _ 29 rfl _ zero29) ?_
      have hbB : Below wA.heap.size wA (wA.alloc (.cells (u8s (zeros 64)).toArray 29)) := (Below.refl _ _).alloc (Nat.le_refl _) _
      have hnB : Blk (wA.alloc (.cells (u8s (zeros 64)).toArray 29)) wA.heap.size (u8s (zeros 64)) := Blk.newAt 29 _ _ rfl rfl
      generalize hWB : wA.alloc (.cells (u8s (zeros 64)).toArray 29) = wB at *
      have HLB := Lib.hid (HLA.out.below hbB HLA.out.lt)
      refine hK _ _ HLB.out ?_
      clear hK K
      try simp only [Act.put, List.setIfInBounds_toArray, List.set_cons_succ, List.set_cons_zero]
      have hAB : wA.heap.size ≠ w5.drew.heap.size := (Nat.ne_of_lt hnA.lt).symm
      have hBB : Below w5.heap.size w5 wB := (((Below.refl w5.heap.size w5).drew).trans (show Below w5.heap.size w5.drew wA from hbA)).trans (hbB.mono (show w5.heap.size ≤ wA.heap.size from hbA.size))
      have hzA : Blk wB (wA.heap.size) (u8s (zeros 64)) := hnB
      have hzB : Blk wB (w5.drew.heap.size) (u8s (zeros 64)) := (hnA.below hbB hnA.lt)
      have hgA : w5.heap.size ≤ wA.heap.size := hbA.size
      have hgB : w5.heap.size ≤ w5.drew.heap.size := Nat.le_refl _
      have hg : w.heap.size < w5.heap.size := F9.out.lt
      have hgb : g11 < w5.heap.size := F10.out.lt
      have hwb : w.heap.size < g11 := by have h1 := HN6.out; have h2 := HG7.out; omega
      generalize wA.heap.size = A at *
      generalize w5.drew.heap.size = B at *
      refine oneH 6 (by kernel_rfl) rfl rfl fun K hK => ?_
      refine store_W none rfl rfl hzA (by simp only [u8s_size, List.length_map, HZ64.out, H0.out]) (by rw [u8s_size, H0.out]; exact info29) (u8s_one _) rfl rfl fun wC hD hO => ?_
      have HLC := Lib.hid (HLB.out.only hO (by omega))
      refine hK _ _ HLC.out ?_
      clear hK K
      try simp only [Act.put, List.setIfInBounds_toArray, List.set_cons_succ, List.set_cons_zero]
      refine oneH 7 (by kernel_rfl) rfl rfl fun K hK => ?_
      refine store_W none rfl rfl (hzB.only hO (Ne.symm hAB)) (by simp only [u8s_size, List.length_map, HZ64.out, H1.out]) (by rw [u8s_size, H1.out]; exact info29) (u8s_one _) rfl rfl fun wD hD2 hO2 => ?_
      have HLD := Lib.hid (HLC.out.only hO2 (by omega))
      refine hK _ _ HLD.out ?_
      clear hK K
      try simp only [Act.put, List.setIfInBounds_toArray, List.set_cons_succ, List.set_cons_zero]
      refine wpAnyH_done (by kernel_rfl) ?_ _
      go_wp2_with fail
      go_meet
      exact ⟨A, B, rfl, rfl, HLD.out, ((F10.out.below hBB F10.out.lt).only hO (by omega)).only hO2 (by omega), hD.only hO2 hAB, hD2, ((F8.out.trans (hBB.mono F8.out.size)).trans (hO.below (Nat.le_trans F8.out.size hBB.size) fun k hk => by rw [hk]; omega)).trans (hO2.below (Nat.le_trans F8.out.size (Nat.le_trans hBB.size hO.size)) fun k hk => by rw [hk]; omega), hwb⟩
  case rest =>
    obtain ⟨p, q, rfl, rfl, hpq⟩ := hcut
    have HP := Lib.hid hpq
    clear hpq F9 F10 F8
    obtain ⟨v10, hv10⟩ : ∃ v, x.getD (0 + 10) 0 = v := ⟨_, rfl⟩
    obtain ⟨v11, hv11⟩ : ∃ v, x.getD (0 + 11) 0 = v := ⟨_, rfl⟩
    have HB10 : Hid (Byte v10) := Lib.hid (hv10 ▸ sc_byte HSC.out (0 + 10))
    have HB11 : Hid (Byte v11) := Lib.hid (hv11 ▸ sc_byte HSC.out (0 + 11))
    have HV10 := Lib.hid hv10
    have HV11 := Lib.hid hv11
    obtain ⟨n2, hn2⟩ : ∃ v, (num ((x.drop (0 + 2)).take 4)) = v := ⟨_, rfl⟩
    obtain ⟨n12, hn12⟩ : ∃ v, (num ((x.drop (0 + 12)).take 4)) = v := ⟨_, rfl⟩
    have HN2 := Lib.hid hn2
    have HN12 := Lib.hid hn12
    have HRZ : Hid (rz x = ⟨n2, 0, 0, 0, 0, v10, v11, n12, zeros 8⟩) := Lib.hid (by unfold rz; rw [hn2, hn12, hv10, hv11])
    clear hv10 hv11 hn2 hn12
    go_upto_region 2 with fail
    go_cut [6] from 6 to 25 (fun s6 wy => ∃ c : Nat, s6 = .pointer (some ⟨c, 0, none⟩) ∧ QS w wy g11 p q c x x0 x1 (rz x).cells)
    case first =>
      refine startH (fun wq => Blk wq p (u8s x0)) (by kernel_rfl) ?_
      refine takeH 0 (some 14) (.slice (some ⟨p, 2, none⟩) 4 62) rfl rfl (by kernel_rfl) (by kernel_rfl) (by kernel_rfl) (fun _ _ _ h => h) rfl (fun wq hS => by go_simp) HP.out.bp.drew ?_
      try simp only [Act.put, List.setIfInBounds_toArray, List.set_cons_succ, List.set_cons_zero]
      refine takeH 2 (some 16) (.pointer (some ⟨p, 10, none⟩)) rfl rfl (by kernel_rfl) (by kernel_rfl) (by kernel_rfl) (fun _ _ _ h => h) rfl (fun wq hS => by go_simp) HP.out.bp.drew ?_
      try simp only [Act.put, List.setIfInBounds_toArray, List.set_cons_succ, List.set_cons_zero]
      refine takeH 3 (some 17) (.int .u8 v10) rfl rfl (by kernel_rfl) (by kernel_rfl) (by kernel_rfl) (fun _ _ _ h => h) rfl (fun wq hS => by have hq := sub_byte HX0.out hS HXL.out 10 (by decide) (by decide); rw [HV10.out] at hq; go_simp) HP.out.bp.drew ?_
      try simp only [Act.put, List.setIfInBounds_toArray, List.set_cons_succ, List.set_cons_zero]
      refine takeH 4 (some 18) (.int .i64 v10) rfl rfl (by kernel_rfl) (by kernel_rfl) (by kernel_rfl) (fun _ _ _ h => h) rfl (fun wq hS => by have hq := HB10.out; go_simp <;> exact wrap64 hq.1 (by have := hq.2; omega)) HP.out.bp.drew ?_
      try simp only [Act.put, List.setIfInBounds_toArray, List.set_cons_succ, List.set_cons_zero]
      refine takeH 5 (some 19) (.pointer (some ⟨p, 11, none⟩)) rfl rfl (by kernel_rfl) (by kernel_rfl) (by kernel_rfl) (fun _ _ _ h => h) rfl (fun wq hS => by go_simp) HP.out.bp.drew ?_
      try simp only [Act.put, List.setIfInBounds_toArray, List.set_cons_succ, List.set_cons_zero]
      refine takeH 6 (some 20) (.int .u8 v11) rfl rfl (by kernel_rfl) (by kernel_rfl) (by kernel_rfl) (fun _ _ _ h => h) rfl (fun wq hS => by have hq := sub_byte HX0.out hS HXL.out 11 (by decide) (by decide); rw [HV11.out] at hq; go_simp) HP.out.bp.drew ?_
      try simp only [Act.put, List.setIfInBounds_toArray, List.set_cons_succ, List.set_cons_zero]
      refine takeH 7 (some 21) (.int .i64 v11) rfl rfl (by kernel_rfl) (by kernel_rfl) (by kernel_rfl) (fun _ _ _ h => h) rfl (fun wq hS => by have hq := HB11.out; go_simp <;> exact wrap64 hq.1 (by have := hq.2; omega)) HP.out.bp.drew ?_
      try simp only [Act.put, List.setIfInBounds_toArray, List.set_cons_succ, List.set_cons_zero]
      refine takeH 8 (some 22) (.slice (some ⟨p, 12, none⟩) 4 52) rfl rfl (by kernel_rfl) (by kernel_rfl) (by kernel_rfl) (fun _ _ _ h => h) rfl (fun wq hS => by go_simp) HP.out.bp.drew ?_
      try simp only [Act.put, List.setIfInBounds_toArray, List.set_cons_succ, List.set_cons_zero]
      refine twoH 1 11 (by kernel_rfl) rfl rfl rfl rfl (fun K hK => ?_) (fun K hK => ?_)
      · have hcl := rnum4_at HX0.out HP.out.bp.drew HSC.out (by decide) 2 62 (by decide)
        rw [HN2.out] at hcl
        go_simp
        refine hcl.mono ?_
        rintro e w1 ⟨rfl, rfl⟩
        refine hK _ _ HP.out.bp.drew ?_
        clear hK K hcl
        try simp only [Act.put, List.setIfInBounds_toArray, List.set_cons_succ, List.set_cons_zero]
        refine twoH 9 11 (by kernel_rfl) rfl rfl rfl rfl (fun K hK => ?_) (fun K hK => ?_)
        · have hcl := rnum4_at HX0.out HP.out.bp.drew HSC.out (by decide) 12 52 (by decide)
          rw [HN12.out] at hcl
          go_simp
          refine hcl.mono ?_
          rintro e w1 ⟨rfl, rfl⟩
          refine hK _ _ HP.out.bp.drew ?_
          clear hK K hcl
          try simp only [Act.put, List.setIfInBounds_toArray, List.set_cons_succ, List.set_cons_zero]
          refine takeH 10 (some 24) (.agg (rz x).cells.toArray) rfl rfl (by kernel_rfl) (by kernel_rfl) (by kernel_rfl) (fun _ _ _ h => h) rfl (fun wq hS => by rw [HRZ.out]; exact exec_build _ _ _ _ 27 _ rfl #[(0, .int .u32 n2), (2, .int .i64 v10), (3, .int .i64 v11), (4, .int .u32 n12)] (by simp only [List.map_toArray, List.map_cons, List.map_nil]; rfl) _ (run_build _ 27 _ _ (built27d _ _ _ _))) HP.out.bp.drew ?_
          try simp only [Act.put, List.setIfInBounds_toArray, List.set_cons_succ, List.set_cons_zero]
          refine oneH 11 (by kernel_rfl) rfl rfl fun K hK => ?_
          refine wp_runTo (some 6) rfl _ _ (exec_alloc _ _ _ 27 rfl _ zero27) ?_
          refine hK _ _ (HP.out.bp.drew.below ((Below.refl wc.heap.size wc.drew).alloc (Nat.le_refl wc.heap.size) (.cells Rg.none.cells.toArray 27)) HP.out.bp.lt) ?_
          clear hK K
          try simp only [Act.put, List.setIfInBounds_toArray, List.set_cons_succ, List.set_cons_zero]
          refine oneH 12 (by kernel_rfl) rfl rfl fun K hK => ?_
          refine store_W none rfl rfl (Blk.newAt (w := wc.drew) (cs := Rg.none.cells.toArray) 27 wc.heap.size Rg.none.cells rfl rfl) (by rw [List.size_toArray, rz_len, HWN.out.cells]) (by rw [List.size_toArray, rz_len]; exact info27) (fun v hv => Rg.cell_one _ v (by simpa using hv)) rfl rfl fun wy hD hO => ?_
          have hal : Below wc.heap.size wc (wc.drew.alloc (.cells Rg.none.cells.toArray 27)) := (Below.refl _ _).drew.alloc (Nat.le_refl _) _
          refine hK _ _ ((HP.out.bp.drew.below ((Below.refl wc.heap.size wc.drew).alloc (Nat.le_refl wc.heap.size) (.cells Rg.none.cells.toArray 27)) HP.out.bp.lt).only hO (Nat.ne_of_lt HP.out.bp.lt)) ?_
          clear hK K
          try simp only [Act.put, List.setIfInBounds_toArray, List.set_cons_succ, List.set_cons_zero]
          refine wpAnyH_done (by kernel_rfl) ?_ _
          go_wp2_with fail
          go_meet
          have hgl := HP.out.lb
          have hgr := HP.out.res.lt
          exact ⟨wc.heap.size, rfl, (HP.out.below hal).only hO (by omega) (by omega) (Nat.ne_of_lt HP.out.bp.lt) (Nat.ne_of_lt HP.out.bq.lt), hD, by omega, by omega, Nat.ne_of_lt HP.out.bp.lt, Nat.ne_of_lt HP.out.bq.lt⟩
        · refine wp_runTo (some 6) rfl _ _ (exec_alloc _ _ _ 27 rfl _ zero27) ?_
          refine hK _ _ (HP.out.bp.drew.below ((Below.refl wc.heap.size wc.drew).alloc (Nat.le_refl wc.heap.size) (.cells Rg.none.cells.toArray 27)) HP.out.bp.lt) ?_
          clear hK K
          try simp only [Act.put, List.setIfInBounds_toArray, List.set_cons_succ, List.set_cons_zero]
          refine oneH 9 (by kernel_rfl) rfl rfl fun K hK => ?_
          have hcl := rnum4_at HX0.out (HP.out.bp.drew.below ((Below.refl wc.heap.size wc.drew).alloc (Nat.le_refl wc.heap.size) (.cells Rg.none.cells.toArray 27)) HP.out.bp.lt) HSC.out (by decide) 12 52 (by decide)
          rw [HN12.out] at hcl
          go_simp
          refine hcl.mono ?_
          rintro e w1 ⟨rfl, rfl⟩
          refine hK _ _ (HP.out.bp.drew.below ((Below.refl wc.heap.size wc.drew).alloc (Nat.le_refl wc.heap.size) (.cells Rg.none.cells.toArray 27)) HP.out.bp.lt) ?_
          clear hK K hcl
          try simp only [Act.put, List.setIfInBounds_toArray, List.set_cons_succ, List.set_cons_zero]
          refine takeH 10 (some 24) (.agg (rz x).cells.toArray) rfl rfl (by kernel_rfl) (by kernel_rfl) (by kernel_rfl) (fun _ _ _ h => h) rfl (fun wq hS => by rw [HRZ.out]; exact exec_build _ _ _ _ 27 _ rfl #[(0, .int .u32 n2), (2, .int .i64 v10), (3, .int .i64 v11), (4, .int .u32 n12)] (by simp only [List.map_toArray, List.map_cons, List.map_nil]; rfl) _ (run_build _ 27 _ _ (built27d _ _ _ _))) (HP.out.bp.drew.below ((Below.refl wc.heap.size wc.drew).alloc (Nat.le_refl wc.heap.size) (.cells Rg.none.cells.toArray 27)) HP.out.bp.lt) ?_
          try simp only [Act.put, List.setIfInBounds_toArray, List.set_cons_succ, List.set_cons_zero]
          refine oneH 12 (by kernel_rfl) rfl rfl fun K hK => ?_
          refine store_W none rfl rfl (Blk.newAt (w := wc.drew) (cs := Rg.none.cells.toArray) 27 wc.heap.size Rg.none.cells rfl rfl) (by rw [List.size_toArray, rz_len, HWN.out.cells]) (by rw [List.size_toArray, rz_len]; exact info27) (fun v hv => Rg.cell_one _ v (by simpa using hv)) rfl rfl fun wy hD hO => ?_
          have hal : Below wc.heap.size wc (wc.drew.alloc (.cells Rg.none.cells.toArray 27)) := (Below.refl _ _).drew.alloc (Nat.le_refl _) _
          refine hK _ _ ((HP.out.bp.drew.below ((Below.refl wc.heap.size wc.drew).alloc (Nat.le_refl wc.heap.size) (.cells Rg.none.cells.toArray 27)) HP.out.bp.lt).only hO (Nat.ne_of_lt HP.out.bp.lt)) ?_
          clear hK K
          try simp only [Act.put, List.setIfInBounds_toArray, List.set_cons_succ, List.set_cons_zero]
          refine wpAnyH_done (by kernel_rfl) ?_ _
          go_wp2_with fail
          go_meet
          have hgl := HP.out.lb
          have hgr := HP.out.res.lt
          exact ⟨wc.heap.size, rfl, (HP.out.below hal).only hO (by omega) (by omega) (Nat.ne_of_lt HP.out.bp.lt) (Nat.ne_of_lt HP.out.bq.lt), hD, by omega, by omega, Nat.ne_of_lt HP.out.bp.lt, Nat.ne_of_lt HP.out.bq.lt⟩
      · refine wp_runTo (some 6) rfl _ _ (exec_alloc _ _ _ 27 rfl _ zero27) ?_
        refine hK _ _ (HP.out.bp.drew.below ((Below.refl wc.heap.size wc.drew).alloc (Nat.le_refl wc.heap.size) (.cells Rg.none.cells.toArray 27)) HP.out.bp.lt) ?_
        clear hK K
        try simp only [Act.put, List.setIfInBounds_toArray, List.set_cons_succ, List.set_cons_zero]
        refine oneH 1 (by kernel_rfl) rfl rfl fun K hK => ?_
        have hcl := rnum4_at HX0.out (HP.out.bp.drew.below ((Below.refl wc.heap.size wc.drew).alloc (Nat.le_refl wc.heap.size) (.cells Rg.none.cells.toArray 27)) HP.out.bp.lt) HSC.out (by decide) 2 62 (by decide)
        rw [HN2.out] at hcl
        go_simp
        refine hcl.mono ?_
        rintro e w1 ⟨rfl, rfl⟩
        refine hK _ _ (HP.out.bp.drew.below ((Below.refl wc.heap.size wc.drew).alloc (Nat.le_refl wc.heap.size) (.cells Rg.none.cells.toArray 27)) HP.out.bp.lt) ?_
        clear hK K hcl
        try simp only [Act.put, List.setIfInBounds_toArray, List.set_cons_succ, List.set_cons_zero]
        refine oneH 9 (by kernel_rfl) rfl rfl fun K hK => ?_
        have hcl := rnum4_at HX0.out (HP.out.bp.drew.below ((Below.refl wc.heap.size wc.drew).alloc (Nat.le_refl wc.heap.size) (.cells Rg.none.cells.toArray 27)) HP.out.bp.lt) HSC.out (by decide) 12 52 (by decide)
        rw [HN12.out] at hcl
        go_simp
        refine hcl.mono ?_
        rintro e w1 ⟨rfl, rfl⟩
        refine hK _ _ (HP.out.bp.drew.below ((Below.refl wc.heap.size wc.drew).alloc (Nat.le_refl wc.heap.size) (.cells Rg.none.cells.toArray 27)) HP.out.bp.lt) ?_
        clear hK K hcl
        try simp only [Act.put, List.setIfInBounds_toArray, List.set_cons_succ, List.set_cons_zero]
        refine takeH 10 (some 24) (.agg (rz x).cells.toArray) rfl rfl (by kernel_rfl) (by kernel_rfl) (by kernel_rfl) (fun _ _ _ h => h) rfl (fun wq hS => by rw [HRZ.out]; exact exec_build _ _ _ _ 27 _ rfl #[(0, .int .u32 n2), (2, .int .i64 v10), (3, .int .i64 v11), (4, .int .u32 n12)] (by simp only [List.map_toArray, List.map_cons, List.map_nil]; rfl) _ (run_build _ 27 _ _ (built27d _ _ _ _))) (HP.out.bp.drew.below ((Below.refl wc.heap.size wc.drew).alloc (Nat.le_refl wc.heap.size) (.cells Rg.none.cells.toArray 27)) HP.out.bp.lt) ?_
        try simp only [Act.put, List.setIfInBounds_toArray, List.set_cons_succ, List.set_cons_zero]
        refine oneH 12 (by kernel_rfl) rfl rfl fun K hK => ?_
        refine store_W none rfl rfl (Blk.newAt (w := wc.drew) (cs := Rg.none.cells.toArray) 27 wc.heap.size Rg.none.cells rfl rfl) (by rw [List.size_toArray, rz_len, HWN.out.cells]) (by rw [List.size_toArray, rz_len]; exact info27) (fun v hv => Rg.cell_one _ v (by simpa using hv)) rfl rfl fun wy hD hO => ?_
        have hal : Below wc.heap.size wc (wc.drew.alloc (.cells Rg.none.cells.toArray 27)) := (Below.refl _ _).drew.alloc (Nat.le_refl _) _
        refine hK _ _ ((HP.out.bp.drew.below ((Below.refl wc.heap.size wc.drew).alloc (Nat.le_refl wc.heap.size) (.cells Rg.none.cells.toArray 27)) HP.out.bp.lt).only hO (Nat.ne_of_lt HP.out.bp.lt)) ?_
        clear hK K
        try simp only [Act.put, List.setIfInBounds_toArray, List.set_cons_succ, List.set_cons_zero]
        refine wpAnyH_done (by kernel_rfl) ?_ _
        go_wp2_with fail
        go_meet
        have hgl := HP.out.lb
        have hgr := HP.out.res.lt
        exact ⟨wc.heap.size, rfl, (HP.out.below hal).only hO (by omega) (by omega) (Nat.ne_of_lt HP.out.bp.lt) (Nat.ne_of_lt HP.out.bq.lt), hD, by omega, by omega, Nat.ne_of_lt HP.out.bp.lt, Nat.ne_of_lt HP.out.bq.lt⟩
    case rest =>
      obtain ⟨c, rfl, hqs⟩ := hcut
      have HQ := Lib.hid hqs
      clear hqs HP
      obtain ⟨gp, hgp⟩ : ∃ v, x.getD (0 + 6) 0 = v := ⟨_, rfl⟩
      have HBp : Hid (Byte gp) := Lib.hid (hgp ▸ sc_byte HSC.out (0 + 6))
      have HGp := Lib.hid hgp
      clear hgp
      obtain ⟨gs, hgs⟩ : ∃ v, x.getD (0 + 7) 0 = v := ⟨_, rfl⟩
      have HBs : Hid (Byte gs) := Lib.hid (hgs ▸ sc_byte HSC.out (0 + 7))
      have HGs := Lib.hid hgs
      clear hgs
      obtain ⟨gl, hgl⟩ : ∃ v, x.getD (0 + 8) 0 = v := ⟨_, rfl⟩
      have HBl : Hid (Byte gl) := Lib.hid (hgl ▸ sc_byte HSC.out (0 + 8))
      have HGl := Lib.hid hgl
      clear hgl
      obtain ⟨gf, hgf⟩ : ∃ v, x.getD (0 + 9) 0 = v := ⟨_, rfl⟩
      have HBf : Hid (Byte gf) := Lib.hid (hgf ▸ sc_byte HSC.out (0 + 9))
      have HGf := Lib.hid hgf
      clear hgf
      go_upto_region 3 with fail
      refine wp_region_lit ?_
      refine takeL (.pointer (some ⟨p, 6, none⟩)) rfl (by go_simp) ?_
      try simp only [Act.put, List.setIfInBounds_toArray, List.set_cons_succ, List.set_cons_zero]
      refine takeL (.int .u8 gp) rfl (by have hq := sub_byte HX0.out HQ.out.pq.bp HXL.out 6 (by decide) (by decide); rw [HGp.out] at hq; go_simp) ?_
      try simp only [Act.put, List.setIfInBounds_toArray, List.set_cons_succ, List.set_cons_zero]
      refine takeL (.int .i64 gp) rfl (by have hq := HBp.out; go_simp <;> exact wrap64 hq.1 (by have := hq.2; omega)) ?_
      try simp only [Act.put, List.setIfInBounds_toArray, List.set_cons_succ, List.set_cons_zero]
      refine takeL (.pointer (some ⟨p, 7, none⟩)) rfl (by go_simp) ?_
      try simp only [Act.put, List.setIfInBounds_toArray, List.set_cons_succ, List.set_cons_zero]
      refine takeL (.int .u8 gs) rfl (by have hq := sub_byte HX0.out HQ.out.pq.bp HXL.out 7 (by decide) (by decide); rw [HGs.out] at hq; go_simp) ?_
      try simp only [Act.put, List.setIfInBounds_toArray, List.set_cons_succ, List.set_cons_zero]
      refine takeL (.int .i64 gs) rfl (by have hq := HBs.out; go_simp <;> exact wrap64 hq.1 (by have := hq.2; omega)) ?_
      try simp only [Act.put, List.setIfInBounds_toArray, List.set_cons_succ, List.set_cons_zero]
      refine takeL (.pointer (some ⟨p, 8, none⟩)) rfl (by go_simp) ?_
      try simp only [Act.put, List.setIfInBounds_toArray, List.set_cons_succ, List.set_cons_zero]
      refine takeL (.int .u8 gl) rfl (by have hq := sub_byte HX0.out HQ.out.pq.bp HXL.out 8 (by decide) (by decide); rw [HGl.out] at hq; go_simp) ?_
      try simp only [Act.put, List.setIfInBounds_toArray, List.set_cons_succ, List.set_cons_zero]
      refine takeL (.int .i64 gl) rfl (by have hq := HBl.out; go_simp <;> exact wrap64 hq.1 (by have := hq.2; omega)) ?_
      try simp only [Act.put, List.setIfInBounds_toArray, List.set_cons_succ, List.set_cons_zero]
      refine takeL (.pointer (some ⟨p, 9, none⟩)) rfl (by go_simp) ?_
      try simp only [Act.put, List.setIfInBounds_toArray, List.set_cons_succ, List.set_cons_zero]
      refine takeL (.int .u8 gf) rfl (by have hq := sub_byte HX0.out HQ.out.pq.bp HXL.out 9 (by decide) (by decide); rw [HGf.out] at hq; go_simp) ?_
      try simp only [Act.put, List.setIfInBounds_toArray, List.set_cons_succ, List.set_cons_zero]
      refine takeL (.int .i64 gf) rfl (by have hq := HBf.out; go_simp <;> exact wrap64 hq.1 (by have := hq.2; omega)) ?_
      try simp only [Act.put, List.setIfInBounds_toArray, List.set_cons_succ, List.set_cons_zero]
      refine takeL (.agg #[.int .i64 gp, .int .i64 gs, .int .i64 gl, .int .i64 gf]) rfl (exec_build _ _ _ _ 24 _ rfl #[(0, .int .i64 gp), (1, .int .i64 gs), (2, .int .i64 gl), (3, .int .i64 gf)] (by simp only [List.map_toArray, List.map_cons, List.map_nil]; rfl) _ (run_build _ 24 _ _ (built24 _ _ _ _))) ?_
      try simp only [Act.put, List.setIfInBounds_toArray, List.set_cons_succ, List.set_cons_zero]
      refine takeL (.pointer (some ⟨c, 1, none⟩)) rfl (by go_simp) ?_
      try simp only [Act.put, List.setIfInBounds_toArray, List.set_cons_succ, List.set_cons_zero]
      refine store_g (cs := #[.int .i64 gp, .int .i64 gs, .int .i64 gl, .int .i64 gf]) HQ.out.var info24 (by rw [rz_len]; exact (by decide : 1 + 4 ≤ 16)) (fun v hv => by simp only [List.mem_toArray, List.mem_cons, List.not_mem_nil, or_false] at hv; rcases hv with rfl | rfl | rfl | rfl <;> rfl) rfl rfl rfl ?_
      intro wg hD hO hl
      try simp only [Act.put, List.setIfInBounds_toArray, List.set_cons_succ, List.set_cons_zero]
      clear hl
      rw [rz_geom x gp gs gl gf HGp.out HGs.out HGl.out HGf.out] at hD
      have HR := Lib.hid (HQ.out.put hO hD)
      clear hD hO HQ
      refine wpList_nil ?_
      go_wp2_with fail
      go_loopg [7] 8 (fun q' i wr => ∃ k : Nat, 8 - k ≤ q' ∧ k ≤ 8 ∧ i = .int .i64 k ∧ QS w wr g11 p q c x x0 x1 (rm x k))
      case atStart => exact ⟨0, by omega, by omega, rfl, HR.out⟩
      case round =>
        obtain ⟨k, hq, hk, rfl, hls⟩ := hrel
        have HM := Lib.hid hls
        clear HR hls
        by_cases h8 : k < 8
        · obtain ⟨y0, y1⟩ : 0 ≤ num ((x.drop (70 + 2 * k)).take 2) ∧ num ((x.drop (70 + 2 * k)).take 2) < 65536 := num_part HSC.out (70 + 2 * k) 2 (by omega)
          have HG := Lib.hid fun W (h : Blk W q (u8s x1)) => rnum2_at HX1.out h HSC.out (by decide) (6 + 2 * k) (58 - 2 * k) (by omega)
          rw [show 64 + (6 + 2 * k) = 70 + 2 * k by omega] at HG
          have hn := rm_next x h8
          generalize num ((x.drop (70 + 2 * k)).take 2) = y at *
          have HNX := Lib.hid hn
          clear hn
          go_upto_region 7 with fail
          refine wp_region_lit ?_
          refine takeL (.int .i64 k) rfl (by go_simp) ?_
          try simp only [Act.put, List.setIfInBounds_toArray, List.set_cons_succ, List.set_cons_zero]
          refine takeL (.int .i64 k) rfl (by go_simp) ?_
          try simp only [Act.put, List.setIfInBounds_toArray, List.set_cons_succ, List.set_cons_zero]
          refine takeL (.int .i64 (2 * k)) rfl (by (go_simp <;> first | done | exact wrap64 (by omega) (by omega))) ?_
          try simp only [Act.put, List.setIfInBounds_toArray, List.set_cons_succ, List.set_cons_zero]
          refine takeL (.int .i64 (6 + 2 * k)) rfl (by (go_simp <;> first | done | exact wrap64 (by omega) (by omega))) ?_
          try simp only [Act.put, List.setIfInBounds_toArray, List.set_cons_succ, List.set_cons_zero]
          refine takeL (.int .i64 k) rfl (by go_simp) ?_
          try simp only [Act.put, List.setIfInBounds_toArray, List.set_cons_succ, List.set_cons_zero]
          refine takeL (.int .i64 (2 * k)) rfl (by (go_simp <;> first | done | exact wrap64 (by omega) (by omega))) ?_
          try simp only [Act.put, List.setIfInBounds_toArray, List.set_cons_succ, List.set_cons_zero]
          refine takeL (.int .i64 (8 + 2 * k)) rfl (by (go_simp <;> first | done | exact wrap64 (by omega) (by omega))) ?_
          try simp only [Act.put, List.setIfInBounds_toArray, List.set_cons_succ, List.set_cons_zero]
          refine takeL (.slice (some ⟨q, 6 + 2 * k, none⟩) 2 (58 - 2 * k)) rfl (slice_at q k h8 _ _ _ rfl rfl rfl rfl) ?_
          try simp only [Act.put, List.setIfInBounds_toArray, List.set_cons_succ, List.set_cons_zero]
          refine wpList_op rfl fun K hK => ?_
          go_simp
          refine (HG.out _ HM.out.pq.bq).mono ?_
          rintro e w9 ⟨rfl, rfl⟩
          refine hK _ _ ?_
          clear hK K
          try simp only [Act.put, List.setIfInBounds_toArray, List.set_cons_succ, List.set_cons_zero]
          refine takeL (.int .i64 y) rfl (by go_simp <;> exact wrap64 y0 (by omega)) ?_
          try simp only [Act.put, List.setIfInBounds_toArray, List.set_cons_succ, List.set_cons_zero]
          refine takeL (.pointer (some ⟨c, 8, none⟩)) rfl (by go_simp) ?_
          try simp only [Act.put, List.setIfInBounds_toArray, List.set_cons_succ, List.set_cons_zero]
          refine takeL (.pointer (some ⟨c, 8 + k, none⟩)) rfl (by go_simp <;> (intro _; omega)) ?_
          try simp only [Act.put, List.setIfInBounds_toArray, List.set_cons_succ, List.set_cons_zero]
          refine skipL (wr.setCell ⟨c, 8 + k, none⟩ (.int .i64 y)) rfl (by have hq := HM.out.var.cell (rm_cell x h8); have hf := HM.out.var.frozen (8 + k); go_simp) ?_
          try simp only [Act.put, List.setIfInBounds_toArray, List.set_cons_succ, List.set_cons_zero]
          have hs := HM.out.set (8 + k) (.int .i64 y)
          rw [HNX.out] at hs
          have HN := Lib.hid hs
          clear hs
          refine wpList_nil ?_
          go_wp2_with fail
          go_roundg (8 - (k + 1))
          case measure => omega
          case rel => exact ⟨k + 1, by omega, by omega, by go_num, HN.out⟩
        · obtain rfl : k = 8 := by omega
          rw [rm_eight] at HM
          have FA := Lib.hid HM.out.pq.arg
          have FB := Lib.hid HM.out.pq.res
          have FC := Lib.hid HM.out.var
          have FL := Lib.hid HM.out.pq.bel
          have HNab : Hid (w.heap.size ≠ g11) := Lib.hid (Nat.ne_of_lt HM.out.pq.lb)
          have HNac : Hid (w.heap.size ≠ c) := Lib.hid (Nat.ne_of_lt HM.out.lc)
          have HNbc := Lib.hid HM.out.bc
          have HGb : Hid (w.heap.size ≤ g11) := Lib.hid (Nat.le_of_lt HM.out.pq.lb)
          clear HM
          cases hgd : (readOf x).good
          · have HGD := Lib.hid hgd
            clear hgd
            go_upto_region 8 with fail
            refine wp_region_lit ?_
            refine load27 (cs := (readOf x).cells.toArray) (Blk.all FC.out rfl) (by rw [List.size_toArray]; exact HWF.out.cells) rfl rfl ?_
            try simp only [Act.put, List.setIfInBounds_toArray, List.set_cons_succ, List.set_cons_zero]
            refine wpList_op rfl fun K hK => ?_
            go_simp
            refine (rencode_no HGD.out HWF.out _).mono ?_
            rintro e w112 ⟨rfl, hb⟩
            have F113 := Lib.hid (FA.out.below hb FA.out.lt)
            have F114 := Lib.hid (FB.out.below hb FB.out.lt)
            have F115 := Lib.hid (FC.out.below hb FC.out.lt)
            have F116 := Lib.hid (FL.out.trans (hb.mono FL.out.size))
            clear FA FB FC FL
            clear hb
            refine hK _ _ ?_
            clear hK K
            try simp only [Act.put, List.setIfInBounds_toArray, List.set_cons_succ, List.set_cons_zero]
            refine takeL (.tuple #[.agg (u8s (zeros 128)).toArray, .int .i64 11]) rfl (by go_simp) ?_
            try simp only [Act.put, List.setIfInBounds_toArray, List.set_cons_succ, List.set_cons_zero]
            refine takeL (.agg (u8s (zeros 128)).toArray) rfl (by go_simp) ?_
            try simp only [Act.put, List.setIfInBounds_toArray, List.set_cons_succ, List.set_cons_zero]
            refine takeL (.int .i64 11) rfl (by go_simp) ?_
            try simp only [Act.put, List.setIfInBounds_toArray, List.set_cons_succ, List.set_cons_zero]
            refine alloc_g zero30 rfl ?_
            intro w117 hA hb hl
            try simp only [Act.put, List.setIfInBounds_toArray, List.set_cons_succ, List.set_cons_zero]
            clear hl
            have HN118 := Lib.hid (Nat.ne_of_lt F113.out.lt)
            have HN119 := Lib.hid (Nat.ne_of_lt F114.out.lt)
            have HN120 := Lib.hid (Nat.ne_of_lt F115.out.lt)
            have HG121 : Hid (w.heap.size ≤ w112.heap.size) := Lib.hid F116.out.size
            have F122 := Lib.hid (F113.out.below hb F113.out.lt)
            have F123 := Lib.hid (F114.out.below hb F114.out.lt)
            have F124 := Lib.hid (F115.out.below hb F115.out.lt)
            have F125 := Lib.hid (F116.out.trans (hb.mono F116.out.size))
            clear F113 F114 F115 F116
            have F126 : Hid (Blk w117 w112.heap.size (u8s (zeros 128))) := Lib.hid hA
            clear hA hb
            generalize w112.heap.size = g127 at *
            clear w112
            refine store_all (cs := (u8s (zeros 128)).toArray) F126.out (by simp only [u8s_size, List.size_toArray, List.length_map, HZ128.out, HZ128.out]) (by rw [u8s_size, HZ128.out]; exact info30) (u8s_one _) rfl rfl rfl ?_
            intro w128 hD hO hlD
            try simp only [Act.put, List.setIfInBounds_toArray, List.set_cons_succ, List.set_cons_zero]
            clear hlD
            have F129 := Lib.hid (F122.out.only hO (HN118.out))
            have F130 := Lib.hid (F123.out.only hO (HN119.out))
            have F131 := Lib.hid (F124.out.only hO (HN120.out))
            have F132 := Lib.hid (F125.out.trans (hO.below F125.out.size (fun k hk => by rw [hk]; exact HG121.out)))
            clear F122 F123 F124 F125 F126
            have F126' : Hid (Blk w128 g127 (u8s (zeros 128))) := Lib.hid hD
            clear hD hO 
            refine takeL (.int .i64 11) rfl (by go_simp) ?_
            try simp only [Act.put, List.setIfInBounds_toArray, List.set_cons_succ, List.set_cons_zero]
            refine wpList_nil ?_
            go_upto_region 9 with fail
            refine wp_region_lit ?_
            refine takeL (.int .i64 11) rfl (by go_simp) ?_
            try simp only [Act.put, List.setIfInBounds_toArray, List.set_cons_succ, List.set_cons_zero]
            refine takeL (.bool true) rfl (by go_simp) ?_
            try simp only [Act.put, List.setIfInBounds_toArray, List.set_cons_succ, List.set_cons_zero]
            refine takeL (.bool true) rfl (by go_simp) ?_
            try simp only [Act.put, List.setIfInBounds_toArray, List.set_cons_succ, List.set_cons_zero]
            refine passL rfl ?_
            try simp only [Act.put, List.setIfInBounds_toArray, List.set_cons_succ, List.set_cons_zero]
            refine passL rfl ?_
            try simp only [Act.put, List.setIfInBounds_toArray, List.set_cons_succ, List.set_cons_zero]
            refine passL rfl ?_
            try simp only [Act.put, List.setIfInBounds_toArray, List.set_cons_succ, List.set_cons_zero]
            refine takeL (.bool true) rfl (by go_simp) ?_
            try simp only [Act.put, List.setIfInBounds_toArray, List.set_cons_succ, List.set_cons_zero]
            refine wpList_nil ?_
            go_upto_region 10 with fail
            refine wp_region_lit ?_
            refine build_g (build27 _) rfl ?_
            try simp only [Act.put, List.setIfInBounds_toArray, List.set_cons_succ, List.set_cons_zero]
            refine store_all (cs := Rg.none.cells.toArray) F130.out (by simp only [u8s_size, List.size_toArray, List.length_map, HWN.out.cells, HWN.out.cells]) (by rw [List.size_toArray, HWN.out.cells]; exact info27) (fun v hv => Rg.cell_one _ v (by simpa using hv)) rfl rfl rfl ?_
            intro w133 hD hO hlD
            try simp only [Act.put, List.setIfInBounds_toArray, List.set_cons_succ, List.set_cons_zero]
            clear hlD
            have F134 := Lib.hid (F129.out.only hO (HNab.out))
            have F135 := Lib.hid (F131.out.only hO (HNbc.out.symm))
            have F136 := Lib.hid (F132.out.trans (hO.below F132.out.size (fun k hk => by rw [hk]; exact HGb.out)))
            have F137 := Lib.hid (F126'.out.only hO (HN119.out.symm))
            clear F129 F131 F132 F126' F130
            have FB' : Hid (Blk w133 g11 Rg.none.cells) := Lib.hid hD
            clear hD hO 
            refine takeL (.int .i64 11) rfl (by go_simp) ?_
            try simp only [Act.put, List.setIfInBounds_toArray, List.set_cons_succ, List.set_cons_zero]
            refine wpList_nil ?_
            go_wp2_with fail
            exact bodyPost_ret (v := .tuple #[.agg Rg.none.cells.toArray, .int .i64 11]) (results_cell_tmp rfl _ _ g11 0 _ _ _ rfl rfl Tryd.underlying27 rfl (by rw [List.size_toArray, HWN.out.cells]; exact info27) (Blk.all FB'.out rfl)) rfl ⟨(by rw [(dec_no (show isReg x = false from by simp [isReg, HGD.out])).1, (dec_no (show isReg x = false from by simp [isReg, HGD.out])).2]), F136.out⟩
          · have HGD := Lib.hid hgd
            clear hgd
            by_cases hex : (readOf x).enc = x
            · have HEX := Lib.hid hex
              clear hex
              have HE := Lib.hid (enc_length HWF.out.len)
              go_upto_region 8 with fail
              refine wp_region_lit ?_
              refine load27 (cs := (readOf x).cells.toArray) (Blk.all FC.out rfl) (by rw [List.size_toArray]; exact HWF.out.cells) rfl rfl ?_
              try simp only [Act.put, List.setIfInBounds_toArray, List.set_cons_succ, List.set_cons_zero]
              refine wpList_op rfl fun K hK => ?_
              go_simp
              refine (rencode_yes HGD.out HWF.out _).mono ?_
              rintro e w112 ⟨rfl, hb⟩
              have F113 := Lib.hid (FA.out.below hb FA.out.lt)
              have F114 := Lib.hid (FB.out.below hb FB.out.lt)
              have F115 := Lib.hid (FC.out.below hb FC.out.lt)
              have F116 := Lib.hid (FL.out.trans (hb.mono FL.out.size))
              clear FA FB FC FL
              clear hb
              refine hK _ _ ?_
              clear hK K
              try simp only [Act.put, List.setIfInBounds_toArray, List.set_cons_succ, List.set_cons_zero]
              refine takeL (.tuple #[.agg (u8s (readOf x).enc).toArray, .int .i64 0]) rfl (by go_simp) ?_
              try simp only [Act.put, List.setIfInBounds_toArray, List.set_cons_succ, List.set_cons_zero]
              refine takeL (.agg (u8s (readOf x).enc).toArray) rfl (by go_simp) ?_
              try simp only [Act.put, List.setIfInBounds_toArray, List.set_cons_succ, List.set_cons_zero]
              refine takeL (.int .i64 0) rfl (by go_simp) ?_
              try simp only [Act.put, List.setIfInBounds_toArray, List.set_cons_succ, List.set_cons_zero]
              refine alloc_g zero30 rfl ?_
              intro w117 hA hb hl
              try simp only [Act.put, List.setIfInBounds_toArray, List.set_cons_succ, List.set_cons_zero]
              clear hl
              have HN118 := Lib.hid (Nat.ne_of_lt F113.out.lt)
              have HN119 := Lib.hid (Nat.ne_of_lt F114.out.lt)
              have HN120 := Lib.hid (Nat.ne_of_lt F115.out.lt)
              have HG121 : Hid (w.heap.size ≤ w112.heap.size) := Lib.hid F116.out.size
              have F122 := Lib.hid (F113.out.below hb F113.out.lt)
              have F123 := Lib.hid (F114.out.below hb F114.out.lt)
              have F124 := Lib.hid (F115.out.below hb F115.out.lt)
              have F125 := Lib.hid (F116.out.trans (hb.mono F116.out.size))
              clear F113 F114 F115 F116
              have F126 : Hid (Blk w117 w112.heap.size (u8s (zeros 128))) := Lib.hid hA
              clear hA hb
              generalize w112.heap.size = g127 at *
              clear w112
              refine store_all (cs := (u8s (readOf x).enc).toArray) F126.out (by simp only [u8s_size, List.size_toArray, List.length_map, HZ128.out, HE.out]) (by rw [u8s_size, HE.out]; exact info30) (u8s_one _) rfl rfl rfl ?_
              intro w128 hD hO hlD
              try simp only [Act.put, List.setIfInBounds_toArray, List.set_cons_succ, List.set_cons_zero]
              clear hlD
              have F129 := Lib.hid (F122.out.only hO (HN118.out))
              have F130 := Lib.hid (F123.out.only hO (HN119.out))
              have F131 := Lib.hid (F124.out.only hO (HN120.out))
              have F132 := Lib.hid (F125.out.trans (hO.below F125.out.size (fun k hk => by rw [hk]; exact HG121.out)))
              clear F122 F123 F124 F125 F126
              have F126' : Hid (Blk w128 g127 (u8s (readOf x).enc)) := Lib.hid hD
              clear hD hO 
              refine takeL (.int .i64 0) rfl (by go_simp) ?_
              try simp only [Act.put, List.setIfInBounds_toArray, List.set_cons_succ, List.set_cons_zero]
              refine wpList_nil ?_
              go_upto_region 9 with fail
              refine wp_region_lit ?_
              refine takeL (.int .i64 0) rfl (by go_simp) ?_
              try simp only [Act.put, List.setIfInBounds_toArray, List.set_cons_succ, List.set_cons_zero]
              refine takeL (.bool false) rfl (by go_simp) ?_
              try simp only [Act.put, List.setIfInBounds_toArray, List.set_cons_succ, List.set_cons_zero]
              refine takeL (.bool false) rfl (by go_simp) ?_
              try simp only [Act.put, List.setIfInBounds_toArray, List.set_cons_succ, List.set_cons_zero]
              refine load30 (cs := (u8s (readOf x).enc).toArray) (Blk.all F126'.out rfl) (by rw [u8s_size, HE.out]) rfl rfl ?_
              try simp only [Act.put, List.setIfInBounds_toArray, List.set_cons_succ, List.set_cons_zero]
              refine load30 (cs := (u8s x).toArray) (Blk.all F129.out rfl) (by rw [u8s_size, HXL.out]) rfl rfl ?_
              try simp only [Act.put, List.setIfInBounds_toArray, List.set_cons_succ, List.set_cons_zero]
              refine takeL (.bool false) rfl (by exact run_neq_two (v := false) (decide_eq_true HEX.out) HE.out HXL.out _ _ _ rfl rfl rfl) ?_
              try simp only [Act.put, List.setIfInBounds_toArray, List.set_cons_succ, List.set_cons_zero]
              refine takeL (.bool false) rfl (by go_simp) ?_
              try simp only [Act.put, List.setIfInBounds_toArray, List.set_cons_succ, List.set_cons_zero]
              refine wpList_nil ?_
              go_upto_region 11 with fail
              refine wp_region_lit ?_
              refine load27 (cs := (readOf x).cells.toArray) (Blk.all F131.out rfl) (by rw [List.size_toArray]; exact HWF.out.cells) rfl rfl ?_
              try simp only [Act.put, List.setIfInBounds_toArray, List.set_cons_succ, List.set_cons_zero]
              refine store_all (cs := (readOf x).cells.toArray) F130.out (by simp only [u8s_size, List.size_toArray, List.length_map, HWN.out.cells, HWF.out.cells]) (by rw [List.size_toArray, HWF.out.cells]; exact info27) (fun v hv => Rg.cell_one _ v (by simpa using hv)) rfl rfl rfl ?_
              intro w133 hD hO hlD
              try simp only [Act.put, List.setIfInBounds_toArray, List.set_cons_succ, List.set_cons_zero]
              clear hlD
              have F134 := Lib.hid (F129.out.only hO (HNab.out))
              have F135 := Lib.hid (F131.out.only hO (HNbc.out.symm))
              have F136 := Lib.hid (F132.out.trans (hO.below F132.out.size (fun k hk => by rw [hk]; exact HGb.out)))
              have F137 := Lib.hid (F126'.out.only hO (HN119.out.symm))
              clear F129 F131 F132 F126' F130
              have FB' : Hid (Blk w133 g11 (readOf x).cells) := Lib.hid hD
              clear hD hO 
              refine takeL (.int .i64 0) rfl (by go_simp) ?_
              try simp only [Act.put, List.setIfInBounds_toArray, List.set_cons_succ, List.set_cons_zero]
              refine wpList_nil ?_
              go_wp2_with fail
              exact bodyPost_ret (v := .tuple #[.agg (readOf x).cells.toArray, .int .i64 0]) (results_cell_tmp rfl _ _ g11 0 _ _ _ rfl rfl Tryd.underlying27 rfl (by rw [List.size_toArray, HWF.out.cells]; exact info27) (Blk.all FB'.out rfl)) rfl ⟨(by rw [(dec_yes (show isReg x = true from by simp [isReg, HGD.out, HEX.out])).1, (dec_yes (show isReg x = true from by simp [isReg, HGD.out, HEX.out])).2]), F136.out⟩
            · have HEX := Lib.hid hex
              clear hex
              have HE := Lib.hid (enc_length HWF.out.len)
              go_upto_region 8 with fail
              refine wp_region_lit ?_
              refine load27 (cs := (readOf x).cells.toArray) (Blk.all FC.out rfl) (by rw [List.size_toArray]; exact HWF.out.cells) rfl rfl ?_
              try simp only [Act.put, List.setIfInBounds_toArray, List.set_cons_succ, List.set_cons_zero]
              refine wpList_op rfl fun K hK => ?_
              go_simp
              refine (rencode_yes HGD.out HWF.out _).mono ?_
              rintro e w112 ⟨rfl, hb⟩
              have F113 := Lib.hid (FA.out.below hb FA.out.lt)
              have F114 := Lib.hid (FB.out.below hb FB.out.lt)
              have F115 := Lib.hid (FC.out.below hb FC.out.lt)
              have F116 := Lib.hid (FL.out.trans (hb.mono FL.out.size))
              clear FA FB FC FL
              clear hb
              refine hK _ _ ?_
              clear hK K
              try simp only [Act.put, List.setIfInBounds_toArray, List.set_cons_succ, List.set_cons_zero]
              refine takeL (.tuple #[.agg (u8s (readOf x).enc).toArray, .int .i64 0]) rfl (by go_simp) ?_
              try simp only [Act.put, List.setIfInBounds_toArray, List.set_cons_succ, List.set_cons_zero]
              refine takeL (.agg (u8s (readOf x).enc).toArray) rfl (by go_simp) ?_
              try simp only [Act.put, List.setIfInBounds_toArray, List.set_cons_succ, List.set_cons_zero]
              refine takeL (.int .i64 0) rfl (by go_simp) ?_
              try simp only [Act.put, List.setIfInBounds_toArray, List.set_cons_succ, List.set_cons_zero]
              refine alloc_g zero30 rfl ?_
              intro w117 hA hb hl
              try simp only [Act.put, List.setIfInBounds_toArray, List.set_cons_succ, List.set_cons_zero]
              clear hl
              have HN118 := Lib.hid (Nat.ne_of_lt F113.out.lt)
              have HN119 := Lib.hid (Nat.ne_of_lt F114.out.lt)
              have HN120 := Lib.hid (Nat.ne_of_lt F115.out.lt)
              have HG121 : Hid (w.heap.size ≤ w112.heap.size) := Lib.hid F116.out.size
              have F122 := Lib.hid (F113.out.below hb F113.out.lt)
              have F123 := Lib.hid (F114.out.below hb F114.out.lt)
              have F124 := Lib.hid (F115.out.below hb F115.out.lt)
              have F125 := Lib.hid (F116.out.trans (hb.mono F116.out.size))
              clear F113 F114 F115 F116
              have F126 : Hid (Blk w117 w112.heap.size (u8s (zeros 128))) := Lib.hid hA
              clear hA hb
              generalize w112.heap.size = g127 at *
              clear w112
              refine store_all (cs := (u8s (readOf x).enc).toArray) F126.out (by simp only [u8s_size, List.size_toArray, List.length_map, HZ128.out, HE.out]) (by rw [u8s_size, HE.out]; exact info30) (u8s_one _) rfl rfl rfl ?_
              intro w128 hD hO hlD
              try simp only [Act.put, List.setIfInBounds_toArray, List.set_cons_succ, List.set_cons_zero]
              clear hlD
              have F129 := Lib.hid (F122.out.only hO (HN118.out))
              have F130 := Lib.hid (F123.out.only hO (HN119.out))
              have F131 := Lib.hid (F124.out.only hO (HN120.out))
              have F132 := Lib.hid (F125.out.trans (hO.below F125.out.size (fun k hk => by rw [hk]; exact HG121.out)))
              clear F122 F123 F124 F125 F126
              have F126' : Hid (Blk w128 g127 (u8s (readOf x).enc)) := Lib.hid hD
              clear hD hO 
              refine takeL (.int .i64 0) rfl (by go_simp) ?_
              try simp only [Act.put, List.setIfInBounds_toArray, List.set_cons_succ, List.set_cons_zero]
              refine wpList_nil ?_
              go_upto_region 9 with fail
              refine wp_region_lit ?_
              refine takeL (.int .i64 0) rfl (by go_simp) ?_
              try simp only [Act.put, List.setIfInBounds_toArray, List.set_cons_succ, List.set_cons_zero]
              refine takeL (.bool false) rfl (by go_simp) ?_
              try simp only [Act.put, List.setIfInBounds_toArray, List.set_cons_succ, List.set_cons_zero]
              refine takeL (.bool false) rfl (by go_simp) ?_
              try simp only [Act.put, List.setIfInBounds_toArray, List.set_cons_succ, List.set_cons_zero]
              refine load30 (cs := (u8s (readOf x).enc).toArray) (Blk.all F126'.out rfl) (by rw [u8s_size, HE.out]) rfl rfl ?_
              try simp only [Act.put, List.setIfInBounds_toArray, List.set_cons_succ, List.set_cons_zero]
              refine load30 (cs := (u8s x).toArray) (Blk.all F129.out rfl) (by rw [u8s_size, HXL.out]) rfl rfl ?_
              try simp only [Act.put, List.setIfInBounds_toArray, List.set_cons_succ, List.set_cons_zero]
              refine takeL (.bool true) rfl (by exact run_neq_two (v := true) (decide_eq_false HEX.out) HE.out HXL.out _ _ _ rfl rfl rfl) ?_
              try simp only [Act.put, List.setIfInBounds_toArray, List.set_cons_succ, List.set_cons_zero]
              refine takeL (.bool true) rfl (by go_simp) ?_
              try simp only [Act.put, List.setIfInBounds_toArray, List.set_cons_succ, List.set_cons_zero]
              refine wpList_nil ?_
              go_upto_region 10 with fail
              refine wp_region_lit ?_
              refine build_g (build27 _) rfl ?_
              try simp only [Act.put, List.setIfInBounds_toArray, List.set_cons_succ, List.set_cons_zero]
              refine store_all (cs := Rg.none.cells.toArray) F130.out (by simp only [u8s_size, List.size_toArray, List.length_map, HWN.out.cells, HWN.out.cells]) (by rw [List.size_toArray, HWN.out.cells]; exact info27) (fun v hv => Rg.cell_one _ v (by simpa using hv)) rfl rfl rfl ?_
              intro w133 hD hO hlD
              try simp only [Act.put, List.setIfInBounds_toArray, List.set_cons_succ, List.set_cons_zero]
              clear hlD
              have F134 := Lib.hid (F129.out.only hO (HNab.out))
              have F135 := Lib.hid (F131.out.only hO (HNbc.out.symm))
              have F136 := Lib.hid (F132.out.trans (hO.below F132.out.size (fun k hk => by rw [hk]; exact HGb.out)))
              have F137 := Lib.hid (F126'.out.only hO (HN119.out.symm))
              clear F129 F131 F132 F126' F130
              have FB' : Hid (Blk w133 g11 Rg.none.cells) := Lib.hid hD
              clear hD hO 
              refine takeL (.int .i64 11) rfl (by go_simp) ?_
              try simp only [Act.put, List.setIfInBounds_toArray, List.set_cons_succ, List.set_cons_zero]
              refine wpList_nil ?_
              go_wp2_with fail
              exact bodyPost_ret (v := .tuple #[.agg Rg.none.cells.toArray, .int .i64 11]) (results_cell_tmp rfl _ _ g11 0 _ _ _ rfl rfl Tryd.underlying27 rfl (by rw [List.size_toArray, HWN.out.cells]; exact info27) (Blk.all FB'.out rfl)) rfl ⟨(by rw [(dec_no (show isReg x = false from by simp [isReg, HEX.out])).1, (dec_no (show isReg x = false from by simp [isReg, HEX.out])).2]), F136.out⟩
end Go.Proofs.YtlleafhfogfngaaDoor
