/- What the fields of two sectors say: package region's read. -/
import Derived.Test.YtoiekieddkadmaaDoorEnc
namespace Go.Proofs.YtoiekieddkadmaaDoor
set_option linter.unusedSimpArgs false
set_option linter.unusedVariables false
open Go.RowKit

/-- What is known while the fields are read. -/
structure RS (W w : World) (a b c : Nat) (x : List Int) (L : List Value) : Prop where
  arg : Blk w a (u8s x)
  res : Blk w b Rg.none.cells
  var : Blk w c L
  bel : Below W.heap.size W w
  ab : a ≠ b
  ac : a ≠ c
  bc : b ≠ c
  lb : W.heap.size ≤ b
  lc : W.heap.size ≤ c
theorem RS.below {W w w' : World} {a b c : Nat} {x : List Int} {L : List Value} (h : RS W w a b c x L) (hb : Below w.heap.size w w') : RS W w' a b c x L :=
  ⟨h.arg.below hb h.arg.lt, h.res.below hb h.res.lt, h.var.below hb h.var.lt, h.bel.trans (hb.mono h.bel.size), h.ab, h.ac, h.bc, h.lb, h.lc⟩
theorem RS.put {W w w' : World} {a b c : Nat} {x : List Int} {L M : List Value} (h : RS W w a b c x L) (ho : Only (fun k => k = c) w w') (hs : Blk w' c M) : RS W w' a b c x M :=
  ⟨h.arg.only ho h.ac, h.res.only ho h.bc, hs, h.bel.trans (ho.below h.bel.size fun k hk => by rw [hk]; exact h.lc), h.ab, h.ac, h.bc, h.lb, h.lc⟩
theorem RS.set {W w : World} {a b c : Nat} {x : List Int} {L : List Value} (h : RS W w a b c x L) (i : Nat) (v : Value) : RS W (w.setCell ⟨c, i, none⟩ v) a b c x (L.set i v) :=
  h.put ((Only.refl (fun k => k = c) w).setCell (p := ⟨c, i, none⟩) (.inl rfl) _) (h.var.set i v)
theorem set_at {H T : List Value} {v y : Value} {o : Nat} (h : H.length = o) : (H ++ (y :: T)).set o v = (H ++ [v]) ++ T := by
  subst h
  rw [List.set_append_right _ _ (Nat.le_refl _), Nat.sub_self]
  simp
theorem get_at {H T : List Value} {y : Value} {o : Nat} (h : H.length = o) : (H ++ (y :: T))[o]? = some y := by
  subst h
  rw [List.getElem?_append_right (Nat.le_refl _), Nat.sub_self]
  rfl
theorem set_at2 {H A T : List Value} {v y : Value} {o : Nat} (h : H.length = o) : (H ++ ((y :: A) ++ T)).set o v = (H ++ [v]) ++ (A ++ T) := set_at h
theorem get_at2 {H A T : List Value} {y : Value} {o : Nat} (h : H.length = o) : (H ++ ((y :: A) ++ T))[o]? = some y := get_at h
def rl (x : List Int) (k : Nat) : List Value := (.int .u32 (num ((x.drop 2).take 4)) :: i64s ((x.drop 6).take k)) ++ (i64s (zeros (6 - k)) ++ (.int .u32 (num ((x.drop 12).take 4)) :: i64s (zeros 8)))
def rm (x : List Int) (k : Nat) : List Value := ((readOf x).hd ++ i64s ((rootsOf x).take k)) ++ i64s (zeros (8 - k))
theorem zeros_cons (n : Nat) : i64s (zeros (n + 1)) = .int .i64 0 :: i64s (zeros n) := rfl
theorem rl_cell (x : List Int) (hx : x.length = 128) {k : Nat} (hk : k < 6) : (rl x k)[1 + k]? = some (.int .i64 0) := by
  unfold rl
  rw [show 6 - k = (5 - k) + 1 by omega, zeros_cons]
  exact get_at2 (by simp [hx]; omega)
theorem rl_next (x : List Int) (hx : x.length = 128) {k : Nat} (hk : k < 6) : (rl x k).set (1 + k) (.int .i64 (x.getD (6 + k) 0)) = rl x (k + 1) := by
  unfold rl
  rw [show 6 - k = (5 - k) + 1 by omega, zeros_cons, set_at2 (by simp [hx]; omega), List.take_add_one (l := x.drop 6), List.getElem?_drop, List.getD_eq_getElem?_getD, List.getElem?_eq_getElem (by omega), show 6 - (k + 1) = 5 - k by omega]
  simp
theorem rl_rm (x : List Int) (hx : x.length = 128) : rl x 6 = rm x 0 := by
  unfold rl rm readOf Rg.hd
  have h6 : (x.drop 6).take 6 = [x.getD 6 0, x.getD 7 0, x.getD 8 0, x.getD 9 0, x.getD 10 0, x.getD 11 0] := by
    apply List.ext_getElem?
    intro i
    by_cases hi : i < 6
    · rw [List.getElem?_take, if_pos hi, List.getElem?_drop, List.getElem?_eq_getElem (by omega)]
      rcases (show i = 0 ∨ i = 1 ∨ i = 2 ∨ i = 3 ∨ i = 4 ∨ i = 5 by omega) with rfl | rfl | rfl | rfl | rfl | rfl <;> simp [List.getElem?_eq_getElem, hx]
    · rw [List.getElem?_eq_none (by simp; omega), List.getElem?_eq_none (by simp; omega)]
  rw [h6]
  simp [zeros]
theorem rm_cell (x : List Int) {k : Nat} (hk : k < 8) : (rm x k)[8 + k]? = some (.int .i64 0) := by
  unfold rm
  rw [show 8 - k = (7 - k) + 1 by omega, zeros_cons]
  exact get_at (by simp [Rg.hd, rootsOf_length]; omega)
theorem rm_next (x : List Int) {k : Nat} (hk : k < 8) : (rm x k).set (8 + k) (.int .i64 (num ((x.drop (70 + 2 * k)).take 2))) = rm x (k + 1) := by
  unfold rm
  rw [show 8 - k = (7 - k) + 1 by omega, zeros_cons, set_at (by simp [Rg.hd, rootsOf_length]; omega), List.take_add_one (l := rootsOf x), rootsOf_at x hk, show 8 - (k + 1) = 7 - k by omega]
  simp
theorem rm_eight (x : List Int) : rm x 8 = (readOf x).cells := by
  unfold rm Rg.cells
  rw [List.take_of_length_le (by rw [rootsOf_length]; omega)]
  simp [zeros, readOf]
theorem built27g (n m : Int) : Tryd.prog.built 27 [(0, .int .u32 n), (4, .int .u32 m)] = some #[.int .u32 n, .int .i64 0, .int .i64 0, .int .i64 0, .int .i64 0, .int .i64 0, .int .i64 0, .int .u32 m, .int .i64 0, .int .i64 0, .int .i64 0, .int .i64 0, .int .i64 0, .int .i64 0, .int .i64 0, .int .i64 0] := by kernel_rfl
theorem rl_zero (x : List Int) : rl x 0 = [.int .u32 (num ((x.drop 2).take 4)), .int .i64 0, .int .i64 0, .int .i64 0, .int .i64 0, .int .i64 0, .int .i64 0, .int .u32 (num ((x.drop 12).take 4)), .int .i64 0, .int .i64 0, .int .i64 0, .int .i64 0, .int .i64 0, .int .i64 0, .int .i64 0, .int .i64 0] := by
  simp [rl, zeros]
theorem part_cells {w : World} {a : Nat} {x : List Int} (h : Blk w a (u8s x)) (o n : Nat) : ∀ i y, ((x.drop o).take n)[i]? = some y → w.cell? ⟨a, o + i, none⟩ = some (.int .u8 y) := fun i y hy => by
  refine h.cell ?_
  rw [List.getElem?_take] at hy
  split at hy
  · rw [List.getElem?_drop] at hy
    rw [List.getElem?_map, hy]
    rfl
  · cases hy
theorem get4_at {w : World} {a : Nat} {x : List Int} (h : Blk w a (u8s x)) (hx : Sc2 x) (o cap : Nat) (ho : o + 4 ≤ 128) : Calls Tryd.prog 53 #[.slice (some ⟨a, o, none⟩) 4 cap] w fun e w' => e = .returned (.int .u32 (num ((x.drop o).take 4))) ∧ w = w' :=
  get4_any w a o cap _ (part_len hx.length ho) (fun y hy => hx.bytes y (List.mem_of_mem_drop (List.mem_of_mem_take hy))) (part_cells h o 4)
theorem get2_at {w : World} {a : Nat} {x : List Int} (h : Blk w a (u8s x)) (hx : Sc2 x) (o cap : Nat) (ho : o + 2 ≤ 128) : Calls Tryd.prog 53 #[.slice (some ⟨a, o, none⟩) 2 cap] w fun e w' => e = .returned (.int .u32 (num ((x.drop o).take 2))) ∧ w = w' :=
  get2_any w a o cap _ (part_len hx.length ho) (fun y hy => hx.bytes y (List.mem_of_mem_drop (List.mem_of_mem_take hy))) (part_cells h o 2)

set_option maxRecDepth 100000 in
theorem read_any (x : List Int) (hx : Sc2 x) (w : World) : Calls Tryd.prog 43 #[.agg (u8s x).toArray] w fun e w' => e = .returned (.agg (readOf x).cells.toArray) ∧ Below w.heap.size w w' := by
  have HSC := Lib.hid hx
  have HXL := Lib.hid hx.length
  have HWN := Lib.hid none_wf
  have HBL : Hid (Below w.heap.size w w) := Lib.hid (Below.refl _ _)
  clear hx
  go_enter Tryd.func43, Tryd.ntmps43
  go_upto_region 0 with fail
  refine wp_region_lit ?_
  refine box_g rfl rfl ?_
  intro w1 hA hb hl
  try simp only [Act.put, List.setIfInBounds_toArray, List.set_cons_succ, List.set_cons_zero]
  clear hl
  have HG2 : Hid (w.heap.size ≤ w.heap.size) := Lib.hid HBL.out.size
  have F3 := Lib.hid (HBL.out.trans (hb.mono HBL.out.size))
  clear HBL
  have F4 : Hid (Blk w1 w.heap.size (u8s x)) := Lib.hid hA
  clear hA hb
  refine alloc_g zero27 rfl ?_
  intro w5 hA hb hl
  try simp only [Act.put, List.setIfInBounds_toArray, List.set_cons_succ, List.set_cons_zero]
  clear hl
  have HN6 := Lib.hid (Nat.ne_of_lt F4.out.lt)
  have HG7 : Hid (w.heap.size ≤ w1.heap.size) := Lib.hid F3.out.size
  have F8 := Lib.hid (F3.out.trans (hb.mono F3.out.size))
  have F9 := Lib.hid (F4.out.below hb F4.out.lt)
  clear F3 F4
  have F10 : Hid (Blk w5 w1.heap.size Rg.none.cells) := Lib.hid hA
  clear hA hb
  generalize w1.heap.size = g11 at *
  clear w1
  refine wpList_nil ?_
  go_upto_region 1 with fail
  go_cut [3] from 3 to 14 (fun s3 wx => ∃ c : Nat, s3 = .pointer (some ⟨c, 0, none⟩) ∧ RS w wx w.heap.size g11 c x (rl x 0))
  case first =>
    refine startH (fun _ => True) (by kernel_rfl) ?_
    refine takeH 0 (some 7) (.pointer (some ⟨w.heap.size, 0, none⟩)) rfl rfl (by kernel_rfl) (by kernel_rfl) (by kernel_rfl) (fun _ _ _ h => h) rfl (fun wq hS => by go_simp) trivial ?_
    try simp only [Act.put, List.setIfInBounds_toArray, List.set_cons_succ, List.set_cons_zero]
    refine takeH 1 (some 8) (.slice (some ⟨w.heap.size, 2, none⟩) 4 62) rfl rfl (by kernel_rfl) (by kernel_rfl) (by kernel_rfl) (fun _ _ _ h => h) rfl (fun wq hS => by go_simp) trivial ?_
    try simp only [Act.put, List.setIfInBounds_toArray, List.set_cons_succ, List.set_cons_zero]
    refine takeH 3 (some 10) (.pointer (some ⟨w.heap.size, 0, none⟩)) rfl rfl (by kernel_rfl) (by kernel_rfl) (by kernel_rfl) (fun _ _ _ h => h) rfl (fun wq hS => by go_simp) trivial ?_
    try simp only [Act.put, List.setIfInBounds_toArray, List.set_cons_succ, List.set_cons_zero]
    refine takeH 4 (some 11) (.slice (some ⟨w.heap.size, 12, none⟩) 4 52) rfl rfl (by kernel_rfl) (by kernel_rfl) (by kernel_rfl) (fun _ _ _ h => h) rfl (fun wq hS => by go_simp) trivial ?_
    try simp only [Act.put, List.setIfInBounds_toArray, List.set_cons_succ, List.set_cons_zero]
    refine twoH 2 7 (by kernel_rfl) rfl rfl rfl rfl (fun K hK => ?_) (fun K hK => ?_)
    · go_simp
      refine (get4_at F9.out.drew HSC.out 2 62 (by decide)).mono ?_
      rintro e w1 ⟨rfl, rfl⟩
      refine hK _ _ trivial ?_
      clear hK K
      try simp only [Act.put, List.setIfInBounds_toArray, List.set_cons_succ, List.set_cons_zero]
      refine twoH 5 7 (by kernel_rfl) rfl rfl rfl rfl (fun K hK => ?_) (fun K hK => ?_)
      · go_simp
        refine (get4_at F9.out.drew HSC.out 12 52 (by decide)).mono ?_
        rintro e w1 ⟨rfl, rfl⟩
        refine hK _ _ trivial ?_
        clear hK K
        try simp only [Act.put, List.setIfInBounds_toArray, List.set_cons_succ, List.set_cons_zero]
        refine takeH 6 (some 13) (.agg (rl x 0).toArray) rfl rfl (by kernel_rfl) (by kernel_rfl) (by kernel_rfl) (fun _ _ _ h => h) rfl (fun wq hS => by rw [rl_zero]; exact exec_build _ _ _ _ 27 _ rfl #[(0, .int .u32 (num ((x.drop 2).take 4))), (4, .int .u32 (num ((x.drop 12).take 4)))] (by simp only [List.map_toArray, List.map_cons, List.map_nil]; rfl) _ (run_build _ 27 _ _ (built27g _ _))) trivial ?_
        try simp only [Act.put, List.setIfInBounds_toArray, List.set_cons_succ, List.set_cons_zero]
        refine oneH 7 (by kernel_rfl) rfl rfl fun K hK => ?_
        refine wp_runTo (some 3) rfl _ _ (exec_alloc _ _ _ 27 rfl _ zero27) ?_
        refine hK _ _ trivial ?_
        clear hK K
        try simp only [Act.put, List.setIfInBounds_toArray, List.set_cons_succ, List.set_cons_zero]
        refine oneH 8 (by kernel_rfl) rfl rfl fun K hK => ?_
        refine store_W none rfl rfl (Blk.newAt (w := w5.drew) (cs := Rg.none.cells.toArray) 27 w5.heap.size Rg.none.cells rfl rfl) (by rw [rl_zero]; rfl) (by rw [rl_zero]; exact info27) (by rw [rl_zero]; exact fun v hv => by simp only [List.mem_toArray, List.mem_cons, List.not_mem_nil, or_false] at hv; rcases hv with rfl | rfl | rfl | rfl | rfl | rfl | rfl | rfl | rfl | rfl | rfl | rfl | rfl | rfl | rfl | rfl <;> rfl) rfl rfl fun wy hD hO => ?_
        have hal : Below w5.heap.size w5 (w5.drew.alloc (.cells Rg.none.cells.toArray 27)) := (Below.refl _ _).drew.alloc (Nat.le_refl _) _
        refine hK _ _ trivial ?_
        clear hK K
        try simp only [Act.put, List.setIfInBounds_toArray, List.set_cons_succ, List.set_cons_zero]
        refine wpAnyH_done (by kernel_rfl) ?_ _
        go_wp2_with fail
        go_meet
        exact ⟨w5.heap.size, rfl, (F9.out.below hal F9.out.lt).only hO (Nat.ne_of_lt F9.out.lt), (F10.out.below hal F10.out.lt).only hO (Nat.ne_of_lt F10.out.lt), hD, (F8.out.trans (hal.mono F8.out.size)).trans (hO.below (Nat.le_trans F8.out.size hal.size) fun k hk => by rw [hk]; exact F8.out.size), HN6.out, Nat.ne_of_lt F9.out.lt, Nat.ne_of_lt F10.out.lt, HG7.out, F8.out.size⟩
      · refine wp_runTo (some 3) rfl _ _ (exec_alloc _ _ _ 27 rfl _ zero27) ?_
        refine hK _ _ trivial ?_
        clear hK K
        try simp only [Act.put, List.setIfInBounds_toArray, List.set_cons_succ, List.set_cons_zero]
        refine oneH 5 (by kernel_rfl) rfl rfl fun K hK => ?_
        go_simp
        refine (get4_at (F9.out.drew.below ((Below.refl w5.heap.size w5.drew).alloc (Nat.le_refl w5.heap.size) (.cells Rg.none.cells.toArray 27)) F9.out.lt) HSC.out 12 52 (by decide)).mono ?_
        rintro e w1 ⟨rfl, rfl⟩
        refine hK _ _ trivial ?_
        clear hK K
        try simp only [Act.put, List.setIfInBounds_toArray, List.set_cons_succ, List.set_cons_zero]
        refine takeH 6 (some 13) (.agg (rl x 0).toArray) rfl rfl (by kernel_rfl) (by kernel_rfl) (by kernel_rfl) (fun _ _ _ h => h) rfl (fun wq hS => by rw [rl_zero]; exact exec_build _ _ _ _ 27 _ rfl #[(0, .int .u32 (num ((x.drop 2).take 4))), (4, .int .u32 (num ((x.drop 12).take 4)))] (by simp only [List.map_toArray, List.map_cons, List.map_nil]; rfl) _ (run_build _ 27 _ _ (built27g _ _))) trivial ?_
        try simp only [Act.put, List.setIfInBounds_toArray, List.set_cons_succ, List.set_cons_zero]
        refine oneH 8 (by kernel_rfl) rfl rfl fun K hK => ?_
        refine store_W none rfl rfl (Blk.newAt (w := w5.drew) (cs := Rg.none.cells.toArray) 27 w5.heap.size Rg.none.cells rfl rfl) (by rw [rl_zero]; rfl) (by rw [rl_zero]; exact info27) (by rw [rl_zero]; exact fun v hv => by simp only [List.mem_toArray, List.mem_cons, List.not_mem_nil, or_false] at hv; rcases hv with rfl | rfl | rfl | rfl | rfl | rfl | rfl | rfl | rfl | rfl | rfl | rfl | rfl | rfl | rfl | rfl <;> rfl) rfl rfl fun wy hD hO => ?_
        have hal : Below w5.heap.size w5 (w5.drew.alloc (.cells Rg.none.cells.toArray 27)) := (Below.refl _ _).drew.alloc (Nat.le_refl _) _
        refine hK _ _ trivial ?_
        clear hK K
        try simp only [Act.put, List.setIfInBounds_toArray, List.set_cons_succ, List.set_cons_zero]
        refine wpAnyH_done (by kernel_rfl) ?_ _
        go_wp2_with fail
        go_meet
        exact ⟨w5.heap.size, rfl, (F9.out.below hal F9.out.lt).only hO (Nat.ne_of_lt F9.out.lt), (F10.out.below hal F10.out.lt).only hO (Nat.ne_of_lt F10.out.lt), hD, (F8.out.trans (hal.mono F8.out.size)).trans (hO.below (Nat.le_trans F8.out.size hal.size) fun k hk => by rw [hk]; exact F8.out.size), HN6.out, Nat.ne_of_lt F9.out.lt, Nat.ne_of_lt F10.out.lt, HG7.out, F8.out.size⟩
    · refine wp_runTo (some 3) rfl _ _ (exec_alloc _ _ _ 27 rfl _ zero27) ?_
      refine hK _ _ trivial ?_
      clear hK K
      try simp only [Act.put, List.setIfInBounds_toArray, List.set_cons_succ, List.set_cons_zero]
      refine oneH 2 (by kernel_rfl) rfl rfl fun K hK => ?_
      go_simp
      refine (get4_at (F9.out.drew.below ((Below.refl w5.heap.size w5.drew).alloc (Nat.le_refl w5.heap.size) (.cells Rg.none.cells.toArray 27)) F9.out.lt) HSC.out 2 62 (by decide)).mono ?_
      rintro e w1 ⟨rfl, rfl⟩
      refine hK _ _ trivial ?_
      clear hK K
      try simp only [Act.put, List.setIfInBounds_toArray, List.set_cons_succ, List.set_cons_zero]
      refine oneH 5 (by kernel_rfl) rfl rfl fun K hK => ?_
      go_simp
      refine (get4_at (F9.out.drew.below ((Below.refl w5.heap.size w5.drew).alloc (Nat.le_refl w5.heap.size) (.cells Rg.none.cells.toArray 27)) F9.out.lt) HSC.out 12 52 (by decide)).mono ?_
      rintro e w1 ⟨rfl, rfl⟩
      refine hK _ _ trivial ?_
      clear hK K
      try simp only [Act.put, List.setIfInBounds_toArray, List.set_cons_succ, List.set_cons_zero]
      refine takeH 6 (some 13) (.agg (rl x 0).toArray) rfl rfl (by kernel_rfl) (by kernel_rfl) (by kernel_rfl) (fun _ _ _ h => h) rfl (fun wq hS => by rw [rl_zero]; exact exec_build _ _ _ _ 27 _ rfl #[(0, .int .u32 (num ((x.drop 2).take 4))), (4, .int .u32 (num ((x.drop 12).take 4)))] (by simp only [List.map_toArray, List.map_cons, List.map_nil]; rfl) _ (run_build _ 27 _ _ (built27g _ _))) trivial ?_
      try simp only [Act.put, List.setIfInBounds_toArray, List.set_cons_succ, List.set_cons_zero]
      refine oneH 8 (by kernel_rfl) rfl rfl fun K hK => ?_
      refine store_W none rfl rfl (Blk.newAt (w := w5.drew) (cs := Rg.none.cells.toArray) 27 w5.heap.size Rg.none.cells rfl rfl) (by rw [rl_zero]; rfl) (by rw [rl_zero]; exact info27) (by rw [rl_zero]; exact fun v hv => by simp only [List.mem_toArray, List.mem_cons, List.not_mem_nil, or_false] at hv; rcases hv with rfl | rfl | rfl | rfl | rfl | rfl | rfl | rfl | rfl | rfl | rfl | rfl | rfl | rfl | rfl | rfl <;> rfl) rfl rfl fun wy hD hO => ?_
      have hal : Below w5.heap.size w5 (w5.drew.alloc (.cells Rg.none.cells.toArray 27)) := (Below.refl _ _).drew.alloc (Nat.le_refl _) _
      refine hK _ _ trivial ?_
      clear hK K
      try simp only [Act.put, List.setIfInBounds_toArray, List.set_cons_succ, List.set_cons_zero]
      refine wpAnyH_done (by kernel_rfl) ?_ _
      go_wp2_with fail
      go_meet
      exact ⟨w5.heap.size, rfl, (F9.out.below hal F9.out.lt).only hO (Nat.ne_of_lt F9.out.lt), (F10.out.below hal F10.out.lt).only hO (Nat.ne_of_lt F10.out.lt), hD, (F8.out.trans (hal.mono F8.out.size)).trans (hO.below (Nat.le_trans F8.out.size hal.size) fun k hk => by rw [hk]; exact F8.out.size), HN6.out, Nat.ne_of_lt F9.out.lt, Nat.ne_of_lt F10.out.lt, HG7.out, F8.out.size⟩
  case rest =>
    obtain ⟨c, rfl, hrs⟩ := hcut
    have HL := Lib.hid hrs
    clear hrs F9 F10 F8 HN6 HG2 HG7
    go_wp2_with fail
    refine (small_at c _).mono ?_
    rintro e w7 ⟨rfl, hb⟩
    have HN := Lib.hid (HL.out.below hb)
    clear hb HL
    go_wp2_with fail
    go_loopg [15] 6 (fun q i wr => ∃ k : Nat, 6 - k ≤ q ∧ k ≤ 6 ∧ i = .int .i64 k ∧ RS w wr w.heap.size g11 c x (rl x k))
    case atStart => exact ⟨0, by omega, by omega, rfl, HN.out⟩
    case round =>
      obtain ⟨k, hq, hk, rfl, hls⟩ := hrel
      have HM := Lib.hid hls
      clear HN hls
      clear w7
      by_cases h6 : k < 6
      · have hi := sixAt_at c k h6
        obtain ⟨p0, p1⟩ := sc_byte HSC.out (6 + k)
        have c0 := HM.out.arg.u8 (i := 6 + k) (by rw [HXL.out]; omega)
        have d0 := HM.out.var.cell (rl_cell x HXL.out h6)
        have f0 := HM.out.var.frozen (1 + k)
        have HX : Hid (x.getD (6 + k) 0 = x.getD (6 + k) 0) := Lib.hid rfl
        generalize hy : x.getD (6 + k) 0 = y at c0 p0 p1
        have HY := Lib.hid hy
        clear hy HX
        go_wp2_with fail
        go_roundg (6 - (k + 1))
        case measure => omega
        case rel =>
          have hs := HM.out.set (1 + k) (.int .i64 y)
          rw [← HY.out, rl_next x HXL.out h6] at hs
          exact ⟨k + 1, by omega, by omega, by go_num, by rw [← HY.out]; exact hs⟩
      · obtain rfl : k = 6 := by omega
        rw [rl_rm x HXL.out] at HM
        go_wp2_with fail
        go_loopg [28] 8 (fun q i wr => ∃ k : Nat, 8 - k ≤ q ∧ k ≤ 8 ∧ i = .int .i64 k ∧ RS w wr w.heap.size g11 c x (rm x k))
        case atStart => exact ⟨0, by omega, by omega, rfl, HM.out⟩
        case round =>
          obtain ⟨k, hq, hk, rfl, hls⟩ := hrel
          have HN := Lib.hid hls
          clear HM hls
          by_cases h8 : k < 8
          · have HRA := Lib.hid fun W => rootAt_any W w.heap.size k h8
            obtain ⟨p0, p1⟩ : 0 ≤ num ((x.drop (70 + 2 * k)).take 2) ∧ num ((x.drop (70 + 2 * k)).take 2) < 65536 := num_part HSC.out (70 + 2 * k) 2 (by omega)
            have HG := Lib.hid fun W (h : Blk W w.heap.size (u8s x)) => get2_at h HSC.out (70 + 2 * k) (58 - 2 * k) (by omega)
            have hn := rm_next x h8
            generalize num ((x.drop (70 + 2 * k)).take 2) = y at *
            have HNX := Lib.hid hn
            clear hn
            go_wp2_with fail
            refine (HRA.out _).mono ?_
            rintro e w9 ⟨rfl, rfl⟩
            go_wp2_with fail
            refine (HG.out _ HN.out.arg).mono ?_
            rintro e w9 ⟨rfl, rfl⟩
            have d0 := HN.out.var.cell (rm_cell x h8)
            have f0 := HN.out.var.frozen (8 + k)
            go_wp2_with fail
            go_roundg (8 - (k + 1))
            case measure => omega
            case rel =>
              have hs := HN.out.set (8 + k) (.int .i64 y)
              rw [HNX.out] at hs
              exact ⟨k + 1, by omega, by omega, by go_num, hs⟩
          · obtain rfl : k = 8 := by omega
            rw [rm_eight] at HN
            have HWF := Lib.hid (readOf_wf HSC.out)
            go_upto_region 12 with fail
            refine wp_region_lit ?_
            refine load27 (cs := (readOf x).cells.toArray) (Blk.all HN.out.var rfl) (by rw [List.size_toArray]; exact HWF.out.cells) rfl rfl ?_
            try simp only [Act.put, List.setIfInBounds_toArray, List.set_cons_succ, List.set_cons_zero]
            refine store_all (cs := (readOf x).cells.toArray) HN.out.res (by simp only [List.size_toArray, HWN.out.cells, HWF.out.cells]) (by rw [List.size_toArray, HWF.out.cells]; exact info27) (fun v hv => Rg.cell_one _ v (by simpa using hv)) rfl rfl rfl ?_
            intro wz hD hO hl
            try simp only [Act.put, List.setIfInBounds_toArray, List.set_cons_succ, List.set_cons_zero]
            have HB := Lib.hid (HN.out.bel.trans (hO.below HN.out.bel.size (fun k hk => by rw [hk]; exact HN.out.lb)))
            refine wpList_nil ?_
            go_wp2_with fail
            exact bodyPost_ret (v := .agg (readOf x).cells.toArray) (results_cell_at rfl _ _ g11 0 _ _ rfl Tryd.underlying27 rfl (by rw [List.size_toArray, HWF.out.cells]; exact info27) (Blk.all hD rfl)) rfl ⟨rfl, HB.out⟩
end Go.Proofs.YtoiekieddkadmaaDoor
