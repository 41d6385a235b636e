/- What the statements' own reference says of any geometry. -/
import Derived.Test.YtlleafhfogfngaaDoorPlan
import Derived.RegionTactic
namespace Go.Proofs.YtlleafhfogfngaaDoor
set_option linter.unusedSimpArgs false
set_option linter.unusedVariables false
open Go.RowKit

theorem if_min (a b : Int) : (if b < a then b else a) = min a b := by split <;> omega
theorem if_max (a b : Int) : (if a < b then b else a) = max a b := by split <;> omega
def Gm.cap (g : Gm) : Int := max 0 (min g.p ((4 * (g.s - 4) - g.maps) / 3))
theorem Gm.Ok.maps {g : Gm} (h : g.Ok) : 1 ≤ g.maps ∧ g.maps ≤ 8 ∧ g.p ≤ g.maps * 8 ∧ (g.maps - 1) * 8 < g.p := by
  obtain ⟨⟨h1, h2⟩, _, _, _⟩ := h
  unfold Gm.maps
  rw [Int.tdiv_eq_ediv_of_nonneg (by omega)]
  omega
theorem results_blk {P : Program} {fn : Func} {p : Tmp} {ty : TypeId} (h : fn.results = #[.cell p ty]) (tmps : Array Value) (w : World) (g : Nat) (l : List Value) (d : TypeDesc)
    (hp : tmps.getD p undef = .pointer (some ⟨g, 0, none⟩)) (hg : Blk w g l) (hu : P.underlying ty = some d) (hd : (match d with | .struct _ | .array _ _ => true | _ => false) = true) (hi : (P.info? ty).map (·.size) = some l.length) :
    (results fn tmps).run P w = .ok (.agg l.toArray) w := by
  obtain ⟨t, ht⟩ := hg
  exact results_cell_row h tmps w g t l.toArray _ d hp ht hu hd (by simpa using hi)
theorem ret_three {a b c a' b' c' : Int} (h0 : a = a') (h1 : b = b') (h2 : c = c') : Ending.returned (.agg #[.int .i64 a, .int .i64 b, .int .i64 c]) = Ending.returned (.agg #[.int .i64 a', .int .i64 b', .int .i64 c']) := by
  subst h0 h1 h2
  rfl
theorem info60 : (Tryd.prog.info? 60).map (·.size) = some 3 := by kernel_rfl
theorem info63 : (Tryd.prog.info? 63).map (·.size) = some 3 := by kernel_rfl

theorem small_any (w : World) : Calls Tryd.prog 24 #[] w fun e w' => e = .returned (.agg #[.int .i64 16, .int .i64 8, .int .i64 24, .int .i64 4]) ∧ Below w.heap.size w w' := by
  go_enter Tryd.func24, Tryd.ntmps24
  go_wp2_with fail
  exact bodyPost_ret (v := .agg #[.int .i64 16, .int .i64 8, .int .i64 24, .int .i64 4]) (results_cell_row rfl _ _ w.heap.size 24 #[.int .i64 16, .int .i64 8, .int .i64 24, .int .i64 4] _ _ rfl (heap_alloc_new w _) Tryd.underlying24 rfl info24) rfl ⟨rfl, (Below.refl _ _).alloc (Nat.le_refl _) _⟩
theorem two_boxes {g : Gm} {w w1 : World} {a b c : Value} {t : TypeId} (hb : Below ((g.box w).alloc (.cells #[a, b, c] t)).heap.size ((g.box w).alloc (.cells #[a, b, c] t)) w1) :
    Below w.heap.size w w1 ∧ GAt w1 w.heap.size g ∧ Blk w1 (w.heap.size + 1) [a, b, c] ∧ w.heap.size + 2 ≤ w1.heap.size :=
  ⟨((box_below g w).alloc (by simp) _).trans (hb.mono (by simp; omega)), ((GAt.box g w).below ((Below.refl (g.box w).heap.size _).alloc (Nat.le_refl _) _) (by simp)).below hb (by simp; omega), (Blk.newAt t _ _ (by simp) rfl).below hb (by simp), by have := hb.size; simp at this; omega⟩
theorem Blk.allocs {w : World} {b : Nat} {l : List Value} (h : Blk w b l) (i : Nat) (v : Value) (hi : l[i]? = some v) : ∀ o, (w.alloc o).cell? ⟨b, i, none⟩ = some v := fun o => (h.alloc o).cell hi
theorem Blk.frozens {w : World} {b : Nat} {l : List Value} (h : Blk w b l) (i : Nat) : ∀ o, (w.alloc o).frozen? ⟨b, i, none⟩ = false := fun o => (h.alloc o).frozen i
theorem GAt.allocs {w : World} {b : Nat} {g : Gm} (h : GAt w b g) (hlt : b < w.heap.size) (o : Obj) : GAt (w.alloc o) b g := h.below ((Below.refl w.heap.size w).alloc (Nat.le_refl _) o) hlt
theorem rof_no (g : Gm) (h : ¬ g.Ok) (w : World) : Calls Tryd.prog 22 #[g.v] w fun e w' => e = .returned (.agg #[.int .i64 0, .int .i64 0, .int .i64 0]) ∧ Below w.heap.size w w' := by
  have H := Lib.hid fun w => rgood_no g h w
  clear h
  go_enter Tryd.func22, Tryd.ntmps22
  go_wp2_with fail
  refine (H.out _).mono ?_
  rintro e w1 ⟨rfl, hb⟩
  have HB := Lib.hid (two_boxes hb)
  clear hb
  have d0 := HB.out.2.2.1.cell (i := 0) rfl
  have d1 := HB.out.2.2.1.cell (i := 1) rfl
  have d2 := HB.out.2.2.1.cell (i := 2) rfl
  have f0 := HB.out.2.2.1.frozen 0
  have f1 := HB.out.2.2.1.frozen 1
  have f2 := HB.out.2.2.1.frozen 2
  go_wp2_with fail
  exact bodyPost_ret (results_blk rfl _ _ (w.heap.size + 1) [_, _, _] _ rfl (((HB.out.2.2.1.set 0 _).set 1 _).set 2 _) Tryd.underlying60 rfl info60) rfl ⟨rfl, ((HB.out.1.setCell (by simp) _).setCell (by simp) _).setCell (by simp) _⟩
theorem rof_yes (g : Gm) (h : g.Ok) (w : World) : Calls Tryd.prog 22 #[g.v] w fun e w' => e = .returned (.agg #[.int .i64 g.maps, .int .i64 (4 + g.s * g.l), .int .i64 g.cap]) ∧ Below w.heap.size w w' := by
  have H := Lib.hid fun w => rgood_yes g h w
  obtain ⟨a0, a1⟩ := h.area
  obtain ⟨m0, m1, _⟩ := h.maps
  obtain ⟨⟨h1, h2⟩, ⟨h3, h4⟩, _, _⟩ := h
  have HM : Hid (g.maps = (g.p + 7) / 8) := Lib.hid (by unfold Gm.maps; rw [Int.tdiv_eq_ediv_of_nonneg (by omega)])
  have hm : 1 ≤ (g.p + 7) / 8 ∧ (g.p + 7) / 8 ≤ 8 := by omega
  obtain ⟨hm1, hm2⟩ := hm
  go_enter Tryd.func22, Tryd.ntmps22
  go_wp2_with fail
  refine (H.out _).mono ?_
  rintro e w1 ⟨rfl, hb⟩
  have HB := Lib.hid (two_boxes hb)
  clear hb
  obtain ⟨c0, c1, c2, c3⟩ := HB.out.2.1
  have e0 := fun o => (HB.out.2.1.allocs (by have := HB.out.2.2.2; omega) o).p
  have e1 := fun o => (HB.out.2.1.allocs (by have := HB.out.2.2.2; omega) o).s
  have d0 := HB.out.2.2.1.allocs 0 _ rfl
  have d1 := HB.out.2.2.1.allocs 1 _ rfl
  have d2 := HB.out.2.2.1.allocs 2 _ rfl
  have f0 := HB.out.2.2.1.frozens 0
  have f1 := HB.out.2.2.1.frozens 1
  have f2 := HB.out.2.2.1.frozens 2
  go_wp2_with fail
  all_goals
    refine bodyPost_ret (results_blk rfl _ _ (w.heap.size + 1) [_, _, _] _ rfl ((((HB.out.2.2.1.alloc _).set 0 _).set 1 _).set 2 _) Tryd.underlying60 rfl info60) rfl ⟨ret_three HM.out.symm rfl ?_, (((HB.out.1.alloc HB.out.1.size _).setCell (by simp) _).setCell (by simp) _).setCell (by simp) _⟩
    unfold Gm.cap
    rw [HM.out]
    omega
theorem field60 (a b c : Int) (w : World) : (Instr.field 60 (.agg #[.int .i64 a, .int .i64 b, .int .i64 c]) 1).run Tryd.prog w = .ok (.int .i64 b) w := by kernel_rfl
theorem rwhere_no (g : Gm) (h : ¬ g.Ok) (n : Int) (w : World) : Calls Tryd.prog 23 #[g.v, .int .i64 n] w fun e w' => e = .returned (.agg #[.int .i64 0, .int .i64 0, .bool false]) ∧ Below w.heap.size w w' := by
  have H := Lib.hid fun w => rgood_no g h w
  clear h
  go_enter Tryd.func23, Tryd.ntmps23
  go_wp2_with fail
  refine (H.out _).mono ?_
  rintro e w1 ⟨rfl, hb⟩
  have HB := Lib.hid (two_boxes hb)
  clear hb
  have d0 := HB.out.2.2.1.cell (i := 0) rfl
  have d1 := HB.out.2.2.1.cell (i := 1) rfl
  have d2 := HB.out.2.2.1.cell (i := 2) rfl
  have f0 := HB.out.2.2.1.frozen 0
  have f1 := HB.out.2.2.1.frozen 1
  have f2 := HB.out.2.2.1.frozen 2
  go_wp2_with fail
  exact bodyPost_ret (results_blk rfl _ _ (w.heap.size + 1) [_, _, _] _ rfl (((HB.out.2.2.1.set 0 _).set 1 _).set 2 _) Tryd.underlying63 rfl info63) rfl ⟨rfl, ((HB.out.1.setCell (by simp) _).setCell (by simp) _).setCell (by simp) _⟩
theorem rwhere_low (g : Gm) (h : g.Ok) (n : Int) (hn : n < 4) (w : World) : Calls Tryd.prog 23 #[g.v, .int .i64 n] w fun e w' => e = .returned (.agg #[.int .i64 0, .int .i64 0, .bool false]) ∧ Below w.heap.size w w' := by
  have H := Lib.hid fun w => rgood_yes g h w
  clear h
  go_enter Tryd.func23, Tryd.ntmps23
  go_wp2_with fail
  refine (H.out _).mono ?_
  rintro e w1 ⟨rfl, hb⟩
  have HB := Lib.hid (two_boxes hb)
  clear hb
  have d0 := HB.out.2.2.1.cell (i := 0) rfl
  have d1 := HB.out.2.2.1.cell (i := 1) rfl
  have d2 := HB.out.2.2.1.cell (i := 2) rfl
  have f0 := HB.out.2.2.1.frozen 0
  have f1 := HB.out.2.2.1.frozen 1
  have f2 := HB.out.2.2.1.frozen 2
  go_wp2_with fail
  exact bodyPost_ret (results_blk rfl _ _ (w.heap.size + 1) [_, _, _] _ rfl (((HB.out.2.2.1.set 0 _).set 1 _).set 2 _) Tryd.underlying63 rfl info63) rfl ⟨rfl, ((HB.out.1.setCell (by simp) _).setCell (by simp) _).setCell (by simp) _⟩
theorem two_on {g : Gm} {w w1 w2 : World} {b : Nat} {l : List Value} (h : Below w.heap.size w w1 ∧ GAt w1 w.heap.size g ∧ Blk w1 b l ∧ w.heap.size + 2 ≤ w1.heap.size) (hb : Below w1.heap.size w1 w2) : Below w.heap.size w w2 ∧ GAt w2 w.heap.size g ∧ Blk w2 b l ∧ w.heap.size + 2 ≤ w2.heap.size :=
  ⟨h.1.trans (hb.mono h.1.size), h.2.1.below hb (by have := h.2.2.2; omega), h.2.2.1.below hb h.2.2.1.lt, Nat.le_trans h.2.2.2 hb.size⟩
theorem rwhere_high (g : Gm) (h : g.Ok) (n : Int) (h0 : 4 ≤ n) (hn : 4 + g.s * g.l ≤ n) (w : World) : Calls Tryd.prog 23 #[g.v, .int .i64 n] w fun e w' => e = .returned (.agg #[.int .i64 0, .int .i64 0, .bool false]) ∧ Below w.heap.size w w' := by
  have H := Lib.hid fun w => rgood_yes g h w
  have H6 := Lib.hid fun w => rof_yes g h w
  clear h
  have hf := field60
  go_enter Tryd.func23, Tryd.ntmps23
  go_wp2_with fail
  refine (H.out _).mono ?_
  rintro e w1 ⟨rfl, hb⟩
  have HB := Lib.hid (two_boxes hb)
  clear hb
  obtain ⟨c0, c1, c2, c3⟩ := HB.out.2.1
  go_wp2_with fail
  refine (H6.out _).mono ?_
  rintro e w2 ⟨rfl, hb⟩
  have HB2 := Lib.hid (two_on HB.out hb)
  clear hb
  have d0 := HB2.out.2.2.1.cell (i := 0) rfl
  have d1 := HB2.out.2.2.1.cell (i := 1) rfl
  have d2 := HB2.out.2.2.1.cell (i := 2) rfl
  have f0 := HB2.out.2.2.1.frozen 0
  have f1 := HB2.out.2.2.1.frozen 1
  have f2 := HB2.out.2.2.1.frozen 2
  go_wp2_with fail
  exact bodyPost_ret (results_blk rfl _ _ (w.heap.size + 1) [_, _, _] _ rfl (((HB2.out.2.2.1.set 0 _).set 1 _).set 2 _) Tryd.underlying63 rfl info63) rfl ⟨rfl, ((HB2.out.1.setCell (by simp) _).setCell (by simp) _).setCell (by simp) _⟩
theorem rwhere_in (g : Gm) (h : g.Ok) (n : Int) (h0 : 4 ≤ n) (hn : n < 4 + g.s * g.l) (w : World) : Calls Tryd.prog 23 #[g.v, .int .i64 n] w fun e w' => e = .returned (.agg #[.int .i64 ((n - 4) / g.l), .int .i64 ((n - 4) % g.l), .bool true]) ∧ Below w.heap.size w w' := by
  have H := Lib.hid fun w => rgood_yes g h w
  have H6 := Lib.hid fun w => rof_yes g h w
  obtain ⟨a0, a1⟩ := h.area
  obtain ⟨_, ⟨h3, h4⟩, ⟨h5, h6⟩, _⟩ := h
  have hf := field60
  go_enter Tryd.func23, Tryd.ntmps23
  go_wp2_with fail
  refine (H.out _).mono ?_
  rintro e w1 ⟨rfl, hb⟩
  have HB := Lib.hid (two_boxes hb)
  clear hb
  obtain ⟨c0, c1, c2, c3⟩ := HB.out.2.1
  go_wp2_with fail
  refine (H6.out _).mono ?_
  rintro e w2 ⟨rfl, hb⟩
  have HB2 := Lib.hid (two_on HB.out hb)
  clear hb
  obtain ⟨c0, c1, c2, c3⟩ := HB2.out.2.1
  have d0 := HB2.out.2.2.1.cell (i := 0) rfl
  have d1 := HB2.out.2.2.1.cell (i := 1) rfl
  have d2 := HB2.out.2.2.1.cell (i := 2) rfl
  have f0 := HB2.out.2.2.1.frozen 0
  have f1 := HB2.out.2.2.1.frozen 1
  have f2 := HB2.out.2.2.1.frozen 2
  go_wp2_with fail
  go_region
  go_wp2_with fail
  exact bodyPost_ret (results_blk rfl _ _ (w.heap.size + 1) [_, _, _] _ rfl (((HB2.out.2.2.1.set 0 _).set 1 _).set 2 _).drew Tryd.underlying63 rfl info63) rfl ⟨rfl, (((HB2.out.1.setCell (by simp) _).setCell (by simp) _).setCell (by simp) _).drew⟩
end Go.Proofs.YtlleafhfogfngaaDoor
