/- What the statements' own reference answers of any geometry. -/
import Derived.Test.YtokenmidcpfneaaCaps
import Derived.Laws.Rows
namespace Go.Proofs.Ytokenmidcpfneaa
open Go.RowKit

/-- Block b holds just these cells, and none of them is frozen. -/
def Blk (w : World) (b : Nat) (l : List Value) : Prop := ∃ t, w.heap[b]? = some (.cells l.toArray t (0, 0))
theorem Blk.cell {w : World} {b : Nat} {l : List Value} (h : Blk w b l) {i : Nat} {v : Value} (hi : l[i]? = some v) : w.cell? ⟨b, i, none⟩ = some v := by
  obtain ⟨t, ht⟩ := h
  rw [cell_of_row w b i _ t _ ht]
  simpa using hi
theorem Blk.frozen {w : World} {b : Nat} {l : List Value} (h : Blk w b l) (i : Nat) : w.frozen? ⟨b, i, none⟩ = false := by
  obtain ⟨t, ht⟩ := h
  exact frozen_of_row w b i _ t ht
theorem Blk.lt {w : World} {b : Nat} {l : List Value} (h : Blk w b l) : b < w.heap.size := by
  obtain ⟨t, ht⟩ := h
  exact (Array.getElem?_eq_some_iff.1 ht).1
theorem Blk.of_block {w w' : World} {b : Nat} {l : List Value} (h : Blk w b l) (e : w'.heap[b]? = w.heap[b]?) : Blk w' b l := by
  obtain ⟨t, ht⟩ := h
  exact ⟨t, e.trans ht⟩
theorem Blk.set {w : World} {b : Nat} {l : List Value} (h : Blk w b l) (i : Nat) (v : Value) : Blk (w.setCell ⟨b, i, none⟩ v) b (l.set i v) := by
  obtain ⟨t, ht⟩ := h
  refine ⟨t, ?_⟩
  rw [heap_setCell_same w b i _ t v ht]
  simp
theorem Blk.alloc {w : World} {b : Nat} {l : List Value} (h : Blk w b l) (o : Obj) : Blk (w.alloc o) b l := h.of_block (heap_alloc_old w o h.lt)
theorem Blk.newAt {w : World} {cs : Array Value} (t : TypeId) (n : Nat) (l : List Value) (hn : n = w.heap.size) (hl : l = cs.toList) : Blk (w.alloc (.cells cs t)) n l := by
  subst hn
  subst hl
  exact ⟨t, by simpa using heap_alloc_new w (.cells cs t)⟩
theorem Blk.below {B : Nat} {w w' : World} {b : Nat} {l : List Value} (h : Blk w b l) (ho : Below B w w') (hs : b < B) : Blk w' b l := h.of_block (ho.block b hs)

theorem results_blk {P : Program} {fn : Func} {p : Tmp} {ty : TypeId} (h : fn.results = #[.cell p ty]) (tmps : Array Value) (w : World) (g : Nat) (l : List Value) (d : TypeDesc)
    (hp : tmps.getD p undef = .pointer (some ⟨g, 0, none⟩)) (hg : Blk w g l) (hu : P.underlying ty = some d) (hd : (match d with | .struct _ | .array _ _ => true | _ => false) = true) (hi : (P.info? ty).map (·.size) = some l.length) :
    (results fn tmps).run P w = .ok (.agg l.toArray) w := by
  obtain ⟨t, ht⟩ := hg
  exact results_cell_row h tmps w g t l.toArray _ d hp ht hu hd (by simpa using hi)
theorem ret_three {a b c a' b' c' : Int} (h0 : a = a') (h1 : b = b') (h2 : c = c') : Ending.returned (.agg #[.int .i64 a, .int .i64 b, .int .i64 c]) = Ending.returned (.agg #[.int .i64 a', .int .i64 b', .int .i64 c']) := by
  subst h0 h1 h2
  rfl
theorem info23 : (Try.prog.info? 23).map (·.size) = some 4 := by kernel_rfl
theorem info25 : (Try.prog.info? 25).map (·.size) = some 3 := by kernel_rfl
theorem info28 : (Try.prog.info? 28).map (·.size) = some 3 := by kernel_rfl

theorem small_any (w : World) : Calls Try.prog 19 #[] w fun e w' => e = .returned (.agg #[.int .i64 16, .int .i64 8, .int .i64 24, .int .i64 4]) ∧ Below w.heap.size w w' := by
  go_enter Try.func19, Try.ntmps19
  go_wp2_with fail
  exact bodyPost_ret (v := .agg #[.int .i64 16, .int .i64 8, .int .i64 24, .int .i64 4]) (results_cell_row rfl _ _ w.heap.size 23 #[.int .i64 16, .int .i64 8, .int .i64 24, .int .i64 4] _ _ rfl (heap_alloc_new w _) Try.underlying23 rfl info23) rfl ⟨rfl, (Below.refl _ _).alloc (Nat.le_refl _) _⟩
theorem two_boxes {g : Gm} {w w1 : World} {a b c : Value} {t : TypeId} (hb : Below ((g.box w).alloc (.cells #[a, b, c] t)).heap.size ((g.box w).alloc (.cells #[a, b, c] t)) w1) :
    Below w.heap.size w w1 ∧ GAt w1 w.heap.size g ∧ Blk w1 (w.heap.size + 1) [a, b, c] ∧ w.heap.size + 2 ≤ w1.heap.size :=
  ⟨((box_below g w).alloc (by simp) _).trans (hb.mono (by simp; omega)), ((GAt.box g w).below ((Below.refl (g.box w).heap.size _).alloc (Nat.le_refl _) _) (by simp)).below hb (by simp; omega), (Blk.newAt t _ _ (by simp) rfl).below hb (by simp), by have := hb.size; simp at this; omega⟩
theorem Blk.allocs {w : World} {b : Nat} {l : List Value} (h : Blk w b l) (i : Nat) (v : Value) (hi : l[i]? = some v) : ∀ o, (w.alloc o).cell? ⟨b, i, none⟩ = some v := fun o => (h.alloc o).cell hi
theorem Blk.frozens {w : World} {b : Nat} {l : List Value} (h : Blk w b l) (i : Nat) : ∀ o, (w.alloc o).frozen? ⟨b, i, none⟩ = false := fun o => (h.alloc o).frozen i
theorem GAt.allocs {w : World} {b : Nat} {g : Gm} (h : GAt w b g) (hlt : b < w.heap.size) (o : Obj) : GAt (w.alloc o) b g := h.below ((Below.refl w.heap.size w).alloc (Nat.le_refl _) o) hlt
theorem rof_no (g : Gm) (h : ¬ g.Ok) (w : World) : Calls Try.prog 6 #[g.v] w fun e w' => e = .returned (.agg #[.int .i64 0, .int .i64 0, .int .i64 0]) ∧ Below w.heap.size w w' := by
  have H := Lib.hid fun w => rgood_no g h w
  clear h
  go_enter Try.func6, Try.ntmps6
  go_wp2_with fail
  refine (H.out _).mono ?_
  rintro e w1 ⟨rfl, hb⟩
  have HB := Lib.hid (two_boxes hb)
  clear hb
  have d0 := HB.out.2.2.1.cell (i := 0) rfl
  have d1 := HB.out.2.2.1.cell (i := 1) rfl
  have d2 := HB.out.2.2.1.cell (i := 2) rfl
  have f0 := HB.out.2.2.1.frozen 0
  have f1 := HB.out.2.2.1.frozen 1
  have f2 := HB.out.2.2.1.frozen 2
  go_wp2_with fail
  exact bodyPost_ret (results_blk rfl _ _ (w.heap.size + 1) [_, _, _] _ rfl (((HB.out.2.2.1.set 0 _).set 1 _).set 2 _) Try.underlying25 rfl info25) rfl ⟨rfl, ((HB.out.1.setCell (by simp) _).setCell (by simp) _).setCell (by simp) _⟩
theorem rof_yes (g : Gm) (h : g.Ok) (w : World) : Calls Try.prog 6 #[g.v] w fun e w' => e = .returned (.agg #[.int .i64 g.maps, .int .i64 (4 + g.s * g.l), .int .i64 g.cap]) ∧ Below w.heap.size w w' := by
  have H := Lib.hid fun w => rgood_yes g h w
  obtain ⟨a0, a1⟩ := h.area
  obtain ⟨m0, m1, _⟩ := h.maps
  obtain ⟨⟨h1, h2⟩, ⟨h3, h4⟩, _, _⟩ := h
  have HM : Hid (g.maps = (g.p + 7) / 8) := Lib.hid (by unfold Gm.maps; rw [Int.tdiv_eq_ediv_of_nonneg (by omega)])
  have hm : 1 ≤ (g.p + 7) / 8 ∧ (g.p + 7) / 8 ≤ 8 := by omega
  obtain ⟨hm1, hm2⟩ := hm
  go_enter Try.func6, Try.ntmps6
  go_wp2_with fail
  refine (H.out _).mono ?_
  rintro e w1 ⟨rfl, hb⟩
  have HB := Lib.hid (two_boxes hb)
  clear hb
  obtain ⟨c0, c1, c2, c3⟩ := HB.out.2.1
  have e0 := fun o => (HB.out.2.1.allocs (by have := HB.out.2.2.2; omega) o).p
  have e1 := fun o => (HB.out.2.1.allocs (by have := HB.out.2.2.2; omega) o).s
  have d0 := HB.out.2.2.1.allocs 0 _ rfl
  have d1 := HB.out.2.2.1.allocs 1 _ rfl
  have d2 := HB.out.2.2.1.allocs 2 _ rfl
  have f0 := HB.out.2.2.1.frozens 0
  have f1 := HB.out.2.2.1.frozens 1
  have f2 := HB.out.2.2.1.frozens 2
  go_wp2_with fail
  all_goals
    refine bodyPost_ret (results_blk rfl _ _ (w.heap.size + 1) [_, _, _] _ rfl ((((HB.out.2.2.1.alloc _).set 0 _).set 1 _).set 2 _) Try.underlying25 rfl info25) rfl ⟨ret_three HM.out.symm rfl ?_, (((HB.out.1.alloc HB.out.1.size _).setCell (by simp) _).setCell (by simp) _).setCell (by simp) _⟩
    unfold Gm.cap
    rw [HM.out]
    omega
theorem rseg_no (g : Gm) (h : ¬ g.Ok) (n : Int) (w : World) : Calls Try.prog 15 #[g.v, .int .i64 n] w fun e w' => e = .returned (.int .i64 0) ∧ Below w.heap.size w w' := by
  have H := Lib.hid fun w => rgood_no g h w
  clear h
  go_enter Try.func15, Try.ntmps15
  go_wp2_with fail
  refine (H.out _).mono ?_
  rintro e w1 ⟨rfl, hb⟩
  have HB := Lib.hid (box_call hb)
  clear hb
  go_wp2_with fail
  go_ret
  exact ⟨rfl, HB.out.1⟩
theorem rseg_out (g : Gm) (h : g.Ok) (n : Int) (hn : ¬ (0 ≤ n ∧ n ≤ g.s - 1)) (w : World) : Calls Try.prog 15 #[g.v, .int .i64 n] w fun e w' => e = .returned (.int .i64 0) ∧ Below w.heap.size w w' := by
  have H := Lib.hid fun w => rgood_yes g h w
  by_cases h0 : 0 ≤ n
  all_goals
    have HN : Hid (¬ (0 ≤ n ∧ n ≤ g.s - 1)) := Lib.hid hn
    have hs : 0 ≤ n → g.s ≤ n := by omega
    clear h hn
    go_enter Try.func15, Try.ntmps15
    go_wp2_with fail
    refine (H.out _).mono ?_
    rintro e w1 ⟨rfl, hb⟩
    have HB := Lib.hid (box_call hb)
    clear hb
    obtain ⟨c0, c1, c2, c3⟩ := HB.out.2.1
    go_wp2_with fail
    go_ret
    exact ⟨rfl, HB.out.1⟩
theorem rseg_in (g : Gm) (h : g.Ok) (n : Int) (hn : 0 ≤ n ∧ n ≤ g.s - 1) (w : World) : Calls Try.prog 15 #[g.v, .int .i64 n] w fun e w' => e = .returned (.int .i64 (4 + n * g.l)) ∧ Below w.heap.size w w' := by
  have H := Lib.hid fun w => rgood_yes g h w
  obtain ⟨_, ⟨h3, h4⟩, ⟨h5, h6⟩, _⟩ := h
  have ha : 0 ≤ n * g.l ∧ n * g.l ≤ 512 := small_mul (B := 32) (A := 16) (by omega) (by omega) (by omega) (by omega)
  obtain ⟨a0, a1⟩ := ha
  obtain ⟨hn1, hn2⟩ := hn
  go_enter Try.func15, Try.ntmps15
  go_wp2_with fail
  refine (H.out _).mono ?_
  rintro e w1 ⟨rfl, hb⟩
  have HB := Lib.hid (box_call hb)
  clear hb
  obtain ⟨c0, c1, c2, c3⟩ := HB.out.2.1
  go_wp2_with fail
  go_ret
  exact ⟨rfl, HB.out.1⟩
end Go.Proofs.Ytokenmidcpfneaa
