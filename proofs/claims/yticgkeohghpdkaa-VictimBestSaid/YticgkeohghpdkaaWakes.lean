/- The statements' first call: what ordinary segments come to. -/
import Derived.Test.YticgkeohghpdkaaBest
namespace Go.Proofs.Yticgkeohghpdkaa
set_option linter.unusedSimpArgs false
set_option linter.unusedVariables false
open Go.RowKit

abbrev WK : Wa := ⟨[24, 5, 0, 0], [1, 1, 9, 9], 9, 24⟩
theorem wk_wf : WK.Wf := ⟨by decide, by decide, by decide⟩
theorem lit1 (W : World) (x : Int) : IntsAt (W.alloc (.cells #[.int .i64 x] 3)) (.slice (some ⟨W.heap.size, 0, none⟩) 1 1) [x] := (Own.lit W W.heap.size (Nat.le_refl _) [x] (by simp) _ rfl).ints
theorem lit2 (W : World) (x y : Int) : IntsAt (W.alloc (.cells #[.int .i64 x, .int .i64 y] 3)) (.slice (some ⟨W.heap.size, 0, none⟩) 2 2) [x, y] := (Own.lit W W.heap.size (Nat.le_refl _) [x, y] (by simp) _ rfl).ints
theorem lit3 (W : World) (x y z : Int) : IntsAt (W.alloc (.cells #[.int .i64 x, .int .i64 y, .int .i64 z] 3)) (.slice (some ⟨W.heap.size, 0, none⟩) 3 3) [x, y, z] := (Own.lit W W.heap.size (Nat.le_refl _) [x, y, z] (by simp) _ rfl).ints
theorem lit4 (W : World) (x y z u : Int) : IntsAt (W.alloc (.cells #[.int .i64 x, .int .i64 y, .int .i64 z, .int .i64 u] 3)) (.slice (some ⟨W.heap.size, 0, none⟩) 4 4) [x, y, z, u] := (Own.lit W W.heap.size (Nat.le_refl _) [x, y, z, u] (by simp) _ rfl).ints
theorem best0 : (bestN WK.at [] (min WK.live.length WK.age.length)).1 = 1 ∧ (bestN WK.at [] (min WK.live.length WK.age.length)).2.1 = true := by decide
theorem best1 : (bestN WK.at [1] (min WK.live.length WK.age.length)).1 = 2 ∧ (bestN WK.at [1] (min WK.live.length WK.age.length)).2.1 = true := by decide
theorem best3 : (bestN WK.at [1, 2, 3] (min WK.live.length WK.age.length)).1 = 0 ∧ (bestN WK.at [1, 2, 3] (min WK.live.length WK.age.length)).2.1 = false := by decide
theorem two0 : ns (two [3, 0, 2, 0] [1]) = [3, 2] := by decide
theorem above0 : above ⟨0, 1, 1, 24⟩ ⟨5, 1, 1, 24⟩ = true := by decide
theorem ages_lit (W : World) (x y z u : Int) : AgesAt (W.alloc (.cells #[.int .u32 x, .int .u32 y, .int .u32 z, .int .u32 u] 27)) (.slice (some ⟨W.heap.size, 0, none⟩) 4 4) [x, y, z, u] :=
  ⟨_, 4, rfl, fun i v hi => ⟨W.heap.size, 0, rfl, by
    rw [Nat.zero_add]
    exact (Blk.new W _ _).cell (by
      match i, hi with
      | 0, hi => cases hi; rfl
      | 1, hi => cases hi; rfl
      | 2, hi => cases hi; rfl
      | 3, hi => cases hi; rfl
      | i + 4, hi => simp at hi)⟩⟩
theorem wk_best0 (v lv av : Value) (w : World) (h : WatchAt w v WK lv av) : Calls Try.prog 7 #[v, .slice none 0 0] w fun e w' => e = .returned (.tuple #[.int .i64 1, .bool true]) ∧ Below w.heap.size w w' := by
  have := best_any WK wk_wf (by decide) (by decide) [] (by decide) v lv av _ w h (IntsAt.nil w 0 none)
  rw [best0.1, best0.2] at this
  exact this
theorem wk_best1 (v lv av tv : Value) (w : World) (h : WatchAt w v WK lv av) (k : IntsAt w tv [1]) : Calls Try.prog 7 #[v, tv] w fun e w' => e = .returned (.tuple #[.int .i64 2, .bool true]) ∧ Below w.heap.size w w' := by
  have := best_any WK wk_wf (by decide) (by decide) [1] (by decide) v lv av _ w h k
  rw [best1.1, best1.2] at this
  exact this
theorem wk_best3 (v lv av tv : Value) (w : World) (h : WatchAt w v WK lv av) (k : IntsAt w tv [1, 2, 3]) : Calls Try.prog 7 #[v, tv] w fun e w' => e = .returned (.tuple #[.int .i64 0, .bool false]) ∧ Below w.heap.size w w' := by
  have := best_any WK wk_wf (by decide) (by decide) [1, 2, 3] (by decide) v lv av _ w h k
  rw [best3.1, best3.2] at this
  exact this
theorem wk_two (sv tv : Value) (w : World) (h : IntsAt w sv [3, 0, 2, 0]) (k : IntsAt w tv [1]) : Calls Try.prog 6 #[sv, tv] w fun e w' => ∃ rv, e = .returned rv ∧ IntsAt w' rv [3, 2] ∧ Below w.heap.size w w' := by
  have := two_any [3, 0, 2, 0] (by decide) [1] (by decide) sv tv w h k
  refine this.mono ?_
  rintro e w' ⟨rv, rfl, ho, hb⟩
  rw [two0] at ho
  exact ⟨rv, rfl, ho.ints, hb⟩
theorem wk_above (w : World) : Calls Try.prog 9 #[.agg #[.int .i64 0, .int .u32 1, .int .u32 1, .int .i64 24], .agg #[.int .i64 5, .int .u32 1, .int .u32 1, .int .i64 24]] w fun e w' => e = .returned (.bool true) ∧ Below w.heap.size w w' := by
  have := above_any ⟨0, 1, 1, 24⟩ ⟨5, 1, 1, 24⟩ ⟨by decide, by decide, by decide, by decide⟩ ⟨by decide, by decide, by decide, by decide⟩ w
  rw [above0] at this
  exact this
abbrev wkv (b : Nat) : Value := .agg #[.slice (some ⟨b, 0, none⟩) 4 4, .slice (some ⟨b + 1, 0, none⟩) 4 4, .int .u32 9, .int .i64 24]
theorem wk_new (w : World) (o : Obj) : WatchAt (((w.alloc (.cells #[.int .i64 24, .int .i64 5, .int .i64 0, .int .i64 0] 3)).alloc (.cells #[.int .u32 1, .int .u32 1, .int .u32 9, .int .u32 9] 27)).alloc o) (wkv w.heap.size) WK (.slice (some ⟨w.heap.size, 0, none⟩) 4 4) (.slice (some ⟨w.heap.size + 1, 0, none⟩) 4 4) := by
  refine ⟨rfl, ((lit4 w 24 5 0 0).below (alloc_below _ _)).below (alloc_below _ _), ?_⟩
  have := (ages_lit (w.alloc (.cells #[.int .i64 24, .int .i64 5, .int .i64 0, .int .i64 0] 3)) 1 1 9 9).below (alloc_below _ o)
  simpa using this
theorem three_below (w : World) (o p q : Obj) : Below w.heap.size w (((w.alloc o).alloc p).alloc q) := (two_below w o p).alloc (two_below w o p).size _
set_option maxRecDepth 100000 in
theorem wakes_any (w : World) : Calls Try.prog 5 #[] w fun e w' => e = .returned (.bool true) ∧ Below w.heap.size w w' := by
  go_enter Try.func5, Try.ntmps5
  go_wp2_with fail
  refine (wk_best0 _ _ _ _ (wk_new w _)).mono ?_
  rintro e w1 ⟨rfl, hb⟩
  have H1 := Lib.hid ((wk_new w _).below hb)
  have B1 := Lib.hid ((three_below w _ _ _).trans (hb.mono (three_below w _ _ _).size))
  have K1 : Hid (Blk w1 (w.heap.size + 2) [.slice (some ⟨w.heap.size, 0, none⟩) 4 4, .slice (some ⟨w.heap.size + 1, 0, none⟩) 4 4, .int .u32 9, .int .i64 24]) := Lib.hid ((Blk.newAt _ _ _ (by simp) rfl).below hb (by simp))
  have c0 := K1.out.cell (i := 0) rfl
  have c1 := K1.out.cell (i := 1) rfl
  have c2 := K1.out.cell (i := 2) rfl
  have c3 := K1.out.cell (i := 3) rfl
  have a0 := fun o => (K1.out.alloc o).cell (i := 0) rfl
  have a1 := fun o => (K1.out.alloc o).cell (i := 1) rfl
  have a2 := fun o => (K1.out.alloc o).cell (i := 2) rfl
  have a3 := fun o => (K1.out.alloc o).cell (i := 3) rfl
  clear hb
  go_wp2_with fail
  refine (wk_best1 _ _ _ _ _ (H1.out.below (alloc_below w1 _)) (lit1 w1 1)).mono ?_
  rintro e w2 ⟨rfl, hb⟩
  have H2 := Lib.hid ((H1.out.below (alloc_below w1 _)).below hb)
  have B2 := Lib.hid (stay B1.out ((alloc_below w1 _).trans (hb.mono (alloc_below w1 _).size)))
  have K2 := Lib.hid ((K1.out.alloc _).below hb (K1.out.alloc _).lt)
  clear hb c0 c1 c2 c3 a0 a1 a2 a3 H1 B1 K1
  have c0 := K2.out.cell (i := 0) rfl
  have c1 := K2.out.cell (i := 1) rfl
  have c2 := K2.out.cell (i := 2) rfl
  have c3 := K2.out.cell (i := 3) rfl
  go_wp2_with fail
  refine (wk_best3 _ _ _ _ _ (H2.out.below (alloc_below w2 _)) (lit3 w2 1 2 3)).mono ?_
  rintro e w3 ⟨rfl, hb⟩
  have B3 := Lib.hid (stay B2.out ((alloc_below w2 _).trans (hb.mono (alloc_below w2 _).size)))
  clear hb c0 c1 c2 c3 H2 B2 K2
  go_wp2_with fail
  have I1 := fun (l : List Value) => IntsAt.below (lit4 w3 3 0 2 0) (alloc_below _ (.cells #[.int .i64 1] 3))
  refine (wk_two _ _ _ (IntsAt.below (lit4 w3 3 0 2 0) (alloc_below _ _)) (by simpa using lit1 (w3.alloc (.cells #[.int .i64 3, .int .i64 0, .int .i64 2, .int .i64 0] 3)) 1)).mono ?_
  rintro e w4 ⟨rv, rfl, hi, hb⟩
  have B4 := Lib.hid (stay B3.out ((two_below w3 _ _).trans (hb.mono (two_below w3 _ _).size)))
  have HI := Lib.hid hi
  clear hi hb B3
  go_wp2_with fail
  refine (ints_any [3, 2] [3, 2] (by decide) (by decide) _ _ _ (HI.out.below (alloc_below w4 _)) (lit2 w4 3 2)).mono ?_
  rintro e w5 ⟨rfl, hb⟩
  have B5 := Lib.hid (stay B4.out ((alloc_below w4 _).trans (hb.mono (alloc_below w4 _).size)))
  clear hb B4
  go_wp2_with fail
  refine (wk_above _).mono ?_
  rintro e w6 ⟨rfl, hb⟩
  have B6 := Lib.hid (stay B5.out hb)
  go_wp2_with fail
  go_ret
  exact ⟨rfl, B6.out⟩
end Go.Proofs.Yticgkeohghpdkaa
