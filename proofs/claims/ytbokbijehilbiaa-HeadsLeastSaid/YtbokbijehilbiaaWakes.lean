/- The statements' first call: what ordinary heads come to. -/
import Derived.Test.YtbokbijehilbiaaChg
namespace Go.Proofs.Ytbokbijehilbiaa
set_option linter.unusedSimpArgs false
set_option linter.unusedVariables false
open Go.RowKit

theorem alloc_below (w : World) (o : Obj) : Below w.heap.size w (w.alloc o) := (Below.refl _ _).alloc (Nat.le_refl _) _
theorem lit2 (W : World) (x y : Int) : IntsAt (W.alloc (.cells #[.int .i64 x, .int .i64 y] 3)) (.slice (some ⟨W.heap.size, 0, none⟩) 2 2) [x, y] := (Own.lit W W.heap.size (Nat.le_refl _) [x, y] (by simp) _ rfl).ints
theorem lit3 (W : World) (x y z : Int) : IntsAt (W.alloc (.cells #[.int .i64 x, .int .i64 y, .int .i64 z] 3)) (.slice (some ⟨W.heap.size, 0, none⟩) 3 3) [x, y, z] := (Own.lit W W.heap.size (Nat.le_refl _) [x, y, z] (by simp) _ rfl).ints
theorem first400 : First [4, 0, 0] 1 := ⟨rfl, fun j hj x hx => by
  obtain rfl : j = 0 := by omega
  simp at hx
  omega⟩
theorem pair_below (w : World) (o p : Obj) : Below w.heap.size w ((w.alloc o).alloc p) := (alloc_below w o).alloc (alloc_below w o).size _
theorem pairA (W : World) (x y : Int) (o : Obj) : IntsAt ((W.alloc (.cells #[.int .i64 x, .int .i64 y] 3)).alloc o) (.slice (some ⟨W.heap.size, 0, none⟩) 2 2) [x, y] := (lit2 W x y).below (alloc_below _ _)
theorem pairB (W : World) (o : Obj) (x y z : Int) : IntsAt ((W.alloc o).alloc (.cells #[.int .i64 x, .int .i64 y, .int .i64 z] 3)) (.slice (some ⟨W.heap.size + 1, 0, none⟩) 3 3) [x, y, z] := by
  have h := lit3 (W.alloc o) x y z
  rwa [show (W.alloc o).heap.size = W.heap.size + 1 by simp] at h
set_option maxRecDepth 100000 in
theorem wakes_any (w : World) : Calls Try.prog 6 #[] w fun e w' => e = .returned (.bool true) ∧ Below w.heap.size w w' := by
  have L1 := Lib.hid fun W => least_yes [4, 0, 0] (by decide) 1 first400 3 (by decide) _ _ (lit3 W 4 0 0)
  have L2 := Lib.hid fun W => least_no [4, 0] (by decide) 1 (.inl (by decide)) _ _ (lit2 W 4 0)
  have L3 := Lib.hid fun W => count_any [4, 0, 1] (by decide) _ _ (lit3 W 4 0 1)
  have L4 := Lib.hid fun W => changed_any [1, 2] [1, 3, 4] (by decide) (by decide) _ _ _ (pairA W 1 2 _) (pairB W _ 1 3 4)
  have L5 := Lib.hid fun rv tv W => ints_any [1, 2] [1, 2] (by decide) (by decide) rv tv W
  have hchg : chg [1, 2] [1, 3, 4] = [1, 2] := by decide
  have hcnt : cnt [4, 0, 1] = 2 := by decide
  go_enter Try.func6, Try.ntmps6
  go_wp2_with fail
  refine (L1.out _).mono ?_
  rintro e w1 ⟨rfl, hb⟩
  have B1 := Lib.hid ((alloc_below w _).trans (hb.mono (alloc_below w _).size))
  clear hb
  go_wp2_with fail
  refine (L2.out _).mono ?_
  rintro e w2 ⟨rfl, hb⟩
  have B2 := Lib.hid (stay B1.out ((alloc_below w1 _).trans (hb.mono (alloc_below w1 _).size)))
  clear hb B1
  go_wp2_with fail
  refine (L3.out _).mono ?_
  rintro e w3 ⟨rfl, hw⟩
  have B3 := Lib.hid (stay B2.out (alloc_below w2 (.cells #[.int .i64 4, .int .i64 0, .int .i64 1] 3)))
  rw [hw] at B3
  clear hw B2
  go_wp2_with fail
  refine (L4.out _).mono ?_
  rintro e w4 ⟨rv, rfl, ho, hb⟩
  have B4 := Lib.hid (stay B3.out ((pair_below w3 _ _).trans (hb.mono (pair_below w3 _ _).size)))
  rw [hchg] at ho
  have HO := Lib.hid ho.ints
  clear hb ho B3
  go_wp2_with fail
  refine (L5.out _ _ _ (HO.out.below (alloc_below _ _)) (lit2 w4 1 2)).mono ?_
  rintro e w5 ⟨rfl, hb⟩
  have B5 := Lib.hid (stay B4.out ((alloc_below w4 _).trans (hb.mono (alloc_below w4 _).size)))
  clear hb B4
  go_wp2_with fail
  go_ret
  exact ⟨rfl, B5.out⟩
end Go.Proofs.Ytbokbijehilbiaa
