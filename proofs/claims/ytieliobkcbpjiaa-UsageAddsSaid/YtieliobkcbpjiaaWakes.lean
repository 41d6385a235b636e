/- The statements' first call: what ordinary places come to. -/
import Derived.Test.YtieliobkcbpjiaaCount
namespace Go.Proofs.Ytieliobkcbpjiaa
set_option linter.unusedSimpArgs false
set_option linter.unusedVariables false
open Go.RowKit

abbrev smallG : Gm := ⟨16, 8, 24, 4⟩
theorem lit2 (W : World) (x y : Int) : IntsAt (W.alloc (.cells #[.int .i64 x, .int .i64 y] 3)) (.slice (some ⟨W.heap.size, 0, none⟩) 2 2) [x, y] := (Own.lit W W.heap.size (Nat.le_refl _) [x, y] (by simp) _ rfl).ints
theorem lit4 (W : World) (x y z u : Int) : IntsAt (W.alloc (.cells #[.int .i64 x, .int .i64 y, .int .i64 z, .int .i64 u] 3)) (.slice (some ⟨W.heap.size, 0, none⟩) 4 4) [x, y, z, u] := (Own.lit W W.heap.size (Nat.le_refl _) [x, y, z, u] (by simp) _ rfl).ints
theorem lit5 (W : World) (x y z u v : Int) : IntsAt (W.alloc (.cells #[.int .i64 x, .int .i64 y, .int .i64 z, .int .i64 u, .int .i64 v] 3)) (.slice (some ⟨W.heap.size, 0, none⟩) 5 5) [x, y, z, u, v] := (Own.lit W W.heap.size (Nat.le_refl _) [x, y, z, u, v] (by simp) _ rfl).ints
theorem lit8 (W : World) (a b c d e f g h : Int) : IntsAt (W.alloc (.cells #[.int .i64 a, .int .i64 b, .int .i64 c, .int .i64 d, .int .i64 e, .int .i64 f, .int .i64 g, .int .i64 h] 3)) (.slice (some ⟨W.heap.size, 0, none⟩) 8 8) [a, b, c, d, e, f, g, h] := (Own.lit W W.heap.size (Nat.le_refl _) [a, b, c, d, e, f, g, h] (by simp) _ rfl).ints
set_option maxRecDepth 100000 in
theorem wakes_any (w : World) : Calls Try.prog 6 #[] w fun e w' => e = .returned (.bool true) ∧ Below w.heap.size w w' := by
  have L0 := Lib.hid fun W => small_any W
  have L1 := Lib.hid fun W => count_any smallG [4, 5, 28, 3, 999] (by decide) _ _ (lit5 W 4 5 28 3 999)
  have L2 := Lib.hid fun rv tv W => ints_any [2, 1, 0, 0, 0, 0, 0, 0] [2, 1, 0, 0, 0, 0, 0, 0] (by decide) (by decide) rv tv W
  have L3 := Lib.hid fun W => free_any [0, 2, 0, 0] (by decide) 2 _ _ (lit4 W 0 2 0 0)
  have L4 := Lib.hid fun rv tv W => ints_any [0, 3] [0, 3] (by decide) (by decide) rv tv W
  have L5 := Lib.hid fun rv W => sum_any [2, 1, 0, 0, 0, 0, 0, 0] (by decide) rv W
  have hc : cts smallG [4, 5, 28, 3, 999] = [2, 1, 0, 0, 0, 0, 0, 0] := by decide
  have hf : frees [0, 2, 0, 0] 2 = [0, 3] := by decide
  have ht : tot [2, 1, 0, 0, 0, 0, 0, 0] = 3 := by decide
  rw [hc] at L1
  rw [hf] at L3
  rw [ht] at L5
  clear hc hf ht
  go_enter Try.func6, Try.ntmps6
  go_wp2_with fail
  refine (L0.out _).mono ?_
  rintro e w0 ⟨rfl, hb⟩
  have B0 := Lib.hid hb
  clear hb
  go_wp2_with fail
  refine (L1.out _).mono ?_
  rintro e w1 ⟨rv, rfl, ho, hb⟩
  have B1 := Lib.hid (stay B0.out ((alloc_below w0 _).trans (hb.mono (alloc_below w0 _).size)))
  have HO := Lib.hid ho.ints
  clear hb ho B0
  go_wp2_with fail
  refine (L2.out _ _ _ (HO.out.below (alloc_below _ _)) (lit8 w1 2 1 0 0 0 0 0 0)).mono ?_
  rintro e w2 ⟨rfl, hb⟩
  have B2 := Lib.hid (stay B1.out ((alloc_below w1 _).trans (hb.mono (alloc_below w1 _).size)))
  have HO2 := Lib.hid ((HO.out.below (alloc_below w1 _)).below hb)
  clear hb B1 HO
  go_wp2_with fail
  refine (L3.out _).mono ?_
  rintro e w3 ⟨tv, rfl, ho, hb⟩
  have B3 := Lib.hid (stay B2.out ((alloc_below w2 _).trans (hb.mono (alloc_below w2 _).size)))
  have HO3 := Lib.hid ((HO2.out.below (alloc_below w2 _)).below hb)
  have HT := Lib.hid ho.ints
  clear hb ho B2 HO2
  go_wp2_with fail
  refine (L4.out _ _ _ (HT.out.below (alloc_below _ _)) (lit2 w3 0 3)).mono ?_
  rintro e w4 ⟨rfl, hb⟩
  have B4 := Lib.hid (stay B3.out ((alloc_below w3 _).trans (hb.mono (alloc_below w3 _).size)))
  have HO4 := Lib.hid ((HO3.out.below (alloc_below w3 _)).below hb)
  clear hb B3 HO3
  go_wp2_with fail
  refine (L5.out _ _ HO4.out).mono ?_
  rintro e w5 ⟨rfl, rfl⟩
  go_wp2_with fail
  go_ret
  exact ⟨rfl, B4.out⟩
end Go.Proofs.Ytieliobkcbpjiaa
