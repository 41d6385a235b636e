/- HeadsTell's walk: of any heads, how many pages there are, the least that is not, which differ from any others, are what the document's own functions tell. -/
import Derived.Test.YtbokbijehilbiaaWakes
namespace Go.Proofs.Ytbokbijehilbiaa
set_option linter.unusedSimpArgs false
set_option linter.unusedVariables false
open Go.RowKit

theorem least_both (l : List Int) (hn : l.length ≤ 1000) (most : Int) : ∃ p e : Int, (∀ sv w, IntsAt w sv l → Calls Try.prog 7 #[sv, .int .i64 most] w fun r w' => r = .returned (.tuple #[.int .i64 p, .int .i64 e]) ∧ Below w.heap.size w w') ∧
    (∀ sv w, IntsAt w sv l → Calls Try.prog 8 #[sv, .int .i64 most] w fun r w' => r = .returned (.tuple #[.int .i64 p, .int .i64 e]) ∧ w = w') := by
  by_cases hm : (cnt l : Int) < most
  · rcases first_or l with ⟨p, hp⟩ | hf
    · exact ⟨p, 0, fun sv w h => least_yes l hn p hp most hm sv w h, fun sv w h => rleast_yes l hn p hp most hm sv w h⟩
    · exact ⟨0, 14, fun sv w h => least_no l hn most (.inr hf) sv w h, fun sv w h => rleast_no l hn most (.inr hf) sv w h⟩
  · exact ⟨0, 14, fun sv w h => least_no l hn most (.inl (by omega)) sv w h, fun sv w h => rleast_no l hn most (.inl (by omega)) sv w h⟩
theorem chg_le {a b : List Int} (ha : a.length ≤ 100) (hb : b.length ≤ 100) : (chg a b).length ≤ 1000 := Nat.le_trans (chgN_le a b _) (by omega)

set_option maxRecDepth 100000 in
set_option maxHeartbeats 1000000 in
theorem tell_any (a b : List Int) (sv tv : Value) (most : Int) (w : World) (h : IntsAt w sv a) (k : IntsAt w tv b) : Calls Try.prog 3 #[sv, tv, .int .i64 most] w fun e w' => e = .returned (.bool true) ∧ Below w.heap.size w w' := by
  have HA := Lib.hid h
  have HB := Lib.hid k
  have HW := Lib.hid fun W => wakes_any W
  obtain ⟨x, cx, rfl, -⟩ := h
  obtain ⟨y, cy, rfl, -⟩ := k
  by_cases h1 : 100 < a.length
  · have g1 : decide (100 < (a.length : Int)) = true := decide_eq_true (by omega)
    go_enter Try.func3, Try.ntmps3
    go_wp2_with fail
    refine (HW.out _).mono ?_
    rintro e w1 ⟨rfl, hb⟩
    have B1 := Lib.hid hb
    clear hb
    go_wp2_with fail
    go_ret
    exact ⟨rfl, B1.out⟩
  by_cases h2 : 100 < b.length
  · have g1 : decide (100 < (a.length : Int)) = false := decide_eq_false (by omega)
    have g2 : decide (100 < (b.length : Int)) = true := decide_eq_true (by omega)
    go_enter Try.func3, Try.ntmps3
    go_wp2_with fail
    refine (HW.out _).mono ?_
    rintro e w1 ⟨rfl, hb⟩
    have B1 := Lib.hid hb
    clear hb
    go_wp2_with fail
    go_ret
    exact ⟨rfl, B1.out⟩
  have g1 : decide (100 < (a.length : Int)) = false := decide_eq_false (by omega)
  have g2 : decide (100 < (b.length : Int)) = false := decide_eq_false (by omega)
  obtain ⟨p, r, q1, q2⟩ := least_both a (by omega) most
  have L1 := Lib.hid q1
  have L2 := Lib.hid q2
  have L3 := Lib.hid fun sv w h => count_any a (by omega) sv w h
  have L4 := Lib.hid fun sv w h => rcount_any a (by omega) sv w h
  have L5 := Lib.hid fun sv tv w h k => changed_any a b (by omega) (by omega) sv tv w h k
  have L6 := Lib.hid fun sv tv w h k => rchanged_any a b (by omega) (by omega) sv tv w h k
  have hch := chg_le (a := a) (b := b) (by omega) (by omega)
  have L7 := Lib.hid fun sv tv w h k => ints_any (chg a b) (chg a b) hch hch sv tv w h k
  have L8 := Lib.hid fun sv tv w h k => ints_any a a (by omega) (by omega) sv tv w h k
  have L9 := Lib.hid fun sv tv w h k => ints_any b b (by omega) (by omega) sv tv w h k
  clear q1 q2 hch
  go_enter Try.func3, Try.ntmps3
  go_upto_region 3 with fail
  refine wp_region_lit ?_
  refine wpList_run (.slice (some ⟨w.heap.size, 0, none⟩) 0 0) (w.alloc (.cells #[] 3)) rfl (by go_simp) ?_
  try simp only [Act.put, List.setIfInBounds_toArray, List.set_cons_succ, List.set_cons_zero]
  refine takeL (.slice x a.length cx) rfl (by go_simp) ?_
  try simp only [Act.put, List.setIfInBounds_toArray, List.set_cons_succ, List.set_cons_zero]
  refine app_L (B := w.heap.size) (l := []) (Own.lit w w.heap.size (Nat.le_refl _) [] (by simp) _ rfl) (alloc_below w _).size (HA.out.below (alloc_below w _)) (by simp only [List.length_nil]; omega) rfl rfl rfl ?_
  intro s2 w2 ho2 hb2
  try simp only [Act.put, List.setIfInBounds_toArray, List.set_cons_succ, List.set_cons_zero]
  rw [List.nil_append] at ho2
  have O2 := Lib.hid ho2.ints
  have B2 := Lib.hid ((alloc_below w _).trans hb2)
  clear ho2 hb2
  refine wpList_run (.slice (some ⟨w2.heap.size, 0, none⟩) 0 0) (w2.alloc (.cells #[] 3)) rfl (by go_simp) ?_
  try simp only [Act.put, List.setIfInBounds_toArray, List.set_cons_succ, List.set_cons_zero]
  refine takeL (.slice y b.length cy) rfl (by go_simp) ?_
  try simp only [Act.put, List.setIfInBounds_toArray, List.set_cons_succ, List.set_cons_zero]
  refine app_L (B := w2.heap.size) (l := []) (Own.lit w2 w2.heap.size (Nat.le_refl _) [] (by simp) _ rfl) (alloc_below w2 _).size ((HB.out.below B2.out).below (alloc_below w2 _)) (by simp only [List.length_nil]; omega) rfl rfl rfl ?_
  intro s3 w3 ho3 hb3
  try simp only [Act.put, List.setIfInBounds_toArray, List.set_cons_succ, List.set_cons_zero]
  rw [List.nil_append] at ho3
  have O3 := Lib.hid ho3.ints
  have B23 := Lib.hid ((alloc_below w2 _).trans hb3)
  have O2' := Lib.hid (O2.out.below B23.out)
  have B3 := Lib.hid (stay B2.out B23.out)
  clear ho3 hb3 O2 B2 B23
  refine takeL (s2) rfl (by go_simp) ?_
  try simp only [Act.put, List.setIfInBounds_toArray, List.set_cons_succ, List.set_cons_zero]
  refine takeL (s3) rfl (by go_simp) ?_
  try simp only [Act.put, List.setIfInBounds_toArray, List.set_cons_succ, List.set_cons_zero]
  refine wpList_nil ?_
  go_wp2_with fail
  refine (L1.out _ _ O2'.out).mono ?_
  rintro e w4 ⟨rfl, hb⟩
  have A1 := Lib.hid ((HA.out.below B3.out).below hb)
  have A2 := Lib.hid ((HB.out.below B3.out).below hb)
  have A3 := Lib.hid (O2'.out.below hb)
  have A4 := Lib.hid (O3.out.below hb)
  have B4 := Lib.hid (stay B3.out hb)
  clear hb O2' O3 B3 HA HB
  go_wp2_with fail
  refine (L2.out _ _ A1.out).mono ?_
  rintro e w5 ⟨rfl, rfl⟩
  go_wp2_with fail
  refine (L3.out _ _ A3.out).mono ?_
  rintro e w5 ⟨rfl, rfl⟩
  go_wp2_with fail
  refine (L4.out _ _ A1.out).mono ?_
  rintro e w5 ⟨rfl, rfl⟩
  go_wp2_with fail
  refine (L5.out _ _ _ A3.out A4.out).mono ?_
  rintro e w5 ⟨rv, rfl, ho, hb⟩
  have A1' := Lib.hid (A1.out.below hb)
  have A2' := Lib.hid (A2.out.below hb)
  have A3' := Lib.hid (A3.out.below hb)
  have A4' := Lib.hid (A4.out.below hb)
  have B5 := Lib.hid (stay B4.out hb)
  have R1 := Lib.hid ho.ints
  clear hb ho A1 A2 A3 A4 B4
  go_wp2_with fail
  refine (L6.out _ _ _ A1'.out A2'.out).mono ?_
  rintro e w6 ⟨rv', rfl, ho, hb⟩
  have A1 := Lib.hid (A1'.out.below hb)
  have A2 := Lib.hid (A2'.out.below hb)
  have A3 := Lib.hid (A3'.out.below hb)
  have A4 := Lib.hid (A4'.out.below hb)
  have B6 := Lib.hid (stay B5.out hb)
  have R1' := Lib.hid (R1.out.below hb)
  have R2 := Lib.hid ho.ints
  clear hb ho A1' A2' A3' A4' B5 R1
  go_wp2_with fail
  refine (L7.out _ _ _ R1'.out R2.out).mono ?_
  rintro e w7 ⟨rfl, hb⟩
  have A1' := Lib.hid (A1.out.below hb)
  have A2' := Lib.hid (A2.out.below hb)
  have A3' := Lib.hid (A3.out.below hb)
  have A4' := Lib.hid (A4.out.below hb)
  have B7 := Lib.hid (stay B6.out hb)
  clear hb A1 A2 A3 A4 B6 R1' R2
  go_wp2_with fail
  refine (L8.out _ _ _ A3'.out A1'.out).mono ?_
  rintro e w8 ⟨rfl, hb⟩
  have A2 := Lib.hid (A2'.out.below hb)
  have A4 := Lib.hid (A4'.out.below hb)
  have B8 := Lib.hid (stay B7.out hb)
  clear hb A1' A2' A3' A4' B7
  go_wp2_with fail
  refine (L9.out _ _ _ A4.out A2.out).mono ?_
  rintro e w9 ⟨rfl, hb⟩
  have B9 := Lib.hid (stay B8.out hb)
  clear hb A2 A4 B8
  go_wp2_with fail
  refine (HW.out _).mono ?_
  rintro e w10 ⟨rfl, hb⟩
  have B10 := Lib.hid (stay B9.out hb)
  clear hb B9
  go_wp2_with fail
  go_ret
  exact ⟨rfl, B10.out⟩
end Go.Proofs.Ytbokbijehilbiaa
