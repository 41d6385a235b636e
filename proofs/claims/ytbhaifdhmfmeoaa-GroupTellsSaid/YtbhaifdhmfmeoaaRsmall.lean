/- The statements' own copy of a block, their sectors and numbers. -/
import Derived.Test.YtbhaifdhmfmeoaaOwn
namespace Go.Proofs.Ytbhaifdhmfmeoaa
set_option linter.unusedSimpArgs false
set_option linter.unusedVariables false
open Go.RowKit


set_option maxRecDepth 100000 in
theorem rsector_any (sv : Value) (l : List Int) (h0 : 0 < l.length) (hl : l.length ≤ 64) (w : World) (hbs : BytesAt w sv l) : Calls Try.prog 44 #[sv] w fun e w' => e = .returned (.agg (u8s (l ++ zeros (64 - l.length))).toArray) ∧ Below w.heap.size w w' := by
  obtain ⟨p, q, cap, rfl, hc⟩ := hbs.has h0
  have HC := Lib.hid hc
  have HL := Lib.hid h0
  clear hc hbs h0
  go_enter Try.func44, Try.ntmps44
  repeat (first | (with_reducible refine stopR (id := 0) ?_) | go_values | go_skip | go_guarded | go_step | go_upon | go_back)
  refine Stop.mk (wp_region_lit ?_)
  refine alloc_g zero50 rfl ?_
  intro w1 hR hB hl1
  try simp only [Act.put, List.setIfInBounds_toArray, List.set_cons_succ, List.set_cons_zero]
  refine wpList_nil ?_
  repeat (first | (with_reducible refine stopR (id := 1) ?_) | go_values | go_skip | go_guarded | go_step | go_upon | go_back)
  refine Stop.mk (wp_region_lit ?_)
  refine alloc_g zero50 rfl ?_
  intro w2 hS hB2 hl2
  try simp only [Act.put, List.setIfInBounds_toArray, List.set_cons_succ, List.set_cons_zero]
  have HR : Hid (Blk w2 w.heap.size (u8s (zeros 64))) := Lib.hid (hR.below hB2 hl1)
  have HS : Hid (Blk w2 w1.heap.size (u8s (zeros 64))) := Lib.hid hS
  have HB := Lib.hid (hB.trans (hB2.mono hB.size))
  have HLT := Lib.hid hl1
  have HC2 := Lib.hid (fun (j : Nat) (v : Int) (hv : l[j]? = some v) => show w2.cell? ⟨p, q + j, none⟩ = some (.int .u8 v) from by
    have := HC.out j v hv
    have h1 := (hB.cell (block_lt_of_cell this)).trans this
    exact (hB2.cell (block_lt_of_cell h1)).trans h1)
  clear hR hS hB hB2 hl1 hl2
  generalize w1.heap.size = s at *
  clear w1
  refine wpList_nil ?_
  repeat (first | (with_reducible refine stopR (id := 2) ?_) | go_values | go_skip | go_guarded | go_step | go_upon | go_back)
  refine Stop.mk (wp_region_lit ?_)
  refine takeL (.slice (some ⟨s, 0, none⟩) 64 64) rfl (by go_simp) ?_
  try simp only [Act.put, List.setIfInBounds_toArray, List.set_cons_succ, List.set_cons_zero]
  refine takeL (.slice (some ⟨p, q, none⟩) l.length cap) rfl (by go_simp) ?_
  try simp only [Act.put, List.setIfInBounds_toArray, List.set_cons_succ, List.set_cons_zero]
  refine wpList_op rfl fun K hK => ?_
  refine wp_copy _ _ rfl Try.underlying54 info5s s 0 64 64 p q l.length cap rfl rfl (u8s (zeros 64)) l HS.out (Nat.min_eq_left hl).symm (fun j v hv => HC2.out j v hv) (by simp [zeros]; omega) (some 6) rfl fun w3 hb ho => ?_
  refine hK _ _ ?_
  clear hK K
  try simp only [Act.put, List.setIfInBounds_toArray, List.set_cons_succ, List.set_cons_zero]
  rw [lay_u8s, layI_zeros] at hb
  have HS3 := Lib.hid hb
  have HR3 := Lib.hid (HR.out.only ho (by have := HLT.out; omega))
  have HB3 := Lib.hid (HB.out.trans (ho.below HB.out.size (fun k hk => by have := HLT.out; omega)))
  have HSZ : Hid ((l ++ zeros (64 - l.length)).length = 64) := Lib.hid (by simp [zeros]; omega)
  clear hb ho
  refine wpList_nil ?_
  repeat (first | (with_reducible refine stopR (id := 3) ?_) | go_values | go_skip | go_guarded | go_step | go_upon | go_back)
  refine Stop.mk (wp_region_lit ?_)
  refine load50 (cs := (u8s (l ++ zeros (64 - l.length))).toArray) (Blk.all HS3.out rfl) (by rw [u8s_size, HSZ.out]) rfl rfl ?_
  try simp only [Act.put, List.setIfInBounds_toArray, List.set_cons_succ, List.set_cons_zero]
  refine store_all (cs := (u8s (l ++ zeros (64 - l.length))).toArray) HR3.out (by rw [u8s_size, HSZ.out]; simp [zeros]) (by rw [u8s_size, HSZ.out]; exact info50) (u8s_one _) rfl rfl rfl ?_
  intro w4 hD hOD hlD
  try simp only [Act.put, List.setIfInBounds_toArray, List.set_cons_succ, List.set_cons_zero]
  have HF := Lib.hid (HB3.out.trans (hOD.below HB3.out.size (fun k hk => Nat.le_of_eq hk.symm)))
  refine wpList_nil ?_
  go_wp2_with fail
  exact bodyPost_ret (v := .agg (u8s (l ++ zeros (64 - l.length))).toArray) (results_cell_at rfl _ _ w.heap.size 0 _ _ rfl Try.underlying50 rfl (by rw [u8s_size, HSZ.out]; exact info50) (Blk.all hD rfl)) rfl ⟨by simp, HF.out⟩
theorem rnum4_any (w : World) (g o cap : Nat) (l : List Int) (hl : l.length = 4) (hb : ∀ x ∈ l, Byte x) (hc : ∀ i x, l[i]? = some x → w.cell? ⟨g, o + i, none⟩ = some (.int .u8 x)) :
    Calls Try.prog 41 #[.slice (some ⟨g, o, none⟩) 4 cap] w fun e w' => e = .returned (.int .u32 (num l)) ∧ w = w' := by
  obtain ⟨x0, x1, x2, x3, rfl⟩ : ∃ x0 x1 x2 x3, l = [x0, x1, x2, x3] := by
    match l, hl with
    | [x0, x1, x2, x3], _ => exact ⟨x0, x1, x2, x3, rfl⟩
  have c0 := hc 0 x0 rfl
  obtain ⟨p0, q0⟩ := hb x0 (by simp)
  have c1 := hc 1 x1 rfl
  obtain ⟨p1, q1⟩ := hb x1 (by simp)
  have c2 := hc 2 x2 rfl
  obtain ⟨p2, q2⟩ := hb x2 (by simp)
  have c3 := hc 3 x3 rfl
  obtain ⟨p3, q3⟩ := hb x3 (by simp)
  simp only [Nat.add_zero] at c0
  clear hc hb hl
  go_enter Try.func41, Try.ntmps41
  go_wp2_with fail
  go_loopg [3, 4] 4 (fun q r i wr => ∃ k : Nat, 4 - k ≤ q ∧ k ≤ 4 ∧ i = .int .i64 (3 - (k : Int)) ∧ r = .int .u32 (num ([x0, x1, x2, x3].drop (4 - k))) ∧ w = wr)
  case atStart => exact ⟨0, by omega, by omega, by go_num, rfl, rfl⟩
  case round =>
    obtain ⟨k, hg, hk, rfl, rfl, rfl⟩ := hrel
    rcases (show k = 0 ∨ k = 1 ∨ k = 2 ∨ k = 3 ∨ k = 4 by omega) with rfl | rfl | rfl | rfl | rfl
    · simp only [Nat.reduceSub, List.drop_succ_cons, List.drop_zero, List.drop_nil, num]
      go_wp2_with fail
      go_roundg (4 - 1)
      case measure => omega
      case rel =>
        refine ⟨1, by omega, by omega, by go_num, ?_, rfl⟩
        simp only [Nat.reduceSub, List.drop_succ_cons, List.drop_zero, List.drop_nil, num]
        refine congrArg (Value.int .u32) ?_
        omega
    · simp only [Nat.reduceSub, List.drop_succ_cons, List.drop_zero, List.drop_nil, num]
      go_wp2_with fail
      go_roundg (4 - 2)
      case measure => omega
      case rel =>
        refine ⟨2, by omega, by omega, by go_num, ?_, rfl⟩
        simp only [Nat.reduceSub, List.drop_succ_cons, List.drop_zero, List.drop_nil, num]
        refine congrArg (Value.int .u32) ?_
        omega
    · simp only [Nat.reduceSub, List.drop_succ_cons, List.drop_zero, List.drop_nil, num]
      go_wp2_with fail
      go_roundg (4 - 3)
      case measure => omega
      case rel =>
        refine ⟨3, by omega, by omega, by go_num, ?_, rfl⟩
        simp only [Nat.reduceSub, List.drop_succ_cons, List.drop_zero, List.drop_nil, num]
        refine congrArg (Value.int .u32) ?_
        omega
    · simp only [Nat.reduceSub, List.drop_succ_cons, List.drop_zero, List.drop_nil, num]
      go_wp2_with fail
      go_roundg (4 - 4)
      case measure => omega
      case rel =>
        refine ⟨4, by omega, by omega, by go_num, ?_, rfl⟩
        simp only [Nat.reduceSub, List.drop_succ_cons, List.drop_zero, List.drop_nil, num]
        refine congrArg (Value.int .u32) ?_
        omega
    · simp only [Nat.reduceSub, List.drop_zero, num]
      go_wp2_with fail
      go_ret
      exact ⟨rfl, rfl⟩
theorem rnum2_any (w : World) (g o cap : Nat) (l : List Int) (hl : l.length = 2) (hb : ∀ x ∈ l, Byte x) (hc : ∀ i x, l[i]? = some x → w.cell? ⟨g, o + i, none⟩ = some (.int .u8 x)) :
    Calls Try.prog 41 #[.slice (some ⟨g, o, none⟩) 2 cap] w fun e w' => e = .returned (.int .u32 (num l)) ∧ w = w' := by
  obtain ⟨x0, x1, rfl⟩ : ∃ x0 x1, l = [x0, x1] := by
    match l, hl with
    | [x0, x1], _ => exact ⟨x0, x1, rfl⟩
  have c0 := hc 0 x0 rfl
  obtain ⟨p0, q0⟩ := hb x0 (by simp)
  have c1 := hc 1 x1 rfl
  obtain ⟨p1, q1⟩ := hb x1 (by simp)
  simp only [Nat.add_zero] at c0
  clear hc hb hl
  go_enter Try.func41, Try.ntmps41
  go_wp2_with fail
  go_loopg [3, 4] 2 (fun q r i wr => ∃ k : Nat, 2 - k ≤ q ∧ k ≤ 2 ∧ i = .int .i64 (1 - (k : Int)) ∧ r = .int .u32 (num ([x0, x1].drop (2 - k))) ∧ w = wr)
  case atStart => exact ⟨0, by omega, by omega, by go_num, rfl, rfl⟩
  case round =>
    obtain ⟨k, hg, hk, rfl, rfl, rfl⟩ := hrel
    rcases (show k = 0 ∨ k = 1 ∨ k = 2 by omega) with rfl | rfl | rfl
    · simp only [Nat.reduceSub, List.drop_succ_cons, List.drop_zero, List.drop_nil, num]
      go_wp2_with fail
      go_roundg (2 - 1)
      case measure => omega
      case rel =>
        refine ⟨1, by omega, by omega, by go_num, ?_, rfl⟩
        simp only [Nat.reduceSub, List.drop_succ_cons, List.drop_zero, List.drop_nil, num]
        refine congrArg (Value.int .u32) ?_
        omega
    · simp only [Nat.reduceSub, List.drop_succ_cons, List.drop_zero, List.drop_nil, num]
      go_wp2_with fail
      go_roundg (2 - 2)
      case measure => omega
      case rel =>
        refine ⟨2, by omega, by omega, by go_num, ?_, rfl⟩
        simp only [Nat.reduceSub, List.drop_succ_cons, List.drop_zero, List.drop_nil, num]
        refine congrArg (Value.int .u32) ?_
        omega
    · simp only [Nat.reduceSub, List.drop_zero, num]
      go_wp2_with fail
      go_ret
      exact ⟨rfl, rfl⟩
end Go.Proofs.Ytbhaifdhmfmeoaa
