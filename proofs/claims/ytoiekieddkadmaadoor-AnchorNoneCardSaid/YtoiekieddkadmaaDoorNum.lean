/- Package region's small functions: within, put, get, small, rootAt. -/
import Derived.RegionTactic
import Derived.Lib.EndianBits
import Derived.Test.YtoiekieddkadmaaDoorTo
namespace Go.Proofs.YtoiekieddkadmaaDoor
set_option linter.unusedSimpArgs false
set_option linter.unusedVariables false
open Go.RowKit

def within (n a b : Int) : Bool := decide (a ≤ n) && decide (n ≤ b)
theorem rwithin_any (n a b : Int) (w : World) : Calls Tryd.prog 34 #[.int .i64 n, .int .i64 a, .int .i64 b] w fun e w' => e = .returned (.bool (within n a b)) ∧ w = w' := by
  by_cases h1 : a ≤ n
  · by_cases h2 : n ≤ b
    · go_enter Tryd.func34, Tryd.ntmps34
      go_wp2_with fail
      go_ret
      exact ⟨ret_bool (by simp [within, h1, h2]), rfl⟩
    · go_enter Tryd.func34, Tryd.ntmps34
      go_wp2_with fail
      go_ret
      exact ⟨ret_bool (by simp [within, h1, h2]), rfl⟩
  · go_enter Tryd.func34, Tryd.ntmps34
    go_wp2_with fail
    go_ret
    exact ⟨ret_bool (by simp [within]; omega), rfl⟩
theorem lay_old {l : List Value} {o : Nat} {bs : List Int} {n k : Nat} (h : o + n ≤ l.length) (h1 : o + bs.length ≤ k) (h2 : k < o + n) : (lay l o bs)[k]? = some (l.getD k undef) := by
  rw [lay_at l o bs k h1, List.getD_eq_getElem?_getD, List.getElem?_eq_getElem (by omega)]
  rfl
set_option maxRecDepth 100000 in
theorem put4_any (w : World) (g o cap : Nat) (l : List Value) (hb : Blk w g l) (ho : o + 4 ≤ l.length) (v : Int) (hv : 0 ≤ v ∧ v < 4294967296) :
    Calls Tryd.prog 48 #[.slice (some ⟨g, o, none⟩) 4 cap, .int .u32 v] w fun e w' => e = .returned (.tuple #[]) ∧ Blk w' g (lay l o (le 4 v)) ∧ Only (fun k => k = g) w w' := by
  obtain ⟨hv1, hv2⟩ := hv
  go_enter Tryd.func48, Tryd.ntmps48
  go_wp2_with fail
  go_loopg [7] 4 (fun q i wr => ∃ k : Nat, 4 - k ≤ q ∧ k ≤ 4 ∧ i = .int .i64 k ∧ Blk wr g (lay l o ((le 4 v).take k)) ∧ Only (fun k => k = g) w wr)
  case atStart => exact ⟨0, by omega, by omega, rfl, by rw [List.take_zero, lay_nil]; exact hb, Only.refl _ _⟩
  case round =>
    obtain ⟨k, hg, hk, rfl, hb1, hon⟩ := hrel
    rcases (show k = 0 ∨ k = 1 ∨ k = 2 ∨ k = 3 ∨ k = 4 by omega) with rfl | rfl | rfl | rfl | rfl
    · have hcell := hb1.cell (lay_old (k := o) ho (by rw [List.length_take, le_length]; omega) (by omega))
      have hfro := hb1.frozen o
      have HB := Lib.hid hb1
      have HO := Lib.hid hon
      clear hb1 hon
      go_wp2_with fail
      go_roundg (4 - 1)
      case measure => omega
      case rel =>
        refine ⟨1, by omega, by omega, by go_num, ?_, HO.out.setCell (.inl rfl) _⟩
        have hs := HB.out.set (o + 0) (.int .u8 (v % 256))
        rw [show lay l o ((le 4 v).take 1) = (lay l o ((le 4 v).take 0)).set (o + 0) (.int .u8 (v % 256)) from (by
          have := lay_snoc l o ((le 4 v).take 0) (v % 256) (by rw [List.length_take, le_length]; omega)
          simp only [le4, List.take_succ_cons, List.take_zero, List.length_cons, List.length_nil, List.cons_append, List.nil_append, Nat.zero_add, Nat.reduceAdd] at this ⊢
          exact this.symm)]
        first | exact hs | simpa using hs | (rw [show v / 16777216 % 256 = v / 16777216 by omega] at hs ⊢; exact hs)
    · have hcell := hb1.cell (lay_old (k := o + 1) ho (by rw [List.length_take, le_length]; omega) (by omega))
      have hfro := hb1.frozen (o + 1)
      have HB := Lib.hid hb1
      have HO := Lib.hid hon
      clear hb1 hon
      go_wp2_with fail
      go_roundg (4 - 2)
      case measure => omega
      case rel =>
        refine ⟨2, by omega, by omega, by go_num, ?_, HO.out.setCell (.inl rfl) _⟩
        have hs := HB.out.set (o + 1) (.int .u8 (v / 256 % 256))
        rw [show lay l o ((le 4 v).take 2) = (lay l o ((le 4 v).take 1)).set (o + 1) (.int .u8 (v / 256 % 256)) from (by
          have := lay_snoc l o ((le 4 v).take 1) (v / 256 % 256) (by rw [List.length_take, le_length]; omega)
          simp only [le4, List.take_succ_cons, List.take_zero, List.length_cons, List.length_nil, List.cons_append, List.nil_append, Nat.zero_add, Nat.reduceAdd] at this ⊢
          exact this.symm)]
        first | exact hs | simpa using hs | (rw [show v / 16777216 % 256 = v / 16777216 by omega] at hs ⊢; exact hs)
    · have hcell := hb1.cell (lay_old (k := o + 2) ho (by rw [List.length_take, le_length]; omega) (by omega))
      have hfro := hb1.frozen (o + 2)
      have HB := Lib.hid hb1
      have HO := Lib.hid hon
      clear hb1 hon
      go_wp2_with fail
      go_roundg (4 - 3)
      case measure => omega
      case rel =>
        refine ⟨3, by omega, by omega, by go_num, ?_, HO.out.setCell (.inl rfl) _⟩
        have hs := HB.out.set (o + 2) (.int .u8 (v / 65536 % 256))
        rw [show lay l o ((le 4 v).take 3) = (lay l o ((le 4 v).take 2)).set (o + 2) (.int .u8 (v / 65536 % 256)) from (by
          have := lay_snoc l o ((le 4 v).take 2) (v / 65536 % 256) (by rw [List.length_take, le_length]; omega)
          simp only [le4, List.take_succ_cons, List.take_zero, List.length_cons, List.length_nil, List.cons_append, List.nil_append, Nat.zero_add, Nat.reduceAdd] at this ⊢
          exact this.symm)]
        first | exact hs | simpa using hs | (rw [show v / 16777216 % 256 = v / 16777216 by omega] at hs ⊢; exact hs)
    · have hcell := hb1.cell (lay_old (k := o + 3) ho (by rw [List.length_take, le_length]; omega) (by omega))
      have hfro := hb1.frozen (o + 3)
      have HB := Lib.hid hb1
      have HO := Lib.hid hon
      clear hb1 hon
      go_wp2_with fail
      go_roundg (4 - 4)
      case measure => omega
      case rel =>
        refine ⟨4, by omega, by omega, by go_num, ?_, HO.out.setCell (.inl rfl) _⟩
        have hs := HB.out.set (o + 3) (.int .u8 (v / 16777216 % 256))
        rw [show lay l o ((le 4 v).take 4) = (lay l o ((le 4 v).take 3)).set (o + 3) (.int .u8 (v / 16777216 % 256)) from (by
          have := lay_snoc l o ((le 4 v).take 3) (v / 16777216 % 256) (by rw [List.length_take, le_length]; omega)
          simp only [le4, List.take_succ_cons, List.take_zero, List.length_cons, List.length_nil, List.cons_append, List.nil_append, Nat.zero_add, Nat.reduceAdd] at this ⊢
          exact this.symm)]
        first | exact hs | simpa using hs | (rw [show v / 16777216 % 256 = v / 16777216 by omega] at hs ⊢; exact hs)
    · have HB := Lib.hid hb1
      have HO := Lib.hid hon
      clear hb1 hon
      go_wp2_with fail
      go_end0
      exact ⟨rfl, by simpa [le4] using HB.out, HO.out⟩
set_option maxRecDepth 100000 in
theorem put2_any (w : World) (g o cap : Nat) (l : List Value) (hb : Blk w g l) (ho : o + 2 ≤ l.length) (v : Int) (hv : 0 ≤ v ∧ v < 4294967296) :
    Calls Tryd.prog 48 #[.slice (some ⟨g, o, none⟩) 2 cap, .int .u32 v] w fun e w' => e = .returned (.tuple #[]) ∧ Blk w' g (lay l o (le 2 v)) ∧ Only (fun k => k = g) w w' := by
  obtain ⟨hv1, hv2⟩ := hv
  go_enter Tryd.func48, Tryd.ntmps48
  go_wp2_with fail
  go_loopg [7] 2 (fun q i wr => ∃ k : Nat, 2 - k ≤ q ∧ k ≤ 2 ∧ i = .int .i64 k ∧ Blk wr g (lay l o ((le 2 v).take k)) ∧ Only (fun k => k = g) w wr)
  case atStart => exact ⟨0, by omega, by omega, rfl, by rw [List.take_zero, lay_nil]; exact hb, Only.refl _ _⟩
  case round =>
    obtain ⟨k, hg, hk, rfl, hb1, hon⟩ := hrel
    rcases (show k = 0 ∨ k = 1 ∨ k = 2 by omega) with rfl | rfl | rfl
    · have hcell := hb1.cell (lay_old (k := o) ho (by rw [List.length_take, le_length]; omega) (by omega))
      have hfro := hb1.frozen o
      have HB := Lib.hid hb1
      have HO := Lib.hid hon
      clear hb1 hon
      go_wp2_with fail
      go_roundg (2 - 1)
      case measure => omega
      case rel =>
        refine ⟨1, by omega, by omega, by go_num, ?_, HO.out.setCell (.inl rfl) _⟩
        have hs := HB.out.set (o + 0) (.int .u8 (v % 256))
        rw [show lay l o ((le 2 v).take 1) = (lay l o ((le 2 v).take 0)).set (o + 0) (.int .u8 (v % 256)) from (by
          have := lay_snoc l o ((le 2 v).take 0) (v % 256) (by rw [List.length_take, le_length]; omega)
          simp only [le2, List.take_succ_cons, List.take_zero, List.length_cons, List.length_nil, List.cons_append, List.nil_append, Nat.zero_add, Nat.reduceAdd] at this ⊢
          exact this.symm)]
        first | exact hs | simpa using hs | (rw [show v / 16777216 % 256 = v / 16777216 by omega] at hs ⊢; exact hs)
    · have hcell := hb1.cell (lay_old (k := o + 1) ho (by rw [List.length_take, le_length]; omega) (by omega))
      have hfro := hb1.frozen (o + 1)
      have HB := Lib.hid hb1
      have HO := Lib.hid hon
      clear hb1 hon
      go_wp2_with fail
      go_roundg (2 - 2)
      case measure => omega
      case rel =>
        refine ⟨2, by omega, by omega, by go_num, ?_, HO.out.setCell (.inl rfl) _⟩
        have hs := HB.out.set (o + 1) (.int .u8 (v / 256 % 256))
        rw [show lay l o ((le 2 v).take 2) = (lay l o ((le 2 v).take 1)).set (o + 1) (.int .u8 (v / 256 % 256)) from (by
          have := lay_snoc l o ((le 2 v).take 1) (v / 256 % 256) (by rw [List.length_take, le_length]; omega)
          simp only [le2, List.take_succ_cons, List.take_zero, List.length_cons, List.length_nil, List.cons_append, List.nil_append, Nat.zero_add, Nat.reduceAdd] at this ⊢
          exact this.symm)]
        first | exact hs | simpa using hs | (rw [show v / 16777216 % 256 = v / 16777216 by omega] at hs ⊢; exact hs)
    · have HB := Lib.hid hb1
      have HO := Lib.hid hon
      clear hb1 hon
      go_wp2_with fail
      go_end0
      exact ⟨rfl, by simpa [le2] using HB.out, HO.out⟩
theorem get4_any (w : World) (g o cap : Nat) (l : List Int) (hl : l.length = 4) (hb : ∀ x ∈ l, Byte x) (hc : ∀ i x, l[i]? = some x → w.cell? ⟨g, o + i, none⟩ = some (.int .u8 x)) :
    Calls Tryd.prog 53 #[.slice (some ⟨g, o, none⟩) 4 cap] w fun e w' => e = .returned (.int .u32 (num l)) ∧ w = w' := by
  obtain ⟨x0, x1, x2, x3, rfl⟩ : ∃ x0 x1 x2 x3, l = [x0, x1, x2, x3] := by
    match l, hl with
    | [x0, x1, x2, x3], _ => exact ⟨x0, x1, x2, x3, rfl⟩
  have c0 := hc 0 x0 rfl
  obtain ⟨p0, q0⟩ := hb x0 (by simp)
  have c1 := hc 1 x1 rfl
  obtain ⟨p1, q1⟩ := hb x1 (by simp)
  have c2 := hc 2 x2 rfl
  obtain ⟨p2, q2⟩ := hb x2 (by simp)
  have c3 := hc 3 x3 rfl
  obtain ⟨p3, q3⟩ := hb x3 (by simp)
  simp only [Nat.add_zero] at c0
  clear hc hb hl
  go_enter Tryd.func53, Tryd.ntmps53
  go_wp2_with fail
  go_loopg [3, 8] 4 (fun q r i wr => ∃ k : Nat, 4 - k ≤ q ∧ k ≤ 4 ∧ i = .int .i64 k ∧ r = .int .u32 (num ([x0, x1, x2, x3].take k)) ∧ w = wr)
  case atStart => exact ⟨0, by omega, by omega, rfl, rfl, rfl⟩
  case round =>
    obtain ⟨k, hg, hk, rfl, rfl, rfl⟩ := hrel
    rcases (show k = 0 ∨ k = 1 ∨ k = 2 ∨ k = 3 ∨ k = 4 by omega) with rfl | rfl | rfl | rfl | rfl
    · simp only [List.take_succ_cons, List.take_zero, num]
      go_wp2_with fail
      go_roundg (4 - 1)
      case measure => omega
      case rel =>
        refine ⟨1, by omega, by omega, by go_num, ?_, rfl⟩
        simp only [List.take_succ_cons, List.take_zero, num]
        refine congrArg (Value.int .u32) ?_
        rw [u32_or0 x0 (by omega)]
        omega
    · simp only [List.take_succ_cons, List.take_zero, num]
      go_wp2_with fail
      go_roundg (4 - 2)
      case measure => omega
      case rel =>
        refine ⟨2, by omega, by omega, by go_num, ?_, rfl⟩
        simp only [List.take_succ_cons, List.take_zero, num]
        refine congrArg (Value.int .u32) ?_
        rw [u32_or8 _ _ (by omega) (by omega) (by omega) (by omega) (by omega)]
        omega
    · simp only [List.take_succ_cons, List.take_zero, num]
      go_wp2_with fail
      go_roundg (4 - 3)
      case measure => omega
      case rel =>
        refine ⟨3, by omega, by omega, by go_num, ?_, rfl⟩
        simp only [List.take_succ_cons, List.take_zero, num]
        refine congrArg (Value.int .u32) ?_
        rw [u32_or16 _ _ (by omega) (by omega) (by omega) (by omega) (by omega)]
        omega
    · simp only [List.take_succ_cons, List.take_zero, num]
      go_wp2_with fail
      go_roundg (4 - 4)
      case measure => omega
      case rel =>
        refine ⟨4, by omega, by omega, by go_num, ?_, rfl⟩
        simp only [List.take_succ_cons, List.take_zero, num]
        refine congrArg (Value.int .u32) ?_
        rw [u32_or24 _ _ (by omega) (by omega) (by omega) (by omega) (by omega)]
        omega
    · simp only [List.take_succ_cons, List.take_zero, num]
      go_wp2_with fail
      go_ret
      exact ⟨rfl, rfl⟩
theorem get2_any (w : World) (g o cap : Nat) (l : List Int) (hl : l.length = 2) (hb : ∀ x ∈ l, Byte x) (hc : ∀ i x, l[i]? = some x → w.cell? ⟨g, o + i, none⟩ = some (.int .u8 x)) :
    Calls Tryd.prog 53 #[.slice (some ⟨g, o, none⟩) 2 cap] w fun e w' => e = .returned (.int .u32 (num l)) ∧ w = w' := by
  obtain ⟨x0, x1, rfl⟩ : ∃ x0 x1, l = [x0, x1] := by
    match l, hl with
    | [x0, x1], _ => exact ⟨x0, x1, rfl⟩
  have c0 := hc 0 x0 rfl
  obtain ⟨p0, q0⟩ := hb x0 (by simp)
  have c1 := hc 1 x1 rfl
  obtain ⟨p1, q1⟩ := hb x1 (by simp)
  simp only [Nat.add_zero] at c0
  clear hc hb hl
  go_enter Tryd.func53, Tryd.ntmps53
  go_wp2_with fail
  go_loopg [3, 8] 2 (fun q r i wr => ∃ k : Nat, 2 - k ≤ q ∧ k ≤ 2 ∧ i = .int .i64 k ∧ r = .int .u32 (num ([x0, x1].take k)) ∧ w = wr)
  case atStart => exact ⟨0, by omega, by omega, rfl, rfl, rfl⟩
  case round =>
    obtain ⟨k, hg, hk, rfl, rfl, rfl⟩ := hrel
    rcases (show k = 0 ∨ k = 1 ∨ k = 2 by omega) with rfl | rfl | rfl
    · simp only [List.take_succ_cons, List.take_zero, num]
      go_wp2_with fail
      go_roundg (2 - 1)
      case measure => omega
      case rel =>
        refine ⟨1, by omega, by omega, by go_num, ?_, rfl⟩
        simp only [List.take_succ_cons, List.take_zero, num]
        refine congrArg (Value.int .u32) ?_
        rw [u32_or0 x0 (by omega)]
        omega
    · simp only [List.take_succ_cons, List.take_zero, num]
      go_wp2_with fail
      go_roundg (2 - 2)
      case measure => omega
      case rel =>
        refine ⟨2, by omega, by omega, by go_num, ?_, rfl⟩
        simp only [List.take_succ_cons, List.take_zero, num]
        refine congrArg (Value.int .u32) ?_
        rw [u32_or8 _ _ (by omega) (by omega) (by omega) (by omega) (by omega)]
        omega
    · simp only [List.take_succ_cons, List.take_zero, num]
      go_wp2_with fail
      go_ret
      exact ⟨rfl, rfl⟩
set_option maxRecDepth 100000 in

theorem rootAt_any (w : World) (g i : Nat) (hi : i < 8) : Calls Tryd.prog 50 #[.pointer (some ⟨g, 64, none⟩), .int .i64 i] w fun e w' => e = .returned (.slice (some ⟨g, 70 + 2 * i, none⟩) 2 (58 - 2 * i)) ∧ w = w' := by
  rcases (show i = 0 ∨ i = 1 ∨ i = 2 ∨ i = 3 ∨ i = 4 ∨ i = 5 ∨ i = 6 ∨ i = 7 by omega) with rfl | rfl | rfl | rfl | rfl | rfl | rfl | rfl
  all_goals
    go_enter Tryd.func50, Tryd.ntmps50
    go_wp2_with fail
    go_ret
    exact ⟨rfl, rfl⟩
/-- Where the small numbers of a region lie. -/
abbrev sixAt (g : Nat) : Value := .agg #[.pointer (some ⟨g, 1, none⟩), .pointer (some ⟨g, 2, none⟩), .pointer (some ⟨g, 3, none⟩), .pointer (some ⟨g, 4, none⟩), .pointer (some ⟨g, 5, none⟩), .pointer (some ⟨g, 6, none⟩)]
theorem sixAt_at (g k : Nat) (hk : k < 6) (w : World) : (Instr.index 109 (sixAt g) (.int .i64 k)).run Tryd.prog w = .ok (.pointer (some ⟨g, 1 + k, none⟩)) w := by
  rcases (show k = 0 ∨ k = 1 ∨ k = 2 ∨ k = 3 ∨ k = 4 ∨ k = 5 by omega) with rfl | rfl | rfl | rfl | rfl | rfl <;> kernel_rfl
theorem small_at (g : Nat) (w : World) : Calls Tryd.prog 49 #[.pointer (some ⟨g, 0, none⟩)] w fun e w' => e = .returned (sixAt g) ∧ Below w.heap.size w w' := by
  go_enter Tryd.func49, Tryd.ntmps49
  go_wp2_with fail
  go_region
  all_goals go_wp2_with fail
  exact bodyPost_ret (v := sixAt g) (results_cell_row rfl _ _ w.heap.size 109 _ _ _ rfl (heap_alloc_new w _) Tryd.underlying109 rfl info109) rfl ⟨rfl, ((Below.refl _ _).alloc (Nat.le_refl _) _).drew⟩
end Go.Proofs.YtoiekieddkadmaaDoor
