/- The contracts of the small functions: bounds, heads, numbers as bytes. -/
import Derived.Test.YtbhaifdhmfmeoaaMem
import Derived.Test.YtbhaifdhmfmeoaaSpec
import Derived.Lib.EndianBits
namespace Go.Proofs.Ytbhaifdhmfmeoaa
set_option linter.unusedSimpArgs false
set_option linter.unusedVariables false
open Go.RowKit

theorem ret_bool {a b : Bool} (h : a = b) : Ending.returned (.bool a) = Ending.returned (.bool b) := by rw [h]
theorem within_any (n a b : Int) (w : World) : Calls Try.prog 64 #[.int .i64 n, .int .i64 a, .int .i64 b] w fun e w' => e = .returned (.bool (within n a b)) ∧ w = w' := by
  unfold within
  by_cases h1 : a ≤ n <;> by_cases h2 : n ≤ b <;> simp only [h1, h2, decide_true, decide_false, Bool.and_true, Bool.and_false]
  all_goals
    go_enter Try.func64, Try.ntmps64
    go_wp2_with fail
    go_ret
    exact ⟨rfl, rfl⟩
theorem isHead_any (h : Int) (w : World) : Calls Try.prog 69 #[.int .i64 h] w fun e w' => e = .returned (.bool (isHead h)) ∧ w = w' := by
  have H := Lib.hid fun w => within_any h 4 1023 w
  unfold isHead
  by_cases h0 : h = 0
  · subst h0
    go_enter Try.func69, Try.ntmps69
    go_wp2_with fail
    go_ret
    exact ⟨rfl, rfl⟩
  · by_cases h1 : h = 1
    · subst h1
      go_enter Try.func69, Try.ntmps69
      go_wp2_with fail
      go_ret
      exact ⟨rfl, rfl⟩
    · simp only [h0, h1, decide_false, Bool.false_or]
      go_enter Try.func69, Try.ntmps69
      go_wp2_with fail
      refine (H.out _).mono ?_
      rintro e w1 ⟨rfl, rfl⟩
      go_wp2_with fail
      go_ret
      exact ⟨ret_bool (by simp [h0, h1, within]), rfl⟩
theorem rhead_any (h : Int) (w : World) : Calls Try.prog 55 #[.int .i64 h] w fun e w' => e = .returned (.bool (isHead h)) ∧ w = w' := by
  unfold isHead
  by_cases h0 : h = 0
  · subst h0
    go_enter Try.func55, Try.ntmps55
    go_wp2_with fail
    go_ret
    exact ⟨rfl, rfl⟩
  · by_cases h1 : h = 1
    · subst h1
      go_enter Try.func55, Try.ntmps55
      go_wp2_with fail
      go_ret
      exact ⟨rfl, rfl⟩
    · by_cases h2 : 4 ≤ h <;> by_cases h3 : h ≤ 1023 <;> simp only [h0, h1, h2, h3, decide_false, decide_true, Bool.false_or, Bool.and_true, Bool.and_false]
      all_goals
        go_enter Try.func55, Try.ntmps55
        go_wp2_with fail
        go_ret
        exact ⟨ret_bool (by simp [h0, h1]), rfl⟩

/-- Bytes laid over l from o on. -/
def lay (l : List Value) (o : Nat) (bs : List Int) : List Value := l.take o ++ bs.map (Value.int .u8) ++ l.drop (o + bs.length)
theorem lay_length (l : List Value) (o : Nat) (bs : List Int) (h : o + bs.length ≤ l.length) : (lay l o bs).length = l.length := by
  simp [lay]
  omega
theorem lay_nil (l : List Value) (o : Nat) : lay l o [] = l := by simp [lay]
theorem lay_snoc (l : List Value) (o : Nat) (bs : List Int) (x : Int) (h : o + bs.length < l.length) : (lay l o bs).set (o + bs.length) (.int .u8 x) = lay l o (bs ++ [x]) := by
  have h1 : (l.take o).length = o := by simp; omega
  unfold lay
  rw [List.set_append_right _ _ (by simp; omega)]
  simp only [List.length_append, h1, List.length_map, Nat.sub_self, List.map_append, List.map_cons, List.map_nil]
  rw [List.append_assoc, List.append_assoc, List.append_assoc]
  congr 1
  rw [show l.drop (o + bs.length) = l[o + bs.length] :: l.drop (o + bs.length + 1) from List.drop_eq_getElem_cons h]
  simp [Nat.add_assoc]
theorem lay_at (l : List Value) (o : Nat) (bs : List Int) (k : Nat) (h1 : o + bs.length ≤ k) : (lay l o bs)[k]? = l[k]? := by
  unfold lay
  by_cases hk : k < l.length
  · have h2 : (l.take o).length = o := by simp; omega
    rw [List.getElem?_append_right (by simp; omega)]
    simp only [List.length_append, h2, List.length_map, List.getElem?_drop]
    congr 1
    omega
  · rw [List.getElem?_eq_none (by simp; omega), List.getElem?_eq_none (by omega)]

theorem u32_or0 (x : Int) (h : 0 ≤ x ∧ x < 4294967296) : bits .or .u32 0 x = x := by
  have := bits_join_low .u32 32 (by decide) wraps_u32 0 0 x (by decide) (by decide) (by decide) h.1 (by omega) (by omega)
  omega
theorem le4 (v : Int) : le 4 v = [v % 256, v / 256 % 256, v / 65536 % 256, v / 16777216 % 256] := by
  simp only [le, List.cons.injEq, and_true, true_and]
  omega
theorem le2 (v : Int) : le 2 v = [v % 256, v / 256 % 256] := rfl
theorem lay_old {l : List Value} {o : Nat} {bs : List Int} {n k : Nat} (h : o + n ≤ l.length) (h1 : o + bs.length ≤ k) (h2 : k < o + n) : (lay l o bs)[k]? = some (l.getD k undef) := by
  rw [lay_at l o bs k h1, List.getD_eq_getElem?_getD, List.getElem?_eq_getElem (by omega)]
  rfl
set_option maxRecDepth 100000 in
theorem put4_any (w : World) (g o cap : Nat) (l : List Value) (hb : Blk w g l) (ho : o + 4 ≤ l.length) (v : Int) (hv : 0 ≤ v ∧ v < 4294967296) :
    Calls Try.prog 59 #[.slice (some ⟨g, o, none⟩) 4 cap, .int .u32 v] w fun e w' => e = .returned (.tuple #[]) ∧ Blk w' g (lay l o (le 4 v)) ∧ Only (fun k => k = g) w w' := by
  obtain ⟨hv1, hv2⟩ := hv
  go_enter Try.func59, Try.ntmps59
  go_wp2_with fail
  go_loopg [7] 4 (fun q i wr => ∃ k : Nat, 4 - k ≤ q ∧ k ≤ 4 ∧ i = .int .i64 k ∧ Blk wr g (lay l o ((le 4 v).take k)) ∧ Only (fun k => k = g) w wr)
  case atStart => exact ⟨0, by omega, by omega, rfl, by rw [List.take_zero, lay_nil]; exact hb, Only.refl _ _⟩
  case round =>
    obtain ⟨k, hg, hk, rfl, hb1, hon⟩ := hrel
    rcases (show k = 0 ∨ k = 1 ∨ k = 2 ∨ k = 3 ∨ k = 4 by omega) with rfl | rfl | rfl | rfl | rfl
    · have hcell := hb1.cell (lay_old (k := o) ho (by rw [List.length_take, le_length]; omega) (by omega))
      have hfro := hb1.frozen o
      have HB := Lib.hid hb1
      have HO := Lib.hid hon
      clear hb1 hon
      go_wp2_with fail
      go_roundg (4 - 1)
      case measure => omega
      case rel =>
        refine ⟨1, by omega, by omega, by go_num, ?_, HO.out.setCell (.inl rfl) _⟩
        have hs := HB.out.set (o + 0) (.int .u8 (v % 256))
        rw [show lay l o ((le 4 v).take 1) = (lay l o ((le 4 v).take 0)).set (o + 0) (.int .u8 (v % 256)) from (by
          have := lay_snoc l o ((le 4 v).take 0) (v % 256) (by rw [List.length_take, le_length]; omega)
          simp only [le4, List.take_succ_cons, List.take_zero, List.length_cons, List.length_nil, List.cons_append, List.nil_append, Nat.zero_add, Nat.reduceAdd] at this ⊢
          exact this.symm)]
        first | exact hs | simpa using hs | (rw [show v / 16777216 % 256 = v / 16777216 by omega] at hs ⊢; exact hs)
    · have hcell := hb1.cell (lay_old (k := o + 1) ho (by rw [List.length_take, le_length]; omega) (by omega))
      have hfro := hb1.frozen (o + 1)
      have HB := Lib.hid hb1
      have HO := Lib.hid hon
      clear hb1 hon
      go_wp2_with fail
      go_roundg (4 - 2)
      case measure => omega
      case rel =>
        refine ⟨2, by omega, by omega, by go_num, ?_, HO.out.setCell (.inl rfl) _⟩
        have hs := HB.out.set (o + 1) (.int .u8 (v / 256 % 256))
        rw [show lay l o ((le 4 v).take 2) = (lay l o ((le 4 v).take 1)).set (o + 1) (.int .u8 (v / 256 % 256)) from (by
          have := lay_snoc l o ((le 4 v).take 1) (v / 256 % 256) (by rw [List.length_take, le_length]; omega)
          simp only [le4, List.take_succ_cons, List.take_zero, List.length_cons, List.length_nil, List.cons_append, List.nil_append, Nat.zero_add, Nat.reduceAdd] at this ⊢
          exact this.symm)]
        first | exact hs | simpa using hs | (rw [show v / 16777216 % 256 = v / 16777216 by omega] at hs ⊢; exact hs)
    · have hcell := hb1.cell (lay_old (k := o + 2) ho (by rw [List.length_take, le_length]; omega) (by omega))
      have hfro := hb1.frozen (o + 2)
      have HB := Lib.hid hb1
      have HO := Lib.hid hon
      clear hb1 hon
      go_wp2_with fail
      go_roundg (4 - 3)
      case measure => omega
      case rel =>
        refine ⟨3, by omega, by omega, by go_num, ?_, HO.out.setCell (.inl rfl) _⟩
        have hs := HB.out.set (o + 2) (.int .u8 (v / 65536 % 256))
        rw [show lay l o ((le 4 v).take 3) = (lay l o ((le 4 v).take 2)).set (o + 2) (.int .u8 (v / 65536 % 256)) from (by
          have := lay_snoc l o ((le 4 v).take 2) (v / 65536 % 256) (by rw [List.length_take, le_length]; omega)
          simp only [le4, List.take_succ_cons, List.take_zero, List.length_cons, List.length_nil, List.cons_append, List.nil_append, Nat.zero_add, Nat.reduceAdd] at this ⊢
          exact this.symm)]
        first | exact hs | simpa using hs | (rw [show v / 16777216 % 256 = v / 16777216 by omega] at hs ⊢; exact hs)
    · have hcell := hb1.cell (lay_old (k := o + 3) ho (by rw [List.length_take, le_length]; omega) (by omega))
      have hfro := hb1.frozen (o + 3)
      have HB := Lib.hid hb1
      have HO := Lib.hid hon
      clear hb1 hon
      go_wp2_with fail
      go_roundg (4 - 4)
      case measure => omega
      case rel =>
        refine ⟨4, by omega, by omega, by go_num, ?_, HO.out.setCell (.inl rfl) _⟩
        have hs := HB.out.set (o + 3) (.int .u8 (v / 16777216 % 256))
        rw [show lay l o ((le 4 v).take 4) = (lay l o ((le 4 v).take 3)).set (o + 3) (.int .u8 (v / 16777216 % 256)) from (by
          have := lay_snoc l o ((le 4 v).take 3) (v / 16777216 % 256) (by rw [List.length_take, le_length]; omega)
          simp only [le4, List.take_succ_cons, List.take_zero, List.length_cons, List.length_nil, List.cons_append, List.nil_append, Nat.zero_add, Nat.reduceAdd] at this ⊢
          exact this.symm)]
        first | exact hs | simpa using hs | (rw [show v / 16777216 % 256 = v / 16777216 by omega] at hs ⊢; exact hs)
    · have HB := Lib.hid hb1
      have HO := Lib.hid hon
      clear hb1 hon
      go_wp2_with fail
      go_end0
      exact ⟨rfl, by simpa [le4] using HB.out, HO.out⟩
set_option maxRecDepth 100000 in
theorem put2_any (w : World) (g o cap : Nat) (l : List Value) (hb : Blk w g l) (ho : o + 2 ≤ l.length) (v : Int) (hv : 0 ≤ v ∧ v < 4294967296) :
    Calls Try.prog 59 #[.slice (some ⟨g, o, none⟩) 2 cap, .int .u32 v] w fun e w' => e = .returned (.tuple #[]) ∧ Blk w' g (lay l o (le 2 v)) ∧ Only (fun k => k = g) w w' := by
  obtain ⟨hv1, hv2⟩ := hv
  go_enter Try.func59, Try.ntmps59
  go_wp2_with fail
  go_loopg [7] 2 (fun q i wr => ∃ k : Nat, 2 - k ≤ q ∧ k ≤ 2 ∧ i = .int .i64 k ∧ Blk wr g (lay l o ((le 2 v).take k)) ∧ Only (fun k => k = g) w wr)
  case atStart => exact ⟨0, by omega, by omega, rfl, by rw [List.take_zero, lay_nil]; exact hb, Only.refl _ _⟩
  case round =>
    obtain ⟨k, hg, hk, rfl, hb1, hon⟩ := hrel
    rcases (show k = 0 ∨ k = 1 ∨ k = 2 by omega) with rfl | rfl | rfl
    · have hcell := hb1.cell (lay_old (k := o) ho (by rw [List.length_take, le_length]; omega) (by omega))
      have hfro := hb1.frozen o
      have HB := Lib.hid hb1
      have HO := Lib.hid hon
      clear hb1 hon
      go_wp2_with fail
      go_roundg (2 - 1)
      case measure => omega
      case rel =>
        refine ⟨1, by omega, by omega, by go_num, ?_, HO.out.setCell (.inl rfl) _⟩
        have hs := HB.out.set (o + 0) (.int .u8 (v % 256))
        rw [show lay l o ((le 2 v).take 1) = (lay l o ((le 2 v).take 0)).set (o + 0) (.int .u8 (v % 256)) from (by
          have := lay_snoc l o ((le 2 v).take 0) (v % 256) (by rw [List.length_take, le_length]; omega)
          simp only [le2, List.take_succ_cons, List.take_zero, List.length_cons, List.length_nil, List.cons_append, List.nil_append, Nat.zero_add, Nat.reduceAdd] at this ⊢
          exact this.symm)]
        first | exact hs | simpa using hs | (rw [show v / 16777216 % 256 = v / 16777216 by omega] at hs ⊢; exact hs)
    · have hcell := hb1.cell (lay_old (k := o + 1) ho (by rw [List.length_take, le_length]; omega) (by omega))
      have hfro := hb1.frozen (o + 1)
      have HB := Lib.hid hb1
      have HO := Lib.hid hon
      clear hb1 hon
      go_wp2_with fail
      go_roundg (2 - 2)
      case measure => omega
      case rel =>
        refine ⟨2, by omega, by omega, by go_num, ?_, HO.out.setCell (.inl rfl) _⟩
        have hs := HB.out.set (o + 1) (.int .u8 (v / 256 % 256))
        rw [show lay l o ((le 2 v).take 2) = (lay l o ((le 2 v).take 1)).set (o + 1) (.int .u8 (v / 256 % 256)) from (by
          have := lay_snoc l o ((le 2 v).take 1) (v / 256 % 256) (by rw [List.length_take, le_length]; omega)
          simp only [le2, List.take_succ_cons, List.take_zero, List.length_cons, List.length_nil, List.cons_append, List.nil_append, Nat.zero_add, Nat.reduceAdd] at this ⊢
          exact this.symm)]
        first | exact hs | simpa using hs | (rw [show v / 16777216 % 256 = v / 16777216 by omega] at hs ⊢; exact hs)
    · have HB := Lib.hid hb1
      have HO := Lib.hid hon
      clear hb1 hon
      go_wp2_with fail
      go_end0
      exact ⟨rfl, by simpa [le2] using HB.out, HO.out⟩
theorem get4_any (w : World) (g o cap : Nat) (l : List Int) (hl : l.length = 4) (hb : ∀ x ∈ l, Byte x) (hc : ∀ i x, l[i]? = some x → w.cell? ⟨g, o + i, none⟩ = some (.int .u8 x)) :
    Calls Try.prog 68 #[.slice (some ⟨g, o, none⟩) 4 cap] w fun e w' => e = .returned (.int .u32 (num l)) ∧ w = w' := by
  obtain ⟨x0, x1, x2, x3, rfl⟩ : ∃ x0 x1 x2 x3, l = [x0, x1, x2, x3] := by
    match l, hl with
    | [x0, x1, x2, x3], _ => exact ⟨x0, x1, x2, x3, rfl⟩
  have c0 := hc 0 x0 rfl
  obtain ⟨p0, q0⟩ := hb x0 (by simp)
  have c1 := hc 1 x1 rfl
  obtain ⟨p1, q1⟩ := hb x1 (by simp)
  have c2 := hc 2 x2 rfl
  obtain ⟨p2, q2⟩ := hb x2 (by simp)
  have c3 := hc 3 x3 rfl
  obtain ⟨p3, q3⟩ := hb x3 (by simp)
  simp only [Nat.add_zero] at c0
  clear hc hb hl
  go_enter Try.func68, Try.ntmps68
  go_wp2_with fail
  go_loopg [3, 8] 4 (fun q r i wr => ∃ k : Nat, 4 - k ≤ q ∧ k ≤ 4 ∧ i = .int .i64 k ∧ r = .int .u32 (num ([x0, x1, x2, x3].take k)) ∧ w = wr)
  case atStart => exact ⟨0, by omega, by omega, rfl, rfl, rfl⟩
  case round =>
    obtain ⟨k, hg, hk, rfl, rfl, rfl⟩ := hrel
    rcases (show k = 0 ∨ k = 1 ∨ k = 2 ∨ k = 3 ∨ k = 4 by omega) with rfl | rfl | rfl | rfl | rfl
    · simp only [List.take_succ_cons, List.take_zero, num]
      go_wp2_with fail
      go_roundg (4 - 1)
      case measure => omega
      case rel =>
        refine ⟨1, by omega, by omega, by go_num, ?_, rfl⟩
        simp only [List.take_succ_cons, List.take_zero, num]
        refine congrArg (Value.int .u32) ?_
        rw [u32_or0 x0 (by omega)]
        omega
    · simp only [List.take_succ_cons, List.take_zero, num]
      go_wp2_with fail
      go_roundg (4 - 2)
      case measure => omega
      case rel =>
        refine ⟨2, by omega, by omega, by go_num, ?_, rfl⟩
        simp only [List.take_succ_cons, List.take_zero, num]
        refine congrArg (Value.int .u32) ?_
        rw [u32_or8 _ _ (by omega) (by omega) (by omega) (by omega) (by omega)]
        omega
    · simp only [List.take_succ_cons, List.take_zero, num]
      go_wp2_with fail
      go_roundg (4 - 3)
      case measure => omega
      case rel =>
        refine ⟨3, by omega, by omega, by go_num, ?_, rfl⟩
        simp only [List.take_succ_cons, List.take_zero, num]
        refine congrArg (Value.int .u32) ?_
        rw [u32_or16 _ _ (by omega) (by omega) (by omega) (by omega) (by omega)]
        omega
    · simp only [List.take_succ_cons, List.take_zero, num]
      go_wp2_with fail
      go_roundg (4 - 4)
      case measure => omega
      case rel =>
        refine ⟨4, by omega, by omega, by go_num, ?_, rfl⟩
        simp only [List.take_succ_cons, List.take_zero, num]
        refine congrArg (Value.int .u32) ?_
        rw [u32_or24 _ _ (by omega) (by omega) (by omega) (by omega) (by omega)]
        omega
    · simp only [List.take_succ_cons, List.take_zero, num]
      go_wp2_with fail
      go_ret
      exact ⟨rfl, rfl⟩
theorem get2_any (w : World) (g o cap : Nat) (l : List Int) (hl : l.length = 2) (hb : ∀ x ∈ l, Byte x) (hc : ∀ i x, l[i]? = some x → w.cell? ⟨g, o + i, none⟩ = some (.int .u8 x)) :
    Calls Try.prog 68 #[.slice (some ⟨g, o, none⟩) 2 cap] w fun e w' => e = .returned (.int .u32 (num l)) ∧ w = w' := by
  obtain ⟨x0, x1, rfl⟩ : ∃ x0 x1, l = [x0, x1] := by
    match l, hl with
    | [x0, x1], _ => exact ⟨x0, x1, rfl⟩
  have c0 := hc 0 x0 rfl
  obtain ⟨p0, q0⟩ := hb x0 (by simp)
  have c1 := hc 1 x1 rfl
  obtain ⟨p1, q1⟩ := hb x1 (by simp)
  simp only [Nat.add_zero] at c0
  clear hc hb hl
  go_enter Try.func68, Try.ntmps68
  go_wp2_with fail
  go_loopg [3, 8] 2 (fun q r i wr => ∃ k : Nat, 2 - k ≤ q ∧ k ≤ 2 ∧ i = .int .i64 k ∧ r = .int .u32 (num ([x0, x1].take k)) ∧ w = wr)
  case atStart => exact ⟨0, by omega, by omega, rfl, rfl, rfl⟩
  case round =>
    obtain ⟨k, hg, hk, rfl, rfl, rfl⟩ := hrel
    rcases (show k = 0 ∨ k = 1 ∨ k = 2 by omega) with rfl | rfl | rfl
    · simp only [List.take_succ_cons, List.take_zero, num]
      go_wp2_with fail
      go_roundg (2 - 1)
      case measure => omega
      case rel =>
        refine ⟨1, by omega, by omega, by go_num, ?_, rfl⟩
        simp only [List.take_succ_cons, List.take_zero, num]
        refine congrArg (Value.int .u32) ?_
        rw [u32_or0 x0 (by omega)]
        omega
    · simp only [List.take_succ_cons, List.take_zero, num]
      go_wp2_with fail
      go_roundg (2 - 2)
      case measure => omega
      case rel =>
        refine ⟨2, by omega, by omega, by go_num, ?_, rfl⟩
        simp only [List.take_succ_cons, List.take_zero, num]
        refine congrArg (Value.int .u32) ?_
        rw [u32_or8 _ _ (by omega) (by omega) (by omega) (by omega) (by omega)]
        omega
    · simp only [List.take_succ_cons, List.take_zero, num]
      go_wp2_with fail
      go_ret
      exact ⟨rfl, rfl⟩
set_option maxRecDepth 100000 in
theorem headOf_any (w : World) (g i : Nat) (hi : i < 8) : Calls Try.prog 60 #[.pointer (some ⟨g, 0, none⟩), .int .i64 i] w fun e w' => e = .returned (.slice (some ⟨g, 6 + 2 * i, none⟩) 2 (64 - (6 + 2 * i))) ∧ w = w' := by
  rcases (show i = 0 ∨ i = 1 ∨ i = 2 ∨ i = 3 ∨ i = 4 ∨ i = 5 ∨ i = 6 ∨ i = 7 by omega) with rfl | rfl | rfl | rfl | rfl | rfl | rfl | rfl
  all_goals
    go_enter Try.func60, Try.ntmps60
    go_wp2_with fail
    go_ret
    exact ⟨rfl, rfl⟩

end Go.Proofs.Ytbhaifdhmfmeoaa
