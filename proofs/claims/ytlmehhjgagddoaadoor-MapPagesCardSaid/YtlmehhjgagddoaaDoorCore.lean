/- Errors with the number 1; a page's number as text; rows of blocks in memory, stored into; slices made. -/
import Derived.Test.YtlmehhjgagddoaaDoorOf
import Derived.Test.YtlmehhjgagddoaaDoorInts
import Derived.Test.YtlmehhjgagddoaaDoorGood
import Derived.Test.YtlmehhjgagddoaaDoorPlan
import Derived.Deep.Upon
import Derived.Deep.Cut
import Derived.Deep.CutRange
namespace Go.Proofs.YtlmehhjgagddoaaDoor
set_option linter.unusedSimpArgs false
set_option linter.unusedVariables false
open Go.RowKit

theorem wrap_err (T : TypeId) (d : Value) (t : ByteArray) (ts : List ByteArray) (s : ByteArray) (w : World) (h : Chain w 1 (t :: ts) (.iface T d)) : Calls Tryd.prog 23 #[.iface T d, .string s] w fun e w' => ∃ T d t ts, e = .returned (.iface T d) ∧ Chain w' 1 (t :: ts) (.iface T d) ∧ Below w.heap.size w w' :=
  (wrap_some _ 1 t ts s w h).mono fun e w' ⟨v, h1, h2, h3⟩ => by
    obtain ⟨T, d, rfl⟩ := h2.shape
    exact ⟨T, d, _, _, h1, h2, h3⟩
theorem new_err (s : ByteArray) (w : World) : Calls Tryd.prog 21 #[.int .i64 1, .string s] w fun e w' => ∃ T d t ts, e = .returned (.iface T d) ∧ Chain w' 1 (t :: ts) (.iface T d) ∧ Below w.heap.size w w' :=
  (new_some 1 s w rfl).mono fun e w' ⟨v, h1, h2, h3⟩ => by
    obtain ⟨T, d, rfl⟩ := h2.shape
    exact ⟨T, d, _, _, h1, h2, h3⟩
theorem of_err (T : TypeId) (d : Value) (t : ByteArray) (ts : List ByteArray) (w : World) (hg : ErrVar w) (h : Chain w 1 (t :: ts) (.iface T d)) : Calls Tryd.prog 14 #[.iface T d] w fun e w' => e = .returned (.int .i64 1) ∧ Below w.heap.size w w' := of_num 1 _ T d w hg h

set_option maxRecDepth 100000 in
theorem istr_any (k : Nat) (hk : k < 64) (w : World) : Calls Tryd.prog 43 #[.int .i64 k] w fun e w' => ∃ s : ByteArray, e = .returned (.string s) ∧ s.size ≤ 100 ∧ w = w' := by
  by_cases h : k < 10
  · have h1 : (k : Int) < 10 := by omega
    go_enter Tryd.func43, Tryd.ntmps43
    go_wp2_with fail
    go_ret
    exact ⟨_, rfl, by simp [ByteArray.size_extract]; omega, rfl⟩
  · have h1 : ¬ (k : Int) < 10 := by omega
    go_enter Tryd.func43, Tryd.ntmps43
    go_wp2_with fail
    go_ret
    exact ⟨_, rfl, by simp [ByteArray.size_extract]; omega, rfl⟩
theorem format_any (k : Nat) (hk : k < 64) (w : World) : Calls Tryd.prog 37 #[.int .i64 k, .int .i64 10] w fun e w' => ∃ s : ByteArray, e = .returned (.string s) ∧ s.size ≤ 100 ∧ w = w' := by
  have H := Lib.hid (istr_any k hk w)
  have h0 : (0 : Int) ≤ (k : Int) := by omega
  have h1 : (k : Int) < 100 := by omega
  go_enter Tryd.func37, Tryd.ntmps37
  go_wp2_with fail
  refine H.out.mono ?_
  rintro e w' ⟨s, rfl, hs, rfl⟩
  go_wp2_with fail
  go_ret
  exact ⟨s, rfl, hs, rfl⟩
theorem itoa1_any (k : Nat) (hk : k < 64) (w : World) : Calls Tryd.prog 30 #[.int .i64 k] w fun e w' => ∃ s : ByteArray, e = .returned (.string s) ∧ s.size ≤ 100 ∧ w = w' := by
  have H := Lib.hid (format_any k hk w)
  go_enter Tryd.func30, Tryd.ntmps30
  go_wp2_with fail
  refine H.out.mono ?_
  rintro e w' ⟨s, rfl, hs, rfl⟩
  go_wp2_with fail
  go_ret
  exact ⟨s, rfl, hs, rfl⟩
theorem itoa_any (k : Nat) (hk : k < 64) (w : World) : Calls Tryd.prog 24 #[.int .i64 k] w fun e w' => ∃ s : ByteArray, e = .returned (.string s) ∧ s.size ≤ 100 ∧ w = w' := by
  have H := Lib.hid (itoa1_any k hk w)
  go_enter Tryd.func24, Tryd.ntmps24
  go_wp2_with fail
  refine H.out.mono ?_
  rintro e w' ⟨s, rfl, hs, rfl⟩
  go_wp2_with fail
  go_ret
  exact ⟨s, rfl, hs, rfl⟩

/-- Of a page that there is; of one that no geometry has. -/
theorem of_in (p : Int) (h0 : 0 ≤ p) (h1 : p < 64) (w : World) : Calls Tryd.prog 6 #[.int .i64 p] w fun e w' => e = .returned (.tuple #[.int .i64 (p / 8), .int .i64 (p % 8)]) ∧ w = w' := by
  have d0 : decide (p < 0) = false := decide_eq_false (by omega)
  have d1 : decide (64 ≤ p) = false := decide_eq_false (by omega)
  have HQ : Hid (p.tdiv 8 = p / 8 ∧ p.tmod 8 = p % 8) := Lib.hid ⟨Int.tdiv_eq_ediv_of_nonneg h0, Int.tmod_eq_emod_of_nonneg h0⟩
  go_enter Tryd.func6, Tryd.ntmps6
  go_wp2_with fail
  go_ret2
  exact ⟨by rw [← HQ.out.1, ← HQ.out.2]; rfl, rfl⟩
theorem of_out (p : Int) (h : ¬ (0 ≤ p ∧ p < 64)) (w : World) : Calls Tryd.prog 6 #[.int .i64 p] w fun e w' => e = .returned (.tuple #[.int .i64 (-1), .int .i64 (-1)]) ∧ w = w' := by
  by_cases h0 : p < 0
  · have d0 : decide (p < 0) = true := decide_eq_true h0
    clear h
    go_enter Tryd.func6, Tryd.ntmps6
    go_wp2_with fail
    go_ret2
    exact ⟨rfl, rfl⟩
  · have d0 : decide (p < 0) = false := decide_eq_false h0
    have d1 : decide (64 ≤ p) = true := decide_eq_true (by omega)
    clear h
    go_enter Tryd.func6, Tryd.ntmps6
    go_wp2_with fail
    go_ret2
    exact ⟨rfl, rfl⟩

def Bk.none : Bk := ⟨0, 0, zeros 32, 0, [], 0, zeros 8⟩
theorem zeros_small (n : Nat) : ∀ x ∈ zeros n, Small x := fun x hx => by
  rw [List.eq_of_mem_replicate hx]
  exact small0
theorem Bk.none_wf : Bk.none.Wf := ⟨small0, small0, small0, small0, zeros_length 32, zeros_byte 32, Nat.zero_le _, (fun x hx => by cases hx), zeros_length 8, zeros_small 8⟩
/-- The heads of mapping page i, the page itself. -/
def hds (l : List Int) (i : Nat) : List Int := (List.range 8).map fun k => l.getD (i * 8 + k) 0
def mk (l : List Int) (i : Nat) : Bk := ⟨3, i, zeros 32, 0, [], 0, hds l i⟩
theorem hds_length (l : List Int) (i : Nat) : (hds l i).length = 8 := by simp [hds]
theorem hds_at (l : List Int) (i k : Nat) (hk : k < 8) : (hds l i)[k]? = some (l.getD (i * 8 + k) 0) := by simp [hds, hk]
theorem getD_small {l : List Int} (h : ∀ x ∈ l, Small x) (i : Nat) : Small (l.getD i 0) := by
  rw [List.getD_eq_getElem?_getD]
  cases e : l[i]? with
  | none => exact small0
  | some x => exact h x (List.mem_of_getElem? e)
theorem hds_small {l : List Int} (h : ∀ x ∈ l, Small x) (i : Nat) : ∀ x ∈ hds l i, Small x := fun x hx => by
  obtain ⟨k, _, rfl⟩ := List.mem_map.1 hx
  exact getD_small h _
theorem mk_wf {l : List Int} (h : ∀ x ∈ l, Small x) {i : Nat} (hi : i < 1000) : (mk l i).Wf := ⟨⟨by show (-9223372036854775808 : Int) ≤ 3; decide, by show (3 : Int) < 9223372036854775808; decide⟩, ⟨by simp only [mk]; omega, by simp only [mk]; omega⟩, small0, small0, zeros_length 32, zeros_byte 32, Nat.zero_le _, (fun x hx => by cases hx), hds_length l i, hds_small h i⟩

/-- The cells of a row of blocks that have no bytes. -/
def nosl : Value := .slice none 0 0
def row (F : Nat → Bk) (n : Nat) : List Value := (List.range n).flatMap fun i => (F i).cells nosl
theorem row_succ (F : Nat → Bk) (n : Nat) : row F (n + 1) = row F n ++ (F n).cells nosl := by
  simp [row, List.range_succ]
theorem row_length {F : Nat → Bk} (h : ∀ i, (F i).page.length = 32 ∧ (F i).heads.length = 8) (n : Nat) : (row F n).length = n * 45 := by
  induction n with
  | zero => rfl
  | succ n ih =>
    rw [row_succ, List.length_append, ih]
    have : ((F n).cells nosl).length = 45 := by simp [Bk.cells, (h n).1, (h n).2]
    omega
theorem row_at {F : Nat → Bk} (h : ∀ i, (F i).page.length = 32 ∧ (F i).heads.length = 8) {n i j : Nat} (hi : i < n) (hj : j < 45) : (row F n)[i * 45 + j]? = ((F i).cells nosl)[j]? := by
  induction n with
  | zero => omega
  | succ n ih =>
    have hl := row_length h n
    rw [row_succ]
    by_cases e : i = n
    · subst e
      rw [List.getElem?_append_right (by omega)]
      congr 1
      omega
    · rw [List.getElem?_append_left (by omega)]
      exact ih (by omega)
/-- A cell of one block turned. -/
theorem row_set {F G : Nat → Bk} (h : ∀ i, (F i).page.length = 32 ∧ (F i).heads.length = 8) (k : ∀ i, (G i).page.length = 32 ∧ (G i).heads.length = 8) {n i j : Nat} (v : Value) (hi : i < n) (hj : j < 45)
    (he : ∀ m, m < n → m ≠ i → F m = G m) (hs : ((F i).cells nosl).set j v = (G i).cells nosl) : (row F n).set (i * 45 + j) v = row G n := by
  apply List.ext_getElem?
  intro q
  have l1 := row_length h n
  have l2 := row_length k n
  by_cases hq : q < n * 45
  · have e : q = q / 45 * 45 + q % 45 := by omega
    have hq1 : q / 45 < n := by omega
    have hq2 : q % 45 < 45 := Nat.mod_lt _ (by decide)
    rw [e, row_at k hq1 hq2]
    by_cases hm : q / 45 = i
    · rw [hm, ← hs]
      by_cases hjq : j = q % 45
      · rw [← hjq, List.getElem?_set_self (by omega)]
        have : ((F i).cells nosl).length = 45 := by simp [Bk.cells, (h i).1, (h i).2]
        rw [List.getElem?_set_self (by omega)]
      · rw [List.getElem?_set_ne (by omega), List.getElem?_set_ne hjq, row_at h hi hq2]
    · rw [List.getElem?_set_ne (by omega), row_at h hq1 hq2, he _ hq1 hm]
  · rw [List.getElem?_eq_none (by rw [List.length_set]; omega), List.getElem?_eq_none (by omega)]

theorem built41h (h : Int) : Tryd.prog.built 41 [(0, .int .i64 h)] = some (i64s (h :: zeros 7)).toArray := by kernel_rfl
def one (h : Int) : Bk := ⟨3, 0, zeros 32, 0, [], 0, h :: zeros 7⟩
theorem built43h (h : Int) : Tryd.prog.built 43 [(0, .int .i64 3), (6, .agg (i64s (h :: zeros 7)).toArray)] = some ((one h).arr (.slice none 0 0)) := by kernel_rfl
theorem one_good (h : Int) : (one h).good = isHead h := by
  have e : (zeros 7).all isHead = true := by decide
  simp [Bk.good, one, within, Bk.plain, e]
theorem one_wf {h : Int} (hh : Small h) : (one h).Wf := ⟨⟨by show (-9223372036854775808 : Int) ≤ 3; decide, by show (3 : Int) < 9223372036854775808; decide⟩, small0, small0, small0, zeros_length 32, zeros_byte 32, Nat.zero_le _, (fun x hx => by cases hx), rfl, fun x hx => by
  rcases List.mem_cons.1 hx with rfl | hx
  · exact hh
  · exact zeros_small 7 x hx⟩
theorem len_nil : Len (.slice none 0 0) 0 := ⟨_, _, rfl⟩
/-- May it be a head: package mappage's own. -/
theorem ishead_any (h : Int) (hh : Small h) (w : World) : Calls Tryd.prog 22 #[.int .i64 h] w fun e w' => e = .returned (.bool (isHead h)) ∧ Below w.heap.size w w' := by
  have H := Lib.hid fun w => good_any (one h) (.slice none 0 0) len_nil (one_wf hh) w
  have b1 := fun w => run_build (P := Tryd.prog) w 41 _ _ (built41h h)
  have b2 := fun w => run_build (P := Tryd.prog) w 43 _ _ (built43h h)
  rw [← one_good h]
  go_enter Tryd.func22, Tryd.ntmps22
  go_wp2_with fail
  refine (H.out _).mono ?_
  rintro e w1 ⟨rfl, hb⟩
  have HB := Lib.hid hb
  clear hb
  go_wp2_with fail
  go_ret
  exact ⟨rfl, HB.out⟩

theorem none_page (i : Nat) : ((fun _ : Nat => Bk.none) i).page.length = 32 ∧ ((fun _ : Nat => Bk.none) i).heads.length = 8 := ⟨zeros_length 32, zeros_length 8⟩
theorem info43a : (Tryd.prog.info? 43).map (fun i => (i.size, i.bytes)) = some (45, 152) := by kernel_rfl
theorem zero43b : (Tryd.prog.info? 43).bind (·.zero) = some (.agg (Bk.none.arr nosl)) := by kernel_rfl
theorem inf43 : ∃ i, Tryd.prog.info? 43 = some i ∧ i.zero = some (.agg (Bk.none.arr nosl)) ∧ i.size = 45 ∧ i.bytes = 152 := by
  have h1 := info43a
  have h2 := zero43b
  cases hq : Tryd.prog.info? 43 with
  | none => simp [hq] at h1
  | some i => simp [hq] at h1 h2; exact ⟨i, rfl, h2, h1⟩
theorem made_row (n : Nat) : madeCells (Bk.none.arr nosl) (n * 45) = (row (fun _ => Bk.none) n).toArray := by
  apply Array.ext_getElem?
  intro q
  have hl := row_length none_page n
  have hs : (Bk.none.arr nosl).size = 45 := by kernel_rfl
  by_cases hq : q < n * 45
  · have e : q = q / 45 * 45 + q % 45 := by omega
    have hq2 : q % 45 < 45 := Nat.mod_lt _ (by decide)
    have h1 := row_at none_page (n := n) (i := q / 45) (j := q % 45) (by omega) hq2
    rw [← e] at h1
    have h3 : (row (fun _ => Bk.none) n).toArray[q]? = (Bk.none.cells nosl)[q % 45]? := by rw [← h1]; simp
    rw [h3]
    simp only [madeCells, Array.getElem?_map, Array.getElem?_range, hq, if_true, Option.map_some, hs]
    have h2 : q % 45 < (Bk.none.cells nosl).length := by
      have : (Bk.none.cells nosl).length = 45 := by kernel_rfl
      omega
    rw [List.getElem?_eq_getElem h2]
    congr 1
    simp [Bk.arr, h2]
  · rw [Array.getElem?_eq_none (by rw [size_madeCells]; omega), Array.getElem?_eq_none (by simp; omega)]
theorem make28 (n : Nat) (hn : n ≤ 64) (w : World) : (Instr.makeSlice 28 (.int .i64 (n : Int)) (.int .i64 (n : Int))).run Tryd.prog w = .ok (.slice (some ⟨w.heap.size, 0, none⟩) n n) (w.alloc (.cells (row (fun _ => Bk.none) n).toArray 43)) := by
  obtain ⟨i, hi, hz, hs, hb⟩ := inf43
  have := run_makeSlice (P := Tryd.prog) w 28 43 i _ Tryd.underlying28 hi hz .i64 .i64 n n (by omega) (Int.le_refl _) (by rw [hs]; omega) (by rw [hb]; omega) (by omega)
  rw [hs] at this
  rw [← made_row]
  simpa [Value.cells] using this
theorem make24 (n : Nat) (hn : n ≤ 64) (w : World) : (Instr.makeSlice 24 (.int .i64 (n : Int)) (.int .i64 (n : Int))).run Tryd.prog w = .ok (.slice (some ⟨w.heap.size, 0, none⟩) n n) (w.alloc (.cells (i64s (zeros n)).toArray 3)) := by
  obtain ⟨i, hi, hz, hs, hb⟩ := inf3
  have := run_makeSlice (P := Tryd.prog) w 24 3 i _ Tryd.underlying24 hi hz .i64 .i64 n n (by omega) (Int.le_refl _) (by rw [hs]; omega) (by rw [hb]; omega) (by omega)
  rw [hs] at this
  have e : madeCells #[.int .i64 0] n = (i64s (zeros n)).toArray := by
    apply Array.ext_getElem?
    intro q
    by_cases hq : q < n
    · simp [madeCells, hq, zeros, Nat.mod_one]
    · rw [Array.getElem?_eq_none (by rw [size_madeCells]; omega), Array.getElem?_eq_none (by simp [zeros]; omega)]
  rw [← e]
  simpa [Value.cells] using this
end Go.Proofs.YtlmehhjgagddoaaDoor
