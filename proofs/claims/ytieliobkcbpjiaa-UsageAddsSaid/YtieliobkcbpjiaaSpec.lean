/- How many places lie in each segment; which segments are free; all together: as lists. -/
import Derived.Test.YtieliobkcbpjiaaPlan
namespace Go.Proofs.Ytieliobkcbpjiaa
set_option linter.unusedSimpArgs false
set_option linter.unusedVariables false
open Go.RowKit

/-- Does a sector lie in a segment? -/
def Gm.In (g : Gm) (n : Int) : Prop := 4 ≤ n ∧ n ≤ 4 + g.s * g.l - 1
instance (g : Gm) (n : Int) : Decidable (g.In n) := by unfold Gm.In; infer_instance
/-- In which one? -/
def Gm.seg (g : Gm) (n : Int) : Nat := ((n - 4) / g.l).toNat
/-- How many segments there are. -/
def Gm.segs (g : Gm) : Nat := g.s.toNat
theorem Gm.Ok.segs {g : Gm} (h : g.Ok) : g.s = (g.segs : Int) ∧ 6 ≤ g.segs ∧ g.segs ≤ 16 := by
  obtain ⟨_, ⟨h3, h4⟩, _, _⟩ := h
  unfold Gm.segs
  omega
theorem Gm.Ok.seg {g : Gm} (h : g.Ok) {n : Int} (hn : g.In n) : (n - 4) / g.l = (g.seg n : Int) ∧ g.seg n < g.segs := by
  obtain ⟨hs, _⟩ := h.segs
  obtain ⟨_, ⟨h3, h4⟩, ⟨h5, h6⟩, _⟩ := h
  obtain ⟨n0, n1⟩ := hn
  have a : 0 ≤ (n - 4) / g.l := Int.ediv_nonneg (by omega) (by omega)
  have b : (n - 4) / g.l < g.s := Int.ediv_lt_of_lt_mul (by omega) (by omega)
  unfold Gm.seg
  omega
def nils (n : Nat) : List Int := List.replicate n 0
theorem take_snoc {α : Type} {l : List α} {k : Nat} {x : α} (h : l[k]? = some x) : l.take (k + 1) = l.take k ++ [x] := by
  rw [List.take_add_one, h]
  rfl
/-- How many of the places lie in segment s. -/
def hits (g : Gm) (l : List Int) (s : Nat) : Nat := l.countP fun n => decide (g.In n) && (g.seg n == s)
theorem hits_append (g : Gm) (a b : List Int) (s : Nat) : hits g (a ++ b) s = hits g a s + hits g b s := by simp [hits, List.countP_append]
theorem hits_le (g : Gm) (l : List Int) (s : Nat) : hits g l s ≤ l.length := List.countP_le_length
theorem hits_one (g : Gm) (n : Int) (s : Nat) : hits g [n] s = if g.In n ∧ g.seg n = s then 1 else 0 := by
  by_cases h : g.In n <;> by_cases k : g.seg n = s <;> simp [hits, h, k]
theorem hits_pos {g : Gm} {l : List Int} {n : Int} (hn : n ∈ l) (hi : g.In n) : 0 < hits g l (g.seg n) := List.countP_pos_iff.2 ⟨n, hn, by simp [hi]⟩
/-- Of each segment how many of the places lie in it. -/
def counts (g : Gm) (l : List Int) : List Int := (List.range g.segs).map fun s => (hits g l s : Int)
theorem counts_length (g : Gm) (l : List Int) : (counts g l).length = g.segs := by simp [counts]
theorem counts_at {g : Gm} {l : List Int} {s : Nat} (h : s < g.segs) : (counts g l)[s]? = some (hits g l s : Int) := by simp [counts, h]
theorem counts_nil (g : Gm) : counts g [] = nils g.segs := by
  refine List.ext_getElem? fun i => ?_
  by_cases h : i < g.segs
  · rw [counts_at h]
    simp [nils, hits, h]
  · rw [List.getElem?_eq_none (by rw [counts_length]; omega), List.getElem?_eq_none (by simp [nils]; omega)]
theorem counts_no {g : Gm} {l : List Int} {k : Nat} {n : Int} (hk : l[k]? = some n) (hn : ¬ g.In n) : counts g (l.take (k + 1)) = counts g (l.take k) := by
  unfold counts
  rw [take_snoc hk]
  refine List.map_congr_left fun s _ => ?_
  rw [hits_append, hits_one, if_neg fun h => hn h.1]
  rfl
theorem counts_yes {g : Gm} {l : List Int} {k : Nat} {n : Int} (hk : l[k]? = some n) (hn : g.In n) : counts g (l.take (k + 1)) = (counts g (l.take k)).set (g.seg n) ((hits g (l.take k) (g.seg n) : Nat) + 1 : Int) := by
  refine List.ext_getElem? fun i => ?_
  by_cases h : i < g.segs
  · rw [counts_at h, List.getElem?_set, counts_length, take_snoc hk, hits_append, hits_one]
    by_cases e : g.seg n = i
    · rw [if_pos ⟨hn, e⟩, if_pos e, if_pos (by omega), e]
      rfl
    · rw [if_neg fun h => e h.2, if_neg e, counts_at h]
      rfl
  · rw [List.getElem?_eq_none (by rw [counts_length]; omega), List.getElem?_eq_none (by rw [List.length_set, counts_length]; omega)]
/-- As the program tells it: none of a geometry that may not be. -/
def cts (g : Gm) (l : List Int) : List Int := if g.Ok then counts g l else []
theorem cts_yes {g : Gm} (h : g.Ok) (l : List Int) : cts g l = counts g l := if_pos h
theorem cts_no {g : Gm} (h : ¬ g.Ok) (l : List Int) : cts g l = [] := if_neg h
theorem cts_le (g : Gm) (l : List Int) : (cts g l).length ≤ 16 := by
  by_cases h : g.Ok
  · rw [cts_yes h, counts_length]
    exact h.segs.2.2
  · rw [cts_no h]
    decide
theorem cts_length (g : Gm) (a b : List Int) : (cts g a).length = (cts g b).length := by
  by_cases h : g.Ok
  · rw [cts_yes h, cts_yes h, counts_length, counts_length]
  · rw [cts_no h, cts_no h]
theorem cts_at {g : Gm} {l : List Int} {s : Nat} (h : s < (cts g l).length) : (cts g l)[s]? = some (hits g l s : Int) := by
  by_cases k : g.Ok
  · rw [cts_yes k] at h ⊢
    exact counts_at (by rwa [counts_length] at h)
  · rw [cts_no k] at h
    cases h
/-- Of the first n segments those with 0, but h. -/
def freesN (l : List Int) (h : Int) (n : Nat) : List Int := ((List.range n).filter fun i => l.getD i 1 == 0 && decide ((i : Int) ≠ h)).map fun i : Nat => (i : Int)
def frees (l : List Int) (h : Int) : List Int := freesN l h l.length
theorem freesN_yes {l : List Int} {h : Int} {k : Nat} (hk : l[k]? = some 0) (hh : (k : Int) ≠ h) : freesN l h (k + 1) = freesN l h k ++ [(k : Int)] := by
  simp [freesN, List.range_succ, List.filter_append, hk, hh]
theorem freesN_no {l : List Int} {h : Int} {k : Nat} {x : Int} (hk : l[k]? = some x) (hx : ¬ (x = 0 ∧ (k : Int) ≠ h)) : freesN l h (k + 1) = freesN l h k := by
  simp only [freesN, List.range_succ, List.filter_append, List.map_append]
  have e : (l.getD k 1 == 0 && decide ((k : Int) ≠ h)) = false := by
    rw [List.getD_eq_getElem?_getD, hk]
    by_cases a : x = 0
    · have b : (k : Int) = h := Classical.byContradiction fun b => hx ⟨a, b⟩
      simp [a, b]
    · simp [a]
  simp only [List.filter_cons, e, Bool.false_eq_true, if_false, List.filter_nil, List.map_nil, List.append_nil]
theorem freesN_le (l : List Int) (h : Int) (n : Nat) : (freesN l h n).length ≤ n := by
  simpa [freesN] using Nat.le_trans (List.length_filter_le _ _) (by simp)
theorem mem_freesN {l : List Int} {h : Int} {n : Nat} {x : Int} : x ∈ freesN l h n ↔ ∃ i : Nat, i < n ∧ l.getD i 1 = 0 ∧ (i : Int) ≠ h ∧ x = (i : Int) := by
  simp only [freesN, List.mem_map, List.mem_filter, List.mem_range, Bool.and_eq_true, beq_iff_eq, decide_eq_true_eq]
  constructor
  · rintro ⟨i, ⟨h1, h2, h3⟩, rfl⟩
    exact ⟨i, h1, h2, h3, rfl⟩
  · rintro ⟨i, h1, h2, h3, rfl⟩
    exact ⟨i, ⟨h1, h2, h3⟩, rfl⟩
theorem freesN_prefix (l : List Int) (h : Int) {k n : Nat} (hk : k ≤ n) : freesN l h k <+: freesN l h n := by
  induction n with
  | zero =>
    obtain rfl : k = 0 := by omega
    exact List.prefix_refl _
  | succ n ih =>
    rcases Nat.lt_or_ge n k with a | a
    · obtain rfl : k = n + 1 := by omega
      exact List.prefix_refl _
    · refine (ih a).trans ?_
      simp only [freesN, List.range_succ, List.filter_append, List.map_append]
      exact List.prefix_append _ _
theorem frees_here {l : List Int} {h : Int} {k : Nat} (hk : l[k]? = some 0) (hh : (k : Int) ≠ h) : (frees l h)[(freesN l h k).length]? = some (k : Int) := by
  obtain ⟨r, hr⟩ := freesN_prefix l h (k := k + 1) (n := l.length) (List.getElem?_eq_some_iff.1 hk).1
  rw [frees, ← hr, freesN_yes hk hh, List.append_assoc, List.getElem?_append_right (Nat.le_refl _)]
  simp
theorem frees_not {l : List Int} {h : Int} {k : Nat} {x : Int} (hk : l[k]? = some x) (hx : ¬ (x = 0 ∧ (k : Int) ≠ h)) : (k : Int) ∉ frees l h := fun hm => by
  obtain ⟨i, h1, h2, h3, h4⟩ := mem_freesN.1 hm
  obtain rfl : k = i := by omega
  rw [List.getD_eq_getElem?_getD, hk] at h2
  exact hx ⟨h2, h3⟩
/-- What a segment's number adds. -/
def val (n : Int) : Int := if 0 ≤ n ∧ n ≤ 1099511627776 then n else 0
def tot (l : List Int) : Int := (l.map val).sum
theorem val_yes {n : Int} (h : 0 ≤ n ∧ n ≤ 1099511627776) : val n = n := if_pos h
theorem val_no {n : Int} (h : ¬ (0 ≤ n ∧ n ≤ 1099511627776)) : val n = 0 := if_neg h
theorem val_bound (n : Int) : 0 ≤ val n ∧ val n ≤ 1099511627776 := by
  unfold val
  split <;> omega
theorem tot_append (a b : List Int) : tot (a ++ b) = tot a + tot b := by simp [tot]
theorem tot_take {l : List Int} {k : Nat} {x : Int} (h : l[k]? = some x) : tot (l.take (k + 1)) = tot (l.take k) + val x := by
  rw [take_snoc h, tot_append]
  simp [tot]
theorem tot_bound (l : List Int) : 0 ≤ tot l ∧ tot l ≤ 1099511627776 * l.length := by
  induction l with
  | nil => simp [tot]
  | cons x l ih =>
    have := val_bound x
    have e : tot (x :: l) = val x + tot l := by simp [tot]
    rw [e, List.length_cons]
    omega
theorem tot_take_bound {l : List Int} (hl : l.length ≤ 1000) (k : Nat) : 0 ≤ tot (l.take k) ∧ tot (l.take k) ≤ 1099511627776000 := by
  have h := tot_bound (l.take k)
  have h2 : (l.take k).length ≤ 1000 := by simp; omega
  omega
/-- How many of the places lie in segments. -/
def ins (g : Gm) (l : List Int) : Nat := l.countP fun n => decide (g.In n)
theorem ins_append (g : Gm) (a b : List Int) : ins g (a ++ b) = ins g a + ins g b := by simp [ins, List.countP_append]
theorem ins_le (g : Gm) (l : List Int) : ins g l ≤ l.length := List.countP_le_length
theorem ins_yes {g : Gm} {l : List Int} {k : Nat} {n : Int} (hk : l[k]? = some n) (hn : g.In n) : ins g (l.take (k + 1)) = ins g (l.take k) + 1 := by
  rw [take_snoc hk, ins_append]
  simp [ins, hn]
theorem ins_no {g : Gm} {l : List Int} {k : Nat} {n : Int} (hk : l[k]? = some n) (hn : ¬ g.In n) : ins g (l.take (k + 1)) = ins g (l.take k) := by
  rw [take_snoc hk, ins_append]
  simp [ins, hn]
theorem sum_one (n s : Nat) (f : Nat → Nat) : ((List.range n).map fun i => f i + if s = i then 1 else 0).sum = ((List.range n).map f).sum + if s < n then 1 else 0 := by
  induction n with
  | zero => simp
  | succ n ih =>
    rw [List.range_succ, List.map_append, List.map_append, List.sum_append, List.sum_append, ih]
    simp only [List.map_cons, List.map_nil, List.sum_cons, List.sum_nil]
    by_cases a : s = n
    · subst a
      simp
      omega
    · by_cases b : s < n
      · rw [if_pos b, if_neg a, if_pos (by omega)]
        omega
      · rw [if_neg b, if_neg a, if_neg (by omega)]
        omega
theorem hits_sum {g : Gm} (h : g.Ok) (l : List Int) : ((List.range g.segs).map fun s => hits g l s).sum = ins g l := by
  induction l with
  | nil =>
    have : ∀ n : Nat, ((List.range n).map fun s => hits g [] s).sum = 0 := fun n => by
      induction n with
      | zero => rfl
      | succ n ih =>
        rw [List.range_succ, List.map_append, List.sum_append, ih]
        rfl
    rw [this]
    rfl
  | cons n l ih =>
    have e : ins g (n :: l) = ins g [n] + ins g l := ins_append g [n] l
    rw [e, ← ih]
    have e2 : (fun s => hits g (n :: l) s) = fun s => hits g l s + if g.In n ∧ g.seg n = s then 1 else 0 := by
      funext s
      rw [show n :: l = [n] ++ l from rfl, hits_append, hits_one]
      omega
    rw [e2]
    by_cases hn : g.In n
    · have e3 : (fun s => hits g l s + if g.In n ∧ g.seg n = s then 1 else 0) = fun s => hits g l s + if g.seg n = s then 1 else 0 := by
        funext s
        simp [hn]
      rw [e3, sum_one, if_pos (h.seg hn).2, show ins g [n] = 1 by simp [ins, hn]]
      exact Nat.add_comm _ _
    · have e3 : (fun s => hits g l s + if g.In n ∧ g.seg n = s then 1 else 0) = fun s => hits g l s := by
        funext s
        simp [hn]
      rw [e3, show ins g [n] = 0 by simp [ins, hn]]
      exact (Nat.zero_add _).symm
theorem sum_cast (l : List Nat) : (l.map fun n : Nat => (n : Int)).sum = (l.sum : Nat) := by
  induction l with
  | nil => rfl
  | cons x l ih => simp [ih]
theorem tot_counts {g : Gm} (h : g.Ok) (l : List Int) (hl : l.length ≤ 1000) : tot (counts g l) = (ins g l : Int) := by
  rw [← hits_sum h, ← sum_cast]
  simp only [tot, counts, List.map_map]
  congr 1
  refine List.map_congr_left fun s _ => ?_
  have := hits_le g l s
  exact val_yes (by simp only [Function.comp]; omega)
theorem tot_cts (g : Gm) (a b : List Int) (ha : a.length ≤ 400) (hb : b.length ≤ 400) : tot (cts g (b ++ a)) = tot (cts g a) + tot (cts g b) ∧ tot (cts g a) ≤ a.length := by
  by_cases h : g.Ok
  · rw [cts_yes h, cts_yes h, cts_yes h, tot_counts h _ (by rw [List.length_append]; omega), tot_counts h _ (by omega), tot_counts h _ (by omega), ins_append]
    have := ins_le g a
    omega
  · rw [cts_no h, cts_no h, cts_no h]
    simp [tot]
/-- No place lies in a free segment. -/
theorem place_not_free {g : Gm} (h : g.Ok) {l : List Int} {n x : Int} (hd : Int) (hn : n ∈ l) (hi : g.In n) (hx : x ∈ frees (counts g l) hd) : x ≠ (g.seg n : Int) := fun e => by
  subst e
  have hp := hits_pos hn hi
  exact frees_not (counts_at (h.seg hi).2) (fun hh => by have := hh.1; omega) hx
end Go.Proofs.Ytieliobkcbpjiaa
