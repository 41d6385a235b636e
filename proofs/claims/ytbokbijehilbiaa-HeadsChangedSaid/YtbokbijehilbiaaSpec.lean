/- Heads as lists of ints: how many pages there are, the least one that is not, which differ. -/
import Derived.Test.YtbokbijehilbiaaInts
namespace Go.Proofs.Ytbokbijehilbiaa
set_option linter.unusedSimpArgs false
set_option linter.unusedVariables false

/-- How many pages there are. -/
def cnt (l : List Int) : Nat := (l.filter fun x => x != 0).length
theorem cnt_nil : cnt [] = 0 := rfl
theorem cnt_le (l : List Int) : cnt l ≤ l.length := List.length_filter_le _ _
theorem take_snoc {α : Type} {l : List α} {k : Nat} {x : α} (h : l[k]? = some x) : l.take (k + 1) = l.take k ++ [x] := by
  rw [List.take_add_one, h]
  rfl
theorem cnt_append (l m : List Int) : cnt (l ++ m) = cnt l + cnt m := by simp [cnt]
theorem cnt_yes {l : List Int} {k : Nat} {x : Int} (h : l[k]? = some x) (hx : x ≠ 0) : cnt (l.take (k + 1)) = cnt (l.take k) + 1 := by
  rw [take_snoc h, cnt_append]
  simp [cnt, hx]
theorem cnt_no {l : List Int} {k : Nat} (h : l[k]? = some 0) : cnt (l.take (k + 1)) = cnt (l.take k) := by
  rw [take_snoc h, cnt_append]
  simp [cnt]
theorem cnt_take_le (l : List Int) (k : Nat) : cnt (l.take k) ≤ k := Nat.le_trans (cnt_le _) (by simp; omega)

/-- Page p is the least one that is not there. -/
def First (l : List Int) (p : Nat) : Prop := l[p]? = some 0 ∧ ∀ j, j < p → ∀ x, l[j]? = some x → x ≠ 0
/-- All pages are there. -/
def Full (l : List Int) : Prop := ∀ (j : Nat) (x : Int), l[j]? = some x → x ≠ 0
theorem first_or (l : List Int) : (∃ p, First l p) ∨ Full l := by
  by_cases h : ∃ p : Nat, l[p]? = some 0
  · left
    obtain ⟨p, hp⟩ := h
    induction p using Nat.strongRecOn with
    | ind p ih =>
      by_cases h2 : ∃ j, j < p ∧ l[j]? = some 0
      · obtain ⟨j, hj, h3⟩ := h2
        exact ih j hj h3
      · exact ⟨p, hp, fun j hj x hx e => h2 ⟨j, hj, by rw [hx, e]⟩⟩
  · right
    exact fun j x hx e => h ⟨j, by rw [hx, e]⟩
theorem First.lt {l : List Int} {p : Nat} (h : First l p) : p < l.length := (List.getElem?_eq_some_iff.1 h.1).1
theorem First.eq {l : List Int} {p q : Nat} (h : First l p) (k : First l q) : p = q := by
  rcases Nat.lt_trichotomy p q with h1 | h1 | h1
  · exact absurd rfl (k.2 p h1 0 h.1)
  · exact h1
  · exact absurd rfl (h.2 q h1 0 k.1)
theorem First.not_full {l : List Int} {p : Nat} (h : First l p) : ¬ Full l := fun f => f p 0 h.1 rfl
theorem full_cnt {l : List Int} (h : Full l) : cnt l = l.length := by
  unfold cnt
  rw [List.filter_eq_self.2]
  intro x hx
  obtain ⟨j, hj⟩ := List.getElem?_of_mem hx
  simpa using h j x hj
theorem First.set_cnt {l : List Int} {p : Nat} (h : First l p) : cnt (l.set p 1) = cnt l + 1 := by
  have hp := h.lt
  have e1 : l = l.take p ++ 0 :: l.drop (p + 1) := by
    have := List.getElem?_eq_some_iff.1 h.1
    obtain ⟨_, h2⟩ := this
    rw [← h2, ← List.drop_eq_getElem_cons, List.take_append_drop]
  have e2 : l.set p 1 = l.take p ++ 1 :: l.drop (p + 1) := List.set_eq_take_append_cons_drop.trans (by rw [if_pos hp])
  rw [e2, cnt_append]
  conv => rhs; rw [e1, cnt_append]
  simp [cnt]
  omega

/-- Page i's head; behind the list's end there are no pages. -/
def hd (l : List Int) (i : Nat) : Int := l.getD i 0
theorem hd_some {l : List Int} {i : Nat} {x : Int} (h : l[i]? = some x) : hd l i = x := by simp [hd, h]
theorem hd_none {l : List Int} {i : Nat} (h : l.length ≤ i) : hd l i = 0 := by simp [hd, List.getElem?_eq_none h]
/-- The first n pages whose heads differ. -/
def chgN (a b : List Int) (n : Nat) : List Int := ((List.range n).filter fun i => hd a i != hd b i).map fun i : Nat => (i : Int)
def chg (a b : List Int) : List Int := chgN a b (max a.length b.length)
theorem chgN_yes {a b : List Int} {n : Nat} (h : hd a n ≠ hd b n) : chgN a b (n + 1) = chgN a b n ++ [(n : Int)] := by
  simp [chgN, List.range_succ, List.filter_append, h]
theorem chgN_no {a b : List Int} {n : Nat} (h : hd a n = hd b n) : chgN a b (n + 1) = chgN a b n := by
  simp [chgN, List.range_succ, List.filter_append, h]
theorem chgN_le (a b : List Int) (n : Nat) : (chgN a b n).length ≤ n := by
  simpa [chgN] using Nat.le_trans (List.length_filter_le _ _) (by simp)
theorem mem_chgN {a b : List Int} {n : Nat} {x : Int} : x ∈ chgN a b n ↔ ∃ i, i < n ∧ hd a i ≠ hd b i ∧ x = (i : Int) := by
  simp [chgN, and_assoc]
  constructor
  · rintro ⟨i, h1, h2, rfl⟩
    exact ⟨i, h1, h2, rfl⟩
  · rintro ⟨i, h1, h2, rfl⟩
    exact ⟨i, h1, h2, rfl⟩
theorem chg_comm (a b : List Int) : chg a b = chg b a := by
  simp only [chg, chgN, Nat.max_comm, bne_comm]
theorem chg_self (a : List Int) : chg a a = [] := by simp [chg, chgN]
theorem mem_chg {a b : List Int} {x : Int} : x ∈ chg a b ↔ ∃ i : Nat, hd a i ≠ hd b i ∧ x = (i : Int) := by
  rw [chg, mem_chgN]
  constructor
  · rintro ⟨i, _, h2, h3⟩
    exact ⟨i, h2, h3⟩
  · rintro ⟨i, h2, h3⟩
    refine ⟨i, ?_, h2, h3⟩
    rcases Nat.lt_or_ge i (max a.length b.length) with h | h
    · exact h
    · exact absurd ((hd_none (by omega)).trans (hd_none (by omega)).symm) h2
theorem mem_chg_step {a b c : List Int} {x : Int} (h : x ∈ chg a c) : x ∈ chg a b ∨ x ∈ chg b c := by
  obtain ⟨i, h1, rfl⟩ := mem_chg.1 h
  by_cases h2 : hd a i = hd b i
  · exact .inr (mem_chg.2 ⟨i, fun e => h1 (h2.trans e), rfl⟩)
  · exact .inl (mem_chg.2 ⟨i, h2, rfl⟩)
theorem chgN_rises (a b : List Int) (n : Nat) : (chgN a b n).Pairwise (· < ·) := by
  have h : ((List.range n).filter fun i => hd a i != hd b i).Pairwise (· < ·) := List.Pairwise.filter _ List.pairwise_lt_range
  exact h.map _ fun _ _ h => Int.ofNat_lt.2 h
theorem chg_rises {a b : List Int} {i : Nat} {x y : Int} (hx : (chg a b)[i]? = some x) (hy : (chg a b)[i + 1]? = some y) : x < y := by
  obtain ⟨h1, rfl⟩ := List.getElem?_eq_some_iff.1 hx
  obtain ⟨h2, rfl⟩ := List.getElem?_eq_some_iff.1 hy
  exact List.pairwise_iff_getElem.1 (chgN_rises a b _) i (i + 1) h1 h2 (by omega)
end Go.Proofs.Ytbokbijehilbiaa
