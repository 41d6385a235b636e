/- What JournalApart asks of places. -/
import Derived.Test.YtmlniannilnmhaaGreatDoorKn
namespace Go.Proofs.YtmlniannilnmhaaGreatDoor
set_option linter.unusedSimpArgs false
set_option linter.unusedVariables false
open Go.RowKit

theorem atOf_ge {p : List It} {c i : Nat} {v : Int} (h : (atOf c p)[i]? = some v) (h0 : 0 ≤ v) : (c : Int) ≤ v := by
  induction p generalizing c i with
  | nil => simp [atOf] at h
  | cons z r ih =>
    unfold atOf at h
    cases i with
    | zero =>
      split at h
      · simp at h
        omega
      · simp at h
        omega
    | succ i =>
      split at h
      · have := ih (c := c + 1) (by simpa using h)
        omega
      · exact ih (c := c) (by simpa using h)
theorem atOf_lt {p : List It} {c i j : Nat} {x y : Int} (hx : (atOf c p)[i]? = some x) (hy : (atOf c p)[j]? = some y) (hij : i < j) (h0 : 0 ≤ x) (h1 : 0 ≤ y) : x < y := by
  induction p generalizing c i j with
  | nil => simp [atOf] at hx
  | cons z r ih =>
    unfold atOf at hx hy
    cases j with
    | zero => omega
    | succ j =>
      cases i with
      | zero =>
        split at hx
        · rename_i hz
          rw [if_pos hz] at hy
          have := atOf_ge (p := r) (c := c + 1) (by simpa using hy) h1
          simp at hx
          omega
        · simp at hx
          omega
      | succ i =>
        split at hx
        · rename_i hz
          rw [if_pos hz] at hy
          exact ih (c := c + 1) (by simpa using hx) (by simpa using hy) (by omega)
        · rename_i hz
          rw [if_neg hz] at hy
          exact ih (c := c) (by simpa using hx) (by simpa using hy) (by omega)
theorem layTo_mem {n : Int} {l : List It} {k i : Nat} {x : Int} (h : (layTo n l k).2[i]? = some x) : x < (layTo n l k).1.length := by
  have hil := (List.getElem?_eq_some_iff.1 h).1
  rw [layTo_at] at hil
  obtain ⟨v, h1, h2, h3⟩ := layTo_atv (n := n) (List.getElem?_eq_getElem hil)
  rw [h] at h1
  cases h1
  cases hh : ((l.take (24 * k))[i]).has
  · have := h2 hh
    omega
  · have := h3 hh
    omega
theorem layTo_lt {n : Int} {l : List It} {k i j : Nat} {x y : Int} (hx : (layTo n l k).2[i]? = some x) (hy : (layTo n l k).2[j]? = some y) (hij : i < j) (h0 : 0 ≤ x) (h1 : 0 ≤ y) : x < y := by
  induction k with
  | zero => simp [layTo] at hx
  | succ k ih =>
    have h2 : (layTo n l (k + 1)).2 = (layTo n l k).2 ++ atOf ((layTo n l k).1.length + 1) (chunk l k) := by
      rw [layTo, stepPart, foldl_step]
      simp
    rw [h2] at hx hy
    by_cases hj : j < (layTo n l k).2.length
    · rw [List.getElem?_append_left hj] at hy
      rw [List.getElem?_append_left (by omega)] at hx
      exact ih hx hy
    · rw [List.getElem?_append_right (by omega)] at hy
      by_cases hi : i < (layTo n l k).2.length
      · rw [List.getElem?_append_left hi] at hx
        have := layTo_mem hx
        have := atOf_ge hy h1
        omega
      · rw [List.getElem?_append_right (by omega)] at hx
        exact atOf_lt hx hy (by omega) h0 h1
theorem lay2_lt {n : Int} {l : List It} {i j : Nat} {x y : Int} (hx : (lay2 n l).2[i]? = some x) (hy : (lay2 n l).2[j]? = some y) (hij : i < j) (h0 : 0 ≤ x) (h1 : 0 ≤ y) : x < y := layTo_lt hx hy hij h0 h1
theorem freeOk_not {g : Pl.Gm} {seg : Int} {l : List Int} (h : freeOk g seg l = true) : seg ∉ l := fun hm => by
  obtain ⟨i, hi⟩ := List.getElem?_of_mem hm
  have hil := (List.getElem?_eq_some_iff.1 hi).1
  have := freeOk_at h i hil
  unfold okAt at this
  simp only [Bool.and_eq_true, Bool.not_eq_true', decide_eq_false_iff_not] at this
  exact this.1.2 (by rw [List.getD_eq_getElem?_getD, hi]; rfl)
/-- Where the so-manieth sector of a segment lies. -/
theorem place_of {l s c : Int} (hl : 0 < l) (h0 : 0 ≤ c) (h1 : c < l) : (s * l + c) / l = s ∧ (s * l + c) % l = c := by
  constructor
  · rw [Int.add_comm, Int.add_mul_ediv_right _ _ (by omega), Int.ediv_eq_zero_of_lt h0 h1]
    omega
  · rw [Int.add_comm, Int.add_mul_emod_self_right, Int.emod_eq_of_lt h0 h1]
/-- A place that a journal has behind it. -/
def metOk (g : Pl.Gm) (a : Ja) (p : Int) : Prop := ((p - 4) / g.l = a.seg ∧ (p - 4) % g.l < a.off) ∨ (¬ (p - 4) / g.l = a.seg ∧ (p - 4) / g.l ∉ a.free)
/-- Where the next group goes: where the journal is, or the first free segment. -/
def Step1 (a a1 : Ja) : Prop := a1 = a ∨ ∃ f r, a.free = f :: r ∧ a1 = ⟨f, 0, a.seq, r⟩
theorem nextP_step {g : Pl.Gm} {a a1 : Ja} {n : Nat} (e : nextP g a n = some a1) : Step1 a a1 := by
  unfold nextP at e
  split at e
  · injection e with e
    exact .inl e.symm
  · split at e
    · cases e
    · rename_i f r hf
      injection e with e
      exact .inr ⟨f, r, hf, e.symm⟩
theorem first_place {g : Pl.Gm} {a a1 : Ja} {n : Nat} (h : Nx g a a1 n) {x : Int} (h0 : 0 ≤ x) (h1 : x < n) : (firstOf g a1 + x - 4) / g.l = a1.seg ∧ (firstOf g a1 + x - 4) % g.l = a1.off + x := by
  have := h.off
  have e : firstOf g a1 + x - 4 = a1.seg * g.l + (a1.off + x) := by unfold firstOf; omega
  rw [e]
  exact place_of (by omega) (by omega) (by omega)
theorem met_dis {g : Pl.Gm} {a a1 : Ja} {n : Nat} (hg : a.good g = true) (h : Nx g a a1 n) (hs : Step1 a a1) {x p : Int} (h0 : 0 ≤ x) (h1 : x < n) (hm : metOk g a p) : ¬ p = firstOf g a1 + x := by
  rintro rfl
  obtain ⟨e1, e2⟩ := first_place h h0 h1
  unfold metOk at hm
  rw [e1, e2] at hm
  rcases hs with rfl | ⟨f, r, hf, rfl⟩
  · rcases hm with ⟨-, hm⟩ | ⟨hm, -⟩
    · omega
    · exact hm rfl
  · have hno := freeOk_not (Ja.good_parts hg).2.2.2.2
    rw [hf] at hno hm
    rcases hm with ⟨hm, -⟩ | ⟨-, hm⟩
    · exact hno (by rw [← show f = a.seg from hm]; exact List.mem_cons_self)
    · exact hm List.mem_cons_self
theorem met_old {g : Pl.Gm} {a a1 : Ja} {n : Nat} (hg : a.good g = true) (h : Nx g a a1 n) (hs : Step1 a a1) {p q : Int} (hm : metOk g a p) : metOk g ⟨a1.seg, a1.off + n, q, a1.free⟩ p := by
  unfold metOk at hm ⊢
  rcases hs with rfl | ⟨f, r, hf, rfl⟩
  · rcases hm with ⟨h1, h2⟩ | hm
    · exact .inl ⟨h1, by simp only; omega⟩
    · exact .inr hm
  · have hfo := (Ja.good_parts hg).2.2.2.2
    have hno := freeOk_not hfo
    rw [hf] at hno hm hfo
    have hfr := freeOk_not (freeOk_tail hfo).2
    simp only
    rcases hm with ⟨h1, h2⟩ | ⟨h1, h2⟩
    · rw [h1]
      exact .inr ⟨fun e => hno (by rw [e]; exact List.mem_cons_self), fun e => hno (List.mem_cons_of_mem _ e)⟩
    · exact .inr ⟨fun e => h2 (by rw [e]; exact List.mem_cons_self), fun e => h2 (List.mem_cons_of_mem _ e)⟩
theorem met_new {g : Pl.Gm} {a a1 : Ja} {n : Nat} (h : Nx g a a1 n) {x q : Int} (h0 : 0 ≤ x) (h1 : x < n) : metOk g ⟨a1.seg, a1.off + n, q, a1.free⟩ (firstOf g a1 + x) := by
  obtain ⟨e1, e2⟩ := first_place h h0 h1
  unfold metOk
  rw [e1, e2]
  exact .inl ⟨rfl, by simp only; omega⟩
/-- A Put on a device that doesn't fail. -/
theorem apart_put {g : Pl.Gm} {a : Ja} {d : De.D} (L : List It) (hg : a.good g = true) (ht : 4 + g.s * g.l ≤ (d.S.length : Int)) (hF : d.F < 0) :
    ((jput g a d L).e = 0 ∧ mayBe L = true ∧ (jput g a d L).d.F < 0 ∧ ∃ a1, Nx g a a1 (lay2 a.seq L).1.length ∧ Step1 a a1 ∧ (jput g a d L).pl = (lay2 a.seq L).2.map (plOf (firstOf g a1)) ∧ (jput g a d L).a = ⟨a1.seg, a1.off + (lay2 a.seq L).1.length, (a.seq + partsN L) % M32, a1.free⟩) ∨
    (((jput g a d L).e = 1 ∨ (jput g a d L).e = 14) ∧ (jput g a d L).pl = [] ∧ (jput g a d L).a = a ∧ (jput g a d L).d = d) := by
  cases hl : laid g a L
  · rw [jput_no hl]
    exact .inr ⟨.inl rfl, rfl, rfl, rfl⟩
  · cases hn : nextP g a (lay2 a.seq L).1.length with
    | none =>
      rw [jput_full hl hn]
      exact .inr ⟨.inr rfl, rfl, rfl, rfl⟩
    | some a1 =>
      obtain ⟨h1, h2, h3, h4, h5, h6, h7⟩ := jput_runs hg hl hn ht (.inl hF)
      exact .inl ⟨h1, (laid_parts hl).1, by rw [h7, if_pos hF]; exact hF, a1, nextP_nx hg (laid_parts hl).2 hn, nextP_step hn, h2, h3⟩
/-- The odd segments. -/
def odds (j : Nat) : List Int := (List.range j).map fun (i : Nat) => 2 * (i : Int) + 1
theorem odds_next (j : Nat) : odds (j + 1) = odds j ++ [2 * (j : Int) + 1] := by simp [odds, List.range_succ]
theorem odds_len (j : Nat) : (odds j).length = j := by simp [odds]
theorem odds_at {j i : Nat} (h : i < j) : (odds j).getD i 0 = 2 * (i : Int) + 1 := by
  rw [List.getD_eq_getElem?_getD, odds, List.getElem?_map, List.getElem?_range h]
  rfl
theorem odds_odd {j : Nat} {x : Int} (h : x ∈ odds j) : x % 2 = 1 := by
  simp only [odds, List.mem_map] at h
  obtain ⟨i, -, rfl⟩ := h
  omega
theorem odds_good {g : Pl.Gm} (h : g.Ok) {o : Int} (h0 : 0 ≤ o) (h1 : o ≤ g.l) {j : Nat} (hj : ∀ i, i < j → 2 * (i : Int) + 1 < g.s) (q : Int) : (⟨0, o, q, odds j⟩ : Ja).good g = true := by
  have hs := h.2.1
  refine good_of h ?_ h0 h1 (freeOk_all fun i hi => ?_)
  · unfold isSeg
    show (decide ((0 : Int) ≤ 0) && decide ((0 : Int) < g.s)) = true
    rw [decide_eq_true (show (0 : Int) < g.s by omega)]
    rfl
  · have hi2 : i < j := by simpa [odds_len] using hi
    have := hj i hi2
    unfold okAt isSeg
    simp only [odds_at hi2, Bool.and_eq_true, Bool.or_eq_true, decide_eq_true_eq, Bool.not_eq_true', decide_eq_false_iff_not]
    refine ⟨⟨⟨by omega, this⟩, by omega⟩, ?_⟩
    cases i with
    | zero => exact .inl rfl
    | succ i =>
      right
      rw [show i + 1 - 1 = i from rfl, odds_at (by omega)]
      push_cast
      omega
theorem step_odd {a a1 : Ja} (hs : Step1 a a1) (h1 : a.seg = 0 ∨ a.seg % 2 = 1) (h2 : ∀ x ∈ a.free, x % 2 = 1) : (a1.seg = 0 ∨ a1.seg % 2 = 1) ∧ ∀ x ∈ a1.free, x % 2 = 1 := by
  rcases hs with rfl | ⟨f, r, hf, rfl⟩
  · exact ⟨h1, h2⟩
  · rw [hf] at h2
    exact ⟨.inr (h2 f List.mem_cons_self), fun x hx => h2 x (List.mem_cons_of_mem _ hx)⟩
/-- How far JournalApart is: the journal, its device, the places that were met. -/
structure Ap (g : Pl.Gm) (t : Nat) (a : Ja) (d : De.D) (B : List Bool) (i : Nat) : Prop where
  F : d.F < 0
  S : d.S.length = t
  T : d.T ≤ 1025 * i
  L : d.L.length ≤ 1024 * i
  seq : 1 ≤ a.seq ∧ a.seq ≤ 1 + 3 * (i : Int)
  seg : a.seg = 0 ∨ a.seg % 2 = 1
  free : ∀ x ∈ a.free, x % 2 = 1
  len : B.length = t
  met : ∀ p : Nat, B[p]? = some true → metOk g a p
/-- The places of a group's first blocks. -/
def upto (P : List Int) (f k : Nat) (B0 B : List Bool) : Prop := B.length = B0.length ∧ ∀ p : Nat, B[p]? = some true → B0[p]? = some true ∨ ∃ j x, j < k ∧ P[j]? = some x ∧ 0 ≤ x ∧ (p : Int) = f + x
theorem upto_zero (P : List Int) (f : Nat) (B : List Bool) : upto P f 0 B B := ⟨rfl, fun p h => .inl h⟩
theorem upto_skip {P : List Int} {f k : Nat} {B0 B : List Bool} (h : upto P f k B0 B) : upto P f (k + 1) B0 B := ⟨h.1, fun p hp => (h.2 p hp).imp id fun ⟨j, x, hj, r⟩ => ⟨j, x, by omega, r⟩⟩
theorem upto_set {P : List Int} {f k : Nat} {B0 B : List Bool} (h : upto P f k B0 B) {x : Int} (hx : P[k]? = some x) (h0 : 0 ≤ x) : upto P f (k + 1) B0 (B.set (f + x.toNat) true) := by
  refine ⟨by rw [List.length_set]; exact h.1, fun p hp => ?_⟩
  rw [List.getElem?_set] at hp
  split at hp
  · rename_i hpe
    exact .inr ⟨k, x, by omega, hx, h0, by omega⟩
  · exact (upto_skip h).2 p hp

end Go.Proofs.YtmlniannilnmhaaGreatDoor
