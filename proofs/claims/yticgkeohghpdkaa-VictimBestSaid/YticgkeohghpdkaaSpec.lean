/- Worths as fractions, the segment of most worth, the two segments of least live: what they are, and what follows. No code in it. -/
import Derived.Test.YticgkeohghpdkaaInts
namespace Go.Proofs.Yticgkeohghpdkaa
set_option linter.unusedSimpArgs false
set_option linter.unusedVariables false

/-- A segment's live, its age, now, its size. -/
structure Wt where
  l : Int
  a : Int
  n : Int
  s : Int
def Wt.Ok (w : Wt) : Prop := 1 ≤ w.s ∧ w.s ≤ 32 ∧ 0 ≤ w.l ∧ w.l ≤ w.s
instance (w : Wt) : Decidable w.Ok := by unfold Wt.Ok; exact inferInstance
/-- Ages and now are numbers of 32 bits. -/
structure Wt.Wf (w : Wt) : Prop where
  a0 : 0 ≤ w.a
  a1 : w.a < 4294967296
  n0 : 0 ≤ w.n
  n1 : w.n < 4294967296
def Wt.since (w : Wt) : Int := w.n - min w.a w.n + 1
def Wt.over (w : Wt) : Int := if w.Ok then (w.s - w.l) * w.since else 0
def Wt.under (w : Wt) : Int := if 1 ≤ w.s ∧ w.s ≤ 32 then (if 0 ≤ w.l ∧ w.l ≤ w.s then w.s + w.l else w.s + w.s) else 2
def above (x y : Wt) : Bool := decide (y.over * x.under < x.over * y.under)

theorem Wt.Wf.since {w : Wt} (h : w.Wf) : 1 ≤ w.since ∧ w.since ≤ 4294967296 := by
  obtain ⟨h0, h1, h2, h3⟩ := h
  unfold Wt.since
  omega
theorem Wt.under_bounds (w : Wt) : 1 ≤ w.under ∧ w.under ≤ 64 := by
  unfold Wt.under
  split
  · split <;> omega
  · omega
theorem Wt.Wf.over {w : Wt} (h : w.Wf) : 0 ≤ w.over ∧ w.over ≤ 137438953472 := by
  unfold Wt.over
  split
  · rename_i hk
    obtain ⟨h0, h1⟩ := h.since
    obtain ⟨k0, k1, k2, k3⟩ := hk
    constructor
    · exact Int.mul_nonneg (by omega) (by omega)
    · have := Int.mul_le_mul (show w.s - w.l ≤ 32 by omega) h1 (by omega) (by omega)
      simpa using this
  · omega
theorem above_false {x y : Wt} (h : above x y = false) : x.over * y.under ≤ y.over * x.under := by
  have := of_decide_eq_false h
  omega
theorem above_true {x y : Wt} (h : above x y = true) : y.over * x.under < x.over * y.under := of_decide_eq_true h
theorem above_self (x : Wt) : above x x = false := decide_eq_false (by omega)
/-- x has no more than y, y less than z: x has less than z. -/
theorem above_of_le {x y z : Wt} (h : above x y = false) (k : above z y = true) : above z x = true := by
  have h1 := above_false h
  have k1 := above_true k
  have ux := x.under_bounds
  have uy := y.under_bounds
  have uz := z.under_bounds
  refine decide_eq_true ?_
  have a1 : x.over * y.under * z.under ≤ y.over * x.under * z.under := Int.mul_le_mul_of_nonneg_right h1 (by omega)
  have a2 : y.over * z.under * x.under < z.over * y.under * x.under := Int.mul_lt_mul_of_pos_right k1 (by omega)
  have a3 : x.over * z.under * y.under < z.over * x.under * y.under := by
    rw [Int.mul_right_comm x.over, Int.mul_right_comm z.over]
    refine Int.lt_of_le_of_lt a1 ?_
    rw [Int.mul_right_comm y.over]
    exact a2
  exact Int.lt_of_mul_lt_mul_right a3 (by omega)
theorem above_asymm {x y : Wt} (h : above x y = true) : above y x = false := by
  cases k : above y x with
  | false => rfl
  | true =>
    have := above_true h
    have := above_true k
    omega
theorem above_not {x y z : Wt} (h : above x y = false) (k : above z y = true) : above x z = false := above_asymm (above_of_le h k)

/-- What has no worth. -/
abbrev noWt : Wt := ⟨0, 0, 0, 0⟩
abbrev oneWt : Wt := ⟨1, 0, 0, 1⟩
theorem above_one (x : Wt) : above x oneWt = above x noWt := by
  have e1 : oneWt.over = 0 := by decide
  have e2 : noWt.over = 0 := by decide
  have e3 : oneWt.under = 2 := by decide
  have e4 : noWt.under = 2 := by decide
  simp only [above, e1, e2, e3, e4]

def bestStep (W : Nat → Wt) (not : List Int) (st : Nat × Bool × Wt) (k : Nat) : Nat × Bool × Wt := if (k : Int) ∉ not ∧ above (W k) st.2.2 = true then (k, true, W k) else st
def bestN (W : Nat → Wt) (not : List Int) : Nat → Nat × Bool × Wt
  | 0 => (0, false, noWt)
  | k + 1 => bestStep W not (bestN W not k) k
theorem bestN_yes {W : Nat → Wt} {not : List Int} {k : Nat} (h : (k : Int) ∉ not) (ha : above (W k) (bestN W not k).2.2 = true) : bestN W not (k + 1) = (k, true, W k) := if_pos ⟨h, ha⟩
theorem bestN_in {W : Nat → Wt} {not : List Int} {k : Nat} (h : (k : Int) ∈ not) : bestN W not (k + 1) = bestN W not k := if_neg fun a => a.1 h
theorem bestN_no {W : Nat → Wt} {not : List Int} {k : Nat} (ha : above (W k) (bestN W not k).2.2 = false) : bestN W not (k + 1) = bestN W not k := if_neg fun a => by simp [ha] at a
/-- What the best segment is. -/
structure Best (W : Nat → Wt) (not : List Int) (n : Nat) (b : Nat) (ok : Bool) (m : Wt) : Prop where
  most : ∀ s, s < n → (s : Int) ∉ not → above (W s) m = false
  no : ok = false → b = 0 ∧ m = noWt
  yes : ok = true → b < n ∧ (b : Int) ∉ not ∧ m = W b ∧ above (W b) noWt = true
  first : ok = true → ∀ s, s < b → (s : Int) ∉ not → above m (W s) = true
theorem best_is (W : Nat → Wt) (not : List Int) (n : Nat) : Best W not n (bestN W not n).1 (bestN W not n).2.1 (bestN W not n).2.2 := by
  induction n with
  | zero => exact ⟨fun s hs => by omega, fun _ => ⟨rfl, rfl⟩, fun h => by (cases h), fun h => by (cases h)⟩
  | succ k ih =>
    by_cases hk : (k : Int) ∈ not
    · rw [bestN_in hk]
      exact ⟨fun s hs hn => ih.most s (by
        rcases Nat.lt_or_ge s k with h | h
        · exact h
        · obtain rfl : s = k := by omega
          exact absurd hk hn) hn, ih.no, fun h => by obtain ⟨a, b, c⟩ := ih.yes h; exact ⟨by omega, b, c⟩, ih.first⟩
    · cases ha : above (W k) (bestN W not k).2.2 with
      | false =>
        rw [bestN_no ha]
        exact ⟨fun s hs hn => by
          rcases Nat.lt_or_ge s k with h | h
          · exact ih.most s h hn
          · obtain rfl : s = k := by omega
            exact ha, ih.no, fun h => by obtain ⟨a, b, c⟩ := ih.yes h; exact ⟨by omega, b, c⟩, ih.first⟩
      | true =>
        rw [bestN_yes hk ha]
        refine ⟨fun s hs hn => ?_, fun h => by (cases h), fun _ => ⟨by omega, hk, rfl, ?_⟩, fun _ s hs hn => ?_⟩
        · rcases Nat.lt_or_ge s k with h | h
          · exact above_not (ih.most s h hn) ha
          · obtain rfl : s = k := by omega
            exact above_self _
        · cases hok : (bestN W not k).2.1 with
          | false => obtain ⟨_, e⟩ := ih.no hok; rw [e] at ha; exact ha
          | true =>
            obtain ⟨_, _, e, h2⟩ := ih.yes hok
            rw [e] at ha
            exact above_of_le (above_asymm h2) ha
        · exact above_of_le (ih.most s hs hn) ha
/-- Without the best one the next best has no more. -/
theorem best_next {W : Nat → Wt} {not : List Int} {n b j : Nat} {m m' : Wt} (h : Best W not n b true m) (k : Best W (not ++ [(b : Int)]) n j true m') : j ≠ b ∧ j < n ∧ above (W j) (W b) = false := by
  obtain ⟨h1, h2, h3, h4⟩ := h.yes rfl
  obtain ⟨k1, k2, k3, k4⟩ := k.yes rfl
  have k5 : (j : Int) ∉ not ∧ (j : Int) ≠ b := by simpa using k2
  refine ⟨by have := k5.2; omega, k1, ?_⟩
  rw [← h3]
  exact h.most j k1 k5.1

/-- Of n segments, whether each is in not. -/
def outs (not : List Int) (n : Nat) : List Bool := (List.range n).map fun s : Nat => decide ((s : Int) ∈ not)
theorem outs_length (not : List Int) (n : Nat) : (outs not n).length = n := by simp [outs]
theorem outs_at {not : List Int} {n s : Nat} (h : s < n) : (outs not n)[s]? = some (decide ((s : Int) ∈ not)) := by simp [outs, h]
theorem outs_nil (n : Nat) : outs [] n = List.replicate n false := by
  refine List.ext_getElem? fun s => ?_
  by_cases hs : s < n
  · rw [outs_at hs]; simp [hs]
  · rw [List.getElem?_eq_none (by rw [outs_length]; omega), List.getElem?_eq_none (by simp; omega)]
theorem outs_more_yes {not : List Int} {n k : Nat} {x : Int} {u : Nat} (hx : not[k]? = some x) (hu : x = u) (hn : u < n) : outs (not.take (k + 1)) n = (outs (not.take k) n).set u true := by
  rw [List.take_add_one, hx]
  subst hu
  refine List.ext_getElem? fun s => ?_
  by_cases hs : s < n
  · rw [outs_at hs, List.getElem?_set]
    by_cases hsu : u = s
    · subst hsu
      simp [outs_length, hs]
    · rw [if_neg hsu, outs_at hs]
      have : ¬ (s : Int) = (u : Int) := by omega
      simp [this]
  · rw [List.getElem?_eq_none (by rw [outs_length]; omega), List.getElem?_eq_none (by rw [List.length_set, outs_length]; omega)]
theorem outs_more_no {not : List Int} {n k : Nat} {x : Int} (hx : not[k]? = some x) (hn : ¬ (0 ≤ x ∧ x < n)) : outs (not.take (k + 1)) n = outs (not.take k) n := by
  rw [List.take_add_one, hx]
  refine List.ext_getElem? fun s => ?_
  by_cases hs : s < n
  · rw [outs_at hs, outs_at hs]
    have : ¬ (s : Int) = x := by omega
    simp [this]
  · rw [List.getElem?_eq_none (by rw [outs_length]; omega), List.getElem?_eq_none (by rw [outs_length]; omega)]

/-- The first segment of least live. -/
def leastStep (live : List Int) (out : List Bool) (st : Nat × Bool) (k : Nat) : Nat × Bool := if out.getD k false = false ∧ 0 ≤ live.getD k 0 ∧ (st.2 = false ∨ live.getD k 0 < live.getD st.1 0) then (k, true) else st
def leastN (live : List Int) (out : List Bool) : Nat → Nat × Bool
  | 0 => (0, false)
  | k + 1 => leastStep live out (leastN live out k) k
def least (live : List Int) (out : List Bool) : Nat × Bool := leastN live out live.length
theorem leastN_yes {live : List Int} {out : List Bool} {k : Nat} {n : Int} (hl : live[k]? = some n) (ho : out[k]? = some false) (hn : 0 ≤ n) (h : (leastN live out k).2 = false ∨ n < live.getD (leastN live out k).1 0) : leastN live out (k + 1) = (k, true) :=
  if_pos ⟨by simp [List.getD, ho], by simpa [List.getD, hl] using hn, by simpa [List.getD, hl] using h⟩
theorem leastN_out {live : List Int} {out : List Bool} {k : Nat} (ho : out[k]? = some true) : leastN live out (k + 1) = leastN live out k := if_neg fun a => by simp [List.getD, ho] at a
theorem leastN_neg {live : List Int} {out : List Bool} {k : Nat} {n : Int} (hl : live[k]? = some n) (hn : ¬ 0 ≤ n) : leastN live out (k + 1) = leastN live out k := if_neg fun a => by
  have := a.2.1
  simp [List.getD, hl] at this
  exact hn this
theorem leastN_no {live : List Int} {out : List Bool} {k : Nat} {n : Int} (hl : live[k]? = some n) (h1 : (leastN live out k).2 = true) (h2 : ¬ n < live.getD (leastN live out k).1 0) : leastN live out (k + 1) = leastN live out k := if_neg fun a => by
  rcases a.2.2 with h | h
  · rw [h1] at h; cases h
  · apply h2
    simpa [List.getD, hl] using h
structure Least (live : List Int) (out : List Bool) (n b : Nat) (ok : Bool) : Prop where
  no : ok = false → b = 0 ∧ ∀ s, s < n → out.getD s false = false → live.getD s 0 < 0
  yes : ok = true → b < n ∧ out.getD b false = false ∧ 0 ≤ live.getD b 0 ∧ ∀ s, s < n → out.getD s false = false → 0 ≤ live.getD s 0 → live.getD b 0 ≤ live.getD s 0
theorem least_is (live : List Int) (out : List Bool) (n : Nat) : Least live out n (leastN live out n).1 (leastN live out n).2 := by
  induction n with
  | zero => exact ⟨fun _ => ⟨rfl, fun s hs => by omega⟩, fun h => by cases h⟩
  | succ k ih =>
    obtain ⟨no, yes⟩ := ih
    have hst : leastN live out (k + 1) = leastStep live out (leastN live out k) k := rfl
    rw [hst]
    unfold leastStep
    split
    · rename_i h
      obtain ⟨h1, h2, h3⟩ := h
      refine ⟨fun h => by (cases h), fun _ => ⟨by omega, h1, h2, fun s hs ho hn => ?_⟩⟩
      rcases Nat.lt_or_ge s k with h | h
      · cases hok : (leastN live out k).2 with
        | false =>
          have := (no hok).2 s h ho
          omega
        | true =>
          have := (yes hok).2.2.2 s h ho hn
          rcases h3 with h3 | h3
          · rw [hok] at h3; cases h3
          · simp only; omega
      · obtain rfl : s = k := by omega
        exact Int.le_refl _
    · rename_i h
      refine ⟨fun hok => ⟨(no hok).1, fun s hs ho => ?_⟩, fun hok => ?_⟩
      · rcases Nat.lt_or_ge s k with hsk | hsk
        · exact (no hok).2 s hsk ho
        · obtain rfl : s = k := by omega
          rcases Int.lt_or_le (live.getD s 0) 0 with hl | hl
          · exact hl
          · exact absurd ⟨ho, hl, .inl hok⟩ h
      · obtain ⟨y1, y2, y3, y4⟩ := yes hok
        refine ⟨by omega, y2, y3, fun s hs ho hn => ?_⟩
        rcases Nat.lt_or_ge s k with hsk | hsk
        · exact y4 s hsk ho hn
        · obtain rfl : s = k := by omega
          rcases Int.lt_or_le (live.getD s 0) (live.getD (leastN live out s).1 0) with hl | hl
          · exact absurd ⟨ho, hn, .inr hl⟩ h
          · exact hl
/-- The two of least live. -/
def two (live not : List Int) : List Nat :=
  let out := outs not live.length
  let a := least live out
  if a.2 then (let b := least live (out.set a.1 true); if b.2 then [a.1, b.1] else [a.1]) else []
/-- It may be chosen. -/
def May (live not : List Int) (s : Nat) : Prop := s < live.length ∧ 0 ≤ live.getD s 0 ∧ (s : Int) ∉ not
instance (live not : List Int) (s : Nat) : Decidable (May live not s) := by unfold May; exact inferInstance
def mays (live not : List Int) (k : Nat) : Nat := (List.range k).countP fun s => decide (May live not s)
theorem mays_yes {live not : List Int} {k : Nat} (h : May live not k) : mays live not (k + 1) = mays live not k + 1 := by
  simp [mays, List.range_succ, h]
theorem mays_no {live not : List Int} {k : Nat} (h : ¬ May live not k) : mays live not (k + 1) = mays live not k := by
  simp [mays, List.range_succ, h]
theorem mays_le (live not : List Int) (k : Nat) : mays live not k ≤ k := by
  have := List.countP_le_length (p := fun s => decide (May live not s)) (l := List.range k)
  simpa [mays] using this
theorem mays_none {live not : List Int} (k : Nat) (h : ∀ s, ¬ May live not s) : mays live not k = 0 := by
  induction k with
  | zero => rfl
  | succ k ih => rw [mays_no (h k), ih]
theorem mays_one {live not : List Int} {a : Nat} (k : Nat) (ha : May live not a) (h : ∀ s, May live not s → s = a) : mays live not k = if a < k then 1 else 0 := by
  induction k with
  | zero => rfl
  | succ k ih =>
    by_cases hk : k = a
    · subst hk
      rw [mays_yes ha, ih, if_neg (by omega), if_pos (by omega)]
    · rw [mays_no fun m => hk (h k m), ih]
      split <;> split <;> omega
theorem mays_two {live not : List Int} {a b : Nat} (k : Nat) (ha : May live not a) (hb : May live not b) (hab : a ≠ b) : (if a < k then 1 else 0) + (if b < k then 1 else 0) ≤ mays live not k := by
  induction k with
  | zero => simp
  | succ k ih =>
    by_cases hk : May live not k
    · rw [mays_yes hk]
      split at ih <;> split at ih <;> split <;> split <;> omega
    · rw [mays_no hk]
      have h1 : k ≠ a := fun e => hk (e ▸ ha)
      have h2 : k ≠ b := fun e => hk (e ▸ hb)
      split at ih <;> split at ih <;> split <;> split <;> omega
theorem outs_getD {not : List Int} {n s : Nat} (h : s < n) : (outs not n).getD s false = decide ((s : Int) ∈ not) := by simp [List.getD, outs_at h]
structure Two (live not : List Int) (l : List Nat) : Prop where
  all : ∀ s, s ∈ l → May live not s
  len : l.length = min 2 (mays live not live.length)
  apart : ∀ a b, l = [a, b] → a ≠ b ∧ live.getD a 0 ≤ live.getD b 0 ∧ ∀ s, May live not s → s ≠ a → s ≠ b → live.getD b 0 ≤ live.getD s 0
theorem two_is (live not : List Int) : Two live not (two live not) := by
  obtain ⟨no, yes⟩ := least_is live (outs not live.length) live.length
  unfold two
  simp only
  change Two live not (if (least live (outs not live.length)).2 = true then _ else _)
  have hle : least live (outs not live.length) = leastN live (outs not live.length) live.length := rfl
  rw [← hle] at no yes
  generalize least live (outs not live.length) = p at *
  obtain ⟨a, ok⟩ := p
  cases ok with
  | false =>
    have h := (no rfl).2
    rw [if_neg (by simp)]
    refine ⟨fun s hs => by simp at hs, ?_, fun a b e => by simp at e⟩
    rw [mays_none _ fun s ⟨m1, m2, m3⟩ => by
      have := h s m1 (by rw [outs_getD m1]; exact decide_eq_false m3)
      omega]
    rfl
  | true =>
    obtain ⟨y1, y2, y3, y4⟩ := yes rfl
    simp only at y1 y2 y3 y4
    have ma : May live not a := ⟨y1, y3, by rw [outs_getD y1] at y2; exact of_decide_eq_false y2⟩
    rw [if_pos rfl]
    obtain ⟨no2, yes2⟩ := least_is live ((outs not live.length).set a true) live.length
    have hle2 : least live ((outs not live.length).set a true) = leastN live ((outs not live.length).set a true) live.length := rfl
    rw [← hle2] at no2 yes2
    simp only
    generalize least live ((outs not live.length).set a true) = p at *
    obtain ⟨b, ok⟩ := p
    have hout : ∀ s, May live not s → s ≠ a → ((outs not live.length).set a true).getD s false = false := fun s ⟨m1, m2, m3⟩ hs => by
      simp only [List.getD, List.getElem?_set, if_neg (Ne.symm hs), outs_at m1, Option.getD_some]
      exact decide_eq_false m3
    cases ok with
    | false =>
      have h := (no2 rfl).2
      rw [if_neg (by simp)]
      refine ⟨fun s hs => by (simp at hs; subst hs; exact ma), ?_, fun a b e => by simp at e⟩
      rw [mays_one _ ma fun s m => by
        rcases Nat.lt_or_ge s a with q | q <;> rcases Nat.lt_or_ge a s with r | r
        · omega
        · have := h s m.1 (hout s m (by omega)); have := m.2.1; omega
        · have := h s m.1 (hout s m (by omega)); have := m.2.1; omega
        · omega, if_pos y1]
      rfl
    | true =>
      obtain ⟨z1, z2, z3, z4⟩ := yes2 rfl
      simp only at z1 z2 z3 z4
      have hba : a ≠ b := fun e => by
        subst e
        simp [List.getD, List.getElem?_set, outs_length, y1] at z2
      have mb : May live not b := ⟨z1, z3, by
        simp only [List.getD, List.getElem?_set, if_neg hba, outs_at z1, Option.getD_some] at z2
        exact of_decide_eq_false z2⟩
      rw [if_pos rfl]
      refine ⟨fun s hs => by (simp at hs; rcases hs with rfl | rfl; exact ma; exact mb), ?_, fun a' b' e => ?_⟩
      · have := mays_two live.length ma mb hba
        rw [if_pos y1, if_pos z1] at this
        simp only [List.length_cons, List.length_nil]
        omega
      · simp only [List.cons.injEq, and_true] at e
        obtain ⟨rfl, rfl⟩ := e
        refine ⟨hba, y4 _ z1 (by rw [outs_getD z1]; exact decide_eq_false mb.2.2) z3, fun s m h1 h2 => z4 s m.1 (hout s m h1) m.2.1⟩
end Go.Proofs.Yticgkeohghpdkaa
