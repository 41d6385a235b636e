/- What GroupBack needs of groups whose sectors are turned. -/
import Derived.Test.YtbhaifdhmfmeoaaNums
namespace Go.Proofs.Ytbhaifdhmfmeoaa
set_option linter.unusedSimpArgs false
set_option linter.unusedVariables false
open Go.RowKit

/-- What a sector of Lay is: a block's or a part's summary. -/
inductive Kindly (p : Int) (x : List Int) : Prop where
  | body (b : Bk) (g : b.good = true) (w : b.Wf) (e : x = b.sec p)
  | head (mo : Bool) (c : List It) (g : goodMarks (marks c) = true) (w : ∀ x ∈ c, x.Wf) (e : x = headOfPart p mo c)
theorem part_kind {l : List It} (hg : goodMarks (marks l) = true) (h : ∀ x ∈ l, x.ok = true) (w : ∀ x ∈ l, x.Wf) (p : Int) (mo : Bool) (x : List Int) (hx : x ∈ partOf p mo l) : Kindly p x := by
  rcases List.mem_cons.1 hx with rfl | hx
  · exact .head mo l hg w rfl
  · obtain ⟨z, hz, rfl⟩ := List.mem_map.1 hx
    obtain ⟨h1, h2⟩ := List.mem_filter.1 hz
    exact .body z.blk (ok_has (h z h1) h2).2.2 (w z h1).b rfl
theorem layTo_kind {l : List It} (h : mayBe l = true) (w : ∀ x ∈ l, x.Wf) (n : Int) (k : Nat) (hk : k ≤ parts l.length) : ∀ i x, (layTo n l k).1[i]? = some x → ∃ j : Nat, j < k ∧ cnt ((layTo n l k).1.take (i + 1)) = j + 1 ∧ Kindly ((n + (j : Int)) % M32) x := by
  induction k with
  | zero => exact fun i x hx => by simp [layTo] at hx
  | succ k ih =>
    have i2 := ih (by omega)
    have i1 := (layTo_twin h n 0 k (by omega)).1
    have hg := marks_good h (k := k) hk
    have hok := chunk_ok h k
    rw [layTo_succ]
    intro i x hx
    by_cases hi : i < (layTo n l k).1.length
    · rw [List.getElem?_append_left hi] at hx
      obtain ⟨j, hj, hc, ht⟩ := i2 i x hx
      refine ⟨j, by omega, ?_, ht⟩
      rw [List.take_append_of_le_length (by omega)]
      exact hc
    · rw [List.getElem?_append_right (by omega)] at hx
      obtain ⟨y, hy, ht, hc⟩ := part_twin hg hok _ 0 _ _ x hx
      refine ⟨k, by omega, ?_, part_kind hg hok (fun x hx => w x (mem_chunk hx)) _ _ x (List.mem_of_getElem? hx)⟩
      rw [List.take_append, List.take_of_length_le (by omega), cnt_append, i1, show i + 1 - (layTo n l k).1.length = i - (layTo n l k).1.length + 1 by omega, hc]
theorem lay2_kind {l : List It} (h : mayBe l = true) (w : ∀ x ∈ l, x.Wf) (n : Int) : ∀ i x, (lay2 n l).1[i]? = some x → ∃ j : Nat, j < parts l.length ∧ cnt ((lay2 n l).1.take (i + 1)) = j + 1 ∧ Kindly ((n + (j : Int)) % M32) x := layTo_kind h w n _ (Nat.le_refl _)
theorem good_kinds {b : Bk} (g : b.good = true) : b.kind = 1 ∨ b.kind = 2 ∨ b.kind = 3 := by
  unfold Bk.good at g
  by_cases k1 : b.kind = 1
  · exact .inl k1
  · by_cases k2 : b.kind = 2
    · exact .inr (.inl k2)
    · by_cases k3 : b.kind = 3
      · exact .inr (.inr k3)
      · rw [if_neg k1, if_neg k2, if_neg k3] at g
        cases g
theorem kindly_zero {p : Int} {x : List Int} (h : Kindly p x) : x.headD 0 ≠ 0 := by
  cases h with
  | body b g w e =>
    subst e
    rw [sec_good g]
    unfold Bk.enc
    split
    · simp
    · split
      · simp
      · simp
  | head mo c g w e =>
    subst e
    have := (twin_head g p p mo).2
    unfold is83 at this
    have := of_decide_eq_true this
    omega
/-- The number of a sector of Lay. -/
theorem twin_num {x y : List Int} {p q : Int} (hp : Seq32 p) (hq : Seq32 q) (h : Twin x y p q) : sseqOf x = p ∧ sseqOf y = q := by
  obtain ⟨a, c, r, rfl, rfl⟩ := h
  have e : ∀ v, sseqOf (a :: c :: (le 4 v ++ r)) = num (le 4 v) := fun v => by
    unfold sseqOf
    rw [List.drop_succ_cons, List.drop_succ_cons, List.drop_zero, List.take_left' (le_length 4 v)]
  rw [e, e, num_le4 p hp, num_le4 q hq]
  exact ⟨rfl, rfl⟩
theorem twin_is83 {x y : List Int} {p q : Int} (h : Twin x y p q) : is83 x = is83 y := by
  obtain ⟨a, c, r, rfl, rfl⟩ := h
  rfl
theorem set_take {α} (X : List α) (k : Nat) (y : α) (h : k < X.length) : (X.set k y).take (k + 1) = X.take k ++ [y] := by
  rw [List.take_add_one, List.take_set_of_le (Nat.le_refl k), List.getElem?_set_self h]
  rfl
/-- With one sector turned to one that does not belong there, no group is read. -/
theorem back_key {n : Int} {l : List It} (h : mayBe l = true) (w : ∀ x ∈ l, x.Wf) {k : Nat} {y : List Int} (hk : k < (lay2 n l).1.length) (hy : Sc y)
    (hno : ∀ l', mayBe l' = true → (∀ x ∈ l', x.Wf) → (lay2 n l').1[k]? = some y → cnt ((lay2 n l').1.take (k + 1)) = cnt ((lay2 n l).1.take k ++ [y]) → False) : readP n ((lay2 n l).1.set k y) = none := by
  cases e : readP n ((lay2 n l).1.set k y) with
  | none => rfl
  | some l' =>
    exfalso
    have hs : ∀ z ∈ (lay2 n l).1.set k y, Sc z := fun z hz => by
      rcases List.mem_or_eq_of_mem_set hz with hz | rfl
      · exact lay2_sc w n z hz
      · exact hy
    obtain ⟨h', w', hp⟩ := (readP_iff hs).1 e
    by_cases hl : (lay2 n l').1.length ≤ k
    · have h1 : (lay2 n l').1 <+: ((lay2 n l).1.set k y).take k := List.prefix_take_iff.2 ⟨hp, hl⟩
      rw [List.take_set_of_le (Nat.le_refl k)] at h1
      have e2 := readP_of h' w' (h1.trans (List.take_prefix _ _))
      rw [readP_of h w (List.prefix_refl _)] at e2
      have e3 := Option.some.inj e2
      subst e3
      omega
    · have hl : k < (lay2 n l').1.length := by omega
      obtain ⟨r, hr⟩ := hp
      have e1 : (lay2 n l').1[k]? = some y := by
        have := congrArg (·[k]?) hr
        simp only [List.getElem?_append_left hl, List.getElem?_set_self hk] at this
        exact this
      refine hno l' h' w' e1 ?_
      have := congrArg (List.take (k + 1)) hr
      rw [List.take_append_of_le_length (by omega), set_take _ _ _ hk] at this
      rw [this]
theorem back_zero {n : Int} {l : List It} (h : mayBe l = true) (w : ∀ x ∈ l, x.Wf) {k : Nat} (hk : k < (lay2 n l).1.length) : readP n ((lay2 n l).1.set k (zeros 64)) = none :=
  back_key h w hk zeros_sc fun l' h' w' e1 _ => by
    obtain ⟨j, -, -, hk⟩ := lay2_kind h' w' n k _ e1
    exact kindly_zero hk rfl
theorem back_num {n : Int} {l : List It} (h : mayBe l = true) (w : ∀ x ∈ l, x.Wf) {k : Nat} {x y : List Int} (hx : (lay2 n l).1[k]? = some x) (hy : Sc y) {j : Nat} (hc : cnt ((lay2 n l).1.take (k + 1)) = j + 1) {q : Int} (hq : Seq32 q) (ht : Twin x y ((n + (j : Int)) % M32) q) (hne : q ≠ (n + (j : Int)) % M32) : readP n ((lay2 n l).1.set k y) = none :=
  back_key h w (List.getElem?_eq_some_iff.1 hx).1 hy fun l' h' w' e1 e2 => by
    obtain ⟨z, j', -, -, hc', ht'⟩ := (lay2_twin h' n n).2 k y e1
    have hcc : cnt ((lay2 n l).1.take k ++ [y]) = j + 1 := by
      rw [cnt_append]
      have := cnt_step hx
      rw [hc] at this
      rw [twin_is83 ht] at this
      have e : cnt [y] = if is83 y then 1 else 0 := by cases e : is83 y <;> simp [cnt, e]
      rw [e]
      omega
    rw [hcc, hc'] at e2
    have : j' = j := by omega
    subst this
    have a1 := (twin_num (seq_mod _) hq ht).2
    have a2 := (twin_num (seq_mod _) (seq_mod _) ht').1
    rw [a1] at a2
    exact hne a2
/-- The same sector with another number. -/
theorem kindly_block {p : Int} (hp : Seq32 p) {x : List Int} (h : Kindly p x) (hb : isBlock x = true) : (readOf x).good = true ∧ (readOf x).Wf ∧ seqOf x = p ∧ ∀ q, Twin x ((readOf x).sec q) p q := by
  cases h with
  | body b g w e =>
    have e1 : readOf x = b := by subst e; rw [sec_good g]; exact (read_enc g w p hp).1
    have e2 : seqOf x = p := by subst e; rw [sec_good g]; exact (read_enc g w p hp).2
    rw [e1]
    exact ⟨g, w, e2, fun q => by rw [e]; exact (twin_body g p q).1⟩
  | head mo c g w e =>
    exfalso
    have h1 := (twin_head g p p mo).2
    rw [← e] at h1
    unfold isBlock at hb
    rw [Bool.and_eq_true] at hb
    have h2 := twin_body hb.1 (seqOf x) 0
    rw [sec_good hb.1, of_decide_eq_true hb.2] at h2
    rw [h2.2] at h1
    cases h1
theorem kindly_sum {p : Int} (hp : Seq32 p) {x : List Int} (h : Kindly p x) (hb : isBlock x = false) : isSum x = true ∧ (sreadOf x).seq = p ∧ ∀ q, Twin x (Sm.sec ⟨q, (sreadOf x).more, (sreadOf x).marks⟩) p q := by
  cases h with
  | body b g w e =>
    exfalso
    have := isBlock_enc g w p hp
    rw [← sec_good g, ← e, hb] at this
    cases this
  | head mo c g w e =>
    obtain ⟨s1, s2, -⟩ := head_sum g w hp mo
    rw [← e] at s1 s2
    refine ⟨s1, by rw [s2], fun q => ?_⟩
    rw [s2]
    have := (twin_head g p q mo).1
    rw [← e] at this
    exact this

end Go.Proofs.Ytbhaifdhmfmeoaa
