/- What the reference reads is what the program reads: lists, no memory. -/
import Derived.Test.YtbhaifdhmfmeoaaGf
import Derived.Test.YtbhaifdhmfmeoaaGth
namespace Go.Proofs.Ytbhaifdhmfmeoaa
set_option linter.unusedSimpArgs false
set_option linter.unusedVariables false
open Go.RowKit

/-- The items that the parts tell of with which sectors begin, part by part, each of its own number. -/
def rg (n : Int) (L : List (List Int)) : Nat → List It → Nat → Nat → Option (List It × Nat)
  | 0, _, _, _ => none
  | f + 1, its, t, k => match L[t]? with
    | none => none
    | some y => if isSum y = true ∧ (sreadOf y).seq = (n + (k : Int)) % M32 then (match itemsP (sreadOf y).marks (L.drop (t + 1)) with
        | none => none
        | some p => if (sreadOf y).more then rg n L f (its ++ p) (t + (1 + blocks (sreadOf y).marks)) (k + 1) else some (its ++ p, t + (1 + blocks (sreadOf y).marks)))
      else none
def readG (n : Int) (L : List (List Int)) : Option (List It × Nat) := rg n L (L.length + 1) [] 0 0
/-- What the reference's Read tells. -/
def readR (n : Int) (L : List (List Int)) : Option (List It) := match readG n L with
  | none => none
  | some r => if mayBe r.1 && decide ((lay2 n r.1).1 = L.take r.2) then some r.1 else none
theorem rg_end {n : Int} {L : List (List Int)} {f t k : Nat} {P : List It} (h : L.length ≤ t) : rg n L (f + 1) P t k = none := by
  unfold rg
  rw [List.getElem?_eq_none h]
theorem rg_nosum {n : Int} {L : List (List Int)} {f t k : Nat} {P : List It} {y : List Int} (hy : L[t]? = some y) (h : ¬ (isSum y = true ∧ (sreadOf y).seq = (n + (k : Int)) % M32)) : rg n L (f + 1) P t k = none := by
  unfold rg
  rw [hy]
  simp only [if_neg h]
theorem rg_none {n : Int} {L : List (List Int)} {f t k : Nat} {P : List It} {y : List Int} (hy : L[t]? = some y) (hi : itemsP (sreadOf y).marks (L.drop (t + 1)) = none) : rg n L (f + 1) P t k = none := by
  unfold rg
  rw [hy]
  simp only [hi]
  split <;> rfl
theorem rg_some {n : Int} {L : List (List Int)} {f t k : Nat} {P p : List It} {y : List Int} (hy : L[t]? = some y) (h : isSum y = true) (hs : (sreadOf y).seq = (n + (k : Int)) % M32) (hi : itemsP (sreadOf y).marks (L.drop (t + 1)) = some p) : rg n L (f + 1) P t k = if (sreadOf y).more then rg n L f (P ++ p) (t + (1 + blocks (sreadOf y).marks)) (k + 1) else some (P ++ p, t + (1 + blocks (sreadOf y).marks)) := by
  conv => lhs; unfold rg
  rw [hy]
  simp only [h, hs, and_self, if_true, hi]
theorem rg_step {L : List (List Int)} {n : Int} {k : Nat} {m : Bool} {p : List It} {t : Nat} {r : List (List Int)} (hL : L.drop t = partOf ((n + (k : Int)) % M32) m p ++ r) (hg : goodMarks (marks p) = true) (hp : ∀ x ∈ p, x.ok = true) (w : ∀ x ∈ p, x.Wf) (f : Nat) (its : List It) :
    rg n L (f + 1) its t k = if m then rg n L f (its ++ p) (t + (1 + blocks (marks p))) (k + 1) else some (its ++ p, t + (1 + blocks (marks p))) := by
  have hn := seq_mod (n + (k : Int))
  obtain ⟨s1, s2, -⟩ := head_sum hg w hn m
  have h0 : L[t]? = some (headOfPart ((n + (k : Int)) % M32) m p) := by
    have := congrArg (fun z => z[0]?) hL
    simpa [partOf] using this
  have h1 : L.drop (t + 1) = bodies ((n + (k : Int)) % M32) p ++ r := by
    have := congrArg List.tail hL
    simpa [partOf] using this
  simp only [rg, h0, s1, true_and, s2, if_true, h1, itemsP_lay hp w hn r]
theorem rg_lay {n : Int} {l : List It} (h : mayBe l = true) (w : ∀ x ∈ l, x.Wf) {L : List (List Int)} (hL : (lay2 n l).1 <+: L) :
    ∀ j k f, k + j + 1 = parts l.length → j < f → rg n L f (l.take (24 * k)) (layTo n l k).1.length k = some (l, (lay2 n l).1.length) := by
  have hM := mayBe_iff.1 h
  have hpre : ∀ k, k ≤ parts l.length → (layTo n l k).1 <+: L := fun k hk => (layTo_prefix n l hk).trans hL
  have hpt : ∀ k, k < parts l.length → ∃ r, L.drop (layTo n l k).1.length = partOf ((n + k) % M32) (decide (24 * k + 24 < l.length)) (chunk l k) ++ r := fun k hk => by
    obtain ⟨r, hr⟩ := hpre (k + 1) hk
    rw [layTo_succ, List.append_assoc] at hr
    exact ⟨r, by rw [← hr, List.drop_left]⟩
  have hpp : parts l.length = (l.length + 23) / 24 := rfl
  have hlen : ∀ k, (layTo n l (k + 1)).1.length = (layTo n l k).1.length + (1 + blocks (marks (chunk l k))) := fun k => by
    rw [layTo_succ, List.length_append, partOf_length]
  intro j
  induction j with
  | zero =>
    intro k f hk hf
    obtain ⟨f, rfl⟩ : ∃ g, f = g + 1 := ⟨f - 1, by omega⟩
    obtain ⟨r, hr⟩ := hpt k (by omega)
    have hm : decide (24 * k + 24 < l.length) = false := decide_eq_false (by omega)
    rw [rg_step hr (marks_good h (by omega)) (fun x hx => hM.2.2.1 x (mem_chunk hx)) (fun x hx => w x (mem_chunk hx)) f, hm]
    simp only [Bool.false_eq_true, if_false]
    rw [← take_chunk, ← hlen, List.take_of_length_le (by omega), lay2, ← hk]
  | succ j ih =>
    intro k f hk hf
    obtain ⟨f, rfl⟩ : ∃ g, f = g + 1 := ⟨f - 1, by omega⟩
    obtain ⟨r, hr⟩ := hpt k (by omega)
    have hm : decide (24 * k + 24 < l.length) = true := decide_eq_true (by omega)
    rw [rg_step hr (marks_good h (by omega)) (fun x hx => hM.2.2.1 x (mem_chunk hx)) (fun x hx => w x (mem_chunk hx)) f, hm]
    simp only [if_true]
    rw [← take_chunk, ← hlen]
    exact ih (k + 1) f (by omega) (by omega)
theorem readG_lay {n : Int} {l : List It} (h : mayBe l = true) (w : ∀ x ∈ l, x.Wf) {L : List (List Int)} (hL : (lay2 n l).1 <+: L) : readG n L = some (l, (lay2 n l).1.length) := by
  have hp := (parts_pos h).1
  have h1 := hL.length_le
  have h2 := lay2_length n l
  have := rg_lay h w hL (parts l.length - 1) 0 (L.length + 1) (by omega) (by omega)
  simpa [layTo, readG] using this
theorem rg_wf {n : Int} {L : List (List Int)} (hL : ∀ y ∈ L, Sc y) : ∀ f its t k r, (∀ x ∈ its, It.Wf x) → rg n L f its t k = some r → ∀ x ∈ r.1, x.Wf := by
  intro f
  induction f with
  | zero => intro its t k r _ h; cases h
  | succ f ih =>
    intro its t k r hi h
    unfold rg at h
    split at h
    · cases h
    · rename_i y hy
      split at h
      · cases e : itemsP (sreadOf y).marks (L.drop (t + 1)) with
        | none => rw [e] at h; cases h
        | some p =>
          rw [e] at h
          have hp := itemsP_wf (marksOf_small (hL y (List.mem_of_getElem? hy)) _) (fun z hz => hL z (List.mem_of_mem_drop hz)) e
          have ha : ∀ x ∈ its ++ p, It.Wf x := fun x hx => (List.mem_append.1 hx).elim (hi x) (hp x)
          simp only at h
          split at h
          · exact ih _ _ _ _ ha h
          · cases h
            exact ha
      · cases h
theorem readR_eq {n : Int} {L : List (List Int)} (hL : ∀ y ∈ L, Sc y) : readR n L = readP n L := by
  apply Option.ext
  intro l
  rw [readP_iff hL]
  constructor
  · intro h
    unfold readR at h
    split at h
    · cases h
    · rename_i r hr
      split at h
      · rename_i hc
        cases h
        simp only [Bool.and_eq_true, decide_eq_true_eq] at hc
        refine ⟨hc.1, rg_wf hL _ _ _ _ _ (fun x hx => by cases hx) hr, ?_⟩
        rw [hc.2]
        exact List.take_prefix _ _
      · cases h
  · rintro ⟨h1, h2, h3⟩
    unfold readR
    rw [readG_lay h1 h2 h3]
    simp only [h1, Bool.true_and]
    rw [if_pos]
    exact decide_eq_true (List.prefix_iff_eq_take.1 h3)
/-- How far the reading goes. -/
theorem rg_len {n : Int} {L : List (List Int)} : ∀ f its t k r, t ≤ L.length → rg n L f its t k = some r → r.2 ≤ L.length := by
  intro f
  induction f with
  | zero => intro its t k r _ h; cases h
  | succ f ih =>
    intro its t k r ht h
    unfold rg at h
    split at h
    · cases h
    · rename_i y hy
      have htl := (List.getElem?_eq_some_iff.1 hy).1
      split at h
      · cases e : itemsP (sreadOf y).marks (L.drop (t + 1)) with
        | none => rw [e] at h; cases h
        | some p =>
          rw [e] at h
          have h2 := (itemsP_len e).2
          rw [List.length_drop] at h2
          simp only at h
          split at h
          · exact ih _ _ _ _ (by omega) h
          · cases h
            simp only
            omega
      · cases h
theorem readR_no {n : Int} {L : List (List Int)} (hL : ∀ y ∈ L, Sc y) (h : readG n L = none) : readP n L = none := by
  rw [← readR_eq hL]
  unfold readR
  rw [h]
theorem readR_bad {n : Int} {L : List (List Int)} (hL : ∀ y ∈ L, Sc y) {P : List It} {t : Nat} (h : readG n L = some (P, t)) (hm : mayBe P = false) : readP n L = none := by
  rw [← readR_eq hL]
  unfold readR
  rw [h]
  simp [hm]
theorem readR_off {n : Int} {L : List (List Int)} (hL : ∀ y ∈ L, Sc y) {P : List It} {t : Nat} (h : readG n L = some (P, t)) (hm : (lay2 n P).1 ≠ L.take t) : readP n L = none := by
  rw [← readR_eq hL]
  unfold readR
  rw [h]
  simp [hm]
theorem readR_yes {n : Int} {L : List (List Int)} (hL : ∀ y ∈ L, Sc y) {P : List It} {t : Nat} (h : readG n L = some (P, t)) (hb : mayBe P = true) (hm : (lay2 n P).1 = L.take t) : readP n L = some P := by
  rw [← readR_eq hL]
  unfold readR
  rw [h]
  simp [hm, hb]
theorem readG_len {n : Int} {L : List (List Int)} {P : List It} {t : Nat} (h : readG n L = some (P, t)) : t ≤ L.length := rg_len _ _ _ _ (P, t) (Nat.zero_le _) h

end Go.Proofs.Ytbhaifdhmfmeoaa
