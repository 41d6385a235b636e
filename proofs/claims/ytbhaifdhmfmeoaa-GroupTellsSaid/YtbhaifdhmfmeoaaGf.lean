/- What follows of groups' sectors: their first number, their numbers, that no other group has them. -/
import Derived.Test.YtbhaifdhmfmeoaaGrp
import Derived.Test.YtbhaifdhmfmeoaaDx
namespace Go.Proofs.Ytbhaifdhmfmeoaa
set_option linter.unusedSimpArgs false
set_option linter.unusedVariables false
open Go.RowKit

theorem layTo_prefix (n : Int) (l : List It) {k m : Nat} (h : k ≤ m) : (layTo n l k).1 <+: (layTo n l m).1 := by
  obtain ⟨d, rfl⟩ := Nat.exists_eq_add_of_le h
  clear h
  induction d with
  | zero => exact List.prefix_refl _
  | succ d ih => rw [← Nat.add_assoc, layTo_succ]; exact ih.trans (List.prefix_append _ _)
theorem lay_first {l : List It} (h : mayBe l = true) (n : Int) (hn : Seq32 n) : ∃ more, (lay2 n l).1[0]? = some (headOfPart n more (chunk l 0)) := by
  have hp := (parts_pos h).1
  obtain ⟨r, hr⟩ := layTo_prefix n l hp
  refine ⟨decide (24 * 0 + 24 < l.length), ?_⟩
  unfold lay2
  rw [← hr, layTo_succ]
  have : (n + ((0 : Nat) : Int)) % M32 = n := by
    have := hn.1
    have := hn.2
    simp only [M32] at *
    omega
  rw [this]
  simp [layTo, partOf]
theorem readP_other {n m : Int} (hn : Seq32 n) (hm : Seq32 m) (hne : n ≠ m) {l : List It} (h : mayBe l = true) (w : ∀ x ∈ l, x.Wf) (r : List (List Int)) (hr : ∀ y ∈ r, Sc y) : readP m ((lay2 n l).1 ++ r) = none := by
  cases e : readP m ((lay2 n l).1 ++ r) with
  | none => rfl
  | some l' =>
    exfalso
    have hs : ∀ y ∈ (lay2 n l).1 ++ r, Sc y := fun y hy => (List.mem_append.1 hy).elim (layTo_sc w n _ y) (hr y)
    obtain ⟨h', w', hp⟩ := (readP_iff hs).1 e
    obtain ⟨m1, e1⟩ := lay_first h n hn
    obtain ⟨m2, e2⟩ := lay_first h' m hm
    have hl : 0 < (lay2 n l).1.length := (List.getElem?_eq_some_iff.1 e1).1
    have hl' : 0 < (lay2 m l').1.length := (List.getElem?_eq_some_iff.1 e2).1
    have e3 : ((lay2 n l).1 ++ r)[0]? = some (headOfPart m m2 (chunk l' 0)) := by
      obtain ⟨q, hq⟩ := hp
      rw [← hq, List.getElem?_append_left hl', e2]
    rw [List.getElem?_append_left hl, e1] at e3
    have e4 := Option.some.inj e3
    have a1 := (head_sum (marks_good h (k := 0) (parts_pos h).1) (fun x hx => w x (mem_chunk hx)) hn m1).2.1
    have a2 := (head_sum (marks_good h' (k := 0) (parts_pos h').1) (fun x hx => w' x (mem_chunk hx)) hm m2).2.1
    rw [e4, a2] at a1
    injection a1 with q1 q2 q3
    exact hne q1.symm
theorem lay2_sc {l : List It} (w : ∀ x ∈ l, x.Wf) (n : Int) : ∀ y ∈ (lay2 n l).1, Sc y := layTo_sc w n _
/-- What is read is the group, whatever stands behind. -/
theorem readP_lay {n : Int} {l : List It} (h : mayBe l = true) (w : ∀ x ∈ l, x.Wf) (r : List (List Int)) : readP n ((lay2 n l).1 ++ r) = some l := readP_of h w (List.prefix_append _ _)
theorem readP_same {n : Int} {l l' : List It} (h : mayBe l = true) (w : ∀ x ∈ l, x.Wf) {L : List (List Int)} (hL : ∀ y ∈ L, Sc y) (hp : (lay2 n l).1 <+: L) (e : readP n L = some l') : l' = l := by
  have := readP_of h w hp
  rw [this] at e
  exact (Option.some.inj e).symm
/-- Fewer sectors are no group. -/
theorem readP_short {n : Int} {l : List It} (h : mayBe l = true) (w : ∀ x ∈ l, x.Wf) {k : Nat} (hk : k < (lay2 n l).1.length) : readP n ((lay2 n l).1.take k) = none := by
  cases e : readP n ((lay2 n l).1.take k) with
  | none => rfl
  | some l' =>
    exfalso
    have hs : ∀ y ∈ (lay2 n l).1.take k, Sc y := fun y hy => lay2_sc w n y (List.mem_of_mem_take hy)
    obtain ⟨h', w', hp⟩ := (readP_iff hs).1 e
    have e2 := readP_of h' w' (hp.trans (List.take_prefix _ _))
    have e3 := readP_of h w (List.prefix_refl (lay2 n l).1)
    rw [e2] at e3
    have e4 := Option.some.inj e3
    subst e4
    have := hp.length_le
    rw [List.length_take] at this
    omega

end Go.Proofs.Ytbhaifdhmfmeoaa
