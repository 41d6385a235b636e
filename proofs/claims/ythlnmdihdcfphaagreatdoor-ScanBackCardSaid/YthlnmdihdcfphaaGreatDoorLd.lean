/- How many groups there are. -/
import Derived.Test.YthlnmdihdcfphaaGreatDoorLc
namespace Go.Proofs.YthlnmdihdcfphaaGreatDoor
set_option linter.unusedSimpArgs false
set_option linter.unusedVariables false
open Go.RowKit

theorem Way.few {X : List (List Int)} {g : Pl.Gm} {a b : Ja} {P : List (List It × List Int)} (h : Way X g a P b) (hg : a.good g = true) : b.good g = true ∧ P.length + mm g b ≤ mm g a ∧ ∀ x ∈ P, mayBe x.1 = true ∧ x.2.length = x.1.length := by
  induction h with
  | nil => exact ⟨hg, by simp, fun x hx => by cases hx⟩
  | snoc _ hn ih =>
    obtain ⟨h1, h2, h3⟩ := ih
    obtain ⟨k1, k2, k3⟩ := nxt_nx h1 hn
    have := mm_next h1 k1 k2 k3
    refine ⟨k2.good _, by rw [List.length_append]; simp only [List.length_cons, List.length_nil]; omega, fun x hx => ?_⟩
    rcases List.mem_append.1 hx with hx | hx
    · exact h3 x hx
    · obtain rfl := List.mem_singleton.1 hx
      exact ⟨k1, by show (List.map _ _).length = _; rw [List.length_map, lay2_at]⟩
/-- Few groups, each of few items. -/
theorem Way.small {X : List (List Int)} {g : Pl.Gm} {a b : Ja} {P : List (List It × List Int)} (h : Way X g a P b) (hg : a.good g = true) : P.length ≤ 1000 ∧ ∀ x ∈ P, x.1.length ≤ 64 ∧ x.2.length ≤ 64 := by
  obtain ⟨h1, h2, h3⟩ := h.few hg
  have := mm_few hg
  refine ⟨by omega, fun x hx => ?_⟩
  obtain ⟨k1, k2⟩ := h3 x hx
  have := (mayBe_iff.1 k1).2.1
  omega
/-- A cell that is there stays. -/
theorem cell_bel {w w' : World} {a : Addr} {v : Value} (h : w.cell? a = some v) (hb : Below w.heap.size w w') : w'.cell? a = some v := by
  rw [hb.cell (p := a) (block_lt_of_cell h)]
  exact h

end Go.Proofs.YthlnmdihdcfphaaGreatDoor
