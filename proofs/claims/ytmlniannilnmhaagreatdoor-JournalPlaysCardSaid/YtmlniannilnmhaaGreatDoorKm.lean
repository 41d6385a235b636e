/- A journal or none; how many sectors there are. -/
import Derived.Test.YtmlniannilnmhaaGreatDoorKl
namespace Go.Proofs.YtmlniannilnmhaaGreatDoor
set_option linter.unusedSimpArgs false
set_option linter.unusedVariables false
open Go.RowKit

/-- How many sectors the reference says there are. -/
def tot (g : Pl.Gm) : Int := if g.Ok then 4 + g.s * g.l else 0
theorem rof_any (g : Pl.Gm) (w : World) : Calls Tryz.prog 11 #[g.v] w fun e w' => ∃ x y, e = .returned (.agg #[.int .i64 x, .int .i64 (tot g), .int .i64 y]) ∧ Below w.heap.size w w' := by
  unfold tot
  by_cases h : g.Ok
  · rw [if_pos h]
    exact (Pl.rof_yes g h w).mono fun e w' ⟨h1, h2⟩ => ⟨_, _, h1, h2⟩
  · rw [if_neg h]
    exact (Pl.rof_no g h w).mono fun e w' ⟨h1, h2⟩ => ⟨_, _, h1, h2⟩
theorem tot_nat (g : Pl.Gm) : ∃ t : Nat, max 1 (tot g) = (t : Int) ∧ 1 ≤ t ∧ t ≤ 1024 ∧ (g.Ok → 4 + g.s * g.l = (t : Int)) := by
  unfold tot
  by_cases h : g.Ok
  · rw [if_pos h]
    obtain ⟨t, h1, h2, h3⟩ := Pl.Gm.total h
    exact ⟨t, by rw [h1]; omega, h2, h3, fun _ => h1⟩
  · rw [if_neg h]
    exact ⟨1, by decide, Nat.le_refl _, by decide, fun k => absurd k h⟩
theorem fits_tot {g : Pl.Gm} {a : Ja} {t : Nat} (h : g.Ok → 4 + g.s * g.l = (t : Int)) : fits g a t = a.good g := by
  unfold fits
  cases hg : a.good g
  · rfl
  · rw [decide_eq_true (by rw [h (Ja.good_parts hg).1]; omega)]
    rfl
theorem field32m (a b c : Int) (w : World) : (Instr.field 32 (.agg #[.int .i64 a, .int .i64 b, .int .i64 c]) 1).run Tryz.prog w = .ok (.int .i64 b) w := by kernel_rfl

end Go.Proofs.YtmlniannilnmhaaGreatDoor
