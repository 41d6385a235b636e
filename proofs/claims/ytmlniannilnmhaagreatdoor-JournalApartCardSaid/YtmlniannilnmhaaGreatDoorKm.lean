/- A journal or none; how many sectors there are. -/
import Derived.Test.YtmlniannilnmhaaGreatDoorKl
namespace Go.Proofs.YtmlniannilnmhaaGreatDoor
set_option linter.unusedSimpArgs false
set_option linter.unusedVariables false
open Go.RowKit

/-- How many sectors the reference says there are. -/
def tot (g : Pl.Gm) : Int := if g.Ok then 4 + g.s * g.l else 0
theorem rof_any (g : Pl.Gm) (w : World) : Calls Tryz.prog 11 #[g.v] w fun e w' => ∃ x y, e = .returned (.agg #[.int .i64 x, .int .i64 (tot g), .int .i64 y]) ∧ Below w.heap.size w w' := by
  unfold tot
  by_cases h : g.Ok
  · rw [if_pos h]
    exact (Pl.rof_yes g h w).mono fun e w' ⟨h1, h2⟩ => ⟨_, _, h1, h2⟩
  · rw [if_neg h]
    exact (Pl.rof_no g h w).mono fun e w' ⟨h1, h2⟩ => ⟨_, _, h1, h2⟩
theorem tot_nat (g : Pl.Gm) : ∃ t : Nat, max 1 (tot g) = (t : Int) ∧ 1 ≤ t ∧ t ≤ 1024 ∧ (g.Ok → 4 + g.s * g.l = (t : Int)) := by
  unfold tot
  by_cases h : g.Ok
  · rw [if_pos h]
    obtain ⟨t, h1, h2, h3⟩ := Pl.Gm.total h
    exact ⟨t, by rw [h1]; omega, h2, h3, fun _ => h1⟩
  · rw [if_neg h]
    exact ⟨1, by decide, Nat.le_refl _, by decide, fun k => absurd k h⟩
theorem fits_tot {g : Pl.Gm} {a : Ja} {t : Nat} (h : g.Ok → 4 + g.s * g.l = (t : Int)) : fits g a t = a.good g := by
  unfold fits
  cases hg : a.good g
  · rfl
  · rw [decide_eq_true (by rw [h (Ja.good_parts hg).1]; omega)]
    rfl
/-- A journal, or none. -/
theorem new_law {W w : World} {b : Nat} {F : Nat → Prop} (t : Nat) (ht : t ≤ 1024) (g : Pl.Gm) (h : g.Ok → 4 + g.s * g.l = (t : Int)) (a : Ja) (fv : Value) (hbig : a.free.length ≤ 9223372036854775807) (hq : Seq32 a.seq) (hi : IntsAt w fv a.free) (hdv : De.Dv W w b F (De.newD t)) (hv : Vars w) :
    Calls Tryz.prog 14 #[.pointer (some ⟨b, 0, none⟩), g.v, .agg #[.int .i64 a.seg, .int .i64 a.off, .int .u32 a.seq, fv]] w fun e w' =>
      (a.good g = false ∧ e = .returned (.tuple #[.pointer none, .int .i64 1]) ∧ Below w.heap.size w w') ∨
      (a.good g = true ∧ ∃ jb tv, e = .returned (.tuple #[.pointer (some ⟨jb, 0, none⟩), .int .i64 0]) ∧ Jn W w' jb b F (De.newD t) g a tv ∧ w.heap.size ≤ jb ∧ Below w.heap.size w w') := by
  have hf := fits_tot (a := a) h
  cases hg : a.good g
  · rw [hg] at hf
    refine (new_no (some ⟨b, 0, none⟩) t (by omega) g a fv hbig hf w hv hi fun w' hb => ?_).mono fun e w' h => .inl ⟨rfl, h⟩
    have := De.dv_len (hdv.below hb)
    rw [newD_len] at this
    exact this
  · rw [hg] at hf
    exact (new_yes (W := W) b F (De.newD t) (by rw [newD_len]; omega) g a fv hbig (by rw [newD_len]; exact hf) hq w hi hdv).mono fun e w' h => .inr ⟨rfl, h⟩
theorem field32m (a b c : Int) (w : World) : (Instr.field 32 (.agg #[.int .i64 a, .int .i64 b, .int .i64 c]) 1).run Tryz.prog w = .ok (.int .i64 b) w := by kernel_rfl

end Go.Proofs.YtmlniannilnmhaaGreatDoor
