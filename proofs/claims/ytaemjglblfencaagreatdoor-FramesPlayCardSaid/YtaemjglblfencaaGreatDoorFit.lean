/- Whether bytes fit a page: package delta's misfit. -/
import Derived.Test.YtaemjglblfencaaGreatDoorEc
import Derived.Test.YtaemjglblfencaaGreatDoorTo
import Derived.Deep.Upon
import Derived.Deep.Cut
import Derived.Deep.CutRange
namespace Go.Proofs.YtaemjglblfencaaGreatDoor
set_option linter.unusedSimpArgs false
set_option linter.unusedVariables false
open Go.RowKit

theorem misfit_yes (off : Int) (l : List Int) (hl : l.length ≤ 1000) (h : Fits off l) (w : World) : Calls Tryz.prog 62 #[.int .i64 off, .int .i64 l.length] w fun e w' => e = .returned .nilIface ∧ w = w' := by
  obtain ⟨h1, h2, h3⟩ := h
  have g1 : ((l.length : Int) == 0) = false := by rw [beq_eq_false_iff_ne]; omega
  have g2 : decide (off < 0) = false := by simp; omega
  have g4 : IntKind.i64.wrap (32 - (l.length : Int)) = 32 - (l.length : Int) := wrap64 (by omega) (by omega)
  have g3 : decide (32 - (l.length : Int) < off) = false := by simp; omega
  clear h1 h2 h3
  go_enter Tryz.func62, Tryz.ntmps62
  go_wp2_with fail
  go_ret
  exact ⟨rfl, rfl⟩
theorem misfit_no (off : Int) (l : List Int) (hl : l.length ≤ 1000) (h : ¬ Fits off l) (w : World) : Calls Tryz.prog 62 #[.int .i64 off, .int .i64 l.length] w fun e w' => ∃ T d t, e = .returned (.iface T d) ∧ Chain w' 1 [t] (.iface T d) ∧ Below w.heap.size w w' := by
  by_cases h1 : l.length = 0
  · have g1 : ((l.length : Int) == 0) = true := by rw [beq_iff_eq]; omega
    clear h h1
    go_enter Tryz.func62, Tryz.ntmps62
    go_wp2_with fail
    refine (new_some 1 _ _ rfl).mono ?_
    rintro e w9 ⟨v, rfl, hc, hb⟩
    obtain ⟨T, d, rfl⟩ := hc.shape
    have HB9 := Lib.hid hb
    have HC9 := Lib.hid hc
    clear hc hb
    go_wp2_with fail
    go_ret
    exact ⟨T, d, _, rfl, HC9.out, HB9.out⟩
  have g1 : ((l.length : Int) == 0) = false := by rw [beq_eq_false_iff_ne]; omega
  by_cases h2 : off < 0
  · have g2 : decide (off < 0) = true := by simpa using h2
    clear h h1 h2
    go_enter Tryz.func62, Tryz.ntmps62
    go_wp2_with fail
    refine (new_some 1 _ _ rfl).mono ?_
    rintro e w9 ⟨v, rfl, hc, hb⟩
    obtain ⟨T, d, rfl⟩ := hc.shape
    have HB9 := Lib.hid hb
    have HC9 := Lib.hid hc
    clear hc hb
    go_wp2_with fail
    go_ret
    exact ⟨T, d, _, rfl, HC9.out, HB9.out⟩
  have g2 : decide (off < 0) = false := by simp; omega
  have g4 : IntKind.i64.wrap (32 - (l.length : Int)) = 32 - (l.length : Int) := by rw [IntKind.wrap_i64]; omega
  have g3 : decide (32 - (l.length : Int) < off) = true := by
    unfold Fits at h
    simp
    omega
  clear h h1 h2
  go_enter Tryz.func62, Tryz.ntmps62
  go_wp2_with fail
  refine (new_some 1 _ _ rfl).mono ?_
  rintro e w9 ⟨v, rfl, hc, hb⟩
  obtain ⟨T, d, rfl⟩ := hc.shape
  have HB9 := Lib.hid hb
  have HC9 := Lib.hid hc
  clear hc hb
  go_wp2_with fail
  go_ret
  exact ⟨T, d, _, rfl, HC9.out, HB9.out⟩
end Go.Proofs.YtaemjglblfencaaGreatDoor
