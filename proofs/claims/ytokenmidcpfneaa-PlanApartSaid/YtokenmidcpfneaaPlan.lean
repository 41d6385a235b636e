/- Contracts of the functions of package plan and of the statements' own reference: what each answers of any geometry, in whatever memory. -/
import Derived.Test.YtokenmidcpfneaaProg
import Derived.WalkKit
import Derived.WalkSpells
import Derived.WalkLawsBesides
import Derived.BigQuiet
import Derived.Deep.QuietTactic
import Derived.Deep.LoopGhost
import Derived.Lib.Hide
import Derived.Deep.DeepFit
import Derived.Deep.DeepMust
namespace Go.Proofs.Ytokenmidcpfneaa
open Go.RowKit

/-- A geometry: its pages, its segments, a segment's sectors, its frames. -/
structure Gm where
  p : Int
  s : Int
  l : Int
  f : Int
def Gm.Ok (g : Gm) : Prop := (1 ≤ g.p ∧ g.p ≤ 64) ∧ (6 ≤ g.s ∧ g.s ≤ 16) ∧ (24 ≤ g.l ∧ g.l ≤ 32) ∧ (2 ≤ g.f ∧ g.f ≤ 16)
abbrev Gm.v (g : Gm) : Value := .agg #[.int .i64 g.p, .int .i64 g.s, .int .i64 g.l, .int .i64 g.f]

theorem within_yes (n a b : Int) (h : a ≤ n ∧ n ≤ b) (w : World) : Calls Try.prog 17 #[.int .i64 n, .int .i64 a, .int .i64 b] w fun e w' => e = .returned (.bool true) ∧ w = w' := by
  obtain ⟨h1, h2⟩ := h
  go_enter Try.func17, Try.ntmps17
  go_wp2_with fail
  go_ret
  exact ⟨rfl, rfl⟩
theorem within_no (n a b : Int) (h : ¬ (a ≤ n ∧ n ≤ b)) (w : World) : Calls Try.prog 17 #[.int .i64 n, .int .i64 a, .int .i64 b] w fun e w' => e = .returned (.bool false) ∧ w = w' := by
  by_cases h1 : a ≤ n
  · have h2 : ¬ n ≤ b := fun h2 => h ⟨h1, h2⟩
    clear h
    go_enter Try.func17, Try.ntmps17
    go_wp2_with fail
    go_ret
    exact ⟨rfl, rfl⟩
  · clear h
    go_enter Try.func17, Try.ntmps17
    go_wp2_with fail
    go_ret
    exact ⟨rfl, rfl⟩

theorem good_yes (g : Gm) (h : g.Ok) (w : World) : Calls Try.prog 9 #[g.v] w fun e w' => e = .returned (.bool true) ∧ Below w.heap.size w w' := by
  obtain ⟨h1, h2, h3, h4⟩ := h
  have H1 := Lib.hid fun w => within_yes g.p 1 64 h1 w
  have H2 := Lib.hid fun w => within_yes g.s 6 16 h2 w
  have H3 := Lib.hid fun w => within_yes g.l 24 32 h3 w
  have H4 := Lib.hid fun w => within_yes g.f 2 16 h4 w
  clear h1 h2 h3 h4
  go_enter Try.func9, Try.ntmps9
  go_wp2_with fail
  refine (H1.out _).mono ?_
  rintro e w1 ⟨rfl, rfl⟩
  go_wp2_with fail
  refine (H2.out _).mono ?_
  rintro e w1 ⟨rfl, rfl⟩
  go_wp2_with fail
  refine (H3.out _).mono ?_
  rintro e w1 ⟨rfl, rfl⟩
  go_wp2_with fail
  refine (H4.out _).mono ?_
  rintro e w1 ⟨rfl, rfl⟩
  go_wp2_with fail
  go_ret
  exact ⟨rfl, (Below.refl _ _).alloc (Nat.le_refl _) _⟩
theorem good_no (g : Gm) (h : ¬ g.Ok) (w : World) : Calls Try.prog 9 #[g.v] w fun e w' => e = .returned (.bool false) ∧ Below w.heap.size w w' := by
  by_cases h1 : 1 ≤ g.p ∧ g.p ≤ 64
  · have H1 := Lib.hid fun w => within_yes g.p 1 64 h1 w
    by_cases h2 : 6 ≤ g.s ∧ g.s ≤ 16
    · have H2 := Lib.hid fun w => within_yes g.s 6 16 h2 w
      by_cases h3 : 24 ≤ g.l ∧ g.l ≤ 32
      · have H3 := Lib.hid fun w => within_yes g.l 24 32 h3 w
        have H4 := Lib.hid fun w => within_no g.f 2 16 (fun h4 => h ⟨h1, h2, h3, h4⟩) w
        clear h1 h2 h3 h
        go_enter Try.func9, Try.ntmps9
        go_wp2_with fail
        refine (H1.out _).mono ?_
        rintro e w1 ⟨rfl, rfl⟩
        go_wp2_with fail
        refine (H2.out _).mono ?_
        rintro e w1 ⟨rfl, rfl⟩
        go_wp2_with fail
        refine (H3.out _).mono ?_
        rintro e w1 ⟨rfl, rfl⟩
        go_wp2_with fail
        refine (H4.out _).mono ?_
        rintro e w1 ⟨rfl, rfl⟩
        go_wp2_with fail
        go_ret
        exact ⟨rfl, (Below.refl _ _).alloc (Nat.le_refl _) _⟩
      · have H3 := Lib.hid fun w => within_no g.l 24 32 h3 w
        clear h1 h2 h3 h
        go_enter Try.func9, Try.ntmps9
        go_wp2_with fail
        refine (H1.out _).mono ?_
        rintro e w1 ⟨rfl, rfl⟩
        go_wp2_with fail
        refine (H2.out _).mono ?_
        rintro e w1 ⟨rfl, rfl⟩
        go_wp2_with fail
        refine (H3.out _).mono ?_
        rintro e w1 ⟨rfl, rfl⟩
        go_wp2_with fail
        go_ret
        exact ⟨rfl, (Below.refl _ _).alloc (Nat.le_refl _) _⟩
    · have H2 := Lib.hid fun w => within_no g.s 6 16 h2 w
      clear h1 h2 h
      go_enter Try.func9, Try.ntmps9
      go_wp2_with fail
      refine (H1.out _).mono ?_
      rintro e w1 ⟨rfl, rfl⟩
      go_wp2_with fail
      refine (H2.out _).mono ?_
      rintro e w1 ⟨rfl, rfl⟩
      go_wp2_with fail
      go_ret
      exact ⟨rfl, (Below.refl _ _).alloc (Nat.le_refl _) _⟩
  · have H1 := Lib.hid fun w => within_no g.p 1 64 h1 w
    clear h1 h
    go_enter Try.func9, Try.ntmps9
    go_wp2_with fail
    refine (H1.out _).mono ?_
    rintro e w1 ⟨rfl, rfl⟩
    go_wp2_with fail
    go_ret
    exact ⟨rfl, (Below.refl _ _).alloc (Nat.le_refl _) _⟩
theorem rgood_yes (g : Gm) (h : g.Ok) (w : World) : Calls Try.prog 10 #[g.v] w fun e w' => e = .returned (.bool true) ∧ Below w.heap.size w w' := by
  obtain ⟨⟨h1, h2⟩, ⟨h3, h4⟩, ⟨h5, h6⟩, ⟨h7, h8⟩⟩ := h
  go_enter Try.func10, Try.ntmps10
  go_wp2_with fail
  go_ret
  exact ⟨rfl, (Below.refl _ _).alloc (Nat.le_refl _) _⟩
theorem rgood_no (g : Gm) (h : ¬ g.Ok) (w : World) : Calls Try.prog 10 #[g.v] w fun e w' => e = .returned (.bool false) ∧ Below w.heap.size w w' := by
  have H : Hid (¬ ((1 ≤ g.p ∧ g.p ≤ 64) ∧ (6 ≤ g.s ∧ g.s ≤ 16) ∧ (24 ≤ g.l ∧ g.l ≤ 32) ∧ (2 ≤ g.f ∧ g.f ≤ 16))) := Lib.hid h
  clear h
  by_cases h8 : g.f ≤ 16
  all_goals
    go_enter Try.func10, Try.ntmps10
    go_wp2_with fail
    all_goals go_ret
    all_goals first | exact ⟨rfl, (Below.refl _ _).alloc (Nat.le_refl _) _⟩ | (exfalso; have := H.out; omega)
end Go.Proofs.Ytokenmidcpfneaa
