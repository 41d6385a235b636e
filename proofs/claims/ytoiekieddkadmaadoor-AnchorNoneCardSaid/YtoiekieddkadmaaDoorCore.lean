/- What is kept of errors, regions and sectors behind a store. -/
import Derived.Deep.Upon
import Derived.Deep.Cut
import Derived.Deep.CutRange
import Derived.Test.YtoiekieddkadmaaDoorEc
import Derived.Test.YtoiekieddkadmaaDoorPl
import Derived.Test.YtoiekieddkadmaaDoorNum
namespace Go.Proofs.YtoiekieddkadmaaDoor
set_option linter.unusedSimpArgs false
set_option linter.unusedVariables false
open Go.RowKit

theorem Only.cell {g : Nat} {w w' : World} (ho : Only (fun k => k = g) w w') {a : Addr} {v : Value} (hne : a.block ≠ g) (hx : w.cell? a = some v) : w'.cell? a = some v := by
  have hb := ho.block a.block (lt_of_cell hx) hne
  rw [← hx]
  simp only [World.cell?, hb]
theorem Chain.only {g : Nat} {w w' : World} {n : Int} (ho : Only (fun k => k = g) w w') (hg : ∀ t, w.cell? ⟨g, 0, none⟩ ≠ some (.string t)) : ∀ {ts : List ByteArray} {v : Value}, Chain w n ts v → Chain w' n ts v
  | [], _, h => h
  | _ :: _, _, ⟨a, u, h1, h2, h3, h4, h5⟩ => by
    have hne : a ≠ g := by
      rintro rfl
      exact hg _ h2
    exact ⟨a, u, h1, ho.cell (a := ⟨a, 0, none⟩) hne h2, ho.cell (a := ⟨a, 1, none⟩) hne h3, ho.cell (a := ⟨a, 2, none⟩) hne h4, Chain.only ho hg h5⟩
theorem Chain.keep {g : Nat} {w w' : World} {n : Int} {ts : List ByteArray} {v : Value} (h : Chain w n ts v) (ho : Only (fun k => k = g) w w') (hg : ∀ t, w.cell? ⟨g, 0, none⟩ ≠ some (.string t)) : Chain w' n ts v := Chain.only ho hg h
theorem ErrVar.keep {g B : Nat} {w w' : World} (h : ErrVar w) (ho : Only (fun k => k = g) w w') (hg : B ≤ g) (hB : 0 < B) : ErrVar w' := ho.cell (a := ⟨0, 0, none⟩) (by simp only; omega) h
theorem Blk.noStr {w : World} {g : Nat} {l : List Value} (h : Blk w g l) (hl : ∀ v ∈ l, ∀ t, v ≠ .string t) : ∀ t, w.cell? ⟨g, 0, none⟩ ≠ some (.string t) := fun t e => by
  obtain ⟨ty, ht⟩ := h
  rw [cell_of_row w g 0 _ ty _ ht] at e
  have : l[0]? = some (.string t) := by simpa using e
  exact hl _ (List.mem_of_getElem? this) t rfl
theorem u8s_noStr (l : List Int) : ∀ v ∈ u8s l, ∀ t, v ≠ .string t := fun v hv t e => by
  obtain ⟨z, _, rfl⟩ := List.mem_map.1 hv
  cases e
theorem Rg.noStr (r : Rg) : ∀ v ∈ r.cells, ∀ t, v ≠ .string t := fun v hv t e => by
  subst e
  simp [Rg.cells, Rg.hd] at hv
theorem Rg.at24 {w : World} {g : Nat} {r : Rg} (h : Blk w g r.cells) : At w g 1 #[.int .i64 r.p, .int .i64 r.s, .int .i64 r.l, .int .i64 r.f] := h.sub 1 fun j hj => by
  have : j < 4 := hj
  rcases (show j = 0 ∨ j = 1 ∨ j = 2 ∨ j = 3 by omega) with rfl | rfl | rfl | rfl <;> rfl
theorem Rg.at25 {w : World} {g : Nat} {r : Rg} (h : Blk w g r.cells) : At w g 8 (i64s r.rs).toArray := h.sub 8 fun j hj => by
  have hj' : j < r.rs.length := by simpa using hj
  rw [Rg.root_cell (List.getElem?_eq_getElem hj')]
  simp
theorem part_size {l : List Int} {o n m : Nat} (h : l.length = m) (ho : o + n ≤ m) : (u8s ((l.drop o).take n)).toArray.size = n := by
  simp
  omega
theorem part_len {l : List Int} {o n m : Nat} (h : l.length = m) (ho : o + n ≤ m) : ((l.drop o).take n).length = n := by
  simp
  omega
theorem rootCell {w : World} {g : Nat} {r : Rg} (h : Blk w g r.cells) {k : Nat} {x : Int} (hx : r.rs[k]? = some x) : w.cell? ⟨g, 8 + k, none⟩ = some (.int .i64 x) := h.cell (Rg.root_cell hx)

theorem istr_any (k : Nat) (hk : k < 8) (w : World) : Calls Tryd.prog 59 #[.int .i64 k] w fun e w' => ∃ s : ByteArray, e = .returned (.string s) ∧ s.size ≤ 100 ∧ w = w' := by
  rcases (show k = 0 ∨ k = 1 ∨ k = 2 ∨ k = 3 ∨ k = 4 ∨ k = 5 ∨ k = 6 ∨ k = 7 by omega) with rfl | rfl | rfl | rfl | rfl | rfl | rfl | rfl
  all_goals
    go_enter Tryd.func59, Tryd.ntmps59
    go_wp2_with fail
    go_ret
    exact ⟨_, rfl, by decide, rfl⟩
theorem format_any (k : Nat) (hk : k < 8) (w : World) : Calls Tryd.prog 54 #[.int .i64 k, .int .i64 10] w fun e w' => ∃ s : ByteArray, e = .returned (.string s) ∧ s.size ≤ 100 ∧ w = w' := by
  have H := Lib.hid (istr_any k hk w)
  go_enter Tryd.func54, Tryd.ntmps54
  go_wp2_with fail
  refine H.out.mono ?_
  rintro e w' ⟨s, rfl, hs, rfl⟩
  go_wp2_with fail
  go_ret
  exact ⟨s, rfl, hs, rfl⟩
theorem itoa1_any (k : Nat) (hk : k < 8) (w : World) : Calls Tryd.prog 47 #[.int .i64 k] w fun e w' => ∃ s : ByteArray, e = .returned (.string s) ∧ s.size ≤ 100 ∧ w = w' := by
  have H := Lib.hid (format_any k hk w)
  go_enter Tryd.func47, Tryd.ntmps47
  go_wp2_with fail
  refine H.out.mono ?_
  rintro e w' ⟨s, rfl, hs, rfl⟩
  go_wp2_with fail
  go_ret
  exact ⟨s, rfl, hs, rfl⟩
theorem itoa_any (k : Nat) (hk : k < 8) (w : World) : Calls Tryd.prog 37 #[.int .i64 k] w fun e w' => ∃ s : ByteArray, e = .returned (.string s) ∧ s.size ≤ 100 ∧ w = w' := by
  have H := Lib.hid (itoa1_any k hk w)
  go_enter Tryd.func37, Tryd.ntmps37
  go_wp2_with fail
  refine H.out.mono ?_
  rintro e w' ⟨s, rfl, hs, rfl⟩
  go_wp2_with fail
  go_ret
  exact ⟨s, rfl, hs, rfl⟩
end Go.Proofs.YtoiekieddkadmaaDoor
