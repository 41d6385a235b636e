/- Slices of slices of items, opened. -/
import Derived.Test.YthlnmdihdcfphaaGreatDoorFr
import Derived.Test.YthlnmdihdcfphaaGreatDoorMg
namespace Go.Proofs.YthlnmdihdcfphaaGreatDoor
set_option linter.unusedSimpArgs false
set_option linter.unusedVariables false
open Go.ChangeShapes Go.WideShapes Go.ChangeAt Go.RowKit Go.Deep Go.Joins
set_option maxRecDepth 100000

section
variable {H : Type} {enc : TypeId × Value → H} {W : World}
theorem items_of {fuel : Nat} {v : Value} {y : DataW H × List MemPlace} (hf : DataW.trod enc Tryz.prog W 0 (fun _ => true) true fuel 44 [v] = some y) : ∃ l : List (It × Value), ItemsAt W v l ∧ l.length ≤ 9223372036854775807 := by
  rcases open_slice Tryz.underlying44 hf with ⟨hcs, _⟩ | ⟨a, len, cap, m, n, D, Pl, hcs, _, hl, hm, hmm, hbig, hi⟩
  · simp at hcs
    subst hcs
    exact ⟨[], ItemsAt.nil _ _ _, Nat.zero_le _⟩
  · simp at hcs
    subst hcs
    simp only [if_true] at hmm
    subst hmm
    have each : ∀ i, i < len → ∃ x : It × Value, x.1.Wf ∧ BytesAt W x.2 x.1.blk.bytes ∧ ∃ b o, a = ⟨b, o, none⟩ ∧ At W b (o + i * 47) (x.1.arr x.2) := fun i hil => by
      obtain ⟨cs', hc, ht⟩ := hi i (by omega)
      rw [cells75] at hc
      obtain ⟨_, hlen, hat⟩ := World.cells?_some hc
      obtain ⟨b, sv, rfl, hw, hby⟩ := item_cells ht
      obtain ⟨g, o, spot⟩ := a
      have hspot : spot = none := by
        obtain ⟨cs0, hc0, _⟩ := hi 0 (by omega)
        rw [cells75] at hc0
        obtain ⟨_, hlen, hat0⟩ := World.cells?_some hc0
        have k := hat0 0 (by decide)
        rw [List.getElem?_eq_getElem (by omega)] at k
        simpa [Addr.add] using World.cell?_spot k
      subst hspot
      refine ⟨(b, sv), hw, hby, g, o, rfl, fun j hj => ?_⟩
      have hj' : j < 47 := by simpa [It.arr_size hw] using hj
      have k := hat j hj'
      simp only [cells75, add_plain] at k
      rw [List.getElem?_eq_getElem (by rw [It.cells_length hw]; exact hj')] at k
      simpa [It.arr] using k
    obtain ⟨f, hfs⟩ : ∃ f : Nat → It × Value, ∀ i, i < len → (f i).1.Wf ∧ BytesAt W (f i).2 (f i).1.blk.bytes ∧ ∃ b o, a = ⟨b, o, none⟩ ∧ At W b (o + i * 47) ((f i).1.arr (f i).2) :=
      ⟨fun i => if h : i < len then Classical.choose (each i h) else (It.none, .nilIface), fun i hil => by
        simp only [hil, dif_pos]
        exact Classical.choose_spec (each i hil)⟩
    refine ⟨(List.range len).map f, ⟨some a, m, by simp, by simp; omega, fun i x hx => ?_⟩, ?_⟩
    · have hil : i < len := by
        have := (List.getElem?_eq_some_iff.1 hx).1
        simpa using this
      have : x = f i := by
        rw [List.getElem?_map, List.getElem?_range hil] at hx
        exact (Option.some.inj hx).symm
      subst this
      obtain ⟨h1, h2, b, o, h3, h4⟩ := hfs i hil
      exact ⟨h1, h2, b, o, by rw [h3], h4⟩
    · have : maxLen = 9223372036854775807 := rfl
      simp
      omega
theorem cells44 : Tryz.prog.cellsOf 44 = 1 := by kernel_rfl
/-- A slice of slices of items, opened. -/
theorem groups_arg {base : Nat} {v : Value} {d : DataW H} {p : List MemPlace} (hv : Value.okWide Tryz.prog W .any base 24 v) (h : DataW.Trod enc Tryz.prog W 0 (fun _ => true) true 24 v d p) : ∃ l : List (Value × List (It × Value)), GroupsAt W v l ∧ l.length ≤ 9223372036854775807 := by
  obtain ⟨a0, len0, cap0, rfl⟩ := okWide_slice Tryz.underlying24 hv
  obtain ⟨fuel, hf⟩ := h
  rcases open_slice Tryz.underlying24 hf with ⟨hcs, _⟩ | ⟨a, len, cap, m, n, D, Pl, hcs, _, hl, hm, hmm, hbig, hi⟩
  · simp [Value.cells] at hcs
    obtain ⟨rfl, rfl, rfl⟩ := hcs
    exact ⟨[], ⟨none, 0, rfl, fun i x hx => by simp at hx⟩, Nat.zero_le _⟩
  · simp [Value.cells] at hcs
    obtain ⟨rfl, rfl, rfl⟩ := hcs
    simp only [if_true] at hmm
    subst hmm
    have each : ∀ i, i < len0 → ∃ x : Value × List (It × Value), ∃ b o, a = ⟨b, o, none⟩ ∧ W.cell? ⟨b, o + i, none⟩ = some x.1 ∧ ItemsAt W x.1 x.2 ∧ x.2.length ≤ 9223372036854775807 := fun i hil => by
      obtain ⟨cs', hc, ht⟩ := hi i (by omega)
      rw [cells44] at hc
      obtain ⟨_, hlen, hat⟩ := World.cells?_some hc
      obtain ⟨sv, rfl⟩ : ∃ sv, cs' = [sv] := by
        match cs', hlen with
        | [sv], _ => exact ⟨sv, rfl⟩
      obtain ⟨l, h1, h2⟩ := items_of ht
      obtain ⟨g, o, spot⟩ := a
      have hspot : spot = none := by
        obtain ⟨cs0, hc0, _⟩ := hi 0 (by omega)
        rw [cells44] at hc0
        obtain ⟨_, hlen0, hat0⟩ := World.cells?_some hc0
        have k := hat0 0 (by decide)
        rw [List.getElem?_eq_getElem (by omega)] at k
        simpa [Addr.add] using World.cell?_spot k
      subst hspot
      refine ⟨(sv, l), g, o, rfl, ?_, h1, h2⟩
      have k := hat 0 (by decide)
      simp only [cells44, add_plain] at k
      simpa using k
    obtain ⟨f, hfs⟩ : ∃ f : Nat → Value × List (It × Value), ∀ i, i < len0 → ∃ b o, a = ⟨b, o, none⟩ ∧ W.cell? ⟨b, o + i, none⟩ = some (f i).1 ∧ ItemsAt W (f i).1 (f i).2 ∧ (f i).2.length ≤ 9223372036854775807 :=
      ⟨fun i => if h : i < len0 then Classical.choose (each i h) else (.nilIface, []), fun i hil => by
        simp only [hil, dif_pos]
        exact Classical.choose_spec (each i hil)⟩
    refine ⟨(List.range len0).map f, ⟨some a, m, by simp, fun i x hx => ?_⟩, ?_⟩
    · have hil : i < len0 := by
        have := (List.getElem?_eq_some_iff.1 hx).1
        simpa using this
      have : x = f i := by
        rw [List.getElem?_map, List.getElem?_range hil] at hx
        exact (Option.some.inj hx).symm
      subst this
      obtain ⟨b, o, h3, h4⟩ := hfs i hil
      exact ⟨b, o, by rw [h3], h4⟩
    · have : maxLen = 9223372036854775807 := rfl
      simp
      omega
end

end Go.Proofs.YthlnmdihdcfphaaGreatDoor
