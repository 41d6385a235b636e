/- A place as an argument, with its list's room. -/
import Derived.Test.YtmlniannilnmhaaGreatDoorFr
namespace Go.Proofs.YtmlniannilnmhaaGreatDoor
set_option linter.unusedSimpArgs false
set_option linter.unusedVariables false
open Go.ChangeShapes Go.WideShapes Go.ChangeAt Go.RowKit Go.Deep Go.Joins
set_option maxRecDepth 100000

section
variable {H : Type} {enc : TypeId × Value → H} {W : World}
/-- Ints. -/
theorem free_of2 {n : Nat} {v : Value} {y : DataW H × List MemPlace} (h : DataW.trod enc Tryz.prog W 0 (fun _ => true) true n 25 [v] = some y) : ∃ l, IntsAt W v l ∧ l.length ≤ 9223372036854775807 ∧ ∀ q n c, v = .slice q n c → n ≤ c := by
  rcases open_ints Tryz.underlying25 Tryz.underlying3 cells3 h with ⟨hcs, _⟩ | ⟨a, len, cap, zs, hcs, _, hl, hm, hz, hbig, hc, hw⟩
  · simp at hcs
    subst hcs
    exact ⟨[], IntsAt.nil _ _ _, Nat.zero_le _, fun q n c e => by cases e; exact Nat.le_refl _⟩
  · simp at hcs
    subst hcs
    simp only [if_true] at hz
    have hlen : (zs.take len).length = len := by simp; omega
    refine ⟨zs.take len, ⟨some a, cap, by rw [hlen], fun i x hx => ?_⟩, ?_, fun q n c e => by cases e; exact hl⟩
    · have hi : i < len := by
        have := (List.getElem?_eq_some_iff.1 hx).1
        omega
      rw [List.getElem?_take_of_lt hi] at hx
      have h0 := hc i (by omega)
      obtain ⟨b, off, spot⟩ := a
      have hspot : spot = none := by simpa [Addr.add] using World.cell?_spot (hc 0 (by omega))
      subst hspot
      refine ⟨b, off, rfl, ?_⟩
      rw [← add_plain, h0]
      simp [List.getD, hx]
    · rw [hlen]
      have : maxLen = 9223372036854775807 := rfl
      omega
/-- Where a journal is, as an argument. -/
theorem at_arg2 {base : Nat} {v : Value} {d : DataW H} {p : List MemPlace} (hv : Value.okWide Tryz.prog W .any base 27 v) (h : DataW.Trod enc Tryz.prog W 0 (fun _ => true) true 27 v d p) : ∃ (a : Ja) (fv : Value), v = .agg #[.int .i64 a.seg, .int .i64 a.off, .int .u32 a.seq, fv] ∧ IntsAt W fv a.free ∧ a.free.length ≤ 9223372036854775807 ∧ Seq32 a.seq ∧ Small a.seg ∧ Small a.off ∧ ∀ q n c, fv = .slice q n c → n ≤ c := by
  simp only [Value.okWide, Tryz.underlying27] at hv
  obtain ⟨⟨l⟩, rfl, hsz, _⟩ := hv
  obtain ⟨fuel, hf⟩ := h
  obtain ⟨xs, n, _, _, hl, hxs, hel⟩ := DataW.trod_struct Tryz.underlying27 hf
  simp only [Value.cells] at hl hel
  rw [cells27] at hl
  have hx2 : xs.length = 4 := hxs
  obtain ⟨y0, g0⟩ : ∃ y, DataW.trod enc Tryz.prog W 0 (fun _ => true) true n 3 ((l.drop 0).take (Tryz.prog.cellsOf 3)) = some y := ⟨xs[0], (hel 0 _ rfl).trans (List.getElem?_eq_getElem (by omega))⟩
  obtain ⟨y1, g1⟩ : ∃ y, DataW.trod enc Tryz.prog W 0 (fun _ => true) true n 3 ((l.drop 1).take (Tryz.prog.cellsOf 3)) = some y := ⟨xs[1], (hel 1 _ rfl).trans (List.getElem?_eq_getElem (by omega))⟩
  obtain ⟨y2, g2⟩ : ∃ y, DataW.trod enc Tryz.prog W 0 (fun _ => true) true n 24 ((l.drop 2).take (Tryz.prog.cellsOf 24)) = some y := ⟨xs[2], (hel 2 _ rfl).trans (List.getElem?_eq_getElem (by omega))⟩
  obtain ⟨y3, g3⟩ : ∃ y, DataW.trod enc Tryz.prog W 0 (fun _ => true) true n 25 ((l.drop 3).take (Tryz.prog.cellsOf 25)) = some y := ⟨xs[3], (hel 3 _ rfl).trans (List.getElem?_eq_getElem (by omega))⟩
  clear hel hf hxs
  rw [cells3] at g0 g1
  rw [cells24] at g2
  rw [cells25] at g3
  match l, hl with
  | [c0, c1, c2, c3], _ =>
    obtain ⟨seg, e0, _, w0⟩ := DataW.trod_int Tryz.underlying3 g0
    obtain ⟨off, e1, _, w1⟩ := DataW.trod_int Tryz.underlying3 g1
    obtain ⟨seq, e2, _, w2⟩ := DataW.trod_int Tryz.underlying24 g2
    obtain ⟨free, hfree, hfl, hfc⟩ := free_of2 g3
    cases e0
    cases e1
    cases e2
    exact ⟨⟨seg, off, seq, free⟩, c3, rfl, hfree, hfl, bounds_of_u32 w2, bounds_of_i64 w0, bounds_of_i64 w1, hfc⟩
end

end Go.Proofs.YtmlniannilnmhaaGreatDoor
