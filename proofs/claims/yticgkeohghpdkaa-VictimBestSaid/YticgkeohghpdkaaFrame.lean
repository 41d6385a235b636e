/- What the statements share: their arguments, opened; what was there reads as it did. -/
import Derived.Test.YticgkeohghpdkaaRows
import Derived.Test.YticgkeohghpdkaaLists
import Derived.ProofKit
import Derived.OpenShut
import Derived.Lib.SmallJoins
import Derived.Deep.Fields
import Derived.Deep.Slices
namespace Go.Proofs.Yticgkeohghpdkaa
open Go.ChangeShapes Go.WideShapes Go.ChangeAt Go.RowKit Go.Deep Go.Joins
set_option linter.unusedSimpArgs false
set_option linter.unusedVariables false

theorem own : ownKnob Try.prog.godebug = none := by kernel_rfl
theorem laidOut : laidOutB Try.prog = true := by kernel_rfl
theorem cells3 : Try.prog.cellsOf 3 = 1 := by kernel_rfl
theorem cells22 : Try.prog.cellsOf 22 = 1 := by kernel_rfl
theorem cells26 : Try.prog.cellsOf 26 = 1 := by kernel_rfl
theorem cells27 : Try.prog.cellsOf 27 = 1 := by kernel_rfl
theorem cells29 : Try.prog.cellsOf 29 = 4 := by kernel_rfl

theorem below_trodAll {H : Type} {enc : TypeId × Value → H} {W W' : World} (hb : Below W.heap.size W W') : ∀ {ts : List TypeId} {vs : List Value} {ds : List (DataW H)} {ps : List MemPlace},
    (∀ t ∈ ts, Try.prog.readableRec t = true ∧ t < Try.prog.types.size) → DataW.TrodAll enc Try.prog W 0 (fun _ => true) true ts vs ds ps → (∀ x ∈ ps, x.block < W.heap.size) →
    DataW.TrodAll enc Try.prog W' 0 (fun b => decide (b < W.heap.size)) true ts vs ds ps
  | [], _, _, _, _, h, _ => by
    obtain ⟨rfl, rfl, rfl⟩ := trodAll_nil h
    exact trodAll_mk0
  | t :: ts, _, _, _, hr, h, hlt => by
    obtain ⟨v, vs, d, ds, p, q, rfl, rfl, rfl, h0, h1⟩ := trodAll_cons h
    refine trodAll_cons_mk (Below.trod laidOut (hr t (by simp)).1 (hr t (by simp)).2 h0 hb fun x hx => hlt x (by simp [hx])) (below_trodAll hb (fun u hu => hr u (by simp [hu])) h1 fun x hx => hlt x (by simp [hx]))
theorem readable : ([22, 29].all fun t => Try.prog.readableRec t && decide (t < Try.prog.types.size)) = true := by kernel_rfl
theorem readable_of {ts : List TypeId} (h : ∀ t ∈ ts, t ∈ [22, 29]) : ∀ t ∈ ts, Try.prog.readableRec t = true ∧ t < Try.prog.types.size := fun t ht => by
  have := List.all_eq_true.1 readable t (h t ht)
  simpa using this
theorem bounds_of_u32 {n : Int} (h : (Lit.int .u32 n).wf = true) : 0 ≤ n ∧ n < 4294967296 := by
  have := bounds_u32 h
  exact ⟨this.1, by omega⟩
section
variable {H : Type} {enc : TypeId × Value → H} {W : World}
/-- Ints. -/
theorem ints_of {n : Nat} {v : Value} {y : DataW H × List MemPlace} (h : DataW.trod enc Try.prog W 0 (fun _ => true) true n 22 [v] = some y) : ∃ l, IntsAt W v l := by
  rcases open_ints Try.underlying22 Try.underlying3 cells3 h with ⟨hcs, _⟩ | ⟨a, len, cap, zs, hcs, _, hl, hm, hz, hbig, hc, hw⟩
  · simp at hcs
    subst hcs
    exact ⟨[], IntsAt.nil _ _ _⟩
  · simp at hcs
    subst hcs
    simp only [if_true] at hz
    have hlen : (zs.take len).length = len := by simp; omega
    refine ⟨zs.take len, some a, cap, by rw [hlen], fun i x hx => ?_⟩
    have hi : i < len := by
      have := (List.getElem?_eq_some_iff.1 hx).1
      omega
    rw [List.getElem?_take_of_lt hi] at hx
    have h0 := hc i (by omega)
    obtain ⟨b, off, spot⟩ := a
    have hspot : spot = none := by simpa [Addr.add] using World.cell?_spot (hc 0 (by omega))
    subst hspot
    refine ⟨b, off, rfl, ?_⟩
    rw [← add_plain, h0]
    simp [List.getD, hx]
/-- Ages. -/
theorem ages_of {n : Nat} {v : Value} {y : DataW H × List MemPlace} (h : DataW.trod enc Try.prog W 0 (fun _ => true) true n 26 [v] = some y) : ∃ l, AgesAt W v l ∧ ∀ x ∈ l, 0 ≤ x ∧ x < 4294967296 := by
  rcases open_ints Try.underlying26 Try.underlying27 cells27 h with ⟨hcs, _⟩ | ⟨a, len, cap, zs, hcs, _, hl, hm, hz, hbig, hc, hw⟩
  · simp at hcs
    subst hcs
    exact ⟨[], ⟨none, 0, rfl, fun i x hx => by simp at hx⟩, fun x hx => by cases hx⟩
  · simp at hcs
    subst hcs
    simp only [if_true] at hz
    have hlen : (zs.take len).length = len := by simp; omega
    refine ⟨zs.take len, ⟨some a, cap, by rw [hlen], fun i x hx => ?_⟩, fun x hx => bounds_of_u32 (hw x (List.mem_of_mem_take hx))⟩
    have hi : i < len := by
      have := (List.getElem?_eq_some_iff.1 hx).1
      omega
    rw [List.getElem?_take_of_lt hi] at hx
    have h0 := hc i (by omega)
    obtain ⟨b, off, spot⟩ := a
    have hspot : spot = none := by simpa [Addr.add] using World.cell?_spot (hc 0 (by omega))
    subst hspot
    refine ⟨b, off, rfl, ?_⟩
    rw [← add_plain, h0]
    simp [List.getD, hx]
/-- Ints as an argument. -/
theorem ints_arg {v : Value} {base : Nat} {d : DataW H} {p : List MemPlace} (hv : Value.okWide Try.prog W .any base 22 v) (h : DataW.Trod enc Try.prog W 0 (fun _ => true) true 22 v d p) : ∃ l, IntsAt W v l := by
  obtain ⟨a0, len0, cap0, rfl⟩ := okWide_slice Try.underlying22 hv
  obtain ⟨fuel, hf⟩ := h
  exact ints_of hf
/-- A watch as an argument. -/
theorem watch_arg {base : Nat} {v : Value} {d : DataW H} {p : List MemPlace} (hv : Value.okWide Try.prog W .any base 29 v) (h : DataW.Trod enc Try.prog W 0 (fun _ => true) true 29 v d p) : ∃ g lv av, WatchAt W v g lv av ∧ g.Wf := by
  simp only [Value.okWide, Try.underlying29] at hv
  obtain ⟨⟨l⟩, rfl, hsz, _⟩ := hv
  obtain ⟨fuel, hf⟩ := h
  obtain ⟨xs, n, _, _, hl, hxs, hel⟩ := DataW.trod_struct Try.underlying29 hf
  simp only [Value.cells] at hl hel
  rw [cells29] at hl
  have hx2 : xs.length = 4 := hxs
  obtain ⟨y0, g0⟩ : ∃ y, DataW.trod enc Try.prog W 0 (fun _ => true) true n 22 ((l.drop 0).take (Try.prog.cellsOf 22)) = some y := ⟨xs[0], (hel 0 _ rfl).trans (List.getElem?_eq_getElem (by omega))⟩
  obtain ⟨y1, g1⟩ : ∃ y, DataW.trod enc Try.prog W 0 (fun _ => true) true n 26 ((l.drop 1).take (Try.prog.cellsOf 26)) = some y := ⟨xs[1], (hel 1 _ rfl).trans (List.getElem?_eq_getElem (by omega))⟩
  obtain ⟨y2, g2⟩ : ∃ y, DataW.trod enc Try.prog W 0 (fun _ => true) true n 27 ((l.drop 2).take (Try.prog.cellsOf 27)) = some y := ⟨xs[2], (hel 2 _ rfl).trans (List.getElem?_eq_getElem (by omega))⟩
  obtain ⟨y3, g3⟩ : ∃ y, DataW.trod enc Try.prog W 0 (fun _ => true) true n 3 ((l.drop 3).take (Try.prog.cellsOf 3)) = some y := ⟨xs[3], (hel 3 _ rfl).trans (List.getElem?_eq_getElem (by omega))⟩
  clear hel hf hxs
  rw [cells22] at g0
  rw [cells26] at g1
  rw [cells27] at g2
  rw [cells3] at g3
  match l, hl with
  | [c0, c1, c2, c3], _ =>
    obtain ⟨live, hlive⟩ := ints_of g0
    obtain ⟨age, hage, hw⟩ := ages_of g1
    obtain ⟨now, e2, _, w2⟩ := DataW.trod_int Try.underlying27 g2
    obtain ⟨size, e3, _, w3⟩ := DataW.trod_int Try.underlying3 g3
    cases e2
    cases e3
    obtain ⟨n0, n1⟩ := bounds_of_u32 w2
    exact ⟨⟨live, age, now, size⟩, c0, c1, ⟨rfl, hlive, hage⟩, n0, n1, hw⟩
end
end Go.Proofs.Yticgkeohghpdkaa
