/- What falls, opened. -/
import Derived.Test.YthlnmdihdcfphaaGreatDoorFp
namespace Go.Proofs.YthlnmdihdcfphaaGreatDoor
set_option linter.unusedSimpArgs false
set_option linter.unusedVariables false
open Go.ChangeShapes Go.WideShapes Go.ChangeAt Go.RowKit Go.Deep Go.Joins

set_option maxRecDepth 100000
section
variable {H : Type} {enc : TypeId × Value → H} {W : World}
theorem cells27 : Tryz.prog.cellsOf 27 = 3 := by kernel_rfl
/-- What falls: two numbers, and what is kept. -/
theorem fall_arg {base : Nat} {v : Value} {d : DataW H} {p : List MemPlace} (hv : Value.okWide Tryz.prog W .any base 27 v) (h : DataW.Trod enc Tryz.prog W 0 (fun _ => true) true 27 v d p) : ∃ (xo xa : Int) (kv : Value) (kl : List Int), v = .agg #[.int .i64 xo, .int .i64 xa, kv] ∧ BytesAt W kv kl ∧ kl.length ≤ 9223372036854775807 ∧ (∀ x ∈ kl, Byte x) ∧ Small xo ∧ Small xa := by
  simp only [Value.okWide, Tryz.underlying27] at hv
  obtain ⟨⟨l⟩, rfl, hsz, _⟩ := hv
  obtain ⟨fuel, hf⟩ := h
  obtain ⟨xs, n, _, _, hl, hxs, hel⟩ := DataW.trod_struct Tryz.underlying27 hf
  simp only [Value.cells] at hl hel
  rw [cells27] at hl
  have hx2 : xs.length = 3 := hxs
  obtain ⟨y0, g0⟩ : ∃ y, DataW.trod enc Tryz.prog W 0 (fun _ => true) true n 3 ((l.drop 0).take (Tryz.prog.cellsOf 3)) = some y := ⟨xs[0], (hel 0 _ rfl).trans (List.getElem?_eq_getElem (by omega))⟩
  obtain ⟨y1, g1⟩ : ∃ y, DataW.trod enc Tryz.prog W 0 (fun _ => true) true n 3 ((l.drop 1).take (Tryz.prog.cellsOf 3)) = some y := ⟨xs[1], (hel 1 _ rfl).trans (List.getElem?_eq_getElem (by omega))⟩
  obtain ⟨y2, g2⟩ : ∃ y, DataW.trod enc Tryz.prog W 0 (fun _ => true) true n 25 ((l.drop 2).take (Tryz.prog.cellsOf 25)) = some y := ⟨xs[2], (hel 2 _ rfl).trans (List.getElem?_eq_getElem (by omega))⟩
  clear hel hf hxs
  rw [cells3] at g0 g1
  rw [cells25] at g2
  match l, hl with
  | [c0, c1, c2], _ =>
    obtain ⟨xo, e0, _, w0⟩ := DataW.trod_int Tryz.underlying3 g0
    obtain ⟨xa, e1, _, w1⟩ := DataW.trod_int Tryz.underlying3 g1
    obtain ⟨kl, hk, hkb, hkl⟩ := bytes_of g2
    cases e0
    cases e1
    exact ⟨xo, xa, c2, kl, rfl, hk, hkl, hkb, bounds_of_i64 w0, bounds_of_i64 w1⟩
end

end Go.Proofs.YthlnmdihdcfphaaGreatDoor
