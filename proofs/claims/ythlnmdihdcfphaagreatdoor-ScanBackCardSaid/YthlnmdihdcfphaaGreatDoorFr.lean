/- What the six statements share: the listed variables' cells out of the rows' condition, a memory that meets it; their arguments, opened; what was there reads as it did. -/
import Derived.Test.YthlnmdihdcfphaaGreatDoorRows
import Derived.Test.YthlnmdihdcfphaaGreatDoorMg
import Derived.ProofKit
import Derived.LaidMore
import Derived.LaidHandle
import Derived.OpenShut
import Derived.Stop.Joined
import Derived.SliceStrings
import Derived.Lib.LaidTab
import Derived.Stop.LaidErr
import Derived.Lib.SmallJoins
import Derived.Deep.Fields
import Derived.Deep.Slices
namespace Go.Proofs.YthlnmdihdcfphaaGreatDoor
set_option linter.unusedSimpArgs false
set_option linter.unusedVariables false
open Go.ChangeShapes Go.WideShapes Go.ChangeAt Go.RowKit Go.Deep Go.Joins
set_option maxRecDepth 100000

theorem own : ownKnob Tryz.prog.godebug = none := by kernel_rfl
theorem laidOut : laidOutB Tryz.prog = true := by kernel_rfl
theorem cells3 : Tryz.prog.cellsOf 3 = 1 := by kernel_rfl
theorem cells5 : Tryz.prog.cellsOf 5 = 1 := by kernel_rfl
theorem cells70 : Tryz.prog.cellsOf 70 = 32 := by kernel_rfl
theorem cells25 : Tryz.prog.cellsOf 25 = 1 := by kernel_rfl
theorem cells71 : Tryz.prog.cellsOf 71 = 8 := by kernel_rfl
theorem cells73 : Tryz.prog.cellsOf 73 = 45 := by kernel_rfl
theorem cells68 : Tryz.prog.cellsOf 68 = 2 := by kernel_rfl
theorem cells75 : Tryz.prog.cellsOf 75 = 47 := by kernel_rfl
abbrev L4 : List (String × DataW Unit) := [("math/bits.deBruijn32tab", Rows.laid_math_bits_deBruijn32tab), ("math/bits.deBruijn64tab", Rows.laid_math_bits_deBruijn64tab), ("internal/strconv.uint64pow10", Rows.laid_internal_strconv_uint64pow10), ("errors.errorType", Rows.laid_errors_errorType)]
theorem gE : Tryz.prog.globalNamed "errors.errorType" = some 0 := by kernel_rfl
theorem gP : Tryz.prog.globalNamed "internal/strconv.uint64pow10" = some 1 := by kernel_rfl
theorem gPt : (Tryz.prog.globals[1]?).map (·.type) = some 213 := by kernel_rfl
theorem rtype : (Tryz.prog.cutTypes.find? (·.1 == "internal/reflectlite.rtype")).map (·.2) = some 168 := by kernel_rfl
theorem types_size : Tryz.prog.types.size = 249 := by kernel_rfl
theorem oneRow : ((List.range 249).filter fun t => Tryz.prog.rowNamed t [101, 114, 114, 111, 114]) = [82] := by kernel_rfl
theorem cells23 : Tryz.prog.cellsOf 23 = 4 := by kernel_rfl
theorem cellsU64 : Tryz.prog.cellsOf 201 = 1 := by kernel_rfl
theorem cellsTab : Tryz.prog.cellsOf 213 = 20 := by kernel_rfl
theorem handle82 : typeHandle Tryz.prog 82 = .pointer (some ⟨4, 82, none⟩) := by kernel_rfl
theorem vars_of_laid {W : World} (h : laidMetH Tryz.prog L4 W) : Vars W := by
  have h' : laidMet Tryz.prog [("math/bits.deBruijn32tab", Rows.laid_math_bits_deBruijn32tab), ("math/bits.deBruijn64tab", Rows.laid_math_bits_deBruijn64tab), ("internal/strconv.uint64pow10", Rows.laid_internal_strconv_uint64pow10)] W ∧ handlesMet Tryz.prog [("errors.errorType", Rows.laid_errors_errorType)] W := h
  have hT : Lib.TabIs Tryz.prog W "internal/strconv.uint64pow10" .u64 Lib.pow10Tab :=
    Lib.tabIs_of_head (rest := []) gP gPt Tryz.underlying213 Tryz.underlying201 cellsU64 cellsTab (laidMet.tail (laidMet.tail h'.1))
  obtain ⟨name, u, ty, e1, e2, e3, e4, e5⟩ := h'.2 _ (List.mem_singleton.2 rfl)
  have en : name = [101, 114, 114, 111, 114] := (Option.some.inj e1).symm
  subst en
  obtain rfl := Option.some.inj (rtype.symm.trans e2)
  have hm : ty ∈ (List.range 249).filter fun t => Tryz.prog.rowNamed t [101, 114, 114, 111, 114] := List.mem_filter.2 ⟨List.mem_range.2 (by rw [← types_size]; exact e3), e4⟩
  rw [oneRow] at hm
  obtain rfl := List.mem_singleton.1 hm
  rw [handle82] at e5
  have hE : ErrVar W := by have := World.var?_cell gE e5 0; simpa [ErrVar] using this
  have h1 : W.cell? ⟨1, 0, none⟩ = some (.int .u64 1) := hT.cell gP 0 (by decide)
  exact ⟨hE, hT, lt_of_cell h1⟩
theorem door_met (os : Os) (args : Array Value) : laidMetH Tryz.prog L4 ((World.doorLaid Tryz.prog 400 os).forCall (fun _ _ => 0) ⟨#[], args, []⟩).memory :=
  laidMetH_of_parts3 (fuel := 8) (laidMet_of_run' 8 (by kernel_rfl) (by kernel_rfl)) (by kernel_rfl) (by kernel_rfl)
theorem readable : ([23, 24, 27, 40, 5].all fun t => Tryz.prog.readableRec t && decide (t < Tryz.prog.types.size)) = true := by kernel_rfl
theorem readable_of {ts : List TypeId} (h : ∀ t ∈ ts, t ∈ [23, 24, 27, 40, 5]) : ∀ t ∈ ts, Tryz.prog.readableRec t = true ∧ t < Tryz.prog.types.size := fun t ht => by
  have := List.all_eq_true.1 readable t (h t ht)
  simpa using this
theorem below_trodAll {H : Type} {enc : TypeId × Value → H} {W W' : World} (hb : Below W.heap.size W W') : ∀ {ts : List TypeId} {vs : List Value} {ds : List (DataW H)} {ps : List MemPlace},
    (∀ t ∈ ts, Tryz.prog.readableRec t = true ∧ t < Tryz.prog.types.size) → DataW.TrodAll enc Tryz.prog W 0 (fun _ => true) true ts vs ds ps → (∀ x ∈ ps, x.block < W.heap.size) →
    DataW.TrodAll enc Tryz.prog W' 0 (fun b => decide (b < W.heap.size)) true ts vs ds ps
  | [], _, _, _, _, h, _ => by
    obtain ⟨rfl, rfl, rfl⟩ := trodAll_nil h
    exact trodAll_mk0
  | t :: ts, _, _, _, hr, h, hlt => by
    obtain ⟨v, vs, d, ds, p, q, rfl, rfl, rfl, h0, h1⟩ := trodAll_cons h
    refine trodAll_cons_mk (Below.trod laidOut (hr t (by simp)).1 (hr t (by simp)).2 h0 hb fun x hx => hlt x (by simp [hx])) (below_trodAll hb (fun u hu => hr u (by simp [hu])) h1 fun x hx => hlt x (by simp [hx]))
theorem bounds_of_i64 {n : Int} (h : (Lit.int .i64 n).wf = true) : Small n := by
  have := bounds_i64 h
  exact ⟨this.1, by omega⟩
theorem bounds_of_u8 {n : Int} (h : (Lit.int .u8 n).wf = true) : Byte n := by
  have := bounds_u8 h
  exact ⟨this.1, by omega⟩
theorem list_ints {k : IntKind} : ∀ {cs : List Value}, (∀ c ∈ cs, ∃ z, c = .int k z ∧ (Lit.int k z).wf = true) → ∃ l : List Int, cs = l.map (Value.int k) ∧ ∀ y ∈ l, (Lit.int k y).wf = true
  | [], _ => ⟨[], rfl, fun y hy => by cases hy⟩
  | c :: cs, h => by
    obtain ⟨z, rfl, hw⟩ := h c (by simp)
    obtain ⟨l, rfl, hl⟩ := list_ints (k := k) (cs := cs) fun c hc => h c (List.mem_cons_of_mem _ hc)
    exact ⟨z :: l, rfl, fun y hy => by
      rcases List.mem_cons.1 hy with rfl | hy
      · exact hw
      · exact hl y hy⟩
section
variable {H : Type} {enc : TypeId × Value → H} {W : World}
/-- An array of numbers, opened. -/
theorem ints_of {fuel n : Nat} {t e : TypeId} {k : IntKind} {cs : List Value} {x : DataW H × List MemPlace} (ht : Tryz.prog.underlying t = some (.array n e)) (he : Tryz.prog.underlying e = some (.int k)) (hc : Tryz.prog.cellsOf e = 1) (hn : Tryz.prog.cellsOf t = n)
    (h : DataW.trod enc Tryz.prog W 0 (fun _ => true) true fuel t cs = some x) : ∃ l : List Int, cs = l.map (Value.int k) ∧ l.length = n ∧ ∀ y ∈ l, (Lit.int k y).wf = true := by
  obtain ⟨xs, m, _, _, hl, hxs, hel⟩ := DataW.trod_array ht h
  rw [hn] at hl
  obtain ⟨l, rfl, hw⟩ := list_ints (k := k) (cs := cs) fun c hcs => by
    obtain ⟨i, hi, rfl⟩ := List.getElem_of_mem hcs
    have hE := hel i (by omega)
    rw [hc, Nat.mul_one, List.getElem?_eq_getElem (by omega)] at hE
    obtain ⟨z, e1, _, hw⟩ := DataW.trod_int he hE
    rw [show (cs.drop i).take 1 = [cs[i]] from by rw [List.drop_eq_getElem_cons hi]; rfl] at e1
    exact ⟨z, by simpa using e1, hw⟩
  exact ⟨l, rfl, by simpa using hl, hw⟩
theorem bytes_of {n : Nat} {v : Value} {y : DataW H × List MemPlace} (h : DataW.trod enc Tryz.prog W 0 (fun _ => true) true n 25 [v] = some y) : ∃ l, BytesAt W v l ∧ (∀ x ∈ l, Byte x) ∧ l.length ≤ 9223372036854775807 := by
  rcases open_ints Tryz.underlying25 Tryz.underlying5 cells5 h with ⟨hcs, _⟩ | ⟨a, len, cap, zs, hcs, _, hl, hm, hz, hbig, hc, hw⟩
  · simp at hcs
    subst hcs
    exact ⟨[], BytesAt.nil _ _ _, (fun x hx => by cases hx), by decide⟩
  · simp at hcs
    subst hcs
    simp only [if_true] at hz
    have hlen : (zs.take len).length = len := by simp; omega
    refine ⟨zs.take len, ⟨some a, cap, by rw [hlen], fun i x hx => ?_⟩, fun n hn => bounds_of_u8 (hw n (List.mem_of_mem_take hn)), ?_⟩
    · have hi : i < len := by
        have := (List.getElem?_eq_some_iff.1 hx).1
        omega
      rw [List.getElem?_take_of_lt hi] at hx
      have h0 := hc i (by omega)
      obtain ⟨b, off, spot⟩ := a
      have hspot : spot = none := by simpa [Addr.add] using World.cell?_spot (hc 0 (by omega))
      subst hspot
      refine ⟨b, off, rfl, ?_⟩
      rw [← add_plain, h0]
      simp [List.getD, hx]
    · rw [hlen]
      have : maxLen = 9223372036854775807 := rfl
      omega
theorem block_cells {fuel : Nat} {l : List Value} {y : DataW H × List MemPlace} (hf : DataW.trod enc Tryz.prog W 0 (fun _ => true) true fuel 73 l = some y) : ∃ (b : Bk) (sv : Value), l = b.cells sv ∧ b.Wf ∧ BytesAt W sv b.bytes := by
  obtain ⟨xs, n, _, _, hl, hxs, hel⟩ := DataW.trod_struct Tryz.underlying73 hf
  rw [cells73] at hl
  have hx7 : xs.length = 7 := hxs
  obtain ⟨y0, g0⟩ : ∃ y, DataW.trod enc Tryz.prog W 0 (fun _ => true) true n 3 ((l.drop 0).take (Tryz.prog.cellsOf 3)) = some y := ⟨xs[0], (hel 0 _ rfl).trans (List.getElem?_eq_getElem (by omega))⟩
  obtain ⟨y1, g1⟩ : ∃ y, DataW.trod enc Tryz.prog W 0 (fun _ => true) true n 3 ((l.drop 1).take (Tryz.prog.cellsOf 3)) = some y := ⟨xs[1], (hel 1 _ rfl).trans (List.getElem?_eq_getElem (by omega))⟩
  obtain ⟨y2, g2⟩ : ∃ y, DataW.trod enc Tryz.prog W 0 (fun _ => true) true n 70 ((l.drop 2).take (Tryz.prog.cellsOf 70)) = some y := ⟨xs[2], (hel 2 _ rfl).trans (List.getElem?_eq_getElem (by omega))⟩
  obtain ⟨y3, g3⟩ : ∃ y, DataW.trod enc Tryz.prog W 0 (fun _ => true) true n 3 ((l.drop 34).take (Tryz.prog.cellsOf 3)) = some y := ⟨xs[3], (hel 3 _ rfl).trans (List.getElem?_eq_getElem (by omega))⟩
  obtain ⟨y4, g4⟩ : ∃ y, DataW.trod enc Tryz.prog W 0 (fun _ => true) true n 25 ((l.drop 35).take (Tryz.prog.cellsOf 25)) = some y := ⟨xs[4], (hel 4 _ rfl).trans (List.getElem?_eq_getElem (by omega))⟩
  obtain ⟨y5, g5⟩ : ∃ y, DataW.trod enc Tryz.prog W 0 (fun _ => true) true n 3 ((l.drop 36).take (Tryz.prog.cellsOf 3)) = some y := ⟨xs[5], (hel 5 _ rfl).trans (List.getElem?_eq_getElem (by omega))⟩
  obtain ⟨y6, g6⟩ : ∃ y, DataW.trod enc Tryz.prog W 0 (fun _ => true) true n 71 ((l.drop 37).take (Tryz.prog.cellsOf 71)) = some y := ⟨xs[6], (hel 6 _ rfl).trans (List.getElem?_eq_getElem (by omega))⟩
  clear hel hf hxs
  rw [cells3] at g0 g1 g3 g5
  rw [cells25] at g4
  rw [cells70] at g2
  rw [cells71] at g6
  obtain ⟨k, e0, _, w0⟩ := DataW.trod_int Tryz.underlying3 g0
  obtain ⟨i, e1, _, w1⟩ := DataW.trod_int Tryz.underlying3 g1
  obtain ⟨pg, e2, l2, w2⟩ := ints_of Tryz.underlying70 Tryz.underlying5 cells5 cells70 g2
  obtain ⟨o, e3, _, w3⟩ := DataW.trod_int Tryz.underlying3 g3
  obtain ⟨sv, e4⟩ : ∃ v, (l.drop 35).take 1 = [v] := ⟨l[35], by rw [List.drop_eq_getElem_cons (by omega)]; rfl⟩
  rw [e4] at g4
  obtain ⟨by_, hby, w4, n4⟩ := bytes_of g4
  obtain ⟨pv, e5, _, w5⟩ := DataW.trod_int Tryz.underlying3 g5
  obtain ⟨hd, e6, l6, w6⟩ := ints_of Tryz.underlying71 Tryz.underlying3 cells3 cells71 g6
  refine ⟨⟨k, i, pg, o, by_, pv, hd⟩, sv, ?_, ⟨bounds_of_i64 w0, bounds_of_i64 w1, bounds_of_i64 w3, bounds_of_i64 w5, l2, fun x hx => bounds_of_u8 (w2 x hx), n4, w4, l6, fun x hx => bounds_of_i64 (w6 x hx)⟩, hby⟩
  have hcut : l = (l.drop 0).take 1 ++ ((l.drop 1).take 1 ++ ((l.drop 2).take 32 ++ ((l.drop 34).take 1 ++ ((l.drop 35).take 1 ++ ((l.drop 36).take 1 ++ (l.drop 37).take 8))))) := by
    have h7 : (l.drop 37).take 8 = l.drop 37 := List.take_of_length_le (by simp; omega)
    rw [h7]
    have st : ∀ (a c : Nat), (l.drop a).take c ++ l.drop (a + c) = l.drop a := fun a c => by rw [← List.drop_drop, List.take_append_drop]
    rw [st 36 1, st 35 1, st 34 1, st 2 32, st 1 1, st 0 1]
    rfl
  rw [hcut, e0, e1, e2, e3, e4, e5, e6]
  rfl
theorem item_cells {fuel : Nat} {l : List Value} {y : DataW H × List MemPlace} (hf : DataW.trod enc Tryz.prog W 0 (fun _ => true) true fuel 75 l = some y) : ∃ (x : It) (sv : Value), l = x.cells sv ∧ x.Wf ∧ BytesAt W sv x.blk.bytes := by
  obtain ⟨xs, n, _, _, hl, hxs, hel⟩ := DataW.trod_struct Tryz.underlying75 hf
  rw [cells75] at hl
  have hx2 : xs.length = 2 := hxs
  obtain ⟨y0, g0⟩ : ∃ y, DataW.trod enc Tryz.prog W 0 (fun _ => true) true n 68 ((l.drop 0).take (Tryz.prog.cellsOf 68)) = some y := ⟨xs[0], (hel 0 _ rfl).trans (List.getElem?_eq_getElem (by omega))⟩
  obtain ⟨y1, g1⟩ : ∃ y, DataW.trod enc Tryz.prog W 0 (fun _ => true) true n 73 ((l.drop 2).take (Tryz.prog.cellsOf 73)) = some y := ⟨xs[1], (hel 1 _ rfl).trans (List.getElem?_eq_getElem (by omega))⟩
  clear hel hf hxs
  rw [cells68] at g0
  rw [cells73] at g1
  obtain ⟨b, sv, hb, b1, b2⟩ := block_cells g1
  obtain ⟨zs, m, _, _, hl0, hz, hel0⟩ := DataW.trod_struct Tryz.underlying68 g0
  have hz2 : zs.length = 2 := hz
  obtain ⟨u0, k0⟩ : ∃ y, DataW.trod enc Tryz.prog W 0 (fun _ => true) true m 3 ((((l.drop 0).take 2).drop 0).take (Tryz.prog.cellsOf 3)) = some y := ⟨zs[0], (hel0 0 _ rfl).trans (List.getElem?_eq_getElem (by omega))⟩
  obtain ⟨u1, k1⟩ : ∃ y, DataW.trod enc Tryz.prog W 0 (fun _ => true) true m 3 ((((l.drop 0).take 2).drop 1).take (Tryz.prog.cellsOf 3)) = some y := ⟨zs[1], (hel0 1 _ rfl).trans (List.getElem?_eq_getElem (by omega))⟩
  rw [cells3] at k0 k1
  obtain ⟨mk, e0, _, w0⟩ := DataW.trod_int Tryz.underlying3 k0
  obtain ⟨mi, e1, _, w1⟩ := DataW.trod_int Tryz.underlying3 k1
  refine ⟨⟨(mk, mi), b⟩, sv, ?_, ⟨bounds_of_i64 w0, bounds_of_i64 w1, b1⟩, b2⟩
  have h45 : (l.drop 2).take 45 = l.drop 2 := List.take_of_length_le (by simp; omega)
  rw [h45] at hb
  match l, hl with
  | a :: c :: r, hl =>
    simp at e0 e1 hb
    subst hb
    rw [e0, e1]
    rfl
theorem geom_of {base : Nat} {v : Value} {d : DataW H} {p : List MemPlace} (hv : Value.okWide Tryz.prog W .any base 23 v) (h : DataW.Trod enc Tryz.prog W 0 (fun _ => true) true 23 v d p) : ∃ g : Pl.Gm, v = g.v := by
  simp only [Value.okWide, Tryz.underlying23] at hv
  obtain ⟨cs, rfl, hsz, _⟩ := hv
  rw [cells23] at hsz
  obtain ⟨l⟩ := cs
  obtain ⟨v0, v1, v2, v3, rfl⟩ : ∃ v0 v1 v2 v3, l = [v0, v1, v2, v3] := by
    match l, hsz with
    | [v0, v1, v2, v3], _ => exact ⟨v0, v1, v2, v3, rfl⟩
  obtain ⟨fuel, hf⟩ := h
  obtain ⟨y0, y1, y2, y3, n', _, _, h0, h1, h2, h3⟩ := trod_struct4 Tryz.underlying23 hf
  simp only [cells3, Value.cells] at h0 h1 h2 h3
  obtain ⟨a0, e0, _, _⟩ := DataW.trod_int Tryz.underlying3 h0
  obtain ⟨a1, e1, _, _⟩ := DataW.trod_int Tryz.underlying3 h1
  obtain ⟨a2, e2, _, _⟩ := DataW.trod_int Tryz.underlying3 h2
  obtain ⟨a3, e3, _, _⟩ := DataW.trod_int Tryz.underlying3 h3
  simp at e0 e1 e2 e3
  subst e0 e1 e2 e3
  exact ⟨⟨a0, a1, a2, a3⟩, rfl⟩
end

end Go.Proofs.YthlnmdihdcfphaaGreatDoor
