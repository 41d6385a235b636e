/- What the statement wants: the listed variables' cells out of the rows' condition, a memory that meets it; their arguments, opened; what a call that turns nothing hands back. -/
import Derived.Test.YtoiekieddkadmaaDoorRows
import Derived.Test.YtoiekieddkadmaaDoorWk
import Derived.ProofKit
import Derived.LaidMore
import Derived.LaidHandle
import Derived.OpenShut
import Derived.Stop.Joined
import Derived.SliceStrings
import Derived.Lib.LaidTab
import Derived.Stop.LaidErr
import Derived.Lib.SmallJoins
import Derived.Deep.Fields
import Derived.Deep.Slices
namespace Go.Proofs.YtoiekieddkadmaaDoor
open Go.ChangeShapes Go.WideShapes Go.ChangeAt Go.RowKit Go.Deep Go.Joins
set_option linter.unusedSimpArgs false
set_option linter.unusedVariables false

abbrev L4 : List (String × DataW Unit) := [("math/bits.deBruijn32tab", Rows.laid_math_bits_deBruijn32tab), ("math/bits.deBruijn64tab", Rows.laid_math_bits_deBruijn64tab), ("internal/strconv.uint64pow10", Rows.laid_internal_strconv_uint64pow10), ("errors.errorType", Rows.laid_errors_errorType)]
theorem own : ownKnob Tryd.prog.godebug = none := by kernel_rfl
theorem laidOut : laidOutB Tryd.prog = true := by kernel_rfl
theorem gE : Tryd.prog.globalNamed "errors.errorType" = some 0 := by kernel_rfl
theorem rtype : (Tryd.prog.cutTypes.find? (·.1 == "internal/reflectlite.rtype")).map (·.2) = some 94 := by kernel_rfl
theorem oneRow : ((List.range 175).filter fun t => Tryd.prog.rowNamed t [101, 114, 114, 111, 114]) = [43] := by kernel_rfl
theorem types_size : Tryd.prog.types.size = 175 := by kernel_rfl
theorem cells3 : Tryd.prog.cellsOf 3 = 1 := by kernel_rfl
theorem cells5 : Tryd.prog.cellsOf 5 = 1 := by kernel_rfl
theorem cells22 : Tryd.prog.cellsOf 22 = 1 := by kernel_rfl
theorem cells24 : Tryd.prog.cellsOf 24 = 4 := by kernel_rfl
theorem cells25 : Tryd.prog.cellsOf 25 = 8 := by kernel_rfl
theorem cells27 : Tryd.prog.cellsOf 27 = 16 := by kernel_rfl
theorem handle43 : typeHandle Tryd.prog 43 = .pointer (some ⟨4, 43, none⟩) := by kernel_rfl

theorem errVar_of_laid {W : World} (h : laidMetH Tryd.prog L4 W) : ErrVar W := by
  have h' : laidMet Tryd.prog [("math/bits.deBruijn32tab", Rows.laid_math_bits_deBruijn32tab), ("math/bits.deBruijn64tab", Rows.laid_math_bits_deBruijn64tab), ("internal/strconv.uint64pow10", Rows.laid_internal_strconv_uint64pow10)] W ∧ handlesMet Tryd.prog [("errors.errorType", Rows.laid_errors_errorType)] W := h
  obtain ⟨name, u, ty, e1, e2, e3, e4, e5⟩ := h'.2 _ (List.mem_singleton.2 rfl)
  have en : name = [101, 114, 114, 111, 114] := (Option.some.inj e1).symm
  subst en
  obtain rfl := Option.some.inj (rtype.symm.trans e2)
  have hm : ty ∈ (List.range 175).filter fun t => Tryd.prog.rowNamed t [101, 114, 114, 111, 114] := List.mem_filter.2 ⟨List.mem_range.2 (by rw [← types_size]; exact e3), e4⟩
  rw [oneRow] at hm
  obtain rfl := List.mem_singleton.1 hm
  rw [handle43] at e5
  have := World.var?_cell gE e5 0
  simpa [ErrVar] using this
theorem door_met (os : Os) (args : Array Value) : laidMetH Tryd.prog L4 ((World.doorLaid Tryd.prog 400 os).forCall (fun _ _ => 0) ⟨#[], args, []⟩).memory :=
  laidMetH_of_parts3 (fuel := 8) (laidMet_of_run' 8 (by kernel_rfl) (by kernel_rfl)) (by kernel_rfl) (by kernel_rfl)

theorem below_trodAll {H : Type} {enc : TypeId × Value → H} {W W' : World} (hb : Below W.heap.size W W') : ∀ {ts : List TypeId} {vs : List Value} {ds : List (DataW H)} {ps : List MemPlace},
    (∀ t ∈ ts, Tryd.prog.readableRec t = true ∧ t < Tryd.prog.types.size) → DataW.TrodAll enc Tryd.prog W 0 (fun _ => true) true ts vs ds ps → (∀ x ∈ ps, x.block < W.heap.size) →
    DataW.TrodAll enc Tryd.prog W' 0 (fun b => decide (b < W.heap.size)) true ts vs ds ps
  | [], _, _, _, _, h, _ => by
    obtain ⟨rfl, rfl, rfl⟩ := trodAll_nil h
    exact trodAll_mk0
  | t :: ts, _, _, _, hr, h, hlt => by
    obtain ⟨v, vs, d, ds, p, q, rfl, rfl, rfl, h0, h1⟩ := trodAll_cons h
    refine trodAll_cons_mk (Below.trod laidOut (hr t (by simp)).1 (hr t (by simp)).2 h0 hb fun x hx => hlt x (by simp [hx])) (below_trodAll hb (fun u hu => hr u (by simp [hu])) h1 fun x hx => hlt x (by simp [hx]))
theorem readable : ([27].all fun t => Tryd.prog.readableRec t && decide (t < Tryd.prog.types.size)) = true := by kernel_rfl
theorem readable_of {ts : List TypeId} (h : ∀ t ∈ ts, t ∈ [27]) : ∀ t ∈ ts, Tryd.prog.readableRec t = true ∧ t < Tryd.prog.types.size := fun t ht => by
  have := List.all_eq_true.1 readable t (h t ht)
  simpa using this
theorem bounds_of_i64 {n : Int} (h : (Lit.int .i64 n).wf = true) : Small n := by
  have := bounds_i64 h
  exact ⟨this.1, by omega⟩
theorem bounds_of_u8 {n : Int} (h : (Lit.int .u8 n).wf = true) : Byte n := by
  have := bounds_u8 h
  exact ⟨this.1, by omega⟩
theorem bounds_of_u32 {n : Int} (h : (Lit.int .u32 n).wf = true) : U32 n := by
  have := bounds_u32 h
  exact ⟨this.1, by omega⟩
theorem list_ints {k : IntKind} : ∀ {cs : List Value}, (∀ c ∈ cs, ∃ z, c = .int k z ∧ (Lit.int k z).wf = true) → ∃ l : List Int, cs = l.map (Value.int k) ∧ ∀ y ∈ l, (Lit.int k y).wf = true
  | [], _ => ⟨[], rfl, fun y hy => by cases hy⟩
  | c :: cs, h => by
    obtain ⟨z, rfl, hw⟩ := h c (by simp)
    obtain ⟨l, rfl, hl⟩ := list_ints (k := k) (cs := cs) fun c hc => h c (List.mem_cons_of_mem _ hc)
    exact ⟨z :: l, rfl, fun y hy => by
      rcases List.mem_cons.1 hy with rfl | hy
      · exact hw
      · exact hl y hy⟩
section
variable {H : Type} {enc : TypeId × Value → H} {W : World}
/-- An array of numbers, opened. -/
theorem ints_of {fuel n : Nat} {t e : TypeId} {k : IntKind} {cs : List Value} {x : DataW H × List MemPlace} (ht : Tryd.prog.underlying t = some (.array n e)) (he : Tryd.prog.underlying e = some (.int k)) (hc : Tryd.prog.cellsOf e = 1) (hn : Tryd.prog.cellsOf t = n)
    (h : DataW.trod enc Tryd.prog W 0 (fun _ => true) true fuel t cs = some x) : ∃ l : List Int, cs = l.map (Value.int k) ∧ l.length = n ∧ ∀ y ∈ l, (Lit.int k y).wf = true := by
  obtain ⟨xs, m, _, _, hl, hxs, hel⟩ := DataW.trod_array ht h
  rw [hn] at hl
  obtain ⟨l, rfl, hw⟩ := list_ints (k := k) (cs := cs) fun c hcs => by
    obtain ⟨i, hi, rfl⟩ := List.getElem_of_mem hcs
    have hE := hel i (by omega)
    rw [hc, Nat.mul_one, List.getElem?_eq_getElem (by omega)] at hE
    obtain ⟨z, e1, _, hw⟩ := DataW.trod_int he hE
    rw [show (cs.drop i).take 1 = [cs[i]] from by rw [List.drop_eq_getElem_cons hi]; rfl] at e1
    exact ⟨z, by simpa using e1, hw⟩
  exact ⟨l, rfl, by simpa using hl, hw⟩

/-- One cell. -/
theorem one_cell {cs : List Value} {o : Nat} {v : Value} (e : (cs.drop o).take 1 = [v]) : cs[o]? = some v := by
  have h : ((cs.drop o).take 1)[0]? = some v := by rw [e]; rfl
  rw [List.getElem?_take_of_lt (by decide), List.getElem?_drop, Nat.add_zero] at h
  exact h
theorem num_at {n t o : Nat} {k : IntKind} {cs : List Value} {y : DataW H × List MemPlace} (ht : Tryd.prog.underlying t = some (.int k)) (hc : Tryd.prog.cellsOf t = 1) (h : DataW.trod enc Tryd.prog W 0 (fun _ => true) true n t ((cs.drop o).take (Tryd.prog.cellsOf t)) = some y) : ∃ z, cs[o]? = some (.int k z) ∧ (Lit.int k z).wf = true := by
  rw [hc] at h
  obtain ⟨z, e, _, hw⟩ := DataW.trod_int ht h
  exact ⟨z, one_cell e, hw⟩
theorem geom_at {n o : Nat} {cs : List Value} {y : DataW H × List MemPlace} (ho : o + 4 ≤ cs.length) (h : DataW.trod enc Tryd.prog W 0 (fun _ => true) true n 24 ((cs.drop o).take (Tryd.prog.cellsOf 24)) = some y) : ∃ p s l f, (Small p ∧ Small s ∧ Small l ∧ Small f) ∧ cs[o]? = some (.int .i64 p) ∧ cs[o + 1]? = some (.int .i64 s) ∧ cs[o + 2]? = some (.int .i64 l) ∧ cs[o + 3]? = some (.int .i64 f) := by
  obtain ⟨xs, m, _, _, hl, hxs, hel⟩ := DataW.trod_struct Tryd.underlying24 h
  have hx : xs.length = 4 := hxs
  obtain ⟨p, e0, w0⟩ := num_at Tryd.underlying3 cells3 ((hel 0 _ rfl).trans (List.getElem?_eq_getElem (by omega)))
  obtain ⟨s, e1, w1⟩ := num_at Tryd.underlying3 cells3 ((hel 1 _ rfl).trans (List.getElem?_eq_getElem (by omega)))
  obtain ⟨l, e2, w2⟩ := num_at Tryd.underlying3 cells3 ((hel 2 _ rfl).trans (List.getElem?_eq_getElem (by omega)))
  obtain ⟨f, e3, w3⟩ := num_at Tryd.underlying3 cells3 ((hel 3 _ rfl).trans (List.getElem?_eq_getElem (by omega)))
  rw [cells24] at e0 e1 e2 e3
  have tk : ∀ (j : Nat) (v : Value), j < 4 → ((cs.drop o).take 4)[j]? = some v → cs[o + j]? = some v := fun j v hj hv => by
    rwa [List.getElem?_take_of_lt hj, List.getElem?_drop] at hv
  exact ⟨p, s, l, f, ⟨bounds_of_i64 w0, bounds_of_i64 w1, bounds_of_i64 w2, bounds_of_i64 w3⟩, tk 0 _ (by decide) e0, tk 1 _ (by decide) e1, tk 2 _ (by decide) e2, tk 3 _ (by decide) e3⟩
set_option maxRecDepth 100000 in
theorem region_of {base : Nat} {v : Value} {d : DataW H} {p : List MemPlace} (hv : Value.okWide Tryd.prog W .any base 27 v) (h : DataW.Trod enc Tryd.prog W 0 (fun _ => true) true 27 v d p) : ∃ r : Rg, v = .agg r.cells.toArray ∧ r.Wf := by
  simp only [Value.okWide, Tryd.underlying27] at hv
  obtain ⟨⟨cs⟩, rfl, hsz, _⟩ := hv
  obtain ⟨fuel, hf⟩ := h
  simp only [Value.cells] at hf
  have hlen : cs.length = 16 := by rw [cells27] at hsz; exact hsz
  obtain ⟨xs, m, _, _, hl, hxs, hel⟩ := DataW.trod_struct Tryd.underlying27 hf
  have hx : xs.length = 6 := hxs
  obtain ⟨gen, e0, w0⟩ := num_at Tryd.underlying22 cells22 ((hel 0 _ rfl).trans (List.getElem?_eq_getElem (by omega)))
  obtain ⟨gp, gs, gl, gf, ⟨v1, v2, v3, v4⟩, e1, e2, e3, e4⟩ := geom_at (o := 1) (by omega) ((hel 1 _ rfl).trans (List.getElem?_eq_getElem (by omega)))
  obtain ⟨seg, e5, w5⟩ := num_at Tryd.underlying3 cells3 ((hel 2 _ rfl).trans (List.getElem?_eq_getElem (by omega)))
  obtain ⟨off, e6, w6⟩ := num_at Tryd.underlying3 cells3 ((hel 3 _ rfl).trans (List.getElem?_eq_getElem (by omega)))
  obtain ⟨seq, e7, w7⟩ := num_at Tryd.underlying22 cells22 ((hel 4 _ rfl).trans (List.getElem?_eq_getElem (by omega)))
  obtain ⟨rs, e8, hl8, w8⟩ := ints_of Tryd.underlying25 Tryd.underlying3 cells3 cells25 ((hel 5 _ rfl).trans (List.getElem?_eq_getElem (by omega)))
  have e8 : (cs.drop 8).take (Tryd.prog.cellsOf 25) = rs.map (Value.int .i64) := e8
  rw [cells25] at e8
  have e0 : cs[0]? = some (.int .u32 gen) := e0
  have e5 : cs[5]? = some (.int .i64 seg) := e5
  have e6 : cs[6]? = some (.int .i64 off) := e6
  have e7 : cs[7]? = some (.int .u32 seq) := e7
  refine ⟨⟨gen, gp, gs, gl, gf, seg, off, seq, rs⟩, ?_, bounds_of_u32 w0, v1, v2, v3, v4, bounds_of_i64 w5, bounds_of_i64 w6, bounds_of_u32 w7, hl8, fun x hx => bounds_of_i64 (w8 x hx)⟩
  refine congrArg (fun l : List Value => Value.agg l.toArray) ?_
  match cs, hlen with
  | [c0, c1, c2, c3, c4, c5, c6, c7, c8, c9, ca, cb, cc, cd, ce, cf], _ =>
    simp only [List.drop_succ_cons, List.drop_zero, List.take_succ_cons, List.take_zero] at e8
    cases e0
    cases e1
    cases e2
    cases e3
    cases e4
    cases e5
    cases e6
    cases e7
    show _ = _ :: _ :: _ :: _ :: _ :: _ :: _ :: _ :: rs.map (Value.int .i64)
    rw [← e8]
end
end Go.Proofs.YtoiekieddkadmaaDoor
