/- What the four statements share: the listed variables' cells out of the rows' condition, a memory that meets it; their arguments, opened; what a call that turns nothing hands back. -/
import Derived.Test.YtjejodgjakjeiaaDoorRows
import Derived.Test.YtjejodgjakjeiaaDoorWakes
import Derived.ProofKit
import Derived.LaidMore
import Derived.LaidHandle
import Derived.OpenShut
import Derived.Stop.Joined
import Derived.SliceStrings
import Derived.Lib.LaidTab
import Derived.Stop.LaidErr
import Derived.Lib.SmallJoins
import Derived.Deep.Fields
import Derived.Deep.Slices
namespace Go.Proofs.YtjejodgjakjeiaaDoor
open Go.ChangeShapes Go.WideShapes Go.ChangeAt Go.RowKit Go.Deep Go.Joins
set_option linter.unusedSimpArgs false
set_option linter.unusedVariables false
set_option maxRecDepth 100000

abbrev L1 : List (String × DataW Unit) := [("errors.errorType", Rows.laid_errors_errorType)]
theorem own : ownKnob Tryd.prog.godebug = none := by kernel_rfl
theorem laidOut : laidOutB Tryd.prog = true := by kernel_rfl
theorem gE : Tryd.prog.globalNamed "errors.errorType" = some 0 := by kernel_rfl
theorem rtype : (Tryd.prog.cutTypes.find? (·.1 == "internal/reflectlite.rtype")).map (·.2) = some 79 := by kernel_rfl
theorem oneRow : ((List.range 134).filter fun t => Tryd.prog.rowNamed t [101, 114, 114, 111, 114]) = [44] := by kernel_rfl
theorem types_size : Tryd.prog.types.size = 134 := by kernel_rfl
theorem cells3 : Tryd.prog.cellsOf 3 = 1 := by kernel_rfl
theorem cells5 : Tryd.prog.cellsOf 5 = 1 := by kernel_rfl
theorem cells26 : Tryd.prog.cellsOf 26 = 32 := by kernel_rfl
theorem cells27 : Tryd.prog.cellsOf 27 = 1 := by kernel_rfl
theorem cells28 : Tryd.prog.cellsOf 28 = 8 := by kernel_rfl
theorem cells30 : Tryd.prog.cellsOf 30 = 45 := by kernel_rfl
theorem cells40 : Tryd.prog.cellsOf 40 = 90 := by kernel_rfl
theorem handle44 : typeHandle Tryd.prog 44 = .pointer (some ⟨1, 44, none⟩) := by kernel_rfl

theorem errVar_of_laid {W : World} (h : laidMetH Tryd.prog L1 W) : ErrVar W := by
  have h' : laidMet Tryd.prog [] W ∧ handlesMet Tryd.prog [("errors.errorType", Rows.laid_errors_errorType)] W := h
  obtain ⟨name, u, ty, e1, e2, e3, e4, e5⟩ := h'.2 _ (List.mem_singleton.2 rfl)
  have en : name = [101, 114, 114, 111, 114] := (Option.some.inj e1).symm
  subst en
  obtain rfl := Option.some.inj (rtype.symm.trans e2)
  have hm : ty ∈ (List.range 134).filter fun t => Tryd.prog.rowNamed t [101, 114, 114, 111, 114] := List.mem_filter.2 ⟨List.mem_range.2 (by rw [← types_size]; exact e3), e4⟩
  rw [oneRow] at hm
  obtain rfl := List.mem_singleton.1 hm
  rw [handle44] at e5
  have := World.var?_cell gE e5 0
  simpa [ErrVar] using this
theorem door_met (os : Os) (args : Array Value) : laidMetH Tryd.prog L1 ((World.doorLaid Tryd.prog 400 os).forCall (fun _ _ => 0) ⟨#[], args, []⟩).memory :=
  laidMetH_of_parts3 (fuel := 8) (laidMet_of_run' 8 (by kernel_rfl) (by kernel_rfl)) (by kernel_rfl) (by kernel_rfl)

theorem below_trodAll {H : Type} {enc : TypeId × Value → H} {W W' : World} (hb : Below W.heap.size W W') : ∀ {ts : List TypeId} {vs : List Value} {ds : List (DataW H)} {ps : List MemPlace},
    (∀ t ∈ ts, Tryd.prog.readableRec t = true ∧ t < Tryd.prog.types.size) → DataW.TrodAll enc Tryd.prog W 0 (fun _ => true) true ts vs ds ps → (∀ x ∈ ps, x.block < W.heap.size) →
    DataW.TrodAll enc Tryd.prog W' 0 (fun b => decide (b < W.heap.size)) true ts vs ds ps
  | [], _, _, _, _, h, _ => by
    obtain ⟨rfl, rfl, rfl⟩ := trodAll_nil h
    exact trodAll_mk0
  | t :: ts, _, _, _, hr, h, hlt => by
    obtain ⟨v, vs, d, ds, p, q, rfl, rfl, rfl, h0, h1⟩ := trodAll_cons h
    refine trodAll_cons_mk (Below.trod laidOut (hr t (by simp)).1 (hr t (by simp)).2 h0 hb fun x hx => hlt x (by simp [hx])) (below_trodAll hb (fun u hu => hr u (by simp [hu])) h1 fun x hx => hlt x (by simp [hx]))
theorem readable : ([22, 3, 27, 26, 40, 5].all fun t => Tryd.prog.readableRec t && decide (t < Tryd.prog.types.size)) = true := by kernel_rfl
theorem readable_of {ts : List TypeId} (h : ∀ t ∈ ts, t ∈ [22, 3, 27, 26, 40, 5]) : ∀ t ∈ ts, Tryd.prog.readableRec t = true ∧ t < Tryd.prog.types.size := fun t ht => by
  have := List.all_eq_true.1 readable t (h t ht)
  simpa using this
theorem bounds_of_i64 {n : Int} (h : (Lit.int .i64 n).wf = true) : Small n := by
  have := bounds_i64 h
  exact ⟨this.1, by omega⟩
theorem bounds_of_u8 {n : Int} (h : (Lit.int .u8 n).wf = true) : Byte n := by
  have := bounds_u8 h
  exact ⟨this.1, by omega⟩
theorem list_ints {k : IntKind} : ∀ {cs : List Value}, (∀ c ∈ cs, ∃ z, c = .int k z ∧ (Lit.int k z).wf = true) → ∃ l : List Int, cs = l.map (Value.int k) ∧ ∀ y ∈ l, (Lit.int k y).wf = true
  | [], _ => ⟨[], rfl, fun y hy => by cases hy⟩
  | c :: cs, h => by
    obtain ⟨z, rfl, hw⟩ := h c (by simp)
    obtain ⟨l, rfl, hl⟩ := list_ints (k := k) (cs := cs) fun c hc => h c (List.mem_cons_of_mem _ hc)
    exact ⟨z :: l, rfl, fun y hy => by
      rcases List.mem_cons.1 hy with rfl | hy
      · exact hw
      · exact hl y hy⟩
section
variable {H : Type} {enc : TypeId × Value → H} {W : World}
/-- An array of numbers, opened. -/
theorem ints_of {fuel n : Nat} {t e : TypeId} {k : IntKind} {cs : List Value} {x : DataW H × List MemPlace} (ht : Tryd.prog.underlying t = some (.array n e)) (he : Tryd.prog.underlying e = some (.int k)) (hc : Tryd.prog.cellsOf e = 1) (hn : Tryd.prog.cellsOf t = n)
    (h : DataW.trod enc Tryd.prog W 0 (fun _ => true) true fuel t cs = some x) : ∃ l : List Int, cs = l.map (Value.int k) ∧ l.length = n ∧ ∀ y ∈ l, (Lit.int k y).wf = true := by
  obtain ⟨xs, m, _, _, hl, hxs, hel⟩ := DataW.trod_array ht h
  rw [hn] at hl
  obtain ⟨l, rfl, hw⟩ := list_ints (k := k) (cs := cs) fun c hcs => by
    obtain ⟨i, hi, rfl⟩ := List.getElem_of_mem hcs
    have hE := hel i (by omega)
    rw [hc, Nat.mul_one, List.getElem?_eq_getElem (by omega)] at hE
    obtain ⟨z, e1, _, hw⟩ := DataW.trod_int he hE
    rw [show (cs.drop i).take 1 = [cs[i]] from by rw [List.drop_eq_getElem_cons hi]; rfl] at e1
    exact ⟨z, by simpa using e1, hw⟩
  exact ⟨l, rfl, by simpa using hl, hw⟩

theorem bytes_of {n : Nat} {v : Value} {y : DataW H × List MemPlace} (h : DataW.trod enc Tryd.prog W 0 (fun _ => true) true n 27 [v] = some y) : ∃ l, BytesAt W v l ∧ (∀ x ∈ l, Byte x) ∧ l.length ≤ 9223372036854775807 := by
  rcases open_ints Tryd.underlying27 Tryd.underlying5 cells5 h with ⟨hcs, _⟩ | ⟨a, len, cap, zs, hcs, _, hl, hm, hz, hbig, hc, hw⟩
  · simp at hcs
    subst hcs
    exact ⟨[], BytesAt.nil _ _ _, (fun x hx => by cases hx), by decide⟩
  · simp at hcs
    subst hcs
    simp only [if_true] at hz
    have hlen : (zs.take len).length = len := by simp; omega
    refine ⟨zs.take len, ⟨some a, cap, by rw [hlen], fun i x hx => ?_⟩, fun n hn => bounds_of_u8 (hw n (List.mem_of_mem_take hn)), ?_⟩
    · have hi : i < len := by
        have := (List.getElem?_eq_some_iff.1 hx).1
        omega
      rw [List.getElem?_take_of_lt hi] at hx
      have h0 := hc i (by omega)
      obtain ⟨b, off, spot⟩ := a
      have hspot : spot = none := by simpa [Addr.add] using World.cell?_spot (hc 0 (by omega))
      subst hspot
      refine ⟨b, off, rfl, ?_⟩
      rw [← add_plain, h0]
      simp [List.getD, hx]
    · rw [hlen]
      have : maxLen = 9223372036854775807 := rfl
      omega
theorem page_of {base : Nat} {v : Value} {d : DataW H} {p : List MemPlace} (hv : Value.okWide Tryd.prog W .any base 26 v) (h : DataW.Trod enc Tryd.prog W 0 (fun _ => true) true 26 v d p) : ∃ s : List Int, v = .agg (u8s s).toArray ∧ Pg s := by
  simp only [Value.okWide, Tryd.underlying26] at hv
  obtain ⟨cs, rfl, hsz, _⟩ := hv
  obtain ⟨fuel, hf⟩ := h
  obtain ⟨l, e, hl, hw⟩ := ints_of Tryd.underlying26 Tryd.underlying5 cells5 cells26 hf
  simp only [Value.cells] at e
  refine ⟨l, ?_, ⟨hl, fun x hx => bounds_of_u8 (hw x hx)⟩⟩
  rw [show u8s l = cs.toList from e.symm]
theorem block_cells {fuel : Nat} {l : List Value} {y : DataW H × List MemPlace} (hf : DataW.trod enc Tryd.prog W 0 (fun _ => true) true fuel 30 l = some y) : ∃ (b : Bk) (sv : Value), l = b.cells sv ∧ b.Wf ∧ BytesAt W sv b.bytes := by
  obtain ⟨xs, n, _, _, hl, hxs, hel⟩ := DataW.trod_struct Tryd.underlying30 hf
  rw [cells30] at hl
  have hx7 : xs.length = 7 := hxs
  obtain ⟨y0, g0⟩ : ∃ y, DataW.trod enc Tryd.prog W 0 (fun _ => true) true n 3 ((l.drop 0).take (Tryd.prog.cellsOf 3)) = some y := ⟨xs[0], (hel 0 _ rfl).trans (List.getElem?_eq_getElem (by omega))⟩
  obtain ⟨y1, g1⟩ : ∃ y, DataW.trod enc Tryd.prog W 0 (fun _ => true) true n 3 ((l.drop 1).take (Tryd.prog.cellsOf 3)) = some y := ⟨xs[1], (hel 1 _ rfl).trans (List.getElem?_eq_getElem (by omega))⟩
  obtain ⟨y2, g2⟩ : ∃ y, DataW.trod enc Tryd.prog W 0 (fun _ => true) true n 26 ((l.drop 2).take (Tryd.prog.cellsOf 26)) = some y := ⟨xs[2], (hel 2 _ rfl).trans (List.getElem?_eq_getElem (by omega))⟩
  obtain ⟨y3, g3⟩ : ∃ y, DataW.trod enc Tryd.prog W 0 (fun _ => true) true n 3 ((l.drop 34).take (Tryd.prog.cellsOf 3)) = some y := ⟨xs[3], (hel 3 _ rfl).trans (List.getElem?_eq_getElem (by omega))⟩
  obtain ⟨y4, g4⟩ : ∃ y, DataW.trod enc Tryd.prog W 0 (fun _ => true) true n 27 ((l.drop 35).take (Tryd.prog.cellsOf 27)) = some y := ⟨xs[4], (hel 4 _ rfl).trans (List.getElem?_eq_getElem (by omega))⟩
  obtain ⟨y5, g5⟩ : ∃ y, DataW.trod enc Tryd.prog W 0 (fun _ => true) true n 3 ((l.drop 36).take (Tryd.prog.cellsOf 3)) = some y := ⟨xs[5], (hel 5 _ rfl).trans (List.getElem?_eq_getElem (by omega))⟩
  obtain ⟨y6, g6⟩ : ∃ y, DataW.trod enc Tryd.prog W 0 (fun _ => true) true n 28 ((l.drop 37).take (Tryd.prog.cellsOf 28)) = some y := ⟨xs[6], (hel 6 _ rfl).trans (List.getElem?_eq_getElem (by omega))⟩
  clear hel hf hxs
  rw [cells3] at g0 g1 g3 g5
  rw [cells27] at g4
  rw [cells26] at g2
  rw [cells28] at g6
  obtain ⟨k, e0, _, w0⟩ := DataW.trod_int Tryd.underlying3 g0
  obtain ⟨i, e1, _, w1⟩ := DataW.trod_int Tryd.underlying3 g1
  obtain ⟨pg, e2, l2, w2⟩ := ints_of Tryd.underlying26 Tryd.underlying5 cells5 cells26 g2
  obtain ⟨o, e3, _, w3⟩ := DataW.trod_int Tryd.underlying3 g3
  obtain ⟨sv, e4⟩ : ∃ v, (l.drop 35).take 1 = [v] := ⟨l[35], by rw [List.drop_eq_getElem_cons (by omega)]; rfl⟩
  rw [e4] at g4
  obtain ⟨by_, hby, w4, n4⟩ := bytes_of g4
  obtain ⟨pv, e5, _, w5⟩ := DataW.trod_int Tryd.underlying3 g5
  obtain ⟨hd, e6, l6, w6⟩ := ints_of Tryd.underlying28 Tryd.underlying3 cells3 cells28 g6
  refine ⟨⟨k, i, pg, o, by_, pv, hd⟩, sv, ?_, ⟨bounds_of_i64 w0, bounds_of_i64 w1, bounds_of_i64 w3, bounds_of_i64 w5, l2, fun x hx => bounds_of_u8 (w2 x hx), n4, w4, l6, fun x hx => bounds_of_i64 (w6 x hx)⟩, hby⟩
  have hcut : l = (l.drop 0).take 1 ++ ((l.drop 1).take 1 ++ ((l.drop 2).take 32 ++ ((l.drop 34).take 1 ++ ((l.drop 35).take 1 ++ ((l.drop 36).take 1 ++ (l.drop 37).take 8))))) := by
    have h7 : (l.drop 37).take 8 = l.drop 37 := List.take_of_length_le (by simp; omega)
    rw [h7]
    have st : ∀ (a c : Nat), (l.drop a).take c ++ l.drop (a + c) = l.drop a := fun a c => by rw [← List.drop_drop, List.take_append_drop]
    rw [st 36 1, st 35 1, st 34 1, st 2 32, st 1 1, st 0 1]
    rfl
  rw [hcut, e0, e1, e2, e3, e4, e5, e6]
  rfl

/-- A slice of blocks, opened. -/
theorem blocks_of {base : Nat} {v : Value} {d : DataW H} {p : List MemPlace} (hv : Value.okWide Tryd.prog W .any base 22 v) (h : DataW.Trod enc Tryd.prog W 0 (fun _ => true) true 22 v d p) : ∃ l : List (Bk × Value), BlksAt W v l ∧ l.length ≤ 9223372036854775807 := by
  obtain ⟨a0, len0, cap0, rfl⟩ := okWide_slice Tryd.underlying22 hv
  obtain ⟨fuel, hf⟩ := h
  rcases open_slice Tryd.underlying22 hf with ⟨hcs, _⟩ | ⟨a, len, cap, m, n, D, Pl, hcs, _, hl, hm, hmm, hbig, hi⟩
  · simp [Value.cells] at hcs
    obtain ⟨rfl, rfl, rfl⟩ := hcs
    exact ⟨[], BlksAt.nil _ _ _, Nat.zero_le _⟩
  · simp [Value.cells] at hcs
    obtain ⟨rfl, rfl, rfl⟩ := hcs
    simp only [if_true] at hmm
    subst hmm
    have each : ∀ i, i < len0 → ∃ x : Bk × Value, x.1.Wf ∧ BytesAt W x.2 x.1.bytes ∧ ∃ b o, a = ⟨b, o, none⟩ ∧ At W b (o + i * 45) (x.1.arr x.2) := fun i hil => by
      obtain ⟨cs', hc, ht⟩ := hi i (by omega)
      rw [cells30] at hc
      obtain ⟨_, hlen, hat⟩ := World.cells?_some hc
      obtain ⟨b, sv, rfl, hw, hby⟩ := block_cells ht
      obtain ⟨g, o, spot⟩ := a
      have hspot : spot = none := by
        obtain ⟨cs0, hc0, _⟩ := hi 0 (by omega)
        rw [cells30] at hc0
        obtain ⟨_, hlen0, hat0⟩ := World.cells?_some hc0
        have k := hat0 0 (by decide)
        rw [List.getElem?_eq_getElem (by omega)] at k
        simpa [Addr.add] using World.cell?_spot k
      subst hspot
      refine ⟨(b, sv), hw, hby, g, o, rfl, fun j hj => ?_⟩
      have hj' : j < 45 := by simpa [Bk.arr_size hw] using hj
      have k := hat j hj'
      simp only [cells30, add_plain] at k
      rw [List.getElem?_eq_getElem (by rw [Bk.cells_length hw]; exact hj')] at k
      simpa [Bk.arr] using k
    obtain ⟨f, hfs⟩ : ∃ f : Nat → Bk × Value, ∀ i, i < len0 → (f i).1.Wf ∧ BytesAt W (f i).2 (f i).1.bytes ∧ ∃ b o, a = ⟨b, o, none⟩ ∧ At W b (o + i * 45) ((f i).1.arr (f i).2) :=
      ⟨fun i => if h : i < len0 then Classical.choose (each i h) else (Bk.none, .nilIface), fun i hil => by
        simp only [hil, dif_pos]
        exact Classical.choose_spec (each i hil)⟩
    refine ⟨(List.range len0).map f, ⟨some a, m, by simp, fun i x hx => ?_⟩, ?_⟩
    · have hil : i < len0 := by
        have := (List.getElem?_eq_some_iff.1 hx).1
        simpa using this
      have : x = f i := by
        rw [List.getElem?_map, List.getElem?_range hil] at hx
        exact (Option.some.inj hx).symm
      subst this
      obtain ⟨h1, h2, b, o, h3, h4⟩ := hfs i hil
      exact ⟨h1, h2, b, o, by rw [h3], h4⟩
    · have : maxLen = 9223372036854775807 := rfl
      simp
      omega
/-- Bytes as an argument. -/
theorem bytes_arg {v : Value} {base : Nat} {d : DataW H} {p : List MemPlace} (hv : Value.okWide Tryd.prog W .any base 27 v) (h : DataW.Trod enc Tryd.prog W 0 (fun _ => true) true 27 v d p) : ∃ l, BytesAt W v l ∧ (∀ x ∈ l, Byte x) ∧ l.length ≤ 9223372036854775807 := by
  obtain ⟨a0, len0, cap0, rfl⟩ := okWide_slice Tryd.underlying27 hv
  obtain ⟨fuel, hf⟩ := h
  exact bytes_of hf
/-- Two blocks as one array. -/
theorem pair_of {base : Nat} {v : Value} {d : DataW H} {p : List MemPlace} (hv : Value.okWide Tryd.prog W .any base 40 v) (h : DataW.Trod enc Tryd.prog W 0 (fun _ => true) true 40 v d p) : ∃ (b c : Bk) (bv cv : Value), v = .agg (b.cells bv ++ c.cells cv).toArray ∧ b.Wf ∧ c.Wf ∧ BytesAt W bv b.bytes ∧ BytesAt W cv c.bytes := by
  simp only [Value.okWide, Tryd.underlying40] at hv
  obtain ⟨⟨l⟩, rfl, hsz, _⟩ := hv
  obtain ⟨fuel, hf⟩ := h
  obtain ⟨xs, m, _, _, hl, hxs, hel⟩ := DataW.trod_array Tryd.underlying40 hf
  simp only [Value.cells] at hl hel
  rw [cells40] at hl
  have e0 := hel 0 (by omega)
  have e1 := hel 1 (by omega)
  rw [cells30, List.getElem?_eq_getElem (by omega)] at e0 e1
  obtain ⟨b, bv, hb, b1, b2⟩ := block_cells e0
  obtain ⟨c, cv, hc, c1, c2⟩ := block_cells e1
  refine ⟨b, c, bv, cv, ?_, b1, c1, b2, c2⟩
  rw [← hb, ← hc]
  congr 1
  have h7 : (l.drop (1 * 45)).take 45 = l.drop 45 := List.take_of_length_le (by simp; omega)
  rw [h7, Nat.zero_mul, List.drop_zero, List.take_append_drop]
end
end Go.Proofs.YtjejodgjakjeiaaDoor
