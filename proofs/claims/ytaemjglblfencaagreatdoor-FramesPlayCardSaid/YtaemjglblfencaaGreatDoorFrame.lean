/- What the statements share: the listed variable's cell out of the row's condition, a memory that meets it; the arguments, opened. -/
import Derived.Test.YtaemjglblfencaaGreatDoorRows
import Derived.Test.YtaemjglblfencaaGreatDoorSt
import Derived.ProofKit
import Derived.LaidMore
import Derived.LaidHandle
import Derived.OpenShut
import Derived.Stop.Joined
import Derived.SliceStrings
import Derived.Lib.LaidTab
import Derived.Stop.LaidErr
import Derived.Lib.SmallJoins
import Derived.Deep.Fields
import Derived.Deep.Slices
namespace Go.Proofs.YtaemjglblfencaaGreatDoor
set_option linter.unusedSimpArgs false
set_option linter.unusedVariables false
set_option maxRecDepth 100000
open Go.ChangeShapes Go.WideShapes Go.ChangeAt Go.RowKit Go.Deep Go.Joins

abbrev L1 : List (String × DataW Unit) := [("errors.errorType", Rows.laid_errors_errorType)]
theorem own : ownKnob Tryz.prog.godebug = none := by kernel_rfl
theorem laidOut : laidOutB Tryz.prog = true := by kernel_rfl
theorem gE : Tryz.prog.globalNamed "errors.errorType" = some 0 := by kernel_rfl
theorem rtype : (Tryz.prog.cutTypes.find? (·.1 == "internal/reflectlite.rtype")).map (·.2) = some 154 := by kernel_rfl
theorem oneRow : ((List.range 195).filter fun t => Tryz.prog.rowNamed t [101, 114, 114, 111, 114]) = [103] := by kernel_rfl
theorem types_size : Tryz.prog.types.size = 195 := by kernel_rfl
theorem cells3 : Tryz.prog.cellsOf 3 = 1 := by kernel_rfl
theorem cells5 : Tryz.prog.cellsOf 5 = 1 := by kernel_rfl
theorem cellsB : Tryz.prog.cellsOf 34 = 1 := by kernel_rfl
theorem cellsS : Tryz.prog.cellsOf 36 = 6 := by kernel_rfl
theorem handleE : typeHandle Tryz.prog 103 = .pointer (some ⟨1, 103, none⟩) := by kernel_rfl
theorem errVar_of_laid {W : World} (h : laidMetH Tryz.prog L1 W) : ErrVar W := by
  have h' : laidMet Tryz.prog [] W ∧ handlesMet Tryz.prog [("errors.errorType", Rows.laid_errors_errorType)] W := h
  obtain ⟨name, u, ty, e1, e2, e3, e4, e5⟩ := h'.2 _ (List.mem_singleton.2 rfl)
  have en : name = [101, 114, 114, 111, 114] := (Option.some.inj e1).symm
  subst en
  obtain rfl := Option.some.inj (rtype.symm.trans e2)
  have hm : ty ∈ (List.range 195).filter fun t => Tryz.prog.rowNamed t [101, 114, 114, 111, 114] := List.mem_filter.2 ⟨List.mem_range.2 (by rw [← types_size]; exact e3), e4⟩
  rw [oneRow] at hm
  obtain rfl := List.mem_singleton.1 hm
  rw [handleE] at e5
  have := World.var?_cell gE e5 0
  simpa [ErrVar] using this
theorem door_met (os : Os) (args : Array Value) : laidMetH Tryz.prog L1 ((World.doorLaid Tryz.prog 400 os).forCall (fun _ _ => 0) ⟨#[], args, []⟩).memory :=
  laidMetH_of_parts3 (fuel := 8) (laidMet_of_run' 8 (by kernel_rfl) (by kernel_rfl)) (by kernel_rfl) (by kernel_rfl)

theorem below_trodAll {H : Type} {enc : TypeId × Value → H} {W W' : World} (hb : Below W.heap.size W W') : ∀ {ts : List TypeId} {vs : List Value} {ds : List (DataW H)} {ps : List MemPlace},
    (∀ t ∈ ts, Tryz.prog.readableRec t = true ∧ t < Tryz.prog.types.size) → DataW.TrodAll enc Tryz.prog W 0 (fun _ => true) true ts vs ds ps → (∀ x ∈ ps, x.block < W.heap.size) →
    DataW.TrodAll enc Tryz.prog W' 0 (fun b => decide (b < W.heap.size)) true ts vs ds ps
  | [], _, _, _, _, h, _ => by
    obtain ⟨rfl, rfl, rfl⟩ := trodAll_nil h
    exact trodAll_mk0
  | t :: ts, _, _, _, hr, h, hlt => by
    obtain ⟨v, vs, d, ds, p, q, rfl, rfl, rfl, h0, h1⟩ := trodAll_cons h
    refine trodAll_cons_mk (Below.trod laidOut (hr t (by simp)).1 (hr t (by simp)).2 h0 hb fun x hx => hlt x (by simp [hx])) (below_trodAll hb (fun u hu => hr u (by simp [hu])) h1 fun x hx => hlt x (by simp [hx]))
theorem readable : ([22, 3].all fun t => Tryz.prog.readableRec t && decide (t < Tryz.prog.types.size)) = true := by kernel_rfl
theorem readable_of {ts : List TypeId} (h : ∀ t ∈ ts, t ∈ [22, 3]) : ∀ t ∈ ts, Tryz.prog.readableRec t = true ∧ t < Tryz.prog.types.size := fun t ht => by
  have := List.all_eq_true.1 readable t (h t ht)
  simpa using this
theorem bounds_of_i64 {n : Int} (h : (Lit.int .i64 n).wf = true) : Kl.Small n := by
  have := bounds_i64 h
  exact ⟨this.1, by omega⟩
theorem bounds_of_u8 {n : Int} (h : (Lit.int .u8 n).wf = true) : Byte n := by
  have := bounds_u8 h
  exact ⟨this.1, by omega⟩
theorem list_ints {k : IntKind} : ∀ {cs : List Value}, (∀ c ∈ cs, ∃ z, c = .int k z ∧ (Lit.int k z).wf = true) → ∃ l : List Int, cs = l.map (Value.int k) ∧ ∀ y ∈ l, (Lit.int k y).wf = true
  | [], _ => ⟨[], rfl, fun y hy => by cases hy⟩
  | c :: cs, h => by
    obtain ⟨z, rfl, hw⟩ := h c (by simp)
    obtain ⟨l, rfl, hl⟩ := list_ints (k := k) (cs := cs) fun c hc => h c (List.mem_cons_of_mem _ hc)
    exact ⟨z :: l, rfl, fun y hy => by
      rcases List.mem_cons.1 hy with rfl | hy
      · exact hw
      · exact hl y hy⟩
section
variable {H : Type} {enc : TypeId × Value → H} {W : World}
/-- An array of numbers, opened. -/
theorem ints_of {fuel n : Nat} {t e : TypeId} {k : IntKind} {cs : List Value} {x : DataW H × List MemPlace} (ht : Tryz.prog.underlying t = some (.array n e)) (he : Tryz.prog.underlying e = some (.int k)) (hc : Tryz.prog.cellsOf e = 1) (hn : Tryz.prog.cellsOf t = n)
    (h : DataW.trod enc Tryz.prog W 0 (fun _ => true) true fuel t cs = some x) : ∃ l : List Int, cs = l.map (Value.int k) ∧ l.length = n ∧ ∀ y ∈ l, (Lit.int k y).wf = true := by
  obtain ⟨xs, m, _, _, hl, hxs, hel⟩ := DataW.trod_array ht h
  rw [hn] at hl
  obtain ⟨l, rfl, hw⟩ := list_ints (k := k) (cs := cs) fun c hcs => by
    obtain ⟨i, hi, rfl⟩ := List.getElem_of_mem hcs
    have hE := hel i (by omega)
    rw [hc, Nat.mul_one, List.getElem?_eq_getElem (by omega)] at hE
    obtain ⟨z, e1, _, hw⟩ := DataW.trod_int he hE
    rw [show (cs.drop i).take 1 = [cs[i]] from by rw [List.drop_eq_getElem_cons hi]; rfl] at e1
    exact ⟨z, by simpa using e1, hw⟩
  exact ⟨l, rfl, by simpa using hl, hw⟩

theorem bytes_of {n : Nat} {v : Value} {y : DataW H × List MemPlace} (h : DataW.trod enc Tryz.prog W 0 (fun _ => true) true n 34 [v] = some y) : ∃ l, BytesAt W v l ∧ (∀ x ∈ l, Byte x) ∧ l.length ≤ 9223372036854775807 := by
  rcases open_ints Tryz.underlying34 Tryz.underlying5 cells5 h with ⟨hcs, _⟩ | ⟨a, len, cap, zs, hcs, _, hl, hm, hz, hbig, hc, hw⟩
  · simp at hcs
    subst hcs
    exact ⟨[], BytesAt.nil _ _ _, (fun x hx => by cases hx), by decide⟩
  · simp at hcs
    subst hcs
    simp only [if_true] at hz
    have hlen : (zs.take len).length = len := by simp; omega
    refine ⟨zs.take len, ⟨some a, cap, by rw [hlen], fun i x hx => ?_⟩, fun n hn => bounds_of_u8 (hw n (List.mem_of_mem_take hn)), ?_⟩
    · have hi : i < len := by
        have := (List.getElem?_eq_some_iff.1 hx).1
        omega
      rw [List.getElem?_take_of_lt hi] at hx
      have h0 := hc i (by omega)
      obtain ⟨b, off, spot⟩ := a
      have hspot : spot = none := by simpa [Addr.add] using World.cell?_spot (hc 0 (by omega))
      subst hspot
      refine ⟨b, off, rfl, ?_⟩
      rw [← add_plain, h0]
      simp [List.getD, hx]
    · rw [hlen]
      have : maxLen = 9223372036854775807 := rfl
      omega
theorem step_cells {fuel : Nat} {l : List Value} {y : DataW H × List MemPlace} (hf : DataW.trod enc Tryz.prog W 0 (fun _ => true) true fuel 36 l = some y) : ∃ (x : Stp) (dv : Value), l = [.int .i64 x.kind, .int .i64 x.frame, .int .i64 x.key, .int .i64 x.off, .int .u8 x.v, dv] ∧ x.Wf ∧ BytesAt W dv x.data := by
  obtain ⟨xs, n, _, _, hl, hxs, hel⟩ := DataW.trod_struct Tryz.underlying36 hf
  rw [cellsS] at hl
  have hx2 : xs.length = 6 := hxs
  obtain ⟨y0, g0⟩ : ∃ y, DataW.trod enc Tryz.prog W 0 (fun _ => true) true n 3 ((l.drop 0).take (Tryz.prog.cellsOf 3)) = some y := ⟨xs[0], (hel 0 _ rfl).trans (List.getElem?_eq_getElem (by omega))⟩
  obtain ⟨y1, g1⟩ : ∃ y, DataW.trod enc Tryz.prog W 0 (fun _ => true) true n 3 ((l.drop 1).take (Tryz.prog.cellsOf 3)) = some y := ⟨xs[1], (hel 1 _ rfl).trans (List.getElem?_eq_getElem (by omega))⟩
  obtain ⟨y2, g2⟩ : ∃ y, DataW.trod enc Tryz.prog W 0 (fun _ => true) true n 3 ((l.drop 2).take (Tryz.prog.cellsOf 3)) = some y := ⟨xs[2], (hel 2 _ rfl).trans (List.getElem?_eq_getElem (by omega))⟩
  obtain ⟨y3, g3⟩ : ∃ y, DataW.trod enc Tryz.prog W 0 (fun _ => true) true n 3 ((l.drop 3).take (Tryz.prog.cellsOf 3)) = some y := ⟨xs[3], (hel 3 _ rfl).trans (List.getElem?_eq_getElem (by omega))⟩
  obtain ⟨y4, g4⟩ : ∃ y, DataW.trod enc Tryz.prog W 0 (fun _ => true) true n 5 ((l.drop 4).take (Tryz.prog.cellsOf 5)) = some y := ⟨xs[4], (hel 4 _ rfl).trans (List.getElem?_eq_getElem (by omega))⟩
  obtain ⟨y5, g5⟩ : ∃ y, DataW.trod enc Tryz.prog W 0 (fun _ => true) true n 34 ((l.drop 5).take (Tryz.prog.cellsOf 34)) = some y := ⟨xs[5], (hel 5 _ rfl).trans (List.getElem?_eq_getElem (by omega))⟩
  clear hel hf hxs
  rw [cells3] at g0 g1 g2 g3
  rw [cells5] at g4
  rw [cellsB] at g5
  match l, hl with
  | [c0, c1, c2, c3, c4, c5], _ =>
    obtain ⟨a0, e0, _, w0⟩ := DataW.trod_int Tryz.underlying3 g0
    obtain ⟨a1, e1, _, w1⟩ := DataW.trod_int Tryz.underlying3 g1
    obtain ⟨a2, e2, _, w2⟩ := DataW.trod_int Tryz.underlying3 g2
    obtain ⟨a3, e3, _, w3⟩ := DataW.trod_int Tryz.underlying3 g3
    obtain ⟨a4, e4, _, w4⟩ := DataW.trod_int Tryz.underlying5 g4
    obtain ⟨d, hd, w5, _⟩ := bytes_of g5
    cases e0
    cases e1
    cases e2
    cases e3
    cases e4
    exact ⟨⟨a0, a1, a2, a3, a4, d⟩, c5, rfl, ⟨bounds_of_i64 w0, bounds_of_i64 w1, bounds_of_i64 w2, bounds_of_i64 w3, bounds_of_u8 w4, w5⟩, hd⟩
/-- A slice of steps, opened. -/
theorem steps_arg {base : Nat} {v : Value} {d : DataW H} {p : List MemPlace} (hv : Value.okWide Tryz.prog W .any base 22 v) (h : DataW.Trod enc Tryz.prog W 0 (fun _ => true) true 22 v d p) : ∃ l : List Stp, StepsAt W v l := by
  obtain ⟨a0, len0, cap0, rfl⟩ := okWide_slice Tryz.underlying22 hv
  obtain ⟨fuel, hf⟩ := h
  rcases open_slice Tryz.underlying22 hf with ⟨hcs, _⟩ | ⟨a, len, cap, m, n, D, Pl, hcs, _, hl, hm, hmm, hbig, hi⟩
  · simp [Value.cells] at hcs
    obtain ⟨rfl, rfl, rfl⟩ := hcs
    exact ⟨[], by decide, none, 0, rfl, fun i x hx => by simp at hx⟩
  · simp [Value.cells] at hcs
    obtain ⟨rfl, rfl, rfl⟩ := hcs
    simp only [if_true] at hmm
    subst hmm
    have hlong : len0 ≤ 9223372036854775807 := by
      have : maxLen = 9223372036854775807 := rfl
      omega
    have each : ∀ i, i < len0 → ∃ q : Stp × Value, q.1.Wf ∧ ∃ b o, a = ⟨b, o, none⟩ ∧ StpAt W b (o + i * 6) q.1 q.2 := fun i hil => by
      obtain ⟨cs', hc, ht⟩ := hi i (by omega)
      rw [cellsS] at hc
      obtain ⟨_, hlen, hat⟩ := World.cells?_some hc
      obtain ⟨x, dv, e, hw, hd⟩ := step_cells ht
      obtain ⟨g, o, spot⟩ := a
      have hspot : spot = none := by
        obtain ⟨cs0, hc0, _⟩ := hi 0 (by omega)
        rw [cellsS] at hc0
        obtain ⟨_, hlen0, hat0⟩ := World.cells?_some hc0
        have k := hat0 0 (by decide)
        rw [List.getElem?_eq_getElem (by omega)] at k
        simpa [Addr.add] using World.cell?_spot k
      subst hspot
      have k0 := hat 0 (by omega)
      have k1 := hat 1 (by omega)
      have k2 := hat 2 (by omega)
      have k3 := hat 3 (by omega)
      have k4 := hat 4 (by omega)
      have k5 := hat 5 (by omega)
      simp only [cellsS, add_plain, e, Nat.add_zero] at k0 k1 k2 k3 k4 k5
      exact ⟨(x, dv), hw, g, o, rfl, by simpa using k0, by simpa using k1, by simpa using k2, by simpa using k3, by simpa using k4, by simpa using k5, hd⟩
    obtain ⟨f, hfs⟩ : ∃ f : Nat → Stp × Value, ∀ i, i < len0 → (f i).1.Wf ∧ ∃ b o, a = ⟨b, o, none⟩ ∧ StpAt W b (o + i * 6) (f i).1 (f i).2 :=
      ⟨fun i => if h : i < len0 then Classical.choose (each i h) else (⟨0, 0, 0, 0, 0, []⟩, .nilIface), fun i hil => by
        simp only [hil, dif_pos]
        exact Classical.choose_spec (each i hil)⟩
    refine ⟨(List.range len0).map fun i => (f i).1, by simpa using hlong, some a, m, by simp, fun i x hx => ?_⟩
    have hil : i < len0 := by
      have := (List.getElem?_eq_some_iff.1 hx).1
      simpa using this
    have : x = (f i).1 := by
      rw [List.getElem?_map, List.getElem?_range hil] at hx
      exact (Option.some.inj hx).symm
    subst this
    obtain ⟨h1, b, o, h3, h4⟩ := hfs i hil
    exact ⟨h1, b, o, (f i).2, by rw [h3], h4⟩
theorem int_arg {base : Nat} {v : Value} {d : DataW H} {p : List MemPlace} (hv : Value.okWide Tryz.prog W .any base 3 v) (h : DataW.Trod enc Tryz.prog W 0 (fun _ => true) true 3 v d p) : ∃ n : Int, v = .int .i64 n ∧ Kl.Small n := by
  obtain ⟨m, rfl⟩ := okWide_int Tryz.underlying3 hv
  obtain ⟨fuel, hf⟩ := h
  obtain ⟨m2, e, _, w⟩ := DataW.trod_int Tryz.underlying3 hf
  have e2 : m = m2 := by simpa [Value.cells] using e
  subst e2
  exact ⟨m, rfl, bounds_of_i64 w⟩
end

end Go.Proofs.YtaemjglblfencaaGreatDoor
