/- What the statements share: their arguments, opened; what was there reads as it did. -/
import Derived.Test.YtfhpmhigfhnbaaaRows
import Derived.Test.YtfhpmhigfhnbaaaDec
import Derived.ProofKit
import Derived.OpenShut
import Derived.Lib.SmallJoins
import Derived.Deep.Fields
import Derived.Deep.Slices
namespace Go.Proofs.Ytfhpmhigfhnbaaa
open Go.ChangeShapes Go.WideShapes Go.ChangeAt Go.RowKit Go.Deep Go.Joins
set_option linter.unusedSimpArgs false
set_option linter.unusedVariables false

theorem own : ownKnob Try.prog.godebug = none := by kernel_rfl
theorem laidOut : laidOutB Try.prog = true := by kernel_rfl
theorem cells3 : Try.prog.cellsOf 3 = 1 := by kernel_rfl
theorem cells4 : Try.prog.cellsOf 4 = 1 := by kernel_rfl
theorem cells5 : Try.prog.cellsOf 5 = 1 := by kernel_rfl
theorem cells22 : Try.prog.cellsOf 22 = 1 := by kernel_rfl
theorem cells23 : Try.prog.cellsOf 23 = 1 := by kernel_rfl
theorem cells25 : Try.prog.cellsOf 25 = 3 := by kernel_rfl
theorem cells27 : Try.prog.cellsOf 27 = 64 := by kernel_rfl
theorem cells47 : Try.prog.cellsOf 47 = 2 := by kernel_rfl

theorem below_trodAll {H : Type} {enc : TypeId × Value → H} {W W' : World} (hb : Below W.heap.size W W') : ∀ {ts : List TypeId} {vs : List Value} {ds : List (DataW H)} {ps : List MemPlace},
    (∀ t ∈ ts, Try.prog.readableRec t = true ∧ t < Try.prog.types.size) → DataW.TrodAll enc Try.prog W 0 (fun _ => true) true ts vs ds ps → (∀ x ∈ ps, x.block < W.heap.size) →
    DataW.TrodAll enc Try.prog W' 0 (fun b => decide (b < W.heap.size)) true ts vs ds ps
  | [], _, _, _, _, h, _ => by
    obtain ⟨rfl, rfl, rfl⟩ := trodAll_nil h
    exact trodAll_mk0
  | t :: ts, _, _, _, hr, h, hlt => by
    obtain ⟨v, vs, d, ds, p, q, rfl, rfl, rfl, h0, h1⟩ := trodAll_cons h
    refine trodAll_cons_mk (Below.trod laidOut (hr t (by simp)).1 (hr t (by simp)).2 h0 hb fun x hx => hlt x (by simp [hx])) (below_trodAll hb (fun u hu => hr u (by simp [hu])) h1 fun x hx => hlt x (by simp [hx]))
theorem readable : ([25, 27, 47, 5].all fun t => Try.prog.readableRec t && decide (t < Try.prog.types.size)) = true := by kernel_rfl
theorem readable_of {ts : List TypeId} (h : ∀ t ∈ ts, t ∈ [25, 27, 47, 5]) : ∀ t ∈ ts, Try.prog.readableRec t = true ∧ t < Try.prog.types.size := fun t ht => by
  have := List.all_eq_true.1 readable t (h t ht)
  simpa using this
theorem bounds_of_i64 {n : Int} (h : (Lit.int .i64 n).wf = true) : Small n := by
  have := bounds_i64 h
  exact ⟨this.1, by omega⟩
theorem bounds_of_u8 {n : Int} (h : (Lit.int .u8 n).wf = true) : Byte n := by
  have := bounds_u8 h
  exact ⟨this.1, by omega⟩
theorem bounds_of_u32 {n : Int} (h : (Lit.int .u32 n).wf = true) : 0 ≤ n ∧ n < 4294967296 := by
  have := bounds_u32 h
  exact ⟨this.1, by omega⟩

theorem list_ints {k : IntKind} : ∀ {cs : List Value}, (∀ c ∈ cs, ∃ z, c = .int k z ∧ (Lit.int k z).wf = true) → ∃ l : List Int, cs = l.map (Value.int k) ∧ ∀ y ∈ l, (Lit.int k y).wf = true
  | [], _ => ⟨[], rfl, fun y hy => by cases hy⟩
  | c :: cs, h => by
    obtain ⟨z, rfl, hw⟩ := h c (by simp)
    obtain ⟨l, rfl, hl⟩ := list_ints (k := k) (cs := cs) fun c hc => h c (List.mem_cons_of_mem _ hc)
    exact ⟨z :: l, rfl, fun y hy => by
      rcases List.mem_cons.1 hy with rfl | hy
      · exact hw
      · exact hl y hy⟩
section
variable {H : Type} {enc : TypeId × Value → H} {W : World}
/-- An array of numbers, opened. -/
theorem ints_of {fuel n : Nat} {t e : TypeId} {k : IntKind} {cs : List Value} {x : DataW H × List MemPlace} (ht : Try.prog.underlying t = some (.array n e)) (he : Try.prog.underlying e = some (.int k)) (hc : Try.prog.cellsOf e = 1) (hn : Try.prog.cellsOf t = n)
    (h : DataW.trod enc Try.prog W 0 (fun _ => true) true fuel t cs = some x) : ∃ l : List Int, cs = l.map (Value.int k) ∧ l.length = n ∧ ∀ y ∈ l, (Lit.int k y).wf = true := by
  obtain ⟨xs, m, _, _, hl, hxs, hel⟩ := DataW.trod_array ht h
  rw [hn] at hl
  obtain ⟨l, rfl, hw⟩ := list_ints (k := k) (cs := cs) fun c hcs => by
    obtain ⟨i, hi, rfl⟩ := List.getElem_of_mem hcs
    have hE := hel i (by omega)
    rw [hc, Nat.mul_one, List.getElem?_eq_getElem (by omega)] at hE
    obtain ⟨z, e1, _, hw⟩ := DataW.trod_int he hE
    rw [show (cs.drop i).take 1 = [cs[i]] from by rw [List.drop_eq_getElem_cons hi]; rfl] at e1
    exact ⟨z, by simpa using e1, hw⟩
  exact ⟨l, rfl, by simpa using hl, hw⟩
theorem sector_of {base : Nat} {v : Value} {d : DataW H} {p : List MemPlace} (hv : Value.okWide Try.prog W .any base 27 v) (h : DataW.Trod enc Try.prog W 0 (fun _ => true) true 27 v d p) : ∃ s : List Int, v = .agg (u8s s).toArray ∧ Sc s := by
  simp only [Value.okWide, Try.underlying27] at hv
  obtain ⟨cs, rfl, hsz, _⟩ := hv
  obtain ⟨fuel, hf⟩ := h
  obtain ⟨l, e, hl, hw⟩ := ints_of Try.underlying27 Try.underlying5 cells5 cells27 hf
  simp only [Value.cells] at e
  refine ⟨l, ?_, hl, fun x hx => bounds_of_u8 (hw x hx)⟩
  rw [show u8s l = cs.toList from e.symm]
theorem mark_cells {fuel : Nat} {cs : List Value} {y : DataW H × List MemPlace} (h : DataW.trod enc Try.prog W 0 (fun _ => true) true fuel 47 cs = some y) : ∃ m : Mk, cs = [.int .i64 m.1, .int .i64 m.2] ∧ Small m.1 ∧ Small m.2 := by
  obtain ⟨xs, n, _, _, hl, hxs, hel⟩ := DataW.trod_struct Try.underlying47 h
  rw [cells47] at hl
  have hx2 : xs.length = 2 := hxs
  obtain ⟨y0, g0⟩ : ∃ y, DataW.trod enc Try.prog W 0 (fun _ => true) true n 3 ((cs.drop 0).take (Try.prog.cellsOf 3)) = some y := ⟨xs[0], (hel 0 _ rfl).trans (List.getElem?_eq_getElem (by omega))⟩
  obtain ⟨y1, g1⟩ : ∃ y, DataW.trod enc Try.prog W 0 (fun _ => true) true n 3 ((cs.drop 1).take (Try.prog.cellsOf 3)) = some y := ⟨xs[1], (hel 1 _ rfl).trans (List.getElem?_eq_getElem (by omega))⟩
  rw [cells3] at g0 g1
  obtain ⟨a0, e0, _, w0⟩ := DataW.trod_int Try.underlying3 g0
  obtain ⟨a1, e1, _, w1⟩ := DataW.trod_int Try.underlying3 g1
  match cs, hl with
  | [c0, c1], _ =>
    simp at e0 e1
    subst e0
    subst e1
    exact ⟨(a0, a1), rfl, bounds_of_i64 w0, bounds_of_i64 w1⟩
theorem mark_of {base : Nat} {v : Value} {d : DataW H} {p : List MemPlace} (hv : Value.okWide Try.prog W .any base 47 v) (h : DataW.Trod enc Try.prog W 0 (fun _ => true) true 47 v d p) : ∃ m : Mk, v = .agg #[.int .i64 m.1, .int .i64 m.2] ∧ Small m.1 ∧ Small m.2 := by
  simp only [Value.okWide, Try.underlying47] at hv
  obtain ⟨⟨l⟩, rfl, hsz, _⟩ := hv
  obtain ⟨fuel, hf⟩ := h
  simp only [Value.cells] at hf
  obtain ⟨m, e, h1, h2⟩ := mark_cells hf
  exact ⟨m, by rw [e], h1, h2⟩
theorem marks_of {fuel : Nat} {v : Value} {y : DataW H × List MemPlace} (hf : DataW.trod enc Try.prog W 0 (fun _ => true) true fuel 23 [v] = some y) : ∃ l, MarksAt W v l ∧ ∀ m ∈ l, Small m.1 ∧ Small m.2 := by
  rcases open_slice Try.underlying23 hf with ⟨hcs, _⟩ | ⟨a, len, cap, m, n, D, Pl, hcs, _, hl, hm, hmm, _, hi⟩
  · simp at hcs
    subst hcs
    exact ⟨[], MarksAt.nil _ _ _, fun m hm => by cases hm⟩
  · simp at hcs
    subst hcs
    simp only [if_true] at hmm
    subst hmm
    have each : ∀ i, i < len → ∃ x : Mk, (Small x.1 ∧ Small x.2) ∧ ∃ b o, a = ⟨b, o, none⟩ ∧ W.cell? ⟨b, o + i * 2, none⟩ = some (.int .i64 x.1) ∧ W.cell? ⟨b, o + i * 2 + 1, none⟩ = some (.int .i64 x.2) := fun i hil => by
      obtain ⟨cs', hc, ht⟩ := hi i (by omega)
      rw [cells47] at hc
      obtain ⟨_, hlen, hat⟩ := World.cells?_some hc
      obtain ⟨x, rfl, hs1, hs2⟩ := mark_cells ht
      obtain ⟨b, o, spot⟩ := a
      have k0 := hat 0 (by decide)
      have k1 := hat 1 (by decide)
      have hspot : spot = none := by
        obtain ⟨cs0, hc0, _⟩ := hi 0 (by omega)
        rw [cells47] at hc0
        obtain ⟨_, hlen0, hat0⟩ := World.cells?_some hc0
        have k := hat0 0 (by decide)
        rw [List.getElem?_eq_getElem (by omega)] at k
        simpa [Addr.add] using World.cell?_spot k
      subst hspot
      simp only [cells47, add_plain, Nat.add_zero] at k0 k1
      exact ⟨x, ⟨hs1, hs2⟩, b, o, rfl, k0, k1⟩
    obtain ⟨f, hfs⟩ : ∃ f : Nat → Mk, ∀ i, i < len → (Small (f i).1 ∧ Small (f i).2) ∧ ∃ b o, a = ⟨b, o, none⟩ ∧ W.cell? ⟨b, o + i * 2, none⟩ = some (.int .i64 (f i).1) ∧ W.cell? ⟨b, o + i * 2 + 1, none⟩ = some (.int .i64 (f i).2) :=
      ⟨fun i => if h : i < len then Classical.choose (each i h) else (0, 0), fun i hil => by
        simp only [hil, dif_pos]
        exact Classical.choose_spec (each i hil)⟩
    refine ⟨(List.range len).map f, ⟨some a, m, by simp, fun i x hx => ?_⟩, fun x hx => ?_⟩
    · have hil : i < len := by
        have := (List.getElem?_eq_some_iff.1 hx).1
        simpa using this
      simp [hil] at hx
      subst hx
      obtain ⟨_, b, o, rfl, k0, k1⟩ := hfs i hil
      exact ⟨b, o, rfl, k0, k1⟩
    · obtain ⟨i, hi', rfl⟩ := List.mem_map.1 hx
      exact (hfs i (by simpa using hi')).1
theorem summary_of {base : Nat} {v : Value} {d : DataW H} {p : List MemPlace} (hv : Value.okWide Try.prog W .any base 25 v) (h : DataW.Trod enc Try.prog W 0 (fun _ => true) true 25 v d p) : ∃ (s : Sm) (sv : Value), v = .agg #[.int .u32 s.seq, .bool s.more, sv] ∧ s.Wf ∧ MarksAt W sv s.marks := by
  simp only [Value.okWide, Try.underlying25] at hv
  obtain ⟨⟨l⟩, rfl, hsz, _⟩ := hv
  obtain ⟨fuel, hf⟩ := h
  obtain ⟨xs, n, _, _, hl, hxs, hel⟩ := DataW.trod_struct Try.underlying25 hf
  simp only [Value.cells] at hl hel
  rw [cells25] at hl
  have hx3 : xs.length = 3 := hxs
  obtain ⟨y0, g0⟩ : ∃ y, DataW.trod enc Try.prog W 0 (fun _ => true) true n 22 ((l.drop 0).take (Try.prog.cellsOf 22)) = some y := ⟨xs[0], (hel 0 _ rfl).trans (List.getElem?_eq_getElem (by omega))⟩
  obtain ⟨y1, g1⟩ : ∃ y, DataW.trod enc Try.prog W 0 (fun _ => true) true n 4 ((l.drop 1).take (Try.prog.cellsOf 4)) = some y := ⟨xs[1], (hel 1 _ rfl).trans (List.getElem?_eq_getElem (by omega))⟩
  obtain ⟨y2, g2⟩ : ∃ y, DataW.trod enc Try.prog W 0 (fun _ => true) true n 23 ((l.drop 2).take (Try.prog.cellsOf 23)) = some y := ⟨xs[2], (hel 2 _ rfl).trans (List.getElem?_eq_getElem (by omega))⟩
  rw [cells22] at g0
  rw [cells4] at g1
  rw [cells23] at g2
  match l, hl with
  | [c0, c1, c2], _ =>
    obtain ⟨q, e0, _, w0⟩ := DataW.trod_int Try.underlying22 g0
    obtain ⟨b, e1, _⟩ := DataW.trod_bool Try.underlying4 g1
    simp at e0 e1
    subst e0
    subst e1
    obtain ⟨ms, hm, hs⟩ := marks_of (v := c2) (by simpa using g2)
    exact ⟨⟨q, b, ms⟩, c2, rfl, ⟨bounds_of_u32 w0, hs⟩, hm⟩
end
end Go.Proofs.Ytfhpmhigfhnbaaa
