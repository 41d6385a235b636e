/- What the statements share: their arguments, opened; what was there reads as it did. -/
import Derived.Test.YtdgciecnnpjeoaaRows
import Derived.Test.YtdgciecnnpjeoaaLay
import Derived.ProofKit
import Derived.OpenShut
import Derived.Lib.SmallJoins
import Derived.Deep.Fields
namespace Go.Proofs.Ytdgciecnnpjeoaa
open Go.ChangeShapes Go.WideShapes Go.ChangeAt Go.RowKit Go.Deep Go.Joins

theorem own : ownKnob Try.prog.godebug = none := by kernel_rfl
theorem laidOut : laidOutB Try.prog = true := by kernel_rfl
theorem cells3 : Try.prog.cellsOf 3 = 1 := by kernel_rfl
theorem cells5 : Try.prog.cellsOf 5 = 1 := by kernel_rfl
theorem cells23 : Try.prog.cellsOf 23 = 32 := by kernel_rfl
theorem cells24 : Try.prog.cellsOf 24 = 1 := by kernel_rfl
theorem cells25 : Try.prog.cellsOf 25 = 8 := by kernel_rfl
theorem cells27 : Try.prog.cellsOf 27 = 45 := by kernel_rfl
theorem cells28 : Try.prog.cellsOf 28 = 1 := by kernel_rfl
theorem cells30 : Try.prog.cellsOf 30 = 64 := by kernel_rfl
theorem cells46 : Try.prog.cellsOf 46 = 2 := by kernel_rfl

theorem below_trodAll {H : Type} {enc : TypeId × Value → H} {W W' : World} (hb : Below W.heap.size W W') : ∀ {ts : List TypeId} {vs : List Value} {ds : List (DataW H)} {ps : List MemPlace},
    (∀ t ∈ ts, Try.prog.readableRec t = true ∧ t < Try.prog.types.size) → DataW.TrodAll enc Try.prog W 0 (fun _ => true) true ts vs ds ps → (∀ x ∈ ps, x.block < W.heap.size) →
    DataW.TrodAll enc Try.prog W' 0 (fun b => decide (b < W.heap.size)) true ts vs ds ps
  | [], _, _, _, _, h, _ => by
    obtain ⟨rfl, rfl, rfl⟩ := trodAll_nil h
    exact trodAll_mk0
  | t :: ts, _, _, _, hr, h, hlt => by
    obtain ⟨v, vs, d, ds, p, q, rfl, rfl, rfl, h0, h1⟩ := trodAll_cons h
    refine trodAll_cons_mk (Below.trod laidOut (hr t (by simp)).1 (hr t (by simp)).2 h0 hb fun x hx => hlt x (by simp [hx])) (below_trodAll hb (fun u hu => hr u (by simp [hu])) h1 fun x hx => hlt x (by simp [hx]))
theorem readable : ([27, 28, 30, 46, 5].all fun t => Try.prog.readableRec t && decide (t < Try.prog.types.size)) = true := by kernel_rfl
theorem readable_of {ts : List TypeId} (h : ∀ t ∈ ts, t ∈ [27, 28, 30, 46, 5]) : ∀ t ∈ ts, Try.prog.readableRec t = true ∧ t < Try.prog.types.size := fun t ht => by
  have := List.all_eq_true.1 readable t (h t ht)
  simpa using this
theorem bounds_of_i64 {n : Int} (h : (Lit.int .i64 n).wf = true) : Small n := by
  have := bounds_i64 h
  exact ⟨this.1, by omega⟩
theorem bounds_of_u8 {n : Int} (h : (Lit.int .u8 n).wf = true) : Byte n := by
  have := bounds_u8 h
  exact ⟨this.1, by omega⟩
theorem bounds_of_u32 {n : Int} (h : (Lit.int .u32 n).wf = true) : 0 ≤ n ∧ n < 4294967296 := by
  have := bounds_u32 h
  exact ⟨this.1, by omega⟩

theorem list_ints {k : IntKind} : ∀ {cs : List Value}, (∀ c ∈ cs, ∃ z, c = .int k z ∧ (Lit.int k z).wf = true) → ∃ l : List Int, cs = l.map (Value.int k) ∧ ∀ y ∈ l, (Lit.int k y).wf = true
  | [], _ => ⟨[], rfl, fun y hy => by cases hy⟩
  | c :: cs, h => by
    obtain ⟨z, rfl, hw⟩ := h c (by simp)
    obtain ⟨l, rfl, hl⟩ := list_ints (k := k) (cs := cs) fun c hc => h c (List.mem_cons_of_mem _ hc)
    exact ⟨z :: l, rfl, fun y hy => by
      rcases List.mem_cons.1 hy with rfl | hy
      · exact hw
      · exact hl y hy⟩
section
variable {H : Type} {enc : TypeId × Value → H} {W : World}
/-- An array of numbers, opened. -/
theorem ints_of {fuel n : Nat} {t e : TypeId} {k : IntKind} {cs : List Value} {x : DataW H × List MemPlace} (ht : Try.prog.underlying t = some (.array n e)) (he : Try.prog.underlying e = some (.int k)) (hc : Try.prog.cellsOf e = 1) (hn : Try.prog.cellsOf t = n)
    (h : DataW.trod enc Try.prog W 0 (fun _ => true) true fuel t cs = some x) : ∃ l : List Int, cs = l.map (Value.int k) ∧ l.length = n ∧ ∀ y ∈ l, (Lit.int k y).wf = true := by
  obtain ⟨xs, m, _, _, hl, hxs, hel⟩ := DataW.trod_array ht h
  rw [hn] at hl
  obtain ⟨l, rfl, hw⟩ := list_ints (k := k) (cs := cs) fun c hcs => by
    obtain ⟨i, hi, rfl⟩ := List.getElem_of_mem hcs
    have hE := hel i (by omega)
    rw [hc, Nat.mul_one, List.getElem?_eq_getElem (by omega)] at hE
    obtain ⟨z, e1, _, hw⟩ := DataW.trod_int he hE
    rw [show (cs.drop i).take 1 = [cs[i]] from by rw [List.drop_eq_getElem_cons hi]; rfl] at e1
    exact ⟨z, by simpa using e1, hw⟩
  exact ⟨l, rfl, by simpa using hl, hw⟩
theorem bytes_of {n : Nat} {v : Value} {y : DataW H × List MemPlace} (h : DataW.trod enc Try.prog W 0 (fun _ => true) true n 24 [v] = some y) : ∃ l, BytesAt W v l ∧ (∀ x ∈ l, Byte x) ∧ l.length ≤ 9223372036854775807 := by
  rcases open_ints Try.underlying24 Try.underlying5 cells5 h with ⟨hcs, _⟩ | ⟨a, len, cap, zs, hcs, _, hl, hm, hz, hbig, hc, hw⟩
  · simp at hcs
    subst hcs
    exact ⟨[], BytesAt.nil _ _ _, (fun x hx => by cases hx), by decide⟩
  · simp at hcs
    subst hcs
    simp only [if_true] at hz
    have hlen : (zs.take len).length = len := by simp; omega
    refine ⟨zs.take len, ⟨some a, cap, by rw [hlen], fun i x hx => ?_⟩, fun n hn => bounds_of_u8 (hw n (List.mem_of_mem_take hn)), ?_⟩
    · have hi : i < len := by
        have := (List.getElem?_eq_some_iff.1 hx).1
        omega
      rw [List.getElem?_take_of_lt hi] at hx
      have h0 := hc i (by omega)
      obtain ⟨b, off, spot⟩ := a
      have hspot : spot = none := by simpa [Addr.add] using World.cell?_spot (hc 0 (by omega))
      subst hspot
      refine ⟨b, off, rfl, ?_⟩
      rw [← add_plain, h0]
      simp [List.getD, hx]
    · rw [hlen]
      have : maxLen = 9223372036854775807 := rfl
      omega
theorem sector_of {base : Nat} {v : Value} {d : DataW H} {p : List MemPlace} (hv : Value.okWide Try.prog W .any base 30 v) (h : DataW.Trod enc Try.prog W 0 (fun _ => true) true 30 v d p) : ∃ s : List Int, v = .agg (u8s s).toArray ∧ Sc s := by
  simp only [Value.okWide, Try.underlying30] at hv
  obtain ⟨cs, rfl, hsz, _⟩ := hv
  obtain ⟨fuel, hf⟩ := h
  obtain ⟨l, e, hl, hw⟩ := ints_of Try.underlying30 Try.underlying5 cells5 cells30 hf
  simp only [Value.cells] at e
  refine ⟨l, ?_, hl, fun x hx => bounds_of_u8 (hw x hx)⟩
  rw [show u8s l = cs.toList from e.symm]
theorem two_of {base : Nat} {v : Value} {d : DataW H} {p : List MemPlace} (hv : Value.okWide Try.prog W .any base 46 v) (h : DataW.Trod enc Try.prog W 0 (fun _ => true) true 46 v d p) : ∃ n m : Int, v = .agg #[.int .u32 n, .int .u32 m] ∧ (0 ≤ n ∧ n < 4294967296) ∧ (0 ≤ m ∧ m < 4294967296) := by
  simp only [Value.okWide, Try.underlying46] at hv
  obtain ⟨cs, rfl, hsz, _⟩ := hv
  obtain ⟨fuel, hf⟩ := h
  obtain ⟨l, e, hl, hw⟩ := ints_of Try.underlying46 Try.underlying28 cells28 cells46 hf
  simp only [Value.cells] at e
  match l, hl with
  | [n, m], _ =>
    refine ⟨n, m, ?_, bounds_of_u32 (hw n (by simp)), bounds_of_u32 (hw m (by simp))⟩
    obtain ⟨cs⟩ := cs
    simp at e
    rw [e]
theorem block_of {base : Nat} {v : Value} {d : DataW H} {p : List MemPlace} (hv : Value.okWide Try.prog W .any base 27 v) (h : DataW.Trod enc Try.prog W 0 (fun _ => true) true 27 v d p) : ∃ (b : Bk) (sv : Value), v = .agg (b.arr sv) ∧ b.Wf ∧ BytesAt W sv b.bytes := by
  simp only [Value.okWide, Try.underlying27] at hv
  obtain ⟨⟨l⟩, rfl, hsz, _⟩ := hv
  obtain ⟨fuel, hf⟩ := h
  obtain ⟨xs, n, _, _, hl, hxs, hel⟩ := DataW.trod_struct Try.underlying27 hf
  simp only [Value.cells] at hl hel
  rw [cells27] at hl
  have hx7 : xs.length = 7 := hxs
  obtain ⟨y0, g0⟩ : ∃ y, DataW.trod enc Try.prog W 0 (fun _ => true) true n 3 ((l.drop 0).take (Try.prog.cellsOf 3)) = some y := ⟨xs[0], (hel 0 _ rfl).trans (List.getElem?_eq_getElem (by omega))⟩
  obtain ⟨y1, g1⟩ : ∃ y, DataW.trod enc Try.prog W 0 (fun _ => true) true n 3 ((l.drop 1).take (Try.prog.cellsOf 3)) = some y := ⟨xs[1], (hel 1 _ rfl).trans (List.getElem?_eq_getElem (by omega))⟩
  obtain ⟨y2, g2⟩ : ∃ y, DataW.trod enc Try.prog W 0 (fun _ => true) true n 23 ((l.drop 2).take (Try.prog.cellsOf 23)) = some y := ⟨xs[2], (hel 2 _ rfl).trans (List.getElem?_eq_getElem (by omega))⟩
  obtain ⟨y3, g3⟩ : ∃ y, DataW.trod enc Try.prog W 0 (fun _ => true) true n 3 ((l.drop 34).take (Try.prog.cellsOf 3)) = some y := ⟨xs[3], (hel 3 _ rfl).trans (List.getElem?_eq_getElem (by omega))⟩
  obtain ⟨y4, g4⟩ : ∃ y, DataW.trod enc Try.prog W 0 (fun _ => true) true n 24 ((l.drop 35).take (Try.prog.cellsOf 24)) = some y := ⟨xs[4], (hel 4 _ rfl).trans (List.getElem?_eq_getElem (by omega))⟩
  obtain ⟨y5, g5⟩ : ∃ y, DataW.trod enc Try.prog W 0 (fun _ => true) true n 3 ((l.drop 36).take (Try.prog.cellsOf 3)) = some y := ⟨xs[5], (hel 5 _ rfl).trans (List.getElem?_eq_getElem (by omega))⟩
  obtain ⟨y6, g6⟩ : ∃ y, DataW.trod enc Try.prog W 0 (fun _ => true) true n 25 ((l.drop 37).take (Try.prog.cellsOf 25)) = some y := ⟨xs[6], (hel 6 _ rfl).trans (List.getElem?_eq_getElem (by omega))⟩
  clear hel hf hxs
  rw [cells3] at g0 g1 g3 g5
  rw [cells24] at g4
  rw [cells23] at g2
  rw [cells25] at g6
  obtain ⟨k, e0, _, w0⟩ := DataW.trod_int Try.underlying3 g0
  obtain ⟨i, e1, _, w1⟩ := DataW.trod_int Try.underlying3 g1
  obtain ⟨pg, e2, l2, w2⟩ := ints_of Try.underlying23 Try.underlying5 cells5 cells23 g2
  obtain ⟨o, e3, _, w3⟩ := DataW.trod_int Try.underlying3 g3
  obtain ⟨sv, e4⟩ : ∃ v, (l.drop 35).take 1 = [v] := ⟨l[35], by rw [List.drop_eq_getElem_cons (by omega)]; rfl⟩
  rw [e4] at g4
  obtain ⟨by_, hby, w4, n4⟩ := bytes_of g4
  obtain ⟨pv, e5, _, w5⟩ := DataW.trod_int Try.underlying3 g5
  obtain ⟨hd, e6, l6, w6⟩ := ints_of Try.underlying25 Try.underlying3 cells3 cells25 g6
  refine ⟨⟨k, i, pg, o, by_, pv, hd⟩, sv, ?_, ⟨bounds_of_i64 w0, bounds_of_i64 w1, bounds_of_i64 w3, bounds_of_i64 w5, l2, fun x hx => bounds_of_u8 (w2 x hx), n4, w4, l6, fun x hx => bounds_of_i64 (w6 x hx)⟩, hby⟩
  have hcut : l = (l.drop 0).take 1 ++ ((l.drop 1).take 1 ++ ((l.drop 2).take 32 ++ ((l.drop 34).take 1 ++ ((l.drop 35).take 1 ++ ((l.drop 36).take 1 ++ (l.drop 37).take 8))))) := by
    have h7 : (l.drop 37).take 8 = l.drop 37 := List.take_of_length_le (by simp; omega)
    rw [h7]
    have st : ∀ (a c : Nat), (l.drop a).take c ++ l.drop (a + c) = l.drop a := fun a c => by rw [← List.drop_drop, List.take_append_drop]
    rw [st 36 1, st 35 1, st 34 1, st 2 32, st 1 1, st 0 1]
    rfl
  rw [hcut, e0, e1, e2, e3, e4, e5, e6]
  rfl
end
end Go.Proofs.Ytdgciecnnpjeoaa
