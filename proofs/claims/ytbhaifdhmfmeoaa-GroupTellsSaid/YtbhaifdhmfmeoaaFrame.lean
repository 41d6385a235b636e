/- What the six statements share: their arguments, opened; what was there reads as it did. -/
import Derived.Test.YtbhaifdhmfmeoaaRows
import Derived.Test.YtbhaifdhmfmeoaaSecs
import Derived.ProofKit
import Derived.OpenShut
import Derived.Lib.SmallJoins
import Derived.Deep.Fields
import Derived.Deep.Slices
namespace Go.Proofs.Ytbhaifdhmfmeoaa
open Go.ChangeShapes Go.WideShapes Go.ChangeAt Go.RowKit Go.Deep Go.Joins
set_option linter.unusedSimpArgs false
set_option linter.unusedVariables false
set_option maxRecDepth 100000

theorem own : ownKnob Try.prog.godebug = none := by kernel_rfl
theorem laidOut : laidOutB Try.prog = true := by kernel_rfl
theorem cells3 : Try.prog.cellsOf 3 = 1 := by kernel_rfl
theorem cells5 : Try.prog.cellsOf 5 = 1 := by kernel_rfl
theorem cells53 : Try.prog.cellsOf 53 = 32 := by kernel_rfl
theorem cells54 : Try.prog.cellsOf 54 = 1 := by kernel_rfl
theorem cells55 : Try.prog.cellsOf 55 = 8 := by kernel_rfl
theorem cells57 : Try.prog.cellsOf 57 = 45 := by kernel_rfl
theorem cells23 : Try.prog.cellsOf 23 = 1 := by kernel_rfl
theorem cells50 : Try.prog.cellsOf 50 = 64 := by kernel_rfl
theorem cells47 : Try.prog.cellsOf 47 = 2 := by kernel_rfl
theorem cells48 : Try.prog.cellsOf 48 = 2 := by kernel_rfl
theorem cells70 : Try.prog.cellsOf 70 = 2 := by kernel_rfl
theorem cells72 : Try.prog.cellsOf 72 = 47 := by kernel_rfl
theorem below_trodAll {H : Type} {enc : TypeId × Value → H} {W W' : World} (hb : Below W.heap.size W W') : ∀ {ts : List TypeId} {vs : List Value} {ds : List (DataW H)} {ps : List MemPlace},
    (∀ t ∈ ts, Try.prog.readableRec t = true ∧ t < Try.prog.types.size) → DataW.TrodAll enc Try.prog W 0 (fun _ => true) true ts vs ds ps → (∀ x ∈ ps, x.block < W.heap.size) →
    DataW.TrodAll enc Try.prog W' 0 (fun b => decide (b < W.heap.size)) true ts vs ds ps
  | [], _, _, _, _, h, _ => by
    obtain ⟨rfl, rfl, rfl⟩ := trodAll_nil h
    exact trodAll_mk0
  | t :: ts, _, _, _, hr, h, hlt => by
    obtain ⟨v, vs, d, ds, p, q, rfl, rfl, rfl, h0, h1⟩ := trodAll_cons h
    refine trodAll_cons_mk (Below.trod laidOut (hr t (by simp)).1 (hr t (by simp)).2 h0 hb fun x hx => hlt x (by simp [hx])) (below_trodAll hb (fun u hu => hr u (by simp [hu])) h1 fun x hx => hlt x (by simp [hx]))
theorem readable : ([22, 24, 23, 5, 47, 48].all fun t => Try.prog.readableRec t && decide (t < Try.prog.types.size)) = true := by kernel_rfl
theorem readable_of {ts : List TypeId} (h : ∀ t ∈ ts, t ∈ [22, 24, 23, 5, 47, 48]) : ∀ t ∈ ts, Try.prog.readableRec t = true ∧ t < Try.prog.types.size := fun t ht => by
  have := List.all_eq_true.1 readable t (h t ht)
  simpa using this
theorem bounds_of_i64 {n : Int} (h : (Lit.int .i64 n).wf = true) : Small n := by
  have := bounds_i64 h
  exact ⟨this.1, by omega⟩
theorem bounds_of_u8 {n : Int} (h : (Lit.int .u8 n).wf = true) : Byte n := by
  have := bounds_u8 h
  exact ⟨this.1, by omega⟩
theorem bounds_of_u32 {n : Int} (h : (Lit.int .u32 n).wf = true) : 0 ≤ n ∧ n < 4294967296 := by
  have := bounds_u32 h
  exact ⟨this.1, by omega⟩

theorem list_ints {k : IntKind} : ∀ {cs : List Value}, (∀ c ∈ cs, ∃ z, c = .int k z ∧ (Lit.int k z).wf = true) → ∃ l : List Int, cs = l.map (Value.int k) ∧ ∀ y ∈ l, (Lit.int k y).wf = true
  | [], _ => ⟨[], rfl, fun y hy => by cases hy⟩
  | c :: cs, h => by
    obtain ⟨z, rfl, hw⟩ := h c (by simp)
    obtain ⟨l, rfl, hl⟩ := list_ints (k := k) (cs := cs) fun c hc => h c (List.mem_cons_of_mem _ hc)
    exact ⟨z :: l, rfl, fun y hy => by
      rcases List.mem_cons.1 hy with rfl | hy
      · exact hw
      · exact hl y hy⟩
section
variable {H : Type} {enc : TypeId × Value → H} {W : World}
/-- An array of numbers, opened. -/
theorem ints_of {fuel n : Nat} {t e : TypeId} {k : IntKind} {cs : List Value} {x : DataW H × List MemPlace} (ht : Try.prog.underlying t = some (.array n e)) (he : Try.prog.underlying e = some (.int k)) (hc : Try.prog.cellsOf e = 1) (hn : Try.prog.cellsOf t = n)
    (h : DataW.trod enc Try.prog W 0 (fun _ => true) true fuel t cs = some x) : ∃ l : List Int, cs = l.map (Value.int k) ∧ l.length = n ∧ ∀ y ∈ l, (Lit.int k y).wf = true := by
  obtain ⟨xs, m, _, _, hl, hxs, hel⟩ := DataW.trod_array ht h
  rw [hn] at hl
  obtain ⟨l, rfl, hw⟩ := list_ints (k := k) (cs := cs) fun c hcs => by
    obtain ⟨i, hi, rfl⟩ := List.getElem_of_mem hcs
    have hE := hel i (by omega)
    rw [hc, Nat.mul_one, List.getElem?_eq_getElem (by omega)] at hE
    obtain ⟨z, e1, _, hw⟩ := DataW.trod_int he hE
    rw [show (cs.drop i).take 1 = [cs[i]] from by rw [List.drop_eq_getElem_cons hi]; rfl] at e1
    exact ⟨z, by simpa using e1, hw⟩
  exact ⟨l, rfl, by simpa using hl, hw⟩
theorem bytes_of {n : Nat} {v : Value} {y : DataW H × List MemPlace} (h : DataW.trod enc Try.prog W 0 (fun _ => true) true n 54 [v] = some y) : ∃ l, BytesAt W v l ∧ (∀ x ∈ l, Byte x) ∧ l.length ≤ 9223372036854775807 := by
  rcases open_ints Try.underlying54 Try.underlying5 cells5 h with ⟨hcs, _⟩ | ⟨a, len, cap, zs, hcs, _, hl, hm, hz, hbig, hc, hw⟩
  · simp at hcs
    subst hcs
    exact ⟨[], BytesAt.nil _ _ _, (fun x hx => by cases hx), by decide⟩
  · simp at hcs
    subst hcs
    simp only [if_true] at hz
    have hlen : (zs.take len).length = len := by simp; omega
    refine ⟨zs.take len, ⟨some a, cap, by rw [hlen], fun i x hx => ?_⟩, fun n hn => bounds_of_u8 (hw n (List.mem_of_mem_take hn)), ?_⟩
    · have hi : i < len := by
        have := (List.getElem?_eq_some_iff.1 hx).1
        omega
      rw [List.getElem?_take_of_lt hi] at hx
      have h0 := hc i (by omega)
      obtain ⟨b, off, spot⟩ := a
      have hspot : spot = none := by simpa [Addr.add] using World.cell?_spot (hc 0 (by omega))
      subst hspot
      refine ⟨b, off, rfl, ?_⟩
      rw [← add_plain, h0]
      simp [List.getD, hx]
    · rw [hlen]
      have : maxLen = 9223372036854775807 := rfl
      omega
theorem block_cells {fuel : Nat} {l : List Value} {y : DataW H × List MemPlace} (hf : DataW.trod enc Try.prog W 0 (fun _ => true) true fuel 57 l = some y) : ∃ (b : Bk) (sv : Value), l = b.cells sv ∧ b.Wf ∧ BytesAt W sv b.bytes := by
  obtain ⟨xs, n, _, _, hl, hxs, hel⟩ := DataW.trod_struct Try.underlying57 hf
  rw [cells57] at hl
  have hx7 : xs.length = 7 := hxs
  obtain ⟨y0, g0⟩ : ∃ y, DataW.trod enc Try.prog W 0 (fun _ => true) true n 3 ((l.drop 0).take (Try.prog.cellsOf 3)) = some y := ⟨xs[0], (hel 0 _ rfl).trans (List.getElem?_eq_getElem (by omega))⟩
  obtain ⟨y1, g1⟩ : ∃ y, DataW.trod enc Try.prog W 0 (fun _ => true) true n 3 ((l.drop 1).take (Try.prog.cellsOf 3)) = some y := ⟨xs[1], (hel 1 _ rfl).trans (List.getElem?_eq_getElem (by omega))⟩
  obtain ⟨y2, g2⟩ : ∃ y, DataW.trod enc Try.prog W 0 (fun _ => true) true n 53 ((l.drop 2).take (Try.prog.cellsOf 53)) = some y := ⟨xs[2], (hel 2 _ rfl).trans (List.getElem?_eq_getElem (by omega))⟩
  obtain ⟨y3, g3⟩ : ∃ y, DataW.trod enc Try.prog W 0 (fun _ => true) true n 3 ((l.drop 34).take (Try.prog.cellsOf 3)) = some y := ⟨xs[3], (hel 3 _ rfl).trans (List.getElem?_eq_getElem (by omega))⟩
  obtain ⟨y4, g4⟩ : ∃ y, DataW.trod enc Try.prog W 0 (fun _ => true) true n 54 ((l.drop 35).take (Try.prog.cellsOf 54)) = some y := ⟨xs[4], (hel 4 _ rfl).trans (List.getElem?_eq_getElem (by omega))⟩
  obtain ⟨y5, g5⟩ : ∃ y, DataW.trod enc Try.prog W 0 (fun _ => true) true n 3 ((l.drop 36).take (Try.prog.cellsOf 3)) = some y := ⟨xs[5], (hel 5 _ rfl).trans (List.getElem?_eq_getElem (by omega))⟩
  obtain ⟨y6, g6⟩ : ∃ y, DataW.trod enc Try.prog W 0 (fun _ => true) true n 55 ((l.drop 37).take (Try.prog.cellsOf 55)) = some y := ⟨xs[6], (hel 6 _ rfl).trans (List.getElem?_eq_getElem (by omega))⟩
  clear hel hf hxs
  rw [cells3] at g0 g1 g3 g5
  rw [cells54] at g4
  rw [cells53] at g2
  rw [cells55] at g6
  obtain ⟨k, e0, _, w0⟩ := DataW.trod_int Try.underlying3 g0
  obtain ⟨i, e1, _, w1⟩ := DataW.trod_int Try.underlying3 g1
  obtain ⟨pg, e2, l2, w2⟩ := ints_of Try.underlying53 Try.underlying5 cells5 cells53 g2
  obtain ⟨o, e3, _, w3⟩ := DataW.trod_int Try.underlying3 g3
  obtain ⟨sv, e4⟩ : ∃ v, (l.drop 35).take 1 = [v] := ⟨l[35], by rw [List.drop_eq_getElem_cons (by omega)]; rfl⟩
  rw [e4] at g4
  obtain ⟨by_, hby, w4, n4⟩ := bytes_of g4
  obtain ⟨pv, e5, _, w5⟩ := DataW.trod_int Try.underlying3 g5
  obtain ⟨hd, e6, l6, w6⟩ := ints_of Try.underlying55 Try.underlying3 cells3 cells55 g6
  refine ⟨⟨k, i, pg, o, by_, pv, hd⟩, sv, ?_, ⟨bounds_of_i64 w0, bounds_of_i64 w1, bounds_of_i64 w3, bounds_of_i64 w5, l2, fun x hx => bounds_of_u8 (w2 x hx), n4, w4, l6, fun x hx => bounds_of_i64 (w6 x hx)⟩, hby⟩
  have hcut : l = (l.drop 0).take 1 ++ ((l.drop 1).take 1 ++ ((l.drop 2).take 32 ++ ((l.drop 34).take 1 ++ ((l.drop 35).take 1 ++ ((l.drop 36).take 1 ++ (l.drop 37).take 8))))) := by
    have h7 : (l.drop 37).take 8 = l.drop 37 := List.take_of_length_le (by simp; omega)
    rw [h7]
    have st : ∀ (a c : Nat), (l.drop a).take c ++ l.drop (a + c) = l.drop a := fun a c => by rw [← List.drop_drop, List.take_append_drop]
    rw [st 36 1, st 35 1, st 34 1, st 2 32, st 1 1, st 0 1]
    rfl
  rw [hcut, e0, e1, e2, e3, e4, e5, e6]
  rfl

theorem two_of {base : Nat} {v : Value} {d : DataW H} {p : List MemPlace} (hv : Value.okWide Try.prog W .any base 47 v) (h : DataW.Trod enc Try.prog W 0 (fun _ => true) true 47 v d p) : ∃ n m : Int, v = .agg #[.int .u32 n, .int .u32 m] ∧ (0 ≤ n ∧ n < 4294967296) ∧ (0 ≤ m ∧ m < 4294967296) := by
  simp only [Value.okWide, Try.underlying47] at hv
  obtain ⟨cs, rfl, hsz, _⟩ := hv
  obtain ⟨fuel, hf⟩ := h
  obtain ⟨l, e, hl, hw⟩ := ints_of Try.underlying47 Try.underlying23 cells23 cells47 hf
  simp only [Value.cells] at e
  match l, hl with
  | [n, m], _ =>
    refine ⟨n, m, ?_, bounds_of_u32 (hw n (by simp)), bounds_of_u32 (hw m (by simp))⟩
    obtain ⟨cs⟩ := cs
    simp at e
    rw [e]
theorem item_cells {fuel : Nat} {l : List Value} {y : DataW H × List MemPlace} (hf : DataW.trod enc Try.prog W 0 (fun _ => true) true fuel 72 l = some y) : ∃ (x : It) (sv : Value), l = x.cells sv ∧ x.Wf ∧ BytesAt W sv x.blk.bytes := by
  obtain ⟨xs, n, _, _, hl, hxs, hel⟩ := DataW.trod_struct Try.underlying72 hf
  rw [cells72] at hl
  have hx2 : xs.length = 2 := hxs
  obtain ⟨y0, g0⟩ : ∃ y, DataW.trod enc Try.prog W 0 (fun _ => true) true n 70 ((l.drop 0).take (Try.prog.cellsOf 70)) = some y := ⟨xs[0], (hel 0 _ rfl).trans (List.getElem?_eq_getElem (by omega))⟩
  obtain ⟨y1, g1⟩ : ∃ y, DataW.trod enc Try.prog W 0 (fun _ => true) true n 57 ((l.drop 2).take (Try.prog.cellsOf 57)) = some y := ⟨xs[1], (hel 1 _ rfl).trans (List.getElem?_eq_getElem (by omega))⟩
  clear hel hf hxs
  rw [cells70] at g0
  rw [cells57] at g1
  obtain ⟨b, sv, hb, b1, b2⟩ := block_cells g1
  obtain ⟨zs, m, _, _, hl0, hz, hel0⟩ := DataW.trod_struct Try.underlying70 g0
  have hz2 : zs.length = 2 := hz
  obtain ⟨u0, k0⟩ : ∃ y, DataW.trod enc Try.prog W 0 (fun _ => true) true m 3 ((((l.drop 0).take 2).drop 0).take (Try.prog.cellsOf 3)) = some y := ⟨zs[0], (hel0 0 _ rfl).trans (List.getElem?_eq_getElem (by omega))⟩
  obtain ⟨u1, k1⟩ : ∃ y, DataW.trod enc Try.prog W 0 (fun _ => true) true m 3 ((((l.drop 0).take 2).drop 1).take (Try.prog.cellsOf 3)) = some y := ⟨zs[1], (hel0 1 _ rfl).trans (List.getElem?_eq_getElem (by omega))⟩
  rw [cells3] at k0 k1
  obtain ⟨mk, e0, _, w0⟩ := DataW.trod_int Try.underlying3 k0
  obtain ⟨mi, e1, _, w1⟩ := DataW.trod_int Try.underlying3 k1
  refine ⟨⟨(mk, mi), b⟩, sv, ?_, ⟨bounds_of_i64 w0, bounds_of_i64 w1, b1⟩, b2⟩
  have h45 : (l.drop 2).take 45 = l.drop 2 := List.take_of_length_le (by simp; omega)
  rw [h45] at hb
  match l, hl with
  | a :: c :: r, hl =>
    simp at e0 e1 hb
    subst hb
    rw [e0, e1]
    rfl
/-- A slice of items, opened. -/
theorem items_arg {base : Nat} {v : Value} {d : DataW H} {p : List MemPlace} (hv : Value.okWide Try.prog W .any base 22 v) (h : DataW.Trod enc Try.prog W 0 (fun _ => true) true 22 v d p) : ∃ l : List (It × Value), ItemsAt W v l ∧ l.length ≤ 9223372036854775807 := by
  obtain ⟨a0, len0, cap0, rfl⟩ := okWide_slice Try.underlying22 hv
  obtain ⟨fuel, hf⟩ := h
  rcases open_slice Try.underlying22 hf with ⟨hcs, _⟩ | ⟨a, len, cap, m, n, D, Pl, hcs, _, hl, hm, hmm, hbig, hi⟩
  · simp [Value.cells] at hcs
    obtain ⟨rfl, rfl, rfl⟩ := hcs
    exact ⟨[], ItemsAt.nil _ _ _, Nat.zero_le _⟩
  · simp [Value.cells] at hcs
    obtain ⟨rfl, rfl, rfl⟩ := hcs
    simp only [if_true] at hmm
    subst hmm
    have each : ∀ i, i < len0 → ∃ x : It × Value, x.1.Wf ∧ BytesAt W x.2 x.1.blk.bytes ∧ ∃ b o, a = ⟨b, o, none⟩ ∧ At W b (o + i * 47) (x.1.arr x.2) := fun i hil => by
      obtain ⟨cs', hc, ht⟩ := hi i (by omega)
      rw [cells72] at hc
      obtain ⟨_, hlen, hat⟩ := World.cells?_some hc
      obtain ⟨b, sv, rfl, hw, hby⟩ := item_cells ht
      obtain ⟨g, o, spot⟩ := a
      have hspot : spot = none := by
        obtain ⟨cs0, hc0, _⟩ := hi 0 (by omega)
        rw [cells72] at hc0
        obtain ⟨_, hlen0, hat0⟩ := World.cells?_some hc0
        have k := hat0 0 (by decide)
        rw [List.getElem?_eq_getElem (by omega)] at k
        simpa [Addr.add] using World.cell?_spot k
      subst hspot
      refine ⟨(b, sv), hw, hby, g, o, rfl, fun j hj => ?_⟩
      have hj' : j < 47 := by simpa [It.arr_size hw] using hj
      have k := hat j hj'
      simp only [cells72, add_plain] at k
      rw [List.getElem?_eq_getElem (by rw [It.cells_length hw]; exact hj')] at k
      simpa [It.arr] using k
    obtain ⟨f, hfs⟩ : ∃ f : Nat → It × Value, ∀ i, i < len0 → (f i).1.Wf ∧ BytesAt W (f i).2 (f i).1.blk.bytes ∧ ∃ b o, a = ⟨b, o, none⟩ ∧ At W b (o + i * 47) ((f i).1.arr (f i).2) :=
      ⟨fun i => if h : i < len0 then Classical.choose (each i h) else (It.none, .nilIface), fun i hil => by
        simp only [hil, dif_pos]
        exact Classical.choose_spec (each i hil)⟩
    refine ⟨(List.range len0).map f, ⟨some a, m, by simp, by simp; omega, fun i x hx => ?_⟩, ?_⟩
    · have hil : i < len0 := by
        have := (List.getElem?_eq_some_iff.1 hx).1
        simpa using this
      have : x = f i := by
        rw [List.getElem?_map, List.getElem?_range hil] at hx
        exact (Option.some.inj hx).symm
      subst this
      obtain ⟨h1, h2, b, o, h3, h4⟩ := hfs i hil
      exact ⟨h1, h2, b, o, by rw [h3], h4⟩
    · have : maxLen = 9223372036854775807 := rfl
      simp
      omega
theorem sector_cells {fuel : Nat} {l : List Value} {y : DataW H × List MemPlace} (hf : DataW.trod enc Try.prog W 0 (fun _ => true) true fuel 50 l = some y) : ∃ s : List Int, l = u8s s ∧ Sc s := by
  obtain ⟨s, e, hl, hw⟩ := ints_of Try.underlying50 Try.underlying5 cells5 cells50 hf
  exact ⟨s, e, ⟨hl, fun x hx => bounds_of_u8 (hw x hx)⟩⟩
/-- A slice of sectors, opened. -/
theorem secs_arg {base : Nat} {v : Value} {d : DataW H} {p : List MemPlace} (hv : Value.okWide Try.prog W .any base 24 v) (h : DataW.Trod enc Try.prog W 0 (fun _ => true) true 24 v d p) : ∃ l : List (List Int), SecsAt W v l ∧ l.length ≤ 9223372036854775807 := by
  obtain ⟨a0, len0, cap0, rfl⟩ := okWide_slice Try.underlying24 hv
  obtain ⟨fuel, hf⟩ := h
  rcases open_slice Try.underlying24 hf with ⟨hcs, _⟩ | ⟨a, len, cap, m, n, D, Pl, hcs, _, hl, hm, hmm, hbig, hi⟩
  · simp [Value.cells] at hcs
    obtain ⟨rfl, rfl, rfl⟩ := hcs
    exact ⟨[], SecsAt.nil _ _ _, Nat.zero_le _⟩
  · simp [Value.cells] at hcs
    obtain ⟨rfl, rfl, rfl⟩ := hcs
    simp only [if_true] at hmm
    subst hmm
    have each : ∀ i, i < len0 → ∃ x : List Int, Sc x ∧ ∃ b o, a = ⟨b, o, none⟩ ∧ At W b (o + i * 64) (u8s x).toArray := fun i hil => by
      obtain ⟨cs', hc, ht⟩ := hi i (by omega)
      rw [cells50] at hc
      obtain ⟨_, hlen, hat⟩ := World.cells?_some hc
      obtain ⟨s, rfl, hs⟩ := sector_cells ht
      obtain ⟨g, o, spot⟩ := a
      have hspot : spot = none := by
        obtain ⟨cs0, hc0, _⟩ := hi 0 (by omega)
        rw [cells50] at hc0
        obtain ⟨_, hlen0, hat0⟩ := World.cells?_some hc0
        have k := hat0 0 (by decide)
        rw [List.getElem?_eq_getElem (by omega)] at k
        simpa [Addr.add] using World.cell?_spot k
      subst hspot
      refine ⟨s, hs, g, o, rfl, fun j hj => ?_⟩
      have hj' : j < 64 := by rw [u8s_size, hs.length] at hj; exact hj
      have k := hat j hj'
      simp only [cells50, add_plain] at k
      rw [List.getElem?_eq_getElem (by rw [List.length_map, hs.length]; exact hj')] at k
      simpa using k
    obtain ⟨f, hfs⟩ : ∃ f : Nat → List Int, ∀ i, i < len0 → Sc (f i) ∧ ∃ b o, a = ⟨b, o, none⟩ ∧ At W b (o + i * 64) (u8s (f i)).toArray :=
      ⟨fun i => if h : i < len0 then Classical.choose (each i h) else [], fun i hil => by
        simp only [hil, dif_pos]
        exact Classical.choose_spec (each i hil)⟩
    refine ⟨(List.range len0).map f, ⟨some a, m, by simp, by simp; omega, fun i x hx => ?_⟩, ?_⟩
    · have hil : i < len0 := by
        have := (List.getElem?_eq_some_iff.1 hx).1
        simpa using this
      have : x = f i := by
        rw [List.getElem?_map, List.getElem?_range hil] at hx
        exact (Option.some.inj hx).symm
      subst this
      obtain ⟨h1, b, o, h3, h4⟩ := hfs i hil
      exact ⟨h1, b, o, by rw [h3], h4⟩
    · have : maxLen = 9223372036854775807 := rfl
      simp
      omega
theorem two8_of {base : Nat} {v : Value} {d : DataW H} {p : List MemPlace} (hv : Value.okWide Try.prog W .any base 48 v) (h : DataW.Trod enc Try.prog W 0 (fun _ => true) true 48 v d p) : ∃ n m : Int, v = .agg #[.int .u8 n, .int .u8 m] ∧ Byte n ∧ Byte m := by
  simp only [Value.okWide, Try.underlying48] at hv
  obtain ⟨cs, rfl, hsz, _⟩ := hv
  obtain ⟨fuel, hf⟩ := h
  obtain ⟨l, e, hl, hw⟩ := ints_of Try.underlying48 Try.underlying5 cells5 cells48 hf
  simp only [Value.cells] at e
  match l, hl with
  | [n, m], _ =>
    refine ⟨n, m, ?_, bounds_of_u8 (hw n (by simp)), bounds_of_u8 (hw m (by simp))⟩
    have : cs = #[.int .u8 n, .int .u8 m] := by
      apply Array.ext'
      simpa using e
    rw [this]
end
end Go.Proofs.Ytbhaifdhmfmeoaa
