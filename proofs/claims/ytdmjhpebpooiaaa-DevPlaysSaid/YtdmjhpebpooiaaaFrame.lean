/- What the statements share: their arguments, opened; what was there reads as it did. -/
import Derived.Test.YtdmjhpebpooiaaaRows
import Derived.Test.YtdmjhpebpooiaaaWakes
import Derived.ProofKit
import Derived.OpenShut
import Derived.Lib.SmallJoins
import Derived.Deep.Fields
import Derived.Deep.Slices
namespace Go.Proofs.Ytdmjhpebpooiaaa
open Go.ChangeShapes Go.WideShapes Go.ChangeAt Go.RowKit Go.Deep Go.Joins

theorem own : ownKnob Try.prog.godebug = none := by kernel_rfl
theorem laidOut : laidOutB Try.prog = true := by kernel_rfl
theorem cells3 : Try.prog.cellsOf 3 = 1 := by kernel_rfl
theorem cells5 : Try.prog.cellsOf 5 = 1 := by kernel_rfl
theorem cells32 : Try.prog.cellsOf 32 = 1 := by kernel_rfl
theorem cells34 : Try.prog.cellsOf 34 = 4 := by kernel_rfl
theorem cells60 : Try.prog.cellsOf 60 = 2 := by kernel_rfl

theorem below_trodAll {H : Type} {enc : TypeId × Value → H} {W W' : World} (hb : Below W.heap.size W W') : ∀ {ts : List TypeId} {vs : List Value} {ds : List (DataW H)} {ps : List MemPlace},
    (∀ t ∈ ts, Try.prog.readableRec t = true ∧ t < Try.prog.types.size) → DataW.TrodAll enc Try.prog W 0 (fun _ => true) true ts vs ds ps → (∀ x ∈ ps, x.block < W.heap.size) →
    DataW.TrodAll enc Try.prog W' 0 (fun b => decide (b < W.heap.size)) true ts vs ds ps
  | [], _, _, _, _, h, _ => by
    obtain ⟨rfl, rfl, rfl⟩ := trodAll_nil h
    exact trodAll_mk0
  | t :: ts, _, _, _, hr, h, hlt => by
    obtain ⟨v, vs, d, ds, p, q, rfl, rfl, rfl, h0, h1⟩ := trodAll_cons h
    refine trodAll_cons_mk (Below.trod laidOut (hr t (by simp)).1 (hr t (by simp)).2 h0 hb fun x hx => hlt x (by simp [hx])) (below_trodAll hb (fun u hu => hr u (by simp [hu])) h1 fun x hx => hlt x (by simp [hx]))
theorem readable : ([22, 3, 5, 32, 34, 60].all fun t => Try.prog.readableRec t && decide (t < Try.prog.types.size)) = true := by kernel_rfl
theorem readable_of {ts : List TypeId} (h : ∀ t ∈ ts, t ∈ [22, 3, 5, 32, 34, 60]) : ∀ t ∈ ts, Try.prog.readableRec t = true ∧ t < Try.prog.types.size := fun t ht => by
  have := List.all_eq_true.1 readable t (h t ht)
  simpa using this

section
variable {H : Type} {enc : TypeId × Value → H} {W : World}
theorem bytes_of {n : Nat} {v : Value} {y : DataW H × List MemPlace} (h : DataW.trod enc Try.prog W 0 (fun _ => true) true n 32 [v] = some y) : ∃ l, BytesAt W v l := by
  rcases open_ints Try.underlying32 Try.underlying5 cells5 h with ⟨hcs, _⟩ | ⟨a, len, cap, zs, hcs, _, hl, hm, hz, _, hc, hw⟩
  · simp at hcs
    subst hcs
    exact ⟨[], none, 0, rfl, by simp, by simp, fun i hi => absurd hi (by simp)⟩
  · simp at hcs
    subst hcs
    simp only [if_true] at hz
    have hlen : (zs.take len).length = len := by simp; omega
    refine ⟨zs.take len, some a, cap, by rw [hlen], by rw [hlen]; omega, fun n hn => ?_, fun i hi => ?_⟩
    · have := bounds_u8 (hw n (List.mem_of_mem_take hn))
      omega
    · have hi2 : i < zs.length := by omega
      have h0 := hc i hi2
      obtain ⟨b, off, spot⟩ := a
      have hspot : spot = none := by simpa [Addr.add] using World.cell?_spot (hc 0 (by omega))
      subst hspot
      refine ⟨b, off, rfl, ?_⟩
      rw [← add_plain, h0]
      simp [List.getElem_take, List.getD, hi2]
theorem step_fields {n0 n1 n2 n3 : Nat} {v0 v1 v2 v3 : Value} {y0 y1 y2 y3 : DataW H × List MemPlace} (h0 : DataW.trod enc Try.prog W 0 (fun _ => true) true n0 3 [v0] = some y0) (h1 : DataW.trod enc Try.prog W 0 (fun _ => true) true n1 3 [v1] = some y1)
    (h2 : DataW.trod enc Try.prog W 0 (fun _ => true) true n2 5 [v2] = some y2) (h3 : DataW.trod enc Try.prog W 0 (fun _ => true) true n3 32 [v3] = some y3) :
    ∃ s : St, v0 = .int .i64 s.kind ∧ v1 = .int .i64 s.i ∧ v2 = .int .u8 s.v ∧ BytesAt W v3 s.keep ∧ I64 s.i := by
  obtain ⟨a0, e0, _, w0⟩ := DataW.trod_int Try.underlying3 h0
  obtain ⟨a1, e1, _, w1⟩ := DataW.trod_int Try.underlying3 h1
  obtain ⟨a2, e2, _, w2⟩ := DataW.trod_int Try.underlying5 h2
  obtain ⟨l, hl⟩ := bytes_of h3
  simp at e0 e1 e2
  exact ⟨⟨a0, a1, a2, l⟩, e0, e1, e2, hl, bounds_i64 w1⟩
theorem steps_of {base : Nat} {v : Value} {d : DataW H} {p : List MemPlace} (hv : Value.okWide Try.prog W .any base 22 v) (h : DataW.Trod enc Try.prog W 0 (fun _ => true) true 22 v d p) : ∃ l, StsAt W v l := by
  obtain ⟨a0, len0, cap0, rfl⟩ := okWide_slice Try.underlying22 hv
  obtain ⟨fuel, hf⟩ := h
  rcases open_slice Try.underlying22 hf with ⟨hcs, _⟩ | ⟨a, len, cap, m, n, D, Pl, hcs, _, hl, hm, hmm, _, hi⟩
  · simp [Value.cells] at hcs
    obtain ⟨rfl, rfl, rfl⟩ := hcs
    exact ⟨[], none, 0, rfl, Nat.zero_le _, fun i h => absurd h (by simp)⟩
  · simp [Value.cells] at hcs
    obtain ⟨rfl, rfl, rfl⟩ := hcs
    simp only [if_true] at hmm
    subst hmm
    have each : ∀ i, i < len0 → ∃ s : St, ∃ b o, a = ⟨b, o, none⟩ ∧ StAt W b (o + i * 4) s := fun i hil => by
      obtain ⟨cs', hc, ht⟩ := hi i (by omega)
      rw [cells34] at hc
      obtain ⟨_, hlen, hat⟩ := World.cells?_some hc
      obtain ⟨c0, c1, c2, c3, rfl⟩ : ∃ c0 c1 c2 c3, cs' = [c0, c1, c2, c3] := by
        match cs', hlen with
        | [c0, c1, c2, c3], _ => exact ⟨c0, c1, c2, c3, rfl⟩
      obtain ⟨y0, y1, y2, y3, n', _, _, g0, g1, g2, g3⟩ := trod_struct4 Try.underlying34 ht
      simp only [cells3, cells5, cells32] at g0 g1 g2 g3
      obtain ⟨s, rfl, rfl, rfl, hk, hI⟩ := step_fields g0 g1 g2 g3
      obtain ⟨b, o, spot⟩ := a
      have hspot : spot = none := by
        obtain ⟨cs0, hc0, _⟩ := hi 0 (by omega)
        rw [cells34] at hc0
        obtain ⟨_, hlen0, hat0⟩ := World.cells?_some hc0
        have k := hat0 0 (by decide)
        rw [List.getElem?_eq_getElem (by omega)] at k
        simpa [Addr.add] using World.cell?_spot k
      subst hspot
      have k0 := hat 0 (by decide)
      have k1 := hat 1 (by decide)
      have k2 := hat 2 (by decide)
      have k3 := hat 3 (by decide)
      simp only [cells34, add_plain, Nat.add_zero] at k0 k1 k2 k3
      exact ⟨s, b, o, rfl, ⟨k0, k1, k2, ⟨_, k3, hk⟩, hI⟩⟩
    obtain ⟨f, hfs⟩ : ∃ f : Nat → St, ∀ i, i < len0 → ∃ b o, a = ⟨b, o, none⟩ ∧ StAt W b (o + i * 4) (f i) :=
      ⟨fun i => if h : i < len0 then Classical.choose (each i h) else ⟨0, 0, 0, []⟩, fun i hil => by
        simp only [hil, dif_pos]
        exact Classical.choose_spec (each i hil)⟩
    refine ⟨(List.range len0).map f, some a, m, by simp, by simp; omega, fun i hil => ?_⟩
    obtain ⟨b, o, rfl, hs⟩ := hfs i (by simpa using hil)
    exact ⟨b, o, rfl, by simpa using hs⟩
end
end Go.Proofs.Ytdmjhpebpooiaaa
