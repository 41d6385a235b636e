/- What a device reads as, and how its calls turn it; arrays of sectors of the statement's own. -/
import Derived.Test.YtdmjhpebpooiaaaLaw
namespace Go.Proofs.Ytdmjhpebpooiaaa
open Go.RowKit

/-- What the sectors read as. -/
def D.view (d : D) : List (Array Value) := app d.S d.L
theorem D.view_length (d : D) : d.view.length = d.S.length := app_length _ _
theorem Dv.secs {W w : World} {b : Nat} {F : Nat → Prop} {d : D} (h : Dv W w b F d) : ∀ s ∈ d.view, Sec s := by
  obtain ⟨⟨A, _, _, N, hd⟩, _⟩ := h
  exact app_sec hd.hS fun p hp => (hd.hL p hp).1
theorem Dv.I {W w : World} {b : Nat} {F : Nat → Prop} {d : D} (h : Dv W w b F d) : I64 d.F := by
  obtain ⟨⟨A, _, _, N, hd⟩, _⟩ := h
  exact hd.f
theorem has_nat {d : D} {k : Nat} (h : k < d.S.length) : d.has (k : Int) = true := by unfold D.has; simp [h]
theorem write_fail {d : D} {k : Nat} (h : k < d.S.length) (h0 : d.F = 0) (cs : Array Value) : d.writeE (k : Int) = 12 ∧ d.write (k : Int) cs = { d with F := -1 } := by
  unfold D.writeE D.write
  rw [if_pos (has_nat h), if_pos (has_nat h), if_pos h0, if_pos h0]
  exact ⟨rfl, rfl⟩
theorem write_ok {d : D} {k : Nat} (h : k < d.S.length) (h0 : d.F ≠ 0) (cs : Array Value) : d.writeE (k : Int) = 0 ∧ d.write (k : Int) cs = { d with F := d.nextF, T := d.T + 1, L := d.L ++ [(k, cs)] } := by
  unfold D.writeE D.write
  rw [if_pos (has_nat h), if_pos (has_nat h), if_neg h0, if_neg h0, Int.toNat_natCast]
  exact ⟨rfl, rfl⟩
theorem flush_fail {d : D} (h0 : d.F = 0) : d.flushE = 12 ∧ d.flush = { d with F := -1 } := by
  unfold D.flushE D.flush
  rw [if_pos h0, if_pos h0]
  exact ⟨rfl, rfl⟩
theorem flush_ok {d : D} (h0 : d.F ≠ 0) : d.flushE = 0 ∧ d.flush = { d with F := d.nextF, T := d.T + 1, S := app d.S d.L, L := [] } := by
  unfold D.flushE D.flush
  rw [if_neg h0, if_neg h0]
  exact ⟨rfl, rfl⟩
theorem flush_view (d : D) : d.flush.view = d.view := by
  unfold D.flush D.view
  split
  · rfl
  · simp [app]
theorem write_view {d : D} {k : Nat} (h : k < d.S.length) (h0 : d.F ≠ 0) (cs : Array Value) : (d.write (k : Int) cs).view = d.view.set k cs := by
  rw [(write_ok h h0 cs).2]
  unfold D.view
  simp [app_snoc]
theorem view_at {d : D} {k : Nat} (h : k < d.S.length) : ∃ s, d.view[k]? = some s ∧ d.read (k : Int) = s ∧ d.readE (k : Int) = 0 := by
  have hv : d.view[k]? = some (d.view[k]'(by rw [d.view_length]; exact h)) := List.getElem?_eq_getElem _
  obtain ⟨e1, e2⟩ := read_yes_eq h hv
  exact ⟨_, hv, e1, e2⟩

theorem flat_load {w : World} {wb : Nat} {V : List (Array Value)} (hb : Blk w wb (flat V)) (hV : ∀ s ∈ V, Sec s) {k : Nat} {s : Array Value} (hs : V[k]? = some s) : ∀ j (h : j < s.size), w.cell? ⟨wb, k * 64 + j, none⟩ = some s[j] := fun j hj => by
  have := flat_at hV hs (j := j) (by have := (hV s (List.mem_of_getElem? hs)).size; omega)
  exact hb.cell (by rw [this]; simp [hj])
section
variable {P : Program}
theorem wpList_store_flat {ops : Array Oper} {rest : List Oper} {o : Oper} {a : Act} {w0 : World} {Q : Exit → Act → World → Prop} (ty : TypeId) (x y : Operand) (ho : o.op = .store ty x y) (hw : Region.wanted o (yielded ops a.tmps) = true)
    (wb k : Nat) (V : List (Array Value)) (cs : Array Value) (hx : a.eval x = .pointer (some ⟨wb, k * 64, none⟩)) (hy : a.eval y = .agg cs) (hb : Blk w0 wb (flat V)) (hi : (P.info? ty).map (·.size) = some cs.size) (hV : ∀ s ∈ V, Sec s) (hk : k < V.length) (hs : Sec cs)
    (h : ∀ wX, Blk wX wb (flat (V.set k cs)) → Only (fun k => k = wb) w0 wX → wpList P ops Q rest (a.put o.dst undef) wX) : wpList P ops Q (o :: rest) a w0 := by
  refine wpList_store_at hw ty x y ho wb (k * 64) cs hx hy (flat V) hb hi (by rw [flat_length hV, hs.size]; omega) hs.one (h _ ?_ ?_)
  · rw [← flat_splice hV hk hs]
    exact hb.row _
  · exact (Only.refl (fun k => k = wb) w0).setRow (.inl rfl) _
theorem wpList_alloc_g {ops : Array Oper} {rest : List Oper} {o : Oper} {a : Act} {w : World} {Q : Exit → Act → World → Prop} (t : TypeId) (ho : o.op = .alloc t) (hw : Region.wanted o (yielded ops a.tmps) = true) (cs : Array Value) (hz : (P.info? t).bind (·.zero) = some (.agg cs))
    (h : ∀ wX, Blk wX w.heap.size cs.toList → Below w.heap.size w wX → wpList P ops Q rest (a.put o.dst (.pointer (some ⟨w.heap.size, 0, none⟩))) wX) : wpList P ops Q (o :: rest) a w :=
  wpList_run _ _ hw (exec_alloc _ _ _ t ho cs hz) (h _ (Blk.newAt _ _ _ rfl rfl) ((Below.refl _ _).alloc (Nat.le_refl _) _))
end
theorem info59z : (Try.prog.info? 59).bind (·.zero) = some (.agg (Array.replicate 448 (.int .u8 0))) := by kernel_rfl
theorem info56z : (Try.prog.info? 56).bind (·.zero) = some (.agg (Array.replicate 320 (.int .u8 0))) := by kernel_rfl
theorem flat_zeros (n : Nat) : flat (List.replicate n (fillA 0)) = List.replicate (n * 64) (Value.int .u8 0) := by
  induction n with
  | zero => rfl
  | succ n ih =>
    simp only [flat, List.replicate_succ, List.flatMap_cons] at ih ⊢
    rw [ih]
    simp only [fillA, Array.toList_replicate, List.replicate_append_replicate]
    congr 1
    omega
theorem view_new (n : Nat) : (newD n).view = List.replicate n (fillA 0) := rfl
/-- A step's number, brought among n sectors. -/
theorem mod_nat (i : Int) (n : Nat) (h1 : 1 ≤ n) : ∃ k : Nat, i % (n : Int) = k ∧ k < n := by
  have h2 := Int.emod_nonneg i (show (n : Int) ≠ 0 by omega)
  have h3 := Int.emod_lt_of_pos i (show (0 : Int) < n by omega)
  exact ⟨(i % (n : Int)).toNat, by omega, by omega⟩
theorem I64_next {d : D} (h : I64 d.F) : I64 d.nextF := by
  unfold D.nextF I64 at *
  split <;> omega
theorem Dv.go1 {W w w' : World} {b : Nat} {F : Nat → Prop} {d : D} (h : Dv W w b F d) {wb : Nat} (ho : Only (fun k => k = wb) w w') (hge : W.heap.size ≤ wb) (hF : ¬ F wb) : Dv W w' b F d :=
  h.go ho (fun k e => by rw [e]; exact hge) (fun k hf e => hF (by rw [← e]; exact hf))
end Go.Proofs.Ytdmjhpebpooiaaa
