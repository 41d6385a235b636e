/- Marks of nothing, appended to one's own. -/
import Derived.Test.YtfhpmhigfhnbaaaWakes
namespace Go.Proofs.Ytfhpmhigfhnbaaa
set_option linter.unusedSimpArgs false
set_option linter.unusedVariables false
open Go.RowKit

theorem zero_cellsM (n : Nat) : (Builtin.zeroCells (#[.int .i64 0, .int .i64 0] : Array Value) n).toList = i64s (zeros (n * 2)) := by
  unfold Builtin.zeroCells
  apply List.ext_getElem?
  intro i
  by_cases h : i < n * 2
  · have h2 : i % 2 = 0 ∨ i % 2 = 1 := by omega
    rcases h2 with h2 | h2 <;> simp [zeros, h, h2]
  · simp [zeros, h]
theorem flat_same (k : Nat) : flat (List.replicate k ((0, 0) : Mk)) = zeros (k * 2) := by
  induction k with
  | zero => rfl
  | succ k ih =>
    rw [List.replicate_succ, show (k + 1) * 2 = k * 2 + 1 + 1 by omega]
    simp only [flat, ih]
    rfl
theorem MarksAt.front {w : World} {a : Option Addr} {n cap cap' : Nat} {l r : List Mk} (h : MarksAt w (.slice a n cap) (l ++ r)) : MarksAt w (.slice a l.length cap') l := by
  obtain ⟨b, c, e, hc⟩ := h
  cases e
  exact ⟨_, cap', rfl, fun i m hi => hc i m (by rw [List.getElem?_append_left (List.getElem?_eq_some_iff.1 hi).1]; exact hi)⟩
/-- Zero marks appended. -/
theorem app_zerosM {w : World} {B : Nat} {sv : Value} {l : List Mk} (h : OwnM w B sv l) (hl : 0 < l.length) (hB : B ≤ w.heap.size) (k : Nat) (hk0 : 0 < k) (hlen : l.length + k ≤ 1000000) (ty : TypeId) :
    ∃ sv' w', (Builtin.append_ #[23, 3] ty #[sv, .int .i64 k]).run Try.prog w = .ok sv' w' ∧ OwnM w' B sv' (l ++ List.replicate k (0, 0)) ∧ w.grownBy w' sv.ownBlock ∧ MarksAt w' sv l := by
  have hmarks := h.marks
  obtain ⟨i, hi, hz, hs, hby⟩ := inf47
  have hfl : (i64s (flat l)).length = l.length * 2 := by rw [List.length_map, flat_length]; omega
  have hlen2 : (i64s (flat (l ++ List.replicate k (0, 0)))).length = (l.length + k) * 2 := by rw [List.length_map, flat_length]; simp; omega
  have hu : i64s (flat (l ++ List.replicate k (0, 0))) = i64s (flat l) ++ i64s (zeros (k * 2)) := by rw [flat_append, flat_same]; exact List.map_append
  have hw : IntKind.i64.wrap (k : Int) = k := by rw [IntKind.wrap_i64]; omega
  have hneg : ¬ ((k : Int) < 0) := by omega
  have h48i : ¬ (281474976710656 < (k : Int) * ((i.bytes : Nat) : Int)) := by rw [hby]; omega
  have hk : ¬ k = 0 := by omega
  rcases h.2 with ⟨rfl, h0⟩ | ⟨g, cap, cur, rfl, hbg, hg, hnc, hcm, hcs, htake⟩
  · omega
  · by_cases hroom : l.length + k ≤ cap
    · have hst := run_storeCells_at Try.prog g (l.length * 2) 47 (i64s (zeros (k * 2))) 0 cur w hg (by simp [zeros]; omega) (fun v hv => by obtain ⟨z, _, rfl⟩ := List.mem_map.1 hv; rfl)
      simp only [Nat.add_zero] at hst
      have HOWN : OwnM (w.setRow g (cur.toList.take (l.length * 2) ++ i64s (zeros (k * 2)) ++ cur.toList.drop (l.length * 2 + (i64s (zeros (k * 2))).length)).toArray) B (.slice (some ⟨g, 0, none⟩) (l.length + k) cap) (l ++ List.replicate k (0, 0)) := by
        refine ⟨hlen2.trans (by simp), .inr ⟨g, cap, _, by simp, hbg, setRow_heap w g cur _ 47 _ hg, by simp; omega, hcm, ?_, ?_⟩⟩
        · simp [zeros]
          omega
        · rw [hu]
          have e : cur.toList.take (l.length * 2) = i64s (flat l) := htake
          rw [e, List.append_assoc, ← List.append_assoc]
          simp only [List.toList_toArray]
          exact List.take_left' (by rw [List.length_append, hfl]; simp [zeros]; omega)
      refine ⟨.slice (some ⟨g, 0, none⟩) (l.length + k) cap, w.setRow g (cur.toList.take (l.length * 2) ++ i64s (zeros (k * 2)) ++ cur.toList.drop (l.length * 2 + (i64s (zeros (k * 2))).length)).toArray, ?_, ?_, ?_, ?_⟩
      · have hst2 : (storeCells ⟨g, l.length * 2, none⟩ (Builtin.zeroCells (#[.int .i64 0, .int .i64 0] : Array Value) k).toList).run Try.prog w = .ok () (w.setRow g (cur.toList.take (l.length * 2) ++ i64s (zeros (k * 2)) ++ cur.toList.drop (l.length * 2 + (i64s (zeros (k * 2))).length)).toArray) := by
          rw [zero_cellsM]
          exact hst
        simp [Builtin.append_, run_underlying Try.underlying23, run_underlying Try.underlying3, sizeOf, typeInfo, zeroValue, hi, hz, asInt, asIntOf, hw, hneg, h48i, hs, hk, hroom, Addr.add_lit, Value.cells, hst2]
        intro h0
        exfalso
        omega
      · exact HOWN
      · exact ⟨rfl, rfl, rfl, by simp, fun k _ hk => setRow_other w g k _ (fun e => hk (by simp [Value.ownBlock, e]))⟩
      · have hkey : OwnM (w.setRow g (cur.toList.take (l.length * 2) ++ i64s (zeros (k * 2)) ++ cur.toList.drop (l.length * 2 + (i64s (zeros (k * 2))).length)).toArray) B (.slice (some ⟨g, 0, none⟩) (l.length + k) cap) (l ++ List.replicate k (0, 0)) := HOWN
        exact hkey.marks.front
    · have holds : ∀ j u, (i64s (flat l))[j]? = some u → w.cell? ((⟨g, 0, none⟩ : Addr).add j) = some u := World.ownsRow.cells h (g := g) rfl
      have hfo := run_firstCells_some (P := Try.prog) w.drew i.size l.length ⟨g, 0, none⟩ l.length cap (i64s (flat l)) (by rw [hs, hfl]) (by simpa using holds)
      have h63' : ¬ (9223372036854775807 < ((l.length : Int) + (k : Int))) := by omega
      have h48' : ¬ (281474976710656 < Builtin.nextslicecap (l.length + k) cap * i.bytes) := by
        have := growslice_fits (need := l.length + k) (old := cap) (bytes := i.bytes) (by omega) (by rw [hby]; omega)
        omega
      have hge := grownCap_ge w (l.length + k) cap 47
      have hcm2 : grownCap w (l.length + k) cap 47 ≤ maxLen := grownCap_le_maxLen w (l.length + k) cap 47 (by simp only [maxLen]; omega)
      refine ⟨.slice (some ⟨w.heap.size, 0, none⟩) (l.length + k) (grownCap w (l.length + k) cap 47), w.drew.alloc (.cells ((i64s (flat l)).toArray ++ Builtin.zeroCells #[.int .i64 0, .int .i64 0] k ++ Builtin.zeroCells #[.int .i64 0, .int .i64 0] (grownCap w (l.length + k) cap 47 - (l.length + k))) 47), ?_, ?_, ?_, ?_⟩
      · simp only [hs] at hfo
        simp [Builtin.append_, run_underlying Try.underlying23, run_underlying Try.underlying3, sizeOf, typeInfo, zeroValue, hi, hz, asInt, asIntOf, hw, hneg, h48i, hroom, h63', h48', Question.forced, hs, hk, Value.cells, hfo, newRow, grownCap]
        intro h0
        exfalso
        omega
      · refine ⟨hlen2.trans (by simp), .inr ⟨w.heap.size, _, _, by simp, hB, heap_alloc_new w.drew _, by simp; omega, hcm2, ?_, ?_⟩⟩
        · simp [Builtin.zeroCells, flat_length]
          omega
        · rw [hu]
          simp only [Array.toList_append, zero_cellsM]
          exact List.take_left' (by rw [List.length_append, hfl]; simp [zeros]; omega)
      · exact ⟨rfl, rfl, rfl, by simp, fun j hj _ => heap_alloc_old w.drew _ hj⟩
      · exact hmarks.below (((Below.refl _ _).drew).alloc (Nat.le_refl _) _)
section
variable {ops : Array Oper} {rest : List Oper} {dst : Option Tmp} {x y : Operand} {t2 : TypeId} {pos : String} {after : Array Edge} {guard : Option (Nat × Bool)} {a : Act} {w : World} {Q : Exit → Act → World → Prop}
theorem zeros_LM {B : Nat} {sv : Value} {l : List Mk} {k : Nat} (h : OwnM w B sv l) (hl : 0 < l.length) (hB : B ≤ w.heap.size) (hk : 0 < k) (hlen : l.length + k ≤ 1000000) (hx : a.eval x = sv) (hy : a.eval y = .int .i64 k)
    (hw : Region.wanted ⟨dst, .call { callee := .builtin .append, args := #[x, y], argTypes := #[23, 3] }, t2, pos, after, guard⟩ (yielded ops a.tmps) = true)
    (hh : ∀ sv' w', OwnM w' B sv' (l ++ List.replicate k (0, 0)) → Below B w w' → MarksAt w' sv l → wpList Try.prog ops Q rest (a.put dst sv') w') : wpList Try.prog ops Q (⟨dst, .call { callee := .builtin .append, args := #[x, y], argTypes := #[23, 3] }, t2, pos, after, guard⟩ :: rest) a w := by
  obtain ⟨sv', w', hr, ho, hg, hm⟩ := app_zerosM h hl hB k hk hlen t2
  exact wpList_run sv' w' hw (exec_app a.eval _ x y 23 3 rfl sv _ sv' hx hy hr) (hh sv' w' ho (grown_below hg hB fun k hk => (h.lt k hk).1) hm)
end
end Go.Proofs.Ytfhpmhigfhnbaaa
