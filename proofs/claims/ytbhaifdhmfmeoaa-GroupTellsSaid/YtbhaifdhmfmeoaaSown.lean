/- Marks that one appends to; the statements' own copy of a summary; two summaries compared. -/
import Derived.Test.YtbhaifdhmfmeoaaSdec
namespace Go.Proofs.Ytbhaifdhmfmeoaa
set_option linter.unusedSimpArgs false
set_option linter.unusedVariables false
open Go.RowKit

/-- Marks of one's own: their row was made from B on. -/
def OwnM (w : World) (B : Nat) (sv : Value) (l : List Mk) : Prop := w.ownsRow B 70 2 sv l.length (i64s (flat l))
theorem OwnM.nil (w : World) (B : Nat) : OwnM w B (.slice none 0 0) [] := World.ownsRow_nil w B 70 2
theorem OwnM.marks {w : World} {B : Nat} {sv : Value} {l : List Mk} (h : OwnM w B sv l) : MarksAt w sv l := by
  rcases h.2 with ⟨rfl, h0⟩ | ⟨g, cap, cur, rfl, hb, hg, hn, hm, hs, ht⟩
  · have : l = [] := List.eq_nil_of_length_eq_zero h0
    subst this
    exact MarksAt.nil _ _ _
  · refine ⟨_, cap, rfl, fun i x hx => ⟨g, 0, rfl, ?_, ?_⟩⟩
    · have hi := (List.getElem?_eq_some_iff.1 hx).1
      rw [Nat.zero_add, World.ownsRow.cellAt h (i * 2) (by omega), List.getElem?_map, Nat.mul_comm, flat_fst, hx]
      rfl
    · have hi := (List.getElem?_eq_some_iff.1 hx).1
      rw [Nat.zero_add, World.ownsRow.cellAt h (i * 2 + 1) (by omega), List.getElem?_map, Nat.mul_comm, flat_snd, hx]
      rfl
theorem OwnM.lt {w : World} {B : Nat} {sv : Value} {l : List Mk} (h : OwnM w B sv l) : ∀ k, sv.ownBlock = some k → B ≤ k ∧ k < w.heap.size := World.ownsRow.lt h
theorem OwnM.below {w w' : World} {B : Nat} {sv : Value} {l : List Mk} (h : OwnM w B sv l) (hb : Below w.heap.size w w') : OwnM w' B sv l := by
  refine ⟨h.1, ?_⟩
  rcases h.2 with hn | ⟨g, cap, cur, e, hB, hg, r⟩
  · exact .inl hn
  · exact .inr ⟨g, cap, cur, e, hB, (hb.block g (Array.getElem?_eq_some_iff.1 hg).1).trans hg, r⟩
theorem OwnM.mono {w : World} {B C : Nat} {sv : Value} {l : List Mk} (h : OwnM w B sv l) (hc : C ≤ B) : OwnM w C sv l := World.ownsRow.mono h hc
theorem inf70 : ∃ i, Try.prog.info? 70 = some i ∧ i.zero = some (.agg #[.int .i64 0, .int .i64 0]) ∧ i.size = 2 ∧ i.bytes = 16 := by
  have := info70
  cases hq : Try.prog.info? 70 with
  | none => simp [hq] at this
  | some i => simp [hq] at this; exact ⟨i, rfl, this⟩
/-- The cells of marks, one by one. -/
theorem marks_cells {w : World} {b o : Nat} {m : List Mk} (hc : ∀ i x, m[i]? = some x → w.cell? ⟨b, o + i * 2, none⟩ = some (.int .i64 x.1) ∧ w.cell? ⟨b, o + i * 2 + 1, none⟩ = some (.int .i64 x.2)) (j : Nat) (u : Value) (hu : (i64s (flat m))[j]? = some u) : w.cell? ((⟨b, o, none⟩ : Addr).add j) = some u := by
  rw [show (⟨b, o, none⟩ : Addr).add j = ⟨b, o + j, none⟩ by unfold Addr.add; split <;> simp_all]
  rw [List.getElem?_map] at hu
  rcases (show j % 2 = 0 ∨ j % 2 = 1 by omega) with h | h
  · have e : j = 2 * (j / 2) := by omega
    rw [e, flat_fst] at hu
    cases hz : m[j / 2]? with
    | none => simp [hz] at hu
    | some z =>
      simp [hz] at hu
      subst hu
      have := (hc _ z hz).1
      rwa [show o + j / 2 * 2 = o + j by omega] at this
  · have e : j = 2 * (j / 2) + 1 := by omega
    rw [e, flat_snd] at hu
    cases hz : m[j / 2]? with
    | none => simp [hz] at hu
    | some z =>
      simp [hz] at hu
      subst hu
      have := (hc _ z hz).2
      rwa [show o + j / 2 * 2 + 1 = o + j by omega] at this
/-- Marks appended. -/
theorem app_ownM {w : World} {B : Nat} {sv tv : Value} {l m : List Mk} (h : OwnM w B sv l) (hB : B ≤ w.heap.size) (k : MarksAt w tv m) (hlen : l.length + m.length ≤ 1000000) (ty : TypeId) :
    ∃ sv' w', (Builtin.append_ #[61, 61] ty #[sv, tv]).run Try.prog w = .ok sv' w' ∧ OwnM w' B sv' (l ++ m) ∧ w.grownBy w' sv.ownBlock := by
  obtain ⟨i, hi, hz, hs, hby⟩ := inf70
  cases m with
  | nil =>
    have hsl : ∃ a c, sv = .slice a l.length c ∧ l.length ≤ c := by
      rcases h.2 with ⟨e, h0⟩ | ⟨g, cap, cur, e, _, _, hn, _⟩
      · exact ⟨none, 0, by rw [e, h0], by omega⟩
      · exact ⟨_, cap, e, hn⟩
    obtain ⟨a, c, rfl, hle⟩ := hsl
    obtain ⟨ta, tc, rfl, _⟩ := k
    refine ⟨_, w, run_append_nothing w 61 61 ty 70 i Try.underlying61 hi a l.length c hle _ ⟨.inl ⟨70, Try.underlying61⟩, fun _ => by rfl, ?_, ?_, by simp, fun u hu => by cases hu⟩, by rw [List.append_nil]; exact h, ⟨rfl, rfl, rfl, Nat.le_refl _, fun _ _ _ => rfl⟩⟩
    · cases ta <;> simp [Builtin.firstCells, hs, loadCells, loadCellsFrom]
    · cases ta <;> simp [Builtin.firstCells, hs, loadCells, loadCellsFrom]
  | cons x m =>
    obtain ⟨b, o, c, rfl, hc⟩ := k.has (by simp)
    obtain ⟨v', w', hr, h2, h3, _⟩ := run_append_own (P := Try.prog) w B 61 ty 70 i (.agg #[.int .i64 0, .int .i64 0]) 2 16 Try.underlying61 hi hz hs hby rfl (by decide) sv l.length (i64s (flat l)) h ⟨b, o, none⟩ (x :: m).length c (i64s (flat (x :: m))) (by rw [List.length_map, sflat_length]; omega) (fun j u hu => marks_cells hc j u hu) (fun u hu => by obtain ⟨z, _, rfl⟩ := List.mem_map.1 hu; rfl) (by simp only [maxLen]; omega) (by omega) hB
    refine ⟨v', w', hr, ?_, h3⟩
    unfold OwnM
    rw [List.length_append, show i64s (flat (l ++ x :: m)) = i64s (flat l) ++ i64s (flat (x :: m)) by rw [flat_append]; exact List.map_append]
    exact h2
section
variable {ops : Array Oper} {rest : List Oper} {dst : Option Tmp} {x y : Operand} {t2 : TypeId} {pos : String} {after : Array Edge} {guard : Option (Nat × Bool)} {a : Act} {w : World} {Q : Exit → Act → World → Prop}
theorem app_LM {B : Nat} {sv tv : Value} {l m : List Mk} (h : OwnM w B sv l) (hB : B ≤ w.heap.size) (k : MarksAt w tv m) (hlen : l.length + m.length ≤ 1000000) (hx : a.eval x = sv) (hy : a.eval y = tv)
    (hw : Region.wanted ⟨dst, .call { callee := .builtin .append, args := #[x, y], argTypes := #[61, 61] }, t2, pos, after, guard⟩ (yielded ops a.tmps) = true)
    (hh : ∀ sv' w', OwnM w' B sv' (l ++ m) → Below B w w' → wpList Try.prog ops Q rest (a.put dst sv') w') : wpList Try.prog ops Q (⟨dst, .call { callee := .builtin .append, args := #[x, y], argTypes := #[61, 61] }, t2, pos, after, guard⟩ :: rest) a w := by
  obtain ⟨sv', w', hr, ho, hg⟩ := app_ownM h hB k hlen t2
  exact wpList_run sv' w' hw (exec_app a.eval _ x y 61 61 rfl sv tv sv' hx hy hr) (hh sv' w' ho (grown_below hg hB fun k hk => (h.lt k hk).1))
end
theorem app_WM {B : Nat} {sv tv : Value} {l m : List Mk} {o : Oper} {a : Act} {w : World} {K : Act → World → Prop} {Q : Exit → Act → World → Prop} (x y : Operand) (dst : Option Tmp) (hd : o.dst = dst) (ho : o.op = .call { callee := .builtin .append, args := #[x, y], argTypes := #[61, 61] })
    (h : OwnM w B sv l) (hB : B ≤ w.heap.size) (k : MarksAt w tv m) (hlen : l.length + m.length ≤ 1000000) (hx : a.eval x = sv) (hy : a.eval y = tv)
    (hh : ∀ sv' w', OwnM w' B sv' (l ++ m) → Below B w w' → K (a.put dst sv') w') : o.wp Try.prog a w K Q := by
  obtain ⟨sv', w', hr, hO, hg⟩ := app_ownM h hB k hlen o.type
  exact wp_runTo dst hd sv' w' (exec_app a.eval o x y 61 61 ho sv tv sv' hx hy hr) (hh sv' w' hO (grown_below hg hB fun k hk => (h.lt k hk).1))
theorem OwnM.lit (w : World) (B : Nat) (hB : B ≤ w.heap.size) (l : List Mk) (hl : l.length ≤ 1000000) (cs : Array Value) (hc : cs = (i64s (flat l)).toArray) : OwnM (w.alloc (.cells cs 70)) B (.slice (some ⟨w.heap.size, 0, none⟩) l.length l.length) l := by
  subst hc
  refine ⟨by rw [List.length_map, sflat_length]; omega, .inr ⟨w.heap.size, l.length, _, rfl, hB, heap_alloc_new w _, Nat.le_refl _, by simp only [maxLen]; omega, by simp [sflat_length]; omega, List.take_of_length_le (by simp [sflat_length]; omega)⟩⟩
theorem rsm_one {w : World} {sv : Value} {l : List Mk} (h : MarksAt w sv l) (n : Int) (b : Bool) (e : Int) : ∀ v ∈ (#[.int .u32 n, .bool b, sv, .int .i64 e] : Array Value), v.oneCell' = true := by
  obtain ⟨a, cap, rfl, _⟩ := h
  intro v hv
  simp only [List.mem_toArray, List.mem_cons, List.not_mem_nil, or_false] at hv
  rcases hv with rfl | rfl | rfl | rfl <;> rfl
theorem zero63 : (Try.prog.info? 63).bind (·.zero) = some (.agg #[.int .u32 0, .bool false, .slice none 0 0, .int .i64 0]) := by kernel_rfl
theorem built63 (n : Int) (b : Bool) (a : Option Addr) (k c : Nat) : Try.prog.built 63 [(0, .int .u32 n), (1, .bool b), (2, .slice a k c)] = some #[.int .u32 n, .bool b, .slice a k c, .int .i64 0] := by kernel_rfl
theorem build63 {w : World} {sv : Value} {l : List Mk} (h : MarksAt w sv l) (n : Int) (b : Bool) (w' : World) : (Instr.build 63 #[(0, .int .u32 n), (1, .bool b), (2, sv)]).run Try.prog w' = .ok (.agg #[.int .u32 n, .bool b, sv, .int .i64 0]) w' := by
  obtain ⟨a, cap, rfl, _⟩ := h
  exact run_build w' 63 _ _ (built63 n b a _ cap)



end Go.Proofs.Ytbhaifdhmfmeoaa
