/- Slices that one makes and appends to. -/
import Derived.Test.YtbhaifdhmfmeoaaDecode
import Derived.Deep.Upon
import Derived.Lib.AppendZeros
namespace Go.Proofs.Ytbhaifdhmfmeoaa
set_option linter.unusedSimpArgs false
set_option linter.unusedVariables false
open Go.RowKit

/-- A slice of one's own: its row was made from B on. -/
def Own (w : World) (B : Nat) (sv : Value) (l : List Int) : Prop := w.ownsRow B 5 1 sv l.length (u8s l)
theorem Own.nil (w : World) (B : Nat) : Own w B (.slice none 0 0) [] := World.ownsRow_nil w B 5 1
theorem Own.bytes {w : World} {B : Nat} {sv : Value} {l : List Int} (h : Own w B sv l) : BytesAt w sv l := by
  rcases h.2 with ⟨rfl, h0⟩ | ⟨g, cap, cur, rfl, hb, hg, hn, hm, hs, ht⟩
  · have : l = [] := List.eq_nil_of_length_eq_zero h0
    subst this
    exact BytesAt.nil _ _ _
  · refine ⟨_, cap, rfl, fun i x hx => ⟨g, 0, rfl, ?_⟩⟩
    rw [Nat.zero_add, World.ownsRow.cellAt h i (by have := (List.getElem?_eq_some_iff.1 hx).1; omega), List.getElem?_map, hx]
    rfl
theorem Own.lt {w : World} {B : Nat} {sv : Value} {l : List Int} (h : Own w B sv l) : ∀ k, sv.ownBlock = some k → B ≤ k ∧ k < w.heap.size := World.ownsRow.lt h
theorem Own.below {w w' : World} {B : Nat} {sv : Value} {l : List Int} (h : Own w B sv l) (hb : Below w.heap.size w w') : Own w' B sv l := by
  refine ⟨h.1, ?_⟩
  rcases h.2 with hn | ⟨g, cap, cur, e, hB, hg, r⟩
  · exact .inl hn
  · exact .inr ⟨g, cap, cur, e, hB, (hb.block g (Array.getElem?_eq_some_iff.1 hg).1).trans hg, r⟩
theorem Own.mono {w : World} {B C : Nat} {sv : Value} {l : List Int} (h : Own w B sv l) (hc : C ≤ B) : Own w C sv l := World.ownsRow.mono h hc
theorem grown_below {w w' : World} {row : Option Nat} {B : Nat} (h : w.grownBy w' row) (hB : B ≤ w.heap.size) (hr : ∀ k, row = some k → B ≤ k) : Below B w w' :=
  ⟨h.os, h.tape, h.output, h.size, fun k hk => h.block k (by omega) fun e => by have := hr k e.symm; omega⟩
theorem inf5 : ∃ i, Try.prog.info? 5 = some i ∧ i.zero = some (.int .u8 0) ∧ i.size = 1 ∧ i.bytes = 1 := by
  have := info5
  cases hq : Try.prog.info? 5 with
  | none => simp [hq] at this
  | some i => simp [hq] at this; exact ⟨i, rfl, this⟩
/-- Bytes appended. -/
theorem app_own {w : World} {B : Nat} {sv tv : Value} {l m : List Int} (h : Own w B sv l) (hB : B ≤ w.heap.size) (k : BytesAt w tv m) (hlen : l.length + m.length ≤ 1000000) (ty : TypeId) :
    ∃ sv' w', (Builtin.append_ #[54, 54] ty #[sv, tv]).run Try.prog w = .ok sv' w' ∧ Own w' B sv' (l ++ m) ∧ w.grownBy w' sv.ownBlock := by
  obtain ⟨i, hi, hz, hs, hby⟩ := inf5
  cases m with
  | nil =>
    have hsl : ∃ a c, sv = .slice a l.length c ∧ l.length ≤ c := by
      rcases h.2 with ⟨e, h0⟩ | ⟨g, cap, cur, e, _, _, hn, _⟩
      · exact ⟨none, 0, by rw [e, h0], by omega⟩
      · exact ⟨_, cap, e, hn⟩
    obtain ⟨a, c, rfl, hle⟩ := hsl
    obtain ⟨ta, tc, rfl, _⟩ := k
    refine ⟨_, w, run_append_nothing w 54 54 ty 5 i Try.underlying54 hi a l.length c hle _ ⟨.inl ⟨5, Try.underlying54⟩, fun _ => by rfl, ?_, ?_, by simp, fun u hu => by cases hu⟩, by rw [List.append_nil]; exact h, ⟨rfl, rfl, rfl, Nat.le_refl _, fun _ _ _ => rfl⟩⟩
    · cases ta <;> simp [Builtin.firstCells, hs, loadCells, loadCellsFrom]
    · cases ta <;> simp [Builtin.firstCells, hs, loadCells, loadCellsFrom]
  | cons x m =>
    obtain ⟨b, o, c, rfl, hc⟩ := k.has (by simp)
    obtain ⟨v', w', hr, h2, h3, _⟩ := run_append_own (P := Try.prog) w B 54 ty 5 i (.int .u8 0) 1 1 Try.underlying54 hi hz hs hby rfl (by decide) sv l.length (u8s l) h ⟨b, o, none⟩ (x :: m).length c (u8s (x :: m)) (by simp) (fun j u hu => by
      rw [List.getElem?_map] at hu
      cases hz : (x :: m)[j]? with
      | none => simp [hz] at hu
      | some z =>
        simp [hz] at hu
        subst hu
        rw [show (⟨b, o, none⟩ : Addr).add j = ⟨b, o + j, none⟩ by unfold Addr.add; split <;> simp_all]
        exact hc j z hz) (fun u hu => by obtain ⟨z, _, rfl⟩ := List.mem_map.1 hu; rfl) (by simp only [maxLen]; omega) (by omega) hB
    refine ⟨v', w', hr, ?_, h3⟩
    unfold Own
    rw [List.length_append, show u8s (l ++ x :: m) = u8s l ++ u8s (x :: m) by simp]
    exact h2
theorem zero_cells (n : Nat) : (Builtin.zeroCells (#[.int .u8 0] : Array Value) n).toList = u8s (zeros n) := by
  unfold Builtin.zeroCells
  apply List.ext_getElem?
  intro i
  by_cases h : i < n <;> simp [zeros, h, Nat.mod_one]
/-- Zeros appended. -/
theorem app_zeros {w : World} {B : Nat} {sv : Value} {l : List Int} (h : Own w B sv l) (hl : 0 < l.length) (hB : B ≤ w.heap.size) (k : Nat) (hlen : l.length + k ≤ 1000000) (ty : TypeId) :
    ∃ sv' w', (Builtin.append_ #[54, 3] ty #[sv, .int .i64 k]).run Try.prog w = .ok sv' w' ∧ Own w' B sv' (l ++ zeros k) ∧ w.grownBy w' sv.ownBlock := by
  obtain ⟨i, hi, hz, hs, hby⟩ := inf5
  have hlen2 : (u8s (l ++ zeros k)).length = (l.length + k) * 1 := by simp [zeros]
  have hu : u8s (l ++ zeros k) = u8s l ++ u8s (zeros k) := by simp
  have hw : IntKind.i64.wrap (k : Int) = k := by rw [IntKind.wrap_i64]; omega
  have hneg : ¬ ((k : Int) < 0) := by omega
  have h48i : ¬ (281474976710656 < (k : Int) * ((i.bytes : Nat) : Int)) := by rw [hby]; omega
  rcases h.2 with ⟨rfl, h0⟩ | ⟨g, cap, cur, rfl, hbg, hg, hnc, hcm, hcs, htake⟩
  · omega
  · by_cases hroom : l.length + k ≤ cap
    · have hst := run_storeCells_at Try.prog g (l.length * 1) 5 (u8s (zeros k)) 0 cur w hg (by simp [zeros]; omega) (fun v hv => by obtain ⟨z, _, rfl⟩ := List.mem_map.1 hv; rfl)
      simp only [Nat.add_zero, Nat.mul_one] at hst
      refine ⟨.slice (some ⟨g, 0, none⟩) (l.length + k) cap, w.setRow g (cur.toList.take l.length ++ u8s (zeros k) ++ cur.toList.drop (l.length + (u8s (zeros k)).length)).toArray, ?_, ?_, ?_⟩
      · by_cases hk : k = 0
        · subst hk
          have hw0 : IntKind.i64.wrap 0 = 0 := rfl
          have he : cur.toList.take l.length ++ u8s (zeros 0) ++ cur.toList.drop (l.length + (u8s (zeros 0)).length) = cur.toList := by simp [zeros]
          rw [he, Array.toArray_toList, setRow_self w g cur 5 (0, 0) hg]
          simp [Builtin.append_, run_underlying Try.underlying54, run_underlying Try.underlying3, sizeOf, typeInfo, hi, asInt, asIntOf, hw0, hs, Addr.add_lit, storeCells, hnc]
        · have hst2 : (storeCells ⟨g, l.length, none⟩ (Builtin.zeroCells (#[.int .u8 0] : Array Value) k).toList).run Try.prog w = .ok () (w.setRow g (cur.toList.take l.length ++ u8s (zeros k) ++ cur.toList.drop (l.length + (u8s (zeros k)).length)).toArray) := by
            rw [zero_cells]
            exact hst
          simp [Builtin.append_, run_underlying Try.underlying54, run_underlying Try.underlying3, sizeOf, typeInfo, zeroValue, hi, hz, asInt, asIntOf, hw, hneg, h48i, hs, hk, hroom, Addr.add_lit, Value.cells, hst2]
      · refine ⟨hlen2.trans (by simp [zeros]), .inr ⟨g, cap, _, by simp [zeros], hbg, setRow_heap w g cur _ 5 _ hg, by simp [zeros]; omega, hcm, ?_, ?_⟩⟩
        · simp [zeros]
          omega
        · rw [hu]
          have : cur.toList.take l.length = u8s l := by simpa using htake
          rw [this]
          simp [zeros]
          rw [← List.append_assoc]
          exact List.take_left' (by simp)
      · exact ⟨rfl, rfl, rfl, by simp, fun k _ hk => setRow_other w g k _ (fun e => hk (by simp [Value.ownBlock, e]))⟩
    · have holds : ∀ j u, (u8s l)[j]? = some u → w.cell? ((⟨g, 0, none⟩ : Addr).add j) = some u := World.ownsRow.cells h (g := g) rfl
      have hfo := run_firstCells_some (P := Try.prog) w.drew i.size l.length ⟨g, 0, none⟩ l.length cap (u8s l) (by rw [hs]; simp) (by simpa using holds)
      have h63' : ¬ (9223372036854775807 < ((l.length : Int) + (k : Int))) := by omega
      have h48' : ¬ (281474976710656 < Builtin.nextslicecap (l.length + k) cap * i.bytes) := by
        have := growslice_fits (need := l.length + k) (old := cap) (bytes := i.bytes) (by omega) (by rw [hby]; omega)
        omega
      have hk : ¬ k = 0 := by omega
      have hge := grownCap_ge w (l.length + k) cap 5
      have hcm2 : grownCap w (l.length + k) cap 5 ≤ maxLen := grownCap_le_maxLen w (l.length + k) cap 5 (by simp only [maxLen]; omega)
      refine ⟨.slice (some ⟨w.heap.size, 0, none⟩) (l.length + k) (grownCap w (l.length + k) cap 5), w.drew.alloc (.cells ((u8s l).toArray ++ Builtin.zeroCells #[.int .u8 0] k ++ Builtin.zeroCells #[.int .u8 0] (grownCap w (l.length + k) cap 5 - (l.length + k))) 5), ?_, ?_, ?_⟩
      · simp only [hs] at hfo
        simp [Builtin.append_, run_underlying Try.underlying54, run_underlying Try.underlying3, sizeOf, typeInfo, zeroValue, hi, hz, asInt, asIntOf, hw, hneg, h48i, hroom, h63', h48', Question.forced, hs, hk, Value.cells, hfo, newRow, grownCap]
      · refine ⟨hlen2.trans (by simp [zeros]), .inr ⟨w.heap.size, _, _, by simp [zeros], hB, heap_alloc_new w.drew _, by simp [zeros]; omega, hcm2, ?_, ?_⟩⟩
        · simp [Builtin.zeroCells]
          omega
        · rw [hu]
          simp only [Array.toList_append, zero_cells]
          exact List.take_left' (by simp [zeros])
      · exact ⟨rfl, rfl, rfl, by simp, fun j hj _ => heap_alloc_old w.drew _ hj⟩
section
variable {P : Program}
theorem exec_app {w w' : World} (ev : Operand → Value) (op : Oper) (x y : Operand) (t1 t2 : TypeId) (ho : op.op = .call { callee := .builtin .append, args := #[x, y], argTypes := #[t1, t2] }) (vx vy v' : Value) (hx : ev x = vx) (hy : ev y = vy)
    (hr : (Builtin.append_ #[t1, t2] op.type #[vx, vy]).run P w = .ok v' w') : (execOp ev op).run P w = .ok (.value v') w' := by
  unfold execOp
  simp only [ho, resolve, invoke, builtin, Sem.run_bind, Sem.run_pure, Result.andThen_ok, List.map_toArray, List.map_cons, List.map_nil, hx, hy, hr]
end
section
variable {ops : Array Oper} {rest : List Oper} {dst : Option Tmp} {x y : Operand} {t2 : TypeId} {pos : String} {after : Array Edge} {guard : Option (Nat × Bool)} {a : Act} {w : World} {Q : Exit → Act → World → Prop}
theorem app_L {B : Nat} {sv tv : Value} {l m : List Int} (h : Own w B sv l) (hB : B ≤ w.heap.size) (k : BytesAt w tv m) (hlen : l.length + m.length ≤ 1000000) (hx : a.eval x = sv) (hy : a.eval y = tv)
    (hw : Region.wanted ⟨dst, .call { callee := .builtin .append, args := #[x, y], argTypes := #[54, 54] }, t2, pos, after, guard⟩ (yielded ops a.tmps) = true)
    (hh : ∀ sv' w', Own w' B sv' (l ++ m) → Below B w w' → wpList Try.prog ops Q rest (a.put dst sv') w') : wpList Try.prog ops Q (⟨dst, .call { callee := .builtin .append, args := #[x, y], argTypes := #[54, 54] }, t2, pos, after, guard⟩ :: rest) a w := by
  obtain ⟨sv', w', hr, ho, hg⟩ := app_own h hB k hlen t2
  exact wpList_run sv' w' hw (exec_app a.eval _ x y 54 54 rfl sv tv sv' hx hy hr) (hh sv' w' ho (grown_below hg hB fun k hk => (h.lt k hk).1))
end
theorem app_W {B : Nat} {sv tv : Value} {l m : List Int} {o : Oper} {a : Act} {w : World} {K : Act → World → Prop} {Q : Exit → Act → World → Prop} (x y : Operand) (dst : Option Tmp) (hd : o.dst = dst) (ho : o.op = .call { callee := .builtin .append, args := #[x, y], argTypes := #[54, 54] })
    (h : Own w B sv l) (hB : B ≤ w.heap.size) (k : BytesAt w tv m) (hlen : l.length + m.length ≤ 1000000) (hx : a.eval x = sv) (hy : a.eval y = tv)
    (hh : ∀ sv' w', Own w' B sv' (l ++ m) → Below B w w' → K (a.put dst sv') w') : o.wp Try.prog a w K Q := by
  obtain ⟨sv', w', hr, hO, hg⟩ := app_own h hB k hlen o.type
  exact wp_runTo dst hd sv' w' (exec_app a.eval o x y 54 54 ho sv tv sv' hx hy hr) (hh sv' w' hO (grown_below hg hB fun k hk => (h.lt k hk).1))
theorem zeros_W {B : Nat} {sv : Value} {l : List Int} {k : Nat} {o : Oper} {a : Act} {w : World} {K : Act → World → Prop} {Q : Exit → Act → World → Prop} (x y : Operand) (dst : Option Tmp) (hd : o.dst = dst) (ho : o.op = .call { callee := .builtin .append, args := #[x, y], argTypes := #[54, 3] })
    (h : Own w B sv l) (hl : 0 < l.length) (hB : B ≤ w.heap.size) (hlen : l.length + k ≤ 1000000) (hx : a.eval x = sv) (hy : a.eval y = .int .i64 k)
    (hh : ∀ sv' w', Own w' B sv' (l ++ zeros k) → Below B w w' → K (a.put dst sv') w') : o.wp Try.prog a w K Q := by
  obtain ⟨sv', w', hr, hO, hg⟩ := app_zeros h hl hB k hlen o.type
  exact wp_runTo dst hd sv' w' (exec_app a.eval o x y 54 3 ho sv _ sv' hx hy hr) (hh sv' w' hO (grown_below hg hB fun k hk => (h.lt k hk).1))
theorem Own.lit (w : World) (B : Nat) (hB : B ≤ w.heap.size) (l : List Int) (hl : l.length ≤ 1000000) (cs : Array Value) (hc : cs = (u8s l).toArray) : Own (w.alloc (.cells cs 5)) B (.slice (some ⟨w.heap.size, 0, none⟩) l.length l.length) l := by
  subst hc
  exact ⟨by simp, .inr ⟨w.heap.size, l.length, _, rfl, hB, heap_alloc_new w _, Nat.le_refl _, by simp only [maxLen]; omega, by simp, List.take_of_length_le (by simp)⟩⟩
set_option maxRecDepth 100000 in
theorem rput4_any (v : Int) (hv : 0 ≤ v ∧ v < 4294967296) (w : World) : Calls Try.prog 43 #[.int .u32 v, .int .i64 4] w fun e w' => ∃ sv, e = .returned sv ∧ Own w' w.heap.size sv (le 4 v) ∧ Below w.heap.size w w' := by
  obtain ⟨hv1, hv2⟩ := hv
  go_enter Try.func43, Try.ntmps43
  go_wp2_with fail
  go_loopg [5, 6] 4 (fun q s i wr => ∃ k : Nat, 4 - k ≤ q ∧ k ≤ 4 ∧ i = .int .i64 k ∧ Own wr w.heap.size s ((le 4 v).take k) ∧ Below w.heap.size w wr)
  case atStart => exact ⟨0, by omega, by omega, rfl, by rw [List.take_zero]; exact Own.nil _ _, Below.refl _ _⟩
  case round =>
    obtain ⟨k, hg, hk, rfl, hown, hbel⟩ := hrel
    have HO := Lib.hid hown
    have HB := Lib.hid hbel
    clear hown hbel
    rcases (show k = 0 ∨ k = 1 ∨ k = 2 ∨ k = 3 ∨ k = 4 by omega) with rfl | rfl | rfl | rfl | rfl
    · repeat (first | (with_reducible refine stopR (id := 5) ?_) | go_values | go_skip | go_guarded | go_step | go_upon | go_back)
      refine Stop.mk (wp_region_lit ?_)
      refine takeL u5 rfl (by go_simp) ?_
      try simp only [Act.put, List.setIfInBounds_toArray, List.set_cons_succ, List.set_cons_zero]
      refine takeL (.int .u32 v) rfl (by go_simp) ?_
      try simp only [Act.put, List.setIfInBounds_toArray, List.set_cons_succ, List.set_cons_zero]
      refine takeL (.int .i64 0) rfl (by go_simp) ?_
      try simp only [Act.put, List.setIfInBounds_toArray, List.set_cons_succ, List.set_cons_zero]
      refine takeL (.int .i64 0) rfl (by go_simp <;> rfl) ?_
      try simp only [Act.put, List.setIfInBounds_toArray, List.set_cons_succ, List.set_cons_zero]
      refine takeL (.int .u64 0) rfl (by go_simp <;> rfl) ?_
      try simp only [Act.put, List.setIfInBounds_toArray, List.set_cons_succ, List.set_cons_zero]
      refine takeL (.int .u32 (v)) rfl (by go_simp <;> first | rfl | omega) ?_
      try simp only [Act.put, List.setIfInBounds_toArray, List.set_cons_succ, List.set_cons_zero]
      refine takeL (.int .u8 (v % 256)) rfl (by go_simp <;> (rw [IntKind.wrap_u8])) ?_
      try simp only [Act.put, List.setIfInBounds_toArray, List.set_cons_succ, List.set_cons_zero]
      refine wpList_run (.slice (some ⟨wr.heap.size, 0, none⟩) 1 1) (wr.alloc (.cells #[.int .u8 (v % 256)] 5)) rfl (by go_simp) ?_
      try simp only [Act.put, List.setIfInBounds_toArray, List.set_cons_succ, List.set_cons_zero]
      have hb1 := (Below.refl wr.heap.size wr).alloc (Nat.le_refl _) (.cells #[.int .u8 (v % 256)] 5)
      have hby := (Own.lit wr wr.heap.size (Nat.le_refl _) [v % 256] (by simp) _ rfl).bytes
      refine app_L (HO.out.below hb1) (Nat.le_trans HB.out.size hb1.size) hby (by simp [le]) rfl rfl rfl ?_
      intro sv' w' hO hB'
      try simp only [Act.put, List.setIfInBounds_toArray, List.set_cons_succ, List.set_cons_zero]
      have HO2 := Lib.hid hO
      have HB2 := Lib.hid ((HB.out.trans (hb1.mono HB.out.size)).trans hB')
      clear hO hB' hb1 hby
      refine takeL sv' rfl (by go_simp) ?_
      try simp only [Act.put, List.setIfInBounds_toArray, List.set_cons_succ, List.set_cons_zero]
      refine wpList_nil ?_
      go_wp2_with fail
      go_roundg (4 - 1)
      case measure => omega
      case rel => exact ⟨1, by omega, by omega, by go_num, by simpa [le4] using HO2.out, HB2.out⟩
    · repeat (first | (with_reducible refine stopR (id := 5) ?_) | go_values | go_skip | go_guarded | go_step | go_upon | go_back)
      refine Stop.mk (wp_region_lit ?_)
      refine takeL u5 rfl (by go_simp) ?_
      try simp only [Act.put, List.setIfInBounds_toArray, List.set_cons_succ, List.set_cons_zero]
      refine takeL (.int .u32 v) rfl (by go_simp) ?_
      try simp only [Act.put, List.setIfInBounds_toArray, List.set_cons_succ, List.set_cons_zero]
      refine takeL (.int .i64 1) rfl (by go_simp) ?_
      try simp only [Act.put, List.setIfInBounds_toArray, List.set_cons_succ, List.set_cons_zero]
      refine takeL (.int .i64 8) rfl (by go_simp <;> rfl) ?_
      try simp only [Act.put, List.setIfInBounds_toArray, List.set_cons_succ, List.set_cons_zero]
      refine takeL (.int .u64 8) rfl (by go_simp <;> rfl) ?_
      try simp only [Act.put, List.setIfInBounds_toArray, List.set_cons_succ, List.set_cons_zero]
      refine takeL (.int .u32 (v / 256)) rfl (by go_simp <;> first | rfl | omega) ?_
      try simp only [Act.put, List.setIfInBounds_toArray, List.set_cons_succ, List.set_cons_zero]
      refine takeL (.int .u8 (v / 256 % 256)) rfl (by go_simp <;> (rw [IntKind.wrap_u8])) ?_
      try simp only [Act.put, List.setIfInBounds_toArray, List.set_cons_succ, List.set_cons_zero]
      refine wpList_run (.slice (some ⟨wr.heap.size, 0, none⟩) 1 1) (wr.alloc (.cells #[.int .u8 (v / 256 % 256)] 5)) rfl (by go_simp) ?_
      try simp only [Act.put, List.setIfInBounds_toArray, List.set_cons_succ, List.set_cons_zero]
      have hb1 := (Below.refl wr.heap.size wr).alloc (Nat.le_refl _) (.cells #[.int .u8 (v / 256 % 256)] 5)
      have hby := (Own.lit wr wr.heap.size (Nat.le_refl _) [v / 256 % 256] (by simp) _ rfl).bytes
      refine app_L (HO.out.below hb1) (Nat.le_trans HB.out.size hb1.size) hby (by simp [le]) rfl rfl rfl ?_
      intro sv' w' hO hB'
      try simp only [Act.put, List.setIfInBounds_toArray, List.set_cons_succ, List.set_cons_zero]
      have HO2 := Lib.hid hO
      have HB2 := Lib.hid ((HB.out.trans (hb1.mono HB.out.size)).trans hB')
      clear hO hB' hb1 hby
      refine takeL sv' rfl (by go_simp) ?_
      try simp only [Act.put, List.setIfInBounds_toArray, List.set_cons_succ, List.set_cons_zero]
      refine wpList_nil ?_
      go_wp2_with fail
      go_roundg (4 - 2)
      case measure => omega
      case rel => exact ⟨2, by omega, by omega, by go_num, by simpa [le4] using HO2.out, HB2.out⟩
    · repeat (first | (with_reducible refine stopR (id := 5) ?_) | go_values | go_skip | go_guarded | go_step | go_upon | go_back)
      refine Stop.mk (wp_region_lit ?_)
      refine takeL u5 rfl (by go_simp) ?_
      try simp only [Act.put, List.setIfInBounds_toArray, List.set_cons_succ, List.set_cons_zero]
      refine takeL (.int .u32 v) rfl (by go_simp) ?_
      try simp only [Act.put, List.setIfInBounds_toArray, List.set_cons_succ, List.set_cons_zero]
      refine takeL (.int .i64 2) rfl (by go_simp) ?_
      try simp only [Act.put, List.setIfInBounds_toArray, List.set_cons_succ, List.set_cons_zero]
      refine takeL (.int .i64 16) rfl (by go_simp <;> rfl) ?_
      try simp only [Act.put, List.setIfInBounds_toArray, List.set_cons_succ, List.set_cons_zero]
      refine takeL (.int .u64 16) rfl (by go_simp <;> rfl) ?_
      try simp only [Act.put, List.setIfInBounds_toArray, List.set_cons_succ, List.set_cons_zero]
      refine takeL (.int .u32 (v / 65536)) rfl (by go_simp <;> first | rfl | omega) ?_
      try simp only [Act.put, List.setIfInBounds_toArray, List.set_cons_succ, List.set_cons_zero]
      refine takeL (.int .u8 (v / 65536 % 256)) rfl (by go_simp <;> (rw [IntKind.wrap_u8])) ?_
      try simp only [Act.put, List.setIfInBounds_toArray, List.set_cons_succ, List.set_cons_zero]
      refine wpList_run (.slice (some ⟨wr.heap.size, 0, none⟩) 1 1) (wr.alloc (.cells #[.int .u8 (v / 65536 % 256)] 5)) rfl (by go_simp) ?_
      try simp only [Act.put, List.setIfInBounds_toArray, List.set_cons_succ, List.set_cons_zero]
      have hb1 := (Below.refl wr.heap.size wr).alloc (Nat.le_refl _) (.cells #[.int .u8 (v / 65536 % 256)] 5)
      have hby := (Own.lit wr wr.heap.size (Nat.le_refl _) [v / 65536 % 256] (by simp) _ rfl).bytes
      refine app_L (HO.out.below hb1) (Nat.le_trans HB.out.size hb1.size) hby (by simp [le]) rfl rfl rfl ?_
      intro sv' w' hO hB'
      try simp only [Act.put, List.setIfInBounds_toArray, List.set_cons_succ, List.set_cons_zero]
      have HO2 := Lib.hid hO
      have HB2 := Lib.hid ((HB.out.trans (hb1.mono HB.out.size)).trans hB')
      clear hO hB' hb1 hby
      refine takeL sv' rfl (by go_simp) ?_
      try simp only [Act.put, List.setIfInBounds_toArray, List.set_cons_succ, List.set_cons_zero]
      refine wpList_nil ?_
      go_wp2_with fail
      go_roundg (4 - 3)
      case measure => omega
      case rel => exact ⟨3, by omega, by omega, by go_num, by simpa [le4] using HO2.out, HB2.out⟩
    · repeat (first | (with_reducible refine stopR (id := 5) ?_) | go_values | go_skip | go_guarded | go_step | go_upon | go_back)
      refine Stop.mk (wp_region_lit ?_)
      refine takeL u5 rfl (by go_simp) ?_
      try simp only [Act.put, List.setIfInBounds_toArray, List.set_cons_succ, List.set_cons_zero]
      refine takeL (.int .u32 v) rfl (by go_simp) ?_
      try simp only [Act.put, List.setIfInBounds_toArray, List.set_cons_succ, List.set_cons_zero]
      refine takeL (.int .i64 3) rfl (by go_simp) ?_
      try simp only [Act.put, List.setIfInBounds_toArray, List.set_cons_succ, List.set_cons_zero]
      refine takeL (.int .i64 24) rfl (by go_simp <;> rfl) ?_
      try simp only [Act.put, List.setIfInBounds_toArray, List.set_cons_succ, List.set_cons_zero]
      refine takeL (.int .u64 24) rfl (by go_simp <;> rfl) ?_
      try simp only [Act.put, List.setIfInBounds_toArray, List.set_cons_succ, List.set_cons_zero]
      refine takeL (.int .u32 (v / 16777216)) rfl (by go_simp <;> first | rfl | omega) ?_
      try simp only [Act.put, List.setIfInBounds_toArray, List.set_cons_succ, List.set_cons_zero]
      refine takeL (.int .u8 (v / 16777216 % 256)) rfl (by go_simp <;> (rw [IntKind.wrap_u8])) ?_
      try simp only [Act.put, List.setIfInBounds_toArray, List.set_cons_succ, List.set_cons_zero]
      refine wpList_run (.slice (some ⟨wr.heap.size, 0, none⟩) 1 1) (wr.alloc (.cells #[.int .u8 (v / 16777216 % 256)] 5)) rfl (by go_simp) ?_
      try simp only [Act.put, List.setIfInBounds_toArray, List.set_cons_succ, List.set_cons_zero]
      have hb1 := (Below.refl wr.heap.size wr).alloc (Nat.le_refl _) (.cells #[.int .u8 (v / 16777216 % 256)] 5)
      have hby := (Own.lit wr wr.heap.size (Nat.le_refl _) [v / 16777216 % 256] (by simp) _ rfl).bytes
      refine app_L (HO.out.below hb1) (Nat.le_trans HB.out.size hb1.size) hby (by simp [le]) rfl rfl rfl ?_
      intro sv' w' hO hB'
      try simp only [Act.put, List.setIfInBounds_toArray, List.set_cons_succ, List.set_cons_zero]
      have HO2 := Lib.hid hO
      have HB2 := Lib.hid ((HB.out.trans (hb1.mono HB.out.size)).trans hB')
      clear hO hB' hb1 hby
      refine takeL sv' rfl (by go_simp) ?_
      try simp only [Act.put, List.setIfInBounds_toArray, List.set_cons_succ, List.set_cons_zero]
      refine wpList_nil ?_
      go_wp2_with fail
      go_roundg (4 - 4)
      case measure => omega
      case rel => exact ⟨4, by omega, by omega, by go_num, by simpa [le4] using HO2.out, HB2.out⟩
    · go_wp2_with fail
      go_ret
      exact ⟨_, rfl, by simpa [le4] using HO.out, HB.out⟩
set_option maxRecDepth 100000 in
theorem rput2_any (v : Int) (hv : 0 ≤ v ∧ v < 4294967296) (w : World) : Calls Try.prog 43 #[.int .u32 v, .int .i64 2] w fun e w' => ∃ sv, e = .returned sv ∧ Own w' w.heap.size sv (le 2 v) ∧ Below w.heap.size w w' := by
  obtain ⟨hv1, hv2⟩ := hv
  go_enter Try.func43, Try.ntmps43
  go_wp2_with fail
  go_loopg [5, 6] 2 (fun q s i wr => ∃ k : Nat, 2 - k ≤ q ∧ k ≤ 2 ∧ i = .int .i64 k ∧ Own wr w.heap.size s ((le 2 v).take k) ∧ Below w.heap.size w wr)
  case atStart => exact ⟨0, by omega, by omega, rfl, by rw [List.take_zero]; exact Own.nil _ _, Below.refl _ _⟩
  case round =>
    obtain ⟨k, hg, hk, rfl, hown, hbel⟩ := hrel
    have HO := Lib.hid hown
    have HB := Lib.hid hbel
    clear hown hbel
    rcases (show k = 0 ∨ k = 1 ∨ k = 2 by omega) with rfl | rfl | rfl
    · repeat (first | (with_reducible refine stopR (id := 5) ?_) | go_values | go_skip | go_guarded | go_step | go_upon | go_back)
      refine Stop.mk (wp_region_lit ?_)
      refine takeL u5 rfl (by go_simp) ?_
      try simp only [Act.put, List.setIfInBounds_toArray, List.set_cons_succ, List.set_cons_zero]
      refine takeL (.int .u32 v) rfl (by go_simp) ?_
      try simp only [Act.put, List.setIfInBounds_toArray, List.set_cons_succ, List.set_cons_zero]
      refine takeL (.int .i64 0) rfl (by go_simp) ?_
      try simp only [Act.put, List.setIfInBounds_toArray, List.set_cons_succ, List.set_cons_zero]
      refine takeL (.int .i64 0) rfl (by go_simp <;> rfl) ?_
      try simp only [Act.put, List.setIfInBounds_toArray, List.set_cons_succ, List.set_cons_zero]
      refine takeL (.int .u64 0) rfl (by go_simp <;> rfl) ?_
      try simp only [Act.put, List.setIfInBounds_toArray, List.set_cons_succ, List.set_cons_zero]
      refine takeL (.int .u32 (v)) rfl (by go_simp <;> first | rfl | omega) ?_
      try simp only [Act.put, List.setIfInBounds_toArray, List.set_cons_succ, List.set_cons_zero]
      refine takeL (.int .u8 (v % 256)) rfl (by go_simp <;> (rw [IntKind.wrap_u8])) ?_
      try simp only [Act.put, List.setIfInBounds_toArray, List.set_cons_succ, List.set_cons_zero]
      refine wpList_run (.slice (some ⟨wr.heap.size, 0, none⟩) 1 1) (wr.alloc (.cells #[.int .u8 (v % 256)] 5)) rfl (by go_simp) ?_
      try simp only [Act.put, List.setIfInBounds_toArray, List.set_cons_succ, List.set_cons_zero]
      have hb1 := (Below.refl wr.heap.size wr).alloc (Nat.le_refl _) (.cells #[.int .u8 (v % 256)] 5)
      have hby := (Own.lit wr wr.heap.size (Nat.le_refl _) [v % 256] (by simp) _ rfl).bytes
      refine app_L (HO.out.below hb1) (Nat.le_trans HB.out.size hb1.size) hby (by simp [le]) rfl rfl rfl ?_
      intro sv' w' hO hB'
      try simp only [Act.put, List.setIfInBounds_toArray, List.set_cons_succ, List.set_cons_zero]
      have HO2 := Lib.hid hO
      have HB2 := Lib.hid ((HB.out.trans (hb1.mono HB.out.size)).trans hB')
      clear hO hB' hb1 hby
      refine takeL sv' rfl (by go_simp) ?_
      try simp only [Act.put, List.setIfInBounds_toArray, List.set_cons_succ, List.set_cons_zero]
      refine wpList_nil ?_
      go_wp2_with fail
      go_roundg (2 - 1)
      case measure => omega
      case rel => exact ⟨1, by omega, by omega, by go_num, by simpa [le2] using HO2.out, HB2.out⟩
    · repeat (first | (with_reducible refine stopR (id := 5) ?_) | go_values | go_skip | go_guarded | go_step | go_upon | go_back)
      refine Stop.mk (wp_region_lit ?_)
      refine takeL u5 rfl (by go_simp) ?_
      try simp only [Act.put, List.setIfInBounds_toArray, List.set_cons_succ, List.set_cons_zero]
      refine takeL (.int .u32 v) rfl (by go_simp) ?_
      try simp only [Act.put, List.setIfInBounds_toArray, List.set_cons_succ, List.set_cons_zero]
      refine takeL (.int .i64 1) rfl (by go_simp) ?_
      try simp only [Act.put, List.setIfInBounds_toArray, List.set_cons_succ, List.set_cons_zero]
      refine takeL (.int .i64 8) rfl (by go_simp <;> rfl) ?_
      try simp only [Act.put, List.setIfInBounds_toArray, List.set_cons_succ, List.set_cons_zero]
      refine takeL (.int .u64 8) rfl (by go_simp <;> rfl) ?_
      try simp only [Act.put, List.setIfInBounds_toArray, List.set_cons_succ, List.set_cons_zero]
      refine takeL (.int .u32 (v / 256)) rfl (by go_simp <;> first | rfl | omega) ?_
      try simp only [Act.put, List.setIfInBounds_toArray, List.set_cons_succ, List.set_cons_zero]
      refine takeL (.int .u8 (v / 256 % 256)) rfl (by go_simp <;> (rw [IntKind.wrap_u8])) ?_
      try simp only [Act.put, List.setIfInBounds_toArray, List.set_cons_succ, List.set_cons_zero]
      refine wpList_run (.slice (some ⟨wr.heap.size, 0, none⟩) 1 1) (wr.alloc (.cells #[.int .u8 (v / 256 % 256)] 5)) rfl (by go_simp) ?_
      try simp only [Act.put, List.setIfInBounds_toArray, List.set_cons_succ, List.set_cons_zero]
      have hb1 := (Below.refl wr.heap.size wr).alloc (Nat.le_refl _) (.cells #[.int .u8 (v / 256 % 256)] 5)
      have hby := (Own.lit wr wr.heap.size (Nat.le_refl _) [v / 256 % 256] (by simp) _ rfl).bytes
      refine app_L (HO.out.below hb1) (Nat.le_trans HB.out.size hb1.size) hby (by simp [le]) rfl rfl rfl ?_
      intro sv' w' hO hB'
      try simp only [Act.put, List.setIfInBounds_toArray, List.set_cons_succ, List.set_cons_zero]
      have HO2 := Lib.hid hO
      have HB2 := Lib.hid ((HB.out.trans (hb1.mono HB.out.size)).trans hB')
      clear hO hB' hb1 hby
      refine takeL sv' rfl (by go_simp) ?_
      try simp only [Act.put, List.setIfInBounds_toArray, List.set_cons_succ, List.set_cons_zero]
      refine wpList_nil ?_
      go_wp2_with fail
      go_roundg (2 - 2)
      case measure => omega
      case rel => exact ⟨2, by omega, by omega, by go_num, by simpa [le2] using HO2.out, HB2.out⟩
    · go_wp2_with fail
      go_ret
      exact ⟨_, rfl, by simpa [le2] using HO.out, HB.out⟩
end Go.Proofs.Ytbhaifdhmfmeoaa
