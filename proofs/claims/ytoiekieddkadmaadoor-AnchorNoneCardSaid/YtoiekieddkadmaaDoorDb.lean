/- Db: texts of elder seats turned: what the stage needs of them. -/
import Derived.Test.YtoiekieddkadmaaDoorDa
import Derived.RegionTactic
import Derived.BigRegion
import Derived.Laws.OwnMore
import Derived.StillTailTactics
import Derived.Deep.QuietTactic
import Derived.BigQuiet
import Derived.OrdersHeld
import Derived.Deep.RegionHeld
namespace Go.Proofs.YtoiekieddkadmaaDoor
set_option linter.unusedSimpArgs false
set_option linter.unusedVariables false
open Go.RowKit

namespace De
open Go.RowKit
theorem info49z : (Tryd.prog.info? 49).map (fun i => (i.zero, i.size, i.bytes)) = some (some (.agg (fillA 0)), 64, 64) := by kernel_rfl
theorem info3z : (Tryd.prog.info? 3).map (fun i => (i.zero, i.size, i.bytes)) = some (some (.int .i64 0), 1, 8) := by kernel_rfl
theorem flat_zero (n : Nat) : (madeCells (fillA 0) (n * 64)).toList = flat (List.replicate n (fillA 0)) := by
  have e : flat (List.replicate n (fillA 0)) = List.replicate (n * 64) (Value.int .u8 0) := by
    induction n with
    | zero => rfl
    | succ n ih =>
      simp only [flat, List.replicate_succ, List.flatMap_cons] at ih ⊢
      rw [ih]
      simp only [fillA, Array.toList_replicate, List.replicate_append_replicate]
      congr 1
      omega
  rw [e]
  apply List.ext_getElem?
  intro j
  by_cases hj : j < n * 64
  · have h2 : j % 64 < 64 := Nat.mod_lt _ (by decide)
    rw [List.getElem?_replicate, if_pos hj]
    have h3 : (Array.replicate 64 (Value.int .u8 0))[j % 64]! = .int .u8 0 := by rw [getElem!_pos _ _ (by simpa using h2)]; simp
    simp [madeCells, hj, fillA, h3]
  · simp [madeCells, hj]
theorem make48 (n : Nat) (hn : n ≤ 1024) (w : World) : (Instr.makeSlice 37 (.int .i64 (n : Int)) (.int .i64 (n : Int))).run Tryd.prog w = .ok (.slice (some ⟨w.heap.size, 0, none⟩) n n) (w.alloc (.cells (madeCells (fillA 0) (n * 64)) 49)) := by
  obtain ⟨i, hi, hz, hs, hb⟩ := info_parts info49z
  have := run_makeSlice (P := Tryd.prog) w 37 49 i _ Tryd.underlying37 hi hz .i64 .i64 n n (by omega) (Int.le_refl _) (by rw [hs]; simp; omega) (by rw [hb]; omega) (by omega)
  rw [hs] at this
  simpa [Value.cells] using this
theorem make62 (n : Nat) (hn : n ≤ 1024) (w : World) : (Instr.makeSlice 38 (.int .i64 (n : Int)) (.int .i64 (n : Int))).run Tryd.prog w = .ok (.slice (some ⟨w.heap.size, 0, none⟩) n n) (w.alloc (.cells (madeCells #[.int .i64 0] n) 3)) := by
  obtain ⟨i, hi, hz, hs, hb⟩ := info_parts info3z
  have := run_makeSlice (P := Tryd.prog) w 38 3 i _ Tryd.underlying38 hi hz .i64 .i64 n n (by omega) (Int.le_refl _) (by rw [hs]; simp; omega) (by rw [hb]; omega) (by omega)
  rw [hs] at this
  simpa [Value.cells] using this
theorem newD_at (w : World) (n : Nat) (hn : n ≤ 1024) (b sb nb base : Nat) (h1 : b ≠ sb) (h2 : b ≠ nb) (h3 : sb ≠ nb) (g1 : base ≤ b) (g2 : base ≤ sb) (g3 : base ≤ nb)
    (hb : Blk w b [.slice (some ⟨sb, 0, none⟩) n n, .slice none 0 0, .slice (some ⟨nb, 0, none⟩) n n, .int .i64 (-1), .int .i64 0])
    (hs : Blk w sb (madeCells (fillA 0) (n * 64)).toList) (hl : Blk w nb (madeCells #[.int .i64 0] n).toList) : DevAt w base ⟨b, sb, nb, .slice none 0 0⟩ (newD n) := by
  refine ⟨List.replicate n 0, ?_⟩
  exact { blk := by simpa [newD] using hb, sec := by rw [flat_zero] at hs; exact hs, last := by rw [toList_madeCells_one] at hl; simpa using hl
          own := World.ownsRow_nil _ _ _ _, hS := fun s hs => by simp [newD] at hs; rw [hs.2]; exact fillA_sec 0, hL := by simp [newD], hN := by simp [newD]
          ok := fun i m hm => by
            have := List.mem_of_getElem? hm
            obtain ⟨_, rfl⟩ := List.mem_replicate.1 this
            exact .inl ⟨rfl, by simp [newD]⟩
          n1 := h1, n2 := h2, n3 := h3, o1 := by simp [Value.ownBlock], o2 := by simp [Value.ownBlock], o3 := by simp [Value.ownBlock], b1 := g1, b2 := g2, b3 := g3, len := by simpa [newD] using hn, f := by simp [newD, I64] }
/-- What New leaves. -/
def Made (w : World) (n : Nat) (e : Ending) (w' : World) : Prop := ∃ A, e = .returned (.tuple #[.pointer (some ⟨A.b, 0, none⟩), .int .i64 0]) ∧ DevAt w' w.heap.size A (newD n) ∧ Below w.heap.size w w'
set_option maxRecDepth 100000 in
theorem new_any (n : Nat) (hn : 1 ≤ n ∧ n ≤ 1024) (w : World) : Calls Tryd.prog 4 #[.int .i64 n] w (Made w n) := by
  obtain ⟨hn1, hn2⟩ := hn
  have h1 : (1 : Int) ≤ (n : Int) := by omega
  have h2 : (n : Int) ≤ 1024 := by omega
  have m1 := make48 n hn2
  have m2 := make62 n hn2
  have HF := Lib.hid (newD_at (n := n) (hn := hn2))
  generalize madeCells (fillA 0) (n * 64) = z48 at *
  generalize madeCells #[.int .i64 0] n = z62 at *
  go_enter Tryd.func4, Tryd.ntmps4
  go_wp2_with fail
  go_region
  all_goals
    go_wp2_with fail
    go_ret2
    first
      | exact ⟨⟨w.heap.size + 1 + 1, w.heap.size, w.heap.size + 1, .slice none 0 0⟩, rfl, HF.out _ _ _ _ _ (by omega) (by omega) (by omega) (by omega) (by omega) (by omega) (Blk.newAt _ _ _ (by simp) rfl) (((Blk.newAt _ _ _ rfl rfl).alloc _).alloc _) ((Blk.newAt _ _ _ (by simp) rfl).alloc _), ((((Below.refl _ _).alloc (Nat.le_refl _) _).alloc (by simp) _).alloc (by simp; omega) _).drew⟩
      | exact ⟨⟨w.heap.size + 1 + 1, w.heap.size + 1, w.heap.size, .slice none 0 0⟩, rfl, HF.out _ _ _ _ _ (by omega) (by omega) (by omega) (by omega) (by omega) (by omega) (Blk.newAt _ _ _ (by simp) rfl) ((Blk.newAt _ _ _ (by simp) rfl).alloc _) (((Blk.newAt _ _ _ rfl rfl).alloc _).alloc _), ((((Below.refl _ _).alloc (Nat.le_refl _) _).alloc (by simp) _).alloc (by simp; omega) _).drew⟩
section
variable {P : Program}
theorem wpStill_run {ops : Array Oper} {rest : List Oper} {o : Oper} {a : Act} {w : World} {Q : Act → Prop} (v : Value) (hw : Region.wanted o (yielded ops a.tmps) = true)
    (hr : (execOp a.eval o).run P w = .ok (.value v) w) (h : wpStill P ops w Q rest (a.put o.dst v)) : wpStill P ops w Q (o :: rest) a :=
  wpStill_step fun K hK => by
    rw [if_pos hw]
    unfold Oper.still
    rw [hr, Oper.stillUpon_value]
    exact hK _ h
theorem exec_load_at (w : World) (ev : Operand → Value) (o : Oper) (ty : TypeId) (x : Operand) (ho : o.op = .load ty x) (g off : Nat) (hx : ev x = .pointer (some ⟨g, off, none⟩)) (cs : Array Value) (d : TypeDesc)
    (hu : P.underlying ty = some d) (hd : (match d with | .struct _ | .array _ _ => true | _ => false) = true) (hi : (P.info? ty).map (·.size) = some cs.size)
    (hc : ∀ j (h : j < cs.size), w.cell? ⟨g, off + j, none⟩ = some cs[j]) : (execOp ev o).run P w = .ok (.value (.agg cs)) w := by
  unfold execOp
  simp only [ho, hx, Instr.loadAt, Instr.sureAddr, Sem.run_bind, Sem.run_pure, Result.andThen_ok, run_load_at w g off ty cs d hu hd hi hc]
theorem exec_load1 (w : World) (ev : Operand → Value) (o : Oper) (ty : TypeId) (x : Operand) (ho : o.op = .load ty x) (a : Addr) (hx : ev x = .pointer (some a)) (v : Value) (d : TypeDesc)
    (hu : P.underlying ty = some d) (hd : (match d with | .struct _ | .array _ _ => true | _ => false) = false) (hc : w.cell? a = some v) : (execOp ev o).run P w = .ok (.value v) w := by
  have hagg : (isAgg ty).run P w = .ok false w := by
    unfold isAgg
    rw [Sem.run_bind, run_underlying hu w]
    cases d <;> simp_all
  unfold execOp
  simp [ho, hx, Instr.loadAt, Instr.sureAddr, loadVar, Sem.run_bind, hagg, hc]
theorem any_op {ops : Array Oper} {md : Region.Mode} {Q : Exit → Act → World → Prop} {fuel : Nat} {listed : Array Bool} {a : Act} {w : World} {i : Nat} {o : Oper} (hi : ops[i]? = some o) (hw : Region.wanted o (yielded ops a.tmps) = true) (dst : Option Tmp) (hd : o.dst = dst) (v : Value) (w' : World)
    (hr : (execOp a.eval o).run P w = .ok (.value v) w') (h : wpAny P md ops Q fuel (listed.setIfInBounds i true) (a.put dst v) w') : wpOp P ops Q i (wpAny P md ops Q fuel (listed.setIfInBounds i true)) a w :=
  wpOp_step hi fun K hK => by
    rw [if_pos hw]
    unfold Oper.wp
    rw [hr]
    subst hd
    exact hK _ _ h
theorem any_take {ops : Array Oper} {md : Region.Mode} {Q : Exit → Act → World → Prop} (i : Nat) {oi : Oper} (dst : Option Tmp) (v : Value) {fuel : Nat} {listed : Array Bool} {a : Act} {w : World} (hi : ops[i]? = some oi) (hd : oi.dst = dst)
    (hs : Region.noSelect ops = true) (hf : Region.free md ops listed i = true) (hr : (Region.ready md ops listed).contains i = true)
    (hQ : ∀ c a w, Q (.panic c) (a.put dst v) w → Q (.panic c) a w) (hw : Region.wanted oi (yielded ops a.tmps) = true) (hy : ∀ w, (execOp a.eval oi).run P w = .ok (.value v) w)
    (h : wpAny P md ops Q fuel (listed.setIfInBounds i true) (a.put dst v) w) : wpAny P md ops Q (fuel + 1) listed a w := by
  subst hd
  exact wpAny_take hi hs hf hr hQ (.inl ⟨hw, hy⟩) h
theorem any_one {ops : Array Oper} {md : Region.Mode} {Q : Exit → Act → World → Prop} {fuel : Nat} {listed : Array Bool} {a : Act} {w : World} (i : Nat) (hr : Region.ready md ops listed = [i])
    (h : wpOp P ops Q i (wpAny P md ops Q fuel (listed.setIfInBounds i true)) a w) : wpAny P md ops Q (fuel + 1) listed a w :=
  wpAny_all hr (by simp) fun j hj => by rw [List.mem_singleton.1 hj]; exact h
theorem any_two {ops : Array Oper} {md : Region.Mode} {Q : Exit → Act → World → Prop} {fuel : Nat} {listed : Array Bool} {a : Act} {w : World} (i k : Nat) (hr : Region.ready md ops listed = [i, k])
    (h : wpOp P ops Q i (wpAny P md ops Q fuel (listed.setIfInBounds i true)) a w) (h2 : wpOp P ops Q k (wpAny P md ops Q fuel (listed.setIfInBounds k true)) a w) : wpAny P md ops Q (fuel + 1) listed a w :=
  wpAny_all hr (by simp) fun j hj => by
    rcases List.mem_cons.1 hj with rfl | hj
    · exact h
    · rw [List.mem_singleton.1 hj]; exact h2
theorem foldl_cells (off : Nat) : ∀ (vs : List Value) (k : Nat) (cells : Array Value), off + k + vs.length ≤ cells.size →
    ((vs.zipIdx k).foldl (fun cs p => cs.setIfInBounds (off + p.2) p.1) cells).toList = cells.toList.take (off + k) ++ vs ++ cells.toList.drop (off + k + vs.length)
  | [], k, cells, _ => by simp
  | v :: vs, k, cells, h => by
    have hl : off + k + (vs.length + 1) ≤ cells.size := by simpa using h
    rw [List.zipIdx_cons, List.foldl_cons, foldl_cells off vs (k + 1) _ (by simp; omega)]
    have e := list_seg_step cells.toList (off + k) v vs (by simpa using hl)
    simpa [Array.toList_setIfInBounds, Nat.add_assoc] using e
theorem fill_whole (cells vs : Array Value) (h : vs.size = cells.size) : (vs.zipIdx.foldl (fun cs p => cs.setIfInBounds (0 + p.2) p.1) cells) = vs := by
  have := foldl_cells 0 vs.toList 0 cells (by simp; omega)
  apply Array.ext'
  rw [← Array.foldl_toList, Array.toList_zipIdx, this]
  simp [h]
theorem built_struct {t : TypeId} {parts : List (Nat × Value)} {fs : Array Field} {z : Value} {places : List (Nat × Nat)} (hu : P.underlying t = some (.struct fs)) (hz : (P.info? t).bind (·.zero) = some z)
    (hp : fs.toList.mapM (fun f => (P.info? f.type).map fun i => (f.offset, i.size)) = some places) : P.built t parts = Instr.fill (places.toArray[·]?) z.cells parts := by
  unfold Program.built
  cases hq : P.info? t with
  | none => simp [hq] at hz
  | some it =>
    have : it.zero = some z := by simpa [hq] using hz
    simp [hu, this, hp]
theorem fill_pair (i : Int) (cs zs : Array Value) (n : Nat) (h : cs.size = n) (hz : zs.size = 1 + n) : Instr.fill ([(0, 1), (1, n)].toArray[·]?) zs [(0, .int .i64 i), (1, .agg cs)] = some (#[.int .i64 i] ++ cs) := by
  subst h
  have h1 := foldl_cells 1 cs.toList 0 (zs.setIfInBounds 0 (.int .i64 i)) (by simp; omega)
  have h2 : (cs.zipIdx.foldl (fun cs p => cs.setIfInBounds (1 + p.2) p.1) (zs.setIfInBounds 0 (.int .i64 i))) = #[.int .i64 i] ++ cs := by
    apply Array.ext'
    rw [← Array.foldl_toList, Array.toList_zipIdx, h1]
    obtain ⟨l⟩ := zs
    cases l with
    | nil => simp at hz; omega
    | cons z l =>
      simp at hz
      simp
      omega
  have hne : zs.size ≠ 0 := by omega
  simp only [Array.size_zipIdx] at h2
  simp [Instr.fill, Value.cells]
  exact ⟨fun h => hne (by simp [h]), by omega, h2⟩
theorem run_buildSlice_one (w : World) (t e : TypeId) (i : TypeInfo) (z : Value) (cs : Array Value) (ht : P.underlying t = some (.slice e)) (hi : P.info? e = some i) (hz : i.zero = some z) (hs : i.size = cs.size) (hpos : 0 < cs.size) (hle : cs.size ≤ 2 ^ 24) :
    (Instr.buildSlice t 1 #[(0, .agg cs)]).run P w = .ok (.slice (some ⟨w.heap.size, 0, none⟩) 1 1) (w.alloc (.cells cs e)) := by
  have h2 := fill_whole ((Array.range cs.size).map (z.cells[· % z.cells.size]!)) cs (by simp)
  have n1 : ¬ (2 ^ 24 < cs.size) := by omega
  have n2 : ¬ (cs.size = 0) := by omega
  simp [Instr.buildSlice, run_underlying ht, sizeOf, typeInfo, hi, hs, n1, n2, zeroValue, hz, Instr.fill, Value.cells, newRow]
  congr 2
  simp only [Array.size_zipIdx, Nat.zero_add] at h2
  exact h2
end
theorem info71z : (Tryd.prog.info? 71).bind (·.zero) = some (.agg (#[.int .i64 0] ++ fillA 0)) := by kernel_rfl
theorem places69 : (Tryd.prog.underlying 71).map (fun | .struct fs => fs.toList.mapM (fun f => (Tryd.prog.info? f.type).map fun i => (f.offset, i.size)) | _ => none) = some (some [(0, 1), (1, 64)]) := by kernel_rfl
theorem built71 (i : Int) (cs : Array Value) (h : cs.size = 64) : Tryd.prog.built 71 [(0, .int .i64 i), (1, .agg cs)] = some (#[.int .i64 i] ++ cs) := by
  have hp := places69
  rw [Tryd.underlying71] at hp
  rw [built_struct Tryd.underlying71 info71z (Option.some.inj hp)]
  exact fill_pair i cs _ 64 h (by simp [Value.cells, fillA])
theorem build71 (w : World) (i : Int) (cs : Array Value) (h : cs.size = 64) : (Instr.build 71 #[(0, .int .i64 i), (1, .agg cs)]).run Tryd.prog w = .ok (.agg (#[.int .i64 i] ++ cs)) w := run_build w 71 _ _ (built71 i cs h)
theorem info71s : (Tryd.prog.info? 71).map (fun i => (i.zero, i.size, i.bytes)) = some (some (.agg (#[.int .i64 0] ++ fillA 0)), 65, 72) := by kernel_rfl
theorem row39 (w : World) (cs : Array Value) (h : cs.size = 65) : (Instr.buildSlice 39 1 #[(0, .agg cs)]).run Tryd.prog w = .ok (.slice (some ⟨w.heap.size, 0, none⟩) 1 1) (w.alloc (.cells cs 71)) := by
  obtain ⟨i, hi, hz, hs, _⟩ := info_parts info71s
  exact run_buildSlice_one w 39 71 i _ cs Tryd.underlying39 hi hz (by omega) (by omega) (by rw [h]; decide)
theorem LastOk.write {L : List (Nat × Array Value)} {N : List Nat} (h : LastOk L N) (k : Nat) (s : Array Value) : LastOk (L ++ [(k, s)]) (N.set k (L.length + 1)) := by
  intro i n hn
  by_cases hik : k = i
  · subst hik
    have : n = L.length + 1 := by
      rw [List.getElem?_set_self'] at hn
      cases hN : N[k]? with
      | none => simp [hN] at hn
      | some x => simp [hN] at hn; exact hn.symm
    subst this
    refine .inr ⟨by omega, s, by simp, fun S hS => ?_⟩
    rw [app_snoc]
    simp [hS]
  · rw [List.getElem?_set_ne hik] at hn
    rcases h i n hn with ⟨h0, hp⟩ | ⟨h0, t, ht, hS⟩
    · refine .inl ⟨h0, fun p hp' => ?_⟩
      simp only [List.mem_append, List.mem_singleton] at hp'
      rcases hp' with hp' | rfl
      · exact hp p hp'
      · exact hik
    · refine .inr ⟨h0, t, ?_, fun S hSi => ?_⟩
      · rw [List.getElem?_append_left (List.getElem?_eq_some_iff.1 ht).1]
        exact ht
      · rw [app_snoc]
        simp only
        rw [List.getElem?_set_ne hik]
        exact hS S hSi
theorem DevIs.wrote {w1 w2 : World} {base : Nat} {A : Addrs} {d : D} {N : List Nat} (h : DevIs w1 base A d N) {k : Nat} (hk : k < d.S.length) {s : Array Value} (hs : Sec s) {o : Obj} {g cap : Nat}
    (hown : w2.ownsRow base 71 65 (.slice (some ⟨g, 0, none⟩) (d.L.length + 1) cap) (d.L.length + 1) (flatL d.L ++ (Value.int .i64 (k : Int) :: s.toList))) (hgrow : (w1.drew.alloc o).grownBy w2 A.lv.ownBlock) (hat : A.lv.ownBlock = some g ∨ w1.heap.size ≤ g) (w3 : World)
    (hw3 : w3 = w2.setCell ⟨A.b, 1, none⟩ (.slice (some ⟨g, 0, none⟩) (d.L.length + 1) cap)) (wd : World) (hd : wd.heap = w3.heap ∧ wd.os = w3.os ∧ wd.tape = w3.tape ∧ wd.output = w3.output) (m : Nat) (hm : m = d.L.length + 1) :
    DevIs (wd.setCell ⟨A.nb, k, none⟩ (.int .i64 (m : Int))) base { A with lv := .slice (some ⟨g, 0, none⟩) (d.L.length + 1) cap } { d with L := d.L ++ [(k, s)] } (N.set k (d.L.length + 1)) ∧
    Only A.foot w1 (wd.setCell ⟨A.nb, k, none⟩ (.int .i64 (m : Int))) := by
  subst hm
  have hf := h.foot_lt
  have hb := (hf A.b (.inl rfl)).2
  have hsb := (hf A.sb (.inr (.inl rfl))).2
  have hnb := (hf A.nb (.inr (.inr (.inl rfl)))).2
  have hg1 : g ≠ A.b := fun e => by
    rcases hat with h1 | h1
    · exact h.o1 (by rw [h1, e])
    · omega
  have hg2 : g ≠ A.sb := fun e => by
    rcases hat with h1 | h1
    · exact h.o2 (by rw [h1, e])
    · omega
  have hg3 : g ≠ A.nb := fun e => by
    rcases hat with h1 | h1
    · exact h.o3 (by rw [h1, e])
    · omega
  have ho : Only A.foot w1 w2 := ((Only.refl A.foot w1).drew.alloc o).grown hgrow fun k hk => .inl (.inr (.inr (.inr hk)))
  have blk2 : ∀ {b : Nat} {l : List Value}, Blk w1 b l → A.lv.ownBlock ≠ some b → Blk w2 b l := fun {b l} hb hne =>
    (hb.drew.alloc o).of_block (hgrow.block b (by have := hb.lt; simp; omega) fun e => hne e.symm)
  have b0 := blk2 h.blk h.o1
  have b1 := blk2 h.sec h.o2
  have b2 := blk2 h.last h.o3
  have o2 : Only A.foot w1 w3 := by rw [hw3]; exact ho.setCell (.inl (.inl rfl)) _
  have c0 := b0.set 1 (.slice (some ⟨g, 0, none⟩) (d.L.length + 1) cap)
  rw [← hw3] at c0
  have c1 : Blk w3 A.sb (flat d.S) := by rw [hw3]; exact b1.setOther h.n1.symm _
  have c2 : Blk w3 A.nb (N.map fun (n : Nat) => Value.int .i64 (n : Int)) := by rw [hw3]; exact b2.setOther h.n2.symm _
  have own3 : w3.ownsRow base 71 65 (.slice (some ⟨g, 0, none⟩) (d.L.length + 1) cap) (d.L.length + 1) (flatL d.L ++ (Value.int .i64 (k : Int) :: s.toList)) := by
    refine ⟨hown.1, ?_⟩
    rcases hown.2 with ⟨e, _⟩ | ⟨g', cap', cur, e, hb', hg', r⟩
    · cases e
    · obtain ⟨rfl, rfl⟩ : g' = g ∧ cap' = cap := by simp at e; exact ⟨e.1.symm, e.2.symm⟩
      refine .inr ⟨g', cap', cur, e, hb', ?_, r⟩
      rw [hw3, heap_setCell_other _ _ _ _ hg1]
      exact hg'
  obtain ⟨hd1, hd2, hd3, hd4⟩ := hd
  have toD : ∀ {b : Nat} {l : List Value}, Blk w3 b l → Blk wd b l := fun hb => hb.of_block (by rw [hd1])
  have oD : Only A.foot w1 wd := ⟨hd2.trans o2.os, hd3.trans o2.tape, hd4.trans o2.output, by rw [hd1]; exact o2.size, fun k hk hs => by rw [hd1]; exact o2.block k hk hs⟩
  refine ⟨?_, oD.setCell (.inl (.inr (.inr (.inl rfl)))) _⟩
  exact {
    blk := (toD c0).setOther h.n2 _
    sec := (toD c1).setOther h.n3 _
    last := by
      have := (toD c2).set k (.int .i64 ((d.L.length + 1 : Nat) : Int))
      rwa [← List.map_set] at this
    own := by
      have e : flatL (d.L ++ [(k, s)]) = flatL d.L ++ (Value.int .i64 (k : Int) :: s.toList) := by rw [flatL_snoc]
      simp only [List.length_append, List.length_singleton]
      rw [e]
      refine ⟨own3.1, ?_⟩
      rcases own3.2 with ⟨e, _⟩ | ⟨g', cap', cur, e, hb', hg', r⟩
      · cases e
      · obtain ⟨rfl, rfl⟩ : g' = g ∧ cap' = cap := by simp at e; exact ⟨e.1.symm, e.2.symm⟩
        refine .inr ⟨g', cap', cur, e, hb', ?_, r⟩
        rw [heap_setCell_other _ _ _ _ hg3, hd1]
        exact hg'
    hS := h.hS
    hL := fun p hp => by
      simp only [List.mem_append, List.mem_singleton] at hp
      rcases hp with hp | rfl
      · exact h.hL p hp
      · exact ⟨hs, hk⟩
    hN := by simpa using h.hN
    ok := h.ok.write k s
    n1 := h.n1, n2 := h.n2, n3 := h.n3
    o1 := fun e => hg1 (Option.some.inj e)
    o2 := fun e => hg2 (Option.some.inj e)
    o3 := fun e => hg3 (Option.some.inj e)
    b1 := h.b1, b2 := h.b2, b3 := h.b3, len := h.len, f := h.f }
theorem write_has {d : D} {i : Int} (hi : d.has i = true) : ∃ k : Nat, i = k ∧ k < d.S.length := by
  unfold D.has at hi
  simp only [Bool.and_eq_true, decide_eq_true_eq] at hi
  exact ⟨i.toNat, by omega, by omega⟩
set_option maxRecDepth 100000 in
theorem write_no (w : World) (base : Nat) (A : Addrs) (d : D) (h : DevAt w base A d) (i : Int) (hi : d.has i = false) (cs : Array Value) :
    Calls Tryd.prog 14 #[.pointer (some ⟨A.b, 0, none⟩), .int .i64 i, .agg cs] w fun e w' => e = .returned (.int .i64 1) ∧ Below w.heap.size w w' := by
  have H := Lib.hid (ask_writeNo (w.alloc (.cells cs 49)) base A d (h.only (S := fun _ => False) ((Only.refl _ _).alloc _) (fun _ _ h => h)) i hi)
  clear h hi
  go_enter Tryd.func14, Tryd.ntmps14
  go_wp2_with fail
  refine H.out.mono ?_
  rintro e w' ⟨rfl, rfl⟩
  go_wp2_with fail
  go_ret
  exact ⟨rfl, (Below.refl _ _).alloc (Nat.le_refl _) _⟩
set_option maxRecDepth 100000 in
set_option maxHeartbeats 1000000 in
theorem write_yes (w : World) (base : Nat) (A : Addrs) (d : D) (h : DevAt w base A d) (hT : d.T ≤ 1000000) (hLn : d.L.length ≤ 1000000) (hbase : base ≤ w.heap.size) (i : Int) (hi : d.has i = true) (cs : Array Value) (hs : Sec cs) :
    Calls Tryd.prog 14 #[.pointer (some ⟨A.b, 0, none⟩), .int .i64 i, .agg cs] w (Did w base A (.int .i64 d.flushE) (d.write i cs)) := by
  have hf := h.foot_lt
  have H := Lib.hid (ask_write (w.alloc (.cells cs 49)) base A d (h.only (S := fun _ => False) ((Only.refl _ _).alloc _) (fun _ _ h => h)) hT i hi)
  have hbox := Blk.new w cs 49
  obtain ⟨k, rfl, hk⟩ := write_has hi
  have HW : d.write k cs = if d.F = 0 then { d with F := -1 } else { d with F := d.nextF, T := d.T + 1, L := d.L ++ [(k, cs)] } := by unfold D.write; rw [if_pos hi, Int.toNat_natCast]
  rw [HW]
  clear HW hi h
  unfold D.flushE
  unfold D.ask D.askE at H
  by_cases h0 : d.F = 0
  · rw [if_pos h0, if_pos h0]
    rw [if_pos h0, if_pos h0] at H
    clear hbox h0
    go_enter Tryd.func14, Tryd.ntmps14
    go_wp2_with fail
    refine H.out.mono ?_
    rintro e w' ⟨rfl, hd, ho⟩
    have HD := Lib.hid hd
    have HO := Lib.hid ho
    clear hd ho
    go_wp2_with fail
    go_ret
    exact Did.same HD.out (((Only.refl A.foot w).alloc _).trans HO.out)
  · rw [if_neg h0, if_neg h0]
    rw [if_neg h0, if_neg h0] at H
    clear h0
    have HF := Lib.hid hf
    have HX := Lib.hid hbox
    have HS := Lib.hid hs
    clear hf hbox hs
    go_enter Tryd.func14, Tryd.ntmps14
    go_wp2_with fail
    refine H.out.mono ?_
    rintro e w1 ⟨rfl, hd, ho⟩
    obtain ⟨N, hd⟩ := hd
    have hx1 : Blk w1 w.heap.size cs.toList := HX.out.only ho fun hh => by have := (HF.out _ hh).2; omega
    have HX1 := Lib.hid hx1
    have HO := Lib.hid ho
    have HD := Lib.hid hd
    have c1 := hd.c1
    clear hx1 ho hd
    go_wp2_with fail
    refine wp_region_any (by kernel_rfl) ?_
    change wpAny _ _ _ _ _ _ _ w1.drew
    refine any_take 0 (some 14) (.pointer (some ⟨A.b, 0, none⟩)) rfl rfl (by kernel_rfl) (by kernel_rfl) (by kernel_rfl) (fun _ _ _ h => h) rfl (fun w => by go_simp) ?_
    simp only [Act.put, List.setIfInBounds_toArray, List.set_cons_succ, List.set_cons_zero]
    refine any_take 1 (some 15) (.pointer (some ⟨A.b, 0, none⟩)) rfl rfl (by kernel_rfl) (by kernel_rfl) (by kernel_rfl) (fun _ _ _ h => h) rfl (fun w => by go_simp) ?_
    simp only [Act.put, List.setIfInBounds_toArray, List.set_cons_succ, List.set_cons_zero]
    refine any_take 2 (some 16) (.pointer (some ⟨A.b, 0, none⟩)) rfl rfl (by kernel_rfl) (by kernel_rfl) (by kernel_rfl) (fun _ _ _ h => h) rfl (fun w => by go_simp) ?_
    simp only [Act.put, List.setIfInBounds_toArray, List.set_cons_succ, List.set_cons_zero]
    refine any_take 3 (some 17) (.pointer (some ⟨A.b, 1, none⟩)) rfl rfl (by kernel_rfl) (by kernel_rfl) (by kernel_rfl) (fun _ _ _ h => h) rfl (fun w => by go_simp) ?_
    simp only [Act.put, List.setIfInBounds_toArray, List.set_cons_succ, List.set_cons_zero]
    refine any_take 5 (some 19) (.int .i64 (k : Int)) rfl rfl (by kernel_rfl) (by kernel_rfl) (by kernel_rfl) (fun _ _ _ h => h) rfl (fun w => by go_simp) ?_
    simp only [Act.put, List.setIfInBounds_toArray, List.set_cons_succ, List.set_cons_zero]
    have hz65 : (#[Value.int .i64 (k : Int)] ++ cs).size = 65 := by have := HS.out.size; simp; omega
    have hw1 : w.heap.size ≤ w1.heap.size := by have := HO.out.size; simp at this; omega
    have HZ := Lib.hid hz65
    obtain ⟨i69, hi, hz0, hz1, hz2⟩ := info_parts info71s
    have HI := Lib.hid hi
    have HI0 := Lib.hid hz0
    have HI1 := Lib.hid hz1
    have HI2 := Lib.hid hz2
    clear hz65 hi hz0 hz1 hz2
    have c1' : (w1.drew.alloc (.cells (#[.int .i64 (k : Int)] ++ cs) 71)).cell? ⟨A.b, 1, none⟩ = some A.lv := (HD.out.blk.drew.alloc _).cell rfl
    refine any_two 4 6 (by kernel_rfl) (any_op rfl rfl (some 18) rfl A.lv w1.drew (exec_load1 _ _ _ 39 _ rfl ⟨A.b, 1, none⟩ rfl A.lv _ Tryd.underlying39 rfl c1) ?_) (any_op rfl rfl (some 20) rfl (.agg cs) w1.drew (exec_load_at _ _ _ 49 _ rfl w.heap.size 0 rfl cs _ Tryd.underlying49 rfl (by rw [HS.out.size]; exact info49) (HX1.out.drew.cells cs rfl)) ?_)
    all_goals simp only [Act.put, List.setIfInBounds_toArray, List.set_cons_succ, List.set_cons_zero]
    case' refine_1 =>
      refine any_one 6 (by kernel_rfl) (any_op rfl rfl (some 20) rfl (.agg cs) w1.drew (exec_load_at _ _ _ 49 _ rfl w.heap.size 0 rfl cs _ Tryd.underlying49 rfl (by rw [HS.out.size]; exact info49) (HX1.out.drew.cells cs rfl)) ?_)
      simp only [Act.put, List.setIfInBounds_toArray, List.set_cons_succ, List.set_cons_zero]
      refine any_one 7 (by kernel_rfl) (any_op rfl rfl (some 21) rfl (.agg (#[.int .i64 (k : Int)] ++ cs)) w1.drew (exec_build _ _ _ _ 71 _ rfl #[(0, .int .i64 (k : Int)), (1, .agg cs)] (by simp [Act.eval]) _ (build71 _ k cs HS.out.size)) ?_)
      simp only [Act.put, List.setIfInBounds_toArray, List.set_cons_succ, List.set_cons_zero]
      refine any_one 8 (by kernel_rfl) (any_op rfl rfl (some 22) rfl _ _ (exec_buildSlice _ _ _ _ 39 1 _ rfl #[(0, .agg (#[.int .i64 (k : Int)] ++ cs))] (by simp [Act.eval]) _ (row39 _ _ HZ.out)) ?_)
      simp only [Act.put, List.setIfInBounds_toArray, List.set_cons_succ, List.set_cons_zero]
    case' refine_2 =>
      refine any_take 7 (some 21) (.agg (#[.int .i64 (k : Int)] ++ cs)) rfl rfl (by kernel_rfl) (by kernel_rfl) (by kernel_rfl) (fun _ _ _ h => h) rfl (fun w => (exec_build _ _ _ _ 71 _ rfl #[(0, .int .i64 (k : Int)), (1, .agg cs)] (by simp [Act.eval]) _ (build71 _ k cs HS.out.size))) ?_
      simp only [Act.put, List.setIfInBounds_toArray, List.set_cons_succ, List.set_cons_zero]
      refine any_two 4 8 (by kernel_rfl) (any_op rfl rfl (some 18) rfl A.lv w1.drew (exec_load1 _ _ _ 39 _ rfl ⟨A.b, 1, none⟩ rfl A.lv _ Tryd.underlying39 rfl c1) ?_) (any_op rfl rfl (some 22) rfl _ _ (exec_buildSlice _ _ _ _ 39 1 _ rfl #[(0, .agg (#[.int .i64 (k : Int)] ++ cs))] (by simp [Act.eval]) _ (row39 _ _ HZ.out)) ?_)
      all_goals simp only [Act.put, List.setIfInBounds_toArray, List.set_cons_succ, List.set_cons_zero]
      case' refine_1 =>
        refine any_one 8 (by kernel_rfl) (any_op rfl rfl (some 22) rfl _ _ (exec_buildSlice _ _ _ _ 39 1 _ rfl #[(0, .agg (#[.int .i64 (k : Int)] ++ cs))] (by simp [Act.eval]) _ (row39 _ _ HZ.out)) ?_)
        simp only [Act.put, List.setIfInBounds_toArray, List.set_cons_succ, List.set_cons_zero]
      case' refine_2 =>
        refine any_one 4 (by kernel_rfl) (any_op rfl rfl (some 18) rfl A.lv _ (exec_load1 _ _ _ 39 _ rfl ⟨A.b, 1, none⟩ rfl A.lv _ Tryd.underlying39 rfl c1') ?_)
        simp only [Act.put, List.setIfInBounds_toArray, List.set_cons_succ, List.set_cons_zero]
    all_goals
      change wpAny _ _ _ _ _ _ _ (w1.drew.alloc (.cells (#[.int .i64 (k : Int)] ++ cs) 71))
      refine any_one 9 (by kernel_rfl) (wpOp_step rfl fun K hK => step_append_lies _ rfl _ _ 39 rfl base 71 i69 _ 65 72 Tryd.underlying39 HI.out HI0.out HI1.out HI2.out (by simp [Value.cells, fillA]) (by decide) A.lv d.L.length (flatL d.L) rfl (HD.out.own.drew.alloc _) ⟨w1.heap.size, 0, none⟩ 1 1 (Value.int .i64 (k : Int) :: cs.toList) rfl (by simp; exact HS.out.size) ?_ ?_ (by decide) (by unfold maxLen; omega) (by omega) (by simp; omega) _ rfl ?_)
      · intro j u hu
        have hb : Blk (w1.drew.alloc (Obj.cells (#[Value.int .i64 (k : Int)] ++ cs) 71)) w1.heap.size (Value.int .i64 (k : Int) :: cs.toList) := Blk.newAt 71 _ _ rfl (by simp)
        have hadd : (⟨w1.heap.size, 0, none⟩ : Addr).add j = ⟨w1.heap.size, j, none⟩ := by unfold Addr.add; split <;> simp_all
        rw [hadd]
        exact hb.cell hu
      · intro u hu
        rcases List.mem_cons.1 hu with rfl | hu
        · rfl
        · exact HS.out.one u (by simpa using hu)
      · intro g cap w2 hown hgrow hat hlt
        refine hK _ _ ?_
        clear hK K
        change wpAny _ _ _ _ _ _ (Act.put _ (some 23) _) _
        simp only [Act.put, List.setIfInBounds_toArray, List.set_cons_succ, List.set_cons_zero]
        have HOwn := Lib.hid hown
        have HGrow := Lib.hid hgrow
        have HAt := Lib.hid (show A.lv.ownBlock = some g ∨ w1.heap.size ≤ g by
          rcases hat with h | h
          · exact .inl h
          · right; rw [h]; simp)
        have hb0 := (HD.out.blk.drew.alloc (Obj.cells (#[Value.int .i64 (k : Int)] ++ cs) 71)).of_block (hgrow.block A.b (by have := HD.out.blk.lt; simp; omega) fun e => HD.out.o1 e.symm)
        have hb2 := (HD.out.last.drew.alloc (Obj.cells (#[Value.int .i64 (k : Int)] ++ cs) 71)).of_block (hgrow.block A.nb (by have := HD.out.last.lt; simp; omega) fun e => HD.out.o3 e.symm)
        have hc1 : w2.cell? ⟨A.b, 1, none⟩ = some A.lv := hb0.cell rfl
        have hf1 := hb0.frozen 1
        have HB0 := Lib.hid hb0
        have HB2 := Lib.hid hb2
        clear hown hgrow hat hb0 hb2 c1 c1'
        refine any_one 10 (by kernel_rfl) (wpOp_step rfl fun K hK => ?_)
        go_simp
        refine hK _ _ ?_
        clear hK K
        refine any_one 11 (by kernel_rfl) (wpOp_step rfl fun K hK => ?_)
        go_simp
        refine hK _ _ ?_
        clear hK K
        refine any_one 12 (by kernel_rfl) (wpOp_step rfl fun K hK => ?_)
        go_simp
        refine hK _ _ ?_
        clear hK K
        refine wpAny_done (by kernel_rfl) ?_ _
        go_wp2_with fail
        obtain ⟨w3, hw3⟩ : ∃ w3, w3 = w2.setCell ⟨A.b, 1, none⟩ (.slice (some ⟨g, 0, none⟩) (d.L.length + 1) cap) := ⟨_, rfl⟩
        rw [← hw3]
        have hb0 := HB0.out.set 1 (.slice (some ⟨g, 0, none⟩) (d.L.length + 1) cap)
        rw [← hw3] at hb0
        have hb2 : Blk w3 A.nb (N.map fun (n : Nat) => Value.int .i64 (n : Int)) := by rw [hw3]; exact HB2.out.setOther HD.out.n2.symm _
        have c1 : w3.cell? ⟨A.b, 1, none⟩ = some (.slice (some ⟨g, 0, none⟩) (d.L.length + 1) cap) := hb0.cell rfl
        have c2 : w3.cell? ⟨A.b, 2, none⟩ = some (.slice (some ⟨A.nb, 0, none⟩) d.S.length d.S.length) := hb0.cell rfl
        obtain ⟨m, hm⟩ : ∃ m, N[k]? = some m := ⟨_, List.getElem?_eq_getElem (by have := HD.out.hN; simp only at this; omega)⟩
        have c3 : w3.cell? ⟨A.nb, k, none⟩ = some (.int .i64 (m : Int)) := hb2.cell (by rw [List.getElem?_map, hm]; rfl)
        have f3 := hb2.frozen k
        have HW3 := Lib.hid hw3
        have hk0 : (0 : Int) ≤ (k : Int) := by omega
        have hk1 : (k : Int) < (d.S.length : Int) := by omega
        clear hw3 hb0 hb2 hm
        go_region
        have HFin := HD.out.wrote (k := k) hk HS.out HOwn.out HGrow.out HAt.out w3 HW3.out w3.drew ⟨rfl, rfl, rfl, rfl⟩ (d.L.length + 1) rfl
        have HFin2 := Lib.hid HFin
        clear HFin
        go_wp2_with fail
        go_ret
        have hO1 : Only A.foot w w1 := ((Only.refl A.foot w).alloc _).trans HO.out
        refine ⟨.slice (some ⟨g, 0, none⟩) (d.L.length + 1) cap, rfl, ⟨_, HFin2.out.1⟩, hO1.trans HFin2.out.2, fun k hk => ?_⟩
        rcases HAt.out with h | h
        · exact .inl (by rw [h]; exact hk)
        · right
          have : g = k := Option.some.inj hk
          omega
theorem results_cell_tmp {P : Program} {fn : Func} {p q : Tmp} {ty : TypeId} (h : fn.results = #[.cell p ty, .tmp q]) (tmps : Array Value) (w : World) (g off : Nat) (cs : Array Value) (d : TypeDesc) (v : Value)
    (hp : tmps.getD p undef = .pointer (some ⟨g, off, none⟩)) (hv : tmps.getD q undef = v) (hu : P.underlying ty = some d) (hd : (match d with | .struct _ | .array _ _ => true | _ => false) = true) (hi : (P.info? ty).map (·.size) = some cs.size)
    (hc : ∀ j (h : j < cs.size), w.cell? ⟨g, off + j, none⟩ = some cs[j]) :
    (results fn tmps).run P w = .ok (.tuple #[.agg cs, v]) w := by
  have hp' : tmps[p]?.getD undef = .pointer (some ⟨g, off, none⟩) := by simpa using hp
  have hv' : tmps[q]?.getD undef = v := by simpa using hv
  simp [results, h, hp', hv', asAddr, run_load_at w g off ty cs d hu hd hi hc]
theorem built49 : Tryd.prog.built 49 [] = some (fillA 0) := by kernel_rfl
theorem build49 (w : World) : (Instr.build 49 #[]).run Tryd.prog w = .ok (.agg (fillA 0)) w := run_build w 49 _ _ built49
def zeros64 : List Value := List.replicate 64 (.int .u8 0)
set_option maxRecDepth 100000 in
theorem read_no (w : World) (base : Nat) (A : Addrs) (d : D) (h : DevAt w base A d) (i : Int) (hi : d.has i = false) :
    Calls Tryd.prog 17 #[.pointer (some ⟨A.b, 0, none⟩), .int .i64 i] w fun e w' => e = .returned (.tuple #[.agg (fillA 0), .int .i64 1]) ∧ Below w.heap.size w w' := by
  have HA := Lib.hid h
  clear h
  go_enter Tryd.func17, Tryd.ntmps17
  go_wp2_with fail
  have hb := Blk.newAt (w := w) (cs := (fillA 0)) 49 _ zeros64 rfl rfl
  obtain ⟨wA, hw⟩ : ∃ wA, wA = w.alloc (.cells (fillA 0) 49) := ⟨_, rfl⟩
  change Calls _ _ _ (w.alloc (.cells (fillA 0) 49)) _
  rw [← hw] at hb ⊢
  have H := Lib.hid (ask_read wA base A d (by rw [hw]; exact HA.out.only (S := fun _ => False) ((Only.refl _ _).alloc _) (fun _ _ h => h)) i)
  have HBel := Lib.hid (show Below w.heap.size w wA by rw [hw]; exact (Below.refl _ _).alloc (Nat.le_refl _) _)
  unfold D.readE at H
  rw [hi] at H
  rw [if_neg (by simp)] at H
  have HB := Lib.hid hb
  clear hb hw hi
  refine H.out.mono ?_
  rintro e w' ⟨rfl, rfl⟩
  go_wp2_with (first | (refine wpList_run _ _ rfl (exec_build _ _ _ _ 49 _ rfl #[] (by simp) _ (build49 _)) ?_) | (refine wpList_store_at rfl 49 _ _ rfl w.heap.size 0 (fillA 0) rfl rfl _ HB.out info49 (by simp [fillA, zeros64]) (fillA_sec 0).one ?_))
  have HZ := HB.out.row (splice zeros64 0 (fillA 0))
  rw [splice_all _ _ (by simp [fillA, zeros64])] at HZ
  refine bodyPost_ret (v := .tuple #[.agg (fillA 0), .int .i64 1]) (results_cell_tmp rfl _ _ w.heap.size 0 (fillA 0) _ _ rfl rfl Tryd.underlying49 rfl info49 ?_) rfl ⟨rfl, ?_⟩
  · rw [splice_all _ _ (by simp [fillA, zeros64])]
    exact HZ.cells _ rfl
  · exact ((Only.of_below (S := fun k => w.heap.size ≤ k) HBel.out).setRow (.inl (Nat.le_refl _)) _).below (Nat.le_refl _) (fun _ h => h)
theorem read_yes_eq {d : D} {k : Nat} {s : Array Value} (hk : k < d.S.length) (h : (app d.S d.L)[k]? = some s) : d.read (k : Int) = s ∧ d.readE (k : Int) = 0 := by
  have hh : d.has (k : Int) = true := by unfold D.has; simp [hk]
  unfold D.read D.readE
  rw [if_pos hh, if_pos hh, Int.toNat_natCast, List.getD_eq_getElem?_getD, h]
  exact ⟨rfl, rfl⟩
set_option maxRecDepth 100000 in
theorem read_yes (w : World) (base : Nat) (A : Addrs) (d : D) (h : DevAt w base A d) (hLn : d.L.length ≤ 1000000) (k : Nat) (hk : k < d.S.length) :
    Calls Tryd.prog 17 #[.pointer (some ⟨A.b, 0, none⟩), .int .i64 k] w fun e w' => e = .returned (.tuple #[.agg (d.read k), .int .i64 0]) ∧ Below w.heap.size w w' := by
  have HA := Lib.hid h
  obtain ⟨N, hd⟩ := h
  have HD := Lib.hid hd
  have hlen := hd.len
  obtain ⟨m, hm⟩ : ∃ m, N[k]? = some m := ⟨_, List.getElem?_eq_getElem (by have := hd.hN; omega)⟩
  have hok := hd.ok k m hm
  have HM := Lib.hid hm
  clear hd hm
  have hk0 : (0 : Int) ≤ (k : Int) := by omega
  have hk1 : (k : Int) < (d.S.length : Int) := by omega
  obtain ⟨s, hs, hcase⟩ : ∃ s, (app d.S d.L)[k]? = some s ∧ ((m = 0 ∧ d.S[k]? = some s) ∨ (∃ j, m = j + 1 ∧ d.L[j]? = some (k, s))) := by
    rcases hok with ⟨h0, hp⟩ | ⟨h0, s, hs, hS⟩
    · exact ⟨d.S[k], by rw [app_none _ _ _ hp]; simp, .inl ⟨h0, by simp⟩⟩
    · exact ⟨s, hS d.S hk, .inr ⟨m - 1, by omega, hs⟩⟩
  have hsec : Sec s := app_sec HD.out.hS (fun p hp => (HD.out.hL p hp).1) s (List.mem_of_getElem? hs)
  obtain ⟨e1, e2⟩ := read_yes_eq hk hs
  rw [e1]
  have E2 := Lib.hid e2
  have HS := Lib.hid hsec
  clear hok e1 e2 hs hsec
  go_enter Tryd.func17, Tryd.ntmps17
  go_wp2_with fail
  have hb := Blk.newAt (w := w) (cs := (fillA 0)) 49 _ zeros64 rfl rfl
  obtain ⟨wA, hw⟩ : ∃ wA, wA = w.alloc (.cells (fillA 0) 49) := ⟨_, rfl⟩
  change Calls _ _ _ (w.alloc (.cells (fillA 0) 49)) _
  rw [← hw] at hb ⊢
  have HOn := Lib.hid (show Only (fun _ => False) w wA by rw [hw]; exact (Only.refl _ _).alloc _)
  have hd2 := HD.out.only HOn.out (fun _ _ h => h)
  have H := Lib.hid (ask_read wA base A d ⟨N, hd2⟩ k)
  rw [E2.out] at H
  have HBel := Lib.hid (show Below w.heap.size w wA by rw [hw]; exact (Below.refl _ _).alloc (Nat.le_refl _) _)
  have HB := Lib.hid hb
  have c0 := hd2.c0
  have c1 := hd2.c1
  have c2 := hd2.c2
  have c3 : wA.cell? ⟨A.nb, k, none⟩ = some (.int .i64 (m : Int)) := hd2.last.cell (by rw [List.getElem?_map, HM.out]; rfl)
  have HD2 := Lib.hid hd2
  clear hb hw hd2
  have HZ := HB.out.row (splice zeros64 0 s)
  rw [splice_all _ _ (by rw [HS.out.size]; rfl)] at HZ
  have HZ2 := Lib.hid HZ
  clear HZ
  have HFin := Lib.hid (((Only.of_below (S := fun k => w.heap.size ≤ k) HBel.out).setRow (g := w.heap.size) (.inl (Nat.le_refl _)) (splice zeros64 0 s)).below (B := w.heap.size) (Nat.le_refl _) (fun _ h => h))
  rw [splice_all _ _ (by rw [HS.out.size]; rfl)] at HFin
  rcases hcase with ⟨rfl, hSk⟩ | ⟨j, rfl, hLj⟩
  · have hload : ∀ j (hj : j < s.size), wA.cell? ⟨A.sb, k * 64 + j, none⟩ = some s[j] := fun j hj => by
      have := flat_at HD.out.hS hSk (j := j) (by have := HS.out.size; omega)
      exact HD2.out.sec.cell (by rw [this]; simp [hj])
    have HL := Lib.hid hload
    clear hSk hload c1
    refine H.out.mono ?_
    rintro e w' ⟨rfl, rfl⟩
    go_wp2_with (first | (refine wpList_load_at rfl 49 _ rfl A.sb (k * 64) rfl s _ Tryd.underlying49 rfl (by rw [HS.out.size]; exact info49) HL.out ?_) | (refine wpList_store_at rfl 49 _ _ rfl w.heap.size 0 s rfl rfl _ HB.out (by rw [HS.out.size]; exact info49) (by simp [zeros64]; exact Nat.le_of_eq HS.out.size) HS.out.one ?_))
    rw [splice_all _ _ (by rw [HS.out.size]; rfl)]
    exact bodyPost_ret (v := .tuple #[.agg s, .int .i64 0]) (results_cell_tmp rfl _ _ w.heap.size 0 s _ _ rfl rfl Tryd.underlying49 rfl (by rw [HS.out.size]; exact info49) (HZ2.out.cells _ rfl)) rfl ⟨rfl, HFin.out⟩
  · have hg : ∃ g cap, A.lv = .slice (some ⟨g, 0, none⟩) d.L.length cap := by
      obtain ⟨g, cap, e, _⟩ := HD.out.own.form (by have := (List.getElem?_eq_some_iff.1 hLj).1; omega)
      exact ⟨g, cap, e⟩
    obtain ⟨g, cap, hg⟩ := hg
    have hjl : j < d.L.length := (List.getElem?_eq_some_iff.1 hLj).1
    have hload : ∀ x (hx : x < s.size), wA.cell? ⟨g, j * 65 + 1 + x, none⟩ = some s[x] := fun x hx => by
      have hown := HD2.out.own
      rw [hg] at hown
      have h65 : 1 + x < 65 := by have := HS.out.size; omega
      rw [hown.cellAt (j * 65 + 1 + x) (by omega)]
      have := flatL_at (fun p hp => (HD.out.hL p hp).1) hLj (j := 1 + x) h65
      rw [Nat.add_assoc, this, Nat.add_comm 1 x]
      simp [hx]
    have HL := Lib.hid hload
    rw [hg] at c1
    have hj0 : (0 : Int) ≤ (j : Int) := by omega
    have hj1 : (j : Int) < (d.L.length : Int) := by omega
    have e1 : ((j + 1 : Nat) : Int) - 1 = (j : Int) := by omega
    have hj2 : (0 : Int) < ((j + 1 : Nat) : Int) := by omega
    clear hLj hload hg
    refine H.out.mono ?_
    rintro e w' ⟨rfl, rfl⟩
    go_wp2_with (first | (refine wpList_load_at rfl 49 _ rfl g (j * 65 + 1) rfl s _ Tryd.underlying49 rfl (by rw [HS.out.size]; exact info49) HL.out ?_) | (refine wpList_store_at rfl 49 _ _ rfl w.heap.size 0 s rfl rfl _ HB.out (by rw [HS.out.size]; exact info49) (by simp [zeros64]; exact Nat.le_of_eq HS.out.size) HS.out.one ?_))
    rw [splice_all _ _ (by rw [HS.out.size]; rfl)]
    exact bodyPost_ret (v := .tuple #[.agg s, .int .i64 0]) (results_cell_tmp rfl _ _ w.heap.size 0 s _ _ rfl rfl Tryd.underlying49 rfl (by rw [HS.out.size]; exact info49) (HZ2.out.cells _ rfl)) rfl ⟨rfl, HFin.out⟩
theorem read_any (w : World) (base : Nat) (A : Addrs) (d : D) (h : DevAt w base A d) (hLn : d.L.length ≤ 1000000) (i : Int) :
    Calls Tryd.prog 17 #[.pointer (some ⟨A.b, 0, none⟩), .int .i64 i] w fun e w' => e = .returned (.tuple #[.agg (d.read i), .int .i64 (d.readE i)]) ∧ Below w.heap.size w w' := by
  cases hh : d.has i
  · have := read_no w base A d h i hh
    have e1 : d.read i = fillA 0 := by unfold D.read; rw [hh]; rfl
    have e2 : d.readE i = 1 := by unfold D.readE; rw [hh]; rfl
    rw [e1, e2]
    exact this
  · have e2 : d.readE i = 0 := by unfold D.readE; rw [hh]; rfl
    rw [e2]
    obtain ⟨k, rfl, hk⟩ : ∃ k : Nat, i = k ∧ k < d.S.length := by
      unfold D.has at hh
      simp only [Bool.and_eq_true, decide_eq_true_eq] at hh
      exact ⟨i.toNat, by omega, by omega⟩
    exact read_yes w base A d h hLn k hk
/-- A device some of whose loose writes are settled: k of them, of those the kept ones are done. -/
structure Mid (w wr : World) (base : Nat) (A : Addrs) (d : D) (kp : Nat → Bool) (k : Nat) (N : List Nat) : Prop where
  blk : Blk wr A.b [.slice (some ⟨A.sb, 0, none⟩) d.S.length d.S.length, A.lv, .slice (some ⟨A.nb, 0, none⟩) d.S.length d.S.length, .int .i64 d.F, .int .i64 d.T]
  sec : Blk wr A.sb (flat (app d.S (keptTo d.L kp k)))
  last : Blk wr A.nb (N.map fun (n : Nat) => Value.int .i64 (n : Int))
  own : wr.ownsRow base 71 65 A.lv d.L.length (flatL d.L)
  hN : N.length = d.S.length
  ok : ∀ i n, N[i]? = some n → n = 0 ∨ ∃ p ∈ d.L.drop k, p.1 = i
  only : Only A.foot w wr
theorem LastOk.mid {L : List (Nat × Array Value)} {N : List Nat} (h : LastOk L N) : ∀ i n, N[i]? = some n → n = 0 ∨ ∃ p ∈ L.drop 0, p.1 = i := fun i n hn => by
  rcases h i n hn with ⟨h0, _⟩ | ⟨_, s, hs, _⟩
  · exact .inl h0
  · exact .inr ⟨_, by simpa using List.mem_of_getElem? hs, rfl⟩
theorem Mid.start {w : World} {base : Nat} {A : Addrs} {d : D} {N : List Nat} (h : DevIs w base A d N) (kp : Nat → Bool) : Mid w w base A d kp 0 N :=
  ⟨h.blk, h.sec, h.last, h.own, h.hN, h.ok.mid, Only.refl _ _⟩
theorem ownsRow_of {w w' : World} {base : Nat} {v : Value} {n : Nat} {xs : List Value} (h : w.ownsRow base 71 65 v n xs) (hb : ∀ k, v.ownBlock = some k → w'.heap[k]? = w.heap[k]?) : w'.ownsRow base 71 65 v n xs := by
  refine ⟨h.1, ?_⟩
  rcases h.2 with hn | ⟨g, cap, cur, e, hb', hg, r⟩
  · exact .inl hn
  · exact .inr ⟨g, cap, cur, e, hb', (hb g (by rw [e]; rfl)).trans hg, r⟩
/-- Another world that has the same at the device's blocks. -/
theorem Mid.go {w wr w2 : World} {base : Nat} {A : Addrs} {d : D} {kp : Nat → Bool} {k : Nat} {N : List Nat} (h : Mid w wr base A d kp k N) (hf : ∀ k, A.foot k → k < wr.heap.size) (ho : Only (fun _ => False) wr w2) : Mid w w2 base A d kp k N :=
  have hb : ∀ k, A.foot k → w2.heap[k]? = wr.heap[k]? := fun k hk => ho.block k (hf k hk) (fun h => h)
  ⟨h.blk.of_block (hb _ (.inl rfl)), h.sec.of_block (hb _ (.inr (.inl rfl))), h.last.of_block (hb _ (.inr (.inr (.inl rfl)))), ownsRow_of h.own (fun k hk => hb k (.inr (.inr (.inr hk)))), h.hN, h.ok, h.only.trans (ho.more fun _ _ h => h.elim)⟩
theorem drop_step {L : List (Nat × Array Value)} {k : Nat} {i : Nat} {s : Array Value} (hk : L[k]? = some (i, s)) {N : List Nat} (h : ∀ j n, N[j]? = some n → n = 0 ∨ ∃ p ∈ L.drop k, p.1 = j) : ∀ j n, (N.set i 0)[j]? = some n → n = 0 ∨ ∃ p ∈ L.drop (k + 1), p.1 = j := fun j n hn => by
  by_cases hij : i = j
  · subst hij
    left
    rw [List.getElem?_set_self'] at hn
    cases hN : N[i]? with
    | none => simp [hN] at hn
    | some x => simp [hN] at hn; exact hn.symm
  · rw [List.getElem?_set_ne hij] at hn
    rcases h j n hn with h0 | ⟨p, hp, hpj⟩
    · exact .inl h0
    · obtain ⟨hlt, e⟩ := List.getElem?_eq_some_iff.1 hk
      rw [List.drop_eq_getElem_cons hlt, e] at hp
      rcases List.mem_cons.1 hp with rfl | hp
      · exact absurd hpj hij
      · exact .inr ⟨p, hp, hpj⟩
/-- One more is settled. -/
theorem Mid.step {w wr : World} {base : Nat} {A : Addrs} {d : D} {kp : Nat → Bool} {k : Nat} {N N' : List Nat} (hd : DevIs w base A d N') (h : Mid w wr base A d kp k N) {i : Nat} {s : Array Value} (hk : d.L[k]? = some (i, s)) {w3 : World} (ho : Only A.foot w w3)
    (hblk : Blk w3 A.b [.slice (some ⟨A.sb, 0, none⟩) d.S.length d.S.length, A.lv, .slice (some ⟨A.nb, 0, none⟩) d.S.length d.S.length, .int .i64 d.F, .int .i64 d.T])
    (hsec : Blk w3 A.sb (flat (app d.S (keptTo d.L kp (k + 1))))) (hlast : Blk w3 A.nb (N.map fun (n : Nat) => Value.int .i64 (n : Int)))
    (hown : w3.ownsRow base 71 65 A.lv d.L.length (flatL d.L)) : Mid w (w3.setCell ⟨A.nb, i, none⟩ (.int .i64 0)) base A d kp (k + 1) (N.set i 0) where
  blk := hblk.setOther hd.n2 _
  sec := hsec.setOther hd.n3 _
  last := by
    have := hlast.set i (.int .i64 0)
    rw [show (Value.int .i64 0) = (fun (n : Nat) => Value.int .i64 (n : Int)) 0 from rfl, ← List.map_set] at this
    exact this
  own := ownsRow_of hown fun k hk => heap_setCell_other w3 _ _ _ fun e => hd.o3 (by rw [hk, e])
  hN := by simpa using h.hN
  ok := drop_step hk h.ok
  only := ho.setCell (.inl (.inr (.inr (.inl rfl)))) _
/-- All are. -/
theorem Mid.stop {w wr : World} {base : Nat} {A : Addrs} {d : D} {kp : Nat → Bool} {N N' : List Nat} (hd : DevIs w base A d N') (h : Mid w wr base A d kp d.L.length N) :
    DevAt (wr.setCell ⟨A.b, 1, none⟩ (.slice none 0 0)) base { A with lv := .slice none 0 0 } { d with S := app d.S (keptTo d.L kp d.L.length), L := [] } ∧ Only A.foot w (wr.setCell ⟨A.b, 1, none⟩ (.slice none 0 0)) := by
  refine ⟨⟨N, ?_⟩, h.only.setCell (.inl (.inl rfl)) _⟩
  have hsec : ∀ s ∈ app d.S (keptTo d.L kp d.L.length), Sec s := app_sec hd.hS fun p hp => (hd.hL p (keptTo_mem hp)).1
  exact {
    blk := by have := h.blk.set 1 (.slice none 0 0); simpa using this
    sec := h.sec.setOther hd.n1.symm _
    last := h.last.setOther hd.n2.symm _
    own := World.ownsRow_nil _ _ _ _
    hS := hsec
    hL := by simp
    hN := by simpa using h.hN
    ok := fun i n hn => by
      rcases h.ok i n hn with h0 | ⟨p, hp, _⟩
      · exact .inl ⟨h0, by simp⟩
      · simp at hp
    n1 := hd.n1, n2 := hd.n2, n3 := hd.n3, o1 := by simp [Value.ownBlock], o2 := by simp [Value.ownBlock], o3 := by simp [Value.ownBlock]
    b1 := hd.b1, b2 := hd.b2, b3 := hd.b3, len := by simpa using hd.len, f := hd.f }
theorem Mid.drew {w wr : World} {base : Nat} {A : Addrs} {d : D} {kp : Nat → Bool} {k : Nat} {N : List Nat} (h : Mid w wr base A d kp k N) : Mid w wr.drew base A d kp k N := ⟨h.blk, h.sec, h.last, h.own, h.hN, h.ok, h.only.drew⟩
def zeros65 : List Value := .int .i64 0 :: zeros64
set_option maxRecDepth 100000 in
set_option maxHeartbeats 1000000 in
theorem settle_any (w : World) (base : Nat) (A : Addrs) (d : D) (h : DevAt w base A d) (hLn : d.L.length ≤ 1000000) (f : Nat) (cap : Array Value) (kp : Nat → Bool) (hcf : ∀ (args : Array Value) (w : World), (callFunc f args).run Tryd.prog w = .ok (.enter f args) w)
    (hcall : ∀ (k : Nat) (w' : World), k < d.L.length → Only A.foot w w' → Calls Tryd.prog f (#[.int .i64 (k : Int)] ++ cap) w' fun e w'' => e = .returned (.bool (kp k)) ∧ w' = w'') :
    Calls Tryd.prog 28 #[.pointer (some ⟨A.b, 0, none⟩), .func (.func f) #[] cap] w fun e w' => e = .returned (.tuple #[]) ∧ DevAt w' base { A with lv := .slice none 0 0 } { d with S := app d.S (keptTo d.L kp d.L.length), L := [] } ∧ Only A.foot w w' := by
  obtain ⟨N, hd⟩ := h
  have c1 := hd.c1
  obtain ⟨a, cp, e⟩ := hd.lvShape
  rw [e] at c1
  have HD := Lib.hid hd
  have HE := Lib.hid e
  have HC := Lib.hid hcall
  clear hd e hcall
  go_enter Tryd.func28, Tryd.ntmps28
  go_wp2_with fail
  go_loopg [11] d.L.length (fun g i wr => ∃ (k : Nat) (M : List Nat), d.L.length - k ≤ g ∧ k ≤ d.L.length ∧ i = .int .i64 k ∧ Mid w wr base A d kp k M)
  case atStart => exact ⟨0, N, by omega, by omega, rfl, Mid.start HD.out kp⟩
  case round =>
    obtain ⟨k, M, hg, hk, rfl, hmid⟩ := hrel
    by_cases hlt : k < d.L.length
    · obtain ⟨gg, hgg⟩ : ∃ g, a = some ⟨g, 0, none⟩ := by
        obtain ⟨g, c, e2, _⟩ := HD.out.own.form (by omega)
        have := HE.out.symm.trans e2
        simp at this
        exact ⟨g, this.1⟩
      subst hgg
      obtain ⟨p, hp⟩ : ∃ p, d.L[k]? = some p := ⟨_, List.getElem?_eq_getElem hlt⟩
      obtain ⟨i, s⟩ := p
      have hpm := HD.out.hL _ (List.mem_of_getElem? hp)
      have HS := Lib.hid (show Sec s from hpm.1)
      have hi : i < d.S.length := hpm.2
      have hload : ∀ x (hx : x < (#[Value.int .i64 (i : Int)] ++ s).size), wr.cell? ⟨gg, k * 65 + x, none⟩ = some (#[Value.int .i64 (i : Int)] ++ s)[x] := fun x hx => by
        have hown := hmid.own
        rw [HE.out] at hown
        have h65 : x < 65 := by have := HS.out.size; simp at hx; omega
        rw [hown.cellAt (k * 65 + x) (by omega), flatL_at (fun p hp => (HD.out.hL p hp).1) hp h65]
        have : (Value.int .i64 (i : Int) :: s.toList)[x]? = (#[Value.int .i64 (i : Int)] ++ s)[x]? := by
          obtain ⟨l⟩ := s
          simp
        rw [this]
        exact Array.getElem?_eq_getElem hx
      have HL := Lib.hid hload
      have HZ := Lib.hid (show (#[Value.int .i64 (i : Int)] ++ s).size = 65 by have := HS.out.size; simp; omega)
      have HP := Lib.hid hp
      have HMid := Lib.hid hmid
      have hk0 : (0 : Int) ≤ (k : Int) := by omega
      have hk1 : (k : Int) < (d.L.length : Int) := by omega
      have hone : ∀ v ∈ (#[Value.int .i64 (i : Int)] ++ s), v.oneCell' = true := fun v hv => by
        rcases Array.mem_append.1 hv with hv | hv
        · simp at hv; rw [hv]; rfl
        · exact HS.out.one v hv
      have HOne := Lib.hid hone
      clear hpm hload hp hmid hone
      have HF := Lib.hid fun k hk => Nat.lt_of_lt_of_le (HD.out.foot_lt k hk).2 HMid.out.only.size
      go_wp2_with (first | (refine wpList_load_at rfl 71 _ rfl gg (k * 65) rfl (#[.int .i64 (i : Int)] ++ s) _ Tryd.underlying71 rfl (by rw [HZ.out]; exact info71) HL.out ?_) | (refine wpList_run _ _ rfl (exec_alloc _ _ _ 71 rfl _ info71z) ?_) | (refine wpList_store_at rfl 71 _ _ rfl wr.heap.size 0 (#[.int .i64 (i : Int)] ++ s) rfl rfl zeros65 (Blk.newAt _ _ _ rfl rfl) (by rw [HZ.out]; exact info71) (by rw [HZ.out]; decide) HOne.out ?_))
      rw [splice_all _ _ (by rw [HZ.out]; rfl)]
      have hx : Blk ((wr.alloc (.cells (#[.int .i64 0] ++ fillA 0) 71)).setRow wr.heap.size (#[.int .i64 (i : Int)] ++ s)) wr.heap.size (Value.int .i64 (i : Int) :: s.toList) := by
        have := (Blk.newAt (w := wr) (cs := #[.int .i64 0] ++ fillA 0) 71 wr.heap.size zeros65 rfl rfl).row (#[.int .i64 (i : Int)] ++ s)
        simpa using this
      have ho2 : Only (fun _ => False) wr ((wr.alloc (.cells (#[.int .i64 0] ++ fillA 0) 71)).setRow wr.heap.size (#[.int .i64 (i : Int)] ++ s)) := ((Only.refl _ _).alloc _).setRow (.inr (Nat.le_refl _)) _
      generalize (wr.alloc (.cells (#[.int .i64 0] ++ fillA 0) 71)).setRow wr.heap.size (#[.int .i64 (i : Int)] ++ s) = w2 at *
      have hmid2 := HMid.out.go HF.out ho2
      have HCall := Lib.hid (HC.out k w2 hlt hmid2.only)
      have hne : wr.heap.size ≠ A.b ∧ wr.heap.size ≠ A.sb ∧ wr.heap.size ≠ A.nb ∧ A.lv.ownBlock ≠ some wr.heap.size := by
        have h1 := HF.out A.b (.inl rfl)
        have h2 := HF.out A.sb (.inr (.inl rfl))
        have h3 := HF.out A.nb (.inr (.inr (.inl rfl)))
        exact ⟨by omega, by omega, by omega, fun e => by have := HF.out _ (.inr (.inr (.inr e))); omega⟩
      have HNe := Lib.hid hne
      have HX := Lib.hid hx
      have HMid2 := Lib.hid hmid2
      clear hx ho2 hmid2 hne
      have hi0 : (0 : Int) ≤ (i : Int) := by omega
      have hi1 : (i : Int) < (d.S.length : Int) := by omega
      obtain ⟨m, hm⟩ : ∃ m, M[i]? = some m := ⟨_, List.getElem?_eq_getElem (by have := HMid2.out.hN; omega)⟩
      have c0 : w2.cell? ⟨A.b, 0, none⟩ = some (.slice (some ⟨A.sb, 0, none⟩) d.S.length d.S.length) := HMid2.out.blk.cell rfl
      have c2 : w2.cell? ⟨A.b, 2, none⟩ = some (.slice (some ⟨A.nb, 0, none⟩) d.S.length d.S.length) := HMid2.out.blk.cell rfl
      have c3 : w2.cell? ⟨A.nb, i, none⟩ = some (.int .i64 (m : Int)) := HMid2.out.last.cell (by rw [List.getElem?_map, hm]; rfl)
      have f3 := HMid2.out.last.frozen i
      have c4 : w2.cell? ⟨wr.heap.size, 0, none⟩ = some (.int .i64 (i : Int)) := HX.out.cell rfl
      have HMm := Lib.hid hm
      clear hm c1
      cases hkp : kp k
      · rw [hkp] at HCall
        have hfin := Mid.step HD.out HMid2.out HP.out HMid2.out.only HMid2.out.blk (by rw [keptTo_no hkp]; exact HMid2.out.sec) HMid2.out.last HMid2.out.own
        have HFin := Lib.hid hfin.drew
        clear hkp hfin c0
        go_wp2_with fail
        refine HCall.out.mono ?_
        rintro e w3 ⟨rfl, rfl⟩
        go_wp2_with fail
        go_region
        go_wp2_with fail
        go_roundg (d.L.length - (k + 1))
        case measure => omega
        case rel => exact ⟨k + 1, _, by omega, by omega, by go_num, HFin.out⟩
      · rw [hkp] at HCall
        have HK := Lib.hid hkp
        clear hkp c2 c3 f3
        go_wp2_with fail
        refine HCall.out.mono ?_
        rintro e w3 ⟨rfl, rfl⟩
        go_wp2_with fail
        refine wp_region_still_tail 9 (by kernel_rfl) (by kernel_rfl) ?_
        simp only [List.take_succ_cons, List.take_zero, List.drop_succ_cons, List.drop_zero]
        change wpStill _ _ w2.drew (fun a' => wpList _ _ _ _ a' w2.drew) _ _
        still_step
        still_step
        still_step
        still_step
        still_step
        still_step
        still_step
        have hc1 : ∀ j (hj : j < s.size), w2.drew.cell? ⟨wr.heap.size, 1 + j, none⟩ = some s[j] := fun j hj => HX.out.drew.cell (by rw [Nat.add_comm]; simp [hj])
        refine wpStill_run (.agg s) rfl (exec_load_at _ _ _ 49 _ rfl wr.heap.size 1 rfl s _ Tryd.underlying49 rfl (by rw [HS.out.size]; exact info49) hc1) ?_
        clear hc1
        still_step
        refine wpStill_nil ?_
        have hS0 : ∀ t ∈ app d.S (keptTo d.L kp k), Sec t := app_sec HD.out.hS fun p hp => (HD.out.hL p (keptTo_mem hp)).1
        have hsp := flat_splice hS0 (i := i) (by rw [app_length]; exact hi) HS.out
        have e2 : (app d.S (keptTo d.L kp k)).set i s = app d.S (keptTo d.L kp (k + 1)) := by rw [keptTo_yes HP.out HK.out, app_snoc]
        rw [e2] at hsp
        refine wpList_store_at rfl 49 _ _ rfl A.sb (i * 64) s rfl rfl _ HMid2.out.sec.drew (by rw [HS.out.size]; exact info49) (by rw [flat_length hS0, HS.out.size, app_length]; omega) HS.out.one ?_
        have hsec := HMid2.out.sec.drew.row (splice (flat (app d.S (keptTo d.L kp k))) (i * 64) s)
        rw [hsp] at hsec
        have hO : Only A.foot w2 (w2.drew.setRow A.sb (splice (flat (app d.S (keptTo d.L kp k))) (i * 64) s)) := (Only.refl _ _).drew.setRow (.inl (.inr (.inl rfl))) _
        have hblk := HMid2.out.blk.drew.rowOther HD.out.n1 (splice (flat (app d.S (keptTo d.L kp k))) (i * 64) s)
        have hlast := HMid2.out.last.drew.rowOther HD.out.n3.symm (splice (flat (app d.S (keptTo d.L kp k))) (i * 64) s)
        have hx2 := HX.out.drew.rowOther HNe.out.2.1 (splice (flat (app d.S (keptTo d.L kp k))) (i * 64) s)
        have hown : (w2.drew.setRow A.sb (splice (flat (app d.S (keptTo d.L kp k))) (i * 64) s)).ownsRow base 71 65 A.lv d.L.length (flatL d.L) := ownsRow_of HMid2.out.own fun k hk => setRow_other _ _ _ _ fun e => HD.out.o2 (by rw [hk, e])
        generalize w2.drew.setRow A.sb (splice (flat (app d.S (keptTo d.L kp k))) (i * 64) s) = w3 at *
        have c2 : w3.cell? ⟨A.b, 2, none⟩ = some (.slice (some ⟨A.nb, 0, none⟩) d.S.length d.S.length) := hblk.cell rfl
        have c3 : w3.cell? ⟨A.nb, i, none⟩ = some (.int .i64 (m : Int)) := hlast.cell (by rw [List.getElem?_map, HMm.out]; rfl)
        have f3 := hlast.frozen i
        have c4 : w3.cell? ⟨wr.heap.size, 0, none⟩ = some (.int .i64 (i : Int)) := hx2.cell rfl
        have hfin := Mid.step HD.out HMid2.out HP.out (HMid2.out.only.trans hO) hblk hsec hlast hown
        have HFin := Lib.hid hfin.drew
        clear hfin hblk hsec hlast hown hO hx2 hsp hS0 e2 c0
        go_wp2_with fail
        go_region
        all_goals
          go_wp2_with fail
          go_roundg (d.L.length - (k + 1))
          case measure => omega
          case rel => exact ⟨k + 1, _, by omega, by omega, by go_num, HFin.out⟩
    · have hkl : k = d.L.length := by omega
      subst hkl
      have c1 : wr.cell? ⟨A.b, 1, none⟩ = some A.lv := hmid.blk.cell rfl
      have f1 := hmid.blk.frozen 1
      have HFin := Lib.hid (Mid.stop HD.out hmid)
      clear hmid hlt
      go_wp2_with fail
      go_end0
      exact ⟨rfl, HFin.out⟩
theorem enter32 (args : Array Value) (w : World) : (callFunc 29 args).run Tryd.prog w = .ok (.enter 29 args) w := by go_simp
theorem flushed (k : Int) (w : World) : Calls Tryd.prog 29 #[.int .i64 k] w fun e w' => e = .returned (.bool true) ∧ w = w' := by
  go_enter Tryd.func29, Tryd.ntmps29
  go_wp2_with fail
  go_ret
  exact ⟨rfl, rfl⟩
theorem flush_no (w : World) (base : Nat) (A : Addrs) (d : D) (h : DevAt w base A d) (hT : d.T ≤ 1000000) (h0 : d.F = 0) :
    Calls Tryd.prog 15 #[.pointer (some ⟨A.b, 0, none⟩)] w (Did w base A (.int .i64 12) { d with F := -1 }) := by
  have H := Lib.hid (ask_flush w base A d h hT 0)
  unfold D.ask D.askE at H
  rw [if_pos h0, if_pos h0] at H
  clear h h0
  go_enter Tryd.func15, Tryd.ntmps15
  go_wp2_with fail
  refine H.out.mono ?_
  rintro e w' ⟨rfl, hd, ho⟩
  have HD := Lib.hid hd
  have HO := Lib.hid ho
  clear hd ho
  go_wp2_with fail
  go_ret
  exact Did.same HD.out HO.out
theorem flush_yes (w : World) (base : Nat) (A : Addrs) (d : D) (h : DevAt w base A d) (hT : d.T ≤ 1000000) (hLn : d.L.length ≤ 1000000) (h0 : d.F ≠ 0) :
    Calls Tryd.prog 15 #[.pointer (some ⟨A.b, 0, none⟩)] w (Did w base A (.int .i64 0) { d with F := d.nextF, T := d.T + 1, S := app d.S d.L, L := [] }) := by
  have H := Lib.hid (ask_flush w base A d h hT 0)
  unfold D.ask D.askE at H
  rw [if_neg h0, if_neg h0] at H
  clear h h0
  go_enter Tryd.func15, Tryd.ntmps15
  go_wp2_with fail
  refine H.out.mono ?_
  rintro e w' ⟨rfl, hd, ho⟩
  have HO := Lib.hid ho
  have HS := Lib.hid (settle_any w' base A _ hd hLn 29 #[] (fun _ => true) enter32 (fun k w2 _ _ => flushed k w2))
  simp only [keptTo_all _ _ (Nat.le_refl _), List.take_length] at HS
  clear hd ho
  go_wp2_with fail
  refine HS.out.mono ?_
  rintro e w2 ⟨rfl, hd, ho⟩
  have HD := Lib.hid hd
  have HO2 := Lib.hid ho
  clear hd ho
  go_wp2_with fail
  go_ret
  exact ⟨.slice none 0 0, rfl, HD.out, HO.out.trans HO2.out, by simp [Value.ownBlock]⟩
theorem flush_any (w : World) (base : Nat) (A : Addrs) (d : D) (h : DevAt w base A d) (hT : d.T ≤ 1000000) (hLn : d.L.length ≤ 1000000) :
    Calls Tryd.prog 15 #[.pointer (some ⟨A.b, 0, none⟩)] w (Did w base A (.int .i64 d.flushE) d.flush) := by
  unfold D.flushE D.flush
  by_cases h0 : d.F = 0
  · rw [if_pos h0, if_pos h0]
    exact flush_no w base A d h hT h0
  · rw [if_neg h0, if_neg h0]
    exact flush_yes w base A d h hT hLn h0
section
variable {P : Program}
theorem isNew {ops : Array Oper} {rest : List Oper} {dst : Option Tmp} {t2 : TypeId} {x y : Operand} {pos : String} {after : Array Edge} {guard : Option (Nat × Bool)} {a : Act} {w : World} {t : TypeId} {z : Array Value} {Q : Exit → Act → World → Prop} (h : wpList P ops Q (⟨dst, .store 49 x y, t2, pos, after, guard⟩ :: rest) a (w.alloc (.cells z t))) : wpList P ops Q (⟨dst, .store 49 x y, t2, pos, after, guard⟩ :: rest) a (w.alloc (.cells z t)) := h
theorem isStore {ops : Array Oper} {rest : List Oper} {dst : Option Tmp} {t2 : TypeId} {x y : Operand} {pos : String} {after : Array Edge} {guard : Option (Nat × Bool)} {a : Act} {w : World} {Q : Exit → Act → World → Prop} (h : wpList P ops Q (⟨dst, .store 49 x y, t2, pos, after, guard⟩ :: rest) a w) : wpList P ops Q (⟨dst, .store 49 x y, t2, pos, after, guard⟩ :: rest) a w := h
theorem isLoad {ops : Array Oper} {rest : List Oper} {dst : Option Tmp} {t2 : TypeId} {x : Operand} {pos : String} {after : Array Edge} {guard : Option (Nat × Bool)} {a : Act} {w : World} {Q : Exit → Act → World → Prop} (h : wpList P ops Q (⟨dst, .load 49 x, t2, pos, after, guard⟩ :: rest) a w) : wpList P ops Q (⟨dst, .load 49 x, t2, pos, after, guard⟩ :: rest) a w := h
theorem isBuild {ops : Array Oper} {rest : List Oper} {dst : Option Tmp} {t2 : TypeId}  {pos : String} {after : Array Edge} {guard : Option (Nat × Bool)} {a : Act} {w : World} {Q : Exit → Act → World → Prop} (h : wpList P ops Q (⟨dst, .build 49 #[], t2, pos, after, guard⟩ :: rest) a w) : wpList P ops Q (⟨dst, .build 49 #[], t2, pos, after, guard⟩ :: rest) a w := h
theorem wpList_load_g {ops : Array Oper} {rest : List Oper} {o : Oper} {a : Act} {w : World} {Q : Exit → Act → World → Prop} (ty : TypeId) (x : Operand) (ho : o.op = .load ty x)
    (g off : Nat) (hx : a.eval x = .pointer (some ⟨g, off, none⟩)) (hw : Region.wanted o (yielded ops a.tmps) = true) (cs : Array Value) (d : TypeDesc)
    (hu : P.underlying ty = some d) (hd : (match d with | .struct _ | .array _ _ => true | _ => false) = true) (hi : (P.info? ty).map (·.size) = some cs.size)
    (hc : ∀ j (h : j < cs.size), w.cell? ⟨g, off + j, none⟩ = some cs[j])
    (h : wpList P ops Q rest (a.put o.dst (.agg cs)) w) : wpList P ops Q (o :: rest) a w := wpList_load_at hw ty x ho g off hx cs d hu hd hi hc h
theorem wpList_build_g {ops : Array Oper} {rest : List Oper} {o : Oper} {a : Act} {w : World} {Q : Exit → Act → World → Prop} (t : TypeId) (ho : o.op = .build t #[]) (hw : Region.wanted o (yielded ops a.tmps) = true) (v : Value)
    (hr : (Instr.build t #[]).run P w = .ok v w) (h : wpList P ops Q rest (a.put o.dst v) w) : wpList P ops Q (o :: rest) a w := wpList_run v w hw (exec_build w w a.eval o t #[] ho #[] (by simp) v hr) h
theorem wpList_store_new {ops : Array Oper} {rest : List Oper} {o : Oper} {a : Act} {w0 : World} {Q : Exit → Act → World → Prop} (ty : TypeId) (x y : Operand) (ho : o.op = .store ty x y) (hw : Region.wanted o (yielded ops a.tmps) = true)
    (t : TypeId) (z cs : Array Value) (hx : a.eval x = .pointer (some ⟨w0.heap.size, 0, none⟩)) (hy : a.eval y = .agg cs) (hi : (P.info? ty).map (·.size) = some cs.size) (hz : z.size = cs.size) (h1 : ∀ v ∈ cs, v.oneCell' = true)
    (h : ∀ wX, Blk wX w0.heap.size cs.toList → Below w0.heap.size w0 wX → wpList P ops Q rest (a.put o.dst undef) wX) : wpList P ops Q (o :: rest) a (w0.alloc (.cells z t)) := by
  refine wpList_store_at hw ty x y ho w0.heap.size 0 cs hx hy z.toList (Blk.newAt t _ _ rfl rfl) hi (by simp [hz]) h1 (h _ ?_ ?_)
  · rw [splice_all _ _ (by simpa using hz)]
    exact (Blk.newAt (w := w0) (cs := z) t _ _ rfl rfl).row cs
  · exact (((Only.refl (fun k => w0.heap.size ≤ k) w0).alloc _).setRow (.inl (Nat.le_refl _)) _).below (Nat.le_refl _) fun _ h => h
theorem wpList_store_loc {ops : Array Oper} {rest : List Oper} {o : Oper} {a : Act} {w0 : World} {Q : Exit → Act → World → Prop} (ty : TypeId) (x y : Operand) (ho : o.op = .store ty x y) (hw : Region.wanted o (yielded ops a.tmps) = true)
    (wb : Nat) (l : List Value) (cs : Array Value) (hx : a.eval x = .pointer (some ⟨wb, 0, none⟩)) (hy : a.eval y = .agg cs) (hb : Blk w0 wb l) (hi : (P.info? ty).map (·.size) = some cs.size) (hz : l.length = cs.size) (h1 : ∀ v ∈ cs, v.oneCell' = true)
    (h : ∀ wX, Blk wX wb cs.toList → Only (fun k => k = wb) w0 wX → wpList P ops Q rest (a.put o.dst undef) wX) : wpList P ops Q (o :: rest) a w0 := by
  refine wpList_store_at hw ty x y ho wb 0 cs hx hy l hb hi (by omega) h1 (h _ ?_ ?_)
  · rw [splice_all _ _ hz]
    exact hb.row cs
  · exact (Only.refl (fun k => k = wb) w0).setRow (.inl rfl) _
end
theorem zeros_size (cs : Array Value) (h : Sec cs) : (fillA 0).size = cs.size := by rw [h.size]; rfl
/-- A device at block b, all of whose memory (F) was made behind W. -/
def Dv (W w : World) (b : Nat) (F : Nat → Prop) (d : D) : Prop := (∃ A, A.b = b ∧ A.foot = F ∧ DevAt w W.heap.size A d) ∧ Below W.heap.size W w
theorem Dv.lt {W w : World} {b : Nat} {F : Nat → Prop} {d : D} (h : Dv W w b F d) : ∀ k, F k → W.heap.size ≤ k ∧ k < w.heap.size := by
  obtain ⟨⟨A, _, rfl, h⟩, _⟩ := h
  exact h.foot_lt
/-- Another world in which nothing of the device's has turned. -/
theorem Dv.go {W w w' : World} {b : Nat} {F : Nat → Prop} {d : D} (h : Dv W w b F d) {S : Nat → Prop} (ho : Only S w w') (hS : ∀ k, S k → W.heap.size ≤ k) (hF : ∀ k, F k → ¬ S k) : Dv W w' b F d := by
  obtain ⟨⟨A, hb, rfl, hd⟩, hB⟩ := h
  exact ⟨⟨A, hb, rfl, hd.only ho hF⟩, hB.trans (ho.below hB.size hS)⟩
theorem Dv.below {W w w' : World} {b : Nat} {F : Nat → Prop} {d : D} (h : Dv W w b F d) (hb : Below w.heap.size w w') : Dv W w' b F d :=
  h.go (S := fun _ => False) (Only.of_below hb) (fun _ h => h.elim) (fun _ _ h => h)
theorem Dv.drew {W w : World} {b : Nat} {F : Nat → Prop} {d : D} (h : Dv W w b F d) : Dv W w.drew b F d := h.below (Below.refl _ _).drew
/-- What a call on the device leaves. -/
def After (W w : World) (b : Nat) (F : Nat → Prop) (r : Value) (d : D) (e : Ending) (w' : World) : Prop := ∃ F', e = .returned r ∧ Dv W w' b F' d ∧ Only F w w' ∧ ∀ k, F' k → F k ∨ w.heap.size ≤ k
theorem After.of_did {W w : World} {A : Addrs} {r : Value} {d : D} {e : Ending} {w' : World} (hB : Below W.heap.size W w) (hf : ∀ k, A.foot k → W.heap.size ≤ k) (h : Did w W.heap.size A r d e w') : After W w A.b A.foot r d e w' := by
  obtain ⟨lv, rfl, hd, ho, hl⟩ := h
  refine ⟨Addrs.foot { A with lv := lv }, rfl, ⟨⟨{ A with lv := lv }, rfl, rfl, hd⟩, hB.trans (ho.below hB.size hf)⟩, ho, ?_⟩
  rintro k (rfl | rfl | rfl | hk)
  · exact .inl (.inl rfl)
  · exact .inl (.inr (.inl rfl))
  · exact .inl (.inr (.inr (.inl rfl)))
  · rcases hl k hk with h | h
    · exact .inl (.inr (.inr (.inr h)))
    · exact .inr h
theorem dv_new (W w : World) (hB : Below W.heap.size W w) (n : Nat) (hn : 1 ≤ n ∧ n ≤ 1024) : Calls Tryd.prog 4 #[.int .i64 n] w fun e w' => ∃ b F, e = .returned (.tuple #[.pointer (some ⟨b, 0, none⟩), .int .i64 0]) ∧ Dv W w' b F (newD n) ∧ Below w.heap.size w w' ∧ ∀ k, F k → w.heap.size ≤ k := by
  refine (new_any n hn w).mono ?_
  rintro e w' ⟨A, rfl, ⟨N, hd⟩, hb⟩
  refine ⟨A.b, A.foot, rfl, ⟨⟨A, rfl, rfl, N, { hd with own := ?_, b1 := Nat.le_trans hB.size hd.b1, b2 := Nat.le_trans hB.size hd.b2, b3 := Nat.le_trans hB.size hd.b3 }⟩, hB.trans (hb.mono hB.size)⟩, hb, fun k hk => (hd.foot_lt k hk).1⟩
  refine ⟨hd.own.1, ?_⟩
  rcases hd.own.2 with hn | ⟨g, cap, cur, e, hb', r⟩
  · exact .inl hn
  · exact .inr ⟨g, cap, cur, e, Nat.le_trans hB.size hb', r⟩
theorem dv_write {W w : World} {b : Nat} {F : Nat → Prop} {d : D} (h : Dv W w b F d) (hT : d.T ≤ 1000000) (hLn : d.L.length ≤ 1000000) (i : Int) (cs : Array Value) (hs : Sec cs) :
    Calls Tryd.prog 14 #[.pointer (some ⟨b, 0, none⟩), .int .i64 i, .agg cs] w (After W w b F (.int .i64 (d.writeE i)) (d.write i cs)) := by
  obtain ⟨⟨A, rfl, rfl, hd⟩, hB⟩ := h
  cases hh : d.has i
  · have e1 : d.writeE i = 1 := by unfold D.writeE; rw [hh]; rfl
    have e2 : d.write i cs = d := by unfold D.write; rw [hh]; rfl
    rw [e1, e2]
    refine (write_no w W.heap.size A d hd i hh cs).mono ?_
    rintro e w' ⟨rfl, hb⟩
    exact ⟨A.foot, rfl, ⟨⟨A, rfl, rfl, hd.only (S := fun _ => False) (Only.of_below hb) (fun _ _ h => h)⟩, hB.trans (hb.mono hB.size)⟩, Only.of_below hb, fun _ h => .inl h⟩
  · have e1 : d.writeE i = d.flushE := by unfold D.writeE D.flushE; rw [if_pos hh]
    rw [e1]
    exact (write_yes w W.heap.size A d hd hT hLn hB.size i hh cs hs).mono fun e w' h => h.elim fun lv h' => After.of_did hB (fun k hk => (hd.foot_lt k hk).1) ⟨lv, h'⟩
theorem dv_flush {W w : World} {b : Nat} {F : Nat → Prop} {d : D} (h : Dv W w b F d) (hT : d.T ≤ 1000000) (hLn : d.L.length ≤ 1000000) :
    Calls Tryd.prog 15 #[.pointer (some ⟨b, 0, none⟩)] w (After W w b F (.int .i64 d.flushE) d.flush) := by
  obtain ⟨⟨A, rfl, rfl, hd⟩, hB⟩ := h
  exact (flush_any w W.heap.size A d hd hT hLn).mono fun e w' h => After.of_did hB (fun k hk => (hd.foot_lt k hk).1) h
theorem dv_read {W w : World} {b : Nat} {F : Nat → Prop} {d : D} (h : Dv W w b F d) (hLn : d.L.length ≤ 1000000) (i : Int) :
    Calls Tryd.prog 17 #[.pointer (some ⟨b, 0, none⟩), .int .i64 i] w fun e w' => e = .returned (.tuple #[.agg (d.read i), .int .i64 (d.readE i)]) ∧ Below w.heap.size w w' := by
  obtain ⟨⟨A, rfl, rfl, hd⟩, hB⟩ := h
  exact read_any w W.heap.size A d hd hLn i
theorem dv_len {W w : World} {b : Nat} {F : Nat → Prop} {d : D} (h : Dv W w b F d) : Calls Tryd.prog 23 #[.pointer (some ⟨b, 0, none⟩)] w fun e w' => e = .returned (.int .i64 d.S.length) ∧ w = w' := by
  obtain ⟨⟨A, rfl, rfl, hd⟩, _⟩ := h
  exact len_any w _ A d hd
/-- What the sectors read as. -/
def D.view (d : D) : List (Array Value) := app d.S d.L
theorem Dv.secs {W w : World} {b : Nat} {F : Nat → Prop} {d : D} (h : Dv W w b F d) : ∀ s ∈ d.view, Sec s := by
  obtain ⟨⟨A, _, _, N, hd⟩, _⟩ := h
  exact app_sec hd.hS fun p hp => (hd.hL p hp).1
theorem Dv.I {W w : World} {b : Nat} {F : Nat → Prop} {d : D} (h : Dv W w b F d) : I64 d.F := by
  obtain ⟨⟨A, _, _, N, hd⟩, _⟩ := h
  exact hd.f
theorem flat_load {w : World} {wb : Nat} {V : List (Array Value)} (hb : Blk w wb (flat V)) (hV : ∀ s ∈ V, Sec s) {k : Nat} {s : Array Value} (hs : V[k]? = some s) : ∀ j (h : j < s.size), w.cell? ⟨wb, k * 64 + j, none⟩ = some s[j] := fun j hj => by
  have := flat_at hV hs (j := j) (by have := (hV s (List.mem_of_getElem? hs)).size; omega)
  exact hb.cell (by rw [this]; simp [hj])
theorem Dv.go1 {W w w' : World} {b : Nat} {F : Nat → Prop} {d : D} (h : Dv W w b F d) {wb : Nat} (ho : Only (fun k => k = wb) w w') (hge : W.heap.size ≤ wb) (hF : ¬ F wb) : Dv W w' b F d :=
  h.go ho (fun k e => by rw [e]; exact hge) (fun k hf e => hF (by rw [← e]; exact hf))
end De

end Go.Proofs.YtoiekieddkadmaaDoor
