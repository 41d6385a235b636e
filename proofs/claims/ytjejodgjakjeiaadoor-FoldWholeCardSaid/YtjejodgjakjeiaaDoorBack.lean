/- slices.Backward over a slice of blocks: each block comes, the last one first, whatever the loop's body does beside what it reads. -/
import Derived.Test.YtjejodgjakjeiaaDoorRound
import Derived.Test.YtjejodgjakjeiaaDoorOver
namespace Go.Proofs.YtjejodgjakjeiaaDoor
set_option linter.unusedSimpArgs false
set_option linter.unusedVariables false
open Go.RowKit

theorem backward_any (a : Option Addr) (n cap : Nat) (w : World) : Calls Tryd.prog 22 #[.slice a n cap] w fun e w' => e = .returned (.func (.func 32) #[] #[.pointer (some ⟨w.heap.size, 0, none⟩)]) ∧ w' = w.alloc (.cells #[.slice a n cap] 22) := by
  go_enter Tryd.func22, Tryd.ntmps22
  go_wp2
  go_ret
  exact ⟨rfl, rfl⟩
theorem takeI {n : Nat} {P : Program} {ops : Array Oper} {rest : List Oper} {o : Oper} {a : Act} {w : World} {Q : Exit → Act → World → Prop} (v : Value) (hw : Region.wanted o (yielded ops a.tmps) = true)
    (hr : (execOp a.eval o).run P w = .ok (.value v) w) (h : wpListIn Fence.wide n P ops Q rest (a.put o.dst v) w) : wpListIn Fence.wide n P ops Q (o :: rest) a w := by
  unfold wpListIn
  rw [if_pos hw]
  refine ⟨fun _ _ => trivial, ?_⟩
  rw [show Fence.wide.round = none from rfl, Oper.semAt_none, hr]
  exact h
/-- What lay below n₀ lies on, and block g. -/
structure KB (n₀ g : Nat) (W W' : World) : Prop where
  below : Below n₀ W W'
  box : W'.heap[g]? = W.heap[g]?
theorem KB.refl (n₀ g : Nat) (W : World) : KB n₀ g W W := ⟨Below.refl _ _, rfl⟩
theorem KB.trans {n₀ g : Nat} {A B C : World} (h : KB n₀ g A B) (k : KB n₀ g B C) : KB n₀ g A C := ⟨h.below.trans k.below, k.box.trans h.box⟩
theorem kb_b {n₀ g : Nat} {w : World} (hn : n₀ ≤ w.heap.size) (hg : g < w.heap.size) (W : World) (l : Nat) (o o' : Obj) (hl : w.heap.size ≤ l) (h : W.heap[l]? = some o) (h1 : o.isCells = false) (h2 : o.isWalk = false) : KB n₀ g W (W.putObj l o') :=
  ⟨belowK_b hn W l o o' hl h h1 h2, World.putObj_heap_other (by omega)⟩
theorem KB.cell {n₀ g : Nat} {A B : World} (h : KB n₀ g A B) (i : Nat) : B.cell? ⟨g, i, none⟩ = A.cell? ⟨g, i, none⟩ := by simp only [World.cell?, h.box]
/-- What a round keeps, as far as it has come. -/
structure RK (B n₀ g : Nat) (W W' : World) : Prop where
  keeps : KeepsFrom B W W'
  kb : KB n₀ g W W'
  lt : g < W'.heap.size
  le : n₀ ≤ W'.heap.size
theorem RK.refl {B n₀ g : Nat} {W : World} (h : g < W.heap.size) (k : n₀ ≤ W.heap.size) : RK B n₀ g W W := ⟨KeepsFrom.refl _ _, KB.refl _ _ _, h, k⟩
theorem RK.below {B n₀ g : Nat} {W A A' : World} (h : RK B n₀ g W A) (hb : Below A.heap.size A A') : RK B n₀ g W A' :=
  ⟨h.keeps.trans (keeps_of_below hb), h.kb.trans ⟨hb.mono h.le, hb.block g h.lt⟩, Nat.lt_of_lt_of_le h.lt hb.size, Nat.le_trans h.le hb.size⟩
theorem RK.only {B n₀ g t : Nat} {W A A' : World} {l : List Value} (h : RK B n₀ g W A) (ho : Only (fun k => k = t) A A') (ht : Blk A t l) (hne : g ≠ t) (hn : n₀ ≤ t) : RK B n₀ g W A' :=
  ⟨h.keeps.trans (keeps_of_only ho ht), h.kb.trans ⟨ho.below h.le (fun k hk => by rw [hk]; exact hn), ho.block g h.lt hne⟩, Nat.lt_of_lt_of_le h.lt ho.size, Nat.le_trans h.le ho.size⟩
/-- What a block's round is handed. -/
def blkArgs (l : List (Bk × Value)) (i : Fin l.length) : Array Value := #[.int .i64 (i.1 : Int), .agg ((l.get i).1.arr (l.get i).2)]
theorem rev_take {α : Type} (l : List α) {k : Nat} (h : k < l.length) : l.reverse.take (k + 1) = l.reverse.take k ++ [l[l.length - 1 - k]] := by
  rw [List.take_add_one, List.getElem?_reverse (by omega), List.getElem?_eq_getElem (by omega)]
  rfl
set_option maxRecDepth 100000 in
set_option maxHeartbeats 2000000 in
theorem backward1_in (n lr Bs n₀ g o cap : Nat) (l : List (Bk × Value)) (m : Nat) (hm : l.length = m) (hm2 : m ≤ 1000) (hg : g < n₀) (J Jx : List (Fin l.length) → World → Prop)
    (hY : ∀ pre x W, J pre W → pre.length < l.length → YieldAt Fence.wide (n - 1) Tryd.prog lr (blkArgs l x) W fun e W' =>
      (e = .returned (.bool true) ∧ J (pre ++ [x]) W' ∧ KB n₀ Bs W W') ∨ (e = .returned (.bool false) ∧ Jx (pre ++ [x]) W'))
    (W : World) (hBs : W.cell? ⟨Bs, 0, none⟩ = some (.slice (some ⟨g, o, none⟩) m cap)) (hc : ∀ i x, l[i]? = some x → x.1.Wf ∧ At W g (o + i * 45) (x.1.arr x.2)) (h0 : J [] W) :
    CallsIn Fence.wide n Tryd.prog 32 #[.func (.yield lr) #[] #[], .pointer (some ⟨Bs, 0, none⟩)] W fun e W' => (∃ v, e = .returned v) ∧
      ((∃ ys, ys.map (fun i => l.get i) = l.reverse ∧ J ys W') ∨ (∃ pre, True ∧ Jx pre W')) := by
  refine callsIn_of_wp Tryd.func32 rfl trivial ?_ rfl
  simp only [Tryd.ntmps32, List.size_toArray, List.length_cons, List.length_nil, Nat.reduceAdd, Nat.reduceSub, Array.replicate_succ, Array.replicate_zero, List.push_toArray, List.append_toArray, List.nil_append, List.cons_append]
  have HY := Lib.hid hY
  have HC := Lib.hid hc
  have HJ := Lib.hid h0
  have HM := Lib.hid hm
  clear hY hc h0 hm
  have gw : IntKind.i64.wrap ((m : Int) - 1) = (m : Int) - 1 := by rw [IntKind.wrap_i64]; omega
  gi_wp2
  gi_loopw [3] (fun i wr => ∃ (j : Nat) (pre : List (Fin l.length)), j ≤ m ∧ i = .int .i64 ((j : Int) - 1) ∧ pre.length = m - j ∧ pre.map (fun i => l.get i) = l.reverse.take (m - j) ∧ J pre wr ∧ KB n₀ Bs W wr)
    (fun i _ => (intOf i + 1).toNat)
  case atStart => exact ⟨m, [], Nat.le_refl _, rfl, by simp, by simp, HJ.out, KB.refl _ _ _⟩
  case round =>
    obtain ⟨j, pre, hj, rfl, hpl, hpre, hJs, hkb⟩ := hrel
    have hBs' := (hkb.cell 0).trans hBs
    rcases Nat.eq_zero_or_pos j with rfl | hpos
    · gi_wp2
      go_end0
      exact ⟨⟨_, rfl⟩, .inl ⟨pre, by rw [hpre, Nat.sub_zero, List.take_of_length_le (by rw [List.length_reverse, HM.out]; exact Nat.le_refl _)], hJs⟩⟩
    · obtain ⟨i, rfl⟩ : ∃ i, j = i + 1 := ⟨j - 1, by omega⟩
      have hil : i < l.length := by have := HM.out; omega
      obtain ⟨fn, tmps, assign, body, hy, hR⟩ := HY.out pre ⟨i, hil⟩ wr hJs (by have := HM.out; omega)
      obtain ⟨h1, h2⟩ := HC.out i _ (List.getElem?_eq_getElem hil)
      have h3 := h2.below hkb.below hg
      have h4 := Bk.arr_size h1 l[i].2
      rw [show blkArgs l ⟨i, hil⟩ = #[.int .i64 (i : Int), .agg (l[i].1.arr l[i].2)] from rfl] at hy
      generalize l[i].1.arr l[i].2 = A at hy h3 h4
      rw [show (((i + 1 : Nat) : Int) - 1) = (i : Int) by omega]
      have HA := Lib.hid h3
      have HS := Lib.hid h4
      have HK := Lib.hid hkb
      have HP := Lib.hid hpre
      clear h1 h2 h3 h4 hkb hpre HC
      have h5 : i < m := hj
      refine wpIn_seq ?_
      refine wpIn_seq ?_
      refine wpIn_region_lit ?_
      refine takeI (.int .i64 i) rfl (by go_simp) ?_
      try simp only [Act.put, List.setIfInBounds_toArray, List.set_cons_succ, List.set_cons_zero]
      refine takeI (.bool true) rfl (by go_simp) ?_
      try simp only [Act.put, List.setIfInBounds_toArray, List.set_cons_succ, List.set_cons_zero]
      refine wpListIn_nil ?_
      refine wpIn_cond_true rfl ?_
      refine wpIn_skip ?_
      refine wpIn_seq ?_
      refine wpIn_block ?_
      refine wpIn_seq ?_
      refine wpIn_region_lit ?_
      refine takeI (.func (.yield lr) #[] #[]) rfl (by go_simp) ?_
      try simp only [Act.put, List.setIfInBounds_toArray, List.set_cons_succ, List.set_cons_zero]
      refine takeI (.int .i64 i) rfl (by go_simp) ?_
      try simp only [Act.put, List.setIfInBounds_toArray, List.set_cons_succ, List.set_cons_zero]
      refine takeI (.slice (some ⟨g, o, none⟩) m cap) rfl (by go_simp) ?_
      try simp only [Act.put, List.setIfInBounds_toArray, List.set_cons_succ, List.set_cons_zero]
      refine takeI (.int .i64 i) rfl (by go_simp) ?_
      try simp only [Act.put, List.setIfInBounds_toArray, List.set_cons_succ, List.set_cons_zero]
      refine takeI (.pointer (some ⟨g, o + i * 45, none⟩)) rfl (by go_simp) ?_
      try simp only [Act.put, List.setIfInBounds_toArray, List.set_cons_succ, List.set_cons_zero]
      refine takeI (.agg A) rfl (exec_load_at _ _ _ 30 _ rfl g (o + i * 45) rfl A _ Tryd.underlying30 rfl (by rw [HS.out]; exact info30) HA.out) ?_
      try simp only [Act.put, List.setIfInBounds_toArray, List.set_cons_succ, List.set_cons_zero]
      have gw2 : IntKind.i64.wrap ((i : Int) - 1) = (i : Int) - 1 := by rw [IntKind.wrap_i64]; omega
      gi_wp2
      refine ⟨(fun h0 => by cases h0), hR.mono ?_⟩
      rintro e W3 (⟨rfl, hJ3, hk3⟩ | ⟨rfl, hJx3⟩)
      · gi_wp2
        go_roundw
        case rel =>
          refine ⟨i, pre ++ [⟨i, hil⟩], by omega, by first | rfl | exact congrArg _ gw2, by simp; omega, ?_, hJ3, HK.out.trans hk3⟩
          have hm := HM.out
          rw [show m - i = (m - (i + 1)) + 1 by omega, rev_take l (by omega), List.map_append, HP.out]
          congr 1
          simp only [List.map_cons, List.map_nil, List.get_eq_getElem, List.cons.injEq, and_true]
          congr 1
          omega
        case measure => simp [intOf]
      · gi_wp2
        refine bodyPost_ret (results_none rfl _ _ _) rfl ?_
        exact ⟨⟨_, rfl⟩, .inr ⟨_, trivial, hJx3⟩⟩
set_option maxRecDepth 100000 in
set_option maxHeartbeats 1000000 in
theorem backward0_in (n lr Bs cap : Nat) (a : Option Addr) (J : World → Prop) (W : World) (hBs : W.cell? ⟨Bs, 0, none⟩ = some (.slice a 0 cap)) (h0 : J W) :
    CallsIn Fence.wide n Tryd.prog 32 #[.func (.yield lr) #[] #[], .pointer (some ⟨Bs, 0, none⟩)] W fun e W' => (∃ v, e = .returned v) ∧ J W' := by
  refine callsIn_of_wp Tryd.func32 rfl trivial ?_ rfl
  simp only [Tryd.ntmps32, List.size_toArray, List.length_cons, List.length_nil, Nat.reduceAdd, Nat.reduceSub, Array.replicate_succ, Array.replicate_zero, List.push_toArray, List.append_toArray, List.nil_append, List.cons_append]
  have HJ := Lib.hid h0
  clear h0
  gi_wp2
  gi_loopw [3] (fun i wr => i = .int .i64 (-1) ∧ J wr) (fun _ _ => 0)
  case atStart => exact ⟨by first | rfl | simp [IntKind.wrap_i64], HJ.out⟩
  case round =>
    obtain ⟨rfl, hJs⟩ := hrel
    gi_wp2
    go_end0
    exact ⟨⟨_, rfl⟩, hJs⟩
/-- What slices.Backward hands back goes through a slice of blocks from its end. -/
theorem backward_stops (n Bs : Nat) (sv : Value) (l : List (Bk × Value)) (hl : l.length ≤ 1000) (w₀ w : World) (hb : Below w₀.heap.size w₀ w) (hBs : Bs < w.heap.size) (hc : w.cell? ⟨Bs, 0, none⟩ = some sv) (h : BlksAt w₀ sv l) :
    SeqStopsK Fence.wide n Tryd.prog 32 #[.pointer (some ⟨Bs, 0, none⟩)] (blkArgs l) (KB w₀.heap.size Bs) (fun xs => xs.map (fun i => l.get i) = l.reverse) (fun _ => True) l.length w := fun lr J Jx W hW _ _ hY h0 => by
  have hc' := (hW.cell (p := ⟨Bs, 0, none⟩) hBs).trans hc
  rcases Nat.eq_zero_or_pos l.length with hz | hpos
  · obtain ⟨a, cap, rfl, -⟩ := h
    rw [hz] at hc'
    refine (backward0_in n lr Bs cap a (J []) W hc' h0).mono fun e W' ⟨he, hj⟩ => ⟨he, .inl ⟨[], ?_, hj⟩⟩
    have : l = [] := List.eq_nil_of_length_eq_zero hz
    subst this
    rfl
  · obtain ⟨g, o, cap, rfl, hg, hcs⟩ := h.has hpos
    exact backward1_in n lr Bs w₀.heap.size g o cap l l.length rfl hl hg J Jx hY W hc' (fun i x hx => ⟨(hcs i x hx).1, ((hcs i x hx).2.2.below hb hg).below (hW.mono hb.size) hg⟩) h0
end Go.Proofs.YtjejodgjakjeiaaDoor
