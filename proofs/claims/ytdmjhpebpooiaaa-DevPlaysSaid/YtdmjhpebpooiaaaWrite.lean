/- The contract of a device's Write. -/
import Derived.Test.YtdmjhpebpooiaaaOps
namespace Go.Proofs.Ytdmjhpebpooiaaa
open Go.RowKit

theorem LastOk.write {L : List (Nat × Array Value)} {N : List Nat} (h : LastOk L N) (k : Nat) (s : Array Value) : LastOk (L ++ [(k, s)]) (N.set k (L.length + 1)) := by
  intro i n hn
  by_cases hik : k = i
  · subst hik
    have : n = L.length + 1 := by
      rw [List.getElem?_set_self'] at hn
      cases hN : N[k]? with
      | none => simp [hN] at hn
      | some x => simp [hN] at hn; exact hn.symm
    subst this
    refine .inr ⟨by omega, s, by simp, fun S hS => ?_⟩
    rw [app_snoc]
    simp [hS]
  · rw [List.getElem?_set_ne hik] at hn
    rcases h i n hn with ⟨h0, hp⟩ | ⟨h0, t, ht, hS⟩
    · refine .inl ⟨h0, fun p hp' => ?_⟩
      simp only [List.mem_append, List.mem_singleton] at hp'
      rcases hp' with hp' | rfl
      · exact hp p hp'
      · exact hik
    · refine .inr ⟨h0, t, ?_, fun S hSi => ?_⟩
      · rw [List.getElem?_append_left (List.getElem?_eq_some_iff.1 ht).1]
        exact ht
      · rw [app_snoc]
        simp only
        rw [List.getElem?_set_ne hik]
        exact hS S hSi

theorem DevIs.wrote {w1 w2 : World} {base : Nat} {A : Addrs} {d : D} {N : List Nat} (h : DevIs w1 base A d N) {k : Nat} (hk : k < d.S.length) {s : Array Value} (hs : Sec s) {o : Obj} {g cap : Nat}
    (hown : w2.ownsRow base 69 65 (.slice (some ⟨g, 0, none⟩) (d.L.length + 1) cap) (d.L.length + 1) (flatL d.L ++ (Value.int .i64 (k : Int) :: s.toList))) (hgrow : (w1.drew.alloc o).grownBy w2 A.lv.ownBlock) (hat : A.lv.ownBlock = some g ∨ w1.heap.size ≤ g) (w3 : World)
    (hw3 : w3 = w2.setCell ⟨A.b, 1, none⟩ (.slice (some ⟨g, 0, none⟩) (d.L.length + 1) cap)) (wd : World) (hd : wd.heap = w3.heap ∧ wd.os = w3.os ∧ wd.tape = w3.tape ∧ wd.output = w3.output) (m : Nat) (hm : m = d.L.length + 1) :
    DevIs (wd.setCell ⟨A.nb, k, none⟩ (.int .i64 (m : Int))) base { A with lv := .slice (some ⟨g, 0, none⟩) (d.L.length + 1) cap } { d with L := d.L ++ [(k, s)] } (N.set k (d.L.length + 1)) ∧
    Only A.foot w1 (wd.setCell ⟨A.nb, k, none⟩ (.int .i64 (m : Int))) := by
  subst hm
  have hf := h.foot_lt
  have hb := (hf A.b (.inl rfl)).2
  have hsb := (hf A.sb (.inr (.inl rfl))).2
  have hnb := (hf A.nb (.inr (.inr (.inl rfl)))).2
  have hg1 : g ≠ A.b := fun e => by
    rcases hat with h1 | h1
    · exact h.o1 (by rw [h1, e])
    · omega
  have hg2 : g ≠ A.sb := fun e => by
    rcases hat with h1 | h1
    · exact h.o2 (by rw [h1, e])
    · omega
  have hg3 : g ≠ A.nb := fun e => by
    rcases hat with h1 | h1
    · exact h.o3 (by rw [h1, e])
    · omega
  have ho : Only A.foot w1 w2 := ((Only.refl A.foot w1).drew.alloc o).grown hgrow fun k hk => .inl (.inr (.inr (.inr hk)))
  have blk2 : ∀ {b : Nat} {l : List Value}, Blk w1 b l → A.lv.ownBlock ≠ some b → Blk w2 b l := fun {b l} hb hne =>
    (hb.drew.alloc o).of_block (hgrow.block b (by have := hb.lt; simp; omega) fun e => hne e.symm)
  have b0 := blk2 h.blk h.o1
  have b1 := blk2 h.sec h.o2
  have b2 := blk2 h.last h.o3
  have o2 : Only A.foot w1 w3 := by rw [hw3]; exact ho.setCell (.inl (.inl rfl)) _
  have c0 := b0.set 1 (.slice (some ⟨g, 0, none⟩) (d.L.length + 1) cap)
  rw [← hw3] at c0
  have c1 : Blk w3 A.sb (flat d.S) := by rw [hw3]; exact b1.setOther h.n1.symm _
  have c2 : Blk w3 A.nb (N.map fun (n : Nat) => Value.int .i64 (n : Int)) := by rw [hw3]; exact b2.setOther h.n2.symm _
  have own3 : w3.ownsRow base 69 65 (.slice (some ⟨g, 0, none⟩) (d.L.length + 1) cap) (d.L.length + 1) (flatL d.L ++ (Value.int .i64 (k : Int) :: s.toList)) := by
    refine ⟨hown.1, ?_⟩
    rcases hown.2 with ⟨e, _⟩ | ⟨g', cap', cur, e, hb', hg', r⟩
    · cases e
    · obtain ⟨rfl, rfl⟩ : g' = g ∧ cap' = cap := by simp at e; exact ⟨e.1.symm, e.2.symm⟩
      refine .inr ⟨g', cap', cur, e, hb', ?_, r⟩
      rw [hw3, heap_setCell_other _ _ _ _ hg1]
      exact hg'
  obtain ⟨hd1, hd2, hd3, hd4⟩ := hd
  have toD : ∀ {b : Nat} {l : List Value}, Blk w3 b l → Blk wd b l := fun hb => hb.of_block (by rw [hd1])
  have oD : Only A.foot w1 wd := ⟨hd2.trans o2.os, hd3.trans o2.tape, hd4.trans o2.output, by rw [hd1]; exact o2.size, fun k hk hs => by rw [hd1]; exact o2.block k hk hs⟩
  refine ⟨?_, oD.setCell (.inl (.inr (.inr (.inl rfl)))) _⟩
  exact {
    blk := (toD c0).setOther h.n2 _
    sec := (toD c1).setOther h.n3 _
    last := by
      have := (toD c2).set k (.int .i64 ((d.L.length + 1 : Nat) : Int))
      rwa [← List.map_set] at this
    own := by
      have e : flatL (d.L ++ [(k, s)]) = flatL d.L ++ (Value.int .i64 (k : Int) :: s.toList) := by rw [flatL_snoc]
      simp only [List.length_append, List.length_singleton]
      rw [e]
      refine ⟨own3.1, ?_⟩
      rcases own3.2 with ⟨e, _⟩ | ⟨g', cap', cur, e, hb', hg', r⟩
      · cases e
      · obtain ⟨rfl, rfl⟩ : g' = g ∧ cap' = cap := by simp at e; exact ⟨e.1.symm, e.2.symm⟩
        refine .inr ⟨g', cap', cur, e, hb', ?_, r⟩
        rw [heap_setCell_other _ _ _ _ hg3, hd1]
        exact hg'
    hS := h.hS
    hL := fun p hp => by
      simp only [List.mem_append, List.mem_singleton] at hp
      rcases hp with hp | rfl
      · exact h.hL p hp
      · exact ⟨hs, hk⟩
    hN := by simpa using h.hN
    ok := h.ok.write k s
    n1 := h.n1, n2 := h.n2, n3 := h.n3
    o1 := fun e => hg1 (Option.some.inj e)
    o2 := fun e => hg2 (Option.some.inj e)
    o3 := fun e => hg3 (Option.some.inj e)
    b1 := h.b1, b2 := h.b2, b3 := h.b3, len := h.len, f := h.f }

theorem write_has {d : D} {i : Int} (hi : d.has i = true) : ∃ k : Nat, i = k ∧ k < d.S.length := by
  unfold D.has at hi
  simp only [Bool.and_eq_true, decide_eq_true_eq] at hi
  exact ⟨i.toNat, by omega, by omega⟩

set_option maxRecDepth 100000 in
theorem write_no (w : World) (base : Nat) (A : Addrs) (d : D) (h : DevAt w base A d) (i : Int) (hi : d.has i = false) (cs : Array Value) :
    Calls Try.prog 14 #[.pointer (some ⟨A.b, 0, none⟩), .int .i64 i, .agg cs] w fun e w' => e = .returned (.int .i64 1) ∧ Below w.heap.size w w' := by
  have H := Lib.hid (ask_writeNo (w.alloc (.cells cs 37)) base A d (h.only (S := fun _ => False) ((Only.refl _ _).alloc _) (fun _ _ h => h)) i hi)
  clear h hi
  go_enter Try.func14, Try.ntmps14
  go_wp2_with fail
  refine H.out.mono ?_
  rintro e w' ⟨rfl, rfl⟩
  go_wp2_with fail
  go_ret
  exact ⟨rfl, (Below.refl _ _).alloc (Nat.le_refl _) _⟩
set_option maxRecDepth 100000 in
set_option maxHeartbeats 1000000 in
theorem write_yes (w : World) (base : Nat) (A : Addrs) (d : D) (h : DevAt w base A d) (hT : d.T ≤ 1000000) (hLn : d.L.length ≤ 1000000) (hbase : base ≤ w.heap.size) (i : Int) (hi : d.has i = true) (cs : Array Value) (hs : Sec cs) :
    Calls Try.prog 14 #[.pointer (some ⟨A.b, 0, none⟩), .int .i64 i, .agg cs] w (Did w base A (.int .i64 d.flushE) (d.write i cs)) := by
  have hf := h.foot_lt
  have H := Lib.hid (ask_write (w.alloc (.cells cs 37)) base A d (h.only (S := fun _ => False) ((Only.refl _ _).alloc _) (fun _ _ h => h)) hT i hi)
  have hbox := Blk.new w cs 37
  obtain ⟨k, rfl, hk⟩ := write_has hi
  have HW : d.write k cs = if d.F = 0 then { d with F := -1 } else { d with F := d.nextF, T := d.T + 1, L := d.L ++ [(k, cs)] } := by unfold D.write; rw [if_pos hi, Int.toNat_natCast]
  rw [HW]
  clear HW hi h
  unfold D.flushE
  unfold D.ask D.askE at H
  by_cases h0 : d.F = 0
  · rw [if_pos h0, if_pos h0]
    rw [if_pos h0, if_pos h0] at H
    clear hbox h0
    go_enter Try.func14, Try.ntmps14
    go_wp2_with fail
    refine H.out.mono ?_
    rintro e w' ⟨rfl, hd, ho⟩
    have HD := Lib.hid hd
    have HO := Lib.hid ho
    clear hd ho
    go_wp2_with fail
    go_ret
    exact Did.same HD.out (((Only.refl A.foot w).alloc _).trans HO.out)
  · rw [if_neg h0, if_neg h0]
    rw [if_neg h0, if_neg h0] at H
    clear h0
    have HF := Lib.hid hf
    have HX := Lib.hid hbox
    have HS := Lib.hid hs
    clear hf hbox hs
    go_enter Try.func14, Try.ntmps14
    go_wp2_with fail
    refine H.out.mono ?_
    rintro e w1 ⟨rfl, hd, ho⟩
    obtain ⟨N, hd⟩ := hd
    have hx1 : Blk w1 w.heap.size cs.toList := HX.out.only ho fun hh => by have := (HF.out _ hh).2; omega
    have HX1 := Lib.hid hx1
    have HO := Lib.hid ho
    have HD := Lib.hid hd
    have c1 := hd.c1
    clear hx1 ho hd
    go_wp2_with fail
    refine wp_region_any (by kernel_rfl) ?_
    change wpAny _ _ _ _ _ _ _ w1.drew
    refine any_take 0 (some 14) (.pointer (some ⟨A.b, 0, none⟩)) rfl rfl (by kernel_rfl) (by kernel_rfl) (by kernel_rfl) (fun _ _ _ h => h) rfl (fun w => by go_simp) ?_
    simp only [Act.put, List.setIfInBounds_toArray, List.set_cons_succ, List.set_cons_zero]
    refine any_take 1 (some 15) (.pointer (some ⟨A.b, 0, none⟩)) rfl rfl (by kernel_rfl) (by kernel_rfl) (by kernel_rfl) (fun _ _ _ h => h) rfl (fun w => by go_simp) ?_
    simp only [Act.put, List.setIfInBounds_toArray, List.set_cons_succ, List.set_cons_zero]
    refine any_take 2 (some 16) (.pointer (some ⟨A.b, 0, none⟩)) rfl rfl (by kernel_rfl) (by kernel_rfl) (by kernel_rfl) (fun _ _ _ h => h) rfl (fun w => by go_simp) ?_
    simp only [Act.put, List.setIfInBounds_toArray, List.set_cons_succ, List.set_cons_zero]
    refine any_take 3 (some 17) (.pointer (some ⟨A.b, 1, none⟩)) rfl rfl (by kernel_rfl) (by kernel_rfl) (by kernel_rfl) (fun _ _ _ h => h) rfl (fun w => by go_simp) ?_
    simp only [Act.put, List.setIfInBounds_toArray, List.set_cons_succ, List.set_cons_zero]
    refine any_take 5 (some 19) (.int .i64 (k : Int)) rfl rfl (by kernel_rfl) (by kernel_rfl) (by kernel_rfl) (fun _ _ _ h => h) rfl (fun w => by go_simp) ?_
    simp only [Act.put, List.setIfInBounds_toArray, List.set_cons_succ, List.set_cons_zero]
    have hz65 : (#[Value.int .i64 (k : Int)] ++ cs).size = 65 := by have := HS.out.size; simp; omega
    have hw1 : w.heap.size ≤ w1.heap.size := by have := HO.out.size; simp at this; omega
    have HZ := Lib.hid hz65
    obtain ⟨i69, hi, hz0, hz1, hz2⟩ := info_parts info69s
    have HI := Lib.hid hi
    have HI0 := Lib.hid hz0
    have HI1 := Lib.hid hz1
    have HI2 := Lib.hid hz2
    clear hz65 hi hz0 hz1 hz2
    have c1' : (w1.drew.alloc (.cells (#[.int .i64 (k : Int)] ++ cs) 69)).cell? ⟨A.b, 1, none⟩ = some A.lv := (HD.out.blk.drew.alloc _).cell rfl
    refine any_two 4 6 (by kernel_rfl) (any_op rfl rfl (some 18) rfl A.lv w1.drew (exec_load1 _ _ _ 63 _ rfl ⟨A.b, 1, none⟩ rfl A.lv _ Try.underlying63 rfl c1) ?_) (any_op rfl rfl (some 20) rfl (.agg cs) w1.drew (exec_load_at _ _ _ 37 _ rfl w.heap.size 0 rfl cs _ Try.underlying37 rfl (by rw [HS.out.size]; exact info37) (HX1.out.drew.cells cs rfl)) ?_)
    all_goals simp only [Act.put, List.setIfInBounds_toArray, List.set_cons_succ, List.set_cons_zero]
    case' refine_1 =>
      refine any_one 6 (by kernel_rfl) (any_op rfl rfl (some 20) rfl (.agg cs) w1.drew (exec_load_at _ _ _ 37 _ rfl w.heap.size 0 rfl cs _ Try.underlying37 rfl (by rw [HS.out.size]; exact info37) (HX1.out.drew.cells cs rfl)) ?_)
      simp only [Act.put, List.setIfInBounds_toArray, List.set_cons_succ, List.set_cons_zero]
      refine any_one 7 (by kernel_rfl) (any_op rfl rfl (some 21) rfl (.agg (#[.int .i64 (k : Int)] ++ cs)) w1.drew (exec_build _ _ _ _ 69 _ rfl #[(0, .int .i64 (k : Int)), (1, .agg cs)] (by simp [Act.eval]) _ (build69 _ k cs HS.out.size)) ?_)
      simp only [Act.put, List.setIfInBounds_toArray, List.set_cons_succ, List.set_cons_zero]
      refine any_one 8 (by kernel_rfl) (any_op rfl rfl (some 22) rfl _ _ (exec_buildSlice _ _ _ _ 63 1 _ rfl #[(0, .agg (#[.int .i64 (k : Int)] ++ cs))] (by simp [Act.eval]) _ (row63 _ _ HZ.out)) ?_)
      simp only [Act.put, List.setIfInBounds_toArray, List.set_cons_succ, List.set_cons_zero]
    case' refine_2 =>
      refine any_take 7 (some 21) (.agg (#[.int .i64 (k : Int)] ++ cs)) rfl rfl (by kernel_rfl) (by kernel_rfl) (by kernel_rfl) (fun _ _ _ h => h) rfl (fun w => (exec_build _ _ _ _ 69 _ rfl #[(0, .int .i64 (k : Int)), (1, .agg cs)] (by simp [Act.eval]) _ (build69 _ k cs HS.out.size))) ?_
      simp only [Act.put, List.setIfInBounds_toArray, List.set_cons_succ, List.set_cons_zero]
      refine any_two 4 8 (by kernel_rfl) (any_op rfl rfl (some 18) rfl A.lv w1.drew (exec_load1 _ _ _ 63 _ rfl ⟨A.b, 1, none⟩ rfl A.lv _ Try.underlying63 rfl c1) ?_) (any_op rfl rfl (some 22) rfl _ _ (exec_buildSlice _ _ _ _ 63 1 _ rfl #[(0, .agg (#[.int .i64 (k : Int)] ++ cs))] (by simp [Act.eval]) _ (row63 _ _ HZ.out)) ?_)
      all_goals simp only [Act.put, List.setIfInBounds_toArray, List.set_cons_succ, List.set_cons_zero]
      case' refine_1 =>
        refine any_one 8 (by kernel_rfl) (any_op rfl rfl (some 22) rfl _ _ (exec_buildSlice _ _ _ _ 63 1 _ rfl #[(0, .agg (#[.int .i64 (k : Int)] ++ cs))] (by simp [Act.eval]) _ (row63 _ _ HZ.out)) ?_)
        simp only [Act.put, List.setIfInBounds_toArray, List.set_cons_succ, List.set_cons_zero]
      case' refine_2 =>
        refine any_one 4 (by kernel_rfl) (any_op rfl rfl (some 18) rfl A.lv _ (exec_load1 _ _ _ 63 _ rfl ⟨A.b, 1, none⟩ rfl A.lv _ Try.underlying63 rfl c1') ?_)
        simp only [Act.put, List.setIfInBounds_toArray, List.set_cons_succ, List.set_cons_zero]
    all_goals
      change wpAny _ _ _ _ _ _ _ (w1.drew.alloc (.cells (#[.int .i64 (k : Int)] ++ cs) 69))
      refine any_one 9 (by kernel_rfl) (wpOp_step rfl fun K hK => step_append_lies _ rfl _ _ 63 rfl base 69 i69 _ 65 72 Try.underlying63 HI.out HI0.out HI1.out HI2.out (by simp [Value.cells, fillA]) (by decide) A.lv d.L.length (flatL d.L) rfl (HD.out.own.drew.alloc _) ⟨w1.heap.size, 0, none⟩ 1 1 (Value.int .i64 (k : Int) :: cs.toList) rfl (by simp; exact HS.out.size) ?_ ?_ (by decide) (by unfold maxLen; omega) (by omega) (by simp; omega) _ rfl ?_)
      · intro j u hu
        have hb : Blk (w1.drew.alloc (Obj.cells (#[Value.int .i64 (k : Int)] ++ cs) 69)) w1.heap.size (Value.int .i64 (k : Int) :: cs.toList) := Blk.newAt 69 _ _ rfl (by simp)
        have hadd : (⟨w1.heap.size, 0, none⟩ : Addr).add j = ⟨w1.heap.size, j, none⟩ := by unfold Addr.add; split <;> simp_all
        rw [hadd]
        exact hb.cell hu
      · intro u hu
        rcases List.mem_cons.1 hu with rfl | hu
        · rfl
        · exact HS.out.one u (by simpa using hu)
      · intro g cap w2 hown hgrow hat hlt
        refine hK _ _ ?_
        clear hK K
        change wpAny _ _ _ _ _ _ (Act.put _ (some 23) _) _
        simp only [Act.put, List.setIfInBounds_toArray, List.set_cons_succ, List.set_cons_zero]
        have HOwn := Lib.hid hown
        have HGrow := Lib.hid hgrow
        have HAt := Lib.hid (show A.lv.ownBlock = some g ∨ w1.heap.size ≤ g by
          rcases hat with h | h
          · exact .inl h
          · right; rw [h]; simp)
        have hb0 := (HD.out.blk.drew.alloc (Obj.cells (#[Value.int .i64 (k : Int)] ++ cs) 69)).of_block (hgrow.block A.b (by have := HD.out.blk.lt; simp; omega) fun e => HD.out.o1 e.symm)
        have hb2 := (HD.out.last.drew.alloc (Obj.cells (#[Value.int .i64 (k : Int)] ++ cs) 69)).of_block (hgrow.block A.nb (by have := HD.out.last.lt; simp; omega) fun e => HD.out.o3 e.symm)
        have hc1 : w2.cell? ⟨A.b, 1, none⟩ = some A.lv := hb0.cell rfl
        have hf1 := hb0.frozen 1
        have HB0 := Lib.hid hb0
        have HB2 := Lib.hid hb2
        clear hown hgrow hat hb0 hb2 c1 c1'
        refine any_one 10 (by kernel_rfl) (wpOp_step rfl fun K hK => ?_)
        go_simp
        refine hK _ _ ?_
        clear hK K
        refine any_one 11 (by kernel_rfl) (wpOp_step rfl fun K hK => ?_)
        go_simp
        refine hK _ _ ?_
        clear hK K
        refine any_one 12 (by kernel_rfl) (wpOp_step rfl fun K hK => ?_)
        go_simp
        refine hK _ _ ?_
        clear hK K
        refine wpAny_done (by kernel_rfl) ?_ _
        go_wp2_with fail
        obtain ⟨w3, hw3⟩ : ∃ w3, w3 = w2.setCell ⟨A.b, 1, none⟩ (.slice (some ⟨g, 0, none⟩) (d.L.length + 1) cap) := ⟨_, rfl⟩
        rw [← hw3]
        have hb0 := HB0.out.set 1 (.slice (some ⟨g, 0, none⟩) (d.L.length + 1) cap)
        rw [← hw3] at hb0
        have hb2 : Blk w3 A.nb (N.map fun (n : Nat) => Value.int .i64 (n : Int)) := by rw [hw3]; exact HB2.out.setOther HD.out.n2.symm _
        have c1 : w3.cell? ⟨A.b, 1, none⟩ = some (.slice (some ⟨g, 0, none⟩) (d.L.length + 1) cap) := hb0.cell rfl
        have c2 : w3.cell? ⟨A.b, 2, none⟩ = some (.slice (some ⟨A.nb, 0, none⟩) d.S.length d.S.length) := hb0.cell rfl
        obtain ⟨m, hm⟩ : ∃ m, N[k]? = some m := ⟨_, List.getElem?_eq_getElem (by have := HD.out.hN; simp only at this; omega)⟩
        have c3 : w3.cell? ⟨A.nb, k, none⟩ = some (.int .i64 (m : Int)) := hb2.cell (by rw [List.getElem?_map, hm]; rfl)
        have f3 := hb2.frozen k
        have HW3 := Lib.hid hw3
        have hk0 : (0 : Int) ≤ (k : Int) := by omega
        have hk1 : (k : Int) < (d.S.length : Int) := by omega
        clear hw3 hb0 hb2 hm
        go_region
        have HFin := HD.out.wrote (k := k) hk HS.out HOwn.out HGrow.out HAt.out w3 HW3.out w3.drew ⟨rfl, rfl, rfl, rfl⟩ (d.L.length + 1) rfl
        have HFin2 := Lib.hid HFin
        clear HFin
        go_wp2_with fail
        go_ret
        have hO1 : Only A.foot w w1 := ((Only.refl A.foot w).alloc _).trans HO.out
        refine ⟨.slice (some ⟨g, 0, none⟩) (d.L.length + 1) cap, rfl, ⟨_, HFin2.out.1⟩, hO1.trans HFin2.out.2, fun k hk => ?_⟩
        rcases HAt.out with h | h
        · exact .inl (by rw [h]; exact hk)
        · right
          have : g = k := Option.some.inj hk
          omega
end Go.Proofs.Ytdmjhpebpooiaaa
