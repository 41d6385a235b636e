/- The contract of the document's Write. -/
import Derived.Test.YtdmjhpebpooiaaaRef
namespace Go.Proofs.Ytdmjhpebpooiaaa
open Go.RowKit
theorem info72z : (Try.prog.info? 72).bind (·.zero) = some (.agg (#[.int .i64 0] ++ fillA 0)) := by kernel_rfl
theorem places72 : (Try.prog.underlying 72).map (fun | .struct fs => fs.toList.mapM (fun f => (Try.prog.info? f.type).map fun i => (f.offset, i.size)) | _ => none) = some (some [(0, 1), (1, 64)]) := by kernel_rfl
theorem built72 (i : Int) (cs : Array Value) (h : cs.size = 64) : Try.prog.built 72 [(0, .int .i64 i), (1, .agg cs)] = some (#[.int .i64 i] ++ cs) := by
  have hp := places72
  rw [Try.underlying72] at hp
  rw [built_struct Try.underlying72 info72z (Option.some.inj hp)]
  exact fill_pair i cs _ 64 h (by simp [Value.cells, fillA])
theorem build72 (w : World) (i : Int) (cs : Array Value) (h : cs.size = 64) : (Instr.build 72 #[(0, .int .i64 i), (1, .agg cs)]).run Try.prog w = .ok (.agg (#[.int .i64 i] ++ cs)) w := run_build w 72 _ _ (built72 i cs h)
theorem info72s : (Try.prog.info? 72).map (fun i => (i.zero, i.size, i.bytes)) = some (some (.agg (#[.int .i64 0] ++ fillA 0)), 65, 72) := by kernel_rfl
theorem row49 (w : World) (cs : Array Value) (h : cs.size = 65) : (Instr.buildSlice 49 1 #[(0, .agg cs)]).run Try.prog w = .ok (.slice (some ⟨w.heap.size, 0, none⟩) 1 1) (w.alloc (.cells cs 72)) := by
  obtain ⟨i, hi, hz, hs, _⟩ := info_parts info72s
  exact run_buildSlice_one w 49 72 i _ cs Try.underlying49 hi hz (by omega) (by omega) (by rw [h]; decide)

theorem RefIs.wrote {w1 w2 : World} {base b sb : Nat} {lv : Value} {d : D} (h : RefIs w1 base b sb lv d) {k : Nat} (hk : k < d.S.length) {s : Array Value} (hs : Sec s) {o : Obj} {g cap : Nat}
    (hown : w2.ownsRow base 72 65 (.slice (some ⟨g, 0, none⟩) (d.L.length + 1) cap) (d.L.length + 1) (flatL d.L ++ (Value.int .i64 (k : Int) :: s.toList))) (hgrow : (w1.drew.alloc o).grownBy w2 lv.ownBlock) (hat : lv.ownBlock = some g ∨ w1.heap.size ≤ g) :
    RefIs (w2.setCell ⟨b, 1, none⟩ (.slice (some ⟨g, 0, none⟩) (d.L.length + 1) cap)) base b sb (.slice (some ⟨g, 0, none⟩) (d.L.length + 1) cap) { d with L := d.L ++ [(k, s)] } ∧
    Only (rfoot b sb lv) w1 (w2.setCell ⟨b, 1, none⟩ (.slice (some ⟨g, 0, none⟩) (d.L.length + 1) cap)) := by
  have hf := h.foot_lt
  have hb := (hf b (.inl rfl)).2
  have hsb := (hf sb (.inr (.inl rfl))).2
  have hg1 : g ≠ b := fun e => by
    rcases hat with h1 | h1
    · exact h.o1 (by rw [h1, e])
    · omega
  have hg2 : g ≠ sb := fun e => by
    rcases hat with h1 | h1
    · exact h.o2 (by rw [h1, e])
    · omega
  have ho : Only (rfoot b sb lv) w1 w2 := ((Only.refl (rfoot b sb lv) w1).drew.alloc o).grown hgrow fun k hk => .inl (.inr (.inr hk))
  have blk2 : ∀ {c : Nat} {l : List Value}, Blk w1 c l → lv.ownBlock ≠ some c → Blk w2 c l := fun {c l} hb hne =>
    (hb.drew.alloc o).of_block (hgrow.block c (by have := hb.lt; simp; omega) fun e => hne e.symm)
  refine ⟨?_, ho.setCell (.inl (.inl rfl)) _⟩
  exact {
    blk := (blk2 h.blk h.o1).set 1 _
    sec := (blk2 h.sec h.o2).setOther h.n1.symm _
    own := by
      simp only [List.length_append, List.length_singleton]
      rw [flatL_snoc]
      exact ownsRow_of' hown fun k hk => heap_setCell_other w2 _ _ _ fun e => by
        have : g = k := Option.some.inj hk
        exact hg1 (by rw [this, e])
    hS := h.hS
    hL := fun p hp => by
      simp only [List.mem_append, List.mem_singleton] at hp
      rcases hp with hp | rfl
      · exact h.hL p hp
      · exact ⟨hs, hk⟩
    n1 := h.n1
    o1 := fun e => hg1 (Option.some.inj e)
    o2 := fun e => hg2 (Option.some.inj e)
    b1 := h.b1, b2 := h.b2, len := h.len, f := h.f }

/-- What a call of the document's device comes to. -/
def RDid (w : World) (base b sb : Nat) (lv : Value) (r : Value) (d : D) (e : Ending) (w' : World) : Prop :=
  ∃ lv', e = .returned r ∧ RefIs w' base b sb lv' d ∧ Only (rfoot b sb lv) w w' ∧ ∀ k, lv'.ownBlock = some k → lv.ownBlock = some k ∨ w.heap.size ≤ k
theorem RDid.same {w w' : World} {base b sb : Nat} {lv : Value} {r : Value} {d : D} (h : RefIs w' base b sb lv d) (ho : Only (rfoot b sb lv) w w') : RDid w base b sb lv r d (.returned r) w' := ⟨lv, rfl, h, ho, fun _ h => .inl h⟩
set_option maxRecDepth 100000 in
theorem rwrite_no (w : World) (base b sb : Nat) (lv : Value) (d : D) (h : RefIs w base b sb lv d) (i : Int) (hi : d.has i = false) (cs : Array Value) :
    Calls Try.prog 16 #[.pointer (some ⟨b, 0, none⟩), .int .i64 i, .agg cs] w fun e w' => e = .returned (.int .i64 1) ∧ Below w.heap.size w w' := by
  have H := Lib.hid (rhas_any (w.alloc (.cells cs 37)) base b sb lv d (h.only (S := fun _ => False) ((Only.refl _ _).alloc _) (fun _ _ h => h)) i)
  rw [hi] at H
  clear h hi
  go_enter Try.func16, Try.ntmps16
  go_wp2_with fail
  refine H.out.mono ?_
  rintro e w' ⟨rfl, rfl⟩
  go_wp2_with fail
  go_ret
  exact ⟨rfl, (Below.refl _ _).alloc (Nat.le_refl _) _⟩
set_option maxRecDepth 100000 in
set_option maxHeartbeats 1000000 in
theorem rwrite_yes (w : World) (base b sb : Nat) (lv : Value) (d : D) (h : RefIs w base b sb lv d) (hT : d.T ≤ 1000000) (hLn : d.L.length ≤ 1000000) (hbase : base ≤ w.heap.size) (i : Int) (hi : d.has i = true) (cs : Array Value) (hs : Sec cs) :
    Calls Try.prog 16 #[.pointer (some ⟨b, 0, none⟩), .int .i64 i, .agg cs] w (RDid w base b sb lv (.int .i64 d.flushE) (d.write i cs)) := by
  have hf := h.foot_lt
  have hA := h.only (S := fun _ => False) ((Only.refl w.heap.size.le w).alloc (.cells cs 37) |>.more (T := fun _ => False) (fun k hk hh => absurd hk (Nat.not_lt.2 hh))) (fun _ _ h => h)
  have HH := Lib.hid (rhas_any (w.alloc (.cells cs 37)) base b sb lv d hA i)
  rw [hi] at HH
  have H := Lib.hid (rfails_any (w.alloc (.cells cs 37)) base b sb lv d hA hT)
  have hbox := Blk.newAt (w := w) (cs := cs) 37 _ _ rfl rfl
  obtain ⟨k, rfl, hk⟩ := write_has hi
  have HW : d.write k cs = if d.F = 0 then { d with F := -1 } else { d with F := d.nextF, T := d.T + 1, L := d.L ++ [(k, cs)] } := by unfold D.write; rw [if_pos hi, Int.toNat_natCast]
  rw [HW]
  clear HW hi h hA
  unfold D.flushE
  unfold D.ask at H
  by_cases h0 : d.F = 0
  · rw [if_pos h0, if_pos h0]
    rw [if_pos h0, show decide (d.F = 0) = true by simp [h0]] at H
    clear hbox h0
    go_enter Try.func16, Try.ntmps16
    go_wp2_with fail
    refine HH.out.mono ?_
    rintro e w' ⟨rfl, rfl⟩
    go_wp2_with fail
    refine H.out.mono ?_
    rintro e w' ⟨rfl, hd, ho⟩
    have HD := Lib.hid hd
    have HO := Lib.hid ho
    clear hd ho
    go_wp2_with fail
    go_ret
    exact RDid.same HD.out (((Only.refl _ w).alloc _).trans HO.out)
  · rw [if_neg h0, if_neg h0]
    rw [if_neg h0, show decide (d.F = 0) = false by simp [h0]] at H
    clear h0
    have HF := Lib.hid hf
    have HX := Lib.hid hbox
    have HS := Lib.hid hs
    clear hf hbox hs
    go_enter Try.func16, Try.ntmps16
    go_wp2_with fail
    refine HH.out.mono ?_
    rintro e w' ⟨rfl, rfl⟩
    go_wp2_with fail
    refine H.out.mono ?_
    rintro e w1 ⟨rfl, hd, ho⟩
    have hx1 : Blk w1 w.heap.size cs.toList := HX.out.only ho fun hh => by have := (HF.out _ hh).2; omega
    have HX1 := Lib.hid hx1
    have HO := Lib.hid ho
    have HD := Lib.hid hd
    have c1 : w1.cell? ⟨b, 1, none⟩ = some lv := hd.blk.cell rfl
    clear hx1 ho hd
    go_wp2_with fail
    refine wp_region_any (by kernel_rfl) ?_
    change wpAny _ _ _ _ _ _ _ w1.drew
    refine any_take 0 (some 13) (.pointer (some ⟨b, 0, none⟩)) rfl rfl (by kernel_rfl) (by kernel_rfl) (by kernel_rfl) (fun _ _ _ h => h) rfl (fun w => by go_simp) ?_
    simp only [Act.put, List.setIfInBounds_toArray, List.set_cons_succ, List.set_cons_zero]
    refine any_take 1 (some 14) (.pointer (some ⟨b, 0, none⟩)) rfl rfl (by kernel_rfl) (by kernel_rfl) (by kernel_rfl) (fun _ _ _ h => h) rfl (fun w => by go_simp) ?_
    simp only [Act.put, List.setIfInBounds_toArray, List.set_cons_succ, List.set_cons_zero]
    refine any_take 2 (some 15) (.pointer (some ⟨b, 0, none⟩)) rfl rfl (by kernel_rfl) (by kernel_rfl) (by kernel_rfl) (fun _ _ _ h => h) rfl (fun w => by go_simp) ?_
    simp only [Act.put, List.setIfInBounds_toArray, List.set_cons_succ, List.set_cons_zero]
    refine any_take 3 (some 16) (.pointer (some ⟨b, 1, none⟩)) rfl rfl (by kernel_rfl) (by kernel_rfl) (by kernel_rfl) (fun _ _ _ h => h) rfl (fun w => by go_simp) ?_
    simp only [Act.put, List.setIfInBounds_toArray, List.set_cons_succ, List.set_cons_zero]
    refine any_take 5 (some 18) (.int .i64 (k : Int)) rfl rfl (by kernel_rfl) (by kernel_rfl) (by kernel_rfl) (fun _ _ _ h => h) rfl (fun w => by go_simp) ?_
    simp only [Act.put, List.setIfInBounds_toArray, List.set_cons_succ, List.set_cons_zero]
    have hz65 : (#[Value.int .i64 (k : Int)] ++ cs).size = 65 := by have := HS.out.size; simp; omega
    have hw1 : w.heap.size ≤ w1.heap.size := by have := HO.out.size; simp at this; omega
    have HZ := Lib.hid hz65
    obtain ⟨i72, hi, hz0, hz1, hz2⟩ := info_parts info72s
    have HI := Lib.hid hi
    have HI0 := Lib.hid hz0
    have HI1 := Lib.hid hz1
    have HI2 := Lib.hid hz2
    clear hz65 hi hz0 hz1 hz2
    have c1' : (w1.drew.alloc (.cells (#[.int .i64 (k : Int)] ++ cs) 72)).cell? ⟨b, 1, none⟩ = some lv := (HD.out.blk.drew.alloc _).cell rfl
    refine any_two 4 6 (by kernel_rfl) (any_op rfl rfl (some 17) rfl lv w1.drew (exec_load1 _ _ _ 49 _ rfl ⟨b, 1, none⟩ rfl lv _ Try.underlying49 rfl c1) ?_) (any_op rfl rfl (some 19) rfl (.agg cs) w1.drew (exec_load_at _ _ _ 37 _ rfl w.heap.size 0 rfl cs _ Try.underlying37 rfl (by rw [HS.out.size]; exact info37) (HX1.out.drew.cells cs rfl)) ?_)
    all_goals simp only [Act.put, List.setIfInBounds_toArray, List.set_cons_succ, List.set_cons_zero]
    case' refine_1 =>
      refine any_one 6 (by kernel_rfl) (any_op rfl rfl (some 19) rfl (.agg cs) w1.drew (exec_load_at _ _ _ 37 _ rfl w.heap.size 0 rfl cs _ Try.underlying37 rfl (by rw [HS.out.size]; exact info37) (HX1.out.drew.cells cs rfl)) ?_)
      simp only [Act.put, List.setIfInBounds_toArray, List.set_cons_succ, List.set_cons_zero]
      refine any_one 7 (by kernel_rfl) (any_op rfl rfl (some 20) rfl (.agg (#[.int .i64 (k : Int)] ++ cs)) w1.drew (exec_build _ _ _ _ 72 _ rfl #[(0, .int .i64 (k : Int)), (1, .agg cs)] (by simp [Act.eval]) _ (build72 _ k cs HS.out.size)) ?_)
      simp only [Act.put, List.setIfInBounds_toArray, List.set_cons_succ, List.set_cons_zero]
      refine any_one 8 (by kernel_rfl) (any_op rfl rfl (some 21) rfl _ _ (exec_buildSlice _ _ _ _ 49 1 _ rfl #[(0, .agg (#[.int .i64 (k : Int)] ++ cs))] (by simp [Act.eval]) _ (row49 _ _ HZ.out)) ?_)
      simp only [Act.put, List.setIfInBounds_toArray, List.set_cons_succ, List.set_cons_zero]
    case' refine_2 =>
      refine any_take 7 (some 20) (.agg (#[.int .i64 (k : Int)] ++ cs)) rfl rfl (by kernel_rfl) (by kernel_rfl) (by kernel_rfl) (fun _ _ _ h => h) rfl (fun w => (exec_build _ _ _ _ 72 _ rfl #[(0, .int .i64 (k : Int)), (1, .agg cs)] (by simp [Act.eval]) _ (build72 _ k cs HS.out.size))) ?_
      simp only [Act.put, List.setIfInBounds_toArray, List.set_cons_succ, List.set_cons_zero]
      refine any_two 4 8 (by kernel_rfl) (any_op rfl rfl (some 17) rfl lv w1.drew (exec_load1 _ _ _ 49 _ rfl ⟨b, 1, none⟩ rfl lv _ Try.underlying49 rfl c1) ?_) (any_op rfl rfl (some 21) rfl _ _ (exec_buildSlice _ _ _ _ 49 1 _ rfl #[(0, .agg (#[.int .i64 (k : Int)] ++ cs))] (by simp [Act.eval]) _ (row49 _ _ HZ.out)) ?_)
      all_goals simp only [Act.put, List.setIfInBounds_toArray, List.set_cons_succ, List.set_cons_zero]
      case' refine_1 =>
        refine any_one 8 (by kernel_rfl) (any_op rfl rfl (some 21) rfl _ _ (exec_buildSlice _ _ _ _ 49 1 _ rfl #[(0, .agg (#[.int .i64 (k : Int)] ++ cs))] (by simp [Act.eval]) _ (row49 _ _ HZ.out)) ?_)
        simp only [Act.put, List.setIfInBounds_toArray, List.set_cons_succ, List.set_cons_zero]
      case' refine_2 =>
        refine any_one 4 (by kernel_rfl) (any_op rfl rfl (some 17) rfl lv _ (exec_load1 _ _ _ 49 _ rfl ⟨b, 1, none⟩ rfl lv _ Try.underlying49 rfl c1') ?_)
        simp only [Act.put, List.setIfInBounds_toArray, List.set_cons_succ, List.set_cons_zero]
    all_goals
      change wpAny _ _ _ _ _ _ _ (w1.drew.alloc (.cells (#[.int .i64 (k : Int)] ++ cs) 72))
      refine any_one 9 (by kernel_rfl) (wpOp_step rfl fun K hK => step_append_lies _ rfl _ _ 49 rfl base 72 i72 _ 65 72 Try.underlying49 HI.out HI0.out HI1.out HI2.out (by simp [Value.cells, fillA]) (by decide) lv d.L.length (flatL d.L) rfl (HD.out.own.drew.alloc _) ⟨w1.heap.size, 0, none⟩ 1 1 (Value.int .i64 (k : Int) :: cs.toList) rfl (by simp; exact HS.out.size) ?_ ?_ (by decide) (by unfold maxLen; omega) (by omega) (by simp; omega) _ rfl ?_)
      · intro j u hu
        have hb : Blk (w1.drew.alloc (Obj.cells (#[Value.int .i64 (k : Int)] ++ cs) 72)) w1.heap.size (Value.int .i64 (k : Int) :: cs.toList) := Blk.newAt 72 _ _ rfl (by simp)
        have hadd : (⟨w1.heap.size, 0, none⟩ : Addr).add j = ⟨w1.heap.size, j, none⟩ := by unfold Addr.add; split <;> simp_all
        rw [hadd]
        exact hb.cell hu
      · intro u hu
        rcases List.mem_cons.1 hu with rfl | hu
        · rfl
        · exact HS.out.one u (by simpa using hu)
      · intro g cap w2 hown hgrow hat hlt
        refine hK _ _ ?_
        clear hK K
        change wpAny _ _ _ _ _ _ (Act.put _ (some 22) _) _
        simp only [Act.put, List.setIfInBounds_toArray, List.set_cons_succ, List.set_cons_zero]
        have HOwn := Lib.hid hown
        have HGrow := Lib.hid hgrow
        have HAt := Lib.hid (show lv.ownBlock = some g ∨ w1.heap.size ≤ g by
          rcases hat with h | h
          · exact .inl h
          · right; rw [h]; simp)
        have hb0 := (HD.out.blk.drew.alloc (Obj.cells (#[Value.int .i64 (k : Int)] ++ cs) 72)).of_block (hgrow.block b (by have := HD.out.blk.lt; simp; omega) fun e => HD.out.o1 e.symm)
        skip
        have hc1 : w2.cell? ⟨b, 1, none⟩ = some lv := hb0.cell rfl
        have hf1 := hb0.frozen 1
        have HB0 := Lib.hid hb0
        clear hown hgrow hat hb0 c1 c1'
        refine any_one 10 (by kernel_rfl) (wpOp_step rfl fun K hK => ?_)
        go_simp
        refine hK _ _ ?_
        clear hK K
        refine any_one 11 (by kernel_rfl) (wpOp_step rfl fun K hK => ?_)
        go_simp
        refine hK _ _ ?_
        clear hK K
        refine any_one 12 (by kernel_rfl) (wpOp_step rfl fun K hK => ?_)
        go_simp
        refine hK _ _ ?_
        clear hK K
        refine wpAny_done (by kernel_rfl) ?_ _
        have HFin := Lib.hid (HD.out.wrote (k := k) hk HS.out HOwn.out HGrow.out HAt.out)
        go_wp2_with fail
        go_ret
        have hO1 : Only (rfoot b sb lv) w w1 := ((Only.refl _ w).alloc _).trans HO.out
        refine ⟨.slice (some ⟨g, 0, none⟩) (d.L.length + 1) cap, rfl, HFin.out.1, hO1.trans HFin.out.2, fun k hk => ?_⟩
        rcases HAt.out with h | h
        · exact .inl (by rw [h]; exact hk)
        · right
          have : g = k := Option.some.inj hk
          omega
end Go.Proofs.Ytdmjhpebpooiaaa
