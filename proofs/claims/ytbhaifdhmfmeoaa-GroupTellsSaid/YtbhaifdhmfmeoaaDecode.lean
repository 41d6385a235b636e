/- Decode: the block and the number of a sector, or that it is none's. -/
import Derived.Test.YtbhaifdhmfmeoaaRead
import Derived.Deep.Cut
import Derived.Deep.CutRange
namespace Go.Proofs.Ytbhaifdhmfmeoaa
set_option linter.unusedSimpArgs false
set_option linter.unusedVariables false
open Go.RowKit

theorem wp_runTo {P : Program} {o : Oper} {a : Act} {w : World} {K : Act → World → Prop} {Q : Exit → Act → World → Prop} (dst : Option Tmp) (hd : o.dst = dst) (v : Value) (w' : World) (hr : (execOp a.eval o).run P w = .ok (.value v) w') (h : K (a.put dst v) w') : o.wp P a w K Q := by
  subst hd
  exact wp_run v w' hr h
theorem twoH {P : Program} {ops : Array Oper} {md : Region.Mode} {Q : Exit → Act → World → Prop} {S : World → Prop} {fuel : Nat} {listed : Array Bool} {a : Act} {w : World} (i j : Nat) {o p : Oper} (hr : Region.ready md ops listed = [i, j]) (hi : ops[i]? = some o) (hj : ops[j]? = some p)
    (hw : Region.wanted o (yielded ops a.tmps) = true) (hx : Region.wanted p (yielded ops a.tmps) = true)
    (h : ∀ K : Act → World → Prop, (∀ a w, S w → wpAnyH P md ops Q S fuel (listed.setIfInBounds i true) a w → K a w) → Oper.wp P o a w K Q)
    (k : ∀ K : Act → World → Prop, (∀ a w, S w → wpAnyH P md ops Q S fuel (listed.setIfInBounds j true) a w → K a w) → Oper.wp P p a w K Q) : wpAnyH P md ops Q S (fuel + 1) listed a w :=
  wpAnyH_all hr (by simp) fun m hm => by
    rcases (show m = i ∨ m = j by simpa using hm) with rfl | rfl
    · exact wpOp_step hi fun K hK => by rw [if_pos hw]; exact h K fun a w hS hA => hK a w ⟨hS, hA⟩
    · exact wpOp_step hj fun K hK => by rw [if_pos hx]; exact k K fun a w hS hA => hK a w ⟨hS, hA⟩
theorem results_cell_tmp2 {P : Program} {fn : Func} {p q r : Tmp} {ty : TypeId} (h : fn.results = #[.cell p ty, .tmp q, .tmp r]) (tmps : Array Value) (w : World) (g off : Nat) (cs : Array Value) (d : TypeDesc) (v u : Value)
    (hp : tmps.getD p undef = .pointer (some ⟨g, off, none⟩)) (hv : tmps.getD q undef = v) (hv2 : tmps.getD r undef = u) (hu : P.underlying ty = some d) (hd : (match d with | .struct _ | .array _ _ => true | _ => false) = true) (hi : (P.info? ty).map (·.size) = some cs.size)
    (hc : ∀ j (h : j < cs.size), w.cell? ⟨g, off + j, none⟩ = some cs[j]) :
    (results fn tmps).run P w = .ok (.tuple #[.agg cs, v, u]) w := by
  have hp' : tmps[p]?.getD undef = .pointer (some ⟨g, off, none⟩) := by simpa using hp
  have hv' : tmps[q]?.getD undef = v := by simpa using hv
  have hv2' : tmps[r]?.getD undef = u := by simpa using hv2
  simp [results, h, hp', hv', hv2', asAddr, run_load_at w g off ty cs d hu hd hi hc]
theorem none_wf : Bk.none.Wf := ⟨small0, small0, small0, small0, rfl, fun x hx => by rw [List.eq_of_mem_replicate hx]; exact ⟨by decide, by decide⟩, by decide, fun x hx => by simp [Bk.none] at hx, rfl, fun x hx => by rw [List.eq_of_mem_replicate hx]; exact small0⟩
theorem built57n : Try.prog.built 57 [] = some (Bk.none.arr nilv) := by kernel_rfl
theorem build57 (w : World) : (Instr.build 57 #[]).run Try.prog w = .ok (.agg (Bk.none.arr nilv)) w := run_build w 57 _ _ built57n
theorem arr_form (b : Bk) {w : World} {sv : Value} {l : List Int} (h : BytesAt w sv l) : ∀ v ∈ b.arr sv, v.oneCell' = true := by
  obtain ⟨a, cap, rfl, _⟩ := h
  exact cells_one b a _ cap
/-- Bytes that lie elsewhere than where something is written. -/
theorem BytesAt.only {w w' : World} {sv : Value} {l : List Int} {t : Nat} (h : BytesAt w sv l) (ho : Only (fun k => k = t) w w') (ht : ∀ b o n c, sv = .slice (some ⟨b, o, none⟩) n c → b ≠ t) : BytesAt w' sv l := by
  obtain ⟨a, cap, e, hc⟩ := h
  refine ⟨a, cap, e, fun i x hx => ?_⟩
  obtain ⟨b, o, e2, hx2⟩ := hc i x hx
  refine ⟨b, o, e2, ?_⟩
  have hne : b ≠ t := ht b o _ _ (by rw [e, e2])
  have hb := ho.block b (block_lt_of_cell hx2) hne
  rw [← hx2]
  simp only [World.cell?, hb]
theorem BytesAt.lt {w : World} {sv : Value} {l : List Int} (h : BytesAt w sv l) (hl : 0 < l.length) {b o n c : Nat} (e : sv = .slice (some ⟨b, o, none⟩) n c) : b < w.heap.size := by
  obtain ⟨b', o', c', e', hc⟩ := h.has hl
  rw [e] at e'
  cases e'
  exact block_lt_of_cell (hc 0 l[0] (by simp [hl]))

theorem sec_length {b : Bk} (h : b.Wf) (n : Int) : (b.sec n).length = 64 := by
  unfold Bk.sec
  cases hg : b.good
  · simp [zeros]
  · simpa using enc_length hg h n
set_option maxRecDepth 100000 in
theorem decode_any (s : List Int) (hs : Sc s) (w : World) : Calls Try.prog 62 #[.agg (u8s s).toArray] w fun e w' => ∃ sv, e = .returned (.tuple #[.agg ((decB s).arr sv), .int .u32 (decN s), .int .i64 (decE s)]) ∧ BytesAt w' sv (decB s).bytes ∧ Below w.heap.size w w' ∧ Fresh w.heap.size sv := by
  have HS := Lib.hid hs
  have HSL : Hid ((u8s s).toArray.size = 64) := Lib.hid (by rw [u8s_size, hs.length])
  have HRW := Lib.hid (readOf_wf hs)
  have HSR := Lib.hid (seqOf_range hs)
  have HRD := Lib.hid fun w => read_any s hs w
  have hsl4 : ((s.drop 2).take 4).length = 4 := by rw [List.length_take, List.length_drop, hs.length]; omega
  clear hs
  go_enter Try.func62, Try.ntmps62
  repeat (first | (with_reducible refine stopR (id := 0) ?_) | go_values | go_skip | go_guarded | go_step | go_upon | go_back)
  refine Stop.mk (wp_region_lit ?_)
  refine box_g rfl rfl ?_
  intro wA hA hB hl
  try simp only [Act.put, List.setIfInBounds_toArray, List.set_cons_succ, List.set_cons_zero]
  refine alloc_g zero57b rfl ?_
  intro wB hR hB2 hl2
  try simp only [Act.put, List.setIfInBounds_toArray, List.set_cons_succ, List.set_cons_zero]
  have hA2 := hA.below hB2 hl
  have hBB := hB.trans (hB2.mono hB.size)
  refine takeL (.int .u32 0) rfl (by go_simp) ?_
  try simp only [Act.put, List.setIfInBounds_toArray, List.set_cons_succ, List.set_cons_zero]
  refine takeL (.int .i64 0) rfl (by go_simp) ?_
  try simp only [Act.put, List.setIfInBounds_toArray, List.set_cons_succ, List.set_cons_zero]
  have HA2 : Hid (Blk wB w.heap.size (u8s s) ∧ Blk wB wA.heap.size (Bk.none.cells nilv) ∧ Below w.heap.size w wB ∧ w.heap.size < wA.heap.size) := Lib.hid ⟨hA2, hR, hBB, hl⟩
  clear hA hB hl hR hB2 hl2 hA2 hBB
  generalize hgg : w.heap.size = g at *
  generalize wA.heap.size = r at *
  have HGG := Lib.hid hgg
  clear hgg wA
  refine wpList_nil ?_
  go_upto_region 1 with fail
  go_cut [5, 6] from 9 to 13 (fun s5 s6 wx => ∃ t sv, s5 = .pointer (some ⟨t, 0, none⟩) ∧ s6 = .int .u32 (seqOf s) ∧ RT w wx g r t s (readOf s) sv ∧ BytesAt wx sv (readOf s).bytes ∧ Fresh (r + 1) sv)
  case first =>
    have hAt : ∀ wq, Below wB.heap.size wB wq → At wq g 0 (u8s s).toArray := fun wq hq => Blk.all (HA2.out.1.below hq HA2.out.1.lt) rfl
    have HC4 := Lib.hid fun (wq : World) (hq : Below wB.heap.size wB wq) => get4_any wq g 2 62 ((s.drop 2).take 4) hsl4 (sc_seg HS.out 2 4) (fun i x hx => (HA2.out.1.below hq HA2.out.1.lt).cell (by
      have hj : i < 4 := by
        have := (List.getElem?_eq_some_iff.1 hx).1
        omega
      rw [List.getElem?_take_of_lt hj, List.getElem?_drop] at hx
      rw [List.getElem?_map, hx]
      rfl))
    refine startH (fun wq => Below wB.heap.size wB wq) (by kernel_rfl) ?_
    have HSX : Hid (Below wB.heap.size wB wB.drew) := Lib.hid (Below.refl _ _).drew
    generalize wB.drew = wS at *
    refine takeH 0 (some 9) (.agg (u8s s).toArray) rfl rfl (by kernel_rfl) (by kernel_rfl) (by kernel_rfl) (fun _ _ _ h => h) rfl (fun w hS => exec_load_at w _ _ 50 _ rfl g 0 rfl _ _ Try.underlying50 rfl (by rw [HSL.out]; exact info50) (hAt w hS)) HSX.out ?_
    try simp only [Act.put, List.setIfInBounds_toArray, List.set_cons_succ, List.set_cons_zero]
    refine takeH 2 (some 11) (.slice (some ⟨g, 2, none⟩) 4 62) rfl rfl (by kernel_rfl) (by kernel_rfl) (by kernel_rfl) (fun _ _ _ h => h) rfl (fun w hS => by go_simp) HSX.out ?_
    try simp only [Act.put, List.setIfInBounds_toArray, List.set_cons_succ, List.set_cons_zero]
    refine twoH 1 4 (by kernel_rfl) rfl rfl rfl rfl (fun K hK => ?_) (fun K hK => ?_)
    · go_simp
      refine (HRD.out _).mono ?_
      rintro e w1 ⟨sv, rfl, hby, hb, hfr⟩
      have HSY := Lib.hid (HSX.out.trans (hb.mono HSX.out.size))
      have HFR0 := Lib.hid (show ∀ b o n c, sv = .slice (some ⟨b, o, none⟩) n c → 0 < (readOf s).bytes.length → b < w1.heap.size from fun b o n c h hl => hby.lt hl h)
      have HFRR := Lib.hid (show Fresh (r + 1) sv from fun b o n c h => by have := hfr b o n c h; have := HSX.out.size; have := HA2.out.2.1.lt; omega)
      have HBY := Lib.hid hby
      refine hK _ _ HSY.out ?_
      clear hK K hb hby HSX hfr
      have HSX := HSY
      clear HSY
      try simp only [Act.put, List.setIfInBounds_toArray, List.set_cons_succ, List.set_cons_zero]
      refine twoH 3 4 (by kernel_rfl) rfl rfl rfl rfl (fun K hK => ?_) (fun K hK => ?_)
      · go_simp
        refine (HC4.out _ HSX.out).mono ?_
        rintro e w2 ⟨rfl, rfl⟩
        refine hK _ _ HSX.out ?_
        clear hK K
        try simp only [Act.put, List.setIfInBounds_toArray, List.set_cons_succ, List.set_cons_zero]
        rw [show num ((s.drop 2).take 4) = seqOf s from rfl]
        refine oneH 4 (by kernel_rfl) rfl rfl fun K hK => ?_
        refine wp_runTo (some 5) rfl _ _ (exec_alloc _ _ _ 57 rfl _ zero57b) ?_
        have hT := Blk.new w1 (Bk.none.arr nilv) 57
        have hBT := (Below.refl w1.heap.size w1).alloc (Nat.le_refl _) (.cells (Bk.none.arr nilv) 57)
        have HSY := Lib.hid (HSX.out.trans (hBT.mono HSX.out.size))
        have HT := Lib.hid hT
        have HTB := Lib.hid HSX.out.size
        have HBZ := Lib.hid (HBY.out.below hBT)
        clear HBY
        have HBY := HBZ
        clear HBZ
        refine hK _ _ HSY.out ?_
        clear hK K hBT hT HSX
        have HSX := HSY
        clear HSY
        try simp only [Act.put, List.setIfInBounds_toArray, List.set_cons_succ, List.set_cons_zero]
        generalize w1.alloc (.cells (Bk.none.arr nilv) 57) = wD at *
        generalize w1.heap.size = t at *
        refine oneH 5 (by kernel_rfl) rfl rfl fun K hK => ?_
        refine wp_store_at 57 _ _ rfl t 0 ((readOf s).arr sv) rfl rfl _ HT.out (by rw [(readOf s).arr_size HRW.out]; exact info57) (by rw [(readOf s).arr_size HRW.out]; decide) (arr_form _ HBY.out) ?_
        rw [splice_all _ _ (by rw [(readOf s).arr_size HRW.out]; rfl)]
        have hT2 := HT.out.row ((readOf s).arr sv)
        have hOT := (Only.refl (fun k => k = t) wD).setRow (g := t) (.inl rfl) ((readOf s).arr sv)
        generalize wD.setRow t ((readOf s).arr sv) = wT at *
        have hbf := hOT.below HSX.out.size (fun k hk => by have := HTB.out; omega)
        have HSY := Lib.hid (HSX.out.trans hbf)
        have HBZ : Hid (BytesAt wT sv (readOf s).bytes) := Lib.hid (by
          rcases Nat.eq_zero_or_pos (readOf s).bytes.length with h0 | h0
          · obtain ⟨a, cap, e, _⟩ := HBY.out
            exact ⟨a, cap, e, fun i x hx => by rw [List.eq_nil_of_length_eq_zero h0] at hx; simp at hx⟩
          · exact HBY.out.only hOT fun b o n c h => by have := HFR0.out b o n c h h0; omega)
        refine hK _ _ HSY.out ?_
        clear hK K
        try simp only [Act.put, List.setIfInBounds_toArray, List.set_cons_succ, List.set_cons_zero]
        refine takeH 6 (some 6) (.int .u32 (seqOf s)) rfl rfl (by kernel_rfl) (by kernel_rfl) (by kernel_rfl) (fun _ _ _ h => h) rfl (fun w hS => by go_simp) HSY.out ?_
        try simp only [Act.put, List.setIfInBounds_toArray, List.set_cons_succ, List.set_cons_zero]
        refine wpAnyH_done (by kernel_rfl) ?_ _
        go_wp2_with fail
        go_meet
        refine ⟨t, sv, rfl, rfl, ⟨HA2.out.1.below HSY.out HA2.out.1.lt, HA2.out.2.1.below HSY.out HA2.out.2.1.lt, hT2, by rw [HGG.out]; exact HA2.out.2.2.1.trans (HSY.out.mono (by have := HA2.out.2.2.1.size; have := HGG.out; omega)), Nat.le_of_eq HGG.out, HA2.out.2.2.2, by have := HTB.out; have := HA2.out.2.1.lt; omega⟩, HBZ.out, HFRR.out⟩
      · refine wp_runTo (some 5) rfl _ _ (exec_alloc _ _ _ 57 rfl _ zero57b) ?_
        have hT := Blk.new w1 (Bk.none.arr nilv) 57
        have hBT := (Below.refl w1.heap.size w1).alloc (Nat.le_refl _) (.cells (Bk.none.arr nilv) 57)
        have HSY := Lib.hid (HSX.out.trans (hBT.mono HSX.out.size))
        have HT := Lib.hid hT
        have HTB := Lib.hid HSX.out.size
        have HBZ := Lib.hid (HBY.out.below hBT)
        clear HBY
        have HBY := HBZ
        clear HBZ
        refine hK _ _ HSY.out ?_
        clear hK K hBT hT HSX
        have HSX := HSY
        clear HSY
        try simp only [Act.put, List.setIfInBounds_toArray, List.set_cons_succ, List.set_cons_zero]
        generalize w1.alloc (.cells (Bk.none.arr nilv) 57) = wD at *
        generalize w1.heap.size = t at *
        refine oneH 3 (by kernel_rfl) rfl rfl fun K hK => ?_
        go_simp
        refine (HC4.out _ HSX.out).mono ?_
        rintro e w2 ⟨rfl, rfl⟩
        refine hK _ _ HSX.out ?_
        clear hK K
        try simp only [Act.put, List.setIfInBounds_toArray, List.set_cons_succ, List.set_cons_zero]
        rw [show num ((s.drop 2).take 4) = seqOf s from rfl]
        refine oneH 5 (by kernel_rfl) rfl rfl fun K hK => ?_
        refine wp_store_at 57 _ _ rfl t 0 ((readOf s).arr sv) rfl rfl _ HT.out (by rw [(readOf s).arr_size HRW.out]; exact info57) (by rw [(readOf s).arr_size HRW.out]; decide) (arr_form _ HBY.out) ?_
        rw [splice_all _ _ (by rw [(readOf s).arr_size HRW.out]; rfl)]
        have hT2 := HT.out.row ((readOf s).arr sv)
        have hOT := (Only.refl (fun k => k = t) wD).setRow (g := t) (.inl rfl) ((readOf s).arr sv)
        generalize wD.setRow t ((readOf s).arr sv) = wT at *
        have hbf := hOT.below HSX.out.size (fun k hk => by have := HTB.out; omega)
        have HSY := Lib.hid (HSX.out.trans hbf)
        have HBZ : Hid (BytesAt wT sv (readOf s).bytes) := Lib.hid (by
          rcases Nat.eq_zero_or_pos (readOf s).bytes.length with h0 | h0
          · obtain ⟨a, cap, e, _⟩ := HBY.out
            exact ⟨a, cap, e, fun i x hx => by rw [List.eq_nil_of_length_eq_zero h0] at hx; simp at hx⟩
          · exact HBY.out.only hOT fun b o n c h => by have := HFR0.out b o n c h h0; omega)
        refine hK _ _ HSY.out ?_
        clear hK K
        try simp only [Act.put, List.setIfInBounds_toArray, List.set_cons_succ, List.set_cons_zero]
        refine takeH 6 (some 6) (.int .u32 (seqOf s)) rfl rfl (by kernel_rfl) (by kernel_rfl) (by kernel_rfl) (fun _ _ _ h => h) rfl (fun w hS => by go_simp) HSY.out ?_
        try simp only [Act.put, List.setIfInBounds_toArray, List.set_cons_succ, List.set_cons_zero]
        refine wpAnyH_done (by kernel_rfl) ?_ _
        go_wp2_with fail
        go_meet
        refine ⟨t, sv, rfl, rfl, ⟨HA2.out.1.below HSY.out HA2.out.1.lt, HA2.out.2.1.below HSY.out HA2.out.2.1.lt, hT2, by rw [HGG.out]; exact HA2.out.2.2.1.trans (HSY.out.mono (by have := HA2.out.2.2.1.size; have := HGG.out; omega)), Nat.le_of_eq HGG.out, HA2.out.2.2.2, by have := HTB.out; have := HA2.out.2.1.lt; omega⟩, HBZ.out, HFRR.out⟩
    · refine wp_runTo (some 5) rfl _ _ (exec_alloc _ _ _ 57 rfl _ zero57b) ?_
      have hT := Blk.new wS (Bk.none.arr nilv) 57
      have hBT := (Below.refl wS.heap.size wS).alloc (Nat.le_refl _) (.cells (Bk.none.arr nilv) 57)
      have HSY := Lib.hid (HSX.out.trans (hBT.mono HSX.out.size))
      have HT := Lib.hid hT
      have HTB := Lib.hid HSX.out.size
      refine hK _ _ HSY.out ?_
      clear hK K hBT hT HSX
      have HSX := HSY
      clear HSY
      try simp only [Act.put, List.setIfInBounds_toArray, List.set_cons_succ, List.set_cons_zero]
      generalize wS.alloc (.cells (Bk.none.arr nilv) 57) = wD at *
      generalize wS.heap.size = t at *
      refine oneH 1 (by kernel_rfl) rfl rfl fun K hK => ?_
      go_simp
      refine (HRD.out _).mono ?_
      rintro e w1 ⟨sv, rfl, hby, hb, hfr⟩
      have HSY := Lib.hid (HSX.out.trans (hb.mono HSX.out.size))
      have HFR := Lib.hid (show ∀ b o n c, sv = .slice (some ⟨b, o, none⟩) n c → b ≠ t from fun b o n c h => by have := hfr b o n c h; have := HT.out.lt; omega)
      have HT' := Lib.hid (HT.out.below hb HT.out.lt)
      clear HT
      have HT := HT'
      clear HT'
      have HFRR := Lib.hid (show Fresh (r + 1) sv from fun b o n c h => by have := hfr b o n c h; have := HSX.out.size; have := HA2.out.2.1.lt; omega)
      have HBY := Lib.hid hby
      refine hK _ _ HSY.out ?_
      clear hK K hb hby HSX hfr
      have HSX := HSY
      clear HSY
      try simp only [Act.put, List.setIfInBounds_toArray, List.set_cons_succ, List.set_cons_zero]
      refine oneH 3 (by kernel_rfl) rfl rfl fun K hK => ?_
      go_simp
      refine (HC4.out _ HSX.out).mono ?_
      rintro e w2 ⟨rfl, rfl⟩
      refine hK _ _ HSX.out ?_
      clear hK K
      try simp only [Act.put, List.setIfInBounds_toArray, List.set_cons_succ, List.set_cons_zero]
      rw [show num ((s.drop 2).take 4) = seqOf s from rfl]
      refine oneH 5 (by kernel_rfl) rfl rfl fun K hK => ?_
      refine wp_store_at 57 _ _ rfl t 0 ((readOf s).arr sv) rfl rfl _ HT.out (by rw [(readOf s).arr_size HRW.out]; exact info57) (by rw [(readOf s).arr_size HRW.out]; decide) (arr_form _ HBY.out) ?_
      rw [splice_all _ _ (by rw [(readOf s).arr_size HRW.out]; rfl)]
      have hT2 := HT.out.row ((readOf s).arr sv)
      have hOT := (Only.refl (fun k => k = t) w1).setRow (g := t) (.inl rfl) ((readOf s).arr sv)
      generalize w1.setRow t ((readOf s).arr sv) = wT at *
      have hbf := hOT.below HSX.out.size (fun k hk => by have := HTB.out; omega)
      have HSY := Lib.hid (HSX.out.trans hbf)
      have HBZ := Lib.hid (HBY.out.only hOT HFR.out)
      refine hK _ _ HSY.out ?_
      clear hK K
      try simp only [Act.put, List.setIfInBounds_toArray, List.set_cons_succ, List.set_cons_zero]
      refine takeH 6 (some 6) (.int .u32 (seqOf s)) rfl rfl (by kernel_rfl) (by kernel_rfl) (by kernel_rfl) (fun _ _ _ h => h) rfl (fun w hS => by go_simp) HSY.out ?_
      try simp only [Act.put, List.setIfInBounds_toArray, List.set_cons_succ, List.set_cons_zero]
      refine wpAnyH_done (by kernel_rfl) ?_ _
      go_wp2_with fail
      go_meet
      refine ⟨t, sv, rfl, rfl, ⟨HA2.out.1.below HSY.out HA2.out.1.lt, HA2.out.2.1.below HSY.out HA2.out.2.1.lt, hT2, by rw [HGG.out]; exact HA2.out.2.2.1.trans (HSY.out.mono (by have := HA2.out.2.2.1.size; have := HGG.out; omega)), Nat.le_of_eq HGG.out, HA2.out.2.2.2, by have := HTB.out; have := HA2.out.2.1.lt; omega⟩, HBZ.out, HFRR.out⟩
  case rest =>
    obtain ⟨t, sv, rfl, rfl, H2, HBY, hfr⟩ := hcut
    have HFR := Lib.hid hfr
    clear hfr
    have HB2 := Lib.hid HBY
    have H2 := Lib.hid H2
    clear HBY
    have HEN := Lib.hid fun w h => encode_any (readOf s) sv (seqOf s) w h HRW.out HSR.out
    repeat (first | (with_reducible refine stopR (id := 2) ?_) | go_values | go_skip | go_guarded | go_step | go_upon | go_back)
    refine Stop.mk (wp_region_lit ?_)
    refine load57 (cs := (readOf s).arr sv) (Blk.all H2.out.blk rfl) ((readOf s).arr_size HRW.out _) rfl rfl ?_
    try simp only [Act.put, List.setIfInBounds_toArray, List.set_cons_succ, List.set_cons_zero]
    refine takeL (.int .u32 (seqOf s)) rfl (by go_simp) ?_
    try simp only [Act.put, List.setIfInBounds_toArray, List.set_cons_succ, List.set_cons_zero]
    refine wpList_op rfl fun K hK => ?_
    go_simp
    refine (HEN.out _ HB2.out).mono ?_
    rintro e w3 ⟨rfl, hb⟩
    have H3 := Lib.hid (H2.out.below hb)
    have HB3 := Lib.hid (HB2.out.below hb)
    refine hK _ _ ?_
    clear hK K hb H2 HB2 HEN
    try simp only [Act.put, List.setIfInBounds_toArray, List.set_cons_succ, List.set_cons_zero]
    refine takeL (.tuple #[.agg (u8s ((readOf s).sec (seqOf s))).toArray, .int .i64 (readOf s).err]) rfl (by go_simp) ?_
    try simp only [Act.put, List.setIfInBounds_toArray, List.set_cons_succ, List.set_cons_zero]
    refine takeL (.agg (u8s ((readOf s).sec (seqOf s))).toArray) rfl (by go_simp) ?_
    try simp only [Act.put, List.setIfInBounds_toArray, List.set_cons_succ, List.set_cons_zero]
    refine takeL (.int .i64 (readOf s).err) rfl (by go_simp) ?_
    try simp only [Act.put, List.setIfInBounds_toArray, List.set_cons_succ, List.set_cons_zero]
    have HSE := Lib.hid (sec_length HRW.out (seqOf s))
    refine alloc_g zero50 rfl ?_
    intro wC hC hBC hlC
    try simp only [Act.put, List.setIfInBounds_toArray, List.set_cons_succ, List.set_cons_zero]
    refine store_all (cs := (u8s ((readOf s).sec (seqOf s))).toArray) hC (by rw [u8s_size, HSE.out]; simp [zeros]) (by rw [u8s_size, HSE.out]; exact info50) (u8s_one _) rfl rfl rfl ?_
    intro wD hD hOD hlD
    try simp only [Act.put, List.setIfInBounds_toArray, List.set_cons_succ, List.set_cons_zero]
    have hBD := hBC.trans (hOD.below hBC.size (fun k hk => Nat.le_of_eq hk.symm))
    have H4 := Lib.hid (H3.out.below hBD)
    have HB4 := Lib.hid (HB3.out.below hBD)
    have HD4 := Lib.hid hD
    clear hC hBC hlC hD hOD hlD hBD H3 HB3
    generalize w3.heap.size = x at *
    clear w3 wC
    refine takeL (.int .i64 (readOf s).err) rfl (by go_simp) ?_
    try simp only [Act.put, List.setIfInBounds_toArray, List.set_cons_succ, List.set_cons_zero]
    refine wpList_nil ?_
    repeat (first | (with_reducible refine stopR (id := 3) ?_) | go_values | go_skip | go_guarded | go_step | go_upon | go_back)
    refine Stop.mk (wp_region_lit ?_)
    cases hg : (readOf s).good
    · have HSX : Hid ((readOf s).err = 11) := Lib.hid (by unfold Bk.err; rw [hg]; rfl)
      rw [HSX.out]
      have hnb : isBlock s = false := by unfold isBlock; rw [hg]; rfl
      refine takeL (.int .i64 11) rfl (by go_simp) ?_
      try simp only [Act.put, List.setIfInBounds_toArray, List.set_cons_succ, List.set_cons_zero]
      refine takeL (.bool true) rfl (by go_simp) ?_
      try simp only [Act.put, List.setIfInBounds_toArray, List.set_cons_succ, List.set_cons_zero]
      refine takeL (.bool true) rfl (by go_simp) ?_
      try simp only [Act.put, List.setIfInBounds_toArray, List.set_cons_succ, List.set_cons_zero]
      refine passL rfl ?_
      try simp only [Act.put, List.setIfInBounds_toArray, List.set_cons_succ, List.set_cons_zero]
      refine passL rfl ?_
      try simp only [Act.put, List.setIfInBounds_toArray, List.set_cons_succ, List.set_cons_zero]
      refine passL rfl ?_
      try simp only [Act.put, List.setIfInBounds_toArray, List.set_cons_succ, List.set_cons_zero]
      refine takeL (.bool true) rfl (by go_simp) ?_
      try simp only [Act.put, List.setIfInBounds_toArray, List.set_cons_succ, List.set_cons_zero]
      refine wpList_nil ?_
      repeat (first | (with_reducible refine stopR (id := 4) ?_) | go_values | go_skip | go_guarded | go_step | go_upon | go_back)
      refine Stop.mk (wp_region_lit ?_)
      refine build_g (build57 _) rfl ?_
      try simp only [Act.put, List.setIfInBounds_toArray, List.set_cons_succ, List.set_cons_zero]
      refine store_all (cs := Bk.none.arr nilv) H4.out.res (by rfl) (by exact info57) (cells_one _ _ _ _) rfl rfl rfl ?_
      intro wZ hZ hOZ hlZ
      try simp only [Act.put, List.setIfInBounds_toArray, List.set_cons_succ, List.set_cons_zero]
      refine takeL (.int .u32 0) rfl (by go_simp) ?_
      try simp only [Act.put, List.setIfInBounds_toArray, List.set_cons_succ, List.set_cons_zero]
      refine takeL (.int .i64 11) rfl (by go_simp) ?_
      try simp only [Act.put, List.setIfInBounds_toArray, List.set_cons_succ, List.set_cons_zero]
      have HF := Lib.hid (H4.out.bel.trans (hOZ.below H4.out.bel.size (fun k hk => by have := H4.out.g0; have := H4.out.gr; omega)))
      refine wpList_nil ?_
      go_wp2_with fail
      refine bodyPost_ret (v := .tuple #[.agg (Bk.none.arr nilv), .int .u32 0, .int .i64 11]) (results_cell_tmp2 rfl _ _ r 0 _ _ _ _ rfl rfl rfl Try.underlying57 rfl (by exact info57) (Blk.all hZ rfl)) rfl ⟨nilv, by unfold decB decN decE; rw [hnb]; rfl, by unfold decB; rw [hnb]; exact BytesAt.nil _ _ _, HF.out, Fresh.nil _⟩
    · have HSX : Hid ((readOf s).err = 0) := Lib.hid (by unfold Bk.err; rw [hg]; rfl)
      have HSS : Hid ((readOf s).sec (seqOf s) = (readOf s).enc (seqOf s)) := Lib.hid (by unfold Bk.sec; rw [hg]; rfl)
      have HNQ := Lib.hid fun w => neq50 w ((readOf s).sec (seqOf s)) s HSE.out HS.out.length
      rw [HSX.out]
      refine takeL (.int .i64 0) rfl (by go_simp) ?_
      try simp only [Act.put, List.setIfInBounds_toArray, List.set_cons_succ, List.set_cons_zero]
      refine takeL (.bool false) rfl (by go_simp) ?_
      try simp only [Act.put, List.setIfInBounds_toArray, List.set_cons_succ, List.set_cons_zero]
      refine takeL (.bool false) rfl (by go_simp) ?_
      try simp only [Act.put, List.setIfInBounds_toArray, List.set_cons_succ, List.set_cons_zero]
      refine load50 (cs := (u8s ((readOf s).sec (seqOf s))).toArray) (Blk.all HD4.out rfl) (by rw [u8s_size, HSE.out]) rfl rfl ?_
      try simp only [Act.put, List.setIfInBounds_toArray, List.set_cons_succ, List.set_cons_zero]
      refine load50 (cs := (u8s s).toArray) (Blk.all H4.out.sec rfl) HSL.out rfl rfl ?_
      try simp only [Act.put, List.setIfInBounds_toArray, List.set_cons_succ, List.set_cons_zero]
      by_cases he : (readOf s).sec (seqOf s) = s
      · have hnb : isBlock s = true := by unfold isBlock; rw [hg, ← HSS.out, he]; simp
        simp only [he, decide_true] at HNQ
        refine takeL (.bool false) rfl (by have hq := HNQ.out; go_simp) ?_
        try simp only [Act.put, List.setIfInBounds_toArray, List.set_cons_succ, List.set_cons_zero]
        refine takeL (.bool false) rfl (by go_simp) ?_
        try simp only [Act.put, List.setIfInBounds_toArray, List.set_cons_succ, List.set_cons_zero]
        refine wpList_nil ?_
        repeat (first | (with_reducible refine stopR (id := 5) ?_) | go_values | go_skip | go_guarded | go_step | go_upon | go_back)
        refine Stop.mk (wp_region_lit ?_)
        refine load57 (cs := (readOf s).arr sv) (Blk.all H4.out.blk rfl) ((readOf s).arr_size HRW.out _) rfl rfl ?_
        try simp only [Act.put, List.setIfInBounds_toArray, List.set_cons_succ, List.set_cons_zero]
        refine takeL (.int .u32 (seqOf s)) rfl (by go_simp) ?_
        try simp only [Act.put, List.setIfInBounds_toArray, List.set_cons_succ, List.set_cons_zero]
        refine store_all (cs := (readOf s).arr sv) H4.out.res (by rw [(readOf s).arr_size HRW.out]; rfl) (by rw [(readOf s).arr_size HRW.out]; exact info57) (arr_form _ HB4.out) rfl rfl rfl ?_
        intro wZ hZ hOZ hlZ
        try simp only [Act.put, List.setIfInBounds_toArray, List.set_cons_succ, List.set_cons_zero]
        refine takeL (.int .u32 (seqOf s)) rfl (by go_simp) ?_
        try simp only [Act.put, List.setIfInBounds_toArray, List.set_cons_succ, List.set_cons_zero]
        refine takeL (.int .i64 0) rfl (by go_simp) ?_
        try simp only [Act.put, List.setIfInBounds_toArray, List.set_cons_succ, List.set_cons_zero]
        have HF := Lib.hid (H4.out.bel.trans (hOZ.below H4.out.bel.size (fun k hk => by have := H4.out.g0; have := H4.out.gr; omega)))
        refine wpList_nil ?_
        go_wp2_with fail
        refine bodyPost_ret (v := .tuple #[.agg ((readOf s).arr sv), .int .u32 (seqOf s), .int .i64 0]) (results_cell_tmp2 rfl _ _ r 0 _ _ _ _ rfl rfl rfl Try.underlying57 rfl (by rw [(readOf s).arr_size HRW.out]; exact info57) (Blk.all hZ rfl)) rfl ⟨sv, by unfold decB decN decE; rw [hnb]; rfl, ?_, HF.out, fun b o n c h => by have := HFR.out b o n c h; have := H4.out.gr; have := HGG.out; omega⟩
        unfold decB
        rw [hnb]
        exact HB4.out.only hOZ fun b o n c h => by have := HFR.out b o n c h; omega
      · have hnb : isBlock s = false := by unfold isBlock; rw [hg, ← HSS.out]; simpa using he
        simp only [he, decide_false] at HNQ
        refine takeL (.bool true) rfl (by have hq := HNQ.out; go_simp) ?_
        try simp only [Act.put, List.setIfInBounds_toArray, List.set_cons_succ, List.set_cons_zero]
        refine takeL (.bool true) rfl (by go_simp) ?_
        try simp only [Act.put, List.setIfInBounds_toArray, List.set_cons_succ, List.set_cons_zero]
        refine wpList_nil ?_
        repeat (first | (with_reducible refine stopR (id := 4) ?_) | go_values | go_skip | go_guarded | go_step | go_upon | go_back)
        refine Stop.mk (wp_region_lit ?_)
        refine build_g (build57 _) rfl ?_
        try simp only [Act.put, List.setIfInBounds_toArray, List.set_cons_succ, List.set_cons_zero]
        refine store_all (cs := Bk.none.arr nilv) H4.out.res (by rfl) (by exact info57) (cells_one _ _ _ _) rfl rfl rfl ?_
        intro wZ hZ hOZ hlZ
        try simp only [Act.put, List.setIfInBounds_toArray, List.set_cons_succ, List.set_cons_zero]
        refine takeL (.int .u32 0) rfl (by go_simp) ?_
        try simp only [Act.put, List.setIfInBounds_toArray, List.set_cons_succ, List.set_cons_zero]
        refine takeL (.int .i64 11) rfl (by go_simp) ?_
        try simp only [Act.put, List.setIfInBounds_toArray, List.set_cons_succ, List.set_cons_zero]
        have HF := Lib.hid (H4.out.bel.trans (hOZ.below H4.out.bel.size (fun k hk => by have := H4.out.g0; have := H4.out.gr; omega)))
        refine wpList_nil ?_
        go_wp2_with fail
        refine bodyPost_ret (v := .tuple #[.agg (Bk.none.arr nilv), .int .u32 0, .int .i64 11]) (results_cell_tmp2 rfl _ _ r 0 _ _ _ _ rfl rfl rfl Try.underlying57 rfl (by exact info57) (Blk.all hZ rfl)) rfl ⟨nilv, by unfold decB decN decE; rw [hnb]; rfl, by unfold decB; rw [hnb]; exact BytesAt.nil _ _ _, HF.out, Fresh.nil _⟩
end Go.Proofs.Ytbhaifdhmfmeoaa
