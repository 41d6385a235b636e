/- The statement DevNone's walk. -/
import Derived.Test.YtdmjhpebpooiaaaWakes
namespace Go.Proofs.Ytdmjhpebpooiaaa
open Go.RowKit
theorem write_nil (i : Int) (cs : Array Value) (w : World) : Calls Try.prog 14 #[.pointer none, .int .i64 i, .agg cs] w fun e w' => e = .returned (.int .i64 1) ∧ Below w.heap.size w w' := by
  have H := Lib.hid (ask_nil (w.alloc (.cells cs 37)) 1 i)
  go_enter Try.func14, Try.ntmps14
  go_wp2_with fail
  refine H.out.mono ?_
  rintro e w' ⟨rfl, rfl⟩
  go_wp2_with fail
  go_ret
  exact ⟨rfl, (Below.refl _ _).alloc (Nat.le_refl _) _⟩
theorem info34s : (Try.prog.info? 34).map (fun i => (i.zero, i.size, i.bytes)) = some (some (.agg #[.int .i64 0, .int .i64 0, .int .u8 0, .slice none 0 0]), 4, 48) := by kernel_rfl
theorem row22 (w : World) (cs : Array Value) (h : cs.size = 4) : (Instr.buildSlice 22 1 #[(0, .agg cs)]).run Try.prog w = .ok (.slice (some ⟨w.heap.size, 0, none⟩) 1 1) (w.alloc (.cells cs 34)) := by
  obtain ⟨i, hi, hz, hs, _⟩ := info_parts info34s
  exact run_buildSlice_one w 22 34 i _ cs Try.underlying22 hi hz (by omega) (by omega) (by rw [h]; decide)
set_option maxRecDepth 100000 in
set_option maxHeartbeats 1000000 in
theorem none_any (s : St) (kv : Value) (w : World) (hk : BytesAt w kv s.keep) (hI : I64 s.i) : Calls Try.prog 6 #[.agg #[.int .i64 s.kind, .int .i64 s.i, .int .u8 s.v, kv]] w fun e w' => e = .returned (.bool true) ∧ Below w.heap.size w w' := by
  obtain ⟨ka, kn, kc, hkv⟩ : ∃ ka kn kc, kv = .slice ka kn kc := by obtain ⟨a, c, e, _⟩ := hk; exact ⟨a, _, c, e⟩
  have HKv := Lib.hid hkv
  clear hkv
  go_enter Try.func6, Try.ntmps6
  have hA : Below w.heap.size w (w.alloc (.cells #[.int .i64 s.kind, .int .i64 s.i, .int .u8 s.v, kv] 34)) := (Below.refl _ _).alloc (Nat.le_refl _) _
  have hB : Below w.heap.size w ((w.alloc (.cells #[.int .i64 s.kind, .int .i64 s.i, .int .u8 s.v, kv] 34)).alloc (.cells #[.int .i64 s.kind, .int .i64 s.i, .int .u8 s.v, kv] 34)) := hA.alloc (by simp) _
  have hb1 : Blk ((w.alloc (.cells #[.int .i64 s.kind, .int .i64 s.i, .int .u8 s.v, kv] 34)).alloc (.cells #[.int .i64 s.kind, .int .i64 s.i, .int .u8 s.v, kv] 34)) w.heap.size [.int .i64 s.kind, .int .i64 s.i, .int .u8 s.v, kv] := (Blk.newAt _ _ _ rfl rfl).alloc _
  have hb2 : Blk ((w.alloc (.cells #[.int .i64 s.kind, .int .i64 s.i, .int .u8 s.v, kv] 34)).alloc (.cells #[.int .i64 s.kind, .int .i64 s.i, .int .u8 s.v, kv] 34)) (w.heap.size + 1) [.int .i64 s.kind, .int .i64 s.i, .int .u8 s.v, kv] := Blk.newAt _ _ _ (by simp) rfl
  go_wp2_with (refine wpList_run _ _ rfl (exec_buildSlice _ _ _ _ 22 1 _ rfl #[(0, .agg #[.int .i64 s.kind, .int .i64 s.i, .int .u8 s.v, kv])] (by simp [Act.eval]) _ (row22 _ _ rfl)) ?_)
  generalize hwB : (w.alloc (.cells #[.int .i64 s.kind, .int .i64 s.i, .int .u8 s.v, kv] 34)).alloc (.cells #[.int .i64 s.kind, .int .i64 s.i, .int .u8 s.v, kv] 34) = wB at *
  have hst : StsAt wB (.slice (some ⟨w.heap.size + 1, 0, none⟩) 1 1) [s] := ⟨_, 1, rfl, by unfold maxLen; simp, fun i hi => ⟨_, 0, rfl, by
    have : i = 0 := by simpa using hi
    subst this
    exact ⟨hb2.cell rfl, hb2.cell rfl, hb2.cell rfl, ⟨kv, hb2.cell rfl, hk.below (by exact hB)⟩, hI⟩⟩⟩
  have HFr := Lib.hid (fair_any _ [s] wB hst)
  have HBel := Lib.hid hB
  have HBlk := Lib.hid hb1
  clear hst hwB hb2 hA hB hk hI
  cases hfair : fairB [s]
  · rw [hfair] at HFr
    clear hfair hb1
    refine HFr.out.mono ?_
    rintro e w' ⟨rfl, rfl⟩
    go_wp2_with fail
    have HW := Lib.hid (wakes_any wB)
    refine HW.out.mono ?_
    rintro e w2 ⟨rfl, hb⟩
    have HB2 := Lib.hid (HBel.out.trans (hb.mono HBel.out.size))
    clear hb
    go_wp2_with fail
    go_ret
    exact ⟨rfl, HB2.out⟩
  · rw [hfair] at HFr
    clear hfair
    have c1 : wB.cell? ⟨w.heap.size, 1, none⟩ = some (.int .i64 s.i) := hb1.cell rfl
    have c3 : wB.cell? ⟨w.heap.size, 3, none⟩ = some kv := hb1.cell rfl
    clear hb1
    refine HFr.out.mono ?_
    rintro e w' ⟨rfl, rfl⟩
    go_wp2_with fail
    have H1 := Lib.hid (fail_nil wB s.i)
    refine H1.out.mono ?_
    rintro e w' ⟨rfl, rfl⟩
    go_wp2_with fail
    have H2 := Lib.hid (crash_nil kv ka kn kc HKv.out wB)
    refine H2.out.mono ?_
    rintro e w2 ⟨rfl, hb⟩
    have HB2 := Lib.hid (HBel.out.trans (hb.mono HBel.out.size))
    have HK2 := Lib.hid (HBlk.out.below hb HBlk.out.lt)
    have d1 : w2.cell? ⟨w.heap.size, 1, none⟩ = some (.int .i64 s.i) := HK2.out.cell rfl
    clear hb c1 c3
    go_wp2_with fail
    have H3 := Lib.hid (read_nil s.i w2)
    refine H3.out.mono ?_
    rintro e w3 ⟨rfl, hb⟩
    have HB3 := Lib.hid (HB2.out.trans (hb.mono HB2.out.size))
    have HK3 := Lib.hid (HK2.out.below hb HK2.out.lt)
    clear hb d1
    go_wp2_with ((with_reducible refine isNew ?_); refine wpList_store_new 37 _ _ rfl rfl 37 _ (fillA 0) rfl rfl (by rw [(fillA_sec 0).size]; exact info37) (zeros_size _ (fillA_sec 0)) (fillA_sec 0).one ?_; intro w4 hx hb; have HB4 := Lib.hid (HB3.out.trans (hb.mono HB3.out.size)); have HK4 := Lib.hid (HK3.out.below hb HK3.out.lt); have HL4 := Lib.hid hx; clear hx hb)
    have HS : Hid (Below w.heap.size w w4.drew ∧ Blk w4.drew w3.heap.size (fillA 0).toList ∧ Blk w4.drew w.heap.size [.int .i64 s.kind, .int .i64 s.i, .int .u8 s.v, kv]) := Lib.hid ⟨HB4.out.drew, HL4.out.drew, HK4.out.drew⟩
    refine startH (fun wq => (Below w.heap.size w wq ∧ Blk wq w3.heap.size (fillA 0).toList ∧ Blk wq w.heap.size [.int .i64 s.kind, .int .i64 s.i, .int .u8 s.v, kv])) (by kernel_rfl) ?_
    refine takeH 0 (some 26) (.agg (fillA 0)) rfl rfl (by kernel_rfl) (by kernel_rfl) (by kernel_rfl) (fun _ _ _ h => h) rfl (fun w hS => exec_load_at _ _ _ 37 _ rfl w3.heap.size 0 rfl (fillA 0) _ Try.underlying37 rfl info37 (hS.2.1.cells _ rfl)) HS.out ?_
    simp only [Act.put, List.setIfInBounds_toArray, List.set_cons_succ, List.set_cons_zero]
    refine takeH 1 (some 27) (.agg (fillA 0)) rfl rfl (by kernel_rfl) (by kernel_rfl) (by kernel_rfl) (fun _ _ _ h => h) rfl (fun w _ => exec_build w w _ _ 37 #[] rfl #[] (by simp) _ (build37 w)) HS.out ?_
    simp only [Act.put, List.setIfInBounds_toArray, List.set_cons_succ, List.set_cons_zero]
    refine takeH 2 (some 28) (.bool true) rfl rfl (by kernel_rfl) (by kernel_rfl) (by kernel_rfl) (fun _ _ _ h => h) rfl (fun w _ => by have hq := eq37 (fillA 0) (fillA_sec 0) w; go_simp) HS.out ?_
    simp only [Act.put, List.setIfInBounds_toArray, List.set_cons_succ, List.set_cons_zero]
    refine takeH 3 (some 29) (.bool true) rfl rfl (by kernel_rfl) (by kernel_rfl) (by kernel_rfl) (fun _ _ _ h => h) rfl (fun w _ => by go_simp) HS.out ?_
    simp only [Act.put, List.setIfInBounds_toArray, List.set_cons_succ, List.set_cons_zero]
    refine takeH 4 (some 30) (.int .i64 1) rfl rfl (by kernel_rfl) (by kernel_rfl) (by kernel_rfl) (fun _ _ _ h => h) rfl (fun w _ => by go_simp) HS.out ?_
    simp only [Act.put, List.setIfInBounds_toArray, List.set_cons_succ, List.set_cons_zero]
    refine takeH 5 (some 31) (.bool true) rfl rfl (by kernel_rfl) (by kernel_rfl) (by kernel_rfl) (fun _ _ _ h => h) rfl (fun w _ => by go_simp) HS.out ?_
    simp only [Act.put, List.setIfInBounds_toArray, List.set_cons_succ, List.set_cons_zero]
    refine takeH 6 (some 32) (.bool true) rfl rfl (by kernel_rfl) (by kernel_rfl) (by kernel_rfl) (fun _ _ _ h => h) rfl (fun w _ => by go_simp) HS.out ?_
    simp only [Act.put, List.setIfInBounds_toArray, List.set_cons_succ, List.set_cons_zero]
    refine takeH 7 (some 33) (.bool true) rfl rfl (by kernel_rfl) (by kernel_rfl) (by kernel_rfl) (fun _ _ _ h => h) rfl (fun w _ => by go_simp) HS.out ?_
    simp only [Act.put, List.setIfInBounds_toArray, List.set_cons_succ, List.set_cons_zero]
    refine takeH 8 (some 34) (.pointer none) rfl rfl (by kernel_rfl) (by kernel_rfl) (by kernel_rfl) (fun _ _ _ h => h) rfl (fun w _ => by go_simp) HS.out ?_
    simp only [Act.put, List.setIfInBounds_toArray, List.set_cons_succ, List.set_cons_zero]
    refine takeH 9 (some 35) (.pointer (some ⟨w.heap.size, 1, none⟩)) rfl rfl (by kernel_rfl) (by kernel_rfl) (by kernel_rfl) (fun _ _ _ h => h) rfl (fun w _ => by go_simp) HS.out ?_
    simp only [Act.put, List.setIfInBounds_toArray, List.set_cons_succ, List.set_cons_zero]
    refine takeH 10 (some 36) (.int .i64 s.i) rfl rfl (by kernel_rfl) (by kernel_rfl) (by kernel_rfl) (fun _ _ _ h => h) rfl (fun w hS => exec_load1 _ _ _ 3 _ rfl ⟨_, 1, none⟩ rfl _ _ Try.underlying3 rfl (hS.2.2.cell rfl)) HS.out ?_
    simp only [Act.put, List.setIfInBounds_toArray, List.set_cons_succ, List.set_cons_zero]
    refine takeH 11 (some 37) (.pointer (some ⟨w.heap.size, 2, none⟩)) rfl rfl (by kernel_rfl) (by kernel_rfl) (by kernel_rfl) (fun _ _ _ h => h) rfl (fun w _ => by go_simp) HS.out ?_
    simp only [Act.put, List.setIfInBounds_toArray, List.set_cons_succ, List.set_cons_zero]
    refine takeH 12 (some 38) (.int .u8 s.v) rfl rfl (by kernel_rfl) (by kernel_rfl) (by kernel_rfl) (fun _ _ _ h => h) rfl (fun w hS => exec_load1 _ _ _ 5 _ rfl ⟨_, 2, none⟩ rfl _ _ Try.underlying5 rfl (hS.2.2.cell rfl)) HS.out ?_
    simp only [Act.put, List.setIfInBounds_toArray, List.set_cons_succ, List.set_cons_zero]
    refine oneH 13 (by kernel_rfl) rfl rfl fun K hK => ?_
    go_simp
    refine (fill_any s.v _).mono ?_
    rintro e wf1 ⟨rfl, hb⟩
    have HS2 : Hid (Below w.heap.size w wf1 ∧ Blk wf1 w3.heap.size (fillA 0).toList ∧ Blk wf1 w.heap.size [.int .i64 s.kind, .int .i64 s.i, .int .u8 s.v, kv]) := Lib.hid ⟨HS.out.1.trans (hb.mono HS.out.1.size), HS.out.2.1.below hb HS.out.2.1.lt, HS.out.2.2.below hb HS.out.2.2.lt⟩
    refine hK _ _ HS2.out ?_
    clear hK hb K
    refine oneH 14 (by kernel_rfl) rfl rfl fun K hK => ?_
    go_simp
    refine (write_nil s.i (fillA s.v) _).mono ?_
    rintro e wf3 ⟨rfl, hb⟩
    have HS4 : Hid (Below w.heap.size w wf3 ∧ Blk wf3 w3.heap.size (fillA 0).toList ∧ Blk wf3 w.heap.size [.int .i64 s.kind, .int .i64 s.i, .int .u8 s.v, kv]) := Lib.hid ⟨HS2.out.1.trans (hb.mono HS2.out.1.size), HS2.out.2.1.below hb HS2.out.2.1.lt, HS2.out.2.2.below hb HS2.out.2.2.lt⟩
    refine hK _ _ HS4.out ?_
    clear hK hb K
    refine takeH 15 (some 41) (.bool true) rfl rfl (by kernel_rfl) (by kernel_rfl) (by kernel_rfl) (fun _ _ _ h => h) rfl (fun w _ => by go_simp) HS4.out ?_
    simp only [Act.put, List.setIfInBounds_toArray, List.set_cons_succ, List.set_cons_zero]
    refine takeH 16 (some 42) (.bool true) rfl rfl (by kernel_rfl) (by kernel_rfl) (by kernel_rfl) (fun _ _ _ h => h) rfl (fun w _ => by go_simp) HS4.out ?_
    simp only [Act.put, List.setIfInBounds_toArray, List.set_cons_succ, List.set_cons_zero]
    refine takeH 17 (some 43) (.bool true) rfl rfl (by kernel_rfl) (by kernel_rfl) (by kernel_rfl) (fun _ _ _ h => h) rfl (fun w _ => by go_simp) HS4.out ?_
    simp only [Act.put, List.setIfInBounds_toArray, List.set_cons_succ, List.set_cons_zero]
    refine takeH 18 (some 44) (.pointer none) rfl rfl (by kernel_rfl) (by kernel_rfl) (by kernel_rfl) (fun _ _ _ h => h) rfl (fun w _ => by go_simp) HS4.out ?_
    simp only [Act.put, List.setIfInBounds_toArray, List.set_cons_succ, List.set_cons_zero]
    refine oneH 19 (by kernel_rfl) rfl rfl fun K hK => ?_
    go_simp
    refine (flush_nil _).mono ?_
    rintro e w' ⟨rfl, rfl⟩
    refine hK _ _ HS4.out ?_
    clear hK K
    refine takeH 20 (some 46) (.bool true) rfl rfl (by kernel_rfl) (by kernel_rfl) (by kernel_rfl) (fun _ _ _ h => h) rfl (fun w _ => by go_simp) HS4.out ?_
    simp only [Act.put, List.setIfInBounds_toArray, List.set_cons_succ, List.set_cons_zero]
    refine takeH 21 (some 47) (.bool true) rfl rfl (by kernel_rfl) (by kernel_rfl) (by kernel_rfl) (fun _ _ _ h => h) rfl (fun w _ => by go_simp) HS4.out ?_
    simp only [Act.put, List.setIfInBounds_toArray, List.set_cons_succ, List.set_cons_zero]
    refine takeH 22 (some 48) (.bool true) rfl rfl (by kernel_rfl) (by kernel_rfl) (by kernel_rfl) (fun _ _ _ h => h) rfl (fun w _ => by go_simp) HS4.out ?_
    simp only [Act.put, List.setIfInBounds_toArray, List.set_cons_succ, List.set_cons_zero]
    refine takeH 23 (some 49) (.pointer none) rfl rfl (by kernel_rfl) (by kernel_rfl) (by kernel_rfl) (fun _ _ _ h => h) rfl (fun w _ => by go_simp) HS4.out ?_
    simp only [Act.put, List.setIfInBounds_toArray, List.set_cons_succ, List.set_cons_zero]
    refine oneH 24 (by kernel_rfl) rfl rfl fun K hK => ?_
    go_simp
    refine (loose_nil _).mono ?_
    rintro e w' ⟨rfl, rfl⟩
    refine hK _ _ HS4.out ?_
    clear hK K
    refine takeH 25 (some 51) (.bool true) rfl rfl (by kernel_rfl) (by kernel_rfl) (by kernel_rfl) (fun _ _ _ h => h) rfl (fun w _ => by go_simp) HS4.out ?_
    simp only [Act.put, List.setIfInBounds_toArray, List.set_cons_succ, List.set_cons_zero]
    refine takeH 26 (some 52) (.bool true) rfl rfl (by kernel_rfl) (by kernel_rfl) (by kernel_rfl) (fun _ _ _ h => h) rfl (fun w _ => by go_simp) HS4.out ?_
    simp only [Act.put, List.setIfInBounds_toArray, List.set_cons_succ, List.set_cons_zero]
    refine takeH 27 (some 53) (.bool true) rfl rfl (by kernel_rfl) (by kernel_rfl) (by kernel_rfl) (fun _ _ _ h => h) rfl (fun w _ => by go_simp) HS4.out ?_
    simp only [Act.put, List.setIfInBounds_toArray, List.set_cons_succ, List.set_cons_zero]
    refine takeH 28 (some 54) (.pointer none) rfl rfl (by kernel_rfl) (by kernel_rfl) (by kernel_rfl) (fun _ _ _ h => h) rfl (fun w _ => by go_simp) HS4.out ?_
    simp only [Act.put, List.setIfInBounds_toArray, List.set_cons_succ, List.set_cons_zero]
    refine oneH 29 (by kernel_rfl) rfl rfl fun K hK => ?_
    go_simp
    refine (len_nil _).mono ?_
    rintro e w' ⟨rfl, rfl⟩
    refine hK _ _ HS4.out ?_
    clear hK K
    refine takeH 30 (some 56) (.bool true) rfl rfl (by kernel_rfl) (by kernel_rfl) (by kernel_rfl) (fun _ _ _ h => h) rfl (fun w _ => by go_simp) HS4.out ?_
    simp only [Act.put, List.setIfInBounds_toArray, List.set_cons_succ, List.set_cons_zero]
    refine takeH 31 (some 57) (.bool true) rfl rfl (by kernel_rfl) (by kernel_rfl) (by kernel_rfl) (fun _ _ _ h => h) rfl (fun w _ => by go_simp) HS4.out ?_
    simp only [Act.put, List.setIfInBounds_toArray, List.set_cons_succ, List.set_cons_zero]
    refine takeH 32 (some 58) (.bool true) rfl rfl (by kernel_rfl) (by kernel_rfl) (by kernel_rfl) (fun _ _ _ h => h) rfl (fun w _ => by go_simp) HS4.out ?_
    simp only [Act.put, List.setIfInBounds_toArray, List.set_cons_succ, List.set_cons_zero]
    refine takeH 33 (some 59) (.pointer none) rfl rfl (by kernel_rfl) (by kernel_rfl) (by kernel_rfl) (fun _ _ _ h => h) rfl (fun w _ => by go_simp) HS4.out ?_
    simp only [Act.put, List.setIfInBounds_toArray, List.set_cons_succ, List.set_cons_zero]
    refine oneH 34 (by kernel_rfl) rfl rfl fun K hK => ?_
    go_simp
    refine (done_nil _).mono ?_
    rintro e w' ⟨rfl, rfl⟩
    refine hK _ _ HS4.out ?_
    clear hK K
    refine takeH 35 (some 61) (.bool true) rfl rfl (by kernel_rfl) (by kernel_rfl) (by kernel_rfl) (fun _ _ _ h => h) rfl (fun w _ => by go_simp) HS4.out ?_
    simp only [Act.put, List.setIfInBounds_toArray, List.set_cons_succ, List.set_cons_zero]
    refine takeH 36 (some 62) (.bool true) rfl rfl (by kernel_rfl) (by kernel_rfl) (by kernel_rfl) (fun _ _ _ h => h) rfl (fun w _ => by go_simp) HS4.out ?_
    simp only [Act.put, List.setIfInBounds_toArray, List.set_cons_succ, List.set_cons_zero]
    refine takeH 37 (some 63) (.bool true) rfl rfl (by kernel_rfl) (by kernel_rfl) (by kernel_rfl) (fun _ _ _ h => h) rfl (fun w _ => by go_simp) HS4.out ?_
    simp only [Act.put, List.setIfInBounds_toArray, List.set_cons_succ, List.set_cons_zero]
    refine oneH 38 (by kernel_rfl) rfl rfl fun K hK => ?_
    go_simp
    refine (wakes_any _).mono ?_
    rintro e wf5 ⟨rfl, hb⟩
    have HS6 : Hid (Below w.heap.size w wf5 ∧ Blk wf5 w3.heap.size (fillA 0).toList ∧ Blk wf5 w.heap.size [.int .i64 s.kind, .int .i64 s.i, .int .u8 s.v, kv]) := Lib.hid ⟨HS4.out.1.trans (hb.mono HS4.out.1.size), HS4.out.2.1.below hb HS4.out.2.1.lt, HS4.out.2.2.below hb HS4.out.2.2.lt⟩
    refine hK _ _ HS6.out ?_
    clear hK hb K
    refine takeH 39 (some 65) (.bool true) rfl rfl (by kernel_rfl) (by kernel_rfl) (by kernel_rfl) (fun _ _ _ h => h) rfl (fun w _ => by go_simp) HS6.out ?_
    simp only [Act.put, List.setIfInBounds_toArray, List.set_cons_succ, List.set_cons_zero]
    refine takeH 40 (some 2) (.bool true) rfl rfl (by kernel_rfl) (by kernel_rfl) (by kernel_rfl) (fun _ _ _ h => h) rfl (fun w _ => by go_simp) HS6.out ?_
    simp only [Act.put, List.setIfInBounds_toArray, List.set_cons_succ, List.set_cons_zero]
    refine wpAnyH_done (by kernel_rfl) ?_ _
    go_wp2_with fail
    go_ret
    exact ⟨rfl, HS6.out.1⟩
end Go.Proofs.Ytdmjhpebpooiaaa
