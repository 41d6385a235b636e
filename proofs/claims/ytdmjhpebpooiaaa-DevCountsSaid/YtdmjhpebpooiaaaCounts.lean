/- The statement DevCounts's walk. -/
import Derived.Test.YtdmjhpebpooiaaaCopy
import Derived.Test.YtdmjhpebpooiaaaWakes
namespace Go.Proofs.Ytdmjhpebpooiaaa
open Go.RowKit
theorem writeE_ok {d : D} {i : Int} (cs : Array Value) : (d.writeE i = 0 ∧ (d.write i cs).T = d.T + 1 ∧ (d.write i cs).L.length = d.L.length + 1) ∨ ((d.writeE i = 1 ∨ d.writeE i = 12) ∧ (d.write i cs).T = d.T ∧ (d.write i cs).L.length = d.L.length) := by
  unfold D.writeE D.write
  split
  · split
    · exact .inr ⟨.inr rfl, rfl, rfl⟩
    · exact .inl ⟨rfl, rfl, by simp⟩
  · exact .inr ⟨.inl rfl, rfl, rfl⟩
theorem flushE_ok {d : D} : (d.flushE = 0 ∧ d.flush.T = d.T + 1 ∧ d.flush.L.length = 0) ∨ (d.flushE = 12 ∧ d.flush.T = d.T ∧ d.flush.L.length = d.L.length) := by
  unfold D.flushE D.flush
  split
  · exact .inr ⟨rfl, rfl, rfl⟩
  · exact .inl ⟨rfl, rfl, rfl⟩
set_option maxRecDepth 100000 in
set_option maxHeartbeats 2000000 in
theorem counts_any (v : Value) (l : List St) (w : World) (hst : StsAt w v l) : Calls Try.prog 9 #[v] w fun e w' => e = .returned (.bool true) ∧ Below w.heap.size w w' := by
  have HFr := Lib.hid fun w2 h => fair_any v l w2 h
  have HSt := Lib.hid hst
  obtain ⟨a, cap, rfl, hl, hel⟩ := hst
  unfold maxLen at hl
  have HEl := Lib.hid hel
  clear hel
  go_enter Try.func9, Try.ntmps9
  go_wp2_with fail
  have H0 := Lib.hid (dv_new w w (Below.refl _ _) 6 (by omega))
  refine H0.out.mono ?_
  rintro e w0 ⟨b, F, rfl, hd, hb, hF⟩
  have HD0 := Lib.hid hd
  clear hd hb hF H0
  go_wp2_with fail
  have HF0 := Lib.hid (HFr.out w0 (HSt.out.below HD0.out.2))
  cases hfair : fairB l
  · rw [hfair] at HF0
    clear hfair
    refine HF0.out.mono ?_
    rintro e w' ⟨rfl, rfl⟩
    go_wp2_with fail
    have HW := Lib.hid (wakes_any w0)
    refine HW.out.mono ?_
    rintro e w2 ⟨rfl, hb⟩
    have HB2 := Lib.hid (HD0.out.below hb).2
    clear hb
    go_wp2_with fail
    go_ret
    exact ⟨rfl, HB2.out⟩
  · rw [hfair] at HF0
    have hlen := (fairB_mem hfair).1
    have HKeep := Lib.hid (fairB_mem hfair).2
    clear hfair hl
    refine HF0.out.mono ?_
    rintro e w' ⟨rfl, rfl⟩
    go_wp2_with fail
    go_loopg [5, 6] l.length (fun g n i wr => ∃ (k : Nat) (F : Nat → Prop) (d : D), l.length - k ≤ g ∧ k ≤ l.length ∧ i = .int .i64 k ∧ n = .int .i64 d.T ∧ Dv w wr b F d ∧ d.T ≤ k ∧ d.L.length ≤ d.T)
    case atStart => exact ⟨0, F, newD 6, by omega, by omega, rfl, rfl, HD0.out, Nat.le_refl _, Nat.le_refl _⟩
    case round =>
      clear HFr HF0 HD0
      obtain ⟨k, F, d, hg, hk, rfl, rfl, hd, hT, hLn⟩ := hrel
      have HD := Lib.hid hd
      clear hd
      by_cases hlt : k < l.length
      · obtain ⟨b0, o0, rfl, hs⟩ := HEl.out k hlt
        have hkl := HKeep.out l[k] (List.getElem_mem hlt)
        generalize hsk : l[k] = s at hs hkl
        clear hsk
        obtain ⟨kv, hkv, hkb⟩ := hs.keep
        obtain ⟨ka, kc, ekv⟩ : ∃ ka kc, kv = .slice ka s.keep.length kc := by obtain ⟨a, c, e, _⟩ := hkb; exact ⟨a, c, e⟩
        subst ekv
        have HS := Lib.hid hs
        have HKv := Lib.hid hkv
        have HKb := Lib.hid hkb
        clear hs hkv hkb
        have hk0 : (0 : Int) ≤ (k : Int) := by omega
        have hk1 : (k : Int) < (l.length : Int) := by omega
        have c0 := (HS.out.below HD.out.2).kind
        have c1 := (HS.out.below HD.out.2).i
        have c2 := (HS.out.below HD.out.2).v
        have c3 : wr.cell? ⟨b0, o0 + k * 4 + 3, none⟩ = some (.slice ka s.keep.length kc) := (HD.out.2.cell (p := ⟨b0, o0 + k * 4 + 3, none⟩) (World.block_lt_of_cell? _ _ HKv.out)).trans HKv.out
        by_cases k0 : s.kind = 0
        · have e0 : (s.kind == 0) = true := beq_iff_eq.2 k0
          clear k0
          rcases writeE_ok (d := d) (i := s.i) (fillA s.v) with ⟨hE, hT1, hL1⟩ | ⟨hE | hE, hT1, hL1⟩
          · have HE := Lib.hid hE
            have HT : Hid ((d.write s.i (fillA s.v)).T = d.T + 1) := Lib.hid hT1
            have HLn : Hid ((d.write s.i (fillA s.v)).L.length ≤ d.T + 1) := Lib.hid (by rw [hL1]; omega)
            clear hE hT1 hL1
            have hbA : Below wr.heap.size wr (wr.alloc (Obj.cells #[Value.int .i64 s.kind, Value.int .i64 s.i, Value.int .u8 s.v, Value.slice ka s.keep.length kc] 34)) := (Below.refl _ _).alloc (Nat.le_refl _) _
            have hxA : Blk (wr.alloc (Obj.cells #[Value.int .i64 s.kind, Value.int .i64 s.i, Value.int .u8 s.v, Value.slice ka s.keep.length kc] 34)) wr.heap.size [Value.int .i64 s.kind, Value.int .i64 s.i, Value.int .u8 s.v, Value.slice ka s.keep.length kc] := Blk.newAt _ _ _ rfl rfl
            go_wp2_with fail
            clear c0 c1 c2 c3
            generalize wr.alloc (Obj.cells #[Value.int .i64 s.kind, Value.int .i64 s.i, Value.int .u8 s.v, Value.slice ka s.keep.length kc] 34) = wA at *
            have HDA := Lib.hid (HD.out.below hbA)
            have HLA : Hid (Blk wA wr.heap.size [Value.int .i64 s.kind, Value.int .i64 s.i, Value.int .u8 s.v, Value.slice ka s.keep.length kc] ∧ ¬ F wr.heap.size) := Lib.hid ⟨hxA, fun h => Nat.lt_irrefl _ (HD.out.lt _ h).2⟩
            have HBA := Lib.hid hbA
            clear hbA hxA
            have HQ : Hid (Blk wA.drew wr.heap.size [Value.int .i64 s.kind, Value.int .i64 s.i, Value.int .u8 s.v, Value.slice ka s.keep.length kc]) := Lib.hid HLA.out.1.drew
            have HDd := Lib.hid HDA.out.drew
            refine startH (fun wq => Blk wq wr.heap.size [Value.int .i64 s.kind, Value.int .i64 s.i, Value.int .u8 s.v, Value.slice ka s.keep.length kc]) (by kernel_rfl) ?_
            refine takeH 0 (some 47) (.pointer (some ⟨b, 0, none⟩)) rfl rfl (by kernel_rfl) (by kernel_rfl) (by kernel_rfl) (fun _ _ _ h => h) rfl (fun w _ => by go_simp) HQ.out ?_
            simp only [Act.put, List.setIfInBounds_toArray, List.set_cons_succ, List.set_cons_zero]
            refine takeH 1 (some 48) (.pointer (some ⟨wr.heap.size, 1, none⟩)) rfl rfl (by kernel_rfl) (by kernel_rfl) (by kernel_rfl) (fun _ _ _ h => h) rfl (fun w _ => by go_simp) HQ.out ?_
            simp only [Act.put, List.setIfInBounds_toArray, List.set_cons_succ, List.set_cons_zero]
            refine takeH 2 (some 49) (.int .i64 s.i) rfl rfl (by kernel_rfl) (by kernel_rfl) (by kernel_rfl) (fun _ _ _ h => h) rfl (fun w hS => exec_load1 _ _ _ 3 _ rfl ⟨_, 1, none⟩ rfl _ _ Try.underlying3 rfl (hS.cell rfl)) HQ.out ?_
            simp only [Act.put, List.setIfInBounds_toArray, List.set_cons_succ, List.set_cons_zero]
            refine takeH 3 (some 50) (.pointer (some ⟨wr.heap.size, 2, none⟩)) rfl rfl (by kernel_rfl) (by kernel_rfl) (by kernel_rfl) (fun _ _ _ h => h) rfl (fun w _ => by go_simp) HQ.out ?_
            simp only [Act.put, List.setIfInBounds_toArray, List.set_cons_succ, List.set_cons_zero]
            refine takeH 4 (some 51) (.int .u8 s.v) rfl rfl (by kernel_rfl) (by kernel_rfl) (by kernel_rfl) (fun _ _ _ h => h) rfl (fun w hS => exec_load1 _ _ _ 5 _ rfl ⟨_, 2, none⟩ rfl _ _ Try.underlying5 rfl (hS.cell rfl)) HQ.out ?_
            simp only [Act.put, List.setIfInBounds_toArray, List.set_cons_succ, List.set_cons_zero]
            refine oneH 5 (by kernel_rfl) rfl rfl fun K hK => ?_
            go_simp
            refine (fill_any s.v _).mono ?_
            rintro e w2 ⟨rfl, hb⟩
            have HS2 : Hid (Blk w2 wr.heap.size [Value.int .i64 s.kind, Value.int .i64 s.i, Value.int .u8 s.v, Value.slice ka s.keep.length kc]) := Lib.hid (HQ.out.below hb HQ.out.lt)
            have HD2 := Lib.hid (HDd.out.below hb)
            refine hK _ _ HS2.out ?_
            clear hK hb K
            refine oneH 6 (by kernel_rfl) rfl rfl fun K hK => ?_
            go_simp
            have HWr := Lib.hid (dv_write HD2.out (by omega) (by omega) s.i (fillA s.v) (fillA_sec s.v))
            rw [HE.out] at HWr
            refine HWr.out.mono ?_
            rintro e w3 ⟨F3, rfl, hd, ho, hn⟩
            have HD3 := Lib.hid hd
            have HS3 : Hid (Blk w3 wr.heap.size [Value.int .i64 s.kind, Value.int .i64 s.i, Value.int .u8 s.v, Value.slice ka s.keep.length kc]) := Lib.hid (HS2.out.only ho HLA.out.2)
            clear hd ho hn
            refine hK _ _ HS3.out ?_
            clear hK K
            refine takeH 7 (some 8) (.int .i64 0) rfl rfl (by kernel_rfl) (by kernel_rfl) (by kernel_rfl) (fun _ _ _ h => h) rfl (fun w _ => by go_simp) HS3.out ?_
            simp only [Act.put, List.setIfInBounds_toArray, List.set_cons_succ, List.set_cons_zero]
            refine wpAnyH_done (by kernel_rfl) ?_ _
            have HDn := Lib.hid (dv_done HD3.out)
            have HLo := Lib.hid (dv_loose HD3.out)
            rw [HT.out] at HDn
            have hln := HLn.out
            generalize hm : (d.write s.i (fillA s.v)).L.length = m at HLo hln
            have HM := Lib.hid hm
            clear hm
            have hm1 : ¬ (m : Int) < 0 := by omega
            have hm2 : (m : Int) ≤ (d.T : Int) + 1 := by omega
            go_wp2_with fail
            refine HDn.out.mono ?_
            rintro e w' ⟨rfl, rfl⟩
            go_wp2_with fail
            refine HLo.out.mono ?_
            rintro e w' ⟨rfl, rfl⟩
            go_wp2_with fail
            refine HLo.out.mono ?_
            rintro e w' ⟨rfl, rfl⟩
            go_wp2_with fail
            go_roundg (l.length - (k + 1))
            case measure => omega
            case rel => exact ⟨k + 1, F3, d.write s.i (fillA s.v), by omega, by omega, by go_num, by rw [HT.out]; go_num, HD3.out, by rw [HT.out]; omega, by rw [HM.out, HT.out]; omega⟩
          · have HE := Lib.hid hE
            have HT : Hid ((d.write s.i (fillA s.v)).T = d.T) := Lib.hid hT1
            have HLn : Hid ((d.write s.i (fillA s.v)).L.length ≤ d.T + 0) := Lib.hid (by rw [hL1]; omega)
            clear hE hT1 hL1
            have hbA : Below wr.heap.size wr (wr.alloc (Obj.cells #[Value.int .i64 s.kind, Value.int .i64 s.i, Value.int .u8 s.v, Value.slice ka s.keep.length kc] 34)) := (Below.refl _ _).alloc (Nat.le_refl _) _
            have hxA : Blk (wr.alloc (Obj.cells #[Value.int .i64 s.kind, Value.int .i64 s.i, Value.int .u8 s.v, Value.slice ka s.keep.length kc] 34)) wr.heap.size [Value.int .i64 s.kind, Value.int .i64 s.i, Value.int .u8 s.v, Value.slice ka s.keep.length kc] := Blk.newAt _ _ _ rfl rfl
            go_wp2_with fail
            clear c0 c1 c2 c3
            generalize wr.alloc (Obj.cells #[Value.int .i64 s.kind, Value.int .i64 s.i, Value.int .u8 s.v, Value.slice ka s.keep.length kc] 34) = wA at *
            have HDA := Lib.hid (HD.out.below hbA)
            have HLA : Hid (Blk wA wr.heap.size [Value.int .i64 s.kind, Value.int .i64 s.i, Value.int .u8 s.v, Value.slice ka s.keep.length kc] ∧ ¬ F wr.heap.size) := Lib.hid ⟨hxA, fun h => Nat.lt_irrefl _ (HD.out.lt _ h).2⟩
            have HBA := Lib.hid hbA
            clear hbA hxA
            have HQ : Hid (Blk wA.drew wr.heap.size [Value.int .i64 s.kind, Value.int .i64 s.i, Value.int .u8 s.v, Value.slice ka s.keep.length kc]) := Lib.hid HLA.out.1.drew
            have HDd := Lib.hid HDA.out.drew
            refine startH (fun wq => Blk wq wr.heap.size [Value.int .i64 s.kind, Value.int .i64 s.i, Value.int .u8 s.v, Value.slice ka s.keep.length kc]) (by kernel_rfl) ?_
            refine takeH 0 (some 47) (.pointer (some ⟨b, 0, none⟩)) rfl rfl (by kernel_rfl) (by kernel_rfl) (by kernel_rfl) (fun _ _ _ h => h) rfl (fun w _ => by go_simp) HQ.out ?_
            simp only [Act.put, List.setIfInBounds_toArray, List.set_cons_succ, List.set_cons_zero]
            refine takeH 1 (some 48) (.pointer (some ⟨wr.heap.size, 1, none⟩)) rfl rfl (by kernel_rfl) (by kernel_rfl) (by kernel_rfl) (fun _ _ _ h => h) rfl (fun w _ => by go_simp) HQ.out ?_
            simp only [Act.put, List.setIfInBounds_toArray, List.set_cons_succ, List.set_cons_zero]
            refine takeH 2 (some 49) (.int .i64 s.i) rfl rfl (by kernel_rfl) (by kernel_rfl) (by kernel_rfl) (fun _ _ _ h => h) rfl (fun w hS => exec_load1 _ _ _ 3 _ rfl ⟨_, 1, none⟩ rfl _ _ Try.underlying3 rfl (hS.cell rfl)) HQ.out ?_
            simp only [Act.put, List.setIfInBounds_toArray, List.set_cons_succ, List.set_cons_zero]
            refine takeH 3 (some 50) (.pointer (some ⟨wr.heap.size, 2, none⟩)) rfl rfl (by kernel_rfl) (by kernel_rfl) (by kernel_rfl) (fun _ _ _ h => h) rfl (fun w _ => by go_simp) HQ.out ?_
            simp only [Act.put, List.setIfInBounds_toArray, List.set_cons_succ, List.set_cons_zero]
            refine takeH 4 (some 51) (.int .u8 s.v) rfl rfl (by kernel_rfl) (by kernel_rfl) (by kernel_rfl) (fun _ _ _ h => h) rfl (fun w hS => exec_load1 _ _ _ 5 _ rfl ⟨_, 2, none⟩ rfl _ _ Try.underlying5 rfl (hS.cell rfl)) HQ.out ?_
            simp only [Act.put, List.setIfInBounds_toArray, List.set_cons_succ, List.set_cons_zero]
            refine oneH 5 (by kernel_rfl) rfl rfl fun K hK => ?_
            go_simp
            refine (fill_any s.v _).mono ?_
            rintro e w2 ⟨rfl, hb⟩
            have HS2 : Hid (Blk w2 wr.heap.size [Value.int .i64 s.kind, Value.int .i64 s.i, Value.int .u8 s.v, Value.slice ka s.keep.length kc]) := Lib.hid (HQ.out.below hb HQ.out.lt)
            have HD2 := Lib.hid (HDd.out.below hb)
            refine hK _ _ HS2.out ?_
            clear hK hb K
            refine oneH 6 (by kernel_rfl) rfl rfl fun K hK => ?_
            go_simp
            have HWr := Lib.hid (dv_write HD2.out (by omega) (by omega) s.i (fillA s.v) (fillA_sec s.v))
            rw [HE.out] at HWr
            refine HWr.out.mono ?_
            rintro e w3 ⟨F3, rfl, hd, ho, hn⟩
            have HD3 := Lib.hid hd
            have HS3 : Hid (Blk w3 wr.heap.size [Value.int .i64 s.kind, Value.int .i64 s.i, Value.int .u8 s.v, Value.slice ka s.keep.length kc]) := Lib.hid (HS2.out.only ho HLA.out.2)
            clear hd ho hn
            refine hK _ _ HS3.out ?_
            clear hK K
            refine takeH 7 (some 8) (.int .i64 1) rfl rfl (by kernel_rfl) (by kernel_rfl) (by kernel_rfl) (fun _ _ _ h => h) rfl (fun w _ => by go_simp) HS3.out ?_
            simp only [Act.put, List.setIfInBounds_toArray, List.set_cons_succ, List.set_cons_zero]
            refine wpAnyH_done (by kernel_rfl) ?_ _
            have HDn := Lib.hid (dv_done HD3.out)
            have HLo := Lib.hid (dv_loose HD3.out)
            rw [HT.out] at HDn
            have hln := HLn.out
            generalize hm : (d.write s.i (fillA s.v)).L.length = m at HLo hln
            have HM := Lib.hid hm
            clear hm
            have hm1 : ¬ (m : Int) < 0 := by omega
            have hm2 : (m : Int) ≤ (d.T : Int) + 0 := by omega
            go_wp2_with fail
            refine HDn.out.mono ?_
            rintro e w' ⟨rfl, rfl⟩
            go_wp2_with fail
            refine HLo.out.mono ?_
            rintro e w' ⟨rfl, rfl⟩
            go_wp2_with fail
            refine HLo.out.mono ?_
            rintro e w' ⟨rfl, rfl⟩
            go_wp2_with fail
            go_roundg (l.length - (k + 1))
            case measure => omega
            case rel => exact ⟨k + 1, F3, d.write s.i (fillA s.v), by omega, by omega, by go_num, by rw [HT.out], HD3.out, by rw [HT.out]; omega, by rw [HM.out, HT.out]; omega⟩
          · have HE := Lib.hid hE
            have HT : Hid ((d.write s.i (fillA s.v)).T = d.T) := Lib.hid hT1
            have HLn : Hid ((d.write s.i (fillA s.v)).L.length ≤ d.T + 0) := Lib.hid (by rw [hL1]; omega)
            clear hE hT1 hL1
            have hbA : Below wr.heap.size wr (wr.alloc (Obj.cells #[Value.int .i64 s.kind, Value.int .i64 s.i, Value.int .u8 s.v, Value.slice ka s.keep.length kc] 34)) := (Below.refl _ _).alloc (Nat.le_refl _) _
            have hxA : Blk (wr.alloc (Obj.cells #[Value.int .i64 s.kind, Value.int .i64 s.i, Value.int .u8 s.v, Value.slice ka s.keep.length kc] 34)) wr.heap.size [Value.int .i64 s.kind, Value.int .i64 s.i, Value.int .u8 s.v, Value.slice ka s.keep.length kc] := Blk.newAt _ _ _ rfl rfl
            go_wp2_with fail
            clear c0 c1 c2 c3
            generalize wr.alloc (Obj.cells #[Value.int .i64 s.kind, Value.int .i64 s.i, Value.int .u8 s.v, Value.slice ka s.keep.length kc] 34) = wA at *
            have HDA := Lib.hid (HD.out.below hbA)
            have HLA : Hid (Blk wA wr.heap.size [Value.int .i64 s.kind, Value.int .i64 s.i, Value.int .u8 s.v, Value.slice ka s.keep.length kc] ∧ ¬ F wr.heap.size) := Lib.hid ⟨hxA, fun h => Nat.lt_irrefl _ (HD.out.lt _ h).2⟩
            have HBA := Lib.hid hbA
            clear hbA hxA
            have HQ : Hid (Blk wA.drew wr.heap.size [Value.int .i64 s.kind, Value.int .i64 s.i, Value.int .u8 s.v, Value.slice ka s.keep.length kc]) := Lib.hid HLA.out.1.drew
            have HDd := Lib.hid HDA.out.drew
            refine startH (fun wq => Blk wq wr.heap.size [Value.int .i64 s.kind, Value.int .i64 s.i, Value.int .u8 s.v, Value.slice ka s.keep.length kc]) (by kernel_rfl) ?_
            refine takeH 0 (some 47) (.pointer (some ⟨b, 0, none⟩)) rfl rfl (by kernel_rfl) (by kernel_rfl) (by kernel_rfl) (fun _ _ _ h => h) rfl (fun w _ => by go_simp) HQ.out ?_
            simp only [Act.put, List.setIfInBounds_toArray, List.set_cons_succ, List.set_cons_zero]
            refine takeH 1 (some 48) (.pointer (some ⟨wr.heap.size, 1, none⟩)) rfl rfl (by kernel_rfl) (by kernel_rfl) (by kernel_rfl) (fun _ _ _ h => h) rfl (fun w _ => by go_simp) HQ.out ?_
            simp only [Act.put, List.setIfInBounds_toArray, List.set_cons_succ, List.set_cons_zero]
            refine takeH 2 (some 49) (.int .i64 s.i) rfl rfl (by kernel_rfl) (by kernel_rfl) (by kernel_rfl) (fun _ _ _ h => h) rfl (fun w hS => exec_load1 _ _ _ 3 _ rfl ⟨_, 1, none⟩ rfl _ _ Try.underlying3 rfl (hS.cell rfl)) HQ.out ?_
            simp only [Act.put, List.setIfInBounds_toArray, List.set_cons_succ, List.set_cons_zero]
            refine takeH 3 (some 50) (.pointer (some ⟨wr.heap.size, 2, none⟩)) rfl rfl (by kernel_rfl) (by kernel_rfl) (by kernel_rfl) (fun _ _ _ h => h) rfl (fun w _ => by go_simp) HQ.out ?_
            simp only [Act.put, List.setIfInBounds_toArray, List.set_cons_succ, List.set_cons_zero]
            refine takeH 4 (some 51) (.int .u8 s.v) rfl rfl (by kernel_rfl) (by kernel_rfl) (by kernel_rfl) (fun _ _ _ h => h) rfl (fun w hS => exec_load1 _ _ _ 5 _ rfl ⟨_, 2, none⟩ rfl _ _ Try.underlying5 rfl (hS.cell rfl)) HQ.out ?_
            simp only [Act.put, List.setIfInBounds_toArray, List.set_cons_succ, List.set_cons_zero]
            refine oneH 5 (by kernel_rfl) rfl rfl fun K hK => ?_
            go_simp
            refine (fill_any s.v _).mono ?_
            rintro e w2 ⟨rfl, hb⟩
            have HS2 : Hid (Blk w2 wr.heap.size [Value.int .i64 s.kind, Value.int .i64 s.i, Value.int .u8 s.v, Value.slice ka s.keep.length kc]) := Lib.hid (HQ.out.below hb HQ.out.lt)
            have HD2 := Lib.hid (HDd.out.below hb)
            refine hK _ _ HS2.out ?_
            clear hK hb K
            refine oneH 6 (by kernel_rfl) rfl rfl fun K hK => ?_
            go_simp
            have HWr := Lib.hid (dv_write HD2.out (by omega) (by omega) s.i (fillA s.v) (fillA_sec s.v))
            rw [HE.out] at HWr
            refine HWr.out.mono ?_
            rintro e w3 ⟨F3, rfl, hd, ho, hn⟩
            have HD3 := Lib.hid hd
            have HS3 : Hid (Blk w3 wr.heap.size [Value.int .i64 s.kind, Value.int .i64 s.i, Value.int .u8 s.v, Value.slice ka s.keep.length kc]) := Lib.hid (HS2.out.only ho HLA.out.2)
            clear hd ho hn
            refine hK _ _ HS3.out ?_
            clear hK K
            refine takeH 7 (some 8) (.int .i64 12) rfl rfl (by kernel_rfl) (by kernel_rfl) (by kernel_rfl) (fun _ _ _ h => h) rfl (fun w _ => by go_simp) HS3.out ?_
            simp only [Act.put, List.setIfInBounds_toArray, List.set_cons_succ, List.set_cons_zero]
            refine wpAnyH_done (by kernel_rfl) ?_ _
            have HDn := Lib.hid (dv_done HD3.out)
            have HLo := Lib.hid (dv_loose HD3.out)
            rw [HT.out] at HDn
            have hln := HLn.out
            generalize hm : (d.write s.i (fillA s.v)).L.length = m at HLo hln
            have HM := Lib.hid hm
            clear hm
            have hm1 : ¬ (m : Int) < 0 := by omega
            have hm2 : (m : Int) ≤ (d.T : Int) + 0 := by omega
            go_wp2_with fail
            refine HDn.out.mono ?_
            rintro e w' ⟨rfl, rfl⟩
            go_wp2_with fail
            refine HLo.out.mono ?_
            rintro e w' ⟨rfl, rfl⟩
            go_wp2_with fail
            refine HLo.out.mono ?_
            rintro e w' ⟨rfl, rfl⟩
            go_wp2_with fail
            go_roundg (l.length - (k + 1))
            case measure => omega
            case rel => exact ⟨k + 1, F3, d.write s.i (fillA s.v), by omega, by omega, by go_num, by rw [HT.out], HD3.out, by rw [HT.out]; omega, by rw [HM.out, HT.out]; omega⟩
        have e0 : (s.kind == 0) = false := beq_eq_false_iff_ne.2 k0
        by_cases k1 : s.kind = 1
        · have e1 : (s.kind == 1) = true := beq_iff_eq.2 k1
          clear k0 k1
          have hbA : Below wr.heap.size wr (wr.alloc (Obj.cells #[Value.int .i64 s.kind, Value.int .i64 s.i, Value.int .u8 s.v, Value.slice ka s.keep.length kc] 34)) := (Below.refl _ _).alloc (Nat.le_refl _) _
          have hxA : Blk (wr.alloc (Obj.cells #[Value.int .i64 s.kind, Value.int .i64 s.i, Value.int .u8 s.v, Value.slice ka s.keep.length kc] 34)) wr.heap.size [Value.int .i64 s.kind, Value.int .i64 s.i, Value.int .u8 s.v, Value.slice ka s.keep.length kc] := Blk.newAt _ _ _ rfl rfl
          go_wp2_with fail
          clear c0 c1 c2 c3
          generalize wr.alloc (Obj.cells #[Value.int .i64 s.kind, Value.int .i64 s.i, Value.int .u8 s.v, Value.slice ka s.keep.length kc] 34) = wA at *
          have HDA := Lib.hid (HD.out.below hbA)
          have HLA : Hid (Blk wA wr.heap.size [Value.int .i64 s.kind, Value.int .i64 s.i, Value.int .u8 s.v, Value.slice ka s.keep.length kc] ∧ ¬ F wr.heap.size) := Lib.hid ⟨hxA, fun h => Nat.lt_irrefl _ (HD.out.lt _ h).2⟩
          have HBA := Lib.hid hbA
          clear hbA hxA
          have Hr1 := Lib.hid (dv_read HDA.out (by omega) s.i)
          refine Hr1.out.mono ?_
          rintro e wr2 ⟨rfl, hb⟩
          have HDr3 := Lib.hid (HDA.out.below hb)
          have HLr4 : Hid (Blk wr2 (wr.heap.size) [Value.int .i64 s.kind, Value.int .i64 s.i, Value.int .u8 s.v, Value.slice ka s.keep.length kc] ∧ ¬ F (wr.heap.size)) := Lib.hid ⟨HLA.out.1.below hb HLA.out.1.lt, HLA.out.2⟩
          clear hb Hr1
          have HT : Hid (d.T = d.T + 0) := Lib.hid rfl
          have HLn : Hid (d.L.length ≤ d.T + 0) := Lib.hid hLn
          have HDn := Lib.hid (dv_done HDr3.out)
          have HLo := Lib.hid (dv_loose HDr3.out)
          have hln := HLn.out
          generalize hm : (d).L.length = m at HLo hln
          have HM := Lib.hid hm
          clear hm
          have hm1 : ¬ (m : Int) < 0 := by omega
          have hm2 : (m : Int) ≤ (d.T : Int) + 0 := by omega
          go_wp2_with fail
          refine HDn.out.mono ?_
          rintro e w' ⟨rfl, rfl⟩
          go_wp2_with fail
          refine HLo.out.mono ?_
          rintro e w' ⟨rfl, rfl⟩
          go_wp2_with fail
          refine HLo.out.mono ?_
          rintro e w' ⟨rfl, rfl⟩
          go_wp2_with fail
          go_roundg (l.length - (k + 1))
          case measure => omega
          case rel => exact ⟨k + 1, F, d, by omega, by omega, by go_num, rfl, HDr3.out, by omega, by rw [HM.out]; omega⟩
        have e1 : (s.kind == 1) = false := beq_eq_false_iff_ne.2 k1
        by_cases k2 : s.kind = 2
        · have e2 : (s.kind == 2) = true := beq_iff_eq.2 k2
          clear k0 k1 k2
          rcases flushE_ok (d := d) with ⟨hE, hT1, hL1⟩ | ⟨hE, hT1, hL1⟩
          · have HE := Lib.hid hE
            have HT : Hid (d.flush.T = d.T + 1) := Lib.hid hT1
            have HLn : Hid (d.flush.L.length ≤ d.T + 1) := Lib.hid (by rw [hL1]; omega)
            clear hE hT1 hL1
            have hbA : Below wr.heap.size wr (wr.alloc (Obj.cells #[Value.int .i64 s.kind, Value.int .i64 s.i, Value.int .u8 s.v, Value.slice ka s.keep.length kc] 34)) := (Below.refl _ _).alloc (Nat.le_refl _) _
            have hxA : Blk (wr.alloc (Obj.cells #[Value.int .i64 s.kind, Value.int .i64 s.i, Value.int .u8 s.v, Value.slice ka s.keep.length kc] 34)) wr.heap.size [Value.int .i64 s.kind, Value.int .i64 s.i, Value.int .u8 s.v, Value.slice ka s.keep.length kc] := Blk.newAt _ _ _ rfl rfl
            go_wp2_with fail
            clear c0 c1 c2 c3
            generalize wr.alloc (Obj.cells #[Value.int .i64 s.kind, Value.int .i64 s.i, Value.int .u8 s.v, Value.slice ka s.keep.length kc] 34) = wA at *
            have HDA := Lib.hid (HD.out.below hbA)
            have HLA : Hid (Blk wA wr.heap.size [Value.int .i64 s.kind, Value.int .i64 s.i, Value.int .u8 s.v, Value.slice ka s.keep.length kc] ∧ ¬ F wr.heap.size) := Lib.hid ⟨hxA, fun h => Nat.lt_irrefl _ (HD.out.lt _ h).2⟩
            have HBA := Lib.hid hbA
            clear hbA hxA
            have HWr := Lib.hid (dv_flush HDA.out (by omega) (by omega))
            rw [HE.out] at HWr
            have Ht01 := Lib.hid (show Calls _ _ _ _ (After w wA b F (.int .i64 0) d.flush) from HWr.out)
            refine Ht01.out.mono ?_
            rintro e wt02 ⟨Ft03, rfl, hd, ho, hn⟩
            have HDt04 := Lib.hid hd
            have HLt05 : Hid (Blk wt02 (wr.heap.size) [Value.int .i64 s.kind, Value.int .i64 s.i, Value.int .u8 s.v, Value.slice ka s.keep.length kc] ∧ ¬ Ft03 (wr.heap.size)) := Lib.hid (HLA.out.1.after HLA.out.2 ho hn)
            clear hd ho hn Ht01
            have HDn := Lib.hid (dv_done HDt04.out)
            have HLo := Lib.hid (dv_loose HDt04.out)
            rw [HT.out] at HDn
            have hln := HLn.out
            generalize hm : (d.flush).L.length = m at HLo hln
            have HM := Lib.hid hm
            clear hm
            have hm1 : ¬ (m : Int) < 0 := by omega
            have hm2 : (m : Int) ≤ (d.T : Int) + 1 := by omega
            go_wp2_with fail
            refine HDn.out.mono ?_
            rintro e w' ⟨rfl, rfl⟩
            go_wp2_with fail
            refine HLo.out.mono ?_
            rintro e w' ⟨rfl, rfl⟩
            go_wp2_with fail
            refine HLo.out.mono ?_
            rintro e w' ⟨rfl, rfl⟩
            go_wp2_with fail
            go_roundg (l.length - (k + 1))
            case measure => omega
            case rel => exact ⟨k + 1, Ft03, d.flush, by omega, by omega, by go_num, by rw [HT.out]; go_num, HDt04.out, by rw [HT.out]; omega, by rw [HM.out, HT.out]; omega⟩
          · have HE := Lib.hid hE
            have HT : Hid (d.flush.T = d.T) := Lib.hid hT1
            have HLn : Hid (d.flush.L.length ≤ d.T + 0) := Lib.hid (by rw [hL1]; omega)
            clear hE hT1 hL1
            have hbA : Below wr.heap.size wr (wr.alloc (Obj.cells #[Value.int .i64 s.kind, Value.int .i64 s.i, Value.int .u8 s.v, Value.slice ka s.keep.length kc] 34)) := (Below.refl _ _).alloc (Nat.le_refl _) _
            have hxA : Blk (wr.alloc (Obj.cells #[Value.int .i64 s.kind, Value.int .i64 s.i, Value.int .u8 s.v, Value.slice ka s.keep.length kc] 34)) wr.heap.size [Value.int .i64 s.kind, Value.int .i64 s.i, Value.int .u8 s.v, Value.slice ka s.keep.length kc] := Blk.newAt _ _ _ rfl rfl
            go_wp2_with fail
            clear c0 c1 c2 c3
            generalize wr.alloc (Obj.cells #[Value.int .i64 s.kind, Value.int .i64 s.i, Value.int .u8 s.v, Value.slice ka s.keep.length kc] 34) = wA at *
            have HDA := Lib.hid (HD.out.below hbA)
            have HLA : Hid (Blk wA wr.heap.size [Value.int .i64 s.kind, Value.int .i64 s.i, Value.int .u8 s.v, Value.slice ka s.keep.length kc] ∧ ¬ F wr.heap.size) := Lib.hid ⟨hxA, fun h => Nat.lt_irrefl _ (HD.out.lt _ h).2⟩
            have HBA := Lib.hid hbA
            clear hbA hxA
            have HWr := Lib.hid (dv_flush HDA.out (by omega) (by omega))
            rw [HE.out] at HWr
            have Ht11 := Lib.hid (show Calls _ _ _ _ (After w wA b F (.int .i64 12) d.flush) from HWr.out)
            refine Ht11.out.mono ?_
            rintro e wt12 ⟨Ft13, rfl, hd, ho, hn⟩
            have HDt14 := Lib.hid hd
            have HLt15 : Hid (Blk wt12 (wr.heap.size) [Value.int .i64 s.kind, Value.int .i64 s.i, Value.int .u8 s.v, Value.slice ka s.keep.length kc] ∧ ¬ Ft13 (wr.heap.size)) := Lib.hid (HLA.out.1.after HLA.out.2 ho hn)
            clear hd ho hn Ht11
            have HDn := Lib.hid (dv_done HDt14.out)
            have HLo := Lib.hid (dv_loose HDt14.out)
            rw [HT.out] at HDn
            have hln := HLn.out
            generalize hm : (d.flush).L.length = m at HLo hln
            have HM := Lib.hid hm
            clear hm
            have hm1 : ¬ (m : Int) < 0 := by omega
            have hm2 : (m : Int) ≤ (d.T : Int) + 0 := by omega
            go_wp2_with fail
            refine HDn.out.mono ?_
            rintro e w' ⟨rfl, rfl⟩
            go_wp2_with fail
            refine HLo.out.mono ?_
            rintro e w' ⟨rfl, rfl⟩
            go_wp2_with fail
            refine HLo.out.mono ?_
            rintro e w' ⟨rfl, rfl⟩
            go_wp2_with fail
            go_roundg (l.length - (k + 1))
            case measure => omega
            case rel => exact ⟨k + 1, Ft13, d.flush, by omega, by omega, by go_num, by rw [HT.out], HDt14.out, by rw [HT.out]; omega, by rw [HM.out, HT.out]; omega⟩
        have e2 : (s.kind == 2) = false := beq_eq_false_iff_ne.2 k2
        by_cases k3 : s.kind = 3
        · have e3 : (s.kind == 3) = true := beq_iff_eq.2 k3
          clear k0 k1 k2 k3
          have hbA : Below wr.heap.size wr (wr.alloc (Obj.cells #[Value.int .i64 s.kind, Value.int .i64 s.i, Value.int .u8 s.v, Value.slice ka s.keep.length kc] 34)) := (Below.refl _ _).alloc (Nat.le_refl _) _
          have hxA : Blk (wr.alloc (Obj.cells #[Value.int .i64 s.kind, Value.int .i64 s.i, Value.int .u8 s.v, Value.slice ka s.keep.length kc] 34)) wr.heap.size [Value.int .i64 s.kind, Value.int .i64 s.i, Value.int .u8 s.v, Value.slice ka s.keep.length kc] := Blk.newAt _ _ _ rfl rfl
          have hpre : ∀ wq, Below wr.heap.size wr wq → BytesAt wq (.slice ka s.keep.length kc) s.keep := fun wq hb => (HKb.out.below (HD.out.below hb).2)
          have HPre := Lib.hid hpre
          clear hpre
          have HBA := Lib.hid hbA
          have HLA0 := Lib.hid hxA
          clear hbA hxA
          go_wp2_with ((with_reducible refine isAppend ?_); refine wpList_copy_bytes _ _ rfl rfl ((wr.alloc (Obj.cells #[Value.int .i64 s.kind, Value.int .i64 s.i, Value.int .u8 s.v, Value.slice ka s.keep.length kc] 34)).heap.size) (by go_simp) (heap_alloc_new _ _) (.slice ka s.keep.length kc) s.keep rfl (HPre.out _ (HBA.out.trans ((Below.refl _ _).alloc (by simp) _))) hkl ?_; intro v2 w2 hcp; have HCp := Lib.hid hcp; clear hcp)
          have hb2 : Below wr.heap.size wr w2 := (HBA.out.trans ((Below.refl _ _).alloc (by simp) _)).trans (HCp.out.below.mono (by simp))
          have HD2 := Lib.hid (HD.out.below hb2)
          have HCr := Lib.hid (dv_crash HD2.out (by omega) v2 s.keep HCp.out.bytes (fun k hk hf => by have h1 := HCp.out.own k hk; have h2 := (HD.out.lt _ hf).2; simp at h1; omega))
          clear hb2
          refine HCr.out.mono ?_
          rintro e w3 ⟨F3, rfl, hd, ho, hn⟩
          have HD3 := Lib.hid hd
          clear hd ho hn
          have HT : Hid ((d.crash s.keep).T = d.T) := Lib.hid rfl
          have HLn : Hid ((d.crash s.keep).L.length ≤ d.T + 0) := Lib.hid (Nat.zero_le _)
          have HDn := Lib.hid (dv_done HD3.out)
          have HLo := Lib.hid (dv_loose HD3.out)
          rw [HT.out] at HDn
          have hln := HLn.out
          generalize hm : (d.crash s.keep).L.length = m at HLo hln
          have HM := Lib.hid hm
          clear hm
          have hm1 : ¬ (m : Int) < 0 := by omega
          have hm2 : (m : Int) ≤ (d.T : Int) + 0 := by omega
          go_wp2_with fail
          refine HDn.out.mono ?_
          rintro e w' ⟨rfl, rfl⟩
          go_wp2_with fail
          refine HLo.out.mono ?_
          rintro e w' ⟨rfl, rfl⟩
          go_wp2_with fail
          refine HLo.out.mono ?_
          rintro e w' ⟨rfl, rfl⟩
          go_wp2_with fail
          go_roundg (l.length - (k + 1))
          case measure => omega
          case rel => exact ⟨k + 1, F3, d.crash s.keep, by omega, by omega, by go_num, by rw [HT.out], HD3.out, by rw [HT.out]; omega, by rw [HM.out, HT.out]; omega⟩
        have e3 : (s.kind == 3) = false := beq_eq_false_iff_ne.2 k3
        by_cases k4 : s.kind = 4
        · have e4 : (s.kind == 4) = true := beq_iff_eq.2 k4
          clear k0 k1 k2 k3 k4
          have hbA : Below wr.heap.size wr (wr.alloc (Obj.cells #[Value.int .i64 s.kind, Value.int .i64 s.i, Value.int .u8 s.v, Value.slice ka s.keep.length kc] 34)) := (Below.refl _ _).alloc (Nat.le_refl _) _
          have hxA : Blk (wr.alloc (Obj.cells #[Value.int .i64 s.kind, Value.int .i64 s.i, Value.int .u8 s.v, Value.slice ka s.keep.length kc] 34)) wr.heap.size [Value.int .i64 s.kind, Value.int .i64 s.i, Value.int .u8 s.v, Value.slice ka s.keep.length kc] := Blk.newAt _ _ _ rfl rfl
          go_wp2_with fail
          clear c0 c1 c2 c3
          generalize wr.alloc (Obj.cells #[Value.int .i64 s.kind, Value.int .i64 s.i, Value.int .u8 s.v, Value.slice ka s.keep.length kc] 34) = wA at *
          have HDA := Lib.hid (HD.out.below hbA)
          have HLA : Hid (Blk wA wr.heap.size [Value.int .i64 s.kind, Value.int .i64 s.i, Value.int .u8 s.v, Value.slice ka s.keep.length kc] ∧ ¬ F wr.heap.size) := Lib.hid ⟨hxA, fun h => Nat.lt_irrefl _ (HD.out.lt _ h).2⟩
          have HBA := Lib.hid hbA
          clear hbA hxA
          have Hf1 := Lib.hid (show Calls _ _ _ _ (After w wA b F (.tuple #[]) ({ d with F := s.i })) from dv_fail HDA.out s.i HS.out.hi)
          refine Hf1.out.mono ?_
          rintro e wf2 ⟨Ff3, rfl, hd, ho, hn⟩
          have HDf4 := Lib.hid hd
          have HLf5 : Hid (Blk wf2 (wr.heap.size) [Value.int .i64 s.kind, Value.int .i64 s.i, Value.int .u8 s.v, Value.slice ka s.keep.length kc] ∧ ¬ Ff3 (wr.heap.size)) := Lib.hid (HLA.out.1.after HLA.out.2 ho hn)
          clear hd ho hn Hf1
          have HT : Hid (({ d with F := s.i } : D).T = d.T) := Lib.hid rfl
          have HLn : Hid (({ d with F := s.i } : D).L.length ≤ d.T + 0) := Lib.hid hLn
          have HDn := Lib.hid (dv_done HDf4.out)
          have HLo := Lib.hid (dv_loose HDf4.out)
          have hln := HLn.out
          generalize hm : (({ d with F := s.i } : D)).L.length = m at HLo hln
          have HM := Lib.hid hm
          clear hm
          have hm1 : ¬ (m : Int) < 0 := by omega
          have hm2 : (m : Int) ≤ (d.T : Int) + 0 := by omega
          go_wp2_with fail
          refine HDn.out.mono ?_
          rintro e w' ⟨rfl, rfl⟩
          go_wp2_with fail
          refine HLo.out.mono ?_
          rintro e w' ⟨rfl, rfl⟩
          go_wp2_with fail
          refine HLo.out.mono ?_
          rintro e w' ⟨rfl, rfl⟩
          go_wp2_with fail
          go_roundg (l.length - (k + 1))
          case measure => omega
          case rel => exact ⟨k + 1, Ff3, ({ d with F := s.i } : D), by omega, by omega, by go_num, rfl, HDf4.out, by simp only; omega, by rw [HM.out]; simp only; omega⟩
        · have e4 : (s.kind == 4) = false := beq_eq_false_iff_ne.2 k4
          clear k0 k1 k2 k3 k4
          have hbA : Below wr.heap.size wr (wr.alloc (Obj.cells #[Value.int .i64 s.kind, Value.int .i64 s.i, Value.int .u8 s.v, Value.slice ka s.keep.length kc] 34)) := (Below.refl _ _).alloc (Nat.le_refl _) _
          have hxA : Blk (wr.alloc (Obj.cells #[Value.int .i64 s.kind, Value.int .i64 s.i, Value.int .u8 s.v, Value.slice ka s.keep.length kc] 34)) wr.heap.size [Value.int .i64 s.kind, Value.int .i64 s.i, Value.int .u8 s.v, Value.slice ka s.keep.length kc] := Blk.newAt _ _ _ rfl rfl
          go_wp2_with fail
          clear c0 c1 c2 c3
          generalize wr.alloc (Obj.cells #[Value.int .i64 s.kind, Value.int .i64 s.i, Value.int .u8 s.v, Value.slice ka s.keep.length kc] 34) = wA at *
          have HDA := Lib.hid (HD.out.below hbA)
          have HLA : Hid (Blk wA wr.heap.size [Value.int .i64 s.kind, Value.int .i64 s.i, Value.int .u8 s.v, Value.slice ka s.keep.length kc] ∧ ¬ F wr.heap.size) := Lib.hid ⟨hxA, fun h => Nat.lt_irrefl _ (HD.out.lt _ h).2⟩
          have HBA := Lib.hid hbA
          clear hbA hxA
          have HT : Hid (d.T = d.T + 0) := Lib.hid rfl
          have HLn : Hid (d.L.length ≤ d.T + 0) := Lib.hid hLn
          have HDn := Lib.hid (dv_done HDA.out)
          have HLo := Lib.hid (dv_loose HDA.out)
          have hln := HLn.out
          generalize hm : (d).L.length = m at HLo hln
          have HM := Lib.hid hm
          clear hm
          have hm1 : ¬ (m : Int) < 0 := by omega
          have hm2 : (m : Int) ≤ (d.T : Int) + 0 := by omega
          go_wp2_with fail
          refine HDn.out.mono ?_
          rintro e w' ⟨rfl, rfl⟩
          go_wp2_with fail
          refine HLo.out.mono ?_
          rintro e w' ⟨rfl, rfl⟩
          go_wp2_with fail
          refine HLo.out.mono ?_
          rintro e w' ⟨rfl, rfl⟩
          go_wp2_with fail
          go_roundg (l.length - (k + 1))
          case measure => omega
          case rel => exact ⟨k + 1, F, d, by omega, by omega, by go_num, rfl, HDA.out, by omega, by rw [HM.out]; omega⟩
      · have hkl : k = l.length := by omega
        subst hkl
        clear hlt
        go_wp2_with fail
        have HW := Lib.hid fun w2 => wakes_any w2
        refine (HW.out _).mono ?_
        rintro e w2 ⟨rfl, hb⟩
        have HB2 := Lib.hid (HD.out.below hb).2
        clear hb
        go_wp2_with fail
        go_ret
        exact ⟨rfl, HB2.out⟩
end Go.Proofs.Ytdmjhpebpooiaaa
