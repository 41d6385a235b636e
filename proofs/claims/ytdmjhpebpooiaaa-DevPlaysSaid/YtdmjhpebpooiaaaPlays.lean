/- The statement DevPlays's walk. -/
import Derived.Test.YtdmjhpebpooiaaaBoth
namespace Go.Proofs.Ytdmjhpebpooiaaa
open Go.RowKit
theorem write_bound (d : D) (i : Int) (cs : Array Value) : (d.write i cs).T ≤ d.T + 1 ∧ (d.write i cs).L.length ≤ d.L.length + 1 := by
  unfold D.write
  split
  · split
    · exact ⟨Nat.le_succ _, Nat.le_succ _⟩
    · exact ⟨Nat.le_refl _, by simp⟩
  · exact ⟨Nat.le_succ _, Nat.le_succ _⟩
theorem flush_bound (d : D) : d.flush.T ≤ d.T + 1 ∧ d.flush.L.length ≤ d.L.length + 1 := by
  unfold D.flush
  split
  · exact ⟨Nat.le_succ _, Nat.le_succ _⟩
  · exact ⟨Nat.le_refl _, Nat.zero_le _⟩
set_option maxRecDepth 100000 in
set_option maxHeartbeats 4000000 in
theorem plays_any (n : Int) (v : Value) (l : List St) (w : World) (hst : StsAt w v l) : Calls Try.prog 3 #[.int .i64 n, v] w fun e w' => e = .returned (.bool true) ∧ Below w.heap.size w w' := by
  have HFr := Lib.hid (fair_any v l w hst)
  obtain ⟨a, cap, rfl, hl, hel⟩ := hst
  have HEl := Lib.hid hel
  have HW := Lib.hid fun w2 => wakes_any w2
  unfold maxLen at hl
  clear hel
  go_enter Try.func3, Try.ntmps3
  go_wp2_with fail
  cases hfair : fairB l
  · rw [hfair] at HFr
    clear hfair
    refine HFr.out.mono ?_
    rintro e w' ⟨rfl, rfl⟩
    go_wp2_with fail
    refine (HW.out _).mono ?_
    rintro e w2 ⟨rfl, hb⟩
    have HB2 := Lib.hid hb
    clear hb
    go_wp2_with fail
    go_ret
    exact ⟨rfl, HB2.out⟩
  rw [hfair] at HFr
  have hlen := (fairB_mem hfair).1
  have HKeep := Lib.hid (fairB_mem hfair).2
  clear hfair hl
  refine HFr.out.mono ?_
  rintro e w' ⟨rfl, rfl⟩
  by_cases hmid : 60 < n ∧ n ≤ 1024
  · obtain ⟨hm1, hm2⟩ := hmid
    go_wp2_with fail
    refine (HW.out _).mono ?_
    rintro e w2 ⟨rfl, hb⟩
    have HB2 := Lib.hid hb
    clear hb
    go_wp2_with fail
    go_ret
    exact ⟨rfl, HB2.out⟩
  by_cases hgood : 1 ≤ n ∧ n ≤ 60
  · obtain ⟨m, rfl, hm1, hm2⟩ : ∃ m : Nat, n = m ∧ 1 ≤ m ∧ m ≤ 60 := ⟨n.toNat, by omega, by omega, by omega⟩
    have hn1 : (1 : Int) ≤ (m : Int) := by omega
    have hn2 : (m : Int) ≤ 60 := by omega
    clear hgood hmid
    go_wp2_with fail
    have H0 := Lib.hid (dv_new w w (Below.refl _ _) m (by omega))
    refine H0.out.mono ?_
    rintro e w0 ⟨b, F, rfl, hd, hb, hF⟩
    have HD0 := Lib.hid hd
    clear hd hb hF H0
    go_wp2_with fail
    have H1 := Lib.hid (rv_new w w0 HD0.out.2 m (by omega))
    refine H1.out.mono ?_
    rintro e w1 ⟨q, G, rfl, hr, hb, hG⟩
    have HB0 : Hid (Both w w1 b F q G (newD m) (newD m)) := Lib.hid ⟨HD0.out.below hb, hr, fun k hf hg => by have := (HD0.out.lt k hf).2; have := hG k hg; omega⟩
    clear hr hb hG H1 HD0
    go_wp2_with fail
    go_loopg [9] l.length (fun g i wr => ∃ (k : Nat) (F G : Nat → Prop) (d : D), l.length - k ≤ g ∧ k ≤ l.length ∧ i = .int .i64 k ∧ Both w wr b F q G d d ∧ d.T ≤ k ∧ d.L.length ≤ k)
    case atStart => exact ⟨0, F, G, newD m, by omega, by omega, rfl, HB0.out, Nat.le_refl _, Nat.le_refl _⟩
    case round =>
      clear HFr HB0
      obtain ⟨k, F, G, d, hg, hk, rfl, hbo, hT, hLn⟩ := hrel
      have HB := Lib.hid hbo
      clear hbo
      by_cases hlt : k < l.length
      · obtain ⟨b0, o0, rfl, hs⟩ := HEl.out k hlt
        have hkl := HKeep.out l[k] (List.getElem_mem hlt)
        generalize hsk : l[k] = s at hs hkl
        clear hsk
        obtain ⟨kv, hkv, hkb⟩ := hs.keep
        obtain ⟨ka, kc, ekv⟩ : ∃ ka kc, kv = .slice ka s.keep.length kc := by obtain ⟨a, c, e, _⟩ := hkb; exact ⟨a, c, e⟩
        subst ekv
        have HS := Lib.hid hs
        have HKv := Lib.hid hkv
        have HKb := Lib.hid hkb
        clear hs hkv hkb
        have hk0 : (0 : Int) ≤ (k : Int) := by omega
        have hk1 : (k : Int) < (l.length : Int) := by omega
        have c0 := (HS.out.below HB.out.dv.2).kind
        have c1 := (HS.out.below HB.out.dv.2).i
        have c2 := (HS.out.below HB.out.dv.2).v
        have c3 : wr.cell? ⟨b0, o0 + k * 4 + 3, none⟩ = some (.slice ka s.keep.length kc) := (HB.out.dv.2.cell (p := ⟨b0, o0 + k * 4 + 3, none⟩) (World.block_lt_of_cell? _ _ HKv.out)).trans HKv.out
        by_cases k0 : s.kind = 0
        · have e0 : (s.kind == 0) = true := beq_iff_eq.2 k0
          clear k0 
          have hbA : Below wr.heap.size wr (wr.alloc (Obj.cells #[Value.int .i64 s.kind, Value.int .i64 s.i, Value.int .u8 s.v, Value.slice ka s.keep.length kc] 34)) := (Below.refl _ _).alloc (Nat.le_refl _) _
          have hxA : Blk (wr.alloc (Obj.cells #[Value.int .i64 s.kind, Value.int .i64 s.i, Value.int .u8 s.v, Value.slice ka s.keep.length kc] 34)) wr.heap.size [Value.int .i64 s.kind, Value.int .i64 s.i, Value.int .u8 s.v, Value.slice ka s.keep.length kc] := Blk.newAt _ _ _ rfl rfl
          go_wp2_with fail
          clear c0 c1 c2 c3
          generalize wr.alloc (Obj.cells #[Value.int .i64 s.kind, Value.int .i64 s.i, Value.int .u8 s.v, Value.slice ka s.keep.length kc] 34) = wA at *
          have HBA := Lib.hid (HB.out.below hbA)
          have HNX : Hid (¬ F wr.heap.size ∧ ¬ G wr.heap.size) := Lib.hid ⟨fun h => Nat.lt_irrefl _ (HB.out.dv.lt _ h).2, fun h => Nat.lt_irrefl _ (HB.out.rv.lt _ h).2⟩
          have HX := Lib.hid hxA
          have HBel := Lib.hid hbA
          clear hbA hxA
          have HQ0 : Hid (Blk wA.drew wr.heap.size [Value.int .i64 s.kind, Value.int .i64 s.i, Value.int .u8 s.v, Value.slice ka s.keep.length kc]) := Lib.hid HX.out.drew
          have HBd0 := Lib.hid HBA.out.drew
          refine startH (fun wq => Blk wq wr.heap.size [Value.int .i64 s.kind, Value.int .i64 s.i, Value.int .u8 s.v, Value.slice ka s.keep.length kc]) (by kernel_rfl) ?_
          refine takeH 0 (some 70) (.pointer (some ⟨b, 0, none⟩)) rfl rfl (by kernel_rfl) (by kernel_rfl) (by kernel_rfl) (fun _ _ _ h => h) rfl (fun w _ => by go_simp) HQ0.out ?_
          simp only [Act.put, List.setIfInBounds_toArray, List.set_cons_succ, List.set_cons_zero]
          refine takeH 1 (some 71) (.pointer (some ⟨wr.heap.size, 1, none⟩)) rfl rfl (by kernel_rfl) (by kernel_rfl) (by kernel_rfl) (fun _ _ _ h => h) rfl (fun w _ => by go_simp) HQ0.out ?_
          simp only [Act.put, List.setIfInBounds_toArray, List.set_cons_succ, List.set_cons_zero]
          refine takeH 2 (some 72) (.int .i64 s.i) rfl rfl (by kernel_rfl) (by kernel_rfl) (by kernel_rfl) (fun _ _ _ h => h) rfl (fun w hS => exec_load1 _ _ _ 3 _ rfl ⟨_, 1, none⟩ rfl _ _ Try.underlying3 rfl (hS.cell rfl)) HQ0.out ?_
          simp only [Act.put, List.setIfInBounds_toArray, List.set_cons_succ, List.set_cons_zero]
          refine takeH 3 (some 73) (.pointer (some ⟨wr.heap.size, 2, none⟩)) rfl rfl (by kernel_rfl) (by kernel_rfl) (by kernel_rfl) (fun _ _ _ h => h) rfl (fun w _ => by go_simp) HQ0.out ?_
          simp only [Act.put, List.setIfInBounds_toArray, List.set_cons_succ, List.set_cons_zero]
          refine takeH 4 (some 74) (.int .u8 s.v) rfl rfl (by kernel_rfl) (by kernel_rfl) (by kernel_rfl) (fun _ _ _ h => h) rfl (fun w hS => exec_load1 _ _ _ 5 _ rfl ⟨_, 2, none⟩ rfl _ _ Try.underlying5 rfl (hS.cell rfl)) HQ0.out ?_
          simp only [Act.put, List.setIfInBounds_toArray, List.set_cons_succ, List.set_cons_zero]
          refine takeH 7 (some 77) (.pointer (some ⟨q, 0, none⟩)) rfl rfl (by kernel_rfl) (by kernel_rfl) (by kernel_rfl) (fun _ _ _ h => h) rfl (fun w _ => by go_simp) HQ0.out ?_
          simp only [Act.put, List.setIfInBounds_toArray, List.set_cons_succ, List.set_cons_zero]
          refine takeH 8 (some 78) (.pointer (some ⟨wr.heap.size, 1, none⟩)) rfl rfl (by kernel_rfl) (by kernel_rfl) (by kernel_rfl) (fun _ _ _ h => h) rfl (fun w _ => by go_simp) HQ0.out ?_
          simp only [Act.put, List.setIfInBounds_toArray, List.set_cons_succ, List.set_cons_zero]
          refine takeH 9 (some 79) (.int .i64 s.i) rfl rfl (by kernel_rfl) (by kernel_rfl) (by kernel_rfl) (fun _ _ _ h => h) rfl (fun w hS => exec_load1 _ _ _ 3 _ rfl ⟨_, 1, none⟩ rfl _ _ Try.underlying3 rfl (hS.cell rfl)) HQ0.out ?_
          simp only [Act.put, List.setIfInBounds_toArray, List.set_cons_succ, List.set_cons_zero]
          refine takeH 10 (some 80) (.pointer (some ⟨wr.heap.size, 2, none⟩)) rfl rfl (by kernel_rfl) (by kernel_rfl) (by kernel_rfl) (fun _ _ _ h => h) rfl (fun w _ => by go_simp) HQ0.out ?_
          simp only [Act.put, List.setIfInBounds_toArray, List.set_cons_succ, List.set_cons_zero]
          refine takeH 11 (some 81) (.int .u8 s.v) rfl rfl (by kernel_rfl) (by kernel_rfl) (by kernel_rfl) (fun _ _ _ h => h) rfl (fun w hS => exec_load1 _ _ _ 5 _ rfl ⟨_, 2, none⟩ rfl _ _ Try.underlying5 rfl (hS.cell rfl)) HQ0.out ?_
          simp only [Act.put, List.setIfInBounds_toArray, List.set_cons_succ, List.set_cons_zero]
          refine oneH 5 (by kernel_rfl) rfl rfl fun K hK => ?_
          go_simp
          refine (fill_any s.v _).mono ?_
          rintro e w2 ⟨rfl, hb⟩
          have HS2 : Hid (Blk w2 wr.heap.size [Value.int .i64 s.kind, Value.int .i64 s.i, Value.int .u8 s.v, Value.slice ka s.keep.length kc]) := Lib.hid (HQ0.out.below hb HQ0.out.lt)
          have HB2 := Lib.hid (HBd0.out.below hb)
          refine hK _ _ HS2.out ?_
          clear hK hb K
          refine oneH 6 (by kernel_rfl) rfl rfl fun K hK => ?_
          go_simp
          refine (dv_write HB2.out.dv (by omega) (by omega) s.i (fillA s.v) (fillA_sec s.v)).mono ?_
          rintro e w3 ⟨F3, rfl, hd, ho, hn⟩
          have HB3 := Lib.hid (HB2.out.dev hd ho hn)
          have HS3 : Hid (Blk w3 wr.heap.size [Value.int .i64 s.kind, Value.int .i64 s.i, Value.int .u8 s.v, Value.slice ka s.keep.length kc]) := Lib.hid (HS2.out.only ho HNX.out.1)
          clear hd ho hn
          refine hK _ _ HS3.out ?_
          clear hK K
          refine oneH 12 (by kernel_rfl) rfl rfl fun K hK => ?_
          go_simp
          refine (fill_any s.v _).mono ?_
          rintro e w4 ⟨rfl, hb⟩
          have HS4 : Hid (Blk w4 wr.heap.size [Value.int .i64 s.kind, Value.int .i64 s.i, Value.int .u8 s.v, Value.slice ka s.keep.length kc]) := Lib.hid (HS3.out.below hb HS3.out.lt)
          have HB4 := Lib.hid (HB3.out.below hb)
          refine hK _ _ HS4.out ?_
          clear hK hb K
          refine oneH 13 (by kernel_rfl) rfl rfl fun K hK => ?_
          go_simp
          refine (rv_write HB4.out.rv (by omega) (by omega) s.i (fillA s.v) (fillA_sec s.v)).mono ?_
          rintro e w5 ⟨G5, rfl, hd, ho, hn⟩
          have HB5 := Lib.hid (HB4.out.ref hd ho hn)
          have HS5 : Hid (Blk w5 wr.heap.size [Value.int .i64 s.kind, Value.int .i64 s.i, Value.int .u8 s.v, Value.slice ka s.keep.length kc]) := Lib.hid (HS4.out.only ho HNX.out.2)
          clear hd ho hn
          refine hK _ _ HS5.out ?_
          clear hK K
          refine takeH 14 (some 84) (.bool false) rfl rfl (by kernel_rfl) (by kernel_rfl) (by kernel_rfl) (fun _ _ _ h => h) rfl (fun w _ => by go_simp) HS5.out ?_
          simp only [Act.put, List.setIfInBounds_toArray, List.set_cons_succ, List.set_cons_zero]
          refine wpAnyH_done (by kernel_rfl) ?_ _
          have HBd := Lib.hid (write_bound d s.i (fillA s.v))
          obtain ⟨sq, la, lc, hfl⟩ := HB5.out.rv.fields
          have HFl := Lib.hid hfl
          clear hfl
          go_wp2_with fail
          have HQ : Hid (Both w w5.drew b F3 q G5 (d.write s.i (fillA s.v)) (d.write s.i (fillA s.v)) ∧ Blk w5.drew q [.slice (some ⟨sq, 0, none⟩) (d.write s.i (fillA s.v)).S.length (d.write s.i (fillA s.v)).S.length, .slice la (d.write s.i (fillA s.v)).L.length lc, .int .i64 (d.write s.i (fillA s.v)).F, .int .i64 (d.write s.i (fillA s.v)).T]) := Lib.hid ⟨HB5.out.drew, HFl.out.drew⟩
          refine startH (fun wq => (Both w wq b F3 q G5 (d.write s.i (fillA s.v)) (d.write s.i (fillA s.v)) ∧ Blk wq q [.slice (some ⟨sq, 0, none⟩) (d.write s.i (fillA s.v)).S.length (d.write s.i (fillA s.v)).S.length, .slice la (d.write s.i (fillA s.v)).L.length lc, .int .i64 (d.write s.i (fillA s.v)).F, .int .i64 (d.write s.i (fillA s.v)).T])) (by kernel_rfl) ?_
          refine takeH 0 (some 139) (.pointer (some ⟨b, 0, none⟩)) rfl rfl (by kernel_rfl) (by kernel_rfl) (by kernel_rfl) (fun _ _ _ h => h) rfl (fun w _ => by go_simp) HQ.out ?_
          simp only [Act.put, List.setIfInBounds_toArray, List.set_cons_succ, List.set_cons_zero]
          refine takeH 2 (some 141) (.pointer (some ⟨q, 0, none⟩)) rfl rfl (by kernel_rfl) (by kernel_rfl) (by kernel_rfl) (fun _ _ _ h => h) rfl (fun w _ => by go_simp) HQ.out ?_
          simp only [Act.put, List.setIfInBounds_toArray, List.set_cons_succ, List.set_cons_zero]
          refine takeH 3 (some 142) (.pointer (some ⟨q, 0, none⟩)) rfl rfl (by kernel_rfl) (by kernel_rfl) (by kernel_rfl) (fun _ _ _ h => h) rfl (fun w _ => by go_simp) HQ.out ?_
          simp only [Act.put, List.setIfInBounds_toArray, List.set_cons_succ, List.set_cons_zero]
          refine takeH 4 (some 143) (.pointer (some ⟨q, 1, none⟩)) rfl rfl (by kernel_rfl) (by kernel_rfl) (by kernel_rfl) (fun _ _ _ h => h) rfl (fun w _ => by go_simp) HQ.out ?_
          simp only [Act.put, List.setIfInBounds_toArray, List.set_cons_succ, List.set_cons_zero]
          refine takeH 5 (some 144) (.slice la (d.write s.i (fillA s.v)).L.length lc) rfl rfl (by kernel_rfl) (by kernel_rfl) (by kernel_rfl) (fun _ _ _ h => h) rfl (fun w hS => exec_load1 _ _ _ 49 _ rfl ⟨q, 1, none⟩ rfl _ _ Try.underlying49 rfl (hS.2.cell rfl)) HQ.out ?_
          simp only [Act.put, List.setIfInBounds_toArray, List.set_cons_succ, List.set_cons_zero]
          refine takeH 6 (some 145) (.int .i64 ((d.write s.i (fillA s.v)).L.length : Int)) rfl rfl (by kernel_rfl) (by kernel_rfl) (by kernel_rfl) (fun _ _ _ h => h) rfl (fun w _ => by go_simp) HQ.out ?_
          simp only [Act.put, List.setIfInBounds_toArray, List.set_cons_succ, List.set_cons_zero]
          refine oneH 1 (by kernel_rfl) rfl rfl fun K hK => ?_
          go_simp
          refine (dv_loose HQ.out.1.dv).mono ?_
          rintro e w' ⟨rfl, rfl⟩
          refine hK _ _ HQ.out ?_
          clear hK K
          refine takeH 7 (some 146) (.bool false) rfl rfl (by kernel_rfl) (by kernel_rfl) (by kernel_rfl) (fun _ _ _ h => h) rfl (fun w _ => by go_simp) HQ.out ?_
          simp only [Act.put, List.setIfInBounds_toArray, List.set_cons_succ, List.set_cons_zero]
          refine takeH 8 (some 147) (.bool false) rfl rfl (by kernel_rfl) (by kernel_rfl) (by kernel_rfl) (fun _ _ _ h => h) rfl (fun w _ => by go_simp) HQ.out ?_
          simp only [Act.put, List.setIfInBounds_toArray, List.set_cons_succ, List.set_cons_zero]
          refine takeH 9 (some 148) (.pointer (some ⟨b, 0, none⟩)) rfl rfl (by kernel_rfl) (by kernel_rfl) (by kernel_rfl) (fun _ _ _ h => h) rfl (fun w _ => by go_simp) HQ.out ?_
          simp only [Act.put, List.setIfInBounds_toArray, List.set_cons_succ, List.set_cons_zero]
          refine takeH 11 (some 150) (.pointer (some ⟨q, 0, none⟩)) rfl rfl (by kernel_rfl) (by kernel_rfl) (by kernel_rfl) (fun _ _ _ h => h) rfl (fun w _ => by go_simp) HQ.out ?_
          simp only [Act.put, List.setIfInBounds_toArray, List.set_cons_succ, List.set_cons_zero]
          refine takeH 12 (some 151) (.pointer (some ⟨q, 0, none⟩)) rfl rfl (by kernel_rfl) (by kernel_rfl) (by kernel_rfl) (fun _ _ _ h => h) rfl (fun w _ => by go_simp) HQ.out ?_
          simp only [Act.put, List.setIfInBounds_toArray, List.set_cons_succ, List.set_cons_zero]
          refine takeH 13 (some 152) (.pointer (some ⟨q, 0, none⟩)) rfl rfl (by kernel_rfl) (by kernel_rfl) (by kernel_rfl) (fun _ _ _ h => h) rfl (fun w _ => by go_simp) HQ.out ?_
          simp only [Act.put, List.setIfInBounds_toArray, List.set_cons_succ, List.set_cons_zero]
          refine takeH 14 (some 153) (.slice (some ⟨sq, 0, none⟩) (d.write s.i (fillA s.v)).S.length (d.write s.i (fillA s.v)).S.length) rfl rfl (by kernel_rfl) (by kernel_rfl) (by kernel_rfl) (fun _ _ _ h => h) rfl (fun w hS => exec_load1 _ _ _ 48 _ rfl ⟨q, 0, none⟩ rfl _ _ Try.underlying48 rfl (hS.2.cell rfl)) HQ.out ?_
          simp only [Act.put, List.setIfInBounds_toArray, List.set_cons_succ, List.set_cons_zero]
          refine takeH 15 (some 154) (.int .i64 ((d.write s.i (fillA s.v)).S.length : Int)) rfl rfl (by kernel_rfl) (by kernel_rfl) (by kernel_rfl) (fun _ _ _ h => h) rfl (fun w _ => by go_simp) HQ.out ?_
          simp only [Act.put, List.setIfInBounds_toArray, List.set_cons_succ, List.set_cons_zero]
          refine oneH 10 (by kernel_rfl) rfl rfl fun K hK => ?_
          go_simp
          refine (dv_len HQ.out.1.dv).mono ?_
          rintro e w' ⟨rfl, rfl⟩
          refine hK _ _ HQ.out ?_
          clear hK K
          refine takeH 16 (some 155) (.bool false) rfl rfl (by kernel_rfl) (by kernel_rfl) (by kernel_rfl) (fun _ _ _ h => h) rfl (fun w _ => by go_simp) HQ.out ?_
          simp only [Act.put, List.setIfInBounds_toArray, List.set_cons_succ, List.set_cons_zero]
          refine takeH 17 (some 156) (.bool false) rfl rfl (by kernel_rfl) (by kernel_rfl) (by kernel_rfl) (fun _ _ _ h => h) rfl (fun w _ => by go_simp) HQ.out ?_
          simp only [Act.put, List.setIfInBounds_toArray, List.set_cons_succ, List.set_cons_zero]
          refine takeH 18 (some 157) (.bool false) rfl rfl (by kernel_rfl) (by kernel_rfl) (by kernel_rfl) (fun _ _ _ h => h) rfl (fun w _ => by go_simp) HQ.out ?_
          simp only [Act.put, List.setIfInBounds_toArray, List.set_cons_succ, List.set_cons_zero]
          refine takeH 19 (some 158) (.pointer (some ⟨b, 0, none⟩)) rfl rfl (by kernel_rfl) (by kernel_rfl) (by kernel_rfl) (fun _ _ _ h => h) rfl (fun w _ => by go_simp) HQ.out ?_
          simp only [Act.put, List.setIfInBounds_toArray, List.set_cons_succ, List.set_cons_zero]
          refine takeH 21 (some 160) (.pointer (some ⟨q, 0, none⟩)) rfl rfl (by kernel_rfl) (by kernel_rfl) (by kernel_rfl) (fun _ _ _ h => h) rfl (fun w _ => by go_simp) HQ.out ?_
          simp only [Act.put, List.setIfInBounds_toArray, List.set_cons_succ, List.set_cons_zero]
          refine takeH 22 (some 161) (.pointer (some ⟨q, 0, none⟩)) rfl rfl (by kernel_rfl) (by kernel_rfl) (by kernel_rfl) (fun _ _ _ h => h) rfl (fun w _ => by go_simp) HQ.out ?_
          simp only [Act.put, List.setIfInBounds_toArray, List.set_cons_succ, List.set_cons_zero]
          refine takeH 23 (some 162) (.pointer (some ⟨q, 3, none⟩)) rfl rfl (by kernel_rfl) (by kernel_rfl) (by kernel_rfl) (fun _ _ _ h => h) rfl (fun w _ => by go_simp) HQ.out ?_
          simp only [Act.put, List.setIfInBounds_toArray, List.set_cons_succ, List.set_cons_zero]
          refine takeH 24 (some 163) (.int .i64 ((d.write s.i (fillA s.v)).T : Int)) rfl rfl (by kernel_rfl) (by kernel_rfl) (by kernel_rfl) (fun _ _ _ h => h) rfl (fun w hS => exec_load1 _ _ _ 3 _ rfl ⟨q, 3, none⟩ rfl _ _ Try.underlying3 rfl (hS.2.cell rfl)) HQ.out ?_
          simp only [Act.put, List.setIfInBounds_toArray, List.set_cons_succ, List.set_cons_zero]
          refine oneH 20 (by kernel_rfl) rfl rfl fun K hK => ?_
          go_simp
          refine (dv_done HQ.out.1.dv).mono ?_
          rintro e w' ⟨rfl, rfl⟩
          refine hK _ _ HQ.out ?_
          clear hK K
          refine takeH 25 (some 164) (.bool false) rfl rfl (by kernel_rfl) (by kernel_rfl) (by kernel_rfl) (fun _ _ _ h => h) rfl (fun w _ => by go_simp) HQ.out ?_
          simp only [Act.put, List.setIfInBounds_toArray, List.set_cons_succ, List.set_cons_zero]
          refine takeH 26 (some 165) (.bool false) rfl rfl (by kernel_rfl) (by kernel_rfl) (by kernel_rfl) (fun _ _ _ h => h) rfl (fun w _ => by go_simp) HQ.out ?_
          simp only [Act.put, List.setIfInBounds_toArray, List.set_cons_succ, List.set_cons_zero]
          refine wpAnyH_done (by kernel_rfl) ?_ _
          go_wp2_with fail
          go_roundg (l.length - (k + 1))
          case measure => omega
          case rel => exact ⟨k + 1, F3, G5, d.write s.i (fillA s.v), by omega, by omega, by go_num, HQ.out.1, by have := HBd.out.1; (try dsimp only at this ⊢); omega, by have := HBd.out.2; (try dsimp only at this ⊢); omega⟩
        have e0 : (s.kind == 0) = false := beq_eq_false_iff_ne.2 k0
        by_cases k1 : s.kind = 1
        · have e1 : (s.kind == 1) = true := beq_iff_eq.2 k1
          clear k1 k0
          have hbA : Below wr.heap.size wr (wr.alloc (Obj.cells #[Value.int .i64 s.kind, Value.int .i64 s.i, Value.int .u8 s.v, Value.slice ka s.keep.length kc] 34)) := (Below.refl _ _).alloc (Nat.le_refl _) _
          have hxA : Blk (wr.alloc (Obj.cells #[Value.int .i64 s.kind, Value.int .i64 s.i, Value.int .u8 s.v, Value.slice ka s.keep.length kc] 34)) wr.heap.size [Value.int .i64 s.kind, Value.int .i64 s.i, Value.int .u8 s.v, Value.slice ka s.keep.length kc] := Blk.newAt _ _ _ rfl rfl
          go_wp2_with fail
          clear c0 c1 c2 c3
          generalize wr.alloc (Obj.cells #[Value.int .i64 s.kind, Value.int .i64 s.i, Value.int .u8 s.v, Value.slice ka s.keep.length kc] 34) = wA at *
          have HBA := Lib.hid (HB.out.below hbA)
          have HNX : Hid (¬ F wr.heap.size ∧ ¬ G wr.heap.size) := Lib.hid ⟨fun h => Nat.lt_irrefl _ (HB.out.dv.lt _ h).2, fun h => Nat.lt_irrefl _ (HB.out.rv.lt _ h).2⟩
          have HX := Lib.hid hxA
          have HBel := Lib.hid hbA
          clear hbA hxA
          have HSec := Lib.hid (D.read_sec HBA.out.dv s.i)
          have HR1 := Lib.hid (dv_read HBA.out.dv (by omega) s.i)
          refine HR1.out.mono ?_
          rintro e w2 ⟨rfl, hb⟩
          have HB2 := Lib.hid (HBA.out.below hb)
          have HX2 := Lib.hid (HX.out.below hb HX.out.lt)
          clear hb HR1
          go_wp2_with ((with_reducible refine isNew ?_); refine wpList_store_new 37 _ _ rfl rfl 37 _ (d.read s.i) rfl rfl (by rw [HSec.out.size]; exact info37) (zeros_size _ HSec.out) HSec.out.one ?_; intro w3 hx hbx; have HBw3 := Lib.hid (HB2.out.below hbx); have HLa := Lib.hid hx; have HX3 := Lib.hid (HX2.out.below hbx HX2.out.lt); have cx : w3.cell? ⟨wr.heap.size, 1, none⟩ = some (.int .i64 s.i) := HX3.out.cell rfl; clear hx hbx)
          have HR2 := Lib.hid (rv_read HBw3.out.rv (by omega) s.i)
          refine HR2.out.mono ?_
          rintro e w4 ⟨rfl, hb⟩
          have HB4 := Lib.hid (HBw3.out.below hb)
          have HLa4 := Lib.hid (HLa.out.below hb HLa.out.lt)
          clear hb HR2 cx
          have hq := eq37 (d.read s.i) HSec.out
          go_wp2_with (first | ((with_reducible refine isNew ?_); refine wpList_store_new 37 _ _ rfl rfl 37 _ (d.read s.i) rfl rfl (by rw [HSec.out.size]; exact info37) (zeros_size _ HSec.out) HSec.out.one ?_; intro w5 hx hbx; have HBw5 := Lib.hid (HB4.out.below hbx); have HLb := Lib.hid hx; have HLa5 := Lib.hid (HLa4.out.below hbx HLa4.out.lt); clear hx hbx) | ((with_reducible refine isLoad ?_); refine wpList_load_g 37 _ rfl (w2.heap.size) 0 rfl rfl (d.read s.i) _ Try.underlying37 rfl (by rw [HSec.out.size]; exact info37) (HLa5.out.cells _ rfl) ?_) | ((with_reducible refine isLoad ?_); refine wpList_load_g 37 _ rfl (w4.heap.size) 0 rfl rfl (d.read s.i) _ Try.underlying37 rfl (by rw [HSec.out.size]; exact info37) (HLb.out.cells _ rfl) ?_))
          clear hq
          have HBd : Hid (d.T ≤ d.T + 1 ∧ d.L.length ≤ d.L.length + 1) := Lib.hid ⟨Nat.le_succ _, Nat.le_succ _⟩
          obtain ⟨sq, la, lc, hfl⟩ := HBw5.out.rv.fields
          have HFl := Lib.hid hfl
          clear hfl
          go_wp2_with fail
          have HQ : Hid (Both w w5.drew b F q G (d) (d) ∧ Blk w5.drew q [.slice (some ⟨sq, 0, none⟩) (d).S.length (d).S.length, .slice la (d).L.length lc, .int .i64 (d).F, .int .i64 (d).T]) := Lib.hid ⟨HBw5.out.drew, HFl.out.drew⟩
          refine startH (fun wq => (Both w wq b F q G (d) (d) ∧ Blk wq q [.slice (some ⟨sq, 0, none⟩) (d).S.length (d).S.length, .slice la (d).L.length lc, .int .i64 (d).F, .int .i64 (d).T])) (by kernel_rfl) ?_
          refine takeH 0 (some 139) (.pointer (some ⟨b, 0, none⟩)) rfl rfl (by kernel_rfl) (by kernel_rfl) (by kernel_rfl) (fun _ _ _ h => h) rfl (fun w _ => by go_simp) HQ.out ?_
          simp only [Act.put, List.setIfInBounds_toArray, List.set_cons_succ, List.set_cons_zero]
          refine takeH 2 (some 141) (.pointer (some ⟨q, 0, none⟩)) rfl rfl (by kernel_rfl) (by kernel_rfl) (by kernel_rfl) (fun _ _ _ h => h) rfl (fun w _ => by go_simp) HQ.out ?_
          simp only [Act.put, List.setIfInBounds_toArray, List.set_cons_succ, List.set_cons_zero]
          refine takeH 3 (some 142) (.pointer (some ⟨q, 0, none⟩)) rfl rfl (by kernel_rfl) (by kernel_rfl) (by kernel_rfl) (fun _ _ _ h => h) rfl (fun w _ => by go_simp) HQ.out ?_
          simp only [Act.put, List.setIfInBounds_toArray, List.set_cons_succ, List.set_cons_zero]
          refine takeH 4 (some 143) (.pointer (some ⟨q, 1, none⟩)) rfl rfl (by kernel_rfl) (by kernel_rfl) (by kernel_rfl) (fun _ _ _ h => h) rfl (fun w _ => by go_simp) HQ.out ?_
          simp only [Act.put, List.setIfInBounds_toArray, List.set_cons_succ, List.set_cons_zero]
          refine takeH 5 (some 144) (.slice la (d).L.length lc) rfl rfl (by kernel_rfl) (by kernel_rfl) (by kernel_rfl) (fun _ _ _ h => h) rfl (fun w hS => exec_load1 _ _ _ 49 _ rfl ⟨q, 1, none⟩ rfl _ _ Try.underlying49 rfl (hS.2.cell rfl)) HQ.out ?_
          simp only [Act.put, List.setIfInBounds_toArray, List.set_cons_succ, List.set_cons_zero]
          refine takeH 6 (some 145) (.int .i64 ((d).L.length : Int)) rfl rfl (by kernel_rfl) (by kernel_rfl) (by kernel_rfl) (fun _ _ _ h => h) rfl (fun w _ => by go_simp) HQ.out ?_
          simp only [Act.put, List.setIfInBounds_toArray, List.set_cons_succ, List.set_cons_zero]
          refine oneH 1 (by kernel_rfl) rfl rfl fun K hK => ?_
          go_simp
          refine (dv_loose HQ.out.1.dv).mono ?_
          rintro e w' ⟨rfl, rfl⟩
          refine hK _ _ HQ.out ?_
          clear hK K
          refine takeH 7 (some 146) (.bool false) rfl rfl (by kernel_rfl) (by kernel_rfl) (by kernel_rfl) (fun _ _ _ h => h) rfl (fun w _ => by go_simp) HQ.out ?_
          simp only [Act.put, List.setIfInBounds_toArray, List.set_cons_succ, List.set_cons_zero]
          refine takeH 8 (some 147) (.bool false) rfl rfl (by kernel_rfl) (by kernel_rfl) (by kernel_rfl) (fun _ _ _ h => h) rfl (fun w _ => by go_simp) HQ.out ?_
          simp only [Act.put, List.setIfInBounds_toArray, List.set_cons_succ, List.set_cons_zero]
          refine takeH 9 (some 148) (.pointer (some ⟨b, 0, none⟩)) rfl rfl (by kernel_rfl) (by kernel_rfl) (by kernel_rfl) (fun _ _ _ h => h) rfl (fun w _ => by go_simp) HQ.out ?_
          simp only [Act.put, List.setIfInBounds_toArray, List.set_cons_succ, List.set_cons_zero]
          refine takeH 11 (some 150) (.pointer (some ⟨q, 0, none⟩)) rfl rfl (by kernel_rfl) (by kernel_rfl) (by kernel_rfl) (fun _ _ _ h => h) rfl (fun w _ => by go_simp) HQ.out ?_
          simp only [Act.put, List.setIfInBounds_toArray, List.set_cons_succ, List.set_cons_zero]
          refine takeH 12 (some 151) (.pointer (some ⟨q, 0, none⟩)) rfl rfl (by kernel_rfl) (by kernel_rfl) (by kernel_rfl) (fun _ _ _ h => h) rfl (fun w _ => by go_simp) HQ.out ?_
          simp only [Act.put, List.setIfInBounds_toArray, List.set_cons_succ, List.set_cons_zero]
          refine takeH 13 (some 152) (.pointer (some ⟨q, 0, none⟩)) rfl rfl (by kernel_rfl) (by kernel_rfl) (by kernel_rfl) (fun _ _ _ h => h) rfl (fun w _ => by go_simp) HQ.out ?_
          simp only [Act.put, List.setIfInBounds_toArray, List.set_cons_succ, List.set_cons_zero]
          refine takeH 14 (some 153) (.slice (some ⟨sq, 0, none⟩) (d).S.length (d).S.length) rfl rfl (by kernel_rfl) (by kernel_rfl) (by kernel_rfl) (fun _ _ _ h => h) rfl (fun w hS => exec_load1 _ _ _ 48 _ rfl ⟨q, 0, none⟩ rfl _ _ Try.underlying48 rfl (hS.2.cell rfl)) HQ.out ?_
          simp only [Act.put, List.setIfInBounds_toArray, List.set_cons_succ, List.set_cons_zero]
          refine takeH 15 (some 154) (.int .i64 ((d).S.length : Int)) rfl rfl (by kernel_rfl) (by kernel_rfl) (by kernel_rfl) (fun _ _ _ h => h) rfl (fun w _ => by go_simp) HQ.out ?_
          simp only [Act.put, List.setIfInBounds_toArray, List.set_cons_succ, List.set_cons_zero]
          refine oneH 10 (by kernel_rfl) rfl rfl fun K hK => ?_
          go_simp
          refine (dv_len HQ.out.1.dv).mono ?_
          rintro e w' ⟨rfl, rfl⟩
          refine hK _ _ HQ.out ?_
          clear hK K
          refine takeH 16 (some 155) (.bool false) rfl rfl (by kernel_rfl) (by kernel_rfl) (by kernel_rfl) (fun _ _ _ h => h) rfl (fun w _ => by go_simp) HQ.out ?_
          simp only [Act.put, List.setIfInBounds_toArray, List.set_cons_succ, List.set_cons_zero]
          refine takeH 17 (some 156) (.bool false) rfl rfl (by kernel_rfl) (by kernel_rfl) (by kernel_rfl) (fun _ _ _ h => h) rfl (fun w _ => by go_simp) HQ.out ?_
          simp only [Act.put, List.setIfInBounds_toArray, List.set_cons_succ, List.set_cons_zero]
          refine takeH 18 (some 157) (.bool false) rfl rfl (by kernel_rfl) (by kernel_rfl) (by kernel_rfl) (fun _ _ _ h => h) rfl (fun w _ => by go_simp) HQ.out ?_
          simp only [Act.put, List.setIfInBounds_toArray, List.set_cons_succ, List.set_cons_zero]
          refine takeH 19 (some 158) (.pointer (some ⟨b, 0, none⟩)) rfl rfl (by kernel_rfl) (by kernel_rfl) (by kernel_rfl) (fun _ _ _ h => h) rfl (fun w _ => by go_simp) HQ.out ?_
          simp only [Act.put, List.setIfInBounds_toArray, List.set_cons_succ, List.set_cons_zero]
          refine takeH 21 (some 160) (.pointer (some ⟨q, 0, none⟩)) rfl rfl (by kernel_rfl) (by kernel_rfl) (by kernel_rfl) (fun _ _ _ h => h) rfl (fun w _ => by go_simp) HQ.out ?_
          simp only [Act.put, List.setIfInBounds_toArray, List.set_cons_succ, List.set_cons_zero]
          refine takeH 22 (some 161) (.pointer (some ⟨q, 0, none⟩)) rfl rfl (by kernel_rfl) (by kernel_rfl) (by kernel_rfl) (fun _ _ _ h => h) rfl (fun w _ => by go_simp) HQ.out ?_
          simp only [Act.put, List.setIfInBounds_toArray, List.set_cons_succ, List.set_cons_zero]
          refine takeH 23 (some 162) (.pointer (some ⟨q, 3, none⟩)) rfl rfl (by kernel_rfl) (by kernel_rfl) (by kernel_rfl) (fun _ _ _ h => h) rfl (fun w _ => by go_simp) HQ.out ?_
          simp only [Act.put, List.setIfInBounds_toArray, List.set_cons_succ, List.set_cons_zero]
          refine takeH 24 (some 163) (.int .i64 ((d).T : Int)) rfl rfl (by kernel_rfl) (by kernel_rfl) (by kernel_rfl) (fun _ _ _ h => h) rfl (fun w hS => exec_load1 _ _ _ 3 _ rfl ⟨q, 3, none⟩ rfl _ _ Try.underlying3 rfl (hS.2.cell rfl)) HQ.out ?_
          simp only [Act.put, List.setIfInBounds_toArray, List.set_cons_succ, List.set_cons_zero]
          refine oneH 20 (by kernel_rfl) rfl rfl fun K hK => ?_
          go_simp
          refine (dv_done HQ.out.1.dv).mono ?_
          rintro e w' ⟨rfl, rfl⟩
          refine hK _ _ HQ.out ?_
          clear hK K
          refine takeH 25 (some 164) (.bool false) rfl rfl (by kernel_rfl) (by kernel_rfl) (by kernel_rfl) (fun _ _ _ h => h) rfl (fun w _ => by go_simp) HQ.out ?_
          simp only [Act.put, List.setIfInBounds_toArray, List.set_cons_succ, List.set_cons_zero]
          refine takeH 26 (some 165) (.bool false) rfl rfl (by kernel_rfl) (by kernel_rfl) (by kernel_rfl) (fun _ _ _ h => h) rfl (fun w _ => by go_simp) HQ.out ?_
          simp only [Act.put, List.setIfInBounds_toArray, List.set_cons_succ, List.set_cons_zero]
          refine wpAnyH_done (by kernel_rfl) ?_ _
          go_wp2_with fail
          go_roundg (l.length - (k + 1))
          case measure => omega
          case rel => exact ⟨k + 1, F, G, d, by omega, by omega, by go_num, HQ.out.1, by have := HBd.out.1; (try dsimp only at this ⊢); omega, by have := HBd.out.2; (try dsimp only at this ⊢); omega⟩
        have e1 : (s.kind == 1) = false := beq_eq_false_iff_ne.2 k1
        by_cases k2 : s.kind = 2
        · have e2 : (s.kind == 2) = true := beq_iff_eq.2 k2
          clear k2 k0 k1
          have hbA : Below wr.heap.size wr (wr.alloc (Obj.cells #[Value.int .i64 s.kind, Value.int .i64 s.i, Value.int .u8 s.v, Value.slice ka s.keep.length kc] 34)) := (Below.refl _ _).alloc (Nat.le_refl _) _
          have hxA : Blk (wr.alloc (Obj.cells #[Value.int .i64 s.kind, Value.int .i64 s.i, Value.int .u8 s.v, Value.slice ka s.keep.length kc] 34)) wr.heap.size [Value.int .i64 s.kind, Value.int .i64 s.i, Value.int .u8 s.v, Value.slice ka s.keep.length kc] := Blk.newAt _ _ _ rfl rfl
          go_wp2_with fail
          clear c0 c1 c2 c3
          generalize wr.alloc (Obj.cells #[Value.int .i64 s.kind, Value.int .i64 s.i, Value.int .u8 s.v, Value.slice ka s.keep.length kc] 34) = wA at *
          have HBA := Lib.hid (HB.out.below hbA)
          have HNX : Hid (¬ F wr.heap.size ∧ ¬ G wr.heap.size) := Lib.hid ⟨fun h => Nat.lt_irrefl _ (HB.out.dv.lt _ h).2, fun h => Nat.lt_irrefl _ (HB.out.rv.lt _ h).2⟩
          have HX := Lib.hid hxA
          have HBel := Lib.hid hbA
          clear hbA hxA
          have HF1 := Lib.hid (dv_flush HBA.out.dv (by omega) (by omega))
          refine HF1.out.mono ?_
          rintro e w3 ⟨F3, rfl, hd, ho, hn⟩
          have HB3 := Lib.hid (HBA.out.dev hd ho hn)
          clear hd ho hn HF1
          go_wp2_with fail
          have HF2 := Lib.hid (rv_flush HB3.out.rv (by omega) (by omega))
          refine HF2.out.mono ?_
          rintro e w5 ⟨G5, rfl, hd, ho, hn⟩
          have HB5 := Lib.hid (HB3.out.ref hd ho hn)
          clear hd ho hn HF2
          have HBd := Lib.hid (flush_bound d)
          obtain ⟨sq, la, lc, hfl⟩ := HB5.out.rv.fields
          have HFl := Lib.hid hfl
          clear hfl
          go_wp2_with fail
          have HQ : Hid (Both w w5.drew b F3 q G5 (d.flush) (d.flush) ∧ Blk w5.drew q [.slice (some ⟨sq, 0, none⟩) (d.flush).S.length (d.flush).S.length, .slice la (d.flush).L.length lc, .int .i64 (d.flush).F, .int .i64 (d.flush).T]) := Lib.hid ⟨HB5.out.drew, HFl.out.drew⟩
          refine startH (fun wq => (Both w wq b F3 q G5 (d.flush) (d.flush) ∧ Blk wq q [.slice (some ⟨sq, 0, none⟩) (d.flush).S.length (d.flush).S.length, .slice la (d.flush).L.length lc, .int .i64 (d.flush).F, .int .i64 (d.flush).T])) (by kernel_rfl) ?_
          refine takeH 0 (some 139) (.pointer (some ⟨b, 0, none⟩)) rfl rfl (by kernel_rfl) (by kernel_rfl) (by kernel_rfl) (fun _ _ _ h => h) rfl (fun w _ => by go_simp) HQ.out ?_
          simp only [Act.put, List.setIfInBounds_toArray, List.set_cons_succ, List.set_cons_zero]
          refine takeH 2 (some 141) (.pointer (some ⟨q, 0, none⟩)) rfl rfl (by kernel_rfl) (by kernel_rfl) (by kernel_rfl) (fun _ _ _ h => h) rfl (fun w _ => by go_simp) HQ.out ?_
          simp only [Act.put, List.setIfInBounds_toArray, List.set_cons_succ, List.set_cons_zero]
          refine takeH 3 (some 142) (.pointer (some ⟨q, 0, none⟩)) rfl rfl (by kernel_rfl) (by kernel_rfl) (by kernel_rfl) (fun _ _ _ h => h) rfl (fun w _ => by go_simp) HQ.out ?_
          simp only [Act.put, List.setIfInBounds_toArray, List.set_cons_succ, List.set_cons_zero]
          refine takeH 4 (some 143) (.pointer (some ⟨q, 1, none⟩)) rfl rfl (by kernel_rfl) (by kernel_rfl) (by kernel_rfl) (fun _ _ _ h => h) rfl (fun w _ => by go_simp) HQ.out ?_
          simp only [Act.put, List.setIfInBounds_toArray, List.set_cons_succ, List.set_cons_zero]
          refine takeH 5 (some 144) (.slice la (d.flush).L.length lc) rfl rfl (by kernel_rfl) (by kernel_rfl) (by kernel_rfl) (fun _ _ _ h => h) rfl (fun w hS => exec_load1 _ _ _ 49 _ rfl ⟨q, 1, none⟩ rfl _ _ Try.underlying49 rfl (hS.2.cell rfl)) HQ.out ?_
          simp only [Act.put, List.setIfInBounds_toArray, List.set_cons_succ, List.set_cons_zero]
          refine takeH 6 (some 145) (.int .i64 ((d.flush).L.length : Int)) rfl rfl (by kernel_rfl) (by kernel_rfl) (by kernel_rfl) (fun _ _ _ h => h) rfl (fun w _ => by go_simp) HQ.out ?_
          simp only [Act.put, List.setIfInBounds_toArray, List.set_cons_succ, List.set_cons_zero]
          refine oneH 1 (by kernel_rfl) rfl rfl fun K hK => ?_
          go_simp
          refine (dv_loose HQ.out.1.dv).mono ?_
          rintro e w' ⟨rfl, rfl⟩
          refine hK _ _ HQ.out ?_
          clear hK K
          refine takeH 7 (some 146) (.bool false) rfl rfl (by kernel_rfl) (by kernel_rfl) (by kernel_rfl) (fun _ _ _ h => h) rfl (fun w _ => by go_simp) HQ.out ?_
          simp only [Act.put, List.setIfInBounds_toArray, List.set_cons_succ, List.set_cons_zero]
          refine takeH 8 (some 147) (.bool false) rfl rfl (by kernel_rfl) (by kernel_rfl) (by kernel_rfl) (fun _ _ _ h => h) rfl (fun w _ => by go_simp) HQ.out ?_
          simp only [Act.put, List.setIfInBounds_toArray, List.set_cons_succ, List.set_cons_zero]
          refine takeH 9 (some 148) (.pointer (some ⟨b, 0, none⟩)) rfl rfl (by kernel_rfl) (by kernel_rfl) (by kernel_rfl) (fun _ _ _ h => h) rfl (fun w _ => by go_simp) HQ.out ?_
          simp only [Act.put, List.setIfInBounds_toArray, List.set_cons_succ, List.set_cons_zero]
          refine takeH 11 (some 150) (.pointer (some ⟨q, 0, none⟩)) rfl rfl (by kernel_rfl) (by kernel_rfl) (by kernel_rfl) (fun _ _ _ h => h) rfl (fun w _ => by go_simp) HQ.out ?_
          simp only [Act.put, List.setIfInBounds_toArray, List.set_cons_succ, List.set_cons_zero]
          refine takeH 12 (some 151) (.pointer (some ⟨q, 0, none⟩)) rfl rfl (by kernel_rfl) (by kernel_rfl) (by kernel_rfl) (fun _ _ _ h => h) rfl (fun w _ => by go_simp) HQ.out ?_
          simp only [Act.put, List.setIfInBounds_toArray, List.set_cons_succ, List.set_cons_zero]
          refine takeH 13 (some 152) (.pointer (some ⟨q, 0, none⟩)) rfl rfl (by kernel_rfl) (by kernel_rfl) (by kernel_rfl) (fun _ _ _ h => h) rfl (fun w _ => by go_simp) HQ.out ?_
          simp only [Act.put, List.setIfInBounds_toArray, List.set_cons_succ, List.set_cons_zero]
          refine takeH 14 (some 153) (.slice (some ⟨sq, 0, none⟩) (d.flush).S.length (d.flush).S.length) rfl rfl (by kernel_rfl) (by kernel_rfl) (by kernel_rfl) (fun _ _ _ h => h) rfl (fun w hS => exec_load1 _ _ _ 48 _ rfl ⟨q, 0, none⟩ rfl _ _ Try.underlying48 rfl (hS.2.cell rfl)) HQ.out ?_
          simp only [Act.put, List.setIfInBounds_toArray, List.set_cons_succ, List.set_cons_zero]
          refine takeH 15 (some 154) (.int .i64 ((d.flush).S.length : Int)) rfl rfl (by kernel_rfl) (by kernel_rfl) (by kernel_rfl) (fun _ _ _ h => h) rfl (fun w _ => by go_simp) HQ.out ?_
          simp only [Act.put, List.setIfInBounds_toArray, List.set_cons_succ, List.set_cons_zero]
          refine oneH 10 (by kernel_rfl) rfl rfl fun K hK => ?_
          go_simp
          refine (dv_len HQ.out.1.dv).mono ?_
          rintro e w' ⟨rfl, rfl⟩
          refine hK _ _ HQ.out ?_
          clear hK K
          refine takeH 16 (some 155) (.bool false) rfl rfl (by kernel_rfl) (by kernel_rfl) (by kernel_rfl) (fun _ _ _ h => h) rfl (fun w _ => by go_simp) HQ.out ?_
          simp only [Act.put, List.setIfInBounds_toArray, List.set_cons_succ, List.set_cons_zero]
          refine takeH 17 (some 156) (.bool false) rfl rfl (by kernel_rfl) (by kernel_rfl) (by kernel_rfl) (fun _ _ _ h => h) rfl (fun w _ => by go_simp) HQ.out ?_
          simp only [Act.put, List.setIfInBounds_toArray, List.set_cons_succ, List.set_cons_zero]
          refine takeH 18 (some 157) (.bool false) rfl rfl (by kernel_rfl) (by kernel_rfl) (by kernel_rfl) (fun _ _ _ h => h) rfl (fun w _ => by go_simp) HQ.out ?_
          simp only [Act.put, List.setIfInBounds_toArray, List.set_cons_succ, List.set_cons_zero]
          refine takeH 19 (some 158) (.pointer (some ⟨b, 0, none⟩)) rfl rfl (by kernel_rfl) (by kernel_rfl) (by kernel_rfl) (fun _ _ _ h => h) rfl (fun w _ => by go_simp) HQ.out ?_
          simp only [Act.put, List.setIfInBounds_toArray, List.set_cons_succ, List.set_cons_zero]
          refine takeH 21 (some 160) (.pointer (some ⟨q, 0, none⟩)) rfl rfl (by kernel_rfl) (by kernel_rfl) (by kernel_rfl) (fun _ _ _ h => h) rfl (fun w _ => by go_simp) HQ.out ?_
          simp only [Act.put, List.setIfInBounds_toArray, List.set_cons_succ, List.set_cons_zero]
          refine takeH 22 (some 161) (.pointer (some ⟨q, 0, none⟩)) rfl rfl (by kernel_rfl) (by kernel_rfl) (by kernel_rfl) (fun _ _ _ h => h) rfl (fun w _ => by go_simp) HQ.out ?_
          simp only [Act.put, List.setIfInBounds_toArray, List.set_cons_succ, List.set_cons_zero]
          refine takeH 23 (some 162) (.pointer (some ⟨q, 3, none⟩)) rfl rfl (by kernel_rfl) (by kernel_rfl) (by kernel_rfl) (fun _ _ _ h => h) rfl (fun w _ => by go_simp) HQ.out ?_
          simp only [Act.put, List.setIfInBounds_toArray, List.set_cons_succ, List.set_cons_zero]
          refine takeH 24 (some 163) (.int .i64 ((d.flush).T : Int)) rfl rfl (by kernel_rfl) (by kernel_rfl) (by kernel_rfl) (fun _ _ _ h => h) rfl (fun w hS => exec_load1 _ _ _ 3 _ rfl ⟨q, 3, none⟩ rfl _ _ Try.underlying3 rfl (hS.2.cell rfl)) HQ.out ?_
          simp only [Act.put, List.setIfInBounds_toArray, List.set_cons_succ, List.set_cons_zero]
          refine oneH 20 (by kernel_rfl) rfl rfl fun K hK => ?_
          go_simp
          refine (dv_done HQ.out.1.dv).mono ?_
          rintro e w' ⟨rfl, rfl⟩
          refine hK _ _ HQ.out ?_
          clear hK K
          refine takeH 25 (some 164) (.bool false) rfl rfl (by kernel_rfl) (by kernel_rfl) (by kernel_rfl) (fun _ _ _ h => h) rfl (fun w _ => by go_simp) HQ.out ?_
          simp only [Act.put, List.setIfInBounds_toArray, List.set_cons_succ, List.set_cons_zero]
          refine takeH 26 (some 165) (.bool false) rfl rfl (by kernel_rfl) (by kernel_rfl) (by kernel_rfl) (fun _ _ _ h => h) rfl (fun w _ => by go_simp) HQ.out ?_
          simp only [Act.put, List.setIfInBounds_toArray, List.set_cons_succ, List.set_cons_zero]
          refine wpAnyH_done (by kernel_rfl) ?_ _
          go_wp2_with fail
          go_roundg (l.length - (k + 1))
          case measure => omega
          case rel => exact ⟨k + 1, F3, G5, d.flush, by omega, by omega, by go_num, HQ.out.1, by have := HBd.out.1; (try dsimp only at this ⊢); omega, by have := HBd.out.2; (try dsimp only at this ⊢); omega⟩
        have e2 : (s.kind == 2) = false := beq_eq_false_iff_ne.2 k2
        by_cases k3 : s.kind = 3
        · have e3 : (s.kind == 3) = true := beq_iff_eq.2 k3
          clear k3 k0 k1 k2
          have hbA : Below wr.heap.size wr (wr.alloc (Obj.cells #[Value.int .i64 s.kind, Value.int .i64 s.i, Value.int .u8 s.v, Value.slice ka s.keep.length kc] 34)) := (Below.refl _ _).alloc (Nat.le_refl _) _
          have hxA : Blk (wr.alloc (Obj.cells #[Value.int .i64 s.kind, Value.int .i64 s.i, Value.int .u8 s.v, Value.slice ka s.keep.length kc] 34)) wr.heap.size [Value.int .i64 s.kind, Value.int .i64 s.i, Value.int .u8 s.v, Value.slice ka s.keep.length kc] := Blk.newAt _ _ _ rfl rfl
          have HPre := Lib.hid fun wq (hb : Below wr.heap.size wr wq) => HKb.out.below (HB.out.below hb).dv.2
          have HBel := Lib.hid hbA
          have HX := Lib.hid hxA
          have HNX : Hid (¬ F wr.heap.size ∧ ¬ G wr.heap.size) := Lib.hid ⟨fun h => Nat.lt_irrefl _ (HB.out.dv.lt _ h).2, fun h => Nat.lt_irrefl _ (HB.out.rv.lt _ h).2⟩
          clear hbA hxA
          go_wp2_with ((with_reducible refine isAppend ?_); refine wpList_copy_bytes _ _ rfl rfl ((wr.alloc (Obj.cells #[Value.int .i64 s.kind, Value.int .i64 s.i, Value.int .u8 s.v, Value.slice ka s.keep.length kc] 34)).heap.size) (by go_simp) (heap_alloc_new _ _) (.slice ka s.keep.length kc) s.keep rfl (HPre.out _ (HBel.out.trans ((Below.refl _ _).alloc (by simp) _))) hkl ?_; intro v2 w2 hcp; have HCp := Lib.hid hcp; clear hcp)
          clear c0 c1 c2 c3
          have hb2 : Below wr.heap.size wr w2 := (HBel.out.trans ((Below.refl _ _).alloc (by simp) _)).trans (HCp.out.below.mono (by simp))
          have HX2 : Hid (Blk w2 wr.heap.size [Value.int .i64 s.kind, Value.int .i64 s.i, Value.int .u8 s.v, Value.slice ka s.keep.length kc]) := Lib.hid ((HX.out.alloc _).below HCp.out.below (by simp))
          have HB2 := Lib.hid (HB.out.below hb2)
          have HCr := Lib.hid (dv_crash HB2.out.dv (by omega) v2 s.keep HCp.out.bytes (fun k hk hf => by have h1 := HCp.out.own k hk; have h2 := (HB.out.dv.lt _ hf).2; simp at h1; omega))
          clear hb2
          refine HCr.out.mono ?_
          rintro e w3 ⟨F3, rfl, hd, ho, hn⟩
          have HB3 := Lib.hid (HB2.out.dev hd ho hn)
          have HX3 := Lib.hid (HX2.out.only ho HNX.out.1)
          clear hd ho hn HCr
          have cx : w3.cell? ⟨wr.heap.size, 3, none⟩ = some (.slice ka s.keep.length kc) := HX3.out.cell rfl
          go_wp2_with fail
          have HCr2 := Lib.hid (rv_crash HB3.out.rv (by omega) (.slice ka s.keep.length kc) s.keep (HKb.out.below HB3.out.dv.2) (fun wq ho => HKb.out.below (HB3.out.dv.2.trans (ho.below HB3.out.dv.2.size fun k hk => (HB3.out.rv.lt k hk).1))))
          refine HCr2.out.mono ?_
          rintro e w5 ⟨G5, rfl, hd, ho, hn⟩
          have HB5 := Lib.hid (HB3.out.ref hd ho hn)
          clear hd ho hn HCr2 cx
          have HBd : Hid ((d.crash s.keep).T ≤ d.T + 1 ∧ (d.crash s.keep).L.length ≤ d.L.length + 1) := Lib.hid ⟨Nat.le_succ _, Nat.zero_le _⟩
          obtain ⟨sq, la, lc, hfl⟩ := HB5.out.rv.fields
          have HFl := Lib.hid hfl
          clear hfl
          go_wp2_with fail
          have HQ : Hid (Both w w5.drew b F3 q G5 (d.crash s.keep) (d.crash s.keep) ∧ Blk w5.drew q [.slice (some ⟨sq, 0, none⟩) (d.crash s.keep).S.length (d.crash s.keep).S.length, .slice la (d.crash s.keep).L.length lc, .int .i64 (d.crash s.keep).F, .int .i64 (d.crash s.keep).T]) := Lib.hid ⟨HB5.out.drew, HFl.out.drew⟩
          refine startH (fun wq => (Both w wq b F3 q G5 (d.crash s.keep) (d.crash s.keep) ∧ Blk wq q [.slice (some ⟨sq, 0, none⟩) (d.crash s.keep).S.length (d.crash s.keep).S.length, .slice la (d.crash s.keep).L.length lc, .int .i64 (d.crash s.keep).F, .int .i64 (d.crash s.keep).T])) (by kernel_rfl) ?_
          refine takeH 0 (some 139) (.pointer (some ⟨b, 0, none⟩)) rfl rfl (by kernel_rfl) (by kernel_rfl) (by kernel_rfl) (fun _ _ _ h => h) rfl (fun w _ => by go_simp) HQ.out ?_
          simp only [Act.put, List.setIfInBounds_toArray, List.set_cons_succ, List.set_cons_zero]
          refine takeH 2 (some 141) (.pointer (some ⟨q, 0, none⟩)) rfl rfl (by kernel_rfl) (by kernel_rfl) (by kernel_rfl) (fun _ _ _ h => h) rfl (fun w _ => by go_simp) HQ.out ?_
          simp only [Act.put, List.setIfInBounds_toArray, List.set_cons_succ, List.set_cons_zero]
          refine takeH 3 (some 142) (.pointer (some ⟨q, 0, none⟩)) rfl rfl (by kernel_rfl) (by kernel_rfl) (by kernel_rfl) (fun _ _ _ h => h) rfl (fun w _ => by go_simp) HQ.out ?_
          simp only [Act.put, List.setIfInBounds_toArray, List.set_cons_succ, List.set_cons_zero]
          refine takeH 4 (some 143) (.pointer (some ⟨q, 1, none⟩)) rfl rfl (by kernel_rfl) (by kernel_rfl) (by kernel_rfl) (fun _ _ _ h => h) rfl (fun w _ => by go_simp) HQ.out ?_
          simp only [Act.put, List.setIfInBounds_toArray, List.set_cons_succ, List.set_cons_zero]
          refine takeH 5 (some 144) (.slice la (d.crash s.keep).L.length lc) rfl rfl (by kernel_rfl) (by kernel_rfl) (by kernel_rfl) (fun _ _ _ h => h) rfl (fun w hS => exec_load1 _ _ _ 49 _ rfl ⟨q, 1, none⟩ rfl _ _ Try.underlying49 rfl (hS.2.cell rfl)) HQ.out ?_
          simp only [Act.put, List.setIfInBounds_toArray, List.set_cons_succ, List.set_cons_zero]
          refine takeH 6 (some 145) (.int .i64 ((d.crash s.keep).L.length : Int)) rfl rfl (by kernel_rfl) (by kernel_rfl) (by kernel_rfl) (fun _ _ _ h => h) rfl (fun w _ => by go_simp) HQ.out ?_
          simp only [Act.put, List.setIfInBounds_toArray, List.set_cons_succ, List.set_cons_zero]
          refine oneH 1 (by kernel_rfl) rfl rfl fun K hK => ?_
          go_simp
          refine (dv_loose HQ.out.1.dv).mono ?_
          rintro e w' ⟨rfl, rfl⟩
          refine hK _ _ HQ.out ?_
          clear hK K
          refine takeH 7 (some 146) (.bool false) rfl rfl (by kernel_rfl) (by kernel_rfl) (by kernel_rfl) (fun _ _ _ h => h) rfl (fun w _ => by go_simp) HQ.out ?_
          simp only [Act.put, List.setIfInBounds_toArray, List.set_cons_succ, List.set_cons_zero]
          refine takeH 8 (some 147) (.bool false) rfl rfl (by kernel_rfl) (by kernel_rfl) (by kernel_rfl) (fun _ _ _ h => h) rfl (fun w _ => by go_simp) HQ.out ?_
          simp only [Act.put, List.setIfInBounds_toArray, List.set_cons_succ, List.set_cons_zero]
          refine takeH 9 (some 148) (.pointer (some ⟨b, 0, none⟩)) rfl rfl (by kernel_rfl) (by kernel_rfl) (by kernel_rfl) (fun _ _ _ h => h) rfl (fun w _ => by go_simp) HQ.out ?_
          simp only [Act.put, List.setIfInBounds_toArray, List.set_cons_succ, List.set_cons_zero]
          refine takeH 11 (some 150) (.pointer (some ⟨q, 0, none⟩)) rfl rfl (by kernel_rfl) (by kernel_rfl) (by kernel_rfl) (fun _ _ _ h => h) rfl (fun w _ => by go_simp) HQ.out ?_
          simp only [Act.put, List.setIfInBounds_toArray, List.set_cons_succ, List.set_cons_zero]
          refine takeH 12 (some 151) (.pointer (some ⟨q, 0, none⟩)) rfl rfl (by kernel_rfl) (by kernel_rfl) (by kernel_rfl) (fun _ _ _ h => h) rfl (fun w _ => by go_simp) HQ.out ?_
          simp only [Act.put, List.setIfInBounds_toArray, List.set_cons_succ, List.set_cons_zero]
          refine takeH 13 (some 152) (.pointer (some ⟨q, 0, none⟩)) rfl rfl (by kernel_rfl) (by kernel_rfl) (by kernel_rfl) (fun _ _ _ h => h) rfl (fun w _ => by go_simp) HQ.out ?_
          simp only [Act.put, List.setIfInBounds_toArray, List.set_cons_succ, List.set_cons_zero]
          refine takeH 14 (some 153) (.slice (some ⟨sq, 0, none⟩) (d.crash s.keep).S.length (d.crash s.keep).S.length) rfl rfl (by kernel_rfl) (by kernel_rfl) (by kernel_rfl) (fun _ _ _ h => h) rfl (fun w hS => exec_load1 _ _ _ 48 _ rfl ⟨q, 0, none⟩ rfl _ _ Try.underlying48 rfl (hS.2.cell rfl)) HQ.out ?_
          simp only [Act.put, List.setIfInBounds_toArray, List.set_cons_succ, List.set_cons_zero]
          refine takeH 15 (some 154) (.int .i64 ((d.crash s.keep).S.length : Int)) rfl rfl (by kernel_rfl) (by kernel_rfl) (by kernel_rfl) (fun _ _ _ h => h) rfl (fun w _ => by go_simp) HQ.out ?_
          simp only [Act.put, List.setIfInBounds_toArray, List.set_cons_succ, List.set_cons_zero]
          refine oneH 10 (by kernel_rfl) rfl rfl fun K hK => ?_
          go_simp
          refine (dv_len HQ.out.1.dv).mono ?_
          rintro e w' ⟨rfl, rfl⟩
          refine hK _ _ HQ.out ?_
          clear hK K
          refine takeH 16 (some 155) (.bool false) rfl rfl (by kernel_rfl) (by kernel_rfl) (by kernel_rfl) (fun _ _ _ h => h) rfl (fun w _ => by go_simp) HQ.out ?_
          simp only [Act.put, List.setIfInBounds_toArray, List.set_cons_succ, List.set_cons_zero]
          refine takeH 17 (some 156) (.bool false) rfl rfl (by kernel_rfl) (by kernel_rfl) (by kernel_rfl) (fun _ _ _ h => h) rfl (fun w _ => by go_simp) HQ.out ?_
          simp only [Act.put, List.setIfInBounds_toArray, List.set_cons_succ, List.set_cons_zero]
          refine takeH 18 (some 157) (.bool false) rfl rfl (by kernel_rfl) (by kernel_rfl) (by kernel_rfl) (fun _ _ _ h => h) rfl (fun w _ => by go_simp) HQ.out ?_
          simp only [Act.put, List.setIfInBounds_toArray, List.set_cons_succ, List.set_cons_zero]
          refine takeH 19 (some 158) (.pointer (some ⟨b, 0, none⟩)) rfl rfl (by kernel_rfl) (by kernel_rfl) (by kernel_rfl) (fun _ _ _ h => h) rfl (fun w _ => by go_simp) HQ.out ?_
          simp only [Act.put, List.setIfInBounds_toArray, List.set_cons_succ, List.set_cons_zero]
          refine takeH 21 (some 160) (.pointer (some ⟨q, 0, none⟩)) rfl rfl (by kernel_rfl) (by kernel_rfl) (by kernel_rfl) (fun _ _ _ h => h) rfl (fun w _ => by go_simp) HQ.out ?_
          simp only [Act.put, List.setIfInBounds_toArray, List.set_cons_succ, List.set_cons_zero]
          refine takeH 22 (some 161) (.pointer (some ⟨q, 0, none⟩)) rfl rfl (by kernel_rfl) (by kernel_rfl) (by kernel_rfl) (fun _ _ _ h => h) rfl (fun w _ => by go_simp) HQ.out ?_
          simp only [Act.put, List.setIfInBounds_toArray, List.set_cons_succ, List.set_cons_zero]
          refine takeH 23 (some 162) (.pointer (some ⟨q, 3, none⟩)) rfl rfl (by kernel_rfl) (by kernel_rfl) (by kernel_rfl) (fun _ _ _ h => h) rfl (fun w _ => by go_simp) HQ.out ?_
          simp only [Act.put, List.setIfInBounds_toArray, List.set_cons_succ, List.set_cons_zero]
          refine takeH 24 (some 163) (.int .i64 ((d.crash s.keep).T : Int)) rfl rfl (by kernel_rfl) (by kernel_rfl) (by kernel_rfl) (fun _ _ _ h => h) rfl (fun w hS => exec_load1 _ _ _ 3 _ rfl ⟨q, 3, none⟩ rfl _ _ Try.underlying3 rfl (hS.2.cell rfl)) HQ.out ?_
          simp only [Act.put, List.setIfInBounds_toArray, List.set_cons_succ, List.set_cons_zero]
          refine oneH 20 (by kernel_rfl) rfl rfl fun K hK => ?_
          go_simp
          refine (dv_done HQ.out.1.dv).mono ?_
          rintro e w' ⟨rfl, rfl⟩
          refine hK _ _ HQ.out ?_
          clear hK K
          refine takeH 25 (some 164) (.bool false) rfl rfl (by kernel_rfl) (by kernel_rfl) (by kernel_rfl) (fun _ _ _ h => h) rfl (fun w _ => by go_simp) HQ.out ?_
          simp only [Act.put, List.setIfInBounds_toArray, List.set_cons_succ, List.set_cons_zero]
          refine takeH 26 (some 165) (.bool false) rfl rfl (by kernel_rfl) (by kernel_rfl) (by kernel_rfl) (fun _ _ _ h => h) rfl (fun w _ => by go_simp) HQ.out ?_
          simp only [Act.put, List.setIfInBounds_toArray, List.set_cons_succ, List.set_cons_zero]
          refine wpAnyH_done (by kernel_rfl) ?_ _
          go_wp2_with fail
          go_roundg (l.length - (k + 1))
          case measure => omega
          case rel => exact ⟨k + 1, F3, G5, d.crash s.keep, by omega, by omega, by go_num, HQ.out.1, by have := HBd.out.1; (try dsimp only at this ⊢); omega, by have := HBd.out.2; (try dsimp only at this ⊢); omega⟩
        have e3 : (s.kind == 3) = false := beq_eq_false_iff_ne.2 k3
        by_cases k4 : s.kind = 4
        · have e4 : (s.kind == 4) = true := beq_iff_eq.2 k4
          clear k4 k0 k1 k2 k3
          have hbA : Below wr.heap.size wr (wr.alloc (Obj.cells #[Value.int .i64 s.kind, Value.int .i64 s.i, Value.int .u8 s.v, Value.slice ka s.keep.length kc] 34)) := (Below.refl _ _).alloc (Nat.le_refl _) _
          have hxA : Blk (wr.alloc (Obj.cells #[Value.int .i64 s.kind, Value.int .i64 s.i, Value.int .u8 s.v, Value.slice ka s.keep.length kc] 34)) wr.heap.size [Value.int .i64 s.kind, Value.int .i64 s.i, Value.int .u8 s.v, Value.slice ka s.keep.length kc] := Blk.newAt _ _ _ rfl rfl
          go_wp2_with fail
          clear c0 c1 c2 c3
          generalize wr.alloc (Obj.cells #[Value.int .i64 s.kind, Value.int .i64 s.i, Value.int .u8 s.v, Value.slice ka s.keep.length kc] 34) = wA at *
          have HBA := Lib.hid (HB.out.below hbA)
          have HNX : Hid (¬ F wr.heap.size ∧ ¬ G wr.heap.size) := Lib.hid ⟨fun h => Nat.lt_irrefl _ (HB.out.dv.lt _ h).2, fun h => Nat.lt_irrefl _ (HB.out.rv.lt _ h).2⟩
          have HX := Lib.hid hxA
          have HBel := Lib.hid hbA
          clear hbA hxA
          have HF1 := Lib.hid (dv_fail HBA.out.dv s.i HS.out.hi)
          refine HF1.out.mono ?_
          rintro e w3 ⟨F3, rfl, hd, ho, hn⟩
          have HB3 := Lib.hid (HBA.out.dev hd ho hn)
          have HX3 := Lib.hid (HX.out.only ho HNX.out.1)
          clear hd ho hn HF1
          have cx : w3.cell? ⟨wr.heap.size, 1, none⟩ = some (.int .i64 s.i) := HX3.out.cell rfl
          have hset := HB3.out.rv.setF s.i HS.out.hi
          obtain ⟨hr4, ho4, cF, fF⟩ := hset
          have HB5 := Lib.hid (HB3.out.ref hr4 ho4 (fun _ h => .inl h))
          clear hr4 ho4
          have HBd : Hid (({ d with F := s.i } : D).T ≤ d.T + 1 ∧ ({ d with F := s.i } : D).L.length ≤ d.L.length + 1) := Lib.hid ⟨Nat.le_succ _, Nat.le_succ _⟩
          obtain ⟨sq, la, lc, hfl⟩ := HB5.out.rv.fields
          have HFl := Lib.hid hfl
          clear hfl
          go_wp2_with fail
          have HQ : Hid (Both w (w3.setCell ⟨q, 2, none⟩ (.int .i64 s.i)).drew b F3 q G (({ d with F := s.i } : D)) (({ d with F := s.i } : D)) ∧ Blk (w3.setCell ⟨q, 2, none⟩ (.int .i64 s.i)).drew q [.slice (some ⟨sq, 0, none⟩) (({ d with F := s.i } : D)).S.length (({ d with F := s.i } : D)).S.length, .slice la (({ d with F := s.i } : D)).L.length lc, .int .i64 (({ d with F := s.i } : D)).F, .int .i64 (({ d with F := s.i } : D)).T]) := Lib.hid ⟨HB5.out.drew, HFl.out.drew⟩
          refine startH (fun wq => (Both w wq b F3 q G (({ d with F := s.i } : D)) (({ d with F := s.i } : D)) ∧ Blk wq q [.slice (some ⟨sq, 0, none⟩) (({ d with F := s.i } : D)).S.length (({ d with F := s.i } : D)).S.length, .slice la (({ d with F := s.i } : D)).L.length lc, .int .i64 (({ d with F := s.i } : D)).F, .int .i64 (({ d with F := s.i } : D)).T])) (by kernel_rfl) ?_
          refine takeH 0 (some 139) (.pointer (some ⟨b, 0, none⟩)) rfl rfl (by kernel_rfl) (by kernel_rfl) (by kernel_rfl) (fun _ _ _ h => h) rfl (fun w _ => by go_simp) HQ.out ?_
          simp only [Act.put, List.setIfInBounds_toArray, List.set_cons_succ, List.set_cons_zero]
          refine takeH 2 (some 141) (.pointer (some ⟨q, 0, none⟩)) rfl rfl (by kernel_rfl) (by kernel_rfl) (by kernel_rfl) (fun _ _ _ h => h) rfl (fun w _ => by go_simp) HQ.out ?_
          simp only [Act.put, List.setIfInBounds_toArray, List.set_cons_succ, List.set_cons_zero]
          refine takeH 3 (some 142) (.pointer (some ⟨q, 0, none⟩)) rfl rfl (by kernel_rfl) (by kernel_rfl) (by kernel_rfl) (fun _ _ _ h => h) rfl (fun w _ => by go_simp) HQ.out ?_
          simp only [Act.put, List.setIfInBounds_toArray, List.set_cons_succ, List.set_cons_zero]
          refine takeH 4 (some 143) (.pointer (some ⟨q, 1, none⟩)) rfl rfl (by kernel_rfl) (by kernel_rfl) (by kernel_rfl) (fun _ _ _ h => h) rfl (fun w _ => by go_simp) HQ.out ?_
          simp only [Act.put, List.setIfInBounds_toArray, List.set_cons_succ, List.set_cons_zero]
          refine takeH 5 (some 144) (.slice la (({ d with F := s.i } : D)).L.length lc) rfl rfl (by kernel_rfl) (by kernel_rfl) (by kernel_rfl) (fun _ _ _ h => h) rfl (fun w hS => exec_load1 _ _ _ 49 _ rfl ⟨q, 1, none⟩ rfl _ _ Try.underlying49 rfl (hS.2.cell rfl)) HQ.out ?_
          simp only [Act.put, List.setIfInBounds_toArray, List.set_cons_succ, List.set_cons_zero]
          refine takeH 6 (some 145) (.int .i64 ((({ d with F := s.i } : D)).L.length : Int)) rfl rfl (by kernel_rfl) (by kernel_rfl) (by kernel_rfl) (fun _ _ _ h => h) rfl (fun w _ => by go_simp) HQ.out ?_
          simp only [Act.put, List.setIfInBounds_toArray, List.set_cons_succ, List.set_cons_zero]
          refine oneH 1 (by kernel_rfl) rfl rfl fun K hK => ?_
          go_simp
          refine (dv_loose HQ.out.1.dv).mono ?_
          rintro e w' ⟨rfl, rfl⟩
          refine hK _ _ HQ.out ?_
          clear hK K
          refine takeH 7 (some 146) (.bool false) rfl rfl (by kernel_rfl) (by kernel_rfl) (by kernel_rfl) (fun _ _ _ h => h) rfl (fun w _ => by go_simp) HQ.out ?_
          simp only [Act.put, List.setIfInBounds_toArray, List.set_cons_succ, List.set_cons_zero]
          refine takeH 8 (some 147) (.bool false) rfl rfl (by kernel_rfl) (by kernel_rfl) (by kernel_rfl) (fun _ _ _ h => h) rfl (fun w _ => by go_simp) HQ.out ?_
          simp only [Act.put, List.setIfInBounds_toArray, List.set_cons_succ, List.set_cons_zero]
          refine takeH 9 (some 148) (.pointer (some ⟨b, 0, none⟩)) rfl rfl (by kernel_rfl) (by kernel_rfl) (by kernel_rfl) (fun _ _ _ h => h) rfl (fun w _ => by go_simp) HQ.out ?_
          simp only [Act.put, List.setIfInBounds_toArray, List.set_cons_succ, List.set_cons_zero]
          refine takeH 11 (some 150) (.pointer (some ⟨q, 0, none⟩)) rfl rfl (by kernel_rfl) (by kernel_rfl) (by kernel_rfl) (fun _ _ _ h => h) rfl (fun w _ => by go_simp) HQ.out ?_
          simp only [Act.put, List.setIfInBounds_toArray, List.set_cons_succ, List.set_cons_zero]
          refine takeH 12 (some 151) (.pointer (some ⟨q, 0, none⟩)) rfl rfl (by kernel_rfl) (by kernel_rfl) (by kernel_rfl) (fun _ _ _ h => h) rfl (fun w _ => by go_simp) HQ.out ?_
          simp only [Act.put, List.setIfInBounds_toArray, List.set_cons_succ, List.set_cons_zero]
          refine takeH 13 (some 152) (.pointer (some ⟨q, 0, none⟩)) rfl rfl (by kernel_rfl) (by kernel_rfl) (by kernel_rfl) (fun _ _ _ h => h) rfl (fun w _ => by go_simp) HQ.out ?_
          simp only [Act.put, List.setIfInBounds_toArray, List.set_cons_succ, List.set_cons_zero]
          refine takeH 14 (some 153) (.slice (some ⟨sq, 0, none⟩) (({ d with F := s.i } : D)).S.length (({ d with F := s.i } : D)).S.length) rfl rfl (by kernel_rfl) (by kernel_rfl) (by kernel_rfl) (fun _ _ _ h => h) rfl (fun w hS => exec_load1 _ _ _ 48 _ rfl ⟨q, 0, none⟩ rfl _ _ Try.underlying48 rfl (hS.2.cell rfl)) HQ.out ?_
          simp only [Act.put, List.setIfInBounds_toArray, List.set_cons_succ, List.set_cons_zero]
          refine takeH 15 (some 154) (.int .i64 ((({ d with F := s.i } : D)).S.length : Int)) rfl rfl (by kernel_rfl) (by kernel_rfl) (by kernel_rfl) (fun _ _ _ h => h) rfl (fun w _ => by go_simp) HQ.out ?_
          simp only [Act.put, List.setIfInBounds_toArray, List.set_cons_succ, List.set_cons_zero]
          refine oneH 10 (by kernel_rfl) rfl rfl fun K hK => ?_
          go_simp
          refine (dv_len HQ.out.1.dv).mono ?_
          rintro e w' ⟨rfl, rfl⟩
          refine hK _ _ HQ.out ?_
          clear hK K
          refine takeH 16 (some 155) (.bool false) rfl rfl (by kernel_rfl) (by kernel_rfl) (by kernel_rfl) (fun _ _ _ h => h) rfl (fun w _ => by go_simp) HQ.out ?_
          simp only [Act.put, List.setIfInBounds_toArray, List.set_cons_succ, List.set_cons_zero]
          refine takeH 17 (some 156) (.bool false) rfl rfl (by kernel_rfl) (by kernel_rfl) (by kernel_rfl) (fun _ _ _ h => h) rfl (fun w _ => by go_simp) HQ.out ?_
          simp only [Act.put, List.setIfInBounds_toArray, List.set_cons_succ, List.set_cons_zero]
          refine takeH 18 (some 157) (.bool false) rfl rfl (by kernel_rfl) (by kernel_rfl) (by kernel_rfl) (fun _ _ _ h => h) rfl (fun w _ => by go_simp) HQ.out ?_
          simp only [Act.put, List.setIfInBounds_toArray, List.set_cons_succ, List.set_cons_zero]
          refine takeH 19 (some 158) (.pointer (some ⟨b, 0, none⟩)) rfl rfl (by kernel_rfl) (by kernel_rfl) (by kernel_rfl) (fun _ _ _ h => h) rfl (fun w _ => by go_simp) HQ.out ?_
          simp only [Act.put, List.setIfInBounds_toArray, List.set_cons_succ, List.set_cons_zero]
          refine takeH 21 (some 160) (.pointer (some ⟨q, 0, none⟩)) rfl rfl (by kernel_rfl) (by kernel_rfl) (by kernel_rfl) (fun _ _ _ h => h) rfl (fun w _ => by go_simp) HQ.out ?_
          simp only [Act.put, List.setIfInBounds_toArray, List.set_cons_succ, List.set_cons_zero]
          refine takeH 22 (some 161) (.pointer (some ⟨q, 0, none⟩)) rfl rfl (by kernel_rfl) (by kernel_rfl) (by kernel_rfl) (fun _ _ _ h => h) rfl (fun w _ => by go_simp) HQ.out ?_
          simp only [Act.put, List.setIfInBounds_toArray, List.set_cons_succ, List.set_cons_zero]
          refine takeH 23 (some 162) (.pointer (some ⟨q, 3, none⟩)) rfl rfl (by kernel_rfl) (by kernel_rfl) (by kernel_rfl) (fun _ _ _ h => h) rfl (fun w _ => by go_simp) HQ.out ?_
          simp only [Act.put, List.setIfInBounds_toArray, List.set_cons_succ, List.set_cons_zero]
          refine takeH 24 (some 163) (.int .i64 ((({ d with F := s.i } : D)).T : Int)) rfl rfl (by kernel_rfl) (by kernel_rfl) (by kernel_rfl) (fun _ _ _ h => h) rfl (fun w hS => exec_load1 _ _ _ 3 _ rfl ⟨q, 3, none⟩ rfl _ _ Try.underlying3 rfl (hS.2.cell rfl)) HQ.out ?_
          simp only [Act.put, List.setIfInBounds_toArray, List.set_cons_succ, List.set_cons_zero]
          refine oneH 20 (by kernel_rfl) rfl rfl fun K hK => ?_
          go_simp
          refine (dv_done HQ.out.1.dv).mono ?_
          rintro e w' ⟨rfl, rfl⟩
          refine hK _ _ HQ.out ?_
          clear hK K
          refine takeH 25 (some 164) (.bool false) rfl rfl (by kernel_rfl) (by kernel_rfl) (by kernel_rfl) (fun _ _ _ h => h) rfl (fun w _ => by go_simp) HQ.out ?_
          simp only [Act.put, List.setIfInBounds_toArray, List.set_cons_succ, List.set_cons_zero]
          refine takeH 26 (some 165) (.bool false) rfl rfl (by kernel_rfl) (by kernel_rfl) (by kernel_rfl) (fun _ _ _ h => h) rfl (fun w _ => by go_simp) HQ.out ?_
          simp only [Act.put, List.setIfInBounds_toArray, List.set_cons_succ, List.set_cons_zero]
          refine wpAnyH_done (by kernel_rfl) ?_ _
          go_wp2_with fail
          go_roundg (l.length - (k + 1))
          case measure => omega
          case rel => exact ⟨k + 1, F3, G, ({ d with F := s.i } : D), by omega, by omega, by go_num, HQ.out.1, by have := HBd.out.1; (try dsimp only at this ⊢); omega, by have := HBd.out.2; (try dsimp only at this ⊢); omega⟩
        have e4 : (s.kind == 4) = false := beq_eq_false_iff_ne.2 k4
        clear k0 k1 k2 k3 k4
        have hbA : Below wr.heap.size wr (wr.alloc (Obj.cells #[Value.int .i64 s.kind, Value.int .i64 s.i, Value.int .u8 s.v, Value.slice ka s.keep.length kc] 34)) := (Below.refl _ _).alloc (Nat.le_refl _) _
        have hxA : Blk (wr.alloc (Obj.cells #[Value.int .i64 s.kind, Value.int .i64 s.i, Value.int .u8 s.v, Value.slice ka s.keep.length kc] 34)) wr.heap.size [Value.int .i64 s.kind, Value.int .i64 s.i, Value.int .u8 s.v, Value.slice ka s.keep.length kc] := Blk.newAt _ _ _ rfl rfl
        go_wp2_with fail
        clear c0 c1 c2 c3
        generalize wr.alloc (Obj.cells #[Value.int .i64 s.kind, Value.int .i64 s.i, Value.int .u8 s.v, Value.slice ka s.keep.length kc] 34) = wA at *
        have HBA := Lib.hid (HB.out.below hbA)
        have HNX : Hid (¬ F wr.heap.size ∧ ¬ G wr.heap.size) := Lib.hid ⟨fun h => Nat.lt_irrefl _ (HB.out.dv.lt _ h).2, fun h => Nat.lt_irrefl _ (HB.out.rv.lt _ h).2⟩
        have HX := Lib.hid hxA
        have HBel := Lib.hid hbA
        clear hbA hxA
        have HBd : Hid (d.T ≤ d.T + 1 ∧ d.L.length ≤ d.L.length + 1) := Lib.hid ⟨Nat.le_succ _, Nat.le_succ _⟩
        obtain ⟨sq, la, lc, hfl⟩ := HBA.out.rv.fields
        have HFl := Lib.hid hfl
        clear hfl
        go_wp2_with fail
        have HQ : Hid (Both w wA.drew b F q G (d) (d) ∧ Blk wA.drew q [.slice (some ⟨sq, 0, none⟩) (d).S.length (d).S.length, .slice la (d).L.length lc, .int .i64 (d).F, .int .i64 (d).T]) := Lib.hid ⟨HBA.out.drew, HFl.out.drew⟩
        refine startH (fun wq => (Both w wq b F q G (d) (d) ∧ Blk wq q [.slice (some ⟨sq, 0, none⟩) (d).S.length (d).S.length, .slice la (d).L.length lc, .int .i64 (d).F, .int .i64 (d).T])) (by kernel_rfl) ?_
        refine takeH 0 (some 139) (.pointer (some ⟨b, 0, none⟩)) rfl rfl (by kernel_rfl) (by kernel_rfl) (by kernel_rfl) (fun _ _ _ h => h) rfl (fun w _ => by go_simp) HQ.out ?_
        simp only [Act.put, List.setIfInBounds_toArray, List.set_cons_succ, List.set_cons_zero]
        refine takeH 2 (some 141) (.pointer (some ⟨q, 0, none⟩)) rfl rfl (by kernel_rfl) (by kernel_rfl) (by kernel_rfl) (fun _ _ _ h => h) rfl (fun w _ => by go_simp) HQ.out ?_
        simp only [Act.put, List.setIfInBounds_toArray, List.set_cons_succ, List.set_cons_zero]
        refine takeH 3 (some 142) (.pointer (some ⟨q, 0, none⟩)) rfl rfl (by kernel_rfl) (by kernel_rfl) (by kernel_rfl) (fun _ _ _ h => h) rfl (fun w _ => by go_simp) HQ.out ?_
        simp only [Act.put, List.setIfInBounds_toArray, List.set_cons_succ, List.set_cons_zero]
        refine takeH 4 (some 143) (.pointer (some ⟨q, 1, none⟩)) rfl rfl (by kernel_rfl) (by kernel_rfl) (by kernel_rfl) (fun _ _ _ h => h) rfl (fun w _ => by go_simp) HQ.out ?_
        simp only [Act.put, List.setIfInBounds_toArray, List.set_cons_succ, List.set_cons_zero]
        refine takeH 5 (some 144) (.slice la (d).L.length lc) rfl rfl (by kernel_rfl) (by kernel_rfl) (by kernel_rfl) (fun _ _ _ h => h) rfl (fun w hS => exec_load1 _ _ _ 49 _ rfl ⟨q, 1, none⟩ rfl _ _ Try.underlying49 rfl (hS.2.cell rfl)) HQ.out ?_
        simp only [Act.put, List.setIfInBounds_toArray, List.set_cons_succ, List.set_cons_zero]
        refine takeH 6 (some 145) (.int .i64 ((d).L.length : Int)) rfl rfl (by kernel_rfl) (by kernel_rfl) (by kernel_rfl) (fun _ _ _ h => h) rfl (fun w _ => by go_simp) HQ.out ?_
        simp only [Act.put, List.setIfInBounds_toArray, List.set_cons_succ, List.set_cons_zero]
        refine oneH 1 (by kernel_rfl) rfl rfl fun K hK => ?_
        go_simp
        refine (dv_loose HQ.out.1.dv).mono ?_
        rintro e w' ⟨rfl, rfl⟩
        refine hK _ _ HQ.out ?_
        clear hK K
        refine takeH 7 (some 146) (.bool false) rfl rfl (by kernel_rfl) (by kernel_rfl) (by kernel_rfl) (fun _ _ _ h => h) rfl (fun w _ => by go_simp) HQ.out ?_
        simp only [Act.put, List.setIfInBounds_toArray, List.set_cons_succ, List.set_cons_zero]
        refine takeH 8 (some 147) (.bool false) rfl rfl (by kernel_rfl) (by kernel_rfl) (by kernel_rfl) (fun _ _ _ h => h) rfl (fun w _ => by go_simp) HQ.out ?_
        simp only [Act.put, List.setIfInBounds_toArray, List.set_cons_succ, List.set_cons_zero]
        refine takeH 9 (some 148) (.pointer (some ⟨b, 0, none⟩)) rfl rfl (by kernel_rfl) (by kernel_rfl) (by kernel_rfl) (fun _ _ _ h => h) rfl (fun w _ => by go_simp) HQ.out ?_
        simp only [Act.put, List.setIfInBounds_toArray, List.set_cons_succ, List.set_cons_zero]
        refine takeH 11 (some 150) (.pointer (some ⟨q, 0, none⟩)) rfl rfl (by kernel_rfl) (by kernel_rfl) (by kernel_rfl) (fun _ _ _ h => h) rfl (fun w _ => by go_simp) HQ.out ?_
        simp only [Act.put, List.setIfInBounds_toArray, List.set_cons_succ, List.set_cons_zero]
        refine takeH 12 (some 151) (.pointer (some ⟨q, 0, none⟩)) rfl rfl (by kernel_rfl) (by kernel_rfl) (by kernel_rfl) (fun _ _ _ h => h) rfl (fun w _ => by go_simp) HQ.out ?_
        simp only [Act.put, List.setIfInBounds_toArray, List.set_cons_succ, List.set_cons_zero]
        refine takeH 13 (some 152) (.pointer (some ⟨q, 0, none⟩)) rfl rfl (by kernel_rfl) (by kernel_rfl) (by kernel_rfl) (fun _ _ _ h => h) rfl (fun w _ => by go_simp) HQ.out ?_
        simp only [Act.put, List.setIfInBounds_toArray, List.set_cons_succ, List.set_cons_zero]
        refine takeH 14 (some 153) (.slice (some ⟨sq, 0, none⟩) (d).S.length (d).S.length) rfl rfl (by kernel_rfl) (by kernel_rfl) (by kernel_rfl) (fun _ _ _ h => h) rfl (fun w hS => exec_load1 _ _ _ 48 _ rfl ⟨q, 0, none⟩ rfl _ _ Try.underlying48 rfl (hS.2.cell rfl)) HQ.out ?_
        simp only [Act.put, List.setIfInBounds_toArray, List.set_cons_succ, List.set_cons_zero]
        refine takeH 15 (some 154) (.int .i64 ((d).S.length : Int)) rfl rfl (by kernel_rfl) (by kernel_rfl) (by kernel_rfl) (fun _ _ _ h => h) rfl (fun w _ => by go_simp) HQ.out ?_
        simp only [Act.put, List.setIfInBounds_toArray, List.set_cons_succ, List.set_cons_zero]
        refine oneH 10 (by kernel_rfl) rfl rfl fun K hK => ?_
        go_simp
        refine (dv_len HQ.out.1.dv).mono ?_
        rintro e w' ⟨rfl, rfl⟩
        refine hK _ _ HQ.out ?_
        clear hK K
        refine takeH 16 (some 155) (.bool false) rfl rfl (by kernel_rfl) (by kernel_rfl) (by kernel_rfl) (fun _ _ _ h => h) rfl (fun w _ => by go_simp) HQ.out ?_
        simp only [Act.put, List.setIfInBounds_toArray, List.set_cons_succ, List.set_cons_zero]
        refine takeH 17 (some 156) (.bool false) rfl rfl (by kernel_rfl) (by kernel_rfl) (by kernel_rfl) (fun _ _ _ h => h) rfl (fun w _ => by go_simp) HQ.out ?_
        simp only [Act.put, List.setIfInBounds_toArray, List.set_cons_succ, List.set_cons_zero]
        refine takeH 18 (some 157) (.bool false) rfl rfl (by kernel_rfl) (by kernel_rfl) (by kernel_rfl) (fun _ _ _ h => h) rfl (fun w _ => by go_simp) HQ.out ?_
        simp only [Act.put, List.setIfInBounds_toArray, List.set_cons_succ, List.set_cons_zero]
        refine takeH 19 (some 158) (.pointer (some ⟨b, 0, none⟩)) rfl rfl (by kernel_rfl) (by kernel_rfl) (by kernel_rfl) (fun _ _ _ h => h) rfl (fun w _ => by go_simp) HQ.out ?_
        simp only [Act.put, List.setIfInBounds_toArray, List.set_cons_succ, List.set_cons_zero]
        refine takeH 21 (some 160) (.pointer (some ⟨q, 0, none⟩)) rfl rfl (by kernel_rfl) (by kernel_rfl) (by kernel_rfl) (fun _ _ _ h => h) rfl (fun w _ => by go_simp) HQ.out ?_
        simp only [Act.put, List.setIfInBounds_toArray, List.set_cons_succ, List.set_cons_zero]
        refine takeH 22 (some 161) (.pointer (some ⟨q, 0, none⟩)) rfl rfl (by kernel_rfl) (by kernel_rfl) (by kernel_rfl) (fun _ _ _ h => h) rfl (fun w _ => by go_simp) HQ.out ?_
        simp only [Act.put, List.setIfInBounds_toArray, List.set_cons_succ, List.set_cons_zero]
        refine takeH 23 (some 162) (.pointer (some ⟨q, 3, none⟩)) rfl rfl (by kernel_rfl) (by kernel_rfl) (by kernel_rfl) (fun _ _ _ h => h) rfl (fun w _ => by go_simp) HQ.out ?_
        simp only [Act.put, List.setIfInBounds_toArray, List.set_cons_succ, List.set_cons_zero]
        refine takeH 24 (some 163) (.int .i64 ((d).T : Int)) rfl rfl (by kernel_rfl) (by kernel_rfl) (by kernel_rfl) (fun _ _ _ h => h) rfl (fun w hS => exec_load1 _ _ _ 3 _ rfl ⟨q, 3, none⟩ rfl _ _ Try.underlying3 rfl (hS.2.cell rfl)) HQ.out ?_
        simp only [Act.put, List.setIfInBounds_toArray, List.set_cons_succ, List.set_cons_zero]
        refine oneH 20 (by kernel_rfl) rfl rfl fun K hK => ?_
        go_simp
        refine (dv_done HQ.out.1.dv).mono ?_
        rintro e w' ⟨rfl, rfl⟩
        refine hK _ _ HQ.out ?_
        clear hK K
        refine takeH 25 (some 164) (.bool false) rfl rfl (by kernel_rfl) (by kernel_rfl) (by kernel_rfl) (fun _ _ _ h => h) rfl (fun w _ => by go_simp) HQ.out ?_
        simp only [Act.put, List.setIfInBounds_toArray, List.set_cons_succ, List.set_cons_zero]
        refine takeH 26 (some 165) (.bool false) rfl rfl (by kernel_rfl) (by kernel_rfl) (by kernel_rfl) (fun _ _ _ h => h) rfl (fun w _ => by go_simp) HQ.out ?_
        simp only [Act.put, List.setIfInBounds_toArray, List.set_cons_succ, List.set_cons_zero]
        refine wpAnyH_done (by kernel_rfl) ?_ _
        go_wp2_with fail
        go_roundg (l.length - (k + 1))
        case measure => omega
        case rel => exact ⟨k + 1, F, G, d, by omega, by omega, by go_num, HQ.out.1, by have := HBd.out.1; (try dsimp only at this ⊢); omega, by have := HBd.out.2; (try dsimp only at this ⊢); omega⟩
      · have hkl : k = l.length := by omega
        subst hkl
        clear hlt
        go_wp2_with fail
        obtain ⟨N, hN⟩ : ∃ N, N = d.S.length := ⟨_, rfl⟩
        have HN := Lib.hid hN
        clear hN
        go_loopg [15] N (fun g i wr => ∃ (k : Nat), N - k ≤ g ∧ k ≤ N ∧ i = .int .i64 k ∧ Both w wr b F q G d d)
        case atStart => exact ⟨0, by omega, by omega, rfl, HB.out⟩
        case round =>
          obtain ⟨kk, hg2, hk2, rfl, hb2⟩ := hrel
          obtain ⟨sq, la, lc, hfl⟩ := hb2.rv.fields
          have hNb : N ≤ 1024 := by rw [HN.out]; obtain ⟨⟨_, _, _, hrr⟩, _⟩ := hb2.rv; exact hrr.len
          have c0 : wr.cell? ⟨q, 0, none⟩ = some (.slice (some ⟨sq, 0, none⟩) N N) := by rw [HN.out]; exact hfl.cell rfl
          have HBz := Lib.hid hb2
          clear hfl hb2
          by_cases hlt : kk < N
          · have hkk1 : (kk : Int) < (N : Int) := by omega
            have hre : d.readE (kk : Int) = 0 := by unfold D.readE; rw [has_nat (by rw [← HN.out]; exact hlt)]; rfl
            have HSec := Lib.hid (D.read_sec HBz.out.dv (kk : Int))
            have HR1 := Lib.hid (dv_read HBz.out.dv (by omega) (kk : Int))
            rw [hre] at HR1
            have HRe := Lib.hid hre
            clear hre
            go_wp2_with fail
            refine HR1.out.mono ?_
            rintro e w2 ⟨rfl, hb⟩
            have HB2 := Lib.hid (HBz.out.below hb)
            clear hb HR1 c0
            go_wp2_with ((with_reducible refine isNew ?_); refine wpList_store_new 37 _ _ rfl rfl 37 _ (d.read (kk : Int)) rfl rfl (by rw [HSec.out.size]; exact info37) (zeros_size _ HSec.out) HSec.out.one ?_; intro w3 hx hbx; have HBw3 := Lib.hid (HB2.out.below hbx); have HLa := Lib.hid hx; clear hx hbx)
            have HR2 := Lib.hid (rv_read HBw3.out.rv (by omega) (kk : Int))
            rw [HRe.out] at HR2
            refine HR2.out.mono ?_
            rintro e w4 ⟨rfl, hb⟩
            have HB4 := Lib.hid (HBw3.out.below hb)
            have HLa4 := Lib.hid (HLa.out.below hb HLa.out.lt)
            clear hb HR2
            have hq := eq37 (d.read (kk : Int)) HSec.out
            go_wp2_with (first | ((with_reducible refine isNew ?_); refine wpList_store_new 37 _ _ rfl rfl 37 _ (d.read (kk : Int)) rfl rfl (by rw [HSec.out.size]; exact info37) (zeros_size _ HSec.out) HSec.out.one ?_; intro w5 hx hbx; have HBw5 := Lib.hid (HB4.out.below hbx); have HLb := Lib.hid hx; have HLa5 := Lib.hid (HLa4.out.below hbx HLa4.out.lt); clear hx hbx) | ((with_reducible refine isLoad ?_); refine wpList_load_g 37 _ rfl (w2.heap.size) 0 rfl rfl (d.read (kk : Int)) _ Try.underlying37 rfl (by rw [HSec.out.size]; exact info37) (HLa5.out.cells _ rfl) ?_) | ((with_reducible refine isLoad ?_); refine wpList_load_g 37 _ rfl (w4.heap.size) 0 rfl rfl (d.read (kk : Int)) _ Try.underlying37 rfl (by rw [HSec.out.size]; exact info37) (HLb.out.cells _ rfl) ?_))
            go_roundg (N - (kk + 1))
            case measure => omega
            case rel => exact ⟨kk + 1, by omega, by omega, by go_num, HBw5.out⟩
          · have hkN : kk = N := by omega
            subst hkN
            clear hlt
            go_wp2_with fail
            refine (HW.out _).mono ?_
            rintro e w2 ⟨rfl, hb⟩
            have HB2 := Lib.hid (HBz.out.below hb).dv.2
            clear hb
            go_wp2_with fail
            go_ret
            exact ⟨rfl, HB2.out⟩
  · have hbad : n < 1 ∨ 1024 < n := by omega
    clear hgood
    have H0 := Lib.hid (new_no n hbad w)
    have H1 := Lib.hid (rnew_no n hbad w)
    have hm2 : n ≤ 60 ∨ 1024 < n := by omega
    clear hmid hbad
    rcases hm2 with hm2 | hm2
    all_goals
      try have hm3 : (60 : Int) < n := by omega
      go_wp2_with fail
      refine H0.out.mono ?_
      rintro e w' ⟨rfl, rfl⟩
      go_wp2_with fail
      refine H1.out.mono ?_
      rintro e w' ⟨rfl, rfl⟩
      go_wp2_with fail
      go_loopg [9] 1 (fun g i wr => i = .int .i64 0 ∧ w = wr ∧ 1 ≤ g)
      case atStart => exact ⟨rfl, rfl, Nat.le_refl _⟩
      case round =>
        obtain ⟨rfl, rfl, hg⟩ := hrel
        by_cases hl0 : 0 < l.length
        all_goals
          have hl1 : (0 : Int) < (l.length : Int) ∨ (l.length : Int) ≤ 0 := by omega
          clear hl1
          go_wp2_with fail
          go_loopg [15] 1 (fun g i wr => i = .int .i64 0 ∧ w = wr ∧ 1 ≤ g)
          case atStart => exact ⟨rfl, rfl, Nat.le_refl _⟩
          case round =>
            obtain ⟨rfl, rfl, hg2⟩ := hrel
            go_wp2_with fail
            refine (HW.out _).mono ?_
            rintro e w2 ⟨rfl, hb⟩
            have HB2 := Lib.hid hb
            clear hb
            go_wp2_with fail
            go_ret
            exact ⟨rfl, HB2.out⟩
end Go.Proofs.Ytdmjhpebpooiaaa
