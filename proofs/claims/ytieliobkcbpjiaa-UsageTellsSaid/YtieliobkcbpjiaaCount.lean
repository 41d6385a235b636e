/- usage.Count and the reference's Count: of each segment how many of the places lie in it. -/
import Derived.Test.YtieliobkcbpjiaaCore
namespace Go.Proofs.Ytieliobkcbpjiaa
set_option linter.unusedSimpArgs false
set_option linter.unusedVariables false
open Go.RowKit

theorem make24 (n : Nat) (hn : n ≤ 64) (w : World) : (Instr.makeSlice 24 (.int .i64 (n : Int)) (.int .i64 (n : Int))).run Try.prog w = .ok (.slice (some ⟨w.heap.size, 0, none⟩) n n) (w.alloc (.cells (i64s (nils n)).toArray 3)) := by
  obtain ⟨i, hi, hz, hs, hb⟩ := inf3
  have := run_makeSlice (P := Try.prog) w 24 3 i _ Try.underlying24 hi hz .i64 .i64 n n (by omega) (Int.le_refl _) (by rw [hs]; omega) (by rw [hb]; omega) (by omega)
  rw [hs] at this
  have e : madeCells #[.int .i64 0] n = (i64s (nils n)).toArray := by
    apply Array.ext_getElem?
    intro q
    by_cases hq : q < n
    · simp [madeCells, hq, nils, Nat.mod_one]
    · rw [Array.getElem?_eq_none (by rw [size_madeCells]; omega), Array.getElem?_eq_none (by simp [nils]; omega)]
  rw [← e]
  simpa [Value.cells] using this
theorem made_own (n : Nat) (hn : n ≤ 64) (w : World) : Own (w.alloc (.cells (i64s (nils n)).toArray 3)) w.heap.size (.slice (some ⟨w.heap.size, 0, none⟩) n n) (nils n) := by
  have h := Own.lit w w.heap.size (Nat.le_refl _) (nils n) (by simp [nils]; omega) _ rfl
  rwa [show (nils n).length = n by simp [nils]] at h
theorem GAt.drew {w : World} {b : Nat} {g : Gm} (h : GAt w b g) : GAt w.drew b g := ⟨h.p, h.s, h.l, h.f⟩
theorem alloc_below (w : World) (o : Obj) : Below w.heap.size w (w.alloc o) := (Below.refl _ _).alloc (Nat.le_refl _) _

theorem count_no (g : Gm) (h : ¬ g.Ok) (l : List Int) (sv : Value) (w : World) : Calls Try.prog 8 #[g.v, sv] w fun e w' => ∃ rv, e = .returned rv ∧ Own w' w.heap.size rv (cts g l) ∧ Below w.heap.size w w' := by
  have H := Lib.hid fun w => good_no g h w
  have HC := Lib.hid (cts_no h l)
  clear h
  go_enter Try.func8, Try.ntmps8
  go_wp2_with fail
  refine (H.out _).mono ?_
  rintro e w1 ⟨rfl, hb⟩
  have HB := Lib.hid (box_call hb)
  clear hb
  go_wp2_with fail
  go_ret
  exact ⟨_, rfl, by rw [HC.out]; exact Own.nil _ _, HB.out.1⟩
theorem rcount_no (g : Gm) (h : ¬ g.Ok) (l : List Int) (sv : Value) (w : World) : Calls Try.prog 9 #[g.v, sv] w fun e w' => ∃ rv, e = .returned rv ∧ Own w' w.heap.size rv (cts g l) ∧ Below w.heap.size w w' := by
  have H := Lib.hid fun w => rgood_no g h w
  have HC := Lib.hid (cts_no h l)
  clear h
  go_enter Try.func9, Try.ntmps9
  go_wp2_with fail
  refine (H.out _).mono ?_
  rintro e w1 ⟨rfl, hb⟩
  have HB := Lib.hid (box_call hb)
  clear hb
  go_wp2_with fail
  go_ret
  exact ⟨_, rfl, by rw [HC.out]; exact Own.nil _ _, HB.out.1⟩
set_option maxRecDepth 100000 in
theorem count_yes (g : Gm) (h : g.Ok) (l : List Int) (hn : l.length ≤ 1000) (sv : Value) (w : World) (hs : IntsAt w sv l) :
    Calls Try.prog 8 #[g.v, sv] w fun e w' => ∃ rv, e = .returned rv ∧ Own w' w.heap.size rv (cts g l) ∧ Below w.heap.size w w' := by
  rw [cts_yes h]
  obtain ⟨a, cap, rfl, hc⟩ := hs
  have H := Lib.hid fun w => good_yes g h w
  have HL := Lib.hid hc
  have HS := Lib.hid fun n (hn : g.In n) => h.seg hn
  obtain ⟨n, hsegs⟩ : ∃ n, g.segs = n := ⟨_, rfl⟩
  have HN : Hid (g.segs = n) := hsegs
  obtain ⟨hg, hn6, hn16⟩ := h.segs
  rw [hsegs] at hg hn6 hn16
  have HG := Lib.hid hg
  have MK := fun w => make24 n (by omega) w
  have HI := Lib.hid fun n (hn : g.In n) W => of_in g h n hn W
  have HU := Lib.hid fun n (hn : ¬ g.In n) W => of_out g h n hn W
  clear h hc hg hsegs
  go_enter Try.func8, Try.ntmps8
  go_wp2_with fail
  refine (H.out _).mono ?_
  rintro e w1 ⟨rfl, hb⟩
  have HB := Lib.hid (box_call hb)
  clear hb
  have c1 := HB.out.2.1.s
  rw [HG.out] at c1
  go_wp2_with fail
  clear c1
  obtain ⟨r, hr⟩ : ∃ r, w1.heap.size = r := ⟨_, rfl⟩
  have HMO : Hid (Own (w1.alloc (.cells (i64s (nils n)).toArray 3)) r (.slice (some ⟨r, 0, none⟩) n n) (nils n)) := Lib.hid (by rw [← hr]; exact made_own n (by omega) w1)
  have HMB : Hid (Below r w1 (w1.alloc (.cells (i64s (nils n)).toArray 3))) := Lib.hid (by rw [← hr]; exact alloc_below w1 _)
  have HR := Lib.hid hr
  simp only [hr]
  clear hr
  go_loopg [19] l.length (fun q i wr => ∃ k : Nat, l.length - k ≤ q ∧ k ≤ l.length ∧ i = .int .i64 k ∧ Own wr r (.slice (some ⟨r, 0, none⟩) n n) (counts g (l.take k)) ∧ Below r w1 wr)
  case atStart => exact ⟨0, by omega, by omega, rfl, by rw [List.take_zero, counts_nil, HN.out]; exact HMO.out, HMB.out⟩
  case round =>
    clear HMO HMB
    obtain ⟨k, hq, hk, rfl, ho, hb⟩ := hrel
    have HO := Lib.hid ho
    have HW := Lib.hid hb
    have HX := Lib.hid (further HB.out (hb.mono (by rw [HR.out]; exact Nat.le_refl _)))
    clear ho hb
    by_cases hlt : k < l.length
    · have hk1 : (k : Int) < (l.length : Int) := by omega
      have hlk : l[k]? = some l[k] := by simp [hlt]
      obtain ⟨b, o, rfl, x1⟩ := HL.out k l[k] hlk
      have d1 := (HX.out.1.cell (block_lt_of_cell x1)).trans x1
      generalize l[k] = x at *
      have HLK := Lib.hid hlk
      clear x1 hlk
      obtain ⟨c0, c1, c2, c3⟩ := HX.out.2.1
      by_cases hx : g.In x
      · have H3 := Lib.hid (HI.out x hx)
        obtain ⟨u0, u1⟩ := HS.out x hx
        rw [u0] at H3
        have HC := Lib.hid (counts_yes HLK.out hx)
        have HA : Hid ((counts g (l.take k))[g.seg x]? = some (hits g (l.take k) (g.seg x) : Int)) := Lib.hid (counts_at u1)
        have hle := hits_le g (l.take k) (g.seg x)
        have hle2 : (l.take k).length ≤ 1000 := by simp; omega
        obtain ⟨u, hu⟩ : ∃ u, g.seg x = u := ⟨_, rfl⟩
        rw [hu] at H3 HC HA u1 hle
        obtain ⟨z, hz⟩ : ∃ z, hits g (l.take k) u = z := ⟨_, rfl⟩
        rw [hz] at HC HA hle
        rw [HN.out] at u1
        generalize (x - 4) % g.l = o2 at *
        clear u0 hu hz hx
        go_wp2_with fail
        refine (H3.out _).mono ?_
        rintro e w2 ⟨rfl, hb⟩
        have HO2 := Lib.hid (HO.out.below hb)
        have HW2 := Lib.hid (HW.out.trans (hb.mono (by rw [← HR.out]; exact HW.out.size)))
        clear hb
        obtain ⟨q0, q1⟩ := HO2.out.cell HA.out
        go_wp2_with fail
        go_roundg (l.length - (k + 1))
        case measure => omega
        case rel => exact ⟨k + 1, by omega, by omega, by go_num, by rw [HC.out]; exact HO2.out.set u _ (by rw [counts_length, HN.out]; exact u1), HW2.out.setCell (Nat.le_refl _) _⟩
      · have H3 := Lib.hid (HU.out x hx)
        have HC := Lib.hid (counts_no HLK.out hx)
        clear hx
        go_wp2_with fail
        refine (H3.out _).mono ?_
        rintro e w2 ⟨rfl, hb⟩
        have HO2 := Lib.hid (HO.out.below hb)
        have HW2 := Lib.hid (HW.out.trans (hb.mono (by rw [← HR.out]; exact HW.out.size)))
        clear hb
        go_wp2_with fail
        go_roundg (l.length - (k + 1))
        case measure => omega
        case rel => exact ⟨k + 1, by omega, by omega, by go_num, by rw [HC.out]; exact HO2.out, HW2.out⟩
    · obtain rfl : k = l.length := by omega
      have hk1 : ¬ (l.length : Int) < (l.length : Int) := by omega
      have HT : Hid (l.take l.length = l) := Lib.hid List.take_length
      rw [HT.out] at HO
      go_wp2_with fail
      go_ret
      exact ⟨_, rfl, HO.out.mono (by rw [← HR.out]; exact HB.out.1.size), HX.out.1⟩
theorem rwhere_yes (g : Gm) (h : g.Ok) (n : Int) (hn : g.In n) (w : World) : Calls Try.prog 14 #[g.v, .int .i64 n] w fun e w' => e = .returned (.agg #[.int .i64 (g.seg n), .int .i64 ((n - 4) % g.l), .bool true]) ∧ Below w.heap.size w w' := by
  have := rwhere_in g h n hn.1 (by have := hn.2; omega) w
  rwa [(h.seg hn).1] at this
theorem rwhere_not (g : Gm) (h : g.Ok) (n : Int) (hn : ¬ g.In n) (w : World) : Calls Try.prog 14 #[g.v, .int .i64 n] w fun e w' => e = .returned (.agg #[.int .i64 0, .int .i64 0, .bool false]) ∧ Below w.heap.size w w' := by
  unfold Gm.In at hn
  by_cases h4 : n < 4
  · exact rwhere_low g h n h4 w
  · exact rwhere_high g h n (by omega) (by omega) w
theorem zero33 : (Try.prog.info? 33).bind (·.zero) = some (.agg #[.int .i64 0, .int .i64 0, .bool false]) := by kernel_rfl
set_option maxRecDepth 100000 in
theorem rcount_yes (g : Gm) (h : g.Ok) (l : List Int) (hn : l.length ≤ 1000) (sv : Value) (w : World) (hs : IntsAt w sv l) :
    Calls Try.prog 9 #[g.v, sv] w fun e w' => ∃ rv, e = .returned rv ∧ Own w' w.heap.size rv (cts g l) ∧ Below w.heap.size w w' := by
  rw [cts_yes h]
  obtain ⟨a, cap, rfl, hc⟩ := hs
  have H := Lib.hid fun w => rgood_yes g h w
  have HL := Lib.hid hc
  have HS := Lib.hid fun n (hn : g.In n) => h.seg hn
  obtain ⟨n, hsegs⟩ : ∃ n, g.segs = n := ⟨_, rfl⟩
  have HN : Hid (g.segs = n) := hsegs
  obtain ⟨hg, hn6, hn16⟩ := h.segs
  rw [hsegs] at hg hn6 hn16
  have HG := Lib.hid hg
  have MK := fun w => make24 n (by omega) w
  have HI := Lib.hid fun n (hn : g.In n) W => rwhere_yes g h n hn W
  have HU := Lib.hid fun n (hn : ¬ g.In n) W => rwhere_not g h n hn W
  clear h hc hg hsegs
  go_enter Try.func9, Try.ntmps9
  go_wp2_with fail
  refine (H.out _).mono ?_
  rintro e w1 ⟨rfl, hb⟩
  have HB := Lib.hid (box_call hb)
  clear hb
  have c1 := HB.out.2.1.s
  rw [HG.out] at c1
  go_wp2_with fail
  clear c1
  obtain ⟨r, hr⟩ : ∃ r, w1.heap.size = r := ⟨_, rfl⟩
  have HMO : Hid (Own (w1.alloc (.cells (i64s (nils n)).toArray 3)) r (.slice (some ⟨r, 0, none⟩) n n) (nils n)) := Lib.hid (by rw [← hr]; exact made_own n (by omega) w1)
  have HMB : Hid (Below r w1 (w1.alloc (.cells (i64s (nils n)).toArray 3))) := Lib.hid (by rw [← hr]; exact alloc_below w1 _)
  have HR := Lib.hid hr
  simp only [hr]
  clear hr
  go_loopg [6] l.length (fun q i wr => ∃ k : Nat, l.length - k ≤ q ∧ k ≤ l.length ∧ i = .int .i64 k ∧ Own wr r (.slice (some ⟨r, 0, none⟩) n n) (counts g (l.take k)) ∧ Below r w1 wr)
  case atStart => exact ⟨0, by omega, by omega, rfl, by rw [List.take_zero, counts_nil, HN.out]; exact HMO.out, HMB.out⟩
  case round =>
    clear HMO HMB
    obtain ⟨k, hq, hk, rfl, ho, hb⟩ := hrel
    have HO := Lib.hid ho
    have HW := Lib.hid hb
    have HX := Lib.hid (further HB.out (hb.mono (by rw [HR.out]; exact Nat.le_refl _)))
    clear ho hb
    by_cases hlt : k < l.length
    · have hk1 : (k : Int) < (l.length : Int) := by omega
      have hlk : l[k]? = some l[k] := by simp [hlt]
      obtain ⟨b, o, rfl, x1⟩ := HL.out k l[k] hlk
      have d1 := (HX.out.1.cell (block_lt_of_cell x1)).trans x1
      generalize l[k] = x at *
      have HLK := Lib.hid hlk
      clear x1 hlk
      by_cases hx : g.In x
      · have HF := Lib.hid (HI.out x hx)
        obtain ⟨u0, u1⟩ := HS.out x hx
        have HC := Lib.hid (counts_yes HLK.out hx)
        have HA : Hid ((counts g (l.take k))[g.seg x]? = some (hits g (l.take k) (g.seg x) : Int)) := Lib.hid (counts_at u1)
        have hle := hits_le g (l.take k) (g.seg x)
        have hle2 : (l.take k).length ≤ 1000 := by simp; omega
        obtain ⟨u, hu⟩ : ∃ u, g.seg x = u := ⟨_, rfl⟩
        rw [hu] at HF HC HA u1 hle
        obtain ⟨z, hz⟩ : ∃ z, hits g (l.take k) u = z := ⟨_, rfl⟩
        rw [hz] at HC HA hle
        rw [HN.out] at u1
        generalize (x - 4) % g.l = o2 at *
        clear u0 hu hz hx
        go_upto_region 7 with fail
        go_cut [7] from 14 to 34 (fun s7 wx => ∃ c : Nat, s7 = .pointer (some ⟨c, 0, none⟩) ∧ Blk wx c [.int .i64 u, .int .i64 o2, .bool true] ∧ Below wr.heap.size wr wx ∧ wr.heap.size ≤ c)
        case first =>
          refine startH (fun wq => Below wr.heap.size wr wq) (by kernel_rfl) ?_
          refine takeH 0 (some 20) (g.v) rfl rfl (by kernel_rfl) (by kernel_rfl) (by kernel_rfl) (fun _ _ _ h => h) rfl (fun wq hS => by obtain ⟨c0, c1, c2, c3⟩ := HX.out.2.1.below hS HX.out.2.2; go_simp) (Below.refl _ _).drew ?_
          try simp only [Act.put, List.setIfInBounds_toArray, List.set_cons_succ, List.set_cons_zero]
          refine takeH 1 (some 21) (.slice (some ⟨b, o, none⟩) l.length cap) rfl rfl (by kernel_rfl) (by kernel_rfl) (by kernel_rfl) (fun _ _ _ h => h) rfl (fun wq hS => by go_simp) (Below.refl _ _).drew ?_
          try simp only [Act.put, List.setIfInBounds_toArray, List.set_cons_succ, List.set_cons_zero]
          refine takeH 2 (some 22) (.int .i64 k) rfl rfl (by kernel_rfl) (by kernel_rfl) (by kernel_rfl) (fun _ _ _ h => h) rfl (fun wq hS => by go_simp) (Below.refl _ _).drew ?_
          try simp only [Act.put, List.setIfInBounds_toArray, List.set_cons_succ, List.set_cons_zero]
          refine takeH 3 (some 23) (.pointer (some ⟨b, o + k, none⟩)) rfl rfl (by kernel_rfl) (by kernel_rfl) (by kernel_rfl) (fun _ _ _ h => h) rfl (fun wq hS => by go_simp) (Below.refl _ _).drew ?_
          try simp only [Act.put, List.setIfInBounds_toArray, List.set_cons_succ, List.set_cons_zero]
          refine takeH 4 (some 24) (.int .i64 x) rfl rfl (by kernel_rfl) (by kernel_rfl) (by kernel_rfl) (fun _ _ _ h => h) rfl (fun wq hS => by have d2 := (hS.cell (block_lt_of_cell d1)).trans d1; go_simp) (Below.refl _ _).drew ?_
          try simp only [Act.put, List.setIfInBounds_toArray, List.set_cons_succ, List.set_cons_zero]
          refine twoH 5 6 (by kernel_rfl) rfl rfl rfl rfl (fun K hK => ?_) (fun K hK => ?_)
          · go_simp
            refine (HF.out _).mono ?_
            rintro e w2 ⟨rfl, hb⟩
            have HQ := Lib.hid (stay (Below.refl wr.heap.size wr).drew hb)
            refine hK _ _ HQ.out ?_
            clear hK hb K
            try simp only [Act.put, List.setIfInBounds_toArray, List.set_cons_succ, List.set_cons_zero]
            refine oneH 6 (by kernel_rfl) rfl rfl fun K hK => ?_
            refine wp_runTo (some 7) rfl _ _ (exec_alloc _ _ _ 33 rfl _ zero33) ?_
            have HQ2 := Lib.hid (HQ.out.alloc HQ.out.size (.cells #[.int .i64 0, .int .i64 0, .bool false] 33))
            refine hK _ _ HQ2.out ?_
            clear hK K
            try simp only [Act.put, List.setIfInBounds_toArray, List.set_cons_succ, List.set_cons_zero]
            refine oneH 7 (by kernel_rfl) rfl rfl fun K hK => ?_
            have HQ3 := Lib.hid (HQ.out.alloc HQ.out.size (.cells #[.int .i64 u, .int .i64 o2, .bool true] 33))
            have HK3 : Hid (Blk (w2.alloc (.cells #[.int .i64 u, .int .i64 o2, .bool true] 33)) w2.heap.size [.int .i64 u, .int .i64 o2, .bool true]) := Lib.hid (Blk.new _ _ _)
            go_simp
            refine hK _ _ HQ3.out ?_
            clear hK K
            try simp only [Act.put, List.setIfInBounds_toArray, List.set_cons_succ, List.set_cons_zero]
            refine wpAnyH_done (by kernel_rfl) ?_ _
            go_wp2_with fail
            go_meet
            exact ⟨w2.heap.size, rfl, HK3.out, HQ3.out, HQ.out.size⟩
          · refine wp_runTo (some 7) rfl _ _ (exec_alloc _ _ _ 33 rfl _ zero33) ?_
            have HQ := Lib.hid ((Below.refl wr.heap.size wr).drew.alloc (Nat.le_refl wr.heap.size) (.cells #[.int .i64 0, .int .i64 0, .bool false] 33))
            have HK0 : Hid (Blk (wr.drew.alloc (.cells #[.int .i64 0, .int .i64 0, .bool false] 33)) wr.heap.size [.int .i64 0, .int .i64 0, .bool false]) := Lib.hid (Blk.new wr.drew _ _)
            refine hK _ _ HQ.out ?_
            clear hK K
            try simp only [Act.put, List.setIfInBounds_toArray, List.set_cons_succ, List.set_cons_zero]
            refine oneH 5 (by kernel_rfl) rfl rfl fun K hK => ?_
            go_simp
            refine (HF.out _).mono ?_
            rintro e w2 ⟨rfl, hb⟩
            have HQ2 := Lib.hid (stay HQ.out hb)
            have HK2 := Lib.hid (HK0.out.below hb HK0.out.lt)
            refine hK _ _ HQ2.out ?_
            clear hK hb K
            try simp only [Act.put, List.setIfInBounds_toArray, List.set_cons_succ, List.set_cons_zero]
            refine oneH 7 (by kernel_rfl) rfl rfl fun K hK => ?_
            have d0 := HK2.out.cell (i := 0) rfl
            have d1 := HK2.out.cell (i := 1) rfl
            have d2 := HK2.out.cell (i := 2) rfl
            have f0 := HK2.out.frozen 0
            have f1 := HK2.out.frozen 1
            have f2 := HK2.out.frozen 2
            have HQ3 : Hid (Below wr.heap.size wr (((w2.setCell ⟨wr.heap.size, 0, none⟩ (.int .i64 u)).setCell ⟨wr.heap.size, 1, none⟩ (.int .i64 o2)).setCell ⟨wr.heap.size, 2, none⟩ (.bool true))) := Lib.hid (((HQ2.out.setCell (Nat.le_refl _) _).setCell (Nat.le_refl _) _).setCell (Nat.le_refl _) _)
            have HK3 := Lib.hid (((HK2.out.set 0 (.int .i64 u)).set 1 (.int .i64 o2)).set 2 (.bool true))
            go_simp
            refine hK _ _ HQ3.out ?_
            clear hK K
            try simp only [Act.put, List.setIfInBounds_toArray, List.set_cons_succ, List.set_cons_zero]
            refine wpAnyH_done (by kernel_rfl) ?_ _
            go_wp2_with fail
            go_meet
            exact ⟨wr.heap.size, rfl, HK3.out, HQ3.out, Nat.le_refl _⟩
        case rest =>
          obtain ⟨c, rfl, hc, hb, hc2⟩ := hcut
          have HO2 := Lib.hid (HO.out.below hb)
          have HW2 := Lib.hid (HW.out.trans (hb.mono (by rw [← HR.out]; exact HW.out.size)))
          have p0 := hc.cell (i := 0) rfl
          have p2 := hc.cell (i := 2) rfl
          clear hb hc hc2
          obtain ⟨q0, q1⟩ := HO2.out.cell HA.out
          go_wp2_with fail
          go_roundg (l.length - (k + 1))
          case measure => omega
          case rel => exact ⟨k + 1, by omega, by omega, by go_num, by rw [HC.out]; exact HO2.out.set u _ (by rw [counts_length, HN.out]; exact u1), HW2.out.setCell (Nat.le_refl _) _⟩
      · have HF := Lib.hid (HU.out x hx)
        have HC := Lib.hid (counts_no HLK.out hx)
        clear hx
        go_upto_region 7 with fail
        go_cut [7] from 14 to 34 (fun s7 wx => ∃ c : Nat, s7 = .pointer (some ⟨c, 0, none⟩) ∧ Blk wx c [.int .i64 0, .int .i64 0, .bool false] ∧ Below wr.heap.size wr wx ∧ wr.heap.size ≤ c)
        case first =>
          refine startH (fun wq => Below wr.heap.size wr wq) (by kernel_rfl) ?_
          refine takeH 0 (some 20) (g.v) rfl rfl (by kernel_rfl) (by kernel_rfl) (by kernel_rfl) (fun _ _ _ h => h) rfl (fun wq hS => by obtain ⟨c0, c1, c2, c3⟩ := HX.out.2.1.below hS HX.out.2.2; go_simp) (Below.refl _ _).drew ?_
          try simp only [Act.put, List.setIfInBounds_toArray, List.set_cons_succ, List.set_cons_zero]
          refine takeH 1 (some 21) (.slice (some ⟨b, o, none⟩) l.length cap) rfl rfl (by kernel_rfl) (by kernel_rfl) (by kernel_rfl) (fun _ _ _ h => h) rfl (fun wq hS => by go_simp) (Below.refl _ _).drew ?_
          try simp only [Act.put, List.setIfInBounds_toArray, List.set_cons_succ, List.set_cons_zero]
          refine takeH 2 (some 22) (.int .i64 k) rfl rfl (by kernel_rfl) (by kernel_rfl) (by kernel_rfl) (fun _ _ _ h => h) rfl (fun wq hS => by go_simp) (Below.refl _ _).drew ?_
          try simp only [Act.put, List.setIfInBounds_toArray, List.set_cons_succ, List.set_cons_zero]
          refine takeH 3 (some 23) (.pointer (some ⟨b, o + k, none⟩)) rfl rfl (by kernel_rfl) (by kernel_rfl) (by kernel_rfl) (fun _ _ _ h => h) rfl (fun wq hS => by go_simp) (Below.refl _ _).drew ?_
          try simp only [Act.put, List.setIfInBounds_toArray, List.set_cons_succ, List.set_cons_zero]
          refine takeH 4 (some 24) (.int .i64 x) rfl rfl (by kernel_rfl) (by kernel_rfl) (by kernel_rfl) (fun _ _ _ h => h) rfl (fun wq hS => by have d2 := (hS.cell (block_lt_of_cell d1)).trans d1; go_simp) (Below.refl _ _).drew ?_
          try simp only [Act.put, List.setIfInBounds_toArray, List.set_cons_succ, List.set_cons_zero]
          refine twoH 5 6 (by kernel_rfl) rfl rfl rfl rfl (fun K hK => ?_) (fun K hK => ?_)
          · go_simp
            refine (HF.out _).mono ?_
            rintro e w2 ⟨rfl, hb⟩
            have HQ := Lib.hid (stay (Below.refl wr.heap.size wr).drew hb)
            refine hK _ _ HQ.out ?_
            clear hK hb K
            try simp only [Act.put, List.setIfInBounds_toArray, List.set_cons_succ, List.set_cons_zero]
            refine oneH 6 (by kernel_rfl) rfl rfl fun K hK => ?_
            refine wp_runTo (some 7) rfl _ _ (exec_alloc _ _ _ 33 rfl _ zero33) ?_
            have HQ2 := Lib.hid (HQ.out.alloc HQ.out.size (.cells #[.int .i64 0, .int .i64 0, .bool false] 33))
            refine hK _ _ HQ2.out ?_
            clear hK K
            try simp only [Act.put, List.setIfInBounds_toArray, List.set_cons_succ, List.set_cons_zero]
            refine oneH 7 (by kernel_rfl) rfl rfl fun K hK => ?_
            have HQ3 := Lib.hid (HQ.out.alloc HQ.out.size (.cells #[.int .i64 0, .int .i64 0, .bool false] 33))
            have HK3 : Hid (Blk (w2.alloc (.cells #[.int .i64 0, .int .i64 0, .bool false] 33)) w2.heap.size [.int .i64 0, .int .i64 0, .bool false]) := Lib.hid (Blk.new _ _ _)
            go_simp
            refine hK _ _ HQ3.out ?_
            clear hK K
            try simp only [Act.put, List.setIfInBounds_toArray, List.set_cons_succ, List.set_cons_zero]
            refine wpAnyH_done (by kernel_rfl) ?_ _
            go_wp2_with fail
            go_meet
            exact ⟨w2.heap.size, rfl, HK3.out, HQ3.out, HQ.out.size⟩
          · refine wp_runTo (some 7) rfl _ _ (exec_alloc _ _ _ 33 rfl _ zero33) ?_
            have HQ := Lib.hid ((Below.refl wr.heap.size wr).drew.alloc (Nat.le_refl wr.heap.size) (.cells #[.int .i64 0, .int .i64 0, .bool false] 33))
            have HK0 : Hid (Blk (wr.drew.alloc (.cells #[.int .i64 0, .int .i64 0, .bool false] 33)) wr.heap.size [.int .i64 0, .int .i64 0, .bool false]) := Lib.hid (Blk.new wr.drew _ _)
            refine hK _ _ HQ.out ?_
            clear hK K
            try simp only [Act.put, List.setIfInBounds_toArray, List.set_cons_succ, List.set_cons_zero]
            refine oneH 5 (by kernel_rfl) rfl rfl fun K hK => ?_
            go_simp
            refine (HF.out _).mono ?_
            rintro e w2 ⟨rfl, hb⟩
            have HQ2 := Lib.hid (stay HQ.out hb)
            have HK2 := Lib.hid (HK0.out.below hb HK0.out.lt)
            refine hK _ _ HQ2.out ?_
            clear hK hb K
            try simp only [Act.put, List.setIfInBounds_toArray, List.set_cons_succ, List.set_cons_zero]
            refine oneH 7 (by kernel_rfl) rfl rfl fun K hK => ?_
            have d0 := HK2.out.cell (i := 0) rfl
            have d1 := HK2.out.cell (i := 1) rfl
            have d2 := HK2.out.cell (i := 2) rfl
            have f0 := HK2.out.frozen 0
            have f1 := HK2.out.frozen 1
            have f2 := HK2.out.frozen 2
            have HQ3 : Hid (Below wr.heap.size wr (((w2.setCell ⟨wr.heap.size, 0, none⟩ (.int .i64 0)).setCell ⟨wr.heap.size, 1, none⟩ (.int .i64 0)).setCell ⟨wr.heap.size, 2, none⟩ (.bool false))) := Lib.hid (((HQ2.out.setCell (Nat.le_refl _) _).setCell (Nat.le_refl _) _).setCell (Nat.le_refl _) _)
            have HK3 := Lib.hid (((HK2.out.set 0 (.int .i64 0)).set 1 (.int .i64 0)).set 2 (.bool false))
            go_simp
            refine hK _ _ HQ3.out ?_
            clear hK K
            try simp only [Act.put, List.setIfInBounds_toArray, List.set_cons_succ, List.set_cons_zero]
            refine wpAnyH_done (by kernel_rfl) ?_ _
            go_wp2_with fail
            go_meet
            exact ⟨wr.heap.size, rfl, HK3.out, HQ3.out, Nat.le_refl _⟩
        case rest =>
          obtain ⟨c, rfl, hc, hb, hc2⟩ := hcut
          have HO2 := Lib.hid (HO.out.below hb)
          have HW2 := Lib.hid (HW.out.trans (hb.mono (by rw [← HR.out]; exact HW.out.size)))
          have p2 := hc.cell (i := 2) rfl
          clear hb hc hc2
          go_wp2_with fail
          go_roundg (l.length - (k + 1))
          case measure => omega
          case rel => exact ⟨k + 1, by omega, by omega, by go_num, by rw [HC.out]; exact HO2.out, HW2.out⟩
    · obtain rfl : k = l.length := by omega
      have hk1 : ¬ (l.length : Int) < (l.length : Int) := by omega
      have HT : Hid (l.take l.length = l) := Lib.hid List.take_length
      rw [HT.out] at HO
      go_wp2_with fail
      go_ret
      exact ⟨_, rfl, HO.out.mono (by rw [← HR.out]; exact HB.out.1.size), HX.out.1⟩
theorem count_any (g : Gm) (l : List Int) (hn : l.length ≤ 1000) (sv : Value) (w : World) (hs : IntsAt w sv l) :
    Calls Try.prog 8 #[g.v, sv] w fun e w' => ∃ rv, e = .returned rv ∧ Own w' w.heap.size rv (cts g l) ∧ Below w.heap.size w w' := by
  by_cases h : g.Ok
  · exact count_yes g h l hn sv w hs
  · exact count_no g h l sv w
theorem rcount_any (g : Gm) (l : List Int) (hn : l.length ≤ 1000) (sv : Value) (w : World) (hs : IntsAt w sv l) :
    Calls Try.prog 9 #[g.v, sv] w fun e w' => ∃ rv, e = .returned rv ∧ Own w' w.heap.size rv (cts g l) ∧ Below w.heap.size w w' := by
  by_cases h : g.Ok
  · exact rcount_yes g h l hn sv w hs
  · exact rcount_no g h l sv w
end Go.Proofs.Ytieliobkcbpjiaa
