/- UsageApart's walk. -/
import Derived.Test.YtieliobkcbpjiaaWakes
namespace Go.Proofs.Ytieliobkcbpjiaa
set_option linter.unusedSimpArgs false
set_option linter.unusedVariables false
open Go.RowKit

theorem IntsAt.cell {w : World} {a : Option Addr} {n cap : Nat} {l : List Int} (h : IntsAt w (.slice a n cap) l) : ∀ i x, l[i]? = some x → ∃ b o, a = some ⟨b, o, none⟩ ∧ w.cell? ⟨b, o + i, none⟩ = some (.int .i64 x) := by
  obtain ⟨a', cap', e, hc⟩ := h
  cases e
  exact hc
theorem IntsAt.form {w : World} {sv : Value} {l : List Int} (h : IntsAt w sv l) : ∃ a cap, sv = .slice a l.length cap := let ⟨a, cap, e, _⟩ := h; ⟨a, cap, e⟩
set_option maxRecDepth 100000 in
theorem apart_bad (g : Gm) (h : ¬ g.Ok) (l : List Int) (sv : Value) (y : Int) (w : World) (hs : IntsAt w sv l) : Calls Try.prog 4 #[g.v, sv, .int .u8 y] w fun e w' => e = .returned (.bool true) ∧ Below w.heap.size w w' := by
  have HK := Lib.hid wakes_any
  have H1 := Lib.hid fun W => rgood_no g h W
  have H2 := Lib.hid fun hn sv W hs => count_any g l hn sv W hs
  have HC := Lib.hid (cts_no h l)
  have HI := Lib.hid hs
  obtain ⟨a, cap, rfl⟩ := hs.form
  clear h hs
  by_cases hl : 300 < l.length
  · have d0 : decide (300 < (l.length : Int)) = true := decide_eq_true (by omega)
    clear H2
    generalize l.length = m at *
    go_enter Try.func4, Try.ntmps4
    go_wp2_with fail
    refine (H1.out _).mono ?_
    rintro e w1 ⟨rfl, hb⟩
    have HB := Lib.hid (box_call hb)
    clear hb
    go_wp2_with fail
    refine (HK.out _).mono ?_
    rintro e w2 ⟨rfl, hb⟩
    have HB2 := Lib.hid (further HB.out hb)
    clear hb
    go_wp2_with fail
    go_ret
    exact ⟨rfl, HB2.out.1⟩
  · have d0 : decide (300 < (l.length : Int)) = false := decide_eq_false (by omega)
    have H3 := Lib.hid (H2.out (by omega))
    clear H2
    generalize l.length = m at *
    go_enter Try.func4, Try.ntmps4
    go_wp2_with fail
    refine (H1.out _).mono ?_
    rintro e w1 ⟨rfl, hb⟩
    have HB := Lib.hid (box_call hb)
    have HI1 := Lib.hid (HI.out.below HB.out.1)
    obtain ⟨c0, c1, c2, c3⟩ := HB.out.2.1
    clear hb
    go_wp2_with fail
    refine (H3.out _ _ HI1.out).mono ?_
    rintro e w2 ⟨rv, rfl, ho, hb⟩
    have HB2 := Lib.hid (further HB.out hb)
    rw [HC.out] at ho
    obtain ⟨ra, rc, rfl⟩ := ho.ints.form
    clear hb ho c0 c1 c2 c3
    simp only [List.length_nil]
    go_wp2_with fail
    refine (HK.out _).mono ?_
    rintro e w3 ⟨rfl, hb⟩
    have HB3 := Lib.hid (further HB2.out hb)
    clear hb
    go_wp2_with fail
    go_ret
    exact ⟨rfl, HB3.out.1⟩
set_option maxRecDepth 100000 in
theorem apart_long (g : Gm) (h : g.Ok) (l : List Int) (hl : 300 < l.length) (sv : Value) (y : Int) (w : World) (hs : IntsAt w sv l) : Calls Try.prog 4 #[g.v, sv, .int .u8 y] w fun e w' => e = .returned (.bool true) ∧ Below w.heap.size w w' := by
  have HK := Lib.hid wakes_any
  have H1 := Lib.hid fun W => rgood_yes g h W
  obtain ⟨a, cap, rfl⟩ := hs.form
  have d0 : decide (300 < (l.length : Int)) = true := decide_eq_true (by omega)
  clear h hs
  generalize l.length = m at *
  go_enter Try.func4, Try.ntmps4
  go_wp2_with fail
  refine (H1.out _).mono ?_
  rintro e w1 ⟨rfl, hb⟩
  have HB := Lib.hid (box_call hb)
  clear hb
  go_wp2_with fail
  refine (HK.out _).mono ?_
  rintro e w2 ⟨rfl, hb⟩
  have HB2 := Lib.hid (further HB.out hb)
  clear hb
  go_wp2_with fail
  go_ret
  exact ⟨rfl, HB2.out.1⟩
set_option maxRecDepth 100000 in
set_option maxHeartbeats 1000000 in
theorem apart_yes (g : Gm) (h : g.Ok) (l : List Int) (hl : l.length ≤ 300) (sv : Value) (y : Int) (hy0 : 0 ≤ y) (hy1 : y < 256) (w : World) (hs : IntsAt w sv l) : Calls Try.prog 4 #[g.v, sv, .int .u8 y] w fun e w' => e = .returned (.bool true) ∧ Below w.heap.size w w' := by
  have HK := Lib.hid wakes_any
  have H1 := Lib.hid fun W => rgood_yes g h W
  have H2 := Lib.hid fun sv W hs => count_any g l (by omega) sv W hs
  have HSeg := Lib.hid fun n (hn : g.In n) => h.seg hn
  have HI := Lib.hid fun n (hn : g.In n) W => rwhere_yes g h n hn W
  have HU := Lib.hid fun n (hn : ¬ g.In n) W => rwhere_not g h n hn W
  have HTC := Lib.hid (tot_counts h l (by omega))
  have HPF := Lib.hid fun hd n x (hn : n ∈ l) (hi : g.In n) hx => place_not_free h (l := l) (n := n) (x := x) hd hn hi hx
  rw [cts_yes h] at H2
  obtain ⟨n, hsegs⟩ : ∃ n, g.segs = n := ⟨_, rfl⟩
  obtain ⟨hg, hn6, hn16⟩ := h.segs
  rw [hsegs] at hg hn6 hn16
  have HG := Lib.hid hg
  obtain ⟨c, hc⟩ : ∃ c, counts g l = c := ⟨_, rfl⟩
  have hcl : c.length = n := by rw [← hc, counts_length, hsegs]
  rw [hc] at H2 HTC HPF
  have HCL := Lib.hid hcl
  have HV := Lib.hid hs
  obtain ⟨a, cap, rfl⟩ := hs.form
  have d0 : decide (300 < (l.length : Int)) = false := decide_eq_false (by omega)
  clear h hs hsegs hg hc hcl
  go_enter Try.func4, Try.ntmps4
  go_wp2_with fail
  refine (H1.out _).mono ?_
  rintro e w1 ⟨rfl, hb⟩
  have HB1 := Lib.hid (box_call hb)
  clear hb
  obtain ⟨c0, c1, c2, c3⟩ := HB1.out.2.1
  have HV1 := Lib.hid (HV.out.below HB1.out.1)
  have hn0 : g.s ≠ 0 := by have := HG.out; omega
  have hn1 : 0 < g.s := by have := HG.out; omega
  go_wp2_with fail
  refine (H2.out _ _ HV1.out).mono ?_
  rintro e w2 ⟨rv, rfl, ho, hb⟩
  have HB2 := Lib.hid (further HB1.out hb)
  have HV2 := Lib.hid (HV1.out.below hb)
  have HC2 := Lib.hid ho.ints
  obtain ⟨ca, cc, hrv⟩ := ho.ints.form
  rw [HCL.out] at hrv
  subst hrv
  clear hb ho HB1 HV1 c0 c1 c2 c3
  generalize y % g.s = hd at *
  have H3 := Lib.hid (free_any c (by rw [HCL.out]; omega) hd _ _ HC2.out)
  go_wp2_with fail
  refine H3.out.mono ?_
  rintro e w3 ⟨fv, rfl, ho, hb⟩
  have HB3 := Lib.hid (further HB2.out hb)
  have HV3 := Lib.hid (HV2.out.below hb)
  have HC3 := Lib.hid (HC2.out.below hb)
  have HF3 := Lib.hid ho.ints
  obtain ⟨fa, fc, hfv⟩ := ho.ints.form
  obtain ⟨m, hm⟩ : ∃ m, (frees c hd).length = m := ⟨_, rfl⟩
  rw [hm] at hfv
  subst hfv
  have HM := Lib.hid hm
  have hm16 : m ≤ n := by rw [← hm, ← HCL.out]; exact freesN_le c hd c.length
  clear hb ho HB2 HV2 HC2 H3 hm
  obtain ⟨c0, c1, c2, c3⟩ := HB3.out.2.1
  have e0 : ((n : Int) != g.s) = false := by simp [HG.out]
  go_wp2_with fail
  clear e0 c0 c1 c2 c3
  go_loopg [11, 10] l.length (fun q i s wr => ∃ k : Nat, l.length - k ≤ q ∧ k ≤ l.length ∧ i = .int .i64 k ∧ s = .int .i64 (ins g (l.take k) : Nat) ∧ Below w3.heap.size w3 wr)
  case atStart => exact ⟨0, by omega, by omega, rfl, rfl, Below.refl _ _⟩
  case round =>
    obtain ⟨k, hq, hk, rfl, rfl, hb⟩ := hrel
    have HW := Lib.hid hb
    have HX := Lib.hid (further HB3.out hb)
    have hin := ins_le g (l.take k)
    have hle2 : (l.take k).length ≤ 300 := by simp; omega
    clear hb
    by_cases hlt : k < l.length
    · have hk1 : (k : Int) < (l.length : Int) := by omega
      have hlk : l[k]? = some l[k] := by simp [hlt]
      obtain ⟨b, o, rfl, x1⟩ := HV3.out.cell k l[k] hlk
      have d1 := (HW.out.cell (block_lt_of_cell x1)).trans x1
      have HMem : Hid (l[k] ∈ l) := Lib.hid (List.getElem_mem hlt)
      generalize l[k] = x at *
      have HLK := Lib.hid hlk
      clear x1 hlk
      by_cases hx : g.In x
      · have HF := Lib.hid (HI.out x hx)
        have HINS := Lib.hid (ins_yes HLK.out hx)
        have HNF := Lib.hid fun v hv => HPF.out hd x v HMem.out hx hv
        obtain ⟨u, hu⟩ : ∃ u, g.seg x = u := ⟨_, rfl⟩
        rw [hu] at HF HNF
        obtain ⟨z, hz⟩ : ∃ z, ins g (l.take k) = z := ⟨_, rfl⟩
        rw [hz] at HINS hin
        rw [hz]
        generalize (x - 4) % g.l = o2 at *
        clear hu hz hx
        go_upto_region 12 with fail
        go_cut [12] from 57 to 86 (fun s7 wx => ∃ (c : Nat) (W : World), W = wx ∧ s7 = .pointer (some ⟨c, 0, none⟩) ∧ Blk wx c [.int .i64 u, .int .i64 o2, .bool true] ∧ Below wr.heap.size wr wx ∧ wr.heap.size ≤ c)
        case first =>
          refine startH (fun wq => Below wr.heap.size wr wq) (by kernel_rfl) ?_
          refine takeH 0 (some 63) (g.v) rfl rfl (by kernel_rfl) (by kernel_rfl) (by kernel_rfl) (fun _ _ _ h => h) rfl (fun wq hS => by obtain ⟨c0, c1, c2, c3⟩ := HX.out.2.1.below hS HX.out.2.2; go_simp) (Below.refl _ _).drew ?_
          try simp only [Act.put, List.setIfInBounds_toArray, List.set_cons_succ, List.set_cons_zero]
          refine takeH 1 (some 64) (.slice (some ⟨b, o, none⟩) l.length cap) rfl rfl (by kernel_rfl) (by kernel_rfl) (by kernel_rfl) (fun _ _ _ h => h) rfl (fun wq hS => by go_simp) (Below.refl _ _).drew ?_
          try simp only [Act.put, List.setIfInBounds_toArray, List.set_cons_succ, List.set_cons_zero]
          refine takeH 2 (some 65) (.int .i64 k) rfl rfl (by kernel_rfl) (by kernel_rfl) (by kernel_rfl) (fun _ _ _ h => h) rfl (fun wq hS => by go_simp) (Below.refl _ _).drew ?_
          try simp only [Act.put, List.setIfInBounds_toArray, List.set_cons_succ, List.set_cons_zero]
          refine takeH 3 (some 66) (.pointer (some ⟨b, o + k, none⟩)) rfl rfl (by kernel_rfl) (by kernel_rfl) (by kernel_rfl) (fun _ _ _ h => h) rfl (fun wq hS => by go_simp) (Below.refl _ _).drew ?_
          try simp only [Act.put, List.setIfInBounds_toArray, List.set_cons_succ, List.set_cons_zero]
          refine takeH 4 (some 67) (.int .i64 x) rfl rfl (by kernel_rfl) (by kernel_rfl) (by kernel_rfl) (fun _ _ _ h => h) rfl (fun wq hS => by have d2 := (hS.cell (block_lt_of_cell d1)).trans d1; go_simp) (Below.refl _ _).drew ?_
          try simp only [Act.put, List.setIfInBounds_toArray, List.set_cons_succ, List.set_cons_zero]
          refine twoH 5 6 (by kernel_rfl) rfl rfl rfl rfl (fun K hK => ?_) (fun K hK => ?_)
          · go_simp
            refine (HF.out _).mono ?_
            rintro e w2 ⟨rfl, hb⟩
            have HQ := Lib.hid (stay (Below.refl wr.heap.size wr).drew hb)
            refine hK _ _ HQ.out ?_
            clear hK hb K
            try simp only [Act.put, List.setIfInBounds_toArray, List.set_cons_succ, List.set_cons_zero]
            refine oneH 6 (by kernel_rfl) rfl rfl fun K hK => ?_
            refine wp_runTo (some 12) rfl _ _ (exec_alloc _ _ _ 33 rfl _ zero33) ?_
            have HQ2 := Lib.hid (HQ.out.alloc HQ.out.size (.cells #[.int .i64 0, .int .i64 0, .bool false] 33))
            refine hK _ _ HQ2.out ?_
            clear hK K
            try simp only [Act.put, List.setIfInBounds_toArray, List.set_cons_succ, List.set_cons_zero]
            refine oneH 7 (by kernel_rfl) rfl rfl fun K hK => ?_
            have HQ3 := Lib.hid (HQ.out.alloc HQ.out.size (.cells #[.int .i64 u, .int .i64 o2, .bool true] 33))
            have HK3 : Hid (Blk (w2.alloc (.cells #[.int .i64 u, .int .i64 o2, .bool true] 33)) w2.heap.size [.int .i64 u, .int .i64 o2, .bool true]) := Lib.hid (Blk.new _ _ _)
            go_simp
            refine hK _ _ HQ3.out ?_
            clear hK K
            try simp only [Act.put, List.setIfInBounds_toArray, List.set_cons_succ, List.set_cons_zero]
            refine wpAnyH_done (by kernel_rfl) ?_ _
            go_wp2_with fail
            go_meet
            exact ⟨w2.heap.size, _, rfl, rfl, HK3.out, HQ3.out, HQ.out.size⟩
          · refine wp_runTo (some 12) rfl _ _ (exec_alloc _ _ _ 33 rfl _ zero33) ?_
            have HQ := Lib.hid ((Below.refl wr.heap.size wr).drew.alloc (Nat.le_refl wr.heap.size) (.cells #[.int .i64 0, .int .i64 0, .bool false] 33))
            have HK0 : Hid (Blk (wr.drew.alloc (.cells #[.int .i64 0, .int .i64 0, .bool false] 33)) wr.heap.size [.int .i64 0, .int .i64 0, .bool false]) := Lib.hid (Blk.new wr.drew _ _)
            refine hK _ _ HQ.out ?_
            clear hK K
            try simp only [Act.put, List.setIfInBounds_toArray, List.set_cons_succ, List.set_cons_zero]
            refine oneH 5 (by kernel_rfl) rfl rfl fun K hK => ?_
            go_simp
            refine (HF.out _).mono ?_
            rintro e w2 ⟨rfl, hb⟩
            have HQ2 := Lib.hid (stay HQ.out hb)
            have HK2 := Lib.hid (HK0.out.below hb HK0.out.lt)
            refine hK _ _ HQ2.out ?_
            clear hK hb K
            try simp only [Act.put, List.setIfInBounds_toArray, List.set_cons_succ, List.set_cons_zero]
            refine oneH 7 (by kernel_rfl) rfl rfl fun K hK => ?_
            have d0 := HK2.out.cell (i := 0) rfl
            have d1 := HK2.out.cell (i := 1) rfl
            have d2 := HK2.out.cell (i := 2) rfl
            have f0 := HK2.out.frozen 0
            have f1 := HK2.out.frozen 1
            have f2 := HK2.out.frozen 2
            have HQ3 : Hid (Below wr.heap.size wr (((w2.setCell ⟨wr.heap.size, 0, none⟩ (.int .i64 u)).setCell ⟨wr.heap.size, 1, none⟩ (.int .i64 o2)).setCell ⟨wr.heap.size, 2, none⟩ (.bool true))) := Lib.hid (((HQ2.out.setCell (Nat.le_refl _) _).setCell (Nat.le_refl _) _).setCell (Nat.le_refl _) _)
            have HK3 := Lib.hid (((HK2.out.set 0 (.int .i64 u)).set 1 (.int .i64 o2)).set 2 (.bool true))
            go_simp
            refine hK _ _ HQ3.out ?_
            clear hK K
            try simp only [Act.put, List.setIfInBounds_toArray, List.set_cons_succ, List.set_cons_zero]
            refine wpAnyH_done (by kernel_rfl) ?_ _
            go_wp2_with fail
            go_meet
            exact ⟨wr.heap.size, _, rfl, rfl, HK3.out, HQ3.out, Nat.le_refl _⟩
        case rest =>
          obtain ⟨p, W, rfl, rfl, hc, hb, hc2⟩ := hcut
          have HW2 := Lib.hid (stay HW.out hb)
          have HP := Lib.hid hc
          have p2 := hc.cell (i := 2) rfl
          clear hb hc hc2
          go_wp2_with fail
          clear p2
          go_loopg [13] m (fun q i wy => ∃ j : Nat, m - j ≤ q ∧ j ≤ m ∧ i = .int .i64 j ∧ Below W.heap.size W wy)
          case atStart => exact ⟨0, by omega, by omega, rfl, Below.refl _ _⟩
          case round =>
            obtain ⟨j, hq2, hj, rfl, hb⟩ := hrel
            have HW3 := Lib.hid hb
            clear hb
            by_cases hjm : j < m
            · have hj1 : (j : Int) < (m : Int) := by omega
              have hjv : (frees c hd)[j]? = some ((frees c hd)[j]'(by rw [HM.out]; exact hjm)) := List.getElem?_eq_getElem _
              obtain ⟨b', o', rfl, x1⟩ := HF3.out.cell j _ hjv
              have HNE := HNF.out _ (List.mem_of_getElem? hjv)
              have d2 := ((stay HW2.out HW3.out).cell (block_lt_of_cell x1)).trans x1
              have p0 := (HP.out.below HW3.out HP.out.lt).cell (i := 0) rfl
              generalize ((frees c hd)[j]'(by rw [HM.out]; exact hjm)) = v at *
              have e1 : (v == (u : Int)) = false := by simpa using HNE
              clear hjv HNE x1
              go_wp2_with fail
              go_quiet (fail)
              go_wp2_with fail
              go_roundg (m - (j + 1))
              case measure => omega
              case rel => exact ⟨j + 1, by omega, by omega, by go_num, drewN_below HW3.out _⟩
            · obtain rfl : j = m := by omega
              have hj1 : ¬ (j : Int) < (j : Int) := by omega
              have HW4 := Lib.hid (stay HW2.out HW3.out)
              go_wp2_with fail
              go_roundg (l.length - (k + 1))
              case measure => omega
              case rel => exact ⟨k + 1, by omega, by omega, by go_num, by rw [HINS.out]; go_num, HW4.out⟩
      · have HF := Lib.hid (HU.out x hx)
        have HINS := Lib.hid (ins_no HLK.out hx)
        obtain ⟨z, hz⟩ : ∃ z, ins g (l.take k) = z := ⟨_, rfl⟩
        rw [hz] at HINS hin
        rw [hz]
        clear hz hx
        go_upto_region 12 with fail
        go_cut [12] from 57 to 86 (fun s7 wx => ∃ (c : Nat) (W : World), W = wx ∧ s7 = .pointer (some ⟨c, 0, none⟩) ∧ Blk wx c [.int .i64 0, .int .i64 0, .bool false] ∧ Below wr.heap.size wr wx ∧ wr.heap.size ≤ c)
        case first =>
          refine startH (fun wq => Below wr.heap.size wr wq) (by kernel_rfl) ?_
          refine takeH 0 (some 63) (g.v) rfl rfl (by kernel_rfl) (by kernel_rfl) (by kernel_rfl) (fun _ _ _ h => h) rfl (fun wq hS => by obtain ⟨c0, c1, c2, c3⟩ := HX.out.2.1.below hS HX.out.2.2; go_simp) (Below.refl _ _).drew ?_
          try simp only [Act.put, List.setIfInBounds_toArray, List.set_cons_succ, List.set_cons_zero]
          refine takeH 1 (some 64) (.slice (some ⟨b, o, none⟩) l.length cap) rfl rfl (by kernel_rfl) (by kernel_rfl) (by kernel_rfl) (fun _ _ _ h => h) rfl (fun wq hS => by go_simp) (Below.refl _ _).drew ?_
          try simp only [Act.put, List.setIfInBounds_toArray, List.set_cons_succ, List.set_cons_zero]
          refine takeH 2 (some 65) (.int .i64 k) rfl rfl (by kernel_rfl) (by kernel_rfl) (by kernel_rfl) (fun _ _ _ h => h) rfl (fun wq hS => by go_simp) (Below.refl _ _).drew ?_
          try simp only [Act.put, List.setIfInBounds_toArray, List.set_cons_succ, List.set_cons_zero]
          refine takeH 3 (some 66) (.pointer (some ⟨b, o + k, none⟩)) rfl rfl (by kernel_rfl) (by kernel_rfl) (by kernel_rfl) (fun _ _ _ h => h) rfl (fun wq hS => by go_simp) (Below.refl _ _).drew ?_
          try simp only [Act.put, List.setIfInBounds_toArray, List.set_cons_succ, List.set_cons_zero]
          refine takeH 4 (some 67) (.int .i64 x) rfl rfl (by kernel_rfl) (by kernel_rfl) (by kernel_rfl) (fun _ _ _ h => h) rfl (fun wq hS => by have d2 := (hS.cell (block_lt_of_cell d1)).trans d1; go_simp) (Below.refl _ _).drew ?_
          try simp only [Act.put, List.setIfInBounds_toArray, List.set_cons_succ, List.set_cons_zero]
          refine twoH 5 6 (by kernel_rfl) rfl rfl rfl rfl (fun K hK => ?_) (fun K hK => ?_)
          · go_simp
            refine (HF.out _).mono ?_
            rintro e w2 ⟨rfl, hb⟩
            have HQ := Lib.hid (stay (Below.refl wr.heap.size wr).drew hb)
            refine hK _ _ HQ.out ?_
            clear hK hb K
            try simp only [Act.put, List.setIfInBounds_toArray, List.set_cons_succ, List.set_cons_zero]
            refine oneH 6 (by kernel_rfl) rfl rfl fun K hK => ?_
            refine wp_runTo (some 12) rfl _ _ (exec_alloc _ _ _ 33 rfl _ zero33) ?_
            have HQ2 := Lib.hid (HQ.out.alloc HQ.out.size (.cells #[.int .i64 0, .int .i64 0, .bool false] 33))
            refine hK _ _ HQ2.out ?_
            clear hK K
            try simp only [Act.put, List.setIfInBounds_toArray, List.set_cons_succ, List.set_cons_zero]
            refine oneH 7 (by kernel_rfl) rfl rfl fun K hK => ?_
            have HQ3 := Lib.hid (HQ.out.alloc HQ.out.size (.cells #[.int .i64 0, .int .i64 0, .bool false] 33))
            have HK3 : Hid (Blk (w2.alloc (.cells #[.int .i64 0, .int .i64 0, .bool false] 33)) w2.heap.size [.int .i64 0, .int .i64 0, .bool false]) := Lib.hid (Blk.new _ _ _)
            go_simp
            refine hK _ _ HQ3.out ?_
            clear hK K
            try simp only [Act.put, List.setIfInBounds_toArray, List.set_cons_succ, List.set_cons_zero]
            refine wpAnyH_done (by kernel_rfl) ?_ _
            go_wp2_with fail
            go_meet
            exact ⟨w2.heap.size, _, rfl, rfl, HK3.out, HQ3.out, HQ.out.size⟩
          · refine wp_runTo (some 12) rfl _ _ (exec_alloc _ _ _ 33 rfl _ zero33) ?_
            have HQ := Lib.hid ((Below.refl wr.heap.size wr).drew.alloc (Nat.le_refl wr.heap.size) (.cells #[.int .i64 0, .int .i64 0, .bool false] 33))
            have HK0 : Hid (Blk (wr.drew.alloc (.cells #[.int .i64 0, .int .i64 0, .bool false] 33)) wr.heap.size [.int .i64 0, .int .i64 0, .bool false]) := Lib.hid (Blk.new wr.drew _ _)
            refine hK _ _ HQ.out ?_
            clear hK K
            try simp only [Act.put, List.setIfInBounds_toArray, List.set_cons_succ, List.set_cons_zero]
            refine oneH 5 (by kernel_rfl) rfl rfl fun K hK => ?_
            go_simp
            refine (HF.out _).mono ?_
            rintro e w2 ⟨rfl, hb⟩
            have HQ2 := Lib.hid (stay HQ.out hb)
            have HK2 := Lib.hid (HK0.out.below hb HK0.out.lt)
            refine hK _ _ HQ2.out ?_
            clear hK hb K
            try simp only [Act.put, List.setIfInBounds_toArray, List.set_cons_succ, List.set_cons_zero]
            refine oneH 7 (by kernel_rfl) rfl rfl fun K hK => ?_
            have d0 := HK2.out.cell (i := 0) rfl
            have d1 := HK2.out.cell (i := 1) rfl
            have d2 := HK2.out.cell (i := 2) rfl
            have f0 := HK2.out.frozen 0
            have f1 := HK2.out.frozen 1
            have f2 := HK2.out.frozen 2
            have HQ3 : Hid (Below wr.heap.size wr (((w2.setCell ⟨wr.heap.size, 0, none⟩ (.int .i64 0)).setCell ⟨wr.heap.size, 1, none⟩ (.int .i64 0)).setCell ⟨wr.heap.size, 2, none⟩ (.bool false))) := Lib.hid (((HQ2.out.setCell (Nat.le_refl _) _).setCell (Nat.le_refl _) _).setCell (Nat.le_refl _) _)
            have HK3 := Lib.hid (((HK2.out.set 0 (.int .i64 0)).set 1 (.int .i64 0)).set 2 (.bool false))
            go_simp
            refine hK _ _ HQ3.out ?_
            clear hK K
            try simp only [Act.put, List.setIfInBounds_toArray, List.set_cons_succ, List.set_cons_zero]
            refine wpAnyH_done (by kernel_rfl) ?_ _
            go_wp2_with fail
            go_meet
            exact ⟨wr.heap.size, _, rfl, rfl, HK3.out, HQ3.out, Nat.le_refl _⟩
        case rest =>
          obtain ⟨p, W, rfl, rfl, hc, hb, hc2⟩ := hcut
          have HW2 := Lib.hid (stay HW.out hb)
          have p2 := hc.cell (i := 2) rfl
          clear hb hc hc2
          go_wp2_with fail
          go_roundg (l.length - (k + 1))
          case measure => omega
          case rel => exact ⟨k + 1, by omega, by omega, by go_num, by rw [HINS.out], HW2.out⟩
    · obtain rfl : k = l.length := by omega
      have hk1 : ¬ (l.length : Int) < (l.length : Int) := by omega
      have HT : Hid (l.take l.length = l) := Lib.hid List.take_length
      rw [HT.out] at hin ⊢
      obtain ⟨z, hz⟩ : ∃ z, ins g l = z := ⟨_, rfl⟩
      rw [hz] at HTC hin
      rw [hz]
      have HC4 := Lib.hid (HC3.out.below HW.out)
      have HF4 := Lib.hid (HF3.out.below HW.out)
      have HS4 := Lib.hid (sum_any c (by rw [HCL.out]; omega) _ _ HC4.out)
      rw [HTC.out] at HS4
      clear hz HT
      obtain ⟨c0, c1, c2, c3⟩ := HX.out.2.1
      go_wp2_with fail
      go_loopg [15, 14] n (fun q i s wx => ∃ j : Nat, n - j ≤ q ∧ j ≤ n ∧ i = .int .i64 j ∧ s = .int .i64 ((freesN c hd j).length : Nat) ∧ wr = wx)
      case atStart => exact ⟨0, by omega, by omega, rfl, rfl, rfl⟩
      case round =>
        obtain ⟨j, hq2, hj, rfl, rfl, rfl⟩ := hrel
        by_cases hjn : j < n
        · have hj1 : (j : Int) < g.s := by have := HG.out; omega
          have hj2 : (j : Int) < (n : Int) := by omega
          have hcj : c[j]? = some (c[j]'(by rw [HCL.out]; exact hjn)) := List.getElem?_eq_getElem _
          obtain ⟨b, o, rfl, d1⟩ := HC4.out.cell j _ hcj
          have hfl := freesN_le c hd j
          generalize (c[j]'(by rw [HCL.out]; exact hjn)) = v at *
          have HCJ := Lib.hid hcj
          clear hcj
          by_cases hf : v = 0 ∧ (j : Int) ≠ hd
          · obtain ⟨rfl, hf2⟩ := hf
            have hat := frees_here HCJ.out hf2
            have HNX := Lib.hid (freesN_yes HCJ.out hf2)
            obtain ⟨t, ht⟩ : ∃ t, (freesN c hd j).length = t := ⟨_, rfl⟩
            have hlen : (freesN c hd (j + 1)).length = t + 1 := by rw [HNX.out, List.length_append, ht]; rfl
            have HLEN := Lib.hid hlen
            rw [ht] at hat hfl
            rw [ht]
            have htm : t < m := by have := (List.getElem?_eq_some_iff.1 hat).1; have := HM.out; omega
            obtain ⟨b', o', rfl, d2⟩ := HF4.out.cell t _ hat
            have e1 : ((j : Int) != hd) = true := by simpa using hf2
            have e2 : ((j : Int) == (j : Int)) = true := by simp
            have ht1 : (t : Int) < (m : Int) := by omega
            clear hat ht hlen hf2
            go_wp2_with fail
            go_roundg (n - (j + 1))
            case measure => omega
            case rel => exact ⟨j + 1, by omega, by omega, by go_num, by rw [HLEN.out]; go_num, rfl⟩
          · have hnot := frees_not HCJ.out hf
            have HNX := Lib.hid (freesN_no HCJ.out hf)
            obtain ⟨t, ht⟩ : ∃ t, (freesN c hd j).length = t := ⟨_, rfl⟩
            have HLEN : Hid ((freesN c hd (j + 1)).length = t) := Lib.hid (by rw [HNX.out, ht])
            rw [ht] at hfl
            rw [ht]
            clear ht
            by_cases htm : t < m
            · have hat : (frees c hd)[t]? = some ((frees c hd)[t]'(by rw [HM.out]; exact htm)) := List.getElem?_eq_getElem _
              have hne : (frees c hd)[t]'(by rw [HM.out]; exact htm) ≠ (j : Int) := fun e => hnot (by rw [← e]; exact List.getElem_mem _)
              obtain ⟨b', o', rfl, d2⟩ := HF4.out.cell t _ hat
              generalize ((frees c hd)[t]'(by rw [HM.out]; exact htm)) = v2 at *
              have e2 : (v2 == (j : Int)) = false := by simpa using hne
              have ht1 : (t : Int) < (m : Int) := by omega
              clear hat hne hnot
              by_cases hv : v = 0
              · obtain rfl := hv
                have e3 : ((j : Int) != hd) = false := by simpa using Classical.byContradiction fun hh => hf ⟨rfl, by simpa using hh⟩
                clear hf
                go_wp2_with fail
                go_roundg (n - (j + 1))
                case measure => omega
                case rel => exact ⟨j + 1, by omega, by omega, by go_num, by rw [HLEN.out], rfl⟩
              · have e3 : (v == (0 : Int)) = false := by simpa using hv
                clear hf hv
                go_wp2_with fail
                go_roundg (n - (j + 1))
                case measure => omega
                case rel => exact ⟨j + 1, by omega, by omega, by go_num, by rw [HLEN.out], rfl⟩
            · have ht1 : ¬ (t : Int) < (m : Int) := by omega
              clear hnot
              by_cases hv : v = 0
              · obtain rfl := hv
                have e3 : ((j : Int) != hd) = false := by simpa using Classical.byContradiction fun hh => hf ⟨rfl, by simpa using hh⟩
                clear hf
                go_wp2_with fail
                go_roundg (n - (j + 1))
                case measure => omega
                case rel => exact ⟨j + 1, by omega, by omega, by go_num, by rw [HLEN.out], rfl⟩
              · have e3 : (v == (0 : Int)) = false := by simpa using hv
                clear hf hv
                go_wp2_with fail
                go_roundg (n - (j + 1))
                case measure => omega
                case rel => exact ⟨j + 1, by omega, by omega, by go_num, by rw [HLEN.out], rfl⟩
        · obtain rfl : j = n := by omega
          have hj1 : ¬ (j : Int) < g.s := by have := HG.out; omega
          have hend : (freesN c hd j).length = m := by rw [← HM.out, frees, HCL.out]
          rw [hend]
          clear hend
          go_wp2_with fail
          refine HS4.out.mono ?_
          rintro e w5 ⟨rfl, rfl⟩
          go_wp2_with fail
          refine (HK.out _).mono ?_
          rintro e w6 ⟨rfl, hb⟩
          have HB6 := Lib.hid (further HX.out hb)
          clear hb
          go_wp2_with fail
          go_ret
          exact ⟨rfl, HB6.out.1⟩
theorem apart_any (g : Gm) (l : List Int) (sv : Value) (y : Int) (hy0 : 0 ≤ y) (hy1 : y < 256) (w : World) (hs : IntsAt w sv l) : Calls Try.prog 4 #[g.v, sv, .int .u8 y] w fun e w' => e = .returned (.bool true) ∧ Below w.heap.size w w' := by
  by_cases h : g.Ok
  · by_cases hl : l.length ≤ 300
    · exact apart_yes g h l hl sv y hy0 hy1 w hs
    · exact apart_long g h l (by omega) sv y w hs
  · exact apart_bad g h l sv y w hs
end Go.Proofs.Ytieliobkcbpjiaa
