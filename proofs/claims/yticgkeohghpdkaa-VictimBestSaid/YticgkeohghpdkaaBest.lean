/- victim.Best. -/
import Derived.Test.YticgkeohghpdkaaLeast
namespace Go.Proofs.Yticgkeohghpdkaa
set_option linter.unusedSimpArgs false
set_option linter.unusedVariables false
open Go.RowKit

set_option maxRecDepth 100000 in
set_option maxHeartbeats 1000000 in
theorem best_live (g : Wa) (hw : g.Wf) (hll : g.live.length ≤ 1000) (hla : g.age.length ≤ 1000) (hle : g.live.length ≤ g.age.length) (l : List Int) (hl : l.length ≤ 1000) (v lv av tv : Value) (w : World) (h : WatchAt w v g lv av) (k : IntsAt w tv l) :
    Calls Try.prog 7 #[v, tv] w fun e w' => e = .returned (.tuple #[.int .i64 (bestN g.at l g.live.length).1, .bool (bestN g.at l g.live.length).2.1]) ∧ Below w.heap.size w w' := by
  obtain ⟨W, hW⟩ : ∃ W, g.at = W := ⟨_, rfl⟩
  have HWd := Lib.hid hW
  have HWf := Lib.hid fun s => hw.at s
  have HAt := Lib.hid fun s x y (h : g.live[s]? = some x) (k : g.age[s]? = some y) => show W s = ⟨x, y, g.now, g.size⟩ by rw [← hW]; simp [Wa.at, List.getD, h, k]
  rw [hW]
  rw [hW] at HWf
  have H2 := Lib.hid fun x y hx hy W => above_any x y hx hy W
  have HIk := Lib.hid k
  obtain ⟨rfl, ⟨la, lc, rfl, hlc⟩, ⟨aa, ac, rfl, hac⟩⟩ := h
  obtain ⟨live, age, now, size⟩ := g
  simp only at *
  have HLv := Lib.hid hlc
  have HAg := Lib.hid hac
  have H1 := Lib.hid fun w' hb => passed_any live.length (by omega) l hl tv w' (HIk.out.below hb)
  obtain ⟨ta, tc, rfl⟩ : ∃ a c, tv = .slice a l.length c := let ⟨a, c, e, _⟩ := k; ⟨a, c, e⟩
  clear hw hlc hac hW k HWd HIk
  have hle2 : (live.length : Int) ≤ (age.length : Int) := by omega
  go_enter Try.func7, Try.ntmps7
  go_wp2_with fail
  all_goals try omega
  refine (H1.out _ (alloc_below _ _)).mono ?_
  rintro e w1 ⟨g, rfl, hg, hlt, hb⟩
  have HB := Lib.hid (stay (alloc_below w _) hb)
  have HK := Lib.hid ((Blk.new w _ _).below hb (Blk.new w _ _).lt)
  have HG := Lib.hid hg
  have HGl := Lib.hid hlt
  clear hg hlt hb H1
  go_wp2_with fail
  obtain ⟨M, hM⟩ : ∃ M, w1.heap.size = M := ⟨_, rfl⟩
  have HW0 : Hid (Below w.heap.size w (w1.alloc (.cells #[.int .i64 0, .int .u32 0, .int .u32 0, .int .i64 0] 35))) := Lib.hid (stay HB.out (alloc_below w1 _))
  have HM0 : Hid (Blk (w1.alloc (.cells #[.int .i64 0, .int .u32 0, .int .u32 0, .int .i64 0] 35)) M [.int .i64 0, .int .u32 0, .int .u32 0, .int .i64 0]) := Lib.hid (Blk.newAt _ _ _ hM.symm rfl)
  have HK0 := Lib.hid (HK.out.alloc (.cells #[.int .i64 0, .int .u32 0, .int .u32 0, .int .i64 0] 35))
  have HG0 := Lib.hid (HG.out.alloc (.cells #[.int .i64 0, .int .u32 0, .int .u32 0, .int .i64 0] 35))
  have HMK : Hid (w.heap.size < M) := Lib.hid (by rw [← hM]; exact HK.out.lt)
  have HMG : Hid (g < M) := Lib.hid (by rw [← hM]; exact HG.out.lt)
  simp only [hM]
  clear hM HB HK HG HGl
  go_loopg [24, 8, 9] live.length (fun q i b o wr => ∃ (k : Nat) (m : Wt), live.length - k ≤ q ∧ k ≤ live.length ∧ i = .int .i64 k ∧ (∃ (u : Nat) (f : Bool), bestN W l k = (u, f, m) ∧ b = .int .i64 u ∧ o = .bool f) ∧ m.Wf ∧ Blk wr M [.int .i64 m.l, .int .u32 m.a, .int .u32 m.n, .int .i64 m.s] ∧ Blk wr g (bools (outs l live.length)) ∧ Blk wr w.heap.size [.slice la live.length lc, .slice aa age.length ac, .int .u32 now, .int .i64 size] ∧ Below w.heap.size w wr)
  case atStart => exact ⟨0, noWt, by omega, by omega, rfl, ⟨0, false, rfl, rfl, rfl⟩, noWt_wf, HM0.out, HG0.out, HK0.out, HW0.out⟩
  case round =>
    clear HM0 HG0 HK0 HW0
    obtain ⟨k, m, hq, hk, rfl, ⟨u, f, huf, rfl, rfl⟩, hmw, hm, hg, hb, hw⟩ := hrel
    have HU := Lib.hid huf
    have HMW := Lib.hid hmw
    have HMm := Lib.hid hm
    have HG := Lib.hid hg
    have HK := Lib.hid hb
    have HW := Lib.hid hw
    have HMs := Lib.hid hm.lt
    clear hmw hm hg hb hw huf
    by_cases hlt : k < live.length
    · have hk1 : (k : Int) < (live.length : Int) := by omega
      have hk2 : (k : Int) < (live.length : Int) := by omega
      have hk3 : (k : Int) < (age.length : Int) := by omega
      obtain ⟨x, hx⟩ : ∃ x, live[k]? = some x := ⟨_, List.getElem?_eq_getElem (by omega)⟩
      obtain ⟨y, hy⟩ : ∃ y, age[k]? = some y := ⟨_, List.getElem?_eq_getElem (by omega)⟩
      obtain ⟨b, o, rfl, x1⟩ := HLv.out k x hx
      obtain ⟨c, p, rfl, y1⟩ := HAg.out k y hy
      have HWk := Lib.hid (HAt.out k x y hx hy)
      have x2 := (HW.out.cell (block_lt_of_cell x1)).trans x1
      have y2 := (HW.out.cell (block_lt_of_cell y1)).trans y1
      have x3 : ∀ o', (wr.alloc o').cell? ⟨b, o + k, none⟩ = some (.int .i64 x) := fun o' => ((alloc_below wr o').cell (block_lt_of_cell x2)).trans x2
      have y3 : ∀ o', (wr.alloc o').cell? ⟨c, p + k, none⟩ = some (.int .u32 y) := fun o' => ((alloc_below wr o').cell (block_lt_of_cell y2)).trans y2
      have k0 := HK.out.cell (i := 0) rfl
      have k1 := HK.out.cell (i := 1) rfl
      have k2 := HK.out.cell (i := 2) rfl
      have k3 := HK.out.cell (i := 3) rfl
      have l0 := fun o => (HK.out.alloc o).cell (i := 0) rfl
      have l1 := fun o => (HK.out.alloc o).cell (i := 1) rfl
      have l2 := fun o => (HK.out.alloc o).cell (i := 2) rfl
      have l3 := fun o => (HK.out.alloc o).cell (i := 3) rfl
      clear hx hy x1 y1
      go_upto_region 8 with fail
      go_cut [12] from 27 to 41 (fun s12 wx => ∃ (wy : World) (c : Nat), wy = wx ∧ s12 = .pointer (some ⟨c, 0, none⟩) ∧ Blk wx c [.int .i64 x, .int .u32 y, .int .u32 now, .int .i64 size] ∧ Below wr.heap.size wr wx ∧ wr.heap.size ≤ c)
      case first =>
        go_region
        go_wp2_with fail
        go_meet
        exact ⟨_, wr.heap.size, rfl, rfl, Blk.newAt _ _ _ rfl rfl, (alloc_below _ _).drew, Nat.le_refl _⟩
      case rest =>
        obtain ⟨wy, d, rfl, rfl, hd, hbd, hld⟩ := hcut
        clear x3 y3 l0 l1 l2 l3 x2 y2 k0 k1 k2 k3
        have HD := Lib.hid hd
        have HM2 := Lib.hid (HMm.out.below hbd HMs.out)
        have HG2 := Lib.hid (HG.out.below hbd HG.out.lt)
        have HK2 := Lib.hid (HK.out.below hbd HK.out.lt)
        have HW2 := Lib.hid (stay HW.out hbd)
        have HMd : Hid (M < d) := Lib.hid (Nat.lt_of_lt_of_le HMs.out hld)
        clear hd hbd hld HMm HG HK HW
        by_cases hkl : (k : Int) ∈ l
        · have p1 := HG2.out.bool (outs_at (not := l) hlt)
          rw [decide_eq_true hkl] at p1
          have HN := Lib.hid (bestN_in (W := W) hkl)
          rw [HU.out] at HN
          clear hkl
          go_wp2_with fail
          go_roundg (live.length - (k + 1))
          case measure => omega
          case rel => exact ⟨k + 1, m, by omega, by omega, by go_num, ⟨u, f, HN.out, rfl, rfl⟩, HMW.out, HM2.out, HG2.out, HK2.out, HW2.out⟩
        · have p1 := HG2.out.bool (outs_at (not := l) hlt)
          rw [decide_eq_false hkl] at p1
          have hwf := HWf.out k
          rw [HWk.out] at hwf
          have H3 := Lib.hid fun w' => H2.out _ m hwf HMW.out w'
          have HFW := Lib.hid hwf
          have hyes := bestN_yes (W := W) hkl
          have hno := bestN_no (W := W) (not := l) (k := k)
          rw [HU.out, HWk.out] at hyes hno
          simp only at hyes hno
          obtain ⟨ml, ma, mn, ms⟩ := m
          simp only [Wt.v] at H3
          simp only at HM2
          have d0 := HD.out.cell (i := 0) rfl
          have d1 := HD.out.cell (i := 1) rfl
          have d2 := HD.out.cell (i := 2) rfl
          have d3 := HD.out.cell (i := 3) rfl
          have m0 := HM2.out.cell (i := 0) rfl
          have m1 := HM2.out.cell (i := 1) rfl
          have m2 := HM2.out.cell (i := 2) rfl
          have m3 := HM2.out.cell (i := 3) rfl
          obtain ⟨t, ht⟩ : ∃ t, above ⟨x, y, now, size⟩ ⟨ml, ma, mn, ms⟩ = t := ⟨_, rfl⟩
          rw [ht] at H3 hyes hno
          clear hkl hwf ht
          go_wp2_with fail
          refine (H3.out _).mono ?_
          rintro e w3 ⟨rfl, hb⟩
          have HD3 := Lib.hid (HD.out.below hb HD.out.lt)
          have HM3 := Lib.hid (HM2.out.below hb HM2.out.lt)
          have HG3 := Lib.hid (HG2.out.below hb HG2.out.lt)
          have HK3 := Lib.hid (HK2.out.below hb HK2.out.lt)
          have HW3 := Lib.hid (stay HW2.out hb)
          clear hb d0 d1 d2 d3 m0 m1 m2 m3 p1 HD HM2 HG2 HK2 HW2
          cases t with
          | false =>
            have HN := Lib.hid (hno rfl)
            clear hyes hno
            go_wp2_with fail
            go_roundg (live.length - (k + 1))
            case measure => omega
            case rel => exact ⟨k + 1, _, by omega, by omega, by go_num, ⟨u, f, HN.out, rfl, rfl⟩, HMW.out, HM3.out, HG3.out, HK3.out, HW3.out⟩
          | true =>
            have HN := Lib.hid (hyes rfl)
            clear hyes hno
            have d0 := HD3.out.cell (i := 0) rfl
            have d1 := HD3.out.cell (i := 1) rfl
            have d2 := HD3.out.cell (i := 2) rfl
            have d3 := HD3.out.cell (i := 3) rfl
            have m0 := HM3.out.cell (i := 0) rfl
            have m1 := HM3.out.cell (i := 1) rfl
            have m2 := HM3.out.cell (i := 2) rfl
            have m3 := HM3.out.cell (i := 3) rfl
            have f0 := HM3.out.frozen 0
            have f1 := HM3.out.frozen 1
            have f2 := HM3.out.frozen 2
            have f3 := HM3.out.frozen 3
            go_wp2_with fail
            go_region
            go_wp2_with fail
            have hg1 : g ≠ M := by have := HMG.out; omega
            have hw1 : w.heap.size ≠ M := by have := HMK.out; omega
            have hw2 : w.heap.size ≤ M := by have := HMK.out; omega
            go_roundg (live.length - (k + 1))
            case measure => omega
            case rel => exact ⟨k + 1, ⟨x, y, now, size⟩, by omega, by omega, by go_num, ⟨k, true, HN.out, rfl, rfl⟩, HFW.out, (((HM3.out.set 0 _).set 1 _).set 2 _).set 3 _, (((HG3.out.setOther hg1 _).setOther hg1 _).setOther hg1 _).setOther hg1 _, (((HK3.out.setOther hw1 _).setOther hw1 _).setOther hw1 _).setOther hw1 _, ((((HW3.out.setCell hw2 _).setCell hw2 _).setCell hw2 _).setCell hw2 _).drew⟩
    · obtain rfl : k = live.length := by omega
      have hk1 : ¬ (live.length : Int) < (live.length : Int) := by omega
      go_wp2_with fail
      go_ret2
      exact ⟨ret_pair (by rw [HU.out]) (by rw [HU.out]), HW.out⟩

set_option maxRecDepth 100000 in
set_option maxHeartbeats 1000000 in
theorem best_age (g : Wa) (hw : g.Wf) (hll : g.live.length ≤ 1000) (hla : g.age.length ≤ 1000) (hle : g.age.length < g.live.length) (l : List Int) (hl : l.length ≤ 1000) (v lv av tv : Value) (w : World) (h : WatchAt w v g lv av) (k : IntsAt w tv l) :
    Calls Try.prog 7 #[v, tv] w fun e w' => e = .returned (.tuple #[.int .i64 (bestN g.at l g.age.length).1, .bool (bestN g.at l g.age.length).2.1]) ∧ Below w.heap.size w w' := by
  obtain ⟨W, hW⟩ : ∃ W, g.at = W := ⟨_, rfl⟩
  have HWd := Lib.hid hW
  have HWf := Lib.hid fun s => hw.at s
  have HAt := Lib.hid fun s x y (h : g.live[s]? = some x) (k : g.age[s]? = some y) => show W s = ⟨x, y, g.now, g.size⟩ by rw [← hW]; simp [Wa.at, List.getD, h, k]
  rw [hW]
  rw [hW] at HWf
  have H2 := Lib.hid fun x y hx hy W => above_any x y hx hy W
  have HIk := Lib.hid k
  obtain ⟨rfl, ⟨la, lc, rfl, hlc⟩, ⟨aa, ac, rfl, hac⟩⟩ := h
  obtain ⟨live, age, now, size⟩ := g
  simp only at *
  have HLv := Lib.hid hlc
  have HAg := Lib.hid hac
  have H1 := Lib.hid fun w' hb => passed_any age.length (by omega) l hl tv w' (HIk.out.below hb)
  obtain ⟨ta, tc, rfl⟩ : ∃ a c, tv = .slice a l.length c := let ⟨a, c, e, _⟩ := k; ⟨a, c, e⟩
  clear hw hlc hac hW k HWd HIk
  have hle2 : (age.length : Int) < (live.length : Int) := by omega
  go_enter Try.func7, Try.ntmps7
  go_wp2_with fail
  all_goals try omega
  refine (H1.out _ (alloc_below _ _)).mono ?_
  rintro e w1 ⟨g, rfl, hg, hlt, hb⟩
  have HB := Lib.hid (stay (alloc_below w _) hb)
  have HK := Lib.hid ((Blk.new w _ _).below hb (Blk.new w _ _).lt)
  have HG := Lib.hid hg
  have HGl := Lib.hid hlt
  clear hg hlt hb H1
  go_wp2_with fail
  obtain ⟨M, hM⟩ : ∃ M, w1.heap.size = M := ⟨_, rfl⟩
  have HW0 : Hid (Below w.heap.size w (w1.alloc (.cells #[.int .i64 0, .int .u32 0, .int .u32 0, .int .i64 0] 35))) := Lib.hid (stay HB.out (alloc_below w1 _))
  have HM0 : Hid (Blk (w1.alloc (.cells #[.int .i64 0, .int .u32 0, .int .u32 0, .int .i64 0] 35)) M [.int .i64 0, .int .u32 0, .int .u32 0, .int .i64 0]) := Lib.hid (Blk.newAt _ _ _ hM.symm rfl)
  have HK0 := Lib.hid (HK.out.alloc (.cells #[.int .i64 0, .int .u32 0, .int .u32 0, .int .i64 0] 35))
  have HG0 := Lib.hid (HG.out.alloc (.cells #[.int .i64 0, .int .u32 0, .int .u32 0, .int .i64 0] 35))
  have HMK : Hid (w.heap.size < M) := Lib.hid (by rw [← hM]; exact HK.out.lt)
  have HMG : Hid (g < M) := Lib.hid (by rw [← hM]; exact HG.out.lt)
  simp only [hM]
  clear hM HB HK HG HGl
  go_loopg [24, 8, 9] age.length (fun q i b o wr => ∃ (k : Nat) (m : Wt), age.length - k ≤ q ∧ k ≤ age.length ∧ i = .int .i64 k ∧ (∃ (u : Nat) (f : Bool), bestN W l k = (u, f, m) ∧ b = .int .i64 u ∧ o = .bool f) ∧ m.Wf ∧ Blk wr M [.int .i64 m.l, .int .u32 m.a, .int .u32 m.n, .int .i64 m.s] ∧ Blk wr g (bools (outs l age.length)) ∧ Blk wr w.heap.size [.slice la live.length lc, .slice aa age.length ac, .int .u32 now, .int .i64 size] ∧ Below w.heap.size w wr)
  case atStart => exact ⟨0, noWt, by omega, by omega, rfl, ⟨0, false, rfl, rfl, rfl⟩, noWt_wf, HM0.out, HG0.out, HK0.out, HW0.out⟩
  case round =>
    clear HM0 HG0 HK0 HW0
    obtain ⟨k, m, hq, hk, rfl, ⟨u, f, huf, rfl, rfl⟩, hmw, hm, hg, hb, hw⟩ := hrel
    have HU := Lib.hid huf
    have HMW := Lib.hid hmw
    have HMm := Lib.hid hm
    have HG := Lib.hid hg
    have HK := Lib.hid hb
    have HW := Lib.hid hw
    have HMs := Lib.hid hm.lt
    clear hmw hm hg hb hw huf
    by_cases hlt : k < age.length
    · have hk1 : (k : Int) < (age.length : Int) := by omega
      have hk2 : (k : Int) < (live.length : Int) := by omega
      have hk3 : (k : Int) < (age.length : Int) := by omega
      obtain ⟨x, hx⟩ : ∃ x, live[k]? = some x := ⟨_, List.getElem?_eq_getElem (by omega)⟩
      obtain ⟨y, hy⟩ : ∃ y, age[k]? = some y := ⟨_, List.getElem?_eq_getElem (by omega)⟩
      obtain ⟨b, o, rfl, x1⟩ := HLv.out k x hx
      obtain ⟨c, p, rfl, y1⟩ := HAg.out k y hy
      have HWk := Lib.hid (HAt.out k x y hx hy)
      have x2 := (HW.out.cell (block_lt_of_cell x1)).trans x1
      have y2 := (HW.out.cell (block_lt_of_cell y1)).trans y1
      have x3 : ∀ o', (wr.alloc o').cell? ⟨b, o + k, none⟩ = some (.int .i64 x) := fun o' => ((alloc_below wr o').cell (block_lt_of_cell x2)).trans x2
      have y3 : ∀ o', (wr.alloc o').cell? ⟨c, p + k, none⟩ = some (.int .u32 y) := fun o' => ((alloc_below wr o').cell (block_lt_of_cell y2)).trans y2
      have k0 := HK.out.cell (i := 0) rfl
      have k1 := HK.out.cell (i := 1) rfl
      have k2 := HK.out.cell (i := 2) rfl
      have k3 := HK.out.cell (i := 3) rfl
      have l0 := fun o => (HK.out.alloc o).cell (i := 0) rfl
      have l1 := fun o => (HK.out.alloc o).cell (i := 1) rfl
      have l2 := fun o => (HK.out.alloc o).cell (i := 2) rfl
      have l3 := fun o => (HK.out.alloc o).cell (i := 3) rfl
      clear hx hy x1 y1
      go_upto_region 8 with fail
      go_cut [12] from 27 to 41 (fun s12 wx => ∃ (wy : World) (c : Nat), wy = wx ∧ s12 = .pointer (some ⟨c, 0, none⟩) ∧ Blk wx c [.int .i64 x, .int .u32 y, .int .u32 now, .int .i64 size] ∧ Below wr.heap.size wr wx ∧ wr.heap.size ≤ c)
      case first =>
        go_region
        go_wp2_with fail
        go_meet
        exact ⟨_, wr.heap.size, rfl, rfl, Blk.newAt _ _ _ rfl rfl, (alloc_below _ _).drew, Nat.le_refl _⟩
      case rest =>
        obtain ⟨wy, d, rfl, rfl, hd, hbd, hld⟩ := hcut
        clear x3 y3 l0 l1 l2 l3 x2 y2 k0 k1 k2 k3
        have HD := Lib.hid hd
        have HM2 := Lib.hid (HMm.out.below hbd HMs.out)
        have HG2 := Lib.hid (HG.out.below hbd HG.out.lt)
        have HK2 := Lib.hid (HK.out.below hbd HK.out.lt)
        have HW2 := Lib.hid (stay HW.out hbd)
        have HMd : Hid (M < d) := Lib.hid (Nat.lt_of_lt_of_le HMs.out hld)
        clear hd hbd hld HMm HG HK HW
        by_cases hkl : (k : Int) ∈ l
        · have p1 := HG2.out.bool (outs_at (not := l) hlt)
          rw [decide_eq_true hkl] at p1
          have HN := Lib.hid (bestN_in (W := W) hkl)
          rw [HU.out] at HN
          clear hkl
          go_wp2_with fail
          go_roundg (age.length - (k + 1))
          case measure => omega
          case rel => exact ⟨k + 1, m, by omega, by omega, by go_num, ⟨u, f, HN.out, rfl, rfl⟩, HMW.out, HM2.out, HG2.out, HK2.out, HW2.out⟩
        · have p1 := HG2.out.bool (outs_at (not := l) hlt)
          rw [decide_eq_false hkl] at p1
          have hwf := HWf.out k
          rw [HWk.out] at hwf
          have H3 := Lib.hid fun w' => H2.out _ m hwf HMW.out w'
          have HFW := Lib.hid hwf
          have hyes := bestN_yes (W := W) hkl
          have hno := bestN_no (W := W) (not := l) (k := k)
          rw [HU.out, HWk.out] at hyes hno
          simp only at hyes hno
          obtain ⟨ml, ma, mn, ms⟩ := m
          simp only [Wt.v] at H3
          simp only at HM2
          have d0 := HD.out.cell (i := 0) rfl
          have d1 := HD.out.cell (i := 1) rfl
          have d2 := HD.out.cell (i := 2) rfl
          have d3 := HD.out.cell (i := 3) rfl
          have m0 := HM2.out.cell (i := 0) rfl
          have m1 := HM2.out.cell (i := 1) rfl
          have m2 := HM2.out.cell (i := 2) rfl
          have m3 := HM2.out.cell (i := 3) rfl
          obtain ⟨t, ht⟩ : ∃ t, above ⟨x, y, now, size⟩ ⟨ml, ma, mn, ms⟩ = t := ⟨_, rfl⟩
          rw [ht] at H3 hyes hno
          clear hkl hwf ht
          go_wp2_with fail
          refine (H3.out _).mono ?_
          rintro e w3 ⟨rfl, hb⟩
          have HD3 := Lib.hid (HD.out.below hb HD.out.lt)
          have HM3 := Lib.hid (HM2.out.below hb HM2.out.lt)
          have HG3 := Lib.hid (HG2.out.below hb HG2.out.lt)
          have HK3 := Lib.hid (HK2.out.below hb HK2.out.lt)
          have HW3 := Lib.hid (stay HW2.out hb)
          clear hb d0 d1 d2 d3 m0 m1 m2 m3 p1 HD HM2 HG2 HK2 HW2
          cases t with
          | false =>
            have HN := Lib.hid (hno rfl)
            clear hyes hno
            go_wp2_with fail
            go_roundg (age.length - (k + 1))
            case measure => omega
            case rel => exact ⟨k + 1, _, by omega, by omega, by go_num, ⟨u, f, HN.out, rfl, rfl⟩, HMW.out, HM3.out, HG3.out, HK3.out, HW3.out⟩
          | true =>
            have HN := Lib.hid (hyes rfl)
            clear hyes hno
            have d0 := HD3.out.cell (i := 0) rfl
            have d1 := HD3.out.cell (i := 1) rfl
            have d2 := HD3.out.cell (i := 2) rfl
            have d3 := HD3.out.cell (i := 3) rfl
            have m0 := HM3.out.cell (i := 0) rfl
            have m1 := HM3.out.cell (i := 1) rfl
            have m2 := HM3.out.cell (i := 2) rfl
            have m3 := HM3.out.cell (i := 3) rfl
            have f0 := HM3.out.frozen 0
            have f1 := HM3.out.frozen 1
            have f2 := HM3.out.frozen 2
            have f3 := HM3.out.frozen 3
            go_wp2_with fail
            go_region
            go_wp2_with fail
            have hg1 : g ≠ M := by have := HMG.out; omega
            have hw1 : w.heap.size ≠ M := by have := HMK.out; omega
            have hw2 : w.heap.size ≤ M := by have := HMK.out; omega
            go_roundg (age.length - (k + 1))
            case measure => omega
            case rel => exact ⟨k + 1, ⟨x, y, now, size⟩, by omega, by omega, by go_num, ⟨k, true, HN.out, rfl, rfl⟩, HFW.out, (((HM3.out.set 0 _).set 1 _).set 2 _).set 3 _, (((HG3.out.setOther hg1 _).setOther hg1 _).setOther hg1 _).setOther hg1 _, (((HK3.out.setOther hw1 _).setOther hw1 _).setOther hw1 _).setOther hw1 _, ((((HW3.out.setCell hw2 _).setCell hw2 _).setCell hw2 _).setCell hw2 _).drew⟩
    · obtain rfl : k = age.length := by omega
      have hk1 : ¬ (age.length : Int) < (age.length : Int) := by omega
      go_wp2_with fail
      go_ret2
      exact ⟨ret_pair (by rw [HU.out]) (by rw [HU.out]), HW.out⟩

theorem best_any (g : Wa) (hw : g.Wf) (hll : g.live.length ≤ 1000) (hla : g.age.length ≤ 1000) (l : List Int) (hl : l.length ≤ 1000) (v lv av tv : Value) (w : World) (h : WatchAt w v g lv av) (k : IntsAt w tv l) :
    Calls Try.prog 7 #[v, tv] w fun e w' => e = .returned (.tuple #[.int .i64 (bestN g.at l (min g.live.length g.age.length)).1, .bool (bestN g.at l (min g.live.length g.age.length)).2.1]) ∧ Below w.heap.size w w' := by
  by_cases hle : g.live.length ≤ g.age.length
  · rw [Nat.min_eq_left hle]
    exact best_live g hw hll hla hle l hl v lv av tv w h k
  · rw [Nat.min_eq_right (by omega)]
    exact best_age g hw hll hla (by omega) l hl v lv av tv w h k
end Go.Proofs.Yticgkeohghpdkaa
