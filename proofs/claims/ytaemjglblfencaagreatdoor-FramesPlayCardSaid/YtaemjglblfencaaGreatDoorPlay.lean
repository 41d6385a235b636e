/- The statement FramesPlay's walk: whatever the number and the steps, the call returns true. -/
import Derived.Test.YtaemjglblfencaaGreatDoorQd
import Derived.Deep.Cut
import Derived.Deep.CutRange
import Derived.Deep.CutBlock
import Derived.RegionTactic
import Derived.BigQuiet
import Derived.Deep.QuietTactic
namespace Go.Proofs.YtaemjglblfencaaGreatDoor
set_option linter.unusedSimpArgs false
set_option linter.unusedVariables false
open Go.RowKit Kl

set_option maxRecDepth 100000 in
set_option maxHeartbeats 16000000 in
theorem play_any (W : World) (n : Int) (hn : Kl.Small n) (sv : Value) (l : List Stp) (hs : StepsAt W sv l) (hev : ErrVar W) : Calls Tryz.prog 3 #[.int .i64 n, sv] W fun e w' => e = .returned (.bool true) ∧ Below W.heap.size W w' := by
  have HSS := Lib.hid hs
  have HEV := Lib.hid hev
  have HFA := Lib.hid (fair_any W sv l hs)
  obtain ⟨hnb, sa, sc, hsv, -⟩ := hs
  subst hsv
  clear hev
  cases hfl : fairL l with
  | false =>
    rw [hfl] at HFA
    clear hfl
    as_aux_lemma =>
      go_enter Tryz.func3, Tryz.ntmps3
      go_wp2_with fail
      refine HFA.out.mono ?_
      rintro e w' ⟨rfl, rfl⟩
      go_wp2_with fail
      refine (wakes_any _ HEV.out).mono ?_
      rintro e w2 ⟨rfl, hb⟩
      have HB2 := Lib.hid hb
      clear hb
      go_wp2_with fail
      go_ret
      exact ⟨rfl, HB2.out⟩
  | true =>
  rw [hfl] at HFA
  have HFL := Lib.hid hfl
  clear hfl
  by_cases hnm : n < 1 ∨ 16 < n
  · as_aux_lemma =>
      have HN := Lib.hid (New_no W n hnm)
      have HR := Lib.hid (rNew_no W n hnm)
      clear hnm hn
      go_enter Tryz.func3, Tryz.ntmps3
      go_wp2_with fail
      refine HFA.out.mono ?_
      rintro e w' ⟨rfl, rfl⟩
      go_wp2_with fail
      refine HN.out.mono ?_
      rintro e w' ⟨rfl, rfl⟩
      go_wp2_with fail
      refine HR.out.mono ?_
      rintro e w' ⟨rfl, rfl⟩
      go_wp2_with fail
      go_loopg [9] 0 (fun g i wr => i = .int .i64 0 ∧ W = wr)
      case atStart => exact ⟨rfl, rfl⟩
      case round =>
        as_aux_lemma =>
          obtain ⟨rfl, rfl⟩ := hrel
          by_cases h0 : 0 < l.length
          · have d0 : decide ((0 : Int) < (l.length : Int)) = true := decide_eq_true (by omega)
            have d1 : decide (0 < l.length) = true := decide_eq_true h0
            go_wp2_with fail
            refine (wakes_any _ HEV.out).mono ?_
            rintro e w5 ⟨rfl, hb⟩
            have HB5 := Lib.hid hb
            clear hb
            go_wp2_with fail
            go_ret
            exact ⟨rfl, HB5.out⟩
          · have d0 : decide ((0 : Int) < (l.length : Int)) = false := decide_eq_false (by omega)
            have d1 : decide (0 < l.length) = false := decide_eq_false h0
            go_wp2_with fail
            refine (wakes_any _ HEV.out).mono ?_
            rintro e w5 ⟨rfl, hb⟩
            have HB5 := Lib.hid hb
            clear hb
            go_wp2_with fail
            go_ret
            exact ⟨rfl, HB5.out⟩
  obtain ⟨M, rfl⟩ : ∃ M : Nat, n = (M : Int) := ⟨n.toNat, by omega⟩
  have HN := Lib.hid (fz_new W M (by omega) (by omega))
  have HR := Lib.hid fun w9 => rNew_yes w9 M (by omega) (by omega)
  have HO0 : Hid ((newFs M).Ok 0) := Lib.hid (newFs_ok (by omega) (by omega))
  clear hnm hn
  go_enter Tryz.func3, Tryz.ntmps3
  go_wp2_with fail
  refine HFA.out.mono ?_
  rintro e w' ⟨rfl, rfl⟩
  go_wp2_with fail
  refine HN.out.mono ?_
  rintro e w1 ⟨L, rfl, hz, hb⟩
  have HZ1 := Lib.hid hz
  clear hz hb HN HFA
  go_wp2_with fail
  refine (HR.out w1).mono ?_
  rintro e w2 ⟨R, rfl, hr, hb, hro⟩
  have HP0 : Hid (Pz W w2 L R (fun _ => False) (newFs M) (newFs M)) := Lib.hid (by
    have h1 := HZ1.out.bel.size
    refine ⟨HZ1.out.add HO0.out hb (fun k hk => .inl hk) (fun k hk => ?_), hr, fun q hq => Nat.le_trans h1 (hro q hq)⟩
    rcases hk with hk | hk | hk
    · exact .inl hk
    · exact .inr ⟨hro k hk, hr.lt hk⟩
    · cases hk)
  clear hr hb hro HZ1 HR
  generalize newFs M = s0 at *
  clear w1
  obtain ⟨N0, hN0⟩ : ∃ N0, l.length = N0 := ⟨_, rfl⟩
  have HLN0 := Lib.hid hN0
  have hN150 : N0 ≤ 150 := by have := fairL_len HFL.out; omega
  rw [hN0] at HSS ⊢
  clear hN0 hnb
  go_wp2_with (first | (refine (fz_clock HP0.out.fz).mono ?_; rintro e wz ⟨rfl, rfl⟩))
  go_loopg [9] N0 (fun q i wr => ∃ (k : Nat) (s : Fs), N0 - k ≤ q ∧ k ≤ N0 ∧ i = .int .i64 k ∧ Pz W wr L R (fun _ => False) s s ∧ s.Ok k)
  case atStart => exact ⟨0, s0, by omega, by omega, rfl, HP0.out, HO0.out⟩
  case round =>
    as_aux_lemma =>
      obtain ⟨k, s, hq, hk, rfl, hpz, hok⟩ := hrel
      have HPZ := Lib.hid hpz
      have HOK := Lib.hid hok
      clear hpz hok HP0 HO0
      by_cases hlt : k < N0
      · have hk1 : (k : Int) < (N0 : Int) := by omega
        have dk1 : decide ((k : Int) < (N0 : Int)) = true := decide_eq_true hk1
        have dk2 : decide (k < N0) = true := decide_eq_true hlt
        have gk : IntKind.i64.wrap ((k : Int) + 1) = (k : Int) + 1 := Kl.wrap63 (by omega) (by omega)
        obtain ⟨x, hx⟩ : ∃ x, l[k]? = some x := ⟨_, List.getElem?_eq_getElem (by have := HLN0.out; omega)⟩
        obtain ⟨_, a', cap', e, hc0⟩ := HSS.out
        rw [HLN0.out] at e
        cases e
        obtain ⟨hw, b', o, dv, rfl, hst0⟩ := hc0 k x hx
        have hst := hst0.below HPZ.out.fz.bel
        have hdb := hst0.bs
        have hdl := fairL_at HFL.out hx
        obtain ⟨kd, fr, ky, of, v, dd⟩ := x
        simp only at hdb hdl
        have HDB := Lib.hid hdb
        have HDL : Hid (dd.length ≤ 1000) := Lib.hid (by omega)
        have HDY := Lib.hid hw.data
        have HVB : Hid (Byte v) := Lib.hid hw.v
        have HSK : Hid (Kl.Small ky) := Lib.hid hw.key
        obtain ⟨da, dc, hdv, -⟩ := hdb
        subst hdv
        have v0 := hw.v.1
        have v1 := hw.v.2
        simp only at v0 v1
        have y0 := hst.c0
        have y1 := hst.c1
        have y2 := hst.c2
        have y3 := hst.c3
        have y4 := hst.c4
        have y5 := hst.c5
        simp only at y0 y1 y2 y3 y4 y5
        obtain ⟨dn, hdn⟩ : ∃ dn, dd.length = dn := ⟨_, rfl⟩
        rw [hdn] at y5 HDB
        have HDN := Lib.hid hdn
        clear hst hst0 hc0 hw hx hdl hdn
        go_upto_region 11 with fail
        have HK0 : Hid (Py W (wr.alloc (.cells #[.int .i64 kd, .int .i64 fr, .int .i64 ky, .int .i64 of, .int .u8 v, .slice da dn dc] 36)) L R (fun q => q = wr.heap.size) wr.heap.size s s [.int .i64 kd, .int .i64 fr, .int .i64 ky, .int .i64 of, .int .u8 v, .slice da dn dc]) := Lib.hid (HPZ.out.box HOK.out (Kl.alloc_below wr _) (Kl.Blk.newAt _ _ _ rfl rfl) (Nat.le_refl _))
        clear y0 y1 y2 y3 y4 y5
        generalize wr.alloc (.cells #[.int .i64 kd, .int .i64 fr, .int .i64 ky, .int .i64 of, .int .u8 v, .slice da dn dc] 36) = wx at *
        generalize wr.heap.size = xb at *
        have HK := HK0
        clear HK0 HPZ
        have HB6 : Hid (k ≤ 1000000) := Lib.hid (by omega)
        have P0 := HK.out.x.cell (i := 0) rfl
        go_upto_block 2 with fail
        clear P0
        go_cut [11, 12, 13, 14, 15] from 72 to 299 (fun s11 s12 s13 s14 s15 wz => ∃ (s5 : Fs) (b : Bool) (m : Int), s11 = .bool b ∧ s12 = .bool b ∧ s13 = .int .i64 m ∧ s14 = .int .i64 m ∧ Py W wz L R (fun q => q = xb) xb s5 s5 [.int .i64 kd, .int .i64 fr, .int .i64 ky, .int .i64 of, .int .u8 v, .slice da dn dc] ∧ s5.Ok (k + 1))
        case first =>
          as_aux_lemma =>
            by_cases h0 : kd = 0
            · subst h0
              as_aux_lemma =>
                go_wp2_with fail
                go_upto_region 15 with fail
                refine startH (fun wq => Blk wq xb [.int .i64 0, .int .i64 fr, .int .i64 ky, .int .i64 of, .int .u8 v, .slice da dn dc]) (by kernel_rfl) ?_
                have HK0d := Lib.hid (HK.out.below (Below.refl _ _).drew)
                refine takeH 0 (some 74) (.pointer (some ⟨L.b, 0, none⟩)) rfl rfl (by kernel_rfl) (by kernel_rfl) (by kernel_rfl) (fun _ _ _ h => h) rfl (fun wq hS => by go_simp) HK0d.out.x ?_
                try simp only [Act.put, List.setIfInBounds_toArray, List.set_cons_succ, List.set_cons_zero]
                refine takeH 1 (some 75) (.pointer (some ⟨xb, 1, none⟩)) rfl rfl (by kernel_rfl) (by kernel_rfl) (by kernel_rfl) (fun _ _ _ h => h) rfl (fun wq hS => by go_simp) HK0d.out.x ?_
                try simp only [Act.put, List.setIfInBounds_toArray, List.set_cons_succ, List.set_cons_zero]
                refine takeH 2 (some 76) (.int .i64 fr) rfl rfl (by kernel_rfl) (by kernel_rfl) (by kernel_rfl) (fun _ _ _ h => h) rfl (fun wq hS => by have hq := hS.cell (i := 1) rfl; go_simp) HK0d.out.x ?_
                try simp only [Act.put, List.setIfInBounds_toArray, List.set_cons_succ, List.set_cons_zero]
                refine takeH 3 (some 77) (.pointer (some ⟨xb, 2, none⟩)) rfl rfl (by kernel_rfl) (by kernel_rfl) (by kernel_rfl) (fun _ _ _ h => h) rfl (fun wq hS => by go_simp) HK0d.out.x ?_
                try simp only [Act.put, List.setIfInBounds_toArray, List.set_cons_succ, List.set_cons_zero]
                refine takeH 4 (some 78) (.int .i64 ky) rfl rfl (by kernel_rfl) (by kernel_rfl) (by kernel_rfl) (fun _ _ _ h => h) rfl (fun wq hS => by have hq := hS.cell (i := 2) rfl; go_simp) HK0d.out.x ?_
                try simp only [Act.put, List.setIfInBounds_toArray, List.set_cons_succ, List.set_cons_zero]
                refine takeH 5 (some 79) (.pointer (some ⟨xb, 4, none⟩)) rfl rfl (by kernel_rfl) (by kernel_rfl) (by kernel_rfl) (fun _ _ _ h => h) rfl (fun wq hS => by go_simp) HK0d.out.x ?_
                try simp only [Act.put, List.setIfInBounds_toArray, List.set_cons_succ, List.set_cons_zero]
                refine takeH 6 (some 80) (.int .u8 v) rfl rfl (by kernel_rfl) (by kernel_rfl) (by kernel_rfl) (fun _ _ _ h => h) rfl (fun wq hS => by have hq := hS.cell (i := 4) rfl; go_simp) HK0d.out.x ?_
                try simp only [Act.put, List.setIfInBounds_toArray, List.set_cons_succ, List.set_cons_zero]
                refine takeH 9 (some 83) (.pointer (some ⟨R.b, 0, none⟩)) rfl rfl (by kernel_rfl) (by kernel_rfl) (by kernel_rfl) (fun _ _ _ h => h) rfl (fun wq hS => by go_simp) HK0d.out.x ?_
                try simp only [Act.put, List.setIfInBounds_toArray, List.set_cons_succ, List.set_cons_zero]
                refine takeH 10 (some 84) (.pointer (some ⟨xb, 1, none⟩)) rfl rfl (by kernel_rfl) (by kernel_rfl) (by kernel_rfl) (fun _ _ _ h => h) rfl (fun wq hS => by go_simp) HK0d.out.x ?_
                try simp only [Act.put, List.setIfInBounds_toArray, List.set_cons_succ, List.set_cons_zero]
                refine takeH 11 (some 85) (.int .i64 fr) rfl rfl (by kernel_rfl) (by kernel_rfl) (by kernel_rfl) (fun _ _ _ h => h) rfl (fun wq hS => by have hq := hS.cell (i := 1) rfl; go_simp) HK0d.out.x ?_
                try simp only [Act.put, List.setIfInBounds_toArray, List.set_cons_succ, List.set_cons_zero]
                refine takeH 12 (some 86) (.pointer (some ⟨xb, 2, none⟩)) rfl rfl (by kernel_rfl) (by kernel_rfl) (by kernel_rfl) (fun _ _ _ h => h) rfl (fun wq hS => by go_simp) HK0d.out.x ?_
                try simp only [Act.put, List.setIfInBounds_toArray, List.set_cons_succ, List.set_cons_zero]
                refine takeH 13 (some 87) (.int .i64 ky) rfl rfl (by kernel_rfl) (by kernel_rfl) (by kernel_rfl) (fun _ _ _ h => h) rfl (fun wq hS => by have hq := hS.cell (i := 2) rfl; go_simp) HK0d.out.x ?_
                try simp only [Act.put, List.setIfInBounds_toArray, List.set_cons_succ, List.set_cons_zero]
                refine takeH 14 (some 88) (.pointer (some ⟨xb, 4, none⟩)) rfl rfl (by kernel_rfl) (by kernel_rfl) (by kernel_rfl) (fun _ _ _ h => h) rfl (fun wq hS => by go_simp) HK0d.out.x ?_
                try simp only [Act.put, List.setIfInBounds_toArray, List.set_cons_succ, List.set_cons_zero]
                refine takeH 15 (some 89) (.int .u8 v) rfl rfl (by kernel_rfl) (by kernel_rfl) (by kernel_rfl) (fun _ _ _ h => h) rfl (fun wq hS => by have hq := hS.cell (i := 4) rfl; go_simp) HK0d.out.x ?_
                try simp only [Act.put, List.setIfInBounds_toArray, List.set_cons_succ, List.set_cons_zero]
                refine oneH 7 (by kernel_rfl) rfl rfl fun K hK => ?_
                go_simp
                refine (Leaf_any v _).mono ?_
                rintro e v1 ⟨rfl, hb⟩
                have HK1 := Lib.hid (HK0d.out.below hb)
                clear hb
                refine hK _ _ HK1.out.x ?_
                clear hK K
                try simp only [Act.put, List.setIfInBounds_toArray, List.set_cons_succ, List.set_cons_zero]
                refine oneH 8 (by kernel_rfl) rfl rfl fun K hK => ?_
                go_simp
                refine (fz_hold HK1.out.k.fz HOK.out fr ky (leaf_pg HVB.out)).mono ?_
                rintro e v2 ⟨rfl, hz, ho⟩
                have HK2 := Lib.hid (HK1.out.call hz ho)
                clear hz ho
                refine hK _ _ HK2.out.x ?_
                clear hK K
                try simp only [Act.put, List.setIfInBounds_toArray, List.set_cons_succ, List.set_cons_zero]
                refine oneH 16 (by kernel_rfl) rfl rfl fun K hK => ?_
                go_simp
                refine (Leaf_any v _).mono ?_
                rintro e v3 ⟨rfl, hb⟩
                have HK3 := Lib.hid (HK2.out.below hb)
                clear hb
                refine hK _ _ HK3.out.x ?_
                clear hK K
                try simp only [Act.put, List.setIfInBounds_toArray, List.set_cons_succ, List.set_cons_zero]
                refine oneH 17 (by kernel_rfl) rfl rfl fun K hK => ?_
                go_simp
                refine (rHold_any HK3.out.k.re HOK.out fr ky (leaf_pg HVB.out)).mono ?_
                rintro e v4 ⟨rfl, hr, ho⟩
                have HK4 := Lib.hid (HK3.out.rcall hr ho)
                clear hr ho
                refine hK _ _ HK4.out.x ?_
                clear hK K
                try simp only [Act.put, List.setIfInBounds_toArray, List.set_cons_succ, List.set_cons_zero]
                refine takeH 18 (some 11) (.bool (s.hold fr ky (leaf v)).1) rfl rfl (by kernel_rfl) (by kernel_rfl) (by kernel_rfl) (fun _ _ _ h => h) rfl (fun wq hS => by go_simp) HK4.out.x ?_
                try simp only [Act.put, List.setIfInBounds_toArray, List.set_cons_succ, List.set_cons_zero]
                refine takeH 19 (some 12) (.bool (s.hold fr ky (leaf v)).1) rfl rfl (by kernel_rfl) (by kernel_rfl) (by kernel_rfl) (fun _ _ _ h => h) rfl (fun wq hS => by go_simp) HK4.out.x ?_
                try simp only [Act.put, List.setIfInBounds_toArray, List.set_cons_succ, List.set_cons_zero]
                refine wpAnyH_done (by kernel_rfl) ?_ _
                go_wp2_with fail
                go_meet
                exact ⟨(s.hold fr ky (leaf v)).2, _, 0, rfl, rfl, rfl, rfl, HK4.out, (HOK.out.hold fr ky (leaf_pg HVB.out)).mono (by omega)⟩

            have d0 : (kd == 0) = false := by simpa using h0
            by_cases h1 : kd = 1
            · subst h1
              as_aux_lemma =>
                go_upto_region 17 with fail
                refine wp_region_lit ?_
                refine takeL (.pointer (some ⟨xb, 4, none⟩)) rfl (by go_simp) ?_
                try simp only [Act.put, List.setIfInBounds_toArray, List.set_cons_succ, List.set_cons_zero]
                refine takeL (.int .u8 v) rfl (by have hq := HK.out.x.cell (i := 4) rfl; go_simp) ?_
                try simp only [Act.put, List.setIfInBounds_toArray, List.set_cons_succ, List.set_cons_zero]
                refine takeL (.int .i64 v) rfl (by go_simp; exact Kl.wrap63 (by omega) (by omega)) ?_
                try simp only [Act.put, List.setIfInBounds_toArray, List.set_cons_succ, List.set_cons_zero]
                refine takeL (.pointer (some ⟨xb, 3, none⟩)) rfl (by go_simp) ?_
                try simp only [Act.put, List.setIfInBounds_toArray, List.set_cons_succ, List.set_cons_zero]
                refine takeL (.int .i64 of) rfl (by have hq := HK.out.x.cell (i := 3) rfl; go_simp) ?_
                try simp only [Act.put, List.setIfInBounds_toArray, List.set_cons_succ, List.set_cons_zero]
                refine takeL (.agg (i64s (vh v of)).toArray) rfl (by exact exec_build _ _ _ _ 41 _ rfl #[(0, .int .i64 v), (1, .int .i64 of)] (by simp only [List.map_toArray, List.map_cons, List.map_nil]; rfl) _ (run_build _ 41 _ _ (builtV v of))) ?_
                try simp only [Act.put, List.setIfInBounds_toArray, List.set_cons_succ, List.set_cons_zero]
                refine alloc_g zero41 rfl ?_
                intro wa hA hb hl
                try simp only [Act.put, List.setIfInBounds_toArray, List.set_cons_succ, List.set_cons_zero]
                refine store_all (cs := (i64s (vh v of)).toArray) hA (by simp [vh, zeros]) (by simp only [List.size_toArray, List.length_map]; exact info41) (i64s_one _) rfl rfl rfl ?_
                intro wb hD hO hlD
                try simp only [Act.put, List.setIfInBounds_toArray, List.set_cons_succ, List.set_cons_zero]
                have hbb : Below wx.heap.size wx wb := hb.trans (hO.below hb.size fun k hk => Nat.le_of_eq hk.symm)
                have HG15 : Hid (Blk wb wx.heap.size (i64s (vh v of))) := Lib.hid (by simpa using hD)
                have HKb := Lib.hid (HK.out.add HOK.out hbb HG15.out (Nat.le_refl _))
                clear hA hb hl hD hO hlD hbb HK
                have HK := HKb
                clear HKb
                generalize wx.heap.size = g15 at *
                refine wpList_nil ?_
                go_upto_region 18 with fail
                refine startH (fun wq => Blk wq xb [.int .i64 1, .int .i64 fr, .int .i64 ky, .int .i64 of, .int .u8 v, .slice da dn dc] ∧ Blk wq g15 (i64s (vh v of))) (by kernel_rfl) ?_
                have HK0d := Lib.hid (HK.out.below (Below.refl _ _).drew)
                have HG0 := Lib.hid HG15.out.drew
                refine takeH 0 (some 100) (.pointer (some ⟨L.b, 0, none⟩)) rfl rfl (by kernel_rfl) (by kernel_rfl) (by kernel_rfl) (fun _ _ _ h => h) rfl (fun wq hS => by go_simp) ⟨HK0d.out.x, HG0.out⟩ ?_
                try simp only [Act.put, List.setIfInBounds_toArray, List.set_cons_succ, List.set_cons_zero]
                refine takeH 1 (some 101) (.pointer (some ⟨xb, 1, none⟩)) rfl rfl (by kernel_rfl) (by kernel_rfl) (by kernel_rfl) (fun _ _ _ h => h) rfl (fun wq hS => by go_simp) ⟨HK0d.out.x, HG0.out⟩ ?_
                try simp only [Act.put, List.setIfInBounds_toArray, List.set_cons_succ, List.set_cons_zero]
                refine takeH 2 (some 102) (.int .i64 fr) rfl rfl (by kernel_rfl) (by kernel_rfl) (by kernel_rfl) (fun _ _ _ h => h) rfl (fun wq hS => by have hq := hS.1.cell (i := 1) rfl; go_simp) ⟨HK0d.out.x, HG0.out⟩ ?_
                try simp only [Act.put, List.setIfInBounds_toArray, List.set_cons_succ, List.set_cons_zero]
                refine takeH 3 (some 103) (.pointer (some ⟨xb, 2, none⟩)) rfl rfl (by kernel_rfl) (by kernel_rfl) (by kernel_rfl) (fun _ _ _ h => h) rfl (fun wq hS => by go_simp) ⟨HK0d.out.x, HG0.out⟩ ?_
                try simp only [Act.put, List.setIfInBounds_toArray, List.set_cons_succ, List.set_cons_zero]
                refine takeH 4 (some 104) (.int .i64 ky) rfl rfl (by kernel_rfl) (by kernel_rfl) (by kernel_rfl) (fun _ _ _ h => h) rfl (fun wq hS => by have hq := hS.1.cell (i := 2) rfl; go_simp) ⟨HK0d.out.x, HG0.out⟩ ?_
                try simp only [Act.put, List.setIfInBounds_toArray, List.set_cons_succ, List.set_cons_zero]
                refine takeH 5 (some 105) (.agg (i64s (vh v of)).toArray) rfl rfl (by kernel_rfl) (by kernel_rfl) (by kernel_rfl) (fun _ _ _ h => h) rfl (fun wq hS => by exact exec_load_at wq _ _ 41 _ rfl (g15) (0) rfl ((i64s (vh v of)).toArray) _ Tryz.underlying41 rfl (by simp only [List.size_toArray, List.length_map]; exact info41) (Blk.all hS.2 rfl)) ⟨HK0d.out.x, HG0.out⟩ ?_
                try simp only [Act.put, List.setIfInBounds_toArray, List.set_cons_succ, List.set_cons_zero]
                refine takeH 7 (some 107) (.pointer (some ⟨R.b, 0, none⟩)) rfl rfl (by kernel_rfl) (by kernel_rfl) (by kernel_rfl) (fun _ _ _ h => h) rfl (fun wq hS => by go_simp) ⟨HK0d.out.x, HG0.out⟩ ?_
                try simp only [Act.put, List.setIfInBounds_toArray, List.set_cons_succ, List.set_cons_zero]
                refine takeH 8 (some 108) (.pointer (some ⟨xb, 1, none⟩)) rfl rfl (by kernel_rfl) (by kernel_rfl) (by kernel_rfl) (fun _ _ _ h => h) rfl (fun wq hS => by go_simp) ⟨HK0d.out.x, HG0.out⟩ ?_
                try simp only [Act.put, List.setIfInBounds_toArray, List.set_cons_succ, List.set_cons_zero]
                refine takeH 9 (some 109) (.int .i64 fr) rfl rfl (by kernel_rfl) (by kernel_rfl) (by kernel_rfl) (fun _ _ _ h => h) rfl (fun wq hS => by have hq := hS.1.cell (i := 1) rfl; go_simp) ⟨HK0d.out.x, HG0.out⟩ ?_
                try simp only [Act.put, List.setIfInBounds_toArray, List.set_cons_succ, List.set_cons_zero]
                refine takeH 10 (some 110) (.pointer (some ⟨xb, 2, none⟩)) rfl rfl (by kernel_rfl) (by kernel_rfl) (by kernel_rfl) (fun _ _ _ h => h) rfl (fun wq hS => by go_simp) ⟨HK0d.out.x, HG0.out⟩ ?_
                try simp only [Act.put, List.setIfInBounds_toArray, List.set_cons_succ, List.set_cons_zero]
                refine takeH 11 (some 111) (.int .i64 ky) rfl rfl (by kernel_rfl) (by kernel_rfl) (by kernel_rfl) (fun _ _ _ h => h) rfl (fun wq hS => by have hq := hS.1.cell (i := 2) rfl; go_simp) ⟨HK0d.out.x, HG0.out⟩ ?_
                try simp only [Act.put, List.setIfInBounds_toArray, List.set_cons_succ, List.set_cons_zero]
                refine takeH 12 (some 112) (.agg (i64s (vh v of)).toArray) rfl rfl (by kernel_rfl) (by kernel_rfl) (by kernel_rfl) (fun _ _ _ h => h) rfl (fun wq hS => by exact exec_load_at wq _ _ 41 _ rfl (g15) (0) rfl ((i64s (vh v of)).toArray) _ Tryz.underlying41 rfl (by simp only [List.size_toArray, List.length_map]; exact info41) (Blk.all hS.2 rfl)) ⟨HK0d.out.x, HG0.out⟩ ?_
                try simp only [Act.put, List.setIfInBounds_toArray, List.set_cons_succ, List.set_cons_zero]
                refine oneH 6 (by kernel_rfl) rfl rfl fun K hK => ?_
                go_simp
                refine (fz_holdMap HK0d.out.k.fz HOK.out fr ky HSK.out (heads := vh v of) rfl).mono ?_
                rintro e v1 ⟨rfl, hz, ho⟩
                have HK1 := Lib.hid (HK0d.out.call hz ho)
                have HG1 := Lib.hid (HK0d.out.kept HG0.out (.inr rfl) ho)
                clear hz ho
                refine hK _ _ ⟨HK1.out.x, HG1.out⟩ ?_
                clear hK K
                try simp only [Act.put, List.setIfInBounds_toArray, List.set_cons_succ, List.set_cons_zero]
                refine oneH 13 (by kernel_rfl) rfl rfl fun K hK => ?_
                go_simp
                refine (rHoldMap_any HK1.out.k.re HOK.out fr ky (heads := vh v of) rfl).mono ?_
                rintro e v2 ⟨rfl, hr, ho⟩
                have HK2 := Lib.hid (HK1.out.rcall hr ho)
                have HG2 := Lib.hid (HK1.out.rkept HG1.out (.inr rfl) ho)
                clear hr ho
                refine hK _ _ ⟨HK2.out.x, HG2.out⟩ ?_
                clear hK K
                try simp only [Act.put, List.setIfInBounds_toArray, List.set_cons_succ, List.set_cons_zero]
                refine takeH 14 (some 11) (.bool (s.holdMap fr ky (vh v of)).1) rfl rfl (by kernel_rfl) (by kernel_rfl) (by kernel_rfl) (fun _ _ _ h => h) rfl (fun wq hS => by go_simp) ⟨HK2.out.x, HG2.out⟩ ?_
                try simp only [Act.put, List.setIfInBounds_toArray, List.set_cons_succ, List.set_cons_zero]
                refine takeH 15 (some 12) (.bool (s.holdMap fr ky (vh v of)).1) rfl rfl (by kernel_rfl) (by kernel_rfl) (by kernel_rfl) (fun _ _ _ h => h) rfl (fun wq hS => by go_simp) ⟨HK2.out.x, HG2.out⟩ ?_
                try simp only [Act.put, List.setIfInBounds_toArray, List.set_cons_succ, List.set_cons_zero]
                refine wpAnyH_done (by kernel_rfl) ?_ _
                have HKE := Lib.hid (HK2.out.less (X := fun q => q = xb) (fun q hq => .inl hq) rfl)
                go_wp2_with fail
                go_meet
                exact ⟨(s.holdMap fr ky (vh v of)).2, _, 0, rfl, rfl, rfl, rfl, HKE.out, (HOK.out.holdMap fr ky rfl).mono (by omega)⟩

            have d1 : (kd == 1) = false := by simpa using h1
            by_cases h2 : kd = 2
            · subst h2
              as_aux_lemma =>
                go_upto_region 20 with fail
                refine startH (fun wq => Blk wq xb [.int .i64 2, .int .i64 fr, .int .i64 ky, .int .i64 of, .int .u8 v, .slice da dn dc]) (by kernel_rfl) ?_
                have HK0d := Lib.hid (HK.out.below (Below.refl _ _).drew)
                refine takeH 0 (some 116) (.pointer (some ⟨L.b, 0, none⟩)) rfl rfl (by kernel_rfl) (by kernel_rfl) (by kernel_rfl) (fun _ _ _ h => h) rfl (fun wq hS => by go_simp) HK0d.out.x ?_
                try simp only [Act.put, List.setIfInBounds_toArray, List.set_cons_succ, List.set_cons_zero]
                refine takeH 1 (some 117) (.pointer (some ⟨xb, 2, none⟩)) rfl rfl (by kernel_rfl) (by kernel_rfl) (by kernel_rfl) (fun _ _ _ h => h) rfl (fun wq hS => by go_simp) HK0d.out.x ?_
                try simp only [Act.put, List.setIfInBounds_toArray, List.set_cons_succ, List.set_cons_zero]
                refine takeH 2 (some 118) (.int .i64 ky) rfl rfl (by kernel_rfl) (by kernel_rfl) (by kernel_rfl) (fun _ _ _ h => h) rfl (fun wq hS => by have hq := hS.cell (i := 2) rfl; go_simp) HK0d.out.x ?_
                try simp only [Act.put, List.setIfInBounds_toArray, List.set_cons_succ, List.set_cons_zero]
                refine takeH 3 (some 119) (.pointer (some ⟨xb, 3, none⟩)) rfl rfl (by kernel_rfl) (by kernel_rfl) (by kernel_rfl) (fun _ _ _ h => h) rfl (fun wq hS => by go_simp) HK0d.out.x ?_
                try simp only [Act.put, List.setIfInBounds_toArray, List.set_cons_succ, List.set_cons_zero]
                refine takeH 4 (some 120) (.int .i64 of) rfl rfl (by kernel_rfl) (by kernel_rfl) (by kernel_rfl) (fun _ _ _ h => h) rfl (fun wq hS => by have hq := hS.cell (i := 3) rfl; go_simp) HK0d.out.x ?_
                try simp only [Act.put, List.setIfInBounds_toArray, List.set_cons_succ, List.set_cons_zero]
                refine takeH 6 (some 122) (.pointer (some ⟨xb, 5, none⟩)) rfl rfl (by kernel_rfl) (by kernel_rfl) (by kernel_rfl) (fun _ _ _ h => h) rfl (fun wq hS => by go_simp) HK0d.out.x ?_
                try simp only [Act.put, List.setIfInBounds_toArray, List.set_cons_succ, List.set_cons_zero]
                refine takeH 7 (some 123) (.slice da dn dc) rfl rfl (by kernel_rfl) (by kernel_rfl) (by kernel_rfl) (fun _ _ _ h => h) rfl (fun wq hS => by have hq := hS.cell (i := 5) rfl; go_simp) HK0d.out.x ?_
                try simp only [Act.put, List.setIfInBounds_toArray, List.set_cons_succ, List.set_cons_zero]
                refine takeH 10 (some 126) (.pointer (some ⟨R.b, 0, none⟩)) rfl rfl (by kernel_rfl) (by kernel_rfl) (by kernel_rfl) (fun _ _ _ h => h) rfl (fun wq hS => by go_simp) HK0d.out.x ?_
                try simp only [Act.put, List.setIfInBounds_toArray, List.set_cons_succ, List.set_cons_zero]
                refine takeH 11 (some 127) (.pointer (some ⟨xb, 2, none⟩)) rfl rfl (by kernel_rfl) (by kernel_rfl) (by kernel_rfl) (fun _ _ _ h => h) rfl (fun wq hS => by go_simp) HK0d.out.x ?_
                try simp only [Act.put, List.setIfInBounds_toArray, List.set_cons_succ, List.set_cons_zero]
                refine takeH 12 (some 128) (.int .i64 ky) rfl rfl (by kernel_rfl) (by kernel_rfl) (by kernel_rfl) (fun _ _ _ h => h) rfl (fun wq hS => by have hq := hS.cell (i := 2) rfl; go_simp) HK0d.out.x ?_
                try simp only [Act.put, List.setIfInBounds_toArray, List.set_cons_succ, List.set_cons_zero]
                refine takeH 13 (some 129) (.pointer (some ⟨xb, 3, none⟩)) rfl rfl (by kernel_rfl) (by kernel_rfl) (by kernel_rfl) (fun _ _ _ h => h) rfl (fun wq hS => by go_simp) HK0d.out.x ?_
                try simp only [Act.put, List.setIfInBounds_toArray, List.set_cons_succ, List.set_cons_zero]
                refine takeH 14 (some 130) (.int .i64 of) rfl rfl (by kernel_rfl) (by kernel_rfl) (by kernel_rfl) (fun _ _ _ h => h) rfl (fun wq hS => by have hq := hS.cell (i := 3) rfl; go_simp) HK0d.out.x ?_
                try simp only [Act.put, List.setIfInBounds_toArray, List.set_cons_succ, List.set_cons_zero]
                refine takeH 15 (some 131) (.pointer (some ⟨xb, 5, none⟩)) rfl rfl (by kernel_rfl) (by kernel_rfl) (by kernel_rfl) (fun _ _ _ h => h) rfl (fun wq hS => by go_simp) HK0d.out.x ?_
                try simp only [Act.put, List.setIfInBounds_toArray, List.set_cons_succ, List.set_cons_zero]
                refine takeH 16 (some 132) (.slice da dn dc) rfl rfl (by kernel_rfl) (by kernel_rfl) (by kernel_rfl) (fun _ _ _ h => h) rfl (fun wq hS => by have hq := hS.cell (i := 5) rfl; go_simp) HK0d.out.x ?_
                try simp only [Act.put, List.setIfInBounds_toArray, List.set_cons_succ, List.set_cons_zero]
                refine oneH 5 (by kernel_rfl) rfl rfl fun K hK => ?_
                refine wp_runTo (some 121) rfl (.slice (some ⟨wx.drew.heap.size, 0, none⟩) 0 0) (wx.drew.alloc (.cells #[] 5)) (by go_simp) ?_
                have hbl : Below wx.drew.heap.size wx.drew (wx.drew.alloc (.cells #[] 5)) := (Below.refl _ _).alloc (Nat.le_refl _) _
                have HLT : Hid (Own (wx.drew.alloc (.cells #[] 5)) wx.drew.heap.size (.slice (some ⟨wx.drew.heap.size, 0, none⟩) 0 0) []) := Lib.hid (Own.lit wx.drew wx.drew.heap.size (Nat.le_refl _) [] (by simp) _ rfl)
                have HK1 := Lib.hid (HK0d.out.below hbl)
                have HBL := Lib.hid hbl
                have HSZ : Hid (wx.drew.heap.size ≤ (wx.drew.alloc (.cells #[] 5)).heap.size) := Lib.hid hbl.size
                clear hbl
                refine hK _ _ (HK1.out.x) ?_
                clear hK K
                try simp only [Act.put, List.setIfInBounds_toArray, List.set_cons_succ, List.set_cons_zero]
                refine oneH 8 (by kernel_rfl) rfl rfl fun K hK => ?_
                refine app_W _ _ (some 124) rfl rfl HLT.out HSZ.out (HDB.out.below HK1.out.k.fz.bel) (by have := HDL.out; simp only [List.length_nil]; omega) rfl rfl fun sv' v2 ho2 hb2 => ?_
                have HAP := Lib.hid ho2
                have HK2 := Lib.hid (HK0d.out.below (HBL.out.trans hb2))
                clear ho2 hb2
                refine hK _ _ (HK2.out.x) ?_
                clear hK K
                try simp only [Act.put, List.setIfInBounds_toArray, List.set_cons_succ, List.set_cons_zero]
                refine oneH 9 (by kernel_rfl) rfl rfl fun K hK => ?_
                go_simp
                refine (fz_write HK2.out.k.fz HOK.out HEV.out ky of _ dd HDL.out HAP.out.bytes).mono ?_
                rintro e v3 ⟨rfl, hz, ho⟩
                have HK3 := Lib.hid (HK2.out.call hz ho)
                clear hz ho
                refine hK _ _ HK3.out.x ?_
                clear hK K
                try simp only [Act.put, List.setIfInBounds_toArray, List.set_cons_succ, List.set_cons_zero]
                refine oneH 17 (by kernel_rfl) rfl rfl fun K hK => ?_
                go_simp
                refine (rWrite_any HK3.out.k.re HOK.out ky of _ dd HDL.out (HDB.out.below HK3.out.k.fz.bel)).mono ?_
                rintro e v4 ⟨rfl, hr, ho⟩
                have HK4 := Lib.hid (HK3.out.rcall hr ho)
                clear hr ho
                refine hK _ _ HK4.out.x ?_
                clear hK K
                try simp only [Act.put, List.setIfInBounds_toArray, List.set_cons_succ, List.set_cons_zero]
                refine takeH 18 (some 13) (.int .i64 (s.write ky of dd).1) rfl rfl (by kernel_rfl) (by kernel_rfl) (by kernel_rfl) (fun _ _ _ h => h) rfl (fun wq hS => by go_simp) HK4.out.x ?_
                try simp only [Act.put, List.setIfInBounds_toArray, List.set_cons_succ, List.set_cons_zero]
                refine takeH 19 (some 14) (.int .i64 (s.write ky of dd).1) rfl rfl (by kernel_rfl) (by kernel_rfl) (by kernel_rfl) (fun _ _ _ h => h) rfl (fun wq hS => by go_simp) HK4.out.x ?_
                try simp only [Act.put, List.setIfInBounds_toArray, List.set_cons_succ, List.set_cons_zero]
                refine wpAnyH_done (by kernel_rfl) ?_ _
                go_wp2_with fail
                go_meet
                exact ⟨(s.write ky of dd).2, false, _, rfl, rfl, rfl, rfl, HK4.out, (HOK.out.write ky of HDY.out).mono (by omega)⟩

            have d2 : (kd == 2) = false := by simpa using h2
            by_cases h3 : kd = 3
            · subst h3
              as_aux_lemma =>
                have x2 := HK.out.x.cell (i := 2) rfl
                go_wp2_with fail
                refine (fz_clean HK.out.k.fz HOK.out ky).mono ?_
                rintro e w6 ⟨rfl, hz, ho⟩
                have HK6 := Lib.hid (HK.out.call hz ho)
                have x6 := HK6.out.x.cell (i := 2) rfl
                clear hz ho x2
                go_wp2_with fail
                refine (rClean_any HK6.out.k.re HOK.out ky).mono ?_
                rintro e w7 ⟨rfl, hr, ho⟩
                have HK7 := Lib.hid (HK6.out.rcall hr ho)
                clear hr ho x6
                go_wp2_with fail
                go_meet
                exact ⟨s.clean ky, false, 0, rfl, rfl, rfl, rfl, HK7.out, (HOK.out.clean ky).mono (by omega)⟩

            have d3 : (kd == 3) = false := by simpa using h3
            by_cases h4 : kd = 4
            · subst h4
              as_aux_lemma =>
                go_upto_region 25 with fail
                refine startH (fun wq => Blk wq xb [.int .i64 4, .int .i64 fr, .int .i64 ky, .int .i64 of, .int .u8 v, .slice da dn dc]) (by kernel_rfl) ?_
                have HK0d := Lib.hid (HK.out.below (Below.refl _ _).drew)
                refine takeH 0 (some 146) (.pointer (some ⟨L.b, 0, none⟩)) rfl rfl (by kernel_rfl) (by kernel_rfl) (by kernel_rfl) (fun _ _ _ h => h) rfl (fun wq hS => by go_simp) HK0d.out.x ?_
                try simp only [Act.put, List.setIfInBounds_toArray, List.set_cons_succ, List.set_cons_zero]
                refine takeH 1 (some 147) (.pointer (some ⟨xb, 2, none⟩)) rfl rfl (by kernel_rfl) (by kernel_rfl) (by kernel_rfl) (fun _ _ _ h => h) rfl (fun wq hS => by go_simp) HK0d.out.x ?_
                try simp only [Act.put, List.setIfInBounds_toArray, List.set_cons_succ, List.set_cons_zero]
                refine takeH 2 (some 148) (.int .i64 ky) rfl rfl (by kernel_rfl) (by kernel_rfl) (by kernel_rfl) (fun _ _ _ h => h) rfl (fun wq hS => by have hq := hS.cell (i := 2) rfl; go_simp) HK0d.out.x ?_
                try simp only [Act.put, List.setIfInBounds_toArray, List.set_cons_succ, List.set_cons_zero]
                refine takeH 4 (some 150) (.pointer (some ⟨R.b, 0, none⟩)) rfl rfl (by kernel_rfl) (by kernel_rfl) (by kernel_rfl) (fun _ _ _ h => h) rfl (fun wq hS => by go_simp) HK0d.out.x ?_
                try simp only [Act.put, List.setIfInBounds_toArray, List.set_cons_succ, List.set_cons_zero]
                refine takeH 5 (some 151) (.pointer (some ⟨xb, 2, none⟩)) rfl rfl (by kernel_rfl) (by kernel_rfl) (by kernel_rfl) (fun _ _ _ h => h) rfl (fun wq hS => by go_simp) HK0d.out.x ?_
                try simp only [Act.put, List.setIfInBounds_toArray, List.set_cons_succ, List.set_cons_zero]
                refine takeH 6 (some 152) (.int .i64 ky) rfl rfl (by kernel_rfl) (by kernel_rfl) (by kernel_rfl) (fun _ _ _ h => h) rfl (fun wq hS => by have hq := hS.cell (i := 2) rfl; go_simp) HK0d.out.x ?_
                try simp only [Act.put, List.setIfInBounds_toArray, List.set_cons_succ, List.set_cons_zero]
                refine oneH 3 (by kernel_rfl) rfl rfl fun K hK => ?_
                go_simp
                refine (fz_forget HK0d.out.k.fz HOK.out ky).mono ?_
                rintro e v1 ⟨rfl, hz, ho⟩
                have HK1 := Lib.hid (HK0d.out.call hz ho)
                clear hz ho
                refine hK _ _ HK1.out.x ?_
                clear hK K
                try simp only [Act.put, List.setIfInBounds_toArray, List.set_cons_succ, List.set_cons_zero]
                refine oneH 7 (by kernel_rfl) rfl rfl fun K hK => ?_
                go_simp
                refine (rForget_any HK1.out.k.re HOK.out ky).mono ?_
                rintro e v2 ⟨rfl, hr, ho⟩
                have HK2 := Lib.hid (HK1.out.rcall hr ho)
                clear hr ho
                refine hK _ _ HK2.out.x ?_
                clear hK K
                try simp only [Act.put, List.setIfInBounds_toArray, List.set_cons_succ, List.set_cons_zero]
                refine takeH 8 (some 11) (.bool (s.forgets ky)) rfl rfl (by kernel_rfl) (by kernel_rfl) (by kernel_rfl) (fun _ _ _ h => h) rfl (fun wq hS => by go_simp) HK2.out.x ?_
                try simp only [Act.put, List.setIfInBounds_toArray, List.set_cons_succ, List.set_cons_zero]
                refine takeH 9 (some 12) (.bool (s.forgets ky)) rfl rfl (by kernel_rfl) (by kernel_rfl) (by kernel_rfl) (fun _ _ _ h => h) rfl (fun wq hS => by go_simp) HK2.out.x ?_
                try simp only [Act.put, List.setIfInBounds_toArray, List.set_cons_succ, List.set_cons_zero]
                refine wpAnyH_done (by kernel_rfl) ?_ _
                go_wp2_with fail
                go_meet
                exact ⟨s.forget ky, _, 0, rfl, rfl, rfl, rfl, HK2.out, (HOK.out.forget ky).mono (by omega)⟩

            have d4 : (kd == 4) = false := by simpa using h4
            by_cases h5 : kd = 5
            · subst h5
              as_aux_lemma =>
                go_upto_region 27 with fail
                refine startH (fun wq => Blk wq xb [.int .i64 5, .int .i64 fr, .int .i64 ky, .int .i64 of, .int .u8 v, .slice da dn dc] ∧ wq.cell? ⟨R.b, 0, none⟩ = some (.pointer (some ⟨R.cb, 0, none⟩))) (by kernel_rfl) ?_
                have HK0d := Lib.hid (HK.out.below (Below.refl _ _).drew)
                refine takeH 0 (some 156) (.pointer (some ⟨L.b, 0, none⟩)) rfl rfl (by kernel_rfl) (by kernel_rfl) (by kernel_rfl) (fun _ _ _ h => h) rfl (fun wq hS => by go_simp) ⟨HK0d.out.x, HK0d.out.k.re.blk.cell (i := 0) rfl⟩ ?_
                try simp only [Act.put, List.setIfInBounds_toArray, List.set_cons_succ, List.set_cons_zero]
                refine takeH 2 (some 158) (.pointer (some ⟨xb, 1, none⟩)) rfl rfl (by kernel_rfl) (by kernel_rfl) (by kernel_rfl) (fun _ _ _ h => h) rfl (fun wq hS => by go_simp) ⟨HK0d.out.x, HK0d.out.k.re.blk.cell (i := 0) rfl⟩ ?_
                try simp only [Act.put, List.setIfInBounds_toArray, List.set_cons_succ, List.set_cons_zero]
                refine takeH 3 (some 159) (.int .i64 fr) rfl rfl (by kernel_rfl) (by kernel_rfl) (by kernel_rfl) (fun _ _ _ h => h) rfl (fun wq hS => by have hq := hS.1.cell (i := 1) rfl; go_simp) ⟨HK0d.out.x, HK0d.out.k.re.blk.cell (i := 0) rfl⟩ ?_
                try simp only [Act.put, List.setIfInBounds_toArray, List.set_cons_succ, List.set_cons_zero]
                refine takeH 5 (some 161) (.pointer (some ⟨R.b, 0, none⟩)) rfl rfl (by kernel_rfl) (by kernel_rfl) (by kernel_rfl) (fun _ _ _ h => h) rfl (fun wq hS => by go_simp) ⟨HK0d.out.x, HK0d.out.k.re.blk.cell (i := 0) rfl⟩ ?_
                try simp only [Act.put, List.setIfInBounds_toArray, List.set_cons_succ, List.set_cons_zero]
                refine takeH 6 (some 162) (.pointer (some ⟨R.b, 0, none⟩)) rfl rfl (by kernel_rfl) (by kernel_rfl) (by kernel_rfl) (fun _ _ _ h => h) rfl (fun wq hS => by go_simp) ⟨HK0d.out.x, HK0d.out.k.re.blk.cell (i := 0) rfl⟩ ?_
                try simp only [Act.put, List.setIfInBounds_toArray, List.set_cons_succ, List.set_cons_zero]
                refine takeH 7 (some 163) (.pointer (some ⟨R.b, 0, none⟩)) rfl rfl (by kernel_rfl) (by kernel_rfl) (by kernel_rfl) (fun _ _ _ h => h) rfl (fun wq hS => by go_simp) ⟨HK0d.out.x, HK0d.out.k.re.blk.cell (i := 0) rfl⟩ ?_
                try simp only [Act.put, List.setIfInBounds_toArray, List.set_cons_succ, List.set_cons_zero]
                refine takeH 8 (some 164) (.pointer (some ⟨R.cb, 0, none⟩)) rfl rfl (by kernel_rfl) (by kernel_rfl) (by kernel_rfl) (fun _ _ _ h => h) rfl (fun wq hS => by have hq := hS.2; go_simp) ⟨HK0d.out.x, HK0d.out.k.re.blk.cell (i := 0) rfl⟩ ?_
                try simp only [Act.put, List.setIfInBounds_toArray, List.set_cons_succ, List.set_cons_zero]
                refine takeH 9 (some 165) (.pointer (some ⟨xb, 1, none⟩)) rfl rfl (by kernel_rfl) (by kernel_rfl) (by kernel_rfl) (fun _ _ _ h => h) rfl (fun wq hS => by go_simp) ⟨HK0d.out.x, HK0d.out.k.re.blk.cell (i := 0) rfl⟩ ?_
                try simp only [Act.put, List.setIfInBounds_toArray, List.set_cons_succ, List.set_cons_zero]
                refine takeH 10 (some 166) (.int .i64 fr) rfl rfl (by kernel_rfl) (by kernel_rfl) (by kernel_rfl) (fun _ _ _ h => h) rfl (fun wq hS => by have hq := hS.1.cell (i := 1) rfl; go_simp) ⟨HK0d.out.x, HK0d.out.k.re.blk.cell (i := 0) rfl⟩ ?_
                try simp only [Act.put, List.setIfInBounds_toArray, List.set_cons_succ, List.set_cons_zero]
                refine oneH 1 (by kernel_rfl) rfl rfl fun K hK => ?_
                go_simp
                refine (fz_clock HK0d.out.k.fz).mono ?_
                rintro e vc ⟨rfl, rfl⟩
                refine hK _ _ ⟨HK0d.out.x, HK0d.out.k.re.blk.cell (i := 0) rfl⟩ ?_
                clear hK K
                try simp only [Act.put, List.setIfInBounds_toArray, List.set_cons_succ, List.set_cons_zero]
                refine oneH 4 (by kernel_rfl) rfl rfl fun K hK => ?_
                go_simp
                refine (fz_pin HK0d.out.k.fz HOK.out HB6.out fr).mono ?_
                rintro e v1 ⟨rfl, hz, ho⟩
                have HK1 := Lib.hid (HK0d.out.call hz ho)
                clear hz ho
                refine hK _ _ ⟨HK1.out.x, HK1.out.k.re.blk.cell (i := 0) rfl⟩ ?_
                clear hK K
                try simp only [Act.put, List.setIfInBounds_toArray, List.set_cons_succ, List.set_cons_zero]
                refine oneH 11 (by kernel_rfl) rfl rfl fun K hK => ?_
                go_simp
                refine (rpin_any _ R.cb R.cr R.cap R.tl s.c HK1.out.k.re.clk HOK.out.ck HB6.out fr).mono ?_
                rintro e v2 ⟨rfl, hc, hon⟩
                have HK2 := Lib.hid (HK1.out.rcall (HK1.out.k.re.clock hc hon (Ck.pin_len _ _)) (Only.rfoot hon))
                clear hc hon
                refine hK _ _ ⟨HK2.out.x, HK2.out.k.re.blk.cell (i := 0) rfl⟩ ?_
                clear hK K
                try simp only [Act.put, List.setIfInBounds_toArray, List.set_cons_succ, List.set_cons_zero]
                refine takeH 12 (some 11) (.bool (s.c.keyed fr)) rfl rfl (by kernel_rfl) (by kernel_rfl) (by kernel_rfl) (fun _ _ _ h => h) rfl (fun wq hS => by go_simp) ⟨HK2.out.x, HK2.out.k.re.blk.cell (i := 0) rfl⟩ ?_
                try simp only [Act.put, List.setIfInBounds_toArray, List.set_cons_succ, List.set_cons_zero]
                refine takeH 13 (some 12) (.bool (s.c.keyed fr)) rfl rfl (by kernel_rfl) (by kernel_rfl) (by kernel_rfl) (fun _ _ _ h => h) rfl (fun wq hS => by go_simp) ⟨HK2.out.x, HK2.out.k.re.blk.cell (i := 0) rfl⟩ ?_
                try simp only [Act.put, List.setIfInBounds_toArray, List.set_cons_succ, List.set_cons_zero]
                refine wpAnyH_done (by kernel_rfl) ?_ _
                go_wp2_with fail
                go_meet
                exact ⟨⟨s.c.pin fr, s.h⟩, _, 0, rfl, rfl, rfl, rfl, HK2.out, HOK.out.pin fr⟩

            have d5 : (kd == 5) = false := by simpa using h5
            by_cases h6 : kd = 6
            · subst h6
              as_aux_lemma =>
                go_upto_region 29 with fail
                refine startH (fun wq => Blk wq xb [.int .i64 6, .int .i64 fr, .int .i64 ky, .int .i64 of, .int .u8 v, .slice da dn dc] ∧ wq.cell? ⟨R.b, 0, none⟩ = some (.pointer (some ⟨R.cb, 0, none⟩))) (by kernel_rfl) ?_
                have HK0d := Lib.hid (HK.out.below (Below.refl _ _).drew)
                refine takeH 0 (some 170) (.pointer (some ⟨L.b, 0, none⟩)) rfl rfl (by kernel_rfl) (by kernel_rfl) (by kernel_rfl) (fun _ _ _ h => h) rfl (fun wq hS => by go_simp) ⟨HK0d.out.x, HK0d.out.k.re.blk.cell (i := 0) rfl⟩ ?_
                try simp only [Act.put, List.setIfInBounds_toArray, List.set_cons_succ, List.set_cons_zero]
                refine takeH 2 (some 172) (.pointer (some ⟨xb, 1, none⟩)) rfl rfl (by kernel_rfl) (by kernel_rfl) (by kernel_rfl) (fun _ _ _ h => h) rfl (fun wq hS => by go_simp) ⟨HK0d.out.x, HK0d.out.k.re.blk.cell (i := 0) rfl⟩ ?_
                try simp only [Act.put, List.setIfInBounds_toArray, List.set_cons_succ, List.set_cons_zero]
                refine takeH 3 (some 173) (.int .i64 fr) rfl rfl (by kernel_rfl) (by kernel_rfl) (by kernel_rfl) (fun _ _ _ h => h) rfl (fun wq hS => by have hq := hS.1.cell (i := 1) rfl; go_simp) ⟨HK0d.out.x, HK0d.out.k.re.blk.cell (i := 0) rfl⟩ ?_
                try simp only [Act.put, List.setIfInBounds_toArray, List.set_cons_succ, List.set_cons_zero]
                refine takeH 5 (some 175) (.pointer (some ⟨R.b, 0, none⟩)) rfl rfl (by kernel_rfl) (by kernel_rfl) (by kernel_rfl) (fun _ _ _ h => h) rfl (fun wq hS => by go_simp) ⟨HK0d.out.x, HK0d.out.k.re.blk.cell (i := 0) rfl⟩ ?_
                try simp only [Act.put, List.setIfInBounds_toArray, List.set_cons_succ, List.set_cons_zero]
                refine takeH 6 (some 176) (.pointer (some ⟨R.b, 0, none⟩)) rfl rfl (by kernel_rfl) (by kernel_rfl) (by kernel_rfl) (fun _ _ _ h => h) rfl (fun wq hS => by go_simp) ⟨HK0d.out.x, HK0d.out.k.re.blk.cell (i := 0) rfl⟩ ?_
                try simp only [Act.put, List.setIfInBounds_toArray, List.set_cons_succ, List.set_cons_zero]
                refine takeH 7 (some 177) (.pointer (some ⟨R.b, 0, none⟩)) rfl rfl (by kernel_rfl) (by kernel_rfl) (by kernel_rfl) (fun _ _ _ h => h) rfl (fun wq hS => by go_simp) ⟨HK0d.out.x, HK0d.out.k.re.blk.cell (i := 0) rfl⟩ ?_
                try simp only [Act.put, List.setIfInBounds_toArray, List.set_cons_succ, List.set_cons_zero]
                refine takeH 8 (some 178) (.pointer (some ⟨R.cb, 0, none⟩)) rfl rfl (by kernel_rfl) (by kernel_rfl) (by kernel_rfl) (fun _ _ _ h => h) rfl (fun wq hS => by have hq := hS.2; go_simp) ⟨HK0d.out.x, HK0d.out.k.re.blk.cell (i := 0) rfl⟩ ?_
                try simp only [Act.put, List.setIfInBounds_toArray, List.set_cons_succ, List.set_cons_zero]
                refine takeH 9 (some 179) (.pointer (some ⟨xb, 1, none⟩)) rfl rfl (by kernel_rfl) (by kernel_rfl) (by kernel_rfl) (fun _ _ _ h => h) rfl (fun wq hS => by go_simp) ⟨HK0d.out.x, HK0d.out.k.re.blk.cell (i := 0) rfl⟩ ?_
                try simp only [Act.put, List.setIfInBounds_toArray, List.set_cons_succ, List.set_cons_zero]
                refine takeH 10 (some 180) (.int .i64 fr) rfl rfl (by kernel_rfl) (by kernel_rfl) (by kernel_rfl) (fun _ _ _ h => h) rfl (fun wq hS => by have hq := hS.1.cell (i := 1) rfl; go_simp) ⟨HK0d.out.x, HK0d.out.k.re.blk.cell (i := 0) rfl⟩ ?_
                try simp only [Act.put, List.setIfInBounds_toArray, List.set_cons_succ, List.set_cons_zero]
                refine oneH 1 (by kernel_rfl) rfl rfl fun K hK => ?_
                go_simp
                refine (fz_clock HK0d.out.k.fz).mono ?_
                rintro e vc ⟨rfl, rfl⟩
                refine hK _ _ ⟨HK0d.out.x, HK0d.out.k.re.blk.cell (i := 0) rfl⟩ ?_
                clear hK K
                try simp only [Act.put, List.setIfInBounds_toArray, List.set_cons_succ, List.set_cons_zero]
                refine oneH 4 (by kernel_rfl) rfl rfl fun K hK => ?_
                go_simp
                refine (fz_unpin HK0d.out.k.fz HOK.out HB6.out fr).mono ?_
                rintro e v1 ⟨rfl, hz, ho⟩
                have HK1 := Lib.hid (HK0d.out.call hz ho)
                clear hz ho
                refine hK _ _ ⟨HK1.out.x, HK1.out.k.re.blk.cell (i := 0) rfl⟩ ?_
                clear hK K
                try simp only [Act.put, List.setIfInBounds_toArray, List.set_cons_succ, List.set_cons_zero]
                refine oneH 11 (by kernel_rfl) rfl rfl fun K hK => ?_
                go_simp
                refine (runpin_any _ R.cb R.cr R.cap R.tl s.c HK1.out.k.re.clk HOK.out.ck HB6.out fr).mono ?_
                rintro e v2 ⟨rfl, hc, hon⟩
                have HK2 := Lib.hid (HK1.out.rcall (HK1.out.k.re.clock hc hon (Ck.unpin_len _ _)) (Only.rfoot hon))
                clear hc hon
                refine hK _ _ ⟨HK2.out.x, HK2.out.k.re.blk.cell (i := 0) rfl⟩ ?_
                clear hK K
                try simp only [Act.put, List.setIfInBounds_toArray, List.set_cons_succ, List.set_cons_zero]
                refine takeH 12 (some 11) (.bool (s.c.pinnedAt fr)) rfl rfl (by kernel_rfl) (by kernel_rfl) (by kernel_rfl) (fun _ _ _ h => h) rfl (fun wq hS => by go_simp) ⟨HK2.out.x, HK2.out.k.re.blk.cell (i := 0) rfl⟩ ?_
                try simp only [Act.put, List.setIfInBounds_toArray, List.set_cons_succ, List.set_cons_zero]
                refine takeH 13 (some 12) (.bool (s.c.pinnedAt fr)) rfl rfl (by kernel_rfl) (by kernel_rfl) (by kernel_rfl) (fun _ _ _ h => h) rfl (fun wq hS => by go_simp) ⟨HK2.out.x, HK2.out.k.re.blk.cell (i := 0) rfl⟩ ?_
                try simp only [Act.put, List.setIfInBounds_toArray, List.set_cons_succ, List.set_cons_zero]
                refine wpAnyH_done (by kernel_rfl) ?_ _
                go_wp2_with fail
                go_meet
                exact ⟨⟨s.c.unpin fr, s.h⟩, _, 0, rfl, rfl, rfl, rfl, HK2.out, (HOK.out.unpin fr).mono (by omega)⟩

            have d6 : (kd == 6) = false := by simpa using h6
            as_aux_lemma =>
              go_wp2_with fail
              go_meet
              exact ⟨s, false, 0, rfl, rfl, rfl, rfl, HK.out, HOK.out.mono (by omega)⟩

        case rest =>
          as_aux_lemma =>
            obtain ⟨s5, b, m, rfl, rfl, rfl, rfl, h1, h2⟩ := hcut
            have HK5 := Lib.hid h1
            have HO5 := Lib.hid h2
            clear h1 h2 HK HOK
            generalize wc = w4 at *
            go_upto_region 30 with fail
            go_cut [197] from 182 to 299 (fun s197 wz => s197 = .bool false ∧ Py W wz L R (fun q => q = xb) xb s5 s5 [.int .i64 kd, .int .i64 fr, .int .i64 ky, .int .i64 of, .int .u8 v, .slice da dn dc])
            case first =>
              as_aux_lemma =>
                have em : (m != m) = false := by simp
                have HDI := Lib.hid (fz_dirty HK5.out.k.fz HO5.out)
                have HDR := Lib.hid fun (w' : World) (hb : Below w4.heap.size w4 w') => rDirty_any (HK5.out.k.re.below hb) HO5.out
                have HDL5 := Lib.hid (dirties_len HO5.out)
                cases b with
                | true =>
                  go_wp2_with fail
                  refine HDI.out.mono ?_
                  rintro e w6 ⟨dv1, rfl, ho1, hb1⟩
                  have HI1 := Lib.hid ho1.ints
                  have HB1 := Lib.hid hb1
                  clear ho1 hb1
                  go_wp2_with fail
                  refine (HDR.out _ HB1.out).mono ?_
                  rintro e w7 ⟨dv2, rfl, ho2, hb2⟩
                  have HI2 := Lib.hid ho2.ints
                  have HI1b := Lib.hid (HI1.out.below hb2)
                  have HB2 := Lib.hid (stay HB1.out hb2)
                  clear ho2 hb2 HI1
                  go_wp2_with fail
                  refine (intsT HI1b.out HI2.out (by have := HDL5.out; omega)).mono ?_
                  rintro e w8 ⟨rfl, hb3⟩
                  have HB3 := Lib.hid (stay HB2.out hb3)
                  clear hb3
                  go_wp2_with fail
                  go_meet
                  exact ⟨rfl, HK5.out.below HB3.out⟩
                | false =>
                  go_wp2_with fail
                  refine HDI.out.mono ?_
                  rintro e w6 ⟨dv1, rfl, ho1, hb1⟩
                  have HI1 := Lib.hid ho1.ints
                  have HB1 := Lib.hid hb1
                  clear ho1 hb1
                  go_wp2_with fail
                  refine (HDR.out _ HB1.out).mono ?_
                  rintro e w7 ⟨dv2, rfl, ho2, hb2⟩
                  have HI2 := Lib.hid ho2.ints
                  have HI1b := Lib.hid (HI1.out.below hb2)
                  have HB2 := Lib.hid (stay HB1.out hb2)
                  clear ho2 hb2 HI1
                  go_wp2_with fail
                  refine (intsT HI1b.out HI2.out (by have := HDL5.out; omega)).mono ?_
                  rintro e w8 ⟨rfl, hb3⟩
                  have HB3 := Lib.hid (stay HB2.out hb3)
                  clear hb3
                  go_wp2_with fail
                  go_meet
                  exact ⟨rfl, HK5.out.below HB3.out⟩

            case rest =>
              as_aux_lemma =>
                obtain ⟨rfl, h1⟩ := hcut
                have HKn := Lib.hid h1
                clear h1 HK5
                have HK5 := HKn
                clear HKn
                generalize wc = w5 at *
                go_wp2_with fail
                go_loopg [16] 12 (fun q i wj => ∃ j : Nat, 12 - j ≤ q ∧ j ≤ 12 ∧ i = .int .i64 j ∧ Below w5.heap.size w5 wj)
                case atStart => exact ⟨0, by omega, by omega, rfl, Below.refl _ _⟩
                case round =>
                  as_aux_lemma =>
                    obtain ⟨j, hq1, hj, rfl, hbj⟩ := hrel
                    have HBJ := Lib.hid hbj
                    clear hbj
                    by_cases hj12 : j < 12
                    · have hj1 : (j : Int) < 12 := by omega
                      have HK6 := Lib.hid (HK5.out.below HBJ.out)
                      have HPG := Lib.hid (fz_page HK6.out.k.fz HO5.out (j : Int))
                      rw [pageR_eq] at HPG
                      have HPB := Lib.hid (pB_len HO5.out (j : Int))
                      have HPN := Lib.hid (pN_len HO5.out (j : Int))
                      go_upto_region 35 with fail
                      refine wp_region_lit ?_
                      refine takeL (.pointer (some ⟨L.b, 0, none⟩)) rfl (by go_simp) ?_
                      try simp only [Act.put, List.setIfInBounds_toArray, List.set_cons_succ, List.set_cons_zero]
                      refine takeL (.int .i64 j) rfl (by go_simp) ?_
                      try simp only [Act.put, List.setIfInBounds_toArray, List.set_cons_succ, List.set_cons_zero]
                      refine wpList_op rfl fun K hK => ?_
                      go_simp
                      refine (HPG.out).mono ?_
                      rintro e w7c ⟨rfl, hb⟩
                      have HKc := Lib.hid (HK6.out.below hb)
                      have HBc := Lib.hid (stay HBJ.out hb)
                      clear hb
                      refine hK _ _ ?_
                      clear hK K
                      try simp only [Act.put, List.setIfInBounds_toArray, List.set_cons_succ, List.set_cons_zero]
                      refine takeL (.tuple #[.agg (u8s (pB (s5.held j))).toArray, .agg (u8s (pN (s5.held j))).toArray, .bool (s5.held j).isSome]) rfl (by go_simp) ?_
                      try simp only [Act.put, List.setIfInBounds_toArray, List.set_cons_succ, List.set_cons_zero]
                      refine takeL (.agg (u8s (pB (s5.held j))).toArray) rfl (by go_simp) ?_
                      try simp only [Act.put, List.setIfInBounds_toArray, List.set_cons_succ, List.set_cons_zero]
                      refine takeL (.agg (u8s (pN (s5.held j))).toArray) rfl (by go_simp) ?_
                      try simp only [Act.put, List.setIfInBounds_toArray, List.set_cons_succ, List.set_cons_zero]
                      refine takeL (.bool (s5.held j).isSome) rfl (by go_simp) ?_
                      try simp only [Act.put, List.setIfInBounds_toArray, List.set_cons_succ, List.set_cons_zero]
                      refine alloc_g zero39 rfl ?_
                      intro wa hA hb hl
                      try simp only [Act.put, List.setIfInBounds_toArray, List.set_cons_succ, List.set_cons_zero]
                      refine alloc_g zero39 rfl ?_
                      intro wb hA2 hb2 hl2
                      try simp only [Act.put, List.setIfInBounds_toArray, List.set_cons_succ, List.set_cons_zero]
                      have Vab := Lib.hid (hb.trans (hb2.mono hb.size))
                      have V3 : Hid (Blk wb w7c.heap.size (u8s (zeros 32))) := Lib.hid (by simpa using hA.below hb2 hA.lt)
                      have V4 : Hid (Blk wb wa.heap.size (u8s (zeros 32))) := Lib.hid (by simpa using hA2)
                      have VN7 : Hid (w7c.heap.size ≠ wa.heap.size) := Lib.hid (Nat.ne_of_lt hl)
                      have VG7 : Hid (w7c.heap.size ≤ wa.heap.size) := Lib.hid (Nat.le_of_lt hl)
                      clear hA hb hl hA2 hb2 hl2
                      generalize wa.heap.size = gb7 at *
                      clear wa
                      refine store_all (cs := (u8s (pB (s5.held j))).toArray) V3.out (by simp only [u8s_size, List.size_toArray, List.length_map, HPB.out, zeros_length]) (by rw [u8s_size, HPB.out]; exact info39) (u8s_one _) rfl rfl rfl ?_
                      intro wt hD hO hlD
                      try simp only [Act.put, List.setIfInBounds_toArray, List.set_cons_succ, List.set_cons_zero]
                      have V3s : Hid (Blk wt w7c.heap.size (u8s (pB (s5.held j)))) := Lib.hid (by simpa using hD)
                      have V4s := Lib.hid (V4.out.only hO VN7.out.symm)
                      have Vs := Lib.hid (Vab.out.trans (hO.below Vab.out.size fun k hk => Nat.le_of_eq hk.symm))
                      clear V3 V4 Vab hD hO hlD
                      have V4 := V4s
                      clear V4s
                      refine store_all (cs := (u8s (pN (s5.held j))).toArray) V4.out (by simp only [u8s_size, List.size_toArray, List.length_map, HPN.out, zeros_length]) (by rw [u8s_size, HPN.out]; exact info39) (u8s_one _) rfl rfl rfl ?_
                      intro w7 hD hO hlD
                      try simp only [Act.put, List.setIfInBounds_toArray, List.set_cons_succ, List.set_cons_zero]
                      have VB7 : Hid (Blk w7 gb7 (u8s (pN (s5.held j)))) := Lib.hid (by simpa using hD)
                      have VA7 := Lib.hid (V3s.out.only hO VN7.out)
                      have VE7 := Lib.hid (Vs.out.trans (hO.below Vs.out.size fun k hk => by rw [hk]; exact VG7.out))
                      clear V3s V4 Vs hD hO hlD
                      clear wt
                      refine takeL (.bool (s5.held j).isSome) rfl (by go_simp) ?_
                      try simp only [Act.put, List.setIfInBounds_toArray, List.set_cons_succ, List.set_cons_zero]
                      refine wpList_nil ?_
                      have HK7 := Lib.hid (HKc.out.below VE7.out)
                      have HB7 := Lib.hid (stay HBc.out VE7.out)
                      clear HKc HBc VE7 VN7 VG7 HK6 HPG
                      have HOF := Lib.hid (rOf_any HK7.out.k.re HO5.out (j : Int))
                      go_wp2_with fail
                      refine HOF.out.mono ?_
                      rintro e w' ⟨rfl, rfl⟩
                      clear HOF
                      go_upto_region 37 with fail
                      obtain ⟨n, hn⟩ : ∃ n, s5.c.l.length = n := ⟨_, rfl⟩
                      have HNN := Lib.hid hn
                      obtain ⟨tb, htb⟩ : ∃ tb, (s5.held (j : Int)).isSome = tb := ⟨_, rfl⟩
                      obtain ⟨fi, hfi⟩ : ∃ fi, findI (s5.page (j : Int)) = fi := ⟨_, rfl⟩
                      rw [htb, hfi]
                      have HTB := Lib.hid htb
                      have HFI := Lib.hid hfi
                      clear htb hfi
                      go_cut [256] from 202 to 299 (fun s256 wz => s256 = .bool false ∧ Below w5.heap.size w5 wz)
                      case first =>
                        as_aux_lemma =>
                          cases hp : s5.page (j : Int) with
                          | none =>
                            have hh : s5.held (j : Int) = none := Fs.held_none hp
                            have htb : tb = false := by have h9 := HTB.out; rw [hh] at h9; exact h9.symm
                            have hfi : fi = -1 := by have h9 := HFI.out; rw [hp] at h9; exact h9.symm
                            subst htb
                            subst hfi
                            rw [hh] at VA7 VB7
                            simp only [pB, pN] at VA7 VB7
                            clear hp hh hn HTB HFI
                            go_upto_region 37 with fail
                            refine startH (fun wq => Below w7.heap.size w7 wq) (by kernel_rfl) ?_
                            refine takeH 0 (some 212) (.bool false) rfl rfl (by kernel_rfl) (by kernel_rfl) (by kernel_rfl) (fun _ _ _ h => h) rfl (fun wq hS => by go_simp) (Below.refl _ _).drew ?_
                            try simp only [Act.put, List.setIfInBounds_toArray, List.set_cons_succ, List.set_cons_zero]
                            refine takeH 1 (some 213) (.int .i64 (-1)) rfl rfl (by kernel_rfl) (by kernel_rfl) (by kernel_rfl) (fun _ _ _ h => h) rfl (fun wq hS => by go_simp) (Below.refl _ _).drew ?_
                            try simp only [Act.put, List.setIfInBounds_toArray, List.set_cons_succ, List.set_cons_zero]
                            refine takeH 2 (some 214) (.bool false) rfl rfl (by kernel_rfl) (by kernel_rfl) (by kernel_rfl) (fun _ _ _ h => h) rfl (fun wq hS => by go_simp) (Below.refl _ _).drew ?_
                            try simp only [Act.put, List.setIfInBounds_toArray, List.set_cons_succ, List.set_cons_zero]
                            refine takeH 3 (some 215) (.bool false) rfl rfl (by kernel_rfl) (by kernel_rfl) (by kernel_rfl) (fun _ _ _ h => h) rfl (fun wq hS => by go_simp) (Below.refl _ _).drew ?_
                            try simp only [Act.put, List.setIfInBounds_toArray, List.set_cons_succ, List.set_cons_zero]
                            refine takeH 4 (some 216) (.bool false) rfl rfl (by kernel_rfl) (by kernel_rfl) (by kernel_rfl) (fun _ _ _ h => h) rfl (fun wq hS => by go_simp) (Below.refl _ _).drew ?_
                            try simp only [Act.put, List.setIfInBounds_toArray, List.set_cons_succ, List.set_cons_zero]
                            refine takeH 5 (some 217) (.bool false) rfl rfl (by kernel_rfl) (by kernel_rfl) (by kernel_rfl) (fun _ _ _ h => h) rfl (fun wq hS => by go_simp) (Below.refl _ _).drew ?_
                            try simp only [Act.put, List.setIfInBounds_toArray, List.set_cons_succ, List.set_cons_zero]
                            refine takeH 6 (some 218) (.bool false) rfl rfl (by kernel_rfl) (by kernel_rfl) (by kernel_rfl) (fun _ _ _ h => h) rfl (fun wq hS => by go_simp) (Below.refl _ _).drew ?_
                            try simp only [Act.put, List.setIfInBounds_toArray, List.set_cons_succ, List.set_cons_zero]
                            refine passH 7 (some 219) rfl rfl (by kernel_rfl) (by kernel_rfl) (by kernel_rfl) (fun _ _ _ h => h) rfl (Below.refl _ _).drew ?_
                            try simp only [Act.put, List.setIfInBounds_toArray, List.set_cons_succ, List.set_cons_zero]
                            refine passH 8 (some 220) rfl rfl (by kernel_rfl) (by kernel_rfl) (by kernel_rfl) (fun _ _ _ h => h) rfl (Below.refl _ _).drew ?_
                            try simp only [Act.put, List.setIfInBounds_toArray, List.set_cons_succ, List.set_cons_zero]
                            refine passH 9 (some 221) rfl rfl (by kernel_rfl) (by kernel_rfl) (by kernel_rfl) (fun _ _ _ h => h) rfl (Below.refl _ _).drew ?_
                            try simp only [Act.put, List.setIfInBounds_toArray, List.set_cons_succ, List.set_cons_zero]
                            refine passH 10 (some 222) rfl rfl (by kernel_rfl) (by kernel_rfl) (by kernel_rfl) (fun _ _ _ h => h) rfl (Below.refl _ _).drew ?_
                            try simp only [Act.put, List.setIfInBounds_toArray, List.set_cons_succ, List.set_cons_zero]
                            refine passH 11 (some 223) rfl rfl (by kernel_rfl) (by kernel_rfl) (by kernel_rfl) (fun _ _ _ h => h) rfl (Below.refl _ _).drew ?_
                            try simp only [Act.put, List.setIfInBounds_toArray, List.set_cons_succ, List.set_cons_zero]
                            refine passH 12 (some 224) rfl rfl (by kernel_rfl) (by kernel_rfl) (by kernel_rfl) (fun _ _ _ h => h) rfl (Below.refl _ _).drew ?_
                            try simp only [Act.put, List.setIfInBounds_toArray, List.set_cons_succ, List.set_cons_zero]
                            refine passH 13 (some 225) rfl rfl (by kernel_rfl) (by kernel_rfl) (by kernel_rfl) (fun _ _ _ h => h) rfl (Below.refl _ _).drew ?_
                            try simp only [Act.put, List.setIfInBounds_toArray, List.set_cons_succ, List.set_cons_zero]
                            refine passH 14 (some 226) rfl rfl (by kernel_rfl) (by kernel_rfl) (by kernel_rfl) (fun _ _ _ h => h) rfl (Below.refl _ _).drew ?_
                            try simp only [Act.put, List.setIfInBounds_toArray, List.set_cons_succ, List.set_cons_zero]
                            refine passH 15 (some 227) rfl rfl (by kernel_rfl) (by kernel_rfl) (by kernel_rfl) (fun _ _ _ h => h) rfl (Below.refl _ _).drew ?_
                            try simp only [Act.put, List.setIfInBounds_toArray, List.set_cons_succ, List.set_cons_zero]
                            refine passH 16 (some 228) rfl rfl (by kernel_rfl) (by kernel_rfl) (by kernel_rfl) (fun _ _ _ h => h) rfl (Below.refl _ _).drew ?_
                            try simp only [Act.put, List.setIfInBounds_toArray, List.set_cons_succ, List.set_cons_zero]
                            refine passH 17 (some 229) rfl rfl (by kernel_rfl) (by kernel_rfl) (by kernel_rfl) (fun _ _ _ h => h) rfl (Below.refl _ _).drew ?_
                            try simp only [Act.put, List.setIfInBounds_toArray, List.set_cons_succ, List.set_cons_zero]
                            refine passH 18 (some 230) rfl rfl (by kernel_rfl) (by kernel_rfl) (by kernel_rfl) (fun _ _ _ h => h) rfl (Below.refl _ _).drew ?_
                            try simp only [Act.put, List.setIfInBounds_toArray, List.set_cons_succ, List.set_cons_zero]
                            refine passH 19 (some 231) rfl rfl (by kernel_rfl) (by kernel_rfl) (by kernel_rfl) (fun _ _ _ h => h) rfl (Below.refl _ _).drew ?_
                            try simp only [Act.put, List.setIfInBounds_toArray, List.set_cons_succ, List.set_cons_zero]
                            refine passH 20 (some 232) rfl rfl (by kernel_rfl) (by kernel_rfl) (by kernel_rfl) (fun _ _ _ h => h) rfl (Below.refl _ _).drew ?_
                            try simp only [Act.put, List.setIfInBounds_toArray, List.set_cons_succ, List.set_cons_zero]
                            refine passH 21 (some 233) rfl rfl (by kernel_rfl) (by kernel_rfl) (by kernel_rfl) (fun _ _ _ h => h) rfl (Below.refl _ _).drew ?_
                            try simp only [Act.put, List.setIfInBounds_toArray, List.set_cons_succ, List.set_cons_zero]
                            refine passH 22 (some 234) rfl rfl (by kernel_rfl) (by kernel_rfl) (by kernel_rfl) (fun _ _ _ h => h) rfl (Below.refl _ _).drew ?_
                            try simp only [Act.put, List.setIfInBounds_toArray, List.set_cons_succ, List.set_cons_zero]
                            refine passH 23 (some 235) rfl rfl (by kernel_rfl) (by kernel_rfl) (by kernel_rfl) (fun _ _ _ h => h) rfl (Below.refl _ _).drew ?_
                            try simp only [Act.put, List.setIfInBounds_toArray, List.set_cons_succ, List.set_cons_zero]
                            refine passH 24 (some 236) rfl rfl (by kernel_rfl) (by kernel_rfl) (by kernel_rfl) (fun _ _ _ h => h) rfl (Below.refl _ _).drew ?_
                            try simp only [Act.put, List.setIfInBounds_toArray, List.set_cons_succ, List.set_cons_zero]
                            refine passH 25 (some 237) rfl rfl (by kernel_rfl) (by kernel_rfl) (by kernel_rfl) (fun _ _ _ h => h) rfl (Below.refl _ _).drew ?_
                            try simp only [Act.put, List.setIfInBounds_toArray, List.set_cons_succ, List.set_cons_zero]
                            refine passH 26 (some 238) rfl rfl (by kernel_rfl) (by kernel_rfl) (by kernel_rfl) (fun _ _ _ h => h) rfl (Below.refl _ _).drew ?_
                            try simp only [Act.put, List.setIfInBounds_toArray, List.set_cons_succ, List.set_cons_zero]
                            refine passH 27 (some 239) rfl rfl (by kernel_rfl) (by kernel_rfl) (by kernel_rfl) (fun _ _ _ h => h) rfl (Below.refl _ _).drew ?_
                            try simp only [Act.put, List.setIfInBounds_toArray, List.set_cons_succ, List.set_cons_zero]
                            refine passH 28 (some 240) rfl rfl (by kernel_rfl) (by kernel_rfl) (by kernel_rfl) (fun _ _ _ h => h) rfl (Below.refl _ _).drew ?_
                            try simp only [Act.put, List.setIfInBounds_toArray, List.set_cons_succ, List.set_cons_zero]
                            refine takeH 29 (some 241) (.bool false) rfl rfl (by kernel_rfl) (by kernel_rfl) (by kernel_rfl) (fun _ _ _ h => h) rfl (fun wq hS => by go_simp) (Below.refl _ _).drew ?_
                            try simp only [Act.put, List.setIfInBounds_toArray, List.set_cons_succ, List.set_cons_zero]
                            refine takeH 30 (some 242) (.bool false) rfl rfl (by kernel_rfl) (by kernel_rfl) (by kernel_rfl) (fun _ _ _ h => h) rfl (fun wq hS => by go_simp) (Below.refl _ _).drew ?_
                            try simp only [Act.put, List.setIfInBounds_toArray, List.set_cons_succ, List.set_cons_zero]
                            refine takeH 31 (some 243) (.bool false) rfl rfl (by kernel_rfl) (by kernel_rfl) (by kernel_rfl) (fun _ _ _ h => h) rfl (fun wq hS => by go_simp) (Below.refl _ _).drew ?_
                            try simp only [Act.put, List.setIfInBounds_toArray, List.set_cons_succ, List.set_cons_zero]
                            refine takeH 32 (some 244) (.bool false) rfl rfl (by kernel_rfl) (by kernel_rfl) (by kernel_rfl) (fun _ _ _ h => h) rfl (fun wq hS => by go_simp) (Below.refl _ _).drew ?_
                            try simp only [Act.put, List.setIfInBounds_toArray, List.set_cons_succ, List.set_cons_zero]
                            refine takeH 33 (some 245) (.bool true) rfl rfl (by kernel_rfl) (by kernel_rfl) (by kernel_rfl) (fun _ _ _ h => h) rfl (fun wq hS => by go_simp) (Below.refl _ _).drew ?_
                            try simp only [Act.put, List.setIfInBounds_toArray, List.set_cons_succ, List.set_cons_zero]
                            refine takeH 34 (some 246) (.bool true) rfl rfl (by kernel_rfl) (by kernel_rfl) (by kernel_rfl) (fun _ _ _ h => h) rfl (fun wq hS => by go_simp) (Below.refl _ _).drew ?_
                            try simp only [Act.put, List.setIfInBounds_toArray, List.set_cons_succ, List.set_cons_zero]
                            refine takeH 35 (some 247) (.agg (u8s (zeros 32)).toArray) rfl rfl (by kernel_rfl) (by kernel_rfl) (by kernel_rfl) (fun _ _ _ h => h) rfl (fun wq hS => by exact exec_load_at wq _ _ 39 _ rfl (w7c.heap.size) (0) rfl ((u8s (zeros 32)).toArray) _ Tryz.underlying39 rfl (by rw [u8s_size, zeros_length]; exact info39) (Blk.all (VA7.out.below hS VA7.out.lt) rfl)) (Below.refl _ _).drew ?_
                            try simp only [Act.put, List.setIfInBounds_toArray, List.set_cons_succ, List.set_cons_zero]
                            refine takeH 36 (some 248) (.agg (u8s (zeros 32)).toArray) rfl rfl (by kernel_rfl) (by kernel_rfl) (by kernel_rfl) (fun _ _ _ h => h) rfl (fun wq hS => by exact exec_build _ _ _ _ 39 #[] rfl #[] (by simp) _ (build39 _)) (Below.refl _ _).drew ?_
                            try simp only [Act.put, List.setIfInBounds_toArray, List.set_cons_succ, List.set_cons_zero]
                            refine takeH 37 (some 249) (.bool false) rfl rfl (by kernel_rfl) (by kernel_rfl) (by kernel_rfl) (fun _ _ _ h => h) rfl (fun wq hS => by exact exec_pageN (by rw [decide_eq_true rfl]; rfl) (zeros_length 32) (zeros_length 32) _ _ _ rfl rfl rfl) (Below.refl _ _).drew ?_
                            try simp only [Act.put, List.setIfInBounds_toArray, List.set_cons_succ, List.set_cons_zero]
                            refine takeH 38 (some 250) (.bool false) rfl rfl (by kernel_rfl) (by kernel_rfl) (by kernel_rfl) (fun _ _ _ h => h) rfl (fun wq hS => by go_simp) (Below.refl _ _).drew ?_
                            try simp only [Act.put, List.setIfInBounds_toArray, List.set_cons_succ, List.set_cons_zero]
                            refine takeH 39 (some 251) (.agg (u8s (zeros 32)).toArray) rfl rfl (by kernel_rfl) (by kernel_rfl) (by kernel_rfl) (fun _ _ _ h => h) rfl (fun wq hS => by exact exec_load_at wq _ _ 39 _ rfl (gb7) (0) rfl ((u8s (zeros 32)).toArray) _ Tryz.underlying39 rfl (by rw [u8s_size, zeros_length]; exact info39) (Blk.all (VB7.out.below hS VB7.out.lt) rfl)) (Below.refl _ _).drew ?_
                            try simp only [Act.put, List.setIfInBounds_toArray, List.set_cons_succ, List.set_cons_zero]
                            refine takeH 40 (some 252) (.agg (u8s (zeros 32)).toArray) rfl rfl (by kernel_rfl) (by kernel_rfl) (by kernel_rfl) (fun _ _ _ h => h) rfl (fun wq hS => by exact exec_build _ _ _ _ 39 #[] rfl #[] (by simp) _ (build39 _)) (Below.refl _ _).drew ?_
                            try simp only [Act.put, List.setIfInBounds_toArray, List.set_cons_succ, List.set_cons_zero]
                            refine takeH 41 (some 253) (.bool false) rfl rfl (by kernel_rfl) (by kernel_rfl) (by kernel_rfl) (fun _ _ _ h => h) rfl (fun wq hS => by exact exec_pageN (by rw [decide_eq_true rfl]; rfl) (zeros_length 32) (zeros_length 32) _ _ _ rfl rfl rfl) (Below.refl _ _).drew ?_
                            try simp only [Act.put, List.setIfInBounds_toArray, List.set_cons_succ, List.set_cons_zero]
                            refine takeH 42 (some 254) (.bool false) rfl rfl (by kernel_rfl) (by kernel_rfl) (by kernel_rfl) (fun _ _ _ h => h) rfl (fun wq hS => by go_simp) (Below.refl _ _).drew ?_
                            try simp only [Act.put, List.setIfInBounds_toArray, List.set_cons_succ, List.set_cons_zero]
                            refine takeH 43 (some 255) (.bool false) rfl rfl (by kernel_rfl) (by kernel_rfl) (by kernel_rfl) (fun _ _ _ h => h) rfl (fun wq hS => by go_simp) (Below.refl _ _).drew ?_
                            try simp only [Act.put, List.setIfInBounds_toArray, List.set_cons_succ, List.set_cons_zero]
                            refine takeH 44 (some 256) (.bool false) rfl rfl (by kernel_rfl) (by kernel_rfl) (by kernel_rfl) (fun _ _ _ h => h) rfl (fun wq hS => by go_simp) (Below.refl _ _).drew ?_
                            try simp only [Act.put, List.setIfInBounds_toArray, List.set_cons_succ, List.set_cons_zero]
                            refine wpAnyH_done (by kernel_rfl) ?_ _
                            go_wp2_with fail
                            go_meet
                            exact ⟨rfl, HB7.out.trans ((Below.refl _ _).drew.mono HB7.out.size)⟩
                          | some i =>
                            obtain ⟨hil, u, hh, hu, huo⟩ := held_at HO5.out hp
                            have HUX := Lib.hid hu
                            have HUO := Lib.hid huo
                            have HI0 : Hid (decide (0 ≤ (i : Int)) = true) := Lib.hid (decide_eq_true (by omega))
                            have hi1 : (i : Int) < (n : Int) := by omega
                            have hi2 : i < n := by omega
                            have htb : tb = true := by have h9 := HTB.out; rw [hh] at h9; exact h9.symm
                            have hfi : fi = (i : Int) := by have h9 := HFI.out; rw [hp] at h9; exact h9.symm
                            subst htb
                            subst hfi
                            rw [hh] at VA7 VB7
                            simp only [pB, pN] at VA7 VB7
                            clear hp hh hu huo hil hn HTB HFI
                            go_upto_region 37 with fail
                            refine startH (fun wq => Below w7.heap.size w7 wq) (by kernel_rfl) ?_
                            refine takeH 0 (some 212) (.bool true) rfl rfl (by kernel_rfl) (by kernel_rfl) (by kernel_rfl) (fun _ _ _ h => h) rfl (fun wq hS => by go_simp) (Below.refl _ _).drew ?_
                            try simp only [Act.put, List.setIfInBounds_toArray, List.set_cons_succ, List.set_cons_zero]
                            refine takeH 1 (some 213) (.int .i64 i) rfl rfl (by kernel_rfl) (by kernel_rfl) (by kernel_rfl) (fun _ _ _ h => h) rfl (fun wq hS => by go_simp) (Below.refl _ _).drew ?_
                            try simp only [Act.put, List.setIfInBounds_toArray, List.set_cons_succ, List.set_cons_zero]
                            refine takeH 2 (some 214) (.bool true) rfl rfl (by kernel_rfl) (by kernel_rfl) (by kernel_rfl) (fun _ _ _ h => h) rfl (fun wq hS => by have hq := HI0.out; go_simp) (Below.refl _ _).drew ?_
                            try simp only [Act.put, List.setIfInBounds_toArray, List.set_cons_succ, List.set_cons_zero]
                            refine takeH 3 (some 215) (.bool false) rfl rfl (by kernel_rfl) (by kernel_rfl) (by kernel_rfl) (fun _ _ _ h => h) rfl (fun wq hS => by go_simp) (Below.refl _ _).drew ?_
                            try simp only [Act.put, List.setIfInBounds_toArray, List.set_cons_succ, List.set_cons_zero]
                            refine takeH 4 (some 216) (.bool false) rfl rfl (by kernel_rfl) (by kernel_rfl) (by kernel_rfl) (fun _ _ _ h => h) rfl (fun wq hS => by go_simp) (Below.refl _ _).drew ?_
                            try simp only [Act.put, List.setIfInBounds_toArray, List.set_cons_succ, List.set_cons_zero]
                            refine takeH 5 (some 217) (.bool true) rfl rfl (by kernel_rfl) (by kernel_rfl) (by kernel_rfl) (fun _ _ _ h => h) rfl (fun wq hS => by go_simp) (Below.refl _ _).drew ?_
                            try simp only [Act.put, List.setIfInBounds_toArray, List.set_cons_succ, List.set_cons_zero]
                            refine takeH 6 (some 218) (.bool true) rfl rfl (by kernel_rfl) (by kernel_rfl) (by kernel_rfl) (fun _ _ _ h => h) rfl (fun wq hS => by go_simp) (Below.refl _ _).drew ?_
                            try simp only [Act.put, List.setIfInBounds_toArray, List.set_cons_succ, List.set_cons_zero]
                            refine takeH 7 (some 219) (.agg (u8s u.base).toArray) rfl rfl (by kernel_rfl) (by kernel_rfl) (by kernel_rfl) (fun _ _ _ h => h) rfl (fun wq hS => by exact exec_load_at wq _ _ 39 _ rfl (w7c.heap.size) (0) rfl ((u8s u.base).toArray) _ Tryz.underlying39 rfl (by rw [u8s_size, HUO.out.base.length]; exact info39) (Blk.all (VA7.out.below hS VA7.out.lt) rfl)) (Below.refl _ _).drew ?_
                            try simp only [Act.put, List.setIfInBounds_toArray, List.set_cons_succ, List.set_cons_zero]
                            refine takeH 8 (some 220) (.pointer (some ⟨R.b, 0, none⟩)) rfl rfl (by kernel_rfl) (by kernel_rfl) (by kernel_rfl) (fun _ _ _ h => h) rfl (fun wq hS => by go_simp) (Below.refl _ _).drew ?_
                            try simp only [Act.put, List.setIfInBounds_toArray, List.set_cons_succ, List.set_cons_zero]
                            refine takeH 9 (some 221) (.pointer (some ⟨R.b, 0, none⟩)) rfl rfl (by kernel_rfl) (by kernel_rfl) (by kernel_rfl) (fun _ _ _ h => h) rfl (fun wq hS => by go_simp) (Below.refl _ _).drew ?_
                            try simp only [Act.put, List.setIfInBounds_toArray, List.set_cons_succ, List.set_cons_zero]
                            refine takeH 10 (some 222) (.pointer (some ⟨R.b, 1, none⟩)) rfl rfl (by kernel_rfl) (by kernel_rfl) (by kernel_rfl) (fun _ _ _ h => h) rfl (fun wq hS => by go_simp) (Below.refl _ _).drew ?_
                            try simp only [Act.put, List.setIfInBounds_toArray, List.set_cons_succ, List.set_cons_zero]
                            refine takeH 11 (some 223) (.slice (some ⟨R.hr, 0, none⟩) n R.hcap) rfl rfl (by kernel_rfl) (by kernel_rfl) (by kernel_rfl) (fun _ _ _ h => h) rfl (fun wq hS => by have hq := (HK7.out.k.re.blk.below hS HK7.out.k.re.blk.lt).cell (i := 1) rfl; rw [HNN.out] at hq; go_simp) (Below.refl _ _).drew ?_
                            try simp only [Act.put, List.setIfInBounds_toArray, List.set_cons_succ, List.set_cons_zero]
                            refine takeH 12 (some 224) (.int .i64 i) rfl rfl (by kernel_rfl) (by kernel_rfl) (by kernel_rfl) (fun _ _ _ h => h) rfl (fun wq hS => by go_simp) (Below.refl _ _).drew ?_
                            try simp only [Act.put, List.setIfInBounds_toArray, List.set_cons_succ, List.set_cons_zero]
                            refine takeH 13 (some 225) (.pointer (some ⟨R.hr, i * 72, none⟩)) rfl rfl (by kernel_rfl) (by kernel_rfl) (by kernel_rfl) (fun _ _ _ h => h) rfl (fun wq hS => by go_simp) (Below.refl _ _).drew ?_
                            try simp only [Act.put, List.setIfInBounds_toArray, List.set_cons_succ, List.set_cons_zero]
                            refine takeH 14 (some 226) (.pointer (some ⟨R.hr, i * 72, none⟩)) rfl rfl (by kernel_rfl) (by kernel_rfl) (by kernel_rfl) (fun _ _ _ h => h) rfl (fun wq hS => by go_simp) (Below.refl _ _).drew ?_
                            try simp only [Act.put, List.setIfInBounds_toArray, List.set_cons_succ, List.set_cons_zero]
                            refine takeH 15 (some 227) (.agg (u8s u.base).toArray) rfl rfl (by kernel_rfl) (by kernel_rfl) (by kernel_rfl) (fun _ _ _ h => h) rfl (fun wq hS => by exact exec_load_at wq _ _ 39 _ rfl (R.hr) (i * 72) rfl ((u8s u.base).toArray) _ Tryz.underlying39 rfl (by rw [u8s_size, HUO.out.base.length]; exact info39) (hd_base (HK7.out.k.re.row.below hS HK7.out.k.re.row.lt) HUX.out HUO.out)) (Below.refl _ _).drew ?_
                            try simp only [Act.put, List.setIfInBounds_toArray, List.set_cons_succ, List.set_cons_zero]
                            refine takeH 16 (some 228) (.bool false) rfl rfl (by kernel_rfl) (by kernel_rfl) (by kernel_rfl) (fun _ _ _ h => h) rfl (fun wq hS => by exact exec_pageN (by rw [decide_eq_true rfl]; rfl) HUO.out.base.length HUO.out.base.length _ _ _ rfl rfl rfl) (Below.refl _ _).drew ?_
                            try simp only [Act.put, List.setIfInBounds_toArray, List.set_cons_succ, List.set_cons_zero]
                            refine takeH 17 (some 229) (.bool false) rfl rfl (by kernel_rfl) (by kernel_rfl) (by kernel_rfl) (fun _ _ _ h => h) rfl (fun wq hS => by go_simp) (Below.refl _ _).drew ?_
                            try simp only [Act.put, List.setIfInBounds_toArray, List.set_cons_succ, List.set_cons_zero]
                            refine takeH 18 (some 230) (.agg (u8s u.now).toArray) rfl rfl (by kernel_rfl) (by kernel_rfl) (by kernel_rfl) (fun _ _ _ h => h) rfl (fun wq hS => by exact exec_load_at wq _ _ 39 _ rfl (gb7) (0) rfl ((u8s u.now).toArray) _ Tryz.underlying39 rfl (by rw [u8s_size, HUO.out.now.length]; exact info39) (Blk.all (VB7.out.below hS VB7.out.lt) rfl)) (Below.refl _ _).drew ?_
                            try simp only [Act.put, List.setIfInBounds_toArray, List.set_cons_succ, List.set_cons_zero]
                            refine takeH 19 (some 231) (.pointer (some ⟨R.b, 0, none⟩)) rfl rfl (by kernel_rfl) (by kernel_rfl) (by kernel_rfl) (fun _ _ _ h => h) rfl (fun wq hS => by go_simp) (Below.refl _ _).drew ?_
                            try simp only [Act.put, List.setIfInBounds_toArray, List.set_cons_succ, List.set_cons_zero]
                            refine takeH 20 (some 232) (.pointer (some ⟨R.b, 0, none⟩)) rfl rfl (by kernel_rfl) (by kernel_rfl) (by kernel_rfl) (fun _ _ _ h => h) rfl (fun wq hS => by go_simp) (Below.refl _ _).drew ?_
                            try simp only [Act.put, List.setIfInBounds_toArray, List.set_cons_succ, List.set_cons_zero]
                            refine takeH 21 (some 233) (.pointer (some ⟨R.b, 1, none⟩)) rfl rfl (by kernel_rfl) (by kernel_rfl) (by kernel_rfl) (fun _ _ _ h => h) rfl (fun wq hS => by go_simp) (Below.refl _ _).drew ?_
                            try simp only [Act.put, List.setIfInBounds_toArray, List.set_cons_succ, List.set_cons_zero]
                            refine takeH 22 (some 234) (.slice (some ⟨R.hr, 0, none⟩) n R.hcap) rfl rfl (by kernel_rfl) (by kernel_rfl) (by kernel_rfl) (fun _ _ _ h => h) rfl (fun wq hS => by have hq := (HK7.out.k.re.blk.below hS HK7.out.k.re.blk.lt).cell (i := 1) rfl; rw [HNN.out] at hq; go_simp) (Below.refl _ _).drew ?_
                            try simp only [Act.put, List.setIfInBounds_toArray, List.set_cons_succ, List.set_cons_zero]
                            refine takeH 23 (some 235) (.int .i64 i) rfl rfl (by kernel_rfl) (by kernel_rfl) (by kernel_rfl) (fun _ _ _ h => h) rfl (fun wq hS => by go_simp) (Below.refl _ _).drew ?_
                            try simp only [Act.put, List.setIfInBounds_toArray, List.set_cons_succ, List.set_cons_zero]
                            refine takeH 24 (some 236) (.pointer (some ⟨R.hr, i * 72, none⟩)) rfl rfl (by kernel_rfl) (by kernel_rfl) (by kernel_rfl) (fun _ _ _ h => h) rfl (fun wq hS => by go_simp) (Below.refl _ _).drew ?_
                            try simp only [Act.put, List.setIfInBounds_toArray, List.set_cons_succ, List.set_cons_zero]
                            refine takeH 25 (some 237) (.pointer (some ⟨R.hr, i * 72 + 32, none⟩)) rfl rfl (by kernel_rfl) (by kernel_rfl) (by kernel_rfl) (fun _ _ _ h => h) rfl (fun wq hS => by go_simp) (Below.refl _ _).drew ?_
                            try simp only [Act.put, List.setIfInBounds_toArray, List.set_cons_succ, List.set_cons_zero]
                            refine takeH 26 (some 238) (.agg (u8s u.now).toArray) rfl rfl (by kernel_rfl) (by kernel_rfl) (by kernel_rfl) (fun _ _ _ h => h) rfl (fun wq hS => by exact exec_load_at wq _ _ 39 _ rfl (R.hr) (i * 72 + 32) rfl ((u8s u.now).toArray) _ Tryz.underlying39 rfl (by rw [u8s_size, HUO.out.now.length]; exact info39) (hd_now (HK7.out.k.re.row.below hS HK7.out.k.re.row.lt) HUX.out HUO.out)) (Below.refl _ _).drew ?_
                            try simp only [Act.put, List.setIfInBounds_toArray, List.set_cons_succ, List.set_cons_zero]
                            refine takeH 27 (some 239) (.bool false) rfl rfl (by kernel_rfl) (by kernel_rfl) (by kernel_rfl) (fun _ _ _ h => h) rfl (fun wq hS => by exact exec_pageN (by rw [decide_eq_true rfl]; rfl) HUO.out.now.length HUO.out.now.length _ _ _ rfl rfl rfl) (Below.refl _ _).drew ?_
                            try simp only [Act.put, List.setIfInBounds_toArray, List.set_cons_succ, List.set_cons_zero]
                            refine takeH 28 (some 240) (.bool false) rfl rfl (by kernel_rfl) (by kernel_rfl) (by kernel_rfl) (fun _ _ _ h => h) rfl (fun wq hS => by go_simp) (Below.refl _ _).drew ?_
                            try simp only [Act.put, List.setIfInBounds_toArray, List.set_cons_succ, List.set_cons_zero]
                            refine takeH 29 (some 241) (.bool false) rfl rfl (by kernel_rfl) (by kernel_rfl) (by kernel_rfl) (fun _ _ _ h => h) rfl (fun wq hS => by go_simp) (Below.refl _ _).drew ?_
                            try simp only [Act.put, List.setIfInBounds_toArray, List.set_cons_succ, List.set_cons_zero]
                            refine takeH 30 (some 242) (.bool false) rfl rfl (by kernel_rfl) (by kernel_rfl) (by kernel_rfl) (fun _ _ _ h => h) rfl (fun wq hS => by go_simp) (Below.refl _ _).drew ?_
                            try simp only [Act.put, List.setIfInBounds_toArray, List.set_cons_succ, List.set_cons_zero]
                            refine takeH 31 (some 243) (.bool false) rfl rfl (by kernel_rfl) (by kernel_rfl) (by kernel_rfl) (fun _ _ _ h => h) rfl (fun wq hS => by go_simp) (Below.refl _ _).drew ?_
                            try simp only [Act.put, List.setIfInBounds_toArray, List.set_cons_succ, List.set_cons_zero]
                            refine takeH 32 (some 244) (.bool true) rfl rfl (by kernel_rfl) (by kernel_rfl) (by kernel_rfl) (fun _ _ _ h => h) rfl (fun wq hS => by go_simp) (Below.refl _ _).drew ?_
                            try simp only [Act.put, List.setIfInBounds_toArray, List.set_cons_succ, List.set_cons_zero]
                            refine takeH 33 (some 245) (.bool false) rfl rfl (by kernel_rfl) (by kernel_rfl) (by kernel_rfl) (fun _ _ _ h => h) rfl (fun wq hS => by go_simp) (Below.refl _ _).drew ?_
                            try simp only [Act.put, List.setIfInBounds_toArray, List.set_cons_succ, List.set_cons_zero]
                            refine takeH 34 (some 246) (.bool false) rfl rfl (by kernel_rfl) (by kernel_rfl) (by kernel_rfl) (fun _ _ _ h => h) rfl (fun wq hS => by go_simp) (Below.refl _ _).drew ?_
                            try simp only [Act.put, List.setIfInBounds_toArray, List.set_cons_succ, List.set_cons_zero]
                            refine passH 35 (some 247) rfl rfl (by kernel_rfl) (by kernel_rfl) (by kernel_rfl) (fun _ _ _ h => h) rfl (Below.refl _ _).drew ?_
                            try simp only [Act.put, List.setIfInBounds_toArray, List.set_cons_succ, List.set_cons_zero]
                            refine passH 36 (some 248) rfl rfl (by kernel_rfl) (by kernel_rfl) (by kernel_rfl) (fun _ _ _ h => h) rfl (Below.refl _ _).drew ?_
                            try simp only [Act.put, List.setIfInBounds_toArray, List.set_cons_succ, List.set_cons_zero]
                            refine passH 37 (some 249) rfl rfl (by kernel_rfl) (by kernel_rfl) (by kernel_rfl) (fun _ _ _ h => h) rfl (Below.refl _ _).drew ?_
                            try simp only [Act.put, List.setIfInBounds_toArray, List.set_cons_succ, List.set_cons_zero]
                            refine passH 38 (some 250) rfl rfl (by kernel_rfl) (by kernel_rfl) (by kernel_rfl) (fun _ _ _ h => h) rfl (Below.refl _ _).drew ?_
                            try simp only [Act.put, List.setIfInBounds_toArray, List.set_cons_succ, List.set_cons_zero]
                            refine passH 39 (some 251) rfl rfl (by kernel_rfl) (by kernel_rfl) (by kernel_rfl) (fun _ _ _ h => h) rfl (Below.refl _ _).drew ?_
                            try simp only [Act.put, List.setIfInBounds_toArray, List.set_cons_succ, List.set_cons_zero]
                            refine passH 40 (some 252) rfl rfl (by kernel_rfl) (by kernel_rfl) (by kernel_rfl) (fun _ _ _ h => h) rfl (Below.refl _ _).drew ?_
                            try simp only [Act.put, List.setIfInBounds_toArray, List.set_cons_succ, List.set_cons_zero]
                            refine passH 41 (some 253) rfl rfl (by kernel_rfl) (by kernel_rfl) (by kernel_rfl) (fun _ _ _ h => h) rfl (Below.refl _ _).drew ?_
                            try simp only [Act.put, List.setIfInBounds_toArray, List.set_cons_succ, List.set_cons_zero]
                            refine passH 42 (some 254) rfl rfl (by kernel_rfl) (by kernel_rfl) (by kernel_rfl) (fun _ _ _ h => h) rfl (Below.refl _ _).drew ?_
                            try simp only [Act.put, List.setIfInBounds_toArray, List.set_cons_succ, List.set_cons_zero]
                            refine takeH 43 (some 255) (.bool false) rfl rfl (by kernel_rfl) (by kernel_rfl) (by kernel_rfl) (fun _ _ _ h => h) rfl (fun wq hS => by go_simp) (Below.refl _ _).drew ?_
                            try simp only [Act.put, List.setIfInBounds_toArray, List.set_cons_succ, List.set_cons_zero]
                            refine takeH 44 (some 256) (.bool false) rfl rfl (by kernel_rfl) (by kernel_rfl) (by kernel_rfl) (fun _ _ _ h => h) rfl (fun wq hS => by go_simp) (Below.refl _ _).drew ?_
                            try simp only [Act.put, List.setIfInBounds_toArray, List.set_cons_succ, List.set_cons_zero]
                            refine wpAnyH_done (by kernel_rfl) ?_ _
                            go_wp2_with fail
                            go_meet
                            exact ⟨rfl, HB7.out.trans ((Below.refl _ _).drew.mono HB7.out.size)⟩
                      case rest =>
                        as_aux_lemma =>
                          obtain ⟨rfl, h1⟩ := hcut
                          have HB8 := Lib.hid h1
                          have HK8 := Lib.hid (HK5.out.below h1)
                          clear h1 VA7 VB7 HB7 HK7 HPB HPN HTB HFI
                          generalize wc = w8 at *
                          have HMP := Lib.hid (fz_map HK8.out.k.fz HO5.out (j : Int) ⟨by omega, by omega⟩)
                          by_cases hj8 : j < 8
                          · cases hf : s5.c.find (64 + (j : Int)) with
                            | none =>
                              have hm : s5.heldMap (j : Int) = none := by unfold Fs.heldMap; rw [if_pos (by omega), hf]; rfl
                              rw [hm] at HMP
                              simp only [mapR] at HMP
                              have HFD := Lib.hid hf
                              clear hm hf hn
                              go_upto_region 39 with fail
                              refine wp_region_lit ?_
                              refine takeL (.pointer (some ⟨L.b, 0, none⟩)) rfl (by go_simp) ?_
                              try simp only [Act.put, List.setIfInBounds_toArray, List.set_cons_succ, List.set_cons_zero]
                              refine takeL (.int .i64 j) rfl (by go_simp) ?_
                              try simp only [Act.put, List.setIfInBounds_toArray, List.set_cons_succ, List.set_cons_zero]
                              refine wpList_op rfl fun K hK => ?_
                              go_simp
                              refine (HMP.out).mono ?_
                              rintro e w9c ⟨rfl, hb⟩
                              have HKd := Lib.hid (HK8.out.below hb)
                              have HBd := Lib.hid (stay HB8.out hb)
                              clear hb
                              refine hK _ _ ?_
                              clear hK K
                              try simp only [Act.put, List.setIfInBounds_toArray, List.set_cons_succ, List.set_cons_zero]
                              refine takeL (.tuple #[.agg (i64s (zeros 8)).toArray, .bool false]) rfl (by go_simp) ?_
                              try simp only [Act.put, List.setIfInBounds_toArray, List.set_cons_succ, List.set_cons_zero]
                              refine takeL (.agg (i64s (zeros 8)).toArray) rfl (by go_simp) ?_
                              try simp only [Act.put, List.setIfInBounds_toArray, List.set_cons_succ, List.set_cons_zero]
                              refine takeL (.bool false) rfl (by go_simp) ?_
                              try simp only [Act.put, List.setIfInBounds_toArray, List.set_cons_succ, List.set_cons_zero]
                              refine alloc_g zero41 rfl ?_
                              intro wa hA hb hl
                              try simp only [Act.put, List.setIfInBounds_toArray, List.set_cons_succ, List.set_cons_zero]
                              refine store_all (cs := (i64s (zeros 8)).toArray) hA (by simp only [List.size_toArray, List.length_map, zeros_length, zeros_length]) (by simp only [List.size_toArray, List.length_map, zeros_length]; exact info41) (i64s_one _) rfl rfl rfl ?_
                              intro w9 hD hO hlD
                              try simp only [Act.put, List.setIfInBounds_toArray, List.set_cons_succ, List.set_cons_zero]
                              have VA9 : Hid (Blk w9 w9c.heap.size (i64s (zeros 8))) := Lib.hid (by simpa using hD)
                              have VE9 : Hid (Below w9c.heap.size w9c w9) := Lib.hid (hb.trans (hO.below hb.size fun k hk => Nat.le_of_eq hk.symm))
                              clear hA hb hl hD hO hlD
                              refine takeL (.bool false) rfl (by go_simp) ?_
                              try simp only [Act.put, List.setIfInBounds_toArray, List.set_cons_succ, List.set_cons_zero]
                              refine wpList_nil ?_
                              have HK9 := Lib.hid (HKd.out.below VE9.out)
                              have HB9 := Lib.hid (stay HBd.out VE9.out)
                              clear HKd HBd VE9 HK8 HB8 HMP
                              have e41 : decide ((j : Int) < 8) = true := decide_eq_true (by omega)
                              have c9 := HK9.out.k.re.blk.cell (i := 0) rfl
                              have g64 : IntKind.i64.wrap (64 + (j : Int)) = 64 + (j : Int) := Kl.wrap63 (by omega) (by omega)
                              have HRF := Lib.hid (rfind_any w9 R.cb R.cr R.cap R.tl s5.c HK9.out.k.re.clk HO5.out.ck (64 + (j : Int)))
                              rw [HFD.out] at HRF
                              simp only [findI] at HRF
                              go_wp2_with fail
                              refine HRF.out.mono ?_
                              rintro e w' ⟨rfl, rfl⟩
                              clear HRF c9
                              go_upto_region 43 with fail
                              refine startH (fun wq => Below w9.heap.size w9 wq) (by kernel_rfl) ?_
                              refine takeH 0 (some 272) (.bool false) rfl rfl (by kernel_rfl) (by kernel_rfl) (by kernel_rfl) (fun _ _ _ h => h) rfl (fun wq hS => by go_simp) (Below.refl _ _).drew ?_
                              try simp only [Act.put, List.setIfInBounds_toArray, List.set_cons_succ, List.set_cons_zero]
                              refine takeH 1 (some 273) (.int .i64 (-1)) rfl rfl (by kernel_rfl) (by kernel_rfl) (by kernel_rfl) (fun _ _ _ h => h) rfl (fun wq hS => by go_simp) (Below.refl _ _).drew ?_
                              try simp only [Act.put, List.setIfInBounds_toArray, List.set_cons_succ, List.set_cons_zero]
                              refine takeH 2 (some 274) (.bool false) rfl rfl (by kernel_rfl) (by kernel_rfl) (by kernel_rfl) (fun _ _ _ h => h) rfl (fun wq hS => by go_simp) (Below.refl _ _).drew ?_
                              try simp only [Act.put, List.setIfInBounds_toArray, List.set_cons_succ, List.set_cons_zero]
                              refine takeH 3 (some 275) (.bool false) rfl rfl (by kernel_rfl) (by kernel_rfl) (by kernel_rfl) (fun _ _ _ h => h) rfl (fun wq hS => by go_simp) (Below.refl _ _).drew ?_
                              try simp only [Act.put, List.setIfInBounds_toArray, List.set_cons_succ, List.set_cons_zero]
                              refine takeH 4 (some 276) (.bool false) rfl rfl (by kernel_rfl) (by kernel_rfl) (by kernel_rfl) (fun _ _ _ h => h) rfl (fun wq hS => by go_simp) (Below.refl _ _).drew ?_
                              try simp only [Act.put, List.setIfInBounds_toArray, List.set_cons_succ, List.set_cons_zero]
                              refine takeH 5 (some 277) (.bool false) rfl rfl (by kernel_rfl) (by kernel_rfl) (by kernel_rfl) (fun _ _ _ h => h) rfl (fun wq hS => by go_simp) (Below.refl _ _).drew ?_
                              try simp only [Act.put, List.setIfInBounds_toArray, List.set_cons_succ, List.set_cons_zero]
                              refine takeH 6 (some 278) (.bool false) rfl rfl (by kernel_rfl) (by kernel_rfl) (by kernel_rfl) (fun _ _ _ h => h) rfl (fun wq hS => by go_simp) (Below.refl _ _).drew ?_
                              try simp only [Act.put, List.setIfInBounds_toArray, List.set_cons_succ, List.set_cons_zero]
                              refine passH 7 (some 279) rfl rfl (by kernel_rfl) (by kernel_rfl) (by kernel_rfl) (fun _ _ _ h => h) rfl (Below.refl _ _).drew ?_
                              try simp only [Act.put, List.setIfInBounds_toArray, List.set_cons_succ, List.set_cons_zero]
                              refine passH 8 (some 280) rfl rfl (by kernel_rfl) (by kernel_rfl) (by kernel_rfl) (fun _ _ _ h => h) rfl (Below.refl _ _).drew ?_
                              try simp only [Act.put, List.setIfInBounds_toArray, List.set_cons_succ, List.set_cons_zero]
                              refine passH 9 (some 281) rfl rfl (by kernel_rfl) (by kernel_rfl) (by kernel_rfl) (fun _ _ _ h => h) rfl (Below.refl _ _).drew ?_
                              try simp only [Act.put, List.setIfInBounds_toArray, List.set_cons_succ, List.set_cons_zero]
                              refine passH 10 (some 282) rfl rfl (by kernel_rfl) (by kernel_rfl) (by kernel_rfl) (fun _ _ _ h => h) rfl (Below.refl _ _).drew ?_
                              try simp only [Act.put, List.setIfInBounds_toArray, List.set_cons_succ, List.set_cons_zero]
                              refine passH 11 (some 283) rfl rfl (by kernel_rfl) (by kernel_rfl) (by kernel_rfl) (fun _ _ _ h => h) rfl (Below.refl _ _).drew ?_
                              try simp only [Act.put, List.setIfInBounds_toArray, List.set_cons_succ, List.set_cons_zero]
                              refine passH 12 (some 284) rfl rfl (by kernel_rfl) (by kernel_rfl) (by kernel_rfl) (fun _ _ _ h => h) rfl (Below.refl _ _).drew ?_
                              try simp only [Act.put, List.setIfInBounds_toArray, List.set_cons_succ, List.set_cons_zero]
                              refine passH 13 (some 285) rfl rfl (by kernel_rfl) (by kernel_rfl) (by kernel_rfl) (fun _ _ _ h => h) rfl (Below.refl _ _).drew ?_
                              try simp only [Act.put, List.setIfInBounds_toArray, List.set_cons_succ, List.set_cons_zero]
                              refine passH 14 (some 286) rfl rfl (by kernel_rfl) (by kernel_rfl) (by kernel_rfl) (fun _ _ _ h => h) rfl (Below.refl _ _).drew ?_
                              try simp only [Act.put, List.setIfInBounds_toArray, List.set_cons_succ, List.set_cons_zero]
                              refine passH 15 (some 287) rfl rfl (by kernel_rfl) (by kernel_rfl) (by kernel_rfl) (fun _ _ _ h => h) rfl (Below.refl _ _).drew ?_
                              try simp only [Act.put, List.setIfInBounds_toArray, List.set_cons_succ, List.set_cons_zero]
                              refine passH 16 (some 288) rfl rfl (by kernel_rfl) (by kernel_rfl) (by kernel_rfl) (fun _ _ _ h => h) rfl (Below.refl _ _).drew ?_
                              try simp only [Act.put, List.setIfInBounds_toArray, List.set_cons_succ, List.set_cons_zero]
                              refine takeH 17 (some 289) (.bool false) rfl rfl (by kernel_rfl) (by kernel_rfl) (by kernel_rfl) (fun _ _ _ h => h) rfl (fun wq hS => by go_simp) (Below.refl _ _).drew ?_
                              try simp only [Act.put, List.setIfInBounds_toArray, List.set_cons_succ, List.set_cons_zero]
                              refine takeH 18 (some 290) (.bool false) rfl rfl (by kernel_rfl) (by kernel_rfl) (by kernel_rfl) (fun _ _ _ h => h) rfl (fun wq hS => by go_simp) (Below.refl _ _).drew ?_
                              try simp only [Act.put, List.setIfInBounds_toArray, List.set_cons_succ, List.set_cons_zero]
                              refine takeH 19 (some 291) (.bool false) rfl rfl (by kernel_rfl) (by kernel_rfl) (by kernel_rfl) (fun _ _ _ h => h) rfl (fun wq hS => by go_simp) (Below.refl _ _).drew ?_
                              try simp only [Act.put, List.setIfInBounds_toArray, List.set_cons_succ, List.set_cons_zero]
                              refine takeH 20 (some 292) (.bool false) rfl rfl (by kernel_rfl) (by kernel_rfl) (by kernel_rfl) (fun _ _ _ h => h) rfl (fun wq hS => by go_simp) (Below.refl _ _).drew ?_
                              try simp only [Act.put, List.setIfInBounds_toArray, List.set_cons_succ, List.set_cons_zero]
                              refine takeH 21 (some 293) (.bool true) rfl rfl (by kernel_rfl) (by kernel_rfl) (by kernel_rfl) (fun _ _ _ h => h) rfl (fun wq hS => by go_simp) (Below.refl _ _).drew ?_
                              try simp only [Act.put, List.setIfInBounds_toArray, List.set_cons_succ, List.set_cons_zero]
                              refine takeH 22 (some 294) (.bool true) rfl rfl (by kernel_rfl) (by kernel_rfl) (by kernel_rfl) (fun _ _ _ h => h) rfl (fun wq hS => by go_simp) (Below.refl _ _).drew ?_
                              try simp only [Act.put, List.setIfInBounds_toArray, List.set_cons_succ, List.set_cons_zero]
                              refine takeH 23 (some 295) (.agg (i64s (zeros 8)).toArray) rfl rfl (by kernel_rfl) (by kernel_rfl) (by kernel_rfl) (fun _ _ _ h => h) rfl (fun wq hS => by exact exec_load_at wq _ _ 41 _ rfl (w9c.heap.size) (0) rfl ((i64s (zeros 8)).toArray) _ Tryz.underlying41 rfl (by simp only [List.size_toArray, List.length_map]; exact info41) (Blk.all (VA9.out.below hS VA9.out.lt) rfl)) (Below.refl _ _).drew ?_
                              try simp only [Act.put, List.setIfInBounds_toArray, List.set_cons_succ, List.set_cons_zero]
                              refine takeH 24 (some 296) (.agg (i64s (zeros 8)).toArray) rfl rfl (by kernel_rfl) (by kernel_rfl) (by kernel_rfl) (fun _ _ _ h => h) rfl (fun wq hS => by exact exec_build _ _ _ _ 41 #[] rfl #[] (by simp) _ (build41 _)) (Below.refl _ _).drew ?_
                              try simp only [Act.put, List.setIfInBounds_toArray, List.set_cons_succ, List.set_cons_zero]
                              refine takeH 25 (some 297) (.bool false) rfl rfl (by kernel_rfl) (by kernel_rfl) (by kernel_rfl) (fun _ _ _ h => h) rfl (fun wq hS => by exact exec_headsN (by rw [decide_eq_true rfl]; rfl) (zeros_length 8) (zeros_length 8) _ _ _ rfl rfl rfl) (Below.refl _ _).drew ?_
                              try simp only [Act.put, List.setIfInBounds_toArray, List.set_cons_succ, List.set_cons_zero]
                              refine takeH 26 (some 298) (.bool false) rfl rfl (by kernel_rfl) (by kernel_rfl) (by kernel_rfl) (fun _ _ _ h => h) rfl (fun wq hS => by go_simp) (Below.refl _ _).drew ?_
                              try simp only [Act.put, List.setIfInBounds_toArray, List.set_cons_succ, List.set_cons_zero]
                              refine takeH 27 (some 299) (.bool false) rfl rfl (by kernel_rfl) (by kernel_rfl) (by kernel_rfl) (fun _ _ _ h => h) rfl (fun wq hS => by go_simp) (Below.refl _ _).drew ?_
                              try simp only [Act.put, List.setIfInBounds_toArray, List.set_cons_succ, List.set_cons_zero]
                              refine wpAnyH_done (by kernel_rfl) ?_ _
                              go_wp2_with fail
                              go_roundg (12 - (j + 1))
                              case measure => omega
                              case rel => exact ⟨j + 1, by omega, by omega, by go_num, HB9.out.trans ((Below.refl _ _).drew.mono HB9.out.size)⟩

                            | some i =>
                              obtain ⟨hil, u, hm, hu, huo⟩ := heldMap_at HO5.out (p := (j : Int)) (by omega) hf
                              rw [hm] at HMP
                              simp only [mapR] at HMP
                              have HUX := Lib.hid hu
                              have HUO := Lib.hid huo
                              have HI0 : Hid (decide (0 ≤ (i : Int)) = true) := Lib.hid (decide_eq_true (by omega))
                              have hi1 : (i : Int) < (n : Int) := by omega
                              have hi2 : i < n := by omega
                              have HFD := Lib.hid hf
                              clear hm hf hu huo hil hn
                              go_upto_region 39 with fail
                              refine wp_region_lit ?_
                              refine takeL (.pointer (some ⟨L.b, 0, none⟩)) rfl (by go_simp) ?_
                              try simp only [Act.put, List.setIfInBounds_toArray, List.set_cons_succ, List.set_cons_zero]
                              refine takeL (.int .i64 j) rfl (by go_simp) ?_
                              try simp only [Act.put, List.setIfInBounds_toArray, List.set_cons_succ, List.set_cons_zero]
                              refine wpList_op rfl fun K hK => ?_
                              go_simp
                              refine (HMP.out).mono ?_
                              rintro e w9c ⟨rfl, hb⟩
                              have HKd := Lib.hid (HK8.out.below hb)
                              have HBd := Lib.hid (stay HB8.out hb)
                              clear hb
                              refine hK _ _ ?_
                              clear hK K
                              try simp only [Act.put, List.setIfInBounds_toArray, List.set_cons_succ, List.set_cons_zero]
                              refine takeL (.tuple #[.agg (i64s u.heads).toArray, .bool true]) rfl (by go_simp) ?_
                              try simp only [Act.put, List.setIfInBounds_toArray, List.set_cons_succ, List.set_cons_zero]
                              refine takeL (.agg (i64s u.heads).toArray) rfl (by go_simp) ?_
                              try simp only [Act.put, List.setIfInBounds_toArray, List.set_cons_succ, List.set_cons_zero]
                              refine takeL (.bool true) rfl (by go_simp) ?_
                              try simp only [Act.put, List.setIfInBounds_toArray, List.set_cons_succ, List.set_cons_zero]
                              refine alloc_g zero41 rfl ?_
                              intro wa hA hb hl
                              try simp only [Act.put, List.setIfInBounds_toArray, List.set_cons_succ, List.set_cons_zero]
                              refine store_all (cs := (i64s u.heads).toArray) hA (by simp only [List.size_toArray, List.length_map, HUO.out.heads, zeros_length]) (by simp only [List.size_toArray, List.length_map, HUO.out.heads]; exact info41) (i64s_one _) rfl rfl rfl ?_
                              intro w9 hD hO hlD
                              try simp only [Act.put, List.setIfInBounds_toArray, List.set_cons_succ, List.set_cons_zero]
                              have VA9 : Hid (Blk w9 w9c.heap.size (i64s u.heads)) := Lib.hid (by simpa using hD)
                              have VE9 : Hid (Below w9c.heap.size w9c w9) := Lib.hid (hb.trans (hO.below hb.size fun k hk => Nat.le_of_eq hk.symm))
                              clear hA hb hl hD hO hlD
                              refine takeL (.bool true) rfl (by go_simp) ?_
                              try simp only [Act.put, List.setIfInBounds_toArray, List.set_cons_succ, List.set_cons_zero]
                              refine wpList_nil ?_
                              have HK9 := Lib.hid (HKd.out.below VE9.out)
                              have HB9 := Lib.hid (stay HBd.out VE9.out)
                              clear HKd HBd VE9 HK8 HB8 HMP
                              have e41 : decide ((j : Int) < 8) = true := decide_eq_true (by omega)
                              have c9 := HK9.out.k.re.blk.cell (i := 0) rfl
                              have g64 : IntKind.i64.wrap (64 + (j : Int)) = 64 + (j : Int) := Kl.wrap63 (by omega) (by omega)
                              have HRF := Lib.hid (rfind_any w9 R.cb R.cr R.cap R.tl s5.c HK9.out.k.re.clk HO5.out.ck (64 + (j : Int)))
                              rw [HFD.out] at HRF
                              simp only [findI] at HRF
                              go_wp2_with fail
                              refine HRF.out.mono ?_
                              rintro e w' ⟨rfl, rfl⟩
                              clear HRF c9
                              go_upto_region 43 with fail
                              refine startH (fun wq => Below w9.heap.size w9 wq) (by kernel_rfl) ?_
                              refine takeH 0 (some 272) (.bool true) rfl rfl (by kernel_rfl) (by kernel_rfl) (by kernel_rfl) (fun _ _ _ h => h) rfl (fun wq hS => by go_simp) (Below.refl _ _).drew ?_
                              try simp only [Act.put, List.setIfInBounds_toArray, List.set_cons_succ, List.set_cons_zero]
                              refine takeH 1 (some 273) (.int .i64 i) rfl rfl (by kernel_rfl) (by kernel_rfl) (by kernel_rfl) (fun _ _ _ h => h) rfl (fun wq hS => by go_simp) (Below.refl _ _).drew ?_
                              try simp only [Act.put, List.setIfInBounds_toArray, List.set_cons_succ, List.set_cons_zero]
                              refine takeH 2 (some 274) (.bool true) rfl rfl (by kernel_rfl) (by kernel_rfl) (by kernel_rfl) (fun _ _ _ h => h) rfl (fun wq hS => by have hq := HI0.out; go_simp) (Below.refl _ _).drew ?_
                              try simp only [Act.put, List.setIfInBounds_toArray, List.set_cons_succ, List.set_cons_zero]
                              refine takeH 3 (some 275) (.bool false) rfl rfl (by kernel_rfl) (by kernel_rfl) (by kernel_rfl) (fun _ _ _ h => h) rfl (fun wq hS => by go_simp) (Below.refl _ _).drew ?_
                              try simp only [Act.put, List.setIfInBounds_toArray, List.set_cons_succ, List.set_cons_zero]
                              refine takeH 4 (some 276) (.bool false) rfl rfl (by kernel_rfl) (by kernel_rfl) (by kernel_rfl) (fun _ _ _ h => h) rfl (fun wq hS => by go_simp) (Below.refl _ _).drew ?_
                              try simp only [Act.put, List.setIfInBounds_toArray, List.set_cons_succ, List.set_cons_zero]
                              refine takeH 5 (some 277) (.bool true) rfl rfl (by kernel_rfl) (by kernel_rfl) (by kernel_rfl) (fun _ _ _ h => h) rfl (fun wq hS => by go_simp) (Below.refl _ _).drew ?_
                              try simp only [Act.put, List.setIfInBounds_toArray, List.set_cons_succ, List.set_cons_zero]
                              refine takeH 6 (some 278) (.bool true) rfl rfl (by kernel_rfl) (by kernel_rfl) (by kernel_rfl) (fun _ _ _ h => h) rfl (fun wq hS => by go_simp) (Below.refl _ _).drew ?_
                              try simp only [Act.put, List.setIfInBounds_toArray, List.set_cons_succ, List.set_cons_zero]
                              refine takeH 7 (some 279) (.agg (i64s u.heads).toArray) rfl rfl (by kernel_rfl) (by kernel_rfl) (by kernel_rfl) (fun _ _ _ h => h) rfl (fun wq hS => by exact exec_load_at wq _ _ 41 _ rfl (w9c.heap.size) (0) rfl ((i64s u.heads).toArray) _ Tryz.underlying41 rfl (by simp only [List.size_toArray, List.length_map, HUO.out.heads]; exact info41) (Blk.all (VA9.out.below hS VA9.out.lt) rfl)) (Below.refl _ _).drew ?_
                              try simp only [Act.put, List.setIfInBounds_toArray, List.set_cons_succ, List.set_cons_zero]
                              refine takeH 8 (some 280) (.pointer (some ⟨R.b, 0, none⟩)) rfl rfl (by kernel_rfl) (by kernel_rfl) (by kernel_rfl) (fun _ _ _ h => h) rfl (fun wq hS => by go_simp) (Below.refl _ _).drew ?_
                              try simp only [Act.put, List.setIfInBounds_toArray, List.set_cons_succ, List.set_cons_zero]
                              refine takeH 9 (some 281) (.pointer (some ⟨R.b, 0, none⟩)) rfl rfl (by kernel_rfl) (by kernel_rfl) (by kernel_rfl) (fun _ _ _ h => h) rfl (fun wq hS => by go_simp) (Below.refl _ _).drew ?_
                              try simp only [Act.put, List.setIfInBounds_toArray, List.set_cons_succ, List.set_cons_zero]
                              refine takeH 10 (some 282) (.pointer (some ⟨R.b, 1, none⟩)) rfl rfl (by kernel_rfl) (by kernel_rfl) (by kernel_rfl) (fun _ _ _ h => h) rfl (fun wq hS => by go_simp) (Below.refl _ _).drew ?_
                              try simp only [Act.put, List.setIfInBounds_toArray, List.set_cons_succ, List.set_cons_zero]
                              refine takeH 11 (some 283) (.slice (some ⟨R.hr, 0, none⟩) n R.hcap) rfl rfl (by kernel_rfl) (by kernel_rfl) (by kernel_rfl) (fun _ _ _ h => h) rfl (fun wq hS => by have hq := (HK9.out.k.re.blk.below hS HK9.out.k.re.blk.lt).cell (i := 1) rfl; rw [HNN.out] at hq; go_simp) (Below.refl _ _).drew ?_
                              try simp only [Act.put, List.setIfInBounds_toArray, List.set_cons_succ, List.set_cons_zero]
                              refine takeH 12 (some 284) (.int .i64 i) rfl rfl (by kernel_rfl) (by kernel_rfl) (by kernel_rfl) (fun _ _ _ h => h) rfl (fun wq hS => by go_simp) (Below.refl _ _).drew ?_
                              try simp only [Act.put, List.setIfInBounds_toArray, List.set_cons_succ, List.set_cons_zero]
                              refine takeH 13 (some 285) (.pointer (some ⟨R.hr, i * 72, none⟩)) rfl rfl (by kernel_rfl) (by kernel_rfl) (by kernel_rfl) (fun _ _ _ h => h) rfl (fun wq hS => by go_simp) (Below.refl _ _).drew ?_
                              try simp only [Act.put, List.setIfInBounds_toArray, List.set_cons_succ, List.set_cons_zero]
                              refine takeH 14 (some 286) (.pointer (some ⟨R.hr, i * 72 + 64, none⟩)) rfl rfl (by kernel_rfl) (by kernel_rfl) (by kernel_rfl) (fun _ _ _ h => h) rfl (fun wq hS => by go_simp) (Below.refl _ _).drew ?_
                              try simp only [Act.put, List.setIfInBounds_toArray, List.set_cons_succ, List.set_cons_zero]
                              refine takeH 15 (some 287) (.agg (i64s u.heads).toArray) rfl rfl (by kernel_rfl) (by kernel_rfl) (by kernel_rfl) (fun _ _ _ h => h) rfl (fun wq hS => by exact exec_load_at wq _ _ 41 _ rfl (R.hr) (i * 72 + 64) rfl ((i64s u.heads).toArray) _ Tryz.underlying41 rfl (by simp only [List.size_toArray, List.length_map, HUO.out.heads]; exact info41) (hd_heads (HK9.out.k.re.row.below hS HK9.out.k.re.row.lt) HUX.out HUO.out)) (Below.refl _ _).drew ?_
                              try simp only [Act.put, List.setIfInBounds_toArray, List.set_cons_succ, List.set_cons_zero]
                              refine takeH 16 (some 288) (.bool false) rfl rfl (by kernel_rfl) (by kernel_rfl) (by kernel_rfl) (fun _ _ _ h => h) rfl (fun wq hS => by exact exec_headsN (by rw [decide_eq_true rfl]; rfl) HUO.out.heads HUO.out.heads _ _ _ rfl rfl rfl) (Below.refl _ _).drew ?_
                              try simp only [Act.put, List.setIfInBounds_toArray, List.set_cons_succ, List.set_cons_zero]
                              refine takeH 17 (some 289) (.bool false) rfl rfl (by kernel_rfl) (by kernel_rfl) (by kernel_rfl) (fun _ _ _ h => h) rfl (fun wq hS => by go_simp) (Below.refl _ _).drew ?_
                              try simp only [Act.put, List.setIfInBounds_toArray, List.set_cons_succ, List.set_cons_zero]
                              refine takeH 18 (some 290) (.bool false) rfl rfl (by kernel_rfl) (by kernel_rfl) (by kernel_rfl) (fun _ _ _ h => h) rfl (fun wq hS => by go_simp) (Below.refl _ _).drew ?_
                              try simp only [Act.put, List.setIfInBounds_toArray, List.set_cons_succ, List.set_cons_zero]
                              refine takeH 19 (some 291) (.bool false) rfl rfl (by kernel_rfl) (by kernel_rfl) (by kernel_rfl) (fun _ _ _ h => h) rfl (fun wq hS => by go_simp) (Below.refl _ _).drew ?_
                              try simp only [Act.put, List.setIfInBounds_toArray, List.set_cons_succ, List.set_cons_zero]
                              refine takeH 20 (some 292) (.bool true) rfl rfl (by kernel_rfl) (by kernel_rfl) (by kernel_rfl) (fun _ _ _ h => h) rfl (fun wq hS => by go_simp) (Below.refl _ _).drew ?_
                              try simp only [Act.put, List.setIfInBounds_toArray, List.set_cons_succ, List.set_cons_zero]
                              refine takeH 21 (some 293) (.bool false) rfl rfl (by kernel_rfl) (by kernel_rfl) (by kernel_rfl) (fun _ _ _ h => h) rfl (fun wq hS => by go_simp) (Below.refl _ _).drew ?_
                              try simp only [Act.put, List.setIfInBounds_toArray, List.set_cons_succ, List.set_cons_zero]
                              refine takeH 22 (some 294) (.bool false) rfl rfl (by kernel_rfl) (by kernel_rfl) (by kernel_rfl) (fun _ _ _ h => h) rfl (fun wq hS => by go_simp) (Below.refl _ _).drew ?_
                              try simp only [Act.put, List.setIfInBounds_toArray, List.set_cons_succ, List.set_cons_zero]
                              refine passH 23 (some 295) rfl rfl (by kernel_rfl) (by kernel_rfl) (by kernel_rfl) (fun _ _ _ h => h) rfl (Below.refl _ _).drew ?_
                              try simp only [Act.put, List.setIfInBounds_toArray, List.set_cons_succ, List.set_cons_zero]
                              refine passH 24 (some 296) rfl rfl (by kernel_rfl) (by kernel_rfl) (by kernel_rfl) (fun _ _ _ h => h) rfl (Below.refl _ _).drew ?_
                              try simp only [Act.put, List.setIfInBounds_toArray, List.set_cons_succ, List.set_cons_zero]
                              refine passH 25 (some 297) rfl rfl (by kernel_rfl) (by kernel_rfl) (by kernel_rfl) (fun _ _ _ h => h) rfl (Below.refl _ _).drew ?_
                              try simp only [Act.put, List.setIfInBounds_toArray, List.set_cons_succ, List.set_cons_zero]
                              refine takeH 26 (some 298) (.bool false) rfl rfl (by kernel_rfl) (by kernel_rfl) (by kernel_rfl) (fun _ _ _ h => h) rfl (fun wq hS => by go_simp) (Below.refl _ _).drew ?_
                              try simp only [Act.put, List.setIfInBounds_toArray, List.set_cons_succ, List.set_cons_zero]
                              refine takeH 27 (some 299) (.bool false) rfl rfl (by kernel_rfl) (by kernel_rfl) (by kernel_rfl) (fun _ _ _ h => h) rfl (fun wq hS => by go_simp) (Below.refl _ _).drew ?_
                              try simp only [Act.put, List.setIfInBounds_toArray, List.set_cons_succ, List.set_cons_zero]
                              refine wpAnyH_done (by kernel_rfl) ?_ _
                              go_wp2_with fail
                              go_roundg (12 - (j + 1))
                              case measure => omega
                              case rel => exact ⟨j + 1, by omega, by omega, by go_num, HB9.out.trans ((Below.refl _ _).drew.mono HB9.out.size)⟩

                          · have hm : s5.heldMap (j : Int) = none := by unfold Fs.heldMap; rw [if_neg (by omega)]
                            rw [hm] at HMP
                            simp only [mapR] at HMP
                            clear hm hn
                            go_upto_region 39 with fail
                            refine wp_region_lit ?_
                            refine takeL (.pointer (some ⟨L.b, 0, none⟩)) rfl (by go_simp) ?_
                            try simp only [Act.put, List.setIfInBounds_toArray, List.set_cons_succ, List.set_cons_zero]
                            refine takeL (.int .i64 j) rfl (by go_simp) ?_
                            try simp only [Act.put, List.setIfInBounds_toArray, List.set_cons_succ, List.set_cons_zero]
                            refine wpList_op rfl fun K hK => ?_
                            go_simp
                            refine (HMP.out).mono ?_
                            rintro e w9c ⟨rfl, hb⟩
                            have HKd := Lib.hid (HK8.out.below hb)
                            have HBd := Lib.hid (stay HB8.out hb)
                            clear hb
                            refine hK _ _ ?_
                            clear hK K
                            try simp only [Act.put, List.setIfInBounds_toArray, List.set_cons_succ, List.set_cons_zero]
                            refine takeL (.tuple #[.agg (i64s (zeros 8)).toArray, .bool false]) rfl (by go_simp) ?_
                            try simp only [Act.put, List.setIfInBounds_toArray, List.set_cons_succ, List.set_cons_zero]
                            refine takeL (.agg (i64s (zeros 8)).toArray) rfl (by go_simp) ?_
                            try simp only [Act.put, List.setIfInBounds_toArray, List.set_cons_succ, List.set_cons_zero]
                            refine takeL (.bool false) rfl (by go_simp) ?_
                            try simp only [Act.put, List.setIfInBounds_toArray, List.set_cons_succ, List.set_cons_zero]
                            refine alloc_g zero41 rfl ?_
                            intro wa hA hb hl
                            try simp only [Act.put, List.setIfInBounds_toArray, List.set_cons_succ, List.set_cons_zero]
                            refine store_all (cs := (i64s (zeros 8)).toArray) hA (by simp only [List.size_toArray, List.length_map, zeros_length, zeros_length]) (by simp only [List.size_toArray, List.length_map, zeros_length]; exact info41) (i64s_one _) rfl rfl rfl ?_
                            intro w9 hD hO hlD
                            try simp only [Act.put, List.setIfInBounds_toArray, List.set_cons_succ, List.set_cons_zero]
                            have VA9 : Hid (Blk w9 w9c.heap.size (i64s (zeros 8))) := Lib.hid (by simpa using hD)
                            have VE9 : Hid (Below w9c.heap.size w9c w9) := Lib.hid (hb.trans (hO.below hb.size fun k hk => Nat.le_of_eq hk.symm))
                            clear hA hb hl hD hO hlD
                            refine takeL (.bool false) rfl (by go_simp) ?_
                            try simp only [Act.put, List.setIfInBounds_toArray, List.set_cons_succ, List.set_cons_zero]
                            refine wpList_nil ?_
                            have HK9 := Lib.hid (HKd.out.below VE9.out)
                            have HB9 := Lib.hid (stay HBd.out VE9.out)
                            clear HKd HBd VE9 HK8 HB8 HMP
                            have e41 : decide ((j : Int) < 8) = false := decide_eq_false (by omega)
                            go_upto_region 43 with fail
                            refine startH (fun wq => Below w9.heap.size w9 wq) (by kernel_rfl) ?_
                            refine takeH 0 (some 272) (.bool false) rfl rfl (by kernel_rfl) (by kernel_rfl) (by kernel_rfl) (fun _ _ _ h => h) rfl (fun wq hS => by go_simp) (Below.refl _ _).drew ?_
                            try simp only [Act.put, List.setIfInBounds_toArray, List.set_cons_succ, List.set_cons_zero]
                            refine takeH 1 (some 273) (.int .i64 (-1)) rfl rfl (by kernel_rfl) (by kernel_rfl) (by kernel_rfl) (fun _ _ _ h => h) rfl (fun wq hS => by go_simp) (Below.refl _ _).drew ?_
                            try simp only [Act.put, List.setIfInBounds_toArray, List.set_cons_succ, List.set_cons_zero]
                            refine takeH 2 (some 274) (.bool false) rfl rfl (by kernel_rfl) (by kernel_rfl) (by kernel_rfl) (fun _ _ _ h => h) rfl (fun wq hS => by go_simp) (Below.refl _ _).drew ?_
                            try simp only [Act.put, List.setIfInBounds_toArray, List.set_cons_succ, List.set_cons_zero]
                            refine takeH 3 (some 275) (.bool false) rfl rfl (by kernel_rfl) (by kernel_rfl) (by kernel_rfl) (fun _ _ _ h => h) rfl (fun wq hS => by go_simp) (Below.refl _ _).drew ?_
                            try simp only [Act.put, List.setIfInBounds_toArray, List.set_cons_succ, List.set_cons_zero]
                            refine takeH 4 (some 276) (.bool false) rfl rfl (by kernel_rfl) (by kernel_rfl) (by kernel_rfl) (fun _ _ _ h => h) rfl (fun wq hS => by go_simp) (Below.refl _ _).drew ?_
                            try simp only [Act.put, List.setIfInBounds_toArray, List.set_cons_succ, List.set_cons_zero]
                            refine takeH 5 (some 277) (.bool false) rfl rfl (by kernel_rfl) (by kernel_rfl) (by kernel_rfl) (fun _ _ _ h => h) rfl (fun wq hS => by go_simp) (Below.refl _ _).drew ?_
                            try simp only [Act.put, List.setIfInBounds_toArray, List.set_cons_succ, List.set_cons_zero]
                            refine takeH 6 (some 278) (.bool false) rfl rfl (by kernel_rfl) (by kernel_rfl) (by kernel_rfl) (fun _ _ _ h => h) rfl (fun wq hS => by go_simp) (Below.refl _ _).drew ?_
                            try simp only [Act.put, List.setIfInBounds_toArray, List.set_cons_succ, List.set_cons_zero]
                            refine passH 7 (some 279) rfl rfl (by kernel_rfl) (by kernel_rfl) (by kernel_rfl) (fun _ _ _ h => h) rfl (Below.refl _ _).drew ?_
                            try simp only [Act.put, List.setIfInBounds_toArray, List.set_cons_succ, List.set_cons_zero]
                            refine passH 8 (some 280) rfl rfl (by kernel_rfl) (by kernel_rfl) (by kernel_rfl) (fun _ _ _ h => h) rfl (Below.refl _ _).drew ?_
                            try simp only [Act.put, List.setIfInBounds_toArray, List.set_cons_succ, List.set_cons_zero]
                            refine passH 9 (some 281) rfl rfl (by kernel_rfl) (by kernel_rfl) (by kernel_rfl) (fun _ _ _ h => h) rfl (Below.refl _ _).drew ?_
                            try simp only [Act.put, List.setIfInBounds_toArray, List.set_cons_succ, List.set_cons_zero]
                            refine passH 10 (some 282) rfl rfl (by kernel_rfl) (by kernel_rfl) (by kernel_rfl) (fun _ _ _ h => h) rfl (Below.refl _ _).drew ?_
                            try simp only [Act.put, List.setIfInBounds_toArray, List.set_cons_succ, List.set_cons_zero]
                            refine passH 11 (some 283) rfl rfl (by kernel_rfl) (by kernel_rfl) (by kernel_rfl) (fun _ _ _ h => h) rfl (Below.refl _ _).drew ?_
                            try simp only [Act.put, List.setIfInBounds_toArray, List.set_cons_succ, List.set_cons_zero]
                            refine passH 12 (some 284) rfl rfl (by kernel_rfl) (by kernel_rfl) (by kernel_rfl) (fun _ _ _ h => h) rfl (Below.refl _ _).drew ?_
                            try simp only [Act.put, List.setIfInBounds_toArray, List.set_cons_succ, List.set_cons_zero]
                            refine passH 13 (some 285) rfl rfl (by kernel_rfl) (by kernel_rfl) (by kernel_rfl) (fun _ _ _ h => h) rfl (Below.refl _ _).drew ?_
                            try simp only [Act.put, List.setIfInBounds_toArray, List.set_cons_succ, List.set_cons_zero]
                            refine passH 14 (some 286) rfl rfl (by kernel_rfl) (by kernel_rfl) (by kernel_rfl) (fun _ _ _ h => h) rfl (Below.refl _ _).drew ?_
                            try simp only [Act.put, List.setIfInBounds_toArray, List.set_cons_succ, List.set_cons_zero]
                            refine passH 15 (some 287) rfl rfl (by kernel_rfl) (by kernel_rfl) (by kernel_rfl) (fun _ _ _ h => h) rfl (Below.refl _ _).drew ?_
                            try simp only [Act.put, List.setIfInBounds_toArray, List.set_cons_succ, List.set_cons_zero]
                            refine passH 16 (some 288) rfl rfl (by kernel_rfl) (by kernel_rfl) (by kernel_rfl) (fun _ _ _ h => h) rfl (Below.refl _ _).drew ?_
                            try simp only [Act.put, List.setIfInBounds_toArray, List.set_cons_succ, List.set_cons_zero]
                            refine takeH 17 (some 289) (.bool false) rfl rfl (by kernel_rfl) (by kernel_rfl) (by kernel_rfl) (fun _ _ _ h => h) rfl (fun wq hS => by go_simp) (Below.refl _ _).drew ?_
                            try simp only [Act.put, List.setIfInBounds_toArray, List.set_cons_succ, List.set_cons_zero]
                            refine takeH 18 (some 290) (.bool false) rfl rfl (by kernel_rfl) (by kernel_rfl) (by kernel_rfl) (fun _ _ _ h => h) rfl (fun wq hS => by go_simp) (Below.refl _ _).drew ?_
                            try simp only [Act.put, List.setIfInBounds_toArray, List.set_cons_succ, List.set_cons_zero]
                            refine takeH 19 (some 291) (.bool false) rfl rfl (by kernel_rfl) (by kernel_rfl) (by kernel_rfl) (fun _ _ _ h => h) rfl (fun wq hS => by go_simp) (Below.refl _ _).drew ?_
                            try simp only [Act.put, List.setIfInBounds_toArray, List.set_cons_succ, List.set_cons_zero]
                            refine takeH 20 (some 292) (.bool false) rfl rfl (by kernel_rfl) (by kernel_rfl) (by kernel_rfl) (fun _ _ _ h => h) rfl (fun wq hS => by go_simp) (Below.refl _ _).drew ?_
                            try simp only [Act.put, List.setIfInBounds_toArray, List.set_cons_succ, List.set_cons_zero]
                            refine takeH 21 (some 293) (.bool true) rfl rfl (by kernel_rfl) (by kernel_rfl) (by kernel_rfl) (fun _ _ _ h => h) rfl (fun wq hS => by go_simp) (Below.refl _ _).drew ?_
                            try simp only [Act.put, List.setIfInBounds_toArray, List.set_cons_succ, List.set_cons_zero]
                            refine takeH 22 (some 294) (.bool true) rfl rfl (by kernel_rfl) (by kernel_rfl) (by kernel_rfl) (fun _ _ _ h => h) rfl (fun wq hS => by go_simp) (Below.refl _ _).drew ?_
                            try simp only [Act.put, List.setIfInBounds_toArray, List.set_cons_succ, List.set_cons_zero]
                            refine takeH 23 (some 295) (.agg (i64s (zeros 8)).toArray) rfl rfl (by kernel_rfl) (by kernel_rfl) (by kernel_rfl) (fun _ _ _ h => h) rfl (fun wq hS => by exact exec_load_at wq _ _ 41 _ rfl (w9c.heap.size) (0) rfl ((i64s (zeros 8)).toArray) _ Tryz.underlying41 rfl (by simp only [List.size_toArray, List.length_map]; exact info41) (Blk.all (VA9.out.below hS VA9.out.lt) rfl)) (Below.refl _ _).drew ?_
                            try simp only [Act.put, List.setIfInBounds_toArray, List.set_cons_succ, List.set_cons_zero]
                            refine takeH 24 (some 296) (.agg (i64s (zeros 8)).toArray) rfl rfl (by kernel_rfl) (by kernel_rfl) (by kernel_rfl) (fun _ _ _ h => h) rfl (fun wq hS => by exact exec_build _ _ _ _ 41 #[] rfl #[] (by simp) _ (build41 _)) (Below.refl _ _).drew ?_
                            try simp only [Act.put, List.setIfInBounds_toArray, List.set_cons_succ, List.set_cons_zero]
                            refine takeH 25 (some 297) (.bool false) rfl rfl (by kernel_rfl) (by kernel_rfl) (by kernel_rfl) (fun _ _ _ h => h) rfl (fun wq hS => by exact exec_headsN (by rw [decide_eq_true rfl]; rfl) (zeros_length 8) (zeros_length 8) _ _ _ rfl rfl rfl) (Below.refl _ _).drew ?_
                            try simp only [Act.put, List.setIfInBounds_toArray, List.set_cons_succ, List.set_cons_zero]
                            refine takeH 26 (some 298) (.bool false) rfl rfl (by kernel_rfl) (by kernel_rfl) (by kernel_rfl) (fun _ _ _ h => h) rfl (fun wq hS => by go_simp) (Below.refl _ _).drew ?_
                            try simp only [Act.put, List.setIfInBounds_toArray, List.set_cons_succ, List.set_cons_zero]
                            refine takeH 27 (some 299) (.bool false) rfl rfl (by kernel_rfl) (by kernel_rfl) (by kernel_rfl) (fun _ _ _ h => h) rfl (fun wq hS => by go_simp) (Below.refl _ _).drew ?_
                            try simp only [Act.put, List.setIfInBounds_toArray, List.set_cons_succ, List.set_cons_zero]
                            refine wpAnyH_done (by kernel_rfl) ?_ _
                            go_wp2_with fail
                            go_roundg (12 - (j + 1))
                            case measure => omega
                            case rel => exact ⟨j + 1, by omega, by omega, by go_num, HB9.out.trans ((Below.refl _ _).drew.mono HB9.out.size)⟩

                    · obtain rfl : j = 12 := by omega
                      have hj1 : ¬ ((12 : Nat) : Int) < 12 := by decide
                      as_aux_lemma =>
                        have HKB := Lib.hid (HK5.out.below HBJ.out).back
                        go_wp2_with fail
                        go_roundg (N0 - (k + 1))
                        case measure => omega
                        case rel => exact ⟨k + 1, s5, by omega, by omega, by go_num, HKB.out, HO5.out⟩

      · obtain rfl : k = N0 := by omega
        have hk1 : ¬ (k : Int) < (k : Int) := by omega
        have dk1 : decide ((k : Int) < (k : Int)) = false := decide_eq_false hk1
        have dk2 : decide (k < k) = false := decide_eq_false (by omega)
        as_aux_lemma =>
          go_wp2_with fail
          refine (wakes_any _ (HPZ.out.fz.ev HEV.out)).mono ?_
          rintro e w2 ⟨rfl, hb⟩
          have HB2 := Lib.hid (stay HPZ.out.fz.bel hb)
          clear hb
          go_wp2_with fail
          go_ret
          exact ⟨rfl, HB2.out⟩

end Go.Proofs.YtaemjglblfencaaGreatDoor
