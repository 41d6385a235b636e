/- The statement FramesKeep's walk: whatever the steps, the call returns true. -/
import Derived.Test.YtaemjglblfencaaDoorKr
import Derived.Deep.Cut
import Derived.Deep.CutRange
import Derived.Deep.CutBlock
import Derived.RegionTactic
import Derived.BigQuiet
import Derived.Deep.QuietTactic
namespace Go.Proofs.YtaemjglblfencaaDoor
set_option linter.unusedSimpArgs false
set_option linter.unusedVariables false
open Go.RowKit Kl

theorem store_O {t : TypeId} {x y : Operand} {g off : Nat} {l : List Value} {cs : Array Value} {o : Oper} {a : Act} {w : World} {K : Act → World → Prop} {Q : Exit → Act → World → Prop} (dst : Option Tmp) (hd : o.dst = dst) (ho : o.op = .store t x y)
    (hb : Blk w g l) (hfit : off + cs.size ≤ l.length) (hi : (Tryd.prog.info? t).map (·.size) = some cs.size) (h1 : ∀ v ∈ cs, v.oneCell' = true) (hx : a.eval x = .pointer (some ⟨g, off, none⟩)) (hy : a.eval y = .agg cs)
    (h : ∀ wX, Blk wX g (splice l off cs).toList → Only (fun k => k = g) w wX → wX.heap.size = w.heap.size → K (a.put dst undef) wX) : o.wp Tryd.prog a w K Q := by
  subst hd
  exact wp_store_at t x y ho g off cs hx hy l hb hi hfit h1 (h _ (hb.row _) ((Only.refl (fun k => k = g) w).setRow (.inl rfl) _) (by simp))
theorem zeroP8 : (Tryd.prog.info? 33).bind (·.zero) = some (.agg ((List.replicate 8 (zeros 32)).flatMap pgE).toArray) := by kernel_rfl
theorem zeroB8 : (Tryd.prog.info? 34).bind (·.zero) = some (.agg (bools (List.replicate 8 false)).toArray) := by kernel_rfl
theorem set_of_get {α : Type} {l : List α} {k : Nat} {x : α} (h : l[k]? = some x) : l.set k x = l := by
  apply List.ext_getElem?
  intro i
  rw [List.getElem?_set]
  split
  · rename_i e
    subst e
    rw [if_pos (List.getElem?_eq_some_iff.1 h).1, h]
  · rfl

set_option maxRecDepth 100000 in
set_option maxHeartbeats 8000000 in
theorem keep_any (W : World) (sv : Value) (l : List Stp) (hs : StepsAt W sv l) (hev : ErrVar W) : Calls Tryd.prog 3 #[sv] W fun e w' => e = .returned (.bool true) ∧ Below W.heap.size W w' := by
  have HSS := Lib.hid hs
  have HEV := Lib.hid hev
  have HN := Lib.hid (fz_new W 4 (by decide) (by decide))
  clear hs hev
  go_enter Tryd.func3, Tryd.ntmps3
  go_wp2_with fail
  refine HN.out.mono ?_
  rintro e w1 ⟨L, rfl, hz, hb⟩
  have HZ1 := Lib.hid hz
  have HFA := Lib.hid (fair_any w1 sv l (HSS.out.below hb))
  clear hz hb HN
  go_wp2_with fail
  refine (fz_clock HZ1.out).mono ?_
  rintro e w' ⟨rfl, rfl⟩
  go_wp2_with fail
  refine HFA.out.mono ?_
  rintro e w' ⟨rfl, rfl⟩
  clear HFA
  cases hfl : fairL l with
  | false =>
    clear hfl
    as_aux_lemma =>
      go_wp2_with fail
      refine (fz_clock HZ1.out).mono ?_
      rintro e w' ⟨rfl, rfl⟩
      go_wp2_with fail
      refine (wakes_any _ (HZ1.out.ev HEV.out)).mono ?_
      rintro e w2 ⟨rfl, hb⟩
      have HB2 := Lib.hid (stay HZ1.out.bel hb)
      clear hb
      go_wp2_with fail
      go_ret
      exact ⟨rfl, HB2.out⟩
  | true =>
    have HFL := Lib.hid hfl
    clear hfl
    go_upto_region 4 with fail
    refine wp_region_lit ?_
    refine alloc_g zeroP8 rfl ?_
    intro wa hA hb hl
    try simp only [Act.put, List.setIfInBounds_toArray, List.set_cons_succ, List.set_cons_zero]
    refine alloc_g zeroP8 rfl ?_
    intro wb hA2 hb2 hl2
    try simp only [Act.put, List.setIfInBounds_toArray, List.set_cons_succ, List.set_cons_zero]
    refine wpList_nil ?_
    go_upto_region 5 with fail
    refine wp_region_lit ?_
    refine alloc_g zeroB8 rfl ?_
    intro wc hA3 hb3 hl3
    try simp only [Act.put, List.setIfInBounds_toArray, List.set_cons_succ, List.set_cons_zero]
    refine wpList_nil ?_
    have HX0 : Hid (Kx W wc L w1.heap.size wa.heap.size wb.heap.size w1.heap.size (newFs 4) kz0) := Lib.hid (by
      have hbb := hb.trans (hb2.mono hb.size)
      have hbc := hbb.trans (hb3.mono hbb.size)
      have h1 := HZ1.out.bel.size
      refine ⟨HZ1.out.add (newFs_ok (by decide) (by decide)) hbc (fun k hk => .inl hk) (fun k hk => ?_), by simpa [kz0] using (hA.below hb2 hA.lt).below hb3 (hA.below hb2 hA.lt).lt, by simpa [kz0] using hA2.below hb3 hA2.lt, by simpa [kz0] using hA3, by omega, by omega⟩
      rcases hk with hk | hk | hk | hk | hk
      · exact .inl hk
      · exact .inr (by omega)
      · exact .inr (by omega)
      · exact .inr (by omega)
      · exact .inr (by omega))
    clear hA hb hl hA2 hb2 hl2 hA3 hb3 hl3 HZ1
    generalize w1.heap.size = gb at *
    generalize wa.heap.size = gn at *
    generalize wb.heap.size = gh at *
    obtain ⟨n, hn⟩ : ∃ n, l.length = n := ⟨_, rfl⟩
    have HLN0 := Lib.hid hn
    have hn150 : n ≤ 150 := by have := fairL_len HFL.out; omega
    obtain ⟨hnb, sa, sc, hsv, -⟩ := HSS.out
    have HSV := Lib.hid hsv
    rw [hn] at HSV
    have hsv2 := HSV.out
    subst hsv2
    clear hn hnb hsv HSV
    clear wa wb w1
    go_wp2_with fail
    go_loopg [8] n (fun q i wr => ∃ (k : Nat) (s : Fs) (z : Kz), n - k ≤ q ∧ k ≤ n ∧ i = .int .i64 k ∧ Kx W wr L gb gn gh gb s z ∧ s.Ok 0 ∧ Inv s z)
    case atStart => exact ⟨0, newFs 4, kz0, by omega, by omega, rfl, HX0.out, newFs_ok (by decide) (by decide), inv_new⟩
    case round =>
      as_aux_lemma =>
        obtain ⟨k, s, z, hq, hk, rfl, hkx, hok, hin⟩ := hrel
        have HKX := Lib.hid hkx
        have HOK := Lib.hid hok
        have HIN := Lib.hid hin
        clear hkx hok hin HX0
        by_cases hlt : k < n
        · have hk1 : (k : Int) < (n : Int) := by omega
          have dk1 : decide ((k : Int) < (n : Int)) = true := decide_eq_true hk1
          have gk : IntKind.i64.wrap ((k : Int) + 1) = (k : Int) + 1 := Kl.wrap63 (by omega) (by omega)
          obtain ⟨x, hx⟩ : ∃ x, l[k]? = some x := ⟨_, List.getElem?_eq_getElem (by have := HLN0.out; omega)⟩
          obtain ⟨_, a', cap', e, hc⟩ := HSS.out.below HKX.out.fz.bel
          rw [HLN0.out] at e
          cases e
          obtain ⟨hw, b', o, dv, rfl, hst⟩ := hc k x hx
          obtain ⟨kd, fr0, ky, of, v, dd⟩ := x
          obtain ⟨da, dc, rfl, -⟩ := hst.bs
          have s0 := hst.c0
          have s1 := hst.c1
          have s2 := hst.c2
          have s3 := hst.c3
          have s4 := hst.c4
          have s5 := hst.c5
          simp only at s0 s1 s2 s3 s4 s5
          have HVB : Hid (Byte v) := Lib.hid hw.v
          generalize dd.length = dn at *
          clear hst hc hw hx
          go_upto_region 10 with fail
          have HK0 : Hid (Ky W (wr.alloc (.cells #[.int .i64 kd, .int .i64 fr0, .int .i64 ky, .int .i64 of, .int .u8 v, .slice da dn dc] 37)) L gb gn gh wr.heap.size s z [.int .i64 kd, .int .i64 fr0, .int .i64 ky, .int .i64 of, .int .u8 v, .slice da dn dc]) := Lib.hid (HKX.out.box HOK.out (Kl.alloc_below wr _) (Kl.Blk.newAt _ _ _ rfl rfl) (Nat.le_refl _))
          clear s0 s1 s2 s3 s4 s5
          generalize wr.alloc (.cells #[.int .i64 kd, .int .i64 fr0, .int .i64 ky, .int .i64 of, .int .u8 v, .slice da dn dc] 37) = wx at *
          generalize wr.heap.size = xb at *
          have HK := HK0
          clear HK0 HKX
          have P2 := HK.out.x.cell (i := 2) rfl
          have P1 := HK.out.x.cell (i := 1) rfl
          have P0 := HK.out.x.cell (i := 0) rfl
          obtain ⟨-, hp⟩ := md_eq ky 8 (by decide)
          obtain ⟨-, hfr⟩ := md_eq fr0 4 (by decide)
          have HM8 := Lib.hid (Mod_any ky 8 (by decide) (by decide) wx)
          have HM4 := Lib.hid (Mod_any fr0 4 (by decide) (by decide) wx)
          generalize md ky 8 = p at *
          generalize md fr0 4 = fr at *
          go_wp2_with fail
          refine HM8.out.mono ?_
          rintro e w' ⟨rfl, rfl⟩
          go_wp2_with fail
          refine HM4.out.mono ?_
          rintro e w' ⟨rfl, rfl⟩
          clear HM8 HM4
          go_upto_block 2 with fail
          clear P0 P1 P2
          have hp1 : (p : Int) < 8 := by omega
          have hfr1 : (fr : Int) < 4 := by omega
          go_cut [12, 13, 14, 15] from 75 to 237 (fun s12 s13 s14 s15 wz => ∃ (s5 : Fs) (z5 : Kz), Ky W wz L gb gn gh xb s5 z5 [.int .i64 kd, .int .i64 fr0, .int .i64 ky, .int .i64 of, .int .u8 v, .slice da dn dc] ∧ s5.Ok 0 ∧ Inv s5 z5)
          case first =>
            as_aux_lemma =>
              by_cases h0 : kd = 0
              · subst h0
                obtain ⟨f, hf⟩ : ∃ f, s.c.l[fr]? = some f := ⟨_, List.getElem?_eq_getElem (by rw [HIN.out.n4]; exact hfr)⟩
                have HF := Lib.hid hf
                clear hf
                cases hfk : f.K with
                | false =>
                  have HFK := Lib.hid hfk
                  clear hfk
                  have HKC := Lib.hid (fz_key HK.out.k.fz HOK.out (fr : Int))
                  rw [Ck.get_nat, HF.out] at HKC
                  simp only [keyR, HFK.out, Bool.false_eq_true, if_false] at HKC
                  have HHO := Lib.hid fun (w' : World) (hb : Below wx.heap.size wx w') => fz_hold (HK.out.k.fz.below hb) HOK.out fr p (leaf_pg HVB.out)
                  simp only [hold_fst (pageKey8 hp)] at HHO
                  have x4 := HK.out.x.cell (i := 4) rfl
                  cases hm : s.may fr p with
                  | false =>
                    rw [hm] at HHO
                    have HM := Lib.hid hm
                    clear hm
                    go_wp2_with (first | (refine (fz_clock HK.out.k.fz).mono ?_; rintro e wz ⟨rfl, rfl⟩))
                    refine HKC.out.mono ?_
                    rintro e w6 ⟨rfl, hb⟩
                    have HB6 := Lib.hid hb
                    have HK6 := Lib.hid (HK.out.below hb)
                    have x6 := HK6.out.x.cell (i := 4) rfl
                    clear hb x4
                    go_wp2_with fail
                    refine (Leaf_any v _).mono ?_
                    rintro e w7 ⟨rfl, hb⟩
                    have HB7 := Lib.hid (stay HB6.out hb)
                    have HK7 := Lib.hid (HK6.out.below hb)
                    clear hb x6
                    go_wp2_with fail
                    refine (HHO.out _ HB7.out).mono ?_
                    rintro e w8 ⟨rfl, hz, ho⟩
                    have HKn : Hid (Ky W w8 L gb gn gh xb s z [.int .i64 0, .int .i64 fr0, .int .i64 ky, .int .i64 of, .int .u8 v, .slice da dn dc]) := Lib.hid (by
                      have := HK7.out.call hz ho
                      rwa [hold_snd HM.out] at this)
                    clear hz ho HK HK6 HK7 HB6 HB7 HHO HKC
                    have HK := HKn
                    clear HKn
                    go_wp2_with fail
                    go_upto_region 18 with fail
                    refine startH (fun wq => Below w8.heap.size w8 wq) (by kernel_rfl) ?_
                    refine takeH 0 (some 100) (.bool false) rfl rfl (by kernel_rfl) (by kernel_rfl) (by kernel_rfl) (fun _ _ _ h => h) rfl (fun wq hS => by go_simp) (Below.refl _ _).drew ?_
                    try simp only [Act.put, List.setIfInBounds_toArray, List.set_cons_succ, List.set_cons_zero]
                    refine takeH 1 (some 101) (.bool false) rfl rfl (by kernel_rfl) (by kernel_rfl) (by kernel_rfl) (fun _ _ _ h => h) rfl (fun wq hS => by go_simp) (Below.refl _ _).drew ?_
                    try simp only [Act.put, List.setIfInBounds_toArray, List.set_cons_succ, List.set_cons_zero]
                    refine passH 2 (some 102) rfl rfl (by kernel_rfl) (by kernel_rfl) (by kernel_rfl) (fun _ _ _ h => h) rfl (Below.refl _ _).drew ?_
                    try simp only [Act.put, List.setIfInBounds_toArray, List.set_cons_succ, List.set_cons_zero]
                    refine passH 3 (some 103) rfl rfl (by kernel_rfl) (by kernel_rfl) (by kernel_rfl) (fun _ _ _ h => h) rfl (Below.refl _ _).drew ?_
                    try simp only [Act.put, List.setIfInBounds_toArray, List.set_cons_succ, List.set_cons_zero]
                    refine passH 4 (some 104) rfl rfl (by kernel_rfl) (by kernel_rfl) (by kernel_rfl) (fun _ _ _ h => h) rfl (Below.refl _ _).drew ?_
                    try simp only [Act.put, List.setIfInBounds_toArray, List.set_cons_succ, List.set_cons_zero]
                    refine passH 5 (some 105) rfl rfl (by kernel_rfl) (by kernel_rfl) (by kernel_rfl) (fun _ _ _ h => h) rfl (Below.refl _ _).drew ?_
                    try simp only [Act.put, List.setIfInBounds_toArray, List.set_cons_succ, List.set_cons_zero]
                    refine passH 6 (some 106) rfl rfl (by kernel_rfl) (by kernel_rfl) (by kernel_rfl) (fun _ _ _ h => h) rfl (Below.refl _ _).drew ?_
                    try simp only [Act.put, List.setIfInBounds_toArray, List.set_cons_succ, List.set_cons_zero]
                    refine passH 7 (some 107) rfl rfl (by kernel_rfl) (by kernel_rfl) (by kernel_rfl) (fun _ _ _ h => h) rfl (Below.refl _ _).drew ?_
                    try simp only [Act.put, List.setIfInBounds_toArray, List.set_cons_succ, List.set_cons_zero]
                    refine passH 8 (some 108) rfl rfl (by kernel_rfl) (by kernel_rfl) (by kernel_rfl) (fun _ _ _ h => h) rfl (Below.refl _ _).drew ?_
                    try simp only [Act.put, List.setIfInBounds_toArray, List.set_cons_succ, List.set_cons_zero]
                    refine takeH 9 (some 109) (.bool false) rfl rfl (by kernel_rfl) (by kernel_rfl) (by kernel_rfl) (fun _ _ _ h => h) rfl (fun wq hS => by go_simp) (Below.refl _ _).drew ?_
                    try simp only [Act.put, List.setIfInBounds_toArray, List.set_cons_succ, List.set_cons_zero]
                    refine takeH 10 (some 110) (.bool false) rfl rfl (by kernel_rfl) (by kernel_rfl) (by kernel_rfl) (fun _ _ _ h => h) rfl (fun wq hS => by go_simp) (Below.refl _ _).drew ?_
                    try simp only [Act.put, List.setIfInBounds_toArray, List.set_cons_succ, List.set_cons_zero]
                    refine passH 11 (some 111) rfl rfl (by kernel_rfl) (by kernel_rfl) (by kernel_rfl) (fun _ _ _ h => h) rfl (Below.refl _ _).drew ?_
                    try simp only [Act.put, List.setIfInBounds_toArray, List.set_cons_succ, List.set_cons_zero]
                    refine takeH 12 (some 112) (.bool false) rfl rfl (by kernel_rfl) (by kernel_rfl) (by kernel_rfl) (fun _ _ _ h => h) rfl (fun wq hS => by go_simp) (Below.refl _ _).drew ?_
                    try simp only [Act.put, List.setIfInBounds_toArray, List.set_cons_succ, List.set_cons_zero]
                    refine wpAnyH_done (by kernel_rfl) ?_ _
                    go_wp2_with fail
                    go_meet
                    exact ⟨s, z, HK.out.below (Below.refl _ _).drew, HOK.out, HIN.out⟩
                  | true =>
                    rw [hm] at HHO
                    have HM := Lib.hid hm
                    clear hm
                    go_wp2_with (first | (refine (fz_clock HK.out.k.fz).mono ?_; rintro e wz ⟨rfl, rfl⟩))
                    refine HKC.out.mono ?_
                    rintro e w6 ⟨rfl, hb⟩
                    have HB6 := Lib.hid hb
                    have HK6 := Lib.hid (HK.out.below hb)
                    have x6 := HK6.out.x.cell (i := 4) rfl
                    clear hb x4
                    go_wp2_with fail
                    refine (Leaf_any v _).mono ?_
                    rintro e w7 ⟨rfl, hb⟩
                    have HB7 := Lib.hid (stay HB6.out hb)
                    have HK7 := Lib.hid (HK6.out.below hb)
                    clear hb x6
                    go_wp2_with fail
                    refine (HHO.out _ HB7.out).mono ?_
                    rintro e w8 ⟨rfl, hz, ho⟩
                    have HKn := Lib.hid (HK7.out.call hz ho)
                    have HOK8 := Lib.hid (HOK.out.hold fr p (leaf_pg HVB.out))
                    have HI8 := Lib.hid (HIN.out.hold HOK.out HF.out hp (leaf_pg HVB.out) HM.out)
                    rw [if_neg (by have := of_decide_eq_false HFK.out; omega)] at HI8
                    clear hz ho HK HK6 HK7 HB6 HB7 HHO HKC HIN HOK HM
                    generalize (s.hold fr p (leaf v)).2 = s8 at *
                    have HK := HKn
                    clear HKn
                    go_wp2_with fail
                    go_upto_region 18 with fail
                    refine startH (fun wq => Below w8.heap.size w8 wq) (by kernel_rfl) ?_
                    refine takeH 0 (some 100) (.bool false) rfl rfl (by kernel_rfl) (by kernel_rfl) (by kernel_rfl) (fun _ _ _ h => h) rfl (fun wq hS => by go_simp) (Below.refl _ _).drew ?_
                    try simp only [Act.put, List.setIfInBounds_toArray, List.set_cons_succ, List.set_cons_zero]
                    refine takeH 1 (some 101) (.bool false) rfl rfl (by kernel_rfl) (by kernel_rfl) (by kernel_rfl) (fun _ _ _ h => h) rfl (fun wq hS => by go_simp) (Below.refl _ _).drew ?_
                    try simp only [Act.put, List.setIfInBounds_toArray, List.set_cons_succ, List.set_cons_zero]
                    refine passH 2 (some 102) rfl rfl (by kernel_rfl) (by kernel_rfl) (by kernel_rfl) (fun _ _ _ h => h) rfl (Below.refl _ _).drew ?_
                    try simp only [Act.put, List.setIfInBounds_toArray, List.set_cons_succ, List.set_cons_zero]
                    refine passH 3 (some 103) rfl rfl (by kernel_rfl) (by kernel_rfl) (by kernel_rfl) (fun _ _ _ h => h) rfl (Below.refl _ _).drew ?_
                    try simp only [Act.put, List.setIfInBounds_toArray, List.set_cons_succ, List.set_cons_zero]
                    refine passH 4 (some 104) rfl rfl (by kernel_rfl) (by kernel_rfl) (by kernel_rfl) (fun _ _ _ h => h) rfl (Below.refl _ _).drew ?_
                    try simp only [Act.put, List.setIfInBounds_toArray, List.set_cons_succ, List.set_cons_zero]
                    refine passH 5 (some 105) rfl rfl (by kernel_rfl) (by kernel_rfl) (by kernel_rfl) (fun _ _ _ h => h) rfl (Below.refl _ _).drew ?_
                    try simp only [Act.put, List.setIfInBounds_toArray, List.set_cons_succ, List.set_cons_zero]
                    refine passH 6 (some 106) rfl rfl (by kernel_rfl) (by kernel_rfl) (by kernel_rfl) (fun _ _ _ h => h) rfl (Below.refl _ _).drew ?_
                    try simp only [Act.put, List.setIfInBounds_toArray, List.set_cons_succ, List.set_cons_zero]
                    refine passH 7 (some 107) rfl rfl (by kernel_rfl) (by kernel_rfl) (by kernel_rfl) (fun _ _ _ h => h) rfl (Below.refl _ _).drew ?_
                    try simp only [Act.put, List.setIfInBounds_toArray, List.set_cons_succ, List.set_cons_zero]
                    refine passH 8 (some 108) rfl rfl (by kernel_rfl) (by kernel_rfl) (by kernel_rfl) (fun _ _ _ h => h) rfl (Below.refl _ _).drew ?_
                    try simp only [Act.put, List.setIfInBounds_toArray, List.set_cons_succ, List.set_cons_zero]
                    refine takeH 9 (some 109) (.bool false) rfl rfl (by kernel_rfl) (by kernel_rfl) (by kernel_rfl) (fun _ _ _ h => h) rfl (fun wq hS => by go_simp) (Below.refl _ _).drew ?_
                    try simp only [Act.put, List.setIfInBounds_toArray, List.set_cons_succ, List.set_cons_zero]
                    refine takeH 10 (some 110) (.bool false) rfl rfl (by kernel_rfl) (by kernel_rfl) (by kernel_rfl) (fun _ _ _ h => h) rfl (fun wq hS => by go_simp) (Below.refl _ _).drew ?_
                    try simp only [Act.put, List.setIfInBounds_toArray, List.set_cons_succ, List.set_cons_zero]
                    refine passH 11 (some 111) rfl rfl (by kernel_rfl) (by kernel_rfl) (by kernel_rfl) (fun _ _ _ h => h) rfl (Below.refl _ _).drew ?_
                    try simp only [Act.put, List.setIfInBounds_toArray, List.set_cons_succ, List.set_cons_zero]
                    refine takeH 12 (some 112) (.bool false) rfl rfl (by kernel_rfl) (by kernel_rfl) (by kernel_rfl) (fun _ _ _ h => h) rfl (fun wq hS => by go_simp) (Below.refl _ _).drew ?_
                    try simp only [Act.put, List.setIfInBounds_toArray, List.set_cons_succ, List.set_cons_zero]
                    refine wpAnyH_done (by kernel_rfl) ?_ _
                    generalize hw9 : w8.drew = w9 at *
                    have HK9 : Hid (Ky W w9 L gb gn gh xb s8 z [.int .i64 0, .int .i64 fr0, .int .i64 ky, .int .i64 of, .int .u8 v, .slice da dn dc]) := Lib.hid (by rw [← hw9]; exact HK.out.below (Below.refl _ _).drew)
                    clear hw9 HK
                    obtain ⟨wy, hwy⟩ : ∃ wy, w9 = wy := ⟨_, rfl⟩
                    obtain ⟨z3, hz3⟩ : ∃ z3 : Kz, z3 = z := ⟨_, rfl⟩
                    have HK3 : Hid (Ky W wy L gb gn gh xb s8 z3 [.int .i64 0, .int .i64 fr0, .int .i64 ky, .int .i64 of, .int .u8 v, .slice da dn dc]) := Lib.hid (by rw [← hwy, hz3]; exact HK9.out)
                    rw [hwy]
                    have HI9 : Hid (Inv s8 ⟨z3.bs.set p (leaf v), z3.ns.set p (leaf v), z3.hs.set p true⟩) := Lib.hid (by rw [hz3]; exact HI8.out)
                    clear HK9 hwy
                    have HI3 : Hid (z3.bs.length = 8 ∧ z3.ns.length = 8 ∧ z3.hs.length = 8) := Lib.hid (by
                      have h1 := HI9.out.lb
                      have h2 := HI9.out.ln
                      have h3 := HI9.out.lh
                      simp only [List.length_set] at h1 h2 h3
                      exact ⟨h1, h2, h3⟩)
                    have HNX : Hid (¬ (xb = gb ∨ xb = gn ∨ xb = gh)) := Lib.hid (by obtain ⟨n1, n2, n3⟩ := HK3.out.ne; omega)
                    clear HI8 hz3
                    go_upto_region 23 with fail
                    refine startH (fun wq => Only (fun q => q = gb ∨ q = gn ∨ q = gh) wy wq) (by kernel_rfl) ?_
                    refine takeH 0 (some 117) (.int .i64 p) rfl rfl (by kernel_rfl) (by kernel_rfl) (by kernel_rfl) (fun _ _ _ h => h) rfl (fun wq hS => by go_simp) (Only.refl _ _).drew ?_
                    try simp only [Act.put, List.setIfInBounds_toArray, List.set_cons_succ, List.set_cons_zero]
                    refine takeH 1 (some 118) (.int .i64 p) rfl rfl (by kernel_rfl) (by kernel_rfl) (by kernel_rfl) (fun _ _ _ h => h) rfl (fun wq hS => by go_simp) (Only.refl _ _).drew ?_
                    try simp only [Act.put, List.setIfInBounds_toArray, List.set_cons_succ, List.set_cons_zero]
                    refine takeH 2 (some 119) (.int .i64 p) rfl rfl (by kernel_rfl) (by kernel_rfl) (by kernel_rfl) (fun _ _ _ h => h) rfl (fun wq hS => by go_simp) (Only.refl _ _).drew ?_
                    try simp only [Act.put, List.setIfInBounds_toArray, List.set_cons_succ, List.set_cons_zero]
                    refine takeH 3 (some 120) (.pointer (some ⟨xb, 4, none⟩)) rfl rfl (by kernel_rfl) (by kernel_rfl) (by kernel_rfl) (fun _ _ _ h => h) rfl (fun wq hS => by go_simp) (Only.refl _ _).drew ?_
                    try simp only [Act.put, List.setIfInBounds_toArray, List.set_cons_succ, List.set_cons_zero]
                    refine takeH 4 (some 121) (.int .u8 v) rfl rfl (by kernel_rfl) (by kernel_rfl) (by kernel_rfl) (fun _ _ _ h => h) rfl (fun wq hS => by have hq := (HK3.out.x.only hS HNX.out).cell (i := 4) rfl; go_simp) (Only.refl _ _).drew ?_
                    try simp only [Act.put, List.setIfInBounds_toArray, List.set_cons_succ, List.set_cons_zero]
                    refine takeH 6 (some 123) (.pointer (some ⟨xb, 4, none⟩)) rfl rfl (by kernel_rfl) (by kernel_rfl) (by kernel_rfl) (fun _ _ _ h => h) rfl (fun wq hS => by go_simp) (Only.refl _ _).drew ?_
                    try simp only [Act.put, List.setIfInBounds_toArray, List.set_cons_succ, List.set_cons_zero]
                    refine takeH 7 (some 124) (.int .u8 v) rfl rfl (by kernel_rfl) (by kernel_rfl) (by kernel_rfl) (fun _ _ _ h => h) rfl (fun wq hS => by have hq := (HK3.out.x.only hS HNX.out).cell (i := 4) rfl; go_simp) (Only.refl _ _).drew ?_
                    try simp only [Act.put, List.setIfInBounds_toArray, List.set_cons_succ, List.set_cons_zero]
                    refine takeH 9 (some 126) (.pointer (some ⟨gh, p, none⟩)) rfl rfl (by kernel_rfl) (by kernel_rfl) (by kernel_rfl) (fun _ _ _ h => h) rfl (fun wq hS => by go_simp) (Only.refl _ _).drew ?_
                    try simp only [Act.put, List.setIfInBounds_toArray, List.set_cons_succ, List.set_cons_zero]
                    refine oneH 5 (by kernel_rfl) rfl rfl fun K hK => ?_
                    go_simp
                    refine (Leaf_any v _).mono ?_
                    rintro e v1 ⟨rfl, hb⟩
                    have T1 := Lib.hid ((((Below.refl (World.heap wy).size wy).drew)).trans (hb.mono (((Below.refl (World.heap wy).size wy).drew)).size))
                    have HS1 : Hid (Only (fun q => q = gb ∨ q = gn ∨ q = gh) wy v1) := Lib.hid (Only.of_below T1.out)
                    clear hb
                    refine hK _ _ HS1.out ?_
                    clear hK K
                    try simp only [Act.put, List.setIfInBounds_toArray, List.set_cons_succ, List.set_cons_zero]
                    refine oneH 8 (by kernel_rfl) rfl rfl fun K hK => ?_
                    go_simp
                    refine (Leaf_any v _).mono ?_
                    rintro e v2 ⟨rfl, hb⟩
                    have T2 := Lib.hid ((T1.out).trans (hb.mono (T1.out).size))
                    have HS2 : Hid (Only (fun q => q = gb ∨ q = gn ∨ q = gh) wy v2) := Lib.hid (Only.of_below T2.out)
                    clear hb
                    refine hK _ _ HS2.out ?_
                    clear hK K
                    try simp only [Act.put, List.setIfInBounds_toArray, List.set_cons_succ, List.set_cons_zero]
                    refine oneH 10 (by kernel_rfl) rfl rfl fun K hK => ?_
                    have hb0 := HK3.out.k.b.below T2.out HK3.out.k.b.lt
                    have hn0 := HK3.out.k.n.below T2.out HK3.out.k.n.lt
                    have hh0 := HK3.out.k.h.below T2.out HK3.out.k.h.lt
                    obtain ⟨hv, hhv⟩ : ∃ hv, z3.hs[p]? = some hv := ⟨_, List.getElem?_eq_getElem (by rw [HI3.out.2.2]; exact hp)⟩
                    have c0 := hh0.cell (i := p) (v := .bool hv) (by rw [List.getElem?_map, hhv]; rfl)
                    have frz := hh0.frozen
                    go_simp
                    obtain ⟨d1, d2, d3⟩ := HK3.out.k.d
                    have hb1 := Lib.hid (hb0.setOther (a := ⟨gh, p, none⟩) d2 (.bool true))
                    have hn1 := Lib.hid (hn0.setOther (a := ⟨gh, p, none⟩) d3 (.bool true))
                    have hh1 : Hid (Blk (v2.setCell ⟨gh, p, none⟩ (.bool true)) gh (bools (z3.hs.set p true))) := Lib.hid (by
                      have := hh0.set p (.bool true)
                      rwa [← List.map_set] at this)
                    have HS3 : Hid (Only (fun q => q = gb ∨ q = gn ∨ q = gh) wy (v2.setCell ⟨gh, p, none⟩ (.bool true))) := Lib.hid (HS2.out.setCell (.inl (.inr (.inr rfl))) _)
                    clear hb0 hn0 hh0 c0 frz hhv d1 d2 d3
                    refine hK _ _ HS3.out ?_
                    clear hK K
                    try simp only [Act.put, List.setIfInBounds_toArray, List.set_cons_succ, List.set_cons_zero]
                    refine takeH 11 (some 127) (.pointer (some ⟨gb, p * 32, none⟩)) rfl rfl (by kernel_rfl) (by kernel_rfl) (by kernel_rfl) (fun _ _ _ h => h) rfl (fun wq hS => by go_simp) HS3.out ?_
                    try simp only [Act.put, List.setIfInBounds_toArray, List.set_cons_succ, List.set_cons_zero]
                    refine oneH 12 (by kernel_rfl) rfl rfl fun K hK => ?_
                    refine store_O (off := p * 32) (cs := (u8s (leaf v)).toArray) none rfl rfl hb1.out (by rw [u8s_size, leaf_len, fm_len pgE_len, HI3.out.1]; omega) (by rw [u8s_size, leaf_len]; exact info32) (u8s_one _) rfl rfl fun u4 hD hO hlD => ?_
                    rw [← pgE_eq (leaf_len v), fm_splice pgE_len (leaf v) (by rw [HI3.out.1]; exact hp)] at hD
                    have hb14 : Hid (Blk u4 gb ((z3.bs.set p (leaf v)).flatMap pgE)) := Lib.hid (by simpa using hD)
                    have hn14 := Lib.hid (hn1.out.only hO (fun e => HK3.out.k.d.1 e.symm))
                    have hh14 := Lib.hid (hh1.out.only hO (fun e => HK3.out.k.d.2.1 e.symm))
                    have HS4 : Hid (Only (fun q => q = gb ∨ q = gn ∨ q = gh) wy u4) := Lib.hid (HS3.out.trans (hO.more fun q _ hq => by simp [hq]))
                    clear hD hO hlD hb1 hn1 hh1
                    refine hK _ _ HS4.out ?_
                    clear hK K
                    try simp only [Act.put, List.setIfInBounds_toArray, List.set_cons_succ, List.set_cons_zero]
                    refine takeH 13 (some 128) (.pointer (some ⟨gn, p * 32, none⟩)) rfl rfl (by kernel_rfl) (by kernel_rfl) (by kernel_rfl) (fun _ _ _ h => h) rfl (fun wq hS => by go_simp) HS4.out ?_
                    try simp only [Act.put, List.setIfInBounds_toArray, List.set_cons_succ, List.set_cons_zero]
                    refine oneH 14 (by kernel_rfl) rfl rfl fun K hK => ?_
                    refine store_O (off := p * 32) (cs := (u8s (leaf v)).toArray) none rfl rfl hn14.out (by rw [u8s_size, leaf_len, fm_len pgE_len, HI3.out.2.1]; omega) (by rw [u8s_size, leaf_len]; exact info32) (u8s_one _) rfl rfl fun u5 hD hO hlD => ?_
                    rw [← pgE_eq (leaf_len v), fm_splice pgE_len (leaf v) (by rw [HI3.out.2.1]; exact hp)] at hD
                    have hn145 : Hid (Blk u5 gn ((z3.ns.set p (leaf v)).flatMap pgE)) := Lib.hid (by simpa using hD)
                    have hb145 := Lib.hid (hb14.out.only hO (HK3.out.k.d.1))
                    have hh145 := Lib.hid (hh14.out.only hO (fun e => HK3.out.k.d.2.2 e.symm))
                    have HS5 : Hid (Only (fun q => q = gb ∨ q = gn ∨ q = gh) wy u5) := Lib.hid (HS4.out.trans (hO.more fun q _ hq => by simp [hq]))
                    clear hD hO hlD hn14 hb14 hh14
                    refine hK _ _ HS5.out ?_
                    clear hK K
                    try simp only [Act.put, List.setIfInBounds_toArray, List.set_cons_succ, List.set_cons_zero]
                    refine wpAnyH_done (by kernel_rfl) ?_ _
                    have HKE := Lib.hid (HK3.out.turn (z' := ⟨z3.bs.set p (leaf v), z3.ns.set p (leaf v), z3.hs.set p true⟩) HS5.out hb145.out hn145.out hh145.out)
                    go_wp2_with fail
                    go_meet
                    exact ⟨s8, _, HKE.out, HOK8.out, HI9.out⟩

                | true =>
                  have HFK := Lib.hid hfk
                  clear hfk
                  have HKC := Lib.hid (fz_key HK.out.k.fz HOK.out (fr : Int))
                  rw [Ck.get_nat, HF.out] at HKC
                  simp only [keyR, HFK.out, if_true] at HKC
                  obtain ⟨was, hwas⟩ : ∃ was : Nat, f.key = (was : Int) := ⟨f.key.toNat, by have := of_decide_eq_true HFK.out; omega⟩
                  rw [hwas] at HKC
                  have hw8 : was < 8 := by have := HIN.out.key fr f HF.out; omega
                  have HWAS := Lib.hid hwas
                  have hwi : (was : Int) < 8 := by omega
                  have e15 : decide ((was : Int) < 0) = false := decide_eq_false (by omega)
                  have e16 : decide (8 ≤ (was : Int)) = false := decide_eq_false (by omega)
                  obtain ⟨bw, hbw⟩ : ∃ bw, z.bs[was]? = some bw := ⟨_, List.getElem?_eq_getElem (by rw [HIN.out.lb]; exact hw8)⟩
                  obtain ⟨nw, hnw⟩ : ∃ nw, z.ns[was]? = some nw := ⟨_, List.getElem?_eq_getElem (by rw [HIN.out.ln]; exact hw8)⟩
                  have HBW := Lib.hid hbw
                  have HNW := Lib.hid hnw
                  have HLB := Lib.hid (HIN.out.pb was bw hbw).length
                  have HLN := Lib.hid (HIN.out.pn was nw hnw).length
                  clear hwas hbw hnw
                  have HHO := Lib.hid fun (w' : World) (hb : Below wx.heap.size wx w') => fz_hold (HK.out.k.fz.below hb) HOK.out fr p (leaf_pg HVB.out)
                  simp only [hold_fst (pageKey8 hp)] at HHO
                  have x4 := HK.out.x.cell (i := 4) rfl
                  cases hm : s.may fr p with
                  | false =>
                    rw [hm] at HHO
                    have HM := Lib.hid hm
                    clear hm
                    go_wp2_with (first | (refine (fz_clock HK.out.k.fz).mono ?_; rintro e wz ⟨rfl, rfl⟩))
                    refine HKC.out.mono ?_
                    rintro e w6 ⟨rfl, hb⟩
                    have HB6 := Lib.hid hb
                    have HK6 := Lib.hid (HK.out.below hb)
                    have x6 := HK6.out.x.cell (i := 4) rfl
                    clear hb x4
                    go_wp2_with fail
                    refine (Leaf_any v _).mono ?_
                    rintro e w7 ⟨rfl, hb⟩
                    have HB7 := Lib.hid (stay HB6.out hb)
                    have HK7 := Lib.hid (HK6.out.below hb)
                    clear hb x6
                    go_wp2_with fail
                    refine (HHO.out _ HB7.out).mono ?_
                    rintro e w8 ⟨rfl, hz, ho⟩
                    have HKn : Hid (Ky W w8 L gb gn gh xb s z [.int .i64 0, .int .i64 fr0, .int .i64 ky, .int .i64 of, .int .u8 v, .slice da dn dc]) := Lib.hid (by
                      have := HK7.out.call hz ho
                      rwa [hold_snd HM.out] at this)
                    clear hz ho HK HK6 HK7 HB6 HB7 HHO HKC
                    have HK := HKn
                    clear HKn
                    cases hv : decide (bw = nw) with
                    | false =>
                      have HV : Hid (decide (bw = nw) = !true) := Lib.hid hv
                      clear hv
                      go_wp2_with fail
                      go_upto_region 18 with fail
                      refine startH (fun wq => Below w8.heap.size w8 wq) (by kernel_rfl) ?_
                      refine takeH 0 (some 100) (.bool true) rfl rfl (by kernel_rfl) (by kernel_rfl) (by kernel_rfl) (fun _ _ _ h => h) rfl (fun wq hS => by go_simp) (Below.refl _ _).drew ?_
                      try simp only [Act.put, List.setIfInBounds_toArray, List.set_cons_succ, List.set_cons_zero]
                      refine takeH 1 (some 101) (.bool true) rfl rfl (by kernel_rfl) (by kernel_rfl) (by kernel_rfl) (fun _ _ _ h => h) rfl (fun wq hS => by go_simp) (Below.refl _ _).drew ?_
                      try simp only [Act.put, List.setIfInBounds_toArray, List.set_cons_succ, List.set_cons_zero]
                      refine takeH 2 (some 102) (.int .i64 was) rfl rfl (by kernel_rfl) (by kernel_rfl) (by kernel_rfl) (fun _ _ _ h => h) rfl (fun wq hS => by go_simp) (Below.refl _ _).drew ?_
                      try simp only [Act.put, List.setIfInBounds_toArray, List.set_cons_succ, List.set_cons_zero]
                      refine takeH 3 (some 103) (.pointer (some ⟨gb, was * 32, none⟩)) rfl rfl (by kernel_rfl) (by kernel_rfl) (by kernel_rfl) (fun _ _ _ h => h) rfl (fun wq hS => by go_simp) (Below.refl _ _).drew ?_
                      try simp only [Act.put, List.setIfInBounds_toArray, List.set_cons_succ, List.set_cons_zero]
                      refine takeH 4 (some 104) (.agg (u8s bw).toArray) rfl rfl (by kernel_rfl) (by kernel_rfl) (by kernel_rfl) (fun _ _ _ h => h) rfl (fun wq hS => by exact exec_load_at wq _ _ 32 _ rfl (gb) (was * 32) rfl ((u8s bw).toArray) _ Tryd.underlying32 rfl (by rw [u8s_size, HLB.out]; exact info32) (page_at (HK.out.k.b.below hS HK.out.k.b.lt) HBW.out HLB.out)) (Below.refl _ _).drew ?_
                      try simp only [Act.put, List.setIfInBounds_toArray, List.set_cons_succ, List.set_cons_zero]
                      refine takeH 5 (some 105) (.int .i64 was) rfl rfl (by kernel_rfl) (by kernel_rfl) (by kernel_rfl) (fun _ _ _ h => h) rfl (fun wq hS => by go_simp) (Below.refl _ _).drew ?_
                      try simp only [Act.put, List.setIfInBounds_toArray, List.set_cons_succ, List.set_cons_zero]
                      refine takeH 6 (some 106) (.pointer (some ⟨gn, was * 32, none⟩)) rfl rfl (by kernel_rfl) (by kernel_rfl) (by kernel_rfl) (fun _ _ _ h => h) rfl (fun wq hS => by go_simp) (Below.refl _ _).drew ?_
                      try simp only [Act.put, List.setIfInBounds_toArray, List.set_cons_succ, List.set_cons_zero]
                      refine takeH 7 (some 107) (.agg (u8s nw).toArray) rfl rfl (by kernel_rfl) (by kernel_rfl) (by kernel_rfl) (fun _ _ _ h => h) rfl (fun wq hS => by exact exec_load_at wq _ _ 32 _ rfl (gn) (was * 32) rfl ((u8s nw).toArray) _ Tryd.underlying32 rfl (by rw [u8s_size, HLN.out]; exact info32) (page_at (HK.out.k.n.below hS HK.out.k.n.lt) HNW.out HLN.out)) (Below.refl _ _).drew ?_
                      try simp only [Act.put, List.setIfInBounds_toArray, List.set_cons_succ, List.set_cons_zero]
                      refine takeH 8 (some 108) (.bool true) rfl rfl (by kernel_rfl) (by kernel_rfl) (by kernel_rfl) (fun _ _ _ h => h) rfl (fun wq hS => by exact exec_pageN HV.out HLB.out HLN.out _ _ _ rfl rfl rfl) (Below.refl _ _).drew ?_
                      try simp only [Act.put, List.setIfInBounds_toArray, List.set_cons_succ, List.set_cons_zero]
                      refine takeH 9 (some 109) (.bool true) rfl rfl (by kernel_rfl) (by kernel_rfl) (by kernel_rfl) (fun _ _ _ h => h) rfl (fun wq hS => by go_simp) (Below.refl _ _).drew ?_
                      try simp only [Act.put, List.setIfInBounds_toArray, List.set_cons_succ, List.set_cons_zero]
                      refine takeH 10 (some 110) (.bool true) rfl rfl (by kernel_rfl) (by kernel_rfl) (by kernel_rfl) (fun _ _ _ h => h) rfl (fun wq hS => by go_simp) (Below.refl _ _).drew ?_
                      try simp only [Act.put, List.setIfInBounds_toArray, List.set_cons_succ, List.set_cons_zero]
                      refine takeH 11 (some 111) (.bool false) rfl rfl (by kernel_rfl) (by kernel_rfl) (by kernel_rfl) (fun _ _ _ h => h) rfl (fun wq hS => by go_simp) (Below.refl _ _).drew ?_
                      try simp only [Act.put, List.setIfInBounds_toArray, List.set_cons_succ, List.set_cons_zero]
                      refine takeH 12 (some 112) (.bool false) rfl rfl (by kernel_rfl) (by kernel_rfl) (by kernel_rfl) (fun _ _ _ h => h) rfl (fun wq hS => by go_simp) (Below.refl _ _).drew ?_
                      try simp only [Act.put, List.setIfInBounds_toArray, List.set_cons_succ, List.set_cons_zero]
                      refine wpAnyH_done (by kernel_rfl) ?_ _
                      go_wp2_with fail
                      go_meet
                      exact ⟨s, z, HK.out.below (Below.refl _ _).drew, HOK.out, HIN.out⟩
                    | true =>
                      have HV : Hid (decide (bw = nw) = !false) := Lib.hid hv
                      clear hv
                      go_wp2_with fail
                      go_upto_region 18 with fail
                      refine startH (fun wq => Below w8.heap.size w8 wq) (by kernel_rfl) ?_
                      refine takeH 0 (some 100) (.bool true) rfl rfl (by kernel_rfl) (by kernel_rfl) (by kernel_rfl) (fun _ _ _ h => h) rfl (fun wq hS => by go_simp) (Below.refl _ _).drew ?_
                      try simp only [Act.put, List.setIfInBounds_toArray, List.set_cons_succ, List.set_cons_zero]
                      refine takeH 1 (some 101) (.bool true) rfl rfl (by kernel_rfl) (by kernel_rfl) (by kernel_rfl) (fun _ _ _ h => h) rfl (fun wq hS => by go_simp) (Below.refl _ _).drew ?_
                      try simp only [Act.put, List.setIfInBounds_toArray, List.set_cons_succ, List.set_cons_zero]
                      refine takeH 2 (some 102) (.int .i64 was) rfl rfl (by kernel_rfl) (by kernel_rfl) (by kernel_rfl) (fun _ _ _ h => h) rfl (fun wq hS => by go_simp) (Below.refl _ _).drew ?_
                      try simp only [Act.put, List.setIfInBounds_toArray, List.set_cons_succ, List.set_cons_zero]
                      refine takeH 3 (some 103) (.pointer (some ⟨gb, was * 32, none⟩)) rfl rfl (by kernel_rfl) (by kernel_rfl) (by kernel_rfl) (fun _ _ _ h => h) rfl (fun wq hS => by go_simp) (Below.refl _ _).drew ?_
                      try simp only [Act.put, List.setIfInBounds_toArray, List.set_cons_succ, List.set_cons_zero]
                      refine takeH 4 (some 104) (.agg (u8s bw).toArray) rfl rfl (by kernel_rfl) (by kernel_rfl) (by kernel_rfl) (fun _ _ _ h => h) rfl (fun wq hS => by exact exec_load_at wq _ _ 32 _ rfl (gb) (was * 32) rfl ((u8s bw).toArray) _ Tryd.underlying32 rfl (by rw [u8s_size, HLB.out]; exact info32) (page_at (HK.out.k.b.below hS HK.out.k.b.lt) HBW.out HLB.out)) (Below.refl _ _).drew ?_
                      try simp only [Act.put, List.setIfInBounds_toArray, List.set_cons_succ, List.set_cons_zero]
                      refine takeH 5 (some 105) (.int .i64 was) rfl rfl (by kernel_rfl) (by kernel_rfl) (by kernel_rfl) (fun _ _ _ h => h) rfl (fun wq hS => by go_simp) (Below.refl _ _).drew ?_
                      try simp only [Act.put, List.setIfInBounds_toArray, List.set_cons_succ, List.set_cons_zero]
                      refine takeH 6 (some 106) (.pointer (some ⟨gn, was * 32, none⟩)) rfl rfl (by kernel_rfl) (by kernel_rfl) (by kernel_rfl) (fun _ _ _ h => h) rfl (fun wq hS => by go_simp) (Below.refl _ _).drew ?_
                      try simp only [Act.put, List.setIfInBounds_toArray, List.set_cons_succ, List.set_cons_zero]
                      refine takeH 7 (some 107) (.agg (u8s nw).toArray) rfl rfl (by kernel_rfl) (by kernel_rfl) (by kernel_rfl) (fun _ _ _ h => h) rfl (fun wq hS => by exact exec_load_at wq _ _ 32 _ rfl (gn) (was * 32) rfl ((u8s nw).toArray) _ Tryd.underlying32 rfl (by rw [u8s_size, HLN.out]; exact info32) (page_at (HK.out.k.n.below hS HK.out.k.n.lt) HNW.out HLN.out)) (Below.refl _ _).drew ?_
                      try simp only [Act.put, List.setIfInBounds_toArray, List.set_cons_succ, List.set_cons_zero]
                      refine takeH 8 (some 108) (.bool false) rfl rfl (by kernel_rfl) (by kernel_rfl) (by kernel_rfl) (fun _ _ _ h => h) rfl (fun wq hS => by exact exec_pageN HV.out HLB.out HLN.out _ _ _ rfl rfl rfl) (Below.refl _ _).drew ?_
                      try simp only [Act.put, List.setIfInBounds_toArray, List.set_cons_succ, List.set_cons_zero]
                      refine takeH 9 (some 109) (.bool false) rfl rfl (by kernel_rfl) (by kernel_rfl) (by kernel_rfl) (fun _ _ _ h => h) rfl (fun wq hS => by go_simp) (Below.refl _ _).drew ?_
                      try simp only [Act.put, List.setIfInBounds_toArray, List.set_cons_succ, List.set_cons_zero]
                      refine takeH 10 (some 110) (.bool false) rfl rfl (by kernel_rfl) (by kernel_rfl) (by kernel_rfl) (fun _ _ _ h => h) rfl (fun wq hS => by go_simp) (Below.refl _ _).drew ?_
                      try simp only [Act.put, List.setIfInBounds_toArray, List.set_cons_succ, List.set_cons_zero]
                      refine passH 11 (some 111) rfl rfl (by kernel_rfl) (by kernel_rfl) (by kernel_rfl) (fun _ _ _ h => h) rfl (Below.refl _ _).drew ?_
                      try simp only [Act.put, List.setIfInBounds_toArray, List.set_cons_succ, List.set_cons_zero]
                      refine takeH 12 (some 112) (.bool false) rfl rfl (by kernel_rfl) (by kernel_rfl) (by kernel_rfl) (fun _ _ _ h => h) rfl (fun wq hS => by go_simp) (Below.refl _ _).drew ?_
                      try simp only [Act.put, List.setIfInBounds_toArray, List.set_cons_succ, List.set_cons_zero]
                      refine wpAnyH_done (by kernel_rfl) ?_ _
                      go_wp2_with fail
                      go_meet
                      exact ⟨s, z, HK.out.below (Below.refl _ _).drew, HOK.out, HIN.out⟩
                  | true =>
                    rw [hm] at HHO
                    have HM := Lib.hid hm
                    clear hm
                    go_wp2_with (first | (refine (fz_clock HK.out.k.fz).mono ?_; rintro e wz ⟨rfl, rfl⟩))
                    refine HKC.out.mono ?_
                    rintro e w6 ⟨rfl, hb⟩
                    have HB6 := Lib.hid hb
                    have HK6 := Lib.hid (HK.out.below hb)
                    have x6 := HK6.out.x.cell (i := 4) rfl
                    clear hb x4
                    go_wp2_with fail
                    refine (Leaf_any v _).mono ?_
                    rintro e w7 ⟨rfl, hb⟩
                    have HB7 := Lib.hid (stay HB6.out hb)
                    have HK7 := Lib.hid (HK6.out.below hb)
                    clear hb x6
                    go_wp2_with fail
                    refine (HHO.out _ HB7.out).mono ?_
                    rintro e w8 ⟨rfl, hz, ho⟩
                    have HKn := Lib.hid (HK7.out.call hz ho)
                    have HOK8 := Lib.hid (HOK.out.hold fr p (leaf_pg HVB.out))
                    have HI8 := Lib.hid (HIN.out.hold HOK.out HF.out hp (leaf_pg HVB.out) HM.out)
                    have HV : Hid (decide (bw = nw) = !false) := Lib.hid (by
                      have hdn : s.dirty fr = false := by have := HM.out; unfold Fs.may at this; simp only [Bool.and_eq_true, Bool.not_eq_true'] at this; exact this.1
                      rw [Fs.dirty_nat] at hdn
                      have hfd := find_is HOK.out.ck HF.out (by have := HWAS.out; omega)
                      rw [HWAS.out] at hfd
                      obtain ⟨u, h1, h2, h3, h4⟩ := HIN.out.yes was fr hw8 hfd
                      rw [HBW.out] at h3
                      rw [HNW.out] at h4
                      cases h3
                      cases h4
                      rw [Fs.dirtyN_at HF.out h1, HFK.out, Bool.true_and] at hdn
                      have := of_decide_eq_false hdn
                      simp only [Bool.not_false, decide_eq_true_eq]
                      exact Classical.byContradiction fun hne => this hne)
                    rw [if_pos (by have := HWAS.out; omega), HWAS.out, Int.toNat_natCast] at HI8
                    clear hz ho HK HK6 HK7 HB6 HB7 HHO HKC HIN HOK HM
                    generalize (s.hold fr p (leaf v)).2 = s8 at *
                    have HK := HKn
                    clear HKn
                    go_wp2_with fail
                    go_upto_region 18 with fail
                    refine startH (fun wq => Below w8.heap.size w8 wq) (by kernel_rfl) ?_
                    refine takeH 0 (some 100) (.bool true) rfl rfl (by kernel_rfl) (by kernel_rfl) (by kernel_rfl) (fun _ _ _ h => h) rfl (fun wq hS => by go_simp) (Below.refl _ _).drew ?_
                    try simp only [Act.put, List.setIfInBounds_toArray, List.set_cons_succ, List.set_cons_zero]
                    refine takeH 1 (some 101) (.bool true) rfl rfl (by kernel_rfl) (by kernel_rfl) (by kernel_rfl) (fun _ _ _ h => h) rfl (fun wq hS => by go_simp) (Below.refl _ _).drew ?_
                    try simp only [Act.put, List.setIfInBounds_toArray, List.set_cons_succ, List.set_cons_zero]
                    refine takeH 2 (some 102) (.int .i64 was) rfl rfl (by kernel_rfl) (by kernel_rfl) (by kernel_rfl) (fun _ _ _ h => h) rfl (fun wq hS => by go_simp) (Below.refl _ _).drew ?_
                    try simp only [Act.put, List.setIfInBounds_toArray, List.set_cons_succ, List.set_cons_zero]
                    refine takeH 3 (some 103) (.pointer (some ⟨gb, was * 32, none⟩)) rfl rfl (by kernel_rfl) (by kernel_rfl) (by kernel_rfl) (fun _ _ _ h => h) rfl (fun wq hS => by go_simp) (Below.refl _ _).drew ?_
                    try simp only [Act.put, List.setIfInBounds_toArray, List.set_cons_succ, List.set_cons_zero]
                    refine takeH 4 (some 104) (.agg (u8s bw).toArray) rfl rfl (by kernel_rfl) (by kernel_rfl) (by kernel_rfl) (fun _ _ _ h => h) rfl (fun wq hS => by exact exec_load_at wq _ _ 32 _ rfl (gb) (was * 32) rfl ((u8s bw).toArray) _ Tryd.underlying32 rfl (by rw [u8s_size, HLB.out]; exact info32) (page_at (HK.out.k.b.below hS HK.out.k.b.lt) HBW.out HLB.out)) (Below.refl _ _).drew ?_
                    try simp only [Act.put, List.setIfInBounds_toArray, List.set_cons_succ, List.set_cons_zero]
                    refine takeH 5 (some 105) (.int .i64 was) rfl rfl (by kernel_rfl) (by kernel_rfl) (by kernel_rfl) (fun _ _ _ h => h) rfl (fun wq hS => by go_simp) (Below.refl _ _).drew ?_
                    try simp only [Act.put, List.setIfInBounds_toArray, List.set_cons_succ, List.set_cons_zero]
                    refine takeH 6 (some 106) (.pointer (some ⟨gn, was * 32, none⟩)) rfl rfl (by kernel_rfl) (by kernel_rfl) (by kernel_rfl) (fun _ _ _ h => h) rfl (fun wq hS => by go_simp) (Below.refl _ _).drew ?_
                    try simp only [Act.put, List.setIfInBounds_toArray, List.set_cons_succ, List.set_cons_zero]
                    refine takeH 7 (some 107) (.agg (u8s nw).toArray) rfl rfl (by kernel_rfl) (by kernel_rfl) (by kernel_rfl) (fun _ _ _ h => h) rfl (fun wq hS => by exact exec_load_at wq _ _ 32 _ rfl (gn) (was * 32) rfl ((u8s nw).toArray) _ Tryd.underlying32 rfl (by rw [u8s_size, HLN.out]; exact info32) (page_at (HK.out.k.n.below hS HK.out.k.n.lt) HNW.out HLN.out)) (Below.refl _ _).drew ?_
                    try simp only [Act.put, List.setIfInBounds_toArray, List.set_cons_succ, List.set_cons_zero]
                    refine takeH 8 (some 108) (.bool false) rfl rfl (by kernel_rfl) (by kernel_rfl) (by kernel_rfl) (fun _ _ _ h => h) rfl (fun wq hS => by exact exec_pageN HV.out HLB.out HLN.out _ _ _ rfl rfl rfl) (Below.refl _ _).drew ?_
                    try simp only [Act.put, List.setIfInBounds_toArray, List.set_cons_succ, List.set_cons_zero]
                    refine takeH 9 (some 109) (.bool false) rfl rfl (by kernel_rfl) (by kernel_rfl) (by kernel_rfl) (fun _ _ _ h => h) rfl (fun wq hS => by go_simp) (Below.refl _ _).drew ?_
                    try simp only [Act.put, List.setIfInBounds_toArray, List.set_cons_succ, List.set_cons_zero]
                    refine takeH 10 (some 110) (.bool false) rfl rfl (by kernel_rfl) (by kernel_rfl) (by kernel_rfl) (fun _ _ _ h => h) rfl (fun wq hS => by go_simp) (Below.refl _ _).drew ?_
                    try simp only [Act.put, List.setIfInBounds_toArray, List.set_cons_succ, List.set_cons_zero]
                    refine passH 11 (some 111) rfl rfl (by kernel_rfl) (by kernel_rfl) (by kernel_rfl) (fun _ _ _ h => h) rfl (Below.refl _ _).drew ?_
                    try simp only [Act.put, List.setIfInBounds_toArray, List.set_cons_succ, List.set_cons_zero]
                    refine takeH 12 (some 112) (.bool false) rfl rfl (by kernel_rfl) (by kernel_rfl) (by kernel_rfl) (fun _ _ _ h => h) rfl (fun wq hS => by go_simp) (Below.refl _ _).drew ?_
                    try simp only [Act.put, List.setIfInBounds_toArray, List.set_cons_succ, List.set_cons_zero]
                    refine wpAnyH_done (by kernel_rfl) ?_ _
                    generalize hw9 : w8.drew = w9 at *
                    have HK9 : Hid (Ky W w9 L gb gn gh xb s8 z [.int .i64 0, .int .i64 fr0, .int .i64 ky, .int .i64 of, .int .u8 v, .slice da dn dc]) := Lib.hid (by rw [← hw9]; exact HK.out.below (Below.refl _ _).drew)
                    clear hw9 HK
                    have HC := Lib.hid HK9.out.k.h
                    obtain ⟨hv0, hhv0⟩ : ∃ hv, z.hs[was]? = some hv := ⟨_, List.getElem?_eq_getElem (by have := HI8.out.lh; simp only [List.length_set] at this; omega)⟩
                    have c0 := HC.out.cell (i := was) (v := .bool hv0) (by rw [List.getElem?_map, hhv0]; rfl)
                    have frz := HC.out.frozen
                    go_upto_region 23 with fail
                    clear c0 frz hhv0
                    obtain ⟨d1, d2, d3⟩ := HK9.out.k.d
                    have HK3 : Hid (Ky W (w9.setCell ⟨gh, was, none⟩ (.bool false)) L gb gn gh xb s8 ⟨z.bs, z.ns, z.hs.set was false⟩ [.int .i64 0, .int .i64 fr0, .int .i64 ky, .int .i64 of, .int .u8 v, .slice da dn dc]) := Lib.hid (HK9.out.turn (z' := ⟨z.bs, z.ns, z.hs.set was false⟩) ((Only.refl _ _).setCell (.inl (.inr (.inr rfl))) _) (HK9.out.k.b.setOther (a := ⟨gh, was, none⟩) d2 _) (HK9.out.k.n.setOther (a := ⟨gh, was, none⟩) d3 _) (by
                      have := HC.out.set was (.bool false)
                      rwa [← List.map_set] at this))
                    have HI3a := HI8
                    clear d1 d2 d3 HK9 HC
                    generalize w9.setCell ⟨gh, was, none⟩ (.bool false) = wy at *
                    obtain ⟨z3, hz3⟩ : ∃ z3 : Kz, z3 = ⟨z.bs, z.ns, z.hs.set was false⟩ := ⟨_, rfl⟩
                    rw [← hz3] at HK3
                    have HI9 : Hid (Inv s8 ⟨z3.bs.set p (leaf v), z3.ns.set p (leaf v), z3.hs.set p true⟩) := Lib.hid (by rw [hz3]; exact HI8.out)
                    have HI3 : Hid (z3.bs.length = 8 ∧ z3.ns.length = 8 ∧ z3.hs.length = 8) := Lib.hid (by
                      have h1 := HI9.out.lb
                      have h2 := HI9.out.ln
                      have h3 := HI9.out.lh
                      simp only [List.length_set] at h1 h2 h3
                      exact ⟨h1, h2, h3⟩)
                    have HNX : Hid (¬ (xb = gb ∨ xb = gn ∨ xb = gh)) := Lib.hid (by obtain ⟨n1, n2, n3⟩ := HK3.out.ne; omega)
                    clear HI8 hz3
                    go_upto_region 23 with fail
                    refine startH (fun wq => Only (fun q => q = gb ∨ q = gn ∨ q = gh) wy wq) (by kernel_rfl) ?_
                    refine takeH 0 (some 117) (.int .i64 p) rfl rfl (by kernel_rfl) (by kernel_rfl) (by kernel_rfl) (fun _ _ _ h => h) rfl (fun wq hS => by go_simp) (Only.refl _ _).drew ?_
                    try simp only [Act.put, List.setIfInBounds_toArray, List.set_cons_succ, List.set_cons_zero]
                    refine takeH 1 (some 118) (.int .i64 p) rfl rfl (by kernel_rfl) (by kernel_rfl) (by kernel_rfl) (fun _ _ _ h => h) rfl (fun wq hS => by go_simp) (Only.refl _ _).drew ?_
                    try simp only [Act.put, List.setIfInBounds_toArray, List.set_cons_succ, List.set_cons_zero]
                    refine takeH 2 (some 119) (.int .i64 p) rfl rfl (by kernel_rfl) (by kernel_rfl) (by kernel_rfl) (fun _ _ _ h => h) rfl (fun wq hS => by go_simp) (Only.refl _ _).drew ?_
                    try simp only [Act.put, List.setIfInBounds_toArray, List.set_cons_succ, List.set_cons_zero]
                    refine takeH 3 (some 120) (.pointer (some ⟨xb, 4, none⟩)) rfl rfl (by kernel_rfl) (by kernel_rfl) (by kernel_rfl) (fun _ _ _ h => h) rfl (fun wq hS => by go_simp) (Only.refl _ _).drew ?_
                    try simp only [Act.put, List.setIfInBounds_toArray, List.set_cons_succ, List.set_cons_zero]
                    refine takeH 4 (some 121) (.int .u8 v) rfl rfl (by kernel_rfl) (by kernel_rfl) (by kernel_rfl) (fun _ _ _ h => h) rfl (fun wq hS => by have hq := (HK3.out.x.only hS HNX.out).cell (i := 4) rfl; go_simp) (Only.refl _ _).drew ?_
                    try simp only [Act.put, List.setIfInBounds_toArray, List.set_cons_succ, List.set_cons_zero]
                    refine takeH 6 (some 123) (.pointer (some ⟨xb, 4, none⟩)) rfl rfl (by kernel_rfl) (by kernel_rfl) (by kernel_rfl) (fun _ _ _ h => h) rfl (fun wq hS => by go_simp) (Only.refl _ _).drew ?_
                    try simp only [Act.put, List.setIfInBounds_toArray, List.set_cons_succ, List.set_cons_zero]
                    refine takeH 7 (some 124) (.int .u8 v) rfl rfl (by kernel_rfl) (by kernel_rfl) (by kernel_rfl) (fun _ _ _ h => h) rfl (fun wq hS => by have hq := (HK3.out.x.only hS HNX.out).cell (i := 4) rfl; go_simp) (Only.refl _ _).drew ?_
                    try simp only [Act.put, List.setIfInBounds_toArray, List.set_cons_succ, List.set_cons_zero]
                    refine takeH 9 (some 126) (.pointer (some ⟨gh, p, none⟩)) rfl rfl (by kernel_rfl) (by kernel_rfl) (by kernel_rfl) (fun _ _ _ h => h) rfl (fun wq hS => by go_simp) (Only.refl _ _).drew ?_
                    try simp only [Act.put, List.setIfInBounds_toArray, List.set_cons_succ, List.set_cons_zero]
                    refine oneH 5 (by kernel_rfl) rfl rfl fun K hK => ?_
                    go_simp
                    refine (Leaf_any v _).mono ?_
                    rintro e v1 ⟨rfl, hb⟩
                    have T1 := Lib.hid ((((Below.refl (World.heap wy).size wy).drew)).trans (hb.mono (((Below.refl (World.heap wy).size wy).drew)).size))
                    have HS1 : Hid (Only (fun q => q = gb ∨ q = gn ∨ q = gh) wy v1) := Lib.hid (Only.of_below T1.out)
                    clear hb
                    refine hK _ _ HS1.out ?_
                    clear hK K
                    try simp only [Act.put, List.setIfInBounds_toArray, List.set_cons_succ, List.set_cons_zero]
                    refine oneH 8 (by kernel_rfl) rfl rfl fun K hK => ?_
                    go_simp
                    refine (Leaf_any v _).mono ?_
                    rintro e v2 ⟨rfl, hb⟩
                    have T2 := Lib.hid ((T1.out).trans (hb.mono (T1.out).size))
                    have HS2 : Hid (Only (fun q => q = gb ∨ q = gn ∨ q = gh) wy v2) := Lib.hid (Only.of_below T2.out)
                    clear hb
                    refine hK _ _ HS2.out ?_
                    clear hK K
                    try simp only [Act.put, List.setIfInBounds_toArray, List.set_cons_succ, List.set_cons_zero]
                    refine oneH 10 (by kernel_rfl) rfl rfl fun K hK => ?_
                    have hb0 := HK3.out.k.b.below T2.out HK3.out.k.b.lt
                    have hn0 := HK3.out.k.n.below T2.out HK3.out.k.n.lt
                    have hh0 := HK3.out.k.h.below T2.out HK3.out.k.h.lt
                    obtain ⟨hv, hhv⟩ : ∃ hv, z3.hs[p]? = some hv := ⟨_, List.getElem?_eq_getElem (by rw [HI3.out.2.2]; exact hp)⟩
                    have c0 := hh0.cell (i := p) (v := .bool hv) (by rw [List.getElem?_map, hhv]; rfl)
                    have frz := hh0.frozen
                    go_simp
                    obtain ⟨d1, d2, d3⟩ := HK3.out.k.d
                    have hb1 := Lib.hid (hb0.setOther (a := ⟨gh, p, none⟩) d2 (.bool true))
                    have hn1 := Lib.hid (hn0.setOther (a := ⟨gh, p, none⟩) d3 (.bool true))
                    have hh1 : Hid (Blk (v2.setCell ⟨gh, p, none⟩ (.bool true)) gh (bools (z3.hs.set p true))) := Lib.hid (by
                      have := hh0.set p (.bool true)
                      rwa [← List.map_set] at this)
                    have HS3 : Hid (Only (fun q => q = gb ∨ q = gn ∨ q = gh) wy (v2.setCell ⟨gh, p, none⟩ (.bool true))) := Lib.hid (HS2.out.setCell (.inl (.inr (.inr rfl))) _)
                    clear hb0 hn0 hh0 c0 frz hhv d1 d2 d3
                    refine hK _ _ HS3.out ?_
                    clear hK K
                    try simp only [Act.put, List.setIfInBounds_toArray, List.set_cons_succ, List.set_cons_zero]
                    refine takeH 11 (some 127) (.pointer (some ⟨gb, p * 32, none⟩)) rfl rfl (by kernel_rfl) (by kernel_rfl) (by kernel_rfl) (fun _ _ _ h => h) rfl (fun wq hS => by go_simp) HS3.out ?_
                    try simp only [Act.put, List.setIfInBounds_toArray, List.set_cons_succ, List.set_cons_zero]
                    refine oneH 12 (by kernel_rfl) rfl rfl fun K hK => ?_
                    refine store_O (off := p * 32) (cs := (u8s (leaf v)).toArray) none rfl rfl hb1.out (by rw [u8s_size, leaf_len, fm_len pgE_len, HI3.out.1]; omega) (by rw [u8s_size, leaf_len]; exact info32) (u8s_one _) rfl rfl fun u4 hD hO hlD => ?_
                    rw [← pgE_eq (leaf_len v), fm_splice pgE_len (leaf v) (by rw [HI3.out.1]; exact hp)] at hD
                    have hb14 : Hid (Blk u4 gb ((z3.bs.set p (leaf v)).flatMap pgE)) := Lib.hid (by simpa using hD)
                    have hn14 := Lib.hid (hn1.out.only hO (fun e => HK3.out.k.d.1 e.symm))
                    have hh14 := Lib.hid (hh1.out.only hO (fun e => HK3.out.k.d.2.1 e.symm))
                    have HS4 : Hid (Only (fun q => q = gb ∨ q = gn ∨ q = gh) wy u4) := Lib.hid (HS3.out.trans (hO.more fun q _ hq => by simp [hq]))
                    clear hD hO hlD hb1 hn1 hh1
                    refine hK _ _ HS4.out ?_
                    clear hK K
                    try simp only [Act.put, List.setIfInBounds_toArray, List.set_cons_succ, List.set_cons_zero]
                    refine takeH 13 (some 128) (.pointer (some ⟨gn, p * 32, none⟩)) rfl rfl (by kernel_rfl) (by kernel_rfl) (by kernel_rfl) (fun _ _ _ h => h) rfl (fun wq hS => by go_simp) HS4.out ?_
                    try simp only [Act.put, List.setIfInBounds_toArray, List.set_cons_succ, List.set_cons_zero]
                    refine oneH 14 (by kernel_rfl) rfl rfl fun K hK => ?_
                    refine store_O (off := p * 32) (cs := (u8s (leaf v)).toArray) none rfl rfl hn14.out (by rw [u8s_size, leaf_len, fm_len pgE_len, HI3.out.2.1]; omega) (by rw [u8s_size, leaf_len]; exact info32) (u8s_one _) rfl rfl fun u5 hD hO hlD => ?_
                    rw [← pgE_eq (leaf_len v), fm_splice pgE_len (leaf v) (by rw [HI3.out.2.1]; exact hp)] at hD
                    have hn145 : Hid (Blk u5 gn ((z3.ns.set p (leaf v)).flatMap pgE)) := Lib.hid (by simpa using hD)
                    have hb145 := Lib.hid (hb14.out.only hO (HK3.out.k.d.1))
                    have hh145 := Lib.hid (hh14.out.only hO (fun e => HK3.out.k.d.2.2 e.symm))
                    have HS5 : Hid (Only (fun q => q = gb ∨ q = gn ∨ q = gh) wy u5) := Lib.hid (HS4.out.trans (hO.more fun q _ hq => by simp [hq]))
                    clear hD hO hlD hn14 hb14 hh14
                    refine hK _ _ HS5.out ?_
                    clear hK K
                    try simp only [Act.put, List.setIfInBounds_toArray, List.set_cons_succ, List.set_cons_zero]
                    refine wpAnyH_done (by kernel_rfl) ?_ _
                    have HKE := Lib.hid (HK3.out.turn (z' := ⟨z3.bs.set p (leaf v), z3.ns.set p (leaf v), z3.hs.set p true⟩) HS5.out hb145.out hn145.out hh145.out)
                    go_wp2_with fail
                    go_meet
                    exact ⟨s8, _, HKE.out, HOK8.out, HI9.out⟩

              have d0 : (kd == 0) = false := by simpa using h0
              by_cases h2 : kd = 2
              · subst h2
                have x4 := HK.out.x.cell (i := 4) rfl
                have hbl := Kl.alloc_below wx (.cells #[.int .u8 v] 5)
                have HK1 := Lib.hid (HK.out.below hbl)
                have HLT : Hid (Own (wx.alloc (.cells #[.int .u8 v] 5)) wx.heap.size (.slice (some ⟨wx.heap.size, 0, none⟩) 1 1) [v]) := Lib.hid (Own.lit wx wx.heap.size (Nat.le_refl _) [v] (by simp) _ rfl)
                have HWR := Lib.hid (fz_write HK1.out.k.fz HOK.out HEV.out (p : Int) 3 (.slice (some ⟨wx.heap.size, 0, none⟩) 1 1) [v] (by simp) HLT.out.bytes)
                have HFT : Hid (Fits 3 [v]) := Lib.hid (by unfold Fits; simp)
                clear hbl
                cases hfd : s.c.find (p : Int) with
                | none =>
                  have hw : s.write p 3 [v] = (17, s) := by unfold Fs.write; rw [Inv.page (z := z) hp, hfd]
                  rw [hw] at HWR
                  simp only at HWR
                  have hp0 := HIN.out.no p hp hfd
                  have HFD := Lib.hid hfd
                  have hc := HK.out.k.h.cell (i := p) (v := .bool false) (by rw [List.getElem?_map, hp0]; rfl)
                  clear hw hfd hp0 hc
                  go_wp2_with fail
                  refine HWR.out.mono ?_
                  rintro e w7 ⟨rfl, hz, ho⟩
                  have HK7 := Lib.hid (HK1.out.call hz ho)
                  have hc := HK7.out.k.h.cell (i := p) (v := .bool false) (by rw [List.getElem?_map, HIN.out.no p hp HFD.out]; rfl)
                  clear hz ho HWR x4
                  go_wp2_with fail
                  go_meet
                  exact ⟨s, z, HK7.out, HOK.out, HIN.out⟩
                | some i =>
                  obtain ⟨u, h1, h2, h3, h4⟩ := HIN.out.yes p i hp hfd
                  have hw : s.write p 3 [v] = (0, ⟨s.c.touch i, s.h.set i { u with now := layI u.now 3 [v] }⟩) := by
                    unfold Fs.write
                    rw [Inv.page (z := z) hp, hfd]
                    simp only [if_pos HFT.out]
                    unfold Fs.turn
                    rw [h1]
                    rfl
                  have hok2 := HOK.out.write (p : Int) 3 (l := [v]) (by intro y hy; simp only [List.mem_singleton] at hy; subst hy; exact HVB.out)
                  rw [hw] at HWR hok2
                  simp only at HWR hok2
                  have HOK2 := Lib.hid hok2
                  have HUO := HOK.out.hd i u h1
                  have hly := lay_page HUO.now 3 HFT.out (by intro y hy; simp only [List.mem_singleton] at hy; subst hy; exact HVB.out)
                  have HI2 := Lib.hid (HIN.out.turn HOK.out (y := { u with now := layI u.now 3 [v] }) hp hfd h1 HUO.base hly (HOK.out.ck.touch i) (Ck.touch_len _ _) (touch_keys _ _))
                  simp only at HI2
                  have HNW := Lib.hid h4
                  have HLN := Lib.hid HUO.now.length
                  have HLY := Lib.hid hly.length
                  obtain ⟨o3, ho3⟩ : ∃ o3, u.now[3]? = some o3 := ⟨_, List.getElem?_eq_getElem (by rw [HUO.now.length]; omega)⟩
                  have HO3 := Lib.hid ho3
                  have HST : Hid (u8s (layI u.now 3 [v]) = (u8s u.now).set 3 (.int .u8 v)) := Lib.hid (by
                    show (layI u.now 3 [v]).map (Value.int .u8) = (u.now.map (Value.int .u8)).set 3 (Value.int .u8 v)
                    rw [← List.map_set]
                    congr 1
                    obtain ⟨x0, x1, x2, x3, x4, x5, x6, x7, x8, x9, x10, x11, x12, x13, x14, x15, x16, x17, x18, x19, x20, x21, x22, x23, x24, x25, x26, x27, x28, x29, x30, x31, hx⟩ := page32 HUO.now.length
                    rw [hx]
                    rfl)
                  have HBS : Hid (z.bs.set p u.base = z.bs) := Lib.hid (set_of_get h3)
                  have HH2 := Lib.hid h2
                  generalize ({ u with now := layI u.now 3 [v] } : Hd) = u2 at *
                  generalize u.now = nw at *
                  clear hw hfd h1 h2 h3 h4 hok2 hly HUO ho3
                  go_wp2_with fail
                  refine HWR.out.mono ?_
                  rintro e w7 ⟨rfl, hz, ho⟩
                  have HK7 := Lib.hid (HK1.out.call hz ho)
                  have hc := HK7.out.k.h.cell (i := p) (v := .bool true) (by rw [List.getElem?_map, HH2.out]; rfl)
                  have HNX : Hid (¬ (xb = gb ∨ xb = gn ∨ xb = gh)) := Lib.hid (by obtain ⟨n1, n2, n3⟩ := HK7.out.ne; omega)
                  clear hz ho HWR x4
                  go_upto_region 29 with fail
                  refine startH (fun wq => Only (fun q => q = gb ∨ q = gn ∨ q = gh) w7 wq) (by kernel_rfl) ?_
                  refine takeH 0 (some 154) (.int .i64 p) rfl rfl (by kernel_rfl) (by kernel_rfl) (by kernel_rfl) (fun _ _ _ h => h) rfl (fun wq hS => by go_simp) (Only.refl _ _).drew ?_
                  try simp only [Act.put, List.setIfInBounds_toArray, List.set_cons_succ, List.set_cons_zero]
                  refine takeH 1 (some 155) (.pointer (some ⟨xb, 4, none⟩)) rfl rfl (by kernel_rfl) (by kernel_rfl) (by kernel_rfl) (fun _ _ _ h => h) rfl (fun wq hS => by go_simp) (Only.refl _ _).drew ?_
                  try simp only [Act.put, List.setIfInBounds_toArray, List.set_cons_succ, List.set_cons_zero]
                  refine takeH 2 (some 156) (.int .u8 v) rfl rfl (by kernel_rfl) (by kernel_rfl) (by kernel_rfl) (fun _ _ _ h => h) rfl (fun wq hS => by have hq := (HK7.out.x.only hS HNX.out).cell (i := 4) rfl; go_simp) (Only.refl _ _).drew ?_
                  try simp only [Act.put, List.setIfInBounds_toArray, List.set_cons_succ, List.set_cons_zero]
                  refine takeH 3 (some 157) (.pointer (some ⟨gn, p * 32, none⟩)) rfl rfl (by kernel_rfl) (by kernel_rfl) (by kernel_rfl) (fun _ _ _ h => h) rfl (fun wq hS => by go_simp) (Only.refl _ _).drew ?_
                  try simp only [Act.put, List.setIfInBounds_toArray, List.set_cons_succ, List.set_cons_zero]
                  refine takeH 4 (some 158) (.pointer (some ⟨gn, p * 32 + 3, none⟩)) rfl rfl (by kernel_rfl) (by kernel_rfl) (by kernel_rfl) (fun _ _ _ h => h) rfl (fun wq hS => by go_simp) (Only.refl _ _).drew ?_
                  try simp only [Act.put, List.setIfInBounds_toArray, List.set_cons_succ, List.set_cons_zero]
                  refine oneH 5 (by kernel_rfl) rfl rfl fun K hK => ?_
                  have hn0 := HK7.out.k.n.drew
                  have c0 := hn0.cell (i := p * 32 + 3) (v := .int .u8 o3) (by rw [fm_at pgE_len HNW.out (by omega), pgE_eq HLN.out, List.getElem?_map, HO3.out]; rfl)
                  have frz := hn0.frozen
                  go_simp
                  obtain ⟨d1, d2, d3⟩ := HK7.out.k.d
                  have hn1 : Hid (Blk (w7.drew.setCell ⟨gn, p * 32 + 3, none⟩ (.int .u8 v)) gn ((z.ns.set p (layI nw 3 [v])).flatMap pgE)) := Lib.hid (by
                    have := hn0.set (p * 32 + 3) (.int .u8 v)
                    rwa [fm_set pgE_len HNW.out (by omega) (g := layI nw 3 [v]) (by rw [pgE_eq HLY.out, pgE_eq HLN.out]; exact HST.out)] at this)
                  have HS1 : Hid (Only (fun q => q = gb ∨ q = gn ∨ q = gh) w7 (w7.drew.setCell ⟨gn, p * 32 + 3, none⟩ (.int .u8 v))) := Lib.hid ((Only.refl _ _).drew.setCell (.inl (.inr (.inl rfl))) _)
                  have HKE := Lib.hid (HK7.out.turn (z' := ⟨z.bs, z.ns.set p (layI nw 3 [v]), z.hs⟩) HS1.out (HK7.out.k.b.drew.setOther (a := ⟨gn, p * 32 + 3, none⟩) d1 _) hn1.out (HK7.out.k.h.drew.setOther (a := ⟨gn, p * 32 + 3, none⟩) (fun e => d3 e.symm) _))
                  clear hn0 c0 frz d1 d2 d3
                  refine hK _ _ HS1.out ?_
                  clear hK K
                  try simp only [Act.put, List.setIfInBounds_toArray, List.set_cons_succ, List.set_cons_zero]
                  refine wpAnyH_done (by kernel_rfl) ?_ _
                  go_wp2_with fail
                  go_meet
                  exact ⟨_, _, HKE.out, HOK2.out, by rw [← HBS.out]; exact HI2.out⟩

              have d2 : (kd == 2) = false := by simpa using h2
              by_cases h3 : kd = 3
              · subst h3
                have HCL := Lib.hid (fz_clean HK.out.k.fz HOK.out (p : Int))
                obtain ⟨nw, hnw⟩ : ∃ nw, z.ns[p]? = some nw := ⟨_, List.getElem?_eq_getElem (by rw [HIN.out.ln]; exact hp)⟩
                have HNW := Lib.hid hnw
                have hpn := HIN.out.pn p nw hnw
                have HLN := Lib.hid hpn.length
                have HOK2 := Lib.hid (HOK.out.clean (p : Int))
                have HI2 : Hid (Inv (s.clean p) ⟨z.bs.set p nw, z.ns, z.hs⟩) := Lib.hid (by
                  unfold Fs.clean
                  rw [Inv.page (z := z) hp]
                  cases hfd : s.c.find (p : Int) with
                  | none => exact HIN.out.away hp hfd hpn
                  | some i =>
                    obtain ⟨u, h1, h2, h3, h4⟩ := HIN.out.yes p i hp hfd
                    rw [hnw] at h4
                    cases h4
                    have := HIN.out.turn HOK.out (y := { u with base := u.now }) (c := s.c) hp hfd h1 hpn hpn HOK.out.ck rfl fun j f hf => ⟨f, hf, rfl⟩
                    simp only [Fs.turn, h1]
                    rwa [set_of_get hnw] at this)
                clear hnw hpn
                generalize s.clean p = s2 at *
                go_wp2_with fail
                refine HCL.out.mono ?_
                rintro e w7 ⟨rfl, hz, ho⟩
                have HK7 := Lib.hid (HK.out.call hz ho)
                clear hz ho HCL
                go_upto_region 32 with fail
                refine wp_region_lit ?_
                refine takeL (.int .i64 p) rfl (by go_simp) ?_
                try simp only [Act.put, List.setIfInBounds_toArray, List.set_cons_succ, List.set_cons_zero]
                refine takeL (.int .i64 p) rfl (by go_simp) ?_
                try simp only [Act.put, List.setIfInBounds_toArray, List.set_cons_succ, List.set_cons_zero]
                refine takeL (.pointer (some ⟨gn, p * 32, none⟩)) rfl (by go_simp) ?_
                try simp only [Act.put, List.setIfInBounds_toArray, List.set_cons_succ, List.set_cons_zero]
                refine load32 (cs := (u8s nw).toArray) (page_at HK7.out.k.n HNW.out HLN.out) (by rw [u8s_size, HLN.out]) rfl rfl ?_
                try simp only [Act.put, List.setIfInBounds_toArray, List.set_cons_succ, List.set_cons_zero]
                refine takeL (.pointer (some ⟨gb, p * 32, none⟩)) rfl (by go_simp) ?_
                try simp only [Act.put, List.setIfInBounds_toArray, List.set_cons_succ, List.set_cons_zero]
                refine store_g (off := p * 32) (cs := (u8s nw).toArray) HK7.out.k.b (by rw [u8s_size, HLN.out]; exact info32) (by rw [u8s_size, HLN.out, fm_len pgE_len, HIN.out.lb]; omega) (u8s_one _) rfl rfl rfl ?_
                intro w9 hD hO hlD
                try simp only [Act.put, List.setIfInBounds_toArray, List.set_cons_succ, List.set_cons_zero]
                refine wpList_nil ?_
                rw [← pgE_eq HLN.out, fm_splice pgE_len nw (by rw [HIN.out.lb]; exact hp)] at hD
                obtain ⟨d1, d2, d3⟩ := HK7.out.k.d
                have HKE := Lib.hid (HK7.out.turn (z' := ⟨z.bs.set p nw, z.ns, z.hs⟩) (hO.more fun q _ hq => .inl hq) (by simpa using hD) (HK7.out.k.n.only hO (fun e => d1 e.symm)) (HK7.out.k.h.only hO (fun e => d2 e.symm)))
                clear hD hO hlD d1 d2 d3
                go_wp2_with fail
                go_meet
                exact ⟨s2, _, HKE.out, HOK2.out, HI2.out⟩

              have d3 : (kd == 3) = false := by simpa using h3
              go_wp2_with fail
              go_meet
              exact ⟨s, z, HK.out, HOK.out, HIN.out⟩
          case rest =>
            as_aux_lemma =>
              obtain ⟨s5, z5, h1, h2, h3⟩ := hcut
              have HK5 := Lib.hid h1
              have HO5 := Lib.hid h2
              have HI5 := Lib.hid h3
              clear h1 h2 h3 HK HOK HIN
              generalize wc = w5 at *
              go_wp2_with fail
              go_loopg [16] 8 (fun q i wj => ∃ j : Nat, 8 - j ≤ q ∧ j ≤ 8 ∧ i = .int .i64 j ∧ Below w5.heap.size w5 wj)
              case atStart => exact ⟨0, by omega, by omega, rfl, Below.refl _ _⟩
              case round =>
                as_aux_lemma =>
                  obtain ⟨j, hq1, hj, rfl, hbj⟩ := hrel
                  have HBJ := Lib.hid hbj
                  clear hbj
                  by_cases hj8 : j < 8
                  · have hj1 : (j : Int) < 8 := by omega
                    have HK6 := Lib.hid (HK5.out.below HBJ.out)
                    have HPG0 := Lib.hid (fz_page HK6.out.k.fz HO5.out (j : Int))
                    cases hfd : s5.c.find (j : Int) with
                    | none =>
                      have HPG : Hid (Calls Tryd.prog 16 #[.pointer (some ⟨L.b, 0, none⟩), .int .i64 j] wr fun e w' => e = .returned (.tuple #[.agg (u8s (zeros 32)).toArray, .agg (u8s (zeros 32)).toArray, .bool false]) ∧ Below wr.heap.size wr w') := Lib.hid (by
                        have := HPG0.out
                        rwa [Fs.held_none (by rw [Inv.page (z := z5) hj8]; exact hfd)] at this)
                      have HHJ := Lib.hid (HI5.out.no j hj8 hfd)
                      clear hfd HPG0
                      go_upto_region 36 with fail
                      refine wp_region_lit ?_
                      refine takeL (.pointer (some ⟨L.b, 0, none⟩)) rfl (by go_simp) ?_
                      try simp only [Act.put, List.setIfInBounds_toArray, List.set_cons_succ, List.set_cons_zero]
                      refine takeL (.int .i64 j) rfl (by go_simp) ?_
                      try simp only [Act.put, List.setIfInBounds_toArray, List.set_cons_succ, List.set_cons_zero]
                      refine wpList_op rfl fun K hK => ?_
                      go_simp
                      refine (HPG.out).mono ?_
                      rintro e w7c ⟨rfl, hb⟩
                      have HKc := Lib.hid (HK6.out.below hb)
                      have HBc := Lib.hid (stay HBJ.out hb)
                      clear hb
                      refine hK _ _ ?_
                      clear hK K
                      try simp only [Act.put, List.setIfInBounds_toArray, List.set_cons_succ, List.set_cons_zero]
                      refine takeL (.tuple #[.agg (u8s (zeros 32)).toArray, .agg (u8s (zeros 32)).toArray, .bool false]) rfl (by go_simp) ?_
                      try simp only [Act.put, List.setIfInBounds_toArray, List.set_cons_succ, List.set_cons_zero]
                      refine takeL (.agg (u8s (zeros 32)).toArray) rfl (by go_simp) ?_
                      try simp only [Act.put, List.setIfInBounds_toArray, List.set_cons_succ, List.set_cons_zero]
                      refine takeL (.agg (u8s (zeros 32)).toArray) rfl (by go_simp) ?_
                      try simp only [Act.put, List.setIfInBounds_toArray, List.set_cons_succ, List.set_cons_zero]
                      refine takeL (.bool false) rfl (by go_simp) ?_
                      try simp only [Act.put, List.setIfInBounds_toArray, List.set_cons_succ, List.set_cons_zero]
                      refine alloc_g zero32 rfl ?_
                      intro wa hA hb hl
                      try simp only [Act.put, List.setIfInBounds_toArray, List.set_cons_succ, List.set_cons_zero]
                      refine alloc_g zero32 rfl ?_
                      intro wb hA2 hb2 hl2
                      try simp only [Act.put, List.setIfInBounds_toArray, List.set_cons_succ, List.set_cons_zero]
                      have Vab := Lib.hid (hb.trans (hb2.mono hb.size))
                      have V3 : Hid (Blk wb w7c.heap.size (u8s (zeros 32))) := Lib.hid (by simpa using hA.below hb2 hA.lt)
                      have V4 : Hid (Blk wb wa.heap.size (u8s (zeros 32))) := Lib.hid (by simpa using hA2)
                      have VN7 : Hid (w7c.heap.size ≠ wa.heap.size) := Lib.hid (Nat.ne_of_lt hl)
                      have VG7 : Hid (w7c.heap.size ≤ wa.heap.size) := Lib.hid (Nat.le_of_lt hl)
                      clear hA hb hl hA2 hb2 hl2
                      generalize wa.heap.size = gb7 at *
                      clear wa
                      refine store_all (cs := (u8s (zeros 32)).toArray) V3.out (by simp only [u8s_size, List.size_toArray, List.length_map, zeros_length, zeros_length]) (by rw [u8s_size, zeros_length]; exact info32) (u8s_one _) rfl rfl rfl ?_
                      intro wt hD hO hlD
                      try simp only [Act.put, List.setIfInBounds_toArray, List.set_cons_succ, List.set_cons_zero]
                      have V3s : Hid (Blk wt w7c.heap.size (u8s (zeros 32))) := Lib.hid (by simpa using hD)
                      have V4s := Lib.hid (V4.out.only hO VN7.out.symm)
                      have Vs := Lib.hid (Vab.out.trans (hO.below Vab.out.size fun k hk => Nat.le_of_eq hk.symm))
                      clear V3 V4 Vab hD hO hlD
                      have V4 := V4s
                      clear V4s
                      refine store_all (cs := (u8s (zeros 32)).toArray) V4.out (by simp only [u8s_size, List.size_toArray, List.length_map, zeros_length, zeros_length]) (by rw [u8s_size, zeros_length]; exact info32) (u8s_one _) rfl rfl rfl ?_
                      intro w7 hD hO hlD
                      try simp only [Act.put, List.setIfInBounds_toArray, List.set_cons_succ, List.set_cons_zero]
                      have VB7 : Hid (Blk w7 gb7 (u8s (zeros 32))) := Lib.hid (by simpa using hD)
                      have VA7 := Lib.hid (V3s.out.only hO VN7.out)
                      have VE7 := Lib.hid (Vs.out.trans (hO.below Vs.out.size fun k hk => by rw [hk]; exact VG7.out))
                      clear V3s V4 Vs hD hO hlD
                      clear wt
                      refine takeL (.bool false) rfl (by go_simp) ?_
                      try simp only [Act.put, List.setIfInBounds_toArray, List.set_cons_succ, List.set_cons_zero]
                      refine wpList_nil ?_
                      have HK7 := Lib.hid (HKc.out.below VE7.out)
                      have HB7 := Lib.hid (stay HBc.out VE7.out)
                      clear HKc HBc VE7 VN7 VG7 HK6 HPG
                      go_upto_region 37 with fail
                      refine startH (fun wq => Below w7.heap.size w7 wq) (by kernel_rfl) ?_
                      refine takeH 0 (some 180) (.bool false) rfl rfl (by kernel_rfl) (by kernel_rfl) (by kernel_rfl) (fun _ _ _ h => h) rfl (fun wq hS => by go_simp) (Below.refl _ _).drew ?_
                      try simp only [Act.put, List.setIfInBounds_toArray, List.set_cons_succ, List.set_cons_zero]
                      refine takeH 1 (some 181) (.int .i64 j) rfl rfl (by kernel_rfl) (by kernel_rfl) (by kernel_rfl) (fun _ _ _ h => h) rfl (fun wq hS => by go_simp) (Below.refl _ _).drew ?_
                      try simp only [Act.put, List.setIfInBounds_toArray, List.set_cons_succ, List.set_cons_zero]
                      refine takeH 2 (some 182) (.pointer (some ⟨gh, j, none⟩)) rfl rfl (by kernel_rfl) (by kernel_rfl) (by kernel_rfl) (fun _ _ _ h => h) rfl (fun wq hS => by go_simp) (Below.refl _ _).drew ?_
                      try simp only [Act.put, List.setIfInBounds_toArray, List.set_cons_succ, List.set_cons_zero]
                      refine takeH 3 (some 183) (.bool false) rfl rfl (by kernel_rfl) (by kernel_rfl) (by kernel_rfl) (fun _ _ _ h => h) rfl (fun wq hS => by have hq := (HK7.out.k.h.below hS HK7.out.k.h.lt).cell (i := j) (v := .bool false) (by rw [List.getElem?_map, HHJ.out]; rfl); go_simp) (Below.refl _ _).drew ?_
                      try simp only [Act.put, List.setIfInBounds_toArray, List.set_cons_succ, List.set_cons_zero]
                      refine takeH 4 (some 184) (.bool false) rfl rfl (by kernel_rfl) (by kernel_rfl) (by kernel_rfl) (fun _ _ _ h => h) rfl (fun wq hS => by go_simp) (Below.refl _ _).drew ?_
                      try simp only [Act.put, List.setIfInBounds_toArray, List.set_cons_succ, List.set_cons_zero]
                      refine takeH 5 (some 185) (.bool false) rfl rfl (by kernel_rfl) (by kernel_rfl) (by kernel_rfl) (fun _ _ _ h => h) rfl (fun wq hS => by go_simp) (Below.refl _ _).drew ?_
                      try simp only [Act.put, List.setIfInBounds_toArray, List.set_cons_succ, List.set_cons_zero]
                      refine takeH 6 (some 186) (.bool false) rfl rfl (by kernel_rfl) (by kernel_rfl) (by kernel_rfl) (fun _ _ _ h => h) rfl (fun wq hS => by go_simp) (Below.refl _ _).drew ?_
                      try simp only [Act.put, List.setIfInBounds_toArray, List.set_cons_succ, List.set_cons_zero]
                      refine takeH 7 (some 187) (.bool false) rfl rfl (by kernel_rfl) (by kernel_rfl) (by kernel_rfl) (fun _ _ _ h => h) rfl (fun wq hS => by go_simp) (Below.refl _ _).drew ?_
                      try simp only [Act.put, List.setIfInBounds_toArray, List.set_cons_succ, List.set_cons_zero]
                      refine passH 8 (some 188) rfl rfl (by kernel_rfl) (by kernel_rfl) (by kernel_rfl) (fun _ _ _ h => h) rfl (Below.refl _ _).drew ?_
                      try simp only [Act.put, List.setIfInBounds_toArray, List.set_cons_succ, List.set_cons_zero]
                      refine passH 9 (some 189) rfl rfl (by kernel_rfl) (by kernel_rfl) (by kernel_rfl) (fun _ _ _ h => h) rfl (Below.refl _ _).drew ?_
                      try simp only [Act.put, List.setIfInBounds_toArray, List.set_cons_succ, List.set_cons_zero]
                      refine passH 10 (some 190) rfl rfl (by kernel_rfl) (by kernel_rfl) (by kernel_rfl) (fun _ _ _ h => h) rfl (Below.refl _ _).drew ?_
                      try simp only [Act.put, List.setIfInBounds_toArray, List.set_cons_succ, List.set_cons_zero]
                      refine passH 11 (some 191) rfl rfl (by kernel_rfl) (by kernel_rfl) (by kernel_rfl) (fun _ _ _ h => h) rfl (Below.refl _ _).drew ?_
                      try simp only [Act.put, List.setIfInBounds_toArray, List.set_cons_succ, List.set_cons_zero]
                      refine passH 12 (some 192) rfl rfl (by kernel_rfl) (by kernel_rfl) (by kernel_rfl) (fun _ _ _ h => h) rfl (Below.refl _ _).drew ?_
                      try simp only [Act.put, List.setIfInBounds_toArray, List.set_cons_succ, List.set_cons_zero]
                      refine passH 13 (some 193) rfl rfl (by kernel_rfl) (by kernel_rfl) (by kernel_rfl) (fun _ _ _ h => h) rfl (Below.refl _ _).drew ?_
                      try simp only [Act.put, List.setIfInBounds_toArray, List.set_cons_succ, List.set_cons_zero]
                      refine passH 14 (some 194) rfl rfl (by kernel_rfl) (by kernel_rfl) (by kernel_rfl) (fun _ _ _ h => h) rfl (Below.refl _ _).drew ?_
                      try simp only [Act.put, List.setIfInBounds_toArray, List.set_cons_succ, List.set_cons_zero]
                      refine passH 15 (some 195) rfl rfl (by kernel_rfl) (by kernel_rfl) (by kernel_rfl) (fun _ _ _ h => h) rfl (Below.refl _ _).drew ?_
                      try simp only [Act.put, List.setIfInBounds_toArray, List.set_cons_succ, List.set_cons_zero]
                      refine passH 16 (some 196) rfl rfl (by kernel_rfl) (by kernel_rfl) (by kernel_rfl) (fun _ _ _ h => h) rfl (Below.refl _ _).drew ?_
                      try simp only [Act.put, List.setIfInBounds_toArray, List.set_cons_succ, List.set_cons_zero]
                      refine passH 17 (some 197) rfl rfl (by kernel_rfl) (by kernel_rfl) (by kernel_rfl) (fun _ _ _ h => h) rfl (Below.refl _ _).drew ?_
                      try simp only [Act.put, List.setIfInBounds_toArray, List.set_cons_succ, List.set_cons_zero]
                      refine passH 18 (some 198) rfl rfl (by kernel_rfl) (by kernel_rfl) (by kernel_rfl) (fun _ _ _ h => h) rfl (Below.refl _ _).drew ?_
                      try simp only [Act.put, List.setIfInBounds_toArray, List.set_cons_succ, List.set_cons_zero]
                      refine passH 19 (some 199) rfl rfl (by kernel_rfl) (by kernel_rfl) (by kernel_rfl) (fun _ _ _ h => h) rfl (Below.refl _ _).drew ?_
                      try simp only [Act.put, List.setIfInBounds_toArray, List.set_cons_succ, List.set_cons_zero]
                      refine takeH 20 (some 200) (.bool false) rfl rfl (by kernel_rfl) (by kernel_rfl) (by kernel_rfl) (fun _ _ _ h => h) rfl (fun wq hS => by go_simp) (Below.refl _ _).drew ?_
                      try simp only [Act.put, List.setIfInBounds_toArray, List.set_cons_succ, List.set_cons_zero]
                      refine takeH 21 (some 201) (.bool false) rfl rfl (by kernel_rfl) (by kernel_rfl) (by kernel_rfl) (fun _ _ _ h => h) rfl (fun wq hS => by go_simp) (Below.refl _ _).drew ?_
                      try simp only [Act.put, List.setIfInBounds_toArray, List.set_cons_succ, List.set_cons_zero]
                      refine wpAnyH_done (by kernel_rfl) ?_ _
                      go_wp2_with fail
                      go_roundg (8 - (j + 1))
                      case measure => omega
                      case rel => exact ⟨j + 1, by omega, by omega, by go_num, HB7.out.trans ((Below.refl _ _).drew.mono HB7.out.size)⟩

                    | some i =>
                      obtain ⟨u, h1, h2, h3, h4⟩ := HI5.out.yes j i hj8 hfd
                      have HPG : Hid (Calls Tryd.prog 16 #[.pointer (some ⟨L.b, 0, none⟩), .int .i64 j] wr fun e w' => e = .returned (.tuple #[.agg (u8s u.base).toArray, .agg (u8s u.now).toArray, .bool true]) ∧ Below wr.heap.size wr w') := Lib.hid (by
                        have := HPG0.out
                        rwa [show s5.held (j : Int) = some u by unfold Fs.held; rw [Inv.page (z := z5) hj8, hfd]; exact h1] at this)
                      have HUO := HO5.out.hd i u h1
                      have HHJ := Lib.hid h2
                      have HBW := Lib.hid h3
                      have HNW := Lib.hid h4
                      have HLB := Lib.hid HUO.base.length
                      have HLN := Lib.hid HUO.now.length
                      clear hfd HPG0 h1 h2 h3 h4 HUO
                      generalize u.base = bw at *
                      generalize u.now = nw at *
                      go_upto_region 36 with fail
                      refine wp_region_lit ?_
                      refine takeL (.pointer (some ⟨L.b, 0, none⟩)) rfl (by go_simp) ?_
                      try simp only [Act.put, List.setIfInBounds_toArray, List.set_cons_succ, List.set_cons_zero]
                      refine takeL (.int .i64 j) rfl (by go_simp) ?_
                      try simp only [Act.put, List.setIfInBounds_toArray, List.set_cons_succ, List.set_cons_zero]
                      refine wpList_op rfl fun K hK => ?_
                      go_simp
                      refine (HPG.out).mono ?_
                      rintro e w7c ⟨rfl, hb⟩
                      have HKc := Lib.hid (HK6.out.below hb)
                      have HBc := Lib.hid (stay HBJ.out hb)
                      clear hb
                      refine hK _ _ ?_
                      clear hK K
                      try simp only [Act.put, List.setIfInBounds_toArray, List.set_cons_succ, List.set_cons_zero]
                      refine takeL (.tuple #[.agg (u8s bw).toArray, .agg (u8s nw).toArray, .bool true]) rfl (by go_simp) ?_
                      try simp only [Act.put, List.setIfInBounds_toArray, List.set_cons_succ, List.set_cons_zero]
                      refine takeL (.agg (u8s bw).toArray) rfl (by go_simp) ?_
                      try simp only [Act.put, List.setIfInBounds_toArray, List.set_cons_succ, List.set_cons_zero]
                      refine takeL (.agg (u8s nw).toArray) rfl (by go_simp) ?_
                      try simp only [Act.put, List.setIfInBounds_toArray, List.set_cons_succ, List.set_cons_zero]
                      refine takeL (.bool true) rfl (by go_simp) ?_
                      try simp only [Act.put, List.setIfInBounds_toArray, List.set_cons_succ, List.set_cons_zero]
                      refine alloc_g zero32 rfl ?_
                      intro wa hA hb hl
                      try simp only [Act.put, List.setIfInBounds_toArray, List.set_cons_succ, List.set_cons_zero]
                      refine alloc_g zero32 rfl ?_
                      intro wb hA2 hb2 hl2
                      try simp only [Act.put, List.setIfInBounds_toArray, List.set_cons_succ, List.set_cons_zero]
                      have Vab := Lib.hid (hb.trans (hb2.mono hb.size))
                      have V3 : Hid (Blk wb w7c.heap.size (u8s (zeros 32))) := Lib.hid (by simpa using hA.below hb2 hA.lt)
                      have V4 : Hid (Blk wb wa.heap.size (u8s (zeros 32))) := Lib.hid (by simpa using hA2)
                      have VN7 : Hid (w7c.heap.size ≠ wa.heap.size) := Lib.hid (Nat.ne_of_lt hl)
                      have VG7 : Hid (w7c.heap.size ≤ wa.heap.size) := Lib.hid (Nat.le_of_lt hl)
                      clear hA hb hl hA2 hb2 hl2
                      generalize wa.heap.size = gb7 at *
                      clear wa
                      refine store_all (cs := (u8s bw).toArray) V3.out (by simp only [u8s_size, List.size_toArray, List.length_map, HLB.out, zeros_length]) (by rw [u8s_size, HLB.out]; exact info32) (u8s_one _) rfl rfl rfl ?_
                      intro wt hD hO hlD
                      try simp only [Act.put, List.setIfInBounds_toArray, List.set_cons_succ, List.set_cons_zero]
                      have V3s : Hid (Blk wt w7c.heap.size (u8s bw)) := Lib.hid (by simpa using hD)
                      have V4s := Lib.hid (V4.out.only hO VN7.out.symm)
                      have Vs := Lib.hid (Vab.out.trans (hO.below Vab.out.size fun k hk => Nat.le_of_eq hk.symm))
                      clear V3 V4 Vab hD hO hlD
                      have V4 := V4s
                      clear V4s
                      refine store_all (cs := (u8s nw).toArray) V4.out (by simp only [u8s_size, List.size_toArray, List.length_map, HLN.out, zeros_length]) (by rw [u8s_size, HLN.out]; exact info32) (u8s_one _) rfl rfl rfl ?_
                      intro w7 hD hO hlD
                      try simp only [Act.put, List.setIfInBounds_toArray, List.set_cons_succ, List.set_cons_zero]
                      have VB7 : Hid (Blk w7 gb7 (u8s nw)) := Lib.hid (by simpa using hD)
                      have VA7 := Lib.hid (V3s.out.only hO VN7.out)
                      have VE7 := Lib.hid (Vs.out.trans (hO.below Vs.out.size fun k hk => by rw [hk]; exact VG7.out))
                      clear V3s V4 Vs hD hO hlD
                      clear wt
                      refine takeL (.bool true) rfl (by go_simp) ?_
                      try simp only [Act.put, List.setIfInBounds_toArray, List.set_cons_succ, List.set_cons_zero]
                      refine wpList_nil ?_
                      have HK7 := Lib.hid (HKc.out.below VE7.out)
                      have HB7 := Lib.hid (stay HBc.out VE7.out)
                      clear HKc HBc VE7 VN7 VG7 HK6 HPG
                      go_upto_region 37 with fail
                      refine startH (fun wq => Below w7.heap.size w7 wq) (by kernel_rfl) ?_
                      refine takeH 0 (some 180) (.bool true) rfl rfl (by kernel_rfl) (by kernel_rfl) (by kernel_rfl) (fun _ _ _ h => h) rfl (fun wq hS => by go_simp) (Below.refl _ _).drew ?_
                      try simp only [Act.put, List.setIfInBounds_toArray, List.set_cons_succ, List.set_cons_zero]
                      refine takeH 1 (some 181) (.int .i64 j) rfl rfl (by kernel_rfl) (by kernel_rfl) (by kernel_rfl) (fun _ _ _ h => h) rfl (fun wq hS => by go_simp) (Below.refl _ _).drew ?_
                      try simp only [Act.put, List.setIfInBounds_toArray, List.set_cons_succ, List.set_cons_zero]
                      refine takeH 2 (some 182) (.pointer (some ⟨gh, j, none⟩)) rfl rfl (by kernel_rfl) (by kernel_rfl) (by kernel_rfl) (fun _ _ _ h => h) rfl (fun wq hS => by go_simp) (Below.refl _ _).drew ?_
                      try simp only [Act.put, List.setIfInBounds_toArray, List.set_cons_succ, List.set_cons_zero]
                      refine takeH 3 (some 183) (.bool true) rfl rfl (by kernel_rfl) (by kernel_rfl) (by kernel_rfl) (fun _ _ _ h => h) rfl (fun wq hS => by have hq := (HK7.out.k.h.below hS HK7.out.k.h.lt).cell (i := j) (v := .bool true) (by rw [List.getElem?_map, HHJ.out]; rfl); go_simp) (Below.refl _ _).drew ?_
                      try simp only [Act.put, List.setIfInBounds_toArray, List.set_cons_succ, List.set_cons_zero]
                      refine takeH 4 (some 184) (.bool false) rfl rfl (by kernel_rfl) (by kernel_rfl) (by kernel_rfl) (fun _ _ _ h => h) rfl (fun wq hS => by go_simp) (Below.refl _ _).drew ?_
                      try simp only [Act.put, List.setIfInBounds_toArray, List.set_cons_succ, List.set_cons_zero]
                      refine takeH 5 (some 185) (.bool false) rfl rfl (by kernel_rfl) (by kernel_rfl) (by kernel_rfl) (fun _ _ _ h => h) rfl (fun wq hS => by go_simp) (Below.refl _ _).drew ?_
                      try simp only [Act.put, List.setIfInBounds_toArray, List.set_cons_succ, List.set_cons_zero]
                      refine takeH 6 (some 186) (.bool true) rfl rfl (by kernel_rfl) (by kernel_rfl) (by kernel_rfl) (fun _ _ _ h => h) rfl (fun wq hS => by go_simp) (Below.refl _ _).drew ?_
                      try simp only [Act.put, List.setIfInBounds_toArray, List.set_cons_succ, List.set_cons_zero]
                      refine takeH 7 (some 187) (.bool true) rfl rfl (by kernel_rfl) (by kernel_rfl) (by kernel_rfl) (fun _ _ _ h => h) rfl (fun wq hS => by go_simp) (Below.refl _ _).drew ?_
                      try simp only [Act.put, List.setIfInBounds_toArray, List.set_cons_succ, List.set_cons_zero]
                      refine takeH 8 (some 188) (.agg (u8s bw).toArray) rfl rfl (by kernel_rfl) (by kernel_rfl) (by kernel_rfl) (fun _ _ _ h => h) rfl (fun wq hS => by exact exec_load_at wq _ _ 32 _ rfl (w7c.heap.size) (0) rfl ((u8s bw).toArray) _ Tryd.underlying32 rfl (by rw [u8s_size, HLB.out]; exact info32) (Blk.all (VA7.out.below hS VA7.out.lt) rfl)) (Below.refl _ _).drew ?_
                      try simp only [Act.put, List.setIfInBounds_toArray, List.set_cons_succ, List.set_cons_zero]
                      refine takeH 9 (some 189) (.int .i64 j) rfl rfl (by kernel_rfl) (by kernel_rfl) (by kernel_rfl) (fun _ _ _ h => h) rfl (fun wq hS => by go_simp) (Below.refl _ _).drew ?_
                      try simp only [Act.put, List.setIfInBounds_toArray, List.set_cons_succ, List.set_cons_zero]
                      refine takeH 10 (some 190) (.pointer (some ⟨gb, j * 32, none⟩)) rfl rfl (by kernel_rfl) (by kernel_rfl) (by kernel_rfl) (fun _ _ _ h => h) rfl (fun wq hS => by go_simp) (Below.refl _ _).drew ?_
                      try simp only [Act.put, List.setIfInBounds_toArray, List.set_cons_succ, List.set_cons_zero]
                      refine takeH 11 (some 191) (.agg (u8s bw).toArray) rfl rfl (by kernel_rfl) (by kernel_rfl) (by kernel_rfl) (fun _ _ _ h => h) rfl (fun wq hS => by exact exec_load_at wq _ _ 32 _ rfl (gb) (j * 32) rfl ((u8s bw).toArray) _ Tryd.underlying32 rfl (by rw [u8s_size, HLB.out]; exact info32) (page_at (HK7.out.k.b.below hS HK7.out.k.b.lt) HBW.out HLB.out)) (Below.refl _ _).drew ?_
                      try simp only [Act.put, List.setIfInBounds_toArray, List.set_cons_succ, List.set_cons_zero]
                      refine takeH 12 (some 192) (.bool false) rfl rfl (by kernel_rfl) (by kernel_rfl) (by kernel_rfl) (fun _ _ _ h => h) rfl (fun wq hS => by exact exec_pageN (by rw [decide_eq_true rfl]; rfl) HLB.out HLB.out _ _ _ rfl rfl rfl) (Below.refl _ _).drew ?_
                      try simp only [Act.put, List.setIfInBounds_toArray, List.set_cons_succ, List.set_cons_zero]
                      refine takeH 13 (some 193) (.bool false) rfl rfl (by kernel_rfl) (by kernel_rfl) (by kernel_rfl) (fun _ _ _ h => h) rfl (fun wq hS => by go_simp) (Below.refl _ _).drew ?_
                      try simp only [Act.put, List.setIfInBounds_toArray, List.set_cons_succ, List.set_cons_zero]
                      refine takeH 14 (some 194) (.agg (u8s nw).toArray) rfl rfl (by kernel_rfl) (by kernel_rfl) (by kernel_rfl) (fun _ _ _ h => h) rfl (fun wq hS => by exact exec_load_at wq _ _ 32 _ rfl (gb7) (0) rfl ((u8s nw).toArray) _ Tryd.underlying32 rfl (by rw [u8s_size, HLN.out]; exact info32) (Blk.all (VB7.out.below hS VB7.out.lt) rfl)) (Below.refl _ _).drew ?_
                      try simp only [Act.put, List.setIfInBounds_toArray, List.set_cons_succ, List.set_cons_zero]
                      refine takeH 15 (some 195) (.int .i64 j) rfl rfl (by kernel_rfl) (by kernel_rfl) (by kernel_rfl) (fun _ _ _ h => h) rfl (fun wq hS => by go_simp) (Below.refl _ _).drew ?_
                      try simp only [Act.put, List.setIfInBounds_toArray, List.set_cons_succ, List.set_cons_zero]
                      refine takeH 16 (some 196) (.pointer (some ⟨gn, j * 32, none⟩)) rfl rfl (by kernel_rfl) (by kernel_rfl) (by kernel_rfl) (fun _ _ _ h => h) rfl (fun wq hS => by go_simp) (Below.refl _ _).drew ?_
                      try simp only [Act.put, List.setIfInBounds_toArray, List.set_cons_succ, List.set_cons_zero]
                      refine takeH 17 (some 197) (.agg (u8s nw).toArray) rfl rfl (by kernel_rfl) (by kernel_rfl) (by kernel_rfl) (fun _ _ _ h => h) rfl (fun wq hS => by exact exec_load_at wq _ _ 32 _ rfl (gn) (j * 32) rfl ((u8s nw).toArray) _ Tryd.underlying32 rfl (by rw [u8s_size, HLN.out]; exact info32) (page_at (HK7.out.k.n.below hS HK7.out.k.n.lt) HNW.out HLN.out)) (Below.refl _ _).drew ?_
                      try simp only [Act.put, List.setIfInBounds_toArray, List.set_cons_succ, List.set_cons_zero]
                      refine takeH 18 (some 198) (.bool false) rfl rfl (by kernel_rfl) (by kernel_rfl) (by kernel_rfl) (fun _ _ _ h => h) rfl (fun wq hS => by exact exec_pageN (by rw [decide_eq_true rfl]; rfl) HLN.out HLN.out _ _ _ rfl rfl rfl) (Below.refl _ _).drew ?_
                      try simp only [Act.put, List.setIfInBounds_toArray, List.set_cons_succ, List.set_cons_zero]
                      refine takeH 19 (some 199) (.bool false) rfl rfl (by kernel_rfl) (by kernel_rfl) (by kernel_rfl) (fun _ _ _ h => h) rfl (fun wq hS => by go_simp) (Below.refl _ _).drew ?_
                      try simp only [Act.put, List.setIfInBounds_toArray, List.set_cons_succ, List.set_cons_zero]
                      refine takeH 20 (some 200) (.bool false) rfl rfl (by kernel_rfl) (by kernel_rfl) (by kernel_rfl) (fun _ _ _ h => h) rfl (fun wq hS => by go_simp) (Below.refl _ _).drew ?_
                      try simp only [Act.put, List.setIfInBounds_toArray, List.set_cons_succ, List.set_cons_zero]
                      refine takeH 21 (some 201) (.bool false) rfl rfl (by kernel_rfl) (by kernel_rfl) (by kernel_rfl) (fun _ _ _ h => h) rfl (fun wq hS => by go_simp) (Below.refl _ _).drew ?_
                      try simp only [Act.put, List.setIfInBounds_toArray, List.set_cons_succ, List.set_cons_zero]
                      refine wpAnyH_done (by kernel_rfl) ?_ _
                      go_wp2_with fail
                      go_roundg (8 - (j + 1))
                      case measure => omega
                      case rel => exact ⟨j + 1, by omega, by omega, by go_num, HB7.out.trans ((Below.refl _ _).drew.mono HB7.out.size)⟩

                  · obtain rfl : j = 8 := by omega
                    have hj1 : ¬ ((8 : Nat) : Int) < 8 := by decide
                    have HK6 := Lib.hid (HK5.out.below HBJ.out)
                    as_aux_lemma =>
                      have HDI := Lib.hid (fz_dirty HK6.out.k.fz HO5.out)
                      go_wp2_with fail
                      refine HDI.out.mono ?_
                      rintro e w8 ⟨dv, rfl, hown, hb⟩
                      have HOW := Lib.hid hown.ints
                      have HK8 := Lib.hid (HK6.out.below hb)
                      obtain ⟨ea, ec, rfl, hcells⟩ := hown.ints
                      have HCE := Lib.hid hcells
                      obtain ⟨m, hm⟩ : ∃ m, s5.dirties.length = m := ⟨_, rfl⟩
                      have HM := Lib.hid hm
                      have hm64 : m ≤ 64 := by have := dirties_len HO5.out; omega
                      rw [hm]
                      clear hown hb hcells hm HDI
                      go_wp2_with fail
                      go_loopg [22, 21] 8 (fun q i at_ wj => ∃ j : Nat, 8 - j ≤ q ∧ j ≤ 8 ∧ i = .int .i64 j ∧ at_ = .int .i64 (s5.upto j) ∧ s5.upto j ≤ j ∧ Below w8.heap.size w8 wj)
                      case atStart => exact ⟨0, by omega, by omega, rfl, rfl, Nat.le_refl _, Below.refl _ _⟩
                      case round =>
                        as_aux_lemma =>
                          obtain ⟨j, hq2, hj2, rfl, rfl, hup, hbj⟩ := hrel
                          have HBQ := Lib.hid hbj
                          have HUP := Lib.hid (upto_next s5 j)
                          by_cases hj8 : j < 8
                          · have hj1 : (j : Int) < 8 := by omega
                            have HK9 := Lib.hid (HK8.out.below hbj)
                            obtain ⟨hd, bw, nw, h1, h2, h3, h4⟩ := HI5.out.dirty HO5.out hj8
                            have HHJ := Lib.hid h1
                            have HBW := Lib.hid h2
                            have HNW := Lib.hid h3
                            have HLB := Lib.hid (HI5.out.pb j bw h2).length
                            have HLN := Lib.hid (HI5.out.pn j nw h3).length
                            have HDE := Lib.hid h4
                            clear h1 h2 h3 h4 hbj
                            obtain ⟨t, ht⟩ : ∃ t, s5.upto j = t := ⟨_, rfl⟩
                            have HT := Lib.hid ht
                            rw [ht] at HUP hup ⊢
                            clear ht
                            cases hd with
                            | false =>
                              have HNX : Hid (s5.upto (j + 1) = t) := Lib.hid (by rw [HUP.out, HDE.out]; simp)
                              go_upto_region 44 with fail
                              refine startH (fun wq => Below wr.heap.size wr wq) (by kernel_rfl) ?_
                              refine takeH 0 (some 208) (.int .i64 j) rfl rfl (by kernel_rfl) (by kernel_rfl) (by kernel_rfl) (fun _ _ _ h => h) rfl (fun wq hS => by go_simp) (Below.refl _ _).drew ?_
                              try simp only [Act.put, List.setIfInBounds_toArray, List.set_cons_succ, List.set_cons_zero]
                              refine takeH 1 (some 209) (.pointer (some ⟨gh, j, none⟩)) rfl rfl (by kernel_rfl) (by kernel_rfl) (by kernel_rfl) (fun _ _ _ h => h) rfl (fun wq hS => by go_simp) (Below.refl _ _).drew ?_
                              try simp only [Act.put, List.setIfInBounds_toArray, List.set_cons_succ, List.set_cons_zero]
                              refine takeH 2 (some 210) (.bool false) rfl rfl (by kernel_rfl) (by kernel_rfl) (by kernel_rfl) (fun _ _ _ h => h) rfl (fun wq hS => by have hq := (HK9.out.k.h.below hS HK9.out.k.h.lt).cell (i := j) (v := .bool false) (by rw [List.getElem?_map, HHJ.out]; rfl); go_simp) (Below.refl _ _).drew ?_
                              try simp only [Act.put, List.setIfInBounds_toArray, List.set_cons_succ, List.set_cons_zero]
                              refine takeH 3 (some 211) (.bool false) rfl rfl (by kernel_rfl) (by kernel_rfl) (by kernel_rfl) (fun _ _ _ h => h) rfl (fun wq hS => by go_simp) (Below.refl _ _).drew ?_
                              try simp only [Act.put, List.setIfInBounds_toArray, List.set_cons_succ, List.set_cons_zero]
                              refine passH 4 (some 212) rfl rfl (by kernel_rfl) (by kernel_rfl) (by kernel_rfl) (fun _ _ _ h => h) rfl (Below.refl _ _).drew ?_
                              try simp only [Act.put, List.setIfInBounds_toArray, List.set_cons_succ, List.set_cons_zero]
                              refine passH 5 (some 213) rfl rfl (by kernel_rfl) (by kernel_rfl) (by kernel_rfl) (fun _ _ _ h => h) rfl (Below.refl _ _).drew ?_
                              try simp only [Act.put, List.setIfInBounds_toArray, List.set_cons_succ, List.set_cons_zero]
                              refine passH 6 (some 214) rfl rfl (by kernel_rfl) (by kernel_rfl) (by kernel_rfl) (fun _ _ _ h => h) rfl (Below.refl _ _).drew ?_
                              try simp only [Act.put, List.setIfInBounds_toArray, List.set_cons_succ, List.set_cons_zero]
                              refine passH 7 (some 215) rfl rfl (by kernel_rfl) (by kernel_rfl) (by kernel_rfl) (fun _ _ _ h => h) rfl (Below.refl _ _).drew ?_
                              try simp only [Act.put, List.setIfInBounds_toArray, List.set_cons_succ, List.set_cons_zero]
                              refine passH 8 (some 216) rfl rfl (by kernel_rfl) (by kernel_rfl) (by kernel_rfl) (fun _ _ _ h => h) rfl (Below.refl _ _).drew ?_
                              try simp only [Act.put, List.setIfInBounds_toArray, List.set_cons_succ, List.set_cons_zero]
                              refine passH 9 (some 217) rfl rfl (by kernel_rfl) (by kernel_rfl) (by kernel_rfl) (fun _ _ _ h => h) rfl (Below.refl _ _).drew ?_
                              try simp only [Act.put, List.setIfInBounds_toArray, List.set_cons_succ, List.set_cons_zero]
                              refine passH 10 (some 218) rfl rfl (by kernel_rfl) (by kernel_rfl) (by kernel_rfl) (fun _ _ _ h => h) rfl (Below.refl _ _).drew ?_
                              try simp only [Act.put, List.setIfInBounds_toArray, List.set_cons_succ, List.set_cons_zero]
                              refine takeH 11 (some 219) (.bool false) rfl rfl (by kernel_rfl) (by kernel_rfl) (by kernel_rfl) (fun _ _ _ h => h) rfl (fun wq hS => by go_simp) (Below.refl _ _).drew ?_
                              try simp only [Act.put, List.setIfInBounds_toArray, List.set_cons_succ, List.set_cons_zero]
                              refine wpAnyH_done (by kernel_rfl) ?_ _
                              go_wp2_with fail
                              go_roundg (8 - (j + 1))
                              case measure => omega
                              case rel => exact ⟨j + 1, by omega, by omega, by go_num, by rw [HNX.out], by rw [HNX.out]; omega, HBQ.out.trans ((Below.refl _ _).drew.mono HBQ.out.size)⟩
                            | true =>
                              cases hv : decide (bw = nw) with
                              | true =>
                                have HV : Hid (decide (bw = nw) = !false) := Lib.hid hv
                                have HNX : Hid (s5.upto (j + 1) = t) := Lib.hid (by rw [HUP.out, HDE.out]; have := of_decide_eq_true hv; simp [this])
                                clear hv
                                go_upto_region 44 with fail
                                refine startH (fun wq => Below wr.heap.size wr wq) (by kernel_rfl) ?_
                                refine takeH 0 (some 208) (.int .i64 j) rfl rfl (by kernel_rfl) (by kernel_rfl) (by kernel_rfl) (fun _ _ _ h => h) rfl (fun wq hS => by go_simp) (Below.refl _ _).drew ?_
                                try simp only [Act.put, List.setIfInBounds_toArray, List.set_cons_succ, List.set_cons_zero]
                                refine takeH 1 (some 209) (.pointer (some ⟨gh, j, none⟩)) rfl rfl (by kernel_rfl) (by kernel_rfl) (by kernel_rfl) (fun _ _ _ h => h) rfl (fun wq hS => by go_simp) (Below.refl _ _).drew ?_
                                try simp only [Act.put, List.setIfInBounds_toArray, List.set_cons_succ, List.set_cons_zero]
                                refine takeH 2 (some 210) (.bool true) rfl rfl (by kernel_rfl) (by kernel_rfl) (by kernel_rfl) (fun _ _ _ h => h) rfl (fun wq hS => by have hq := (HK9.out.k.h.below hS HK9.out.k.h.lt).cell (i := j) (v := .bool true) (by rw [List.getElem?_map, HHJ.out]; rfl); go_simp) (Below.refl _ _).drew ?_
                                try simp only [Act.put, List.setIfInBounds_toArray, List.set_cons_succ, List.set_cons_zero]
                                refine takeH 3 (some 211) (.bool true) rfl rfl (by kernel_rfl) (by kernel_rfl) (by kernel_rfl) (fun _ _ _ h => h) rfl (fun wq hS => by go_simp) (Below.refl _ _).drew ?_
                                try simp only [Act.put, List.setIfInBounds_toArray, List.set_cons_succ, List.set_cons_zero]
                                refine takeH 4 (some 212) (.int .i64 j) rfl rfl (by kernel_rfl) (by kernel_rfl) (by kernel_rfl) (fun _ _ _ h => h) rfl (fun wq hS => by go_simp) (Below.refl _ _).drew ?_
                                try simp only [Act.put, List.setIfInBounds_toArray, List.set_cons_succ, List.set_cons_zero]
                                refine takeH 5 (some 213) (.pointer (some ⟨gb, j * 32, none⟩)) rfl rfl (by kernel_rfl) (by kernel_rfl) (by kernel_rfl) (fun _ _ _ h => h) rfl (fun wq hS => by go_simp) (Below.refl _ _).drew ?_
                                try simp only [Act.put, List.setIfInBounds_toArray, List.set_cons_succ, List.set_cons_zero]
                                refine takeH 6 (some 214) (.agg (u8s bw).toArray) rfl rfl (by kernel_rfl) (by kernel_rfl) (by kernel_rfl) (fun _ _ _ h => h) rfl (fun wq hS => by exact exec_load_at wq _ _ 32 _ rfl (gb) (j * 32) rfl ((u8s bw).toArray) _ Tryd.underlying32 rfl (by rw [u8s_size, HLB.out]; exact info32) (page_at (HK9.out.k.b.below hS HK9.out.k.b.lt) HBW.out HLB.out)) (Below.refl _ _).drew ?_
                                try simp only [Act.put, List.setIfInBounds_toArray, List.set_cons_succ, List.set_cons_zero]
                                refine takeH 7 (some 215) (.int .i64 j) rfl rfl (by kernel_rfl) (by kernel_rfl) (by kernel_rfl) (fun _ _ _ h => h) rfl (fun wq hS => by go_simp) (Below.refl _ _).drew ?_
                                try simp only [Act.put, List.setIfInBounds_toArray, List.set_cons_succ, List.set_cons_zero]
                                refine takeH 8 (some 216) (.pointer (some ⟨gn, j * 32, none⟩)) rfl rfl (by kernel_rfl) (by kernel_rfl) (by kernel_rfl) (fun _ _ _ h => h) rfl (fun wq hS => by go_simp) (Below.refl _ _).drew ?_
                                try simp only [Act.put, List.setIfInBounds_toArray, List.set_cons_succ, List.set_cons_zero]
                                refine takeH 9 (some 217) (.agg (u8s nw).toArray) rfl rfl (by kernel_rfl) (by kernel_rfl) (by kernel_rfl) (fun _ _ _ h => h) rfl (fun wq hS => by exact exec_load_at wq _ _ 32 _ rfl (gn) (j * 32) rfl ((u8s nw).toArray) _ Tryd.underlying32 rfl (by rw [u8s_size, HLN.out]; exact info32) (page_at (HK9.out.k.n.below hS HK9.out.k.n.lt) HNW.out HLN.out)) (Below.refl _ _).drew ?_
                                try simp only [Act.put, List.setIfInBounds_toArray, List.set_cons_succ, List.set_cons_zero]
                                refine takeH 10 (some 218) (.bool false) rfl rfl (by kernel_rfl) (by kernel_rfl) (by kernel_rfl) (fun _ _ _ h => h) rfl (fun wq hS => by exact exec_pageN HV.out HLB.out HLN.out _ _ _ rfl rfl rfl) (Below.refl _ _).drew ?_
                                try simp only [Act.put, List.setIfInBounds_toArray, List.set_cons_succ, List.set_cons_zero]
                                refine takeH 11 (some 219) (.bool false) rfl rfl (by kernel_rfl) (by kernel_rfl) (by kernel_rfl) (fun _ _ _ h => h) rfl (fun wq hS => by go_simp) (Below.refl _ _).drew ?_
                                try simp only [Act.put, List.setIfInBounds_toArray, List.set_cons_succ, List.set_cons_zero]
                                refine wpAnyH_done (by kernel_rfl) ?_ _
                                go_wp2_with fail
                                go_roundg (8 - (j + 1))
                                case measure => omega
                                case rel => exact ⟨j + 1, by omega, by omega, by go_num, by rw [HNX.out], by rw [HNX.out]; omega, HBQ.out.trans ((Below.refl _ _).drew.mono HBQ.out.size)⟩
                              | false =>
                                have HV : Hid (decide (bw = nw) = !true) := Lib.hid hv
                                have HDJ : Hid (s5.isDirty j = true) := Lib.hid (by rw [HDE.out]; have := of_decide_eq_false hv; simp [this])
                                have HNX : Hid (s5.upto (j + 1) = t + 1) := Lib.hid (by rw [HUP.out, HDJ.out]; simp)
                                clear hv
                                go_upto_region 44 with fail
                                refine startH (fun wq => Below wr.heap.size wr wq) (by kernel_rfl) ?_
                                refine takeH 0 (some 208) (.int .i64 j) rfl rfl (by kernel_rfl) (by kernel_rfl) (by kernel_rfl) (fun _ _ _ h => h) rfl (fun wq hS => by go_simp) (Below.refl _ _).drew ?_
                                try simp only [Act.put, List.setIfInBounds_toArray, List.set_cons_succ, List.set_cons_zero]
                                refine takeH 1 (some 209) (.pointer (some ⟨gh, j, none⟩)) rfl rfl (by kernel_rfl) (by kernel_rfl) (by kernel_rfl) (fun _ _ _ h => h) rfl (fun wq hS => by go_simp) (Below.refl _ _).drew ?_
                                try simp only [Act.put, List.setIfInBounds_toArray, List.set_cons_succ, List.set_cons_zero]
                                refine takeH 2 (some 210) (.bool true) rfl rfl (by kernel_rfl) (by kernel_rfl) (by kernel_rfl) (fun _ _ _ h => h) rfl (fun wq hS => by have hq := (HK9.out.k.h.below hS HK9.out.k.h.lt).cell (i := j) (v := .bool true) (by rw [List.getElem?_map, HHJ.out]; rfl); go_simp) (Below.refl _ _).drew ?_
                                try simp only [Act.put, List.setIfInBounds_toArray, List.set_cons_succ, List.set_cons_zero]
                                refine takeH 3 (some 211) (.bool true) rfl rfl (by kernel_rfl) (by kernel_rfl) (by kernel_rfl) (fun _ _ _ h => h) rfl (fun wq hS => by go_simp) (Below.refl _ _).drew ?_
                                try simp only [Act.put, List.setIfInBounds_toArray, List.set_cons_succ, List.set_cons_zero]
                                refine takeH 4 (some 212) (.int .i64 j) rfl rfl (by kernel_rfl) (by kernel_rfl) (by kernel_rfl) (fun _ _ _ h => h) rfl (fun wq hS => by go_simp) (Below.refl _ _).drew ?_
                                try simp only [Act.put, List.setIfInBounds_toArray, List.set_cons_succ, List.set_cons_zero]
                                refine takeH 5 (some 213) (.pointer (some ⟨gb, j * 32, none⟩)) rfl rfl (by kernel_rfl) (by kernel_rfl) (by kernel_rfl) (fun _ _ _ h => h) rfl (fun wq hS => by go_simp) (Below.refl _ _).drew ?_
                                try simp only [Act.put, List.setIfInBounds_toArray, List.set_cons_succ, List.set_cons_zero]
                                refine takeH 6 (some 214) (.agg (u8s bw).toArray) rfl rfl (by kernel_rfl) (by kernel_rfl) (by kernel_rfl) (fun _ _ _ h => h) rfl (fun wq hS => by exact exec_load_at wq _ _ 32 _ rfl (gb) (j * 32) rfl ((u8s bw).toArray) _ Tryd.underlying32 rfl (by rw [u8s_size, HLB.out]; exact info32) (page_at (HK9.out.k.b.below hS HK9.out.k.b.lt) HBW.out HLB.out)) (Below.refl _ _).drew ?_
                                try simp only [Act.put, List.setIfInBounds_toArray, List.set_cons_succ, List.set_cons_zero]
                                refine takeH 7 (some 215) (.int .i64 j) rfl rfl (by kernel_rfl) (by kernel_rfl) (by kernel_rfl) (fun _ _ _ h => h) rfl (fun wq hS => by go_simp) (Below.refl _ _).drew ?_
                                try simp only [Act.put, List.setIfInBounds_toArray, List.set_cons_succ, List.set_cons_zero]
                                refine takeH 8 (some 216) (.pointer (some ⟨gn, j * 32, none⟩)) rfl rfl (by kernel_rfl) (by kernel_rfl) (by kernel_rfl) (fun _ _ _ h => h) rfl (fun wq hS => by go_simp) (Below.refl _ _).drew ?_
                                try simp only [Act.put, List.setIfInBounds_toArray, List.set_cons_succ, List.set_cons_zero]
                                refine takeH 9 (some 217) (.agg (u8s nw).toArray) rfl rfl (by kernel_rfl) (by kernel_rfl) (by kernel_rfl) (fun _ _ _ h => h) rfl (fun wq hS => by exact exec_load_at wq _ _ 32 _ rfl (gn) (j * 32) rfl ((u8s nw).toArray) _ Tryd.underlying32 rfl (by rw [u8s_size, HLN.out]; exact info32) (page_at (HK9.out.k.n.below hS HK9.out.k.n.lt) HNW.out HLN.out)) (Below.refl _ _).drew ?_
                                try simp only [Act.put, List.setIfInBounds_toArray, List.set_cons_succ, List.set_cons_zero]
                                refine takeH 10 (some 218) (.bool true) rfl rfl (by kernel_rfl) (by kernel_rfl) (by kernel_rfl) (fun _ _ _ h => h) rfl (fun wq hS => by exact exec_pageN HV.out HLB.out HLN.out _ _ _ rfl rfl rfl) (Below.refl _ _).drew ?_
                                try simp only [Act.put, List.setIfInBounds_toArray, List.set_cons_succ, List.set_cons_zero]
                                refine takeH 11 (some 219) (.bool true) rfl rfl (by kernel_rfl) (by kernel_rfl) (by kernel_rfl) (fun _ _ _ h => h) rfl (fun wq hS => by go_simp) (Below.refl _ _).drew ?_
                                try simp only [Act.put, List.setIfInBounds_toArray, List.set_cons_succ, List.set_cons_zero]
                                refine wpAnyH_done (by kernel_rfl) ?_ _
                                generalize hw9 : wr.drew = w9 at *
                                have HB9 : Hid (Below w8.heap.size w8 w9) := Lib.hid (by rw [← hw9]; exact HBQ.out.trans ((Below.refl _ _).drew.mono HBQ.out.size))
                                clear hw9
                                have hat := dirties_at (by omega) HDJ.out
                                rw [HT.out] at hat
                                have htm : t < m := by have := (List.getElem?_eq_some_iff.1 hat).1; have := HM.out; omega
                                obtain ⟨gd, god, rfl, hcd⟩ := HCE.out t _ hat
                                have cd := (HB9.out.cell (block_lt_of_cell hcd)).trans hcd
                                have ht1 : (t : Int) < (m : Int) := by omega
                                have e45 : decide ((m : Int) ≤ (t : Int)) = false := decide_eq_false (by omega)
                                have e46 : ((j : Int) != (j : Int)) = false := by simp
                                clear hcd hat
                                go_wp2_with fail
                                go_roundg (8 - (j + 1))
                                case measure => omega
                                case rel => exact ⟨j + 1, by omega, by omega, by go_num, by rw [HNX.out]; go_num, by rw [HNX.out]; omega, HB9.out⟩
                          · obtain rfl : j = 8 := by omega
                            have hj1 : ¬ ((8 : Nat) : Int) < 8 := by decide
                            have HAL : Hid (s5.upto 8 = m) := Lib.hid (by rw [← HM.out]; exact (HI5.out.all HO5.out).symm)
                            rw [HAL.out]
                            have e48 : ((m : Int) != (m : Int)) = false := by simp
                            have HB9 := Lib.hid (HK8.out.below hbj).back
                            clear hbj
                            go_wp2_with fail
                            go_roundg (n - (k + 1))
                            case measure => omega
                            case rel => exact ⟨k + 1, s5, z5, by omega, by omega, by go_num, HB9.out, HO5.out, HI5.out⟩

        · obtain rfl : k = n := by omega
          have hk1 : ¬ (k : Int) < (k : Int) := by omega
          have dk1 : decide ((k : Int) < (k : Int)) = false := decide_eq_false hk1
          as_aux_lemma =>
            go_wp2_with fail
            refine (wakes_any _ (HKX.out.fz.ev HEV.out)).mono ?_
            rintro e w2 ⟨rfl, hb⟩
            have HB2 := Lib.hid (stay HKX.out.fz.bel hb)
            clear hb
            go_wp2_with fail
            go_ret
            exact ⟨rfl, HB2.out⟩

end Go.Proofs.YtaemjglblfencaaDoor
