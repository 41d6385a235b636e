/- Keys forgotten; the dirty pages. -/
import Derived.Test.YtaemjglblfencaaGreatDoorFg
import Derived.Test.YtaemjglblfencaaGreatDoorSh
namespace Go.Proofs.YtaemjglblfencaaGreatDoor
set_option linter.unusedSimpArgs false
set_option linter.unusedVariables false
open Go.RowKit Kl

/-- A key forgotten. -/
theorem FAt.drop {B : Nat} {w w' : World} {L : Lay} {ps : List (Option Nat)} {s : Fs} (h : FAt w L ps s) (ho : s.Ok B) {k : Nat} (hk : k < s.c.l.length) (hm : s.c.may k = true) (hc : Kl.At encC w' L.cb L.cr L.cap [] (s.c.drop k)) (hrow : Blk w' L.gr ((ps.set k none).map pv)) (hon : Only (fun j => j = L.cb ∨ j = L.cr ∨ j = L.gr) w w') : FAt w' L (ps.set k none) { s with c := s.c.drop k } := by
  obtain ⟨n1, n2, n3, n4, n5⟩ := h.n1
  rw [drop_yes hm] at hc ⊢
  have hlen := h.len
  have old : ∀ (j g : Nat), (ps.set k none)[j]? = some (some g) → k ≠ j ∧ ps[j]? = some (some g) := fun j g hj => by
    rw [List.getElem?_set] at hj
    by_cases e : k = j
    · rw [if_pos e] at hj
      split at hj <;> simp at hj
    · rw [if_neg e] at hj
      exact ⟨e, hj⟩
  refine ⟨?_, hc, hrow, by simp [hlen], fun j f x hf hx h0 => ?_, fun j f hf h0 => ?_, fun a b g ha hb => h.one a b g (old a g ha).2 (old b g hb).2, fun g hg => ?_, h.n1⟩
  · have := h.blk.only hon (by omega)
    simpa using this
  · simp only [List.getElem?_set] at hf ⊢
    by_cases e : k = j
    · subst e
      simp only [if_pos hk, if_true, Option.some.injEq] at hf
      subst hf
      exact absurd h0 (by decide)
    · rw [if_neg e] at hf ⊢
      obtain ⟨g, h1, h2⟩ := h.yes j f x hf hx h0
      have := h.nb g (List.mem_of_getElem? h1)
      exact ⟨g, h1, h2.only hon (by omega)⟩
  · simp only [List.getElem?_set] at hf ⊢
    by_cases e : k = j
    · rw [if_pos e, if_pos (by omega)]
    · rw [if_neg e] at hf ⊢
      exact h.no j f hf h0
  · rcases List.mem_or_eq_of_mem_set hg with h1 | h1
    · exact h.nb g h1
    · cases h1
set_option maxRecDepth 100000 in
theorem Forget_none2 (v cv : Value) (key : Int) (w : World) (hfi : Calls Tryz.prog 42 #[cv, .int .i64 key] w fun e w' => e = .returned (.tuple #[.int .i64 0, .bool false]) ∧ Below w.heap.size w w') (hcl2 : Calls Tryz.prog 8 #[v] w fun e w' => e = .returned cv ∧ w = w') : Calls Tryz.prog 18 #[v, .int .i64 key] w fun e w' => e = .returned (.bool false) ∧ Below w.heap.size w w' := by
  have HC := Lib.hid hcl2
  have HF := Lib.hid hfi
  clear hfi hcl2
  go_enter Tryz.func18, Tryz.ntmps18
  go_wp2_with fail
  refine HC.out.mono ?_
  rintro e w' ⟨rfl, rfl⟩
  go_wp2_with fail
  refine HF.out.mono ?_
  rintro e w1 ⟨rfl, hb⟩
  have HB1 := Lib.hid hb
  clear hb
  go_wp2_with fail
  go_ret
  exact ⟨rfl, HB1.out⟩
set_option maxRecDepth 100000 in
theorem Forget_some {B : Nat} {w : World} {L : Lay} {ps : List (Option Nat)} {s : Fs} (h : FAt w L ps s) (ho : s.Ok B) (key : Int) (k : Nat) (hk : s.c.find key = some k) : Calls Tryz.prog 18 #[.pointer (some ⟨L.b, 0, none⟩), .int .i64 key] w fun e w' => e = .returned (.bool (s.c.may k)) ∧ Held w w' L ps { s with c := s.c.drop k } := by
  have HC := Lib.hid (clockF_any h)
  have HF := Lib.hid (find_any w L.cb L.cr L.cap [] s.c h.clk ho.ck key)
  rw [hk] at HF
  simp only [findR] at HF
  have HA := Lib.hid h
  have HO := Lib.hid ho
  have HK := Lib.hid hk
  have hkl := find_lt ho.ck hk
  clear h ho hk
  go_enter Tryz.func18, Tryz.ntmps18
  go_wp2_with fail
  refine HC.out.mono ?_
  rintro e w' ⟨rfl, rfl⟩
  go_wp2_with fail
  refine HF.out.mono ?_
  rintro e w1 ⟨rfl, hb⟩
  have HB1 := Lib.hid hb
  have HA1 := Lib.hid (HA.out.below hb)
  have c0 := HA1.out.blk.cell (i := 0) rfl
  have HD := Lib.hid (drop_any w1 L.cb L.cr L.cap [] s.c HA1.out.clk HO.out.ck k)
  clear hb
  cases hm : s.c.may k with
  | false =>
    rw [hm] at HD
    have HM := Lib.hid hm
    clear hm
    go_wp2_with fail
    refine HD.out.mono ?_
    rintro e w2 ⟨rfl, hc, hon⟩
    have HC2 := Lib.hid hc
    have HO2 := Lib.hid hon
    clear hc hon
    go_wp2_with fail
    go_ret
    refine ⟨by rw [HM.out]; rfl, ps, ?_, (Only.of_below HB1.out).trans (Only.foot HO2.out), fun g hg => .inl hg⟩
    have hc := HC2.out
    rw [drop_no HM.out] at hc ⊢
    exact HA1.out.clock hc HO2.out rfl fun j f hf => ⟨f, hf, rfl⟩
  | true =>
    rw [hm] at HD
    have HM := Lib.hid hm
    clear hm
    go_wp2_with fail
    refine HD.out.mono ?_
    rintro e w2 ⟨rfl, hc, hon⟩
    have HC2 := Lib.hid hc
    have HO2 := Lib.hid hon
    obtain ⟨n1, n2, n3, n4, n5⟩ := HA1.out.n1
    have hblk := HA1.out.blk.only hon (by rintro (e | e) <;> omega)
    have hrow := HA1.out.row.only hon (by rintro (e | e) <;> omega)
    have hn1 := HO.out.ck.n1
    have HLO := Lib.hid (lose_any (w := w2) (L := L) (ps := ps) s.c.l.length k key ⟨_, hblk⟩ hrow HA1.out.len hn1 n3 (fun j g hj => by
      obtain ⟨j', f', x', h1, h2, h3, h4, h5, h6⟩ := HA1.out.own HO.out (List.mem_of_getElem? hj)
      have h7 := HA1.out.nb g (List.mem_of_getElem? hj)
      have h8 := HA1.out.one j j' g hj h1
      refine ⟨h7.2.2.2, f'.key, (h6.only HO2.out (by rintro (e | e) <;> omega)).cell (i := 0) rfl, fun e => ?_⟩
      have h9 := find_is HO.out.ck h2 h5
      rw [e, HK.out] at h9
      cases h9
      exact h8))
    have hk1 : (k : Int) < (s.c.l.length : Int) := by omega
    have HKL := Lib.hid hkl
    clear hc hon hblk hrow c0 hkl
    generalize s.c.l.length = n at *
    go_wp2_with fail
    refine HLO.out.mono ?_
    rintro e w3 ⟨rfl, hlost⟩
    obtain ⟨ps', hps, hrow, hon⟩ := hlost
    have HON := Lib.hid hon
    have b1 := ((HA1.out.blk.only HO2.out (by rintro (e | e) <;> omega)).only hon n3).cell (i := 1) rfl
    have frz := hrow.frozen
    have hpl : ps'.length = ps.length := by rcases hps with e | e <;> rw [e] <;> simp
    have hkn := HA1.out.len
    have HKL2 := Lib.hid (find_lt HO.out.ck HK.out)
    have hk2 := HKL2.out
    obtain ⟨q, hq⟩ : ∃ q, ps'[k]? = some q := ⟨_, List.getElem?_eq_getElem (by omega)⟩
    have xk := pv_cell hrow hq
    have HR := Lib.hid hrow
    have HPS := Lib.hid hps
    clear hon hrow hps hq hk2
    have hk3 : (k : Int) < (s.c.l.length : Int) := by have := HKL2.out; omega
    go_wp2_with fail
    go_ret
    have hset : ps'.set k none = ps.set k none := by rcases HPS.out with e | e <;> rw [e] <;> simp
    have hfin : Only (fun j => j = L.cb ∨ j = L.cr ∨ j = L.gr) w (w3.setCell ⟨L.gr, k, none⟩ (.pointer none)) :=
      (((Only.of_below HB1.out).trans (HO2.out.more fun j _ hj => hj.elim (fun e => .inl e) fun e => .inr (.inl e))).trans (HON.out.more fun j _ hj => .inr (.inr hj))).setCell (.inl (.inr (.inr rfl))) _
    refine ⟨by rw [HM.out]; rfl, ps.set k none, FAt.drop HA.out HO.out HKL2.out HM.out ?_ ?_ hfin, hfin.more fun j _ hj => ?_, fun g hg => ?_⟩
    · exact (HC2.out.only HON.out n4 n5).setOther n4 n5
    · rw [← hset, ← set_pv]
      exact HR.out.set k _
    · rcases hj with e | e | e
      · exact .inr (.inl e)
      · exact .inr (.inr (.inl e))
      · exact .inr (.inr (.inr (.inl e)))
    · rcases List.mem_or_eq_of_mem_set hg with h1 | h1
      · exact .inl h1
      · cases h1
theorem Forget_any {B : Nat} {w : World} {L : Lay} {ps : List (Option Nat)} {s : Fs} (h : FAt w L ps s) (ho : s.Ok B) (key : Int) : Calls Tryz.prog 18 #[.pointer (some ⟨L.b, 0, none⟩), .int .i64 key] w fun e w' => e = .returned (.bool (s.forgets key)) ∧ Held w w' L ps (s.forget key) := by
  unfold Fs.forgets Fs.forget
  cases e : s.c.find key with
  | none =>
    have hf := find_any w L.cb L.cr L.cap [] s.c h.clk ho.ck key
    rw [e] at hf
    refine (Forget_none2 (.pointer (some ⟨L.b, 0, none⟩)) (.pointer (some ⟨L.cb, 0, none⟩)) key w hf (clockF_any h)).mono ?_
    rintro e w' ⟨rfl, hb⟩
    exact ⟨rfl, Held.below h hb⟩
  | some k => exact Forget_some h ho key k e
theorem Forget_nil (key : Int) (w : World) : Calls Tryz.prog 18 #[.pointer none, .int .i64 key] w fun e w' => e = .returned (.bool false) ∧ Below w.heap.size w w' := Forget_none2 (.pointer none) (.pointer none) key w (find_nil w key) (clockF_nil w)
/-! The dirty pages. -/
set_option maxRecDepth 100000 in
theorem Dirty_any {B : Nat} {w : World} {L : Lay} {ps : List (Option Nat)} {s : Fs} (h : FAt w L ps s) (ho : s.Ok B) : Calls Tryz.prog 25 #[.pointer (some ⟨L.b, 0, none⟩)] w fun e w' => ∃ sv, e = .returned sv ∧ Kl.Own w' w.heap.size sv s.dirties ∧ Below w.heap.size w w' := by
  have b1 := h.blk.cell (i := 1) rfl
  have HA := Lib.hid h
  have HO := Lib.hid ho
  have hn1 := ho.ck.n1
  have HN : Hid (∃ n, n = s.c.l.length) := Lib.hid ⟨_, rfl⟩
  obtain ⟨n, hn⟩ := HN.out
  have HNE := Lib.hid hn
  rw [← hn] at b1 hn1
  clear h ho HN hn
  go_enter Tryz.func25, Tryz.ntmps25
  go_wp2_with fail
  clear b1
  go_loopg [13, 3] n (fun q i lv wr => ∃ k : Nat, n - k ≤ q ∧ k ≤ n ∧ i = .int .i64 k ∧ Kl.Own wr w.heap.size lv (s.keys k) ∧ Below w.heap.size w wr)
  case atStart => exact ⟨0, by omega, by omega, rfl, Kl.Own.nil w _, Below.refl _ _⟩
  case round =>
    obtain ⟨k, hq, hkn, rfl, hown, hb⟩ := hrel
    have HW := Lib.hid hown
    have HB := Lib.hid hb
    clear hown
    by_cases hlt : k < n
    · have hk1 : (k : Int) < (n : Int) := by omega
      have hkl : k < s.c.l.length := by have := HNE.out; omega
      obtain ⟨f, hf⟩ : ∃ f, s.c.l[k]? = some f := ⟨_, List.getElem?_eq_getElem hkl⟩
      have HI := Lib.hid (in_any (HA.out.below hb) HO.out (k : Int))
      have HD := Lib.hid fun (w' : World) (hb' : Below wr.heap.size wr w') => dirty_any ((HA.out.below hb).below hb') HO.out hf
      have HAR := Lib.hid (HA.out.below hb)
      have HFK := Lib.hid hf
      clear hb hkl hf
      cases hd : s.dirtyN k with
      | false =>
        rw [hd] at HD
        have HS : Hid (s.keys (k + 1) = s.keys k) := Lib.hid (by rw [Fs.keys, hd]; simp)
        clear hd
        generalize pv (inn ps k) = p at *
        go_wp2_with fail
        refine HI.out.mono ?_
        rintro e w1 ⟨rfl, hb⟩
        have HB1 := Lib.hid hb
        clear hb
        go_wp2_with fail
        refine (HD.out _ HB1.out).mono ?_
        rintro e w2 ⟨rfl, hb⟩
        have HB2 := Lib.hid (stay HB1.out hb)
        clear hb
        go_wp2_with fail
        go_roundg (n - (k + 1))
        case measure => omega
        case rel => exact ⟨k + 1, by omega, by omega, by go_num, by rw [HS.out]; exact HW.out.below HB2.out, HB.out.trans (HB2.out.mono HB.out.size)⟩
      | true =>
        rw [hd] at HD
        have hkey := dirty_key HO.out HFK.out hd
        obtain ⟨x, hx, hxo, ⟨h0, g, hg, hbg⟩ | ⟨h0, hno⟩⟩ := HAR.out.at HO.out HFK.out
        · have HS : Hid (s.keys (k + 1) = s.keys k ++ [f.key]) := Lib.hid (by rw [Fs.keys, hd, HFK.out]; simp)
          have hkl := keys_len s k
          have HKL := Lib.hid hkl
          have HBG := Lib.hid hbg
          rw [inn_nat hg] at HI HD
          simp only [pv] at HI HD
          clear hd hx hxo h0 hg hbg hkey hkl
          go_wp2_with fail
          refine HI.out.mono ?_
          rintro e w1 ⟨rfl, hb⟩
          have HB1 := Lib.hid hb
          clear hb
          go_wp2_with fail
          refine (HD.out _ HB1.out).mono ?_
          rintro e w2 ⟨rfl, hb⟩
          have HB2 := Lib.hid (stay HB1.out hb)
          have k0 := (HBG.out.below HB2.out HBG.out.lt).cell (i := 0) rfl
          have HW2 := Lib.hid (HW.out.below HB2.out)
          have HBw2 := Lib.hid (HB.out.trans (HB2.out.mono HB.out.size))
          clear hb HAR
          go_upto_region 9 with fail
          refine wp_region_lit ?_
          refine takeL (u3) rfl (by go_simp) ?_
          try simp only [Act.put, List.setIfInBounds_toArray, List.set_cons_succ, List.set_cons_zero]
          refine takeL (.pointer (some ⟨g, 0, none⟩)) rfl (by go_simp) ?_
          try simp only [Act.put, List.setIfInBounds_toArray, List.set_cons_succ, List.set_cons_zero]
          refine takeL (.pointer (some ⟨g, 0, none⟩)) rfl (by go_simp) ?_
          try simp only [Act.put, List.setIfInBounds_toArray, List.set_cons_succ, List.set_cons_zero]
          refine takeL (.pointer (some ⟨g, 0, none⟩)) rfl (by go_simp) ?_
          try simp only [Act.put, List.setIfInBounds_toArray, List.set_cons_succ, List.set_cons_zero]
          refine takeL (.int .i64 f.key) rfl (by go_simp) ?_
          try simp only [Act.put, List.setIfInBounds_toArray, List.set_cons_succ, List.set_cons_zero]
          refine wpList_run (.slice (some ⟨w2.heap.size, 0, none⟩) 1 1) (w2.alloc (.cells #[.int .i64 f.key] 3)) rfl (by go_simp) ?_
          try simp only [Act.put, List.setIfInBounds_toArray, List.set_cons_succ, List.set_cons_zero]
          have hbl : Below w2.heap.size w2 (w2.alloc (.cells #[.int .i64 f.key] 3)) := (Below.refl _ _).alloc (Nat.le_refl _) _
          have hli : Kl.Own (w2.alloc (.cells #[.int .i64 f.key] 3)) w2.heap.size (.slice (some ⟨w2.heap.size, 0, none⟩) 1 1) [f.key] := Kl.Own.lit w2 w2.heap.size (Nat.le_refl _) [f.key] (by simp) _ rfl
          refine Kl.app_L (HW2.out.below hbl) (Nat.le_trans HBw2.out.size hbl.size) hli.ints (by have := HKL.out; simp only [List.length_cons, List.length_nil]; omega) rfl rfl rfl ?_
          intro s2 w3 ho2 hb2
          try simp only [Act.put, List.setIfInBounds_toArray, List.set_cons_succ, List.set_cons_zero]
          refine takeL (s2) rfl (by go_simp) ?_
          try simp only [Act.put, List.setIfInBounds_toArray, List.set_cons_succ, List.set_cons_zero]
          refine wpList_nil ?_
          have HO2 := Lib.hid ho2
          have HB3 := Lib.hid ((HBw2.out.trans (hbl.mono HBw2.out.size)).trans hb2)
          clear hbl hli ho2 hb2
          go_wp2_with fail
          go_roundg (n - (k + 1))
          case measure => omega
          case rel => exact ⟨k + 1, by omega, by omega, by go_num, by rw [HS.out]; exact HO2.out, HB3.out⟩
        · omega
    · obtain rfl : k = n := by omega
      have hk1 : ¬ (k : Int) < (k : Int) := by omega
      have HSO := Lib.hid (sort_own HW.out hb.size (by have := keys_len s k; omega))
      have HSK : Hid ((s.keys k).mergeSort (fun x y => decide (x ≤ y)) = s.dirties) := Lib.hid (by rw [HNE.out]; exact sort_keys HO.out)
      clear hb
      go_wp2_with fail
      refine HSO.out.mono ?_
      rintro e w1 ⟨rfl, ho1, hb1⟩
      have HO1 := Lib.hid ho1
      have HB1 := Lib.hid (HB.out.trans hb1)
      clear ho1 hb1
      go_wp2_with fail
      go_ret
      exact ⟨_, rfl, by rw [← HSK.out]; exact HO1.out, HB1.out⟩
theorem Dirty_nil (w : World) : Calls Tryz.prog 25 #[.pointer none] w fun e w' => e = .returned (.slice none 0 0) ∧ w = w' := by
  go_enter Tryz.func25, Tryz.ntmps25
  go_wp2_with fail
  go_ret
  exact ⟨rfl, rfl⟩

end Go.Proofs.YtaemjglblfencaaGreatDoor
