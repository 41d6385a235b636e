/- The statement DevFails's walk. -/
import Derived.Test.YtdmjhpebpooiaaaView
import Derived.Test.YtdmjhpebpooiaaaWakes
namespace Go.Proofs.Ytdmjhpebpooiaaa
open Go.RowKit
/-- Behind sn writes and flushes, where the failure was K. -/
def PF (K sn : Nat) (d : D) : Prop := (sn ≤ K ∧ d.F = (K : Int) - sn ∧ d.T = sn) ∨ (K < sn ∧ d.F = -1 ∧ d.T + 1 = sn)
theorem PF.ok {K sn : Nat} {d : D} (h : PF K sn d) (hne : sn ≠ K) : d.F ≠ 0 ∧ ∀ d2 : D, d2.F = d.nextF → d2.T = d.T + 1 → PF K (sn + 1) d2 := by
  unfold PF D.nextF at *
  rcases h with ⟨h1, h2, h3⟩ | ⟨h1, h2, h3⟩
  · refine ⟨by omega, fun d2 e1 e2 => .inl ⟨by omega, ?_, by omega⟩⟩
    rw [e1, if_neg (by omega)]
    omega
  · refine ⟨by omega, fun d2 e1 e2 => .inr ⟨by omega, ?_, by omega⟩⟩
    rw [e1, if_pos (by omega), h2]
theorem PF.fail {K sn : Nat} {d : D} (h : PF K sn d) (he : sn = K) : d.F = 0 ∧ ∀ d2 : D, d2.F = -1 → d2.T = d.T → PF K (sn + 1) d2 := by
  unfold PF at *
  rcases h with ⟨h1, h2, h3⟩ | ⟨h1, h2, h3⟩
  · exact ⟨by omega, fun d2 e1 e2 => .inr ⟨by omega, e1, by omega⟩⟩
  · omega
theorem PF.T_le {K sn : Nat} {d : D} (h : PF K sn d) : d.T ≤ sn := by
  unfold PF at h
  omega
theorem PF.len {K sn : Nat} {d : D} (h : PF K sn d) : (sn ≤ K → d.T = sn) ∧ (¬ sn ≤ K → d.T + 1 = sn) := by
  unfold PF at h
  omega
set_option maxRecDepth 100000 in
set_option maxHeartbeats 2000000 in
theorem fails_any (n : Int) (hn : 0 ≤ n ∧ n ≤ 255) (v : Value) (l : List St) (w : World) (hst : StsAt w v l) : Calls Try.prog 5 #[.int .u8 n, v] w fun e w' => e = .returned (.bool true) ∧ Below w.heap.size w w' := by
  have HFr := Lib.hid fun w2 h => fair_any v l w2 h
  have HSt := Lib.hid hst
  obtain ⟨a, cap, rfl, hl, hel⟩ := hst
  obtain ⟨hn0, hn1⟩ := hn
  unfold maxLen at hl
  have HEl := Lib.hid hel
  obtain ⟨K, hK, hK2⟩ := mod_nat n 30 (by omega)
  have HK := Lib.hid (show n % 30 = (K : Int) from hK)
  clear hel hK
  go_enter Try.func5, Try.ntmps5
  go_wp2_with fail
  have H0 := Lib.hid (dv_new w w (Below.refl _ _) 5 (by omega))
  refine H0.out.mono ?_
  rintro e w0 ⟨b, F, rfl, hd, hb, hF⟩
  have HD0 := Lib.hid hd
  clear hd hb hF H0
  go_wp2_with fail
  have HF0 := Lib.hid (HFr.out w0 (HSt.out.below HD0.out.2))
  cases hfair : fairB l
  · rw [hfair] at HF0
    clear hfair
    refine HF0.out.mono ?_
    rintro e w' ⟨rfl, rfl⟩
    go_wp2_with fail
    have HW := Lib.hid (wakes_any w0)
    refine HW.out.mono ?_
    rintro e w2 ⟨rfl, hb⟩
    have HB2 := Lib.hid (HD0.out.below hb).2
    clear hb
    go_wp2_with fail
    go_ret
    exact ⟨rfl, HB2.out⟩
  · rw [hfair] at HF0
    have hlen := (fairB_mem hfair).1
    clear hfair hl
    refine HF0.out.mono ?_
    rintro e w' ⟨rfl, rfl⟩
    go_wp2_with fail
    rw [HK.out]
    have HFl := Lib.hid (dv_fail HD0.out (K : Int) ⟨by omega, by omega⟩)
    refine HFl.out.mono ?_
    rintro e w00 ⟨F0, rfl, hd, ho, hn⟩
    have HD00 := Lib.hid hd
    clear hd ho hn HFl
    go_wp2_with ((refine wpList_alloc_g 56 rfl rfl _ info56z ?_); intro w1 hx hbx; have HG := Lib.hid HD00.out.2.size; have HL : Hid (Blk w1 w00.heap.size (flat (List.replicate 5 (fillA 0))) ∧ ¬ F0 w00.heap.size) := Lib.hid ⟨by rw [flat_zeros]; simpa using hx, fun h => Nat.lt_irrefl _ (HD00.out.lt _ h).2⟩; have HD1 := Lib.hid (HD00.out.below hbx); clear hx hbx)
    obtain ⟨wb, hwb⟩ : ∃ wb, wb = w00.heap.size := ⟨_, rfl⟩
    rw [← hwb] at HG HL ⊢
    clear hwb
    go_loopg [8, 10] l.length (fun g z i wr => ∃ (k : Nat) (F : Nat → Prop) (d : D) (sn : Nat), l.length - k ≤ g ∧ k ≤ l.length ∧ i = .int .i64 k ∧ z = .int .i64 sn ∧ Dv w wr b F d ∧ (Blk wr wb (flat d.view) ∧ ¬ F wb) ∧ d.S.length = 5 ∧ sn ≤ k ∧ d.L.length ≤ k ∧ PF K sn d)
    case atStart => exact ⟨0, F0, { newD 5 with F := (K : Int) }, 0, by omega, by omega, rfl, rfl, HD1.out, HL.out, rfl, Nat.le_refl _, Nat.le_refl _, .inl ⟨Nat.zero_le _, by simp, rfl⟩⟩
    case round =>
      clear HFr HF0 HD0 HL HD1 HD00
      obtain ⟨k, F, d, sn, hg, hk, rfl, rfl, hd, hloc, hSn, hsn, hLn, hpf⟩ := hrel
      have HSn := Lib.hid hSn
      have HPF := Lib.hid hpf
      have HD := Lib.hid hd
      have HL := Lib.hid hloc
      have hTn := hpf.T_le
      clear hd hloc hSn hpf
      by_cases hlt : k < l.length
      · obtain ⟨b0, o0, rfl, hs⟩ := HEl.out k hlt
        generalize hsk : l[k] = s at hs
        clear hsk
        have HS := Lib.hid hs
        clear hs
        have hk0 : (0 : Int) ≤ (k : Int) := by omega
        have hk1 : (k : Int) < (l.length : Int) := by omega
        obtain ⟨kk, hkk, hkl⟩ := mod_nat s.i 5 (by omega)
        have HMod := Lib.hid fun w2 => mod_any s.i 5 (by decide) (by decide) w2
        rw [show s.i % 5 = (kk : Int) from hkk] at HMod
        clear hkk
        have hkk0 : (0 : Int) ≤ (kk : Int) := by omega
        have hkk1 : (kk : Int) < 5 := by omega
        by_cases k0 : s.kind = 0
        · have e0 : (s.kind == 0) = true := beq_iff_eq.2 k0
          clear k0
          by_cases hse : sn = K
          · have h0 := Lib.hid (HPF.out.fail hse)
            have q1 : ((sn : Int) == (K : Int)) = true := beq_iff_eq.2 (by omega)
            clear hse
            have cz01s := HS.out.below HD.out.2
            have cz01k := cz01s.kind
            have cz01i := cz01s.i
            have cz01v := cz01s.v
            clear cz01s
            go_wp2_with fail
            have Hz02 := Lib.hid (HMod.out wr)
            refine Hz02.out.mono ?_
            rintro e w' ⟨rfl, rfl⟩
            clear Hz02
            go_wp2_with fail
            have Hz03 := Lib.hid (dv_loose HD.out)
            refine Hz03.out.mono ?_
            rintro e w' ⟨rfl, rfl⟩
            clear Hz03
            go_wp2_with fail
            have Hz04 := Lib.hid (fill_any s.v wr)
            refine Hz04.out.mono ?_
            rintro e wz05 ⟨rfl, hb⟩
            have HDz06 := Lib.hid (HD.out.below hb)
            have HLz07 : Hid (Blk wz05 (wb) (flat d.view) ∧ ¬ F (wb)) := Lib.hid ⟨HL.out.1.below hb HL.out.1.lt, HL.out.2⟩
            clear hb Hz04
            have cz08s := HS.out.below HDz06.out.2
            have cz08k := cz08s.kind
            have cz08i := cz08s.i
            have cz08v := cz08s.v
            clear cz08s
            clear cz01k cz01i cz01v
            go_wp2_with fail
            have HWr := Lib.hid (dv_write HDz06.out (by omega) (by omega) (kk : Int) (fillA s.v) (fillA_sec s.v))
            rw [(write_fail (k := kk) (by rw [HSn.out]; omega) h0.out.1 (fillA s.v)).1, (write_fail (k := kk) (by rw [HSn.out]; omega) h0.out.1 (fillA s.v)).2] at HWr
            have Hz09 := Lib.hid (show Calls _ _ _ _ (After w wz05 b F (.int .i64 12) ({ d with F := -1 } : D)) from HWr.out)
            refine Hz09.out.mono ?_
            rintro e wz010 ⟨Fz011, rfl, hd, ho, hn⟩
            have HDz012 := Lib.hid hd
            have HLz013 : Hid (Blk wz010 (wb) (flat d.view) ∧ ¬ Fz011 (wb)) := Lib.hid (HLz07.out.1.after HLz07.out.2 ho hn)
            clear hd ho hn Hz09
            have cz014s := HS.out.below HDz012.out.2
            have cz014k := cz014s.kind
            have cz014i := cz014s.i
            have cz014v := cz014s.v
            clear cz014s
            clear cz08k cz08i cz08v
            have HOk : Hid (({ d with F := -1 } : D).S.length = 5 ∧ ({ d with F := -1 } : D).L.length ≤ k + 1) := Lib.hid ⟨HSn.out, by simp only; omega⟩
            have HPn : Hid (PF K (sn + 1) ({ d with F := -1 } : D)) := Lib.hid (h0.out.2 _ rfl rfl)
            go_wp2_with fail
            have HLo := Lib.hid (dv_loose HDz012.out)
            refine HLo.out.mono ?_
            rintro e w' ⟨rfl, rfl⟩
            clear HLo
            go_wp2_with fail
            go_roundg (l.length - (k + 1))
            case measure => omega
            case rel => exact ⟨k + 1, Fz011, ({ d with F := -1 } : D), sn + 1, by omega, by omega, by go_num, by go_num, HDz012.out, HLz013.out, HOk.out.1, by omega, HOk.out.2, HPn.out⟩
          · have h0 := Lib.hid (HPF.out.ok hse)
            have q1 : ((sn : Int) == (K : Int)) = false := beq_eq_false_iff_ne.2 (by omega)
            clear hse
            have cz11s := HS.out.below HD.out.2
            have cz11k := cz11s.kind
            have cz11i := cz11s.i
            have cz11v := cz11s.v
            clear cz11s
            go_wp2_with fail
            have Hz12 := Lib.hid (HMod.out wr)
            refine Hz12.out.mono ?_
            rintro e w' ⟨rfl, rfl⟩
            clear Hz12
            go_wp2_with fail
            have Hz13 := Lib.hid (dv_loose HD.out)
            refine Hz13.out.mono ?_
            rintro e w' ⟨rfl, rfl⟩
            clear Hz13
            go_wp2_with fail
            have Hz14 := Lib.hid (fill_any s.v wr)
            refine Hz14.out.mono ?_
            rintro e wz15 ⟨rfl, hb⟩
            have HDz16 := Lib.hid (HD.out.below hb)
            have HLz17 : Hid (Blk wz15 (wb) (flat d.view) ∧ ¬ F (wb)) := Lib.hid ⟨HL.out.1.below hb HL.out.1.lt, HL.out.2⟩
            clear hb Hz14
            have cz18s := HS.out.below HDz16.out.2
            have cz18k := cz18s.kind
            have cz18i := cz18s.i
            have cz18v := cz18s.v
            clear cz18s
            clear cz11k cz11i cz11v
            go_wp2_with fail
            have HWr := Lib.hid (dv_write HDz16.out (by omega) (by omega) (kk : Int) (fillA s.v) (fillA_sec s.v))
            rw [(write_ok (k := kk) (by rw [HSn.out]; omega) h0.out.1 (fillA s.v)).1, (write_ok (k := kk) (by rw [HSn.out]; omega) h0.out.1 (fillA s.v)).2] at HWr
            have Hz19 := Lib.hid (show Calls _ _ _ _ (After w wz15 b F (.int .i64 0) ({ d with F := d.nextF, T := d.T + 1, L := d.L ++ [(kk, fillA s.v)] } : D)) from HWr.out)
            refine Hz19.out.mono ?_
            rintro e wz110 ⟨Fz111, rfl, hd, ho, hn⟩
            have HDz112 := Lib.hid hd
            have HLz113 : Hid (Blk wz110 (wb) (flat d.view) ∧ ¬ Fz111 (wb)) := Lib.hid (HLz17.out.1.after HLz17.out.2 ho hn)
            clear hd ho hn Hz19
            have cz114s := HS.out.below HDz112.out.2
            have cz114k := cz114s.kind
            have cz114i := cz114s.i
            have cz114v := cz114s.v
            clear cz114s
            clear cz18k cz18i cz18v
            have HOk : Hid (({ d with F := d.nextF, T := d.T + 1, L := d.L ++ [(kk, fillA s.v)] } : D).S.length = 5 ∧ ({ d with F := d.nextF, T := d.T + 1, L := d.L ++ [(kk, fillA s.v)] } : D).L.length ≤ k + 1) := Lib.hid ⟨HSn.out, by simp; omega⟩
            have HPn : Hid (PF K (sn + 1) ({ d with F := d.nextF, T := d.T + 1, L := d.L ++ [(kk, fillA s.v)] } : D)) := Lib.hid (h0.out.2 _ rfl rfl)
            go_wp2_with fail
            have Hz115 := Lib.hid (fill_any s.v wz110)
            refine Hz115.out.mono ?_
            rintro e wz116 ⟨rfl, hb⟩
            have HDz117 := Lib.hid (HDz112.out.below hb)
            have HLz118 : Hid (Blk wz116 (wb) (flat d.view) ∧ ¬ Fz111 (wb)) := Lib.hid ⟨HLz113.out.1.below hb HLz113.out.1.lt, HLz113.out.2⟩
            clear hb Hz115
            have cz119s := HS.out.below HDz117.out.2
            have cz119k := cz119s.kind
            have cz119i := cz119s.i
            have cz119v := cz119s.v
            clear cz119s
            clear cz114k cz114i cz114v
            have HVd : Hid ((∀ t ∈ d.view, Sec t) ∧ kk < d.view.length) := Lib.hid ⟨HD.out.secs, by rw [D.view_length, HSn.out]; omega⟩
            go_wp2_with ((with_reducible refine isStore ?_); refine wpList_store_flat 37 _ _ rfl rfl wb kk d.view (fillA s.v) rfl rfl HLz118.out.1 info37 HVd.out.1 HVd.out.2 (fillA_sec s.v) ?_; intro wz120 hx hox; have HLz121 : Hid (Blk wz120 wb (flat ({ d with F := d.nextF, T := d.T + 1, L := d.L ++ [(kk, fillA s.v)] } : D).view) ∧ ¬ Fz111 wb) := Lib.hid ⟨by rw [show ({ d with F := d.nextF, T := d.T + 1, L := d.L ++ [(kk, fillA s.v)] } : D).view = d.view.set kk (fillA s.v) from app_snoc _ _ _]; exact hx, HLz118.out.2⟩; have HDz122 := Lib.hid (HDz117.out.go1 hox HG.out HLz118.out.2); clear hx hox)
            go_roundg (l.length - (k + 1))
            case measure => omega
            case rel => exact ⟨k + 1, Fz111, ({ d with F := d.nextF, T := d.T + 1, L := d.L ++ [(kk, fillA s.v)] } : D), sn + 1, by omega, by omega, by go_num, by go_num, HDz122.out, HLz121.out, HOk.out.1, by omega, HOk.out.2, HPn.out⟩
        have e0 : (s.kind == 0) = false := beq_eq_false_iff_ne.2 k0
        by_cases k2 : s.kind = 2
        · have e2 : (s.kind == 2) = true := beq_iff_eq.2 k2
          clear k0 k2
          by_cases hse : sn = K
          · have h0 := Lib.hid (HPF.out.fail hse)
            have q1 : ((sn : Int) == (K : Int)) = true := beq_iff_eq.2 (by omega)
            clear hse
            have ct01s := HS.out.below HD.out.2
            have ct01k := ct01s.kind
            have ct01i := ct01s.i
            have ct01v := ct01s.v
            clear ct01s
            go_wp2_with fail
            have Ht02 := Lib.hid (HMod.out wr)
            refine Ht02.out.mono ?_
            rintro e w' ⟨rfl, rfl⟩
            clear Ht02
            go_wp2_with fail
            have Ht03 := Lib.hid (dv_loose HD.out)
            refine Ht03.out.mono ?_
            rintro e w' ⟨rfl, rfl⟩
            clear Ht03
            go_wp2_with fail
            have HWr := Lib.hid (dv_flush HD.out (by omega) (by omega))
            rw [(flush_fail (d := d) h0.out.1).1, (flush_fail (d := d) h0.out.1).2] at HWr
            have Ht04 := Lib.hid (show Calls _ _ _ _ (After w wr b F (.int .i64 12) ({ d with F := -1 } : D)) from HWr.out)
            refine Ht04.out.mono ?_
            rintro e wt05 ⟨Ft06, rfl, hd, ho, hn⟩
            have HDt07 := Lib.hid hd
            have HLt08 : Hid (Blk wt05 (wb) (flat d.view) ∧ ¬ Ft06 (wb)) := Lib.hid (HL.out.1.after HL.out.2 ho hn)
            clear hd ho hn Ht04
            have ct09s := HS.out.below HDt07.out.2
            have ct09k := ct09s.kind
            have ct09i := ct09s.i
            have ct09v := ct09s.v
            clear ct09s
            clear ct01k ct01i ct01v
            have HOk : Hid (({ d with F := -1 } : D).S.length = 5 ∧ ({ d with F := -1 } : D).L.length ≤ k + 1) := Lib.hid ⟨HSn.out, by simp only; omega⟩
            have HPn : Hid (PF K (sn + 1) ({ d with F := -1 } : D)) := Lib.hid (h0.out.2 _ rfl rfl)
            go_wp2_with fail
            have HLo := Lib.hid (dv_loose HDt07.out)
            refine HLo.out.mono ?_
            rintro e w' ⟨rfl, rfl⟩
            clear HLo
            go_wp2_with fail
            go_roundg (l.length - (k + 1))
            case measure => omega
            case rel => exact ⟨k + 1, Ft06, ({ d with F := -1 } : D), sn + 1, by omega, by omega, by go_num, by go_num, HDt07.out, HLt08.out, HOk.out.1, by omega, HOk.out.2, HPn.out⟩
          · have h0 := Lib.hid (HPF.out.ok hse)
            have q1 : ((sn : Int) == (K : Int)) = false := beq_eq_false_iff_ne.2 (by omega)
            clear hse
            have ct11s := HS.out.below HD.out.2
            have ct11k := ct11s.kind
            have ct11i := ct11s.i
            have ct11v := ct11s.v
            clear ct11s
            go_wp2_with fail
            have Ht12 := Lib.hid (HMod.out wr)
            refine Ht12.out.mono ?_
            rintro e w' ⟨rfl, rfl⟩
            clear Ht12
            go_wp2_with fail
            have Ht13 := Lib.hid (dv_loose HD.out)
            refine Ht13.out.mono ?_
            rintro e w' ⟨rfl, rfl⟩
            clear Ht13
            go_wp2_with fail
            have HWr := Lib.hid (dv_flush HD.out (by omega) (by omega))
            rw [(flush_ok (d := d) h0.out.1).1, (flush_ok (d := d) h0.out.1).2] at HWr
            have Ht14 := Lib.hid (show Calls _ _ _ _ (After w wr b F (.int .i64 0) ({ d with F := d.nextF, T := d.T + 1, S := app d.S d.L, L := [] } : D)) from HWr.out)
            refine Ht14.out.mono ?_
            rintro e wt15 ⟨Ft16, rfl, hd, ho, hn⟩
            have HDt17 := Lib.hid hd
            have HLt18 : Hid (Blk wt15 (wb) (flat d.view) ∧ ¬ Ft16 (wb)) := Lib.hid (HL.out.1.after HL.out.2 ho hn)
            clear hd ho hn Ht14
            have ct19s := HS.out.below HDt17.out.2
            have ct19k := ct19s.kind
            have ct19i := ct19s.i
            have ct19v := ct19s.v
            clear ct19s
            clear ct11k ct11i ct11v
            have HOk : Hid (({ d with F := d.nextF, T := d.T + 1, S := app d.S d.L, L := [] } : D).S.length = 5 ∧ ({ d with F := d.nextF, T := d.T + 1, S := app d.S d.L, L := [] } : D).L.length ≤ k + 1) := Lib.hid ⟨by simp only [app_length]; exact HSn.out, by simp only [List.length_nil]; omega⟩
            have HPn : Hid (PF K (sn + 1) ({ d with F := d.nextF, T := d.T + 1, S := app d.S d.L, L := [] } : D)) := Lib.hid (h0.out.2 _ rfl rfl)
            have HLt110 : Hid (Blk wt15 wb (flat ({ d with F := d.nextF, T := d.T + 1, S := app d.S d.L, L := [] } : D).view) ∧ ¬ Ft16 wb) := HLt18
            go_wp2_with fail
            go_roundg (l.length - (k + 1))
            case measure => omega
            case rel => exact ⟨k + 1, Ft16, ({ d with F := d.nextF, T := d.T + 1, S := app d.S d.L, L := [] } : D), sn + 1, by omega, by omega, by go_num, by go_num, HDt17.out, HLt110.out, HOk.out.1, by omega, HOk.out.2, HPn.out⟩
        · have e2 : (s.kind == 2) = false := beq_eq_false_iff_ne.2 k2
          clear k0 k2
          have cn1s := HS.out.below HD.out.2
          have cn1k := cn1s.kind
          have cn1i := cn1s.i
          have cn1v := cn1s.v
          clear cn1s
          go_wp2_with fail
          have Hn2 := Lib.hid (HMod.out wr)
          refine Hn2.out.mono ?_
          rintro e w' ⟨rfl, rfl⟩
          clear Hn2
          go_wp2_with fail
          have Hn3 := Lib.hid (dv_loose HD.out)
          refine Hn3.out.mono ?_
          rintro e w' ⟨rfl, rfl⟩
          clear Hn3
          go_wp2_with fail
          have HOk : Hid (d.S.length = 5 ∧ d.L.length ≤ k + 1) := Lib.hid ⟨HSn.out, by omega⟩
          obtain ⟨sx, hsx, hrd, hre⟩ := view_at (d := d) (k := kk) (by rw [HOk.out.1]; omega)
          have HV := Lib.hid hsx
          have HSec := Lib.hid (HD.out.secs sx (List.mem_of_getElem? hsx))
          have HR := Lib.hid (dv_read HD.out (by omega) (kk : Int))
          rw [hrd, hre] at HR
          clear hsx hrd hre
          refine HR.out.mono ?_
          rintro e wn4 ⟨rfl, hb⟩
          have HDn5 := Lib.hid (HD.out.below hb)
          have HLn6 : Hid (Blk wn4 (wb) (flat d.view) ∧ ¬ F (wb)) := Lib.hid ⟨HL.out.1.below hb HL.out.1.lt, HL.out.2⟩
          clear hb HR
          go_wp2_with (first | ((with_reducible refine isNew ?_); refine wpList_store_new 37 _ _ rfl rfl 37 _ (sx) rfl rfl (by rw [HSec.out.size]; exact info37) (zeros_size _ HSec.out) HSec.out.one ?_; intro wn7 hx hbx; have HGn9 : Hid (w.heap.size ≤ wn4.heap.size) := Lib.hid HDn5.out.2.size; have HLn8 : Hid (Blk wn7 (wn4.heap.size) (sx).toList ∧ ¬ F (wn4.heap.size)) := Lib.hid ⟨hx, fun h => Nat.lt_irrefl _ (HDn5.out.lt _ h).2⟩; have HNn10 : Hid (wb ≠ wn4.heap.size) := Lib.hid (Nat.ne_of_lt HLn6.out.1.lt); have HLn11 : Hid (Blk wn7 (wb) (flat d.view) ∧ ¬ F (wb)) := Lib.hid ⟨HLn6.out.1.below hbx HLn6.out.1.lt, HLn6.out.2⟩; have HDn12 := Lib.hid (HDn5.out.below hbx); clear hx hbx))
          have HQ : Hid (Dv w wn7.drew b F (d) ∧ Blk wn7.drew wn4.heap.size sx.toList ∧ Blk wn7.drew wb (flat (d).view)) := Lib.hid ⟨HDn12.out.drew, HLn8.out.1.drew, HLn11.out.1.drew⟩
          have HVs := Lib.hid HDn12.out.secs
          refine startH (fun wq => (Dv w wq b F (d) ∧ Blk wq wn4.heap.size sx.toList ∧ Blk wq wb (flat (d).view))) (by kernel_rfl) ?_
          refine takeH 0 (some 72) (.int .i64 0) rfl rfl (by kernel_rfl) (by kernel_rfl) (by kernel_rfl) (fun _ _ _ h => h) rfl (fun w _ => by go_simp) HQ.out ?_
          simp only [Act.put, List.setIfInBounds_toArray, List.set_cons_succ, List.set_cons_zero]
          refine takeH 1 (some 73) (.bool false) rfl rfl (by kernel_rfl) (by kernel_rfl) (by kernel_rfl) (fun _ _ _ h => h) rfl (fun w _ => by go_simp) HQ.out ?_
          simp only [Act.put, List.setIfInBounds_toArray, List.set_cons_succ, List.set_cons_zero]
          refine takeH 2 (some 74) (.bool false) rfl rfl (by kernel_rfl) (by kernel_rfl) (by kernel_rfl) (fun _ _ _ h => h) rfl (fun w _ => by go_simp) HQ.out ?_
          simp only [Act.put, List.setIfInBounds_toArray, List.set_cons_succ, List.set_cons_zero]
          refine takeH 3 (some 75) (.agg sx) rfl rfl (by kernel_rfl) (by kernel_rfl) (by kernel_rfl) (fun _ _ _ h => h) rfl (fun w hS => exec_load_at _ _ _ 37 _ rfl (wn4.heap.size) 0 rfl sx _ Try.underlying37 rfl (by rw [HSec.out.size]; exact info37) (hS.2.1.cells _ rfl)) HQ.out ?_
          simp only [Act.put, List.setIfInBounds_toArray, List.set_cons_succ, List.set_cons_zero]
          refine takeH 4 (some 76) (.int .i64 (kk : Int)) rfl rfl (by kernel_rfl) (by kernel_rfl) (by kernel_rfl) (fun _ _ _ h => h) rfl (fun w _ => by go_simp) HQ.out ?_
          simp only [Act.put, List.setIfInBounds_toArray, List.set_cons_succ, List.set_cons_zero]
          refine takeH 5 (some 77) (.pointer (some ⟨wb, kk * 64, none⟩)) rfl rfl (by kernel_rfl) (by kernel_rfl) (by kernel_rfl) (fun _ _ _ h => h) rfl (fun w _ => by go_simp) HQ.out ?_
          simp only [Act.put, List.setIfInBounds_toArray, List.set_cons_succ, List.set_cons_zero]
          refine takeH 6 (some 78) (.agg sx) rfl rfl (by kernel_rfl) (by kernel_rfl) (by kernel_rfl) (fun _ _ _ h => h) rfl (fun w hS => exec_load_at _ _ _ 37 _ rfl wb (kk * 64) rfl sx _ Try.underlying37 rfl (by rw [HSec.out.size]; exact info37) (flat_load hS.2.2 HVs.out HV.out)) HQ.out ?_
          simp only [Act.put, List.setIfInBounds_toArray, List.set_cons_succ, List.set_cons_zero]
          refine takeH 7 (some 79) (.bool false) rfl rfl (by kernel_rfl) (by kernel_rfl) (by kernel_rfl) (fun _ _ _ h => h) rfl (fun w _ => by have hq := eq37 sx HSec.out w; go_simp) HQ.out ?_
          simp only [Act.put, List.setIfInBounds_toArray, List.set_cons_succ, List.set_cons_zero]
          refine takeH 8 (some 80) (.bool false) rfl rfl (by kernel_rfl) (by kernel_rfl) (by kernel_rfl) (fun _ _ _ h => h) rfl (fun w _ => by go_simp) HQ.out ?_
          simp only [Act.put, List.setIfInBounds_toArray, List.set_cons_succ, List.set_cons_zero]
          refine wpAnyH_done (by kernel_rfl) ?_ _
          go_wp2_with fail
          go_roundg (l.length - (k + 1))
          case measure => omega
          case rel => exact ⟨k + 1, F, d, sn, by omega, by omega, by go_num, rfl, HQ.out.1, ⟨HQ.out.2.2, HLn11.out.2⟩, HOk.out.1, by omega, HOk.out.2, HPF.out⟩
      · have hkl : k = l.length := by omega
        subst hkl
        clear hlt
        have hpl := HPF.out.len
        obtain ⟨hp1, hp2⟩ := hpl
        by_cases hle : sn ≤ K
        · have HT := Lib.hid (hp1 hle)
          skip
          have hgt : ¬ (K : Int) < (sn : Int) := by omega
          clear hle hp1 hp2
          go_wp2_with fail
          have HDn := Lib.hid (dv_done HD.out)
          rw [HT.out] at HDn
          refine HDn.out.mono ?_
          rintro e w' ⟨rfl, rfl⟩
          go_wp2_with fail
          have HW := Lib.hid fun w2 => wakes_any w2
          refine (HW.out _).mono ?_
          rintro e w2 ⟨rfl, hb⟩
          have HB2 := Lib.hid (HD.out.below hb).2
          clear hb
          go_wp2_with fail
          go_ret
          exact ⟨rfl, HB2.out⟩
        · have HT := Lib.hid (hp2 hle)
          skip
          have hgt : (K : Int) < (sn : Int) := by omega
          clear hle hp1 hp2
          go_wp2_with fail
          have HDn := Lib.hid (dv_done HD.out)
          have hsub : (sn : Int) - 1 = (d.T : Int) := by have := HT.out; omega
          refine HDn.out.mono ?_
          rintro e w' ⟨rfl, rfl⟩
          go_wp2_with fail
          have HW := Lib.hid fun w2 => wakes_any w2
          refine (HW.out _).mono ?_
          rintro e w2 ⟨rfl, hb⟩
          have HB2 := Lib.hid (HD.out.below hb).2
          clear hb
          go_wp2_with fail
          go_ret
          exact ⟨rfl, HB2.out⟩
end Go.Proofs.Ytdmjhpebpooiaaa
