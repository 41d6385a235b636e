/- The statement DevSafe's walk. -/
import Derived.Test.YtdmjhpebpooiaaaCopy
import Derived.Test.YtdmjhpebpooiaaaWakes
namespace Go.Proofs.Ytdmjhpebpooiaaa
open Go.RowKit
theorem keptTo_le (L : List (Nat × Array Value)) (p : Nat × Array Value) (kp : Nat → Bool) : ∀ k, k ≤ L.length → keptTo (L ++ [p]) kp k = keptTo L kp k
  | 0, _ => rfl
  | k + 1, h => by
    have e : (L ++ [p])[k]? = L[k]? := List.getElem?_append_left (by omega)
    simp only [keptTo, e, keptTo_le L p kp k (by omega)]
theorem keptTo_snoc_yes {L : List (Nat × Array Value)} {p : Nat × Array Value} {kp : Nat → Bool} (h : kp L.length = true) : keptTo (L ++ [p]) kp (L.length + 1) = keptTo L kp L.length ++ [p] := by
  rw [keptTo_yes (p := p) (by simp) h, keptTo_le L p kp _ (Nat.le_refl _)]
theorem keptTo_snoc_no {L : List (Nat × Array Value)} {p : Nat × Array Value} {kp : Nat → Bool} (h : kp L.length = false) : keptTo (L ++ [p]) kp (L.length + 1) = keptTo L kp L.length := by
  rw [keptTo_no h, keptTo_le L p kp _ (Nat.le_refl _)]
def bytesV (ws : List Int) : List Value := ws.map (Value.int .u8)
theorem bytesV_set (ws : List Int) (k : Nat) (v : Int) : (bytesV ws).set k (.int .u8 v) = bytesV (ws.set k v) := by unfold bytesV; rw [List.map_set]
theorem bytesV_at {ws : List Int} {k : Nat} {x : Int} (h : ws[k]? = some x) : (bytesV ws)[k]? = some (.int .u8 x) := by unfold bytesV; rw [List.getElem?_map, h]; rfl
theorem fills_set (ws : List Int) (k : Nat) (v : Int) : (ws.map fillA).set k (fillA v) = (ws.set k v).map fillA := by rw [List.map_set]
theorem nextF_lt {d : D} (h : d.F < 0) : d.nextF < 0 := by rw [nextF_neg d h]; exact h
set_option maxRecDepth 100000 in
set_option maxHeartbeats 4000000 in
theorem safe_any (v0 v1 v2 : Value) (l0 l1 : List St) (kl : List Int) (w : World) (hst0 : StsAt w v0 l0) (hst1 : StsAt w v1 l1) (hkb : BytesAt w v2 kl) : Calls Try.prog 4 #[v0, v1, v2] w fun e w' => e = .returned (.bool true) ∧ Below w.heap.size w w' := by
  have HFr0 := Lib.hid fun w2 h => fair_any v0 l0 w2 h
  have HFr1 := Lib.hid fun w2 h => fair_any v1 l1 w2 h
  have HSt0 := Lib.hid hst0
  have HSt1 := Lib.hid hst1
  have HKb := Lib.hid hkb
  obtain ⟨a0, cap0, rfl, hl0, hel0⟩ := hst0
  obtain ⟨a1, cap1, rfl, hl1, hel1⟩ := hst1
  obtain ⟨ka, kc, rfl, hkl, _, _⟩ := hkb
  unfold maxLen at hl0 hl1 hkl
  have HEl0 := Lib.hid hel0
  have HEl1 := Lib.hid hel1
  clear hel0 hel1
  go_enter Try.func4, Try.ntmps4
  go_wp2_with fail
  have H0 := Lib.hid (dv_new w w (Below.refl _ _) 6 (by omega))
  refine H0.out.mono ?_
  rintro e w0 ⟨b, F, rfl, hd, hb, hF⟩
  have HD0 := Lib.hid hd
  clear hd hb hF H0
  have HW := Lib.hid fun w2 => wakes_any w2
  go_wp2_with fail
  have HF0 := Lib.hid (HFr0.out w0 (HSt0.out.below HD0.out.2))
  have HF1 := Lib.hid (HFr1.out w0 (HSt1.out.below HD0.out.2))
  cases hfair0 : fairB l0
  · rw [hfair0] at HF0
    clear hfair0
    refine HF0.out.mono ?_
    rintro e w' ⟨rfl, rfl⟩
    go_wp2_with fail
    refine (HW.out _).mono ?_
    rintro e w2 ⟨rfl, hb⟩
    have HB2 := Lib.hid (HD0.out.below hb).2
    clear hb
    go_wp2_with fail
    go_ret
    exact ⟨rfl, HB2.out⟩
  rw [hfair0] at HF0
  have hlen0 := (fairB_mem hfair0).1
  clear hfair0 hl0
  refine HF0.out.mono ?_
  rintro e w' ⟨rfl, rfl⟩
  go_wp2_with fail
  cases hfair1 : fairB l1
  · rw [hfair1] at HF1
    clear hfair1
    refine HF1.out.mono ?_
    rintro e w' ⟨rfl, rfl⟩
    go_wp2_with fail
    refine (HW.out _).mono ?_
    rintro e w2 ⟨rfl, hb⟩
    have HB2 := Lib.hid (HD0.out.below hb).2
    clear hb
    go_wp2_with fail
    go_ret
    exact ⟨rfl, HB2.out⟩
  rw [hfair1] at HF1
  have hlen1 := (fairB_mem hfair1).1
  clear hfair1 hl1
  refine HF1.out.mono ?_
  rintro e w' ⟨rfl, rfl⟩
  by_cases h300 : 300 < kl.length
  · have h300' : (300 : Int) < (kl.length : Int) := by omega
    clear h300
    go_wp2_with fail
    refine (HW.out _).mono ?_
    rintro e w2 ⟨rfl, hb⟩
    have HB2 := Lib.hid (HD0.out.below hb).2
    clear hb
    go_wp2_with fail
    go_ret
    exact ⟨rfl, HB2.out⟩
  have h300' : ¬ (300 : Int) < (kl.length : Int) := by omega
  go_wp2_with fail
  obtain ⟨wb, hwb⟩ : ∃ wb, wb = w0.heap.size := ⟨_, rfl⟩
  have hlb : Blk (w0.alloc (.cells #[.int .u8 0, .int .u8 0, .int .u8 0, .int .u8 0, .int .u8 0, .int .u8 0] 53)) wb (bytesV [0, 0, 0, 0, 0, 0]) ∧ ¬ F wb := ⟨by rw [hwb]; exact Blk.newAt 53 _ _ rfl rfl, fun h => by have := (HD0.out.lt _ h).2; omega⟩
  rw [← hwb]
  have HG : Hid (w.heap.size ≤ wb) := Lib.hid (by rw [hwb]; exact HD0.out.2.size)
  have HL := Lib.hid hlb
  have HD1 := Lib.hid (HD0.out.below (show Below w0.heap.size w0 (w0.alloc (.cells #[.int .u8 0, .int .u8 0, .int .u8 0, .int .u8 0, .int .u8 0, .int .u8 0] 53)) from (Below.refl _ _).alloc (Nat.le_refl _) _))
  clear hlb hwb h300 HF0 HF1 HFr0 HFr1
  go_loopg [10] l0.length (fun g i wr => ∃ (k : Nat) (F : Nat → Prop) (d : D) (ws : List Int), l0.length - k ≤ g ∧ k ≤ l0.length ∧ i = .int .i64 k ∧ Dv w wr b F d ∧ (Blk wr wb (bytesV ws) ∧ ¬ F wb) ∧ ws.length = 6 ∧ d.S.length = 6 ∧ d.F < 0 ∧ d.T ≤ k ∧ d.L.length ≤ k ∧ d.view = ws.map fillA)
  case atStart => exact ⟨0, F, newD 6, [0, 0, 0, 0, 0, 0], by omega, by omega, rfl, HD1.out, HL.out, rfl, rfl, by decide, Nat.le_refl _, Nat.le_refl _, rfl⟩
  case round =>
    clear HD0 HL HD1
    obtain ⟨k, F, d, ws, hg, hk, rfl, hd, hloc, hwsn, hSn, hF, hT, hLn, hview⟩ := hrel
    have HSn := Lib.hid hSn
    have HWn := Lib.hid hwsn
    have HV := Lib.hid hview
    have HD := Lib.hid hd
    have HL := Lib.hid hloc
    have HFneg := Lib.hid hF
    clear hd hloc hSn hwsn hview hF
    by_cases hlt : k < l0.length
    · obtain ⟨b0, o0, rfl, hs⟩ := HEl0.out k hlt
      generalize hsk : l0[k] = s at hs
      clear hsk
      have HS := Lib.hid hs
      clear hs
      have hk0 : (0 : Int) ≤ (k : Int) := by omega
      have hk1 : (k : Int) < (l0.length : Int) := by omega
      obtain ⟨kk, hkk, hkl⟩ := mod_nat s.i 6 (by omega)
      have HMod := Lib.hid fun w2 => mod_any s.i 6 (by decide) (by decide) w2
      rw [show s.i % 6 = (kk : Int) from hkk] at HMod
      clear hkk
      have hkk0 : (0 : Int) ≤ (kk : Int) := by omega
      have hkk1 : (kk : Int) < 6 := by omega
      obtain ⟨x0, hx0⟩ : ∃ x0, ws[kk]? = some x0 := ⟨_, List.getElem?_eq_getElem (by rw [HWn.out]; omega)⟩
      have HX0 := Lib.hid hx0
      clear hx0
      have ca1s := HS.out.below HD.out.2
      have ca1k := ca1s.kind
      have ca1i := ca1s.i
      have ca1v := ca1s.v
      clear ca1s
      go_wp2_with fail
      have Ha2 := Lib.hid (HMod.out wr)
      refine Ha2.out.mono ?_
      rintro e w' ⟨rfl, rfl⟩
      clear Ha2
      go_wp2_with fail
      have Ha3 := Lib.hid (fill_any s.v wr)
      refine Ha3.out.mono ?_
      rintro e wa4 ⟨rfl, hb⟩
      have HDa5 := Lib.hid (HD.out.below hb)
      have HLa6 : Hid (Blk wa4 (wb) (bytesV ws) ∧ ¬ F (wb)) := Lib.hid ⟨HL.out.1.below hb HL.out.1.lt, HL.out.2⟩
      clear hb Ha3
      have ca7s := HS.out.below HDa5.out.2
      have ca7k := ca7s.kind
      have ca7i := ca7s.i
      have ca7v := ca7s.v
      clear ca7s
      clear ca1k ca1i ca1v
      go_wp2_with fail
      have hF0 : d.F ≠ 0 := by have := HFneg.out; omega
      have HWr := Lib.hid (dv_write HDa5.out (by omega) (by omega) (kk : Int) (fillA s.v) (fillA_sec s.v))
      rw [(write_ok (k := kk) (by rw [HSn.out]; omega) hF0 (fillA s.v)).1, (write_ok (k := kk) (by rw [HSn.out]; omega) hF0 (fillA s.v)).2] at HWr
      clear hF0
      have Ha8 := Lib.hid (show Calls _ _ _ _ (After w wa4 b F (.int .i64 0) ({ d with F := d.nextF, T := d.T + 1, L := d.L ++ [(kk, fillA s.v)] } : D)) from HWr.out)
      refine Ha8.out.mono ?_
      rintro e wa9 ⟨Fa10, rfl, hd, ho, hn⟩
      have HDa11 := Lib.hid hd
      have HLa12 : Hid (Blk wa9 (wb) (bytesV ws) ∧ ¬ Fa10 (wb)) := Lib.hid (HLa6.out.1.after HLa6.out.2 ho hn)
      clear hd ho hn Ha8
      have ca13s := HS.out.below HDa11.out.2
      have ca13k := ca13s.kind
      have ca13i := ca13s.i
      have ca13v := ca13s.v
      clear ca13s
      clear ca7k ca7i ca7v
      have cw : wa9.cell? ⟨wb, kk, none⟩ = some (.int .u8 x0) := HLa12.out.1.cell (bytesV_at HX0.out)
      have fw := HLa12.out.1.frozen kk
      have HLs : Hid (Blk (wa9.setCell ⟨wb, kk, none⟩ (.int .u8 s.v)) wb (bytesV (ws.set kk s.v)) ∧ ¬ Fa10 wb) := Lib.hid ⟨by rw [← bytesV_set]; exact HLa12.out.1.set kk _, HLa12.out.2⟩
      have HDs := Lib.hid (HDa11.out.go1 (w' := wa9.setCell ⟨wb, kk, none⟩ (.int .u8 s.v)) (wb := wb) ((Only.refl (fun k => k = wb) _).setCell (.inl rfl) _) HG.out HLa12.out.2)
      go_wp2_with fail
      go_roundg (l0.length - (k + 1))
      case measure => omega
      case rel => exact ⟨k + 1, Fa10, ({ d with F := d.nextF, T := d.T + 1, L := d.L ++ [(kk, fillA s.v)] } : D), ws.set kk s.v, by omega, by omega, by go_num, HDs.out, HLs.out, by rw [List.length_set]; exact HWn.out, HSn.out, nextF_lt HFneg.out, by simp only; omega, by simp; omega, by rw [show ({ d with F := d.nextF, T := d.T + 1, L := d.L ++ [(kk, fillA s.v)] } : D).view = d.view.set kk (fillA s.v) from app_snoc _ _ _, HV.out, fills_set]⟩
    · have hkl0 : k = l0.length := by omega
      subst hkl0
      clear hlt
      go_wp2_with fail
      have hF0 : d.F ≠ 0 := by have := HFneg.out; omega
      have HWr := Lib.hid (dv_flush HD.out (by omega) (by omega))
      rw [(flush_ok hF0).1, (flush_ok hF0).2] at HWr
      clear hF0
      have Hb1 := Lib.hid (show Calls _ _ _ _ (After w wr b F (.int .i64 0) ({ d with F := d.nextF, T := d.T + 1, S := app d.S d.L, L := [] } : D)) from HWr.out)
      refine Hb1.out.mono ?_
      rintro e wb2 ⟨Fb3, rfl, hd, ho, hn⟩
      have HDb4 := Lib.hid hd
      have HLb5 : Hid (Blk wb2 (wb) (bytesV ws) ∧ ¬ Fb3 (wb)) := Lib.hid (HL.out.1.after HL.out.2 ho hn)
      clear hd ho hn Hb1
      go_wp2_with fail
      have Hb6 := Lib.hid (show Calls _ _ _ _ (fun e w' => e = .returned (.int .i64 0) ∧ wb2 = w') from dv_loose HDb4.out)
      refine Hb6.out.mono ?_
      rintro e w' ⟨rfl, rfl⟩
      clear Hb6
      go_wp2_with fail
      have HDF := HDb4
      have HLF := HLb5
      obtain ⟨FF, hFF⟩ : ∃ FF, FF = Fb3 := ⟨_, rfl⟩
      rw [← hFF] at HDF HLF
      clear hFF
      go_loopg [12] l1.length (fun g i wr => ∃ (k : Nat) (F : Nat → Prop) (d : D) (ws : List Int), l1.length - k ≤ g ∧ k ≤ l1.length ∧ i = .int .i64 k ∧ Dv w wr b F d ∧ (Blk wr wb (bytesV ws) ∧ ¬ F wb) ∧ ws.length = 6 ∧ d.S.length = 6 ∧ d.F < 0 ∧ d.T ≤ 201 + k ∧ d.L.length = k ∧ app d.S (keptTo d.L (oddAt kl) k) = ws.map fillA)
      case atStart => exact ⟨0, FF, { d with F := d.nextF, T := d.T + 1, S := app d.S d.L, L := [] }, ws, by omega, by omega, rfl, HDF.out, HLF.out, HWn.out, by simp only [app_length]; exact HSn.out, nextF_lt HFneg.out, by simp only; omega, rfl, HV.out⟩
      case round =>
        clear HD HL HDF HLF HSn HWn HV HFneg hT hLn hg hk
        obtain ⟨k, F, d, ws, hg, hk, rfl, hd, hloc, hwsn, hSn, hF, hT, hLn, hview⟩ := hrel
        have HSn := Lib.hid hSn
        have HWn := Lib.hid hwsn
        have HV := Lib.hid hview
        have HD := Lib.hid hd
        have HL := Lib.hid hloc
        have HFneg := Lib.hid hF
        have HLn := Lib.hid hLn
        clear hd hloc hSn hwsn hview hF hLn
        by_cases hlt : k < l1.length
        · obtain ⟨b0, o0, rfl, hs⟩ := HEl1.out k hlt
          generalize hsk : l1[k] = s at hs
          clear hsk
          have HS := Lib.hid hs
          clear hs
          have hk0 : (0 : Int) ≤ (k : Int) := by omega
          have hk1 : (k : Int) < (l1.length : Int) := by omega
          obtain ⟨kk, hkk, hkl⟩ := mod_nat s.i 6 (by omega)
          have HMod := Lib.hid fun w2 => mod_any s.i 6 (by decide) (by decide) w2
          rw [show s.i % 6 = (kk : Int) from hkk] at HMod
          clear hkk
          have hkk0 : (0 : Int) ≤ (kk : Int) := by omega
          have hkk1 : (kk : Int) < 6 := by omega
          obtain ⟨x0, hx0⟩ : ∃ x0, ws[kk]? = some x0 := ⟨_, List.getElem?_eq_getElem (by rw [HWn.out]; omega)⟩
          have HX0 := Lib.hid hx0
          clear hx0
          have cd1s := HS.out.below HD.out.2
          have cd1k := cd1s.kind
          have cd1i := cd1s.i
          have cd1v := cd1s.v
          clear cd1s
          go_wp2_with fail
          have Hd2 := Lib.hid (HMod.out wr)
          refine Hd2.out.mono ?_
          rintro e w' ⟨rfl, rfl⟩
          clear Hd2
          go_wp2_with fail
          have Hd3 := Lib.hid (fill_any s.v wr)
          refine Hd3.out.mono ?_
          rintro e wd4 ⟨rfl, hb⟩
          have HDd5 := Lib.hid (HD.out.below hb)
          have HLd6 : Hid (Blk wd4 (wb) (bytesV ws) ∧ ¬ F (wb)) := Lib.hid ⟨HL.out.1.below hb HL.out.1.lt, HL.out.2⟩
          clear hb Hd3
          have cd7s := HS.out.below HDd5.out.2
          have cd7k := cd7s.kind
          have cd7i := cd7s.i
          have cd7v := cd7s.v
          clear cd7s
          clear cd1k cd1i cd1v
          go_wp2_with fail
          have hF0 : d.F ≠ 0 := by have := HFneg.out; omega
          have HWr := Lib.hid (dv_write HDd5.out (by omega) (by rw [HLn.out]; omega) (kk : Int) (fillA s.v) (fillA_sec s.v))
          rw [(write_ok (k := kk) (by rw [HSn.out]; omega) hF0 (fillA s.v)).1, (write_ok (k := kk) (by rw [HSn.out]; omega) hF0 (fillA s.v)).2] at HWr
          clear hF0
          have Hd8 := Lib.hid (show Calls _ _ _ _ (After w wd4 b F (.int .i64 0) ({ d with F := d.nextF, T := d.T + 1, L := d.L ++ [(kk, fillA s.v)] } : D)) from HWr.out)
          refine Hd8.out.mono ?_
          rintro e wd9 ⟨Fd10, rfl, hd, ho, hn⟩
          have HDd11 := Lib.hid hd
          have HLd12 : Hid (Blk wd9 (wb) (bytesV ws) ∧ ¬ Fd10 (wb)) := Lib.hid (HLd6.out.1.after HLd6.out.2 ho hn)
          clear hd ho hn Hd8
          have cd13s := HS.out.below HDd11.out.2
          have cd13k := cd13s.kind
          have cd13i := cd13s.i
          have cd13v := cd13s.v
          clear cd13s
          clear cd7k cd7i cd7v
          by_cases hko : k < kl.length
          · obtain ⟨ka2, kc2, ekv, _, hkn, hkc⟩ := HKb.out.below HDd11.out.2
            obtain ⟨kbb, koo, eka, hkx⟩ := hkc k hko
            have ek : ka = some ⟨kbb, koo, none⟩ := by simp at ekv; rw [ekv.1]; exact eka
            subst ek
            obtain ⟨hx0, hx1⟩ := hkn kl[k] (List.getElem_mem hko)
            have hko1 : (k : Int) < (kl.length : Int) := by omega
            have HOd : Hid (oddAt kl k = decide (kl[k] % 2 = 1)) := Lib.hid (by unfold oddAt; simp [List.getD, hko])
            clear hkc hkn ekv eka
            generalize kl[k] = xk at *
            by_cases hodd : xk % 2 = 1
            · have HOdd : Hid (oddAt kl k = true) := Lib.hid (by rw [HOd.out]; simp [hodd])
              have e2 : (xk % 2 == 1) = true := beq_iff_eq.2 hodd
              clear hodd
              have cw : wd9.cell? ⟨wb, kk, none⟩ = some (.int .u8 x0) := HLd12.out.1.cell (bytesV_at HX0.out)
              have fw := HLd12.out.1.frozen kk
              have HLs : Hid (Blk (wd9.setCell ⟨wb, kk, none⟩ (.int .u8 s.v)) wb (bytesV (ws.set kk s.v)) ∧ ¬ Fd10 wb) := Lib.hid ⟨by rw [← bytesV_set]; exact HLd12.out.1.set kk _, HLd12.out.2⟩
              have HDs := Lib.hid (HDd11.out.go1 (w' := wd9.setCell ⟨wb, kk, none⟩ (.int .u8 s.v)) (wb := wb) ((Only.refl (fun k => k = wb) _).setCell (.inl rfl) _) HG.out HLd12.out.2)
              go_wp2_with fail
              go_roundg (l1.length - (k + 1))
              case measure => omega
              case rel => exact ⟨k + 1, Fd10, ({ d with F := d.nextF, T := d.T + 1, L := d.L ++ [(kk, fillA s.v)] } : D), ws.set kk s.v, by omega, by omega, by go_num, HDs.out, HLs.out, by rw [List.length_set]; exact HWn.out, HSn.out, nextF_lt HFneg.out, by simp only; omega, by simp [HLn.out], by have e := keptTo_snoc_yes (L := d.L) (p := (kk, fillA s.v)) (kp := oddAt kl) (by rw [HLn.out]; exact HOdd.out); rw [HLn.out] at e; show app d.S (keptTo (d.L ++ [(kk, fillA s.v)]) (oddAt kl) (k + 1)) = _; rw [e, app_snoc, HV.out]; exact fills_set ws kk s.v⟩
            · have HOdd : Hid (oddAt kl k = false) := Lib.hid (by rw [HOd.out]; simp [hodd])
              have e2 : (xk % 2 == 1) = false := beq_eq_false_iff_ne.2 hodd
              clear hodd
              go_wp2_with fail
              go_roundg (l1.length - (k + 1))
              case measure => omega
              case rel => exact ⟨k + 1, Fd10, ({ d with F := d.nextF, T := d.T + 1, L := d.L ++ [(kk, fillA s.v)] } : D), ws, by omega, by omega, by go_num, HDd11.out, HLd12.out, HWn.out, HSn.out, nextF_lt HFneg.out, by simp only; omega, by simp [HLn.out], by have e := keptTo_snoc_no (L := d.L) (p := (kk, fillA s.v)) (kp := oddAt kl) (by rw [HLn.out]; exact HOdd.out); rw [HLn.out] at e; show app d.S (keptTo (d.L ++ [(kk, fillA s.v)]) (oddAt kl) (k + 1)) = _; rw [e]; exact HV.out⟩
          · have HOdd : Hid (oddAt kl k = false) := Lib.hid (by unfold oddAt; simp [hko])
            have hko1 : ¬ (k : Int) < (kl.length : Int) := by omega
            clear hko
            go_wp2_with fail
            go_roundg (l1.length - (k + 1))
            case measure => omega
            case rel => exact ⟨k + 1, Fd10, ({ d with F := d.nextF, T := d.T + 1, L := d.L ++ [(kk, fillA s.v)] } : D), ws, by omega, by omega, by go_num, HDd11.out, HLd12.out, HWn.out, HSn.out, nextF_lt HFneg.out, by simp only; omega, by simp [HLn.out], by have e := keptTo_snoc_no (L := d.L) (p := (kk, fillA s.v)) (kp := oddAt kl) (by rw [HLn.out]; exact HOdd.out); rw [HLn.out] at e; show app d.S (keptTo (d.L ++ [(kk, fillA s.v)]) (oddAt kl) (k + 1)) = _; rw [e]; exact HV.out⟩
        · have hkl1 : k = l1.length := by omega
          subst hkl1
          clear hlt
          have HPre := Lib.hid fun wq (hb : Below wr.heap.size wr wq) => HKb.out.below (HD.out.below hb).2
          go_wp2_with ((with_reducible refine isAppend ?_); refine wpList_copy_bytes _ _ rfl rfl wr.heap.size (by go_simp) (heap_alloc_new _ _) (.slice ka kl.length kc) kl rfl (HPre.out _ ((Below.refl _ _).alloc (Nat.le_refl _) _)) (by omega) ?_; intro v2 w2 hcp; have HCp := Lib.hid hcp; clear hcp)
          have hb2 : Below wr.heap.size wr w2 := ((Below.refl _ _).alloc (Nat.le_refl _) _).trans HCp.out.below
          have HD2 := Lib.hid (HD.out.below hb2)
          have HL2 : Hid (Blk w2 wb (bytesV ws) ∧ ¬ F wb) := Lib.hid ⟨HL.out.1.below hb2 HL.out.1.lt, HL.out.2⟩
          clear hb2
          have HCr := Lib.hid (dv_crash HD2.out (by rw [HLn.out]; omega) v2 kl HCp.out.bytes (fun k hk hf => by have h1 := HCp.out.own k hk; have h2 := (HD.out.lt _ hf).2; omega))
          refine HCr.out.mono ?_
          rintro e w3 ⟨F3, rfl, hd, ho, hn⟩
          have HD3 := Lib.hid hd
          have HL3 : Hid (Blk w3 wb (bytesV ws) ∧ ¬ F3 wb) := Lib.hid (HL2.out.1.after HL2.out.2 ho hn)
          have HCv : Hid ((d.crash kl).view = ws.map fillA) := Lib.hid (by rw [← HV.out]; show app (app d.S (kept d.L kl)) [] = _; rw [← HLn.out]; rfl)
          have HCs : Hid ((d.crash kl).S.length = 6 ∧ (d.crash kl).L.length ≤ 1000000) := Lib.hid ⟨by show (app d.S _).length = 6; rw [app_length]; exact HSn.out, Nat.zero_le _⟩
          generalize d.crash kl = d3 at *
          clear hd ho hn HCr HD2 HL2 HCp
          go_wp2_with fail
          go_loopg [14] 6 (fun g i wq => ∃ (k : Nat), 6 - k ≤ g ∧ k ≤ 6 ∧ i = .int .i64 k ∧ Dv w wq b F3 d3 ∧ (Blk wq wb (bytesV ws) ∧ ¬ F3 wb))
          case atStart => exact ⟨0, by omega, by omega, rfl, HD3.out, HL3.out⟩
          case round =>
            obtain ⟨kk, hg2, hk2, rfl, hd2, hloc2⟩ := hrel
            have HDz := Lib.hid hd2
            have HLz := Lib.hid hloc2
            clear hd2 hloc2
            by_cases hlt : kk < 6
            · have hkk0 : (0 : Int) ≤ (kk : Int) := by omega
              have hkk1 : (kk : Int) < 6 := by omega
              obtain ⟨x0, hx0⟩ : ∃ x0, ws[kk]? = some x0 := ⟨_, List.getElem?_eq_getElem (by rw [HWn.out]; omega)⟩
              have HX0 := Lib.hid hx0
              have hre := read_yes_eq (d := d3) (k := kk) (s := fillA x0) (by rw [HCs.out.1]; omega) (by have := HCv.out; unfold D.view at this; rw [this, List.getElem?_map, hx0]; rfl)
              obtain ⟨hrd, hrr⟩ := hre
              have HR := Lib.hid (dv_read HDz.out HCs.out.2 (kk : Int))
              rw [hrd, hrr] at HR
              clear hx0 hrd hrr
              go_wp2_with fail
              refine HR.out.mono ?_
              rintro e wg1 ⟨rfl, hb⟩
              have HDg2 := Lib.hid (HDz.out.below hb)
              have HLg3 : Hid (Blk wg1 (wb) (bytesV ws) ∧ ¬ F3 (wb)) := Lib.hid ⟨HLz.out.1.below hb HLz.out.1.lt, HLz.out.2⟩
              clear hb HR
              go_wp2_with (first | ((with_reducible refine isNew ?_); refine wpList_store_new 37 _ _ rfl rfl 37 _ (fillA x0) rfl rfl (by rw [(fillA_sec x0).size]; exact info37) (zeros_size _ (fillA_sec x0)) (fillA_sec x0).one ?_; intro wg4 hx hbx; have HGg6 : Hid (w.heap.size ≤ wg1.heap.size) := Lib.hid HDg2.out.2.size; have HLg5 : Hid (Blk wg4 (wg1.heap.size) (fillA x0).toList ∧ ¬ F3 (wg1.heap.size)) := Lib.hid ⟨hx, fun h => Nat.lt_irrefl _ (HDg2.out.lt _ h).2⟩; have HNg7 : Hid (wb ≠ wg1.heap.size) := Lib.hid (Nat.ne_of_lt HLg3.out.1.lt); have HLg8 : Hid (Blk wg4 (wb) (bytesV ws) ∧ ¬ F3 (wb)) := Lib.hid ⟨HLg3.out.1.below hbx HLg3.out.1.lt, HLg3.out.2⟩; have HDg9 := Lib.hid (HDg2.out.below hbx); clear hx hbx))
              have HQ : Hid (Dv w wg4.drew b F3 d3 ∧ Blk wg4.drew wg1.heap.size (fillA x0).toList ∧ Blk wg4.drew wb (bytesV ws)) := Lib.hid ⟨HDg9.out.drew, HLg5.out.1.drew, HLg8.out.1.drew⟩
              refine startH (fun wq => (Dv w wq b F3 d3 ∧ Blk wq wg1.heap.size (fillA x0).toList ∧ Blk wq wb (bytesV ws))) (by kernel_rfl) ?_
              refine takeH 0 (some 144) (.int .i64 0) rfl rfl (by kernel_rfl) (by kernel_rfl) (by kernel_rfl) (fun _ _ _ h => h) rfl (fun w _ => by go_simp) HQ.out ?_
              simp only [Act.put, List.setIfInBounds_toArray, List.set_cons_succ, List.set_cons_zero]
              refine takeH 1 (some 145) (.bool false) rfl rfl (by kernel_rfl) (by kernel_rfl) (by kernel_rfl) (fun _ _ _ h => h) rfl (fun w _ => by go_simp) HQ.out ?_
              simp only [Act.put, List.setIfInBounds_toArray, List.set_cons_succ, List.set_cons_zero]
              refine takeH 2 (some 146) (.bool false) rfl rfl (by kernel_rfl) (by kernel_rfl) (by kernel_rfl) (fun _ _ _ h => h) rfl (fun w _ => by go_simp) HQ.out ?_
              simp only [Act.put, List.setIfInBounds_toArray, List.set_cons_succ, List.set_cons_zero]
              refine takeH 3 (some 147) (.agg (fillA x0)) rfl rfl (by kernel_rfl) (by kernel_rfl) (by kernel_rfl) (fun _ _ _ h => h) rfl (fun w hS => exec_load_at _ _ _ 37 _ rfl (wg1.heap.size) 0 rfl (fillA x0) _ Try.underlying37 rfl info37 (hS.2.1.cells _ rfl)) HQ.out ?_
              simp only [Act.put, List.setIfInBounds_toArray, List.set_cons_succ, List.set_cons_zero]
              refine takeH 4 (some 148) (.int .i64 (kk : Int)) rfl rfl (by kernel_rfl) (by kernel_rfl) (by kernel_rfl) (fun _ _ _ h => h) rfl (fun w _ => by go_simp) HQ.out ?_
              simp only [Act.put, List.setIfInBounds_toArray, List.set_cons_succ, List.set_cons_zero]
              refine takeH 5 (some 149) (.pointer (some ⟨wb, kk, none⟩)) rfl rfl (by kernel_rfl) (by kernel_rfl) (by kernel_rfl) (fun _ _ _ h => h) rfl (fun w _ => by go_simp) HQ.out ?_
              simp only [Act.put, List.setIfInBounds_toArray, List.set_cons_succ, List.set_cons_zero]
              refine takeH 6 (some 150) (.int .u8 x0) rfl rfl (by kernel_rfl) (by kernel_rfl) (by kernel_rfl) (fun _ _ _ h => h) rfl (fun w hS => exec_load1 _ _ _ 5 _ rfl ⟨wb, kk, none⟩ rfl _ _ Try.underlying5 rfl (hS.2.2.cell (bytesV_at HX0.out))) HQ.out ?_
              simp only [Act.put, List.setIfInBounds_toArray, List.set_cons_succ, List.set_cons_zero]
              refine oneH 7 (by kernel_rfl) rfl rfl fun K hK => ?_
              go_simp
              refine (fill_any x0 _).mono ?_
              rintro e wf ⟨rfl, hb⟩
              have HQ2 : Hid (Dv w wf b F3 d3 ∧ Blk wf wg1.heap.size (fillA x0).toList ∧ Blk wf wb (bytesV ws)) := Lib.hid ⟨HQ.out.1.below hb, HQ.out.2.1.below hb HQ.out.2.1.lt, HQ.out.2.2.below hb HQ.out.2.2.lt⟩
              refine hK _ _ HQ2.out ?_
              clear hK hb K
              refine takeH 8 (some 152) (.bool false) rfl rfl (by kernel_rfl) (by kernel_rfl) (by kernel_rfl) (fun _ _ _ h => h) rfl (fun w _ => by have hq := eq37 (fillA x0) (fillA_sec x0) w; go_simp) HQ2.out ?_
              simp only [Act.put, List.setIfInBounds_toArray, List.set_cons_succ, List.set_cons_zero]
              refine takeH 9 (some 153) (.bool false) rfl rfl (by kernel_rfl) (by kernel_rfl) (by kernel_rfl) (fun _ _ _ h => h) rfl (fun w _ => by go_simp) HQ2.out ?_
              simp only [Act.put, List.setIfInBounds_toArray, List.set_cons_succ, List.set_cons_zero]
              refine wpAnyH_done (by kernel_rfl) ?_ _
              go_wp2_with fail
              go_roundg (6 - (kk + 1))
              case measure => omega
              case rel => exact ⟨kk + 1, by omega, by omega, by go_num, HQ2.out.1, ⟨HQ2.out.2.2, HLg8.out.2⟩⟩
            · have hk7 : kk = 6 := by omega
              subst hk7
              clear hlt
              go_wp2_with fail
              refine (HW.out _).mono ?_
              rintro e w2 ⟨rfl, hb⟩
              have HB2 := Lib.hid (HDz.out.below hb).2
              clear hb
              go_wp2_with fail
              go_ret
              exact ⟨rfl, HB2.out⟩
end Go.Proofs.Ytdmjhpebpooiaaa
