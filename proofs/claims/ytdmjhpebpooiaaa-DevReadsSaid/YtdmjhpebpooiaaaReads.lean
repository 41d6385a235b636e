/- The statement DevReads's walk. -/
import Derived.Test.YtdmjhpebpooiaaaView
import Derived.Test.YtdmjhpebpooiaaaWakes
namespace Go.Proofs.Ytdmjhpebpooiaaa
open Go.RowKit
set_option maxRecDepth 100000 in
set_option maxHeartbeats 2000000 in
theorem reads_any (v : Value) (l : List St) (w : World) (hst : StsAt w v l) : Calls Try.prog 7 #[v] w fun e w' => e = .returned (.bool true) ∧ Below w.heap.size w w' := by
  have HFr := Lib.hid fun w2 h => fair_any v l w2 h
  have HSt := Lib.hid hst
  obtain ⟨a, cap, rfl, hl, hel⟩ := hst
  unfold maxLen at hl
  have HEl := Lib.hid hel
  clear hel
  go_enter Try.func7, Try.ntmps7
  go_wp2_with fail
  have H0 := Lib.hid (dv_new w w (Below.refl _ _) 7 (by omega))
  refine H0.out.mono ?_
  rintro e w0 ⟨b, F, rfl, hd, hb, hF⟩
  have HD0 := Lib.hid hd
  clear hd hb hF H0
  go_wp2_with fail
  have HF0 := Lib.hid (HFr.out w0 (HSt.out.below HD0.out.2))
  cases hfair : fairB l
  · rw [hfair] at HF0
    clear hfair
    refine HF0.out.mono ?_
    rintro e w' ⟨rfl, rfl⟩
    go_wp2_with fail
    have HW := Lib.hid (wakes_any w0)
    refine HW.out.mono ?_
    rintro e w2 ⟨rfl, hb⟩
    have HB2 := Lib.hid (HD0.out.below hb).2
    clear hb
    go_wp2_with fail
    go_ret
    exact ⟨rfl, HB2.out⟩
  · rw [hfair] at HF0
    have hlen := (fairB_mem hfair).1
    clear hfair hl
    refine HF0.out.mono ?_
    rintro e w' ⟨rfl, rfl⟩
    go_wp2_with ((refine wpList_alloc_g 59 rfl rfl _ info59z ?_); intro w1 hx hbx; have HG := Lib.hid HD0.out.2.size; have HL : Hid (Blk w1 w0.heap.size (flat (List.replicate 7 (fillA 0))) ∧ ¬ F w0.heap.size) := Lib.hid ⟨by rw [flat_zeros]; simpa using hx, fun h => Nat.lt_irrefl _ (HD0.out.lt _ h).2⟩; have HD1 := Lib.hid (HD0.out.below hbx); clear hx hbx)
    obtain ⟨wb, hwb⟩ : ∃ wb, wb = w0.heap.size := ⟨_, rfl⟩
    rw [← hwb] at HG HL ⊢
    clear hwb
    go_loopg [6] l.length (fun g i wr => ∃ (k : Nat) (F : Nat → Prop) (d : D), l.length - k ≤ g ∧ k ≤ l.length ∧ i = .int .i64 k ∧ Dv w wr b F d ∧ (Blk wr wb (flat d.view) ∧ ¬ F wb) ∧ d.S.length = 7 ∧ d.T ≤ k ∧ d.L.length ≤ k)
    case atStart => exact ⟨0, F, newD 7, by omega, by omega, rfl, HD1.out, HL.out, rfl, Nat.le_refl _, Nat.le_refl _⟩
    case round =>
      clear HFr HF0 HD0 HL HD1
      obtain ⟨k, F, d, hg, hk, rfl, hd, hloc, hSn, hT, hLn⟩ := hrel
      have HSn := Lib.hid hSn
      have HD := Lib.hid hd
      have HL := Lib.hid hloc
      clear hd hloc hSn
      by_cases hlt : k < l.length
      · obtain ⟨b0, o0, rfl, hs⟩ := HEl.out k hlt
        generalize hsk : l[k] = s at hs
        clear hsk
        have HS := Lib.hid hs
        clear hs
        have hk0 : (0 : Int) ≤ (k : Int) := by omega
        have hk1 : (k : Int) < (l.length : Int) := by omega
        obtain ⟨kk, hkk, hkl⟩ := mod_nat s.i 7 (by omega)
        have HMod := Lib.hid fun w2 => mod_any s.i 7 (by decide) (by decide) w2
        rw [show s.i % 7 = (kk : Int) from hkk] at HMod
        clear hkk
        have hkk0 : (0 : Int) ≤ (kk : Int) := by omega
        have hkk1 : (kk : Int) < 7 := by omega
        by_cases k0 : s.kind = 0
        · have e0 : (s.kind == 0) = true := beq_iff_eq.2 k0
          clear k0
          by_cases h0 : d.F = 0
          · have h0 := Lib.hid h0
            have cz01s := HS.out.below HD.out.2
            have cz01k := cz01s.kind
            have cz01i := cz01s.i
            have cz01v := cz01s.v
            clear cz01s
            go_wp2_with fail
            have Hz02 := Lib.hid (HMod.out wr)
            refine Hz02.out.mono ?_
            rintro e w' ⟨rfl, rfl⟩
            clear Hz02
            go_wp2_with fail
            have Hz03 := Lib.hid (fill_any s.v wr)
            refine Hz03.out.mono ?_
            rintro e wz04 ⟨rfl, hb⟩
            have HDz05 := Lib.hid (HD.out.below hb)
            have HLz06 : Hid (Blk wz04 (wb) (flat d.view) ∧ ¬ F (wb)) := Lib.hid ⟨HL.out.1.below hb HL.out.1.lt, HL.out.2⟩
            clear hb Hz03
            have cz07s := HS.out.below HDz05.out.2
            have cz07k := cz07s.kind
            have cz07i := cz07s.i
            have cz07v := cz07s.v
            clear cz07s
            clear cz01k cz01i cz01v
            go_wp2_with fail
            have HWr := Lib.hid (dv_write HDz05.out (by omega) (by omega) (kk : Int) (fillA s.v) (fillA_sec s.v))
            rw [(write_fail (k := kk) (by rw [HSn.out]; omega) h0.out (fillA s.v)).1, (write_fail (k := kk) (by rw [HSn.out]; omega) h0.out (fillA s.v)).2] at HWr
            have Hz08 := Lib.hid (show Calls _ _ _ _ (After w wz04 b F (.int .i64 12) ({ d with F := -1 })) from HWr.out)
            refine Hz08.out.mono ?_
            rintro e wz09 ⟨Fz010, rfl, hd, ho, hn⟩
            have HDz011 := Lib.hid hd
            have HLz012 : Hid (Blk wz09 (wb) (flat d.view) ∧ ¬ Fz010 (wb)) := Lib.hid (HLz06.out.1.after HLz06.out.2 ho hn)
            clear hd ho hn Hz08
            have cz013s := HS.out.below HDz011.out.2
            have cz013k := cz013s.kind
            have cz013i := cz013s.i
            have cz013v := cz013s.v
            clear cz013s
            clear cz07k cz07i cz07v
            have HOk : Hid (({ d with F := -1 } : D).S.length = 7 ∧ ({ d with F := -1 } : D).T ≤ k + 1 ∧ ({ d with F := -1 } : D).L.length ≤ k + 1) := Lib.hid ⟨HSn.out, by simp only; omega, by simp only; omega⟩
            go_wp2_with fail
            obtain ⟨sx, hsx, hrd, hre⟩ := view_at (d := ({ d with F := -1 } : D)) (k := kk) (by rw [HOk.out.1]; omega)
            have HV := Lib.hid hsx
            have HSec := Lib.hid (HDz011.out.secs sx (List.mem_of_getElem? hsx))
            have HR := Lib.hid (dv_read HDz011.out (Nat.le_trans HOk.out.2.2 (by omega)) (kk : Int))
            rw [hrd, hre] at HR
            clear hsx hrd hre
            refine HR.out.mono ?_
            rintro e wz014 ⟨rfl, hb⟩
            have HDz015 := Lib.hid (HDz011.out.below hb)
            have HLz016 : Hid (Blk wz014 (wb) (flat d.view) ∧ ¬ Fz010 (wb)) := Lib.hid ⟨HLz012.out.1.below hb HLz012.out.1.lt, HLz012.out.2⟩
            clear hb HR
            go_wp2_with (first | ((with_reducible refine isNew ?_); refine wpList_store_new 37 _ _ rfl rfl 37 _ (sx) rfl rfl (by rw [HSec.out.size]; exact info37) (zeros_size _ HSec.out) HSec.out.one ?_; intro wz017 hx hbx; have HGz019 : Hid (w.heap.size ≤ wz014.heap.size) := Lib.hid HDz015.out.2.size; have HLz018 : Hid (Blk wz017 (wz014.heap.size) (sx).toList ∧ ¬ Fz010 (wz014.heap.size)) := Lib.hid ⟨hx, fun h => Nat.lt_irrefl _ (HDz015.out.lt _ h).2⟩; have HNz020 : Hid (wb ≠ wz014.heap.size) := Lib.hid (Nat.ne_of_lt HLz016.out.1.lt); have HLz021 : Hid (Blk wz017 (wb) (flat d.view) ∧ ¬ Fz010 (wb)) := Lib.hid ⟨HLz016.out.1.below hbx HLz016.out.1.lt, HLz016.out.2⟩; have HDz022 := Lib.hid (HDz015.out.below hbx); clear hx hbx))
            have HQ : Hid (Dv w wz017.drew b Fz010 (({ d with F := -1 } : D)) ∧ Blk wz017.drew wz014.heap.size sx.toList ∧ Blk wz017.drew wb (flat (({ d with F := -1 } : D)).view)) := Lib.hid ⟨HDz022.out.drew, HLz018.out.1.drew, HLz021.out.1.drew⟩
            have HVs := Lib.hid HDz022.out.secs
            refine startH (fun wq => (Dv w wq b Fz010 (({ d with F := -1 } : D)) ∧ Blk wq wz014.heap.size sx.toList ∧ Blk wq wb (flat (({ d with F := -1 } : D)).view))) (by kernel_rfl) ?_
            refine takeH 0 (some 89) (.int .i64 0) rfl rfl (by kernel_rfl) (by kernel_rfl) (by kernel_rfl) (fun _ _ _ h => h) rfl (fun w _ => by go_simp) HQ.out ?_
            simp only [Act.put, List.setIfInBounds_toArray, List.set_cons_succ, List.set_cons_zero]
            refine takeH 1 (some 90) (.bool false) rfl rfl (by kernel_rfl) (by kernel_rfl) (by kernel_rfl) (fun _ _ _ h => h) rfl (fun w _ => by go_simp) HQ.out ?_
            simp only [Act.put, List.setIfInBounds_toArray, List.set_cons_succ, List.set_cons_zero]
            refine takeH 2 (some 91) (.bool false) rfl rfl (by kernel_rfl) (by kernel_rfl) (by kernel_rfl) (fun _ _ _ h => h) rfl (fun w _ => by go_simp) HQ.out ?_
            simp only [Act.put, List.setIfInBounds_toArray, List.set_cons_succ, List.set_cons_zero]
            refine takeH 3 (some 92) (.agg sx) rfl rfl (by kernel_rfl) (by kernel_rfl) (by kernel_rfl) (fun _ _ _ h => h) rfl (fun w hS => exec_load_at _ _ _ 37 _ rfl (wz014.heap.size) 0 rfl sx _ Try.underlying37 rfl (by rw [HSec.out.size]; exact info37) (hS.2.1.cells _ rfl)) HQ.out ?_
            simp only [Act.put, List.setIfInBounds_toArray, List.set_cons_succ, List.set_cons_zero]
            refine takeH 4 (some 93) (.int .i64 (kk : Int)) rfl rfl (by kernel_rfl) (by kernel_rfl) (by kernel_rfl) (fun _ _ _ h => h) rfl (fun w _ => by go_simp) HQ.out ?_
            simp only [Act.put, List.setIfInBounds_toArray, List.set_cons_succ, List.set_cons_zero]
            refine takeH 5 (some 94) (.pointer (some ⟨wb, kk * 64, none⟩)) rfl rfl (by kernel_rfl) (by kernel_rfl) (by kernel_rfl) (fun _ _ _ h => h) rfl (fun w _ => by go_simp) HQ.out ?_
            simp only [Act.put, List.setIfInBounds_toArray, List.set_cons_succ, List.set_cons_zero]
            refine takeH 6 (some 95) (.agg sx) rfl rfl (by kernel_rfl) (by kernel_rfl) (by kernel_rfl) (fun _ _ _ h => h) rfl (fun w hS => exec_load_at _ _ _ 37 _ rfl wb (kk * 64) rfl sx _ Try.underlying37 rfl (by rw [HSec.out.size]; exact info37) (flat_load hS.2.2 HVs.out HV.out)) HQ.out ?_
            simp only [Act.put, List.setIfInBounds_toArray, List.set_cons_succ, List.set_cons_zero]
            refine takeH 7 (some 96) (.bool false) rfl rfl (by kernel_rfl) (by kernel_rfl) (by kernel_rfl) (fun _ _ _ h => h) rfl (fun w _ => by have hq := eq37 sx HSec.out w; go_simp) HQ.out ?_
            simp only [Act.put, List.setIfInBounds_toArray, List.set_cons_succ, List.set_cons_zero]
            refine takeH 8 (some 97) (.bool false) rfl rfl (by kernel_rfl) (by kernel_rfl) (by kernel_rfl) (fun _ _ _ h => h) rfl (fun w _ => by go_simp) HQ.out ?_
            simp only [Act.put, List.setIfInBounds_toArray, List.set_cons_succ, List.set_cons_zero]
            refine wpAnyH_done (by kernel_rfl) ?_ _
            go_wp2_with fail
            go_roundg (l.length - (k + 1))
            case measure => omega
            case rel => exact ⟨k + 1, Fz010, ({ d with F := -1 } : D), by omega, by omega, by go_num, HQ.out.1, ⟨HQ.out.2.2, HLz021.out.2⟩, HOk.out.1, HOk.out.2.1, HOk.out.2.2⟩
          · have h0 := Lib.hid h0
            have cz11s := HS.out.below HD.out.2
            have cz11k := cz11s.kind
            have cz11i := cz11s.i
            have cz11v := cz11s.v
            clear cz11s
            go_wp2_with fail
            have Hz12 := Lib.hid (HMod.out wr)
            refine Hz12.out.mono ?_
            rintro e w' ⟨rfl, rfl⟩
            clear Hz12
            go_wp2_with fail
            have Hz13 := Lib.hid (fill_any s.v wr)
            refine Hz13.out.mono ?_
            rintro e wz14 ⟨rfl, hb⟩
            have HDz15 := Lib.hid (HD.out.below hb)
            have HLz16 : Hid (Blk wz14 (wb) (flat d.view) ∧ ¬ F (wb)) := Lib.hid ⟨HL.out.1.below hb HL.out.1.lt, HL.out.2⟩
            clear hb Hz13
            have cz17s := HS.out.below HDz15.out.2
            have cz17k := cz17s.kind
            have cz17i := cz17s.i
            have cz17v := cz17s.v
            clear cz17s
            clear cz11k cz11i cz11v
            go_wp2_with fail
            have HWr := Lib.hid (dv_write HDz15.out (by omega) (by omega) (kk : Int) (fillA s.v) (fillA_sec s.v))
            rw [(write_ok (k := kk) (by rw [HSn.out]; omega) h0.out (fillA s.v)).1, (write_ok (k := kk) (by rw [HSn.out]; omega) h0.out (fillA s.v)).2] at HWr
            have Hz18 := Lib.hid (show Calls _ _ _ _ (After w wz14 b F (.int .i64 0) ({ d with F := d.nextF, T := d.T + 1, L := d.L ++ [(kk, fillA s.v)] })) from HWr.out)
            refine Hz18.out.mono ?_
            rintro e wz19 ⟨Fz110, rfl, hd, ho, hn⟩
            have HDz111 := Lib.hid hd
            have HLz112 : Hid (Blk wz19 (wb) (flat d.view) ∧ ¬ Fz110 (wb)) := Lib.hid (HLz16.out.1.after HLz16.out.2 ho hn)
            clear hd ho hn Hz18
            have cz113s := HS.out.below HDz111.out.2
            have cz113k := cz113s.kind
            have cz113i := cz113s.i
            have cz113v := cz113s.v
            clear cz113s
            clear cz17k cz17i cz17v
            have HOk : Hid (({ d with F := d.nextF, T := d.T + 1, L := d.L ++ [(kk, fillA s.v)] } : D).S.length = 7 ∧ ({ d with F := d.nextF, T := d.T + 1, L := d.L ++ [(kk, fillA s.v)] } : D).T ≤ k + 1 ∧ ({ d with F := d.nextF, T := d.T + 1, L := d.L ++ [(kk, fillA s.v)] } : D).L.length ≤ k + 1) := Lib.hid ⟨HSn.out, by simp only; omega, by simp; omega⟩
            go_wp2_with fail
            have Hz114 := Lib.hid (fill_any s.v wz19)
            refine Hz114.out.mono ?_
            rintro e wz115 ⟨rfl, hb⟩
            have HDz116 := Lib.hid (HDz111.out.below hb)
            have HLz117 : Hid (Blk wz115 (wb) (flat d.view) ∧ ¬ Fz110 (wb)) := Lib.hid ⟨HLz112.out.1.below hb HLz112.out.1.lt, HLz112.out.2⟩
            clear hb Hz114
            have cz118s := HS.out.below HDz116.out.2
            have cz118k := cz118s.kind
            have cz118i := cz118s.i
            have cz118v := cz118s.v
            clear cz118s
            clear cz113k cz113i cz113v
            have HVd : Hid ((∀ t ∈ d.view, Sec t) ∧ kk < d.view.length) := Lib.hid ⟨HD.out.secs, by rw [D.view_length, HSn.out]; omega⟩
            go_wp2_with ((with_reducible refine isStore ?_); refine wpList_store_flat 37 _ _ rfl rfl wb kk d.view (fillA s.v) rfl rfl HLz117.out.1 info37 HVd.out.1 HVd.out.2 (fillA_sec s.v) ?_; intro wz119 hx hox; have HLz120 : Hid (Blk wz119 wb (flat ({ d with F := d.nextF, T := d.T + 1, L := d.L ++ [(kk, fillA s.v)] } : D).view) ∧ ¬ Fz110 wb) := Lib.hid ⟨by rw [show ({ d with F := d.nextF, T := d.T + 1, L := d.L ++ [(kk, fillA s.v)] } : D).view = d.view.set kk (fillA s.v) from app_snoc _ _ _]; exact hx, HLz117.out.2⟩; have HDz121 := Lib.hid (HDz116.out.go1 hox HG.out HLz117.out.2); clear hx hox)
            obtain ⟨sx, hsx, hrd, hre⟩ := view_at (d := ({ d with F := d.nextF, T := d.T + 1, L := d.L ++ [(kk, fillA s.v)] } : D)) (k := kk) (by rw [HOk.out.1]; omega)
            have HV := Lib.hid hsx
            have HSec := Lib.hid (HDz121.out.secs sx (List.mem_of_getElem? hsx))
            have HR := Lib.hid (dv_read HDz121.out (Nat.le_trans HOk.out.2.2 (by omega)) (kk : Int))
            rw [hrd, hre] at HR
            clear hsx hrd hre
            refine HR.out.mono ?_
            rintro e wz122 ⟨rfl, hb⟩
            have HDz123 := Lib.hid (HDz121.out.below hb)
            have HLz124 : Hid (Blk wz122 (wb) (flat ({ d with F := d.nextF, T := d.T + 1, L := d.L ++ [(kk, fillA s.v)] } : D).view) ∧ ¬ Fz110 (wb)) := Lib.hid ⟨HLz120.out.1.below hb HLz120.out.1.lt, HLz120.out.2⟩
            clear hb HR
            go_wp2_with (first | ((with_reducible refine isNew ?_); refine wpList_store_new 37 _ _ rfl rfl 37 _ (sx) rfl rfl (by rw [HSec.out.size]; exact info37) (zeros_size _ HSec.out) HSec.out.one ?_; intro wz125 hx hbx; have HGz127 : Hid (w.heap.size ≤ wz122.heap.size) := Lib.hid HDz123.out.2.size; have HLz126 : Hid (Blk wz125 (wz122.heap.size) (sx).toList ∧ ¬ Fz110 (wz122.heap.size)) := Lib.hid ⟨hx, fun h => Nat.lt_irrefl _ (HDz123.out.lt _ h).2⟩; have HNz128 : Hid (wb ≠ wz122.heap.size) := Lib.hid (Nat.ne_of_lt HLz124.out.1.lt); have HLz129 : Hid (Blk wz125 (wb) (flat ({ d with F := d.nextF, T := d.T + 1, L := d.L ++ [(kk, fillA s.v)] } : D).view) ∧ ¬ Fz110 (wb)) := Lib.hid ⟨HLz124.out.1.below hbx HLz124.out.1.lt, HLz124.out.2⟩; have HDz130 := Lib.hid (HDz123.out.below hbx); clear hx hbx))
            have HQ : Hid (Dv w wz125.drew b Fz110 (({ d with F := d.nextF, T := d.T + 1, L := d.L ++ [(kk, fillA s.v)] } : D)) ∧ Blk wz125.drew wz122.heap.size sx.toList ∧ Blk wz125.drew wb (flat (({ d with F := d.nextF, T := d.T + 1, L := d.L ++ [(kk, fillA s.v)] } : D)).view)) := Lib.hid ⟨HDz130.out.drew, HLz126.out.1.drew, HLz129.out.1.drew⟩
            have HVs := Lib.hid HDz130.out.secs
            refine startH (fun wq => (Dv w wq b Fz110 (({ d with F := d.nextF, T := d.T + 1, L := d.L ++ [(kk, fillA s.v)] } : D)) ∧ Blk wq wz122.heap.size sx.toList ∧ Blk wq wb (flat (({ d with F := d.nextF, T := d.T + 1, L := d.L ++ [(kk, fillA s.v)] } : D)).view))) (by kernel_rfl) ?_
            refine takeH 0 (some 89) (.int .i64 0) rfl rfl (by kernel_rfl) (by kernel_rfl) (by kernel_rfl) (fun _ _ _ h => h) rfl (fun w _ => by go_simp) HQ.out ?_
            simp only [Act.put, List.setIfInBounds_toArray, List.set_cons_succ, List.set_cons_zero]
            refine takeH 1 (some 90) (.bool false) rfl rfl (by kernel_rfl) (by kernel_rfl) (by kernel_rfl) (fun _ _ _ h => h) rfl (fun w _ => by go_simp) HQ.out ?_
            simp only [Act.put, List.setIfInBounds_toArray, List.set_cons_succ, List.set_cons_zero]
            refine takeH 2 (some 91) (.bool false) rfl rfl (by kernel_rfl) (by kernel_rfl) (by kernel_rfl) (fun _ _ _ h => h) rfl (fun w _ => by go_simp) HQ.out ?_
            simp only [Act.put, List.setIfInBounds_toArray, List.set_cons_succ, List.set_cons_zero]
            refine takeH 3 (some 92) (.agg sx) rfl rfl (by kernel_rfl) (by kernel_rfl) (by kernel_rfl) (fun _ _ _ h => h) rfl (fun w hS => exec_load_at _ _ _ 37 _ rfl (wz122.heap.size) 0 rfl sx _ Try.underlying37 rfl (by rw [HSec.out.size]; exact info37) (hS.2.1.cells _ rfl)) HQ.out ?_
            simp only [Act.put, List.setIfInBounds_toArray, List.set_cons_succ, List.set_cons_zero]
            refine takeH 4 (some 93) (.int .i64 (kk : Int)) rfl rfl (by kernel_rfl) (by kernel_rfl) (by kernel_rfl) (fun _ _ _ h => h) rfl (fun w _ => by go_simp) HQ.out ?_
            simp only [Act.put, List.setIfInBounds_toArray, List.set_cons_succ, List.set_cons_zero]
            refine takeH 5 (some 94) (.pointer (some ⟨wb, kk * 64, none⟩)) rfl rfl (by kernel_rfl) (by kernel_rfl) (by kernel_rfl) (fun _ _ _ h => h) rfl (fun w _ => by go_simp) HQ.out ?_
            simp only [Act.put, List.setIfInBounds_toArray, List.set_cons_succ, List.set_cons_zero]
            refine takeH 6 (some 95) (.agg sx) rfl rfl (by kernel_rfl) (by kernel_rfl) (by kernel_rfl) (fun _ _ _ h => h) rfl (fun w hS => exec_load_at _ _ _ 37 _ rfl wb (kk * 64) rfl sx _ Try.underlying37 rfl (by rw [HSec.out.size]; exact info37) (flat_load hS.2.2 HVs.out HV.out)) HQ.out ?_
            simp only [Act.put, List.setIfInBounds_toArray, List.set_cons_succ, List.set_cons_zero]
            refine takeH 7 (some 96) (.bool false) rfl rfl (by kernel_rfl) (by kernel_rfl) (by kernel_rfl) (fun _ _ _ h => h) rfl (fun w _ => by have hq := eq37 sx HSec.out w; go_simp) HQ.out ?_
            simp only [Act.put, List.setIfInBounds_toArray, List.set_cons_succ, List.set_cons_zero]
            refine takeH 8 (some 97) (.bool false) rfl rfl (by kernel_rfl) (by kernel_rfl) (by kernel_rfl) (fun _ _ _ h => h) rfl (fun w _ => by go_simp) HQ.out ?_
            simp only [Act.put, List.setIfInBounds_toArray, List.set_cons_succ, List.set_cons_zero]
            refine wpAnyH_done (by kernel_rfl) ?_ _
            go_wp2_with fail
            go_roundg (l.length - (k + 1))
            case measure => omega
            case rel => exact ⟨k + 1, Fz110, ({ d with F := d.nextF, T := d.T + 1, L := d.L ++ [(kk, fillA s.v)] } : D), by omega, by omega, by go_num, HQ.out.1, ⟨HQ.out.2.2, HLz129.out.2⟩, HOk.out.1, HOk.out.2.1, HOk.out.2.2⟩
        have e0 : (s.kind == 0) = false := beq_eq_false_iff_ne.2 k0
        by_cases k2 : s.kind = 2
        · have e2 : (s.kind == 2) = true := beq_iff_eq.2 k2
          clear k0 k2
          by_cases h0 : d.F = 0
          · have h0 := Lib.hid h0
            have ct01s := HS.out.below HD.out.2
            have ct01k := ct01s.kind
            have ct01i := ct01s.i
            have ct01v := ct01s.v
            clear ct01s
            go_wp2_with fail
            have Ht02 := Lib.hid (HMod.out wr)
            refine Ht02.out.mono ?_
            rintro e w' ⟨rfl, rfl⟩
            clear Ht02
            go_wp2_with fail
            have HWr := Lib.hid (dv_flush HD.out (by omega) (by omega))
            rw [(flush_fail (d := d) h0.out).1, (flush_fail (d := d) h0.out).2] at HWr
            have Ht03 := Lib.hid (show Calls _ _ _ _ (After w wr b F (.int .i64 12) ({ d with F := -1 })) from HWr.out)
            refine Ht03.out.mono ?_
            rintro e wt04 ⟨Ft05, rfl, hd, ho, hn⟩
            have HDt06 := Lib.hid hd
            have HLt07 : Hid (Blk wt04 (wb) (flat d.view) ∧ ¬ Ft05 (wb)) := Lib.hid (HL.out.1.after HL.out.2 ho hn)
            clear hd ho hn Ht03
            have ct08s := HS.out.below HDt06.out.2
            have ct08k := ct08s.kind
            have ct08i := ct08s.i
            have ct08v := ct08s.v
            clear ct08s
            clear ct01k ct01i ct01v
            have HOk : Hid (({ d with F := -1 } : D).S.length = 7 ∧ ({ d with F := -1 } : D).T ≤ k + 1 ∧ ({ d with F := -1 } : D).L.length ≤ k + 1) := Lib.hid ⟨HSn.out, by simp only; omega, by simp only; omega⟩
            go_wp2_with fail
            obtain ⟨sx, hsx, hrd, hre⟩ := view_at (d := ({ d with F := -1 } : D)) (k := kk) (by rw [HOk.out.1]; omega)
            have HV := Lib.hid hsx
            have HSec := Lib.hid (HDt06.out.secs sx (List.mem_of_getElem? hsx))
            have HR := Lib.hid (dv_read HDt06.out (Nat.le_trans HOk.out.2.2 (by omega)) (kk : Int))
            rw [hrd, hre] at HR
            clear hsx hrd hre
            refine HR.out.mono ?_
            rintro e wt010 ⟨rfl, hb⟩
            have HDt011 := Lib.hid (HDt06.out.below hb)
            have HLt012 : Hid (Blk wt010 (wb) (flat d.view) ∧ ¬ Ft05 (wb)) := Lib.hid ⟨HLt07.out.1.below hb HLt07.out.1.lt, HLt07.out.2⟩
            clear hb HR
            go_wp2_with (first | ((with_reducible refine isNew ?_); refine wpList_store_new 37 _ _ rfl rfl 37 _ (sx) rfl rfl (by rw [HSec.out.size]; exact info37) (zeros_size _ HSec.out) HSec.out.one ?_; intro wt013 hx hbx; have HGt015 : Hid (w.heap.size ≤ wt010.heap.size) := Lib.hid HDt011.out.2.size; have HLt014 : Hid (Blk wt013 (wt010.heap.size) (sx).toList ∧ ¬ Ft05 (wt010.heap.size)) := Lib.hid ⟨hx, fun h => Nat.lt_irrefl _ (HDt011.out.lt _ h).2⟩; have HNt016 : Hid (wb ≠ wt010.heap.size) := Lib.hid (Nat.ne_of_lt HLt012.out.1.lt); have HLt017 : Hid (Blk wt013 (wb) (flat d.view) ∧ ¬ Ft05 (wb)) := Lib.hid ⟨HLt012.out.1.below hbx HLt012.out.1.lt, HLt012.out.2⟩; have HDt018 := Lib.hid (HDt011.out.below hbx); clear hx hbx))
            have HQ : Hid (Dv w wt013.drew b Ft05 (({ d with F := -1 } : D)) ∧ Blk wt013.drew wt010.heap.size sx.toList ∧ Blk wt013.drew wb (flat (({ d with F := -1 } : D)).view)) := Lib.hid ⟨HDt018.out.drew, HLt014.out.1.drew, HLt017.out.1.drew⟩
            have HVs := Lib.hid HDt018.out.secs
            refine startH (fun wq => (Dv w wq b Ft05 (({ d with F := -1 } : D)) ∧ Blk wq wt010.heap.size sx.toList ∧ Blk wq wb (flat (({ d with F := -1 } : D)).view))) (by kernel_rfl) ?_
            refine takeH 0 (some 89) (.int .i64 0) rfl rfl (by kernel_rfl) (by kernel_rfl) (by kernel_rfl) (fun _ _ _ h => h) rfl (fun w _ => by go_simp) HQ.out ?_
            simp only [Act.put, List.setIfInBounds_toArray, List.set_cons_succ, List.set_cons_zero]
            refine takeH 1 (some 90) (.bool false) rfl rfl (by kernel_rfl) (by kernel_rfl) (by kernel_rfl) (fun _ _ _ h => h) rfl (fun w _ => by go_simp) HQ.out ?_
            simp only [Act.put, List.setIfInBounds_toArray, List.set_cons_succ, List.set_cons_zero]
            refine takeH 2 (some 91) (.bool false) rfl rfl (by kernel_rfl) (by kernel_rfl) (by kernel_rfl) (fun _ _ _ h => h) rfl (fun w _ => by go_simp) HQ.out ?_
            simp only [Act.put, List.setIfInBounds_toArray, List.set_cons_succ, List.set_cons_zero]
            refine takeH 3 (some 92) (.agg sx) rfl rfl (by kernel_rfl) (by kernel_rfl) (by kernel_rfl) (fun _ _ _ h => h) rfl (fun w hS => exec_load_at _ _ _ 37 _ rfl (wt010.heap.size) 0 rfl sx _ Try.underlying37 rfl (by rw [HSec.out.size]; exact info37) (hS.2.1.cells _ rfl)) HQ.out ?_
            simp only [Act.put, List.setIfInBounds_toArray, List.set_cons_succ, List.set_cons_zero]
            refine takeH 4 (some 93) (.int .i64 (kk : Int)) rfl rfl (by kernel_rfl) (by kernel_rfl) (by kernel_rfl) (fun _ _ _ h => h) rfl (fun w _ => by go_simp) HQ.out ?_
            simp only [Act.put, List.setIfInBounds_toArray, List.set_cons_succ, List.set_cons_zero]
            refine takeH 5 (some 94) (.pointer (some ⟨wb, kk * 64, none⟩)) rfl rfl (by kernel_rfl) (by kernel_rfl) (by kernel_rfl) (fun _ _ _ h => h) rfl (fun w _ => by go_simp) HQ.out ?_
            simp only [Act.put, List.setIfInBounds_toArray, List.set_cons_succ, List.set_cons_zero]
            refine takeH 6 (some 95) (.agg sx) rfl rfl (by kernel_rfl) (by kernel_rfl) (by kernel_rfl) (fun _ _ _ h => h) rfl (fun w hS => exec_load_at _ _ _ 37 _ rfl wb (kk * 64) rfl sx _ Try.underlying37 rfl (by rw [HSec.out.size]; exact info37) (flat_load hS.2.2 HVs.out HV.out)) HQ.out ?_
            simp only [Act.put, List.setIfInBounds_toArray, List.set_cons_succ, List.set_cons_zero]
            refine takeH 7 (some 96) (.bool false) rfl rfl (by kernel_rfl) (by kernel_rfl) (by kernel_rfl) (fun _ _ _ h => h) rfl (fun w _ => by have hq := eq37 sx HSec.out w; go_simp) HQ.out ?_
            simp only [Act.put, List.setIfInBounds_toArray, List.set_cons_succ, List.set_cons_zero]
            refine takeH 8 (some 97) (.bool false) rfl rfl (by kernel_rfl) (by kernel_rfl) (by kernel_rfl) (fun _ _ _ h => h) rfl (fun w _ => by go_simp) HQ.out ?_
            simp only [Act.put, List.setIfInBounds_toArray, List.set_cons_succ, List.set_cons_zero]
            refine wpAnyH_done (by kernel_rfl) ?_ _
            go_wp2_with fail
            go_roundg (l.length - (k + 1))
            case measure => omega
            case rel => exact ⟨k + 1, Ft05, ({ d with F := -1 } : D), by omega, by omega, by go_num, HQ.out.1, ⟨HQ.out.2.2, HLt017.out.2⟩, HOk.out.1, HOk.out.2.1, HOk.out.2.2⟩
          · have h0 := Lib.hid h0
            have ct11s := HS.out.below HD.out.2
            have ct11k := ct11s.kind
            have ct11i := ct11s.i
            have ct11v := ct11s.v
            clear ct11s
            go_wp2_with fail
            have Ht12 := Lib.hid (HMod.out wr)
            refine Ht12.out.mono ?_
            rintro e w' ⟨rfl, rfl⟩
            clear Ht12
            go_wp2_with fail
            have HWr := Lib.hid (dv_flush HD.out (by omega) (by omega))
            rw [(flush_ok (d := d) h0.out).1, (flush_ok (d := d) h0.out).2] at HWr
            have Ht13 := Lib.hid (show Calls _ _ _ _ (After w wr b F (.int .i64 0) ({ d with F := d.nextF, T := d.T + 1, S := app d.S d.L, L := [] })) from HWr.out)
            refine Ht13.out.mono ?_
            rintro e wt14 ⟨Ft15, rfl, hd, ho, hn⟩
            have HDt16 := Lib.hid hd
            have HLt17 : Hid (Blk wt14 (wb) (flat d.view) ∧ ¬ Ft15 (wb)) := Lib.hid (HL.out.1.after HL.out.2 ho hn)
            clear hd ho hn Ht13
            have ct18s := HS.out.below HDt16.out.2
            have ct18k := ct18s.kind
            have ct18i := ct18s.i
            have ct18v := ct18s.v
            clear ct18s
            clear ct11k ct11i ct11v
            have HOk : Hid (({ d with F := d.nextF, T := d.T + 1, S := app d.S d.L, L := [] } : D).S.length = 7 ∧ ({ d with F := d.nextF, T := d.T + 1, S := app d.S d.L, L := [] } : D).T ≤ k + 1 ∧ ({ d with F := d.nextF, T := d.T + 1, S := app d.S d.L, L := [] } : D).L.length ≤ k + 1) := Lib.hid ⟨by simp only [app_length]; exact HSn.out, by simp only; omega, by simp only [List.length_nil]; omega⟩
            have HLt19 : Hid (Blk wt14 wb (flat ({ d with F := d.nextF, T := d.T + 1, S := app d.S d.L, L := [] } : D).view) ∧ ¬ Ft15 wb) := HLt17
            go_wp2_with fail
            obtain ⟨sx, hsx, hrd, hre⟩ := view_at (d := ({ d with F := d.nextF, T := d.T + 1, S := app d.S d.L, L := [] } : D)) (k := kk) (by rw [HOk.out.1]; omega)
            have HV := Lib.hid hsx
            have HSec := Lib.hid (HDt16.out.secs sx (List.mem_of_getElem? hsx))
            have HR := Lib.hid (dv_read HDt16.out (Nat.le_trans HOk.out.2.2 (by omega)) (kk : Int))
            rw [hrd, hre] at HR
            clear hsx hrd hre
            refine HR.out.mono ?_
            rintro e wt110 ⟨rfl, hb⟩
            have HDt111 := Lib.hid (HDt16.out.below hb)
            have HLt112 : Hid (Blk wt110 (wb) (flat ({ d with F := d.nextF, T := d.T + 1, S := app d.S d.L, L := [] } : D).view) ∧ ¬ Ft15 (wb)) := Lib.hid ⟨HLt19.out.1.below hb HLt19.out.1.lt, HLt19.out.2⟩
            clear hb HR
            go_wp2_with (first | ((with_reducible refine isNew ?_); refine wpList_store_new 37 _ _ rfl rfl 37 _ (sx) rfl rfl (by rw [HSec.out.size]; exact info37) (zeros_size _ HSec.out) HSec.out.one ?_; intro wt113 hx hbx; have HGt115 : Hid (w.heap.size ≤ wt110.heap.size) := Lib.hid HDt111.out.2.size; have HLt114 : Hid (Blk wt113 (wt110.heap.size) (sx).toList ∧ ¬ Ft15 (wt110.heap.size)) := Lib.hid ⟨hx, fun h => Nat.lt_irrefl _ (HDt111.out.lt _ h).2⟩; have HNt116 : Hid (wb ≠ wt110.heap.size) := Lib.hid (Nat.ne_of_lt HLt112.out.1.lt); have HLt117 : Hid (Blk wt113 (wb) (flat ({ d with F := d.nextF, T := d.T + 1, S := app d.S d.L, L := [] } : D).view) ∧ ¬ Ft15 (wb)) := Lib.hid ⟨HLt112.out.1.below hbx HLt112.out.1.lt, HLt112.out.2⟩; have HDt118 := Lib.hid (HDt111.out.below hbx); clear hx hbx))
            have HQ : Hid (Dv w wt113.drew b Ft15 (({ d with F := d.nextF, T := d.T + 1, S := app d.S d.L, L := [] } : D)) ∧ Blk wt113.drew wt110.heap.size sx.toList ∧ Blk wt113.drew wb (flat (({ d with F := d.nextF, T := d.T + 1, S := app d.S d.L, L := [] } : D)).view)) := Lib.hid ⟨HDt118.out.drew, HLt114.out.1.drew, HLt117.out.1.drew⟩
            have HVs := Lib.hid HDt118.out.secs
            refine startH (fun wq => (Dv w wq b Ft15 (({ d with F := d.nextF, T := d.T + 1, S := app d.S d.L, L := [] } : D)) ∧ Blk wq wt110.heap.size sx.toList ∧ Blk wq wb (flat (({ d with F := d.nextF, T := d.T + 1, S := app d.S d.L, L := [] } : D)).view))) (by kernel_rfl) ?_
            refine takeH 0 (some 89) (.int .i64 0) rfl rfl (by kernel_rfl) (by kernel_rfl) (by kernel_rfl) (fun _ _ _ h => h) rfl (fun w _ => by go_simp) HQ.out ?_
            simp only [Act.put, List.setIfInBounds_toArray, List.set_cons_succ, List.set_cons_zero]
            refine takeH 1 (some 90) (.bool false) rfl rfl (by kernel_rfl) (by kernel_rfl) (by kernel_rfl) (fun _ _ _ h => h) rfl (fun w _ => by go_simp) HQ.out ?_
            simp only [Act.put, List.setIfInBounds_toArray, List.set_cons_succ, List.set_cons_zero]
            refine takeH 2 (some 91) (.bool false) rfl rfl (by kernel_rfl) (by kernel_rfl) (by kernel_rfl) (fun _ _ _ h => h) rfl (fun w _ => by go_simp) HQ.out ?_
            simp only [Act.put, List.setIfInBounds_toArray, List.set_cons_succ, List.set_cons_zero]
            refine takeH 3 (some 92) (.agg sx) rfl rfl (by kernel_rfl) (by kernel_rfl) (by kernel_rfl) (fun _ _ _ h => h) rfl (fun w hS => exec_load_at _ _ _ 37 _ rfl (wt110.heap.size) 0 rfl sx _ Try.underlying37 rfl (by rw [HSec.out.size]; exact info37) (hS.2.1.cells _ rfl)) HQ.out ?_
            simp only [Act.put, List.setIfInBounds_toArray, List.set_cons_succ, List.set_cons_zero]
            refine takeH 4 (some 93) (.int .i64 (kk : Int)) rfl rfl (by kernel_rfl) (by kernel_rfl) (by kernel_rfl) (fun _ _ _ h => h) rfl (fun w _ => by go_simp) HQ.out ?_
            simp only [Act.put, List.setIfInBounds_toArray, List.set_cons_succ, List.set_cons_zero]
            refine takeH 5 (some 94) (.pointer (some ⟨wb, kk * 64, none⟩)) rfl rfl (by kernel_rfl) (by kernel_rfl) (by kernel_rfl) (fun _ _ _ h => h) rfl (fun w _ => by go_simp) HQ.out ?_
            simp only [Act.put, List.setIfInBounds_toArray, List.set_cons_succ, List.set_cons_zero]
            refine takeH 6 (some 95) (.agg sx) rfl rfl (by kernel_rfl) (by kernel_rfl) (by kernel_rfl) (fun _ _ _ h => h) rfl (fun w hS => exec_load_at _ _ _ 37 _ rfl wb (kk * 64) rfl sx _ Try.underlying37 rfl (by rw [HSec.out.size]; exact info37) (flat_load hS.2.2 HVs.out HV.out)) HQ.out ?_
            simp only [Act.put, List.setIfInBounds_toArray, List.set_cons_succ, List.set_cons_zero]
            refine takeH 7 (some 96) (.bool false) rfl rfl (by kernel_rfl) (by kernel_rfl) (by kernel_rfl) (fun _ _ _ h => h) rfl (fun w _ => by have hq := eq37 sx HSec.out w; go_simp) HQ.out ?_
            simp only [Act.put, List.setIfInBounds_toArray, List.set_cons_succ, List.set_cons_zero]
            refine takeH 8 (some 97) (.bool false) rfl rfl (by kernel_rfl) (by kernel_rfl) (by kernel_rfl) (fun _ _ _ h => h) rfl (fun w _ => by go_simp) HQ.out ?_
            simp only [Act.put, List.setIfInBounds_toArray, List.set_cons_succ, List.set_cons_zero]
            refine wpAnyH_done (by kernel_rfl) ?_ _
            go_wp2_with fail
            go_roundg (l.length - (k + 1))
            case measure => omega
            case rel => exact ⟨k + 1, Ft15, ({ d with F := d.nextF, T := d.T + 1, S := app d.S d.L, L := [] } : D), by omega, by omega, by go_num, HQ.out.1, ⟨HQ.out.2.2, HLt117.out.2⟩, HOk.out.1, HOk.out.2.1, HOk.out.2.2⟩
        have e2 : (s.kind == 2) = false := beq_eq_false_iff_ne.2 k2
        by_cases k4 : s.kind = 4
        · have e4 : (s.kind == 4) = true := beq_iff_eq.2 k4
          clear k0 k2 k4
          have cf1s := HS.out.below HD.out.2
          have cf1k := cf1s.kind
          have cf1i := cf1s.i
          have cf1v := cf1s.v
          clear cf1s
          go_wp2_with fail
          have Hf2 := Lib.hid (HMod.out wr)
          refine Hf2.out.mono ?_
          rintro e w' ⟨rfl, rfl⟩
          clear Hf2
          go_wp2_with fail
          have Hf3 := Lib.hid (show Calls _ _ _ _ (After w wr b F (.tuple #[]) ({ d with F := (kk : Int) })) from dv_fail HD.out (kk : Int) ⟨by omega, by omega⟩)
          refine Hf3.out.mono ?_
          rintro e wf4 ⟨Ff5, rfl, hd, ho, hn⟩
          have HDf6 := Lib.hid hd
          have HLf7 : Hid (Blk wf4 (wb) (flat d.view) ∧ ¬ Ff5 (wb)) := Lib.hid (HL.out.1.after HL.out.2 ho hn)
          clear hd ho hn Hf3
          have cf8s := HS.out.below HDf6.out.2
          have cf8k := cf8s.kind
          have cf8i := cf8s.i
          have cf8v := cf8s.v
          clear cf8s
          clear cf1k cf1i cf1v
          have HOk : Hid (({ d with F := (kk : Int) } : D).S.length = 7 ∧ ({ d with F := (kk : Int) } : D).T ≤ k + 1 ∧ ({ d with F := (kk : Int) } : D).L.length ≤ k + 1) := Lib.hid ⟨HSn.out, by simp only; omega, by simp only; omega⟩
          go_wp2_with fail
          obtain ⟨sx, hsx, hrd, hre⟩ := view_at (d := ({ d with F := (kk : Int) } : D)) (k := kk) (by rw [HOk.out.1]; omega)
          have HV := Lib.hid hsx
          have HSec := Lib.hid (HDf6.out.secs sx (List.mem_of_getElem? hsx))
          have HR := Lib.hid (dv_read HDf6.out (Nat.le_trans HOk.out.2.2 (by omega)) (kk : Int))
          rw [hrd, hre] at HR
          clear hsx hrd hre
          refine HR.out.mono ?_
          rintro e wf9 ⟨rfl, hb⟩
          have HDf10 := Lib.hid (HDf6.out.below hb)
          have HLf11 : Hid (Blk wf9 (wb) (flat d.view) ∧ ¬ Ff5 (wb)) := Lib.hid ⟨HLf7.out.1.below hb HLf7.out.1.lt, HLf7.out.2⟩
          clear hb HR
          go_wp2_with (first | ((with_reducible refine isNew ?_); refine wpList_store_new 37 _ _ rfl rfl 37 _ (sx) rfl rfl (by rw [HSec.out.size]; exact info37) (zeros_size _ HSec.out) HSec.out.one ?_; intro wf12 hx hbx; have HGf14 : Hid (w.heap.size ≤ wf9.heap.size) := Lib.hid HDf10.out.2.size; have HLf13 : Hid (Blk wf12 (wf9.heap.size) (sx).toList ∧ ¬ Ff5 (wf9.heap.size)) := Lib.hid ⟨hx, fun h => Nat.lt_irrefl _ (HDf10.out.lt _ h).2⟩; have HNf15 : Hid (wb ≠ wf9.heap.size) := Lib.hid (Nat.ne_of_lt HLf11.out.1.lt); have HLf16 : Hid (Blk wf12 (wb) (flat d.view) ∧ ¬ Ff5 (wb)) := Lib.hid ⟨HLf11.out.1.below hbx HLf11.out.1.lt, HLf11.out.2⟩; have HDf17 := Lib.hid (HDf10.out.below hbx); clear hx hbx))
          have HQ : Hid (Dv w wf12.drew b Ff5 (({ d with F := (kk : Int) } : D)) ∧ Blk wf12.drew wf9.heap.size sx.toList ∧ Blk wf12.drew wb (flat (({ d with F := (kk : Int) } : D)).view)) := Lib.hid ⟨HDf17.out.drew, HLf13.out.1.drew, HLf16.out.1.drew⟩
          have HVs := Lib.hid HDf17.out.secs
          refine startH (fun wq => (Dv w wq b Ff5 (({ d with F := (kk : Int) } : D)) ∧ Blk wq wf9.heap.size sx.toList ∧ Blk wq wb (flat (({ d with F := (kk : Int) } : D)).view))) (by kernel_rfl) ?_
          refine takeH 0 (some 89) (.int .i64 0) rfl rfl (by kernel_rfl) (by kernel_rfl) (by kernel_rfl) (fun _ _ _ h => h) rfl (fun w _ => by go_simp) HQ.out ?_
          simp only [Act.put, List.setIfInBounds_toArray, List.set_cons_succ, List.set_cons_zero]
          refine takeH 1 (some 90) (.bool false) rfl rfl (by kernel_rfl) (by kernel_rfl) (by kernel_rfl) (fun _ _ _ h => h) rfl (fun w _ => by go_simp) HQ.out ?_
          simp only [Act.put, List.setIfInBounds_toArray, List.set_cons_succ, List.set_cons_zero]
          refine takeH 2 (some 91) (.bool false) rfl rfl (by kernel_rfl) (by kernel_rfl) (by kernel_rfl) (fun _ _ _ h => h) rfl (fun w _ => by go_simp) HQ.out ?_
          simp only [Act.put, List.setIfInBounds_toArray, List.set_cons_succ, List.set_cons_zero]
          refine takeH 3 (some 92) (.agg sx) rfl rfl (by kernel_rfl) (by kernel_rfl) (by kernel_rfl) (fun _ _ _ h => h) rfl (fun w hS => exec_load_at _ _ _ 37 _ rfl (wf9.heap.size) 0 rfl sx _ Try.underlying37 rfl (by rw [HSec.out.size]; exact info37) (hS.2.1.cells _ rfl)) HQ.out ?_
          simp only [Act.put, List.setIfInBounds_toArray, List.set_cons_succ, List.set_cons_zero]
          refine takeH 4 (some 93) (.int .i64 (kk : Int)) rfl rfl (by kernel_rfl) (by kernel_rfl) (by kernel_rfl) (fun _ _ _ h => h) rfl (fun w _ => by go_simp) HQ.out ?_
          simp only [Act.put, List.setIfInBounds_toArray, List.set_cons_succ, List.set_cons_zero]
          refine takeH 5 (some 94) (.pointer (some ⟨wb, kk * 64, none⟩)) rfl rfl (by kernel_rfl) (by kernel_rfl) (by kernel_rfl) (fun _ _ _ h => h) rfl (fun w _ => by go_simp) HQ.out ?_
          simp only [Act.put, List.setIfInBounds_toArray, List.set_cons_succ, List.set_cons_zero]
          refine takeH 6 (some 95) (.agg sx) rfl rfl (by kernel_rfl) (by kernel_rfl) (by kernel_rfl) (fun _ _ _ h => h) rfl (fun w hS => exec_load_at _ _ _ 37 _ rfl wb (kk * 64) rfl sx _ Try.underlying37 rfl (by rw [HSec.out.size]; exact info37) (flat_load hS.2.2 HVs.out HV.out)) HQ.out ?_
          simp only [Act.put, List.setIfInBounds_toArray, List.set_cons_succ, List.set_cons_zero]
          refine takeH 7 (some 96) (.bool false) rfl rfl (by kernel_rfl) (by kernel_rfl) (by kernel_rfl) (fun _ _ _ h => h) rfl (fun w _ => by have hq := eq37 sx HSec.out w; go_simp) HQ.out ?_
          simp only [Act.put, List.setIfInBounds_toArray, List.set_cons_succ, List.set_cons_zero]
          refine takeH 8 (some 97) (.bool false) rfl rfl (by kernel_rfl) (by kernel_rfl) (by kernel_rfl) (fun _ _ _ h => h) rfl (fun w _ => by go_simp) HQ.out ?_
          simp only [Act.put, List.setIfInBounds_toArray, List.set_cons_succ, List.set_cons_zero]
          refine wpAnyH_done (by kernel_rfl) ?_ _
          go_wp2_with fail
          go_roundg (l.length - (k + 1))
          case measure => omega
          case rel => exact ⟨k + 1, Ff5, ({ d with F := (kk : Int) } : D), by omega, by omega, by go_num, HQ.out.1, ⟨HQ.out.2.2, HLf16.out.2⟩, HOk.out.1, HOk.out.2.1, HOk.out.2.2⟩
        · have e4 : (s.kind == 4) = false := beq_eq_false_iff_ne.2 k4
          clear k0 k2 k4
          have cn1s := HS.out.below HD.out.2
          have cn1k := cn1s.kind
          have cn1i := cn1s.i
          have cn1v := cn1s.v
          clear cn1s
          go_wp2_with fail
          have Hn2 := Lib.hid (HMod.out wr)
          refine Hn2.out.mono ?_
          rintro e w' ⟨rfl, rfl⟩
          clear Hn2
          go_wp2_with fail
          have HOk : Hid (d.S.length = 7 ∧ d.T ≤ k + 1 ∧ d.L.length ≤ k + 1) := Lib.hid ⟨HSn.out, by omega, by omega⟩
          obtain ⟨sx, hsx, hrd, hre⟩ := view_at (d := d) (k := kk) (by rw [HOk.out.1]; omega)
          have HV := Lib.hid hsx
          have HSec := Lib.hid (HD.out.secs sx (List.mem_of_getElem? hsx))
          have HR := Lib.hid (dv_read HD.out (Nat.le_trans HOk.out.2.2 (by omega)) (kk : Int))
          rw [hrd, hre] at HR
          clear hsx hrd hre
          refine HR.out.mono ?_
          rintro e wn3 ⟨rfl, hb⟩
          have HDn4 := Lib.hid (HD.out.below hb)
          have HLn5 : Hid (Blk wn3 (wb) (flat d.view) ∧ ¬ F (wb)) := Lib.hid ⟨HL.out.1.below hb HL.out.1.lt, HL.out.2⟩
          clear hb HR
          go_wp2_with (first | ((with_reducible refine isNew ?_); refine wpList_store_new 37 _ _ rfl rfl 37 _ (sx) rfl rfl (by rw [HSec.out.size]; exact info37) (zeros_size _ HSec.out) HSec.out.one ?_; intro wn6 hx hbx; have HGn8 : Hid (w.heap.size ≤ wn3.heap.size) := Lib.hid HDn4.out.2.size; have HLn7 : Hid (Blk wn6 (wn3.heap.size) (sx).toList ∧ ¬ F (wn3.heap.size)) := Lib.hid ⟨hx, fun h => Nat.lt_irrefl _ (HDn4.out.lt _ h).2⟩; have HNn9 : Hid (wb ≠ wn3.heap.size) := Lib.hid (Nat.ne_of_lt HLn5.out.1.lt); have HLn10 : Hid (Blk wn6 (wb) (flat d.view) ∧ ¬ F (wb)) := Lib.hid ⟨HLn5.out.1.below hbx HLn5.out.1.lt, HLn5.out.2⟩; have HDn11 := Lib.hid (HDn4.out.below hbx); clear hx hbx))
          have HQ : Hid (Dv w wn6.drew b F (d) ∧ Blk wn6.drew wn3.heap.size sx.toList ∧ Blk wn6.drew wb (flat (d).view)) := Lib.hid ⟨HDn11.out.drew, HLn7.out.1.drew, HLn10.out.1.drew⟩
          have HVs := Lib.hid HDn11.out.secs
          refine startH (fun wq => (Dv w wq b F (d) ∧ Blk wq wn3.heap.size sx.toList ∧ Blk wq wb (flat (d).view))) (by kernel_rfl) ?_
          refine takeH 0 (some 89) (.int .i64 0) rfl rfl (by kernel_rfl) (by kernel_rfl) (by kernel_rfl) (fun _ _ _ h => h) rfl (fun w _ => by go_simp) HQ.out ?_
          simp only [Act.put, List.setIfInBounds_toArray, List.set_cons_succ, List.set_cons_zero]
          refine takeH 1 (some 90) (.bool false) rfl rfl (by kernel_rfl) (by kernel_rfl) (by kernel_rfl) (fun _ _ _ h => h) rfl (fun w _ => by go_simp) HQ.out ?_
          simp only [Act.put, List.setIfInBounds_toArray, List.set_cons_succ, List.set_cons_zero]
          refine takeH 2 (some 91) (.bool false) rfl rfl (by kernel_rfl) (by kernel_rfl) (by kernel_rfl) (fun _ _ _ h => h) rfl (fun w _ => by go_simp) HQ.out ?_
          simp only [Act.put, List.setIfInBounds_toArray, List.set_cons_succ, List.set_cons_zero]
          refine takeH 3 (some 92) (.agg sx) rfl rfl (by kernel_rfl) (by kernel_rfl) (by kernel_rfl) (fun _ _ _ h => h) rfl (fun w hS => exec_load_at _ _ _ 37 _ rfl (wn3.heap.size) 0 rfl sx _ Try.underlying37 rfl (by rw [HSec.out.size]; exact info37) (hS.2.1.cells _ rfl)) HQ.out ?_
          simp only [Act.put, List.setIfInBounds_toArray, List.set_cons_succ, List.set_cons_zero]
          refine takeH 4 (some 93) (.int .i64 (kk : Int)) rfl rfl (by kernel_rfl) (by kernel_rfl) (by kernel_rfl) (fun _ _ _ h => h) rfl (fun w _ => by go_simp) HQ.out ?_
          simp only [Act.put, List.setIfInBounds_toArray, List.set_cons_succ, List.set_cons_zero]
          refine takeH 5 (some 94) (.pointer (some ⟨wb, kk * 64, none⟩)) rfl rfl (by kernel_rfl) (by kernel_rfl) (by kernel_rfl) (fun _ _ _ h => h) rfl (fun w _ => by go_simp) HQ.out ?_
          simp only [Act.put, List.setIfInBounds_toArray, List.set_cons_succ, List.set_cons_zero]
          refine takeH 6 (some 95) (.agg sx) rfl rfl (by kernel_rfl) (by kernel_rfl) (by kernel_rfl) (fun _ _ _ h => h) rfl (fun w hS => exec_load_at _ _ _ 37 _ rfl wb (kk * 64) rfl sx _ Try.underlying37 rfl (by rw [HSec.out.size]; exact info37) (flat_load hS.2.2 HVs.out HV.out)) HQ.out ?_
          simp only [Act.put, List.setIfInBounds_toArray, List.set_cons_succ, List.set_cons_zero]
          refine takeH 7 (some 96) (.bool false) rfl rfl (by kernel_rfl) (by kernel_rfl) (by kernel_rfl) (fun _ _ _ h => h) rfl (fun w _ => by have hq := eq37 sx HSec.out w; go_simp) HQ.out ?_
          simp only [Act.put, List.setIfInBounds_toArray, List.set_cons_succ, List.set_cons_zero]
          refine takeH 8 (some 97) (.bool false) rfl rfl (by kernel_rfl) (by kernel_rfl) (by kernel_rfl) (fun _ _ _ h => h) rfl (fun w _ => by go_simp) HQ.out ?_
          simp only [Act.put, List.setIfInBounds_toArray, List.set_cons_succ, List.set_cons_zero]
          refine wpAnyH_done (by kernel_rfl) ?_ _
          go_wp2_with fail
          go_roundg (l.length - (k + 1))
          case measure => omega
          case rel => exact ⟨k + 1, F, d, by omega, by omega, by go_num, HQ.out.1, ⟨HQ.out.2.2, HLn10.out.2⟩, HOk.out.1, HOk.out.2.1, HOk.out.2.2⟩
      · have hkl : k = l.length := by omega
        subst hkl
        clear hlt
        have HSn2 := HSn
        go_wp2_with fail
        go_loopg [10] 7 (fun g i wq => ∃ (k : Nat), 7 - k ≤ g ∧ k ≤ 7 ∧ i = .int .i64 k ∧ Dv w wq b F d ∧ (Blk wq wb (flat d.view) ∧ ¬ F wb))
        case atStart => exact ⟨0, by omega, by omega, rfl, HD.out, HL.out⟩
        case round =>
          obtain ⟨kk, hg2, hk2, rfl, hd2, hloc2⟩ := hrel
          have HD2 := Lib.hid hd2
          have HL2 := Lib.hid hloc2
          clear hd2 hloc2
          by_cases hlt : kk < 7
          · have hkk0 : (0 : Int) ≤ (kk : Int) := by omega
            have hkk1 : (kk : Int) < 7 := by omega
            have HOk : Hid (d.S.length = 7 ∧ d.T ≤ l.length + 1 ∧ d.L.length ≤ l.length + 1) := Lib.hid ⟨HSn.out, by omega, by omega⟩
            go_wp2_with fail
            obtain ⟨sx, hsx, hrd, hre⟩ := view_at (d := d) (k := kk) (by rw [HOk.out.1]; omega)
            have HV := Lib.hid hsx
            have HSec := Lib.hid (HD2.out.secs sx (List.mem_of_getElem? hsx))
            have HR := Lib.hid (dv_read HD2.out (Nat.le_trans HOk.out.2.2 (by omega)) (kk : Int))
            rw [hrd, hre] at HR
            clear hsx hrd hre
            refine HR.out.mono ?_
            rintro e wq1 ⟨rfl, hb⟩
            have HDq2 := Lib.hid (HD2.out.below hb)
            have HLq3 : Hid (Blk wq1 (wb) (flat d.view) ∧ ¬ F (wb)) := Lib.hid ⟨HL2.out.1.below hb HL2.out.1.lt, HL2.out.2⟩
            clear hb HR
            go_wp2_with (first | ((with_reducible refine isNew ?_); refine wpList_store_new 37 _ _ rfl rfl 37 _ (sx) rfl rfl (by rw [HSec.out.size]; exact info37) (zeros_size _ HSec.out) HSec.out.one ?_; intro wq4 hx hbx; have HGq6 : Hid (w.heap.size ≤ wq1.heap.size) := Lib.hid HDq2.out.2.size; have HLq5 : Hid (Blk wq4 (wq1.heap.size) (sx).toList ∧ ¬ F (wq1.heap.size)) := Lib.hid ⟨hx, fun h => Nat.lt_irrefl _ (HDq2.out.lt _ h).2⟩; have HNq7 : Hid (wb ≠ wq1.heap.size) := Lib.hid (Nat.ne_of_lt HLq3.out.1.lt); have HLq8 : Hid (Blk wq4 (wb) (flat d.view) ∧ ¬ F (wb)) := Lib.hid ⟨HLq3.out.1.below hbx HLq3.out.1.lt, HLq3.out.2⟩; have HDq9 := Lib.hid (HDq2.out.below hbx); clear hx hbx))
            have HQ : Hid (Dv w wq4.drew b F (d) ∧ Blk wq4.drew wq1.heap.size sx.toList ∧ Blk wq4.drew wb (flat (d).view)) := Lib.hid ⟨HDq9.out.drew, HLq5.out.1.drew, HLq8.out.1.drew⟩
            have HVs := Lib.hid HDq9.out.secs
            refine startH (fun wq => (Dv w wq b F (d) ∧ Blk wq wq1.heap.size sx.toList ∧ Blk wq wb (flat (d).view))) (by kernel_rfl) ?_
            refine takeH 0 (some 108) (.int .i64 0) rfl rfl (by kernel_rfl) (by kernel_rfl) (by kernel_rfl) (fun _ _ _ h => h) rfl (fun w _ => by go_simp) HQ.out ?_
            simp only [Act.put, List.setIfInBounds_toArray, List.set_cons_succ, List.set_cons_zero]
            refine takeH 1 (some 109) (.bool false) rfl rfl (by kernel_rfl) (by kernel_rfl) (by kernel_rfl) (fun _ _ _ h => h) rfl (fun w _ => by go_simp) HQ.out ?_
            simp only [Act.put, List.setIfInBounds_toArray, List.set_cons_succ, List.set_cons_zero]
            refine takeH 2 (some 110) (.bool false) rfl rfl (by kernel_rfl) (by kernel_rfl) (by kernel_rfl) (fun _ _ _ h => h) rfl (fun w _ => by go_simp) HQ.out ?_
            simp only [Act.put, List.setIfInBounds_toArray, List.set_cons_succ, List.set_cons_zero]
            refine takeH 3 (some 111) (.agg sx) rfl rfl (by kernel_rfl) (by kernel_rfl) (by kernel_rfl) (fun _ _ _ h => h) rfl (fun w hS => exec_load_at _ _ _ 37 _ rfl (wq1.heap.size) 0 rfl sx _ Try.underlying37 rfl (by rw [HSec.out.size]; exact info37) (hS.2.1.cells _ rfl)) HQ.out ?_
            simp only [Act.put, List.setIfInBounds_toArray, List.set_cons_succ, List.set_cons_zero]
            refine takeH 4 (some 112) (.int .i64 (kk : Int)) rfl rfl (by kernel_rfl) (by kernel_rfl) (by kernel_rfl) (fun _ _ _ h => h) rfl (fun w _ => by go_simp) HQ.out ?_
            simp only [Act.put, List.setIfInBounds_toArray, List.set_cons_succ, List.set_cons_zero]
            refine takeH 5 (some 113) (.pointer (some ⟨wb, kk * 64, none⟩)) rfl rfl (by kernel_rfl) (by kernel_rfl) (by kernel_rfl) (fun _ _ _ h => h) rfl (fun w _ => by go_simp) HQ.out ?_
            simp only [Act.put, List.setIfInBounds_toArray, List.set_cons_succ, List.set_cons_zero]
            refine takeH 6 (some 114) (.agg sx) rfl rfl (by kernel_rfl) (by kernel_rfl) (by kernel_rfl) (fun _ _ _ h => h) rfl (fun w hS => exec_load_at _ _ _ 37 _ rfl wb (kk * 64) rfl sx _ Try.underlying37 rfl (by rw [HSec.out.size]; exact info37) (flat_load hS.2.2 HVs.out HV.out)) HQ.out ?_
            simp only [Act.put, List.setIfInBounds_toArray, List.set_cons_succ, List.set_cons_zero]
            refine takeH 7 (some 115) (.bool false) rfl rfl (by kernel_rfl) (by kernel_rfl) (by kernel_rfl) (fun _ _ _ h => h) rfl (fun w _ => by have hq := eq37 sx HSec.out w; go_simp) HQ.out ?_
            simp only [Act.put, List.setIfInBounds_toArray, List.set_cons_succ, List.set_cons_zero]
            refine takeH 8 (some 116) (.bool false) rfl rfl (by kernel_rfl) (by kernel_rfl) (by kernel_rfl) (fun _ _ _ h => h) rfl (fun w _ => by go_simp) HQ.out ?_
            simp only [Act.put, List.setIfInBounds_toArray, List.set_cons_succ, List.set_cons_zero]
            refine wpAnyH_done (by kernel_rfl) ?_ _
            go_wp2_with fail
            go_roundg (7 - (kk + 1))
            case measure => omega
            case rel => exact ⟨kk + 1, by omega, by omega, by go_num, HQ.out.1, ⟨HQ.out.2.2, HLq8.out.2⟩⟩
          · have hk7 : kk = 7 := by omega
            subst hk7
            clear hlt
            go_wp2_with fail
            have HW := Lib.hid fun w2 => wakes_any w2
            refine (HW.out _).mono ?_
            rintro e w2 ⟨rfl, hb⟩
            have HB2 := Lib.hid (HD2.out.below hb).2
            clear hb
            go_wp2_with fail
            go_ret
            exact ⟨rfl, HB2.out⟩
end Go.Proofs.Ytdmjhpebpooiaaa
