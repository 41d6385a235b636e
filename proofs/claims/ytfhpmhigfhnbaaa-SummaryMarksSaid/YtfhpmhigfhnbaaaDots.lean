/- The statement SummaryMarks' walk. -/
import Derived.Test.YtfhpmhigfhnbaaaZeros
import Derived.Test.YtfhpmhigfhnbaaaBack
import Derived.Deep.Cut
import Derived.Deep.CutRange
namespace Go.Proofs.Ytfhpmhigfhnbaaa
set_option linter.unusedSimpArgs false
set_option linter.unusedVariables false
open Go.RowKit

theorem good_same {k : Nat} {m : Mk} (h1 : 1 ≤ k) (h2 : k ≤ 24) : goodMarks (List.replicate k m) = okMark m := by
  unfold goodMarks
  rw [decide_eq_true (by rw [List.length_replicate]; exact h1), decide_eq_true (by rw [List.length_replicate]; exact h2), Bool.true_and, Bool.true_and, Bool.eq_iff_iff, List.all_eq_true]
  constructor
  · intro h
    exact h m (List.mem_replicate.2 ⟨by omega, rfl⟩)
  · intro h x hx
    rw [(List.mem_replicate.1 hx).2]
    exact h
theorem same_snoc (k : Nat) (m : Mk) : List.replicate (k + 1) m = List.replicate k m ++ [m] := by
  rw [List.replicate_succ']
theorem built255 (a : Option Addr) (k c : Nat) : Try.prog.built 25 [(0, .int .u32 5), (2, .slice a k c)] = some #[.int .u32 5, .bool false, .slice a k c] := by kernel_rfl
theorem build255 {w : World} {sv : Value} {l : List Mk} (h : MarksAt w sv l) (w' : World) : (Instr.build 25 #[(0, .int .u32 5), (2, sv)]).run Try.prog w' = .ok (.agg #[.int .u32 5, .bool false, sv]) w' := by
  obtain ⟨a, cap, rfl, _⟩ := h
  exact run_build w' 25 _ _ (built255 a _ cap)
theorem enc5 {l : List Mk} {sec : List Int} {e0 : Int} (sv : Value) (hl : l.length ≤ 1000000) (hs : ∀ m ∈ l, Small m.1 ∧ Small m.2) (h1 : Sm.sec ⟨5, false, l⟩ = sec) (h2 : Sm.err ⟨5, false, l⟩ = e0) (w : World) (hm : MarksAt w sv l) : Calls Try.prog 8 #[.agg #[.int .u32 5, .bool false, sv]] w fun e w' => e = .returned (.tuple #[.agg (u8s sec).toArray, .int .i64 e0]) ∧ Below w.heap.size w w' := by
  have := encode_any ⟨5, false, l⟩ sv hl ⟨⟨by show (0 : Int) ≤ 5; decide, by show (5 : Int) < 4294967296; decide⟩, hs⟩ w hm
  rwa [h1, h2] at this

theorem blocks_is {l : List Mk} {n : Nat} (h : blocks l = n) (sv : Value) (hl : l.length ≤ 1000000) (w : World) (hm : MarksAt w sv l) : Calls Try.prog 14 #[sv] w fun e w' => e = .returned (.int .i64 n) ∧ Below w.heap.size w w' := by
  have := blocks_any sv l hl w hm
  rwa [h] at this
set_option maxHeartbeats 1000000 in
set_option maxRecDepth 100000 in
theorem dots_any (m : Mk) (hm1 : Small m.1) (hm2 : Small m.2) (y : Int) (hy : Byte y) (w : World) : Calls Try.prog 6 #[.agg #[.int .i64 m.1, .int .i64 m.2], .int .u8 y] w fun e w' => e = .returned (.bool true) ∧ Below w.heap.size w w' := by
  obtain ⟨mk, mi⟩ := m
  have HS1 : Hid (Small mk) := Lib.hid hm1
  have HS2 : Hid (Small mi) := Lib.hid hm2
  obtain ⟨hy1, hy2⟩ := hy
  clear hm1 hm2
  go_enter Try.func6, Try.ntmps6
  go_upto_region 0 with fail
  refine wp_region_lit ?_
  refine box_g rfl rfl ?_
  intro wB hA hB hl1
  try simp only [Act.put, List.setIfInBounds_toArray, List.set_cons_succ, List.set_cons_zero]
  have HA := Lib.hid hA
  have HB := Lib.hid hB
  have HLT := Lib.hid hl1
  clear hA hB hl1
  refine takeL (.bool false) rfl (by go_simp) ?_
  try simp only [Act.put, List.setIfInBounds_toArray, List.set_cons_succ, List.set_cons_zero]
  refine wpList_nil ?_
  go_upto_region 1 with fail
  go_cut [5] from 14 to 42 (fun s5 wx => s5 = .bool (okMark (mk, mi)) ∧ wB = wx)
  case first =>
    have c0 := HA.out.cell (i := 0) rfl
    have c1 := HA.out.cell (i := 1) rfl
    by_cases h1 : 1 ≤ mk
    case neg =>
      go_wp2_with fail
      go_meet
      exact ⟨congrArg Value.bool (ok_eq (mk := mk) (mi := mi) _ (by simp <;> omega)), rfl⟩
    by_cases h2 : mk ≤ 5
    case neg =>
      go_wp2_with fail
      go_meet
      exact ⟨congrArg Value.bool (ok_eq (mk := mk) (mi := mi) _ (by simp <;> omega)), rfl⟩
    by_cases h3 : 0 ≤ mi
    case neg =>
      go_wp2_with fail
      go_meet
      exact ⟨congrArg Value.bool (ok_eq (mk := mk) (mi := mi) _ (by simp <;> omega)), rfl⟩
    by_cases h4 : mi < 64
    case neg =>
      go_wp2_with fail
      go_meet
      exact ⟨congrArg Value.bool (ok_eq (mk := mk) (mi := mi) _ (by simp <;> omega)), rfl⟩
    by_cases h5 : mk = 3
    · subst h5
      by_cases h6 : mi < 8
      · go_wp2_with fail
        go_meet
        exact ⟨congrArg Value.bool (ok_eq (mk := 3) (mi := mi) _ (by simp <;> omega)), rfl⟩
      · go_wp2_with fail
        go_meet
        exact ⟨congrArg Value.bool (ok_eq (mk := 3) (mi := mi) _ (by simp <;> omega)), rfl⟩
    · go_wp2_with fail
      go_meet
      exact ⟨congrArg Value.bool (ok_eq (mk := mk) (mi := mi) _ (by simp <;> omega)), rfl⟩
  case rest =>
    obtain ⟨rfl, rfl⟩ := hcut
    have c0 := HA.out.cell (i := 0) rfl
    have c1 := HA.out.cell (i := 1) rfl
    obtain ⟨ok, hok⟩ : ∃ b, okMark (mk, mi) = b := ⟨_, rfl⟩
    rw [hok]
    have HOK := Lib.hid hok
    clear hok
    go_wp2_with fail
    obtain ⟨k, hk⟩ : ∃ k : Nat, 1 + y % 24 = (k : Int) := ⟨(1 + y % 24).toNat, by omega⟩
    have hk1 : 1 ≤ k := by omega
    have hk2 : k ≤ 24 := by omega
    rw [hk]
    generalize y % 24 = y24
    clear hk
    go_loopg [7, 8] k (fun q s i wr => ∃ j : Nat, k - j ≤ q ∧ j ≤ k ∧ i = .int .i64 j ∧ OwnM wr wB.heap.size s (List.replicate j (mk, mi)) ∧ Below wB.heap.size wB wr)
    case atStart => exact ⟨0, by omega, by omega, rfl, OwnM.nil _ _, Below.refl _ _⟩
    case round =>
      obtain ⟨j, hgj, hj, rfl, hown, hbel⟩ := hrel
      have HO := Lib.hid hown
      have HBR := Lib.hid hbel
      have HA2 := Lib.hid (HA.out.below hbel HA.out.lt)
      clear hown hbel c0 c1
      by_cases hlt : j < k
      · have hj0 : (0 : Int) ≤ (j : Int) := by omega
        have hj1 : (j : Int) < (k : Int) := by omega
        go_upto_region 7 with fail
        refine wp_region_lit ?_
        refine takeL u7 rfl (by go_simp) ?_
        try simp only [Act.put, List.setIfInBounds_toArray, List.set_cons_succ, List.set_cons_zero]
        refine takeL (.agg #[.int .i64 mk, .int .i64 mi]) rfl (by have c0 := HA2.out.cell (i := 0) rfl; have c1 := HA2.out.cell (i := 1) rfl; go_simp) ?_
        try simp only [Act.put, List.setIfInBounds_toArray, List.set_cons_succ, List.set_cons_zero]
        refine wpList_run (.slice (some ⟨wr.heap.size, 0, none⟩) 1 1) (wr.alloc (.cells #[.int .i64 mk, .int .i64 mi] 47)) rfl (by go_simp) ?_
        try simp only [Act.put, List.setIfInBounds_toArray, List.set_cons_succ, List.set_cons_zero]
        have hb1 := (Below.refl wr.heap.size wr).alloc (Nat.le_refl _) (.cells #[.int .i64 mk, .int .i64 mi] 47)
        have hby := (OwnM.lit wr wr.heap.size (Nat.le_refl _) [(mk, mi)] (by simp) _ rfl).marks
        refine app_LM (HO.out.below hb1) (Nat.le_trans HBR.out.size hb1.size) hby (by simp; omega) rfl rfl rfl ?_
        intro sv' w' hO hB'
        try simp only [Act.put, List.setIfInBounds_toArray, List.set_cons_succ, List.set_cons_zero]
        have HO2 := Lib.hid hO
        have HB2 := Lib.hid ((HBR.out.trans (hb1.mono HBR.out.size)).trans hB')
        clear hO hB' hb1 hby
        refine takeL sv' rfl (by go_simp) ?_
        try simp only [Act.put, List.setIfInBounds_toArray, List.set_cons_succ, List.set_cons_zero]
        refine wpList_nil ?_
        go_wp2_with fail
        go_roundg (k - (j + 1))
        case measure => omega
        case rel => exact ⟨j + 1, by omega, by omega, by go_num, by rw [same_snoc]; exact HO2.out, HB2.out⟩
      · have hjk : j = k := by omega
        subst hjk
        have FBL : Hid (Below w.heap.size w wr) := Lib.hid (HB.out.trans (HBR.out.mono HB.out.size))
        have HMY := Lib.hid HO.out.marks
        have HBS : Hid (wB.heap.size ≤ wr.heap.size) := Lib.hid HBR.out.size
        have HLB : Hid (w.heap.size < wB.heap.size) := Lib.hid HLT.out
        have HSM : Hid (∀ m ∈ List.replicate j ((mk, mi) : Mk), Small m.1 ∧ Small m.2) := Lib.hid (fun m hm => by rw [(List.mem_replicate.1 hm).2]; exact ⟨HS1.out, HS2.out⟩)
        have HLN : Hid ((List.replicate j ((mk, mi) : Mk)).length ≤ 1000000) := Lib.hid (by rw [List.length_replicate]; omega)
        have HGD := Lib.hid (good_same (m := ((mk, mi) : Mk)) hk1 hk2)
        have HZ64 : Hid ((zeros 64).length = 64) := Lib.hid rfl
        clear hlt HA HB HLT HBR
        go_upto_region 8 with fail
        refine wp_region_lit ?_
        cases ok
        · have HG : Hid (goodMarks (List.replicate j ((mk, mi) : Mk)) = false) := Lib.hid (by rw [HGD.out, HOK.out])
          refine takeL (u7) rfl (by go_simp) ?_
          try simp only [Act.put, List.setIfInBounds_toArray, List.set_cons_succ, List.set_cons_zero]
          refine takeL (.agg #[.int .u32 5, .bool false, u7]) rfl (exec_build _ _ _ _ 25 _ rfl #[(0, .int .u32 5), (2, u7)] (by simp only [List.map_toArray, List.map_cons, List.map_nil]; rfl) _ (build255 HMY.out _)) ?_
          try simp only [Act.put, List.setIfInBounds_toArray, List.set_cons_succ, List.set_cons_zero]
          refine wpList_op rfl fun K hK => ?_
          go_simp
          refine (enc5 (sec := (zeros 64)) (e0 := 11) _ HLN.out HSM.out (by unfold Sm.sec Sm.good; simp only; rw [HG.out]; rfl) (by unfold Sm.err Sm.good; simp only; rw [HG.out]; rfl) _ HMY.out).mono ?_
          rintro e w1 ⟨rfl, hb⟩
          have F2 := Lib.hid (FBL.out.trans (hb.mono FBL.out.size))
          have F3 := Lib.hid (HO.out.below hb)
          have F4 := Lib.hid (HMY.out.below hb)
          have F5 := Lib.hid (HA2.out.below hb HA2.out.lt)
          have F6 := Lib.hid (Nat.le_trans HBS.out hb.size)
          clear FBL HO HMY HA2 HBS
          clear hb
          refine hK _ _ ?_
          clear hK K
          try simp only [Act.put, List.setIfInBounds_toArray, List.set_cons_succ, List.set_cons_zero]
          refine takeL (.tuple #[.agg (u8s (zeros 64)).toArray, .int .i64 11]) rfl (by go_simp) ?_
          try simp only [Act.put, List.setIfInBounds_toArray, List.set_cons_succ, List.set_cons_zero]
          refine takeL (.agg (u8s (zeros 64)).toArray) rfl (by go_simp) ?_
          try simp only [Act.put, List.setIfInBounds_toArray, List.set_cons_succ, List.set_cons_zero]
          refine takeL (.int .i64 11) rfl (by go_simp) ?_
          try simp only [Act.put, List.setIfInBounds_toArray, List.set_cons_succ, List.set_cons_zero]
          refine alloc_g zero27 rfl ?_
          intro w7 hC hBC hlC
          try simp only [Act.put, List.setIfInBounds_toArray, List.set_cons_succ, List.set_cons_zero]
          refine store_all (cs := (u8s (zeros 64)).toArray) hC (by rw [u8s_size, HZ64.out]; simp [zeros]) (by rw [u8s_size, HZ64.out]; exact info27) (u8s_one _) rfl rfl rfl ?_
          intro w8 hD hOD hlD
          try simp only [Act.put, List.setIfInBounds_toArray, List.set_cons_succ, List.set_cons_zero]
          have hb := hBC.trans (hOD.below hBC.size (fun k hk => Nat.le_of_eq hk.symm))
          have F9 := Lib.hid (F2.out.trans (hb.mono F2.out.size))
          have F10 := Lib.hid (F3.out.below hb)
          have F11 := Lib.hid (F4.out.below hb)
          have F12 := Lib.hid (F5.out.below hb F5.out.lt)
          have F13 := Lib.hid (Nat.le_trans F6.out hb.size)
          clear F2 F3 F4 F5 F6
          have F14 := Lib.hid hD
          clear hC hBC hlC hD hOD hlD hb
          generalize w1.heap.size = g15 at *
          clear w7 w1
          refine takeL (.int .i64 11) rfl (by go_simp) ?_
          try simp only [Act.put, List.setIfInBounds_toArray, List.set_cons_succ, List.set_cons_zero]
          refine wpList_nil ?_
          go_upto_region 9 with fail
          refine wp_region_lit ?_
          refine takeL (.int .i64 11) rfl (by go_simp) ?_
          try simp only [Act.put, List.setIfInBounds_toArray, List.set_cons_succ, List.set_cons_zero]
          refine takeL (.bool false) rfl (by go_simp) ?_
          try simp only [Act.put, List.setIfInBounds_toArray, List.set_cons_succ, List.set_cons_zero]
          refine takeL (.bool false) rfl (by go_simp) ?_
          try simp only [Act.put, List.setIfInBounds_toArray, List.set_cons_succ, List.set_cons_zero]
          refine takeL (.bool false) rfl (by go_simp) ?_
          try simp only [Act.put, List.setIfInBounds_toArray, List.set_cons_succ, List.set_cons_zero]
          refine takeL (.bool false) rfl (by go_simp) ?_
          try simp only [Act.put, List.setIfInBounds_toArray, List.set_cons_succ, List.set_cons_zero]
          refine takeL (.bool false) rfl (by go_simp) ?_
          try simp only [Act.put, List.setIfInBounds_toArray, List.set_cons_succ, List.set_cons_zero]
          refine takeL (.bool true) rfl (by go_simp) ?_
          try simp only [Act.put, List.setIfInBounds_toArray, List.set_cons_succ, List.set_cons_zero]
          refine takeL (.bool true) rfl (by go_simp) ?_
          try simp only [Act.put, List.setIfInBounds_toArray, List.set_cons_succ, List.set_cons_zero]
          refine load27 (cs := (u8s (zeros 64)).toArray) (Blk.all F14.out rfl) (by rw [u8s_size, HZ64.out]) rfl rfl ?_
          try simp only [Act.put, List.setIfInBounds_toArray, List.set_cons_succ, List.set_cons_zero]
          refine build_g (build27 _) rfl ?_
          try simp only [Act.put, List.setIfInBounds_toArray, List.set_cons_succ, List.set_cons_zero]
          refine takeL (.bool false) rfl (by exact neq27v (v := false) (by simp) HZ64.out HZ64.out _ _ _ rfl rfl rfl) ?_
          try simp only [Act.put, List.setIfInBounds_toArray, List.set_cons_succ, List.set_cons_zero]
          refine takeL (.bool false) rfl (by go_simp) ?_
          try simp only [Act.put, List.setIfInBounds_toArray, List.set_cons_succ, List.set_cons_zero]
          refine takeL (.bool false) rfl (by go_simp) ?_
          try simp only [Act.put, List.setIfInBounds_toArray, List.set_cons_succ, List.set_cons_zero]
          refine wpList_nil ?_
          go_upto_region 12 with fail
          go_cut [86] from 74 to 87 (fun s86 wx => s86 = .bool (hasBlock mk) ∧ w8 = wx)
          case first =>
            have c0 := F12.out.cell (i := 0) rfl
            by_cases e1 : mk = 1
            · subst e1
              go_wp2_with fail
              go_meet
              exact ⟨rfl, rfl⟩
            by_cases e2 : mk = 2
            · subst e2
              go_wp2_with fail
              go_meet
              exact ⟨rfl, rfl⟩
            by_cases e3 : mk = 3
            · subst e3
              go_wp2_with fail
              go_meet
              exact ⟨rfl, rfl⟩
            have hbf : hasBlock mk = false := by unfold hasBlock; rw [Bool.and_eq_false_iff, decide_eq_false_iff_not, decide_eq_false_iff_not]; omega
            go_wp2_with fail
            go_meet
            exact ⟨by rw [hbf]; first | rfl | simp [e1, e2, e3], rfl⟩
          case rest =>
            obtain ⟨rfl, rfl⟩ := hcut
            cases hbk : hasBlock mk
            · have HBK : Hid (blocks (List.replicate j ((mk, mi) : Mk)) = 0) := Lib.hid (by rw [blocks_same]; simp only; rw [hbk]; rfl)
              clear hbk
              go_upto_region 14 with fail
              refine wp_region_lit ?_
              have HLB2 : Hid ((List.replicate j ((mk, mi) : Mk) ++ List.replicate 24 (0, 0)).length ≤ 1000000) := Lib.hid (by simp; omega)
              have HGB : Hid (goodMarks (List.replicate j ((mk, mi) : Mk) ++ List.replicate 24 (0, 0)) = false) := Lib.hid (good_long (by simp; omega))
              have HSB : Hid (∀ m ∈ List.replicate j ((mk, mi) : Mk) ++ List.replicate 24 (0, 0), Small m.1 ∧ Small m.2) := Lib.hid (fun m hm => by
                rcases List.mem_append.1 hm with hm | hm
                · exact HSM.out m hm
                · rw [(List.mem_replicate.1 hm).2]; exact ⟨⟨by decide, by decide⟩, ⟨by decide, by decide⟩⟩)
              refine takeL (u7) rfl (by go_simp) ?_
              try simp only [Act.put, List.setIfInBounds_toArray, List.set_cons_succ, List.set_cons_zero]
              refine zeros_LM (k := 24) F10.out (by rw [List.length_replicate]; omega) F13.out (by decide) (by rw [List.length_replicate]; omega) rfl rfl rfl ?_
              intro sz wz hoz hbw hmz
              try simp only [Act.put, List.setIfInBounds_toArray, List.set_cons_succ, List.set_cons_zero]
              have FA9 := Lib.hid (F12.out.below hbw HLB.out)
              have FB9 := Lib.hid (F9.out.trans (hbw.mono (Nat.le_of_lt HLB.out)))
              have FM9 := Lib.hid hmz
              have FO9 := Lib.hid hoz
              clear hbw hmz hoz F10 F11 F12 F9 F13
              refine takeL (.agg #[.int .u32 5, .bool false, sz]) rfl (exec_build _ _ _ _ 25 _ rfl #[(0, .int .u32 5), (2, sz)] (by simp only [List.map_toArray, List.map_cons, List.map_nil]; rfl) _ (build255 FO9.out.marks _)) ?_
              try simp only [Act.put, List.setIfInBounds_toArray, List.set_cons_succ, List.set_cons_zero]
              refine wpList_op rfl fun K hK => ?_
              go_simp
              refine (enc5 (sec := zeros 64) (e0 := 11) _ HLB2.out HSB.out (by unfold Sm.sec Sm.good; simp only; rw [HGB.out]; rfl) (by unfold Sm.err Sm.good; simp only; rw [HGB.out]; rfl) _ FO9.out.marks).mono ?_
              rintro e w16 ⟨rfl, hb⟩
              have F17 := Lib.hid (FB9.out.trans (hb.mono FB9.out.size))
              have F18 := Lib.hid (FM9.out.below hb)
              have F19 := Lib.hid (FO9.out.below hb)
              clear FB9 FM9 FO9
              clear hb
              refine hK _ _ ?_
              clear hK K
              try simp only [Act.put, List.setIfInBounds_toArray, List.set_cons_succ, List.set_cons_zero]
              refine takeL (.tuple #[.agg (u8s (zeros 64)).toArray, .int .i64 11]) rfl (by go_simp) ?_
              try simp only [Act.put, List.setIfInBounds_toArray, List.set_cons_succ, List.set_cons_zero]
              refine takeL (.agg (u8s (zeros 64)).toArray) rfl (by go_simp) ?_
              try simp only [Act.put, List.setIfInBounds_toArray, List.set_cons_succ, List.set_cons_zero]
              refine takeL (.int .i64 11) rfl (by go_simp) ?_
              try simp only [Act.put, List.setIfInBounds_toArray, List.set_cons_succ, List.set_cons_zero]
              refine alloc_g zero27 rfl ?_
              intro w20 hC hBC hlC
              try simp only [Act.put, List.setIfInBounds_toArray, List.set_cons_succ, List.set_cons_zero]
              refine store_all (cs := (u8s (zeros 64)).toArray) hC (by rw [u8s_size, HZ64.out]; simp [zeros]) (by rw [u8s_size, HZ64.out]; exact info27) (u8s_one _) rfl rfl rfl ?_
              intro w21 hD hOD hlD
              try simp only [Act.put, List.setIfInBounds_toArray, List.set_cons_succ, List.set_cons_zero]
              have hb := hBC.trans (hOD.below hBC.size (fun k hk => Nat.le_of_eq hk.symm))
              have F22 := Lib.hid (F17.out.trans (hb.mono F17.out.size))
              have F23 := Lib.hid (F18.out.below hb)
              have F24 := Lib.hid (F19.out.below hb)
              clear F17 F18 F19
              have F25 := Lib.hid hD
              clear hC hBC hlC hD hOD hlD hb
              generalize w16.heap.size = g26 at *
              clear w20 w16
              refine takeL (.int .i64 11) rfl (by go_simp) ?_
              try simp only [Act.put, List.setIfInBounds_toArray, List.set_cons_succ, List.set_cons_zero]
              refine wpList_nil ?_
              go_upto_region 15 with fail
              refine wp_region_lit ?_
              refine takeL (u7) rfl (by go_simp) ?_
              try simp only [Act.put, List.setIfInBounds_toArray, List.set_cons_succ, List.set_cons_zero]
              refine wpList_op rfl fun K hK => ?_
              go_simp
              refine (blocks_is HBK.out _ HLN.out _ F23.out).mono ?_
              rintro e w27 ⟨rfl, hb⟩
              have F28 := Lib.hid (F22.out.trans (hb.mono F22.out.size))
              have F29 := Lib.hid (F23.out.below hb)
              have F30 := Lib.hid (F24.out.below hb)
              have F31 := Lib.hid (F25.out.below hb F25.out.lt)
              clear F22 F23 F24 F25
              clear hb
              refine hK _ _ ?_
              clear hK K
              try simp only [Act.put, List.setIfInBounds_toArray, List.set_cons_succ, List.set_cons_zero]
              refine takeL (.int .i64 0) rfl (by go_simp) ?_
              try simp only [Act.put, List.setIfInBounds_toArray, List.set_cons_succ, List.set_cons_zero]
              refine takeL (.bool true) rfl (by go_simp) ?_
              try simp only [Act.put, List.setIfInBounds_toArray, List.set_cons_succ, List.set_cons_zero]
              refine takeL (.bool true) rfl (by go_simp) ?_
              try simp only [Act.put, List.setIfInBounds_toArray, List.set_cons_succ, List.set_cons_zero]
              refine takeL (.int .i64 11) rfl (by go_simp) ?_
              try simp only [Act.put, List.setIfInBounds_toArray, List.set_cons_succ, List.set_cons_zero]
              refine takeL (.bool true) rfl (by go_simp) ?_
              try simp only [Act.put, List.setIfInBounds_toArray, List.set_cons_succ, List.set_cons_zero]
              refine takeL (.bool true) rfl (by go_simp) ?_
              try simp only [Act.put, List.setIfInBounds_toArray, List.set_cons_succ, List.set_cons_zero]
              refine takeL (.bool true) rfl (by go_simp) ?_
              try simp only [Act.put, List.setIfInBounds_toArray, List.set_cons_succ, List.set_cons_zero]
              refine wpList_op rfl fun K hK => ?_
              go_simp
              refine (wakes_any _).mono ?_
              rintro e w32 ⟨rfl, hb⟩
              have F33 := Lib.hid (F28.out.trans (hb.mono F28.out.size))
              have F34 := Lib.hid (F29.out.below hb)
              have F35 := Lib.hid (F30.out.below hb)
              have F36 := Lib.hid (F31.out.below hb F31.out.lt)
              clear F28 F29 F30 F31
              clear hb
              refine hK _ _ ?_
              clear hK K
              try simp only [Act.put, List.setIfInBounds_toArray, List.set_cons_succ, List.set_cons_zero]
              refine takeL (.bool true) rfl (by go_simp) ?_
              try simp only [Act.put, List.setIfInBounds_toArray, List.set_cons_succ, List.set_cons_zero]
              refine takeL (.bool true) rfl (by go_simp) ?_
              try simp only [Act.put, List.setIfInBounds_toArray, List.set_cons_succ, List.set_cons_zero]
              refine wpList_nil ?_
              go_wp2_with fail
              go_ret
              exact ⟨rfl, F33.out⟩
            · have HBK : Hid (blocks (List.replicate j ((mk, mi) : Mk)) = j) := Lib.hid (by rw [blocks_same]; simp only; rw [hbk]; rfl)
              clear hbk
              go_upto_region 14 with fail
              refine wp_region_lit ?_
              have HLB2 : Hid ((List.replicate j ((mk, mi) : Mk) ++ List.replicate 24 (0, 0)).length ≤ 1000000) := Lib.hid (by simp; omega)
              have HGB : Hid (goodMarks (List.replicate j ((mk, mi) : Mk) ++ List.replicate 24 (0, 0)) = false) := Lib.hid (good_long (by simp; omega))
              have HSB : Hid (∀ m ∈ List.replicate j ((mk, mi) : Mk) ++ List.replicate 24 (0, 0), Small m.1 ∧ Small m.2) := Lib.hid (fun m hm => by
                rcases List.mem_append.1 hm with hm | hm
                · exact HSM.out m hm
                · rw [(List.mem_replicate.1 hm).2]; exact ⟨⟨by decide, by decide⟩, ⟨by decide, by decide⟩⟩)
              refine takeL (u7) rfl (by go_simp) ?_
              try simp only [Act.put, List.setIfInBounds_toArray, List.set_cons_succ, List.set_cons_zero]
              refine zeros_LM (k := 24) F10.out (by rw [List.length_replicate]; omega) F13.out (by decide) (by rw [List.length_replicate]; omega) rfl rfl rfl ?_
              intro sz wz hoz hbw hmz
              try simp only [Act.put, List.setIfInBounds_toArray, List.set_cons_succ, List.set_cons_zero]
              have FA9 := Lib.hid (F12.out.below hbw HLB.out)
              have FB9 := Lib.hid (F9.out.trans (hbw.mono (Nat.le_of_lt HLB.out)))
              have FM9 := Lib.hid hmz
              have FO9 := Lib.hid hoz
              clear hbw hmz hoz F10 F11 F12 F9 F13
              refine takeL (.agg #[.int .u32 5, .bool false, sz]) rfl (exec_build _ _ _ _ 25 _ rfl #[(0, .int .u32 5), (2, sz)] (by simp only [List.map_toArray, List.map_cons, List.map_nil]; rfl) _ (build255 FO9.out.marks _)) ?_
              try simp only [Act.put, List.setIfInBounds_toArray, List.set_cons_succ, List.set_cons_zero]
              refine wpList_op rfl fun K hK => ?_
              go_simp
              refine (enc5 (sec := zeros 64) (e0 := 11) _ HLB2.out HSB.out (by unfold Sm.sec Sm.good; simp only; rw [HGB.out]; rfl) (by unfold Sm.err Sm.good; simp only; rw [HGB.out]; rfl) _ FO9.out.marks).mono ?_
              rintro e w38 ⟨rfl, hb⟩
              have F39 := Lib.hid (FB9.out.trans (hb.mono FB9.out.size))
              have F40 := Lib.hid (FM9.out.below hb)
              have F41 := Lib.hid (FO9.out.below hb)
              clear FB9 FM9 FO9
              clear hb
              refine hK _ _ ?_
              clear hK K
              try simp only [Act.put, List.setIfInBounds_toArray, List.set_cons_succ, List.set_cons_zero]
              refine takeL (.tuple #[.agg (u8s (zeros 64)).toArray, .int .i64 11]) rfl (by go_simp) ?_
              try simp only [Act.put, List.setIfInBounds_toArray, List.set_cons_succ, List.set_cons_zero]
              refine takeL (.agg (u8s (zeros 64)).toArray) rfl (by go_simp) ?_
              try simp only [Act.put, List.setIfInBounds_toArray, List.set_cons_succ, List.set_cons_zero]
              refine takeL (.int .i64 11) rfl (by go_simp) ?_
              try simp only [Act.put, List.setIfInBounds_toArray, List.set_cons_succ, List.set_cons_zero]
              refine alloc_g zero27 rfl ?_
              intro w42 hC hBC hlC
              try simp only [Act.put, List.setIfInBounds_toArray, List.set_cons_succ, List.set_cons_zero]
              refine store_all (cs := (u8s (zeros 64)).toArray) hC (by rw [u8s_size, HZ64.out]; simp [zeros]) (by rw [u8s_size, HZ64.out]; exact info27) (u8s_one _) rfl rfl rfl ?_
              intro w43 hD hOD hlD
              try simp only [Act.put, List.setIfInBounds_toArray, List.set_cons_succ, List.set_cons_zero]
              have hb := hBC.trans (hOD.below hBC.size (fun k hk => Nat.le_of_eq hk.symm))
              have F44 := Lib.hid (F39.out.trans (hb.mono F39.out.size))
              have F45 := Lib.hid (F40.out.below hb)
              have F46 := Lib.hid (F41.out.below hb)
              clear F39 F40 F41
              have F47 := Lib.hid hD
              clear hC hBC hlC hD hOD hlD hb
              generalize w38.heap.size = g48 at *
              clear w42 w38
              refine takeL (.int .i64 11) rfl (by go_simp) ?_
              try simp only [Act.put, List.setIfInBounds_toArray, List.set_cons_succ, List.set_cons_zero]
              refine wpList_nil ?_
              go_upto_region 15 with fail
              refine wp_region_lit ?_
              refine takeL (u7) rfl (by go_simp) ?_
              try simp only [Act.put, List.setIfInBounds_toArray, List.set_cons_succ, List.set_cons_zero]
              refine wpList_op rfl fun K hK => ?_
              go_simp
              refine (blocks_is HBK.out _ HLN.out _ F45.out).mono ?_
              rintro e w49 ⟨rfl, hb⟩
              have F50 := Lib.hid (F44.out.trans (hb.mono F44.out.size))
              have F51 := Lib.hid (F45.out.below hb)
              have F52 := Lib.hid (F46.out.below hb)
              have F53 := Lib.hid (F47.out.below hb F47.out.lt)
              clear F44 F45 F46 F47
              clear hb
              refine hK _ _ ?_
              clear hK K
              try simp only [Act.put, List.setIfInBounds_toArray, List.set_cons_succ, List.set_cons_zero]
              refine takeL (.int .i64 j) rfl (by go_simp) ?_
              try simp only [Act.put, List.setIfInBounds_toArray, List.set_cons_succ, List.set_cons_zero]
              refine takeL (.bool true) rfl (by go_simp) ?_
              try simp only [Act.put, List.setIfInBounds_toArray, List.set_cons_succ, List.set_cons_zero]
              refine takeL (.bool true) rfl (by go_simp) ?_
              try simp only [Act.put, List.setIfInBounds_toArray, List.set_cons_succ, List.set_cons_zero]
              refine takeL (.int .i64 11) rfl (by go_simp) ?_
              try simp only [Act.put, List.setIfInBounds_toArray, List.set_cons_succ, List.set_cons_zero]
              refine takeL (.bool true) rfl (by go_simp) ?_
              try simp only [Act.put, List.setIfInBounds_toArray, List.set_cons_succ, List.set_cons_zero]
              refine takeL (.bool true) rfl (by go_simp) ?_
              try simp only [Act.put, List.setIfInBounds_toArray, List.set_cons_succ, List.set_cons_zero]
              refine takeL (.bool true) rfl (by go_simp) ?_
              try simp only [Act.put, List.setIfInBounds_toArray, List.set_cons_succ, List.set_cons_zero]
              refine wpList_op rfl fun K hK => ?_
              go_simp
              refine (wakes_any _).mono ?_
              rintro e w54 ⟨rfl, hb⟩
              have F55 := Lib.hid (F50.out.trans (hb.mono F50.out.size))
              have F56 := Lib.hid (F51.out.below hb)
              have F57 := Lib.hid (F52.out.below hb)
              have F58 := Lib.hid (F53.out.below hb F53.out.lt)
              clear F50 F51 F52 F53
              clear hb
              refine hK _ _ ?_
              clear hK K
              try simp only [Act.put, List.setIfInBounds_toArray, List.set_cons_succ, List.set_cons_zero]
              refine takeL (.bool true) rfl (by go_simp) ?_
              try simp only [Act.put, List.setIfInBounds_toArray, List.set_cons_succ, List.set_cons_zero]
              refine takeL (.bool true) rfl (by go_simp) ?_
              try simp only [Act.put, List.setIfInBounds_toArray, List.set_cons_succ, List.set_cons_zero]
              refine wpList_nil ?_
              go_wp2_with fail
              go_ret
              exact ⟨rfl, F55.out⟩
        · have HG : Hid (goodMarks (List.replicate j ((mk, mi) : Mk)) = true) := Lib.hid (by rw [HGD.out, HOK.out])
          have HE64 := Lib.hid (enc_length (s := ⟨5, false, List.replicate j (mk, mi)⟩) HG.out)
          refine takeL (u7) rfl (by go_simp) ?_
          try simp only [Act.put, List.setIfInBounds_toArray, List.set_cons_succ, List.set_cons_zero]
          refine takeL (.agg #[.int .u32 5, .bool false, u7]) rfl (exec_build _ _ _ _ 25 _ rfl #[(0, .int .u32 5), (2, u7)] (by simp only [List.map_toArray, List.map_cons, List.map_nil]; rfl) _ (build255 HMY.out _)) ?_
          try simp only [Act.put, List.setIfInBounds_toArray, List.set_cons_succ, List.set_cons_zero]
          refine wpList_op rfl fun K hK => ?_
          go_simp
          refine (enc5 (sec := (Sm.enc ⟨5, false, List.replicate j (mk, mi)⟩)) (e0 := 0) _ HLN.out HSM.out (by unfold Sm.sec Sm.good; simp only; rw [HG.out]; rfl) (by unfold Sm.err Sm.good; simp only; rw [HG.out]; rfl) _ HMY.out).mono ?_
          rintro e w1 ⟨rfl, hb⟩
          have F2 := Lib.hid (FBL.out.trans (hb.mono FBL.out.size))
          have F3 := Lib.hid (HO.out.below hb)
          have F4 := Lib.hid (HMY.out.below hb)
          have F5 := Lib.hid (HA2.out.below hb HA2.out.lt)
          have F6 := Lib.hid (Nat.le_trans HBS.out hb.size)
          clear FBL HO HMY HA2 HBS
          clear hb
          refine hK _ _ ?_
          clear hK K
          try simp only [Act.put, List.setIfInBounds_toArray, List.set_cons_succ, List.set_cons_zero]
          refine takeL (.tuple #[.agg (u8s (Sm.enc ⟨5, false, List.replicate j (mk, mi)⟩)).toArray, .int .i64 0]) rfl (by go_simp) ?_
          try simp only [Act.put, List.setIfInBounds_toArray, List.set_cons_succ, List.set_cons_zero]
          refine takeL (.agg (u8s (Sm.enc ⟨5, false, List.replicate j (mk, mi)⟩)).toArray) rfl (by go_simp) ?_
          try simp only [Act.put, List.setIfInBounds_toArray, List.set_cons_succ, List.set_cons_zero]
          refine takeL (.int .i64 0) rfl (by go_simp) ?_
          try simp only [Act.put, List.setIfInBounds_toArray, List.set_cons_succ, List.set_cons_zero]
          refine alloc_g zero27 rfl ?_
          intro w7 hC hBC hlC
          try simp only [Act.put, List.setIfInBounds_toArray, List.set_cons_succ, List.set_cons_zero]
          refine store_all (cs := (u8s (Sm.enc ⟨5, false, List.replicate j (mk, mi)⟩)).toArray) hC (by rw [u8s_size, HE64.out]; simp [zeros]) (by rw [u8s_size, HE64.out]; exact info27) (u8s_one _) rfl rfl rfl ?_
          intro w8 hD hOD hlD
          try simp only [Act.put, List.setIfInBounds_toArray, List.set_cons_succ, List.set_cons_zero]
          have hb := hBC.trans (hOD.below hBC.size (fun k hk => Nat.le_of_eq hk.symm))
          have F9 := Lib.hid (F2.out.trans (hb.mono F2.out.size))
          have F10 := Lib.hid (F3.out.below hb)
          have F11 := Lib.hid (F4.out.below hb)
          have F12 := Lib.hid (F5.out.below hb F5.out.lt)
          have F13 := Lib.hid (Nat.le_trans F6.out hb.size)
          clear F2 F3 F4 F5 F6
          have F14 := Lib.hid hD
          clear hC hBC hlC hD hOD hlD hb
          generalize w1.heap.size = g15 at *
          clear w7 w1
          refine takeL (.int .i64 0) rfl (by go_simp) ?_
          try simp only [Act.put, List.setIfInBounds_toArray, List.set_cons_succ, List.set_cons_zero]
          refine wpList_nil ?_
          go_upto_region 9 with fail
          refine wp_region_lit ?_
          refine takeL (.int .i64 0) rfl (by go_simp) ?_
          try simp only [Act.put, List.setIfInBounds_toArray, List.set_cons_succ, List.set_cons_zero]
          refine takeL (.bool true) rfl (by go_simp) ?_
          try simp only [Act.put, List.setIfInBounds_toArray, List.set_cons_succ, List.set_cons_zero]
          refine takeL (.bool true) rfl (by go_simp) ?_
          try simp only [Act.put, List.setIfInBounds_toArray, List.set_cons_succ, List.set_cons_zero]
          refine takeL (.bool false) rfl (by go_simp) ?_
          try simp only [Act.put, List.setIfInBounds_toArray, List.set_cons_succ, List.set_cons_zero]
          refine takeL (.bool false) rfl (by go_simp) ?_
          try simp only [Act.put, List.setIfInBounds_toArray, List.set_cons_succ, List.set_cons_zero]
          refine takeL (.bool true) rfl (by go_simp) ?_
          try simp only [Act.put, List.setIfInBounds_toArray, List.set_cons_succ, List.set_cons_zero]
          refine takeL (.bool false) rfl (by go_simp) ?_
          try simp only [Act.put, List.setIfInBounds_toArray, List.set_cons_succ, List.set_cons_zero]
          refine takeL (.bool false) rfl (by go_simp) ?_
          try simp only [Act.put, List.setIfInBounds_toArray, List.set_cons_succ, List.set_cons_zero]
          refine passL rfl ?_
          try simp only [Act.put, List.setIfInBounds_toArray, List.set_cons_succ, List.set_cons_zero]
          refine passL rfl ?_
          try simp only [Act.put, List.setIfInBounds_toArray, List.set_cons_succ, List.set_cons_zero]
          refine passL rfl ?_
          try simp only [Act.put, List.setIfInBounds_toArray, List.set_cons_succ, List.set_cons_zero]
          refine takeL (.bool false) rfl (by go_simp) ?_
          try simp only [Act.put, List.setIfInBounds_toArray, List.set_cons_succ, List.set_cons_zero]
          refine takeL (.bool false) rfl (by go_simp) ?_
          try simp only [Act.put, List.setIfInBounds_toArray, List.set_cons_succ, List.set_cons_zero]
          refine wpList_nil ?_
          go_upto_region 12 with fail
          go_cut [86] from 74 to 87 (fun s86 wx => s86 = .bool (hasBlock mk) ∧ w8 = wx)
          case first =>
            have c0 := F12.out.cell (i := 0) rfl
            by_cases e1 : mk = 1
            · subst e1
              go_wp2_with fail
              go_meet
              exact ⟨rfl, rfl⟩
            by_cases e2 : mk = 2
            · subst e2
              go_wp2_with fail
              go_meet
              exact ⟨rfl, rfl⟩
            by_cases e3 : mk = 3
            · subst e3
              go_wp2_with fail
              go_meet
              exact ⟨rfl, rfl⟩
            have hbf : hasBlock mk = false := by unfold hasBlock; rw [Bool.and_eq_false_iff, decide_eq_false_iff_not, decide_eq_false_iff_not]; omega
            go_wp2_with fail
            go_meet
            exact ⟨by rw [hbf]; first | rfl | simp [e1, e2, e3], rfl⟩
          case rest =>
            obtain ⟨rfl, rfl⟩ := hcut
            cases hbk : hasBlock mk
            · have HBK : Hid (blocks (List.replicate j ((mk, mi) : Mk)) = 0) := Lib.hid (by rw [blocks_same]; simp only; rw [hbk]; rfl)
              clear hbk
              go_upto_region 14 with fail
              refine wp_region_lit ?_
              have HLB2 : Hid ((List.replicate j ((mk, mi) : Mk) ++ List.replicate 24 (0, 0)).length ≤ 1000000) := Lib.hid (by simp; omega)
              have HGB : Hid (goodMarks (List.replicate j ((mk, mi) : Mk) ++ List.replicate 24 (0, 0)) = false) := Lib.hid (good_long (by simp; omega))
              have HSB : Hid (∀ m ∈ List.replicate j ((mk, mi) : Mk) ++ List.replicate 24 (0, 0), Small m.1 ∧ Small m.2) := Lib.hid (fun m hm => by
                rcases List.mem_append.1 hm with hm | hm
                · exact HSM.out m hm
                · rw [(List.mem_replicate.1 hm).2]; exact ⟨⟨by decide, by decide⟩, ⟨by decide, by decide⟩⟩)
              refine takeL (u7) rfl (by go_simp) ?_
              try simp only [Act.put, List.setIfInBounds_toArray, List.set_cons_succ, List.set_cons_zero]
              refine zeros_LM (k := 24) F10.out (by rw [List.length_replicate]; omega) F13.out (by decide) (by rw [List.length_replicate]; omega) rfl rfl rfl ?_
              intro sz wz hoz hbw hmz
              try simp only [Act.put, List.setIfInBounds_toArray, List.set_cons_succ, List.set_cons_zero]
              have FA9 := Lib.hid (F12.out.below hbw HLB.out)
              have FB9 := Lib.hid (F9.out.trans (hbw.mono (Nat.le_of_lt HLB.out)))
              have FM9 := Lib.hid hmz
              have FO9 := Lib.hid hoz
              clear hbw hmz hoz F10 F11 F12 F9 F13
              refine takeL (.agg #[.int .u32 5, .bool false, sz]) rfl (exec_build _ _ _ _ 25 _ rfl #[(0, .int .u32 5), (2, sz)] (by simp only [List.map_toArray, List.map_cons, List.map_nil]; rfl) _ (build255 FO9.out.marks _)) ?_
              try simp only [Act.put, List.setIfInBounds_toArray, List.set_cons_succ, List.set_cons_zero]
              refine wpList_op rfl fun K hK => ?_
              go_simp
              refine (enc5 (sec := zeros 64) (e0 := 11) _ HLB2.out HSB.out (by unfold Sm.sec Sm.good; simp only; rw [HGB.out]; rfl) (by unfold Sm.err Sm.good; simp only; rw [HGB.out]; rfl) _ FO9.out.marks).mono ?_
              rintro e w16 ⟨rfl, hb⟩
              have F17 := Lib.hid (FB9.out.trans (hb.mono FB9.out.size))
              have F18 := Lib.hid (FM9.out.below hb)
              have F19 := Lib.hid (FO9.out.below hb)
              clear FB9 FM9 FO9
              clear hb
              refine hK _ _ ?_
              clear hK K
              try simp only [Act.put, List.setIfInBounds_toArray, List.set_cons_succ, List.set_cons_zero]
              refine takeL (.tuple #[.agg (u8s (zeros 64)).toArray, .int .i64 11]) rfl (by go_simp) ?_
              try simp only [Act.put, List.setIfInBounds_toArray, List.set_cons_succ, List.set_cons_zero]
              refine takeL (.agg (u8s (zeros 64)).toArray) rfl (by go_simp) ?_
              try simp only [Act.put, List.setIfInBounds_toArray, List.set_cons_succ, List.set_cons_zero]
              refine takeL (.int .i64 11) rfl (by go_simp) ?_
              try simp only [Act.put, List.setIfInBounds_toArray, List.set_cons_succ, List.set_cons_zero]
              refine alloc_g zero27 rfl ?_
              intro w20 hC hBC hlC
              try simp only [Act.put, List.setIfInBounds_toArray, List.set_cons_succ, List.set_cons_zero]
              refine store_all (cs := (u8s (zeros 64)).toArray) hC (by rw [u8s_size, HZ64.out]; simp [zeros]) (by rw [u8s_size, HZ64.out]; exact info27) (u8s_one _) rfl rfl rfl ?_
              intro w21 hD hOD hlD
              try simp only [Act.put, List.setIfInBounds_toArray, List.set_cons_succ, List.set_cons_zero]
              have hb := hBC.trans (hOD.below hBC.size (fun k hk => Nat.le_of_eq hk.symm))
              have F22 := Lib.hid (F17.out.trans (hb.mono F17.out.size))
              have F23 := Lib.hid (F18.out.below hb)
              have F24 := Lib.hid (F19.out.below hb)
              clear F17 F18 F19
              have F25 := Lib.hid hD
              clear hC hBC hlC hD hOD hlD hb
              generalize w16.heap.size = g26 at *
              clear w20 w16
              refine takeL (.int .i64 11) rfl (by go_simp) ?_
              try simp only [Act.put, List.setIfInBounds_toArray, List.set_cons_succ, List.set_cons_zero]
              refine wpList_nil ?_
              go_upto_region 15 with fail
              refine wp_region_lit ?_
              refine takeL (u7) rfl (by go_simp) ?_
              try simp only [Act.put, List.setIfInBounds_toArray, List.set_cons_succ, List.set_cons_zero]
              refine wpList_op rfl fun K hK => ?_
              go_simp
              refine (blocks_is HBK.out _ HLN.out _ F23.out).mono ?_
              rintro e w27 ⟨rfl, hb⟩
              have F28 := Lib.hid (F22.out.trans (hb.mono F22.out.size))
              have F29 := Lib.hid (F23.out.below hb)
              have F30 := Lib.hid (F24.out.below hb)
              have F31 := Lib.hid (F25.out.below hb F25.out.lt)
              clear F22 F23 F24 F25
              clear hb
              refine hK _ _ ?_
              clear hK K
              try simp only [Act.put, List.setIfInBounds_toArray, List.set_cons_succ, List.set_cons_zero]
              refine takeL (.int .i64 0) rfl (by go_simp) ?_
              try simp only [Act.put, List.setIfInBounds_toArray, List.set_cons_succ, List.set_cons_zero]
              refine takeL (.bool true) rfl (by go_simp) ?_
              try simp only [Act.put, List.setIfInBounds_toArray, List.set_cons_succ, List.set_cons_zero]
              refine takeL (.bool true) rfl (by go_simp) ?_
              try simp only [Act.put, List.setIfInBounds_toArray, List.set_cons_succ, List.set_cons_zero]
              refine takeL (.int .i64 11) rfl (by go_simp) ?_
              try simp only [Act.put, List.setIfInBounds_toArray, List.set_cons_succ, List.set_cons_zero]
              refine takeL (.bool true) rfl (by go_simp) ?_
              try simp only [Act.put, List.setIfInBounds_toArray, List.set_cons_succ, List.set_cons_zero]
              refine takeL (.bool true) rfl (by go_simp) ?_
              try simp only [Act.put, List.setIfInBounds_toArray, List.set_cons_succ, List.set_cons_zero]
              refine takeL (.bool true) rfl (by go_simp) ?_
              try simp only [Act.put, List.setIfInBounds_toArray, List.set_cons_succ, List.set_cons_zero]
              refine wpList_op rfl fun K hK => ?_
              go_simp
              refine (wakes_any _).mono ?_
              rintro e w32 ⟨rfl, hb⟩
              have F33 := Lib.hid (F28.out.trans (hb.mono F28.out.size))
              have F34 := Lib.hid (F29.out.below hb)
              have F35 := Lib.hid (F30.out.below hb)
              have F36 := Lib.hid (F31.out.below hb F31.out.lt)
              clear F28 F29 F30 F31
              clear hb
              refine hK _ _ ?_
              clear hK K
              try simp only [Act.put, List.setIfInBounds_toArray, List.set_cons_succ, List.set_cons_zero]
              refine takeL (.bool true) rfl (by go_simp) ?_
              try simp only [Act.put, List.setIfInBounds_toArray, List.set_cons_succ, List.set_cons_zero]
              refine takeL (.bool true) rfl (by go_simp) ?_
              try simp only [Act.put, List.setIfInBounds_toArray, List.set_cons_succ, List.set_cons_zero]
              refine wpList_nil ?_
              go_wp2_with fail
              go_ret
              exact ⟨rfl, F33.out⟩
            · have HBK : Hid (blocks (List.replicate j ((mk, mi) : Mk)) = j) := Lib.hid (by rw [blocks_same]; simp only; rw [hbk]; rfl)
              clear hbk
              go_upto_region 14 with fail
              refine wp_region_lit ?_
              have HLB2 : Hid ((List.replicate j ((mk, mi) : Mk) ++ List.replicate 24 (0, 0)).length ≤ 1000000) := Lib.hid (by simp; omega)
              have HGB : Hid (goodMarks (List.replicate j ((mk, mi) : Mk) ++ List.replicate 24 (0, 0)) = false) := Lib.hid (good_long (by simp; omega))
              have HSB : Hid (∀ m ∈ List.replicate j ((mk, mi) : Mk) ++ List.replicate 24 (0, 0), Small m.1 ∧ Small m.2) := Lib.hid (fun m hm => by
                rcases List.mem_append.1 hm with hm | hm
                · exact HSM.out m hm
                · rw [(List.mem_replicate.1 hm).2]; exact ⟨⟨by decide, by decide⟩, ⟨by decide, by decide⟩⟩)
              refine takeL (u7) rfl (by go_simp) ?_
              try simp only [Act.put, List.setIfInBounds_toArray, List.set_cons_succ, List.set_cons_zero]
              refine zeros_LM (k := 24) F10.out (by rw [List.length_replicate]; omega) F13.out (by decide) (by rw [List.length_replicate]; omega) rfl rfl rfl ?_
              intro sz wz hoz hbw hmz
              try simp only [Act.put, List.setIfInBounds_toArray, List.set_cons_succ, List.set_cons_zero]
              have FA9 := Lib.hid (F12.out.below hbw HLB.out)
              have FB9 := Lib.hid (F9.out.trans (hbw.mono (Nat.le_of_lt HLB.out)))
              have FM9 := Lib.hid hmz
              have FO9 := Lib.hid hoz
              clear hbw hmz hoz F10 F11 F12 F9 F13
              refine takeL (.agg #[.int .u32 5, .bool false, sz]) rfl (exec_build _ _ _ _ 25 _ rfl #[(0, .int .u32 5), (2, sz)] (by simp only [List.map_toArray, List.map_cons, List.map_nil]; rfl) _ (build255 FO9.out.marks _)) ?_
              try simp only [Act.put, List.setIfInBounds_toArray, List.set_cons_succ, List.set_cons_zero]
              refine wpList_op rfl fun K hK => ?_
              go_simp
              refine (enc5 (sec := zeros 64) (e0 := 11) _ HLB2.out HSB.out (by unfold Sm.sec Sm.good; simp only; rw [HGB.out]; rfl) (by unfold Sm.err Sm.good; simp only; rw [HGB.out]; rfl) _ FO9.out.marks).mono ?_
              rintro e w38 ⟨rfl, hb⟩
              have F39 := Lib.hid (FB9.out.trans (hb.mono FB9.out.size))
              have F40 := Lib.hid (FM9.out.below hb)
              have F41 := Lib.hid (FO9.out.below hb)
              clear FB9 FM9 FO9
              clear hb
              refine hK _ _ ?_
              clear hK K
              try simp only [Act.put, List.setIfInBounds_toArray, List.set_cons_succ, List.set_cons_zero]
              refine takeL (.tuple #[.agg (u8s (zeros 64)).toArray, .int .i64 11]) rfl (by go_simp) ?_
              try simp only [Act.put, List.setIfInBounds_toArray, List.set_cons_succ, List.set_cons_zero]
              refine takeL (.agg (u8s (zeros 64)).toArray) rfl (by go_simp) ?_
              try simp only [Act.put, List.setIfInBounds_toArray, List.set_cons_succ, List.set_cons_zero]
              refine takeL (.int .i64 11) rfl (by go_simp) ?_
              try simp only [Act.put, List.setIfInBounds_toArray, List.set_cons_succ, List.set_cons_zero]
              refine alloc_g zero27 rfl ?_
              intro w42 hC hBC hlC
              try simp only [Act.put, List.setIfInBounds_toArray, List.set_cons_succ, List.set_cons_zero]
              refine store_all (cs := (u8s (zeros 64)).toArray) hC (by rw [u8s_size, HZ64.out]; simp [zeros]) (by rw [u8s_size, HZ64.out]; exact info27) (u8s_one _) rfl rfl rfl ?_
              intro w43 hD hOD hlD
              try simp only [Act.put, List.setIfInBounds_toArray, List.set_cons_succ, List.set_cons_zero]
              have hb := hBC.trans (hOD.below hBC.size (fun k hk => Nat.le_of_eq hk.symm))
              have F44 := Lib.hid (F39.out.trans (hb.mono F39.out.size))
              have F45 := Lib.hid (F40.out.below hb)
              have F46 := Lib.hid (F41.out.below hb)
              clear F39 F40 F41
              have F47 := Lib.hid hD
              clear hC hBC hlC hD hOD hlD hb
              generalize w38.heap.size = g48 at *
              clear w42 w38
              refine takeL (.int .i64 11) rfl (by go_simp) ?_
              try simp only [Act.put, List.setIfInBounds_toArray, List.set_cons_succ, List.set_cons_zero]
              refine wpList_nil ?_
              go_upto_region 15 with fail
              refine wp_region_lit ?_
              refine takeL (u7) rfl (by go_simp) ?_
              try simp only [Act.put, List.setIfInBounds_toArray, List.set_cons_succ, List.set_cons_zero]
              refine wpList_op rfl fun K hK => ?_
              go_simp
              refine (blocks_is HBK.out _ HLN.out _ F45.out).mono ?_
              rintro e w49 ⟨rfl, hb⟩
              have F50 := Lib.hid (F44.out.trans (hb.mono F44.out.size))
              have F51 := Lib.hid (F45.out.below hb)
              have F52 := Lib.hid (F46.out.below hb)
              have F53 := Lib.hid (F47.out.below hb F47.out.lt)
              clear F44 F45 F46 F47
              clear hb
              refine hK _ _ ?_
              clear hK K
              try simp only [Act.put, List.setIfInBounds_toArray, List.set_cons_succ, List.set_cons_zero]
              refine takeL (.int .i64 j) rfl (by go_simp) ?_
              try simp only [Act.put, List.setIfInBounds_toArray, List.set_cons_succ, List.set_cons_zero]
              refine takeL (.bool true) rfl (by go_simp) ?_
              try simp only [Act.put, List.setIfInBounds_toArray, List.set_cons_succ, List.set_cons_zero]
              refine takeL (.bool true) rfl (by go_simp) ?_
              try simp only [Act.put, List.setIfInBounds_toArray, List.set_cons_succ, List.set_cons_zero]
              refine takeL (.int .i64 11) rfl (by go_simp) ?_
              try simp only [Act.put, List.setIfInBounds_toArray, List.set_cons_succ, List.set_cons_zero]
              refine takeL (.bool true) rfl (by go_simp) ?_
              try simp only [Act.put, List.setIfInBounds_toArray, List.set_cons_succ, List.set_cons_zero]
              refine takeL (.bool true) rfl (by go_simp) ?_
              try simp only [Act.put, List.setIfInBounds_toArray, List.set_cons_succ, List.set_cons_zero]
              refine takeL (.bool true) rfl (by go_simp) ?_
              try simp only [Act.put, List.setIfInBounds_toArray, List.set_cons_succ, List.set_cons_zero]
              refine wpList_op rfl fun K hK => ?_
              go_simp
              refine (wakes_any _).mono ?_
              rintro e w54 ⟨rfl, hb⟩
              have F55 := Lib.hid (F50.out.trans (hb.mono F50.out.size))
              have F56 := Lib.hid (F51.out.below hb)
              have F57 := Lib.hid (F52.out.below hb)
              have F58 := Lib.hid (F53.out.below hb F53.out.lt)
              clear F50 F51 F52 F53
              clear hb
              refine hK _ _ ?_
              clear hK K
              try simp only [Act.put, List.setIfInBounds_toArray, List.set_cons_succ, List.set_cons_zero]
              refine takeL (.bool true) rfl (by go_simp) ?_
              try simp only [Act.put, List.setIfInBounds_toArray, List.set_cons_succ, List.set_cons_zero]
              refine takeL (.bool true) rfl (by go_simp) ?_
              try simp only [Act.put, List.setIfInBounds_toArray, List.set_cons_succ, List.set_cons_zero]
              refine wpList_nil ?_
              go_wp2_with fail
              go_ret
              exact ⟨rfl, F55.out⟩
end Go.Proofs.Ytfhpmhigfhnbaaa
