/- The statement SummaryCodes' walk. -/
import Derived.Test.YtfhpmhigfhnbaaaRdec
import Derived.Test.YtfhpmhigfhnbaaaBack
namespace Go.Proofs.Ytfhpmhigfhnbaaa
set_option linter.unusedSimpArgs false
set_option linter.unusedVariables false
open Go.RowKit

theorem decS_len (x : List Int) : (decS x).marks.length ≤ 1000000 := by
  unfold decS
  split
  · have : (readOf x).marks.length = min 24 (x.getD 6 0).toNat := marksOf_length _ _
    omega
  · exact Nat.zero_le _
theorem built25g (n : Int) (b : Bool) (a : Option Addr) (k c : Nat) : Try.prog.built 25 [(0, .int .u32 n), (1, .bool b), (2, .slice a k c)] = some #[.int .u32 n, .bool b, .slice a k c] := by kernel_rfl
theorem build25g {w : World} {sv : Value} {l : List Mk} (h : MarksAt w sv l) (n : Int) (b : Bool) (w' : World) : (Instr.build 25 #[(0, .int .u32 n), (1, .bool b), (2, sv)]).run Try.prog w' = .ok (.agg #[.int .u32 n, .bool b, sv]) w' := by
  obtain ⟨a, cap, rfl, _⟩ := h
  exact run_build w' 25 _ _ (built25g n b a _ cap)
theorem keep_self {l : List Mk} (sv tv : Value) (hl : l.length ≤ 1000000) (w : World) (h : MarksAt w sv l) (h' : MarksAt w tv l) : Calls Try.prog 16 #[sv, tv] w fun e w' => e = .returned (.bool true) ∧ Below w.heap.size w w' :=
  keep_is (decide_eq_true rfl) sv tv hl hl w h h'

set_option maxHeartbeats 1000000 in
set_option maxRecDepth 100000 in
theorem codes_long (s : Sm) (sv : Value) (x : List Int) (hs : s.Wf) (hx : Sc x) (hl : 300 < s.marks.length) (w : World) (hms : MarksAt w sv s.marks) : Calls Try.prog 3 #[.agg #[.int .u32 s.seq, .bool s.more, sv], .agg (u8s x).toArray] w fun e w' => e = .returned (.bool true) ∧ Below w.heap.size w w' := by
  have HWs := Lib.hid hs
  have HX := Lib.hid hx
  have HXL := Lib.hid hx.length
  have HSs := Lib.hid (sec_length s)
  obtain ⟨ss, cs, rfl, -⟩ := id hms
  have FYS := Lib.hid hms
  have HBL : Hid (Below w.heap.size w w) := Lib.hid (Below.refl _ _)
  have hl2 : (300 : Int) < s.marks.length := by omega
  clear hs hx hms
  go_enter Try.func3, Try.ntmps3
  go_upto_region 0 with fail
  refine wp_region_lit ?_
  refine box_g rfl rfl ?_
  intro w1 hA hb hl
  try simp only [Act.put, List.setIfInBounds_toArray, List.set_cons_succ, List.set_cons_zero]
  clear hl
  have F2 := Lib.hid (HBL.out.trans (hb.mono HBL.out.size))
  have F3 := Lib.hid (FYS.out.below hb)
  clear HBL FYS
  have F4 := Lib.hid hA
  clear hA hb
  refine box_g rfl rfl ?_
  intro w5 hA hb hl
  try simp only [Act.put, List.setIfInBounds_toArray, List.set_cons_succ, List.set_cons_zero]
  clear hl
  have F6 := Lib.hid (F2.out.trans (hb.mono F2.out.size))
  have F7 := Lib.hid (F3.out.below hb)
  have F8 := Lib.hid (F4.out.below hb F4.out.lt)
  clear F2 F3 F4
  have F9 := Lib.hid hA
  clear hA hb
  generalize w1.heap.size = g10 at *
  clear w1
  refine takeL (.bool false) rfl (by go_simp) ?_
  try simp only [Act.put, List.setIfInBounds_toArray, List.set_cons_succ, List.set_cons_zero]
  refine wpList_nil ?_
  go_upto_region 1 with fail
  refine wp_region_lit ?_
  refine takeL (.pointer (some ⟨w.heap.size, 2, none⟩)) rfl (by go_simp) ?_
  try simp only [Act.put, List.setIfInBounds_toArray, List.set_cons_succ, List.set_cons_zero]
  refine takeL ((.slice ss s.marks.length cs)) rfl (by have hq := F8.out.cell (i := 2) (v := (.slice ss s.marks.length cs)) rfl; go_simp) ?_
  try simp only [Act.put, List.setIfInBounds_toArray, List.set_cons_succ, List.set_cons_zero]
  refine takeL (.int .i64 (s.marks.length)) rfl (by go_simp) ?_
  try simp only [Act.put, List.setIfInBounds_toArray, List.set_cons_succ, List.set_cons_zero]
  refine takeL (.bool true) rfl (by go_simp) ?_
  try simp only [Act.put, List.setIfInBounds_toArray, List.set_cons_succ, List.set_cons_zero]
  refine wpList_nil ?_
  go_upto_region 2 with fail
  refine wp_region_lit ?_
  refine wpList_op rfl fun K hK => ?_
  go_simp
  refine (wakes_any _).mono ?_
  rintro e w11 ⟨rfl, hb⟩
  have F12 := Lib.hid (F6.out.trans (hb.mono F6.out.size))
  have F13 := Lib.hid (F7.out.below hb)
  have F14 := Lib.hid (F8.out.below hb F8.out.lt)
  have F15 := Lib.hid (F9.out.below hb F9.out.lt)
  clear F6 F7 F8 F9
  clear hb
  refine hK _ _ ?_
  clear hK K
  try simp only [Act.put, List.setIfInBounds_toArray, List.set_cons_succ, List.set_cons_zero]
  refine takeL (.bool true) rfl (by go_simp) ?_
  try simp only [Act.put, List.setIfInBounds_toArray, List.set_cons_succ, List.set_cons_zero]
  refine wpList_nil ?_
  go_wp2_with fail
  go_ret
  exact ⟨rfl, F12.out⟩
set_option maxHeartbeats 1000000 in
set_option maxRecDepth 100000 in
theorem codes_short (s : Sm) (sv : Value) (x : List Int) (hs : s.Wf) (hx : Sc x) (hl : s.marks.length ≤ 300) (w : World) (hms : MarksAt w sv s.marks) : Calls Try.prog 3 #[.agg #[.int .u32 s.seq, .bool s.more, sv], .agg (u8s x).toArray] w fun e w' => e = .returned (.bool true) ∧ Below w.heap.size w w' := by
  have HWs := Lib.hid hs
  have HX := Lib.hid hx
  have HXL := Lib.hid hx.length
  have HSs := Lib.hid (sec_length s)
  obtain ⟨ss, cs, rfl, -⟩ := id hms
  have FYS := Lib.hid hms
  have HBL : Hid (Below w.heap.size w w) := Lib.hid (Below.refl _ _)
  have hl2 : ¬ (300 : Int) < s.marks.length := by omega
  have HL3 := Lib.hid hl
  have HLs : Hid (s.marks.length ≤ 1000000) := Lib.hid (by omega)
  have HLD := Lib.hid (decS_len x)
  clear hs hx hms
  go_enter Try.func3, Try.ntmps3
  go_upto_region 0 with fail
  refine wp_region_lit ?_
  refine box_g rfl rfl ?_
  intro w1 hA hb hl
  try simp only [Act.put, List.setIfInBounds_toArray, List.set_cons_succ, List.set_cons_zero]
  clear hl
  have F2 := Lib.hid (HBL.out.trans (hb.mono HBL.out.size))
  have F3 := Lib.hid (FYS.out.below hb)
  clear HBL FYS
  have F4 := Lib.hid hA
  clear hA hb
  refine box_g rfl rfl ?_
  intro w5 hA hb hl
  try simp only [Act.put, List.setIfInBounds_toArray, List.set_cons_succ, List.set_cons_zero]
  clear hl
  have F6 := Lib.hid (F2.out.trans (hb.mono F2.out.size))
  have F7 := Lib.hid (F3.out.below hb)
  have F8 := Lib.hid (F4.out.below hb F4.out.lt)
  clear F2 F3 F4
  have F9 := Lib.hid hA
  clear hA hb
  generalize w1.heap.size = g10 at *
  clear w1
  refine takeL (.bool false) rfl (by go_simp) ?_
  try simp only [Act.put, List.setIfInBounds_toArray, List.set_cons_succ, List.set_cons_zero]
  refine wpList_nil ?_
  go_upto_region 1 with fail
  refine wp_region_lit ?_
  refine takeL (.pointer (some ⟨w.heap.size, 2, none⟩)) rfl (by go_simp) ?_
  try simp only [Act.put, List.setIfInBounds_toArray, List.set_cons_succ, List.set_cons_zero]
  refine takeL ((.slice ss s.marks.length cs)) rfl (by have hq := F8.out.cell (i := 2) (v := (.slice ss s.marks.length cs)) rfl; go_simp) ?_
  try simp only [Act.put, List.setIfInBounds_toArray, List.set_cons_succ, List.set_cons_zero]
  refine takeL (.int .i64 (s.marks.length)) rfl (by go_simp) ?_
  try simp only [Act.put, List.setIfInBounds_toArray, List.set_cons_succ, List.set_cons_zero]
  refine takeL (.bool false) rfl (by go_simp) ?_
  try simp only [Act.put, List.setIfInBounds_toArray, List.set_cons_succ, List.set_cons_zero]
  refine wpList_nil ?_
  clear hl hl2
  go_upto_region 3 with fail
  refine wp_region_lit ?_
  refine wpList_run (.slice (some ⟨w5.heap.size, 0, none⟩) 0 0) (w5.alloc (.cells #[] 47)) rfl (by go_simp) ?_
  try simp only [Act.put, List.setIfInBounds_toArray, List.set_cons_succ, List.set_cons_zero]
  have hO0 := OwnM.lit w5 w5.heap.size (Nat.le_refl _) [] (by simp) #[] rfl
  have hb1 := (Below.refl w5.heap.size w5).alloc (Nat.le_refl _) (.cells #[] 47)
  generalize w5.alloc (.cells #[] 47) = wo at *
  refine takeL (.pointer (some ⟨w.heap.size, 2, none⟩)) rfl (by go_simp) ?_
  try simp only [Act.put, List.setIfInBounds_toArray, List.set_cons_succ, List.set_cons_zero]
  refine takeL (.slice ss s.marks.length cs) rfl (by have hq := (F8.out.below hb1 F8.out.lt).cell (i := 2) rfl; go_simp) ?_
  try simp only [Act.put, List.setIfInBounds_toArray, List.set_cons_succ, List.set_cons_zero]
  refine app_LM hO0 hb1.size (F7.out.below hb1) (by simp; have := HL3.out; omega) rfl rfl rfl ?_
  intro iv wp_ hO hb2
  try simp only [Act.put, List.setIfInBounds_toArray, List.set_cons_succ, List.set_cons_zero]
  rw [List.nil_append] at hO
  have hb := hb1.trans hb2
  have FIN := Lib.hid hO.marks
  have F11 := Lib.hid (F6.out.trans (hb.mono F6.out.size))
  have F12 := Lib.hid (F7.out.below hb)
  have F13 := Lib.hid (F8.out.below hb F8.out.lt)
  have F14 := Lib.hid (F9.out.below hb F9.out.lt)
  clear F6 F7 F8 F9
  clear hb hb1 hb2 hO hO0
  refine takeL iv rfl (by go_simp) ?_
  try simp only [Act.put, List.setIfInBounds_toArray, List.set_cons_succ, List.set_cons_zero]
  refine wpList_nil ?_
  go_upto_region 4 with fail
  refine wp_region_lit ?_
  refine takeL (.pointer (some ⟨w.heap.size, 0, none⟩)) rfl (by go_simp) ?_
  try simp only [Act.put, List.setIfInBounds_toArray, List.set_cons_succ, List.set_cons_zero]
  refine takeL (.int .u32 s.seq) rfl (by have hq := F13.out.cell (i := 0) (v := .int .u32 s.seq) rfl; go_simp) ?_
  try simp only [Act.put, List.setIfInBounds_toArray, List.set_cons_succ, List.set_cons_zero]
  refine takeL (.pointer (some ⟨w.heap.size, 1, none⟩)) rfl (by go_simp) ?_
  try simp only [Act.put, List.setIfInBounds_toArray, List.set_cons_succ, List.set_cons_zero]
  refine takeL (.bool s.more) rfl (by have hq := F13.out.cell (i := 1) (v := .bool s.more) rfl; go_simp) ?_
  try simp only [Act.put, List.setIfInBounds_toArray, List.set_cons_succ, List.set_cons_zero]
  refine takeL (iv) rfl (by go_simp) ?_
  try simp only [Act.put, List.setIfInBounds_toArray, List.set_cons_succ, List.set_cons_zero]
  refine takeL (.agg #[.int .u32 s.seq, .bool s.more, iv]) rfl (exec_build _ _ _ _ 25 _ rfl #[(0, .int .u32 s.seq), (1, .bool s.more), (2, iv)] (by simp only [List.map_toArray, List.map_cons, List.map_nil]; rfl) _ (build25g FIN.out _ _ _)) ?_
  try simp only [Act.put, List.setIfInBounds_toArray, List.set_cons_succ, List.set_cons_zero]
  refine wpList_op rfl fun K hK => ?_
  go_simp
  refine (encode_any s _ HLs.out HWs.out _ FIN.out).mono ?_
  rintro e w15 ⟨rfl, hb⟩
  have F16 := Lib.hid (F11.out.trans (hb.mono F11.out.size))
  have F17 := Lib.hid (F12.out.below hb)
  have F18 := Lib.hid (F13.out.below hb F13.out.lt)
  have F19 := Lib.hid (F14.out.below hb F14.out.lt)
  have F20 := Lib.hid (FIN.out.below hb)
  clear F11 F12 F13 F14 FIN
  clear hb
  refine hK _ _ ?_
  clear hK K
  try simp only [Act.put, List.setIfInBounds_toArray, List.set_cons_succ, List.set_cons_zero]
  refine takeL (.tuple #[.agg (u8s s.sec).toArray, .int .i64 s.err]) rfl (by go_simp) ?_
  try simp only [Act.put, List.setIfInBounds_toArray, List.set_cons_succ, List.set_cons_zero]
  refine takeL (.agg (u8s s.sec).toArray) rfl (by go_simp) ?_
  try simp only [Act.put, List.setIfInBounds_toArray, List.set_cons_succ, List.set_cons_zero]
  refine takeL (.int .i64 s.err) rfl (by go_simp) ?_
  try simp only [Act.put, List.setIfInBounds_toArray, List.set_cons_succ, List.set_cons_zero]
  refine alloc_g zero27 rfl ?_
  intro w21 hC hBC hlC
  try simp only [Act.put, List.setIfInBounds_toArray, List.set_cons_succ, List.set_cons_zero]
  refine store_all (cs := (u8s s.sec).toArray) hC (by rw [u8s_size, HSs.out]; simp [zeros]) (by rw [u8s_size, HSs.out]; exact info27) (u8s_one _) rfl rfl rfl ?_
  intro w22 hD hOD hlD
  try simp only [Act.put, List.setIfInBounds_toArray, List.set_cons_succ, List.set_cons_zero]
  have hb := hBC.trans (hOD.below hBC.size (fun k hk => Nat.le_of_eq hk.symm))
  have F23 := Lib.hid (F16.out.trans (hb.mono F16.out.size))
  have F24 := Lib.hid (F17.out.below hb)
  have F25 := Lib.hid (F18.out.below hb F18.out.lt)
  have F26 := Lib.hid (F19.out.below hb F19.out.lt)
  have F27 := Lib.hid (F20.out.below hb)
  clear F16 F17 F18 F19 F20
  have F28 := Lib.hid hD
  clear hC hBC hlC hD hOD hlD hb
  generalize w15.heap.size = g29 at *
  clear w21 w15
  refine takeL (.int .i64 s.err) rfl (by go_simp) ?_
  try simp only [Act.put, List.setIfInBounds_toArray, List.set_cons_succ, List.set_cons_zero]
  refine wpList_nil ?_
  go_upto_region 5 with fail
  refine wp_region_lit ?_
  refine load25 (cs := #[.int .u32 s.seq, .bool s.more, (.slice ss s.marks.length cs)]) (Blk.all F25.out rfl) rfl rfl rfl ?_
  try simp only [Act.put, List.setIfInBounds_toArray, List.set_cons_succ, List.set_cons_zero]
  refine wpList_op rfl fun K hK => ?_
  go_simp
  refine (own_any s.seq s.more _ s.marks HL3.out _ F24.out).mono ?_
  rintro e w30 ⟨ov, rfl, hby, hb⟩
  have F31 := Lib.hid (F23.out.trans (hb.mono F23.out.size))
  have F32 := Lib.hid (F24.out.below hb)
  have F33 := Lib.hid (F25.out.below hb F25.out.lt)
  have F34 := Lib.hid (F26.out.below hb F26.out.lt)
  have F35 := Lib.hid (F27.out.below hb)
  have F36 := Lib.hid (F28.out.below hb F28.out.lt)
  clear F23 F24 F25 F26 F27 F28
  have F37 := Lib.hid hby
  clear hb hby
  refine hK _ _ ?_
  clear hK K
  try simp only [Act.put, List.setIfInBounds_toArray, List.set_cons_succ, List.set_cons_zero]
  refine wpList_op rfl fun K hK => ?_
  go_simp
  refine (rencode_any s ov 0 HWs.out _ F37.out).mono ?_
  rintro e w38 ⟨rfl, hb⟩
  have F39 := Lib.hid (F31.out.trans (hb.mono F31.out.size))
  have F40 := Lib.hid (F32.out.below hb)
  have F41 := Lib.hid (F33.out.below hb F33.out.lt)
  have F42 := Lib.hid (F34.out.below hb F34.out.lt)
  have F43 := Lib.hid (F35.out.below hb)
  have F44 := Lib.hid (F36.out.below hb F36.out.lt)
  have F45 := Lib.hid (F37.out.below hb)
  clear F31 F32 F33 F34 F35 F36 F37
  clear hb
  refine hK _ _ ?_
  clear hK K
  try simp only [Act.put, List.setIfInBounds_toArray, List.set_cons_succ, List.set_cons_zero]
  refine takeL (.tuple #[.agg (u8s s.sec).toArray, .int .i64 s.err]) rfl (by go_simp) ?_
  try simp only [Act.put, List.setIfInBounds_toArray, List.set_cons_succ, List.set_cons_zero]
  refine takeL (.agg (u8s s.sec).toArray) rfl (by go_simp) ?_
  try simp only [Act.put, List.setIfInBounds_toArray, List.set_cons_succ, List.set_cons_zero]
  refine takeL (.int .i64 s.err) rfl (by go_simp) ?_
  try simp only [Act.put, List.setIfInBounds_toArray, List.set_cons_succ, List.set_cons_zero]
  refine alloc_g zero27 rfl ?_
  intro w46 hC hBC hlC
  try simp only [Act.put, List.setIfInBounds_toArray, List.set_cons_succ, List.set_cons_zero]
  refine store_all (cs := (u8s s.sec).toArray) hC (by rw [u8s_size, HSs.out]; simp [zeros]) (by rw [u8s_size, HSs.out]; exact info27) (u8s_one _) rfl rfl rfl ?_
  intro w47 hD hOD hlD
  try simp only [Act.put, List.setIfInBounds_toArray, List.set_cons_succ, List.set_cons_zero]
  have hb := hBC.trans (hOD.below hBC.size (fun k hk => Nat.le_of_eq hk.symm))
  have F48 := Lib.hid (F39.out.trans (hb.mono F39.out.size))
  have F49 := Lib.hid (F40.out.below hb)
  have F50 := Lib.hid (F41.out.below hb F41.out.lt)
  have F51 := Lib.hid (F42.out.below hb F42.out.lt)
  have F52 := Lib.hid (F43.out.below hb)
  have F53 := Lib.hid (F44.out.below hb F44.out.lt)
  have F54 := Lib.hid (F45.out.below hb)
  clear F39 F40 F41 F42 F43 F44 F45
  have F55 := Lib.hid hD
  clear hC hBC hlC hD hOD hlD hb
  generalize w38.heap.size = g56 at *
  clear w46 w38
  refine takeL (.int .i64 s.err) rfl (by go_simp) ?_
  try simp only [Act.put, List.setIfInBounds_toArray, List.set_cons_succ, List.set_cons_zero]
  refine wpList_nil ?_
  go_upto_region 6 with fail
  refine wp_region_lit ?_
  refine load27 (cs := (u8s x).toArray) (Blk.all F51.out rfl) (by rw [u8s_size, HXL.out]) rfl rfl ?_
  try simp only [Act.put, List.setIfInBounds_toArray, List.set_cons_succ, List.set_cons_zero]
  refine wpList_op rfl fun K hK => ?_
  go_simp
  refine (decode_any x HX.out _).mono ?_
  rintro e w57 ⟨cv, rfl, hby, hb⟩
  have F58 := Lib.hid (F48.out.trans (hb.mono F48.out.size))
  have F59 := Lib.hid (F49.out.below hb)
  have F60 := Lib.hid (F50.out.below hb F50.out.lt)
  have F61 := Lib.hid (F51.out.below hb F51.out.lt)
  have F62 := Lib.hid (F52.out.below hb)
  have F63 := Lib.hid (F53.out.below hb F53.out.lt)
  have F64 := Lib.hid (F54.out.below hb)
  have F65 := Lib.hid (F55.out.below hb F55.out.lt)
  clear F48 F49 F50 F51 F52 F53 F54 F55
  have F66 := Lib.hid hby
  clear hb hby
  refine hK _ _ ?_
  clear hK K
  try simp only [Act.put, List.setIfInBounds_toArray, List.set_cons_succ, List.set_cons_zero]
  refine takeL (.tuple #[.agg #[.int .u32 (decS x).seq, .bool (decS x).more, cv], .int .i64 (decE x)]) rfl (by go_simp) ?_
  try simp only [Act.put, List.setIfInBounds_toArray, List.set_cons_succ, List.set_cons_zero]
  refine takeL (.agg #[.int .u32 (decS x).seq, .bool (decS x).more, cv]) rfl (by go_simp) ?_
  try simp only [Act.put, List.setIfInBounds_toArray, List.set_cons_succ, List.set_cons_zero]
  refine takeL (.int .i64 (decE x)) rfl (by go_simp) ?_
  try simp only [Act.put, List.setIfInBounds_toArray, List.set_cons_succ, List.set_cons_zero]
  refine alloc_g zero25 rfl ?_
  intro w67 hC hBC hlC
  try simp only [Act.put, List.setIfInBounds_toArray, List.set_cons_succ, List.set_cons_zero]
  refine store_all (cs := #[.int .u32 (decS x).seq, .bool (decS x).more, cv]) hC rfl info25 (sm_one F66.out _ _) rfl rfl rfl ?_
  intro w68 hD hOD hlD
  try simp only [Act.put, List.setIfInBounds_toArray, List.set_cons_succ, List.set_cons_zero]
  have hb := hBC.trans (hOD.below hBC.size (fun k hk => Nat.le_of_eq hk.symm))
  have F69 := Lib.hid (F58.out.trans (hb.mono F58.out.size))
  have F70 := Lib.hid (F59.out.below hb)
  have F71 := Lib.hid (F60.out.below hb F60.out.lt)
  have F72 := Lib.hid (F61.out.below hb F61.out.lt)
  have F73 := Lib.hid (F62.out.below hb)
  have F74 := Lib.hid (F63.out.below hb F63.out.lt)
  have F75 := Lib.hid (F64.out.below hb)
  have F76 := Lib.hid (F65.out.below hb F65.out.lt)
  have F77 := Lib.hid (F66.out.below hb)
  clear F58 F59 F60 F61 F62 F63 F64 F65 F66
  have F78 := Lib.hid hD
  clear hC hBC hlC hD hOD hlD hb
  generalize w57.heap.size = g79 at *
  clear w67 w57
  refine takeL (.int .i64 (decE x)) rfl (by go_simp) ?_
  try simp only [Act.put, List.setIfInBounds_toArray, List.set_cons_succ, List.set_cons_zero]
  refine wpList_nil ?_
  go_upto_region 7 with fail
  refine wp_region_lit ?_
  refine load27 (cs := (u8s x).toArray) (Blk.all F72.out rfl) (by rw [u8s_size, HXL.out]) rfl rfl ?_
  try simp only [Act.put, List.setIfInBounds_toArray, List.set_cons_succ, List.set_cons_zero]
  refine wpList_op rfl fun K hK => ?_
  go_simp
  refine (rdecode_any x HX.out _).mono ?_
  rintro e w80 ⟨dv, rfl, hby, hb⟩
  have F81 := Lib.hid (F69.out.trans (hb.mono F69.out.size))
  have F82 := Lib.hid (F70.out.below hb)
  have F83 := Lib.hid (F71.out.below hb F71.out.lt)
  have F84 := Lib.hid (F72.out.below hb F72.out.lt)
  have F85 := Lib.hid (F73.out.below hb)
  have F86 := Lib.hid (F74.out.below hb F74.out.lt)
  have F87 := Lib.hid (F75.out.below hb)
  have F88 := Lib.hid (F76.out.below hb F76.out.lt)
  have F89 := Lib.hid (F77.out.below hb)
  have F90 := Lib.hid (F78.out.below hb F78.out.lt)
  clear F69 F70 F71 F72 F73 F74 F75 F76 F77 F78
  have F91 := Lib.hid hby
  clear hb hby
  refine hK _ _ ?_
  clear hK K
  try simp only [Act.put, List.setIfInBounds_toArray, List.set_cons_succ, List.set_cons_zero]
  refine alloc_g zero35 rfl ?_
  intro w92 hC hBC hlC
  try simp only [Act.put, List.setIfInBounds_toArray, List.set_cons_succ, List.set_cons_zero]
  refine store_all (cs := #[.int .u32 (decS x).seq, .bool (decS x).more, dv, .int .i64 (decE x)]) hC rfl info35 (rsm_one F91.out _ _ _) rfl rfl rfl ?_
  intro w93 hD hOD hlD
  try simp only [Act.put, List.setIfInBounds_toArray, List.set_cons_succ, List.set_cons_zero]
  have hb := hBC.trans (hOD.below hBC.size (fun k hk => Nat.le_of_eq hk.symm))
  have F94 := Lib.hid (F81.out.trans (hb.mono F81.out.size))
  have F95 := Lib.hid (F82.out.below hb)
  have F96 := Lib.hid (F83.out.below hb F83.out.lt)
  have F97 := Lib.hid (F84.out.below hb F84.out.lt)
  have F98 := Lib.hid (F85.out.below hb)
  have F99 := Lib.hid (F86.out.below hb F86.out.lt)
  have F100 := Lib.hid (F87.out.below hb)
  have F101 := Lib.hid (F88.out.below hb F88.out.lt)
  have F102 := Lib.hid (F89.out.below hb)
  have F103 := Lib.hid (F90.out.below hb F90.out.lt)
  have F104 := Lib.hid (F91.out.below hb)
  clear F81 F82 F83 F84 F85 F86 F87 F88 F89 F90 F91
  have F105 := Lib.hid hD
  clear hC hBC hlC hD hOD hlD hb
  generalize w80.heap.size = g106 at *
  clear w92 w80
  refine wpList_nil ?_
  go_upto_region 8 with fail
  refine startH (fun wq => Below w93.heap.size w93 wq) (by kernel_rfl) ?_
  refine takeH 0 (some 45) (.agg (u8s s.sec).toArray) rfl rfl (by kernel_rfl) (by kernel_rfl) (by kernel_rfl) (fun _ _ _ h => h) rfl (fun wq hS => by exact exec_load_at wq _ _ 27 _ rfl g29 0 rfl (u8s s.sec).toArray _ Try.underlying27 rfl (by rw [u8s_size, HSs.out]; exact info27) (Blk.all (F99.out.below hS F99.out.lt) rfl)) (Below.refl _ _).drew ?_
  try simp only [Act.put, List.setIfInBounds_toArray, List.set_cons_succ, List.set_cons_zero]
  refine takeH 1 (some 46) (.agg (u8s s.sec).toArray) rfl rfl (by kernel_rfl) (by kernel_rfl) (by kernel_rfl) (fun _ _ _ h => h) rfl (fun wq hS => by exact exec_load_at wq _ _ 27 _ rfl g56 0 rfl (u8s s.sec).toArray _ Try.underlying27 rfl (by rw [u8s_size, HSs.out]; exact info27) (Blk.all (F101.out.below hS F101.out.lt) rfl)) (Below.refl _ _).drew ?_
  try simp only [Act.put, List.setIfInBounds_toArray, List.set_cons_succ, List.set_cons_zero]
  refine takeH 2 (some 47) (.bool true) rfl rfl (by kernel_rfl) (by kernel_rfl) (by kernel_rfl) (fun _ _ _ h => h) rfl (fun wq hS => by exact eql27v (decide_eq_true rfl) HSs.out HSs.out _ _ _ rfl rfl rfl) (Below.refl _ _).drew ?_
  try simp only [Act.put, List.setIfInBounds_toArray, List.set_cons_succ, List.set_cons_zero]
  refine takeH 3 (some 48) (.bool true) rfl rfl (by kernel_rfl) (by kernel_rfl) (by kernel_rfl) (fun _ _ _ h => h) rfl (fun wq hS => by go_simp) (Below.refl _ _).drew ?_
  try simp only [Act.put, List.setIfInBounds_toArray, List.set_cons_succ, List.set_cons_zero]
  refine takeH 4 (some 49) (.int .i64 s.err) rfl rfl (by kernel_rfl) (by kernel_rfl) (by kernel_rfl) (fun _ _ _ h => h) rfl (fun wq hS => by go_simp) (Below.refl _ _).drew ?_
  try simp only [Act.put, List.setIfInBounds_toArray, List.set_cons_succ, List.set_cons_zero]
  refine takeH 5 (some 50) (.int .i64 s.err) rfl rfl (by kernel_rfl) (by kernel_rfl) (by kernel_rfl) (fun _ _ _ h => h) rfl (fun wq hS => by go_simp) (Below.refl _ _).drew ?_
  try simp only [Act.put, List.setIfInBounds_toArray, List.set_cons_succ, List.set_cons_zero]
  refine takeH 6 (some 51) (.bool true) rfl rfl (by kernel_rfl) (by kernel_rfl) (by kernel_rfl) (fun _ _ _ h => h) rfl (fun wq hS => by go_simp) (Below.refl _ _).drew ?_
  try simp only [Act.put, List.setIfInBounds_toArray, List.set_cons_succ, List.set_cons_zero]
  refine takeH 7 (some 52) (.bool true) rfl rfl (by kernel_rfl) (by kernel_rfl) (by kernel_rfl) (fun _ _ _ h => h) rfl (fun wq hS => by go_simp) (Below.refl _ _).drew ?_
  try simp only [Act.put, List.setIfInBounds_toArray, List.set_cons_succ, List.set_cons_zero]
  refine takeH 8 (some 53) (.bool true) rfl rfl (by kernel_rfl) (by kernel_rfl) (by kernel_rfl) (fun _ _ _ h => h) rfl (fun wq hS => by go_simp) (Below.refl _ _).drew ?_
  try simp only [Act.put, List.setIfInBounds_toArray, List.set_cons_succ, List.set_cons_zero]
  refine takeH 9 (some 54) (.agg #[.int .u32 (decS x).seq, .bool (decS x).more, cv]) rfl rfl (by kernel_rfl) (by kernel_rfl) (by kernel_rfl) (fun _ _ _ h => h) rfl (fun wq hS => by exact exec_load_at wq _ _ 25 _ rfl g79 0 rfl #[.int .u32 (decS x).seq, .bool (decS x).more, cv] _ Try.underlying25 rfl info25 (Blk.all (F103.out.below hS F103.out.lt) rfl)) (Below.refl _ _).drew ?_
  try simp only [Act.put, List.setIfInBounds_toArray, List.set_cons_succ, List.set_cons_zero]
  refine takeH 10 (some 55) (.agg #[.int .u32 (decS x).seq, .bool (decS x).more, dv, .int .i64 (decE x)]) rfl rfl (by kernel_rfl) (by kernel_rfl) (by kernel_rfl) (fun _ _ _ h => h) rfl (fun wq hS => by exact exec_load_at wq _ _ 35 _ rfl g106 0 rfl #[.int .u32 (decS x).seq, .bool (decS x).more, dv, .int .i64 (decE x)] _ Try.underlying35 rfl info35 (Blk.all (F105.out.below hS F105.out.lt) rfl)) (Below.refl _ _).drew ?_
  try simp only [Act.put, List.setIfInBounds_toArray, List.set_cons_succ, List.set_cons_zero]
  refine oneH 11 (by kernel_rfl) rfl rfl fun K hK => ?_
  go_simp
  refine (same_self (decS x).seq (decS x).more (decS x).marks cv dv (decE x) HLD.out _ (F102.out.below (Below.refl _ _).drew) (F104.out.below (Below.refl _ _).drew)).mono ?_
  rintro e w107 ⟨rfl, hb⟩
  have HS108 := Lib.hid (stay (Below.refl _ _).drew hb)
  clear hb
  refine hK _ _ HS108.out ?_
  clear hK K
  try simp only [Act.put, List.setIfInBounds_toArray, List.set_cons_succ, List.set_cons_zero]
  refine takeH 12 (some 57) (.bool true) rfl rfl (by kernel_rfl) (by kernel_rfl) (by kernel_rfl) (fun _ _ _ h => h) rfl (fun wq hS => by go_simp) HS108.out ?_
  try simp only [Act.put, List.setIfInBounds_toArray, List.set_cons_succ, List.set_cons_zero]
  refine takeH 13 (some 58) (.bool true) rfl rfl (by kernel_rfl) (by kernel_rfl) (by kernel_rfl) (fun _ _ _ h => h) rfl (fun wq hS => by go_simp) HS108.out ?_
  try simp only [Act.put, List.setIfInBounds_toArray, List.set_cons_succ, List.set_cons_zero]
  refine takeH 14 (some 59) (.int .i64 (decE x)) rfl rfl (by kernel_rfl) (by kernel_rfl) (by kernel_rfl) (fun _ _ _ h => h) rfl (fun wq hS => by go_simp) HS108.out ?_
  try simp only [Act.put, List.setIfInBounds_toArray, List.set_cons_succ, List.set_cons_zero]
  refine takeH 15 (some 60) (.pointer (some ⟨g106, 3, none⟩)) rfl rfl (by kernel_rfl) (by kernel_rfl) (by kernel_rfl) (fun _ _ _ h => h) rfl (fun wq hS => by go_simp) HS108.out ?_
  try simp only [Act.put, List.setIfInBounds_toArray, List.set_cons_succ, List.set_cons_zero]
  refine takeH 16 (some 61) (.int .i64 (decE x)) rfl rfl (by kernel_rfl) (by kernel_rfl) (by kernel_rfl) (fun _ _ _ h => h) rfl (fun wq hS => by have hq := (F105.out.below hS F105.out.lt).cell (i := 3) (v := .int .i64 (decE x)) rfl; go_simp) HS108.out ?_
  try simp only [Act.put, List.setIfInBounds_toArray, List.set_cons_succ, List.set_cons_zero]
  refine takeH 17 (some 62) (.bool true) rfl rfl (by kernel_rfl) (by kernel_rfl) (by kernel_rfl) (fun _ _ _ h => h) rfl (fun wq hS => by go_simp) HS108.out ?_
  try simp only [Act.put, List.setIfInBounds_toArray, List.set_cons_succ, List.set_cons_zero]
  refine takeH 18 (some 63) (.bool true) rfl rfl (by kernel_rfl) (by kernel_rfl) (by kernel_rfl) (fun _ _ _ h => h) rfl (fun wq hS => by go_simp) HS108.out ?_
  try simp only [Act.put, List.setIfInBounds_toArray, List.set_cons_succ, List.set_cons_zero]
  refine takeH 19 (some 64) (.bool true) rfl rfl (by kernel_rfl) (by kernel_rfl) (by kernel_rfl) (fun _ _ _ h => h) rfl (fun wq hS => by go_simp) HS108.out ?_
  try simp only [Act.put, List.setIfInBounds_toArray, List.set_cons_succ, List.set_cons_zero]
  refine takeH 20 (some 65) (iv) rfl rfl (by kernel_rfl) (by kernel_rfl) (by kernel_rfl) (fun _ _ _ h => h) rfl (fun wq hS => by go_simp) HS108.out ?_
  try simp only [Act.put, List.setIfInBounds_toArray, List.set_cons_succ, List.set_cons_zero]
  refine takeH 22 (some 67) (.pointer (some ⟨w.heap.size, 2, none⟩)) rfl rfl (by kernel_rfl) (by kernel_rfl) (by kernel_rfl) (fun _ _ _ h => h) rfl (fun wq hS => by go_simp) HS108.out ?_
  try simp only [Act.put, List.setIfInBounds_toArray, List.set_cons_succ, List.set_cons_zero]
  refine takeH 23 (some 68) ((.slice ss s.marks.length cs)) rfl rfl (by kernel_rfl) (by kernel_rfl) (by kernel_rfl) (fun _ _ _ h => h) rfl (fun wq hS => by have hq := (F96.out.below hS F96.out.lt).cell (i := 2) (v := (.slice ss s.marks.length cs)) rfl; go_simp) HS108.out ?_
  try simp only [Act.put, List.setIfInBounds_toArray, List.set_cons_succ, List.set_cons_zero]
  refine oneH 21 (by kernel_rfl) rfl rfl fun K hK => ?_
  go_simp
  refine (blocks_any iv s.marks HLs.out _ (F98.out.below HS108.out)).mono ?_
  rintro e w109 ⟨rfl, hb⟩
  have HS110 := Lib.hid (stay HS108.out hb)
  clear hb
  refine hK _ _ HS110.out ?_
  clear hK K
  try simp only [Act.put, List.setIfInBounds_toArray, List.set_cons_succ, List.set_cons_zero]
  refine oneH 24 (by kernel_rfl) rfl rfl fun K hK => ?_
  go_simp
  refine (rblocks_any _ s.marks HLs.out _ (F95.out.below HS110.out)).mono ?_
  rintro e w111 ⟨rfl, rfl⟩
  refine hK _ _ HS110.out ?_
  clear hK K
  try simp only [Act.put, List.setIfInBounds_toArray, List.set_cons_succ, List.set_cons_zero]
  refine takeH 25 (some 70) (.bool true) rfl rfl (by kernel_rfl) (by kernel_rfl) (by kernel_rfl) (fun _ _ _ h => h) rfl (fun wq hS => by go_simp) HS110.out ?_
  try simp only [Act.put, List.setIfInBounds_toArray, List.set_cons_succ, List.set_cons_zero]
  refine takeH 26 (some 71) (.bool true) rfl rfl (by kernel_rfl) (by kernel_rfl) (by kernel_rfl) (fun _ _ _ h => h) rfl (fun wq hS => by go_simp) HS110.out ?_
  try simp only [Act.put, List.setIfInBounds_toArray, List.set_cons_succ, List.set_cons_zero]
  refine takeH 27 (some 72) (.bool true) rfl rfl (by kernel_rfl) (by kernel_rfl) (by kernel_rfl) (fun _ _ _ h => h) rfl (fun wq hS => by go_simp) HS110.out ?_
  try simp only [Act.put, List.setIfInBounds_toArray, List.set_cons_succ, List.set_cons_zero]
  refine takeH 28 (some 73) (iv) rfl rfl (by kernel_rfl) (by kernel_rfl) (by kernel_rfl) (fun _ _ _ h => h) rfl (fun wq hS => by go_simp) HS110.out ?_
  try simp only [Act.put, List.setIfInBounds_toArray, List.set_cons_succ, List.set_cons_zero]
  refine takeH 29 (some 74) (.pointer (some ⟨w.heap.size, 2, none⟩)) rfl rfl (by kernel_rfl) (by kernel_rfl) (by kernel_rfl) (fun _ _ _ h => h) rfl (fun wq hS => by go_simp) HS110.out ?_
  try simp only [Act.put, List.setIfInBounds_toArray, List.set_cons_succ, List.set_cons_zero]
  refine takeH 30 (some 75) ((.slice ss s.marks.length cs)) rfl rfl (by kernel_rfl) (by kernel_rfl) (by kernel_rfl) (fun _ _ _ h => h) rfl (fun wq hS => by have hq := (F96.out.below hS F96.out.lt).cell (i := 2) (v := (.slice ss s.marks.length cs)) rfl; go_simp) HS110.out ?_
  try simp only [Act.put, List.setIfInBounds_toArray, List.set_cons_succ, List.set_cons_zero]
  refine oneH 31 (by kernel_rfl) rfl rfl fun K hK => ?_
  go_simp
  refine (keep_self iv _ HLs.out _ (F98.out.below HS110.out) (F95.out.below HS110.out)).mono ?_
  rintro e w112 ⟨rfl, hb⟩
  have HS113 := Lib.hid (stay HS110.out hb)
  clear hb
  refine hK _ _ HS113.out ?_
  clear hK K
  try simp only [Act.put, List.setIfInBounds_toArray, List.set_cons_succ, List.set_cons_zero]
  refine takeH 32 (some 77) (.bool true) rfl rfl (by kernel_rfl) (by kernel_rfl) (by kernel_rfl) (fun _ _ _ h => h) rfl (fun wq hS => by go_simp) HS113.out ?_
  try simp only [Act.put, List.setIfInBounds_toArray, List.set_cons_succ, List.set_cons_zero]
  refine takeH 33 (some 78) (.bool true) rfl rfl (by kernel_rfl) (by kernel_rfl) (by kernel_rfl) (fun _ _ _ h => h) rfl (fun wq hS => by go_simp) HS113.out ?_
  try simp only [Act.put, List.setIfInBounds_toArray, List.set_cons_succ, List.set_cons_zero]
  refine oneH 34 (by kernel_rfl) rfl rfl fun K hK => ?_
  go_simp
  refine (wakes_any _).mono ?_
  rintro e w114 ⟨rfl, hb⟩
  have HS115 := Lib.hid (stay HS113.out hb)
  clear hb
  refine hK _ _ HS115.out ?_
  clear hK K
  try simp only [Act.put, List.setIfInBounds_toArray, List.set_cons_succ, List.set_cons_zero]
  refine takeH 35 (some 80) (.bool true) rfl rfl (by kernel_rfl) (by kernel_rfl) (by kernel_rfl) (fun _ _ _ h => h) rfl (fun wq hS => by go_simp) HS115.out ?_
  try simp only [Act.put, List.setIfInBounds_toArray, List.set_cons_succ, List.set_cons_zero]
  refine takeH 36 (some 4) (.bool true) rfl rfl (by kernel_rfl) (by kernel_rfl) (by kernel_rfl) (fun _ _ _ h => h) rfl (fun wq hS => by go_simp) HS115.out ?_
  try simp only [Act.put, List.setIfInBounds_toArray, List.set_cons_succ, List.set_cons_zero]
  refine wpAnyH_done (by kernel_rfl) ?_ _
  go_wp2_with fail
  go_ret
  exact ⟨rfl, F94.out.trans (HS115.out.mono F94.out.size)⟩
theorem codes_any (s : Sm) (sv : Value) (x : List Int) (hs : s.Wf) (hx : Sc x) (w : World) (hms : MarksAt w sv s.marks) : Calls Try.prog 3 #[.agg #[.int .u32 s.seq, .bool s.more, sv], .agg (u8s x).toArray] w fun e w' => e = .returned (.bool true) ∧ Below w.heap.size w w' := by
  by_cases h : s.marks.length ≤ 300
  · exact codes_short s sv x hs hx h w hms
  · exact codes_long s sv x hs hx (by omega) w hms
end Go.Proofs.Ytfhpmhigfhnbaaa
