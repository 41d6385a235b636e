/- The statement SummaryBack's walk. -/
import Derived.Test.YtfhpmhigfhnbaaaWakes
import Derived.Deep.Cut
import Derived.Deep.CutRange
namespace Go.Proofs.Ytfhpmhigfhnbaaa
set_option linter.unusedSimpArgs false
set_option linter.unusedVariables false
open Go.RowKit

theorem err_good {s : Sm} (h : s.good = true) : s.err = 0 := by unfold Sm.err; rw [h]; rfl
theorem err_bad {s : Sm} (h : s.good = false) : s.err = 11 := by unfold Sm.err; rw [h]; rfl
theorem sec_good {s : Sm} (h : s.good = true) : s.sec = s.enc := by unfold Sm.sec; rw [h]; rfl
theorem sec_bad {s : Sm} (h : s.good = false) : s.sec = zeros 64 := by unfold Sm.sec; rw [h]; rfl
theorem enc_ok {s : Sm} (h : s.good = true) (sv : Value) (hl : s.marks.length ≤ 1000000) (hw : s.Wf) (w : World) (hm : MarksAt w sv s.marks) : Calls Try.prog 8 #[.agg #[.int .u32 s.seq, .bool s.more, sv]] w fun e w' => e = .returned (.tuple #[.agg (u8s s.sec).toArray, .int .i64 0]) ∧ Below w.heap.size w w' := by
  have := encode_any s sv hl hw w hm
  rwa [err_good h] at this
theorem enc_no {s : Sm} (h : s.good = false) (sv : Value) (hl : s.marks.length ≤ 1000000) (hw : s.Wf) (w : World) (hm : MarksAt w sv s.marks) : Calls Try.prog 8 #[.agg #[.int .u32 s.seq, .bool s.more, sv]] w fun e w' => e = .returned (.tuple #[.agg (u8s s.sec).toArray, .int .i64 11]) ∧ Below w.heap.size w w' := by
  have := encode_any s sv hl hw w hm
  rwa [err_bad h] at this
theorem dec_form (x : List Int) (hx : Sc x) (s : Sm) (e0 : Int) (h : decS x = s) (he : decE x = e0) (w : World) : Calls Try.prog 11 #[.agg (u8s x).toArray] w fun e w' => ∃ a cap, e = .returned (.tuple #[.agg #[.int .u32 s.seq, .bool s.more, .slice a s.marks.length cap], .int .i64 e0]) ∧ MarksAt w' (.slice a s.marks.length cap) s.marks ∧ Below w.heap.size w w' := by
  have := decode_any x hx w
  rw [h, he] at this
  refine this.mono ?_
  rintro e w' ⟨sv, rfl, hm, hb⟩
  obtain ⟨a, cap, rfl, _⟩ := id hm
  exact ⟨a, cap, rfl, hm, hb⟩
theorem dec_of {s : Sm} (h : s.good = true) (hw : s.Wf) (w : World) : Calls Try.prog 11 #[.agg (u8s s.sec).toArray] w fun e w' => ∃ a cap, e = .returned (.tuple #[.agg #[.int .u32 s.seq, .bool s.more, .slice a s.marks.length cap], .int .i64 0]) ∧ MarksAt w' (.slice a s.marks.length cap) s.marks ∧ Below w.heap.size w w' := by
  obtain ⟨e1, e2⟩ := decS_yes (isSum_enc h hw)
  rw [sec_good h]
  exact dec_form _ (enc_sc h) s 0 (by rw [e1, read_enc h hw]) e2 w
theorem dec_no {x : List Int} (hx : Sc x) (h : isSum x = false) (w : World) : Calls Try.prog 11 #[.agg (u8s x).toArray] w fun e w' => ∃ a cap, e = .returned (.tuple #[.agg #[.int .u32 0, .bool false, .slice a 0 cap], .int .i64 11]) ∧ MarksAt w' (.slice a 0 cap) [] ∧ Below w.heap.size w w' :=
  dec_form x hx Sm.none 11 (decS_no h).1 (decS_no h).2 w
theorem dec_yes {x : List Int} (hx : Sc x) (h : isSum x = true) (w : World) : Calls Try.prog 11 #[.agg (u8s x).toArray] w fun e w' => ∃ a cap, e = .returned (.tuple #[.agg #[.int .u32 (readOf x).seq, .bool (readOf x).more, .slice a (readOf x).marks.length cap], .int .i64 0]) ∧ MarksAt w' (.slice a (readOf x).marks.length cap) (readOf x).marks ∧ Below w.heap.size w w' :=
  dec_form x hx _ 0 (decS_yes h).1 (decS_yes h).2 w
theorem isSum_parts {x : List Int} (h : isSum x = true) : (readOf x).good = true ∧ (readOf x).sec = x := by
  have h' := h
  simp only [isSum, Bool.and_eq_true, decide_eq_true_eq] at h'
  exact ⟨h'.1, by rw [sec_good h'.1, h'.2]⟩
theorem same_self (n : Int) (b : Bool) (l : List Mk) (sv tv : Value) (e0 : Int) (hl : l.length ≤ 1000000) (w : World) (h : MarksAt w sv l) (h' : MarksAt w tv l) : Calls Try.prog 13 #[.agg #[.int .u32 n, .bool b, sv], .agg #[.int .u32 n, .bool b, tv, .int .i64 e0]] w fun e w' => e = .returned (.bool true) ∧ Below w.heap.size w w' := by
  have := same_any n n b b l l sv tv e0 hl hl w h h'
  rwa [show (decide (n = n) && (b == b) && decide (l = l)) = true by simp] at this
theorem keep_is {l m : List Mk} {v : Bool} (hv : decide (l = m) = v) (sv tv : Value) (hl : l.length ≤ 1000000) (hm : m.length ≤ 1000000) (w : World) (h : MarksAt w sv l) (h' : MarksAt w tv m) : Calls Try.prog 16 #[sv, tv] w fun e w' => e = .returned (.bool v) ∧ Below w.heap.size w w' := by
  have := keep_any sv tv l m hl hm w h h'
  rwa [hv] at this
theorem eql27v {l m : List Int} {v : Bool} (hv : decide (l = m) = v) (hl : l.length = 64) (hm : m.length = 64) (ev : Operand → Value) (o : Oper) (w : World) {x y : Operand} {t : TypeId} (ho : o.op = .binOp .eql 27 x y t) (hx : ev x = .agg (u8s l).toArray) (hy : ev y = .agg (u8s m).toArray) : (execOp ev o).run Try.prog w = .ok (.value (.bool v)) w := by
  have := eql27 hl hm ev o w ho hx hy
  rwa [hv] at this
theorem neq27v {l m : List Int} {v : Bool} (hv : decide (l = m) = !v) (hl : l.length = 64) (hm : m.length = 64) (ev : Operand → Value) (o : Oper) (w : World) {x y : Operand} {t : TypeId} (ho : o.op = .binOp .neq 27 x y t) (hx : ev x = .agg (u8s l).toArray) (hy : ev y = .agg (u8s m).toArray) : (execOp ev o).run Try.prog w = .ok (.value (.bool v)) w := by
  have := neq27 hl hm ev o w ho hx hy
  rwa [hv, Bool.not_not] at this
/-- Two summaries have one sector just if they are one. -/
theorem sec_ne {s t : Sm} (hs : s.good = true) (ws : s.Wf) (ht : t.good = true) (wt : t.Wf) (h : s ≠ t) : decide (s.sec = t.sec) = false := by
  rw [sec_good hs, sec_good ht]
  exact decide_eq_false fun e => h (enc_inj hs ws ht wt e)

set_option maxHeartbeats 1000000 in
set_option maxRecDepth 100000 in
theorem back_long1 (s t : Sm) (sv tv : Value) (x : List Int) (hs : s.Wf) (ht : t.Wf) (hx : Sc x) (hl : 300 < s.marks.length) (w : World) (hms : MarksAt w sv s.marks) (hmt : MarksAt w tv t.marks) : Calls Try.prog 4 #[.agg #[.int .u32 s.seq, .bool s.more, sv], .agg #[.int .u32 t.seq, .bool t.more, tv], .agg (u8s x).toArray] w fun e w' => e = .returned (.bool true) ∧ Below w.heap.size w w' := by
  have HWs := Lib.hid hs
  have HWt := Lib.hid ht
  have HX := Lib.hid hx
  have HXL := Lib.hid hx.length
  have HSs := Lib.hid (sec_length s)
  have HSt := Lib.hid (sec_length t)
  obtain ⟨ss, cs, rfl, -⟩ := id hms
  obtain ⟨tt, ct, rfl, -⟩ := id hmt
  have FYS := Lib.hid hms
  have FYT := Lib.hid hmt
  have HBL : Hid (Below w.heap.size w w) := Lib.hid (Below.refl _ _)
  have hl2 : (300 : Int) < s.marks.length := by omega
  clear hs ht hx hms hmt
  go_enter Try.func4, Try.ntmps4
  go_upto_region 0 with fail
  refine wp_region_lit ?_
  refine box_g rfl rfl ?_
  intro w1 hA hb hl
  try simp only [Act.put, List.setIfInBounds_toArray, List.set_cons_succ, List.set_cons_zero]
  clear hl
  have F2 := Lib.hid (HBL.out.trans (hb.mono HBL.out.size))
  have F3 := Lib.hid (FYS.out.below hb)
  have F4 := Lib.hid (FYT.out.below hb)
  clear HBL FYS FYT
  have F5 := Lib.hid hA
  clear hA hb
  refine box_g rfl rfl ?_
  intro w6 hA hb hl
  try simp only [Act.put, List.setIfInBounds_toArray, List.set_cons_succ, List.set_cons_zero]
  clear hl
  have F7 := Lib.hid (F2.out.trans (hb.mono F2.out.size))
  have F8 := Lib.hid (F3.out.below hb)
  have F9 := Lib.hid (F4.out.below hb)
  have F10 := Lib.hid (F5.out.below hb F5.out.lt)
  clear F2 F3 F4 F5
  have F11 := Lib.hid hA
  clear hA hb
  generalize w1.heap.size = g12 at *
  clear w1
  refine box_g rfl rfl ?_
  intro w13 hA hb hl
  try simp only [Act.put, List.setIfInBounds_toArray, List.set_cons_succ, List.set_cons_zero]
  clear hl
  have F14 := Lib.hid (F7.out.trans (hb.mono F7.out.size))
  have F15 := Lib.hid (F8.out.below hb)
  have F16 := Lib.hid (F9.out.below hb)
  have F17 := Lib.hid (F10.out.below hb F10.out.lt)
  have F18 := Lib.hid (F11.out.below hb F11.out.lt)
  clear F7 F8 F9 F10 F11
  have F19 := Lib.hid hA
  clear hA hb
  generalize w6.heap.size = g20 at *
  clear w6
  refine takeL (.bool false) rfl (by go_simp) ?_
  try simp only [Act.put, List.setIfInBounds_toArray, List.set_cons_succ, List.set_cons_zero]
  refine wpList_nil ?_
  go_upto_region 1 with fail
  refine wp_region_lit ?_
  refine takeL (.pointer (some ⟨w.heap.size, 2, none⟩)) rfl (by go_simp) ?_
  try simp only [Act.put, List.setIfInBounds_toArray, List.set_cons_succ, List.set_cons_zero]
  refine takeL ((.slice ss s.marks.length cs)) rfl (by have hq := F17.out.cell (i := 2) (v := (.slice ss s.marks.length cs)) rfl; go_simp) ?_
  try simp only [Act.put, List.setIfInBounds_toArray, List.set_cons_succ, List.set_cons_zero]
  refine takeL (.int .i64 (s.marks.length)) rfl (by go_simp) ?_
  try simp only [Act.put, List.setIfInBounds_toArray, List.set_cons_succ, List.set_cons_zero]
  refine takeL (.bool true) rfl (by go_simp) ?_
  try simp only [Act.put, List.setIfInBounds_toArray, List.set_cons_succ, List.set_cons_zero]
  refine takeL (.bool true) rfl (by go_simp) ?_
  try simp only [Act.put, List.setIfInBounds_toArray, List.set_cons_succ, List.set_cons_zero]
  refine passL rfl ?_
  try simp only [Act.put, List.setIfInBounds_toArray, List.set_cons_succ, List.set_cons_zero]
  refine passL rfl ?_
  try simp only [Act.put, List.setIfInBounds_toArray, List.set_cons_succ, List.set_cons_zero]
  refine passL rfl ?_
  try simp only [Act.put, List.setIfInBounds_toArray, List.set_cons_succ, List.set_cons_zero]
  refine passL rfl ?_
  try simp only [Act.put, List.setIfInBounds_toArray, List.set_cons_succ, List.set_cons_zero]
  refine takeL (.bool true) rfl (by go_simp) ?_
  try simp only [Act.put, List.setIfInBounds_toArray, List.set_cons_succ, List.set_cons_zero]
  refine wpList_nil ?_
  go_upto_region 2 with fail
  refine wp_region_lit ?_
  refine wpList_op rfl fun K hK => ?_
  go_simp
  refine (wakes_any _).mono ?_
  rintro e w21 ⟨rfl, hb⟩
  have F22 := Lib.hid (F14.out.trans (hb.mono F14.out.size))
  have F23 := Lib.hid (F15.out.below hb)
  have F24 := Lib.hid (F16.out.below hb)
  have F25 := Lib.hid (F17.out.below hb F17.out.lt)
  have F26 := Lib.hid (F18.out.below hb F18.out.lt)
  have F27 := Lib.hid (F19.out.below hb F19.out.lt)
  clear F14 F15 F16 F17 F18 F19
  clear hb
  refine hK _ _ ?_
  clear hK K
  try simp only [Act.put, List.setIfInBounds_toArray, List.set_cons_succ, List.set_cons_zero]
  refine takeL (.bool true) rfl (by go_simp) ?_
  try simp only [Act.put, List.setIfInBounds_toArray, List.set_cons_succ, List.set_cons_zero]
  refine wpList_nil ?_
  go_wp2_with fail
  go_ret
  exact ⟨rfl, F22.out⟩
set_option maxHeartbeats 1000000 in
set_option maxRecDepth 100000 in
theorem back_long2 (s t : Sm) (sv tv : Value) (x : List Int) (hs : s.Wf) (ht : t.Wf) (hx : Sc x) (hk : s.marks.length ≤ 300) (hl : 300 < t.marks.length) (w : World) (hms : MarksAt w sv s.marks) (hmt : MarksAt w tv t.marks) : Calls Try.prog 4 #[.agg #[.int .u32 s.seq, .bool s.more, sv], .agg #[.int .u32 t.seq, .bool t.more, tv], .agg (u8s x).toArray] w fun e w' => e = .returned (.bool true) ∧ Below w.heap.size w w' := by
  have HWs := Lib.hid hs
  have HWt := Lib.hid ht
  have HX := Lib.hid hx
  have HXL := Lib.hid hx.length
  have HSs := Lib.hid (sec_length s)
  have HSt := Lib.hid (sec_length t)
  obtain ⟨ss, cs, rfl, -⟩ := id hms
  obtain ⟨tt, ct, rfl, -⟩ := id hmt
  have FYS := Lib.hid hms
  have FYT := Lib.hid hmt
  have HBL : Hid (Below w.heap.size w w) := Lib.hid (Below.refl _ _)
  have hl2 : (300 : Int) < t.marks.length := by omega
  have hk2 : ¬ (300 : Int) < s.marks.length := by omega
  clear hs ht hx hms hmt
  go_enter Try.func4, Try.ntmps4
  go_upto_region 0 with fail
  refine wp_region_lit ?_
  refine box_g rfl rfl ?_
  intro w1 hA hb hl
  try simp only [Act.put, List.setIfInBounds_toArray, List.set_cons_succ, List.set_cons_zero]
  clear hl
  have F2 := Lib.hid (HBL.out.trans (hb.mono HBL.out.size))
  have F3 := Lib.hid (FYS.out.below hb)
  have F4 := Lib.hid (FYT.out.below hb)
  clear HBL FYS FYT
  have F5 := Lib.hid hA
  clear hA hb
  refine box_g rfl rfl ?_
  intro w6 hA hb hl
  try simp only [Act.put, List.setIfInBounds_toArray, List.set_cons_succ, List.set_cons_zero]
  clear hl
  have F7 := Lib.hid (F2.out.trans (hb.mono F2.out.size))
  have F8 := Lib.hid (F3.out.below hb)
  have F9 := Lib.hid (F4.out.below hb)
  have F10 := Lib.hid (F5.out.below hb F5.out.lt)
  clear F2 F3 F4 F5
  have F11 := Lib.hid hA
  clear hA hb
  generalize w1.heap.size = g12 at *
  clear w1
  refine box_g rfl rfl ?_
  intro w13 hA hb hl
  try simp only [Act.put, List.setIfInBounds_toArray, List.set_cons_succ, List.set_cons_zero]
  clear hl
  have F14 := Lib.hid (F7.out.trans (hb.mono F7.out.size))
  have F15 := Lib.hid (F8.out.below hb)
  have F16 := Lib.hid (F9.out.below hb)
  have F17 := Lib.hid (F10.out.below hb F10.out.lt)
  have F18 := Lib.hid (F11.out.below hb F11.out.lt)
  clear F7 F8 F9 F10 F11
  have F19 := Lib.hid hA
  clear hA hb
  generalize w6.heap.size = g20 at *
  clear w6
  refine takeL (.bool false) rfl (by go_simp) ?_
  try simp only [Act.put, List.setIfInBounds_toArray, List.set_cons_succ, List.set_cons_zero]
  refine wpList_nil ?_
  go_upto_region 1 with fail
  refine wp_region_lit ?_
  refine takeL (.pointer (some ⟨w.heap.size, 2, none⟩)) rfl (by go_simp) ?_
  try simp only [Act.put, List.setIfInBounds_toArray, List.set_cons_succ, List.set_cons_zero]
  refine takeL ((.slice ss s.marks.length cs)) rfl (by have hq := F17.out.cell (i := 2) (v := (.slice ss s.marks.length cs)) rfl; go_simp) ?_
  try simp only [Act.put, List.setIfInBounds_toArray, List.set_cons_succ, List.set_cons_zero]
  refine takeL (.int .i64 (s.marks.length)) rfl (by go_simp) ?_
  try simp only [Act.put, List.setIfInBounds_toArray, List.set_cons_succ, List.set_cons_zero]
  refine takeL (.bool false) rfl (by go_simp) ?_
  try simp only [Act.put, List.setIfInBounds_toArray, List.set_cons_succ, List.set_cons_zero]
  refine takeL (.bool false) rfl (by go_simp) ?_
  try simp only [Act.put, List.setIfInBounds_toArray, List.set_cons_succ, List.set_cons_zero]
  refine takeL (.pointer (some ⟨g12, 2, none⟩)) rfl (by go_simp) ?_
  try simp only [Act.put, List.setIfInBounds_toArray, List.set_cons_succ, List.set_cons_zero]
  refine takeL ((.slice tt t.marks.length ct)) rfl (by have hq := F18.out.cell (i := 2) (v := (.slice tt t.marks.length ct)) rfl; go_simp) ?_
  try simp only [Act.put, List.setIfInBounds_toArray, List.set_cons_succ, List.set_cons_zero]
  refine takeL (.int .i64 (t.marks.length)) rfl (by go_simp) ?_
  try simp only [Act.put, List.setIfInBounds_toArray, List.set_cons_succ, List.set_cons_zero]
  refine takeL (.bool true) rfl (by go_simp) ?_
  try simp only [Act.put, List.setIfInBounds_toArray, List.set_cons_succ, List.set_cons_zero]
  refine takeL (.bool true) rfl (by go_simp) ?_
  try simp only [Act.put, List.setIfInBounds_toArray, List.set_cons_succ, List.set_cons_zero]
  refine wpList_nil ?_
  go_upto_region 2 with fail
  refine wp_region_lit ?_
  refine wpList_op rfl fun K hK => ?_
  go_simp
  refine (wakes_any _).mono ?_
  rintro e w21 ⟨rfl, hb⟩
  have F22 := Lib.hid (F14.out.trans (hb.mono F14.out.size))
  have F23 := Lib.hid (F15.out.below hb)
  have F24 := Lib.hid (F16.out.below hb)
  have F25 := Lib.hid (F17.out.below hb F17.out.lt)
  have F26 := Lib.hid (F18.out.below hb F18.out.lt)
  have F27 := Lib.hid (F19.out.below hb F19.out.lt)
  clear F14 F15 F16 F17 F18 F19
  clear hb
  refine hK _ _ ?_
  clear hK K
  try simp only [Act.put, List.setIfInBounds_toArray, List.set_cons_succ, List.set_cons_zero]
  refine takeL (.bool true) rfl (by go_simp) ?_
  try simp only [Act.put, List.setIfInBounds_toArray, List.set_cons_succ, List.set_cons_zero]
  refine wpList_nil ?_
  go_wp2_with fail
  go_ret
  exact ⟨rfl, F22.out⟩
set_option maxHeartbeats 1000000 in
set_option maxRecDepth 100000 in
theorem back_f (s t : Sm) (sv tv : Value) (x : List Int) (hs : s.Wf) (ht : t.Wf) (hx : Sc x) (hl1 : s.marks.length ≤ 300) (hl2 : t.marks.length ≤ 300) (gs : s.good = false) (w : World) (hms : MarksAt w sv s.marks) (hmt : MarksAt w tv t.marks) : Calls Try.prog 4 #[.agg #[.int .u32 s.seq, .bool s.more, sv], .agg #[.int .u32 t.seq, .bool t.more, tv], .agg (u8s x).toArray] w fun e w' => e = .returned (.bool true) ∧ Below w.heap.size w w' := by
  have HWs := Lib.hid hs
  have HWt := Lib.hid ht
  have HX := Lib.hid hx
  have HXL := Lib.hid hx.length
  have HSs := Lib.hid (sec_length s)
  have HSt := Lib.hid (sec_length t)
  obtain ⟨ss, cs, rfl, -⟩ := id hms
  obtain ⟨tt, ct, rfl, -⟩ := id hmt
  have FYS := Lib.hid hms
  have FYT := Lib.hid hmt
  have HBL : Hid (Below w.heap.size w w) := Lib.hid (Below.refl _ _)
  have hl3 : ¬ (300 : Int) < s.marks.length := by omega
  have hl4 : ¬ (300 : Int) < t.marks.length := by omega
  have HLs : Hid (s.marks.length ≤ 1000000) := Lib.hid (by omega)
  have HLt : Hid (t.marks.length ≤ 1000000) := Lib.hid (by omega)
  have HL3 := Lib.hid hl1
  have HGs := Lib.hid gs
  clear gs
  clear hs ht hx hms hmt
  go_enter Try.func4, Try.ntmps4
  go_upto_region 0 with fail
  refine wp_region_lit ?_
  refine box_g rfl rfl ?_
  intro w1 hA hb hl
  try simp only [Act.put, List.setIfInBounds_toArray, List.set_cons_succ, List.set_cons_zero]
  clear hl
  have F2 := Lib.hid (HBL.out.trans (hb.mono HBL.out.size))
  have F3 := Lib.hid (FYS.out.below hb)
  have F4 := Lib.hid (FYT.out.below hb)
  clear HBL FYS FYT
  have F5 := Lib.hid hA
  clear hA hb
  refine box_g rfl rfl ?_
  intro w6 hA hb hl
  try simp only [Act.put, List.setIfInBounds_toArray, List.set_cons_succ, List.set_cons_zero]
  clear hl
  have F7 := Lib.hid (F2.out.trans (hb.mono F2.out.size))
  have F8 := Lib.hid (F3.out.below hb)
  have F9 := Lib.hid (F4.out.below hb)
  have F10 := Lib.hid (F5.out.below hb F5.out.lt)
  clear F2 F3 F4 F5
  have F11 := Lib.hid hA
  clear hA hb
  generalize w1.heap.size = g12 at *
  clear w1
  refine box_g rfl rfl ?_
  intro w13 hA hb hl
  try simp only [Act.put, List.setIfInBounds_toArray, List.set_cons_succ, List.set_cons_zero]
  clear hl
  have F14 := Lib.hid (F7.out.trans (hb.mono F7.out.size))
  have F15 := Lib.hid (F8.out.below hb)
  have F16 := Lib.hid (F9.out.below hb)
  have F17 := Lib.hid (F10.out.below hb F10.out.lt)
  have F18 := Lib.hid (F11.out.below hb F11.out.lt)
  clear F7 F8 F9 F10 F11
  have F19 := Lib.hid hA
  clear hA hb
  generalize w6.heap.size = g20 at *
  clear w6
  refine takeL (.bool false) rfl (by go_simp) ?_
  try simp only [Act.put, List.setIfInBounds_toArray, List.set_cons_succ, List.set_cons_zero]
  refine wpList_nil ?_
  go_upto_region 1 with fail
  refine wp_region_lit ?_
  refine takeL (.pointer (some ⟨w.heap.size, 2, none⟩)) rfl (by go_simp) ?_
  try simp only [Act.put, List.setIfInBounds_toArray, List.set_cons_succ, List.set_cons_zero]
  refine takeL ((.slice ss s.marks.length cs)) rfl (by have hq := F17.out.cell (i := 2) (v := (.slice ss s.marks.length cs)) rfl; go_simp) ?_
  try simp only [Act.put, List.setIfInBounds_toArray, List.set_cons_succ, List.set_cons_zero]
  refine takeL (.int .i64 (s.marks.length)) rfl (by go_simp) ?_
  try simp only [Act.put, List.setIfInBounds_toArray, List.set_cons_succ, List.set_cons_zero]
  refine takeL (.bool false) rfl (by go_simp) ?_
  try simp only [Act.put, List.setIfInBounds_toArray, List.set_cons_succ, List.set_cons_zero]
  refine takeL (.bool false) rfl (by go_simp) ?_
  try simp only [Act.put, List.setIfInBounds_toArray, List.set_cons_succ, List.set_cons_zero]
  refine takeL (.pointer (some ⟨g12, 2, none⟩)) rfl (by go_simp) ?_
  try simp only [Act.put, List.setIfInBounds_toArray, List.set_cons_succ, List.set_cons_zero]
  refine takeL ((.slice tt t.marks.length ct)) rfl (by have hq := F18.out.cell (i := 2) (v := (.slice tt t.marks.length ct)) rfl; go_simp) ?_
  try simp only [Act.put, List.setIfInBounds_toArray, List.set_cons_succ, List.set_cons_zero]
  refine takeL (.int .i64 (t.marks.length)) rfl (by go_simp) ?_
  try simp only [Act.put, List.setIfInBounds_toArray, List.set_cons_succ, List.set_cons_zero]
  refine takeL (.bool false) rfl (by go_simp) ?_
  try simp only [Act.put, List.setIfInBounds_toArray, List.set_cons_succ, List.set_cons_zero]
  refine takeL (.bool false) rfl (by go_simp) ?_
  try simp only [Act.put, List.setIfInBounds_toArray, List.set_cons_succ, List.set_cons_zero]
  refine wpList_nil ?_
  clear hl1 hl2 hl3 hl4
  go_upto_region 3 with fail
  refine wp_region_lit ?_
  refine load25 (cs := #[.int .u32 s.seq, .bool s.more, (.slice ss s.marks.length cs)]) (Blk.all F17.out rfl) rfl rfl rfl ?_
  try simp only [Act.put, List.setIfInBounds_toArray, List.set_cons_succ, List.set_cons_zero]
  refine wpList_op rfl fun K hK => ?_
  go_simp
  refine (enc_no HGs.out _ HLs.out HWs.out _ F15.out).mono ?_
  rintro e w21 ⟨rfl, hb⟩
  have F22 := Lib.hid (F14.out.trans (hb.mono F14.out.size))
  have F23 := Lib.hid (F15.out.below hb)
  have F24 := Lib.hid (F16.out.below hb)
  have F25 := Lib.hid (F17.out.below hb F17.out.lt)
  have F26 := Lib.hid (F18.out.below hb F18.out.lt)
  have F27 := Lib.hid (F19.out.below hb F19.out.lt)
  clear F14 F15 F16 F17 F18 F19
  clear hb
  refine hK _ _ ?_
  clear hK K
  try simp only [Act.put, List.setIfInBounds_toArray, List.set_cons_succ, List.set_cons_zero]
  refine takeL (.tuple #[.agg (u8s s.sec).toArray, .int .i64 11]) rfl (by go_simp) ?_
  try simp only [Act.put, List.setIfInBounds_toArray, List.set_cons_succ, List.set_cons_zero]
  refine takeL (.agg (u8s s.sec).toArray) rfl (by go_simp) ?_
  try simp only [Act.put, List.setIfInBounds_toArray, List.set_cons_succ, List.set_cons_zero]
  refine takeL (.int .i64 11) rfl (by go_simp) ?_
  try simp only [Act.put, List.setIfInBounds_toArray, List.set_cons_succ, List.set_cons_zero]
  refine alloc_g zero27 rfl ?_
  intro w28 hC hBC hlC
  try simp only [Act.put, List.setIfInBounds_toArray, List.set_cons_succ, List.set_cons_zero]
  refine store_all (cs := (u8s s.sec).toArray) hC (by rw [u8s_size, HSs.out]; simp [zeros]) (by rw [u8s_size, HSs.out]; exact info27) (u8s_one _) rfl rfl rfl ?_
  intro w29 hD hOD hlD
  try simp only [Act.put, List.setIfInBounds_toArray, List.set_cons_succ, List.set_cons_zero]
  have hb := hBC.trans (hOD.below hBC.size (fun k hk => Nat.le_of_eq hk.symm))
  have F30 := Lib.hid (F22.out.trans (hb.mono F22.out.size))
  have F31 := Lib.hid (F23.out.below hb)
  have F32 := Lib.hid (F24.out.below hb)
  have F33 := Lib.hid (F25.out.below hb F25.out.lt)
  have F34 := Lib.hid (F26.out.below hb F26.out.lt)
  have F35 := Lib.hid (F27.out.below hb F27.out.lt)
  clear F22 F23 F24 F25 F26 F27
  have F36 := Lib.hid hD
  clear hC hBC hlC hD hOD hlD hb
  generalize w21.heap.size = g37 at *
  clear w28 w21
  refine takeL (.int .i64 11) rfl (by go_simp) ?_
  try simp only [Act.put, List.setIfInBounds_toArray, List.set_cons_succ, List.set_cons_zero]
  refine wpList_nil ?_
  go_upto_region 4 with fail
  refine wp_region_lit ?_
  refine load25 (cs := #[.int .u32 t.seq, .bool t.more, (.slice tt t.marks.length ct)]) (Blk.all F34.out rfl) rfl rfl rfl ?_
  try simp only [Act.put, List.setIfInBounds_toArray, List.set_cons_succ, List.set_cons_zero]
  refine wpList_op rfl fun K hK => ?_
  go_simp
  refine (encode_any t _ HLt.out HWt.out _ F32.out).mono ?_
  rintro e w38 ⟨rfl, hb⟩
  have F39 := Lib.hid (F30.out.trans (hb.mono F30.out.size))
  have F40 := Lib.hid (F31.out.below hb)
  have F41 := Lib.hid (F32.out.below hb)
  have F42 := Lib.hid (F33.out.below hb F33.out.lt)
  have F43 := Lib.hid (F34.out.below hb F34.out.lt)
  have F44 := Lib.hid (F35.out.below hb F35.out.lt)
  have F45 := Lib.hid (F36.out.below hb F36.out.lt)
  clear F30 F31 F32 F33 F34 F35 F36
  clear hb
  refine hK _ _ ?_
  clear hK K
  try simp only [Act.put, List.setIfInBounds_toArray, List.set_cons_succ, List.set_cons_zero]
  refine takeL (.tuple #[.agg (u8s t.sec).toArray, .int .i64 t.err]) rfl (by go_simp) ?_
  try simp only [Act.put, List.setIfInBounds_toArray, List.set_cons_succ, List.set_cons_zero]
  refine takeL (.agg (u8s t.sec).toArray) rfl (by go_simp) ?_
  try simp only [Act.put, List.setIfInBounds_toArray, List.set_cons_succ, List.set_cons_zero]
  refine takeL (.int .i64 t.err) rfl (by go_simp) ?_
  try simp only [Act.put, List.setIfInBounds_toArray, List.set_cons_succ, List.set_cons_zero]
  refine alloc_g zero27 rfl ?_
  intro w46 hC hBC hlC
  try simp only [Act.put, List.setIfInBounds_toArray, List.set_cons_succ, List.set_cons_zero]
  refine store_all (cs := (u8s t.sec).toArray) hC (by rw [u8s_size, HSt.out]; simp [zeros]) (by rw [u8s_size, HSt.out]; exact info27) (u8s_one _) rfl rfl rfl ?_
  intro w47 hD hOD hlD
  try simp only [Act.put, List.setIfInBounds_toArray, List.set_cons_succ, List.set_cons_zero]
  have hb := hBC.trans (hOD.below hBC.size (fun k hk => Nat.le_of_eq hk.symm))
  have F48 := Lib.hid (F39.out.trans (hb.mono F39.out.size))
  have F49 := Lib.hid (F40.out.below hb)
  have F50 := Lib.hid (F41.out.below hb)
  have F51 := Lib.hid (F42.out.below hb F42.out.lt)
  have F52 := Lib.hid (F43.out.below hb F43.out.lt)
  have F53 := Lib.hid (F44.out.below hb F44.out.lt)
  have F54 := Lib.hid (F45.out.below hb F45.out.lt)
  clear F39 F40 F41 F42 F43 F44 F45
  have F55 := Lib.hid hD
  clear hC hBC hlC hD hOD hlD hb
  generalize w38.heap.size = g56 at *
  clear w46 w38
  refine takeL (.int .i64 t.err) rfl (by go_simp) ?_
  try simp only [Act.put, List.setIfInBounds_toArray, List.set_cons_succ, List.set_cons_zero]
  refine wpList_nil ?_
  go_upto_region 5 with fail
  refine wp_region_lit ?_
  refine takeL (.int .i64 11) rfl (by go_simp) ?_
  try simp only [Act.put, List.setIfInBounds_toArray, List.set_cons_succ, List.set_cons_zero]
  refine takeL (.bool false) rfl (by go_simp) ?_
  try simp only [Act.put, List.setIfInBounds_toArray, List.set_cons_succ, List.set_cons_zero]
  refine wpList_nil ?_
  go_upto_region 9 with fail
  go_cut [84] from 54 to 85 (fun s84 wx => s84 = .bool false ∧ Below w47.heap.size w47 wx)
  case first =>
    refine startH (fun wq => Below w47.heap.size w47 wq) (by kernel_rfl) ?_
    refine takeH 0 (some 54) (.int .i64 11) rfl rfl (by kernel_rfl) (by kernel_rfl) (by kernel_rfl) (fun _ _ _ h => h) rfl (fun wq hS => by go_simp) (Below.refl _ _).drew ?_
    try simp only [Act.put, List.setIfInBounds_toArray, List.set_cons_succ, List.set_cons_zero]
    refine takeH 1 (some 55) (.bool false) rfl rfl (by kernel_rfl) (by kernel_rfl) (by kernel_rfl) (fun _ _ _ h => h) rfl (fun wq hS => by go_simp) (Below.refl _ _).drew ?_
    try simp only [Act.put, List.setIfInBounds_toArray, List.set_cons_succ, List.set_cons_zero]
    refine takeH 2 (some 56) (.bool false) rfl rfl (by kernel_rfl) (by kernel_rfl) (by kernel_rfl) (fun _ _ _ h => h) rfl (fun wq hS => by go_simp) (Below.refl _ _).drew ?_
    try simp only [Act.put, List.setIfInBounds_toArray, List.set_cons_succ, List.set_cons_zero]
    refine passH 3 (some 57) rfl rfl (by kernel_rfl) (by kernel_rfl) (by kernel_rfl) (fun _ _ _ h => h) rfl (Below.refl _ _).drew ?_
    try simp only [Act.put, List.setIfInBounds_toArray, List.set_cons_succ, List.set_cons_zero]
    refine passH 4 (some 58) rfl rfl (by kernel_rfl) (by kernel_rfl) (by kernel_rfl) (fun _ _ _ h => h) rfl (Below.refl _ _).drew ?_
    try simp only [Act.put, List.setIfInBounds_toArray, List.set_cons_succ, List.set_cons_zero]
    refine takeH 5 (some 59) (.bool false) rfl rfl (by kernel_rfl) (by kernel_rfl) (by kernel_rfl) (fun _ _ _ h => h) rfl (fun wq hS => by go_simp) (Below.refl _ _).drew ?_
    try simp only [Act.put, List.setIfInBounds_toArray, List.set_cons_succ, List.set_cons_zero]
    refine takeH 6 (some 60) (.bool false) rfl rfl (by kernel_rfl) (by kernel_rfl) (by kernel_rfl) (fun _ _ _ h => h) rfl (fun wq hS => by go_simp) (Below.refl _ _).drew ?_
    try simp only [Act.put, List.setIfInBounds_toArray, List.set_cons_succ, List.set_cons_zero]
    refine passH 7 (some 61) rfl rfl (by kernel_rfl) (by kernel_rfl) (by kernel_rfl) (fun _ _ _ h => h) rfl (Below.refl _ _).drew ?_
    try simp only [Act.put, List.setIfInBounds_toArray, List.set_cons_succ, List.set_cons_zero]
    refine passH 8 (some 62) rfl rfl (by kernel_rfl) (by kernel_rfl) (by kernel_rfl) (fun _ _ _ h => h) rfl (Below.refl _ _).drew ?_
    try simp only [Act.put, List.setIfInBounds_toArray, List.set_cons_succ, List.set_cons_zero]
    refine passH 9 (some 63) rfl rfl (by kernel_rfl) (by kernel_rfl) (by kernel_rfl) (fun _ _ _ h => h) rfl (Below.refl _ _).drew ?_
    try simp only [Act.put, List.setIfInBounds_toArray, List.set_cons_succ, List.set_cons_zero]
    refine passH 10 (some 64) rfl rfl (by kernel_rfl) (by kernel_rfl) (by kernel_rfl) (fun _ _ _ h => h) rfl (Below.refl _ _).drew ?_
    try simp only [Act.put, List.setIfInBounds_toArray, List.set_cons_succ, List.set_cons_zero]
    refine passH 11 (some 65) rfl rfl (by kernel_rfl) (by kernel_rfl) (by kernel_rfl) (fun _ _ _ h => h) rfl (Below.refl _ _).drew ?_
    try simp only [Act.put, List.setIfInBounds_toArray, List.set_cons_succ, List.set_cons_zero]
    refine passH 12 (some 66) rfl rfl (by kernel_rfl) (by kernel_rfl) (by kernel_rfl) (fun _ _ _ h => h) rfl (Below.refl _ _).drew ?_
    try simp only [Act.put, List.setIfInBounds_toArray, List.set_cons_succ, List.set_cons_zero]
    refine passH 13 (some 67) rfl rfl (by kernel_rfl) (by kernel_rfl) (by kernel_rfl) (fun _ _ _ h => h) rfl (Below.refl _ _).drew ?_
    try simp only [Act.put, List.setIfInBounds_toArray, List.set_cons_succ, List.set_cons_zero]
    refine passH 14 (some 68) rfl rfl (by kernel_rfl) (by kernel_rfl) (by kernel_rfl) (fun _ _ _ h => h) rfl (Below.refl _ _).drew ?_
    try simp only [Act.put, List.setIfInBounds_toArray, List.set_cons_succ, List.set_cons_zero]
    refine passH 15 (some 69) rfl rfl (by kernel_rfl) (by kernel_rfl) (by kernel_rfl) (fun _ _ _ h => h) rfl (Below.refl _ _).drew ?_
    try simp only [Act.put, List.setIfInBounds_toArray, List.set_cons_succ, List.set_cons_zero]
    refine passH 16 (some 70) rfl rfl (by kernel_rfl) (by kernel_rfl) (by kernel_rfl) (fun _ _ _ h => h) rfl (Below.refl _ _).drew ?_
    try simp only [Act.put, List.setIfInBounds_toArray, List.set_cons_succ, List.set_cons_zero]
    refine passH 17 (some 71) rfl rfl (by kernel_rfl) (by kernel_rfl) (by kernel_rfl) (fun _ _ _ h => h) rfl (Below.refl _ _).drew ?_
    try simp only [Act.put, List.setIfInBounds_toArray, List.set_cons_succ, List.set_cons_zero]
    refine passH 18 (some 72) rfl rfl (by kernel_rfl) (by kernel_rfl) (by kernel_rfl) (fun _ _ _ h => h) rfl (Below.refl _ _).drew ?_
    try simp only [Act.put, List.setIfInBounds_toArray, List.set_cons_succ, List.set_cons_zero]
    refine passH 19 (some 73) rfl rfl (by kernel_rfl) (by kernel_rfl) (by kernel_rfl) (fun _ _ _ h => h) rfl (Below.refl _ _).drew ?_
    try simp only [Act.put, List.setIfInBounds_toArray, List.set_cons_succ, List.set_cons_zero]
    refine passH 20 (some 74) rfl rfl (by kernel_rfl) (by kernel_rfl) (by kernel_rfl) (fun _ _ _ h => h) rfl (Below.refl _ _).drew ?_
    try simp only [Act.put, List.setIfInBounds_toArray, List.set_cons_succ, List.set_cons_zero]
    refine passH 21 (some 75) rfl rfl (by kernel_rfl) (by kernel_rfl) (by kernel_rfl) (fun _ _ _ h => h) rfl (Below.refl _ _).drew ?_
    try simp only [Act.put, List.setIfInBounds_toArray, List.set_cons_succ, List.set_cons_zero]
    refine passH 22 (some 76) rfl rfl (by kernel_rfl) (by kernel_rfl) (by kernel_rfl) (fun _ _ _ h => h) rfl (Below.refl _ _).drew ?_
    try simp only [Act.put, List.setIfInBounds_toArray, List.set_cons_succ, List.set_cons_zero]
    refine passH 23 (some 77) rfl rfl (by kernel_rfl) (by kernel_rfl) (by kernel_rfl) (fun _ _ _ h => h) rfl (Below.refl _ _).drew ?_
    try simp only [Act.put, List.setIfInBounds_toArray, List.set_cons_succ, List.set_cons_zero]
    refine passH 24 (some 78) rfl rfl (by kernel_rfl) (by kernel_rfl) (by kernel_rfl) (fun _ _ _ h => h) rfl (Below.refl _ _).drew ?_
    try simp only [Act.put, List.setIfInBounds_toArray, List.set_cons_succ, List.set_cons_zero]
    refine passH 25 (some 79) rfl rfl (by kernel_rfl) (by kernel_rfl) (by kernel_rfl) (fun _ _ _ h => h) rfl (Below.refl _ _).drew ?_
    try simp only [Act.put, List.setIfInBounds_toArray, List.set_cons_succ, List.set_cons_zero]
    refine passH 26 (some 80) rfl rfl (by kernel_rfl) (by kernel_rfl) (by kernel_rfl) (fun _ _ _ h => h) rfl (Below.refl _ _).drew ?_
    try simp only [Act.put, List.setIfInBounds_toArray, List.set_cons_succ, List.set_cons_zero]
    refine passH 27 (some 81) rfl rfl (by kernel_rfl) (by kernel_rfl) (by kernel_rfl) (fun _ _ _ h => h) rfl (Below.refl _ _).drew ?_
    try simp only [Act.put, List.setIfInBounds_toArray, List.set_cons_succ, List.set_cons_zero]
    refine passH 28 (some 82) rfl rfl (by kernel_rfl) (by kernel_rfl) (by kernel_rfl) (fun _ _ _ h => h) rfl (Below.refl _ _).drew ?_
    try simp only [Act.put, List.setIfInBounds_toArray, List.set_cons_succ, List.set_cons_zero]
    refine passH 29 (some 83) rfl rfl (by kernel_rfl) (by kernel_rfl) (by kernel_rfl) (fun _ _ _ h => h) rfl (Below.refl _ _).drew ?_
    try simp only [Act.put, List.setIfInBounds_toArray, List.set_cons_succ, List.set_cons_zero]
    refine takeH 30 (some 84) (.bool false) rfl rfl (by kernel_rfl) (by kernel_rfl) (by kernel_rfl) (fun _ _ _ h => h) rfl (fun wq hS => by go_simp) (Below.refl _ _).drew ?_
    try simp only [Act.put, List.setIfInBounds_toArray, List.set_cons_succ, List.set_cons_zero]
    refine wpAnyH_done (by kernel_rfl) ?_ _
    go_wp2_with fail
    go_meet
    exact ⟨rfl, (Below.refl _ _).drew⟩
  case rest =>
    obtain ⟨rfl, hb⟩ := hcut
    have F97 := Lib.hid (F48.out.trans (hb.mono F48.out.size))
    have F98 := Lib.hid (F49.out.below hb)
    have F99 := Lib.hid (F50.out.below hb)
    have F100 := Lib.hid (F51.out.below hb F51.out.lt)
    have F101 := Lib.hid (F52.out.below hb F52.out.lt)
    have F102 := Lib.hid (F53.out.below hb F53.out.lt)
    have F103 := Lib.hid (F54.out.below hb F54.out.lt)
    have F104 := Lib.hid (F55.out.below hb F55.out.lt)
    clear F48 F49 F50 F51 F52 F53 F54 F55
    clear hb
    cases hsum : isSum x
    · have HSUM := Lib.hid hsum
      clear hsum
      go_upto_region 11 with fail
      refine wp_region_lit ?_
      refine load27 (cs := (u8s x).toArray) (Blk.all F102.out rfl) (by rw [u8s_size, HXL.out]) rfl rfl ?_
      try simp only [Act.put, List.setIfInBounds_toArray, List.set_cons_succ, List.set_cons_zero]
      refine wpList_op rfl fun K hK => ?_
      go_simp
      refine (dec_no HX.out HSUM.out _).mono ?_
      rintro e w105 ⟨ax, cx, rfl, hby, hb⟩
      have F106 := Lib.hid (F97.out.trans (hb.mono F97.out.size))
      have F107 := Lib.hid (F98.out.below hb)
      have F108 := Lib.hid (F99.out.below hb)
      have F109 := Lib.hid (F100.out.below hb F100.out.lt)
      have F110 := Lib.hid (F101.out.below hb F101.out.lt)
      have F111 := Lib.hid (F102.out.below hb F102.out.lt)
      have F112 := Lib.hid (F103.out.below hb F103.out.lt)
      have F113 := Lib.hid (F104.out.below hb F104.out.lt)
      clear F97 F98 F99 F100 F101 F102 F103 F104
      have F114 := Lib.hid hby
      clear hb hby
      refine hK _ _ ?_
      clear hK K
      try simp only [Act.put, List.setIfInBounds_toArray, List.set_cons_succ, List.set_cons_zero]
      refine takeL (.tuple #[.agg #[.int .u32 0, .bool false, .slice ax 0 cx], .int .i64 11]) rfl (by go_simp) ?_
      try simp only [Act.put, List.setIfInBounds_toArray, List.set_cons_succ, List.set_cons_zero]
      refine takeL (.agg #[.int .u32 0, .bool false, .slice ax 0 cx]) rfl (by go_simp) ?_
      try simp only [Act.put, List.setIfInBounds_toArray, List.set_cons_succ, List.set_cons_zero]
      refine takeL (.int .i64 11) rfl (by go_simp) ?_
      try simp only [Act.put, List.setIfInBounds_toArray, List.set_cons_succ, List.set_cons_zero]
      refine alloc_g zero25 rfl ?_
      intro w115 hC hBC hlC
      try simp only [Act.put, List.setIfInBounds_toArray, List.set_cons_succ, List.set_cons_zero]
      refine store_all (cs := #[.int .u32 0, .bool false, (.slice ax 0 cx)]) hC rfl info25 (cells_one _ _ _ _ _) rfl rfl rfl ?_
      intro w116 hD hOD hlD
      try simp only [Act.put, List.setIfInBounds_toArray, List.set_cons_succ, List.set_cons_zero]
      have hb := hBC.trans (hOD.below hBC.size (fun k hk => Nat.le_of_eq hk.symm))
      have F117 := Lib.hid (F106.out.trans (hb.mono F106.out.size))
      have F118 := Lib.hid (F107.out.below hb)
      have F119 := Lib.hid (F108.out.below hb)
      have F120 := Lib.hid (F109.out.below hb F109.out.lt)
      have F121 := Lib.hid (F110.out.below hb F110.out.lt)
      have F122 := Lib.hid (F111.out.below hb F111.out.lt)
      have F123 := Lib.hid (F112.out.below hb F112.out.lt)
      have F124 := Lib.hid (F113.out.below hb F113.out.lt)
      have F125 := Lib.hid (F114.out.below hb)
      clear F106 F107 F108 F109 F110 F111 F112 F113 F114
      have F126 := Lib.hid hD
      clear hC hBC hlC hD hOD hlD hb
      generalize w105.heap.size = g127 at *
      clear w115 w105
      refine takeL (.int .i64 11) rfl (by go_simp) ?_
      try simp only [Act.put, List.setIfInBounds_toArray, List.set_cons_succ, List.set_cons_zero]
      refine wpList_nil ?_
      go_upto_region 12 with fail
      refine wp_region_lit ?_
      refine takeL (.int .i64 11) rfl (by go_simp) ?_
      try simp only [Act.put, List.setIfInBounds_toArray, List.set_cons_succ, List.set_cons_zero]
      refine takeL (.bool false) rfl (by go_simp) ?_
      try simp only [Act.put, List.setIfInBounds_toArray, List.set_cons_succ, List.set_cons_zero]
      refine wpList_nil ?_
      go_upto_region 15 with fail
      refine wp_region_lit ?_
      refine takeL (.pointer (some ⟨g127, 2, none⟩)) rfl (by go_simp) ?_
      try simp only [Act.put, List.setIfInBounds_toArray, List.set_cons_succ, List.set_cons_zero]
      refine takeL ((.slice ax 0 cx)) rfl (by have hq := F126.out.cell (i := 2) (v := (.slice ax 0 cx)) rfl; go_simp) ?_
      try simp only [Act.put, List.setIfInBounds_toArray, List.set_cons_succ, List.set_cons_zero]
      refine takeL (.int .i64 0) rfl (by go_simp) ?_
      try simp only [Act.put, List.setIfInBounds_toArray, List.set_cons_succ, List.set_cons_zero]
      refine takeL (.bool true) rfl (by go_simp) ?_
      try simp only [Act.put, List.setIfInBounds_toArray, List.set_cons_succ, List.set_cons_zero]
      refine takeL (.bool true) rfl (by go_simp) ?_
      try simp only [Act.put, List.setIfInBounds_toArray, List.set_cons_succ, List.set_cons_zero]
      refine takeL (.pointer (some ⟨g127, 0, none⟩)) rfl (by go_simp) ?_
      try simp only [Act.put, List.setIfInBounds_toArray, List.set_cons_succ, List.set_cons_zero]
      refine takeL (.int .u32 0) rfl (by have hq := F126.out.cell (i := 0) (v := .int .u32 0) rfl; go_simp) ?_
      try simp only [Act.put, List.setIfInBounds_toArray, List.set_cons_succ, List.set_cons_zero]
      refine takeL (.bool true) rfl (by go_simp) ?_
      try simp only [Act.put, List.setIfInBounds_toArray, List.set_cons_succ, List.set_cons_zero]
      refine takeL (.bool true) rfl (by go_simp) ?_
      try simp only [Act.put, List.setIfInBounds_toArray, List.set_cons_succ, List.set_cons_zero]
      refine takeL (.bool true) rfl (by go_simp) ?_
      try simp only [Act.put, List.setIfInBounds_toArray, List.set_cons_succ, List.set_cons_zero]
      refine takeL (.pointer (some ⟨g127, 1, none⟩)) rfl (by go_simp) ?_
      try simp only [Act.put, List.setIfInBounds_toArray, List.set_cons_succ, List.set_cons_zero]
      refine takeL (.bool false) rfl (by have hq := F126.out.cell (i := 1) (v := .bool false) rfl; go_simp) ?_
      try simp only [Act.put, List.setIfInBounds_toArray, List.set_cons_succ, List.set_cons_zero]
      refine takeL (.bool true) rfl (by go_simp) ?_
      try simp only [Act.put, List.setIfInBounds_toArray, List.set_cons_succ, List.set_cons_zero]
      refine takeL (.bool true) rfl (by go_simp) ?_
      try simp only [Act.put, List.setIfInBounds_toArray, List.set_cons_succ, List.set_cons_zero]
      refine takeL (.bool true) rfl (by go_simp) ?_
      try simp only [Act.put, List.setIfInBounds_toArray, List.set_cons_succ, List.set_cons_zero]
      refine wpList_op rfl fun K hK => ?_
      go_simp
      refine (wakes_any _).mono ?_
      rintro e w128 ⟨rfl, hb⟩
      have F129 := Lib.hid (F117.out.trans (hb.mono F117.out.size))
      have F130 := Lib.hid (F118.out.below hb)
      have F131 := Lib.hid (F119.out.below hb)
      have F132 := Lib.hid (F120.out.below hb F120.out.lt)
      have F133 := Lib.hid (F121.out.below hb F121.out.lt)
      have F134 := Lib.hid (F122.out.below hb F122.out.lt)
      have F135 := Lib.hid (F123.out.below hb F123.out.lt)
      have F136 := Lib.hid (F124.out.below hb F124.out.lt)
      have F137 := Lib.hid (F125.out.below hb)
      have F138 := Lib.hid (F126.out.below hb F126.out.lt)
      clear F117 F118 F119 F120 F121 F122 F123 F124 F125 F126
      clear hb
      refine hK _ _ ?_
      clear hK K
      try simp only [Act.put, List.setIfInBounds_toArray, List.set_cons_succ, List.set_cons_zero]
      refine takeL (.bool true) rfl (by go_simp) ?_
      try simp only [Act.put, List.setIfInBounds_toArray, List.set_cons_succ, List.set_cons_zero]
      refine takeL (.bool true) rfl (by go_simp) ?_
      try simp only [Act.put, List.setIfInBounds_toArray, List.set_cons_succ, List.set_cons_zero]
      refine wpList_nil ?_
      go_wp2_with fail
      go_ret
      exact ⟨rfl, F129.out⟩
    · have HSUM := Lib.hid hsum
      clear hsum
      go_upto_region 11 with fail
      refine wp_region_lit ?_
      have HPG := Lib.hid (isSum_parts HSUM.out).1
      have HPE := Lib.hid (isSum_parts HSUM.out).2
      have HRW := Lib.hid (readOf_wf HX.out)
      have HRS := Lib.hid (sec_length (readOf x))
      have HRL : Hid ((readOf x).marks.length ≤ 1000000) := Lib.hid (by have := (good_len HPG.out).2; omega)
      have HFST := Lib.hid (isSum_first HSUM.out)
      refine load27 (cs := (u8s x).toArray) (Blk.all F102.out rfl) (by rw [u8s_size, HXL.out]) rfl rfl ?_
      try simp only [Act.put, List.setIfInBounds_toArray, List.set_cons_succ, List.set_cons_zero]
      refine wpList_op rfl fun K hK => ?_
      go_simp
      refine (dec_yes HX.out HSUM.out _).mono ?_
      rintro e w140 ⟨ax, cx, rfl, hby, hb⟩
      have F141 := Lib.hid (F97.out.trans (hb.mono F97.out.size))
      have F142 := Lib.hid (F98.out.below hb)
      have F143 := Lib.hid (F99.out.below hb)
      have F144 := Lib.hid (F100.out.below hb F100.out.lt)
      have F145 := Lib.hid (F101.out.below hb F101.out.lt)
      have F146 := Lib.hid (F102.out.below hb F102.out.lt)
      have F147 := Lib.hid (F103.out.below hb F103.out.lt)
      have F148 := Lib.hid (F104.out.below hb F104.out.lt)
      clear F97 F98 F99 F100 F101 F102 F103 F104
      have F149 := Lib.hid hby
      clear hb hby
      refine hK _ _ ?_
      clear hK K
      try simp only [Act.put, List.setIfInBounds_toArray, List.set_cons_succ, List.set_cons_zero]
      refine takeL (.tuple #[.agg #[.int .u32 (readOf x).seq, .bool (readOf x).more, .slice ax (readOf x).marks.length cx], .int .i64 0]) rfl (by go_simp) ?_
      try simp only [Act.put, List.setIfInBounds_toArray, List.set_cons_succ, List.set_cons_zero]
      refine takeL (.agg #[.int .u32 (readOf x).seq, .bool (readOf x).more, .slice ax (readOf x).marks.length cx]) rfl (by go_simp) ?_
      try simp only [Act.put, List.setIfInBounds_toArray, List.set_cons_succ, List.set_cons_zero]
      refine takeL (.int .i64 0) rfl (by go_simp) ?_
      try simp only [Act.put, List.setIfInBounds_toArray, List.set_cons_succ, List.set_cons_zero]
      refine alloc_g zero25 rfl ?_
      intro w150 hC hBC hlC
      try simp only [Act.put, List.setIfInBounds_toArray, List.set_cons_succ, List.set_cons_zero]
      refine store_all (cs := #[.int .u32 (readOf x).seq, .bool (readOf x).more, (.slice ax (readOf x).marks.length cx)]) hC rfl info25 (cells_one _ _ _ _ _) rfl rfl rfl ?_
      intro w151 hD hOD hlD
      try simp only [Act.put, List.setIfInBounds_toArray, List.set_cons_succ, List.set_cons_zero]
      have hb := hBC.trans (hOD.below hBC.size (fun k hk => Nat.le_of_eq hk.symm))
      have F152 := Lib.hid (F141.out.trans (hb.mono F141.out.size))
      have F153 := Lib.hid (F142.out.below hb)
      have F154 := Lib.hid (F143.out.below hb)
      have F155 := Lib.hid (F144.out.below hb F144.out.lt)
      have F156 := Lib.hid (F145.out.below hb F145.out.lt)
      have F157 := Lib.hid (F146.out.below hb F146.out.lt)
      have F158 := Lib.hid (F147.out.below hb F147.out.lt)
      have F159 := Lib.hid (F148.out.below hb F148.out.lt)
      have F160 := Lib.hid (F149.out.below hb)
      clear F141 F142 F143 F144 F145 F146 F147 F148 F149
      have F161 := Lib.hid hD
      clear hC hBC hlC hD hOD hlD hb
      generalize w140.heap.size = g162 at *
      clear w150 w140
      refine takeL (.int .i64 0) rfl (by go_simp) ?_
      try simp only [Act.put, List.setIfInBounds_toArray, List.set_cons_succ, List.set_cons_zero]
      refine wpList_nil ?_
      go_upto_region 12 with fail
      refine wp_region_lit ?_
      refine takeL (.int .i64 0) rfl (by go_simp) ?_
      try simp only [Act.put, List.setIfInBounds_toArray, List.set_cons_succ, List.set_cons_zero]
      refine takeL (.bool true) rfl (by go_simp) ?_
      try simp only [Act.put, List.setIfInBounds_toArray, List.set_cons_succ, List.set_cons_zero]
      refine wpList_nil ?_
      go_upto_region 13 with fail
      refine wp_region_lit ?_
      refine load25 (cs := #[.int .u32 (readOf x).seq, .bool (readOf x).more, (.slice ax (readOf x).marks.length cx)]) (Blk.all F161.out rfl) rfl rfl rfl ?_
      try simp only [Act.put, List.setIfInBounds_toArray, List.set_cons_succ, List.set_cons_zero]
      refine wpList_op rfl fun K hK => ?_
      go_simp
      refine (enc_ok HPG.out _ HRL.out HRW.out _ F160.out).mono ?_
      rintro e w163 ⟨rfl, hb⟩
      have F164 := Lib.hid (F152.out.trans (hb.mono F152.out.size))
      have F165 := Lib.hid (F153.out.below hb)
      have F166 := Lib.hid (F154.out.below hb)
      have F167 := Lib.hid (F155.out.below hb F155.out.lt)
      have F168 := Lib.hid (F156.out.below hb F156.out.lt)
      have F169 := Lib.hid (F157.out.below hb F157.out.lt)
      have F170 := Lib.hid (F158.out.below hb F158.out.lt)
      have F171 := Lib.hid (F159.out.below hb F159.out.lt)
      have F172 := Lib.hid (F160.out.below hb)
      have F173 := Lib.hid (F161.out.below hb F161.out.lt)
      clear F152 F153 F154 F155 F156 F157 F158 F159 F160 F161
      clear hb
      refine hK _ _ ?_
      clear hK K
      try simp only [Act.put, List.setIfInBounds_toArray, List.set_cons_succ, List.set_cons_zero]
      refine takeL (.tuple #[.agg (u8s (readOf x).sec).toArray, .int .i64 0]) rfl (by go_simp) ?_
      try simp only [Act.put, List.setIfInBounds_toArray, List.set_cons_succ, List.set_cons_zero]
      refine takeL (.agg (u8s (readOf x).sec).toArray) rfl (by go_simp) ?_
      try simp only [Act.put, List.setIfInBounds_toArray, List.set_cons_succ, List.set_cons_zero]
      refine takeL (.int .i64 0) rfl (by go_simp) ?_
      try simp only [Act.put, List.setIfInBounds_toArray, List.set_cons_succ, List.set_cons_zero]
      refine alloc_g zero27 rfl ?_
      intro w174 hC hBC hlC
      try simp only [Act.put, List.setIfInBounds_toArray, List.set_cons_succ, List.set_cons_zero]
      refine store_all (cs := (u8s (readOf x).sec).toArray) hC (by rw [u8s_size, HRS.out]; simp [zeros]) (by rw [u8s_size, HRS.out]; exact info27) (u8s_one _) rfl rfl rfl ?_
      intro w175 hD hOD hlD
      try simp only [Act.put, List.setIfInBounds_toArray, List.set_cons_succ, List.set_cons_zero]
      have hb := hBC.trans (hOD.below hBC.size (fun k hk => Nat.le_of_eq hk.symm))
      have F176 := Lib.hid (F164.out.trans (hb.mono F164.out.size))
      have F177 := Lib.hid (F165.out.below hb)
      have F178 := Lib.hid (F166.out.below hb)
      have F179 := Lib.hid (F167.out.below hb F167.out.lt)
      have F180 := Lib.hid (F168.out.below hb F168.out.lt)
      have F181 := Lib.hid (F169.out.below hb F169.out.lt)
      have F182 := Lib.hid (F170.out.below hb F170.out.lt)
      have F183 := Lib.hid (F171.out.below hb F171.out.lt)
      have F184 := Lib.hid (F172.out.below hb)
      have F185 := Lib.hid (F173.out.below hb F173.out.lt)
      clear F164 F165 F166 F167 F168 F169 F170 F171 F172 F173
      have F186 := Lib.hid hD
      clear hC hBC hlC hD hOD hlD hb
      generalize w163.heap.size = g187 at *
      clear w174 w163
      refine takeL (.int .i64 0) rfl (by go_simp) ?_
      try simp only [Act.put, List.setIfInBounds_toArray, List.set_cons_succ, List.set_cons_zero]
      refine wpList_nil ?_
      go_upto_region 14 with fail
      refine wp_region_lit ?_
      refine takeL (.int .i64 0) rfl (by go_simp) ?_
      try simp only [Act.put, List.setIfInBounds_toArray, List.set_cons_succ, List.set_cons_zero]
      refine takeL (.bool true) rfl (by go_simp) ?_
      try simp only [Act.put, List.setIfInBounds_toArray, List.set_cons_succ, List.set_cons_zero]
      refine takeL (.bool true) rfl (by go_simp) ?_
      try simp only [Act.put, List.setIfInBounds_toArray, List.set_cons_succ, List.set_cons_zero]
      refine load27 (cs := (u8s (readOf x).sec).toArray) (Blk.all F186.out rfl) (by rw [u8s_size, HRS.out]) rfl rfl ?_
      try simp only [Act.put, List.setIfInBounds_toArray, List.set_cons_succ, List.set_cons_zero]
      refine load27 (cs := (u8s x).toArray) (Blk.all F181.out rfl) (by rw [u8s_size, HXL.out]) rfl rfl ?_
      try simp only [Act.put, List.setIfInBounds_toArray, List.set_cons_succ, List.set_cons_zero]
      refine takeL (.bool true) rfl (by exact eql27v (decide_eq_true HPE.out) HRS.out HXL.out _ _ _ rfl rfl rfl) ?_
      try simp only [Act.put, List.setIfInBounds_toArray, List.set_cons_succ, List.set_cons_zero]
      refine takeL (.bool true) rfl (by go_simp) ?_
      try simp only [Act.put, List.setIfInBounds_toArray, List.set_cons_succ, List.set_cons_zero]
      refine takeL (.bool true) rfl (by go_simp) ?_
      try simp only [Act.put, List.setIfInBounds_toArray, List.set_cons_succ, List.set_cons_zero]
      refine takeL (.pointer (some ⟨g20, 0, none⟩)) rfl (by go_simp) ?_
      try simp only [Act.put, List.setIfInBounds_toArray, List.set_cons_succ, List.set_cons_zero]
      refine takeL (.int .u8 (x.getD 0 0)) rfl (by have hq := F181.out.cell (i := 0) (v := .int .u8 (x.getD 0 0)) (sc_cell HX.out (by decide)); go_simp) ?_
      try simp only [Act.put, List.setIfInBounds_toArray, List.set_cons_succ, List.set_cons_zero]
      refine takeL (.bool true) rfl (by have hq := HFST.out; rw [List.getD_eq_getElem?_getD] at hq; go_simp) ?_
      try simp only [Act.put, List.setIfInBounds_toArray, List.set_cons_succ, List.set_cons_zero]
      refine takeL (.bool true) rfl (by go_simp) ?_
      try simp only [Act.put, List.setIfInBounds_toArray, List.set_cons_succ, List.set_cons_zero]
      refine takeL (.bool true) rfl (by go_simp) ?_
      try simp only [Act.put, List.setIfInBounds_toArray, List.set_cons_succ, List.set_cons_zero]
      refine wpList_op rfl fun K hK => ?_
      go_simp
      refine (wakes_any _).mono ?_
      rintro e w188 ⟨rfl, hb⟩
      have F189 := Lib.hid (F176.out.trans (hb.mono F176.out.size))
      have F190 := Lib.hid (F177.out.below hb)
      have F191 := Lib.hid (F178.out.below hb)
      have F192 := Lib.hid (F179.out.below hb F179.out.lt)
      have F193 := Lib.hid (F180.out.below hb F180.out.lt)
      have F194 := Lib.hid (F181.out.below hb F181.out.lt)
      have F195 := Lib.hid (F182.out.below hb F182.out.lt)
      have F196 := Lib.hid (F183.out.below hb F183.out.lt)
      have F197 := Lib.hid (F184.out.below hb)
      have F198 := Lib.hid (F185.out.below hb F185.out.lt)
      have F199 := Lib.hid (F186.out.below hb F186.out.lt)
      clear F176 F177 F178 F179 F180 F181 F182 F183 F184 F185 F186
      clear hb
      refine hK _ _ ?_
      clear hK K
      try simp only [Act.put, List.setIfInBounds_toArray, List.set_cons_succ, List.set_cons_zero]
      refine takeL (.bool true) rfl (by go_simp) ?_
      try simp only [Act.put, List.setIfInBounds_toArray, List.set_cons_succ, List.set_cons_zero]
      refine takeL (.bool true) rfl (by go_simp) ?_
      try simp only [Act.put, List.setIfInBounds_toArray, List.set_cons_succ, List.set_cons_zero]
      refine wpList_nil ?_
      go_wp2_with fail
      go_ret
      exact ⟨rfl, F189.out⟩
set_option maxHeartbeats 1000000 in
set_option maxRecDepth 100000 in
theorem back_t (s t : Sm) (sv tv : Value) (x : List Int) (hs : s.Wf) (ht : t.Wf) (hx : Sc x) (hl1 : s.marks.length ≤ 300) (hl2 : t.marks.length ≤ 300) (gs : s.good = true) (w : World) (hms : MarksAt w sv s.marks) (hmt : MarksAt w tv t.marks) : Calls Try.prog 4 #[.agg #[.int .u32 s.seq, .bool s.more, sv], .agg #[.int .u32 t.seq, .bool t.more, tv], .agg (u8s x).toArray] w fun e w' => e = .returned (.bool true) ∧ Below w.heap.size w w' := by
  have HWs := Lib.hid hs
  have HWt := Lib.hid ht
  have HX := Lib.hid hx
  have HXL := Lib.hid hx.length
  have HSs := Lib.hid (sec_length s)
  have HSt := Lib.hid (sec_length t)
  obtain ⟨ss, cs, rfl, -⟩ := id hms
  obtain ⟨tt, ct, rfl, -⟩ := id hmt
  have FYS := Lib.hid hms
  have FYT := Lib.hid hmt
  have HBL : Hid (Below w.heap.size w w) := Lib.hid (Below.refl _ _)
  have hl3 : ¬ (300 : Int) < s.marks.length := by omega
  have hl4 : ¬ (300 : Int) < t.marks.length := by omega
  have HLs : Hid (s.marks.length ≤ 1000000) := Lib.hid (by omega)
  have HLt : Hid (t.marks.length ≤ 1000000) := Lib.hid (by omega)
  have HL3 := Lib.hid hl1
  have HGs := Lib.hid gs
  clear gs
  clear hs ht hx hms hmt
  go_enter Try.func4, Try.ntmps4
  go_upto_region 0 with fail
  refine wp_region_lit ?_
  refine box_g rfl rfl ?_
  intro w1 hA hb hl
  try simp only [Act.put, List.setIfInBounds_toArray, List.set_cons_succ, List.set_cons_zero]
  clear hl
  have F2 := Lib.hid (HBL.out.trans (hb.mono HBL.out.size))
  have F3 := Lib.hid (FYS.out.below hb)
  have F4 := Lib.hid (FYT.out.below hb)
  clear HBL FYS FYT
  have F5 := Lib.hid hA
  clear hA hb
  refine box_g rfl rfl ?_
  intro w6 hA hb hl
  try simp only [Act.put, List.setIfInBounds_toArray, List.set_cons_succ, List.set_cons_zero]
  clear hl
  have F7 := Lib.hid (F2.out.trans (hb.mono F2.out.size))
  have F8 := Lib.hid (F3.out.below hb)
  have F9 := Lib.hid (F4.out.below hb)
  have F10 := Lib.hid (F5.out.below hb F5.out.lt)
  clear F2 F3 F4 F5
  have F11 := Lib.hid hA
  clear hA hb
  generalize w1.heap.size = g12 at *
  clear w1
  refine box_g rfl rfl ?_
  intro w13 hA hb hl
  try simp only [Act.put, List.setIfInBounds_toArray, List.set_cons_succ, List.set_cons_zero]
  clear hl
  have F14 := Lib.hid (F7.out.trans (hb.mono F7.out.size))
  have F15 := Lib.hid (F8.out.below hb)
  have F16 := Lib.hid (F9.out.below hb)
  have F17 := Lib.hid (F10.out.below hb F10.out.lt)
  have F18 := Lib.hid (F11.out.below hb F11.out.lt)
  clear F7 F8 F9 F10 F11
  have F19 := Lib.hid hA
  clear hA hb
  generalize w6.heap.size = g20 at *
  clear w6
  refine takeL (.bool false) rfl (by go_simp) ?_
  try simp only [Act.put, List.setIfInBounds_toArray, List.set_cons_succ, List.set_cons_zero]
  refine wpList_nil ?_
  go_upto_region 1 with fail
  refine wp_region_lit ?_
  refine takeL (.pointer (some ⟨w.heap.size, 2, none⟩)) rfl (by go_simp) ?_
  try simp only [Act.put, List.setIfInBounds_toArray, List.set_cons_succ, List.set_cons_zero]
  refine takeL ((.slice ss s.marks.length cs)) rfl (by have hq := F17.out.cell (i := 2) (v := (.slice ss s.marks.length cs)) rfl; go_simp) ?_
  try simp only [Act.put, List.setIfInBounds_toArray, List.set_cons_succ, List.set_cons_zero]
  refine takeL (.int .i64 (s.marks.length)) rfl (by go_simp) ?_
  try simp only [Act.put, List.setIfInBounds_toArray, List.set_cons_succ, List.set_cons_zero]
  refine takeL (.bool false) rfl (by go_simp) ?_
  try simp only [Act.put, List.setIfInBounds_toArray, List.set_cons_succ, List.set_cons_zero]
  refine takeL (.bool false) rfl (by go_simp) ?_
  try simp only [Act.put, List.setIfInBounds_toArray, List.set_cons_succ, List.set_cons_zero]
  refine takeL (.pointer (some ⟨g12, 2, none⟩)) rfl (by go_simp) ?_
  try simp only [Act.put, List.setIfInBounds_toArray, List.set_cons_succ, List.set_cons_zero]
  refine takeL ((.slice tt t.marks.length ct)) rfl (by have hq := F18.out.cell (i := 2) (v := (.slice tt t.marks.length ct)) rfl; go_simp) ?_
  try simp only [Act.put, List.setIfInBounds_toArray, List.set_cons_succ, List.set_cons_zero]
  refine takeL (.int .i64 (t.marks.length)) rfl (by go_simp) ?_
  try simp only [Act.put, List.setIfInBounds_toArray, List.set_cons_succ, List.set_cons_zero]
  refine takeL (.bool false) rfl (by go_simp) ?_
  try simp only [Act.put, List.setIfInBounds_toArray, List.set_cons_succ, List.set_cons_zero]
  refine takeL (.bool false) rfl (by go_simp) ?_
  try simp only [Act.put, List.setIfInBounds_toArray, List.set_cons_succ, List.set_cons_zero]
  refine wpList_nil ?_
  clear hl1 hl2 hl3 hl4
  go_upto_region 3 with fail
  refine wp_region_lit ?_
  refine load25 (cs := #[.int .u32 s.seq, .bool s.more, (.slice ss s.marks.length cs)]) (Blk.all F17.out rfl) rfl rfl rfl ?_
  try simp only [Act.put, List.setIfInBounds_toArray, List.set_cons_succ, List.set_cons_zero]
  refine wpList_op rfl fun K hK => ?_
  go_simp
  refine (enc_ok HGs.out _ HLs.out HWs.out _ F15.out).mono ?_
  rintro e w21 ⟨rfl, hb⟩
  have F22 := Lib.hid (F14.out.trans (hb.mono F14.out.size))
  have F23 := Lib.hid (F15.out.below hb)
  have F24 := Lib.hid (F16.out.below hb)
  have F25 := Lib.hid (F17.out.below hb F17.out.lt)
  have F26 := Lib.hid (F18.out.below hb F18.out.lt)
  have F27 := Lib.hid (F19.out.below hb F19.out.lt)
  clear F14 F15 F16 F17 F18 F19
  clear hb
  refine hK _ _ ?_
  clear hK K
  try simp only [Act.put, List.setIfInBounds_toArray, List.set_cons_succ, List.set_cons_zero]
  refine takeL (.tuple #[.agg (u8s s.sec).toArray, .int .i64 0]) rfl (by go_simp) ?_
  try simp only [Act.put, List.setIfInBounds_toArray, List.set_cons_succ, List.set_cons_zero]
  refine takeL (.agg (u8s s.sec).toArray) rfl (by go_simp) ?_
  try simp only [Act.put, List.setIfInBounds_toArray, List.set_cons_succ, List.set_cons_zero]
  refine takeL (.int .i64 0) rfl (by go_simp) ?_
  try simp only [Act.put, List.setIfInBounds_toArray, List.set_cons_succ, List.set_cons_zero]
  refine alloc_g zero27 rfl ?_
  intro w28 hC hBC hlC
  try simp only [Act.put, List.setIfInBounds_toArray, List.set_cons_succ, List.set_cons_zero]
  refine store_all (cs := (u8s s.sec).toArray) hC (by rw [u8s_size, HSs.out]; simp [zeros]) (by rw [u8s_size, HSs.out]; exact info27) (u8s_one _) rfl rfl rfl ?_
  intro w29 hD hOD hlD
  try simp only [Act.put, List.setIfInBounds_toArray, List.set_cons_succ, List.set_cons_zero]
  have hb := hBC.trans (hOD.below hBC.size (fun k hk => Nat.le_of_eq hk.symm))
  have F30 := Lib.hid (F22.out.trans (hb.mono F22.out.size))
  have F31 := Lib.hid (F23.out.below hb)
  have F32 := Lib.hid (F24.out.below hb)
  have F33 := Lib.hid (F25.out.below hb F25.out.lt)
  have F34 := Lib.hid (F26.out.below hb F26.out.lt)
  have F35 := Lib.hid (F27.out.below hb F27.out.lt)
  clear F22 F23 F24 F25 F26 F27
  have F36 := Lib.hid hD
  clear hC hBC hlC hD hOD hlD hb
  generalize w21.heap.size = g37 at *
  clear w28 w21
  refine takeL (.int .i64 0) rfl (by go_simp) ?_
  try simp only [Act.put, List.setIfInBounds_toArray, List.set_cons_succ, List.set_cons_zero]
  refine wpList_nil ?_
  go_upto_region 4 with fail
  refine wp_region_lit ?_
  refine load25 (cs := #[.int .u32 t.seq, .bool t.more, (.slice tt t.marks.length ct)]) (Blk.all F34.out rfl) rfl rfl rfl ?_
  try simp only [Act.put, List.setIfInBounds_toArray, List.set_cons_succ, List.set_cons_zero]
  refine wpList_op rfl fun K hK => ?_
  go_simp
  refine (encode_any t _ HLt.out HWt.out _ F32.out).mono ?_
  rintro e w38 ⟨rfl, hb⟩
  have F39 := Lib.hid (F30.out.trans (hb.mono F30.out.size))
  have F40 := Lib.hid (F31.out.below hb)
  have F41 := Lib.hid (F32.out.below hb)
  have F42 := Lib.hid (F33.out.below hb F33.out.lt)
  have F43 := Lib.hid (F34.out.below hb F34.out.lt)
  have F44 := Lib.hid (F35.out.below hb F35.out.lt)
  have F45 := Lib.hid (F36.out.below hb F36.out.lt)
  clear F30 F31 F32 F33 F34 F35 F36
  clear hb
  refine hK _ _ ?_
  clear hK K
  try simp only [Act.put, List.setIfInBounds_toArray, List.set_cons_succ, List.set_cons_zero]
  refine takeL (.tuple #[.agg (u8s t.sec).toArray, .int .i64 t.err]) rfl (by go_simp) ?_
  try simp only [Act.put, List.setIfInBounds_toArray, List.set_cons_succ, List.set_cons_zero]
  refine takeL (.agg (u8s t.sec).toArray) rfl (by go_simp) ?_
  try simp only [Act.put, List.setIfInBounds_toArray, List.set_cons_succ, List.set_cons_zero]
  refine takeL (.int .i64 t.err) rfl (by go_simp) ?_
  try simp only [Act.put, List.setIfInBounds_toArray, List.set_cons_succ, List.set_cons_zero]
  refine alloc_g zero27 rfl ?_
  intro w46 hC hBC hlC
  try simp only [Act.put, List.setIfInBounds_toArray, List.set_cons_succ, List.set_cons_zero]
  refine store_all (cs := (u8s t.sec).toArray) hC (by rw [u8s_size, HSt.out]; simp [zeros]) (by rw [u8s_size, HSt.out]; exact info27) (u8s_one _) rfl rfl rfl ?_
  intro w47 hD hOD hlD
  try simp only [Act.put, List.setIfInBounds_toArray, List.set_cons_succ, List.set_cons_zero]
  have hb := hBC.trans (hOD.below hBC.size (fun k hk => Nat.le_of_eq hk.symm))
  have F48 := Lib.hid (F39.out.trans (hb.mono F39.out.size))
  have F49 := Lib.hid (F40.out.below hb)
  have F50 := Lib.hid (F41.out.below hb)
  have F51 := Lib.hid (F42.out.below hb F42.out.lt)
  have F52 := Lib.hid (F43.out.below hb F43.out.lt)
  have F53 := Lib.hid (F44.out.below hb F44.out.lt)
  have F54 := Lib.hid (F45.out.below hb F45.out.lt)
  clear F39 F40 F41 F42 F43 F44 F45
  have F55 := Lib.hid hD
  clear hC hBC hlC hD hOD hlD hb
  generalize w38.heap.size = g56 at *
  clear w46 w38
  refine takeL (.int .i64 t.err) rfl (by go_simp) ?_
  try simp only [Act.put, List.setIfInBounds_toArray, List.set_cons_succ, List.set_cons_zero]
  refine wpList_nil ?_
  go_upto_region 5 with fail
  refine wp_region_lit ?_
  refine takeL (.int .i64 0) rfl (by go_simp) ?_
  try simp only [Act.put, List.setIfInBounds_toArray, List.set_cons_succ, List.set_cons_zero]
  refine takeL (.bool true) rfl (by go_simp) ?_
  try simp only [Act.put, List.setIfInBounds_toArray, List.set_cons_succ, List.set_cons_zero]
  refine wpList_nil ?_
  go_upto_region 6 with fail
  refine wp_region_lit ?_
  refine load27 (cs := (u8s s.sec).toArray) (Blk.all F54.out rfl) (by rw [u8s_size, HSs.out]) rfl rfl ?_
  try simp only [Act.put, List.setIfInBounds_toArray, List.set_cons_succ, List.set_cons_zero]
  refine wpList_op rfl fun K hK => ?_
  go_simp
  refine (dec_of HGs.out HWs.out _).mono ?_
  rintro e w57 ⟨au, cu, rfl, hby, hb⟩
  have F58 := Lib.hid (F48.out.trans (hb.mono F48.out.size))
  have F59 := Lib.hid (F49.out.below hb)
  have F60 := Lib.hid (F50.out.below hb)
  have F61 := Lib.hid (F51.out.below hb F51.out.lt)
  have F62 := Lib.hid (F52.out.below hb F52.out.lt)
  have F63 := Lib.hid (F53.out.below hb F53.out.lt)
  have F64 := Lib.hid (F54.out.below hb F54.out.lt)
  have F65 := Lib.hid (F55.out.below hb F55.out.lt)
  clear F48 F49 F50 F51 F52 F53 F54 F55
  have F66 := Lib.hid hby
  clear hb hby
  refine hK _ _ ?_
  clear hK K
  try simp only [Act.put, List.setIfInBounds_toArray, List.set_cons_succ, List.set_cons_zero]
  refine takeL (.tuple #[.agg #[.int .u32 s.seq, .bool s.more, .slice au s.marks.length cu], .int .i64 0]) rfl (by go_simp) ?_
  try simp only [Act.put, List.setIfInBounds_toArray, List.set_cons_succ, List.set_cons_zero]
  refine takeL (.agg #[.int .u32 s.seq, .bool s.more, .slice au s.marks.length cu]) rfl (by go_simp) ?_
  try simp only [Act.put, List.setIfInBounds_toArray, List.set_cons_succ, List.set_cons_zero]
  refine takeL (.int .i64 0) rfl (by go_simp) ?_
  try simp only [Act.put, List.setIfInBounds_toArray, List.set_cons_succ, List.set_cons_zero]
  refine alloc_g zero25 rfl ?_
  intro w67 hC hBC hlC
  try simp only [Act.put, List.setIfInBounds_toArray, List.set_cons_succ, List.set_cons_zero]
  refine store_all (cs := #[.int .u32 s.seq, .bool s.more, (.slice au s.marks.length cu)]) hC rfl info25 (cells_one _ _ _ _ _) rfl rfl rfl ?_
  intro w68 hD hOD hlD
  try simp only [Act.put, List.setIfInBounds_toArray, List.set_cons_succ, List.set_cons_zero]
  have hb := hBC.trans (hOD.below hBC.size (fun k hk => Nat.le_of_eq hk.symm))
  have F69 := Lib.hid (F58.out.trans (hb.mono F58.out.size))
  have F70 := Lib.hid (F59.out.below hb)
  have F71 := Lib.hid (F60.out.below hb)
  have F72 := Lib.hid (F61.out.below hb F61.out.lt)
  have F73 := Lib.hid (F62.out.below hb F62.out.lt)
  have F74 := Lib.hid (F63.out.below hb F63.out.lt)
  have F75 := Lib.hid (F64.out.below hb F64.out.lt)
  have F76 := Lib.hid (F65.out.below hb F65.out.lt)
  have F77 := Lib.hid (F66.out.below hb)
  clear F58 F59 F60 F61 F62 F63 F64 F65 F66
  have F78 := Lib.hid hD
  clear hC hBC hlC hD hOD hlD hb
  generalize w57.heap.size = g79 at *
  clear w67 w57
  refine takeL (.int .i64 0) rfl (by go_simp) ?_
  try simp only [Act.put, List.setIfInBounds_toArray, List.set_cons_succ, List.set_cons_zero]
  refine wpList_nil ?_
  go_upto_region 7 with fail
  refine startH (fun wq => Below w68.heap.size w68 wq) (by kernel_rfl) ?_
  refine takeH 0 (some 45) (.int .i64 0) rfl rfl (by kernel_rfl) (by kernel_rfl) (by kernel_rfl) (fun _ _ _ h => h) rfl (fun wq hS => by go_simp) (Below.refl _ _).drew ?_
  try simp only [Act.put, List.setIfInBounds_toArray, List.set_cons_succ, List.set_cons_zero]
  refine takeH 1 (some 46) (.bool false) rfl rfl (by kernel_rfl) (by kernel_rfl) (by kernel_rfl) (fun _ _ _ h => h) rfl (fun wq hS => by go_simp) (Below.refl _ _).drew ?_
  try simp only [Act.put, List.setIfInBounds_toArray, List.set_cons_succ, List.set_cons_zero]
  refine takeH 2 (some 47) (.bool false) rfl rfl (by kernel_rfl) (by kernel_rfl) (by kernel_rfl) (fun _ _ _ h => h) rfl (fun wq hS => by go_simp) (Below.refl _ _).drew ?_
  try simp only [Act.put, List.setIfInBounds_toArray, List.set_cons_succ, List.set_cons_zero]
  refine takeH 3 (some 48) (.agg #[.int .u32 s.seq, .bool s.more, (.slice au s.marks.length cu)]) rfl rfl (by kernel_rfl) (by kernel_rfl) (by kernel_rfl) (fun _ _ _ h => h) rfl (fun wq hS => by exact exec_load_at wq _ _ 25 _ rfl g79 0 rfl #[.int .u32 s.seq, .bool s.more, (.slice au s.marks.length cu)] _ Try.underlying25 rfl info25 (Blk.all (F78.out.below hS F78.out.lt) rfl)) (Below.refl _ _).drew ?_
  try simp only [Act.put, List.setIfInBounds_toArray, List.set_cons_succ, List.set_cons_zero]
  refine takeH 4 (some 49) (.agg #[.int .u32 s.seq, .bool s.more, (.slice ss s.marks.length cs)]) rfl rfl (by kernel_rfl) (by kernel_rfl) (by kernel_rfl) (fun _ _ _ h => h) rfl (fun wq hS => by exact exec_load_at wq _ _ 25 _ rfl w.heap.size 0 rfl #[.int .u32 s.seq, .bool s.more, (.slice ss s.marks.length cs)] _ Try.underlying25 rfl info25 (Blk.all (F72.out.below hS F72.out.lt) rfl)) (Below.refl _ _).drew ?_
  try simp only [Act.put, List.setIfInBounds_toArray, List.set_cons_succ, List.set_cons_zero]
  refine oneH 5 (by kernel_rfl) rfl rfl fun K hK => ?_
  go_simp
  refine (own_any s.seq s.more _ s.marks HL3.out _ (F70.out.below (Below.refl _ _).drew)).mono ?_
  rintro e w80 ⟨ov, rfl, hby, hb⟩
  have HS81 := Lib.hid (stay (Below.refl _ _).drew hb)
  clear hb
  refine hK _ _ HS81.out ?_
  clear hK K
  try simp only [Act.put, List.setIfInBounds_toArray, List.set_cons_succ, List.set_cons_zero]
  refine oneH 6 (by kernel_rfl) rfl rfl fun K hK => ?_
  go_simp
  refine (same_self s.seq s.more s.marks _ ov 0 HLs.out _ (F77.out.below HS81.out) hby).mono ?_
  rintro e w82 ⟨rfl, hb⟩
  have HS83 := Lib.hid (stay HS81.out hb)
  clear hb
  refine hK _ _ HS83.out ?_
  clear hK K
  try simp only [Act.put, List.setIfInBounds_toArray, List.set_cons_succ, List.set_cons_zero]
  refine takeH 7 (some 52) (.bool false) rfl rfl (by kernel_rfl) (by kernel_rfl) (by kernel_rfl) (fun _ _ _ h => h) rfl (fun wq hS => by go_simp) HS83.out ?_
  try simp only [Act.put, List.setIfInBounds_toArray, List.set_cons_succ, List.set_cons_zero]
  refine takeH 8 (some 53) (.bool false) rfl rfl (by kernel_rfl) (by kernel_rfl) (by kernel_rfl) (fun _ _ _ h => h) rfl (fun wq hS => by go_simp) HS83.out ?_
  try simp only [Act.put, List.setIfInBounds_toArray, List.set_cons_succ, List.set_cons_zero]
  clear hby
  refine wpAnyH_done (by kernel_rfl) ?_ _
  have hb := HS83.out
  have F84 := Lib.hid (F69.out.trans (hb.mono F69.out.size))
  have F85 := Lib.hid (F70.out.below hb)
  have F86 := Lib.hid (F71.out.below hb)
  have F87 := Lib.hid (F72.out.below hb F72.out.lt)
  have F88 := Lib.hid (F73.out.below hb F73.out.lt)
  have F89 := Lib.hid (F74.out.below hb F74.out.lt)
  have F90 := Lib.hid (F75.out.below hb F75.out.lt)
  have F91 := Lib.hid (F76.out.below hb F76.out.lt)
  have F92 := Lib.hid (F77.out.below hb)
  have F93 := Lib.hid (F78.out.below hb F78.out.lt)
  clear F69 F70 F71 F72 F73 F74 F75 F76 F77 F78
  clear hb
  go_upto_region 9 with fail
  go_cut [84] from 54 to 85 (fun s84 wx => s84 = .bool false ∧ Below w82.heap.size w82 wx)
  case first =>
    cases gt : t.good
    · have HET := Lib.hid (err_bad gt)
      clear gt
      refine startH (fun wq => Below w82.heap.size w82 wq) (by kernel_rfl) ?_
      refine takeH 0 (some 54) (.int .i64 0) rfl rfl (by kernel_rfl) (by kernel_rfl) (by kernel_rfl) (fun _ _ _ h => h) rfl (fun wq hS => by go_simp) (Below.refl _ _).drew ?_
      try simp only [Act.put, List.setIfInBounds_toArray, List.set_cons_succ, List.set_cons_zero]
      refine takeH 1 (some 55) (.bool true) rfl rfl (by kernel_rfl) (by kernel_rfl) (by kernel_rfl) (fun _ _ _ h => h) rfl (fun wq hS => by go_simp) (Below.refl _ _).drew ?_
      try simp only [Act.put, List.setIfInBounds_toArray, List.set_cons_succ, List.set_cons_zero]
      refine takeH 2 (some 56) (.bool true) rfl rfl (by kernel_rfl) (by kernel_rfl) (by kernel_rfl) (fun _ _ _ h => h) rfl (fun wq hS => by go_simp) (Below.refl _ _).drew ?_
      try simp only [Act.put, List.setIfInBounds_toArray, List.set_cons_succ, List.set_cons_zero]
      refine takeH 3 (some 57) (.int .i64 t.err) rfl rfl (by kernel_rfl) (by kernel_rfl) (by kernel_rfl) (fun _ _ _ h => h) rfl (fun wq hS => by go_simp) (Below.refl _ _).drew ?_
      try simp only [Act.put, List.setIfInBounds_toArray, List.set_cons_succ, List.set_cons_zero]
      refine takeH 4 (some 58) (.bool false) rfl rfl (by kernel_rfl) (by kernel_rfl) (by kernel_rfl) (fun _ _ _ h => h) rfl (fun wq hS => by have hq := HET.out; go_simp) (Below.refl _ _).drew ?_
      try simp only [Act.put, List.setIfInBounds_toArray, List.set_cons_succ, List.set_cons_zero]
      refine takeH 5 (some 59) (.bool false) rfl rfl (by kernel_rfl) (by kernel_rfl) (by kernel_rfl) (fun _ _ _ h => h) rfl (fun wq hS => by go_simp) (Below.refl _ _).drew ?_
      try simp only [Act.put, List.setIfInBounds_toArray, List.set_cons_succ, List.set_cons_zero]
      refine takeH 6 (some 60) (.bool false) rfl rfl (by kernel_rfl) (by kernel_rfl) (by kernel_rfl) (fun _ _ _ h => h) rfl (fun wq hS => by go_simp) (Below.refl _ _).drew ?_
      try simp only [Act.put, List.setIfInBounds_toArray, List.set_cons_succ, List.set_cons_zero]
      refine passH 7 (some 61) rfl rfl (by kernel_rfl) (by kernel_rfl) (by kernel_rfl) (fun _ _ _ h => h) rfl (Below.refl _ _).drew ?_
      try simp only [Act.put, List.setIfInBounds_toArray, List.set_cons_succ, List.set_cons_zero]
      refine passH 8 (some 62) rfl rfl (by kernel_rfl) (by kernel_rfl) (by kernel_rfl) (fun _ _ _ h => h) rfl (Below.refl _ _).drew ?_
      try simp only [Act.put, List.setIfInBounds_toArray, List.set_cons_succ, List.set_cons_zero]
      refine passH 9 (some 63) rfl rfl (by kernel_rfl) (by kernel_rfl) (by kernel_rfl) (fun _ _ _ h => h) rfl (Below.refl _ _).drew ?_
      try simp only [Act.put, List.setIfInBounds_toArray, List.set_cons_succ, List.set_cons_zero]
      refine passH 10 (some 64) rfl rfl (by kernel_rfl) (by kernel_rfl) (by kernel_rfl) (fun _ _ _ h => h) rfl (Below.refl _ _).drew ?_
      try simp only [Act.put, List.setIfInBounds_toArray, List.set_cons_succ, List.set_cons_zero]
      refine passH 11 (some 65) rfl rfl (by kernel_rfl) (by kernel_rfl) (by kernel_rfl) (fun _ _ _ h => h) rfl (Below.refl _ _).drew ?_
      try simp only [Act.put, List.setIfInBounds_toArray, List.set_cons_succ, List.set_cons_zero]
      refine passH 12 (some 66) rfl rfl (by kernel_rfl) (by kernel_rfl) (by kernel_rfl) (fun _ _ _ h => h) rfl (Below.refl _ _).drew ?_
      try simp only [Act.put, List.setIfInBounds_toArray, List.set_cons_succ, List.set_cons_zero]
      refine passH 13 (some 67) rfl rfl (by kernel_rfl) (by kernel_rfl) (by kernel_rfl) (fun _ _ _ h => h) rfl (Below.refl _ _).drew ?_
      try simp only [Act.put, List.setIfInBounds_toArray, List.set_cons_succ, List.set_cons_zero]
      refine passH 14 (some 68) rfl rfl (by kernel_rfl) (by kernel_rfl) (by kernel_rfl) (fun _ _ _ h => h) rfl (Below.refl _ _).drew ?_
      try simp only [Act.put, List.setIfInBounds_toArray, List.set_cons_succ, List.set_cons_zero]
      refine passH 15 (some 69) rfl rfl (by kernel_rfl) (by kernel_rfl) (by kernel_rfl) (fun _ _ _ h => h) rfl (Below.refl _ _).drew ?_
      try simp only [Act.put, List.setIfInBounds_toArray, List.set_cons_succ, List.set_cons_zero]
      refine passH 16 (some 70) rfl rfl (by kernel_rfl) (by kernel_rfl) (by kernel_rfl) (fun _ _ _ h => h) rfl (Below.refl _ _).drew ?_
      try simp only [Act.put, List.setIfInBounds_toArray, List.set_cons_succ, List.set_cons_zero]
      refine passH 17 (some 71) rfl rfl (by kernel_rfl) (by kernel_rfl) (by kernel_rfl) (fun _ _ _ h => h) rfl (Below.refl _ _).drew ?_
      try simp only [Act.put, List.setIfInBounds_toArray, List.set_cons_succ, List.set_cons_zero]
      refine passH 18 (some 72) rfl rfl (by kernel_rfl) (by kernel_rfl) (by kernel_rfl) (fun _ _ _ h => h) rfl (Below.refl _ _).drew ?_
      try simp only [Act.put, List.setIfInBounds_toArray, List.set_cons_succ, List.set_cons_zero]
      refine passH 19 (some 73) rfl rfl (by kernel_rfl) (by kernel_rfl) (by kernel_rfl) (fun _ _ _ h => h) rfl (Below.refl _ _).drew ?_
      try simp only [Act.put, List.setIfInBounds_toArray, List.set_cons_succ, List.set_cons_zero]
      refine passH 20 (some 74) rfl rfl (by kernel_rfl) (by kernel_rfl) (by kernel_rfl) (fun _ _ _ h => h) rfl (Below.refl _ _).drew ?_
      try simp only [Act.put, List.setIfInBounds_toArray, List.set_cons_succ, List.set_cons_zero]
      refine passH 21 (some 75) rfl rfl (by kernel_rfl) (by kernel_rfl) (by kernel_rfl) (fun _ _ _ h => h) rfl (Below.refl _ _).drew ?_
      try simp only [Act.put, List.setIfInBounds_toArray, List.set_cons_succ, List.set_cons_zero]
      refine passH 22 (some 76) rfl rfl (by kernel_rfl) (by kernel_rfl) (by kernel_rfl) (fun _ _ _ h => h) rfl (Below.refl _ _).drew ?_
      try simp only [Act.put, List.setIfInBounds_toArray, List.set_cons_succ, List.set_cons_zero]
      refine passH 23 (some 77) rfl rfl (by kernel_rfl) (by kernel_rfl) (by kernel_rfl) (fun _ _ _ h => h) rfl (Below.refl _ _).drew ?_
      try simp only [Act.put, List.setIfInBounds_toArray, List.set_cons_succ, List.set_cons_zero]
      refine passH 24 (some 78) rfl rfl (by kernel_rfl) (by kernel_rfl) (by kernel_rfl) (fun _ _ _ h => h) rfl (Below.refl _ _).drew ?_
      try simp only [Act.put, List.setIfInBounds_toArray, List.set_cons_succ, List.set_cons_zero]
      refine passH 25 (some 79) rfl rfl (by kernel_rfl) (by kernel_rfl) (by kernel_rfl) (fun _ _ _ h => h) rfl (Below.refl _ _).drew ?_
      try simp only [Act.put, List.setIfInBounds_toArray, List.set_cons_succ, List.set_cons_zero]
      refine passH 26 (some 80) rfl rfl (by kernel_rfl) (by kernel_rfl) (by kernel_rfl) (fun _ _ _ h => h) rfl (Below.refl _ _).drew ?_
      try simp only [Act.put, List.setIfInBounds_toArray, List.set_cons_succ, List.set_cons_zero]
      refine passH 27 (some 81) rfl rfl (by kernel_rfl) (by kernel_rfl) (by kernel_rfl) (fun _ _ _ h => h) rfl (Below.refl _ _).drew ?_
      try simp only [Act.put, List.setIfInBounds_toArray, List.set_cons_succ, List.set_cons_zero]
      refine passH 28 (some 82) rfl rfl (by kernel_rfl) (by kernel_rfl) (by kernel_rfl) (fun _ _ _ h => h) rfl (Below.refl _ _).drew ?_
      try simp only [Act.put, List.setIfInBounds_toArray, List.set_cons_succ, List.set_cons_zero]
      refine passH 29 (some 83) rfl rfl (by kernel_rfl) (by kernel_rfl) (by kernel_rfl) (fun _ _ _ h => h) rfl (Below.refl _ _).drew ?_
      try simp only [Act.put, List.setIfInBounds_toArray, List.set_cons_succ, List.set_cons_zero]
      refine takeH 30 (some 84) (.bool false) rfl rfl (by kernel_rfl) (by kernel_rfl) (by kernel_rfl) (fun _ _ _ h => h) rfl (fun wq hS => by go_simp) (Below.refl _ _).drew ?_
      try simp only [Act.put, List.setIfInBounds_toArray, List.set_cons_succ, List.set_cons_zero]
      refine wpAnyH_done (by kernel_rfl) ?_ _
      go_wp2_with fail
      go_meet
      exact ⟨rfl, (Below.refl _ _).drew⟩
    · have HGt := Lib.hid gt
      have HET := Lib.hid (err_good gt)
      clear gt
      by_cases hq : s.seq = t.seq
      · have HQ := Lib.hid hq
        clear hq
        by_cases hm : s.more = t.more
        · have HMO := Lib.hid hm
          clear hm
          by_cases hk : s.marks = t.marks
          · have HMK := Lib.hid (decide_eq_true hk)
            have HEQ : Hid (decide (s.sec = t.sec) = true) := Lib.hid (decide_eq_true (by rw [show s = t from by obtain ⟨_, _, _⟩ := s; obtain ⟨_, _, _⟩ := t; simp only at hk; have h1 := HQ.out; have h2 := HMO.out; simp only at h1 h2; rw [h1, h2, hk]]))
            clear hk
            refine startH (fun wq => Below w82.heap.size w82 wq) (by kernel_rfl) ?_
            refine takeH 0 (some 54) (.int .i64 0) rfl rfl (by kernel_rfl) (by kernel_rfl) (by kernel_rfl) (fun _ _ _ h => h) rfl (fun wq hS => by go_simp) (Below.refl _ _).drew ?_
            try simp only [Act.put, List.setIfInBounds_toArray, List.set_cons_succ, List.set_cons_zero]
            refine takeH 1 (some 55) (.bool true) rfl rfl (by kernel_rfl) (by kernel_rfl) (by kernel_rfl) (fun _ _ _ h => h) rfl (fun wq hS => by go_simp) (Below.refl _ _).drew ?_
            try simp only [Act.put, List.setIfInBounds_toArray, List.set_cons_succ, List.set_cons_zero]
            refine takeH 2 (some 56) (.bool true) rfl rfl (by kernel_rfl) (by kernel_rfl) (by kernel_rfl) (fun _ _ _ h => h) rfl (fun wq hS => by go_simp) (Below.refl _ _).drew ?_
            try simp only [Act.put, List.setIfInBounds_toArray, List.set_cons_succ, List.set_cons_zero]
            refine takeH 3 (some 57) (.int .i64 t.err) rfl rfl (by kernel_rfl) (by kernel_rfl) (by kernel_rfl) (fun _ _ _ h => h) rfl (fun wq hS => by go_simp) (Below.refl _ _).drew ?_
            try simp only [Act.put, List.setIfInBounds_toArray, List.set_cons_succ, List.set_cons_zero]
            refine takeH 4 (some 58) (.bool true) rfl rfl (by kernel_rfl) (by kernel_rfl) (by kernel_rfl) (fun _ _ _ h => h) rfl (fun wq hS => by have hq := HET.out; go_simp) (Below.refl _ _).drew ?_
            try simp only [Act.put, List.setIfInBounds_toArray, List.set_cons_succ, List.set_cons_zero]
            refine takeH 5 (some 59) (.bool true) rfl rfl (by kernel_rfl) (by kernel_rfl) (by kernel_rfl) (fun _ _ _ h => h) rfl (fun wq hS => by go_simp) (Below.refl _ _).drew ?_
            try simp only [Act.put, List.setIfInBounds_toArray, List.set_cons_succ, List.set_cons_zero]
            refine takeH 6 (some 60) (.bool true) rfl rfl (by kernel_rfl) (by kernel_rfl) (by kernel_rfl) (fun _ _ _ h => h) rfl (fun wq hS => by go_simp) (Below.refl _ _).drew ?_
            try simp only [Act.put, List.setIfInBounds_toArray, List.set_cons_succ, List.set_cons_zero]
            refine takeH 7 (some 61) (.agg (u8s s.sec).toArray) rfl rfl (by kernel_rfl) (by kernel_rfl) (by kernel_rfl) (fun _ _ _ h => h) rfl (fun wq hS => by exact exec_load_at wq _ _ 27 _ rfl g37 0 rfl (u8s s.sec).toArray _ Try.underlying27 rfl (by rw [u8s_size, HSs.out]; exact info27) (Blk.all (F90.out.below hS F90.out.lt) rfl)) (Below.refl _ _).drew ?_
            try simp only [Act.put, List.setIfInBounds_toArray, List.set_cons_succ, List.set_cons_zero]
            refine takeH 8 (some 62) (.agg (u8s t.sec).toArray) rfl rfl (by kernel_rfl) (by kernel_rfl) (by kernel_rfl) (fun _ _ _ h => h) rfl (fun wq hS => by exact exec_load_at wq _ _ 27 _ rfl g56 0 rfl (u8s t.sec).toArray _ Try.underlying27 rfl (by rw [u8s_size, HSt.out]; exact info27) (Blk.all (F91.out.below hS F91.out.lt) rfl)) (Below.refl _ _).drew ?_
            try simp only [Act.put, List.setIfInBounds_toArray, List.set_cons_succ, List.set_cons_zero]
            refine takeH 9 (some 63) (.bool true) rfl rfl (by kernel_rfl) (by kernel_rfl) (by kernel_rfl) (fun _ _ _ h => h) rfl (fun wq hS => by exact eql27v HEQ.out HSs.out HSt.out _ _ _ rfl rfl rfl) (Below.refl _ _).drew ?_
            try simp only [Act.put, List.setIfInBounds_toArray, List.set_cons_succ, List.set_cons_zero]
            refine takeH 10 (some 64) (.pointer (some ⟨w.heap.size, 0, none⟩)) rfl rfl (by kernel_rfl) (by kernel_rfl) (by kernel_rfl) (fun _ _ _ h => h) rfl (fun wq hS => by go_simp) (Below.refl _ _).drew ?_
            try simp only [Act.put, List.setIfInBounds_toArray, List.set_cons_succ, List.set_cons_zero]
            refine takeH 11 (some 65) (.int .u32 s.seq) rfl rfl (by kernel_rfl) (by kernel_rfl) (by kernel_rfl) (fun _ _ _ h => h) rfl (fun wq hS => by have hq := (F87.out.below hS F87.out.lt).cell (i := 0) (v := .int .u32 s.seq) rfl; go_simp) (Below.refl _ _).drew ?_
            try simp only [Act.put, List.setIfInBounds_toArray, List.set_cons_succ, List.set_cons_zero]
            refine takeH 12 (some 66) (.pointer (some ⟨g12, 0, none⟩)) rfl rfl (by kernel_rfl) (by kernel_rfl) (by kernel_rfl) (fun _ _ _ h => h) rfl (fun wq hS => by go_simp) (Below.refl _ _).drew ?_
            try simp only [Act.put, List.setIfInBounds_toArray, List.set_cons_succ, List.set_cons_zero]
            refine takeH 13 (some 67) (.int .u32 t.seq) rfl rfl (by kernel_rfl) (by kernel_rfl) (by kernel_rfl) (fun _ _ _ h => h) rfl (fun wq hS => by have hq := (F88.out.below hS F88.out.lt).cell (i := 0) (v := .int .u32 t.seq) rfl; go_simp) (Below.refl _ _).drew ?_
            try simp only [Act.put, List.setIfInBounds_toArray, List.set_cons_succ, List.set_cons_zero]
            refine takeH 14 (some 68) (.bool true) rfl rfl (by kernel_rfl) (by kernel_rfl) (by kernel_rfl) (fun _ _ _ h => h) rfl (fun wq hS => by have hq := HQ.out; go_simp) (Below.refl _ _).drew ?_
            try simp only [Act.put, List.setIfInBounds_toArray, List.set_cons_succ, List.set_cons_zero]
            refine takeH 15 (some 69) (.bool true) rfl rfl (by kernel_rfl) (by kernel_rfl) (by kernel_rfl) (fun _ _ _ h => h) rfl (fun wq hS => by go_simp) (Below.refl _ _).drew ?_
            try simp only [Act.put, List.setIfInBounds_toArray, List.set_cons_succ, List.set_cons_zero]
            refine takeH 16 (some 70) (.pointer (some ⟨w.heap.size, 1, none⟩)) rfl rfl (by kernel_rfl) (by kernel_rfl) (by kernel_rfl) (fun _ _ _ h => h) rfl (fun wq hS => by go_simp) (Below.refl _ _).drew ?_
            try simp only [Act.put, List.setIfInBounds_toArray, List.set_cons_succ, List.set_cons_zero]
            refine takeH 17 (some 71) (.bool s.more) rfl rfl (by kernel_rfl) (by kernel_rfl) (by kernel_rfl) (fun _ _ _ h => h) rfl (fun wq hS => by have hq := (F87.out.below hS F87.out.lt).cell (i := 1) (v := .bool s.more) rfl; go_simp) (Below.refl _ _).drew ?_
            try simp only [Act.put, List.setIfInBounds_toArray, List.set_cons_succ, List.set_cons_zero]
            refine takeH 18 (some 72) (.pointer (some ⟨g12, 1, none⟩)) rfl rfl (by kernel_rfl) (by kernel_rfl) (by kernel_rfl) (fun _ _ _ h => h) rfl (fun wq hS => by go_simp) (Below.refl _ _).drew ?_
            try simp only [Act.put, List.setIfInBounds_toArray, List.set_cons_succ, List.set_cons_zero]
            refine takeH 19 (some 73) (.bool t.more) rfl rfl (by kernel_rfl) (by kernel_rfl) (by kernel_rfl) (fun _ _ _ h => h) rfl (fun wq hS => by have hq := (F88.out.below hS F88.out.lt).cell (i := 1) (v := .bool t.more) rfl; go_simp) (Below.refl _ _).drew ?_
            try simp only [Act.put, List.setIfInBounds_toArray, List.set_cons_succ, List.set_cons_zero]
            refine takeH 20 (some 74) (.bool true) rfl rfl (by kernel_rfl) (by kernel_rfl) (by kernel_rfl) (fun _ _ _ h => h) rfl (fun wq hS => by have hq := HMO.out; go_simp) (Below.refl _ _).drew ?_
            try simp only [Act.put, List.setIfInBounds_toArray, List.set_cons_succ, List.set_cons_zero]
            refine takeH 21 (some 75) (.bool true) rfl rfl (by kernel_rfl) (by kernel_rfl) (by kernel_rfl) (fun _ _ _ h => h) rfl (fun wq hS => by go_simp) (Below.refl _ _).drew ?_
            try simp only [Act.put, List.setIfInBounds_toArray, List.set_cons_succ, List.set_cons_zero]
            refine takeH 22 (some 76) (.bool true) rfl rfl (by kernel_rfl) (by kernel_rfl) (by kernel_rfl) (fun _ _ _ h => h) rfl (fun wq hS => by go_simp) (Below.refl _ _).drew ?_
            try simp only [Act.put, List.setIfInBounds_toArray, List.set_cons_succ, List.set_cons_zero]
            refine takeH 23 (some 77) (.pointer (some ⟨w.heap.size, 2, none⟩)) rfl rfl (by kernel_rfl) (by kernel_rfl) (by kernel_rfl) (fun _ _ _ h => h) rfl (fun wq hS => by go_simp) (Below.refl _ _).drew ?_
            try simp only [Act.put, List.setIfInBounds_toArray, List.set_cons_succ, List.set_cons_zero]
            refine takeH 24 (some 78) ((.slice ss s.marks.length cs)) rfl rfl (by kernel_rfl) (by kernel_rfl) (by kernel_rfl) (fun _ _ _ h => h) rfl (fun wq hS => by have hq := (F87.out.below hS F87.out.lt).cell (i := 2) (v := (.slice ss s.marks.length cs)) rfl; go_simp) (Below.refl _ _).drew ?_
            try simp only [Act.put, List.setIfInBounds_toArray, List.set_cons_succ, List.set_cons_zero]
            refine takeH 25 (some 79) (.pointer (some ⟨g12, 2, none⟩)) rfl rfl (by kernel_rfl) (by kernel_rfl) (by kernel_rfl) (fun _ _ _ h => h) rfl (fun wq hS => by go_simp) (Below.refl _ _).drew ?_
            try simp only [Act.put, List.setIfInBounds_toArray, List.set_cons_succ, List.set_cons_zero]
            refine takeH 26 (some 80) ((.slice tt t.marks.length ct)) rfl rfl (by kernel_rfl) (by kernel_rfl) (by kernel_rfl) (fun _ _ _ h => h) rfl (fun wq hS => by have hq := (F88.out.below hS F88.out.lt).cell (i := 2) (v := (.slice tt t.marks.length ct)) rfl; go_simp) (Below.refl _ _).drew ?_
            try simp only [Act.put, List.setIfInBounds_toArray, List.set_cons_succ, List.set_cons_zero]
            refine oneH 27 (by kernel_rfl) rfl rfl fun K hK => ?_
            go_simp
            refine (keep_is HMK.out _ _ HLs.out HLt.out _ (F85.out.below (Below.refl _ _).drew) (F86.out.below (Below.refl _ _).drew)).mono ?_
            rintro e w94 ⟨rfl, hb⟩
            have HS95 := Lib.hid (stay (Below.refl _ _).drew hb)
            clear hb
            refine hK _ _ HS95.out ?_
            clear hK K
            try simp only [Act.put, List.setIfInBounds_toArray, List.set_cons_succ, List.set_cons_zero]
            refine takeH 28 (some 82) (.bool true) rfl rfl (by kernel_rfl) (by kernel_rfl) (by kernel_rfl) (fun _ _ _ h => h) rfl (fun wq hS => by go_simp) HS95.out ?_
            try simp only [Act.put, List.setIfInBounds_toArray, List.set_cons_succ, List.set_cons_zero]
            refine takeH 29 (some 83) (.bool false) rfl rfl (by kernel_rfl) (by kernel_rfl) (by kernel_rfl) (fun _ _ _ h => h) rfl (fun wq hS => by go_simp) HS95.out ?_
            try simp only [Act.put, List.setIfInBounds_toArray, List.set_cons_succ, List.set_cons_zero]
            refine takeH 30 (some 84) (.bool false) rfl rfl (by kernel_rfl) (by kernel_rfl) (by kernel_rfl) (fun _ _ _ h => h) rfl (fun wq hS => by go_simp) HS95.out ?_
            try simp only [Act.put, List.setIfInBounds_toArray, List.set_cons_succ, List.set_cons_zero]
            refine wpAnyH_done (by kernel_rfl) ?_ _
            go_wp2_with fail
            go_meet
            exact ⟨rfl, HS95.out⟩
          · have HMK := Lib.hid (decide_eq_false hk)
            have HEQ := Lib.hid (sec_ne HGs.out HWs.out HGt.out HWt.out (fun e => hk (by rw [e])))
            clear hk
            refine startH (fun wq => Below w82.heap.size w82 wq) (by kernel_rfl) ?_
            refine takeH 0 (some 54) (.int .i64 0) rfl rfl (by kernel_rfl) (by kernel_rfl) (by kernel_rfl) (fun _ _ _ h => h) rfl (fun wq hS => by go_simp) (Below.refl _ _).drew ?_
            try simp only [Act.put, List.setIfInBounds_toArray, List.set_cons_succ, List.set_cons_zero]
            refine takeH 1 (some 55) (.bool true) rfl rfl (by kernel_rfl) (by kernel_rfl) (by kernel_rfl) (fun _ _ _ h => h) rfl (fun wq hS => by go_simp) (Below.refl _ _).drew ?_
            try simp only [Act.put, List.setIfInBounds_toArray, List.set_cons_succ, List.set_cons_zero]
            refine takeH 2 (some 56) (.bool true) rfl rfl (by kernel_rfl) (by kernel_rfl) (by kernel_rfl) (fun _ _ _ h => h) rfl (fun wq hS => by go_simp) (Below.refl _ _).drew ?_
            try simp only [Act.put, List.setIfInBounds_toArray, List.set_cons_succ, List.set_cons_zero]
            refine takeH 3 (some 57) (.int .i64 t.err) rfl rfl (by kernel_rfl) (by kernel_rfl) (by kernel_rfl) (fun _ _ _ h => h) rfl (fun wq hS => by go_simp) (Below.refl _ _).drew ?_
            try simp only [Act.put, List.setIfInBounds_toArray, List.set_cons_succ, List.set_cons_zero]
            refine takeH 4 (some 58) (.bool true) rfl rfl (by kernel_rfl) (by kernel_rfl) (by kernel_rfl) (fun _ _ _ h => h) rfl (fun wq hS => by have hq := HET.out; go_simp) (Below.refl _ _).drew ?_
            try simp only [Act.put, List.setIfInBounds_toArray, List.set_cons_succ, List.set_cons_zero]
            refine takeH 5 (some 59) (.bool true) rfl rfl (by kernel_rfl) (by kernel_rfl) (by kernel_rfl) (fun _ _ _ h => h) rfl (fun wq hS => by go_simp) (Below.refl _ _).drew ?_
            try simp only [Act.put, List.setIfInBounds_toArray, List.set_cons_succ, List.set_cons_zero]
            refine takeH 6 (some 60) (.bool true) rfl rfl (by kernel_rfl) (by kernel_rfl) (by kernel_rfl) (fun _ _ _ h => h) rfl (fun wq hS => by go_simp) (Below.refl _ _).drew ?_
            try simp only [Act.put, List.setIfInBounds_toArray, List.set_cons_succ, List.set_cons_zero]
            refine takeH 7 (some 61) (.agg (u8s s.sec).toArray) rfl rfl (by kernel_rfl) (by kernel_rfl) (by kernel_rfl) (fun _ _ _ h => h) rfl (fun wq hS => by exact exec_load_at wq _ _ 27 _ rfl g37 0 rfl (u8s s.sec).toArray _ Try.underlying27 rfl (by rw [u8s_size, HSs.out]; exact info27) (Blk.all (F90.out.below hS F90.out.lt) rfl)) (Below.refl _ _).drew ?_
            try simp only [Act.put, List.setIfInBounds_toArray, List.set_cons_succ, List.set_cons_zero]
            refine takeH 8 (some 62) (.agg (u8s t.sec).toArray) rfl rfl (by kernel_rfl) (by kernel_rfl) (by kernel_rfl) (fun _ _ _ h => h) rfl (fun wq hS => by exact exec_load_at wq _ _ 27 _ rfl g56 0 rfl (u8s t.sec).toArray _ Try.underlying27 rfl (by rw [u8s_size, HSt.out]; exact info27) (Blk.all (F91.out.below hS F91.out.lt) rfl)) (Below.refl _ _).drew ?_
            try simp only [Act.put, List.setIfInBounds_toArray, List.set_cons_succ, List.set_cons_zero]
            refine takeH 9 (some 63) (.bool false) rfl rfl (by kernel_rfl) (by kernel_rfl) (by kernel_rfl) (fun _ _ _ h => h) rfl (fun wq hS => by exact eql27v HEQ.out HSs.out HSt.out _ _ _ rfl rfl rfl) (Below.refl _ _).drew ?_
            try simp only [Act.put, List.setIfInBounds_toArray, List.set_cons_succ, List.set_cons_zero]
            refine takeH 10 (some 64) (.pointer (some ⟨w.heap.size, 0, none⟩)) rfl rfl (by kernel_rfl) (by kernel_rfl) (by kernel_rfl) (fun _ _ _ h => h) rfl (fun wq hS => by go_simp) (Below.refl _ _).drew ?_
            try simp only [Act.put, List.setIfInBounds_toArray, List.set_cons_succ, List.set_cons_zero]
            refine takeH 11 (some 65) (.int .u32 s.seq) rfl rfl (by kernel_rfl) (by kernel_rfl) (by kernel_rfl) (fun _ _ _ h => h) rfl (fun wq hS => by have hq := (F87.out.below hS F87.out.lt).cell (i := 0) (v := .int .u32 s.seq) rfl; go_simp) (Below.refl _ _).drew ?_
            try simp only [Act.put, List.setIfInBounds_toArray, List.set_cons_succ, List.set_cons_zero]
            refine takeH 12 (some 66) (.pointer (some ⟨g12, 0, none⟩)) rfl rfl (by kernel_rfl) (by kernel_rfl) (by kernel_rfl) (fun _ _ _ h => h) rfl (fun wq hS => by go_simp) (Below.refl _ _).drew ?_
            try simp only [Act.put, List.setIfInBounds_toArray, List.set_cons_succ, List.set_cons_zero]
            refine takeH 13 (some 67) (.int .u32 t.seq) rfl rfl (by kernel_rfl) (by kernel_rfl) (by kernel_rfl) (fun _ _ _ h => h) rfl (fun wq hS => by have hq := (F88.out.below hS F88.out.lt).cell (i := 0) (v := .int .u32 t.seq) rfl; go_simp) (Below.refl _ _).drew ?_
            try simp only [Act.put, List.setIfInBounds_toArray, List.set_cons_succ, List.set_cons_zero]
            refine takeH 14 (some 68) (.bool true) rfl rfl (by kernel_rfl) (by kernel_rfl) (by kernel_rfl) (fun _ _ _ h => h) rfl (fun wq hS => by have hq := HQ.out; go_simp) (Below.refl _ _).drew ?_
            try simp only [Act.put, List.setIfInBounds_toArray, List.set_cons_succ, List.set_cons_zero]
            refine takeH 15 (some 69) (.bool true) rfl rfl (by kernel_rfl) (by kernel_rfl) (by kernel_rfl) (fun _ _ _ h => h) rfl (fun wq hS => by go_simp) (Below.refl _ _).drew ?_
            try simp only [Act.put, List.setIfInBounds_toArray, List.set_cons_succ, List.set_cons_zero]
            refine takeH 16 (some 70) (.pointer (some ⟨w.heap.size, 1, none⟩)) rfl rfl (by kernel_rfl) (by kernel_rfl) (by kernel_rfl) (fun _ _ _ h => h) rfl (fun wq hS => by go_simp) (Below.refl _ _).drew ?_
            try simp only [Act.put, List.setIfInBounds_toArray, List.set_cons_succ, List.set_cons_zero]
            refine takeH 17 (some 71) (.bool s.more) rfl rfl (by kernel_rfl) (by kernel_rfl) (by kernel_rfl) (fun _ _ _ h => h) rfl (fun wq hS => by have hq := (F87.out.below hS F87.out.lt).cell (i := 1) (v := .bool s.more) rfl; go_simp) (Below.refl _ _).drew ?_
            try simp only [Act.put, List.setIfInBounds_toArray, List.set_cons_succ, List.set_cons_zero]
            refine takeH 18 (some 72) (.pointer (some ⟨g12, 1, none⟩)) rfl rfl (by kernel_rfl) (by kernel_rfl) (by kernel_rfl) (fun _ _ _ h => h) rfl (fun wq hS => by go_simp) (Below.refl _ _).drew ?_
            try simp only [Act.put, List.setIfInBounds_toArray, List.set_cons_succ, List.set_cons_zero]
            refine takeH 19 (some 73) (.bool t.more) rfl rfl (by kernel_rfl) (by kernel_rfl) (by kernel_rfl) (fun _ _ _ h => h) rfl (fun wq hS => by have hq := (F88.out.below hS F88.out.lt).cell (i := 1) (v := .bool t.more) rfl; go_simp) (Below.refl _ _).drew ?_
            try simp only [Act.put, List.setIfInBounds_toArray, List.set_cons_succ, List.set_cons_zero]
            refine takeH 20 (some 74) (.bool true) rfl rfl (by kernel_rfl) (by kernel_rfl) (by kernel_rfl) (fun _ _ _ h => h) rfl (fun wq hS => by have hq := HMO.out; go_simp) (Below.refl _ _).drew ?_
            try simp only [Act.put, List.setIfInBounds_toArray, List.set_cons_succ, List.set_cons_zero]
            refine takeH 21 (some 75) (.bool true) rfl rfl (by kernel_rfl) (by kernel_rfl) (by kernel_rfl) (fun _ _ _ h => h) rfl (fun wq hS => by go_simp) (Below.refl _ _).drew ?_
            try simp only [Act.put, List.setIfInBounds_toArray, List.set_cons_succ, List.set_cons_zero]
            refine takeH 22 (some 76) (.bool true) rfl rfl (by kernel_rfl) (by kernel_rfl) (by kernel_rfl) (fun _ _ _ h => h) rfl (fun wq hS => by go_simp) (Below.refl _ _).drew ?_
            try simp only [Act.put, List.setIfInBounds_toArray, List.set_cons_succ, List.set_cons_zero]
            refine takeH 23 (some 77) (.pointer (some ⟨w.heap.size, 2, none⟩)) rfl rfl (by kernel_rfl) (by kernel_rfl) (by kernel_rfl) (fun _ _ _ h => h) rfl (fun wq hS => by go_simp) (Below.refl _ _).drew ?_
            try simp only [Act.put, List.setIfInBounds_toArray, List.set_cons_succ, List.set_cons_zero]
            refine takeH 24 (some 78) ((.slice ss s.marks.length cs)) rfl rfl (by kernel_rfl) (by kernel_rfl) (by kernel_rfl) (fun _ _ _ h => h) rfl (fun wq hS => by have hq := (F87.out.below hS F87.out.lt).cell (i := 2) (v := (.slice ss s.marks.length cs)) rfl; go_simp) (Below.refl _ _).drew ?_
            try simp only [Act.put, List.setIfInBounds_toArray, List.set_cons_succ, List.set_cons_zero]
            refine takeH 25 (some 79) (.pointer (some ⟨g12, 2, none⟩)) rfl rfl (by kernel_rfl) (by kernel_rfl) (by kernel_rfl) (fun _ _ _ h => h) rfl (fun wq hS => by go_simp) (Below.refl _ _).drew ?_
            try simp only [Act.put, List.setIfInBounds_toArray, List.set_cons_succ, List.set_cons_zero]
            refine takeH 26 (some 80) ((.slice tt t.marks.length ct)) rfl rfl (by kernel_rfl) (by kernel_rfl) (by kernel_rfl) (fun _ _ _ h => h) rfl (fun wq hS => by have hq := (F88.out.below hS F88.out.lt).cell (i := 2) (v := (.slice tt t.marks.length ct)) rfl; go_simp) (Below.refl _ _).drew ?_
            try simp only [Act.put, List.setIfInBounds_toArray, List.set_cons_succ, List.set_cons_zero]
            refine oneH 27 (by kernel_rfl) rfl rfl fun K hK => ?_
            go_simp
            refine (keep_is HMK.out _ _ HLs.out HLt.out _ (F85.out.below (Below.refl _ _).drew) (F86.out.below (Below.refl _ _).drew)).mono ?_
            rintro e w94 ⟨rfl, hb⟩
            have HS95 := Lib.hid (stay (Below.refl _ _).drew hb)
            clear hb
            refine hK _ _ HS95.out ?_
            clear hK K
            try simp only [Act.put, List.setIfInBounds_toArray, List.set_cons_succ, List.set_cons_zero]
            refine takeH 28 (some 82) (.bool false) rfl rfl (by kernel_rfl) (by kernel_rfl) (by kernel_rfl) (fun _ _ _ h => h) rfl (fun wq hS => by go_simp) HS95.out ?_
            try simp only [Act.put, List.setIfInBounds_toArray, List.set_cons_succ, List.set_cons_zero]
            refine takeH 29 (some 83) (.bool false) rfl rfl (by kernel_rfl) (by kernel_rfl) (by kernel_rfl) (fun _ _ _ h => h) rfl (fun wq hS => by go_simp) HS95.out ?_
            try simp only [Act.put, List.setIfInBounds_toArray, List.set_cons_succ, List.set_cons_zero]
            refine takeH 30 (some 84) (.bool false) rfl rfl (by kernel_rfl) (by kernel_rfl) (by kernel_rfl) (fun _ _ _ h => h) rfl (fun wq hS => by go_simp) HS95.out ?_
            try simp only [Act.put, List.setIfInBounds_toArray, List.set_cons_succ, List.set_cons_zero]
            refine wpAnyH_done (by kernel_rfl) ?_ _
            go_wp2_with fail
            go_meet
            exact ⟨rfl, HS95.out⟩
        · have HMO := Lib.hid hm
          have HEQ := Lib.hid (sec_ne HGs.out HWs.out HGt.out HWt.out (fun e => hm (by rw [e])))
          clear hm
          refine startH (fun wq => Below w82.heap.size w82 wq) (by kernel_rfl) ?_
          refine takeH 0 (some 54) (.int .i64 0) rfl rfl (by kernel_rfl) (by kernel_rfl) (by kernel_rfl) (fun _ _ _ h => h) rfl (fun wq hS => by go_simp) (Below.refl _ _).drew ?_
          try simp only [Act.put, List.setIfInBounds_toArray, List.set_cons_succ, List.set_cons_zero]
          refine takeH 1 (some 55) (.bool true) rfl rfl (by kernel_rfl) (by kernel_rfl) (by kernel_rfl) (fun _ _ _ h => h) rfl (fun wq hS => by go_simp) (Below.refl _ _).drew ?_
          try simp only [Act.put, List.setIfInBounds_toArray, List.set_cons_succ, List.set_cons_zero]
          refine takeH 2 (some 56) (.bool true) rfl rfl (by kernel_rfl) (by kernel_rfl) (by kernel_rfl) (fun _ _ _ h => h) rfl (fun wq hS => by go_simp) (Below.refl _ _).drew ?_
          try simp only [Act.put, List.setIfInBounds_toArray, List.set_cons_succ, List.set_cons_zero]
          refine takeH 3 (some 57) (.int .i64 t.err) rfl rfl (by kernel_rfl) (by kernel_rfl) (by kernel_rfl) (fun _ _ _ h => h) rfl (fun wq hS => by go_simp) (Below.refl _ _).drew ?_
          try simp only [Act.put, List.setIfInBounds_toArray, List.set_cons_succ, List.set_cons_zero]
          refine takeH 4 (some 58) (.bool true) rfl rfl (by kernel_rfl) (by kernel_rfl) (by kernel_rfl) (fun _ _ _ h => h) rfl (fun wq hS => by have hq := HET.out; go_simp) (Below.refl _ _).drew ?_
          try simp only [Act.put, List.setIfInBounds_toArray, List.set_cons_succ, List.set_cons_zero]
          refine takeH 5 (some 59) (.bool true) rfl rfl (by kernel_rfl) (by kernel_rfl) (by kernel_rfl) (fun _ _ _ h => h) rfl (fun wq hS => by go_simp) (Below.refl _ _).drew ?_
          try simp only [Act.put, List.setIfInBounds_toArray, List.set_cons_succ, List.set_cons_zero]
          refine takeH 6 (some 60) (.bool true) rfl rfl (by kernel_rfl) (by kernel_rfl) (by kernel_rfl) (fun _ _ _ h => h) rfl (fun wq hS => by go_simp) (Below.refl _ _).drew ?_
          try simp only [Act.put, List.setIfInBounds_toArray, List.set_cons_succ, List.set_cons_zero]
          refine takeH 7 (some 61) (.agg (u8s s.sec).toArray) rfl rfl (by kernel_rfl) (by kernel_rfl) (by kernel_rfl) (fun _ _ _ h => h) rfl (fun wq hS => by exact exec_load_at wq _ _ 27 _ rfl g37 0 rfl (u8s s.sec).toArray _ Try.underlying27 rfl (by rw [u8s_size, HSs.out]; exact info27) (Blk.all (F90.out.below hS F90.out.lt) rfl)) (Below.refl _ _).drew ?_
          try simp only [Act.put, List.setIfInBounds_toArray, List.set_cons_succ, List.set_cons_zero]
          refine takeH 8 (some 62) (.agg (u8s t.sec).toArray) rfl rfl (by kernel_rfl) (by kernel_rfl) (by kernel_rfl) (fun _ _ _ h => h) rfl (fun wq hS => by exact exec_load_at wq _ _ 27 _ rfl g56 0 rfl (u8s t.sec).toArray _ Try.underlying27 rfl (by rw [u8s_size, HSt.out]; exact info27) (Blk.all (F91.out.below hS F91.out.lt) rfl)) (Below.refl _ _).drew ?_
          try simp only [Act.put, List.setIfInBounds_toArray, List.set_cons_succ, List.set_cons_zero]
          refine takeH 9 (some 63) (.bool false) rfl rfl (by kernel_rfl) (by kernel_rfl) (by kernel_rfl) (fun _ _ _ h => h) rfl (fun wq hS => by exact eql27v HEQ.out HSs.out HSt.out _ _ _ rfl rfl rfl) (Below.refl _ _).drew ?_
          try simp only [Act.put, List.setIfInBounds_toArray, List.set_cons_succ, List.set_cons_zero]
          refine takeH 10 (some 64) (.pointer (some ⟨w.heap.size, 0, none⟩)) rfl rfl (by kernel_rfl) (by kernel_rfl) (by kernel_rfl) (fun _ _ _ h => h) rfl (fun wq hS => by go_simp) (Below.refl _ _).drew ?_
          try simp only [Act.put, List.setIfInBounds_toArray, List.set_cons_succ, List.set_cons_zero]
          refine takeH 11 (some 65) (.int .u32 s.seq) rfl rfl (by kernel_rfl) (by kernel_rfl) (by kernel_rfl) (fun _ _ _ h => h) rfl (fun wq hS => by have hq := (F87.out.below hS F87.out.lt).cell (i := 0) (v := .int .u32 s.seq) rfl; go_simp) (Below.refl _ _).drew ?_
          try simp only [Act.put, List.setIfInBounds_toArray, List.set_cons_succ, List.set_cons_zero]
          refine takeH 12 (some 66) (.pointer (some ⟨g12, 0, none⟩)) rfl rfl (by kernel_rfl) (by kernel_rfl) (by kernel_rfl) (fun _ _ _ h => h) rfl (fun wq hS => by go_simp) (Below.refl _ _).drew ?_
          try simp only [Act.put, List.setIfInBounds_toArray, List.set_cons_succ, List.set_cons_zero]
          refine takeH 13 (some 67) (.int .u32 t.seq) rfl rfl (by kernel_rfl) (by kernel_rfl) (by kernel_rfl) (fun _ _ _ h => h) rfl (fun wq hS => by have hq := (F88.out.below hS F88.out.lt).cell (i := 0) (v := .int .u32 t.seq) rfl; go_simp) (Below.refl _ _).drew ?_
          try simp only [Act.put, List.setIfInBounds_toArray, List.set_cons_succ, List.set_cons_zero]
          refine takeH 14 (some 68) (.bool true) rfl rfl (by kernel_rfl) (by kernel_rfl) (by kernel_rfl) (fun _ _ _ h => h) rfl (fun wq hS => by have hq := HQ.out; go_simp) (Below.refl _ _).drew ?_
          try simp only [Act.put, List.setIfInBounds_toArray, List.set_cons_succ, List.set_cons_zero]
          refine takeH 15 (some 69) (.bool true) rfl rfl (by kernel_rfl) (by kernel_rfl) (by kernel_rfl) (fun _ _ _ h => h) rfl (fun wq hS => by go_simp) (Below.refl _ _).drew ?_
          try simp only [Act.put, List.setIfInBounds_toArray, List.set_cons_succ, List.set_cons_zero]
          refine takeH 16 (some 70) (.pointer (some ⟨w.heap.size, 1, none⟩)) rfl rfl (by kernel_rfl) (by kernel_rfl) (by kernel_rfl) (fun _ _ _ h => h) rfl (fun wq hS => by go_simp) (Below.refl _ _).drew ?_
          try simp only [Act.put, List.setIfInBounds_toArray, List.set_cons_succ, List.set_cons_zero]
          refine takeH 17 (some 71) (.bool s.more) rfl rfl (by kernel_rfl) (by kernel_rfl) (by kernel_rfl) (fun _ _ _ h => h) rfl (fun wq hS => by have hq := (F87.out.below hS F87.out.lt).cell (i := 1) (v := .bool s.more) rfl; go_simp) (Below.refl _ _).drew ?_
          try simp only [Act.put, List.setIfInBounds_toArray, List.set_cons_succ, List.set_cons_zero]
          refine takeH 18 (some 72) (.pointer (some ⟨g12, 1, none⟩)) rfl rfl (by kernel_rfl) (by kernel_rfl) (by kernel_rfl) (fun _ _ _ h => h) rfl (fun wq hS => by go_simp) (Below.refl _ _).drew ?_
          try simp only [Act.put, List.setIfInBounds_toArray, List.set_cons_succ, List.set_cons_zero]
          refine takeH 19 (some 73) (.bool t.more) rfl rfl (by kernel_rfl) (by kernel_rfl) (by kernel_rfl) (fun _ _ _ h => h) rfl (fun wq hS => by have hq := (F88.out.below hS F88.out.lt).cell (i := 1) (v := .bool t.more) rfl; go_simp) (Below.refl _ _).drew ?_
          try simp only [Act.put, List.setIfInBounds_toArray, List.set_cons_succ, List.set_cons_zero]
          refine takeH 20 (some 74) (.bool false) rfl rfl (by kernel_rfl) (by kernel_rfl) (by kernel_rfl) (fun _ _ _ h => h) rfl (fun wq hS => by have hq := HMO.out; go_simp) (Below.refl _ _).drew ?_
          try simp only [Act.put, List.setIfInBounds_toArray, List.set_cons_succ, List.set_cons_zero]
          refine takeH 21 (some 75) (.bool false) rfl rfl (by kernel_rfl) (by kernel_rfl) (by kernel_rfl) (fun _ _ _ h => h) rfl (fun wq hS => by go_simp) (Below.refl _ _).drew ?_
          try simp only [Act.put, List.setIfInBounds_toArray, List.set_cons_succ, List.set_cons_zero]
          refine takeH 22 (some 76) (.bool false) rfl rfl (by kernel_rfl) (by kernel_rfl) (by kernel_rfl) (fun _ _ _ h => h) rfl (fun wq hS => by go_simp) (Below.refl _ _).drew ?_
          try simp only [Act.put, List.setIfInBounds_toArray, List.set_cons_succ, List.set_cons_zero]
          refine passH 23 (some 77) rfl rfl (by kernel_rfl) (by kernel_rfl) (by kernel_rfl) (fun _ _ _ h => h) rfl (Below.refl _ _).drew ?_
          try simp only [Act.put, List.setIfInBounds_toArray, List.set_cons_succ, List.set_cons_zero]
          refine passH 24 (some 78) rfl rfl (by kernel_rfl) (by kernel_rfl) (by kernel_rfl) (fun _ _ _ h => h) rfl (Below.refl _ _).drew ?_
          try simp only [Act.put, List.setIfInBounds_toArray, List.set_cons_succ, List.set_cons_zero]
          refine passH 25 (some 79) rfl rfl (by kernel_rfl) (by kernel_rfl) (by kernel_rfl) (fun _ _ _ h => h) rfl (Below.refl _ _).drew ?_
          try simp only [Act.put, List.setIfInBounds_toArray, List.set_cons_succ, List.set_cons_zero]
          refine passH 26 (some 80) rfl rfl (by kernel_rfl) (by kernel_rfl) (by kernel_rfl) (fun _ _ _ h => h) rfl (Below.refl _ _).drew ?_
          try simp only [Act.put, List.setIfInBounds_toArray, List.set_cons_succ, List.set_cons_zero]
          refine passH 27 (some 81) rfl rfl (by kernel_rfl) (by kernel_rfl) (by kernel_rfl) (fun _ _ _ h => h) rfl (Below.refl _ _).drew ?_
          try simp only [Act.put, List.setIfInBounds_toArray, List.set_cons_succ, List.set_cons_zero]
          refine takeH 28 (some 82) (.bool false) rfl rfl (by kernel_rfl) (by kernel_rfl) (by kernel_rfl) (fun _ _ _ h => h) rfl (fun wq hS => by go_simp) (Below.refl _ _).drew ?_
          try simp only [Act.put, List.setIfInBounds_toArray, List.set_cons_succ, List.set_cons_zero]
          refine takeH 29 (some 83) (.bool false) rfl rfl (by kernel_rfl) (by kernel_rfl) (by kernel_rfl) (fun _ _ _ h => h) rfl (fun wq hS => by go_simp) (Below.refl _ _).drew ?_
          try simp only [Act.put, List.setIfInBounds_toArray, List.set_cons_succ, List.set_cons_zero]
          refine takeH 30 (some 84) (.bool false) rfl rfl (by kernel_rfl) (by kernel_rfl) (by kernel_rfl) (fun _ _ _ h => h) rfl (fun wq hS => by go_simp) (Below.refl _ _).drew ?_
          try simp only [Act.put, List.setIfInBounds_toArray, List.set_cons_succ, List.set_cons_zero]
          refine wpAnyH_done (by kernel_rfl) ?_ _
          go_wp2_with fail
          go_meet
          exact ⟨rfl, (Below.refl _ _).drew⟩
      · have HQ := Lib.hid hq
        have HEQ := Lib.hid (sec_ne HGs.out HWs.out HGt.out HWt.out (fun e => hq (by rw [e])))
        clear hq
        refine startH (fun wq => Below w82.heap.size w82 wq) (by kernel_rfl) ?_
        refine takeH 0 (some 54) (.int .i64 0) rfl rfl (by kernel_rfl) (by kernel_rfl) (by kernel_rfl) (fun _ _ _ h => h) rfl (fun wq hS => by go_simp) (Below.refl _ _).drew ?_
        try simp only [Act.put, List.setIfInBounds_toArray, List.set_cons_succ, List.set_cons_zero]
        refine takeH 1 (some 55) (.bool true) rfl rfl (by kernel_rfl) (by kernel_rfl) (by kernel_rfl) (fun _ _ _ h => h) rfl (fun wq hS => by go_simp) (Below.refl _ _).drew ?_
        try simp only [Act.put, List.setIfInBounds_toArray, List.set_cons_succ, List.set_cons_zero]
        refine takeH 2 (some 56) (.bool true) rfl rfl (by kernel_rfl) (by kernel_rfl) (by kernel_rfl) (fun _ _ _ h => h) rfl (fun wq hS => by go_simp) (Below.refl _ _).drew ?_
        try simp only [Act.put, List.setIfInBounds_toArray, List.set_cons_succ, List.set_cons_zero]
        refine takeH 3 (some 57) (.int .i64 t.err) rfl rfl (by kernel_rfl) (by kernel_rfl) (by kernel_rfl) (fun _ _ _ h => h) rfl (fun wq hS => by go_simp) (Below.refl _ _).drew ?_
        try simp only [Act.put, List.setIfInBounds_toArray, List.set_cons_succ, List.set_cons_zero]
        refine takeH 4 (some 58) (.bool true) rfl rfl (by kernel_rfl) (by kernel_rfl) (by kernel_rfl) (fun _ _ _ h => h) rfl (fun wq hS => by have hq := HET.out; go_simp) (Below.refl _ _).drew ?_
        try simp only [Act.put, List.setIfInBounds_toArray, List.set_cons_succ, List.set_cons_zero]
        refine takeH 5 (some 59) (.bool true) rfl rfl (by kernel_rfl) (by kernel_rfl) (by kernel_rfl) (fun _ _ _ h => h) rfl (fun wq hS => by go_simp) (Below.refl _ _).drew ?_
        try simp only [Act.put, List.setIfInBounds_toArray, List.set_cons_succ, List.set_cons_zero]
        refine takeH 6 (some 60) (.bool true) rfl rfl (by kernel_rfl) (by kernel_rfl) (by kernel_rfl) (fun _ _ _ h => h) rfl (fun wq hS => by go_simp) (Below.refl _ _).drew ?_
        try simp only [Act.put, List.setIfInBounds_toArray, List.set_cons_succ, List.set_cons_zero]
        refine takeH 7 (some 61) (.agg (u8s s.sec).toArray) rfl rfl (by kernel_rfl) (by kernel_rfl) (by kernel_rfl) (fun _ _ _ h => h) rfl (fun wq hS => by exact exec_load_at wq _ _ 27 _ rfl g37 0 rfl (u8s s.sec).toArray _ Try.underlying27 rfl (by rw [u8s_size, HSs.out]; exact info27) (Blk.all (F90.out.below hS F90.out.lt) rfl)) (Below.refl _ _).drew ?_
        try simp only [Act.put, List.setIfInBounds_toArray, List.set_cons_succ, List.set_cons_zero]
        refine takeH 8 (some 62) (.agg (u8s t.sec).toArray) rfl rfl (by kernel_rfl) (by kernel_rfl) (by kernel_rfl) (fun _ _ _ h => h) rfl (fun wq hS => by exact exec_load_at wq _ _ 27 _ rfl g56 0 rfl (u8s t.sec).toArray _ Try.underlying27 rfl (by rw [u8s_size, HSt.out]; exact info27) (Blk.all (F91.out.below hS F91.out.lt) rfl)) (Below.refl _ _).drew ?_
        try simp only [Act.put, List.setIfInBounds_toArray, List.set_cons_succ, List.set_cons_zero]
        refine takeH 9 (some 63) (.bool false) rfl rfl (by kernel_rfl) (by kernel_rfl) (by kernel_rfl) (fun _ _ _ h => h) rfl (fun wq hS => by exact eql27v HEQ.out HSs.out HSt.out _ _ _ rfl rfl rfl) (Below.refl _ _).drew ?_
        try simp only [Act.put, List.setIfInBounds_toArray, List.set_cons_succ, List.set_cons_zero]
        refine takeH 10 (some 64) (.pointer (some ⟨w.heap.size, 0, none⟩)) rfl rfl (by kernel_rfl) (by kernel_rfl) (by kernel_rfl) (fun _ _ _ h => h) rfl (fun wq hS => by go_simp) (Below.refl _ _).drew ?_
        try simp only [Act.put, List.setIfInBounds_toArray, List.set_cons_succ, List.set_cons_zero]
        refine takeH 11 (some 65) (.int .u32 s.seq) rfl rfl (by kernel_rfl) (by kernel_rfl) (by kernel_rfl) (fun _ _ _ h => h) rfl (fun wq hS => by have hq := (F87.out.below hS F87.out.lt).cell (i := 0) (v := .int .u32 s.seq) rfl; go_simp) (Below.refl _ _).drew ?_
        try simp only [Act.put, List.setIfInBounds_toArray, List.set_cons_succ, List.set_cons_zero]
        refine takeH 12 (some 66) (.pointer (some ⟨g12, 0, none⟩)) rfl rfl (by kernel_rfl) (by kernel_rfl) (by kernel_rfl) (fun _ _ _ h => h) rfl (fun wq hS => by go_simp) (Below.refl _ _).drew ?_
        try simp only [Act.put, List.setIfInBounds_toArray, List.set_cons_succ, List.set_cons_zero]
        refine takeH 13 (some 67) (.int .u32 t.seq) rfl rfl (by kernel_rfl) (by kernel_rfl) (by kernel_rfl) (fun _ _ _ h => h) rfl (fun wq hS => by have hq := (F88.out.below hS F88.out.lt).cell (i := 0) (v := .int .u32 t.seq) rfl; go_simp) (Below.refl _ _).drew ?_
        try simp only [Act.put, List.setIfInBounds_toArray, List.set_cons_succ, List.set_cons_zero]
        refine takeH 14 (some 68) (.bool false) rfl rfl (by kernel_rfl) (by kernel_rfl) (by kernel_rfl) (fun _ _ _ h => h) rfl (fun wq hS => by have hq := HQ.out; go_simp) (Below.refl _ _).drew ?_
        try simp only [Act.put, List.setIfInBounds_toArray, List.set_cons_succ, List.set_cons_zero]
        refine takeH 15 (some 69) (.bool false) rfl rfl (by kernel_rfl) (by kernel_rfl) (by kernel_rfl) (fun _ _ _ h => h) rfl (fun wq hS => by go_simp) (Below.refl _ _).drew ?_
        try simp only [Act.put, List.setIfInBounds_toArray, List.set_cons_succ, List.set_cons_zero]
        refine passH 16 (some 70) rfl rfl (by kernel_rfl) (by kernel_rfl) (by kernel_rfl) (fun _ _ _ h => h) rfl (Below.refl _ _).drew ?_
        try simp only [Act.put, List.setIfInBounds_toArray, List.set_cons_succ, List.set_cons_zero]
        refine passH 17 (some 71) rfl rfl (by kernel_rfl) (by kernel_rfl) (by kernel_rfl) (fun _ _ _ h => h) rfl (Below.refl _ _).drew ?_
        try simp only [Act.put, List.setIfInBounds_toArray, List.set_cons_succ, List.set_cons_zero]
        refine passH 18 (some 72) rfl rfl (by kernel_rfl) (by kernel_rfl) (by kernel_rfl) (fun _ _ _ h => h) rfl (Below.refl _ _).drew ?_
        try simp only [Act.put, List.setIfInBounds_toArray, List.set_cons_succ, List.set_cons_zero]
        refine passH 19 (some 73) rfl rfl (by kernel_rfl) (by kernel_rfl) (by kernel_rfl) (fun _ _ _ h => h) rfl (Below.refl _ _).drew ?_
        try simp only [Act.put, List.setIfInBounds_toArray, List.set_cons_succ, List.set_cons_zero]
        refine passH 20 (some 74) rfl rfl (by kernel_rfl) (by kernel_rfl) (by kernel_rfl) (fun _ _ _ h => h) rfl (Below.refl _ _).drew ?_
        try simp only [Act.put, List.setIfInBounds_toArray, List.set_cons_succ, List.set_cons_zero]
        refine takeH 21 (some 75) (.bool false) rfl rfl (by kernel_rfl) (by kernel_rfl) (by kernel_rfl) (fun _ _ _ h => h) rfl (fun wq hS => by go_simp) (Below.refl _ _).drew ?_
        try simp only [Act.put, List.setIfInBounds_toArray, List.set_cons_succ, List.set_cons_zero]
        refine takeH 22 (some 76) (.bool false) rfl rfl (by kernel_rfl) (by kernel_rfl) (by kernel_rfl) (fun _ _ _ h => h) rfl (fun wq hS => by go_simp) (Below.refl _ _).drew ?_
        try simp only [Act.put, List.setIfInBounds_toArray, List.set_cons_succ, List.set_cons_zero]
        refine passH 23 (some 77) rfl rfl (by kernel_rfl) (by kernel_rfl) (by kernel_rfl) (fun _ _ _ h => h) rfl (Below.refl _ _).drew ?_
        try simp only [Act.put, List.setIfInBounds_toArray, List.set_cons_succ, List.set_cons_zero]
        refine passH 24 (some 78) rfl rfl (by kernel_rfl) (by kernel_rfl) (by kernel_rfl) (fun _ _ _ h => h) rfl (Below.refl _ _).drew ?_
        try simp only [Act.put, List.setIfInBounds_toArray, List.set_cons_succ, List.set_cons_zero]
        refine passH 25 (some 79) rfl rfl (by kernel_rfl) (by kernel_rfl) (by kernel_rfl) (fun _ _ _ h => h) rfl (Below.refl _ _).drew ?_
        try simp only [Act.put, List.setIfInBounds_toArray, List.set_cons_succ, List.set_cons_zero]
        refine passH 26 (some 80) rfl rfl (by kernel_rfl) (by kernel_rfl) (by kernel_rfl) (fun _ _ _ h => h) rfl (Below.refl _ _).drew ?_
        try simp only [Act.put, List.setIfInBounds_toArray, List.set_cons_succ, List.set_cons_zero]
        refine passH 27 (some 81) rfl rfl (by kernel_rfl) (by kernel_rfl) (by kernel_rfl) (fun _ _ _ h => h) rfl (Below.refl _ _).drew ?_
        try simp only [Act.put, List.setIfInBounds_toArray, List.set_cons_succ, List.set_cons_zero]
        refine takeH 28 (some 82) (.bool false) rfl rfl (by kernel_rfl) (by kernel_rfl) (by kernel_rfl) (fun _ _ _ h => h) rfl (fun wq hS => by go_simp) (Below.refl _ _).drew ?_
        try simp only [Act.put, List.setIfInBounds_toArray, List.set_cons_succ, List.set_cons_zero]
        refine takeH 29 (some 83) (.bool false) rfl rfl (by kernel_rfl) (by kernel_rfl) (by kernel_rfl) (fun _ _ _ h => h) rfl (fun wq hS => by go_simp) (Below.refl _ _).drew ?_
        try simp only [Act.put, List.setIfInBounds_toArray, List.set_cons_succ, List.set_cons_zero]
        refine takeH 30 (some 84) (.bool false) rfl rfl (by kernel_rfl) (by kernel_rfl) (by kernel_rfl) (fun _ _ _ h => h) rfl (fun wq hS => by go_simp) (Below.refl _ _).drew ?_
        try simp only [Act.put, List.setIfInBounds_toArray, List.set_cons_succ, List.set_cons_zero]
        refine wpAnyH_done (by kernel_rfl) ?_ _
        go_wp2_with fail
        go_meet
        exact ⟨rfl, (Below.refl _ _).drew⟩
  case rest =>
    obtain ⟨rfl, hb⟩ := hcut
    have F134 := Lib.hid (F84.out.trans (hb.mono F84.out.size))
    have F135 := Lib.hid (F85.out.below hb)
    have F136 := Lib.hid (F86.out.below hb)
    have F137 := Lib.hid (F87.out.below hb F87.out.lt)
    have F138 := Lib.hid (F88.out.below hb F88.out.lt)
    have F139 := Lib.hid (F89.out.below hb F89.out.lt)
    have F140 := Lib.hid (F90.out.below hb F90.out.lt)
    have F141 := Lib.hid (F91.out.below hb F91.out.lt)
    have F142 := Lib.hid (F92.out.below hb)
    have F143 := Lib.hid (F93.out.below hb F93.out.lt)
    clear F84 F85 F86 F87 F88 F89 F90 F91 F92 F93
    clear hb
    cases hsum : isSum x
    · have HSUM := Lib.hid hsum
      clear hsum
      go_upto_region 11 with fail
      refine wp_region_lit ?_
      refine load27 (cs := (u8s x).toArray) (Blk.all F139.out rfl) (by rw [u8s_size, HXL.out]) rfl rfl ?_
      try simp only [Act.put, List.setIfInBounds_toArray, List.set_cons_succ, List.set_cons_zero]
      refine wpList_op rfl fun K hK => ?_
      go_simp
      refine (dec_no HX.out HSUM.out _).mono ?_
      rintro e w144 ⟨ax, cx, rfl, hby, hb⟩
      have F145 := Lib.hid (F134.out.trans (hb.mono F134.out.size))
      have F146 := Lib.hid (F135.out.below hb)
      have F147 := Lib.hid (F136.out.below hb)
      have F148 := Lib.hid (F137.out.below hb F137.out.lt)
      have F149 := Lib.hid (F138.out.below hb F138.out.lt)
      have F150 := Lib.hid (F139.out.below hb F139.out.lt)
      have F151 := Lib.hid (F140.out.below hb F140.out.lt)
      have F152 := Lib.hid (F141.out.below hb F141.out.lt)
      have F153 := Lib.hid (F142.out.below hb)
      have F154 := Lib.hid (F143.out.below hb F143.out.lt)
      clear F134 F135 F136 F137 F138 F139 F140 F141 F142 F143
      have F155 := Lib.hid hby
      clear hb hby
      refine hK _ _ ?_
      clear hK K
      try simp only [Act.put, List.setIfInBounds_toArray, List.set_cons_succ, List.set_cons_zero]
      refine takeL (.tuple #[.agg #[.int .u32 0, .bool false, .slice ax 0 cx], .int .i64 11]) rfl (by go_simp) ?_
      try simp only [Act.put, List.setIfInBounds_toArray, List.set_cons_succ, List.set_cons_zero]
      refine takeL (.agg #[.int .u32 0, .bool false, .slice ax 0 cx]) rfl (by go_simp) ?_
      try simp only [Act.put, List.setIfInBounds_toArray, List.set_cons_succ, List.set_cons_zero]
      refine takeL (.int .i64 11) rfl (by go_simp) ?_
      try simp only [Act.put, List.setIfInBounds_toArray, List.set_cons_succ, List.set_cons_zero]
      refine alloc_g zero25 rfl ?_
      intro w156 hC hBC hlC
      try simp only [Act.put, List.setIfInBounds_toArray, List.set_cons_succ, List.set_cons_zero]
      refine store_all (cs := #[.int .u32 0, .bool false, (.slice ax 0 cx)]) hC rfl info25 (cells_one _ _ _ _ _) rfl rfl rfl ?_
      intro w157 hD hOD hlD
      try simp only [Act.put, List.setIfInBounds_toArray, List.set_cons_succ, List.set_cons_zero]
      have hb := hBC.trans (hOD.below hBC.size (fun k hk => Nat.le_of_eq hk.symm))
      have F158 := Lib.hid (F145.out.trans (hb.mono F145.out.size))
      have F159 := Lib.hid (F146.out.below hb)
      have F160 := Lib.hid (F147.out.below hb)
      have F161 := Lib.hid (F148.out.below hb F148.out.lt)
      have F162 := Lib.hid (F149.out.below hb F149.out.lt)
      have F163 := Lib.hid (F150.out.below hb F150.out.lt)
      have F164 := Lib.hid (F151.out.below hb F151.out.lt)
      have F165 := Lib.hid (F152.out.below hb F152.out.lt)
      have F166 := Lib.hid (F153.out.below hb)
      have F167 := Lib.hid (F154.out.below hb F154.out.lt)
      have F168 := Lib.hid (F155.out.below hb)
      clear F145 F146 F147 F148 F149 F150 F151 F152 F153 F154 F155
      have F169 := Lib.hid hD
      clear hC hBC hlC hD hOD hlD hb
      generalize w144.heap.size = g170 at *
      clear w156 w144
      refine takeL (.int .i64 11) rfl (by go_simp) ?_
      try simp only [Act.put, List.setIfInBounds_toArray, List.set_cons_succ, List.set_cons_zero]
      refine wpList_nil ?_
      go_upto_region 12 with fail
      refine wp_region_lit ?_
      refine takeL (.int .i64 11) rfl (by go_simp) ?_
      try simp only [Act.put, List.setIfInBounds_toArray, List.set_cons_succ, List.set_cons_zero]
      refine takeL (.bool false) rfl (by go_simp) ?_
      try simp only [Act.put, List.setIfInBounds_toArray, List.set_cons_succ, List.set_cons_zero]
      refine wpList_nil ?_
      go_upto_region 15 with fail
      refine wp_region_lit ?_
      refine takeL (.pointer (some ⟨g170, 2, none⟩)) rfl (by go_simp) ?_
      try simp only [Act.put, List.setIfInBounds_toArray, List.set_cons_succ, List.set_cons_zero]
      refine takeL ((.slice ax 0 cx)) rfl (by have hq := F169.out.cell (i := 2) (v := (.slice ax 0 cx)) rfl; go_simp) ?_
      try simp only [Act.put, List.setIfInBounds_toArray, List.set_cons_succ, List.set_cons_zero]
      refine takeL (.int .i64 0) rfl (by go_simp) ?_
      try simp only [Act.put, List.setIfInBounds_toArray, List.set_cons_succ, List.set_cons_zero]
      refine takeL (.bool true) rfl (by go_simp) ?_
      try simp only [Act.put, List.setIfInBounds_toArray, List.set_cons_succ, List.set_cons_zero]
      refine takeL (.bool true) rfl (by go_simp) ?_
      try simp only [Act.put, List.setIfInBounds_toArray, List.set_cons_succ, List.set_cons_zero]
      refine takeL (.pointer (some ⟨g170, 0, none⟩)) rfl (by go_simp) ?_
      try simp only [Act.put, List.setIfInBounds_toArray, List.set_cons_succ, List.set_cons_zero]
      refine takeL (.int .u32 0) rfl (by have hq := F169.out.cell (i := 0) (v := .int .u32 0) rfl; go_simp) ?_
      try simp only [Act.put, List.setIfInBounds_toArray, List.set_cons_succ, List.set_cons_zero]
      refine takeL (.bool true) rfl (by go_simp) ?_
      try simp only [Act.put, List.setIfInBounds_toArray, List.set_cons_succ, List.set_cons_zero]
      refine takeL (.bool true) rfl (by go_simp) ?_
      try simp only [Act.put, List.setIfInBounds_toArray, List.set_cons_succ, List.set_cons_zero]
      refine takeL (.bool true) rfl (by go_simp) ?_
      try simp only [Act.put, List.setIfInBounds_toArray, List.set_cons_succ, List.set_cons_zero]
      refine takeL (.pointer (some ⟨g170, 1, none⟩)) rfl (by go_simp) ?_
      try simp only [Act.put, List.setIfInBounds_toArray, List.set_cons_succ, List.set_cons_zero]
      refine takeL (.bool false) rfl (by have hq := F169.out.cell (i := 1) (v := .bool false) rfl; go_simp) ?_
      try simp only [Act.put, List.setIfInBounds_toArray, List.set_cons_succ, List.set_cons_zero]
      refine takeL (.bool true) rfl (by go_simp) ?_
      try simp only [Act.put, List.setIfInBounds_toArray, List.set_cons_succ, List.set_cons_zero]
      refine takeL (.bool true) rfl (by go_simp) ?_
      try simp only [Act.put, List.setIfInBounds_toArray, List.set_cons_succ, List.set_cons_zero]
      refine takeL (.bool true) rfl (by go_simp) ?_
      try simp only [Act.put, List.setIfInBounds_toArray, List.set_cons_succ, List.set_cons_zero]
      refine wpList_op rfl fun K hK => ?_
      go_simp
      refine (wakes_any _).mono ?_
      rintro e w171 ⟨rfl, hb⟩
      have F172 := Lib.hid (F158.out.trans (hb.mono F158.out.size))
      have F173 := Lib.hid (F159.out.below hb)
      have F174 := Lib.hid (F160.out.below hb)
      have F175 := Lib.hid (F161.out.below hb F161.out.lt)
      have F176 := Lib.hid (F162.out.below hb F162.out.lt)
      have F177 := Lib.hid (F163.out.below hb F163.out.lt)
      have F178 := Lib.hid (F164.out.below hb F164.out.lt)
      have F179 := Lib.hid (F165.out.below hb F165.out.lt)
      have F180 := Lib.hid (F166.out.below hb)
      have F181 := Lib.hid (F167.out.below hb F167.out.lt)
      have F182 := Lib.hid (F168.out.below hb)
      have F183 := Lib.hid (F169.out.below hb F169.out.lt)
      clear F158 F159 F160 F161 F162 F163 F164 F165 F166 F167 F168 F169
      clear hb
      refine hK _ _ ?_
      clear hK K
      try simp only [Act.put, List.setIfInBounds_toArray, List.set_cons_succ, List.set_cons_zero]
      refine takeL (.bool true) rfl (by go_simp) ?_
      try simp only [Act.put, List.setIfInBounds_toArray, List.set_cons_succ, List.set_cons_zero]
      refine takeL (.bool true) rfl (by go_simp) ?_
      try simp only [Act.put, List.setIfInBounds_toArray, List.set_cons_succ, List.set_cons_zero]
      refine wpList_nil ?_
      go_wp2_with fail
      go_ret
      exact ⟨rfl, F172.out⟩
    · have HSUM := Lib.hid hsum
      clear hsum
      go_upto_region 11 with fail
      refine wp_region_lit ?_
      have HPG := Lib.hid (isSum_parts HSUM.out).1
      have HPE := Lib.hid (isSum_parts HSUM.out).2
      have HRW := Lib.hid (readOf_wf HX.out)
      have HRS := Lib.hid (sec_length (readOf x))
      have HRL : Hid ((readOf x).marks.length ≤ 1000000) := Lib.hid (by have := (good_len HPG.out).2; omega)
      have HFST := Lib.hid (isSum_first HSUM.out)
      refine load27 (cs := (u8s x).toArray) (Blk.all F139.out rfl) (by rw [u8s_size, HXL.out]) rfl rfl ?_
      try simp only [Act.put, List.setIfInBounds_toArray, List.set_cons_succ, List.set_cons_zero]
      refine wpList_op rfl fun K hK => ?_
      go_simp
      refine (dec_yes HX.out HSUM.out _).mono ?_
      rintro e w185 ⟨ax, cx, rfl, hby, hb⟩
      have F186 := Lib.hid (F134.out.trans (hb.mono F134.out.size))
      have F187 := Lib.hid (F135.out.below hb)
      have F188 := Lib.hid (F136.out.below hb)
      have F189 := Lib.hid (F137.out.below hb F137.out.lt)
      have F190 := Lib.hid (F138.out.below hb F138.out.lt)
      have F191 := Lib.hid (F139.out.below hb F139.out.lt)
      have F192 := Lib.hid (F140.out.below hb F140.out.lt)
      have F193 := Lib.hid (F141.out.below hb F141.out.lt)
      have F194 := Lib.hid (F142.out.below hb)
      have F195 := Lib.hid (F143.out.below hb F143.out.lt)
      clear F134 F135 F136 F137 F138 F139 F140 F141 F142 F143
      have F196 := Lib.hid hby
      clear hb hby
      refine hK _ _ ?_
      clear hK K
      try simp only [Act.put, List.setIfInBounds_toArray, List.set_cons_succ, List.set_cons_zero]
      refine takeL (.tuple #[.agg #[.int .u32 (readOf x).seq, .bool (readOf x).more, .slice ax (readOf x).marks.length cx], .int .i64 0]) rfl (by go_simp) ?_
      try simp only [Act.put, List.setIfInBounds_toArray, List.set_cons_succ, List.set_cons_zero]
      refine takeL (.agg #[.int .u32 (readOf x).seq, .bool (readOf x).more, .slice ax (readOf x).marks.length cx]) rfl (by go_simp) ?_
      try simp only [Act.put, List.setIfInBounds_toArray, List.set_cons_succ, List.set_cons_zero]
      refine takeL (.int .i64 0) rfl (by go_simp) ?_
      try simp only [Act.put, List.setIfInBounds_toArray, List.set_cons_succ, List.set_cons_zero]
      refine alloc_g zero25 rfl ?_
      intro w197 hC hBC hlC
      try simp only [Act.put, List.setIfInBounds_toArray, List.set_cons_succ, List.set_cons_zero]
      refine store_all (cs := #[.int .u32 (readOf x).seq, .bool (readOf x).more, (.slice ax (readOf x).marks.length cx)]) hC rfl info25 (cells_one _ _ _ _ _) rfl rfl rfl ?_
      intro w198 hD hOD hlD
      try simp only [Act.put, List.setIfInBounds_toArray, List.set_cons_succ, List.set_cons_zero]
      have hb := hBC.trans (hOD.below hBC.size (fun k hk => Nat.le_of_eq hk.symm))
      have F199 := Lib.hid (F186.out.trans (hb.mono F186.out.size))
      have F200 := Lib.hid (F187.out.below hb)
      have F201 := Lib.hid (F188.out.below hb)
      have F202 := Lib.hid (F189.out.below hb F189.out.lt)
      have F203 := Lib.hid (F190.out.below hb F190.out.lt)
      have F204 := Lib.hid (F191.out.below hb F191.out.lt)
      have F205 := Lib.hid (F192.out.below hb F192.out.lt)
      have F206 := Lib.hid (F193.out.below hb F193.out.lt)
      have F207 := Lib.hid (F194.out.below hb)
      have F208 := Lib.hid (F195.out.below hb F195.out.lt)
      have F209 := Lib.hid (F196.out.below hb)
      clear F186 F187 F188 F189 F190 F191 F192 F193 F194 F195 F196
      have F210 := Lib.hid hD
      clear hC hBC hlC hD hOD hlD hb
      generalize w185.heap.size = g211 at *
      clear w197 w185
      refine takeL (.int .i64 0) rfl (by go_simp) ?_
      try simp only [Act.put, List.setIfInBounds_toArray, List.set_cons_succ, List.set_cons_zero]
      refine wpList_nil ?_
      go_upto_region 12 with fail
      refine wp_region_lit ?_
      refine takeL (.int .i64 0) rfl (by go_simp) ?_
      try simp only [Act.put, List.setIfInBounds_toArray, List.set_cons_succ, List.set_cons_zero]
      refine takeL (.bool true) rfl (by go_simp) ?_
      try simp only [Act.put, List.setIfInBounds_toArray, List.set_cons_succ, List.set_cons_zero]
      refine wpList_nil ?_
      go_upto_region 13 with fail
      refine wp_region_lit ?_
      refine load25 (cs := #[.int .u32 (readOf x).seq, .bool (readOf x).more, (.slice ax (readOf x).marks.length cx)]) (Blk.all F210.out rfl) rfl rfl rfl ?_
      try simp only [Act.put, List.setIfInBounds_toArray, List.set_cons_succ, List.set_cons_zero]
      refine wpList_op rfl fun K hK => ?_
      go_simp
      refine (enc_ok HPG.out _ HRL.out HRW.out _ F209.out).mono ?_
      rintro e w212 ⟨rfl, hb⟩
      have F213 := Lib.hid (F199.out.trans (hb.mono F199.out.size))
      have F214 := Lib.hid (F200.out.below hb)
      have F215 := Lib.hid (F201.out.below hb)
      have F216 := Lib.hid (F202.out.below hb F202.out.lt)
      have F217 := Lib.hid (F203.out.below hb F203.out.lt)
      have F218 := Lib.hid (F204.out.below hb F204.out.lt)
      have F219 := Lib.hid (F205.out.below hb F205.out.lt)
      have F220 := Lib.hid (F206.out.below hb F206.out.lt)
      have F221 := Lib.hid (F207.out.below hb)
      have F222 := Lib.hid (F208.out.below hb F208.out.lt)
      have F223 := Lib.hid (F209.out.below hb)
      have F224 := Lib.hid (F210.out.below hb F210.out.lt)
      clear F199 F200 F201 F202 F203 F204 F205 F206 F207 F208 F209 F210
      clear hb
      refine hK _ _ ?_
      clear hK K
      try simp only [Act.put, List.setIfInBounds_toArray, List.set_cons_succ, List.set_cons_zero]
      refine takeL (.tuple #[.agg (u8s (readOf x).sec).toArray, .int .i64 0]) rfl (by go_simp) ?_
      try simp only [Act.put, List.setIfInBounds_toArray, List.set_cons_succ, List.set_cons_zero]
      refine takeL (.agg (u8s (readOf x).sec).toArray) rfl (by go_simp) ?_
      try simp only [Act.put, List.setIfInBounds_toArray, List.set_cons_succ, List.set_cons_zero]
      refine takeL (.int .i64 0) rfl (by go_simp) ?_
      try simp only [Act.put, List.setIfInBounds_toArray, List.set_cons_succ, List.set_cons_zero]
      refine alloc_g zero27 rfl ?_
      intro w225 hC hBC hlC
      try simp only [Act.put, List.setIfInBounds_toArray, List.set_cons_succ, List.set_cons_zero]
      refine store_all (cs := (u8s (readOf x).sec).toArray) hC (by rw [u8s_size, HRS.out]; simp [zeros]) (by rw [u8s_size, HRS.out]; exact info27) (u8s_one _) rfl rfl rfl ?_
      intro w226 hD hOD hlD
      try simp only [Act.put, List.setIfInBounds_toArray, List.set_cons_succ, List.set_cons_zero]
      have hb := hBC.trans (hOD.below hBC.size (fun k hk => Nat.le_of_eq hk.symm))
      have F227 := Lib.hid (F213.out.trans (hb.mono F213.out.size))
      have F228 := Lib.hid (F214.out.below hb)
      have F229 := Lib.hid (F215.out.below hb)
      have F230 := Lib.hid (F216.out.below hb F216.out.lt)
      have F231 := Lib.hid (F217.out.below hb F217.out.lt)
      have F232 := Lib.hid (F218.out.below hb F218.out.lt)
      have F233 := Lib.hid (F219.out.below hb F219.out.lt)
      have F234 := Lib.hid (F220.out.below hb F220.out.lt)
      have F235 := Lib.hid (F221.out.below hb)
      have F236 := Lib.hid (F222.out.below hb F222.out.lt)
      have F237 := Lib.hid (F223.out.below hb)
      have F238 := Lib.hid (F224.out.below hb F224.out.lt)
      clear F213 F214 F215 F216 F217 F218 F219 F220 F221 F222 F223 F224
      have F239 := Lib.hid hD
      clear hC hBC hlC hD hOD hlD hb
      generalize w212.heap.size = g240 at *
      clear w225 w212
      refine takeL (.int .i64 0) rfl (by go_simp) ?_
      try simp only [Act.put, List.setIfInBounds_toArray, List.set_cons_succ, List.set_cons_zero]
      refine wpList_nil ?_
      go_upto_region 14 with fail
      refine wp_region_lit ?_
      refine takeL (.int .i64 0) rfl (by go_simp) ?_
      try simp only [Act.put, List.setIfInBounds_toArray, List.set_cons_succ, List.set_cons_zero]
      refine takeL (.bool true) rfl (by go_simp) ?_
      try simp only [Act.put, List.setIfInBounds_toArray, List.set_cons_succ, List.set_cons_zero]
      refine takeL (.bool true) rfl (by go_simp) ?_
      try simp only [Act.put, List.setIfInBounds_toArray, List.set_cons_succ, List.set_cons_zero]
      refine load27 (cs := (u8s (readOf x).sec).toArray) (Blk.all F239.out rfl) (by rw [u8s_size, HRS.out]) rfl rfl ?_
      try simp only [Act.put, List.setIfInBounds_toArray, List.set_cons_succ, List.set_cons_zero]
      refine load27 (cs := (u8s x).toArray) (Blk.all F232.out rfl) (by rw [u8s_size, HXL.out]) rfl rfl ?_
      try simp only [Act.put, List.setIfInBounds_toArray, List.set_cons_succ, List.set_cons_zero]
      refine takeL (.bool true) rfl (by exact eql27v (decide_eq_true HPE.out) HRS.out HXL.out _ _ _ rfl rfl rfl) ?_
      try simp only [Act.put, List.setIfInBounds_toArray, List.set_cons_succ, List.set_cons_zero]
      refine takeL (.bool true) rfl (by go_simp) ?_
      try simp only [Act.put, List.setIfInBounds_toArray, List.set_cons_succ, List.set_cons_zero]
      refine takeL (.bool true) rfl (by go_simp) ?_
      try simp only [Act.put, List.setIfInBounds_toArray, List.set_cons_succ, List.set_cons_zero]
      refine takeL (.pointer (some ⟨g20, 0, none⟩)) rfl (by go_simp) ?_
      try simp only [Act.put, List.setIfInBounds_toArray, List.set_cons_succ, List.set_cons_zero]
      refine takeL (.int .u8 (x.getD 0 0)) rfl (by have hq := F232.out.cell (i := 0) (v := .int .u8 (x.getD 0 0)) (sc_cell HX.out (by decide)); go_simp) ?_
      try simp only [Act.put, List.setIfInBounds_toArray, List.set_cons_succ, List.set_cons_zero]
      refine takeL (.bool true) rfl (by have hq := HFST.out; rw [List.getD_eq_getElem?_getD] at hq; go_simp) ?_
      try simp only [Act.put, List.setIfInBounds_toArray, List.set_cons_succ, List.set_cons_zero]
      refine takeL (.bool true) rfl (by go_simp) ?_
      try simp only [Act.put, List.setIfInBounds_toArray, List.set_cons_succ, List.set_cons_zero]
      refine takeL (.bool true) rfl (by go_simp) ?_
      try simp only [Act.put, List.setIfInBounds_toArray, List.set_cons_succ, List.set_cons_zero]
      refine wpList_op rfl fun K hK => ?_
      go_simp
      refine (wakes_any _).mono ?_
      rintro e w241 ⟨rfl, hb⟩
      have F242 := Lib.hid (F227.out.trans (hb.mono F227.out.size))
      have F243 := Lib.hid (F228.out.below hb)
      have F244 := Lib.hid (F229.out.below hb)
      have F245 := Lib.hid (F230.out.below hb F230.out.lt)
      have F246 := Lib.hid (F231.out.below hb F231.out.lt)
      have F247 := Lib.hid (F232.out.below hb F232.out.lt)
      have F248 := Lib.hid (F233.out.below hb F233.out.lt)
      have F249 := Lib.hid (F234.out.below hb F234.out.lt)
      have F250 := Lib.hid (F235.out.below hb)
      have F251 := Lib.hid (F236.out.below hb F236.out.lt)
      have F252 := Lib.hid (F237.out.below hb)
      have F253 := Lib.hid (F238.out.below hb F238.out.lt)
      have F254 := Lib.hid (F239.out.below hb F239.out.lt)
      clear F227 F228 F229 F230 F231 F232 F233 F234 F235 F236 F237 F238 F239
      clear hb
      refine hK _ _ ?_
      clear hK K
      try simp only [Act.put, List.setIfInBounds_toArray, List.set_cons_succ, List.set_cons_zero]
      refine takeL (.bool true) rfl (by go_simp) ?_
      try simp only [Act.put, List.setIfInBounds_toArray, List.set_cons_succ, List.set_cons_zero]
      refine takeL (.bool true) rfl (by go_simp) ?_
      try simp only [Act.put, List.setIfInBounds_toArray, List.set_cons_succ, List.set_cons_zero]
      refine wpList_nil ?_
      go_wp2_with fail
      go_ret
      exact ⟨rfl, F242.out⟩
theorem back_any (s t : Sm) (sv tv : Value) (x : List Int) (hs : s.Wf) (ht : t.Wf) (hx : Sc x) (w : World) (hms : MarksAt w sv s.marks) (hmt : MarksAt w tv t.marks) : Calls Try.prog 4 #[.agg #[.int .u32 s.seq, .bool s.more, sv], .agg #[.int .u32 t.seq, .bool t.more, tv], .agg (u8s x).toArray] w fun e w' => e = .returned (.bool true) ∧ Below w.heap.size w w' := by
  by_cases h1 : s.marks.length ≤ 300
  · by_cases h2 : t.marks.length ≤ 300
    · cases gs : s.good
      · exact back_f s t sv tv x hs ht hx h1 h2 gs w hms hmt
      · exact back_t s t sv tv x hs ht hx h1 h2 gs w hms hmt
    · exact back_long2 s t sv tv x hs ht hx h1 (by omega) w hms hmt
  · exact back_long1 s t sv tv x hs ht hx (by omega) w hms hmt
end Go.Proofs.Ytfhpmhigfhnbaaa
