/- The statements' first calls: what an ordinary change comes to; pages compared. -/
import Derived.Test.YtdfkpjffmjeffaaDoorApp
namespace Go.Proofs.YtdfkpjffmjeffaaDoor
set_option linter.unusedSimpArgs false
set_option linter.unusedVariables false
open Go.RowKit

theorem guard23 : Tryd.prog.eqGuardType Tryd.prog.depth 23 = false := by kernel_rfl
/-- Two pages compared. -/
theorem exec_eql23 {l m : List Int} (hl : l.length = 32) (hm : m.length = 32) (ev : Operand → Value) (o : Oper) (w : World) {x y : Operand} {t : TypeId} (ho : o.op = .binOp .eql 23 x y t) (hx : ev x = .agg (u8s l).toArray) (hy : ev y = .agg (u8s m).toArray) : (execOp ev o).run Tryd.prog w = .ok (.value (.bool (decide (l = m)))) w := by
  obtain ⟨i5, hi5, hs5⟩ := size_of info5s
  have hb := run_eql_ints (P := Tryd.prog) w 23 5 32 _ .u8 i5 l m Tryd.underlying23 Tryd.underlying5 hi5 hs5 hl hm
  unfold execOp
  simp only [ho, hx, hy, Sem.run_bind, run_eqGuard_agg w .eql 23 x y _ _ guard23, Result.andThen_ok, hb, Sem.run_pure]
theorem exec_page {l m : List Int} {v : Bool} (hv : decide (l = m) = v) (hl : l.length = 32) (hm : m.length = 32) (ev : Operand → Value) (o : Oper) (w : World) {x y : Operand} {t : TypeId} (ho : o.op = .binOp .eql 23 x y t) (hx : ev x = .agg (u8s l).toArray) (hy : ev y = .agg (u8s m).toArray) : (execOp ev o).run Tryd.prog w = .ok (.value (.bool v)) w := hv ▸ exec_eql23 hl hm ev o w ho hx hy
theorem u8s_set (l : List Int) (i : Nat) (x : Int) : (u8s l).set i (.int .u8 x) = u8s (l.set i x) := by simp [List.map_set]
def pB1 : List Int := (zeros 32).set 3 7
def pB : List Int := pB1.set 5 8
theorem Pg.set {x : List Int} (h : Pg x) (i : Nat) {v : Int} (hv : Byte v) : Pg (x.set i v) := ⟨by rw [List.length_set]; exact h.length, fun y hy => by
  rcases List.mem_or_eq_of_mem_set hy with h1 | rfl
  · exact h.bytes y h1
  · exact hv⟩
theorem pB1_pg : Pg pB1 := Pg.zeros.set 3 ⟨by decide, by decide⟩
theorem pB_pg : Pg pB := pB1_pg.set 5 ⟨by decide, by decide⟩
theorem spanB : Span (zeros 32) pB 3 6 where
  le := by decide
  up := by decide
  pre := fun i hi => by
    rcases (show i = 0 ∨ i = 1 ∨ i = 2 by omega) with rfl | rfl | rfl <;> rfl
  suf := fun i hi => by simp only [pB, pB1, List.getElem?_set_ne (show 5 ≠ i by omega), List.getElem?_set_ne (show 3 ≠ i by omega)]
  fst := fun _ => by decide
  lst := fun _ => by decide
  non := fun h => by omega
theorem midB : mid pB 3 6 = [7, 0, 8] := by decide
theorem layB : layI (zeros 32) 3 [7, 0, 8] = pB := by decide
theorem diffB (w : World) : Calls Tryd.prog 8 #[.agg (u8s (zeros 32)).toArray, .agg (u8s pB).toArray] w fun r w' => ∃ sv, r = .returned (.tuple #[.int .i64 3, sv, .bool true]) ∧ BytesAt w' sv [7, 0, 8] ∧ Below w.heap.size w w' := by
  have := diff_yes _ _ Pg.zeros pB_pg 3 6 spanB (by decide) w
  rwa [midB] at this
theorem diffA (w : World) : Calls Tryd.prog 8 #[.agg (u8s (zeros 32)).toArray, .agg (u8s (zeros 32)).toArray] w fun r w' => r = .returned (.tuple #[.int .i64 0, .slice none 0 0, .bool false]) ∧ Below w.heap.size w w' := diff_no _ _ Pg.zeros Pg.zeros 32 32 Span.self (.inl rfl) w
theorem applyB (w : World) (hev : ErrVar w) {sv : Value} (h : BytesAt w sv [7, 0, 8]) : Calls Tryd.prog 10 #[.agg (u8s (zeros 32)).toArray, .int .i64 3, sv] w fun e w' => e = .returned (.tuple #[.agg (u8s pB).toArray, .int .i64 0]) ∧ Below w.heap.size w w' := by
  have := apply_yes (zeros 32) [7, 0, 8] (zeros_length 32) 3 sv (by decide) (by decide) w h hev
  rwa [layB] at this
theorem applyN (w : World) (hev : ErrVar w) {sv : Value} (h : BytesAt w sv [1, 2]) : Calls Tryd.prog 10 #[.agg (u8s (zeros 32)).toArray, .int .i64 31, sv] w fun e w' => e = .returned (.tuple #[.agg (u8s (zeros 32)).toArray, .int .i64 1]) ∧ Below w.heap.size w w' :=
  apply_no (zeros 32) [1, 2] (zeros_length 32) 31 sv (by decide) (by decide) w h hev
set_option maxRecDepth 100000 in
theorem wakes_any (w : World) (hev : ErrVar w) : Calls Tryd.prog 7 #[] w fun e w' => e = .returned (.bool true) ∧ Below w.heap.size w w' := by
  have HZ32 := Lib.hid (zeros_length 32)
  have HB1 : Hid (pB1.length = 32) := Lib.hid pB1_pg.length
  have HB : Hid (pB.length = 32) := Lib.hid pB_pg.length
  have HBL : Hid (Below w.heap.size w w) := Lib.hid (Below.refl _ _)
  have HEV := Lib.hid hev
  have HE0 := Lib.hid hev.lt
  clear hev
  go_enter Tryd.func7, Tryd.ntmps7
  go_upto_region 1 with fail
  refine wp_region_lit ?_
  refine alloc_g zero23 rfl ?_
  intro w1 hA hb hl
  try simp only [Act.put, List.setIfInBounds_toArray, List.set_cons_succ, List.set_cons_zero]
  clear hl
  have HG2 : Hid (w.heap.size ≤ w.heap.size) := Lib.hid HBL.out.size
  have F3 := Lib.hid (HBL.out.trans (hb.mono HBL.out.size))
  have F4 := Lib.hid (HEV.out.below (Nat.le_refl _) hb)
  clear HBL HEV
  have F5 : Hid (Blk w1 w.heap.size (u8s (zeros 32))) := Lib.hid hA
  clear hA hb
  refine alloc_g zero23 rfl ?_
  intro w6 hA hb hl
  try simp only [Act.put, List.setIfInBounds_toArray, List.set_cons_succ, List.set_cons_zero]
  clear hl
  have HN7 := Lib.hid (Nat.ne_of_lt F5.out.lt)
  have HG8 : Hid (w.heap.size ≤ w1.heap.size) := Lib.hid F3.out.size
  have F9 := Lib.hid (F3.out.trans (hb.mono F3.out.size))
  have F10 := Lib.hid (F4.out.below (Nat.le_refl _) hb)
  have F11 := Lib.hid (F5.out.below hb F5.out.lt)
  clear F3 F4 F5
  have F12 : Hid (Blk w6 w1.heap.size (u8s (zeros 32))) := Lib.hid hA
  clear hA hb
  generalize w1.heap.size = g13 at *
  clear w1
  refine wpList_nil ?_
  go_upto_region 2 with fail
  refine wp_region_lit ?_
  refine takeL (.pointer (some ⟨g13, 3, none⟩)) rfl (by go_simp) ?_
  try simp only [Act.put, List.setIfInBounds_toArray, List.set_cons_succ, List.set_cons_zero]
  refine skipL (w6.setCell ⟨g13, 3, none⟩ (.int .u8 7)) rfl (by have hq := F12.out.cell (i := 3) (v := .int .u8 0) rfl; have hf := F12.out.frozen 3; go_simp) ?_
  try simp only [Act.put, List.setIfInBounds_toArray, List.set_cons_succ, List.set_cons_zero]
  have hO : Only (fun k => k = g13) w6 (w6.setCell ⟨g13, 3, none⟩ (.int .u8 7)) := (Only.refl (fun k => k = g13) w6).setCell (p := ⟨g13, 3, none⟩) (.inl rfl) _
  have hD := F12.out.set 3 (.int .u8 7)
  generalize w6.setCell ⟨g13, 3, none⟩ (.int .u8 7) = w14 at *
  rw [u8s_set] at hD
  have F15 := Lib.hid (F9.out.trans (hO.below F9.out.size (fun k hk => by rw [hk]; exact HG8.out)))
  have F16 := Lib.hid (F10.out.keep hO HG8.out HE0.out)
  have F17 := Lib.hid (F11.out.only hO (HN7.out))
  clear F9 F10 F11 F12
  have F12' : Hid (Blk w14 g13 (u8s pB1)) := Lib.hid hD
  clear hD hO
  refine takeL (.pointer (some ⟨g13, 5, none⟩)) rfl (by go_simp) ?_
  try simp only [Act.put, List.setIfInBounds_toArray, List.set_cons_succ, List.set_cons_zero]
  refine skipL (w14.setCell ⟨g13, 5, none⟩ (.int .u8 8)) rfl (by have hq := F12'.out.cell (i := 5) (v := .int .u8 0) rfl; have hf := F12'.out.frozen 5; go_simp) ?_
  try simp only [Act.put, List.setIfInBounds_toArray, List.set_cons_succ, List.set_cons_zero]
  have hO : Only (fun k => k = g13) w14 (w14.setCell ⟨g13, 5, none⟩ (.int .u8 8)) := (Only.refl (fun k => k = g13) w14).setCell (p := ⟨g13, 5, none⟩) (.inl rfl) _
  have hD := F12'.out.set 5 (.int .u8 8)
  generalize w14.setCell ⟨g13, 5, none⟩ (.int .u8 8) = w18 at *
  rw [u8s_set] at hD
  have F19 := Lib.hid (F15.out.trans (hO.below F15.out.size (fun k hk => by rw [hk]; exact HG8.out)))
  have F20 := Lib.hid (F16.out.keep hO HG8.out HE0.out)
  have F21 := Lib.hid (F17.out.only hO (HN7.out))
  clear F15 F16 F17 F12'
  have F12'' : Hid (Blk w18 g13 (u8s pB)) := Lib.hid hD
  clear hD hO
  refine wpList_nil ?_
  go_upto_region 3 with fail
  refine wp_region_lit ?_
  refine load23 (cs := (u8s (zeros 32)).toArray) (Blk.all F21.out rfl) (by rw [u8s_size, HZ32.out]) rfl rfl ?_
  try simp only [Act.put, List.setIfInBounds_toArray, List.set_cons_succ, List.set_cons_zero]
  refine load23 (cs := (u8s pB).toArray) (Blk.all F12''.out rfl) (by rw [u8s_size, HB.out]) rfl rfl ?_
  try simp only [Act.put, List.setIfInBounds_toArray, List.set_cons_succ, List.set_cons_zero]
  refine wpList_op rfl fun K hK => ?_
  go_simp
  refine (diffB _).mono ?_
  rintro e w22 ⟨svw22, rfl, hc, hb⟩
  have F23 := Lib.hid (F19.out.trans (hb.mono F19.out.size))
  have F24 := Lib.hid (F20.out.below (Nat.le_refl _) hb)
  have F25 := Lib.hid (F21.out.below hb F21.out.lt)
  have F26 := Lib.hid (F12''.out.below hb F12''.out.lt)
  clear F19 F20 F21 F12''
  have F27 := Lib.hid hc
  obtain ⟨saw22, scw22, he, -⟩ := hc
  have HEw22 := Lib.hid he
  clear he
  clear hb
  refine hK _ _ ?_
  clear hK K
  try simp only [Act.put, List.setIfInBounds_toArray, List.set_cons_succ, List.set_cons_zero]
  refine takeL (.tuple #[.int .i64 3, svw22, .bool true]) rfl (by go_simp) ?_
  try simp only [Act.put, List.setIfInBounds_toArray, List.set_cons_succ, List.set_cons_zero]
  refine takeL (.int .i64 3) rfl (by go_simp) ?_
  try simp only [Act.put, List.setIfInBounds_toArray, List.set_cons_succ, List.set_cons_zero]
  refine takeL (svw22) rfl (by have hq := HEw22.out; rw [hq]; go_simp) ?_
  try simp only [Act.put, List.setIfInBounds_toArray, List.set_cons_succ, List.set_cons_zero]
  refine takeL (.bool true) rfl (by go_simp) ?_
  try simp only [Act.put, List.setIfInBounds_toArray, List.set_cons_succ, List.set_cons_zero]
  refine takeL (.int .i64 3) rfl (by go_simp) ?_
  try simp only [Act.put, List.setIfInBounds_toArray, List.set_cons_succ, List.set_cons_zero]
  refine takeL (svw22) rfl (by have hq := HEw22.out; rw [hq]; go_simp) ?_
  try simp only [Act.put, List.setIfInBounds_toArray, List.set_cons_succ, List.set_cons_zero]
  refine takeL (.bool true) rfl (by go_simp) ?_
  try simp only [Act.put, List.setIfInBounds_toArray, List.set_cons_succ, List.set_cons_zero]
  refine wpList_nil ?_
  go_upto_region 4 with fail
  refine wp_region_lit ?_
  refine load23 (cs := (u8s (zeros 32)).toArray) (Blk.all F25.out rfl) (by rw [u8s_size, HZ32.out]) rfl rfl ?_
  try simp only [Act.put, List.setIfInBounds_toArray, List.set_cons_succ, List.set_cons_zero]
  refine takeL (.int .i64 3) rfl (by go_simp) ?_
  try simp only [Act.put, List.setIfInBounds_toArray, List.set_cons_succ, List.set_cons_zero]
  refine takeL (svw22) rfl (by have hq := HEw22.out; rw [hq]; go_simp) ?_
  try simp only [Act.put, List.setIfInBounds_toArray, List.set_cons_succ, List.set_cons_zero]
  refine wpList_op rfl fun K hK => ?_
  go_simp
  refine (applyB _ F24.out F27.out).mono ?_
  rintro e w28 ⟨rfl, hb⟩
  have F29 := Lib.hid (F23.out.trans (hb.mono F23.out.size))
  have F30 := Lib.hid (F24.out.below (Nat.le_refl _) hb)
  have F31 := Lib.hid (F25.out.below hb F25.out.lt)
  have F32 := Lib.hid (F26.out.below hb F26.out.lt)
  have F33 := Lib.hid (F27.out.below hb)
  clear F23 F24 F25 F26 F27
  clear hb
  refine hK _ _ ?_
  clear hK K
  try simp only [Act.put, List.setIfInBounds_toArray, List.set_cons_succ, List.set_cons_zero]
  refine takeL (.tuple #[.agg (u8s pB).toArray, .int .i64 0]) rfl (by go_simp) ?_
  try simp only [Act.put, List.setIfInBounds_toArray, List.set_cons_succ, List.set_cons_zero]
  refine takeL (.agg (u8s pB).toArray) rfl (by go_simp) ?_
  try simp only [Act.put, List.setIfInBounds_toArray, List.set_cons_succ, List.set_cons_zero]
  refine takeL (.int .i64 0) rfl (by go_simp) ?_
  try simp only [Act.put, List.setIfInBounds_toArray, List.set_cons_succ, List.set_cons_zero]
  refine alloc_g zero23 rfl ?_
  intro w34 hA hb hl
  try simp only [Act.put, List.setIfInBounds_toArray, List.set_cons_succ, List.set_cons_zero]
  clear hl
  refine store_all (cs := (u8s pB).toArray) hA (by simp only [u8s_size, List.size_toArray, List.length_append, List.length_singleton, List.length_map, HB.out, HZ32.out]) (by rw [u8s_size, HB.out]; exact info23) (u8s_one _) rfl rfl rfl ?_
  intro w35 hD hO hlD
  try simp only [Act.put, List.setIfInBounds_toArray, List.set_cons_succ, List.set_cons_zero]
  clear hlD hA
  have hbb : Below w28.heap.size w28 w35 := hb.trans (hO.below hb.size fun k hk => Nat.le_of_eq hk.symm)
  clear hb hO
  have HN36 := Lib.hid (Nat.ne_of_lt F31.out.lt)
  have HN37 := Lib.hid (Nat.ne_of_lt F32.out.lt)
  have HG38 : Hid (w.heap.size ≤ w28.heap.size) := Lib.hid F29.out.size
  have F39 := Lib.hid (F29.out.trans (hbb.mono F29.out.size))
  have F40 := Lib.hid (F30.out.below (Nat.le_refl _) hbb)
  have F41 := Lib.hid (F31.out.below hbb F31.out.lt)
  have F42 := Lib.hid (F32.out.below hbb F32.out.lt)
  have F43 := Lib.hid (F33.out.below hbb)
  clear F29 F30 F31 F32 F33
  have F44 : Hid (Blk w35 w28.heap.size (u8s pB)) := Lib.hid hD
  clear hD hbb w34
  generalize w28.heap.size = g45 at *
  clear w28
  refine takeL (.int .i64 0) rfl (by go_simp) ?_
  try simp only [Act.put, List.setIfInBounds_toArray, List.set_cons_succ, List.set_cons_zero]
  refine wpList_nil ?_
  go_upto_region 5 with fail
  refine wp_region_lit ?_
  refine load23 (cs := (u8s (zeros 32)).toArray) (Blk.all F41.out rfl) (by rw [u8s_size, HZ32.out]) rfl rfl ?_
  try simp only [Act.put, List.setIfInBounds_toArray, List.set_cons_succ, List.set_cons_zero]
  refine load23 (cs := (u8s (zeros 32)).toArray) (Blk.all F41.out rfl) (by rw [u8s_size, HZ32.out]) rfl rfl ?_
  try simp only [Act.put, List.setIfInBounds_toArray, List.set_cons_succ, List.set_cons_zero]
  refine wpList_op rfl fun K hK => ?_
  go_simp
  refine (diffA _).mono ?_
  rintro e w46 ⟨rfl, hb⟩
  have F47 := Lib.hid (F39.out.trans (hb.mono F39.out.size))
  have F48 := Lib.hid (F40.out.below (Nat.le_refl _) hb)
  have F49 := Lib.hid (F41.out.below hb F41.out.lt)
  have F50 := Lib.hid (F42.out.below hb F42.out.lt)
  have F51 := Lib.hid (F43.out.below hb)
  have F52 := Lib.hid (F44.out.below hb F44.out.lt)
  clear F39 F40 F41 F42 F43 F44
  clear hb
  refine hK _ _ ?_
  clear hK K
  try simp only [Act.put, List.setIfInBounds_toArray, List.set_cons_succ, List.set_cons_zero]
  refine takeL (.tuple #[.int .i64 0, .slice none 0 0, .bool false]) rfl (by go_simp) ?_
  try simp only [Act.put, List.setIfInBounds_toArray, List.set_cons_succ, List.set_cons_zero]
  refine takeL (.int .i64 0) rfl (by go_simp) ?_
  try simp only [Act.put, List.setIfInBounds_toArray, List.set_cons_succ, List.set_cons_zero]
  refine takeL (.slice none 0 0) rfl (by go_simp) ?_
  try simp only [Act.put, List.setIfInBounds_toArray, List.set_cons_succ, List.set_cons_zero]
  refine takeL (.bool false) rfl (by go_simp) ?_
  try simp only [Act.put, List.setIfInBounds_toArray, List.set_cons_succ, List.set_cons_zero]
  refine takeL (.int .i64 0) rfl (by go_simp) ?_
  try simp only [Act.put, List.setIfInBounds_toArray, List.set_cons_succ, List.set_cons_zero]
  refine takeL (.slice none 0 0) rfl (by go_simp) ?_
  try simp only [Act.put, List.setIfInBounds_toArray, List.set_cons_succ, List.set_cons_zero]
  refine takeL (.bool false) rfl (by go_simp) ?_
  try simp only [Act.put, List.setIfInBounds_toArray, List.set_cons_succ, List.set_cons_zero]
  refine wpList_nil ?_
  go_upto_region 6 with fail
  refine wp_region_lit ?_
  refine load23 (cs := (u8s (zeros 32)).toArray) (Blk.all F49.out rfl) (by rw [u8s_size, HZ32.out]) rfl rfl ?_
  try simp only [Act.put, List.setIfInBounds_toArray, List.set_cons_succ, List.set_cons_zero]
  refine wpList_run (.slice (some ⟨w46.heap.size, 0, none⟩) 2 2) (w46.alloc (.cells #[.int .u8 1, .int .u8 2] 5)) rfl (by go_simp) ?_
  try simp only [Act.put, List.setIfInBounds_toArray, List.set_cons_succ, List.set_cons_zero]
  have hb := (Below.refl w46.heap.size w46).alloc (Nat.le_refl _) (.cells #[.int .u8 1, .int .u8 2] 5)
  have hB := (Own.lit w46 w46.heap.size (Nat.le_refl _) [1, 2] (by decide) #[.int .u8 1, .int .u8 2] rfl).bytes
  have HLT : Hid (w46.heap.size = w46.heap.size) := Lib.hid rfl
  generalize w46.alloc (.cells #[.int .u8 1, .int .u8 2] 5) = w53 at *
  generalize hgg : Value.slice (some ⟨w46.heap.size, 0, none⟩) 2 2 = tv at *
  have HTV : Hid (tv = .slice (some ⟨w46.heap.size, 0, none⟩) 2 2) := Lib.hid hgg.symm
  clear hgg HLT
  have F54 := Lib.hid (F47.out.trans (hb.mono F47.out.size))
  have F55 := Lib.hid (F48.out.below (Nat.le_refl _) hb)
  have F56 := Lib.hid (F49.out.below hb F49.out.lt)
  have F57 := Lib.hid (F50.out.below hb F50.out.lt)
  have F58 := Lib.hid (F51.out.below hb)
  have F59 := Lib.hid (F52.out.below hb F52.out.lt)
  clear F47 F48 F49 F50 F51 F52
  have F60 : Hid (BytesAt w53 tv [1, 2]) := Lib.hid hB
  clear hb hB
  refine wpList_op rfl fun K hK => ?_
  go_simp
  refine (applyN _ F55.out F60.out).mono ?_
  rintro e w61 ⟨rfl, hb⟩
  have F62 := Lib.hid (F54.out.trans (hb.mono F54.out.size))
  have F63 := Lib.hid (F55.out.below (Nat.le_refl _) hb)
  have F64 := Lib.hid (F56.out.below hb F56.out.lt)
  have F65 := Lib.hid (F57.out.below hb F57.out.lt)
  have F66 := Lib.hid (F58.out.below hb)
  have F67 := Lib.hid (F59.out.below hb F59.out.lt)
  have F68 := Lib.hid (F60.out.below hb)
  clear F54 F55 F56 F57 F58 F59 F60
  clear hb
  refine hK _ _ ?_
  clear hK K
  try simp only [Act.put, List.setIfInBounds_toArray, List.set_cons_succ, List.set_cons_zero]
  refine takeL (.tuple #[.agg (u8s (zeros 32)).toArray, .int .i64 1]) rfl (by go_simp) ?_
  try simp only [Act.put, List.setIfInBounds_toArray, List.set_cons_succ, List.set_cons_zero]
  refine takeL (.agg (u8s (zeros 32)).toArray) rfl (by go_simp) ?_
  try simp only [Act.put, List.setIfInBounds_toArray, List.set_cons_succ, List.set_cons_zero]
  refine takeL (.int .i64 1) rfl (by go_simp) ?_
  try simp only [Act.put, List.setIfInBounds_toArray, List.set_cons_succ, List.set_cons_zero]
  refine alloc_g zero23 rfl ?_
  intro w69 hA hb hl
  try simp only [Act.put, List.setIfInBounds_toArray, List.set_cons_succ, List.set_cons_zero]
  clear hl
  refine store_all (cs := (u8s (zeros 32)).toArray) hA (by simp only [u8s_size, List.size_toArray, List.length_append, List.length_singleton, List.length_map, HZ32.out]) (by rw [u8s_size, HZ32.out]; exact info23) (u8s_one _) rfl rfl rfl ?_
  intro w70 hD hO hlD
  try simp only [Act.put, List.setIfInBounds_toArray, List.set_cons_succ, List.set_cons_zero]
  clear hlD hA
  have hbb : Below w61.heap.size w61 w70 := hb.trans (hO.below hb.size fun k hk => Nat.le_of_eq hk.symm)
  clear hb hO
  have HN71 := Lib.hid (Nat.ne_of_lt F64.out.lt)
  have HN72 := Lib.hid (Nat.ne_of_lt F65.out.lt)
  have HN73 := Lib.hid (Nat.ne_of_lt F67.out.lt)
  have HG74 : Hid (w.heap.size ≤ w61.heap.size) := Lib.hid F62.out.size
  have F75 := Lib.hid (F62.out.trans (hbb.mono F62.out.size))
  have F76 := Lib.hid (F63.out.below (Nat.le_refl _) hbb)
  have F77 := Lib.hid (F64.out.below hbb F64.out.lt)
  have F78 := Lib.hid (F65.out.below hbb F65.out.lt)
  have F79 := Lib.hid (F66.out.below hbb)
  have F80 := Lib.hid (F67.out.below hbb F67.out.lt)
  have F81 := Lib.hid (F68.out.below hbb)
  clear F62 F63 F64 F65 F66 F67 F68
  have F82 : Hid (Blk w70 w61.heap.size (u8s (zeros 32))) := Lib.hid hD
  clear hD hbb w69
  generalize w61.heap.size = g83 at *
  clear w61
  refine takeL (.int .i64 1) rfl (by go_simp) ?_
  try simp only [Act.put, List.setIfInBounds_toArray, List.set_cons_succ, List.set_cons_zero]
  refine wpList_nil ?_
  go_upto_region 7 with fail
  refine wp_region_lit ?_
  try simp only [List.append_eq, List.cons_append, List.nil_append]
  refine takeL (.bool true) rfl (by go_simp) ?_
  try simp only [Act.put, List.setIfInBounds_toArray, List.set_cons_succ, List.set_cons_zero]
  refine takeL (.bool true) rfl (by go_simp) ?_
  try simp only [Act.put, List.setIfInBounds_toArray, List.set_cons_succ, List.set_cons_zero]
  refine takeL (.int .i64 3) rfl (by go_simp) ?_
  try simp only [Act.put, List.setIfInBounds_toArray, List.set_cons_succ, List.set_cons_zero]
  refine takeL (.bool true) rfl (by go_simp) ?_
  try simp only [Act.put, List.setIfInBounds_toArray, List.set_cons_succ, List.set_cons_zero]
  refine takeL (.bool true) rfl (by go_simp) ?_
  try simp only [Act.put, List.setIfInBounds_toArray, List.set_cons_succ, List.set_cons_zero]
  refine takeL (.bool true) rfl (by go_simp) ?_
  try simp only [Act.put, List.setIfInBounds_toArray, List.set_cons_succ, List.set_cons_zero]
  refine takeL (svw22) rfl (by have hq := HEw22.out; rw [hq]; go_simp) ?_
  try simp only [Act.put, List.setIfInBounds_toArray, List.set_cons_succ, List.set_cons_zero]
  refine takeL (.int .i64 3) rfl (by have hq := HEw22.out; rw [hq]; go_simp) ?_
  try simp only [Act.put, List.setIfInBounds_toArray, List.set_cons_succ, List.set_cons_zero]
  refine takeL (.bool true) rfl (by go_simp) ?_
  try simp only [Act.put, List.setIfInBounds_toArray, List.set_cons_succ, List.set_cons_zero]
  refine takeL (.bool true) rfl (by go_simp) ?_
  try simp only [Act.put, List.setIfInBounds_toArray, List.set_cons_succ, List.set_cons_zero]
  refine takeL (.bool true) rfl (by go_simp) ?_
  try simp only [Act.put, List.setIfInBounds_toArray, List.set_cons_succ, List.set_cons_zero]
  refine takeL (.int .i64 0) rfl (by go_simp) ?_
  try simp only [Act.put, List.setIfInBounds_toArray, List.set_cons_succ, List.set_cons_zero]
  refine takeL (.bool true) rfl (by go_simp) ?_
  try simp only [Act.put, List.setIfInBounds_toArray, List.set_cons_succ, List.set_cons_zero]
  refine takeL (.bool true) rfl (by go_simp) ?_
  try simp only [Act.put, List.setIfInBounds_toArray, List.set_cons_succ, List.set_cons_zero]
  refine takeL (.bool true) rfl (by go_simp) ?_
  try simp only [Act.put, List.setIfInBounds_toArray, List.set_cons_succ, List.set_cons_zero]
  refine load23 (cs := (u8s pB).toArray) (Blk.all F80.out rfl) (by rw [u8s_size, HB.out]) rfl rfl ?_
  try simp only [Act.put, List.setIfInBounds_toArray, List.set_cons_succ, List.set_cons_zero]
  refine load23 (cs := (u8s pB).toArray) (Blk.all F78.out rfl) (by rw [u8s_size, HB.out]) rfl rfl ?_
  try simp only [Act.put, List.setIfInBounds_toArray, List.set_cons_succ, List.set_cons_zero]
  refine takeL (.bool true) rfl (by exact exec_page (decide_eq_true rfl) HB.out HB.out _ _ _ rfl rfl rfl) ?_
  try simp only [Act.put, List.setIfInBounds_toArray, List.set_cons_succ, List.set_cons_zero]
  refine takeL (.bool true) rfl (by go_simp) ?_
  try simp only [Act.put, List.setIfInBounds_toArray, List.set_cons_succ, List.set_cons_zero]
  refine takeL (.bool true) rfl (by go_simp) ?_
  try simp only [Act.put, List.setIfInBounds_toArray, List.set_cons_succ, List.set_cons_zero]
  refine takeL (.bool false) rfl (by go_simp) ?_
  try simp only [Act.put, List.setIfInBounds_toArray, List.set_cons_succ, List.set_cons_zero]
  refine takeL (.bool true) rfl (by go_simp) ?_
  try simp only [Act.put, List.setIfInBounds_toArray, List.set_cons_succ, List.set_cons_zero]
  refine takeL (.bool true) rfl (by go_simp) ?_
  try simp only [Act.put, List.setIfInBounds_toArray, List.set_cons_succ, List.set_cons_zero]
  refine takeL (.bool true) rfl (by go_simp) ?_
  try simp only [Act.put, List.setIfInBounds_toArray, List.set_cons_succ, List.set_cons_zero]
  refine takeL (.int .i64 1) rfl (by go_simp) ?_
  try simp only [Act.put, List.setIfInBounds_toArray, List.set_cons_succ, List.set_cons_zero]
  refine takeL (.bool true) rfl (by go_simp) ?_
  try simp only [Act.put, List.setIfInBounds_toArray, List.set_cons_succ, List.set_cons_zero]
  refine takeL (.bool true) rfl (by go_simp) ?_
  try simp only [Act.put, List.setIfInBounds_toArray, List.set_cons_succ, List.set_cons_zero]
  refine takeL (.bool true) rfl (by go_simp) ?_
  try simp only [Act.put, List.setIfInBounds_toArray, List.set_cons_succ, List.set_cons_zero]
  refine wpList_nil ?_
  go_wp2_with fail
  go_ret
  exact ⟨rfl, F75.out⟩
end Go.Proofs.YtdfkpjffmjeffaaDoor
