/- Bytes laid over a page: package delta's applied and Apply. -/
import Derived.Test.YtaemjglblfencaaGreatDoorFit
import Derived.BigQuiet
import Derived.Deep.QuietTactic
namespace Go.Proofs.YtaemjglblfencaaGreatDoor
set_option linter.unusedSimpArgs false
set_option linter.unusedVariables false
open Go.RowKit

theorem arr39 : Tryz.prog.underlying 39 = some (.array (Tryz.prog.arrayLen 39) (Tryz.prog.elem 39)) ∧ Tryz.prog.arrayLen 39 = 32 ∧ Tryz.prog.elem 39 = 5 := ⟨by kernel_rfl, by kernel_rfl, by kernel_rfl⟩
theorem slice_from (w : World) (g : Nat) (o : Nat) (l : o < 32) : (Instr.sliceAt 39 (.pointer (some ⟨g, 0, none⟩)) (some (.int .i64 o)) none none).run Tryz.prog w = .ok (.slice (some ⟨g, o, none⟩) (32 - o) (32 - o)) w := by
  obtain ⟨i, hi, hs⟩ := size_of info5s
  rw [run_sliceAt_array_l w 39 ⟨g, 0, none⟩ arr39.1 .i64 o (by omega) (by rw [arr39.2.1]; omega), arr39.2.2, arr39.2.1]
  simp only [sizeOf, typeInfo, Sem.run_bind, run_program, hi, Result.andThen_ok, Sem.run_pure, hs, slicedAt, Int.toNat_natCast]
  rw [if_neg (by omega)]
  simp [Addr.add]
  omega
theorem exec_slice_from (w : World) (ev : Operand → Value) (op : Oper) (x y : Operand) (ho : op.op = .slice 39 x (some y) none none) (g o : Nat) (hx : ev x = .pointer (some ⟨g, 0, none⟩)) (hy : ev y = .int .i64 o) (l : o < 32) :
    (execOp ev op).run Tryz.prog w = .ok (.value (.slice (some ⟨g, o, none⟩) (32 - o) (32 - o))) w := by
  unfold execOp
  simp only [ho, hx, hy, Option.map_some, Option.map_none, Sem.run_bind, slice_from w g o l, Result.andThen_ok, Sem.run_pure]
theorem Only.cell {g : Nat} {w w' : World} (ho : Only (fun k => k = g) w w') {a : Addr} {v : Value} (hne : a.block ≠ g) (hx : w.cell? a = some v) : w'.cell? a = some v := by
  have hb := ho.block a.block (lt_of_cell hx) hne
  rw [← hx]
  simp only [World.cell?, hb]
theorem Chain.keep {g : Nat} {w w' : World} {n : Int} (ho : Only (fun k => k = g) w w') (hg : ∀ t, w.cell? ⟨g, 0, none⟩ ≠ some (.string t)) : ∀ {ts : List ByteArray} {v : Value}, Chain w n ts v → Chain w' n ts v
  | [], _, h => h
  | _ :: _, _, ⟨a, u, h1, h2, h3, h4, h5⟩ => by
    have hne : a ≠ g := by
      rintro rfl
      exact hg _ h2
    exact ⟨a, u, h1, ho.cell (a := ⟨a, 0, none⟩) hne h2, ho.cell (a := ⟨a, 1, none⟩) hne h3, ho.cell (a := ⟨a, 2, none⟩) hne h4, Chain.keep ho hg h5⟩
theorem ErrVar.keep {g B : Nat} {w w' : World} (h : ErrVar w) (ho : Only (fun k => k = g) w w') (hg : B ≤ g) (hB : 0 < B) : ErrVar w' := ho.cell (a := ⟨0, 0, none⟩) (by simp only; omega) h
theorem Blk.noStr {w : World} {g : Nat} {l : List Value} (h : Blk w g l) (hl : ∀ v ∈ l, ∀ t, v ≠ .string t) : ∀ t, w.cell? ⟨g, 0, none⟩ ≠ some (.string t) := fun t e => by
  obtain ⟨ty, ht⟩ := h
  rw [cell_of_row w g 0 _ ty _ ht] at e
  have : l[0]? = some (.string t) := by simpa using e
  exact hl _ (List.mem_of_getElem? this) t rfl
theorem u8s_noStr (l : List Int) : ∀ v ∈ u8s l, ∀ t, v ≠ .string t := fun v hv t e => by
  obtain ⟨z, _, rfl⟩ := List.mem_map.1 hv
  cases e
theorem misfit_err (off : Int) (l : List Int) (hl : l.length ≤ 1000) (h : ¬ Fits off l) (w : World) : Calls Tryz.prog 62 #[.int .i64 off, .int .i64 l.length] w fun e w' => ∃ T d t ts, e = .returned (.iface T d) ∧ Chain w' 1 (t :: ts) (.iface T d) ∧ Below w.heap.size w w' :=
  (misfit_no off l hl h w).mono fun e w' ⟨T, d, t, h1, h2, h3⟩ => ⟨T, d, t, [], h1, h2, h3⟩
theorem wrap_err (T : TypeId) (d : Value) (t : ByteArray) (ts : List ByteArray) (s : ByteArray) (w : World) (h : Chain w 1 (t :: ts) (.iface T d)) : Calls Tryz.prog 63 #[.iface T d, .string s] w fun e w' => ∃ T d t ts, e = .returned (.iface T d) ∧ Chain w' 1 (t :: ts) (.iface T d) ∧ Below w.heap.size w w' :=
  (wrap_some _ 1 t ts s w h).mono fun e w' ⟨v, h1, h2, h3⟩ => by
    obtain ⟨T, d, rfl⟩ := h2.shape
    exact ⟨T, d, _, _, h1, h2, h3⟩
/-- A store over all of a variable, at one operation. -/
theorem store_W {t : TypeId} {x y : Operand} {g : Nat} {l : List Value} {cs : Array Value} {o : Oper} {a : Act} {w : World} {K : Act → World → Prop} {Q : Exit → Act → World → Prop} (dst : Option Tmp) (hd : o.dst = dst) (ho : o.op = .store t x y)
    (hb : Blk w g l) (hl : l.length = cs.size) (hi : (Tryz.prog.info? t).map (·.size) = some cs.size) (h1 : ∀ v ∈ cs, v.oneCell' = true) (hx : a.eval x = .pointer (some ⟨g, 0, none⟩)) (hy : a.eval y = .agg cs)
    (h : ∀ wX, Blk wX g cs.toList → Only (fun k => k = g) w wX → K (a.put dst undef) wX) : o.wp Tryz.prog a w K Q := by
  subst hd
  refine wp_store_at t x y ho g 0 cs hx hy l hb hi (by omega) h1 ?_
  have := hb.row (splice l 0 cs)
  rw [splice_all _ _ hl] at this ⊢
  exact h _ this ((Only.refl (fun k => k = g) w).setRow (.inl rfl) _)
theorem of_err (T : TypeId) (d : Value) (t : ByteArray) (ts : List ByteArray) (w : World) (hg : ErrVar w) (h : Chain w 1 (t :: ts) (.iface T d)) : Calls Tryz.prog 56 #[.iface T d] w fun e w' => e = .returned (.int .i64 1) ∧ Below w.heap.size w w' := of_num 1 _ T d w hg h
theorem of_none (w : World) : Calls Tryz.prog 56 #[.nilIface] w fun e w' => e = .returned (.int .i64 0) ∧ Below w.heap.size w w' :=
  (of_nil w).mono fun e w' ⟨h1, h2⟩ => by subst h2; exact ⟨h1, Below.refl _ _⟩
theorem lay_page {p l : List Int} (hp : Pg p) (o : Nat) (h : Fits o l) (hl : ∀ y ∈ l, Byte y) : Pg (layI p o l) :=
  ⟨by rw [layI_length (by have := hp.length; have := h.2.2; omega), hp.length], fun y hy => by
    unfold layI at hy
    rcases List.mem_append.1 hy with hy | hy
    · rcases List.mem_append.1 hy with hy | hy
      · exact hp.bytes y (List.mem_of_mem_take hy)
      · exact hl y hy
    · exact hp.bytes y (List.mem_of_mem_drop hy)⟩
theorem lay_size {p l : List Int} (hp : p.length = 32) (o : Nat) (h : Fits o l) : (layI p o l).length = 32 := by rw [layI_length (by have := h.2.2; omega), hp]
set_option maxRecDepth 100000 in
theorem applied_yes (p l : List Int) (hp : p.length = 32) (o : Nat) (sv : Value) (hl : l.length ≤ 1000) (h : Fits o l) (w : World) (hbs : BytesAt w sv l) : Calls Tryz.prog 55 #[.agg (u8s p).toArray, .int .i64 o, sv] w fun e w' => e = .returned (.tuple #[.agg (u8s (layI p o l)).toArray, .nilIface]) ∧ Below w.heap.size w w' := by
  have HZ32 := Lib.hid (zeros_length 32)
  have HP := Lib.hid hp
  have HF := Lib.hid h
  have HBL : Hid (Below w.heap.size w w) := Lib.hid (Below.refl _ _)
  have HBY := Lib.hid hbs
  obtain ⟨sa, sc, he, -⟩ := hbs
  have HE := Lib.hid he
  clear he
  clear hp h
  have HLY := Lib.hid (lay_size HP.out o HF.out)
  go_enter Tryz.func55, Tryz.ntmps55
  go_upto_region 0 with fail
  refine wp_region_lit ?_
  refine box_g (cs := (u8s p).toArray) rfl rfl ?_
  intro w1 hA hb hl
  try simp only [Act.put, List.setIfInBounds_toArray, List.set_cons_succ, List.set_cons_zero]
  clear hl
  have HG2 : Hid (w.heap.size ≤ w.heap.size) := Lib.hid HBL.out.size
  have F3 := Lib.hid (HBL.out.trans (hb.mono HBL.out.size))
  clear HBL
  have F4 : Hid (Blk w1 w.heap.size (u8s p)) := Lib.hid hA
  clear hA hb
  refine alloc_g zero39 rfl ?_
  intro w5 hA hb hl
  try simp only [Act.put, List.setIfInBounds_toArray, List.set_cons_succ, List.set_cons_zero]
  clear hl
  have HN6 := Lib.hid (Nat.ne_of_lt F4.out.lt)
  have HG7 : Hid (w.heap.size ≤ w1.heap.size) := Lib.hid F3.out.size
  have F8 := Lib.hid (F3.out.trans (hb.mono F3.out.size))
  have F9 := Lib.hid (F4.out.below hb F4.out.lt)
  clear F3 F4
  have F10 : Hid (Blk w5 w1.heap.size (u8s (zeros 32))) := Lib.hid hA
  clear hA hb
  generalize w1.heap.size = g11 at *
  clear w1
  refine takeL (Value.nilIface) rfl (by go_simp) ?_
  try simp only [Act.put, List.setIfInBounds_toArray, List.set_cons_succ, List.set_cons_zero]
  refine wpList_nil ?_
  go_upto_region 1 with fail
  refine wp_region_lit ?_
  refine takeL (.int .i64 o) rfl (by go_simp) ?_
  try simp only [Act.put, List.setIfInBounds_toArray, List.set_cons_succ, List.set_cons_zero]
  refine takeL (sv) rfl (by have hq := HE.out; rw [hq]; go_simp) ?_
  try simp only [Act.put, List.setIfInBounds_toArray, List.set_cons_succ, List.set_cons_zero]
  refine takeL (.int .i64 l.length) rfl (by have hq := HE.out; rw [hq]; go_simp) ?_
  try simp only [Act.put, List.setIfInBounds_toArray, List.set_cons_succ, List.set_cons_zero]
  refine wpList_op rfl fun K hK => ?_
  go_simp
  refine (misfit_yes _ l hl HF.out _).mono ?_
  rintro e w12 ⟨rfl, rfl⟩
  refine hK _ _ ?_
  clear hK K
  try simp only [Act.put, List.setIfInBounds_toArray, List.set_cons_succ, List.set_cons_zero]
  refine takeL (Value.nilIface) rfl (by go_simp) ?_
  try simp only [Act.put, List.setIfInBounds_toArray, List.set_cons_succ, List.set_cons_zero]
  refine wpList_nil ?_
  go_upto_region 2 with fail
  refine wp_region_lit ?_
  refine takeL (Value.nilIface) rfl (by go_simp) ?_
  try simp only [Act.put, List.setIfInBounds_toArray, List.set_cons_succ, List.set_cons_zero]
  refine takeL (.bool false) rfl (by go_simp) ?_
  try simp only [Act.put, List.setIfInBounds_toArray, List.set_cons_succ, List.set_cons_zero]
  refine wpList_nil ?_
  go_upto_region 4 with fail
  refine wp_region_lit ?_
  refine takeL (.int .i64 o) rfl (by go_simp) ?_
  try simp only [Act.put, List.setIfInBounds_toArray, List.set_cons_succ, List.set_cons_zero]
  refine takeL (.slice (some ⟨w.heap.size, o, none⟩) (32 - o) (32 - o)) rfl (exec_slice_from _ _ _ _ _ rfl w.heap.size o rfl rfl (by obtain ⟨h1, h2, h3⟩ := HF.out; omega)) ?_
  try simp only [Act.put, List.setIfInBounds_toArray, List.set_cons_succ, List.set_cons_zero]
  refine takeL (sv) rfl (by have hq := HE.out; rw [hq]; go_simp) ?_
  try simp only [Act.put, List.setIfInBounds_toArray, List.set_cons_succ, List.set_cons_zero]
  have HB2 := HBY.out.below F8.out
  obtain ⟨p', q', cap', hsv', hsrc⟩ := HB2.has HF.out.2.1
  have hfit := HF.out.2.2
  refine wpList_op rfl fun K hK => ?_
  refine wp_copy _ _ rfl Tryz.underlying34 info5s w.heap.size o (32 - o) (32 - o) p' q' l.length cap' rfl hsv' (u8s p) l F9.out (Nat.min_eq_left (by omega)).symm hsrc (by rw [List.length_map, HP.out]; omega) (some 21) rfl fun w13 hD hO => ?_
  refine hK _ _ ?_
  clear hK K HB2 hsv' hsrc hfit
  try simp only [Act.put, List.setIfInBounds_toArray, List.set_cons_succ, List.set_cons_zero]
  rw [lay_u8s] at hD
  have F14 := Lib.hid (F8.out.trans (hO.below F8.out.size (fun k hk => by rw [hk]; exact HG2.out)))
  have F15 := Lib.hid (F10.out.only hO (HN6.out.symm))
  clear F8 F10 F9
  have FL : Hid (Blk w13 w.heap.size (u8s (layI p o l))) := Lib.hid hD
  clear hD hO
  refine wpList_nil ?_
  go_upto_region 5 with fail
  refine wp_region_lit ?_
  refine load39 (cs := (u8s (layI p o l)).toArray) (Blk.all FL.out rfl) (by rw [u8s_size, HLY.out]) rfl rfl ?_
  try simp only [Act.put, List.setIfInBounds_toArray, List.set_cons_succ, List.set_cons_zero]
  refine store_all (cs := (u8s (layI p o l)).toArray) F15.out (by simp only [u8s_size, List.size_toArray, List.length_append, List.length_singleton, List.length_map, HLY.out, HZ32.out]) (by rw [u8s_size, HLY.out]; exact info39) (u8s_one _) rfl rfl rfl ?_
  intro w16 hD hO hlD
  try simp only [Act.put, List.setIfInBounds_toArray, List.set_cons_succ, List.set_cons_zero]
  clear hlD
  have F17 := Lib.hid (F14.out.trans (hO.below F14.out.size (fun k hk => by rw [hk]; exact HG7.out)))
  have F18 := Lib.hid (FL.out.only hO (HN6.out))
  clear F14 FL F15
  have F10' : Hid (Blk w16 g11 (u8s (layI p o l))) := Lib.hid hD
  clear hD hO
  refine takeL (Value.nilIface) rfl (by go_simp) ?_
  try simp only [Act.put, List.setIfInBounds_toArray, List.set_cons_succ, List.set_cons_zero]
  refine wpList_nil ?_
  go_wp2_with fail
  exact bodyPost_ret (v := .tuple #[.agg (u8s (layI p o l)).toArray, Value.nilIface]) (results_cell_tmp rfl _ _ g11 0 _ _ _ rfl rfl Tryz.underlying39 rfl (by rw [u8s_size, HLY.out]; exact info39) (Blk.all F10'.out rfl)) rfl ⟨rfl, F17.out⟩
set_option maxRecDepth 100000 in
theorem applied_no (p l : List Int) (hp : p.length = 32) (off : Int) (sv : Value) (hl : l.length ≤ 1000) (h : ¬ Fits off l) (w : World) (hbs : BytesAt w sv l) : Calls Tryz.prog 55 #[.agg (u8s p).toArray, .int .i64 off, sv] w fun e w' => ∃ T d t ts, e = .returned (.tuple #[.agg (u8s (zeros 32)).toArray, .iface T d]) ∧ Chain w' 1 (t :: ts) (.iface T d) ∧ Below w.heap.size w w' := by
  have HZ32 := Lib.hid (zeros_length 32)
  have HP := Lib.hid hp
  have HF := Lib.hid h
  have HBL : Hid (Below w.heap.size w w) := Lib.hid (Below.refl _ _)
  have HBY := Lib.hid hbs
  obtain ⟨sa, sc, he, -⟩ := hbs
  have HE := Lib.hid he
  clear he
  clear hp h
  go_enter Tryz.func55, Tryz.ntmps55
  go_upto_region 0 with fail
  refine wp_region_lit ?_
  refine box_g (cs := (u8s p).toArray) rfl rfl ?_
  intro w1 hA hb hl
  try simp only [Act.put, List.setIfInBounds_toArray, List.set_cons_succ, List.set_cons_zero]
  clear hl
  have HG2 : Hid (w.heap.size ≤ w.heap.size) := Lib.hid HBL.out.size
  have F3 := Lib.hid (HBL.out.trans (hb.mono HBL.out.size))
  clear HBL
  have F4 : Hid (Blk w1 w.heap.size (u8s p)) := Lib.hid hA
  clear hA hb
  refine alloc_g zero39 rfl ?_
  intro w5 hA hb hl
  try simp only [Act.put, List.setIfInBounds_toArray, List.set_cons_succ, List.set_cons_zero]
  clear hl
  have HN6 := Lib.hid (Nat.ne_of_lt F4.out.lt)
  have HG7 : Hid (w.heap.size ≤ w1.heap.size) := Lib.hid F3.out.size
  have F8 := Lib.hid (F3.out.trans (hb.mono F3.out.size))
  have F9 := Lib.hid (F4.out.below hb F4.out.lt)
  clear F3 F4
  have F10 : Hid (Blk w5 w1.heap.size (u8s (zeros 32))) := Lib.hid hA
  clear hA hb
  generalize w1.heap.size = g11 at *
  clear w1
  refine takeL (Value.nilIface) rfl (by go_simp) ?_
  try simp only [Act.put, List.setIfInBounds_toArray, List.set_cons_succ, List.set_cons_zero]
  refine wpList_nil ?_
  go_upto_region 1 with fail
  refine wp_region_lit ?_
  refine takeL (.int .i64 off) rfl (by go_simp) ?_
  try simp only [Act.put, List.setIfInBounds_toArray, List.set_cons_succ, List.set_cons_zero]
  refine takeL (sv) rfl (by have hq := HE.out; rw [hq]; go_simp) ?_
  try simp only [Act.put, List.setIfInBounds_toArray, List.set_cons_succ, List.set_cons_zero]
  refine takeL (.int .i64 l.length) rfl (by have hq := HE.out; rw [hq]; go_simp) ?_
  try simp only [Act.put, List.setIfInBounds_toArray, List.set_cons_succ, List.set_cons_zero]
  refine wpList_op rfl fun K hK => ?_
  go_simp
  refine (misfit_err _ l hl HF.out _).mono ?_
  rintro e w12 ⟨Tw12, dw12, tw12, tsw12, rfl, hc, hb⟩
  have F13 := Lib.hid (F8.out.trans (hb.mono F8.out.size))
  have F14 := Lib.hid (F9.out.below hb F9.out.lt)
  have F15 := Lib.hid (F10.out.below hb F10.out.lt)
  clear F8 F9 F10
  have F16 := Lib.hid hc
  clear hb hc
  refine hK _ _ ?_
  clear hK K
  try simp only [Act.put, List.setIfInBounds_toArray, List.set_cons_succ, List.set_cons_zero]
  refine takeL (.iface Tw12 dw12) rfl (by go_simp) ?_
  try simp only [Act.put, List.setIfInBounds_toArray, List.set_cons_succ, List.set_cons_zero]
  refine wpList_nil ?_
  go_upto_region 2 with fail
  refine wp_region_lit ?_
  refine takeL (.iface Tw12 dw12) rfl (by go_simp) ?_
  try simp only [Act.put, List.setIfInBounds_toArray, List.set_cons_succ, List.set_cons_zero]
  refine takeL (.bool true) rfl (by go_simp) ?_
  try simp only [Act.put, List.setIfInBounds_toArray, List.set_cons_succ, List.set_cons_zero]
  refine wpList_nil ?_
  go_upto_region 3 with fail
  refine wp_region_lit ?_
  refine build_g (build39 _) rfl ?_
  try simp only [Act.put, List.setIfInBounds_toArray, List.set_cons_succ, List.set_cons_zero]
  refine takeL (.iface Tw12 dw12) rfl (by go_simp) ?_
  try simp only [Act.put, List.setIfInBounds_toArray, List.set_cons_succ, List.set_cons_zero]
  refine wpList_op rfl fun K hK => ?_
  go_simp
  refine (wrap_err _ _ _ _ _ _ F16.out).mono ?_
  rintro e w17 ⟨Tw17, dw17, tw17, tsw17, rfl, hc, hb⟩
  have F18 := Lib.hid (F13.out.trans (hb.mono F13.out.size))
  have F19 := Lib.hid (F14.out.below hb F14.out.lt)
  have F20 := Lib.hid (F15.out.below hb F15.out.lt)
  have F21 := Lib.hid (F16.out.below (Nat.le_refl _) hb)
  clear F13 F14 F15 F16
  have F22 := Lib.hid hc
  clear hb hc
  refine hK _ _ ?_
  clear hK K
  try simp only [Act.put, List.setIfInBounds_toArray, List.set_cons_succ, List.set_cons_zero]
  refine store_all (cs := (u8s (zeros 32)).toArray) F20.out (by simp only [u8s_size, List.size_toArray, List.length_append, List.length_singleton, List.length_map, HZ32.out]) (by rw [u8s_size, HZ32.out]; exact info39) (u8s_one _) rfl rfl rfl ?_
  intro w23 hD hO hlD
  try simp only [Act.put, List.setIfInBounds_toArray, List.set_cons_succ, List.set_cons_zero]
  clear hlD
  have F24 := Lib.hid (F18.out.trans (hO.below F18.out.size (fun k hk => by rw [hk]; exact HG7.out)))
  have F25 := Lib.hid (F19.out.only hO (HN6.out))
  have F26 := Lib.hid (F21.out.keep hO (Blk.noStr F20.out (u8s_noStr _)))
  have F27 := Lib.hid (F22.out.keep hO (Blk.noStr F20.out (u8s_noStr _)))
  clear F18 F19 F21 F22 F20
  have F10' : Hid (Blk w23 g11 (u8s (zeros 32))) := Lib.hid hD
  clear hD hO
  refine takeL (.iface Tw17 dw17) rfl (by go_simp) ?_
  try simp only [Act.put, List.setIfInBounds_toArray, List.set_cons_succ, List.set_cons_zero]
  refine wpList_nil ?_
  go_wp2_with fail
  exact bodyPost_ret (v := .tuple #[.agg (u8s (zeros 32)).toArray, .iface Tw17 dw17]) (results_cell_tmp rfl _ _ g11 0 _ _ _ rfl rfl Tryz.underlying39 rfl (by rw [u8s_size, HZ32.out]; exact info39) (Blk.all F10'.out rfl)) rfl ⟨_, _, _, _, rfl, F27.out, F24.out⟩
set_option maxRecDepth 100000 in
theorem apply_yes (p l : List Int) (hp : p.length = 32) (o : Nat) (sv : Value) (hl : l.length ≤ 1000) (h : Fits o l) (w : World) (hbs : BytesAt w sv l) (hev : ErrVar w) : Calls Tryz.prog 38 #[.agg (u8s p).toArray, .int .i64 o, sv] w fun e w' => e = .returned (.tuple #[.agg (u8s (layI p o l)).toArray, .int .i64 0]) ∧ Below w.heap.size w w' := by
  have HZ32 := Lib.hid (zeros_length 32)
  have HP := Lib.hid hp
  have HF := Lib.hid h
  have HBL : Hid (Below w.heap.size w w) := Lib.hid (Below.refl _ _)
  have HBY := Lib.hid hbs
  obtain ⟨sa, sc, he, -⟩ := hbs
  have HE := Lib.hid he
  clear he
  clear hp h
  have HLY := Lib.hid (lay_size HP.out o HF.out)
  have HEV := Lib.hid hev
  have HE0 := Lib.hid hev.lt
  clear hev
  go_enter Tryz.func38, Tryz.ntmps38
  go_upto_region 0 with fail
  refine wp_region_lit ?_
  refine box_g (cs := (u8s p).toArray) rfl rfl ?_
  intro w1 hA hb hl
  try simp only [Act.put, List.setIfInBounds_toArray, List.set_cons_succ, List.set_cons_zero]
  clear hl
  have HG2 : Hid (w.heap.size ≤ w.heap.size) := Lib.hid HBL.out.size
  have F3 := Lib.hid (HBL.out.trans (hb.mono HBL.out.size))
  have F4 := Lib.hid (HEV.out.below (Nat.le_refl _) hb)
  clear HBL HEV
  have F5 : Hid (Blk w1 w.heap.size (u8s p)) := Lib.hid hA
  clear hA hb
  refine alloc_g zero39 rfl ?_
  intro w6 hA hb hl
  try simp only [Act.put, List.setIfInBounds_toArray, List.set_cons_succ, List.set_cons_zero]
  clear hl
  have HN7 := Lib.hid (Nat.ne_of_lt F5.out.lt)
  have HG8 : Hid (w.heap.size ≤ w1.heap.size) := Lib.hid F3.out.size
  have F9 := Lib.hid (F3.out.trans (hb.mono F3.out.size))
  have F10 := Lib.hid (F4.out.below (Nat.le_refl _) hb)
  have F11 := Lib.hid (F5.out.below hb F5.out.lt)
  clear F3 F4 F5
  have F12 : Hid (Blk w6 w1.heap.size (u8s (zeros 32))) := Lib.hid hA
  clear hA hb
  generalize w1.heap.size = g13 at *
  clear w1
  refine takeL (.int .i64 0) rfl (by go_simp) ?_
  try simp only [Act.put, List.setIfInBounds_toArray, List.set_cons_succ, List.set_cons_zero]
  refine wpList_nil ?_
  go_upto_region 1 with fail
  refine wp_region_lit ?_
  refine load39 (cs := (u8s p).toArray) (Blk.all F11.out rfl) (by rw [u8s_size, HP.out]) rfl rfl ?_
  try simp only [Act.put, List.setIfInBounds_toArray, List.set_cons_succ, List.set_cons_zero]
  refine takeL (.int .i64 o) rfl (by go_simp) ?_
  try simp only [Act.put, List.setIfInBounds_toArray, List.set_cons_succ, List.set_cons_zero]
  refine takeL (sv) rfl (by have hq := HE.out; rw [hq]; go_simp) ?_
  try simp only [Act.put, List.setIfInBounds_toArray, List.set_cons_succ, List.set_cons_zero]
  refine wpList_op rfl fun K hK => ?_
  go_simp
  refine (applied_yes p l HP.out o sv hl HF.out _ (HBY.out.below F9.out)).mono ?_
  rintro e w14 ⟨rfl, hb⟩
  have F15 := Lib.hid (F9.out.trans (hb.mono F9.out.size))
  have F16 := Lib.hid (F10.out.below (Nat.le_refl _) hb)
  have F17 := Lib.hid (F11.out.below hb F11.out.lt)
  have F18 := Lib.hid (F12.out.below hb F12.out.lt)
  clear F9 F10 F11 F12
  clear hb
  refine hK _ _ ?_
  clear hK K
  try simp only [Act.put, List.setIfInBounds_toArray, List.set_cons_succ, List.set_cons_zero]
  refine takeL (.tuple #[.agg (u8s (layI p o l)).toArray, Value.nilIface]) rfl (by go_simp) ?_
  try simp only [Act.put, List.setIfInBounds_toArray, List.set_cons_succ, List.set_cons_zero]
  refine takeL (.agg (u8s (layI p o l)).toArray) rfl (by go_simp) ?_
  try simp only [Act.put, List.setIfInBounds_toArray, List.set_cons_succ, List.set_cons_zero]
  refine takeL (Value.nilIface) rfl (by go_simp) ?_
  try simp only [Act.put, List.setIfInBounds_toArray, List.set_cons_succ, List.set_cons_zero]
  refine alloc_g zero39 rfl ?_
  intro w19 hA hb hl
  try simp only [Act.put, List.setIfInBounds_toArray, List.set_cons_succ, List.set_cons_zero]
  clear hl
  refine store_all (cs := (u8s (layI p o l)).toArray) hA (by simp only [u8s_size, List.size_toArray, List.length_append, List.length_singleton, List.length_map, HLY.out, HZ32.out]) (by rw [u8s_size, HLY.out]; exact info39) (u8s_one _) rfl rfl rfl ?_
  intro w20 hD hO hlD
  try simp only [Act.put, List.setIfInBounds_toArray, List.set_cons_succ, List.set_cons_zero]
  clear hlD hA
  have hbb : Below w14.heap.size w14 w20 := hb.trans (hO.below hb.size fun k hk => Nat.le_of_eq hk.symm)
  clear hb hO
  have HN21 := Lib.hid (Nat.ne_of_lt F17.out.lt)
  have HN22 := Lib.hid (Nat.ne_of_lt F18.out.lt)
  have HG23 : Hid (w.heap.size ≤ w14.heap.size) := Lib.hid F15.out.size
  have F24 := Lib.hid (F15.out.trans (hbb.mono F15.out.size))
  have F25 := Lib.hid (F16.out.below (Nat.le_refl _) hbb)
  have F26 := Lib.hid (F17.out.below hbb F17.out.lt)
  have F27 := Lib.hid (F18.out.below hbb F18.out.lt)
  clear F15 F16 F17 F18
  have F28 : Hid (Blk w20 w14.heap.size (u8s (layI p o l))) := Lib.hid hD
  clear hD hbb w19
  generalize w14.heap.size = g29 at *
  clear w14
  refine takeL (Value.nilIface) rfl (by go_simp) ?_
  try simp only [Act.put, List.setIfInBounds_toArray, List.set_cons_succ, List.set_cons_zero]
  refine wpList_nil ?_
  go_upto_region 2 with fail
  refine startH (fun wq => Only (fun k => k = g13) w20 wq) (by kernel_rfl) ?_
  refine takeH 0 (some 17) (.agg (u8s (layI p o l)).toArray) rfl rfl (by kernel_rfl) (by kernel_rfl) (by kernel_rfl) (fun _ _ _ h => h) rfl (fun wq hS => by exact exec_load_at wq _ _ 39 _ rfl g29 0 rfl ((u8s (layI p o l)).toArray) _ Tryz.underlying39 rfl (by rw [u8s_size, HLY.out]; exact info39) (Blk.all (F28.out.only hS (HN22.out.symm)) rfl)) (Only.refl _ _).drew ?_
  try simp only [Act.put, List.setIfInBounds_toArray, List.set_cons_succ, List.set_cons_zero]
  refine takeH 1 (some 18) (Value.nilIface) rfl rfl (by kernel_rfl) (by kernel_rfl) (by kernel_rfl) (fun _ _ _ h => h) rfl (fun wq hS => by go_simp) (Only.refl _ _).drew ?_
  try simp only [Act.put, List.setIfInBounds_toArray, List.set_cons_succ, List.set_cons_zero]
  refine oneH 2 (by kernel_rfl) rfl rfl fun K hK => ?_
  go_simp
  refine (of_none _).mono ?_
  rintro e wx ⟨rfl, hb⟩
  have HS1 := Lib.hid (((Only.refl (fun k => k = g13) w20).drew).trans (Only.of_below hb))
  have HB1 := Lib.hid ((F27.out.drew).below hb F27.out.drew.lt)
  clear hb
  refine hK _ _ HS1.out ?_
  clear hK K
  try simp only [Act.put, List.setIfInBounds_toArray, List.set_cons_succ, List.set_cons_zero]
  refine oneH 3 (by kernel_rfl) rfl rfl fun K hK => ?_
  refine store_W none rfl rfl HB1.out (by simp only [u8s_size, List.size_toArray, List.length_append, List.length_singleton, List.length_map, HLY.out, HZ32.out]) (by rw [u8s_size, HLY.out]; exact info39) (u8s_one _) rfl rfl fun wy hD hO => ?_
  have HS2 := Lib.hid (HS1.out.trans hO)
  have HD2 := Lib.hid hD
  clear hD hO
  refine hK _ _ HS2.out ?_
  clear hK K
  try simp only [Act.put, List.setIfInBounds_toArray, List.set_cons_succ, List.set_cons_zero]
  refine takeH 4 (some 7) (.int .i64 0) rfl rfl (by kernel_rfl) (by kernel_rfl) (by kernel_rfl) (fun _ _ _ h => h) rfl (fun wq hS => by go_simp) HS2.out ?_
  try simp only [Act.put, List.setIfInBounds_toArray, List.set_cons_succ, List.set_cons_zero]
  refine wpAnyH_done (by kernel_rfl) ?_ _
  go_wp2_with fail
  exact bodyPost_ret (v := .tuple #[.agg (u8s (layI p o l)).toArray, .int .i64 0]) (results_cell_tmp rfl _ _ g13 0 _ _ _ rfl rfl Tryz.underlying39 rfl (by rw [u8s_size, HLY.out]; exact info39) (Blk.all HD2.out rfl)) rfl ⟨rfl, (F24.out.trans (HS2.out.below F24.out.size (fun k hk => by rw [hk]; exact HG8.out)))⟩
set_option maxRecDepth 100000 in
theorem apply_no (p l : List Int) (hp : p.length = 32) (off : Int) (sv : Value) (hl : l.length ≤ 1000) (h : ¬ Fits off l) (w : World) (hbs : BytesAt w sv l) (hev : ErrVar w) : Calls Tryz.prog 38 #[.agg (u8s p).toArray, .int .i64 off, sv] w fun e w' => e = .returned (.tuple #[.agg (u8s (zeros 32)).toArray, .int .i64 1]) ∧ Below w.heap.size w w' := by
  have HZ32 := Lib.hid (zeros_length 32)
  have HP := Lib.hid hp
  have HF := Lib.hid h
  have HBL : Hid (Below w.heap.size w w) := Lib.hid (Below.refl _ _)
  have HBY := Lib.hid hbs
  obtain ⟨sa, sc, he, -⟩ := hbs
  have HE := Lib.hid he
  clear he
  clear hp h
  have HEV := Lib.hid hev
  have HE0 := Lib.hid hev.lt
  clear hev
  go_enter Tryz.func38, Tryz.ntmps38
  go_upto_region 0 with fail
  refine wp_region_lit ?_
  refine box_g (cs := (u8s p).toArray) rfl rfl ?_
  intro w1 hA hb hl
  try simp only [Act.put, List.setIfInBounds_toArray, List.set_cons_succ, List.set_cons_zero]
  clear hl
  have HG2 : Hid (w.heap.size ≤ w.heap.size) := Lib.hid HBL.out.size
  have F3 := Lib.hid (HBL.out.trans (hb.mono HBL.out.size))
  have F4 := Lib.hid (HEV.out.below (Nat.le_refl _) hb)
  clear HBL HEV
  have F5 : Hid (Blk w1 w.heap.size (u8s p)) := Lib.hid hA
  clear hA hb
  refine alloc_g zero39 rfl ?_
  intro w6 hA hb hl
  try simp only [Act.put, List.setIfInBounds_toArray, List.set_cons_succ, List.set_cons_zero]
  clear hl
  have HN7 := Lib.hid (Nat.ne_of_lt F5.out.lt)
  have HG8 : Hid (w.heap.size ≤ w1.heap.size) := Lib.hid F3.out.size
  have F9 := Lib.hid (F3.out.trans (hb.mono F3.out.size))
  have F10 := Lib.hid (F4.out.below (Nat.le_refl _) hb)
  have F11 := Lib.hid (F5.out.below hb F5.out.lt)
  clear F3 F4 F5
  have F12 : Hid (Blk w6 w1.heap.size (u8s (zeros 32))) := Lib.hid hA
  clear hA hb
  generalize w1.heap.size = g13 at *
  clear w1
  refine takeL (.int .i64 0) rfl (by go_simp) ?_
  try simp only [Act.put, List.setIfInBounds_toArray, List.set_cons_succ, List.set_cons_zero]
  refine wpList_nil ?_
  go_upto_region 1 with fail
  refine wp_region_lit ?_
  refine load39 (cs := (u8s p).toArray) (Blk.all F11.out rfl) (by rw [u8s_size, HP.out]) rfl rfl ?_
  try simp only [Act.put, List.setIfInBounds_toArray, List.set_cons_succ, List.set_cons_zero]
  refine takeL (.int .i64 off) rfl (by go_simp) ?_
  try simp only [Act.put, List.setIfInBounds_toArray, List.set_cons_succ, List.set_cons_zero]
  refine takeL (sv) rfl (by have hq := HE.out; rw [hq]; go_simp) ?_
  try simp only [Act.put, List.setIfInBounds_toArray, List.set_cons_succ, List.set_cons_zero]
  refine wpList_op rfl fun K hK => ?_
  go_simp
  refine (applied_no p l HP.out off sv hl HF.out _ (HBY.out.below F9.out)).mono ?_
  rintro e w14 ⟨Tw14, dw14, tw14, tsw14, rfl, hc, hb⟩
  have F15 := Lib.hid (F9.out.trans (hb.mono F9.out.size))
  have F16 := Lib.hid (F10.out.below (Nat.le_refl _) hb)
  have F17 := Lib.hid (F11.out.below hb F11.out.lt)
  have F18 := Lib.hid (F12.out.below hb F12.out.lt)
  clear F9 F10 F11 F12
  have F19 := Lib.hid hc
  clear hb hc
  refine hK _ _ ?_
  clear hK K
  try simp only [Act.put, List.setIfInBounds_toArray, List.set_cons_succ, List.set_cons_zero]
  refine takeL (.tuple #[.agg (u8s (zeros 32)).toArray, .iface Tw14 dw14]) rfl (by go_simp) ?_
  try simp only [Act.put, List.setIfInBounds_toArray, List.set_cons_succ, List.set_cons_zero]
  refine takeL (.agg (u8s (zeros 32)).toArray) rfl (by go_simp) ?_
  try simp only [Act.put, List.setIfInBounds_toArray, List.set_cons_succ, List.set_cons_zero]
  refine takeL (.iface Tw14 dw14) rfl (by go_simp) ?_
  try simp only [Act.put, List.setIfInBounds_toArray, List.set_cons_succ, List.set_cons_zero]
  refine alloc_g zero39 rfl ?_
  intro w20 hA hb hl
  try simp only [Act.put, List.setIfInBounds_toArray, List.set_cons_succ, List.set_cons_zero]
  clear hl
  refine store_all (cs := (u8s (zeros 32)).toArray) hA (by simp only [u8s_size, List.size_toArray, List.length_append, List.length_singleton, List.length_map, HZ32.out]) (by rw [u8s_size, HZ32.out]; exact info39) (u8s_one _) rfl rfl rfl ?_
  intro w21 hD hO hlD
  try simp only [Act.put, List.setIfInBounds_toArray, List.set_cons_succ, List.set_cons_zero]
  clear hlD hA
  have hbb : Below w14.heap.size w14 w21 := hb.trans (hO.below hb.size fun k hk => Nat.le_of_eq hk.symm)
  clear hb hO
  have HN22 := Lib.hid (Nat.ne_of_lt F17.out.lt)
  have HN23 := Lib.hid (Nat.ne_of_lt F18.out.lt)
  have HG24 : Hid (w.heap.size ≤ w14.heap.size) := Lib.hid F15.out.size
  have F25 := Lib.hid (F15.out.trans (hbb.mono F15.out.size))
  have F26 := Lib.hid (F16.out.below (Nat.le_refl _) hbb)
  have F27 := Lib.hid (F17.out.below hbb F17.out.lt)
  have F28 := Lib.hid (F18.out.below hbb F18.out.lt)
  have F29 := Lib.hid (F19.out.below (Nat.le_refl _) hbb)
  clear F15 F16 F17 F18 F19
  have F30 : Hid (Blk w21 w14.heap.size (u8s (zeros 32))) := Lib.hid hD
  clear hD hbb w20
  generalize w14.heap.size = g31 at *
  clear w14
  refine takeL (.iface Tw14 dw14) rfl (by go_simp) ?_
  try simp only [Act.put, List.setIfInBounds_toArray, List.set_cons_succ, List.set_cons_zero]
  refine wpList_nil ?_
  go_upto_region 2 with fail
  refine startH (fun wq => Only (fun k => k = g13) w21 wq) (by kernel_rfl) ?_
  refine takeH 0 (some 17) (.agg (u8s (zeros 32)).toArray) rfl rfl (by kernel_rfl) (by kernel_rfl) (by kernel_rfl) (fun _ _ _ h => h) rfl (fun wq hS => by exact exec_load_at wq _ _ 39 _ rfl g31 0 rfl ((u8s (zeros 32)).toArray) _ Tryz.underlying39 rfl (by rw [u8s_size, HZ32.out]; exact info39) (Blk.all (F30.out.only hS (HN23.out.symm)) rfl)) (Only.refl _ _).drew ?_
  try simp only [Act.put, List.setIfInBounds_toArray, List.set_cons_succ, List.set_cons_zero]
  refine takeH 1 (some 18) (.iface Tw14 dw14) rfl rfl (by kernel_rfl) (by kernel_rfl) (by kernel_rfl) (fun _ _ _ h => h) rfl (fun wq hS => by go_simp) (Only.refl _ _).drew ?_
  try simp only [Act.put, List.setIfInBounds_toArray, List.set_cons_succ, List.set_cons_zero]
  refine oneH 2 (by kernel_rfl) rfl rfl fun K hK => ?_
  go_simp
  refine (of_err _ _ _ _ _ (F26.out.below (Nat.le_refl _) (Below.refl _ _).drew) (F29.out.below (Nat.le_refl _) (Below.refl _ _).drew)).mono ?_
  rintro e wx ⟨rfl, hb⟩
  have HS1 := Lib.hid (((Only.refl (fun k => k = g13) w21).drew).trans (Only.of_below hb))
  have HB1 := Lib.hid ((F28.out.drew).below hb F28.out.drew.lt)
  clear hb
  refine hK _ _ HS1.out ?_
  clear hK K
  try simp only [Act.put, List.setIfInBounds_toArray, List.set_cons_succ, List.set_cons_zero]
  refine oneH 3 (by kernel_rfl) rfl rfl fun K hK => ?_
  refine store_W none rfl rfl HB1.out (by simp only [u8s_size, List.size_toArray, List.length_append, List.length_singleton, List.length_map, HZ32.out]) (by rw [u8s_size, HZ32.out]; exact info39) (u8s_one _) rfl rfl fun wy hD hO => ?_
  have HS2 := Lib.hid (HS1.out.trans hO)
  have HD2 := Lib.hid hD
  clear hD hO
  refine hK _ _ HS2.out ?_
  clear hK K
  try simp only [Act.put, List.setIfInBounds_toArray, List.set_cons_succ, List.set_cons_zero]
  refine takeH 4 (some 7) (.int .i64 1) rfl rfl (by kernel_rfl) (by kernel_rfl) (by kernel_rfl) (fun _ _ _ h => h) rfl (fun wq hS => by go_simp) HS2.out ?_
  try simp only [Act.put, List.setIfInBounds_toArray, List.set_cons_succ, List.set_cons_zero]
  refine wpAnyH_done (by kernel_rfl) ?_ _
  go_wp2_with fail
  exact bodyPost_ret (v := .tuple #[.agg (u8s (zeros 32)).toArray, .int .i64 1]) (results_cell_tmp rfl _ _ g13 0 _ _ _ rfl rfl Tryz.underlying39 rfl (by rw [u8s_size, HZ32.out]; exact info39) (Blk.all HD2.out rfl)) rfl ⟨rfl, (F25.out.trans (HS2.out.below F25.out.size (fun k hk => by rw [hk]; exact HG8.out)))⟩
end Go.Proofs.YtaemjglblfencaaGreatDoor
