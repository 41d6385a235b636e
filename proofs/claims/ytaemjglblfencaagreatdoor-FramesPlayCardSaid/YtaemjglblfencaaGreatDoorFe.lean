/- Pages and mapping pages held. -/
import Derived.Test.YtaemjglblfencaaGreatDoorFd
namespace Go.Proofs.YtaemjglblfencaaGreatDoor
set_option linter.unusedSimpArgs false
set_option linter.unusedVariables false
open Go.RowKit Kl

theorem page32 {l : List Int} (h : l.length = 32) : ∃ x0 x1 x2 x3 x4 x5 x6 x7 x8 x9 x10 x11 x12 x13 x14 x15 x16 x17 x18 x19 x20 x21 x22 x23 x24 x25 x26 x27 x28 x29 x30 x31 : Int, l = [x0, x1, x2, x3, x4, x5, x6, x7, x8, x9, x10, x11, x12, x13, x14, x15, x16, x17, x18, x19, x20, x21, x22, x23, x24, x25, x26, x27, x28, x29, x30, x31] := by
  match l, h with
  | [x0, x1, x2, x3, x4, x5, x6, x7, x8, x9, x10, x11, x12, x13, x14, x15, x16, x17, x18, x19, x20, x21, x22, x23, x24, x25, x26, x27, x28, x29, x30, x31], _ => exact ⟨x0, x1, x2, x3, x4, x5, x6, x7, x8, x9, x10, x11, x12, x13, x14, x15, x16, x17, x18, x19, x20, x21, x22, x23, x24, x25, x26, x27, x28, x29, x30, x31, rfl⟩

theorem info41 : (Tryz.prog.info? 41).map (·.size) = some 8 := by kernel_rfl
theorem zero41 : (Tryz.prog.info? 41).bind (·.zero) = some (.agg (i64s (zeros 8)).toArray) := by kernel_rfl
theorem built41 : Tryz.prog.built 41 [] = some (i64s (zeros 8)).toArray := by kernel_rfl
theorem build41 (w : World) : (Instr.build 41 #[]).run Tryz.prog w = .ok (.agg (i64s (zeros 8)).toArray) w := run_build w 41 _ _ built41
section
variable {ops : Array Oper} {rest : List Oper} {dst : Option Tmp} {x y : Operand} {t2 : TypeId} {pos : String} {after : Array Edge} {guard : Option (Nat × Bool)} {a : Act} {w : World} {Q : Exit → Act → World → Prop}
theorem load41 {g off : Nat} {cs : Array Value} (hA : At w g off cs) (hs : cs.size = 8) (hx : a.eval x = .pointer (some ⟨g, off, none⟩)) (hw : Region.wanted ⟨dst, .load 41 x, t2, pos, after, guard⟩ (yielded ops a.tmps) = true)
    (h : wpList Tryz.prog ops Q rest (a.put dst (.agg cs)) w) : wpList Tryz.prog ops Q (⟨dst, .load 41 x, t2, pos, after, guard⟩ :: rest) a w :=
  wpList_load_at hw 41 x rfl g off hx cs _ Tryz.underlying41 rfl (by rw [hs]; exact info41) hA h
end

set_option maxRecDepth 100000 in
theorem builtHold {l : List Int} (h : l.length = 32) (k : Int) : Tryz.prog.built 74 [(0, .int .i64 k), (1, .agg (u8s l).toArray), (2, .agg (u8s l).toArray)] = some (encH k ⟨l, l, zeros 8⟩).toArray := by
  obtain ⟨x0, x1, x2, x3, x4, x5, x6, x7, x8, x9, x10, x11, x12, x13, x14, x15, x16, x17, x18, x19, x20, x21, x22, x23, x24, x25, x26, x27, x28, x29, x30, x31, rfl⟩ := page32 h
  kernel_rfl
theorem heads8 {l : List Int} (h : l.length = 8) : ∃ x0 x1 x2 x3 x4 x5 x6 x7 : Int, l = [x0, x1, x2, x3, x4, x5, x6, x7] := by
  match l, h with
  | [x0, x1, x2, x3, x4, x5, x6, x7], _ => exact ⟨x0, x1, x2, x3, x4, x5, x6, x7, rfl⟩
set_option maxRecDepth 100000 in
theorem builtMap {l : List Int} (h : l.length = 8) (k : Int) : Tryz.prog.built 74 [(0, .int .i64 k), (3, .agg (i64s l).toArray)] = some (encH k ⟨zeros 32, zeros 32, l⟩).toArray := by
  obtain ⟨x0, x1, x2, x3, x4, x5, x6, x7, rfl⟩ := heads8 h
  kernel_rfl
theorem Held.from {w w1 w' : World} {L : Lay} {ps : List (Option Nat)} {s : Fs} (hb : Below w.heap.size w w1) (h : Held w1 w' L ps s) : Held w w' L ps s := by
  obtain ⟨ps', h1, h2, h3⟩ := h
  exact ⟨ps', h1, (Only.of_below hb).trans h2, fun g hg => (h3 g hg).imp_right fun h => Nat.le_trans hb.size h⟩
set_option maxRecDepth 100000 in
theorem Hold_no (v : Value) (i p : Int) (base : List Int) (hl : base.length = 32) (hp : pageKey p = false) (w : World) : Calls Tryz.prog 9 #[v, .int .i64 i, .int .i64 p, .agg (u8s base).toArray] w fun e w' => e = .returned (.bool false) ∧ Below w.heap.size w w' := by
  have HW := Lib.hid (what_any p)
  rw [hp] at HW
  generalize someKey p = sk at *
  clear hp hl
  go_enter Tryz.func9, Tryz.ntmps9
  go_upto_region 0 with fail
  refine wp_region_lit ?_
  refine box_g (cs := (u8s base).toArray) rfl rfl ?_
  intro w1 hA hb hl2
  try simp only [Act.put, List.setIfInBounds_toArray, List.set_cons_succ, List.set_cons_zero]
  refine takeL (.bool false) rfl (by go_simp) ?_
  try simp only [Act.put, List.setIfInBounds_toArray, List.set_cons_succ, List.set_cons_zero]
  refine wpList_nil ?_
  have HBW := Lib.hid hb
  clear hA hb hl2
  have flp := fieldtp sk false
  go_wp2_with fail
  refine (HW.out _).mono ?_
  rintro e w2 ⟨rfl, hb⟩
  have HB2 := Lib.hid (stay HBW.out hb)
  clear hb
  go_wp2_with fail
  go_ret
  exact ⟨rfl, HB2.out⟩
set_option maxRecDepth 100000 in
theorem Hold_yes (v : Value) (i p : Int) (base : List Int) (hl : base.length = 32) (hp : pageKey p = true) (w : World) (r : Bool) (Z : World → World → Prop)
    (hc : ∀ w', Below w.heap.size w w' → Calls Tryz.prog 34 #[v, .int .i64 i, .agg (encH p ⟨base, base, zeros 8⟩).toArray] w' fun e w'' => e = .returned (.bool r) ∧ Z w' w'') : Calls Tryz.prog 9 #[v, .int .i64 i, .int .i64 p, .agg (u8s base).toArray] w fun e w' => e = .returned (.bool r) ∧ ∃ w1, Below w.heap.size w w1 ∧ Z w1 w' := by
  have HW := Lib.hid (what_any p)
  rw [hp] at HW
  have HL := Lib.hid hl
  have HC := Lib.hid hc
  generalize someKey p = sk at *
  clear hp hl hc
  go_enter Tryz.func9, Tryz.ntmps9
  go_upto_region 0 with fail
  refine wp_region_lit ?_
  refine box_g (cs := (u8s base).toArray) rfl rfl ?_
  intro w1 hA hb hl2
  try simp only [Act.put, List.setIfInBounds_toArray, List.set_cons_succ, List.set_cons_zero]
  refine takeL (.bool false) rfl (by go_simp) ?_
  try simp only [Act.put, List.setIfInBounds_toArray, List.set_cons_succ, List.set_cons_zero]
  refine wpList_nil ?_
  have HBX : Hid (Blk w1 w.heap.size (u8s base)) := Lib.hid (by simpa using hA)
  have HBW := Lib.hid hb
  clear hA hb hl2
  go_upto_region 1 with fail
  refine wp_region_lit ?_
  refine takeL (.int .i64 p) rfl (by go_simp) ?_
  try simp only [Act.put, List.setIfInBounds_toArray, List.set_cons_succ, List.set_cons_zero]
  refine wpList_op rfl fun K hK => ?_
  go_simp
  refine (HW.out _).mono ?_
  rintro e w2 ⟨rfl, hb⟩
  have HB2 := Lib.hid (stay HBW.out hb)
  have HBX2 := Lib.hid (HBX.out.below hb HBX.out.lt)
  clear hb
  refine hK _ _ ?_
  clear hK K
  try simp only [Act.put, List.setIfInBounds_toArray, List.set_cons_succ, List.set_cons_zero]
  refine takeL (.bool true) rfl (by have hq := fieldtp sk true w2; go_simp) ?_
  try simp only [Act.put, List.setIfInBounds_toArray, List.set_cons_succ, List.set_cons_zero]
  refine takeL (.bool true) rfl (by go_simp) ?_
  try simp only [Act.put, List.setIfInBounds_toArray, List.set_cons_succ, List.set_cons_zero]
  refine takeL (v) rfl (by go_simp) ?_
  try simp only [Act.put, List.setIfInBounds_toArray, List.set_cons_succ, List.set_cons_zero]
  refine takeL (.int .i64 i) rfl (by go_simp) ?_
  try simp only [Act.put, List.setIfInBounds_toArray, List.set_cons_succ, List.set_cons_zero]
  refine takeL (.int .i64 p) rfl (by go_simp) ?_
  try simp only [Act.put, List.setIfInBounds_toArray, List.set_cons_succ, List.set_cons_zero]
  refine load39 (cs := (u8s base).toArray) (Blk.all HBX2.out rfl) (by rw [u8s_size, HL.out]) rfl rfl ?_
  try simp only [Act.put, List.setIfInBounds_toArray, List.set_cons_succ, List.set_cons_zero]
  refine load39 (cs := (u8s base).toArray) (Blk.all HBX2.out rfl) (by rw [u8s_size, HL.out]) rfl rfl ?_
  try simp only [Act.put, List.setIfInBounds_toArray, List.set_cons_succ, List.set_cons_zero]
  refine takeL (.agg (encH p ⟨base, base, zeros 8⟩).toArray) rfl (by exact exec_build _ _ _ _ 74 _ rfl #[(0, .int .i64 p), (1, .agg (u8s base).toArray), (2, .agg (u8s base).toArray)] (by simp only [List.map_toArray, List.map_cons, List.map_nil]; rfl) _ (run_build _ 74 _ _ (builtHold HL.out p))) ?_
  try simp only [Act.put, List.setIfInBounds_toArray, List.set_cons_succ, List.set_cons_zero]
  refine wpList_op rfl fun K hK => ?_
  go_simp
  refine (HC.out _ HB2.out).mono ?_
  rintro e w3 ⟨rfl, hq⟩
  have HQ := Lib.hid hq
  clear hq
  refine hK _ _ ?_
  clear hK K
  try simp only [Act.put, List.setIfInBounds_toArray, List.set_cons_succ, List.set_cons_zero]
  refine takeL (.bool r) rfl (by go_simp) ?_
  try simp only [Act.put, List.setIfInBounds_toArray, List.set_cons_succ, List.set_cons_zero]
  refine takeL (.bool r) rfl (by go_simp) ?_
  try simp only [Act.put, List.setIfInBounds_toArray, List.set_cons_succ, List.set_cons_zero]
  refine wpList_nil ?_
  go_wp2_with fail
  go_ret
  exact ⟨rfl, w2, HB2.out, HQ.out⟩
theorem Hold_any {B : Nat} {w : World} {L : Lay} {ps : List (Option Nat)} {s : Fs} (h : FAt w L ps s) (ho : s.Ok B) (i p : Int) {base : List Int} (hl : Pg base) : Calls Tryz.prog 9 #[.pointer (some ⟨L.b, 0, none⟩), .int .i64 i, .int .i64 p, .agg (u8s base).toArray] w fun e w' => e = .returned (.bool (s.hold i p base).1) ∧ Held w w' L ps (s.hold i p base).2 := by
  unfold Fs.hold
  cases hp : pageKey p with
  | false =>
    refine (Hold_no _ i p base hl.length hp w).mono ?_
    rintro e w' ⟨rfl, hb⟩
    exact ⟨rfl, Held.below h hb⟩
  | true =>
    have hs : someKey p = true := by simp only [pageKey, someKey, Bool.and_eq_true, decide_eq_true_eq] at *; omega
    refine (Hold_yes _ i p base hl.length hp w (s.may i p) (fun w1 w' => Held w1 w' L ps (s.put i p ⟨base, base, zeros 8⟩)) fun w' hb => ?_).mono ?_
    · have := hold_any (h.below hb) ho i p ⟨base, base, zeros 8⟩ ⟨hl, hl, rfl⟩
      rwa [hs] at this
    · rintro e w' ⟨rfl, w1, hb, hh⟩
      exact ⟨rfl, Held.from hb hh⟩
set_option maxRecDepth 100000 in
theorem HoldMap_as (v : Value) (i id : Int) (heads : List Int) (hl : heads.length = 8) (w : World) (r : Bool) (S : Nat → Prop) (hS : ¬ S w.heap.size) (Z : World → World → Prop) (hso : ∀ a b, Z a b → Only S a b)
    (hc : ∀ w', Below w.heap.size w w' → Calls Tryz.prog 34 #[v, .int .i64 i, .agg (encH (mapKey id) ⟨zeros 32, zeros 32, heads⟩).toArray] w' fun e w'' => e = .returned (.bool r) ∧ Z w' w'') : Calls Tryz.prog 12 #[v, .int .i64 i, .int .i64 id, .agg (i64s heads).toArray] w fun e w' => e = .returned (.bool r) ∧ ∃ w1, Below w.heap.size w w1 ∧ Z w1 w' := by
  have HL := Lib.hid hl
  have HC := Lib.hid hc
  have HNF := Lib.hid hS
  have HSO := Lib.hid hso
  clear hl hc hS hso
  go_enter Tryz.func12, Tryz.ntmps12
  go_upto_region 0 with fail
  refine wp_region_lit ?_
  refine box_g (cs := (i64s heads).toArray) rfl rfl ?_
  intro w1 hA hb hl2
  try simp only [Act.put, List.setIfInBounds_toArray, List.set_cons_succ, List.set_cons_zero]
  refine takeL (.bool false) rfl (by go_simp) ?_
  try simp only [Act.put, List.setIfInBounds_toArray, List.set_cons_succ, List.set_cons_zero]
  refine wpList_nil ?_
  have HBX : Hid (Blk w1 w.heap.size (i64s heads)) := Lib.hid (by simpa using hA)
  have HBW := Lib.hid hb
  clear hA hb hl2
  go_upto_region 1 with fail
  refine startH (fun wq => Only S w1 wq) (by kernel_rfl) ?_
  refine takeH 0 (some 9) (v) rfl rfl (by kernel_rfl) (by kernel_rfl) (by kernel_rfl) (fun _ _ _ h => h) rfl (fun wq hS => by go_simp) (Only.refl _ _).drew ?_
  try simp only [Act.put, List.setIfInBounds_toArray, List.set_cons_succ, List.set_cons_zero]
  refine takeH 1 (some 10) (.int .i64 i) rfl rfl (by kernel_rfl) (by kernel_rfl) (by kernel_rfl) (fun _ _ _ h => h) rfl (fun wq hS => by go_simp) (Only.refl _ _).drew ?_
  try simp only [Act.put, List.setIfInBounds_toArray, List.set_cons_succ, List.set_cons_zero]
  refine takeH 2 (some 11) (.int .i64 id) rfl rfl (by kernel_rfl) (by kernel_rfl) (by kernel_rfl) (fun _ _ _ h => h) rfl (fun wq hS => by go_simp) (Only.refl _ _).drew ?_
  try simp only [Act.put, List.setIfInBounds_toArray, List.set_cons_succ, List.set_cons_zero]
  refine takeH 4 (some 13) (.agg (i64s heads).toArray) rfl rfl (by kernel_rfl) (by kernel_rfl) (by kernel_rfl) (fun _ _ _ h => h) rfl (fun wq hS => by exact exec_load_at wq _ _ 41 _ rfl (w.heap.size) (0) rfl ((i64s heads).toArray) _ Tryz.underlying41 rfl (by simp only [List.size_toArray, List.length_map, HL.out]; exact info41) (Blk.all (HBX.out.only hS HNF.out) rfl)) (Only.refl _ _).drew ?_
  try simp only [Act.put, List.setIfInBounds_toArray, List.set_cons_succ, List.set_cons_zero]
  refine oneH 3 (by kernel_rfl) rfl rfl fun K hK => ?_
  go_simp
  refine (mapKey_any id _).mono ?_
  rintro e w2 ⟨rfl, rfl⟩
  refine hK _ _ (Only.refl _ _).drew ?_
  clear hK K
  try simp only [Act.put, List.setIfInBounds_toArray, List.set_cons_succ, List.set_cons_zero]
  refine takeH 5 (some 14) (.agg (encH (mapKey id) ⟨zeros 32, zeros 32, heads⟩).toArray) rfl rfl (by kernel_rfl) (by kernel_rfl) (by kernel_rfl) (fun _ _ _ h => h) rfl (fun wq hS => by exact exec_build _ _ _ _ 74 _ rfl #[(0, .int .i64 (mapKey id)), (3, .agg (i64s heads).toArray)] (by simp only [List.map_toArray, List.map_cons, List.map_nil]; rfl) _ (run_build _ 74 _ _ (builtMap HL.out (mapKey id)))) (Only.refl _ _).drew ?_
  try simp only [Act.put, List.setIfInBounds_toArray, List.set_cons_succ, List.set_cons_zero]
  refine oneH 6 (by kernel_rfl) rfl rfl fun K hK => ?_
  go_simp
  refine (HC.out _ (HBW.out.trans ((Below.refl _ _).drew.mono HBW.out.size))).mono ?_
  rintro e w3 ⟨rfl, hq⟩
  have HQ := Lib.hid hq
  have HS3 : Hid (Only S w1 w3) := Lib.hid (((Only.refl S w1).drew).trans (HSO.out _ _ hq))
  clear hq
  refine hK _ _ HS3.out ?_
  clear hK K
  try simp only [Act.put, List.setIfInBounds_toArray, List.set_cons_succ, List.set_cons_zero]
  refine takeH 7 (some 8) (.bool r) rfl rfl (by kernel_rfl) (by kernel_rfl) (by kernel_rfl) (fun _ _ _ h => h) rfl (fun wq hS => by go_simp) HS3.out ?_
  try simp only [Act.put, List.setIfInBounds_toArray, List.set_cons_succ, List.set_cons_zero]
  refine wpAnyH_done (by kernel_rfl) ?_ _
  go_wp2_with fail
  go_ret
  exact ⟨rfl, w1.drew, HBW.out.trans ((Below.refl _ _).drew.mono HBW.out.size), HQ.out⟩
theorem Held.only {w w' : World} {L : Lay} {ps : List (Option Nat)} {s : Fs} (h : Held w w' L ps s) : Only (Foot L ps) w w' := let ⟨_, _, h2, _⟩ := h; h2
theorem HoldMap_any {B : Nat} {w : World} {L : Lay} {ps : List (Option Nat)} {s : Fs} (h : FAt w L ps s) (ho : s.Ok B) (i id : Int) (hid : Kl.Small id) {heads : List Int} (hl : heads.length = 8) : Calls Tryz.prog 12 #[.pointer (some ⟨L.b, 0, none⟩), .int .i64 i, .int .i64 id, .agg (i64s heads).toArray] w fun e w' => e = .returned (.bool (s.holdMap i id heads).1) ∧ Held w w' L ps (s.holdMap i id heads).2 := by
  refine (HoldMap_as _ i id heads hl w (s.holdMap i id heads).1 (Foot L ps) (fun hf => by have := h.lt ho hf; omega) (fun w1 w' => Held w1 w' L ps (s.holdMap i id heads).2) (fun a b hh => hh.only) fun w' hb => ?_).mono ?_
  · refine (hold_any (h.below hb) ho i (mapKey id) ⟨zeros 32, zeros 32, heads⟩ ⟨Pg.zeros, Pg.zeros, hl⟩).mono ?_
    rintro e w2 ⟨rfl, hh⟩
    rw [mapKey_some hid] at hh ⊢
    unfold Fs.holdMap
    by_cases hd : 0 ≤ id ∧ id < 8
    · rw [mapKey_in hd.1 hd.2] at hh ⊢
      rw [if_pos hd]
      simp only [decide_eq_true hd.1, decide_eq_true hd.2, Bool.and_self, Bool.true_and, if_true] at hh ⊢
      exact ⟨trivial, hh⟩
    · have hf : (decide (0 ≤ id) && decide (id < 8)) = false := by simp; omega
      rw [hf] at hh ⊢
      rw [if_neg hd]
      exact ⟨rfl, hh⟩
  · rintro e w' ⟨rfl, w1, hb, hh⟩
    exact ⟨rfl, Held.from hb hh⟩

end Go.Proofs.YtaemjglblfencaaGreatDoor
