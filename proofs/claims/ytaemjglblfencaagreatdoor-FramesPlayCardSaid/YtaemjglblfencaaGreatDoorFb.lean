/- The small calls of package frames: what a key is of, what is dirty. -/
import Derived.Test.YtaemjglblfencaaGreatDoorFa
import Derived.BigQuiet
import Derived.Deep.QuietTactic
namespace Go.Proofs.YtaemjglblfencaaGreatDoor
set_option linter.unusedSimpArgs false
set_option linter.unusedVariables false
open Go.RowKit Kl

theorem infot : (Tryz.prog.info? 70).map (·.size) = some 2 := by kernel_rfl
theorem guard39 : Tryz.prog.eqGuardType Tryz.prog.depth 39 = false := by kernel_rfl
theorem exec_page {l m : List Int} {v : Bool} (hv : decide (l = m) = v) (hl : l.length = 32) (hm : m.length = 32) (ev : Operand → Value) (o : Oper) (w : World) {x y : Operand} {t : TypeId} (ho : o.op = .binOp .eql 39 x y t) (hx : ev x = .agg (u8s l).toArray) (hy : ev y = .agg (u8s m).toArray) : (execOp ev o).run Tryz.prog w = .ok (.value (.bool v)) w := by
  obtain ⟨i5, hi5, hs5⟩ := size_of info5s
  have hb := run_eql_ints (P := Tryz.prog) w 39 5 32 _ .u8 i5 l m Tryz.underlying39 Tryz.underlying5 hi5 hs5 hl hm
  rw [hv] at hb
  unfold execOp
  simp only [ho, hx, hy, Sem.run_bind, run_eqGuard_agg w .eql 39 x y _ _ guard39, Result.andThen_ok, hb, Sem.run_pure]
theorem exec_pageN {l m : List Int} {v : Bool} (hv : decide (l = m) = !v) (hl : l.length = 32) (hm : m.length = 32) (ev : Operand → Value) (o : Oper) (w : World) {x y : Operand} {t : TypeId} (ho : o.op = .binOp .neq 39 x y t) (hx : ev x = .agg (u8s l).toArray) (hy : ev y = .agg (u8s m).toArray) : (execOp ev o).run Tryz.prog w = .ok (.value (.bool v)) w := by
  obtain ⟨i5, hi5, hs5⟩ := size_of info5s
  have hb := run_neq_ints (P := Tryz.prog) w 39 5 32 _ .u8 i5 l m Tryz.underlying39 Tryz.underlying5 hi5 hs5 hl hm
  rw [hv, Bool.not_not] at hb
  unfold execOp
  simp only [ho, hx, hy, Sem.run_bind, run_eqGuard_agg w .neq 39 x y _ _ guard39, Result.andThen_ok, hb, Sem.run_pure]
set_option maxRecDepth 100000 in
theorem clockF_any {w : World} {L : Lay} {ps : List (Option Nat)} {s : Fs} (h : FAt w L ps s) : Calls Tryz.prog 8 #[.pointer (some ⟨L.b, 0, none⟩)] w fun e w' => e = .returned (.pointer (some ⟨L.cb, 0, none⟩)) ∧ w = w' := by
  have c0 := h.blk.cell (i := 0) rfl
  clear h
  go_enter Tryz.func8, Tryz.ntmps8
  go_wp2_with fail
  go_ret
  exact ⟨rfl, rfl⟩
theorem clockF_nil (w : World) : Calls Tryz.prog 8 #[.pointer none] w fun e w' => e = .returned (.pointer none) ∧ w = w' := by
  go_enter Tryz.func8, Tryz.ntmps8
  go_wp2_with fail
  go_ret
  exact ⟨rfl, rfl⟩
set_option maxRecDepth 100000 in
theorem what_any (k : Int) (w : World) : Calls Tryz.prog 33 #[.int .i64 k] w fun e w' => e = .returned (.agg #[.bool (someKey k), .bool (pageKey k)]) ∧ Below w.heap.size w w' := by
  have HB := Lib.hid (two_below w (.cells #[.bool false, .bool false] 70))
  unfold someKey pageKey
  by_cases h0 : k < 0
  · have d0 : decide (k < 0) = true := decide_eq_true h0
    rw [show decide (0 ≤ k) = false by simpa using h0]
    go_enter Tryz.func33, Tryz.ntmps33
    go_wp2_with fail
    exact bodyPost_ret (results_blk rfl _ _ w.heap.size [_, _] _ rfl ((Kl.Blk.newAt _ _ _ rfl rfl).alloc _) Tryz.underlying70 rfl infot) rfl ⟨rfl, two_below _ _ _⟩
  have d0 : decide (k < 0) = false := decide_eq_false h0
  rw [show decide (0 ≤ k) = true by simp; omega]
  by_cases h1 : 72 ≤ k
  · have d1 : decide (72 ≤ k) = true := decide_eq_true h1
    rw [show decide (k < 72) = false by simpa using h1, show decide (k < 64) = false by simp; omega]
    go_enter Tryz.func33, Tryz.ntmps33
    go_wp2_with fail
    exact bodyPost_ret (results_blk rfl _ _ w.heap.size [_, _] _ rfl ((Kl.Blk.newAt _ _ _ rfl rfl).alloc _) Tryz.underlying70 rfl infot) rfl ⟨rfl, two_below _ _ _⟩
  have d1 : decide (72 ≤ k) = false := decide_eq_false h1
  rw [show decide (k < 72) = true by simp; omega]
  by_cases h2 : k < 64
  · have d2 : decide (k < 64) = true := decide_eq_true h2
    rw [d2]
    go_enter Tryz.func33, Tryz.ntmps33
    go_wp2_with fail
    exact bodyPost_ret (results_blk rfl _ _ w.heap.size [_, _] _ rfl ((Kl.Blk.newAt _ _ _ rfl rfl).alloc _) Tryz.underlying70 rfl infot) rfl ⟨rfl, two_below _ _ _⟩
  · have d2 : decide (k < 64) = false := decide_eq_false h2
    rw [d2]
    go_enter Tryz.func33, Tryz.ntmps33
    go_wp2_with fail
    exact bodyPost_ret (results_blk rfl _ _ w.heap.size [_, _] _ rfl ((Kl.Blk.newAt _ _ _ rfl rfl).alloc _) Tryz.underlying70 rfl infot) rfl ⟨rfl, two_below _ _ _⟩
theorem mapKey_any (k : Int) (w : World) : Calls Tryz.prog 36 #[.int .i64 k] w fun e w' => e = .returned (.int .i64 (mapKey k)) ∧ w = w' := by
  unfold mapKey
  by_cases h0 : k < 0
  · have d0 : decide (k < 0) = true := decide_eq_true h0
    rw [if_pos h0]
    go_enter Tryz.func36, Tryz.ntmps36
    go_wp2_with fail
    go_ret
    exact ⟨rfl, rfl⟩
  · have d0 : decide (k < 0) = false := decide_eq_false h0
    rw [if_neg h0]
    go_enter Tryz.func36, Tryz.ntmps36
    go_wp2_with fail
    go_ret
    refine ⟨?_, rfl⟩
    show Ending.returned (Value.int .i64 (RowKit.wrap64 (64 + k))) = _
    rw [show RowKit.wrap64 (64 + k) = IntKind.i64.wrap (64 + k) by rw [IntKind.wrap_i64]; unfold RowKit.wrap64; rfl]


set_option maxRecDepth 100000 in
theorem dirty_nil (w : World) : Calls Tryz.prog 49 #[.pointer none] w fun e w' => e = .returned (.bool false) ∧ Below w.heap.size w w' := by
  go_enter Tryz.func49, Tryz.ntmps49
  go_wp2_with fail
  go_upto_region 1 with fail
  refine startH (fun wq => Below w.heap.size w wq) (by kernel_rfl) ?_
  refine takeH 0 (some 3) (.pointer none) rfl rfl (by kernel_rfl) (by kernel_rfl) (by kernel_rfl) (fun _ _ _ h => h) rfl (fun wq hS => by go_simp) (Below.refl _ _).drew ?_
  try simp only [Act.put, List.setIfInBounds_toArray, List.set_cons_succ, List.set_cons_zero]
  refine takeH 1 (some 4) (.bool false) rfl rfl (by kernel_rfl) (by kernel_rfl) (by kernel_rfl) (fun _ _ _ h => h) rfl (fun wq hS => by go_simp) (Below.refl _ _).drew ?_
  try simp only [Act.put, List.setIfInBounds_toArray, List.set_cons_succ, List.set_cons_zero]
  refine takeH 2 (some 5) (.bool false) rfl rfl (by kernel_rfl) (by kernel_rfl) (by kernel_rfl) (fun _ _ _ h => h) rfl (fun wq hS => by go_simp) (Below.refl _ _).drew ?_
  try simp only [Act.put, List.setIfInBounds_toArray, List.set_cons_succ, List.set_cons_zero]
  refine passH 3 (some 6) rfl rfl (by kernel_rfl) (by kernel_rfl) (by kernel_rfl) (fun _ _ _ h => h) rfl (Below.refl _ _).drew ?_
  try simp only [Act.put, List.setIfInBounds_toArray, List.set_cons_succ, List.set_cons_zero]
  refine passH 4 (some 7) rfl rfl (by kernel_rfl) (by kernel_rfl) (by kernel_rfl) (fun _ _ _ h => h) rfl (Below.refl _ _).drew ?_
  try simp only [Act.put, List.setIfInBounds_toArray, List.set_cons_succ, List.set_cons_zero]
  refine passH 5 (some 8) rfl rfl (by kernel_rfl) (by kernel_rfl) (by kernel_rfl) (fun _ _ _ h => h) rfl (Below.refl _ _).drew ?_
  try simp only [Act.put, List.setIfInBounds_toArray, List.set_cons_succ, List.set_cons_zero]
  refine passH 6 (some 9) rfl rfl (by kernel_rfl) (by kernel_rfl) (by kernel_rfl) (fun _ _ _ h => h) rfl (Below.refl _ _).drew ?_
  try simp only [Act.put, List.setIfInBounds_toArray, List.set_cons_succ, List.set_cons_zero]
  refine passH 7 (some 10) rfl rfl (by kernel_rfl) (by kernel_rfl) (by kernel_rfl) (fun _ _ _ h => h) rfl (Below.refl _ _).drew ?_
  try simp only [Act.put, List.setIfInBounds_toArray, List.set_cons_succ, List.set_cons_zero]
  refine passH 8 (some 11) rfl rfl (by kernel_rfl) (by kernel_rfl) (by kernel_rfl) (fun _ _ _ h => h) rfl (Below.refl _ _).drew ?_
  try simp only [Act.put, List.setIfInBounds_toArray, List.set_cons_succ, List.set_cons_zero]
  refine passH 9 (some 12) rfl rfl (by kernel_rfl) (by kernel_rfl) (by kernel_rfl) (fun _ _ _ h => h) rfl (Below.refl _ _).drew ?_
  try simp only [Act.put, List.setIfInBounds_toArray, List.set_cons_succ, List.set_cons_zero]
  refine passH 10 (some 13) rfl rfl (by kernel_rfl) (by kernel_rfl) (by kernel_rfl) (fun _ _ _ h => h) rfl (Below.refl _ _).drew ?_
  try simp only [Act.put, List.setIfInBounds_toArray, List.set_cons_succ, List.set_cons_zero]
  refine passH 11 (some 14) rfl rfl (by kernel_rfl) (by kernel_rfl) (by kernel_rfl) (fun _ _ _ h => h) rfl (Below.refl _ _).drew ?_
  try simp only [Act.put, List.setIfInBounds_toArray, List.set_cons_succ, List.set_cons_zero]
  refine takeH 12 (some 15) (.bool false) rfl rfl (by kernel_rfl) (by kernel_rfl) (by kernel_rfl) (fun _ _ _ h => h) rfl (fun wq hS => by go_simp) (Below.refl _ _).drew ?_
  try simp only [Act.put, List.setIfInBounds_toArray, List.set_cons_succ, List.set_cons_zero]
  refine takeH 13 (some 2) (.bool false) rfl rfl (by kernel_rfl) (by kernel_rfl) (by kernel_rfl) (fun _ _ _ h => h) rfl (fun wq hS => by go_simp) (Below.refl _ _).drew ?_
  try simp only [Act.put, List.setIfInBounds_toArray, List.set_cons_succ, List.set_cons_zero]
  refine wpAnyH_done (by kernel_rfl) ?_ _
  go_wp2_with fail
  go_ret
  exact ⟨rfl, (Below.refl _ _).drew⟩
set_option maxRecDepth 100000 in
theorem dirty_as (w : World) (g : Nat) (key : Int) (x : Hd) (hx : x.Ok) (hb : Blk w g (encH key x)) (v : Bool) (hv : decide (x.base = x.now) = !v) : Calls Tryz.prog 49 #[.pointer (some ⟨g, 0, none⟩)] w fun e w' => e = .returned (.bool v) ∧ Below w.heap.size w w' := by
  have HX := Lib.hid hx
  have HB := Lib.hid hb
  have HV := Lib.hid hv
  clear hx hb hv
  go_enter Tryz.func49, Tryz.ntmps49
  go_wp2_with fail
  go_upto_region 1 with fail
  refine startH (fun wq => Below w.heap.size w wq) (by kernel_rfl) ?_
  refine takeH 0 (some 3) (.pointer (some ⟨g, 0, none⟩)) rfl rfl (by kernel_rfl) (by kernel_rfl) (by kernel_rfl) (fun _ _ _ h => h) rfl (fun wq hS => by go_simp) (Below.refl _ _).drew ?_
  try simp only [Act.put, List.setIfInBounds_toArray, List.set_cons_succ, List.set_cons_zero]
  refine takeH 1 (some 4) (.bool true) rfl rfl (by kernel_rfl) (by kernel_rfl) (by kernel_rfl) (fun _ _ _ h => h) rfl (fun wq hS => by go_simp) (Below.refl _ _).drew ?_
  try simp only [Act.put, List.setIfInBounds_toArray, List.set_cons_succ, List.set_cons_zero]
  refine takeH 2 (some 5) (.bool true) rfl rfl (by kernel_rfl) (by kernel_rfl) (by kernel_rfl) (fun _ _ _ h => h) rfl (fun wq hS => by go_simp) (Below.refl _ _).drew ?_
  try simp only [Act.put, List.setIfInBounds_toArray, List.set_cons_succ, List.set_cons_zero]
  refine takeH 3 (some 6) (.pointer (some ⟨g, 0, none⟩)) rfl rfl (by kernel_rfl) (by kernel_rfl) (by kernel_rfl) (fun _ _ _ h => h) rfl (fun wq hS => by go_simp) (Below.refl _ _).drew ?_
  try simp only [Act.put, List.setIfInBounds_toArray, List.set_cons_succ, List.set_cons_zero]
  refine takeH 4 (some 7) (.pointer (some ⟨g, 0, none⟩)) rfl rfl (by kernel_rfl) (by kernel_rfl) (by kernel_rfl) (fun _ _ _ h => h) rfl (fun wq hS => by go_simp) (Below.refl _ _).drew ?_
  try simp only [Act.put, List.setIfInBounds_toArray, List.set_cons_succ, List.set_cons_zero]
  refine takeH 5 (some 8) (.pointer (some ⟨g, 1, none⟩)) rfl rfl (by kernel_rfl) (by kernel_rfl) (by kernel_rfl) (fun _ _ _ h => h) rfl (fun wq hS => by go_simp) (Below.refl _ _).drew ?_
  try simp only [Act.put, List.setIfInBounds_toArray, List.set_cons_succ, List.set_cons_zero]
  refine takeH 6 (some 9) (.agg (u8s x.base).toArray) rfl rfl (by kernel_rfl) (by kernel_rfl) (by kernel_rfl) (fun _ _ _ h => h) rfl (fun wq hS => by exact exec_load_at wq _ _ 39 _ rfl (g) (1) rfl ((u8s x.base).toArray) _ Tryz.underlying39 rfl (by rw [u8s_size, HX.out.base.length]; exact info39) (encH_base HX.out (HB.out.below hS HB.out.lt))) (Below.refl _ _).drew ?_
  try simp only [Act.put, List.setIfInBounds_toArray, List.set_cons_succ, List.set_cons_zero]
  refine takeH 7 (some 10) (.pointer (some ⟨g, 0, none⟩)) rfl rfl (by kernel_rfl) (by kernel_rfl) (by kernel_rfl) (fun _ _ _ h => h) rfl (fun wq hS => by go_simp) (Below.refl _ _).drew ?_
  try simp only [Act.put, List.setIfInBounds_toArray, List.set_cons_succ, List.set_cons_zero]
  refine takeH 8 (some 11) (.pointer (some ⟨g, 0, none⟩)) rfl rfl (by kernel_rfl) (by kernel_rfl) (by kernel_rfl) (fun _ _ _ h => h) rfl (fun wq hS => by go_simp) (Below.refl _ _).drew ?_
  try simp only [Act.put, List.setIfInBounds_toArray, List.set_cons_succ, List.set_cons_zero]
  refine takeH 9 (some 12) (.pointer (some ⟨g, 33, none⟩)) rfl rfl (by kernel_rfl) (by kernel_rfl) (by kernel_rfl) (fun _ _ _ h => h) rfl (fun wq hS => by go_simp) (Below.refl _ _).drew ?_
  try simp only [Act.put, List.setIfInBounds_toArray, List.set_cons_succ, List.set_cons_zero]
  refine takeH 10 (some 13) (.agg (u8s x.now).toArray) rfl rfl (by kernel_rfl) (by kernel_rfl) (by kernel_rfl) (fun _ _ _ h => h) rfl (fun wq hS => by exact exec_load_at wq _ _ 39 _ rfl (g) (33) rfl ((u8s x.now).toArray) _ Tryz.underlying39 rfl (by rw [u8s_size, HX.out.now.length]; exact info39) (encH_now HX.out (HB.out.below hS HB.out.lt))) (Below.refl _ _).drew ?_
  try simp only [Act.put, List.setIfInBounds_toArray, List.set_cons_succ, List.set_cons_zero]
  refine takeH 11 (some 14) (.bool v) rfl rfl (by kernel_rfl) (by kernel_rfl) (by kernel_rfl) (fun _ _ _ h => h) rfl (fun wq hS => by exact exec_pageN HV.out HX.out.base.length HX.out.now.length _ _ _ rfl rfl rfl) (Below.refl _ _).drew ?_
  try simp only [Act.put, List.setIfInBounds_toArray, List.set_cons_succ, List.set_cons_zero]
  refine takeH 12 (some 15) (.bool v) rfl rfl (by kernel_rfl) (by kernel_rfl) (by kernel_rfl) (fun _ _ _ h => h) rfl (fun wq hS => by go_simp) (Below.refl _ _).drew ?_
  try simp only [Act.put, List.setIfInBounds_toArray, List.set_cons_succ, List.set_cons_zero]
  refine takeH 13 (some 2) (.bool v) rfl rfl (by kernel_rfl) (by kernel_rfl) (by kernel_rfl) (fun _ _ _ h => h) rfl (fun wq hS => by go_simp) (Below.refl _ _).drew ?_
  try simp only [Act.put, List.setIfInBounds_toArray, List.set_cons_succ, List.set_cons_zero]
  refine wpAnyH_done (by kernel_rfl) ?_ _
  go_wp2_with fail
  go_ret
  exact ⟨rfl, (Below.refl _ _).drew⟩
/-- Is what a frame holds dirty? -/
theorem dirty_any {B k : Nat} {w : World} {L : Lay} {ps : List (Option Nat)} {s : Fs} {f : Fm} (h : FAt w L ps s) (ho : s.Ok B) (hf : s.c.l[k]? = some f) : Calls Tryz.prog 49 #[pv (inn ps k)] w fun e w' => e = .returned (.bool (s.dirtyN k)) ∧ Below w.heap.size w w' := by
  obtain ⟨x, hx, hxo, ⟨h0, g, hg, hb⟩ | ⟨h0, hn⟩⟩ := h.at ho hf
  · rw [inn_nat hg]
    refine dirty_as w g f.key x hxo hb _ ?_
    rw [Fs.dirtyN_at hf hx]
    simp [Fm.K, h0]
  · rw [inn_nat hn]
    have := dirty_nil w
    rwa [show s.dirtyN k = false by rw [Fs.dirtyN_at hf hx]; simp [Fm.K]; omega]

end Go.Proofs.YtaemjglblfencaaGreatDoor
