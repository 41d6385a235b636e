/- Frames made; frames that nobody made. -/
import Derived.Test.YtaemjglblfencaaGreatDoorFh
namespace Go.Proofs.YtaemjglblfencaaGreatDoor
set_option linter.unusedSimpArgs false
set_option linter.unusedVariables false
open Go.RowKit Kl

set_option maxRecDepth 100000 in
theorem New_no (w : World) (n : Int) (hn : n < 1 ∨ 16 < n) : Calls Tryz.prog 6 #[.int .i64 n] w fun e w' => e = .returned (.tuple #[.pointer none, .int .i64 1]) ∧ w = w' := by
  have HC := Lib.hid (new_no w n hn)
  clear hn
  go_enter Tryz.func6, Tryz.ntmps6
  go_wp2_with fail
  refine HC.out.mono ?_
  rintro e w' ⟨rfl, rfl⟩
  go_wp2_with fail
  go_ret2
  exact ⟨rfl, rfl⟩
theorem infoPc : (Tryz.prog.info? 76).map (fun i => (i.zero, i.size, i.bytes)) = some (some (.pointer none), 1, 8) := by kernel_rfl
theorem makeRow (n : Nat) (hn : n ≤ 1000) (w : World) : (Instr.makeSlice 64 (.int .i64 (n : Int)) (.int .i64 (n : Int))).run Tryz.prog w = .ok (.slice (some ⟨w.heap.size, 0, none⟩) n n) (w.alloc (.cells (Array.replicate n (Value.pointer none)) 76)) := by
  obtain ⟨i, hi, hz, hs, hb⟩ : ∃ i, Tryz.prog.info? 76 = some i ∧ i.zero = some (.pointer none) ∧ i.size = 1 ∧ i.bytes = 8 := by
    have := infoPc
    cases hq : Tryz.prog.info? 76 with
    | none => simp [hq] at this
    | some i => simp [hq] at this; exact ⟨i, rfl, this⟩
  have := run_makeSlice (P := Tryz.prog) w 64 76 i _ Tryz.underlying64 hi hz .i64 .i64 n n (by omega) (Int.le_refl _) (by rw [hs]; omega) (by rw [hb]; omega) (by omega)
  rw [hs] at this
  have e : madeCells #[.pointer none] n = Array.replicate n (Value.pointer none) := by
    apply Array.ext_getElem?
    intro q
    by_cases hq : q < n
    · simp [madeCells, hq, Nat.mod_one]
    · simp [madeCells, hq]
  rw [← e]
  rw [Nat.mul_one] at this
  exact this
set_option maxRecDepth 100000 in
theorem New_yes (w : World) (n : Nat) (h1 : 1 ≤ n) (h2 : n ≤ 16) : Calls Tryz.prog 6 #[.int .i64 n] w fun e w' => ∃ L, e = .returned (.tuple #[.pointer (some ⟨L.b, 0, none⟩), .int .i64 0]) ∧ FAt w' L (List.replicate n none) (newFs n) ∧ Below w.heap.size w w' ∧ ∀ k, Foot L (List.replicate n none) k → w.heap.size ≤ k := by
  have HC := Lib.hid (new_yes w n h1 h2)
  have MK := fun w => makeRow n (by omega) w
  go_enter Tryz.func6, Tryz.ntmps6
  go_wp2_with fail
  refine HC.out.mono ?_
  rintro e w1 ⟨cb, cr, rfl, hc, hb, hcb, hcr⟩
  have HC1 := Lib.hid hc
  have HB1 := Lib.hid hb
  have HG := Lib.hid (And.intro hcb hcr)
  clear hc hb hcb hcr
  go_wp2_with fail
  go_ret2
  have hs1 := HB1.out.size
  have hcl := HC1.out.blk.lt
  have hrl := HC1.out.row.lt
  have hb2 := two_below w1 (.cells (Array.replicate n (Value.pointer none)) 76) (.cells #[.pointer (some ⟨cb, 0, none⟩), .slice (some ⟨w1.heap.size, 0, none⟩) n n] 66)
  have hnk : ∀ k, some k ∉ List.replicate n (none : Option Nat) := fun k hk => by have := List.eq_of_mem_replicate hk; cases this
  refine ⟨⟨w1.heap.size + 1, cb, cr, n, w1.heap.size, n⟩, rfl, ⟨Kl.Blk.newAt _ _ _ (by simp) (by simp [newFs, newCk]), HC1.out.below hb2, ?_, by simp [newFs, newCk], fun k f x hf hx h0 => ?_, fun k f hf h0 => ?_, fun i j g hi hj => ?_, fun g hg => absurd hg (hnk g), ?_⟩, HB1.out.trans (hb2.mono hs1), fun k hk => ?_⟩
  · have h3 := (Blk.new w1 (Array.replicate n (Value.pointer none)) 76).alloc (.cells #[.pointer (some ⟨cb, 0, none⟩), .slice (some ⟨w1.heap.size, 0, none⟩) n n] 66)
    simpa [pv] using h3
  · simp only [newFs, newCk, List.getElem?_replicate] at hf
    split at hf
    · cases hf; exact absurd h0 (by decide)
    · cases hf
  · simp only [newFs, newCk, List.getElem?_replicate] at hf ⊢
    split at hf
    · rename_i hkn
      rw [if_pos hkn]
    · cases hf
  · exact absurd (List.mem_of_getElem? hi) (hnk g)
  · have := HC1.out.ne
    simp only
    omega
  · have := HG.out
    simp only [Foot] at hk
    rcases hk with rfl | rfl | rfl | rfl | hk
    · omega
    · exact this.1
    · exact this.2
    · exact hs1
    · exact absurd hk (hnk k)
set_option maxRecDepth 100000 in
theorem hold_nilF (i key : Int) (x : Hd) (w : World) (hk : someKey key = false) : Calls Tryz.prog 34 #[.pointer none, .int .i64 i, .agg (encH key x).toArray] w fun e w' => e = .returned (.bool false) ∧ Below w.heap.size w w' := by
  have HW := Lib.hid (what_any key)
  rw [hk] at HW
  clear hk
  generalize pageKey key = pk at *
  go_enter Tryz.func34, Tryz.ntmps34
  go_upto_region 0 with fail
  refine wp_region_lit ?_
  refine box_g (cs := (encH key x).toArray) rfl rfl ?_
  intro w1 hA hb hl
  try simp only [Act.put, List.setIfInBounds_toArray, List.set_cons_succ, List.set_cons_zero]
  refine takeL (.bool false) rfl (by go_simp) ?_
  try simp only [Act.put, List.setIfInBounds_toArray, List.set_cons_succ, List.set_cons_zero]
  refine wpList_nil ?_
  have HBX : Hid (Blk w1 w.heap.size (encH key x)) := Lib.hid (by simpa using hA)
  have HBW := Lib.hid hb
  clear hA hb hl
  go_upto_region 1 with fail
  refine startH (fun wq => Below w1.heap.size w1 wq) (by kernel_rfl) ?_
  refine takeH 0 (some 7) (.pointer (some ⟨w.heap.size, 0, none⟩)) rfl rfl (by kernel_rfl) (by kernel_rfl) (by kernel_rfl) (fun _ _ _ h => h) rfl (fun wq hS => by go_simp) (Below.refl _ _).drew ?_
  try simp only [Act.put, List.setIfInBounds_toArray, List.set_cons_succ, List.set_cons_zero]
  refine takeH 1 (some 8) (.int .i64 key) rfl rfl (by kernel_rfl) (by kernel_rfl) (by kernel_rfl) (fun _ _ _ h => h) rfl (fun wq hS => by have hq := (HBX.out.below hS HBX.out.lt).cell (i := 0) rfl; go_simp) (Below.refl _ _).drew ?_
  try simp only [Act.put, List.setIfInBounds_toArray, List.set_cons_succ, List.set_cons_zero]
  refine oneH 2 (by kernel_rfl) rfl rfl fun K hK => ?_
  go_simp
  refine (HW.out _).mono ?_
  rintro e v1 ⟨rfl, hb⟩
  have HS1 := Lib.hid (stay ((Below.refl _ _).drew) hb)
  clear hb
  refine hK _ _ HS1.out ?_
  clear hK K
  try simp only [Act.put, List.setIfInBounds_toArray, List.set_cons_succ, List.set_cons_zero]
  refine takeH 3 (some 10) (.bool false) rfl rfl (by kernel_rfl) (by kernel_rfl) (by kernel_rfl) (fun _ _ _ h => h) rfl (fun wq hS => by have hq := fieldts false pk wq; go_simp) HS1.out ?_
  try simp only [Act.put, List.setIfInBounds_toArray, List.set_cons_succ, List.set_cons_zero]
  refine takeH 4 (some 11) (.bool true) rfl rfl (by kernel_rfl) (by kernel_rfl) (by kernel_rfl) (fun _ _ _ h => h) rfl (fun wq hS => by go_simp) HS1.out ?_
  try simp only [Act.put, List.setIfInBounds_toArray, List.set_cons_succ, List.set_cons_zero]
  refine takeH 5 (some 12) (.bool true) rfl rfl (by kernel_rfl) (by kernel_rfl) (by kernel_rfl) (fun _ _ _ h => h) rfl (fun wq hS => by go_simp) HS1.out ?_
  try simp only [Act.put, List.setIfInBounds_toArray, List.set_cons_succ, List.set_cons_zero]
  refine passH 6 (some 13) rfl rfl (by kernel_rfl) (by kernel_rfl) (by kernel_rfl) (fun _ _ _ h => h) rfl HS1.out ?_
  try simp only [Act.put, List.setIfInBounds_toArray, List.set_cons_succ, List.set_cons_zero]
  refine passH 7 (some 14) rfl rfl (by kernel_rfl) (by kernel_rfl) (by kernel_rfl) (fun _ _ _ h => h) rfl HS1.out ?_
  try simp only [Act.put, List.setIfInBounds_toArray, List.set_cons_succ, List.set_cons_zero]
  refine noneH 8 (some 15) (by kernel_rfl) rfl rfl rfl HS1.out ?_
  try simp only [Act.put, List.setIfInBounds_toArray, List.set_cons_succ, List.set_cons_zero]
  refine noneH 9 (some 16) (by kernel_rfl) rfl rfl rfl HS1.out ?_
  try simp only [Act.put, List.setIfInBounds_toArray, List.set_cons_succ, List.set_cons_zero]
  refine takeH 10 (some 17) (.bool true) rfl rfl (by kernel_rfl) (by kernel_rfl) (by kernel_rfl) (fun _ _ _ h => h) rfl (fun wq hS => by go_simp) HS1.out ?_
  try simp only [Act.put, List.setIfInBounds_toArray, List.set_cons_succ, List.set_cons_zero]
  refine takeH 11 (some 18) (.bool true) rfl rfl (by kernel_rfl) (by kernel_rfl) (by kernel_rfl) (fun _ _ _ h => h) rfl (fun wq hS => by go_simp) HS1.out ?_
  try simp only [Act.put, List.setIfInBounds_toArray, List.set_cons_succ, List.set_cons_zero]
  refine passH 12 (some 19) rfl rfl (by kernel_rfl) (by kernel_rfl) (by kernel_rfl) (fun _ _ _ h => h) rfl HS1.out ?_
  try simp only [Act.put, List.setIfInBounds_toArray, List.set_cons_succ, List.set_cons_zero]
  refine passH 14 (some 21) rfl rfl (by kernel_rfl) (by kernel_rfl) (by kernel_rfl) (fun _ _ _ h => h) rfl HS1.out ?_
  try simp only [Act.put, List.setIfInBounds_toArray, List.set_cons_succ, List.set_cons_zero]
  refine passH 15 (some 22) rfl rfl (by kernel_rfl) (by kernel_rfl) (by kernel_rfl) (fun _ _ _ h => h) rfl HS1.out ?_
  try simp only [Act.put, List.setIfInBounds_toArray, List.set_cons_succ, List.set_cons_zero]
  refine passH 16 (some 23) rfl rfl (by kernel_rfl) (by kernel_rfl) (by kernel_rfl) (fun _ _ _ h => h) rfl HS1.out ?_
  try simp only [Act.put, List.setIfInBounds_toArray, List.set_cons_succ, List.set_cons_zero]
  refine noneH 13 (some 20) (by kernel_rfl) rfl rfl rfl HS1.out ?_
  try simp only [Act.put, List.setIfInBounds_toArray, List.set_cons_succ, List.set_cons_zero]
  refine noneH 17 (some 24) (by kernel_rfl) rfl rfl rfl HS1.out ?_
  try simp only [Act.put, List.setIfInBounds_toArray, List.set_cons_succ, List.set_cons_zero]
  refine passH 18 (some 25) rfl rfl (by kernel_rfl) (by kernel_rfl) (by kernel_rfl) (fun _ _ _ h => h) rfl HS1.out ?_
  try simp only [Act.put, List.setIfInBounds_toArray, List.set_cons_succ, List.set_cons_zero]
  refine takeH 19 (some 26) (.bool true) rfl rfl (by kernel_rfl) (by kernel_rfl) (by kernel_rfl) (fun _ _ _ h => h) rfl (fun wq hS => by go_simp) HS1.out ?_
  try simp only [Act.put, List.setIfInBounds_toArray, List.set_cons_succ, List.set_cons_zero]
  refine wpAnyH_done (by kernel_rfl) ?_ _
  go_wp2_with fail
  go_ret
  exact ⟨rfl, HBW.out.trans ((HS1.out).mono HBW.out.size)⟩
set_option maxRecDepth 100000 in
theorem hold_nilT (i key : Int) (x : Hd) (w : World) (hk : someKey key = true) : Calls Tryz.prog 34 #[.pointer none, .int .i64 i, .agg (encH key x).toArray] w fun e w' => e = .returned (.bool false) ∧ Below w.heap.size w w' := by
  have HW := Lib.hid (what_any key)
  rw [hk] at HW
  clear hk
  generalize pageKey key = pk at *
  go_enter Tryz.func34, Tryz.ntmps34
  go_upto_region 0 with fail
  refine wp_region_lit ?_
  refine box_g (cs := (encH key x).toArray) rfl rfl ?_
  intro w1 hA hb hl
  try simp only [Act.put, List.setIfInBounds_toArray, List.set_cons_succ, List.set_cons_zero]
  refine takeL (.bool false) rfl (by go_simp) ?_
  try simp only [Act.put, List.setIfInBounds_toArray, List.set_cons_succ, List.set_cons_zero]
  refine wpList_nil ?_
  have HBX : Hid (Blk w1 w.heap.size (encH key x)) := Lib.hid (by simpa using hA)
  have HBW := Lib.hid hb
  clear hA hb hl
  go_upto_region 1 with fail
  refine startH (fun wq => Below w1.heap.size w1 wq) (by kernel_rfl) ?_
  refine takeH 0 (some 7) (.pointer (some ⟨w.heap.size, 0, none⟩)) rfl rfl (by kernel_rfl) (by kernel_rfl) (by kernel_rfl) (fun _ _ _ h => h) rfl (fun wq hS => by go_simp) (Below.refl _ _).drew ?_
  try simp only [Act.put, List.setIfInBounds_toArray, List.set_cons_succ, List.set_cons_zero]
  refine takeH 1 (some 8) (.int .i64 key) rfl rfl (by kernel_rfl) (by kernel_rfl) (by kernel_rfl) (fun _ _ _ h => h) rfl (fun wq hS => by have hq := (HBX.out.below hS HBX.out.lt).cell (i := 0) rfl; go_simp) (Below.refl _ _).drew ?_
  try simp only [Act.put, List.setIfInBounds_toArray, List.set_cons_succ, List.set_cons_zero]
  refine oneH 2 (by kernel_rfl) rfl rfl fun K hK => ?_
  go_simp
  refine (HW.out _).mono ?_
  rintro e v1 ⟨rfl, hb⟩
  have HS1 := Lib.hid (stay ((Below.refl _ _).drew) hb)
  clear hb
  refine hK _ _ HS1.out ?_
  clear hK K
  try simp only [Act.put, List.setIfInBounds_toArray, List.set_cons_succ, List.set_cons_zero]
  refine takeH 3 (some 10) (.bool true) rfl rfl (by kernel_rfl) (by kernel_rfl) (by kernel_rfl) (fun _ _ _ h => h) rfl (fun wq hS => by have hq := fieldts true pk wq; go_simp) HS1.out ?_
  try simp only [Act.put, List.setIfInBounds_toArray, List.set_cons_succ, List.set_cons_zero]
  refine takeH 4 (some 11) (.bool false) rfl rfl (by kernel_rfl) (by kernel_rfl) (by kernel_rfl) (fun _ _ _ h => h) rfl (fun wq hS => by go_simp) HS1.out ?_
  try simp only [Act.put, List.setIfInBounds_toArray, List.set_cons_succ, List.set_cons_zero]
  refine takeH 5 (some 12) (.bool false) rfl rfl (by kernel_rfl) (by kernel_rfl) (by kernel_rfl) (fun _ _ _ h => h) rfl (fun wq hS => by go_simp) HS1.out ?_
  try simp only [Act.put, List.setIfInBounds_toArray, List.set_cons_succ, List.set_cons_zero]
  refine takeH 6 (some 13) (.pointer none) rfl rfl (by kernel_rfl) (by kernel_rfl) (by kernel_rfl) (fun _ _ _ h => h) rfl (fun wq hS => by go_simp) HS1.out ?_
  try simp only [Act.put, List.setIfInBounds_toArray, List.set_cons_succ, List.set_cons_zero]
  refine takeH 7 (some 14) (.int .i64 i) rfl rfl (by kernel_rfl) (by kernel_rfl) (by kernel_rfl) (fun _ _ _ h => h) rfl (fun wq hS => by go_simp) HS1.out ?_
  try simp only [Act.put, List.setIfInBounds_toArray, List.set_cons_succ, List.set_cons_zero]
  refine oneH 8 (by kernel_rfl) rfl rfl fun K hK => ?_
  go_simp
  refine (in_nil _ i).mono ?_
  rintro e v2 ⟨rfl, hb⟩
  have HS2 := Lib.hid (stay (HS1.out) hb)
  clear hb
  refine hK _ _ HS2.out ?_
  clear hK K
  try simp only [Act.put, List.setIfInBounds_toArray, List.set_cons_succ, List.set_cons_zero]
  refine oneH 9 (by kernel_rfl) rfl rfl fun K hK => ?_
  go_simp
  refine (dirty_nil _).mono ?_
  rintro e v3 ⟨rfl, hb⟩
  have HS3 := Lib.hid (stay (HS2.out) hb)
  clear hb
  refine hK _ _ HS3.out ?_
  clear hK K
  try simp only [Act.put, List.setIfInBounds_toArray, List.set_cons_succ, List.set_cons_zero]
  refine takeH 10 (some 17) (.bool false) rfl rfl (by kernel_rfl) (by kernel_rfl) (by kernel_rfl) (fun _ _ _ h => h) rfl (fun wq hS => by go_simp) HS3.out ?_
  try simp only [Act.put, List.setIfInBounds_toArray, List.set_cons_succ, List.set_cons_zero]
  refine takeH 11 (some 18) (.bool false) rfl rfl (by kernel_rfl) (by kernel_rfl) (by kernel_rfl) (fun _ _ _ h => h) rfl (fun wq hS => by go_simp) HS3.out ?_
  try simp only [Act.put, List.setIfInBounds_toArray, List.set_cons_succ, List.set_cons_zero]
  refine takeH 12 (some 19) (.pointer none) rfl rfl (by kernel_rfl) (by kernel_rfl) (by kernel_rfl) (fun _ _ _ h => h) rfl (fun wq hS => by go_simp) HS3.out ?_
  try simp only [Act.put, List.setIfInBounds_toArray, List.set_cons_succ, List.set_cons_zero]
  refine takeH 14 (some 21) (.int .i64 i) rfl rfl (by kernel_rfl) (by kernel_rfl) (by kernel_rfl) (fun _ _ _ h => h) rfl (fun wq hS => by go_simp) HS3.out ?_
  try simp only [Act.put, List.setIfInBounds_toArray, List.set_cons_succ, List.set_cons_zero]
  refine takeH 15 (some 22) (.pointer (some ⟨w.heap.size, 0, none⟩)) rfl rfl (by kernel_rfl) (by kernel_rfl) (by kernel_rfl) (fun _ _ _ h => h) rfl (fun wq hS => by go_simp) HS3.out ?_
  try simp only [Act.put, List.setIfInBounds_toArray, List.set_cons_succ, List.set_cons_zero]
  refine takeH 16 (some 23) (.int .i64 key) rfl rfl (by kernel_rfl) (by kernel_rfl) (by kernel_rfl) (fun _ _ _ h => h) rfl (fun wq hS => by have hq := (HBX.out.below hS HBX.out.lt).cell (i := 0) rfl; go_simp) HS3.out ?_
  try simp only [Act.put, List.setIfInBounds_toArray, List.set_cons_succ, List.set_cons_zero]
  refine oneH 13 (by kernel_rfl) rfl rfl fun K hK => ?_
  go_simp
  refine (clockF_nil _).mono ?_
  rintro e v4 ⟨rfl, rfl⟩
  refine hK _ _ HS3.out ?_
  clear hK K
  try simp only [Act.put, List.setIfInBounds_toArray, List.set_cons_succ, List.set_cons_zero]
  refine oneH 17 (by kernel_rfl) rfl rfl fun K hK => ?_
  go_simp
  refine (put_nil _ i key).mono ?_
  rintro e v5 ⟨rfl, hb⟩
  have HS5 := Lib.hid (stay (HS3.out) hb)
  clear hb
  refine hK _ _ HS5.out ?_
  clear hK K
  try simp only [Act.put, List.setIfInBounds_toArray, List.set_cons_succ, List.set_cons_zero]
  refine takeH 18 (some 25) (.bool true) rfl rfl (by kernel_rfl) (by kernel_rfl) (by kernel_rfl) (fun _ _ _ h => h) rfl (fun wq hS => by go_simp) HS5.out ?_
  try simp only [Act.put, List.setIfInBounds_toArray, List.set_cons_succ, List.set_cons_zero]
  refine takeH 19 (some 26) (.bool true) rfl rfl (by kernel_rfl) (by kernel_rfl) (by kernel_rfl) (fun _ _ _ h => h) rfl (fun wq hS => by go_simp) HS5.out ?_
  try simp only [Act.put, List.setIfInBounds_toArray, List.set_cons_succ, List.set_cons_zero]
  refine wpAnyH_done (by kernel_rfl) ?_ _
  go_wp2_with fail
  go_ret
  exact ⟨rfl, HBW.out.trans ((HS5.out).mono HBW.out.size)⟩
theorem hold_nil (i key : Int) (x : Hd) (w : World) : Calls Tryz.prog 34 #[.pointer none, .int .i64 i, .agg (encH key x).toArray] w fun e w' => e = .returned (.bool false) ∧ Below w.heap.size w w' := by
  cases hk : someKey key with
  | false => exact hold_nilF i key x w hk
  | true => exact hold_nilT i key x w hk
theorem Hold_nil (i p : Int) (base : List Int) (hl : base.length = 32) (w : World) : Calls Tryz.prog 9 #[.pointer none, .int .i64 i, .int .i64 p, .agg (u8s base).toArray] w fun e w' => e = .returned (.bool false) ∧ Below w.heap.size w w' := by
  cases hp : pageKey p with
  | false => exact Hold_no _ i p base hl hp w
  | true =>
    refine (Hold_yes _ i p base hl hp w false (fun a b => Below a.heap.size a b) fun w' _ => hold_nil i p _ w').mono ?_
    rintro e w' ⟨rfl, w1, hb, hb2⟩
    exact ⟨rfl, stay hb hb2⟩
theorem HoldMap_nil (i id : Int) (heads : List Int) (hl : heads.length = 8) (w : World) : Calls Tryz.prog 12 #[.pointer none, .int .i64 i, .int .i64 id, .agg (i64s heads).toArray] w fun e w' => e = .returned (.bool false) ∧ Below w.heap.size w w' := by
  refine (HoldMap_as _ i id heads hl w false (fun _ => False) (fun h => h) (fun a b => Below a.heap.size a b) (fun a b hb => Only.of_below hb) fun w' _ => hold_nil i _ _ w').mono ?_
  rintro e w' ⟨rfl, w1, hb, hb2⟩
  exact ⟨rfl, stay hb hb2⟩

end Go.Proofs.YtaemjglblfencaaGreatDoor
