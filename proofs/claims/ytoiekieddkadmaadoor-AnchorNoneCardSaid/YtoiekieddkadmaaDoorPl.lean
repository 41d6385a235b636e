/- Package plan's functions, and the statements' own reference of it: what each answers of any geometry, in whatever memory. -/
import Derived.BigQuiet
import Derived.Deep.QuietTactic
import Derived.Test.YtoiekieddkadmaaDoorTo
namespace Go.Proofs.YtoiekieddkadmaaDoor
set_option linter.unusedSimpArgs false
set_option linter.unusedVariables false
open Go.RowKit

abbrev Gm.v (g : Gm) : Value := .agg #[.int .i64 g.p, .int .i64 g.s, .int .i64 g.l, .int .i64 g.f]

theorem within_yes (n a b : Int) (h : a ≤ n ∧ n ≤ b) (w : World) : Calls Tryd.prog 44 #[.int .i64 n, .int .i64 a, .int .i64 b] w fun e w' => e = .returned (.bool true) ∧ w = w' := by
  obtain ⟨h1, h2⟩ := h
  go_enter Tryd.func44, Tryd.ntmps44
  go_wp2_with fail
  go_ret
  exact ⟨rfl, rfl⟩
theorem within_no (n a b : Int) (h : ¬ (a ≤ n ∧ n ≤ b)) (w : World) : Calls Tryd.prog 44 #[.int .i64 n, .int .i64 a, .int .i64 b] w fun e w' => e = .returned (.bool false) ∧ w = w' := by
  by_cases h1 : a ≤ n
  · have h2 : ¬ n ≤ b := fun h2 => h ⟨h1, h2⟩
    clear h
    go_enter Tryd.func44, Tryd.ntmps44
    go_wp2_with fail
    go_ret
    exact ⟨rfl, rfl⟩
  · clear h
    go_enter Tryd.func44, Tryd.ntmps44
    go_wp2_with fail
    go_ret
    exact ⟨rfl, rfl⟩

theorem good_yes (g : Gm) (h : g.Ok) (w : World) : Calls Tryd.prog 33 #[g.v] w fun e w' => e = .returned (.bool true) ∧ Below w.heap.size w w' := by
  obtain ⟨h1, h2, h3, h4⟩ := h
  have H1 := Lib.hid fun w => within_yes g.p 1 64 h1 w
  have H2 := Lib.hid fun w => within_yes g.s 6 16 h2 w
  have H3 := Lib.hid fun w => within_yes g.l 24 32 h3 w
  have H4 := Lib.hid fun w => within_yes g.f 2 16 h4 w
  clear h1 h2 h3 h4
  go_enter Tryd.func33, Tryd.ntmps33
  go_wp2_with fail
  refine (H1.out _).mono ?_
  rintro e w1 ⟨rfl, rfl⟩
  go_wp2_with fail
  refine (H2.out _).mono ?_
  rintro e w1 ⟨rfl, rfl⟩
  go_wp2_with fail
  refine (H3.out _).mono ?_
  rintro e w1 ⟨rfl, rfl⟩
  go_wp2_with fail
  refine (H4.out _).mono ?_
  rintro e w1 ⟨rfl, rfl⟩
  go_wp2_with fail
  go_ret
  exact ⟨rfl, (Below.refl _ _).alloc (Nat.le_refl _) _⟩
theorem good_no (g : Gm) (h : ¬ g.Ok) (w : World) : Calls Tryd.prog 33 #[g.v] w fun e w' => e = .returned (.bool false) ∧ Below w.heap.size w w' := by
  by_cases h1 : 1 ≤ g.p ∧ g.p ≤ 64
  · have H1 := Lib.hid fun w => within_yes g.p 1 64 h1 w
    by_cases h2 : 6 ≤ g.s ∧ g.s ≤ 16
    · have H2 := Lib.hid fun w => within_yes g.s 6 16 h2 w
      by_cases h3 : 24 ≤ g.l ∧ g.l ≤ 32
      · have H3 := Lib.hid fun w => within_yes g.l 24 32 h3 w
        have H4 := Lib.hid fun w => within_no g.f 2 16 (fun h4 => h ⟨h1, h2, h3, h4⟩) w
        clear h1 h2 h3 h
        go_enter Tryd.func33, Tryd.ntmps33
        go_wp2_with fail
        refine (H1.out _).mono ?_
        rintro e w1 ⟨rfl, rfl⟩
        go_wp2_with fail
        refine (H2.out _).mono ?_
        rintro e w1 ⟨rfl, rfl⟩
        go_wp2_with fail
        refine (H3.out _).mono ?_
        rintro e w1 ⟨rfl, rfl⟩
        go_wp2_with fail
        refine (H4.out _).mono ?_
        rintro e w1 ⟨rfl, rfl⟩
        go_wp2_with fail
        go_ret
        exact ⟨rfl, (Below.refl _ _).alloc (Nat.le_refl _) _⟩
      · have H3 := Lib.hid fun w => within_no g.l 24 32 h3 w
        clear h1 h2 h3 h
        go_enter Tryd.func33, Tryd.ntmps33
        go_wp2_with fail
        refine (H1.out _).mono ?_
        rintro e w1 ⟨rfl, rfl⟩
        go_wp2_with fail
        refine (H2.out _).mono ?_
        rintro e w1 ⟨rfl, rfl⟩
        go_wp2_with fail
        refine (H3.out _).mono ?_
        rintro e w1 ⟨rfl, rfl⟩
        go_wp2_with fail
        go_ret
        exact ⟨rfl, (Below.refl _ _).alloc (Nat.le_refl _) _⟩
    · have H2 := Lib.hid fun w => within_no g.s 6 16 h2 w
      clear h1 h2 h
      go_enter Tryd.func33, Tryd.ntmps33
      go_wp2_with fail
      refine (H1.out _).mono ?_
      rintro e w1 ⟨rfl, rfl⟩
      go_wp2_with fail
      refine (H2.out _).mono ?_
      rintro e w1 ⟨rfl, rfl⟩
      go_wp2_with fail
      go_ret
      exact ⟨rfl, (Below.refl _ _).alloc (Nat.le_refl _) _⟩
  · have H1 := Lib.hid fun w => within_no g.p 1 64 h1 w
    clear h1 h
    go_enter Tryd.func33, Tryd.ntmps33
    go_wp2_with fail
    refine (H1.out _).mono ?_
    rintro e w1 ⟨rfl, rfl⟩
    go_wp2_with fail
    go_ret
    exact ⟨rfl, (Below.refl _ _).alloc (Nat.le_refl _) _⟩
theorem begin_segs (g : Gm) (w : World) : Calls Tryd.prog 38 #[g.v, .int .i64 1] w fun e w' => e = .returned (.int .i64 4) ∧ Below w.heap.size w w' := by
  go_enter Tryd.func38, Tryd.ntmps38
  go_wp2_with fail
  go_ret
  exact ⟨rfl, (Below.refl _ _).alloc (Nat.le_refl _) _⟩
theorem ret_int {a b : Int} (h : a = b) : Ending.returned (.int .i64 a) = Ending.returned (.int .i64 b) := congrArg (fun n => Ending.returned (.int .i64 n)) h
/-- A product of two that are small is small. -/
theorem small_mul {a b A B : Int} (h0 : 0 ≤ a) (h1 : a ≤ A) (k0 : 0 ≤ b) (k1 : b ≤ B) : 0 ≤ a * b ∧ a * b ≤ A * B :=
  ⟨Int.mul_nonneg h0 k0, Int.mul_le_mul h1 k1 k0 (by omega)⟩
theorem Gm.Ok.area {g : Gm} (h : g.Ok) : 0 ≤ g.s * g.l ∧ g.s * g.l ≤ 512 := by
  obtain ⟨_, ⟨h3, h4⟩, ⟨h5, h6⟩, _⟩ := h
  exact small_mul (by omega) h4 (by omega) h6
theorem begin_behind (g : Gm) (h : g.Ok) (w : World) : Calls Tryd.prog 38 #[g.v, .int .i64 2] w fun e w' => e = .returned (.int .i64 (4 + g.s * g.l)) ∧ Below w.heap.size w w' := by
  obtain ⟨a0, a1⟩ := h.area
  go_enter Tryd.func38, Tryd.ntmps38
  go_wp2_with fail
  go_ret
  exact ⟨ret_int (by omega), (Below.refl _ _).alloc (Nat.le_refl _) _⟩

/-- A geometry that lies in memory. -/
structure GAt (w : World) (b : Nat) (g : Gm) : Prop where
  p : w.cell? ⟨b, 0, none⟩ = some (.int .i64 g.p)
  s : w.cell? ⟨b, 1, none⟩ = some (.int .i64 g.s)
  l : w.cell? ⟨b, 2, none⟩ = some (.int .i64 g.l)
  f : w.cell? ⟨b, 3, none⟩ = some (.int .i64 g.f)
theorem GAt.below {w w' : World} {b B : Nat} {g : Gm} (h : GAt w b g) (hb : Below B w w') (hlt : b < B) : GAt w' b g :=
  ⟨(hb.cell hlt).trans h.p, (hb.cell hlt).trans h.s, (hb.cell hlt).trans h.l, (hb.cell hlt).trans h.f⟩
abbrev Gm.box (g : Gm) (w : World) : World := w.alloc (.cells #[.int .i64 g.p, .int .i64 g.s, .int .i64 g.l, .int .i64 g.f] 24)
theorem GAt.box (g : Gm) (w : World) : GAt (g.box w) w.heap.size g := by
  have h : (g.box w).heap[w.heap.size]? = some (.cells #[.int .i64 g.p, .int .i64 g.s, .int .i64 g.l, .int .i64 g.f] 24 (0, 0)) := heap_alloc_new w _
  exact ⟨cell_of_row _ _ 0 _ _ _ h, cell_of_row _ _ 1 _ _ _ h, cell_of_row _ _ 2 _ _ _ h, cell_of_row _ _ 3 _ _ _ h⟩
theorem box_below (g : Gm) (w : World) : Below w.heap.size w (g.box w) := (Below.refl _ _).alloc (Nat.le_refl _) _
/-- Behind a call in a world that a box was made in. -/
theorem box_call {g : Gm} {w w1 : World} (hb : Below (g.box w).heap.size (g.box w) w1) : Below w.heap.size w w1 ∧ GAt w1 w.heap.size g ∧ w.heap.size < w1.heap.size :=
  ⟨(box_below g w).trans (hb.mono (by simp)), (GAt.box g w).below hb (by simp), Nat.lt_of_lt_of_le (by simp) hb.size⟩
theorem further {w w1 w2 : World} {b : Nat} {g : Gm} (h : Below w.heap.size w w1 ∧ GAt w1 b g ∧ b < w1.heap.size) (hb : Below w1.heap.size w1 w2) : Below w.heap.size w w2 ∧ GAt w2 b g ∧ b < w2.heap.size :=
  ⟨h.1.trans (hb.mono h.1.size), h.2.1.below hb h.2.2, Nat.lt_of_lt_of_le h.2.2 hb.size⟩

theorem maps_no (g : Gm) (h : ¬ g.Ok) (w : World) : Calls Tryd.prog 45 #[g.v] w fun e w' => e = .returned (.int .i64 0) ∧ Below w.heap.size w w' := by
  have H := Lib.hid fun w => good_no g h w
  clear h
  go_enter Tryd.func45, Tryd.ntmps45
  go_wp2_with fail
  refine (H.out _).mono ?_
  rintro e w1 ⟨rfl, hb⟩
  have HB := Lib.hid (box_call hb)
  clear hb
  go_wp2_with fail
  go_ret
  exact ⟨rfl, HB.out.1⟩
theorem maps_yes (g : Gm) (h : g.Ok) (w : World) : Calls Tryd.prog 45 #[g.v] w fun e w' => e = .returned (.int .i64 g.maps) ∧ Below w.heap.size w w' := by
  have H := Lib.hid fun w => good_yes g h w
  obtain ⟨⟨h1, h2⟩, _, _, _⟩ := h
  go_enter Tryd.func45, Tryd.ntmps45
  go_wp2_with fail
  refine (H.out _).mono ?_
  rintro e w1 ⟨rfl, hb⟩
  have HB := Lib.hid (box_call hb)
  clear hb
  have c0 := HB.out.2.1.p
  go_wp2_with fail
  go_ret
  exact ⟨ret_int (by unfold Gm.maps; rw [Int.tdiv_eq_ediv_of_nonneg (by omega)]; omega), HB.out.1⟩
theorem of_no (g : Gm) (h : ¬ g.Ok) (n : Int) (w : World) : Calls Tryd.prog 46 #[g.v, .int .i64 n] w fun e w' => e = .returned (.tuple #[.int .i64 0, .int .i64 0, .bool false]) ∧ Below w.heap.size w w' := by
  have H := Lib.hid fun w => good_no g h w
  have HG : Hid (GAt (g.box w) w.heap.size g ∧ w.heap.size < (g.box w).heap.size) := Lib.hid ⟨GAt.box g w, by simp⟩
  clear h
  go_enter Tryd.func46, Tryd.ntmps46
  go_wp2_with fail
  refine startH (fun wq => Below (g.box w).heap.size (g.box w) wq) (by kernel_rfl) ?_
  refine takeH 0 (some 8) (g.v) rfl rfl (by kernel_rfl) (by kernel_rfl) (by kernel_rfl) (fun _ _ _ h => h) rfl (fun w hS => by obtain ⟨c0, c1, c2, c3⟩ := HG.out.1.below hS HG.out.2; go_simp) (Below.refl _ _).drew ?_
  try simp only [Act.put, List.setIfInBounds_toArray, List.set_cons_succ, List.set_cons_zero]
  refine oneH 1 (by kernel_rfl) rfl rfl fun K hK => ?_
  go_simp
  refine (H.out _).mono ?_
  rintro e w1 ⟨rfl, hb⟩
  have HS1 := Lib.hid (stay (Below.refl _ _).drew hb)
  refine hK _ _ HS1.out ?_
  clear hK hb K
  try simp only [Act.put, List.setIfInBounds_toArray, List.set_cons_succ, List.set_cons_zero]
  refine takeH 2 (some 10) (.bool true) rfl rfl (by kernel_rfl) (by kernel_rfl) (by kernel_rfl) (fun _ _ _ h => h) rfl (fun w _ => by go_simp) HS1.out ?_
  try simp only [Act.put, List.setIfInBounds_toArray, List.set_cons_succ, List.set_cons_zero]
  refine takeH 3 (some 11) (.bool true) rfl rfl (by kernel_rfl) (by kernel_rfl) (by kernel_rfl) (fun _ _ _ h => h) rfl (fun w _ => by go_simp) HS1.out ?_
  try simp only [Act.put, List.setIfInBounds_toArray, List.set_cons_succ, List.set_cons_zero]
  refine passH 4 (some 12) rfl rfl (by kernel_rfl) (by kernel_rfl) (by kernel_rfl) (fun _ _ _ h => h) rfl HS1.out ?_
  try simp only [Act.put, List.setIfInBounds_toArray, List.set_cons_succ, List.set_cons_zero]
  refine passH 5 (some 13) rfl rfl (by kernel_rfl) (by kernel_rfl) (by kernel_rfl) (fun _ _ _ h => h) rfl HS1.out ?_
  try simp only [Act.put, List.setIfInBounds_toArray, List.set_cons_succ, List.set_cons_zero]
  refine passH 6 (some 14) rfl rfl (by kernel_rfl) (by kernel_rfl) (by kernel_rfl) (fun _ _ _ h => h) rfl HS1.out ?_
  try simp only [Act.put, List.setIfInBounds_toArray, List.set_cons_succ, List.set_cons_zero]
  refine passH 7 (some 15) rfl rfl (by kernel_rfl) (by kernel_rfl) (by kernel_rfl) (fun _ _ _ h => h) rfl HS1.out ?_
  try simp only [Act.put, List.setIfInBounds_toArray, List.set_cons_succ, List.set_cons_zero]
  refine passH 8 (some 16) rfl rfl (by kernel_rfl) (by kernel_rfl) (by kernel_rfl) (fun _ _ _ h => h) rfl HS1.out ?_
  try simp only [Act.put, List.setIfInBounds_toArray, List.set_cons_succ, List.set_cons_zero]
  refine passH 9 (some 17) rfl rfl (by kernel_rfl) (by kernel_rfl) (by kernel_rfl) (fun _ _ _ h => h) rfl HS1.out ?_
  try simp only [Act.put, List.setIfInBounds_toArray, List.set_cons_succ, List.set_cons_zero]
  refine passH 10 (some 18) rfl rfl (by kernel_rfl) (by kernel_rfl) (by kernel_rfl) (fun _ _ _ h => h) rfl HS1.out ?_
  try simp only [Act.put, List.setIfInBounds_toArray, List.set_cons_succ, List.set_cons_zero]
  refine passH 11 (some 19) rfl rfl (by kernel_rfl) (by kernel_rfl) (by kernel_rfl) (fun _ _ _ h => h) rfl HS1.out ?_
  try simp only [Act.put, List.setIfInBounds_toArray, List.set_cons_succ, List.set_cons_zero]
  refine takeH 12 (some 20) (.bool true) rfl rfl (by kernel_rfl) (by kernel_rfl) (by kernel_rfl) (fun _ _ _ h => h) rfl (fun w _ => by go_simp) HS1.out ?_
  try simp only [Act.put, List.setIfInBounds_toArray, List.set_cons_succ, List.set_cons_zero]
  refine wpAnyH_done (by kernel_rfl) ?_ _
  go_wp2_with fail
  go_ret3
  exact ⟨rfl, (box_below g w).trans (HS1.out.mono (B' := w.heap.size) (by simp))⟩
theorem of_out (g : Gm) (h : g.Ok) (n : Int) (hn : ¬ (4 ≤ n ∧ n ≤ 4 + g.s * g.l - 1)) (w : World) : Calls Tryd.prog 46 #[g.v, .int .i64 n] w fun e w' => e = .returned (.tuple #[.int .i64 0, .int .i64 0, .bool false]) ∧ Below w.heap.size w w' := by
  have HW := Lib.hid fun w => within_no n 4 (4 + g.s * g.l - 1) hn w
  have H9 := Lib.hid fun w => good_yes g h w
  have HB1 := Lib.hid fun w => begin_segs g w
  have HB2 := Lib.hid fun w => begin_behind g h w
  obtain ⟨a0, a1⟩ := h.area
  have HG : Hid (GAt (g.box w) w.heap.size g ∧ w.heap.size < (g.box w).heap.size) := Lib.hid ⟨GAt.box g w, by simp⟩
  clear h hn
  go_enter Tryd.func46, Tryd.ntmps46
  go_wp2_with fail
  refine startH (fun wq => Below (g.box w).heap.size (g.box w) wq) (by kernel_rfl) ?_
  refine takeH 0 (some 8) (g.v) rfl rfl (by kernel_rfl) (by kernel_rfl) (by kernel_rfl) (fun _ _ _ h => h) rfl (fun w hS => by obtain ⟨c0, c1, c2, c3⟩ := HG.out.1.below hS HG.out.2; go_simp) (Below.refl _ _).drew ?_
  try simp only [Act.put, List.setIfInBounds_toArray, List.set_cons_succ, List.set_cons_zero]
  refine oneH 1 (by kernel_rfl) rfl rfl fun K hK => ?_
  go_simp
  refine (H9.out _).mono ?_
  rintro e w1 ⟨rfl, hb⟩
  have HS1 := Lib.hid (stay (Below.refl _ _).drew hb)
  refine hK _ _ HS1.out ?_
  clear hK hb K
  try simp only [Act.put, List.setIfInBounds_toArray, List.set_cons_succ, List.set_cons_zero]
  refine takeH 2 (some 10) (.bool false) rfl rfl (by kernel_rfl) (by kernel_rfl) (by kernel_rfl) (fun _ _ _ h => h) rfl (fun w _ => by go_simp) HS1.out ?_
  try simp only [Act.put, List.setIfInBounds_toArray, List.set_cons_succ, List.set_cons_zero]
  refine takeH 3 (some 11) (.bool false) rfl rfl (by kernel_rfl) (by kernel_rfl) (by kernel_rfl) (fun _ _ _ h => h) rfl (fun w _ => by go_simp) HS1.out ?_
  try simp only [Act.put, List.setIfInBounds_toArray, List.set_cons_succ, List.set_cons_zero]
  refine takeH 4 (some 12) (.int .i64 n) rfl rfl (by kernel_rfl) (by kernel_rfl) (by kernel_rfl) (fun _ _ _ h => h) rfl (fun w _ => by go_simp) HS1.out ?_
  try simp only [Act.put, List.setIfInBounds_toArray, List.set_cons_succ, List.set_cons_zero]
  refine takeH 5 (some 13) (g.v) rfl rfl (by kernel_rfl) (by kernel_rfl) (by kernel_rfl) (fun _ _ _ h => h) rfl (fun w hS => by obtain ⟨c0, c1, c2, c3⟩ := HG.out.1.below hS HG.out.2; go_simp) HS1.out ?_
  try simp only [Act.put, List.setIfInBounds_toArray, List.set_cons_succ, List.set_cons_zero]
  refine takeH 7 (some 15) (g.v) rfl rfl (by kernel_rfl) (by kernel_rfl) (by kernel_rfl) (fun _ _ _ h => h) rfl (fun w hS => by obtain ⟨c0, c1, c2, c3⟩ := HG.out.1.below hS HG.out.2; go_simp) HS1.out ?_
  try simp only [Act.put, List.setIfInBounds_toArray, List.set_cons_succ, List.set_cons_zero]
  refine oneH 6 (by kernel_rfl) rfl rfl fun K hK => ?_
  go_simp
  refine (HB1.out _).mono ?_
  rintro e w2 ⟨rfl, hb⟩
  have HS2 := Lib.hid (stay HS1.out hb)
  refine hK _ _ HS2.out ?_
  clear hK hb K
  try simp only [Act.put, List.setIfInBounds_toArray, List.set_cons_succ, List.set_cons_zero]
  refine oneH 8 (by kernel_rfl) rfl rfl fun K hK => ?_
  go_simp
  refine (HB2.out _).mono ?_
  rintro e w3 ⟨rfl, hb⟩
  have HS3 := Lib.hid (stay HS2.out hb)
  refine hK _ _ HS3.out ?_
  clear hK hb K
  try simp only [Act.put, List.setIfInBounds_toArray, List.set_cons_succ, List.set_cons_zero]
  refine takeH 9 (some 17) (.int .i64 ((4 + g.s * g.l) - 1)) rfl rfl (by kernel_rfl) (by kernel_rfl) (by kernel_rfl) (fun _ _ _ h => h) rfl (fun w _ => by go_simp <;> first | done | (go_ints; first | done | trivial)) HS3.out ?_
  try simp only [Act.put, List.setIfInBounds_toArray, List.set_cons_succ, List.set_cons_zero]
  refine oneH 10 (by kernel_rfl) rfl rfl fun K hK => ?_
  go_simp
  refine (HW.out _).mono ?_
  rintro e w4 ⟨rfl, rfl⟩
  refine hK _ _ HS3.out ?_
  clear hK K
  try simp only [Act.put, List.setIfInBounds_toArray, List.set_cons_succ, List.set_cons_zero]
  refine takeH 11 (some 19) (.bool true) rfl rfl (by kernel_rfl) (by kernel_rfl) (by kernel_rfl) (fun _ _ _ h => h) rfl (fun w _ => by go_simp) HS3.out ?_
  try simp only [Act.put, List.setIfInBounds_toArray, List.set_cons_succ, List.set_cons_zero]
  refine takeH 12 (some 20) (.bool true) rfl rfl (by kernel_rfl) (by kernel_rfl) (by kernel_rfl) (fun _ _ _ h => h) rfl (fun w _ => by go_simp) HS3.out ?_
  try simp only [Act.put, List.setIfInBounds_toArray, List.set_cons_succ, List.set_cons_zero]
  refine wpAnyH_done (by kernel_rfl) ?_ _
  go_wp2_with fail
  go_ret3
  exact ⟨rfl, (box_below g w).trans (HS3.out.mono (B' := w.heap.size) (by simp))⟩
theorem of_in (g : Gm) (h : g.Ok) (n : Int) (hn : 4 ≤ n ∧ n ≤ 4 + g.s * g.l - 1) (w : World) : Calls Tryd.prog 46 #[g.v, .int .i64 n] w fun e w' => e = .returned (.tuple #[.int .i64 ((n - 4) / g.l), .int .i64 ((n - 4) % g.l), .bool true]) ∧ Below w.heap.size w w' := by
  have HW := Lib.hid fun w => within_yes n 4 (4 + g.s * g.l - 1) hn w
  have H9 := Lib.hid fun w => good_yes g h w
  have HB1 := Lib.hid fun w => begin_segs g w
  have HB2 := Lib.hid fun w => begin_behind g h w
  obtain ⟨a0, a1⟩ := h.area
  have HG : Hid (GAt (g.box w) w.heap.size g ∧ w.heap.size < (g.box w).heap.size) := Lib.hid ⟨GAt.box g w, by simp⟩
  obtain ⟨_, _, ⟨h5, h6⟩, _⟩ := h
  obtain ⟨hn1, hn2⟩ := hn
  go_enter Tryd.func46, Tryd.ntmps46
  go_wp2_with fail
  refine startH (fun wq => Below (g.box w).heap.size (g.box w) wq) (by kernel_rfl) ?_
  refine takeH 0 (some 8) (g.v) rfl rfl (by kernel_rfl) (by kernel_rfl) (by kernel_rfl) (fun _ _ _ h => h) rfl (fun w hS => by obtain ⟨c0, c1, c2, c3⟩ := HG.out.1.below hS HG.out.2; go_simp) (Below.refl _ _).drew ?_
  try simp only [Act.put, List.setIfInBounds_toArray, List.set_cons_succ, List.set_cons_zero]
  refine oneH 1 (by kernel_rfl) rfl rfl fun K hK => ?_
  go_simp
  refine (H9.out _).mono ?_
  rintro e w1 ⟨rfl, hb⟩
  have HS1 := Lib.hid (stay (Below.refl _ _).drew hb)
  refine hK _ _ HS1.out ?_
  clear hK hb K
  try simp only [Act.put, List.setIfInBounds_toArray, List.set_cons_succ, List.set_cons_zero]
  refine takeH 2 (some 10) (.bool false) rfl rfl (by kernel_rfl) (by kernel_rfl) (by kernel_rfl) (fun _ _ _ h => h) rfl (fun w _ => by go_simp) HS1.out ?_
  try simp only [Act.put, List.setIfInBounds_toArray, List.set_cons_succ, List.set_cons_zero]
  refine takeH 3 (some 11) (.bool false) rfl rfl (by kernel_rfl) (by kernel_rfl) (by kernel_rfl) (fun _ _ _ h => h) rfl (fun w _ => by go_simp) HS1.out ?_
  try simp only [Act.put, List.setIfInBounds_toArray, List.set_cons_succ, List.set_cons_zero]
  refine takeH 4 (some 12) (.int .i64 n) rfl rfl (by kernel_rfl) (by kernel_rfl) (by kernel_rfl) (fun _ _ _ h => h) rfl (fun w _ => by go_simp) HS1.out ?_
  try simp only [Act.put, List.setIfInBounds_toArray, List.set_cons_succ, List.set_cons_zero]
  refine takeH 5 (some 13) (g.v) rfl rfl (by kernel_rfl) (by kernel_rfl) (by kernel_rfl) (fun _ _ _ h => h) rfl (fun w hS => by obtain ⟨c0, c1, c2, c3⟩ := HG.out.1.below hS HG.out.2; go_simp) HS1.out ?_
  try simp only [Act.put, List.setIfInBounds_toArray, List.set_cons_succ, List.set_cons_zero]
  refine takeH 7 (some 15) (g.v) rfl rfl (by kernel_rfl) (by kernel_rfl) (by kernel_rfl) (fun _ _ _ h => h) rfl (fun w hS => by obtain ⟨c0, c1, c2, c3⟩ := HG.out.1.below hS HG.out.2; go_simp) HS1.out ?_
  try simp only [Act.put, List.setIfInBounds_toArray, List.set_cons_succ, List.set_cons_zero]
  refine oneH 6 (by kernel_rfl) rfl rfl fun K hK => ?_
  go_simp
  refine (HB1.out _).mono ?_
  rintro e w2 ⟨rfl, hb⟩
  have HS2 := Lib.hid (stay HS1.out hb)
  refine hK _ _ HS2.out ?_
  clear hK hb K
  try simp only [Act.put, List.setIfInBounds_toArray, List.set_cons_succ, List.set_cons_zero]
  refine oneH 8 (by kernel_rfl) rfl rfl fun K hK => ?_
  go_simp
  refine (HB2.out _).mono ?_
  rintro e w3 ⟨rfl, hb⟩
  have HS3 := Lib.hid (stay HS2.out hb)
  refine hK _ _ HS3.out ?_
  clear hK hb K
  try simp only [Act.put, List.setIfInBounds_toArray, List.set_cons_succ, List.set_cons_zero]
  refine takeH 9 (some 17) (.int .i64 ((4 + g.s * g.l) - 1)) rfl rfl (by kernel_rfl) (by kernel_rfl) (by kernel_rfl) (fun _ _ _ h => h) rfl (fun w _ => by go_simp <;> first | done | (go_ints; first | done | trivial)) HS3.out ?_
  try simp only [Act.put, List.setIfInBounds_toArray, List.set_cons_succ, List.set_cons_zero]
  refine oneH 10 (by kernel_rfl) rfl rfl fun K hK => ?_
  go_simp
  refine (HW.out _).mono ?_
  rintro e w4 ⟨rfl, rfl⟩
  refine hK _ _ HS3.out ?_
  clear hK K
  try simp only [Act.put, List.setIfInBounds_toArray, List.set_cons_succ, List.set_cons_zero]
  refine takeH 11 (some 19) (.bool false) rfl rfl (by kernel_rfl) (by kernel_rfl) (by kernel_rfl) (fun _ _ _ h => h) rfl (fun w _ => by go_simp) HS3.out ?_
  try simp only [Act.put, List.setIfInBounds_toArray, List.set_cons_succ, List.set_cons_zero]
  refine takeH 12 (some 20) (.bool false) rfl rfl (by kernel_rfl) (by kernel_rfl) (by kernel_rfl) (fun _ _ _ h => h) rfl (fun w _ => by go_simp) HS3.out ?_
  try simp only [Act.put, List.setIfInBounds_toArray, List.set_cons_succ, List.set_cons_zero]
  refine wpAnyH_done (by kernel_rfl) ?_ _
  obtain ⟨c0, c1, c2, c3⟩ := HG.out.1.below HS3.out HG.out.2
  go_wp2_with fail
  refine (HB1.out _).mono ?_
  rintro e wA ⟨rfl, hb⟩
  have HSA := Lib.hid (stay HS3.out hb)
  obtain ⟨c0, c1, c2, c3⟩ := HG.out.1.below HSA.out HG.out.2
  clear hb
  go_wp2_with fail
  go_quiet (fail)
  go_wp2_with fail
  go_ret3
  exact ⟨rfl, drewN_below ((box_below g w).trans (HSA.out.mono (B' := w.heap.size) (by simp))) nq⟩
end Go.Proofs.YtoiekieddkadmaaDoor
