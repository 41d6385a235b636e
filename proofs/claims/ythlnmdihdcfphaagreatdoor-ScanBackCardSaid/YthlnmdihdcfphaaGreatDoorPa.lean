/- Pa: texts of elder seats turned: what the stage needs of them. -/
import Derived.Test.YthlnmdihdcfphaaGreatDoorGa
import Derived.Test.YthlnmdihdcfphaaGreatDoorGb
import Derived.WalkKit
import Derived.WalkSpells
import Derived.WalkLawsBesides
import Derived.BigQuiet
import Derived.Deep.QuietTactic
import Derived.Deep.LoopGhost
import Derived.Lib.Hide
import Derived.Deep.DeepFit
import Derived.Deep.DeepMust
import Derived.OrdersHeld
import Derived.Laws.Rows
namespace Go.Proofs.YthlnmdihdcfphaaGreatDoor
set_option linter.unusedSimpArgs false
set_option linter.unusedVariables false
open Go.RowKit

namespace Pl
open Go.RowKit
/-- A geometry: its pages, its segments, a segment's sectors, its frames. -/
structure Gm where
  p : Int
  s : Int
  l : Int
  f : Int
def Gm.Ok (g : Gm) : Prop := (1 ≤ g.p ∧ g.p ≤ 64) ∧ (6 ≤ g.s ∧ g.s ≤ 16) ∧ (24 ≤ g.l ∧ g.l ≤ 32) ∧ (2 ≤ g.f ∧ g.f ≤ 16)
abbrev Gm.v (g : Gm) : Value := .agg #[.int .i64 g.p, .int .i64 g.s, .int .i64 g.l, .int .i64 g.f]
theorem within_yes (n a b : Int) (h : a ≤ n ∧ n ≤ b) (w : World) : Calls Tryz.prog 60 #[.int .i64 n, .int .i64 a, .int .i64 b] w fun e w' => e = .returned (.bool true) ∧ w = w' := by
  obtain ⟨h1, h2⟩ := h
  go_enter Tryz.func60, Tryz.ntmps60
  go_wp2_with fail
  go_ret
  exact ⟨rfl, rfl⟩
theorem within_no (n a b : Int) (h : ¬ (a ≤ n ∧ n ≤ b)) (w : World) : Calls Tryz.prog 60 #[.int .i64 n, .int .i64 a, .int .i64 b] w fun e w' => e = .returned (.bool false) ∧ w = w' := by
  by_cases h1 : a ≤ n
  · have h2 : ¬ n ≤ b := fun h2 => h ⟨h1, h2⟩
    clear h
    go_enter Tryz.func60, Tryz.ntmps60
    go_wp2_with fail
    go_ret
    exact ⟨rfl, rfl⟩
  · clear h
    go_enter Tryz.func60, Tryz.ntmps60
    go_wp2_with fail
    go_ret
    exact ⟨rfl, rfl⟩
theorem good_yes (g : Gm) (h : g.Ok) (w : World) : Calls Tryz.prog 53 #[g.v] w fun e w' => e = .returned (.bool true) ∧ Below w.heap.size w w' := by
  obtain ⟨h1, h2, h3, h4⟩ := h
  have H1 := Lib.hid fun w => within_yes g.p 1 64 h1 w
  have H2 := Lib.hid fun w => within_yes g.s 6 16 h2 w
  have H3 := Lib.hid fun w => within_yes g.l 24 32 h3 w
  have H4 := Lib.hid fun w => within_yes g.f 2 16 h4 w
  clear h1 h2 h3 h4
  go_enter Tryz.func53, Tryz.ntmps53
  go_wp2_with fail
  refine (H1.out _).mono ?_
  rintro e w1 ⟨rfl, rfl⟩
  go_wp2_with fail
  refine (H2.out _).mono ?_
  rintro e w1 ⟨rfl, rfl⟩
  go_wp2_with fail
  refine (H3.out _).mono ?_
  rintro e w1 ⟨rfl, rfl⟩
  go_wp2_with fail
  refine (H4.out _).mono ?_
  rintro e w1 ⟨rfl, rfl⟩
  go_wp2_with fail
  go_ret
  exact ⟨rfl, (Below.refl _ _).alloc (Nat.le_refl _) _⟩
theorem good_no (g : Gm) (h : ¬ g.Ok) (w : World) : Calls Tryz.prog 53 #[g.v] w fun e w' => e = .returned (.bool false) ∧ Below w.heap.size w w' := by
  by_cases h1 : 1 ≤ g.p ∧ g.p ≤ 64
  · have H1 := Lib.hid fun w => within_yes g.p 1 64 h1 w
    by_cases h2 : 6 ≤ g.s ∧ g.s ≤ 16
    · have H2 := Lib.hid fun w => within_yes g.s 6 16 h2 w
      by_cases h3 : 24 ≤ g.l ∧ g.l ≤ 32
      · have H3 := Lib.hid fun w => within_yes g.l 24 32 h3 w
        have H4 := Lib.hid fun w => within_no g.f 2 16 (fun h4 => h ⟨h1, h2, h3, h4⟩) w
        clear h1 h2 h3 h
        go_enter Tryz.func53, Tryz.ntmps53
        go_wp2_with fail
        refine (H1.out _).mono ?_
        rintro e w1 ⟨rfl, rfl⟩
        go_wp2_with fail
        refine (H2.out _).mono ?_
        rintro e w1 ⟨rfl, rfl⟩
        go_wp2_with fail
        refine (H3.out _).mono ?_
        rintro e w1 ⟨rfl, rfl⟩
        go_wp2_with fail
        refine (H4.out _).mono ?_
        rintro e w1 ⟨rfl, rfl⟩
        go_wp2_with fail
        go_ret
        exact ⟨rfl, (Below.refl _ _).alloc (Nat.le_refl _) _⟩
      · have H3 := Lib.hid fun w => within_no g.l 24 32 h3 w
        clear h1 h2 h3 h
        go_enter Tryz.func53, Tryz.ntmps53
        go_wp2_with fail
        refine (H1.out _).mono ?_
        rintro e w1 ⟨rfl, rfl⟩
        go_wp2_with fail
        refine (H2.out _).mono ?_
        rintro e w1 ⟨rfl, rfl⟩
        go_wp2_with fail
        refine (H3.out _).mono ?_
        rintro e w1 ⟨rfl, rfl⟩
        go_wp2_with fail
        go_ret
        exact ⟨rfl, (Below.refl _ _).alloc (Nat.le_refl _) _⟩
    · have H2 := Lib.hid fun w => within_no g.s 6 16 h2 w
      clear h1 h2 h
      go_enter Tryz.func53, Tryz.ntmps53
      go_wp2_with fail
      refine (H1.out _).mono ?_
      rintro e w1 ⟨rfl, rfl⟩
      go_wp2_with fail
      refine (H2.out _).mono ?_
      rintro e w1 ⟨rfl, rfl⟩
      go_wp2_with fail
      go_ret
      exact ⟨rfl, (Below.refl _ _).alloc (Nat.le_refl _) _⟩
  · have H1 := Lib.hid fun w => within_no g.p 1 64 h1 w
    clear h1 h
    go_enter Tryz.func53, Tryz.ntmps53
    go_wp2_with fail
    refine (H1.out _).mono ?_
    rintro e w1 ⟨rfl, rfl⟩
    go_wp2_with fail
    go_ret
    exact ⟨rfl, (Below.refl _ _).alloc (Nat.le_refl _) _⟩
theorem rgood_yes (g : Gm) (h : g.Ok) (w : World) : Calls Tryz.prog 7 #[g.v] w fun e w' => e = .returned (.bool true) ∧ Below w.heap.size w w' := by
  obtain ⟨⟨h1, h2⟩, ⟨h3, h4⟩, ⟨h5, h6⟩, ⟨h7, h8⟩⟩ := h
  go_enter Tryz.func7, Tryz.ntmps7
  go_wp2_with fail
  go_ret
  exact ⟨rfl, (Below.refl _ _).alloc (Nat.le_refl _) _⟩
theorem rgood_no (g : Gm) (h : ¬ g.Ok) (w : World) : Calls Tryz.prog 7 #[g.v] w fun e w' => e = .returned (.bool false) ∧ Below w.heap.size w w' := by
  have H : Hid (¬ ((1 ≤ g.p ∧ g.p ≤ 64) ∧ (6 ≤ g.s ∧ g.s ≤ 16) ∧ (24 ≤ g.l ∧ g.l ≤ 32) ∧ (2 ≤ g.f ∧ g.f ≤ 16))) := Lib.hid h
  clear h
  by_cases h8 : g.f ≤ 16
  all_goals
    go_enter Tryz.func7, Tryz.ntmps7
    go_wp2_with fail
    all_goals go_ret
    all_goals first | exact ⟨rfl, (Below.refl _ _).alloc (Nat.le_refl _) _⟩ | (exfalso; have := H.out; omega)
theorem begin_segs (g : Gm) (w : World) : Calls Tryz.prog 56 #[g.v, .int .i64 1] w fun e w' => e = .returned (.int .i64 4) ∧ Below w.heap.size w w' := by
  go_enter Tryz.func56, Tryz.ntmps56
  go_wp2_with fail
  go_ret
  exact ⟨rfl, (Below.refl _ _).alloc (Nat.le_refl _) _⟩
theorem ret_int {a b : Int} (h : a = b) : Ending.returned (.int .i64 a) = Ending.returned (.int .i64 b) := congrArg (fun n => Ending.returned (.int .i64 n)) h
/-- A product of two that are small is small. -/
theorem small_mul {a b A B : Int} (h0 : 0 ≤ a) (h1 : a ≤ A) (k0 : 0 ≤ b) (k1 : b ≤ B) : 0 ≤ a * b ∧ a * b ≤ A * B :=
  ⟨Int.mul_nonneg h0 k0, Int.mul_le_mul h1 k1 k0 (by omega)⟩
theorem Gm.Ok.area {g : Gm} (h : g.Ok) : 0 ≤ g.s * g.l ∧ g.s * g.l ≤ 512 := by
  obtain ⟨_, ⟨h3, h4⟩, ⟨h5, h6⟩, _⟩ := h
  exact small_mul (by omega) h4 (by omega) h6
theorem begin_behind (g : Gm) (h : g.Ok) (w : World) : Calls Tryz.prog 56 #[g.v, .int .i64 2] w fun e w' => e = .returned (.int .i64 (4 + g.s * g.l)) ∧ Below w.heap.size w w' := by
  obtain ⟨a0, a1⟩ := h.area
  go_enter Tryz.func56, Tryz.ntmps56
  go_wp2_with fail
  go_ret
  exact ⟨ret_int (by omega), (Below.refl _ _).alloc (Nat.le_refl _) _⟩
/-- A geometry that lies in memory. -/
structure GAt (w : World) (b : Nat) (g : Gm) : Prop where
  p : w.cell? ⟨b, 0, none⟩ = some (.int .i64 g.p)
  s : w.cell? ⟨b, 1, none⟩ = some (.int .i64 g.s)
  l : w.cell? ⟨b, 2, none⟩ = some (.int .i64 g.l)
  f : w.cell? ⟨b, 3, none⟩ = some (.int .i64 g.f)
theorem GAt.below {w w' : World} {b B : Nat} {g : Gm} (h : GAt w b g) (hb : Below B w w') (hlt : b < B) : GAt w' b g :=
  ⟨(hb.cell hlt).trans h.p, (hb.cell hlt).trans h.s, (hb.cell hlt).trans h.l, (hb.cell hlt).trans h.f⟩
abbrev Gm.box (g : Gm) (w : World) : World := w.alloc (.cells #[.int .i64 g.p, .int .i64 g.s, .int .i64 g.l, .int .i64 g.f] 23)
theorem GAt.box (g : Gm) (w : World) : GAt (g.box w) w.heap.size g := by
  have h : (g.box w).heap[w.heap.size]? = some (.cells #[.int .i64 g.p, .int .i64 g.s, .int .i64 g.l, .int .i64 g.f] 23 (0, 0)) := heap_alloc_new w _
  exact ⟨cell_of_row _ _ 0 _ _ _ h, cell_of_row _ _ 1 _ _ _ h, cell_of_row _ _ 2 _ _ _ h, cell_of_row _ _ 3 _ _ _ h⟩
theorem box_below (g : Gm) (w : World) : Below w.heap.size w (g.box w) := (Below.refl _ _).alloc (Nat.le_refl _) _
/-- Behind a call in a world that a box was made in. -/
theorem box_call {g : Gm} {w w1 : World} (hb : Below (g.box w).heap.size (g.box w) w1) : Below w.heap.size w w1 ∧ GAt w1 w.heap.size g ∧ w.heap.size < w1.heap.size :=
  ⟨(box_below g w).trans (hb.mono (by simp)), (GAt.box g w).below hb (by simp), Nat.lt_of_lt_of_le (by simp) hb.size⟩
theorem further {w w1 w2 : World} {b : Nat} {g : Gm} (h : Below w.heap.size w w1 ∧ GAt w1 b g ∧ b < w1.heap.size) (hb : Below w1.heap.size w1 w2) : Below w.heap.size w w2 ∧ GAt w2 b g ∧ b < w2.heap.size :=
  ⟨h.1.trans (hb.mono h.1.size), h.2.1.below hb h.2.2, Nat.lt_of_lt_of_le h.2.2 hb.size⟩
/-- How many mapping pages a geometry that may be has. -/
def Gm.maps (g : Gm) : Int := (g.p + 7).tdiv 8
theorem total_yes (g : Gm) (h : g.Ok) (w : World) : Calls Tryz.prog 39 #[g.v] w fun e w' => e = .returned (.int .i64 (4 + g.s * g.l)) ∧ Below w.heap.size w w' := by
  have H := Lib.hid fun w => good_yes g h w
  have H2 := Lib.hid fun w => begin_behind g h w
  clear h
  go_enter Tryz.func39, Tryz.ntmps39
  go_wp2_with fail
  refine (H.out _).mono ?_
  rintro e w1 ⟨rfl, hb⟩
  have HB := Lib.hid (box_call hb)
  clear hb
  obtain ⟨c0, c1, c2, c3⟩ := HB.out.2.1
  go_wp2_with fail
  refine (H2.out _).mono ?_
  rintro e w2 ⟨rfl, hb⟩
  have HB2 := Lib.hid (further HB.out hb)
  clear hb
  go_wp2_with fail
  go_ret
  exact ⟨rfl, HB2.out.1⟩
theorem seg_in (g : Gm) (h : g.Ok) (n : Int) (hn : 0 ≤ n ∧ n ≤ g.s - 1) (w : World) : Calls Tryz.prog 45 #[g.v, .int .i64 n] w fun e w' => e = .returned (.int .i64 (4 + n * g.l)) ∧ Below w.heap.size w w' := by
  have H9 := Lib.hid fun w => good_yes g h w
  have HB1 := Lib.hid fun w => begin_segs g w
  have HW := Lib.hid fun w => within_yes n 0 (g.s - 1) hn w
  obtain ⟨_, ⟨h3, h4⟩, ⟨h5, h6⟩, _⟩ := h
  have ha : 0 ≤ n * g.l ∧ n * g.l ≤ 512 := small_mul (B := 32) (A := 16) (by omega) (by omega) (by omega) (by omega)
  obtain ⟨a0, a1⟩ := ha
  go_enter Tryz.func45, Tryz.ntmps45
  go_wp2_with fail
  refine (H9.out _).mono ?_
  rintro e w1 ⟨rfl, hb⟩
  have HB := Lib.hid (box_call hb)
  clear hb
  obtain ⟨c0, c1, c2, c3⟩ := HB.out.2.1
  go_wp2_with fail
  refine (HW.out _).mono ?_
  rintro e w2 ⟨rfl, rfl⟩
  go_wp2_with fail
  refine startH (fun wq => Below w1.heap.size w1 wq) (by kernel_rfl) ?_
  refine takeH 0 (some 16) (g.v) rfl rfl (by kernel_rfl) (by kernel_rfl) (by kernel_rfl) (fun _ _ _ h => h) rfl (fun w hS => by obtain ⟨c0, c1, c2, c3⟩ := HB.out.2.1.below hS HB.out.2.2; go_simp) (Below.refl _ _).drew ?_
  try simp only [Act.put, List.setIfInBounds_toArray, List.set_cons_succ, List.set_cons_zero]
  refine takeH 2 (some 18) (.int .i64 n) rfl rfl (by kernel_rfl) (by kernel_rfl) (by kernel_rfl) (fun _ _ _ h => h) rfl (fun w _ => by go_simp) (Below.refl _ _).drew ?_
  try simp only [Act.put, List.setIfInBounds_toArray, List.set_cons_succ, List.set_cons_zero]
  refine takeH 3 (some 19) (.pointer (some ⟨w.heap.size, 2, none⟩)) rfl rfl (by kernel_rfl) (by kernel_rfl) (by kernel_rfl) (fun _ _ _ h => h) rfl (fun w _ => by go_simp) (Below.refl _ _).drew ?_
  try simp only [Act.put, List.setIfInBounds_toArray, List.set_cons_succ, List.set_cons_zero]
  refine takeH 4 (some 20) (.int .i64 g.l) rfl rfl (by kernel_rfl) (by kernel_rfl) (by kernel_rfl) (fun _ _ _ h => h) rfl (fun w hS => by obtain ⟨c0, c1, c2, c3⟩ := HB.out.2.1.below hS HB.out.2.2; go_simp) (Below.refl _ _).drew ?_
  try simp only [Act.put, List.setIfInBounds_toArray, List.set_cons_succ, List.set_cons_zero]
  refine takeH 5 (some 21) (.int .i64 (n * g.l)) rfl rfl (by kernel_rfl) (by kernel_rfl) (by kernel_rfl) (fun _ _ _ h => h) rfl (fun w _ => by go_simp <;> first | done | (go_ints; first | done | trivial)) (Below.refl _ _).drew ?_
  try simp only [Act.put, List.setIfInBounds_toArray, List.set_cons_succ, List.set_cons_zero]
  refine oneH 1 (by kernel_rfl) rfl rfl fun K hK => ?_
  go_simp
  refine (HB1.out _).mono ?_
  rintro e w1 ⟨rfl, hb⟩
  have HS1 := Lib.hid (stay (Below.refl _ _).drew hb)
  refine hK _ _ HS1.out ?_
  clear hK hb K
  try simp only [Act.put, List.setIfInBounds_toArray, List.set_cons_succ, List.set_cons_zero]
  refine takeH 6 (some 22) (.int .i64 (4 + (n * g.l))) rfl rfl (by kernel_rfl) (by kernel_rfl) (by kernel_rfl) (fun _ _ _ h => h) rfl (fun w _ => by go_simp <;> first | done | (go_ints; first | done | trivial)) HS1.out ?_
  try simp only [Act.put, List.setIfInBounds_toArray, List.set_cons_succ, List.set_cons_zero]
  refine takeH 7 (some 4) (.int .i64 (4 + (n * g.l))) rfl rfl (by kernel_rfl) (by kernel_rfl) (by kernel_rfl) (fun _ _ _ h => h) rfl (fun w _ => by go_simp) HS1.out ?_
  try simp only [Act.put, List.setIfInBounds_toArray, List.set_cons_succ, List.set_cons_zero]
  refine wpAnyH_done (by kernel_rfl) ?_ _
  go_wp2_with fail
  go_ret
  exact ⟨rfl, HB.out.1.trans (HS1.out.mono HB.out.1.size)⟩
def Gm.cap (g : Gm) : Int := max 0 (min g.p ((4 * (g.s - 4) - g.maps) / 3))
theorem Gm.Ok.maps {g : Gm} (h : g.Ok) : 1 ≤ g.maps ∧ g.maps ≤ 8 ∧ g.p ≤ g.maps * 8 ∧ (g.maps - 1) * 8 < g.p := by
  obtain ⟨⟨h1, h2⟩, _, _, _⟩ := h
  unfold Gm.maps
  rw [Int.tdiv_eq_ediv_of_nonneg (by omega)]
  omega
theorem _root_.Go.Proofs.YthlnmdihdcfphaaGreatDoor.Blk.newAt {w : World} {cs : Array Value} (t : TypeId) (n : Nat) (l : List Value) (hn : n = w.heap.size) (hl : l = cs.toList) : Blk (w.alloc (.cells cs t)) n l := by
  subst hn
  subst hl
  exact ⟨t, by simpa using heap_alloc_new w (.cells cs t)⟩
theorem results_blk {P : Program} {fn : Func} {p : Tmp} {ty : TypeId} (h : fn.results = #[.cell p ty]) (tmps : Array Value) (w : World) (g : Nat) (l : List Value) (d : TypeDesc)
    (hp : tmps.getD p undef = .pointer (some ⟨g, 0, none⟩)) (hg : Blk w g l) (hu : P.underlying ty = some d) (hd : (match d with | .struct _ | .array _ _ => true | _ => false) = true) (hi : (P.info? ty).map (·.size) = some l.length) :
    (results fn tmps).run P w = .ok (.agg l.toArray) w := by
  obtain ⟨t, ht⟩ := hg
  exact results_cell_row h tmps w g t l.toArray _ d hp ht hu hd (by simpa using hi)
theorem ret_three {a b c a' b' c' : Int} (h0 : a = a') (h1 : b = b') (h2 : c = c') : Ending.returned (.agg #[.int .i64 a, .int .i64 b, .int .i64 c]) = Ending.returned (.agg #[.int .i64 a', .int .i64 b', .int .i64 c']) := by
  subst h0 h1 h2
  rfl
theorem info23 : (Tryz.prog.info? 23).map (·.size) = some 4 := by kernel_rfl
theorem info35 : (Tryz.prog.info? 35).map (·.size) = some 3 := by kernel_rfl
theorem small_any (w : World) : Calls Tryz.prog 21 #[] w fun e w' => e = .returned (.agg #[.int .i64 16, .int .i64 8, .int .i64 24, .int .i64 4]) ∧ Below w.heap.size w w' := by
  go_enter Tryz.func21, Tryz.ntmps21
  go_wp2_with fail
  exact bodyPost_ret (v := .agg #[.int .i64 16, .int .i64 8, .int .i64 24, .int .i64 4]) (results_cell_row rfl _ _ w.heap.size 23 #[.int .i64 16, .int .i64 8, .int .i64 24, .int .i64 4] _ _ rfl (heap_alloc_new w _) Tryz.underlying23 rfl info23) rfl ⟨rfl, (Below.refl _ _).alloc (Nat.le_refl _) _⟩
theorem two_boxes {g : Gm} {w w1 : World} {a b c : Value} {t : TypeId} (hb : Below ((g.box w).alloc (.cells #[a, b, c] t)).heap.size ((g.box w).alloc (.cells #[a, b, c] t)) w1) :
    Below w.heap.size w w1 ∧ GAt w1 w.heap.size g ∧ Blk w1 (w.heap.size + 1) [a, b, c] ∧ w.heap.size + 2 ≤ w1.heap.size :=
  ⟨((box_below g w).alloc (by simp) _).trans (hb.mono (by simp; omega)), ((GAt.box g w).below ((Below.refl (g.box w).heap.size _).alloc (Nat.le_refl _) _) (by simp)).below hb (by simp; omega), (Blk.newAt t _ _ (by simp) rfl).below hb (by simp), by have := hb.size; simp at this; omega⟩
theorem _root_.Go.Proofs.YthlnmdihdcfphaaGreatDoor.Blk.allocs {w : World} {b : Nat} {l : List Value} (h : Blk w b l) (i : Nat) (v : Value) (hi : l[i]? = some v) : ∀ o, (w.alloc o).cell? ⟨b, i, none⟩ = some v := fun o => (h.alloc o).cell hi
theorem _root_.Go.Proofs.YthlnmdihdcfphaaGreatDoor.Blk.frozens {w : World} {b : Nat} {l : List Value} (h : Blk w b l) (i : Nat) : ∀ o, (w.alloc o).frozen? ⟨b, i, none⟩ = false := fun o => (h.alloc o).frozen i
theorem GAt.allocs {w : World} {b : Nat} {g : Gm} (h : GAt w b g) (hlt : b < w.heap.size) (o : Obj) : GAt (w.alloc o) b g := h.below ((Below.refl w.heap.size w).alloc (Nat.le_refl _) o) hlt
theorem rof_yes (g : Gm) (h : g.Ok) (w : World) : Calls Tryz.prog 10 #[g.v] w fun e w' => e = .returned (.agg #[.int .i64 g.maps, .int .i64 (4 + g.s * g.l), .int .i64 g.cap]) ∧ Below w.heap.size w w' := by
  have H := Lib.hid fun w => rgood_yes g h w
  obtain ⟨a0, a1⟩ := h.area
  obtain ⟨m0, m1, _⟩ := h.maps
  obtain ⟨⟨h1, h2⟩, ⟨h3, h4⟩, _, _⟩ := h
  have HM : Hid (g.maps = (g.p + 7) / 8) := Lib.hid (by unfold Gm.maps; rw [Int.tdiv_eq_ediv_of_nonneg (by omega)])
  have hm : 1 ≤ (g.p + 7) / 8 ∧ (g.p + 7) / 8 ≤ 8 := by omega
  obtain ⟨hm1, hm2⟩ := hm
  go_enter Tryz.func10, Tryz.ntmps10
  go_wp2_with fail
  refine (H.out _).mono ?_
  rintro e w1 ⟨rfl, hb⟩
  have HB := Lib.hid (two_boxes hb)
  clear hb
  obtain ⟨c0, c1, c2, c3⟩ := HB.out.2.1
  have e0 := fun o => (HB.out.2.1.allocs (by have := HB.out.2.2.2; omega) o).p
  have e1 := fun o => (HB.out.2.1.allocs (by have := HB.out.2.2.2; omega) o).s
  have d0 := HB.out.2.2.1.allocs 0 _ rfl
  have d1 := HB.out.2.2.1.allocs 1 _ rfl
  have d2 := HB.out.2.2.1.allocs 2 _ rfl
  have f0 := HB.out.2.2.1.frozens 0
  have f1 := HB.out.2.2.1.frozens 1
  have f2 := HB.out.2.2.1.frozens 2
  go_wp2_with fail
  all_goals
    refine bodyPost_ret (results_blk rfl _ _ (w.heap.size + 1) [_, _, _] _ rfl ((((HB.out.2.2.1.alloc _).set 0 _).set 1 _).set 2 _) Tryz.underlying35 rfl info35) rfl ⟨ret_three HM.out.symm rfl ?_, (((HB.out.1.alloc HB.out.1.size _).setCell (by simp) _).setCell (by simp) _).setCell (by simp) _⟩
    unfold Gm.cap
    rw [HM.out]
    omega
end Pl

end Go.Proofs.YthlnmdihdcfphaaGreatDoor
