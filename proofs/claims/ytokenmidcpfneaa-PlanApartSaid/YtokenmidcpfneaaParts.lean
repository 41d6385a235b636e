/- Where the parts of a device begin; how many of everything there are. -/
import Derived.Test.YtokenmidcpfneaaDraw
namespace Go.Proofs.Ytokenmidcpfneaa
open Go.RowKit

theorem begin_segs (g : Gm) (w : World) : Calls Try.prog 18 #[g.v, .int .i64 1] w fun e w' => e = .returned (.int .i64 4) ∧ Below w.heap.size w w' := by
  go_enter Try.func18, Try.ntmps18
  go_wp2_with fail
  go_ret
  exact ⟨rfl, (Below.refl _ _).alloc (Nat.le_refl _) _⟩
theorem ret_int {a b : Int} (h : a = b) : Ending.returned (.int .i64 a) = Ending.returned (.int .i64 b) := congrArg (fun n => Ending.returned (.int .i64 n)) h
/-- A product of two that are small is small. -/
theorem small_mul {a b A B : Int} (h0 : 0 ≤ a) (h1 : a ≤ A) (k0 : 0 ≤ b) (k1 : b ≤ B) : 0 ≤ a * b ∧ a * b ≤ A * B :=
  ⟨Int.mul_nonneg h0 k0, Int.mul_le_mul h1 k1 k0 (by omega)⟩
theorem Gm.Ok.area {g : Gm} (h : g.Ok) : 0 ≤ g.s * g.l ∧ g.s * g.l ≤ 512 := by
  obtain ⟨_, ⟨h3, h4⟩, ⟨h5, h6⟩, _⟩ := h
  exact small_mul (by omega) h4 (by omega) h6
theorem begin_behind (g : Gm) (h : g.Ok) (w : World) : Calls Try.prog 18 #[g.v, .int .i64 2] w fun e w' => e = .returned (.int .i64 (4 + g.s * g.l)) ∧ Below w.heap.size w w' := by
  obtain ⟨a0, a1⟩ := h.area
  go_enter Try.func18, Try.ntmps18
  go_wp2_with fail
  go_ret
  exact ⟨ret_int (by omega), (Below.refl _ _).alloc (Nat.le_refl _) _⟩

/-- A geometry that lies in memory. -/
structure GAt (w : World) (b : Nat) (g : Gm) : Prop where
  p : w.cell? ⟨b, 0, none⟩ = some (.int .i64 g.p)
  s : w.cell? ⟨b, 1, none⟩ = some (.int .i64 g.s)
  l : w.cell? ⟨b, 2, none⟩ = some (.int .i64 g.l)
  f : w.cell? ⟨b, 3, none⟩ = some (.int .i64 g.f)
theorem GAt.below {w w' : World} {b B : Nat} {g : Gm} (h : GAt w b g) (hb : Below B w w') (hlt : b < B) : GAt w' b g :=
  ⟨(hb.cell hlt).trans h.p, (hb.cell hlt).trans h.s, (hb.cell hlt).trans h.l, (hb.cell hlt).trans h.f⟩
abbrev Gm.box (g : Gm) (w : World) : World := w.alloc (.cells #[.int .i64 g.p, .int .i64 g.s, .int .i64 g.l, .int .i64 g.f] 23)
theorem GAt.box (g : Gm) (w : World) : GAt (g.box w) w.heap.size g := by
  have h : (g.box w).heap[w.heap.size]? = some (.cells #[.int .i64 g.p, .int .i64 g.s, .int .i64 g.l, .int .i64 g.f] 23 (0, 0)) := heap_alloc_new w _
  exact ⟨cell_of_row _ _ 0 _ _ _ h, cell_of_row _ _ 1 _ _ _ h, cell_of_row _ _ 2 _ _ _ h, cell_of_row _ _ 3 _ _ _ h⟩
theorem box_below (g : Gm) (w : World) : Below w.heap.size w (g.box w) := (Below.refl _ _).alloc (Nat.le_refl _) _
/-- Behind a call in a world that a box was made in. -/
theorem box_call {g : Gm} {w w1 : World} (hb : Below (g.box w).heap.size (g.box w) w1) : Below w.heap.size w w1 ∧ GAt w1 w.heap.size g ∧ w.heap.size < w1.heap.size :=
  ⟨(box_below g w).trans (hb.mono (by simp)), (GAt.box g w).below hb (by simp), Nat.lt_of_lt_of_le (by simp) hb.size⟩
theorem further {w w1 w2 : World} {b : Nat} {g : Gm} (h : Below w.heap.size w w1 ∧ GAt w1 b g ∧ b < w1.heap.size) (hb : Below w1.heap.size w1 w2) : Below w.heap.size w w2 ∧ GAt w2 b g ∧ b < w2.heap.size :=
  ⟨h.1.trans (hb.mono h.1.size), h.2.1.below hb h.2.2, Nat.lt_of_lt_of_le h.2.2 hb.size⟩

theorem maps_no (g : Gm) (h : ¬ g.Ok) (w : World) : Calls Try.prog 11 #[g.v] w fun e w' => e = .returned (.int .i64 0) ∧ Below w.heap.size w w' := by
  have H := Lib.hid fun w => good_no g h w
  clear h
  go_enter Try.func11, Try.ntmps11
  go_wp2_with fail
  refine (H.out _).mono ?_
  rintro e w1 ⟨rfl, hb⟩
  have HB := Lib.hid (box_call hb)
  clear hb
  go_wp2_with fail
  go_ret
  exact ⟨rfl, HB.out.1⟩
/-- How many mapping pages a geometry that may be has. -/
def Gm.maps (g : Gm) : Int := (g.p + 7).tdiv 8
theorem maps_yes (g : Gm) (h : g.Ok) (w : World) : Calls Try.prog 11 #[g.v] w fun e w' => e = .returned (.int .i64 g.maps) ∧ Below w.heap.size w w' := by
  have H := Lib.hid fun w => good_yes g h w
  obtain ⟨⟨h1, h2⟩, _, _, _⟩ := h
  go_enter Try.func11, Try.ntmps11
  go_wp2_with fail
  refine (H.out _).mono ?_
  rintro e w1 ⟨rfl, hb⟩
  have HB := Lib.hid (box_call hb)
  clear hb
  have c0 := HB.out.2.1.p
  go_wp2_with fail
  go_ret
  exact ⟨ret_int (by unfold Gm.maps; rw [Int.tdiv_eq_ediv_of_nonneg (by omega)]; omega), HB.out.1⟩
theorem total_no (g : Gm) (h : ¬ g.Ok) (w : World) : Calls Try.prog 12 #[g.v] w fun e w' => e = .returned (.int .i64 0) ∧ Below w.heap.size w w' := by
  have H := Lib.hid fun w => good_no g h w
  clear h
  go_enter Try.func12, Try.ntmps12
  go_wp2_with fail
  refine (H.out _).mono ?_
  rintro e w1 ⟨rfl, hb⟩
  have HB := Lib.hid (box_call hb)
  clear hb
  go_wp2_with fail
  go_ret
  exact ⟨rfl, HB.out.1⟩
theorem total_yes (g : Gm) (h : g.Ok) (w : World) : Calls Try.prog 12 #[g.v] w fun e w' => e = .returned (.int .i64 (4 + g.s * g.l)) ∧ Below w.heap.size w w' := by
  have H := Lib.hid fun w => good_yes g h w
  have H2 := Lib.hid fun w => begin_behind g h w
  clear h
  go_enter Try.func12, Try.ntmps12
  go_wp2_with fail
  refine (H.out _).mono ?_
  rintro e w1 ⟨rfl, hb⟩
  have HB := Lib.hid (box_call hb)
  clear hb
  obtain ⟨c0, c1, c2, c3⟩ := HB.out.2.1
  go_wp2_with fail
  refine (H2.out _).mono ?_
  rintro e w2 ⟨rfl, hb⟩
  have HB2 := Lib.hid (further HB.out hb)
  clear hb
  go_wp2_with fail
  go_ret
  exact ⟨rfl, HB2.out.1⟩
end Go.Proofs.Ytokenmidcpfneaa
