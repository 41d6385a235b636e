/- Cap: package plan's function whose statement draws its order and asks for the least and the greatest. -/
import Derived.Test.YtokenmidcpfneaaParts
namespace Go.Proofs.Ytokenmidcpfneaa
open Go.RowKit

theorem if_min (a b : Int) : (if b < a then b else a) = min a b := by split <;> omega
theorem if_max (a b : Int) : (if a < b then b else a) = max a b := by split <;> omega
def Gm.cap (g : Gm) : Int := max 0 (min g.p ((4 * (g.s - 4) - g.maps) / 3))
theorem Gm.Ok.maps {g : Gm} (h : g.Ok) : 1 ≤ g.maps ∧ g.maps ≤ 8 ∧ g.p ≤ g.maps * 8 ∧ (g.maps - 1) * 8 < g.p := by
  obtain ⟨⟨h1, h2⟩, _, _, _⟩ := h
  unfold Gm.maps
  rw [Int.tdiv_eq_ediv_of_nonneg (by omega)]
  omega
theorem cap_no (g : Gm) (h : ¬ g.Ok) (w : World) : Calls Try.prog 13 #[g.v] w fun e w' => e = .returned (.int .i64 0) ∧ Below w.heap.size w w' := by
  have H := Lib.hid fun w => good_no g h w
  clear h
  go_enter Try.func13, Try.ntmps13
  go_wp2_with fail
  refine (H.out _).mono ?_
  rintro e w1 ⟨rfl, hb⟩
  have HB := Lib.hid (box_call hb)
  clear hb
  go_wp2_with fail
  go_ret
  exact ⟨rfl, HB.out.1⟩
theorem cap_yes (g : Gm) (h : g.Ok) (w : World) : Calls Try.prog 13 #[g.v] w fun e w' => e = .returned (.int .i64 g.cap) ∧ Below w.heap.size w w' := by
  have H := Lib.hid fun w => good_yes g h w
  have HM := Lib.hid fun w => maps_yes g h w
  obtain ⟨m0, m1, _⟩ := h.maps
  obtain ⟨⟨h1, h2⟩, ⟨h3, h4⟩, _, _⟩ := h
  have HC : Hid (max 0 (min g.p ((4 * (g.s - 4) - g.maps) / 3)) = g.cap) := Lib.hid rfl
  go_enter Try.func13, Try.ntmps13
  go_wp2_with fail
  refine (H.out _).mono ?_
  rintro e w1 ⟨rfl, hb⟩
  have HB := Lib.hid (box_call hb)
  clear hb
  go_wp2_with fail
  refine startH (fun wq => Below w1.heap.size w1 wq) (by kernel_rfl) ?_
  refine takeH 0 (some 6) (.pointer (some ⟨w.heap.size, 0, none⟩)) rfl rfl (by kernel_rfl) (by kernel_rfl) (by kernel_rfl) (fun _ _ _ h => h) rfl (fun w _ => by go_simp) (Below.refl _ _).drew ?_
  try simp only [Act.put, List.setIfInBounds_toArray, List.set_cons_succ, List.set_cons_zero]
  refine takeH 1 (some 7) (.int .i64 g.p) rfl rfl (by kernel_rfl) (by kernel_rfl) (by kernel_rfl) (fun _ _ _ h => h) rfl (fun w hS => by obtain ⟨c0, c1, c2, c3⟩ := HB.out.2.1.below hS HB.out.2.2; go_simp) (Below.refl _ _).drew ?_
  try simp only [Act.put, List.setIfInBounds_toArray, List.set_cons_succ, List.set_cons_zero]
  refine takeH 2 (some 8) (.pointer (some ⟨w.heap.size, 1, none⟩)) rfl rfl (by kernel_rfl) (by kernel_rfl) (by kernel_rfl) (fun _ _ _ h => h) rfl (fun w _ => by go_simp) (Below.refl _ _).drew ?_
  try simp only [Act.put, List.setIfInBounds_toArray, List.set_cons_succ, List.set_cons_zero]
  refine takeH 3 (some 9) (.int .i64 g.s) rfl rfl (by kernel_rfl) (by kernel_rfl) (by kernel_rfl) (fun _ _ _ h => h) rfl (fun w hS => by obtain ⟨c0, c1, c2, c3⟩ := HB.out.2.1.below hS HB.out.2.2; go_simp) (Below.refl _ _).drew ?_
  try simp only [Act.put, List.setIfInBounds_toArray, List.set_cons_succ, List.set_cons_zero]
  refine takeH 4 (some 10) (.int .i64 (g.s - 4)) rfl rfl (by kernel_rfl) (by kernel_rfl) (by kernel_rfl) (fun _ _ _ h => h) rfl (fun w _ => by go_simp <;> first | done | (go_ints; first | done | trivial)) (Below.refl _ _).drew ?_
  try simp only [Act.put, List.setIfInBounds_toArray, List.set_cons_succ, List.set_cons_zero]
  refine takeH 5 (some 11) (.int .i64 (4 * ((g.s - 4)))) rfl rfl (by kernel_rfl) (by kernel_rfl) (by kernel_rfl) (fun _ _ _ h => h) rfl (fun w _ => by go_simp <;> first | done | (go_ints; first | done | trivial)) (Below.refl _ _).drew ?_
  try simp only [Act.put, List.setIfInBounds_toArray, List.set_cons_succ, List.set_cons_zero]
  refine takeH 6 (some 12) (g.v) rfl rfl (by kernel_rfl) (by kernel_rfl) (by kernel_rfl) (fun _ _ _ h => h) rfl (fun w hS => by obtain ⟨c0, c1, c2, c3⟩ := HB.out.2.1.below hS HB.out.2.2; go_simp) (Below.refl _ _).drew ?_
  try simp only [Act.put, List.setIfInBounds_toArray, List.set_cons_succ, List.set_cons_zero]
  refine oneH 7 (by kernel_rfl) rfl rfl fun K hK => ?_
  go_simp
  refine (HM.out _).mono ?_
  rintro e w1 ⟨rfl, hb⟩
  have HS1 := Lib.hid (stay (Below.refl _ _).drew hb)
  refine hK _ _ HS1.out ?_
  clear hK hb K
  try simp only [Act.put, List.setIfInBounds_toArray, List.set_cons_succ, List.set_cons_zero]
  refine takeH 8 (some 14) (.int .i64 (((4 * ((g.s - 4)))) - g.maps)) rfl rfl (by kernel_rfl) (by kernel_rfl) (by kernel_rfl) (fun _ _ _ h => h) rfl (fun w _ => by go_simp <;> first | done | (go_ints; first | done | trivial)) HS1.out ?_
  try simp only [Act.put, List.setIfInBounds_toArray, List.set_cons_succ, List.set_cons_zero]
  refine takeH 9 (some 15) (.int .i64 (((((4 * ((g.s - 4)))) - g.maps)) / 3)) rfl rfl (by kernel_rfl) (by kernel_rfl) (by kernel_rfl) (fun _ _ _ h => h) rfl (fun w _ => by go_simp <;> first | done | (go_ints; first | done | trivial)) HS1.out ?_
  try simp only [Act.put, List.setIfInBounds_toArray, List.set_cons_succ, List.set_cons_zero]
  refine takeH 10 (some 16) (.int .i64 (min g.p (((((4 * ((g.s - 4)))) - g.maps)) / 3))) rfl rfl (by kernel_rfl) (by kernel_rfl) (by kernel_rfl) (fun _ _ _ h => h) rfl (fun w _ => by go_simp; exact if_min _ _) HS1.out ?_
  try simp only [Act.put, List.setIfInBounds_toArray, List.set_cons_succ, List.set_cons_zero]
  refine takeH 11 (some 17) (.int .i64 (max 0 (min g.p (((((4 * ((g.s - 4)))) - g.maps)) / 3)))) rfl rfl (by kernel_rfl) (by kernel_rfl) (by kernel_rfl) (fun _ _ _ h => h) rfl (fun w _ => by go_simp; exact if_max _ _) HS1.out ?_
  try simp only [Act.put, List.setIfInBounds_toArray, List.set_cons_succ, List.set_cons_zero]
  refine takeH 12 (some 2) (.int .i64 (max 0 (min g.p (((((4 * ((g.s - 4)))) - g.maps)) / 3)))) rfl rfl (by kernel_rfl) (by kernel_rfl) (by kernel_rfl) (fun _ _ _ h => h) rfl (fun w _ => by go_simp) HS1.out ?_
  try simp only [Act.put, List.setIfInBounds_toArray, List.set_cons_succ, List.set_cons_zero]
  refine wpAnyH_done (by kernel_rfl) ?_ _
  go_wp2_with fail
  go_ret
  exact ⟨ret_int HC.out, HB.out.1.trans (HS1.out.mono HB.out.1.size)⟩
end Go.Proofs.Ytokenmidcpfneaa
