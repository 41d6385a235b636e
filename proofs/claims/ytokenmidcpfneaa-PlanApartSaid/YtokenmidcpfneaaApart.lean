/- The statement PlanApart's walk. -/
import Derived.Test.YtokenmidcpfneaaCaps
import Derived.Test.YtokenmidcpfneaaWakes
import Derived.Deep.LoopGhost
namespace Go.Proofs.Ytokenmidcpfneaa
open Go.RowKit

theorem apart_no (g : Gm) (h : ¬ g.Ok) (w : World) : Calls Try.prog 4 #[g.v] w fun e w' => e = .returned (.bool true) ∧ Below w.heap.size w w' := by
  have H9 := Lib.hid fun w => good_no g h w
  have H12 := Lib.hid fun w => total_no g h w
  have H13 := Lib.hid fun w => cap_no g h w
  clear h
  go_enter Try.func4, Try.ntmps4
  go_wp2_with fail
  refine (H9.out _).mono ?_
  rintro e w1 ⟨rfl, hb⟩
  have HB := Lib.hid (box_call hb)
  clear hb
  obtain ⟨c0, c1, c2, c3⟩ := HB.out.2.1
  go_wp2_with fail
  refine (H12.out _).mono ?_
  rintro e w2 ⟨rfl, hb⟩
  have HB2 := Lib.hid (further HB.out hb)
  clear hb c0 c1 c2 c3 HB
  obtain ⟨c0, c1, c2, c3⟩ := HB2.out.2.1
  go_wp2_with fail
  refine (H13.out _).mono ?_
  rintro e w3 ⟨rfl, hb⟩
  have HB3 := Lib.hid (further HB2.out hb)
  clear hb c0 c1 c2 c3
  go_wp2_with fail
  refine (wakes_any _).mono ?_
  rintro e w4 ⟨rfl, hb⟩
  have HB4 := Lib.hid (further HB3.out hb)
  clear hb
  go_wp2_with fail
  go_ret
  exact ⟨rfl, HB4.out.1⟩

/-- Sector j of segment k. -/
theorem of_at (g : Gm) (h : g.Ok) (k j : Int) (k0 : 0 ≤ k) (k1 : k < g.s) (j0 : 0 ≤ j) (j1 : j < g.l) (w : World) : Calls Try.prog 8 #[g.v, .int .i64 (4 + k * g.l + j)] w fun e w' => e = .returned (.tuple #[.int .i64 k, .int .i64 j, .bool true]) ∧ Below w.heap.size w w' := by
  have hl : 0 < g.l := by omega
  have e : 4 + k * g.l + j - 4 = j + k * g.l := by omega
  have hk : k * g.l ≤ (g.s - 1) * g.l := Int.mul_le_mul_of_nonneg_right (by omega) (by omega)
  have hk0 : 0 ≤ k * g.l := Int.mul_nonneg k0 (by omega)
  have hs : (g.s - 1) * g.l = g.s * g.l - g.l := by rw [Int.sub_mul, Int.one_mul]
  have hd : (4 + k * g.l + j - 4) / g.l = k := by
    rw [e, Int.add_mul_ediv_right _ _ (by omega), Int.ediv_eq_zero_of_lt j0 j1]
    omega
  have hm : (4 + k * g.l + j - 4) % g.l = j := by
    rw [e, Int.add_mul_emod_self_right, Int.emod_eq_of_lt j0 j1]
  have := of_in g h (4 + k * g.l + j) (by omega) w
  rw [hd, hm] at this
  exact this
theorem Gm.Ok.caps {g : Gm} (h : g.Ok) : 0 ≤ g.cap ∧ g.cap ≤ g.p ∧ (g.cap = 0 ∨ 3 * g.cap + g.maps ≤ 4 * (g.s - 4)) ∧ (g.cap = g.p ∨ 4 * (g.s - 4) < 3 * (g.cap + 1) + g.maps) := by
  obtain ⟨m0, m1, _⟩ := h.maps
  obtain ⟨⟨h1, h2⟩, ⟨h3, h4⟩, _, _⟩ := h
  unfold Gm.cap
  omega

set_option maxHeartbeats 4000000 in
set_option maxRecDepth 100000 in
theorem apart_yes (g : Gm) (h : g.Ok) (w : World) : Calls Try.prog 4 #[g.v] w fun e w' => e = .returned (.bool true) ∧ Below w.heap.size w w' := by
  have HO := Lib.hid h
  have H9 := Lib.hid fun w => good_yes g h w
  have H12 := Lib.hid fun w => total_yes g h w
  have HSeg := Lib.hid fun n hn w => seg_in g h n hn w
  have HOf := Lib.hid fun k j k0 k1 j0 j1 w => of_at g h k j k0 k1 j0 j1 w
  have HLow := Lib.hid fun w => of_out g h 3 (by omega) w
  have HHigh := Lib.hid fun w => of_out g h (4 + g.s * g.l) (by omega) w
  have hcm : ∃ c m : Int, (∀ w, Calls Try.prog 13 #[g.v] w fun e w' => e = .returned (.int .i64 c) ∧ Below w.heap.size w w') ∧ (∀ w, Calls Try.prog 11 #[g.v] w fun e w' => e = .returned (.int .i64 m) ∧ Below w.heap.size w w') ∧
      ((1 ≤ m ∧ m ≤ 8 ∧ g.p ≤ m * 8 ∧ (m - 1) * 8 < g.p) ∧ 0 ≤ c ∧ c ≤ g.p ∧ (c = 0 ∨ 3 * c + m ≤ 4 * (g.s - 4)) ∧ (c = g.p ∨ 4 * (g.s - 4) < 3 * (c + 1) + m)) := ⟨g.cap, g.maps, cap_yes g h, maps_yes g h, h.maps, h.caps⟩
  obtain ⟨c, m, h13, h11, hcm⟩ := hcm
  have H13 := Lib.hid h13
  have H11 := Lib.hid h11
  have HCM := Lib.hid hcm
  obtain ⟨a0, a1⟩ := h.area
  obtain ⟨⟨h1, h2⟩, ⟨h3, h4⟩, ⟨h5, h6⟩, ⟨h7, h8⟩⟩ := h
  clear h13 h11 hcm h7 h8
  have HA := Lib.hid (fun (k : Int) (k0 : 0 ≤ k) (k1 : k ≤ g.s) => small_mul (B := 32) (A := 16) k0 (show k ≤ 16 by omega) (show 0 ≤ g.l by omega) h6)
  go_enter Try.func4, Try.ntmps4
  go_wp2_with fail
  refine (H9.out _).mono ?_
  rintro e w1 ⟨rfl, hb⟩
  have HB := Lib.hid (box_call hb)
  clear hb
  go_wp2_with fail
  go_loopg [3, 4] g.s.toNat (fun n at' s wr => ∃ k : Int, 0 ≤ k ∧ k ≤ g.s ∧ (g.s - k).toNat ≤ n ∧ at' = .int .i64 (4 + k * g.l) ∧ s = .int .i64 k ∧ (Below w.heap.size w wr ∧ GAt wr w.heap.size g ∧ w.heap.size < wr.heap.size))
  case atStart => exact ⟨0, by omega, by omega, by omega, by simp, rfl, HB.out⟩
  case round =>
    clear HB
    obtain ⟨k, k0, k1, hn, rfl, rfl, hB⟩ := hrel
    have HB := Lib.hid hB
    clear hB
    obtain ⟨b0, b1⟩ := HA.out k k0 k1
    obtain ⟨c0, c1, c2, c3⟩ := HB.out.2.1
    by_cases hk : k < g.s
    · go_wp2_with fail
      refine (HSeg.out k (by omega) _).mono ?_
      rintro e w2 ⟨rfl, hb⟩
      have HB2 := Lib.hid (further HB.out hb)
      clear hb c0 c1 c2 c3 HB
      go_wp2_with fail
      go_loopg [3, 5] g.l.toNat (fun n at' o wq => ∃ j : Int, 0 ≤ j ∧ j ≤ g.l ∧ (g.l - j).toNat ≤ n ∧ at' = .int .i64 (4 + k * g.l + j) ∧ o = .int .i64 j ∧ (Below w.heap.size w wq ∧ GAt wq w.heap.size g ∧ w.heap.size < wq.heap.size))
      case atStart => exact ⟨0, by omega, by omega, by omega, by simp, rfl, HB2.out⟩
      case round =>
        clear HB2
        obtain ⟨j, j0, j1, hm, rfl, rfl, hB⟩ := hrel
        have HB := Lib.hid hB
        clear hB
        obtain ⟨c0, c1, c2, c3⟩ := HB.out.2.1
        by_cases hj : j < g.l
        · go_wp2_with fail
          refine (HOf.out k j k0 hk j0 hj _).mono ?_
          rintro e w3 ⟨rfl, hb⟩
          have HB3 := Lib.hid (further HB.out hb)
          clear hb c0 c1 c2 c3 HB
          go_wp2_with fail
          go_roundg (g.l - (j + 1)).toNat
          case measure => omega
          case rel => exact ⟨j + 1, by omega, by omega, by omega, by go_num, by go_num, HB3.out⟩
        · have hjl : j = g.l := by omega
          have he : 4 + k * g.l + j = 4 + (k + 1) * g.l := by rw [Int.add_mul]; omega
          have HE := Lib.hid he
          clear he hjl
          go_wp2_with fail
          go_roundg (g.s - (k + 1)).toNat
          case measure => omega
          case rel => exact ⟨k + 1, by omega, by omega, by omega, congrArg (Value.int .i64) HE.out, by go_num, HB.out⟩
    · have hks : k = g.s := by omega
      subst hks
      clear hk k0 k1 b0 b1
      go_wp2_with fail
      refine (HLow.out _).mono ?_
      rintro e w2 ⟨rfl, hb⟩
      have HB2 := Lib.hid (further HB.out hb)
      clear hb c0 c1 c2 c3 HB
      obtain ⟨c0, c1, c2, c3⟩ := HB2.out.2.1
      go_wp2_with fail
      refine (HHigh.out _).mono ?_
      rintro e w3 ⟨rfl, hb⟩
      have HB3 := Lib.hid (further HB2.out hb)
      clear hb c0 c1 c2 c3 HB2
      obtain ⟨c0, c1, c2, c3⟩ := HB3.out.2.1
      go_wp2_with fail
      refine (H12.out _).mono ?_
      rintro e w4 ⟨rfl, hb⟩
      have HB4 := Lib.hid (further HB3.out hb)
      clear hb c0 c1 c2 c3 HB3
      go_wp2_with fail
      refine startH (fun wq => Below w4.heap.size w4 wq) (by kernel_rfl) ?_
      refine takeH 0 (some 92) (g.v) rfl rfl (by kernel_rfl) (by kernel_rfl) (by kernel_rfl) (fun _ _ _ h => h) rfl (fun wq hS => by obtain ⟨c0, c1, c2, c3⟩ := HB4.out.2.1.below hS HB4.out.2.2; go_simp) (Below.refl _ _).drew ?_
      try simp only [Act.put, List.setIfInBounds_toArray, List.set_cons_succ, List.set_cons_zero]
      refine takeH 2 (some 94) (g.v) rfl rfl (by kernel_rfl) (by kernel_rfl) (by kernel_rfl) (fun _ _ _ h => h) rfl (fun wq hS => by obtain ⟨c0, c1, c2, c3⟩ := HB4.out.2.1.below hS HB4.out.2.2; go_simp) (Below.refl _ _).drew ?_
      try simp only [Act.put, List.setIfInBounds_toArray, List.set_cons_succ, List.set_cons_zero]
      refine oneH 1 (by kernel_rfl) rfl rfl fun K hK => ?_
      go_simp
      refine (H13.out _).mono ?_
      rintro e wv1 ⟨rfl, hb⟩
      have HS1 := Lib.hid (stay (Below.refl _ _).drew hb)
      refine hK _ _ HS1.out ?_
      clear hK hb K
      try simp only [Act.put, List.setIfInBounds_toArray, List.set_cons_succ, List.set_cons_zero]
      refine oneH 3 (by kernel_rfl) rfl rfl fun K hK => ?_
      go_simp
      refine (H11.out _).mono ?_
      rintro e wv2 ⟨rfl, hb⟩
      have HS2 := Lib.hid (stay HS1.out hb)
      refine hK _ _ HS2.out ?_
      clear hK hb K
      try simp only [Act.put, List.setIfInBounds_toArray, List.set_cons_succ, List.set_cons_zero]
      refine takeH 4 (some 15) (.int .i64 c) rfl rfl (by kernel_rfl) (by kernel_rfl) (by kernel_rfl) (fun _ _ _ h => h) rfl (fun w _ => by go_simp) HS2.out ?_
      try simp only [Act.put, List.setIfInBounds_toArray, List.set_cons_succ, List.set_cons_zero]
      refine takeH 5 (some 16) (.int .i64 m) rfl rfl (by kernel_rfl) (by kernel_rfl) (by kernel_rfl) (fun _ _ _ h => h) rfl (fun w _ => by go_simp) HS2.out ?_
      try simp only [Act.put, List.setIfInBounds_toArray, List.set_cons_succ, List.set_cons_zero]
      refine wpAnyH_done (by kernel_rfl) ?_ _
      have HB5 := Lib.hid (further HB4.out HS2.out)
      clear HB4
      obtain ⟨⟨m0, m1, m2, m3⟩, q0, q1, q2, q3⟩ := HCM.out
      obtain ⟨c0, c1, c2, c3⟩ := HB5.out.2.1
      have t0 : c = 0 ∨ (¬ c = 0 ∧ 3 * c + m ≤ 4 * (g.s - 4)) := by omega
      have t1 : c = g.p ∨ (¬ c = g.p ∧ 4 * (g.s - 4) < 3 * (c + 1) + m) := by omega
      clear q2 q3
      rcases t0 with rfl | ⟨hc0, q2⟩
      · rcases t1 with hcp | ⟨hcp, q3⟩
        · exfalso
          omega
        · go_wp2_with fail
          refine (wakes_any _).mono ?_
          rintro e w6 ⟨rfl, hb⟩
          have HB6 := Lib.hid (further HB5.out hb)
          clear hb c0 c1 c2 c3 HB5
          go_wp2_with fail
          go_ret
          exact ⟨rfl, HB6.out.1⟩
      · rcases t1 with rfl | ⟨hcp, q3⟩
        · go_wp2_with fail
          refine (wakes_any _).mono ?_
          rintro e w6 ⟨rfl, hb⟩
          have HB6 := Lib.hid (further HB5.out hb)
          clear hb c0 c1 c2 c3 HB5
          go_wp2_with fail
          go_ret
          exact ⟨rfl, HB6.out.1⟩
        · go_wp2_with fail
          refine (wakes_any _).mono ?_
          rintro e w6 ⟨rfl, hb⟩
          have HB6 := Lib.hid (further HB5.out hb)
          clear hb c0 c1 c2 c3 HB5
          go_wp2_with fail
          go_ret
          exact ⟨rfl, HB6.out.1⟩
theorem apart_any (g : Gm) (w : World) : Calls Try.prog 4 #[g.v] w fun e w' => e = .returned (.bool true) ∧ Below w.heap.size w w' := by
  by_cases h : g.Ok
  · exact apart_yes g h w
  · exact apart_no g h w
end Go.Proofs.Ytokenmidcpfneaa
