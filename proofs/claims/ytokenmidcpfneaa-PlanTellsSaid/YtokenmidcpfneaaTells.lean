/- The statement PlanTells' walk. -/
import Derived.Test.YtokenmidcpfneaaWhere
import Derived.Test.YtokenmidcpfneaaWakes
namespace Go.Proofs.Ytokenmidcpfneaa
open Go.RowKit

theorem rwhere_out (g : Gm) (h : g.Ok) (n : Int) (hn : ¬ (4 ≤ n ∧ n ≤ 4 + g.s * g.l - 1)) (w : World) : Calls Try.prog 7 #[g.v, .int .i64 n] w fun e w' => e = .returned (.agg #[.int .i64 0, .int .i64 0, .bool false]) ∧ Below w.heap.size w w' := by
  by_cases h0 : 4 ≤ n
  · exact rwhere_high g h n h0 (by omega) w
  · exact rwhere_low g h n (by omega) w
/-- The call answers v, and what was there is there. -/
abbrev Gives (f : FuncId) (args : Array Value) (v : Value) : Prop := ∀ w, Calls Try.prog f args w fun e w' => e = .returned v ∧ Below w.heap.size w w'

set_option maxHeartbeats 1000000 in
set_option maxRecDepth 100000 in
theorem tells_walk (g : Gm) (n place zm zt zc sg ws wo : Int) (wok b : Bool)
    (h6 : Gives 6 #[g.v] (.agg #[.int .i64 zm, .int .i64 zt, .int .i64 zc])) (h7 : Gives 7 #[g.v, .int .i64 place] (.agg #[.int .i64 ws, .int .i64 wo, .bool wok]))
    (h8 : Gives 8 #[g.v, .int .i64 place] (.tuple #[.int .i64 ws, .int .i64 wo, .bool wok])) (h9 : Gives 9 #[g.v] (.bool b)) (h10 : Gives 10 #[g.v] (.bool b))
    (h11 : Gives 11 #[g.v] (.int .i64 zm)) (h12 : Gives 12 #[g.v] (.int .i64 zt)) (h13 : Gives 13 #[g.v] (.int .i64 zc)) (h14 : Gives 14 #[g.v, .int .i64 n] (.int .i64 sg)) (h15 : Gives 15 #[g.v, .int .i64 n] (.int .i64 sg))
    (w : World) : Calls Try.prog 3 #[g.v, .int .i64 n, .int .i64 place] w fun e w' => e = .returned (.bool true) ∧ Below w.heap.size w w' := by
  have H6 := Lib.hid h6
  have H7 := Lib.hid h7
  have H8 := Lib.hid h8
  have H9 := Lib.hid h9
  have H10 := Lib.hid h10
  have H11 := Lib.hid h11
  have H12 := Lib.hid h12
  have H13 := Lib.hid h13
  have H14 := Lib.hid h14
  have H15 := Lib.hid h15
  clear h6 h7 h8 h9 h10 h11 h12 h13 h14 h15
  go_enter Try.func3, Try.ntmps3
  go_wp2_with fail
  refine (H6.out _).mono ?_
  rintro e w1 ⟨rfl, hb⟩
  have HB := Lib.hid (box_call hb)
  clear hb
  have HA : Hid (Below w1.heap.size w1 (w1.alloc (.cells #[.int .i64 zm, .int .i64 zt, .int .i64 zc] 25))) := Lib.hid ((Below.refl _ _).alloc (Nat.le_refl _) _)
  have HB1 := Lib.hid (further HB.out HA.out)
  have HZ := Lib.hid (Blk.newAt (w := w1) (cs := #[.int .i64 zm, .int .i64 zt, .int .i64 zc]) 25 _ _ rfl rfl)
  have e0 := fun o => (HB.out.2.1.allocs HB.out.2.2 o).p
  have e1 := fun o => (HB.out.2.1.allocs HB.out.2.2 o).s
  have e2 := fun o => (HB.out.2.1.allocs HB.out.2.2 o).l
  have e3 := fun o => (HB.out.2.1.allocs HB.out.2.2 o).f
  go_wp2_with fail
  refine (H7.out _).mono ?_
  rintro e w2 ⟨rfl, hb⟩
  have HB2 := Lib.hid (further HB1.out hb)
  have HZ2 := Lib.hid (HZ.out.below hb HZ.out.lt)
  clear hb e0 e1 e2 e3 HB HA HB1 HZ
  have HA : Hid (Below w2.heap.size w2 (w2.alloc (.cells #[.int .i64 ws, .int .i64 wo, .bool wok] 28))) := Lib.hid ((Below.refl _ _).alloc (Nat.le_refl _) _)
  have HB3 := Lib.hid (further HB2.out HA.out)
  have HZ3 := Lib.hid (HZ2.out.below HA.out HZ2.out.lt)
  have HY3 := Lib.hid (Blk.newAt (w := w2) (cs := #[.int .i64 ws, .int .i64 wo, .bool wok]) 28 _ _ rfl rfl)
  have e0 := fun o => (HB2.out.2.1.allocs HB2.out.2.2 o).p
  have e1 := fun o => (HB2.out.2.1.allocs HB2.out.2.2 o).s
  have e2 := fun o => (HB2.out.2.1.allocs HB2.out.2.2 o).l
  have e3 := fun o => (HB2.out.2.1.allocs HB2.out.2.2 o).f
  go_wp2_with fail
  refine (H8.out _).mono ?_
  rintro e w3 ⟨rfl, hb⟩
  have HB4 := Lib.hid (further HB3.out hb)
  have HZ4 := Lib.hid (HZ3.out.below hb HZ3.out.lt)
  have HY4 := Lib.hid (HY3.out.below hb HY3.out.lt)
  clear hb e0 e1 e2 e3 HB2 HA HB3 HZ2 HZ3 HY3
  go_wp2_with fail
  refine startH (fun wq => Below w3.heap.size w3 wq) (by kernel_rfl) ?_
  refine takeH 0 (some 24) (g.v) rfl rfl (by kernel_rfl) (by kernel_rfl) (by kernel_rfl) (fun _ _ _ h => h) rfl (fun wq hS => by obtain ⟨c0, c1, c2, c3⟩ := HB4.out.2.1.below hS HB4.out.2.2; go_simp) (Below.refl _ _).drew ?_
  try simp only [Act.put, List.setIfInBounds_toArray, List.set_cons_succ, List.set_cons_zero]
  refine takeH 2 (some 26) (g.v) rfl rfl (by kernel_rfl) (by kernel_rfl) (by kernel_rfl) (fun _ _ _ h => h) rfl (fun wq hS => by obtain ⟨c0, c1, c2, c3⟩ := HB4.out.2.1.below hS HB4.out.2.2; go_simp) (Below.refl _ _).drew ?_
  try simp only [Act.put, List.setIfInBounds_toArray, List.set_cons_succ, List.set_cons_zero]
  refine oneH 1 (by kernel_rfl) rfl rfl fun K hK => ?_
  go_simp
  refine (H9.out _).mono ?_
  rintro e wv1 ⟨rfl, hb⟩
  have HS1 := Lib.hid (stay (Below.refl _ _).drew hb)
  refine hK _ _ HS1.out ?_
  clear hK hb K
  try simp only [Act.put, List.setIfInBounds_toArray, List.set_cons_succ, List.set_cons_zero]
  refine oneH 3 (by kernel_rfl) rfl rfl fun K hK => ?_
  go_simp
  refine (H10.out _).mono ?_
  rintro e wv2 ⟨rfl, hb⟩
  have HS2 := Lib.hid (stay HS1.out hb)
  refine hK _ _ HS2.out ?_
  clear hK hb K
  try simp only [Act.put, List.setIfInBounds_toArray, List.set_cons_succ, List.set_cons_zero]
  refine takeH 4 (some 28) (.bool true) rfl rfl (by kernel_rfl) (by kernel_rfl) (by kernel_rfl) (fun _ _ _ h => h) rfl (fun w _ => by go_simp) HS2.out ?_
  try simp only [Act.put, List.setIfInBounds_toArray, List.set_cons_succ, List.set_cons_zero]
  refine takeH 5 (some 29) (.bool true) rfl rfl (by kernel_rfl) (by kernel_rfl) (by kernel_rfl) (fun _ _ _ h => h) rfl (fun w _ => by go_simp) HS2.out ?_
  try simp only [Act.put, List.setIfInBounds_toArray, List.set_cons_succ, List.set_cons_zero]
  refine takeH 6 (some 30) (g.v) rfl rfl (by kernel_rfl) (by kernel_rfl) (by kernel_rfl) (fun _ _ _ h => h) rfl (fun wq hS => by obtain ⟨c0, c1, c2, c3⟩ := HB4.out.2.1.below hS HB4.out.2.2; go_simp) HS2.out ?_
  try simp only [Act.put, List.setIfInBounds_toArray, List.set_cons_succ, List.set_cons_zero]
  refine takeH 8 (some 32) (.pointer (some ⟨w1.heap.size, 0, none⟩)) rfl rfl (by kernel_rfl) (by kernel_rfl) (by kernel_rfl) (fun _ _ _ h => h) rfl (fun w _ => by go_simp) HS2.out ?_
  try simp only [Act.put, List.setIfInBounds_toArray, List.set_cons_succ, List.set_cons_zero]
  refine takeH 9 (some 33) (.int .i64 zm) rfl rfl (by kernel_rfl) (by kernel_rfl) (by kernel_rfl) (fun _ _ _ h => h) rfl (fun wq hS => by have d := (HZ4.out.below hS HZ4.out.lt).cell (i := 0) rfl; go_simp) HS2.out ?_
  try simp only [Act.put, List.setIfInBounds_toArray, List.set_cons_succ, List.set_cons_zero]
  refine oneH 7 (by kernel_rfl) rfl rfl fun K hK => ?_
  go_simp
  refine (H11.out _).mono ?_
  rintro e wv3 ⟨rfl, hb⟩
  have HS3 := Lib.hid (stay HS2.out hb)
  refine hK _ _ HS3.out ?_
  clear hK hb K
  try simp only [Act.put, List.setIfInBounds_toArray, List.set_cons_succ, List.set_cons_zero]
  refine takeH 10 (some 34) (.bool true) rfl rfl (by kernel_rfl) (by kernel_rfl) (by kernel_rfl) (fun _ _ _ h => h) rfl (fun w _ => by go_simp) HS3.out ?_
  try simp only [Act.put, List.setIfInBounds_toArray, List.set_cons_succ, List.set_cons_zero]
  refine takeH 11 (some 35) (.bool true) rfl rfl (by kernel_rfl) (by kernel_rfl) (by kernel_rfl) (fun _ _ _ h => h) rfl (fun w _ => by go_simp) HS3.out ?_
  try simp only [Act.put, List.setIfInBounds_toArray, List.set_cons_succ, List.set_cons_zero]
  refine takeH 12 (some 36) (.bool true) rfl rfl (by kernel_rfl) (by kernel_rfl) (by kernel_rfl) (fun _ _ _ h => h) rfl (fun w _ => by go_simp) HS3.out ?_
  try simp only [Act.put, List.setIfInBounds_toArray, List.set_cons_succ, List.set_cons_zero]
  refine takeH 13 (some 37) (g.v) rfl rfl (by kernel_rfl) (by kernel_rfl) (by kernel_rfl) (fun _ _ _ h => h) rfl (fun wq hS => by obtain ⟨c0, c1, c2, c3⟩ := HB4.out.2.1.below hS HB4.out.2.2; go_simp) HS3.out ?_
  try simp only [Act.put, List.setIfInBounds_toArray, List.set_cons_succ, List.set_cons_zero]
  refine takeH 15 (some 39) (.pointer (some ⟨w1.heap.size, 1, none⟩)) rfl rfl (by kernel_rfl) (by kernel_rfl) (by kernel_rfl) (fun _ _ _ h => h) rfl (fun w _ => by go_simp) HS3.out ?_
  try simp only [Act.put, List.setIfInBounds_toArray, List.set_cons_succ, List.set_cons_zero]
  refine takeH 16 (some 40) (.int .i64 zt) rfl rfl (by kernel_rfl) (by kernel_rfl) (by kernel_rfl) (fun _ _ _ h => h) rfl (fun wq hS => by have d := (HZ4.out.below hS HZ4.out.lt).cell (i := 1) rfl; go_simp) HS3.out ?_
  try simp only [Act.put, List.setIfInBounds_toArray, List.set_cons_succ, List.set_cons_zero]
  refine oneH 14 (by kernel_rfl) rfl rfl fun K hK => ?_
  go_simp
  refine (H12.out _).mono ?_
  rintro e wv4 ⟨rfl, hb⟩
  have HS4 := Lib.hid (stay HS3.out hb)
  refine hK _ _ HS4.out ?_
  clear hK hb K
  try simp only [Act.put, List.setIfInBounds_toArray, List.set_cons_succ, List.set_cons_zero]
  refine takeH 17 (some 41) (.bool true) rfl rfl (by kernel_rfl) (by kernel_rfl) (by kernel_rfl) (fun _ _ _ h => h) rfl (fun w _ => by go_simp) HS4.out ?_
  try simp only [Act.put, List.setIfInBounds_toArray, List.set_cons_succ, List.set_cons_zero]
  refine takeH 18 (some 42) (.bool true) rfl rfl (by kernel_rfl) (by kernel_rfl) (by kernel_rfl) (fun _ _ _ h => h) rfl (fun w _ => by go_simp) HS4.out ?_
  try simp only [Act.put, List.setIfInBounds_toArray, List.set_cons_succ, List.set_cons_zero]
  refine takeH 19 (some 43) (.bool true) rfl rfl (by kernel_rfl) (by kernel_rfl) (by kernel_rfl) (fun _ _ _ h => h) rfl (fun w _ => by go_simp) HS4.out ?_
  try simp only [Act.put, List.setIfInBounds_toArray, List.set_cons_succ, List.set_cons_zero]
  refine takeH 20 (some 44) (g.v) rfl rfl (by kernel_rfl) (by kernel_rfl) (by kernel_rfl) (fun _ _ _ h => h) rfl (fun wq hS => by obtain ⟨c0, c1, c2, c3⟩ := HB4.out.2.1.below hS HB4.out.2.2; go_simp) HS4.out ?_
  try simp only [Act.put, List.setIfInBounds_toArray, List.set_cons_succ, List.set_cons_zero]
  refine takeH 22 (some 46) (.pointer (some ⟨w1.heap.size, 2, none⟩)) rfl rfl (by kernel_rfl) (by kernel_rfl) (by kernel_rfl) (fun _ _ _ h => h) rfl (fun w _ => by go_simp) HS4.out ?_
  try simp only [Act.put, List.setIfInBounds_toArray, List.set_cons_succ, List.set_cons_zero]
  refine takeH 23 (some 47) (.int .i64 zc) rfl rfl (by kernel_rfl) (by kernel_rfl) (by kernel_rfl) (fun _ _ _ h => h) rfl (fun wq hS => by have d := (HZ4.out.below hS HZ4.out.lt).cell (i := 2) rfl; go_simp) HS4.out ?_
  try simp only [Act.put, List.setIfInBounds_toArray, List.set_cons_succ, List.set_cons_zero]
  refine oneH 21 (by kernel_rfl) rfl rfl fun K hK => ?_
  go_simp
  refine (H13.out _).mono ?_
  rintro e wv5 ⟨rfl, hb⟩
  have HS5 := Lib.hid (stay HS4.out hb)
  refine hK _ _ HS5.out ?_
  clear hK hb K
  try simp only [Act.put, List.setIfInBounds_toArray, List.set_cons_succ, List.set_cons_zero]
  refine takeH 24 (some 48) (.bool true) rfl rfl (by kernel_rfl) (by kernel_rfl) (by kernel_rfl) (fun _ _ _ h => h) rfl (fun w _ => by go_simp) HS5.out ?_
  try simp only [Act.put, List.setIfInBounds_toArray, List.set_cons_succ, List.set_cons_zero]
  refine takeH 25 (some 49) (.bool true) rfl rfl (by kernel_rfl) (by kernel_rfl) (by kernel_rfl) (fun _ _ _ h => h) rfl (fun w _ => by go_simp) HS5.out ?_
  try simp only [Act.put, List.setIfInBounds_toArray, List.set_cons_succ, List.set_cons_zero]
  refine takeH 26 (some 50) (.bool true) rfl rfl (by kernel_rfl) (by kernel_rfl) (by kernel_rfl) (fun _ _ _ h => h) rfl (fun w _ => by go_simp) HS5.out ?_
  try simp only [Act.put, List.setIfInBounds_toArray, List.set_cons_succ, List.set_cons_zero]
  refine takeH 27 (some 51) (g.v) rfl rfl (by kernel_rfl) (by kernel_rfl) (by kernel_rfl) (fun _ _ _ h => h) rfl (fun wq hS => by obtain ⟨c0, c1, c2, c3⟩ := HB4.out.2.1.below hS HB4.out.2.2; go_simp) HS5.out ?_
  try simp only [Act.put, List.setIfInBounds_toArray, List.set_cons_succ, List.set_cons_zero]
  refine takeH 28 (some 52) (.int .i64 n) rfl rfl (by kernel_rfl) (by kernel_rfl) (by kernel_rfl) (fun _ _ _ h => h) rfl (fun w _ => by go_simp) HS5.out ?_
  try simp only [Act.put, List.setIfInBounds_toArray, List.set_cons_succ, List.set_cons_zero]
  refine takeH 30 (some 54) (g.v) rfl rfl (by kernel_rfl) (by kernel_rfl) (by kernel_rfl) (fun _ _ _ h => h) rfl (fun wq hS => by obtain ⟨c0, c1, c2, c3⟩ := HB4.out.2.1.below hS HB4.out.2.2; go_simp) HS5.out ?_
  try simp only [Act.put, List.setIfInBounds_toArray, List.set_cons_succ, List.set_cons_zero]
  refine takeH 31 (some 55) (.int .i64 n) rfl rfl (by kernel_rfl) (by kernel_rfl) (by kernel_rfl) (fun _ _ _ h => h) rfl (fun w _ => by go_simp) HS5.out ?_
  try simp only [Act.put, List.setIfInBounds_toArray, List.set_cons_succ, List.set_cons_zero]
  refine oneH 29 (by kernel_rfl) rfl rfl fun K hK => ?_
  go_simp
  refine (H14.out _).mono ?_
  rintro e wv6 ⟨rfl, hb⟩
  have HS6 := Lib.hid (stay HS5.out hb)
  refine hK _ _ HS6.out ?_
  clear hK hb K
  try simp only [Act.put, List.setIfInBounds_toArray, List.set_cons_succ, List.set_cons_zero]
  refine oneH 32 (by kernel_rfl) rfl rfl fun K hK => ?_
  go_simp
  refine (H15.out _).mono ?_
  rintro e wv7 ⟨rfl, hb⟩
  have HS7 := Lib.hid (stay HS6.out hb)
  refine hK _ _ HS7.out ?_
  clear hK hb K
  try simp only [Act.put, List.setIfInBounds_toArray, List.set_cons_succ, List.set_cons_zero]
  refine takeH 33 (some 57) (.bool true) rfl rfl (by kernel_rfl) (by kernel_rfl) (by kernel_rfl) (fun _ _ _ h => h) rfl (fun w _ => by go_simp) HS7.out ?_
  try simp only [Act.put, List.setIfInBounds_toArray, List.set_cons_succ, List.set_cons_zero]
  refine takeH 34 (some 58) (.bool true) rfl rfl (by kernel_rfl) (by kernel_rfl) (by kernel_rfl) (fun _ _ _ h => h) rfl (fun w _ => by go_simp) HS7.out ?_
  try simp only [Act.put, List.setIfInBounds_toArray, List.set_cons_succ, List.set_cons_zero]
  refine takeH 35 (some 59) (.bool true) rfl rfl (by kernel_rfl) (by kernel_rfl) (by kernel_rfl) (fun _ _ _ h => h) rfl (fun w _ => by go_simp) HS7.out ?_
  try simp only [Act.put, List.setIfInBounds_toArray, List.set_cons_succ, List.set_cons_zero]
  refine takeH 36 (some 60) (.int .i64 ws) rfl rfl (by kernel_rfl) (by kernel_rfl) (by kernel_rfl) (fun _ _ _ h => h) rfl (fun w _ => by go_simp) HS7.out ?_
  try simp only [Act.put, List.setIfInBounds_toArray, List.set_cons_succ, List.set_cons_zero]
  refine takeH 37 (some 61) (.pointer (some ⟨w2.heap.size, 0, none⟩)) rfl rfl (by kernel_rfl) (by kernel_rfl) (by kernel_rfl) (fun _ _ _ h => h) rfl (fun w _ => by go_simp) HS7.out ?_
  try simp only [Act.put, List.setIfInBounds_toArray, List.set_cons_succ, List.set_cons_zero]
  refine takeH 38 (some 62) (.int .i64 ws) rfl rfl (by kernel_rfl) (by kernel_rfl) (by kernel_rfl) (fun _ _ _ h => h) rfl (fun wq hS => by have d := (HY4.out.below hS HY4.out.lt).cell (i := 0) rfl; go_simp) HS7.out ?_
  try simp only [Act.put, List.setIfInBounds_toArray, List.set_cons_succ, List.set_cons_zero]
  refine takeH 39 (some 63) (.bool true) rfl rfl (by kernel_rfl) (by kernel_rfl) (by kernel_rfl) (fun _ _ _ h => h) rfl (fun w _ => by go_simp) HS7.out ?_
  try simp only [Act.put, List.setIfInBounds_toArray, List.set_cons_succ, List.set_cons_zero]
  refine takeH 40 (some 64) (.bool true) rfl rfl (by kernel_rfl) (by kernel_rfl) (by kernel_rfl) (fun _ _ _ h => h) rfl (fun w _ => by go_simp) HS7.out ?_
  try simp only [Act.put, List.setIfInBounds_toArray, List.set_cons_succ, List.set_cons_zero]
  refine takeH 41 (some 65) (.bool true) rfl rfl (by kernel_rfl) (by kernel_rfl) (by kernel_rfl) (fun _ _ _ h => h) rfl (fun w _ => by go_simp) HS7.out ?_
  try simp only [Act.put, List.setIfInBounds_toArray, List.set_cons_succ, List.set_cons_zero]
  refine takeH 42 (some 66) (.int .i64 wo) rfl rfl (by kernel_rfl) (by kernel_rfl) (by kernel_rfl) (fun _ _ _ h => h) rfl (fun w _ => by go_simp) HS7.out ?_
  try simp only [Act.put, List.setIfInBounds_toArray, List.set_cons_succ, List.set_cons_zero]
  refine takeH 43 (some 67) (.pointer (some ⟨w2.heap.size, 1, none⟩)) rfl rfl (by kernel_rfl) (by kernel_rfl) (by kernel_rfl) (fun _ _ _ h => h) rfl (fun w _ => by go_simp) HS7.out ?_
  try simp only [Act.put, List.setIfInBounds_toArray, List.set_cons_succ, List.set_cons_zero]
  refine takeH 44 (some 68) (.int .i64 wo) rfl rfl (by kernel_rfl) (by kernel_rfl) (by kernel_rfl) (fun _ _ _ h => h) rfl (fun wq hS => by have d := (HY4.out.below hS HY4.out.lt).cell (i := 1) rfl; go_simp) HS7.out ?_
  try simp only [Act.put, List.setIfInBounds_toArray, List.set_cons_succ, List.set_cons_zero]
  refine takeH 45 (some 69) (.bool true) rfl rfl (by kernel_rfl) (by kernel_rfl) (by kernel_rfl) (fun _ _ _ h => h) rfl (fun w _ => by go_simp) HS7.out ?_
  try simp only [Act.put, List.setIfInBounds_toArray, List.set_cons_succ, List.set_cons_zero]
  refine takeH 46 (some 70) (.bool true) rfl rfl (by kernel_rfl) (by kernel_rfl) (by kernel_rfl) (fun _ _ _ h => h) rfl (fun w _ => by go_simp) HS7.out ?_
  try simp only [Act.put, List.setIfInBounds_toArray, List.set_cons_succ, List.set_cons_zero]
  refine takeH 47 (some 71) (.bool true) rfl rfl (by kernel_rfl) (by kernel_rfl) (by kernel_rfl) (fun _ _ _ h => h) rfl (fun w _ => by go_simp) HS7.out ?_
  try simp only [Act.put, List.setIfInBounds_toArray, List.set_cons_succ, List.set_cons_zero]
  refine takeH 48 (some 72) (.bool wok) rfl rfl (by kernel_rfl) (by kernel_rfl) (by kernel_rfl) (fun _ _ _ h => h) rfl (fun w _ => by go_simp) HS7.out ?_
  try simp only [Act.put, List.setIfInBounds_toArray, List.set_cons_succ, List.set_cons_zero]
  refine takeH 49 (some 73) (.pointer (some ⟨w2.heap.size, 2, none⟩)) rfl rfl (by kernel_rfl) (by kernel_rfl) (by kernel_rfl) (fun _ _ _ h => h) rfl (fun w _ => by go_simp) HS7.out ?_
  try simp only [Act.put, List.setIfInBounds_toArray, List.set_cons_succ, List.set_cons_zero]
  refine takeH 50 (some 74) (.bool wok) rfl rfl (by kernel_rfl) (by kernel_rfl) (by kernel_rfl) (fun _ _ _ h => h) rfl (fun wq hS => by have d := (HY4.out.below hS HY4.out.lt).cell (i := 2) rfl; go_simp) HS7.out ?_
  try simp only [Act.put, List.setIfInBounds_toArray, List.set_cons_succ, List.set_cons_zero]
  refine takeH 51 (some 75) (.bool true) rfl rfl (by kernel_rfl) (by kernel_rfl) (by kernel_rfl) (fun _ _ _ h => h) rfl (fun w _ => by go_simp) HS7.out ?_
  try simp only [Act.put, List.setIfInBounds_toArray, List.set_cons_succ, List.set_cons_zero]
  refine takeH 52 (some 76) (.bool true) rfl rfl (by kernel_rfl) (by kernel_rfl) (by kernel_rfl) (fun _ _ _ h => h) rfl (fun w _ => by go_simp) HS7.out ?_
  try simp only [Act.put, List.setIfInBounds_toArray, List.set_cons_succ, List.set_cons_zero]
  refine takeH 53 (some 77) (.bool true) rfl rfl (by kernel_rfl) (by kernel_rfl) (by kernel_rfl) (fun _ _ _ h => h) rfl (fun w _ => by go_simp) HS7.out ?_
  try simp only [Act.put, List.setIfInBounds_toArray, List.set_cons_succ, List.set_cons_zero]
  refine oneH 54 (by kernel_rfl) rfl rfl fun K hK => ?_
  go_simp
  refine (wakes_any _).mono ?_
  rintro e wv8 ⟨rfl, hb⟩
  have HS8 := Lib.hid (stay HS7.out hb)
  refine hK _ _ HS8.out ?_
  clear hK hb K
  try simp only [Act.put, List.setIfInBounds_toArray, List.set_cons_succ, List.set_cons_zero]
  refine takeH 55 (some 79) (.bool true) rfl rfl (by kernel_rfl) (by kernel_rfl) (by kernel_rfl) (fun _ _ _ h => h) rfl (fun w _ => by go_simp) HS8.out ?_
  try simp only [Act.put, List.setIfInBounds_toArray, List.set_cons_succ, List.set_cons_zero]
  refine takeH 56 (some 6) (.bool true) rfl rfl (by kernel_rfl) (by kernel_rfl) (by kernel_rfl) (fun _ _ _ h => h) rfl (fun w _ => by go_simp) HS8.out ?_
  try simp only [Act.put, List.setIfInBounds_toArray, List.set_cons_succ, List.set_cons_zero]
  refine wpAnyH_done (by kernel_rfl) ?_ _
  go_wp2_with fail
  go_ret
  exact ⟨rfl, HB4.out.1.trans (HS8.out.mono HB4.out.1.size)⟩

theorem tells_any (g : Gm) (n place : Int) (w : World) : Calls Try.prog 3 #[g.v, .int .i64 n, .int .i64 place] w fun e w' => e = .returned (.bool true) ∧ Below w.heap.size w w' := by
  by_cases h : g.Ok
  · by_cases hn : 0 ≤ n ∧ n ≤ g.s - 1
    all_goals by_cases hp : 4 ≤ place ∧ place ≤ 4 + g.s * g.l - 1
    · exact tells_walk g n place _ _ _ _ _ _ _ _ (rof_yes g h) (rwhere_in g h place hp.1 (by omega)) (of_in g h place hp) (good_yes g h) (rgood_yes g h) (maps_yes g h) (total_yes g h) (cap_yes g h) (seg_in g h n hn) (rseg_in g h n hn) w
    · exact tells_walk g n place _ _ _ _ _ _ _ _ (rof_yes g h) (rwhere_out g h place hp) (of_out g h place hp) (good_yes g h) (rgood_yes g h) (maps_yes g h) (total_yes g h) (cap_yes g h) (seg_in g h n hn) (rseg_in g h n hn) w
    · exact tells_walk g n place _ _ _ _ _ _ _ _ (rof_yes g h) (rwhere_in g h place hp.1 (by omega)) (of_in g h place hp) (good_yes g h) (rgood_yes g h) (maps_yes g h) (total_yes g h) (cap_yes g h) (seg_out g h n hn) (rseg_out g h n hn) w
    · exact tells_walk g n place _ _ _ _ _ _ _ _ (rof_yes g h) (rwhere_out g h place hp) (of_out g h place hp) (good_yes g h) (rgood_yes g h) (maps_yes g h) (total_yes g h) (cap_yes g h) (seg_out g h n hn) (rseg_out g h n hn) w
  · exact tells_walk g n place _ _ _ _ _ _ _ _ (rof_no g h) (rwhere_no g h place) (of_no g h place) (good_no g h) (rgood_no g h) (maps_no g h) (total_no g h) (cap_no g h) (seg_no g h n) (rseg_no g h n) w
end Go.Proofs.Ytokenmidcpfneaa
