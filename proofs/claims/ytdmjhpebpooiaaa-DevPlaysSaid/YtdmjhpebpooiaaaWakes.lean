/- The statements' own wakes: true, in whatever memory. -/
import Derived.Test.YtdmjhpebpooiaaaLaw
namespace Go.Proofs.Ytdmjhpebpooiaaa
open Go.RowKit
def wd1 : D := ⟨List.replicate 4 (fillA 0), [(1, fillA 7)], -1, 1⟩
def wd2 : D := ⟨List.replicate 4 (fillA 0), [(1, fillA 7), (1, fillA 8)], -1, 2⟩
def wd3 : D := ⟨List.replicate 4 (fillA 0), [(1, fillA 7), (1, fillA 8)], 0, 2⟩
def wd4 : D := ⟨List.replicate 4 (fillA 0), [(1, fillA 7), (1, fillA 8)], -1, 2⟩
def wd5 : D := ⟨List.replicate 4 (fillA 0), [(1, fillA 7), (1, fillA 8), (2, fillA 9)], -1, 3⟩
def wd6 : D := ⟨[fillA 0, fillA 7, fillA 9, fillA 0], [], -1, 3⟩
set_option maxRecDepth 100000 in
set_option maxHeartbeats 1000000 in
theorem wakes_any (w : World) : Calls Try.prog 11 #[] w fun e w' => e = .returned (.bool true) ∧ Below w.heap.size w w' := by
  go_enter Try.func11, Try.ntmps11
  go_wp2_with fail
  have H0 := Lib.hid (dv_new w w (Below.refl _ _) 4 (by omega))
  refine H0.out.mono ?_
  rintro e w0 ⟨b, F, rfl, hd, _, _⟩
  have HD0 := Lib.hid hd
  clear hd
  go_wp2_with fail
  have H1 := Lib.hid (fill_any 7 w0)
  refine H1.out.mono ?_
  rintro e w2 ⟨rfl, hb⟩
  have HD3 := Lib.hid (HD0.out.below hb)
  clear hb H1
  go_wp2_with fail
  have H4 := Lib.hid (show Calls _ _ _ _ (After w w2 b F (.int .i64 0) wd1) from dv_write HD3.out (by decide) (by decide) 1 (fillA 7) (fillA_sec 7))
  refine H4.out.mono ?_
  rintro e w5 ⟨F6, rfl, hd, ho, hn⟩
  have HD7 := Lib.hid hd
  clear hd ho hn H4
  go_wp2_with fail
  have H8 := Lib.hid (fill_any 8 w5)
  refine H8.out.mono ?_
  rintro e w9 ⟨rfl, hb⟩
  have HD10 := Lib.hid (HD7.out.below hb)
  clear hb H8
  go_wp2_with fail
  have H11 := Lib.hid (show Calls _ _ _ _ (After w w9 b F6 (.int .i64 0) wd2) from dv_write HD10.out (by decide) (by decide) 1 (fillA 8) (fillA_sec 8))
  refine H11.out.mono ?_
  rintro e w12 ⟨F13, rfl, hd, ho, hn⟩
  have HD14 := Lib.hid hd
  clear hd ho hn H11
  go_wp2_with fail
  have H15 := Lib.hid (fill_any 8 w12)
  refine H15.out.mono ?_
  rintro e w16 ⟨rfl, hb⟩
  have HD17 := Lib.hid (HD14.out.below hb)
  clear hb H15
  go_wp2_with fail
  have H18 := Lib.hid (show Calls _ _ _ _ (After w w16 b F13 (.int .i64 1) wd2) from dv_write HD17.out (by decide) (by decide) 4 (fillA 8) (fillA_sec 8))
  refine H18.out.mono ?_
  rintro e w19 ⟨F20, rfl, hd, ho, hn⟩
  have HD21 := Lib.hid hd
  clear hd ho hn H18
  go_wp2_with fail
  have H22 := Lib.hid (show Calls _ _ _ _ (fun e w' => e = .returned (.int .i64 2) ∧ w19 = w') from dv_loose HD21.out)
  refine H22.out.mono ?_
  rintro e w' ⟨rfl, rfl⟩
  clear H22
  go_wp2_with fail
  have H23 := Lib.hid (show Calls _ _ _ _ (After w w19 b F20 (.tuple #[]) wd3) from dv_fail HD21.out 0 ⟨by decide, by decide⟩)
  refine H23.out.mono ?_
  rintro e w24 ⟨F25, rfl, hd, ho, hn⟩
  have HD26 := Lib.hid hd
  clear hd ho hn H23
  go_wp2_with fail
  have H27 := Lib.hid (show Calls _ _ _ _ (After w w24 b F25 (.int .i64 12) wd4) from dv_flush HD26.out (by decide) (by decide))
  refine H27.out.mono ?_
  rintro e w28 ⟨F29, rfl, hd, ho, hn⟩
  have HD30 := Lib.hid hd
  clear hd ho hn H27
  go_wp2_with fail
  have H31 := Lib.hid (fill_any 9 w28)
  refine H31.out.mono ?_
  rintro e w32 ⟨rfl, hb⟩
  have HD33 := Lib.hid (HD30.out.below hb)
  clear hb H31
  go_wp2_with fail
  have H34 := Lib.hid (show Calls _ _ _ _ (After w w32 b F29 (.int .i64 0) wd5) from dv_write HD33.out (by decide) (by decide) 2 (fillA 9) (fillA_sec 9))
  refine H34.out.mono ?_
  rintro e w35 ⟨F36, rfl, hd, ho, hn⟩
  have HD37 := Lib.hid hd
  clear hd ho hn H34
  go_wp2_with fail
  have hA : Below w35.heap.size w35 (w35.alloc (Obj.cells #[Value.int .u8 1, Value.int .u8 2, Value.int .u8 3] 5)) := (Below.refl _ _).alloc (Nat.le_refl _) _
  have hK : BytesAt (w35.alloc (Obj.cells #[Value.int .u8 1, Value.int .u8 2, Value.int .u8 3] 5)) (.slice (some ⟨w35.heap.size, 0, none⟩) 3 3) [1, 2, 3] := ⟨_, 3, rfl, by decide, by decide, fun i hi => ⟨_, 0, rfl, by rw [Nat.zero_add]; exact (Blk.newAt (w := w35) (cs := #[Value.int .u8 1, Value.int .u8 2, Value.int .u8 3]) 5 _ _ rfl rfl).cell (by match i, hi with | 0, _ => rfl | 1, _ => rfl | 2, _ => rfl)⟩⟩
  have HC := Lib.hid (show Calls _ _ _ _ (After w (w35.alloc (Obj.cells #[Value.int .u8 1, Value.int .u8 2, Value.int .u8 3] 5)) b F36 (.tuple #[]) wd6) from dv_crash (HD37.out.below hA) (by decide) (.slice (some ⟨w35.heap.size, 0, none⟩) 3 3) [1, 2, 3] hK (fun k hk hf => by have := (HD37.out.lt _ hf).2; have : w35.heap.size = k := Option.some.inj hk; omega))
  clear hA hK
  refine HC.out.mono ?_
  rintro e wc ⟨Fc, rfl, hd, ho, hn⟩
  have HDc := Lib.hid hd
  clear hd ho hn
  go_wp2_with fail
  have H38 := Lib.hid (show Calls _ _ _ _ (fun e w' => e = .returned (.tuple #[.agg (fillA 7), .int .i64 0]) ∧ Below wc.heap.size wc w') from dv_read HDc.out (by decide) 1)
  refine H38.out.mono ?_
  rintro e w39 ⟨rfl, hb⟩
  have HD40 := Lib.hid (HDc.out.below hb)
  clear hb H38
  go_wp2_with (first | ((with_reducible refine isNew ?_); refine wpList_store_new 37 _ _ rfl rfl 37 _ (fillA 7) rfl rfl (by rw [(fillA_sec 7).size]; exact info37) (zeros_size _ (fillA_sec 7)) (fillA_sec 7).one ?_; intro w41 hx hbx; have HG43 : Hid (w.heap.size ≤ w39.heap.size) := Lib.hid HD40.out.2.size; have HL42 : Hid (Blk w41 (w39.heap.size) (fillA 7).toList ∧ ¬ Fc (w39.heap.size)) := Lib.hid ⟨hx, fun h => Nat.lt_irrefl _ (HD40.out.lt _ h).2⟩; have HD44 := Lib.hid (HD40.out.below hbx); clear hx hbx))
  have H45 := Lib.hid (show Calls _ _ _ _ (fun e w' => e = .returned (.tuple #[.agg (fillA 9), .int .i64 0]) ∧ Below w41.heap.size w41 w') from dv_read HD44.out (by decide) 2)
  refine H45.out.mono ?_
  rintro e w46 ⟨rfl, hb⟩
  have HD47 := Lib.hid (HD44.out.below hb)
  have HL48 : Hid (Blk w46 (w39.heap.size) (fillA 7).toList ∧ ¬ Fc (w39.heap.size)) := Lib.hid ⟨HL42.out.1.below hb HL42.out.1.lt, HL42.out.2⟩
  clear hb H45
  go_wp2_with (first | ((with_reducible refine isNew ?_); refine wpList_store_new 37 _ _ rfl rfl 37 _ (fillA 9) rfl rfl (by rw [(fillA_sec 9).size]; exact info37) (zeros_size _ (fillA_sec 9)) (fillA_sec 9).one ?_; intro w49 hx hbx; have HG51 : Hid (w.heap.size ≤ w46.heap.size) := Lib.hid HD47.out.2.size; have HL50 : Hid (Blk w49 (w46.heap.size) (fillA 9).toList ∧ ¬ Fc (w46.heap.size)) := Lib.hid ⟨hx, fun h => Nat.lt_irrefl _ (HD47.out.lt _ h).2⟩; have HN52 : Hid (w39.heap.size ≠ w46.heap.size) := Lib.hid (Nat.ne_of_lt HL48.out.1.lt); have HL53 : Hid (Blk w49 (w39.heap.size) (fillA 7).toList ∧ ¬ Fc (w39.heap.size)) := Lib.hid ⟨HL48.out.1.below hbx HL48.out.1.lt, HL48.out.2⟩; have HD54 := Lib.hid (HD47.out.below hbx); clear hx hbx))
  have HS : Hid (Dv w w49.drew b Fc wd6 ∧ Blk w49.drew w39.heap.size (fillA 7).toList ∧ Blk w49.drew w46.heap.size (fillA 9).toList) := Lib.hid ⟨HD54.out.drew, HL53.out.1.drew, HL50.out.1.drew⟩
  refine startH (fun wq => (Dv w wq b Fc wd6 ∧ Blk wq w39.heap.size (fillA 7).toList ∧ Blk wq w46.heap.size (fillA 9).toList)) (by kernel_rfl) ?_
  refine takeH 0 (some 62) (.int .i64 12) rfl rfl (by kernel_rfl) (by kernel_rfl) (by kernel_rfl) (fun _ _ _ h => h) rfl (fun w _ => by go_simp) HS.out ?_
  simp only [Act.put, List.setIfInBounds_toArray, List.set_cons_succ, List.set_cons_zero]
  refine takeH 1 (some 63) (.bool true) rfl rfl (by kernel_rfl) (by kernel_rfl) (by kernel_rfl) (fun _ _ _ h => h) rfl (fun w _ => by go_simp) HS.out ?_
  simp only [Act.put, List.setIfInBounds_toArray, List.set_cons_succ, List.set_cons_zero]
  refine takeH 2 (some 64) (.bool true) rfl rfl (by kernel_rfl) (by kernel_rfl) (by kernel_rfl) (fun _ _ _ h => h) rfl (fun w _ => by go_simp) HS.out ?_
  simp only [Act.put, List.setIfInBounds_toArray, List.set_cons_succ, List.set_cons_zero]
  refine takeH 3 (some 65) (.int .i64 0) rfl rfl (by kernel_rfl) (by kernel_rfl) (by kernel_rfl) (fun _ _ _ h => h) rfl (fun w _ => by go_simp) HS.out ?_
  simp only [Act.put, List.setIfInBounds_toArray, List.set_cons_succ, List.set_cons_zero]
  refine takeH 4 (some 66) (.bool true) rfl rfl (by kernel_rfl) (by kernel_rfl) (by kernel_rfl) (fun _ _ _ h => h) rfl (fun w _ => by go_simp) HS.out ?_
  simp only [Act.put, List.setIfInBounds_toArray, List.set_cons_succ, List.set_cons_zero]
  refine takeH 5 (some 67) (.bool true) rfl rfl (by kernel_rfl) (by kernel_rfl) (by kernel_rfl) (fun _ _ _ h => h) rfl (fun w _ => by go_simp) HS.out ?_
  simp only [Act.put, List.setIfInBounds_toArray, List.set_cons_succ, List.set_cons_zero]
  refine takeH 6 (some 68) (.bool true) rfl rfl (by kernel_rfl) (by kernel_rfl) (by kernel_rfl) (fun _ _ _ h => h) rfl (fun w _ => by go_simp) HS.out ?_
  simp only [Act.put, List.setIfInBounds_toArray, List.set_cons_succ, List.set_cons_zero]
  refine takeH 7 (some 69) (.int .i64 0) rfl rfl (by kernel_rfl) (by kernel_rfl) (by kernel_rfl) (fun _ _ _ h => h) rfl (fun w _ => by go_simp) HS.out ?_
  simp only [Act.put, List.setIfInBounds_toArray, List.set_cons_succ, List.set_cons_zero]
  refine takeH 8 (some 70) (.bool true) rfl rfl (by kernel_rfl) (by kernel_rfl) (by kernel_rfl) (fun _ _ _ h => h) rfl (fun w _ => by go_simp) HS.out ?_
  simp only [Act.put, List.setIfInBounds_toArray, List.set_cons_succ, List.set_cons_zero]
  refine takeH 9 (some 71) (.bool true) rfl rfl (by kernel_rfl) (by kernel_rfl) (by kernel_rfl) (fun _ _ _ h => h) rfl (fun w _ => by go_simp) HS.out ?_
  simp only [Act.put, List.setIfInBounds_toArray, List.set_cons_succ, List.set_cons_zero]
  refine takeH 10 (some 72) (.bool true) rfl rfl (by kernel_rfl) (by kernel_rfl) (by kernel_rfl) (fun _ _ _ h => h) rfl (fun w _ => by go_simp) HS.out ?_
  simp only [Act.put, List.setIfInBounds_toArray, List.set_cons_succ, List.set_cons_zero]
  refine takeH 11 (some 73) (.int .i64 0) rfl rfl (by kernel_rfl) (by kernel_rfl) (by kernel_rfl) (fun _ _ _ h => h) rfl (fun w _ => by go_simp) HS.out ?_
  simp only [Act.put, List.setIfInBounds_toArray, List.set_cons_succ, List.set_cons_zero]
  refine takeH 12 (some 74) (.bool true) rfl rfl (by kernel_rfl) (by kernel_rfl) (by kernel_rfl) (fun _ _ _ h => h) rfl (fun w _ => by go_simp) HS.out ?_
  simp only [Act.put, List.setIfInBounds_toArray, List.set_cons_succ, List.set_cons_zero]
  refine takeH 13 (some 75) (.bool true) rfl rfl (by kernel_rfl) (by kernel_rfl) (by kernel_rfl) (fun _ _ _ h => h) rfl (fun w _ => by go_simp) HS.out ?_
  simp only [Act.put, List.setIfInBounds_toArray, List.set_cons_succ, List.set_cons_zero]
  refine takeH 14 (some 76) (.bool true) rfl rfl (by kernel_rfl) (by kernel_rfl) (by kernel_rfl) (fun _ _ _ h => h) rfl (fun w _ => by go_simp) HS.out ?_
  simp only [Act.put, List.setIfInBounds_toArray, List.set_cons_succ, List.set_cons_zero]
  refine takeH 15 (some 77) (.agg (fillA 7)) rfl rfl (by kernel_rfl) (by kernel_rfl) (by kernel_rfl) (fun _ _ _ h => h) rfl (fun w hS => exec_load_at _ _ _ 37 _ rfl (w39.heap.size) 0 rfl (fillA 7) _ Try.underlying37 rfl info37 (hS.2.1.cells _ rfl)) HS.out ?_
  simp only [Act.put, List.setIfInBounds_toArray, List.set_cons_succ, List.set_cons_zero]
  refine oneH 16 (by kernel_rfl) rfl rfl fun K hK => ?_
  go_simp
  refine (fill_any 7 _).mono ?_
  rintro e wf55 ⟨rfl, hb⟩
  have HS56 : Hid (Dv w wf55 b Fc wd6 ∧ Blk wf55 w39.heap.size (fillA 7).toList ∧ Blk wf55 w46.heap.size (fillA 9).toList) := Lib.hid ⟨HS.out.1.below hb, HS.out.2.1.below hb HS.out.2.1.lt, HS.out.2.2.below hb HS.out.2.2.lt⟩
  refine hK _ _ HS56.out ?_
  clear hK hb K
  refine takeH 17 (some 79) (.bool true) rfl rfl (by kernel_rfl) (by kernel_rfl) (by kernel_rfl) (fun _ _ _ h => h) rfl (fun w _ => by have hq := eq37 (fillA 7) (fillA_sec 7) w; go_simp) HS56.out ?_
  simp only [Act.put, List.setIfInBounds_toArray, List.set_cons_succ, List.set_cons_zero]
  refine takeH 18 (some 80) (.bool true) rfl rfl (by kernel_rfl) (by kernel_rfl) (by kernel_rfl) (fun _ _ _ h => h) rfl (fun w _ => by go_simp) HS56.out ?_
  simp only [Act.put, List.setIfInBounds_toArray, List.set_cons_succ, List.set_cons_zero]
  refine takeH 19 (some 81) (.bool true) rfl rfl (by kernel_rfl) (by kernel_rfl) (by kernel_rfl) (fun _ _ _ h => h) rfl (fun w _ => by go_simp) HS56.out ?_
  simp only [Act.put, List.setIfInBounds_toArray, List.set_cons_succ, List.set_cons_zero]
  refine takeH 20 (some 82) (.agg (fillA 9)) rfl rfl (by kernel_rfl) (by kernel_rfl) (by kernel_rfl) (fun _ _ _ h => h) rfl (fun w hS => exec_load_at _ _ _ 37 _ rfl (w46.heap.size) 0 rfl (fillA 9) _ Try.underlying37 rfl info37 (hS.2.2.cells _ rfl)) HS56.out ?_
  simp only [Act.put, List.setIfInBounds_toArray, List.set_cons_succ, List.set_cons_zero]
  refine oneH 21 (by kernel_rfl) rfl rfl fun K hK => ?_
  go_simp
  refine (fill_any 9 _).mono ?_
  rintro e wf57 ⟨rfl, hb⟩
  have HS58 : Hid (Dv w wf57 b Fc wd6 ∧ Blk wf57 w39.heap.size (fillA 7).toList ∧ Blk wf57 w46.heap.size (fillA 9).toList) := Lib.hid ⟨HS56.out.1.below hb, HS56.out.2.1.below hb HS56.out.2.1.lt, HS56.out.2.2.below hb HS56.out.2.2.lt⟩
  refine hK _ _ HS58.out ?_
  clear hK hb K
  refine takeH 22 (some 84) (.bool true) rfl rfl (by kernel_rfl) (by kernel_rfl) (by kernel_rfl) (fun _ _ _ h => h) rfl (fun w _ => by have hq := eq37 (fillA 9) (fillA_sec 9) w; go_simp) HS58.out ?_
  simp only [Act.put, List.setIfInBounds_toArray, List.set_cons_succ, List.set_cons_zero]
  refine takeH 23 (some 85) (.bool true) rfl rfl (by kernel_rfl) (by kernel_rfl) (by kernel_rfl) (fun _ _ _ h => h) rfl (fun w _ => by go_simp) HS58.out ?_
  simp only [Act.put, List.setIfInBounds_toArray, List.set_cons_succ, List.set_cons_zero]
  refine takeH 24 (some 86) (.bool true) rfl rfl (by kernel_rfl) (by kernel_rfl) (by kernel_rfl) (fun _ _ _ h => h) rfl (fun w _ => by go_simp) HS58.out ?_
  simp only [Act.put, List.setIfInBounds_toArray, List.set_cons_succ, List.set_cons_zero]
  refine takeH 25 (some 87) (.pointer (some ⟨b, 0, none⟩)) rfl rfl (by kernel_rfl) (by kernel_rfl) (by kernel_rfl) (fun _ _ _ h => h) rfl (fun w _ => by go_simp) HS58.out ?_
  simp only [Act.put, List.setIfInBounds_toArray, List.set_cons_succ, List.set_cons_zero]
  refine oneH 26 (by kernel_rfl) rfl rfl fun K hK => ?_
  go_simp
  refine Calls.mono (show Calls _ _ _ _ (fun e w' => e = .returned (.int .i64 0) ∧ wf57 = w') from dv_loose HS58.out.1) ?_
  rintro e w' ⟨rfl, rfl⟩
  refine hK _ _ HS58.out ?_
  clear hK K
  refine takeH 27 (some 89) (.bool true) rfl rfl (by kernel_rfl) (by kernel_rfl) (by kernel_rfl) (fun _ _ _ h => h) rfl (fun w _ => by go_simp) HS58.out ?_
  simp only [Act.put, List.setIfInBounds_toArray, List.set_cons_succ, List.set_cons_zero]
  refine takeH 28 (some 90) (.bool true) rfl rfl (by kernel_rfl) (by kernel_rfl) (by kernel_rfl) (fun _ _ _ h => h) rfl (fun w _ => by go_simp) HS58.out ?_
  simp only [Act.put, List.setIfInBounds_toArray, List.set_cons_succ, List.set_cons_zero]
  refine takeH 29 (some 91) (.bool true) rfl rfl (by kernel_rfl) (by kernel_rfl) (by kernel_rfl) (fun _ _ _ h => h) rfl (fun w _ => by go_simp) HS58.out ?_
  simp only [Act.put, List.setIfInBounds_toArray, List.set_cons_succ, List.set_cons_zero]
  refine takeH 30 (some 92) (.pointer (some ⟨b, 0, none⟩)) rfl rfl (by kernel_rfl) (by kernel_rfl) (by kernel_rfl) (fun _ _ _ h => h) rfl (fun w _ => by go_simp) HS58.out ?_
  simp only [Act.put, List.setIfInBounds_toArray, List.set_cons_succ, List.set_cons_zero]
  refine oneH 31 (by kernel_rfl) rfl rfl fun K hK => ?_
  go_simp
  refine Calls.mono (show Calls _ _ _ _ (fun e w' => e = .returned (.int .i64 4) ∧ wf57 = w') from dv_len HS58.out.1) ?_
  rintro e w' ⟨rfl, rfl⟩
  refine hK _ _ HS58.out ?_
  clear hK K
  refine takeH 32 (some 94) (.bool true) rfl rfl (by kernel_rfl) (by kernel_rfl) (by kernel_rfl) (fun _ _ _ h => h) rfl (fun w _ => by go_simp) HS58.out ?_
  simp only [Act.put, List.setIfInBounds_toArray, List.set_cons_succ, List.set_cons_zero]
  refine takeH 33 (some 95) (.bool true) rfl rfl (by kernel_rfl) (by kernel_rfl) (by kernel_rfl) (fun _ _ _ h => h) rfl (fun w _ => by go_simp) HS58.out ?_
  simp only [Act.put, List.setIfInBounds_toArray, List.set_cons_succ, List.set_cons_zero]
  refine takeH 34 (some 96) (.bool true) rfl rfl (by kernel_rfl) (by kernel_rfl) (by kernel_rfl) (fun _ _ _ h => h) rfl (fun w _ => by go_simp) HS58.out ?_
  simp only [Act.put, List.setIfInBounds_toArray, List.set_cons_succ, List.set_cons_zero]
  refine takeH 35 (some 97) (.pointer (some ⟨b, 0, none⟩)) rfl rfl (by kernel_rfl) (by kernel_rfl) (by kernel_rfl) (fun _ _ _ h => h) rfl (fun w _ => by go_simp) HS58.out ?_
  simp only [Act.put, List.setIfInBounds_toArray, List.set_cons_succ, List.set_cons_zero]
  refine oneH 36 (by kernel_rfl) rfl rfl fun K hK => ?_
  go_simp
  refine Calls.mono (show Calls _ _ _ _ (fun e w' => e = .returned (.int .i64 3) ∧ wf57 = w') from dv_done HS58.out.1) ?_
  rintro e w' ⟨rfl, rfl⟩
  refine hK _ _ HS58.out ?_
  clear hK K
  refine takeH 37 (some 99) (.bool true) rfl rfl (by kernel_rfl) (by kernel_rfl) (by kernel_rfl) (fun _ _ _ h => h) rfl (fun w _ => by go_simp) HS58.out ?_
  simp only [Act.put, List.setIfInBounds_toArray, List.set_cons_succ, List.set_cons_zero]
  refine takeH 38 (some 100) (.bool true) rfl rfl (by kernel_rfl) (by kernel_rfl) (by kernel_rfl) (fun _ _ _ h => h) rfl (fun w _ => by go_simp) HS58.out ?_
  simp only [Act.put, List.setIfInBounds_toArray, List.set_cons_succ, List.set_cons_zero]
  refine takeH 39 (some 0) (.bool true) rfl rfl (by kernel_rfl) (by kernel_rfl) (by kernel_rfl) (fun _ _ _ h => h) rfl (fun w _ => by go_simp) HS58.out ?_
  simp only [Act.put, List.setIfInBounds_toArray, List.set_cons_succ, List.set_cons_zero]
  refine wpAnyH_done (by kernel_rfl) ?_ _
  go_wp2_with fail
  go_ret
  exact ⟨rfl, HS58.out.1.2⟩
end Go.Proofs.Ytdmjhpebpooiaaa
