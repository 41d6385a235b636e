/- The statement DevOrder's walk. -/
import Derived.Test.YtdmjhpebpooiaaaWakes
namespace Go.Proofs.Ytdmjhpebpooiaaa
open Go.RowKit
def od1 (x : Int) : D := ⟨List.replicate 3 (fillA 0), [(1, fillA x)], -1, 1⟩
def od2 (x y : Int) : D := ⟨List.replicate 3 (fillA 0), [(1, fillA x), (1, fillA y)], -1, 2⟩
def od3 (c : Array Value) : D := ⟨[fillA 0, c, fillA 0], [], -1, 2⟩
theorem crash00 (x y k0 k1 : Int) (h0 : ¬ k0 % 2 = 1) (h1 : ¬ k1 % 2 = 1) : (od2 x y).crash [k0, k1] = od3 (fillA 0) := by
  simp [D.crash, od2, od3, kept, keptTo, oddAt, h0, h1, app]
theorem crash10 (x y k0 k1 : Int) (h0 : k0 % 2 = 1) (h1 : ¬ k1 % 2 = 1) : (od2 x y).crash [k0, k1] = od3 (fillA x) := by
  simp [D.crash, od2, od3, kept, keptTo, oddAt, h0, h1, app]
theorem crash01 (x y k0 k1 : Int) (h1 : k1 % 2 = 1) : (od2 x y).crash [k0, k1] = od3 (fillA y) := by
  by_cases h0 : k0 % 2 = 1 <;> simp [D.crash, od2, od3, kept, keptTo, oddAt, h0, h1, app]
set_option maxRecDepth 100000 in
set_option maxHeartbeats 1000000 in
theorem order_any (x y k0 k1 : Int) (hk : ∀ n ∈ [k0, k1], 0 ≤ n ∧ n ≤ 255) (w : World) : Calls Try.prog 8 #[.int .u8 x, .int .u8 y, .agg #[.int .u8 k0, .int .u8 k1]] w fun e w' => e = .returned (.bool true) ∧ Below w.heap.size w w' := by
  have HKK := Lib.hid hk
  have b0 := hk k0 (by simp)
  have b1 := hk k1 (by simp)
  obtain ⟨b00, b01⟩ := b0
  obtain ⟨b10, b11⟩ := b1
  clear hk
  by_cases h0 : k0 % 2 = 1
  · by_cases h1 : k1 % 2 = 1
    · have HCr := Lib.hid (crash01 x y k0 k1 h1)
      have e0 : (k0 % 2 == 1) = true := beq_iff_eq.2 h0
      have e1 : (k1 % 2 == 1) = true := beq_iff_eq.2 h1
      clear h0 h1
      go_enter Try.func8, Try.ntmps8
      go_wp2_with fail
      have hbx : Below w.heap.size w (w.alloc (.cells #[.int .u8 k0, .int .u8 k1] 60)) := (Below.refl _ _).alloc (Nat.le_refl _) _
      have hbk : Blk (w.alloc (.cells #[.int .u8 k0, .int .u8 k1] 60)) w.heap.size [.int .u8 k0, .int .u8 k1] := Blk.newAt _ _ _ rfl rfl
      generalize hwA : w.alloc (.cells #[.int .u8 k0, .int .u8 k1] 60) = wA at *
      have HBx := Lib.hid hbx
      have H0 := Lib.hid (dv_new w wA hbx 3 (by omega))
      refine H0.out.mono ?_
      rintro e w0 ⟨b, F, rfl, hd, hb, hF⟩
      have HD0 := Lib.hid hd
      have HK0 : Hid (Blk w0 w.heap.size [.int .u8 k0, .int .u8 k1] ∧ ¬ F w.heap.size) := Lib.hid ⟨hbk.below hb hbk.lt, fun h => by have := hF _ h; have := hbk.lt; omega⟩
      clear hd hb hF hbk hbx hwA
      have HG0 : Hid (w.heap.size ≤ w.heap.size) := Lib.hid (Nat.le_refl _)
      go_wp2_with fail
      have H1 := Lib.hid (fill_any x w0)
      refine H1.out.mono ?_
      rintro e w2 ⟨rfl, hb⟩
      have HD3 := Lib.hid (HD0.out.below hb)
      have HL4 : Hid (Blk w2 (w.heap.size) [.int .u8 k0, .int .u8 k1] ∧ ¬ F (w.heap.size)) := Lib.hid ⟨HK0.out.1.below hb HK0.out.1.lt, HK0.out.2⟩
      clear hb H1
      go_wp2_with fail
      have H5 := Lib.hid (show Calls _ _ _ _ (After w w2 b F (.int .i64 0) (od1 x)) from dv_write HD3.out (by decide) (by decide) 1 (fillA x) (fillA_sec x))
      refine H5.out.mono ?_
      rintro e w6 ⟨F7, rfl, hd, ho, hn⟩
      have HD8 := Lib.hid hd
      have HL9 : Hid (Blk w6 (w.heap.size) [.int .u8 k0, .int .u8 k1] ∧ ¬ F7 (w.heap.size)) := Lib.hid (HL4.out.1.after HL4.out.2 ho hn)
      clear hd ho hn H5
      go_wp2_with fail
      have H10 := Lib.hid (fill_any y w6)
      refine H10.out.mono ?_
      rintro e w11 ⟨rfl, hb⟩
      have HD12 := Lib.hid (HD8.out.below hb)
      have HL13 : Hid (Blk w11 (w.heap.size) [.int .u8 k0, .int .u8 k1] ∧ ¬ F7 (w.heap.size)) := Lib.hid ⟨HL9.out.1.below hb HL9.out.1.lt, HL9.out.2⟩
      clear hb H10
      go_wp2_with fail
      have H14 := Lib.hid (show Calls _ _ _ _ (After w w11 b F7 (.int .i64 0) (od2 x y)) from dv_write HD12.out (by simp [od1]) (by simp [od1]) 1 (fillA y) (fillA_sec y))
      refine H14.out.mono ?_
      rintro e w15 ⟨F16, rfl, hd, ho, hn⟩
      have HD17 := Lib.hid hd
      have HL18 : Hid (Blk w15 (w.heap.size) [.int .u8 k0, .int .u8 k1] ∧ ¬ F16 (w.heap.size)) := Lib.hid (HL13.out.1.after HL13.out.2 ho hn)
      clear hd ho hn H14
      go_wp2_with fail
      have hKB : BytesAt w15 (.slice (some ⟨w.heap.size, 0, none⟩) 2 2) [k0, k1] := ⟨_, 2, rfl, by unfold maxLen; simp, HKK.out, fun i hi => ⟨_, 0, rfl, by rw [Nat.zero_add]; exact HL18.out.1.cell (by match i, hi with | 0, _ => rfl | 1, _ => rfl)⟩⟩
      have HKB := Lib.hid hKB
      clear hKB
      have H19 := Lib.hid (show Calls _ _ _ _ (After w w15 b F16 (.tuple #[]) ((od2 x y).crash [k0, k1])) from (dv_crash HD17.out (by simp [od2]) (.slice (some ⟨w.heap.size, 0, none⟩) 2 2) [k0, k1] HKB.out (fun k hk hf => HL18.out.2 (by have : w.heap.size = k := Option.some.inj hk; rw [this]; exact hf))))
      refine H19.out.mono ?_
      rintro e w20 ⟨F21, rfl, hd, ho, hn⟩
      have HD22 := Lib.hid hd
      have HL23 : Hid (Blk w20 (w.heap.size) [.int .u8 k0, .int .u8 k1] ∧ ¬ F21 (w.heap.size)) := Lib.hid (HL18.out.1.after HL18.out.2 ho hn)
      clear hd ho hn H19
      rw [show (od2 x y).crash [k0, k1] = od3 (fillA y) from HCr.out] at HD22
      have c0 : w20.cell? ⟨w.heap.size, 0, none⟩ = some (.int .u8 k0) := HL23.out.1.cell rfl
      have c1 : w20.cell? ⟨w.heap.size, 1, none⟩ = some (.int .u8 k1) := HL23.out.1.cell rfl
      have hq0 := eq37 (fillA 0) (fillA_sec 0)
      have hq1 := eq37 (fillA y) (fillA_sec y)
      clear c0 c1
      go_wp2_with (first | ((with_reducible refine isBuild ?_); refine wpList_build_g 37 rfl rfl _ (build37 _) ?_) | ((with_reducible refine isNew ?_); refine wpList_store_new 37 _ _ rfl rfl 37 _ (fillA 0) rfl rfl (by rw [(fillA_sec 0).size]; exact info37) (zeros_size _ (fillA_sec 0)) (fillA_sec 0).one ?_; intro w24 hx hbx; have HG26 : Hid (w.heap.size ≤ w20.heap.size) := Lib.hid HD22.out.2.size; have HL25 : Hid (Blk w24 (w20.heap.size) (fillA 0).toList ∧ ¬ F21 (w20.heap.size)) := Lib.hid ⟨hx, fun h => Nat.lt_irrefl _ (HD22.out.lt _ h).2⟩; have HN27 : Hid (w.heap.size ≠ w20.heap.size) := Lib.hid (Nat.ne_of_lt HL23.out.1.lt); have HL28 : Hid (Blk w24 (w.heap.size) [.int .u8 k0, .int .u8 k1] ∧ ¬ F21 (w.heap.size)) := Lib.hid ⟨HL23.out.1.below hbx HL23.out.1.lt, HL23.out.2⟩; have HD29 := Lib.hid (HD22.out.below hbx); clear hx hbx; have c30 : w24.cell? ⟨w.heap.size, 0, none⟩ = some (.int .u8 k0) := HL28.out.1.cell rfl; have c31 : w24.cell? ⟨w.heap.size, 1, none⟩ = some (.int .u8 k1) := HL28.out.1.cell rfl))
      have H32 := Lib.hid (fill_any x w24)
      refine H32.out.mono ?_
      rintro e w33 ⟨rfl, hb⟩
      have HD34 := Lib.hid (HD29.out.below hb)
      have HL35 : Hid (Blk w33 (w.heap.size) [.int .u8 k0, .int .u8 k1] ∧ ¬ F21 (w.heap.size)) := Lib.hid ⟨HL28.out.1.below hb HL28.out.1.lt, HL28.out.2⟩
      have HL36 : Hid (Blk w33 (w20.heap.size) (fillA 0).toList ∧ ¬ F21 (w20.heap.size)) := Lib.hid ⟨HL25.out.1.below hb HL25.out.1.lt, HL25.out.2⟩
      clear hb H32
      go_wp2_with (first | ((with_reducible refine isStore ?_); refine wpList_store_loc 37 _ _ rfl rfl (w20.heap.size) _ (fillA x) rfl rfl HL36.out.1 (by rw [(fillA_sec x).size]; exact info37) (by rw [(fillA_sec x).size]; rfl) (fillA_sec x).one ?_; intro w37 hx hox; have HL38 : Hid (Blk w37 (w20.heap.size) (fillA x).toList ∧ ¬ F21 (w20.heap.size)) := Lib.hid ⟨hx, HL36.out.2⟩; have HL39 : Hid (Blk w37 (w.heap.size) [.int .u8 k0, .int .u8 k1] ∧ ¬ F21 (w.heap.size)) := Lib.hid ⟨HL35.out.1.only hox (HN27.out), HL35.out.2⟩; have HD40 := Lib.hid (HD34.out.go hox (fun k e => by rw [e]; exact HG26.out) (fun k hf e => HL36.out.2 (by rw [← e]; exact hf))); clear hx hox; have c41 : w37.cell? ⟨w.heap.size, 0, none⟩ = some (.int .u8 k0) := HL39.out.1.cell rfl; have c42 : w37.cell? ⟨w.heap.size, 1, none⟩ = some (.int .u8 k1) := HL39.out.1.cell rfl))
      have H43 := Lib.hid (fill_any y w37)
      refine H43.out.mono ?_
      rintro e w44 ⟨rfl, hb⟩
      have HD45 := Lib.hid (HD40.out.below hb)
      have HL46 : Hid (Blk w44 (w.heap.size) [.int .u8 k0, .int .u8 k1] ∧ ¬ F21 (w.heap.size)) := Lib.hid ⟨HL39.out.1.below hb HL39.out.1.lt, HL39.out.2⟩
      have HL47 : Hid (Blk w44 (w20.heap.size) (fillA x).toList ∧ ¬ F21 (w20.heap.size)) := Lib.hid ⟨HL38.out.1.below hb HL38.out.1.lt, HL38.out.2⟩
      clear hb H43
      go_wp2_with (first | ((with_reducible refine isStore ?_); refine wpList_store_loc 37 _ _ rfl rfl (w20.heap.size) _ (fillA y) rfl rfl HL47.out.1 (by rw [(fillA_sec y).size]; exact info37) (by rw [(fillA_sec y).size]; rfl) (fillA_sec y).one ?_; intro w48 hx hox; have HL49 : Hid (Blk w48 (w20.heap.size) (fillA y).toList ∧ ¬ F21 (w20.heap.size)) := Lib.hid ⟨hx, HL47.out.2⟩; have HL50 : Hid (Blk w48 (w.heap.size) [.int .u8 k0, .int .u8 k1] ∧ ¬ F21 (w.heap.size)) := Lib.hid ⟨HL46.out.1.only hox (HN27.out), HL46.out.2⟩; have HD51 := Lib.hid (HD45.out.go hox (fun k e => by rw [e]; exact HG26.out) (fun k hf e => HL47.out.2 (by rw [← e]; exact hf))); clear hx hox; have c52 : w48.cell? ⟨w.heap.size, 0, none⟩ = some (.int .u8 k0) := HL50.out.1.cell rfl; have c53 : w48.cell? ⟨w.heap.size, 1, none⟩ = some (.int .u8 k1) := HL50.out.1.cell rfl))
      have H54 := Lib.hid (show Calls _ _ _ _ (fun e w' => e = .returned (.tuple #[.agg (fillA y), .int .i64 0]) ∧ Below w48.heap.size w48 w') from dv_read HD51.out (by simp [od3]) 1)
      refine H54.out.mono ?_
      rintro e w55 ⟨rfl, hb⟩
      have HD56 := Lib.hid (HD51.out.below hb)
      have HL57 : Hid (Blk w55 (w.heap.size) [.int .u8 k0, .int .u8 k1] ∧ ¬ F21 (w.heap.size)) := Lib.hid ⟨HL50.out.1.below hb HL50.out.1.lt, HL50.out.2⟩
      have HL58 : Hid (Blk w55 (w20.heap.size) (fillA y).toList ∧ ¬ F21 (w20.heap.size)) := Lib.hid ⟨HL49.out.1.below hb HL49.out.1.lt, HL49.out.2⟩
      clear hb H54
      go_wp2_with (first | ((with_reducible refine isNew ?_); refine wpList_store_new 37 _ _ rfl rfl 37 _ ((fillA y)) rfl rfl (by rw [(fillA_sec y).size]; exact info37) (zeros_size _ (fillA_sec y)) (fillA_sec y).one ?_; intro w59 hx hbx; have HG61 : Hid (w.heap.size ≤ w55.heap.size) := Lib.hid HD56.out.2.size; have HL60 : Hid (Blk w59 (w55.heap.size) ((fillA y)).toList ∧ ¬ F21 (w55.heap.size)) := Lib.hid ⟨hx, fun h => Nat.lt_irrefl _ (HD56.out.lt _ h).2⟩; have HN62 : Hid (w.heap.size ≠ w55.heap.size) := Lib.hid (Nat.ne_of_lt HL57.out.1.lt); have HN63 : Hid (w20.heap.size ≠ w55.heap.size) := Lib.hid (Nat.ne_of_lt HL58.out.1.lt); have HL64 : Hid (Blk w59 (w.heap.size) [.int .u8 k0, .int .u8 k1] ∧ ¬ F21 (w.heap.size)) := Lib.hid ⟨HL57.out.1.below hbx HL57.out.1.lt, HL57.out.2⟩; have HL65 : Hid (Blk w59 (w20.heap.size) (fillA y).toList ∧ ¬ F21 (w20.heap.size)) := Lib.hid ⟨HL58.out.1.below hbx HL58.out.1.lt, HL58.out.2⟩; have HD66 := Lib.hid (HD56.out.below hbx); clear hx hbx))
      have H67 := Lib.hid (show Calls _ _ _ _ (fun e w' => e = .returned (.tuple #[.agg (fillA 0), .int .i64 0]) ∧ Below w59.heap.size w59 w') from dv_read HD66.out (by simp [od3]) 2)
      refine H67.out.mono ?_
      rintro e w68 ⟨rfl, hb⟩
      have HD69 := Lib.hid (HD66.out.below hb)
      have HL70 : Hid (Blk w68 (w.heap.size) [.int .u8 k0, .int .u8 k1] ∧ ¬ F21 (w.heap.size)) := Lib.hid ⟨HL64.out.1.below hb HL64.out.1.lt, HL64.out.2⟩
      have HL71 : Hid (Blk w68 (w20.heap.size) (fillA y).toList ∧ ¬ F21 (w20.heap.size)) := Lib.hid ⟨HL65.out.1.below hb HL65.out.1.lt, HL65.out.2⟩
      have HL72 : Hid (Blk w68 (w55.heap.size) ((fillA y)).toList ∧ ¬ F21 (w55.heap.size)) := Lib.hid ⟨HL60.out.1.below hb HL60.out.1.lt, HL60.out.2⟩
      clear hb H67
      go_wp2_with (first | ((with_reducible refine isNew ?_); refine wpList_store_new 37 _ _ rfl rfl 37 _ (fillA 0) rfl rfl (by rw [(fillA_sec 0).size]; exact info37) (zeros_size _ (fillA_sec 0)) (fillA_sec 0).one ?_; intro w73 hx hbx; have HG75 : Hid (w.heap.size ≤ w68.heap.size) := Lib.hid HD69.out.2.size; have HL74 : Hid (Blk w73 (w68.heap.size) (fillA 0).toList ∧ ¬ F21 (w68.heap.size)) := Lib.hid ⟨hx, fun h => Nat.lt_irrefl _ (HD69.out.lt _ h).2⟩; have HN76 : Hid (w.heap.size ≠ w68.heap.size) := Lib.hid (Nat.ne_of_lt HL70.out.1.lt); have HN77 : Hid (w20.heap.size ≠ w68.heap.size) := Lib.hid (Nat.ne_of_lt HL71.out.1.lt); have HN78 : Hid (w55.heap.size ≠ w68.heap.size) := Lib.hid (Nat.ne_of_lt HL72.out.1.lt); have HL79 : Hid (Blk w73 (w.heap.size) [.int .u8 k0, .int .u8 k1] ∧ ¬ F21 (w.heap.size)) := Lib.hid ⟨HL70.out.1.below hbx HL70.out.1.lt, HL70.out.2⟩; have HL80 : Hid (Blk w73 (w20.heap.size) (fillA y).toList ∧ ¬ F21 (w20.heap.size)) := Lib.hid ⟨HL71.out.1.below hbx HL71.out.1.lt, HL71.out.2⟩; have HL81 : Hid (Blk w73 (w55.heap.size) ((fillA y)).toList ∧ ¬ F21 (w55.heap.size)) := Lib.hid ⟨HL72.out.1.below hbx HL72.out.1.lt, HL72.out.2⟩; have HD82 := Lib.hid (HD69.out.below hbx); clear hx hbx) | ((with_reducible refine isLoad ?_); refine wpList_load_g 37 _ rfl (w55.heap.size) 0 rfl rfl ((fillA y)) _ Try.underlying37 rfl (by rw [(fillA_sec y).size]; exact info37) (HL81.out.1.cells _ rfl) ?_) | ((with_reducible refine isLoad ?_); refine wpList_load_g 37 _ rfl (w20.heap.size) 0 rfl rfl ((fillA y)) _ Try.underlying37 rfl (by rw [(fillA_sec y).size]; exact info37) (HL80.out.1.cells _ rfl) ?_) | ((with_reducible refine isLoad ?_); refine wpList_load_g 37 _ rfl (w68.heap.size) 0 rfl rfl (fillA 0) _ Try.underlying37 rfl (by rw [(fillA_sec 0).size]; exact info37) (HL74.out.1.cells _ rfl) ?_) | ((with_reducible refine isBuild ?_); refine wpList_build_g 37 rfl rfl _ (build37 _) ?_))
      have H83 := Lib.hid (show Calls _ _ _ _ (fun e w' => e = .returned (.int .i64 0) ∧ w73 = w') from dv_loose HD82.out)
      refine H83.out.mono ?_
      rintro e w' ⟨rfl, rfl⟩
      clear H83
      go_wp2_with fail
      have H84 := Lib.hid (wakes_any w73)
      refine H84.out.mono ?_
      rintro e w85 ⟨rfl, hb⟩
      have HD86 := Lib.hid (HD82.out.below hb)
      have HL87 : Hid (Blk w85 (w.heap.size) [.int .u8 k0, .int .u8 k1] ∧ ¬ F21 (w.heap.size)) := Lib.hid ⟨HL79.out.1.below hb HL79.out.1.lt, HL79.out.2⟩
      have HL88 : Hid (Blk w85 (w20.heap.size) (fillA y).toList ∧ ¬ F21 (w20.heap.size)) := Lib.hid ⟨HL80.out.1.below hb HL80.out.1.lt, HL80.out.2⟩
      have HL89 : Hid (Blk w85 (w55.heap.size) ((fillA y)).toList ∧ ¬ F21 (w55.heap.size)) := Lib.hid ⟨HL81.out.1.below hb HL81.out.1.lt, HL81.out.2⟩
      have HL90 : Hid (Blk w85 (w68.heap.size) (fillA 0).toList ∧ ¬ F21 (w68.heap.size)) := Lib.hid ⟨HL74.out.1.below hb HL74.out.1.lt, HL74.out.2⟩
      clear hb H84
      go_wp2_with fail
      go_ret
      exact ⟨rfl, HD86.out.2⟩
    · have HCr := Lib.hid (crash10 x y k0 k1 h0 h1)
      have e0 : (k0 % 2 == 1) = true := beq_iff_eq.2 h0
      have e1 : (k1 % 2 == 1) = false := beq_eq_false_iff_ne.2 h1
      clear h0 h1
      go_enter Try.func8, Try.ntmps8
      go_wp2_with fail
      have hbx : Below w.heap.size w (w.alloc (.cells #[.int .u8 k0, .int .u8 k1] 60)) := (Below.refl _ _).alloc (Nat.le_refl _) _
      have hbk : Blk (w.alloc (.cells #[.int .u8 k0, .int .u8 k1] 60)) w.heap.size [.int .u8 k0, .int .u8 k1] := Blk.newAt _ _ _ rfl rfl
      generalize hwA : w.alloc (.cells #[.int .u8 k0, .int .u8 k1] 60) = wA at *
      have HBx := Lib.hid hbx
      have H0 := Lib.hid (dv_new w wA hbx 3 (by omega))
      refine H0.out.mono ?_
      rintro e w0 ⟨b, F, rfl, hd, hb, hF⟩
      have HD0 := Lib.hid hd
      have HK0 : Hid (Blk w0 w.heap.size [.int .u8 k0, .int .u8 k1] ∧ ¬ F w.heap.size) := Lib.hid ⟨hbk.below hb hbk.lt, fun h => by have := hF _ h; have := hbk.lt; omega⟩
      clear hd hb hF hbk hbx hwA
      have HG0 : Hid (w.heap.size ≤ w.heap.size) := Lib.hid (Nat.le_refl _)
      go_wp2_with fail
      have H1 := Lib.hid (fill_any x w0)
      refine H1.out.mono ?_
      rintro e w2 ⟨rfl, hb⟩
      have HD3 := Lib.hid (HD0.out.below hb)
      have HL4 : Hid (Blk w2 (w.heap.size) [.int .u8 k0, .int .u8 k1] ∧ ¬ F (w.heap.size)) := Lib.hid ⟨HK0.out.1.below hb HK0.out.1.lt, HK0.out.2⟩
      clear hb H1
      go_wp2_with fail
      have H5 := Lib.hid (show Calls _ _ _ _ (After w w2 b F (.int .i64 0) (od1 x)) from dv_write HD3.out (by decide) (by decide) 1 (fillA x) (fillA_sec x))
      refine H5.out.mono ?_
      rintro e w6 ⟨F7, rfl, hd, ho, hn⟩
      have HD8 := Lib.hid hd
      have HL9 : Hid (Blk w6 (w.heap.size) [.int .u8 k0, .int .u8 k1] ∧ ¬ F7 (w.heap.size)) := Lib.hid (HL4.out.1.after HL4.out.2 ho hn)
      clear hd ho hn H5
      go_wp2_with fail
      have H10 := Lib.hid (fill_any y w6)
      refine H10.out.mono ?_
      rintro e w11 ⟨rfl, hb⟩
      have HD12 := Lib.hid (HD8.out.below hb)
      have HL13 : Hid (Blk w11 (w.heap.size) [.int .u8 k0, .int .u8 k1] ∧ ¬ F7 (w.heap.size)) := Lib.hid ⟨HL9.out.1.below hb HL9.out.1.lt, HL9.out.2⟩
      clear hb H10
      go_wp2_with fail
      have H14 := Lib.hid (show Calls _ _ _ _ (After w w11 b F7 (.int .i64 0) (od2 x y)) from dv_write HD12.out (by simp [od1]) (by simp [od1]) 1 (fillA y) (fillA_sec y))
      refine H14.out.mono ?_
      rintro e w15 ⟨F16, rfl, hd, ho, hn⟩
      have HD17 := Lib.hid hd
      have HL18 : Hid (Blk w15 (w.heap.size) [.int .u8 k0, .int .u8 k1] ∧ ¬ F16 (w.heap.size)) := Lib.hid (HL13.out.1.after HL13.out.2 ho hn)
      clear hd ho hn H14
      go_wp2_with fail
      have hKB : BytesAt w15 (.slice (some ⟨w.heap.size, 0, none⟩) 2 2) [k0, k1] := ⟨_, 2, rfl, by unfold maxLen; simp, HKK.out, fun i hi => ⟨_, 0, rfl, by rw [Nat.zero_add]; exact HL18.out.1.cell (by match i, hi with | 0, _ => rfl | 1, _ => rfl)⟩⟩
      have HKB := Lib.hid hKB
      clear hKB
      have H19 := Lib.hid (show Calls _ _ _ _ (After w w15 b F16 (.tuple #[]) ((od2 x y).crash [k0, k1])) from (dv_crash HD17.out (by simp [od2]) (.slice (some ⟨w.heap.size, 0, none⟩) 2 2) [k0, k1] HKB.out (fun k hk hf => HL18.out.2 (by have : w.heap.size = k := Option.some.inj hk; rw [this]; exact hf))))
      refine H19.out.mono ?_
      rintro e w20 ⟨F21, rfl, hd, ho, hn⟩
      have HD22 := Lib.hid hd
      have HL23 : Hid (Blk w20 (w.heap.size) [.int .u8 k0, .int .u8 k1] ∧ ¬ F21 (w.heap.size)) := Lib.hid (HL18.out.1.after HL18.out.2 ho hn)
      clear hd ho hn H19
      rw [show (od2 x y).crash [k0, k1] = od3 (fillA x) from HCr.out] at HD22
      have c0 : w20.cell? ⟨w.heap.size, 0, none⟩ = some (.int .u8 k0) := HL23.out.1.cell rfl
      have c1 : w20.cell? ⟨w.heap.size, 1, none⟩ = some (.int .u8 k1) := HL23.out.1.cell rfl
      have hq0 := eq37 (fillA 0) (fillA_sec 0)
      have hq1 := eq37 (fillA x) (fillA_sec x)
      clear c0 c1
      go_wp2_with (first | ((with_reducible refine isBuild ?_); refine wpList_build_g 37 rfl rfl _ (build37 _) ?_) | ((with_reducible refine isNew ?_); refine wpList_store_new 37 _ _ rfl rfl 37 _ (fillA 0) rfl rfl (by rw [(fillA_sec 0).size]; exact info37) (zeros_size _ (fillA_sec 0)) (fillA_sec 0).one ?_; intro w24 hx hbx; have HG26 : Hid (w.heap.size ≤ w20.heap.size) := Lib.hid HD22.out.2.size; have HL25 : Hid (Blk w24 (w20.heap.size) (fillA 0).toList ∧ ¬ F21 (w20.heap.size)) := Lib.hid ⟨hx, fun h => Nat.lt_irrefl _ (HD22.out.lt _ h).2⟩; have HN27 : Hid (w.heap.size ≠ w20.heap.size) := Lib.hid (Nat.ne_of_lt HL23.out.1.lt); have HL28 : Hid (Blk w24 (w.heap.size) [.int .u8 k0, .int .u8 k1] ∧ ¬ F21 (w.heap.size)) := Lib.hid ⟨HL23.out.1.below hbx HL23.out.1.lt, HL23.out.2⟩; have HD29 := Lib.hid (HD22.out.below hbx); clear hx hbx; have c30 : w24.cell? ⟨w.heap.size, 0, none⟩ = some (.int .u8 k0) := HL28.out.1.cell rfl; have c31 : w24.cell? ⟨w.heap.size, 1, none⟩ = some (.int .u8 k1) := HL28.out.1.cell rfl))
      have H32 := Lib.hid (fill_any x w24)
      refine H32.out.mono ?_
      rintro e w33 ⟨rfl, hb⟩
      have HD34 := Lib.hid (HD29.out.below hb)
      have HL35 : Hid (Blk w33 (w.heap.size) [.int .u8 k0, .int .u8 k1] ∧ ¬ F21 (w.heap.size)) := Lib.hid ⟨HL28.out.1.below hb HL28.out.1.lt, HL28.out.2⟩
      have HL36 : Hid (Blk w33 (w20.heap.size) (fillA 0).toList ∧ ¬ F21 (w20.heap.size)) := Lib.hid ⟨HL25.out.1.below hb HL25.out.1.lt, HL25.out.2⟩
      clear hb H32
      go_wp2_with (first | ((with_reducible refine isStore ?_); refine wpList_store_loc 37 _ _ rfl rfl (w20.heap.size) _ (fillA x) rfl rfl HL36.out.1 (by rw [(fillA_sec x).size]; exact info37) (by rw [(fillA_sec x).size]; rfl) (fillA_sec x).one ?_; intro w37 hx hox; have HL38 : Hid (Blk w37 (w20.heap.size) (fillA x).toList ∧ ¬ F21 (w20.heap.size)) := Lib.hid ⟨hx, HL36.out.2⟩; have HL39 : Hid (Blk w37 (w.heap.size) [.int .u8 k0, .int .u8 k1] ∧ ¬ F21 (w.heap.size)) := Lib.hid ⟨HL35.out.1.only hox (HN27.out), HL35.out.2⟩; have HD40 := Lib.hid (HD34.out.go hox (fun k e => by rw [e]; exact HG26.out) (fun k hf e => HL36.out.2 (by rw [← e]; exact hf))); clear hx hox; have c41 : w37.cell? ⟨w.heap.size, 0, none⟩ = some (.int .u8 k0) := HL39.out.1.cell rfl; have c42 : w37.cell? ⟨w.heap.size, 1, none⟩ = some (.int .u8 k1) := HL39.out.1.cell rfl))
      have H43 := Lib.hid (show Calls _ _ _ _ (fun e w' => e = .returned (.tuple #[.agg (fillA x), .int .i64 0]) ∧ Below w37.heap.size w37 w') from dv_read HD40.out (by simp [od3]) 1)
      refine H43.out.mono ?_
      rintro e w44 ⟨rfl, hb⟩
      have HD45 := Lib.hid (HD40.out.below hb)
      have HL46 : Hid (Blk w44 (w.heap.size) [.int .u8 k0, .int .u8 k1] ∧ ¬ F21 (w.heap.size)) := Lib.hid ⟨HL39.out.1.below hb HL39.out.1.lt, HL39.out.2⟩
      have HL47 : Hid (Blk w44 (w20.heap.size) (fillA x).toList ∧ ¬ F21 (w20.heap.size)) := Lib.hid ⟨HL38.out.1.below hb HL38.out.1.lt, HL38.out.2⟩
      clear hb H43
      go_wp2_with (first | ((with_reducible refine isNew ?_); refine wpList_store_new 37 _ _ rfl rfl 37 _ ((fillA x)) rfl rfl (by rw [(fillA_sec x).size]; exact info37) (zeros_size _ (fillA_sec x)) (fillA_sec x).one ?_; intro w48 hx hbx; have HG50 : Hid (w.heap.size ≤ w44.heap.size) := Lib.hid HD45.out.2.size; have HL49 : Hid (Blk w48 (w44.heap.size) ((fillA x)).toList ∧ ¬ F21 (w44.heap.size)) := Lib.hid ⟨hx, fun h => Nat.lt_irrefl _ (HD45.out.lt _ h).2⟩; have HN51 : Hid (w.heap.size ≠ w44.heap.size) := Lib.hid (Nat.ne_of_lt HL46.out.1.lt); have HN52 : Hid (w20.heap.size ≠ w44.heap.size) := Lib.hid (Nat.ne_of_lt HL47.out.1.lt); have HL53 : Hid (Blk w48 (w.heap.size) [.int .u8 k0, .int .u8 k1] ∧ ¬ F21 (w.heap.size)) := Lib.hid ⟨HL46.out.1.below hbx HL46.out.1.lt, HL46.out.2⟩; have HL54 : Hid (Blk w48 (w20.heap.size) (fillA x).toList ∧ ¬ F21 (w20.heap.size)) := Lib.hid ⟨HL47.out.1.below hbx HL47.out.1.lt, HL47.out.2⟩; have HD55 := Lib.hid (HD45.out.below hbx); clear hx hbx))
      have H56 := Lib.hid (show Calls _ _ _ _ (fun e w' => e = .returned (.tuple #[.agg (fillA 0), .int .i64 0]) ∧ Below w48.heap.size w48 w') from dv_read HD55.out (by simp [od3]) 2)
      refine H56.out.mono ?_
      rintro e w57 ⟨rfl, hb⟩
      have HD58 := Lib.hid (HD55.out.below hb)
      have HL59 : Hid (Blk w57 (w.heap.size) [.int .u8 k0, .int .u8 k1] ∧ ¬ F21 (w.heap.size)) := Lib.hid ⟨HL53.out.1.below hb HL53.out.1.lt, HL53.out.2⟩
      have HL60 : Hid (Blk w57 (w20.heap.size) (fillA x).toList ∧ ¬ F21 (w20.heap.size)) := Lib.hid ⟨HL54.out.1.below hb HL54.out.1.lt, HL54.out.2⟩
      have HL61 : Hid (Blk w57 (w44.heap.size) ((fillA x)).toList ∧ ¬ F21 (w44.heap.size)) := Lib.hid ⟨HL49.out.1.below hb HL49.out.1.lt, HL49.out.2⟩
      clear hb H56
      go_wp2_with (first | ((with_reducible refine isNew ?_); refine wpList_store_new 37 _ _ rfl rfl 37 _ (fillA 0) rfl rfl (by rw [(fillA_sec 0).size]; exact info37) (zeros_size _ (fillA_sec 0)) (fillA_sec 0).one ?_; intro w62 hx hbx; have HG64 : Hid (w.heap.size ≤ w57.heap.size) := Lib.hid HD58.out.2.size; have HL63 : Hid (Blk w62 (w57.heap.size) (fillA 0).toList ∧ ¬ F21 (w57.heap.size)) := Lib.hid ⟨hx, fun h => Nat.lt_irrefl _ (HD58.out.lt _ h).2⟩; have HN65 : Hid (w.heap.size ≠ w57.heap.size) := Lib.hid (Nat.ne_of_lt HL59.out.1.lt); have HN66 : Hid (w20.heap.size ≠ w57.heap.size) := Lib.hid (Nat.ne_of_lt HL60.out.1.lt); have HN67 : Hid (w44.heap.size ≠ w57.heap.size) := Lib.hid (Nat.ne_of_lt HL61.out.1.lt); have HL68 : Hid (Blk w62 (w.heap.size) [.int .u8 k0, .int .u8 k1] ∧ ¬ F21 (w.heap.size)) := Lib.hid ⟨HL59.out.1.below hbx HL59.out.1.lt, HL59.out.2⟩; have HL69 : Hid (Blk w62 (w20.heap.size) (fillA x).toList ∧ ¬ F21 (w20.heap.size)) := Lib.hid ⟨HL60.out.1.below hbx HL60.out.1.lt, HL60.out.2⟩; have HL70 : Hid (Blk w62 (w44.heap.size) ((fillA x)).toList ∧ ¬ F21 (w44.heap.size)) := Lib.hid ⟨HL61.out.1.below hbx HL61.out.1.lt, HL61.out.2⟩; have HD71 := Lib.hid (HD58.out.below hbx); clear hx hbx) | ((with_reducible refine isLoad ?_); refine wpList_load_g 37 _ rfl (w44.heap.size) 0 rfl rfl ((fillA x)) _ Try.underlying37 rfl (by rw [(fillA_sec x).size]; exact info37) (HL70.out.1.cells _ rfl) ?_) | ((with_reducible refine isLoad ?_); refine wpList_load_g 37 _ rfl (w20.heap.size) 0 rfl rfl ((fillA x)) _ Try.underlying37 rfl (by rw [(fillA_sec x).size]; exact info37) (HL69.out.1.cells _ rfl) ?_) | ((with_reducible refine isLoad ?_); refine wpList_load_g 37 _ rfl (w57.heap.size) 0 rfl rfl (fillA 0) _ Try.underlying37 rfl (by rw [(fillA_sec 0).size]; exact info37) (HL63.out.1.cells _ rfl) ?_) | ((with_reducible refine isBuild ?_); refine wpList_build_g 37 rfl rfl _ (build37 _) ?_))
      have H72 := Lib.hid (show Calls _ _ _ _ (fun e w' => e = .returned (.int .i64 0) ∧ w62 = w') from dv_loose HD71.out)
      refine H72.out.mono ?_
      rintro e w' ⟨rfl, rfl⟩
      clear H72
      go_wp2_with fail
      have H73 := Lib.hid (wakes_any w62)
      refine H73.out.mono ?_
      rintro e w74 ⟨rfl, hb⟩
      have HD75 := Lib.hid (HD71.out.below hb)
      have HL76 : Hid (Blk w74 (w.heap.size) [.int .u8 k0, .int .u8 k1] ∧ ¬ F21 (w.heap.size)) := Lib.hid ⟨HL68.out.1.below hb HL68.out.1.lt, HL68.out.2⟩
      have HL77 : Hid (Blk w74 (w20.heap.size) (fillA x).toList ∧ ¬ F21 (w20.heap.size)) := Lib.hid ⟨HL69.out.1.below hb HL69.out.1.lt, HL69.out.2⟩
      have HL78 : Hid (Blk w74 (w44.heap.size) ((fillA x)).toList ∧ ¬ F21 (w44.heap.size)) := Lib.hid ⟨HL70.out.1.below hb HL70.out.1.lt, HL70.out.2⟩
      have HL79 : Hid (Blk w74 (w57.heap.size) (fillA 0).toList ∧ ¬ F21 (w57.heap.size)) := Lib.hid ⟨HL63.out.1.below hb HL63.out.1.lt, HL63.out.2⟩
      clear hb H73
      go_wp2_with fail
      go_ret
      exact ⟨rfl, HD75.out.2⟩
  · by_cases h1 : k1 % 2 = 1
    · have HCr := Lib.hid (crash01 x y k0 k1 h1)
      have e0 : (k0 % 2 == 1) = false := beq_eq_false_iff_ne.2 h0
      have e1 : (k1 % 2 == 1) = true := beq_iff_eq.2 h1
      clear h0 h1
      go_enter Try.func8, Try.ntmps8
      go_wp2_with fail
      have hbx : Below w.heap.size w (w.alloc (.cells #[.int .u8 k0, .int .u8 k1] 60)) := (Below.refl _ _).alloc (Nat.le_refl _) _
      have hbk : Blk (w.alloc (.cells #[.int .u8 k0, .int .u8 k1] 60)) w.heap.size [.int .u8 k0, .int .u8 k1] := Blk.newAt _ _ _ rfl rfl
      generalize hwA : w.alloc (.cells #[.int .u8 k0, .int .u8 k1] 60) = wA at *
      have HBx := Lib.hid hbx
      have H0 := Lib.hid (dv_new w wA hbx 3 (by omega))
      refine H0.out.mono ?_
      rintro e w0 ⟨b, F, rfl, hd, hb, hF⟩
      have HD0 := Lib.hid hd
      have HK0 : Hid (Blk w0 w.heap.size [.int .u8 k0, .int .u8 k1] ∧ ¬ F w.heap.size) := Lib.hid ⟨hbk.below hb hbk.lt, fun h => by have := hF _ h; have := hbk.lt; omega⟩
      clear hd hb hF hbk hbx hwA
      have HG0 : Hid (w.heap.size ≤ w.heap.size) := Lib.hid (Nat.le_refl _)
      go_wp2_with fail
      have H1 := Lib.hid (fill_any x w0)
      refine H1.out.mono ?_
      rintro e w2 ⟨rfl, hb⟩
      have HD3 := Lib.hid (HD0.out.below hb)
      have HL4 : Hid (Blk w2 (w.heap.size) [.int .u8 k0, .int .u8 k1] ∧ ¬ F (w.heap.size)) := Lib.hid ⟨HK0.out.1.below hb HK0.out.1.lt, HK0.out.2⟩
      clear hb H1
      go_wp2_with fail
      have H5 := Lib.hid (show Calls _ _ _ _ (After w w2 b F (.int .i64 0) (od1 x)) from dv_write HD3.out (by decide) (by decide) 1 (fillA x) (fillA_sec x))
      refine H5.out.mono ?_
      rintro e w6 ⟨F7, rfl, hd, ho, hn⟩
      have HD8 := Lib.hid hd
      have HL9 : Hid (Blk w6 (w.heap.size) [.int .u8 k0, .int .u8 k1] ∧ ¬ F7 (w.heap.size)) := Lib.hid (HL4.out.1.after HL4.out.2 ho hn)
      clear hd ho hn H5
      go_wp2_with fail
      have H10 := Lib.hid (fill_any y w6)
      refine H10.out.mono ?_
      rintro e w11 ⟨rfl, hb⟩
      have HD12 := Lib.hid (HD8.out.below hb)
      have HL13 : Hid (Blk w11 (w.heap.size) [.int .u8 k0, .int .u8 k1] ∧ ¬ F7 (w.heap.size)) := Lib.hid ⟨HL9.out.1.below hb HL9.out.1.lt, HL9.out.2⟩
      clear hb H10
      go_wp2_with fail
      have H14 := Lib.hid (show Calls _ _ _ _ (After w w11 b F7 (.int .i64 0) (od2 x y)) from dv_write HD12.out (by simp [od1]) (by simp [od1]) 1 (fillA y) (fillA_sec y))
      refine H14.out.mono ?_
      rintro e w15 ⟨F16, rfl, hd, ho, hn⟩
      have HD17 := Lib.hid hd
      have HL18 : Hid (Blk w15 (w.heap.size) [.int .u8 k0, .int .u8 k1] ∧ ¬ F16 (w.heap.size)) := Lib.hid (HL13.out.1.after HL13.out.2 ho hn)
      clear hd ho hn H14
      go_wp2_with fail
      have hKB : BytesAt w15 (.slice (some ⟨w.heap.size, 0, none⟩) 2 2) [k0, k1] := ⟨_, 2, rfl, by unfold maxLen; simp, HKK.out, fun i hi => ⟨_, 0, rfl, by rw [Nat.zero_add]; exact HL18.out.1.cell (by match i, hi with | 0, _ => rfl | 1, _ => rfl)⟩⟩
      have HKB := Lib.hid hKB
      clear hKB
      have H19 := Lib.hid (show Calls _ _ _ _ (After w w15 b F16 (.tuple #[]) ((od2 x y).crash [k0, k1])) from (dv_crash HD17.out (by simp [od2]) (.slice (some ⟨w.heap.size, 0, none⟩) 2 2) [k0, k1] HKB.out (fun k hk hf => HL18.out.2 (by have : w.heap.size = k := Option.some.inj hk; rw [this]; exact hf))))
      refine H19.out.mono ?_
      rintro e w20 ⟨F21, rfl, hd, ho, hn⟩
      have HD22 := Lib.hid hd
      have HL23 : Hid (Blk w20 (w.heap.size) [.int .u8 k0, .int .u8 k1] ∧ ¬ F21 (w.heap.size)) := Lib.hid (HL18.out.1.after HL18.out.2 ho hn)
      clear hd ho hn H19
      rw [show (od2 x y).crash [k0, k1] = od3 (fillA y) from HCr.out] at HD22
      have c0 : w20.cell? ⟨w.heap.size, 0, none⟩ = some (.int .u8 k0) := HL23.out.1.cell rfl
      have c1 : w20.cell? ⟨w.heap.size, 1, none⟩ = some (.int .u8 k1) := HL23.out.1.cell rfl
      have hq0 := eq37 (fillA 0) (fillA_sec 0)
      have hq1 := eq37 (fillA y) (fillA_sec y)
      clear c0 c1
      go_wp2_with (first | ((with_reducible refine isBuild ?_); refine wpList_build_g 37 rfl rfl _ (build37 _) ?_) | ((with_reducible refine isNew ?_); refine wpList_store_new 37 _ _ rfl rfl 37 _ (fillA 0) rfl rfl (by rw [(fillA_sec 0).size]; exact info37) (zeros_size _ (fillA_sec 0)) (fillA_sec 0).one ?_; intro w24 hx hbx; have HG26 : Hid (w.heap.size ≤ w20.heap.size) := Lib.hid HD22.out.2.size; have HL25 : Hid (Blk w24 (w20.heap.size) (fillA 0).toList ∧ ¬ F21 (w20.heap.size)) := Lib.hid ⟨hx, fun h => Nat.lt_irrefl _ (HD22.out.lt _ h).2⟩; have HN27 : Hid (w.heap.size ≠ w20.heap.size) := Lib.hid (Nat.ne_of_lt HL23.out.1.lt); have HL28 : Hid (Blk w24 (w.heap.size) [.int .u8 k0, .int .u8 k1] ∧ ¬ F21 (w.heap.size)) := Lib.hid ⟨HL23.out.1.below hbx HL23.out.1.lt, HL23.out.2⟩; have HD29 := Lib.hid (HD22.out.below hbx); clear hx hbx; have c30 : w24.cell? ⟨w.heap.size, 0, none⟩ = some (.int .u8 k0) := HL28.out.1.cell rfl; have c31 : w24.cell? ⟨w.heap.size, 1, none⟩ = some (.int .u8 k1) := HL28.out.1.cell rfl))
      have H32 := Lib.hid (fill_any y w24)
      refine H32.out.mono ?_
      rintro e w33 ⟨rfl, hb⟩
      have HD34 := Lib.hid (HD29.out.below hb)
      have HL35 : Hid (Blk w33 (w.heap.size) [.int .u8 k0, .int .u8 k1] ∧ ¬ F21 (w.heap.size)) := Lib.hid ⟨HL28.out.1.below hb HL28.out.1.lt, HL28.out.2⟩
      have HL36 : Hid (Blk w33 (w20.heap.size) (fillA 0).toList ∧ ¬ F21 (w20.heap.size)) := Lib.hid ⟨HL25.out.1.below hb HL25.out.1.lt, HL25.out.2⟩
      clear hb H32
      go_wp2_with (first | ((with_reducible refine isStore ?_); refine wpList_store_loc 37 _ _ rfl rfl (w20.heap.size) _ (fillA y) rfl rfl HL36.out.1 (by rw [(fillA_sec y).size]; exact info37) (by rw [(fillA_sec y).size]; rfl) (fillA_sec y).one ?_; intro w37 hx hox; have HL38 : Hid (Blk w37 (w20.heap.size) (fillA y).toList ∧ ¬ F21 (w20.heap.size)) := Lib.hid ⟨hx, HL36.out.2⟩; have HL39 : Hid (Blk w37 (w.heap.size) [.int .u8 k0, .int .u8 k1] ∧ ¬ F21 (w.heap.size)) := Lib.hid ⟨HL35.out.1.only hox (HN27.out), HL35.out.2⟩; have HD40 := Lib.hid (HD34.out.go hox (fun k e => by rw [e]; exact HG26.out) (fun k hf e => HL36.out.2 (by rw [← e]; exact hf))); clear hx hox; have c41 : w37.cell? ⟨w.heap.size, 0, none⟩ = some (.int .u8 k0) := HL39.out.1.cell rfl; have c42 : w37.cell? ⟨w.heap.size, 1, none⟩ = some (.int .u8 k1) := HL39.out.1.cell rfl))
      have H43 := Lib.hid (show Calls _ _ _ _ (fun e w' => e = .returned (.tuple #[.agg (fillA y), .int .i64 0]) ∧ Below w37.heap.size w37 w') from dv_read HD40.out (by simp [od3]) 1)
      refine H43.out.mono ?_
      rintro e w44 ⟨rfl, hb⟩
      have HD45 := Lib.hid (HD40.out.below hb)
      have HL46 : Hid (Blk w44 (w.heap.size) [.int .u8 k0, .int .u8 k1] ∧ ¬ F21 (w.heap.size)) := Lib.hid ⟨HL39.out.1.below hb HL39.out.1.lt, HL39.out.2⟩
      have HL47 : Hid (Blk w44 (w20.heap.size) (fillA y).toList ∧ ¬ F21 (w20.heap.size)) := Lib.hid ⟨HL38.out.1.below hb HL38.out.1.lt, HL38.out.2⟩
      clear hb H43
      go_wp2_with (first | ((with_reducible refine isNew ?_); refine wpList_store_new 37 _ _ rfl rfl 37 _ ((fillA y)) rfl rfl (by rw [(fillA_sec y).size]; exact info37) (zeros_size _ (fillA_sec y)) (fillA_sec y).one ?_; intro w48 hx hbx; have HG50 : Hid (w.heap.size ≤ w44.heap.size) := Lib.hid HD45.out.2.size; have HL49 : Hid (Blk w48 (w44.heap.size) ((fillA y)).toList ∧ ¬ F21 (w44.heap.size)) := Lib.hid ⟨hx, fun h => Nat.lt_irrefl _ (HD45.out.lt _ h).2⟩; have HN51 : Hid (w.heap.size ≠ w44.heap.size) := Lib.hid (Nat.ne_of_lt HL46.out.1.lt); have HN52 : Hid (w20.heap.size ≠ w44.heap.size) := Lib.hid (Nat.ne_of_lt HL47.out.1.lt); have HL53 : Hid (Blk w48 (w.heap.size) [.int .u8 k0, .int .u8 k1] ∧ ¬ F21 (w.heap.size)) := Lib.hid ⟨HL46.out.1.below hbx HL46.out.1.lt, HL46.out.2⟩; have HL54 : Hid (Blk w48 (w20.heap.size) (fillA y).toList ∧ ¬ F21 (w20.heap.size)) := Lib.hid ⟨HL47.out.1.below hbx HL47.out.1.lt, HL47.out.2⟩; have HD55 := Lib.hid (HD45.out.below hbx); clear hx hbx))
      have H56 := Lib.hid (show Calls _ _ _ _ (fun e w' => e = .returned (.tuple #[.agg (fillA 0), .int .i64 0]) ∧ Below w48.heap.size w48 w') from dv_read HD55.out (by simp [od3]) 2)
      refine H56.out.mono ?_
      rintro e w57 ⟨rfl, hb⟩
      have HD58 := Lib.hid (HD55.out.below hb)
      have HL59 : Hid (Blk w57 (w.heap.size) [.int .u8 k0, .int .u8 k1] ∧ ¬ F21 (w.heap.size)) := Lib.hid ⟨HL53.out.1.below hb HL53.out.1.lt, HL53.out.2⟩
      have HL60 : Hid (Blk w57 (w20.heap.size) (fillA y).toList ∧ ¬ F21 (w20.heap.size)) := Lib.hid ⟨HL54.out.1.below hb HL54.out.1.lt, HL54.out.2⟩
      have HL61 : Hid (Blk w57 (w44.heap.size) ((fillA y)).toList ∧ ¬ F21 (w44.heap.size)) := Lib.hid ⟨HL49.out.1.below hb HL49.out.1.lt, HL49.out.2⟩
      clear hb H56
      go_wp2_with (first | ((with_reducible refine isNew ?_); refine wpList_store_new 37 _ _ rfl rfl 37 _ (fillA 0) rfl rfl (by rw [(fillA_sec 0).size]; exact info37) (zeros_size _ (fillA_sec 0)) (fillA_sec 0).one ?_; intro w62 hx hbx; have HG64 : Hid (w.heap.size ≤ w57.heap.size) := Lib.hid HD58.out.2.size; have HL63 : Hid (Blk w62 (w57.heap.size) (fillA 0).toList ∧ ¬ F21 (w57.heap.size)) := Lib.hid ⟨hx, fun h => Nat.lt_irrefl _ (HD58.out.lt _ h).2⟩; have HN65 : Hid (w.heap.size ≠ w57.heap.size) := Lib.hid (Nat.ne_of_lt HL59.out.1.lt); have HN66 : Hid (w20.heap.size ≠ w57.heap.size) := Lib.hid (Nat.ne_of_lt HL60.out.1.lt); have HN67 : Hid (w44.heap.size ≠ w57.heap.size) := Lib.hid (Nat.ne_of_lt HL61.out.1.lt); have HL68 : Hid (Blk w62 (w.heap.size) [.int .u8 k0, .int .u8 k1] ∧ ¬ F21 (w.heap.size)) := Lib.hid ⟨HL59.out.1.below hbx HL59.out.1.lt, HL59.out.2⟩; have HL69 : Hid (Blk w62 (w20.heap.size) (fillA y).toList ∧ ¬ F21 (w20.heap.size)) := Lib.hid ⟨HL60.out.1.below hbx HL60.out.1.lt, HL60.out.2⟩; have HL70 : Hid (Blk w62 (w44.heap.size) ((fillA y)).toList ∧ ¬ F21 (w44.heap.size)) := Lib.hid ⟨HL61.out.1.below hbx HL61.out.1.lt, HL61.out.2⟩; have HD71 := Lib.hid (HD58.out.below hbx); clear hx hbx) | ((with_reducible refine isLoad ?_); refine wpList_load_g 37 _ rfl (w44.heap.size) 0 rfl rfl ((fillA y)) _ Try.underlying37 rfl (by rw [(fillA_sec y).size]; exact info37) (HL70.out.1.cells _ rfl) ?_) | ((with_reducible refine isLoad ?_); refine wpList_load_g 37 _ rfl (w20.heap.size) 0 rfl rfl ((fillA y)) _ Try.underlying37 rfl (by rw [(fillA_sec y).size]; exact info37) (HL69.out.1.cells _ rfl) ?_) | ((with_reducible refine isLoad ?_); refine wpList_load_g 37 _ rfl (w57.heap.size) 0 rfl rfl (fillA 0) _ Try.underlying37 rfl (by rw [(fillA_sec 0).size]; exact info37) (HL63.out.1.cells _ rfl) ?_) | ((with_reducible refine isBuild ?_); refine wpList_build_g 37 rfl rfl _ (build37 _) ?_))
      have H72 := Lib.hid (show Calls _ _ _ _ (fun e w' => e = .returned (.int .i64 0) ∧ w62 = w') from dv_loose HD71.out)
      refine H72.out.mono ?_
      rintro e w' ⟨rfl, rfl⟩
      clear H72
      go_wp2_with fail
      have H73 := Lib.hid (wakes_any w62)
      refine H73.out.mono ?_
      rintro e w74 ⟨rfl, hb⟩
      have HD75 := Lib.hid (HD71.out.below hb)
      have HL76 : Hid (Blk w74 (w.heap.size) [.int .u8 k0, .int .u8 k1] ∧ ¬ F21 (w.heap.size)) := Lib.hid ⟨HL68.out.1.below hb HL68.out.1.lt, HL68.out.2⟩
      have HL77 : Hid (Blk w74 (w20.heap.size) (fillA y).toList ∧ ¬ F21 (w20.heap.size)) := Lib.hid ⟨HL69.out.1.below hb HL69.out.1.lt, HL69.out.2⟩
      have HL78 : Hid (Blk w74 (w44.heap.size) ((fillA y)).toList ∧ ¬ F21 (w44.heap.size)) := Lib.hid ⟨HL70.out.1.below hb HL70.out.1.lt, HL70.out.2⟩
      have HL79 : Hid (Blk w74 (w57.heap.size) (fillA 0).toList ∧ ¬ F21 (w57.heap.size)) := Lib.hid ⟨HL63.out.1.below hb HL63.out.1.lt, HL63.out.2⟩
      clear hb H73
      go_wp2_with fail
      go_ret
      exact ⟨rfl, HD75.out.2⟩
    · have HCr := Lib.hid (crash00 x y k0 k1 h0 h1)
      have e0 : (k0 % 2 == 1) = false := beq_eq_false_iff_ne.2 h0
      have e1 : (k1 % 2 == 1) = false := beq_eq_false_iff_ne.2 h1
      clear h0 h1
      go_enter Try.func8, Try.ntmps8
      go_wp2_with fail
      have hbx : Below w.heap.size w (w.alloc (.cells #[.int .u8 k0, .int .u8 k1] 60)) := (Below.refl _ _).alloc (Nat.le_refl _) _
      have hbk : Blk (w.alloc (.cells #[.int .u8 k0, .int .u8 k1] 60)) w.heap.size [.int .u8 k0, .int .u8 k1] := Blk.newAt _ _ _ rfl rfl
      generalize hwA : w.alloc (.cells #[.int .u8 k0, .int .u8 k1] 60) = wA at *
      have HBx := Lib.hid hbx
      have H0 := Lib.hid (dv_new w wA hbx 3 (by omega))
      refine H0.out.mono ?_
      rintro e w0 ⟨b, F, rfl, hd, hb, hF⟩
      have HD0 := Lib.hid hd
      have HK0 : Hid (Blk w0 w.heap.size [.int .u8 k0, .int .u8 k1] ∧ ¬ F w.heap.size) := Lib.hid ⟨hbk.below hb hbk.lt, fun h => by have := hF _ h; have := hbk.lt; omega⟩
      clear hd hb hF hbk hbx hwA
      have HG0 : Hid (w.heap.size ≤ w.heap.size) := Lib.hid (Nat.le_refl _)
      go_wp2_with fail
      have H1 := Lib.hid (fill_any x w0)
      refine H1.out.mono ?_
      rintro e w2 ⟨rfl, hb⟩
      have HD3 := Lib.hid (HD0.out.below hb)
      have HL4 : Hid (Blk w2 (w.heap.size) [.int .u8 k0, .int .u8 k1] ∧ ¬ F (w.heap.size)) := Lib.hid ⟨HK0.out.1.below hb HK0.out.1.lt, HK0.out.2⟩
      clear hb H1
      go_wp2_with fail
      have H5 := Lib.hid (show Calls _ _ _ _ (After w w2 b F (.int .i64 0) (od1 x)) from dv_write HD3.out (by decide) (by decide) 1 (fillA x) (fillA_sec x))
      refine H5.out.mono ?_
      rintro e w6 ⟨F7, rfl, hd, ho, hn⟩
      have HD8 := Lib.hid hd
      have HL9 : Hid (Blk w6 (w.heap.size) [.int .u8 k0, .int .u8 k1] ∧ ¬ F7 (w.heap.size)) := Lib.hid (HL4.out.1.after HL4.out.2 ho hn)
      clear hd ho hn H5
      go_wp2_with fail
      have H10 := Lib.hid (fill_any y w6)
      refine H10.out.mono ?_
      rintro e w11 ⟨rfl, hb⟩
      have HD12 := Lib.hid (HD8.out.below hb)
      have HL13 : Hid (Blk w11 (w.heap.size) [.int .u8 k0, .int .u8 k1] ∧ ¬ F7 (w.heap.size)) := Lib.hid ⟨HL9.out.1.below hb HL9.out.1.lt, HL9.out.2⟩
      clear hb H10
      go_wp2_with fail
      have H14 := Lib.hid (show Calls _ _ _ _ (After w w11 b F7 (.int .i64 0) (od2 x y)) from dv_write HD12.out (by simp [od1]) (by simp [od1]) 1 (fillA y) (fillA_sec y))
      refine H14.out.mono ?_
      rintro e w15 ⟨F16, rfl, hd, ho, hn⟩
      have HD17 := Lib.hid hd
      have HL18 : Hid (Blk w15 (w.heap.size) [.int .u8 k0, .int .u8 k1] ∧ ¬ F16 (w.heap.size)) := Lib.hid (HL13.out.1.after HL13.out.2 ho hn)
      clear hd ho hn H14
      go_wp2_with fail
      have hKB : BytesAt w15 (.slice (some ⟨w.heap.size, 0, none⟩) 2 2) [k0, k1] := ⟨_, 2, rfl, by unfold maxLen; simp, HKK.out, fun i hi => ⟨_, 0, rfl, by rw [Nat.zero_add]; exact HL18.out.1.cell (by match i, hi with | 0, _ => rfl | 1, _ => rfl)⟩⟩
      have HKB := Lib.hid hKB
      clear hKB
      have H19 := Lib.hid (show Calls _ _ _ _ (After w w15 b F16 (.tuple #[]) ((od2 x y).crash [k0, k1])) from (dv_crash HD17.out (by simp [od2]) (.slice (some ⟨w.heap.size, 0, none⟩) 2 2) [k0, k1] HKB.out (fun k hk hf => HL18.out.2 (by have : w.heap.size = k := Option.some.inj hk; rw [this]; exact hf))))
      refine H19.out.mono ?_
      rintro e w20 ⟨F21, rfl, hd, ho, hn⟩
      have HD22 := Lib.hid hd
      have HL23 : Hid (Blk w20 (w.heap.size) [.int .u8 k0, .int .u8 k1] ∧ ¬ F21 (w.heap.size)) := Lib.hid (HL18.out.1.after HL18.out.2 ho hn)
      clear hd ho hn H19
      rw [show (od2 x y).crash [k0, k1] = od3 (fillA 0) from HCr.out] at HD22
      have c0 : w20.cell? ⟨w.heap.size, 0, none⟩ = some (.int .u8 k0) := HL23.out.1.cell rfl
      have c1 : w20.cell? ⟨w.heap.size, 1, none⟩ = some (.int .u8 k1) := HL23.out.1.cell rfl
      have hq0 := eq37 (fillA 0) (fillA_sec 0)
      clear c0 c1
      go_wp2_with (first | ((with_reducible refine isBuild ?_); refine wpList_build_g 37 rfl rfl _ (build37 _) ?_) | ((with_reducible refine isNew ?_); refine wpList_store_new 37 _ _ rfl rfl 37 _ (fillA 0) rfl rfl (by rw [(fillA_sec 0).size]; exact info37) (zeros_size _ (fillA_sec 0)) (fillA_sec 0).one ?_; intro w24 hx hbx; have HG26 : Hid (w.heap.size ≤ w20.heap.size) := Lib.hid HD22.out.2.size; have HL25 : Hid (Blk w24 (w20.heap.size) (fillA 0).toList ∧ ¬ F21 (w20.heap.size)) := Lib.hid ⟨hx, fun h => Nat.lt_irrefl _ (HD22.out.lt _ h).2⟩; have HN27 : Hid (w.heap.size ≠ w20.heap.size) := Lib.hid (Nat.ne_of_lt HL23.out.1.lt); have HL28 : Hid (Blk w24 (w.heap.size) [.int .u8 k0, .int .u8 k1] ∧ ¬ F21 (w.heap.size)) := Lib.hid ⟨HL23.out.1.below hbx HL23.out.1.lt, HL23.out.2⟩; have HD29 := Lib.hid (HD22.out.below hbx); clear hx hbx; have c30 : w24.cell? ⟨w.heap.size, 0, none⟩ = some (.int .u8 k0) := HL28.out.1.cell rfl; have c31 : w24.cell? ⟨w.heap.size, 1, none⟩ = some (.int .u8 k1) := HL28.out.1.cell rfl))
      have H32 := Lib.hid (show Calls _ _ _ _ (fun e w' => e = .returned (.tuple #[.agg (fillA 0), .int .i64 0]) ∧ Below w24.heap.size w24 w') from dv_read HD29.out (by simp [od3]) 1)
      refine H32.out.mono ?_
      rintro e w33 ⟨rfl, hb⟩
      have HD34 := Lib.hid (HD29.out.below hb)
      have HL35 : Hid (Blk w33 (w.heap.size) [.int .u8 k0, .int .u8 k1] ∧ ¬ F21 (w.heap.size)) := Lib.hid ⟨HL28.out.1.below hb HL28.out.1.lt, HL28.out.2⟩
      have HL36 : Hid (Blk w33 (w20.heap.size) (fillA 0).toList ∧ ¬ F21 (w20.heap.size)) := Lib.hid ⟨HL25.out.1.below hb HL25.out.1.lt, HL25.out.2⟩
      clear hb H32
      go_wp2_with (first | ((with_reducible refine isNew ?_); refine wpList_store_new 37 _ _ rfl rfl 37 _ ((fillA 0)) rfl rfl (by rw [(fillA_sec 0).size]; exact info37) (zeros_size _ (fillA_sec 0)) (fillA_sec 0).one ?_; intro w37 hx hbx; have HG39 : Hid (w.heap.size ≤ w33.heap.size) := Lib.hid HD34.out.2.size; have HL38 : Hid (Blk w37 (w33.heap.size) ((fillA 0)).toList ∧ ¬ F21 (w33.heap.size)) := Lib.hid ⟨hx, fun h => Nat.lt_irrefl _ (HD34.out.lt _ h).2⟩; have HN40 : Hid (w.heap.size ≠ w33.heap.size) := Lib.hid (Nat.ne_of_lt HL35.out.1.lt); have HN41 : Hid (w20.heap.size ≠ w33.heap.size) := Lib.hid (Nat.ne_of_lt HL36.out.1.lt); have HL42 : Hid (Blk w37 (w.heap.size) [.int .u8 k0, .int .u8 k1] ∧ ¬ F21 (w.heap.size)) := Lib.hid ⟨HL35.out.1.below hbx HL35.out.1.lt, HL35.out.2⟩; have HL43 : Hid (Blk w37 (w20.heap.size) (fillA 0).toList ∧ ¬ F21 (w20.heap.size)) := Lib.hid ⟨HL36.out.1.below hbx HL36.out.1.lt, HL36.out.2⟩; have HD44 := Lib.hid (HD34.out.below hbx); clear hx hbx))
      have H45 := Lib.hid (show Calls _ _ _ _ (fun e w' => e = .returned (.tuple #[.agg (fillA 0), .int .i64 0]) ∧ Below w37.heap.size w37 w') from dv_read HD44.out (by simp [od3]) 2)
      refine H45.out.mono ?_
      rintro e w46 ⟨rfl, hb⟩
      have HD47 := Lib.hid (HD44.out.below hb)
      have HL48 : Hid (Blk w46 (w.heap.size) [.int .u8 k0, .int .u8 k1] ∧ ¬ F21 (w.heap.size)) := Lib.hid ⟨HL42.out.1.below hb HL42.out.1.lt, HL42.out.2⟩
      have HL49 : Hid (Blk w46 (w20.heap.size) (fillA 0).toList ∧ ¬ F21 (w20.heap.size)) := Lib.hid ⟨HL43.out.1.below hb HL43.out.1.lt, HL43.out.2⟩
      have HL50 : Hid (Blk w46 (w33.heap.size) ((fillA 0)).toList ∧ ¬ F21 (w33.heap.size)) := Lib.hid ⟨HL38.out.1.below hb HL38.out.1.lt, HL38.out.2⟩
      clear hb H45
      go_wp2_with (first | ((with_reducible refine isNew ?_); refine wpList_store_new 37 _ _ rfl rfl 37 _ (fillA 0) rfl rfl (by rw [(fillA_sec 0).size]; exact info37) (zeros_size _ (fillA_sec 0)) (fillA_sec 0).one ?_; intro w51 hx hbx; have HG53 : Hid (w.heap.size ≤ w46.heap.size) := Lib.hid HD47.out.2.size; have HL52 : Hid (Blk w51 (w46.heap.size) (fillA 0).toList ∧ ¬ F21 (w46.heap.size)) := Lib.hid ⟨hx, fun h => Nat.lt_irrefl _ (HD47.out.lt _ h).2⟩; have HN54 : Hid (w.heap.size ≠ w46.heap.size) := Lib.hid (Nat.ne_of_lt HL48.out.1.lt); have HN55 : Hid (w20.heap.size ≠ w46.heap.size) := Lib.hid (Nat.ne_of_lt HL49.out.1.lt); have HN56 : Hid (w33.heap.size ≠ w46.heap.size) := Lib.hid (Nat.ne_of_lt HL50.out.1.lt); have HL57 : Hid (Blk w51 (w.heap.size) [.int .u8 k0, .int .u8 k1] ∧ ¬ F21 (w.heap.size)) := Lib.hid ⟨HL48.out.1.below hbx HL48.out.1.lt, HL48.out.2⟩; have HL58 : Hid (Blk w51 (w20.heap.size) (fillA 0).toList ∧ ¬ F21 (w20.heap.size)) := Lib.hid ⟨HL49.out.1.below hbx HL49.out.1.lt, HL49.out.2⟩; have HL59 : Hid (Blk w51 (w33.heap.size) ((fillA 0)).toList ∧ ¬ F21 (w33.heap.size)) := Lib.hid ⟨HL50.out.1.below hbx HL50.out.1.lt, HL50.out.2⟩; have HD60 := Lib.hid (HD47.out.below hbx); clear hx hbx) | ((with_reducible refine isLoad ?_); refine wpList_load_g 37 _ rfl (w33.heap.size) 0 rfl rfl ((fillA 0)) _ Try.underlying37 rfl (by rw [(fillA_sec 0).size]; exact info37) (HL59.out.1.cells _ rfl) ?_) | ((with_reducible refine isLoad ?_); refine wpList_load_g 37 _ rfl (w20.heap.size) 0 rfl rfl ((fillA 0)) _ Try.underlying37 rfl (by rw [(fillA_sec 0).size]; exact info37) (HL58.out.1.cells _ rfl) ?_) | ((with_reducible refine isLoad ?_); refine wpList_load_g 37 _ rfl (w46.heap.size) 0 rfl rfl (fillA 0) _ Try.underlying37 rfl (by rw [(fillA_sec 0).size]; exact info37) (HL52.out.1.cells _ rfl) ?_) | ((with_reducible refine isBuild ?_); refine wpList_build_g 37 rfl rfl _ (build37 _) ?_))
      have H61 := Lib.hid (show Calls _ _ _ _ (fun e w' => e = .returned (.int .i64 0) ∧ w51 = w') from dv_loose HD60.out)
      refine H61.out.mono ?_
      rintro e w' ⟨rfl, rfl⟩
      clear H61
      go_wp2_with fail
      have H62 := Lib.hid (wakes_any w51)
      refine H62.out.mono ?_
      rintro e w63 ⟨rfl, hb⟩
      have HD64 := Lib.hid (HD60.out.below hb)
      have HL65 : Hid (Blk w63 (w.heap.size) [.int .u8 k0, .int .u8 k1] ∧ ¬ F21 (w.heap.size)) := Lib.hid ⟨HL57.out.1.below hb HL57.out.1.lt, HL57.out.2⟩
      have HL66 : Hid (Blk w63 (w20.heap.size) (fillA 0).toList ∧ ¬ F21 (w20.heap.size)) := Lib.hid ⟨HL58.out.1.below hb HL58.out.1.lt, HL58.out.2⟩
      have HL67 : Hid (Blk w63 (w33.heap.size) ((fillA 0)).toList ∧ ¬ F21 (w33.heap.size)) := Lib.hid ⟨HL59.out.1.below hb HL59.out.1.lt, HL59.out.2⟩
      have HL68 : Hid (Blk w63 (w46.heap.size) (fillA 0).toList ∧ ¬ F21 (w46.heap.size)) := Lib.hid ⟨HL52.out.1.below hb HL52.out.1.lt, HL52.out.2⟩
      clear hb H62
      go_wp2_with fail
      go_ret
      exact ⟨rfl, HD64.out.2⟩
end Go.Proofs.Ytdmjhpebpooiaaa
