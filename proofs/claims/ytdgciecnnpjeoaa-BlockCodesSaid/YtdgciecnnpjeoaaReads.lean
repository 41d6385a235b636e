/- The statement BlockReads' walk. -/
import Derived.Test.YtdgciecnnpjeoaaWakes
import Derived.Laws.BitsAllLaws
namespace Go.Proofs.Ytdgciecnnpjeoaa
open Go.RowKit

theorem dec_no {s : List Int} (h : isBlock s = false) : decB s = Bk.none ∧ decN s = 0 ∧ decE s = 11 := by
  unfold decB decN decE
  rw [h]
  exact ⟨rfl, rfl, rfl⟩
theorem dec_yes {s : List Int} (h : isBlock s = true) : decB s = readOf s ∧ decN s = seqOf s ∧ decE s = 0 := by
  unfold decB decN decE
  rw [h]
  exact ⟨rfl, rfl, rfl⟩
theorem decB_wf {s : List Int} (h : Sc s) : (decB s).Wf := by
  unfold decB
  split
  · exact readOf_wf h
  · exact none_wf
theorem is_good {s : List Int} (h : isBlock s = true) : (readOf s).good = true ∧ (readOf s).enc (seqOf s) = s := by
  unfold isBlock at h
  simpa using h
theorem is_sec {s : List Int} (h : isBlock s = true) : (readOf s).sec (seqOf s) = s ∧ (readOf s).err = 0 := by
  obtain ⟨h1, h2⟩ := is_good h
  unfold Bk.sec Bk.err
  rw [h1]
  exact ⟨h2, rfl⟩
/-- A byte behind a block's end turned. -/
theorem turned {s : List Int} (hs : Sc s) (h : isBlock s = true) (k : Nat) (h1 : 38 ≤ k) (h2 : k < 64) {x : Int} (hbx : Byte x) : s[k]? = some 0 ∧ isBlock (s.set k x) = decide (x = 0) := by
  obtain ⟨g, e⟩ := is_good h
  have hz : s[k]? = some 0 := by
    have := enc_tail g (readOf_wf hs) (seqOf s) k h1 h2
    rwa [e] at this
  refine ⟨hz, ?_⟩
  by_cases hx : x = 0
  · subst hx
    have : s.set k 0 = s := by
      obtain ⟨hk, e0⟩ := List.getElem?_eq_some_iff.1 hz
      rw [← e0]
      exact List.set_getElem_self hk
    rw [this, h]
    simp
  · rw [decide_eq_false hx]
    cases hb : isBlock (s.set k x) with
    | false => rfl
    | true =>
      exfalso
      obtain ⟨g', e'⟩ := is_good hb
      have hl : k < s.length := by rw [hs.length]; exact h2
      have hs' : Sc (s.set k x) := ⟨by rw [List.length_set, hs.length], fun y hy => by
        rcases List.mem_or_eq_of_mem_set hy with hy | rfl
        · exact hs.bytes y hy
        · exact hbx⟩
      have := enc_tail g' (readOf_wf hs') (seqOf (s.set k x)) k h1 h2
      rw [e', List.getElem?_set_self hl] at this
      exact hx (Option.some.inj this)
theorem set_sc {s : List Int} (hs : Sc s) (k : Nat) {x : Int} (hx : Byte x) : Sc (s.set k x) := ⟨by rw [List.length_set, hs.length], fun y hy => by
  rcases List.mem_or_eq_of_mem_set hy with hy | rfl
  · exact hs.bytes y hy
  · exact hx⟩
theorem xor0 (x : Int) (h : 0 ≤ x ∧ x < 256) : bits .xor .u8 0 x = x := by
  rw [u8_xor 0 x (by decide) (by decide) h.1 h.2]
  simp
  omega

theorem none_same (sv : Value) (w : World) (h : BytesAt w sv []) : Calls Try.prog 16 #[.agg (Bk.none.arr sv), .agg (Bk.none.arr nilv)] w fun e w' => e = .returned (.bool true) ∧ Below w.heap.size w w' := by
  have := block_any Bk.none Bk.none sv nilv none_wf none_wf w h (BytesAt.nil _ _ _)
  rwa [(Bk.same_iff _ _).2 rfl] at this
set_option maxRecDepth 100000 in
theorem reads_no (s : List Int) (hs : Sc s) (at_ by_ : Int) (hat : Byte at_) (hby : Byte by_) (h : isBlock s = false) (w : World) : Calls Try.prog 5 #[.agg (u8s s).toArray, .int .u8 at_, .int .u8 by_] w fun e w' => e = .returned (.bool true) ∧ Below w.heap.size w w' := by
  have HDC := Lib.hid fun w => decode_any s hs w
  rw [(dec_no h).1, (dec_no h).2.1, (dec_no h).2.2] at HDC
  have HS := Lib.hid hs
  have HSL : Hid ((u8s s).toArray.size = 64) := Lib.hid (by rw [u8s_size, hs.length])
  have HBY := Lib.hid hby
  obtain ⟨hby1, hby2⟩ := hby
  obtain ⟨hat1, hat2⟩ := hat
  have HW0 : Hid (Below w.heap.size w w) := Lib.hid (Below.refl _ _)
  clear hs
  go_enter Try.func5, Try.ntmps5
  repeat (first | (with_reducible refine stopR (id := 0) ?_) | go_values | go_skip | go_guarded | go_step | go_upon | go_back)
  refine Stop.mk (wp_region_lit ?_)
  refine box_g rfl rfl ?_
  intro w1 hA hb hl
  try simp only [Act.put, List.setIfInBounds_toArray, List.set_cons_succ, List.set_cons_zero]
  clear hl
  have F2 := Lib.hid (HW0.out.trans (hb.mono HW0.out.size))
  clear HW0
  have F3 := Lib.hid hA
  clear hA hb
  refine takeL (.bool false) rfl (by go_simp) ?_
  try simp only [Act.put, List.setIfInBounds_toArray, List.set_cons_succ, List.set_cons_zero]
  refine wpList_nil ?_
  repeat (first | (with_reducible refine stopR (id := 1) ?_) | go_values | go_skip | go_guarded | go_step | go_upon | go_back)
  refine Stop.mk (wp_region_lit ?_)
  refine load30 (cs := (u8s s).toArray) (Blk.all F3.out rfl) HSL.out rfl rfl ?_
  try simp only [Act.put, List.setIfInBounds_toArray, List.set_cons_succ, List.set_cons_zero]
  refine wpList_op rfl fun K hK => ?_
  go_simp
  refine (HDC.out _).mono ?_
  rintro e w4 ⟨sv, rfl, hby, hb⟩
  have F5 := Lib.hid (F2.out.trans (hb.mono F2.out.size))
  have F6 := Lib.hid (F3.out.below hb F3.out.lt)
  clear F2 F3
  have F7 := Lib.hid hby
  clear hb hby
  refine hK _ _ ?_
  clear hK K
  try simp only [Act.put, List.setIfInBounds_toArray, List.set_cons_succ, List.set_cons_zero]
  refine takeL (.tuple #[.agg (Bk.none.arr sv), .int .u32 0, .int .i64 11]) rfl (by go_simp) ?_
  try simp only [Act.put, List.setIfInBounds_toArray, List.set_cons_succ, List.set_cons_zero]
  refine takeL (.agg (Bk.none.arr sv)) rfl (by go_simp) ?_
  try simp only [Act.put, List.setIfInBounds_toArray, List.set_cons_succ, List.set_cons_zero]
  refine takeL (.int .u32 0) rfl (by go_simp) ?_
  try simp only [Act.put, List.setIfInBounds_toArray, List.set_cons_succ, List.set_cons_zero]
  refine takeL (.int .i64 11) rfl (by go_simp) ?_
  try simp only [Act.put, List.setIfInBounds_toArray, List.set_cons_succ, List.set_cons_zero]
  refine alloc_g zero27b rfl ?_
  intro w8 hC hBC hlC
  try simp only [Act.put, List.setIfInBounds_toArray, List.set_cons_succ, List.set_cons_zero]
  have HSN := Lib.hid (Bk.none.arr_size none_wf sv)
  refine store_all (cs := (Bk.none.arr sv)) hC (by rw [HSN.out]; rfl) (by rw [HSN.out]; exact info27) (arr_form _ F7.out) rfl rfl rfl ?_
  intro w9 hD hOD hlD
  try simp only [Act.put, List.setIfInBounds_toArray, List.set_cons_succ, List.set_cons_zero]
  have hb := hBC.trans (hOD.below hBC.size (fun k hk => Nat.le_of_eq hk.symm))
  have F10 := Lib.hid (F5.out.trans (hb.mono F5.out.size))
  have F11 := Lib.hid (F6.out.below hb F6.out.lt)
  have F12 := Lib.hid (F7.out.below hb)
  clear F5 F6 F7
  have F13 := Lib.hid (show BAt _ _ Bk.none sv from ⟨hD, none_wf⟩)
  clear hC hBC hlC hD hOD hlD hb
  generalize w4.heap.size = g14 at *
  clear w8 w4
  refine takeL (.int .u32 0) rfl (by go_simp) ?_
  try simp only [Act.put, List.setIfInBounds_toArray, List.set_cons_succ, List.set_cons_zero]
  refine takeL (.int .i64 11) rfl (by go_simp) ?_
  try simp only [Act.put, List.setIfInBounds_toArray, List.set_cons_succ, List.set_cons_zero]
  refine wpList_nil ?_
  repeat (first | (with_reducible refine stopR (id := 2) ?_) | go_values | go_skip | go_guarded | go_step | go_upon | go_back)
  refine Stop.mk (wp_region_lit ?_)
  refine takeL (.int .i64 11) rfl (by go_simp) ?_
  try simp only [Act.put, List.setIfInBounds_toArray, List.set_cons_succ, List.set_cons_zero]
  refine takeL (.bool true) rfl (by go_simp) ?_
  try simp only [Act.put, List.setIfInBounds_toArray, List.set_cons_succ, List.set_cons_zero]
  refine wpList_nil ?_
  repeat (first | (with_reducible refine stopR (id := 3) ?_) | go_values | go_skip | go_guarded | go_step | go_upon | go_back)
  refine Stop.mk (wp_region_lit ?_)
  refine takeL (.int .i64 11) rfl (by go_simp) ?_
  try simp only [Act.put, List.setIfInBounds_toArray, List.set_cons_succ, List.set_cons_zero]
  refine takeL (.bool true) rfl (by go_simp) ?_
  try simp only [Act.put, List.setIfInBounds_toArray, List.set_cons_succ, List.set_cons_zero]
  refine takeL (.bool true) rfl (by go_simp) ?_
  try simp only [Act.put, List.setIfInBounds_toArray, List.set_cons_succ, List.set_cons_zero]
  refine takeL (.int .u32 0) rfl (by go_simp) ?_
  try simp only [Act.put, List.setIfInBounds_toArray, List.set_cons_succ, List.set_cons_zero]
  refine takeL (.bool true) rfl (by go_simp) ?_
  try simp only [Act.put, List.setIfInBounds_toArray, List.set_cons_succ, List.set_cons_zero]
  refine takeL (.bool true) rfl (by go_simp) ?_
  try simp only [Act.put, List.setIfInBounds_toArray, List.set_cons_succ, List.set_cons_zero]
  refine takeL (.bool true) rfl (by go_simp) ?_
  try simp only [Act.put, List.setIfInBounds_toArray, List.set_cons_succ, List.set_cons_zero]
  refine load27 (cs := (Bk.none.arr sv)) F13.out.all HSN.out rfl rfl ?_
  try simp only [Act.put, List.setIfInBounds_toArray, List.set_cons_succ, List.set_cons_zero]
  refine build_g (build27 _) rfl ?_
  try simp only [Act.put, List.setIfInBounds_toArray, List.set_cons_succ, List.set_cons_zero]
  refine wpList_op rfl fun K hK => ?_
  go_simp
  refine (none_same sv _ F12.out).mono ?_
  rintro e w15 ⟨rfl, hb⟩
  have F16 := Lib.hid (F10.out.trans (hb.mono F10.out.size))
  have F17 := Lib.hid (F11.out.below hb F11.out.lt)
  have F18 := Lib.hid (F12.out.below hb)
  have F19 := Lib.hid (F13.out.below hb F13.out.lt)
  clear F10 F11 F12 F13
  clear hb
  refine hK _ _ ?_
  clear hK K
  try simp only [Act.put, List.setIfInBounds_toArray, List.set_cons_succ, List.set_cons_zero]
  refine takeL (.bool true) rfl (by go_simp) ?_
  try simp only [Act.put, List.setIfInBounds_toArray, List.set_cons_succ, List.set_cons_zero]
  refine takeL (.bool true) rfl (by go_simp) ?_
  try simp only [Act.put, List.setIfInBounds_toArray, List.set_cons_succ, List.set_cons_zero]
  refine wpList_op rfl fun K hK => ?_
  go_simp
  refine (wakes_any _).mono ?_
  rintro e w20 ⟨rfl, hb⟩
  have F21 := Lib.hid (F16.out.trans (hb.mono F16.out.size))
  have F22 := Lib.hid (F17.out.below hb F17.out.lt)
  have F23 := Lib.hid (F18.out.below hb)
  have F24 := Lib.hid (F19.out.below hb F19.out.lt)
  clear F16 F17 F18 F19
  clear hb
  refine hK _ _ ?_
  clear hK K
  try simp only [Act.put, List.setIfInBounds_toArray, List.set_cons_succ, List.set_cons_zero]
  refine takeL (.bool true) rfl (by go_simp) ?_
  try simp only [Act.put, List.setIfInBounds_toArray, List.set_cons_succ, List.set_cons_zero]
  refine takeL (.bool true) rfl (by go_simp) ?_
  try simp only [Act.put, List.setIfInBounds_toArray, List.set_cons_succ, List.set_cons_zero]
  refine wpList_nil ?_
  go_wp2_with fail
  go_ret
  exact ⟨rfl, F21.out⟩
set_option maxHeartbeats 1000000 in
set_option maxRecDepth 100000 in
theorem reads_yes (s : List Int) (hs : Sc s) (at_ by_ : Int) (hat : Byte at_) (hby : Byte by_) (h : isBlock s = true) (w : World) : Calls Try.prog 5 #[.agg (u8s s).toArray, .int .u8 at_, .int .u8 by_] w fun e w' => e = .returned (.bool true) ∧ Below w.heap.size w w' := by
  have HDC := Lib.hid fun w => decode_any s hs w
  rw [(dec_yes h).1, (dec_yes h).2.1, (dec_yes h).2.2] at HDC
  have HRW := Lib.hid (readOf_wf hs)
  have HEN := Lib.hid fun sv w h => encode_any (readOf s) sv (seqOf s) w h (readOf_wf hs) (seqOf_range hs)
  rw [(is_sec h).1, (is_sec h).2] at HEN
  obtain ⟨k, hk⟩ : ∃ k : Nat, (k : Int) = 38 + at_ % 26 := ⟨(38 + at_ % 26).toNat, by have := Int.emod_nonneg at_ (show (26 : Int) ≠ 0 by decide); omega⟩
  have hk1 : 38 ≤ k := by have := Int.emod_nonneg at_ (show (26 : Int) ≠ 0 by decide); omega
  have hk2 : k < 64 := by have := Int.emod_lt_of_pos at_ (show (0 : Int) < 26 by decide); omega
  have hk3 : (k : Int) < 64 := by omega
  have hk4 : (0 : Int) ≤ (k : Int) := by omega
  obtain ⟨s2, hs2⟩ : ∃ l, l = s.set k by_ := ⟨_, rfl⟩
  have hsc2 := set_sc hs k hby
  have htu := turned hs h k hk1 hk2 hby
  rw [← hs2] at hsc2 htu
  have HTU := Lib.hid htu
  have HD2 := Lib.hid fun w => decode_any s2 hsc2 w
  have HWF2 := Lib.hid (decB_wf hsc2)
  have HNQ := Lib.hid fun w => neq30 w s s hs.length hs.length
  have HSZ2 : Hid ((u8s s2).toArray.size = 64) := Lib.hid (by rw [u8s_size, hsc2.length])
  have HS2 := Lib.hid hs2
  have HKK := Lib.hid hk
  clear h hk hs2 htu hsc2
  have HS := Lib.hid hs
  have HSL : Hid ((u8s s).toArray.size = 64) := Lib.hid (by rw [u8s_size, hs.length])
  have HBY := Lib.hid hby
  obtain ⟨hby1, hby2⟩ := hby
  obtain ⟨hat1, hat2⟩ := hat
  have HW0 : Hid (Below w.heap.size w w) := Lib.hid (Below.refl _ _)
  clear hs
  go_enter Try.func5, Try.ntmps5
  repeat (first | (with_reducible refine stopR (id := 0) ?_) | go_values | go_skip | go_guarded | go_step | go_upon | go_back)
  refine Stop.mk (wp_region_lit ?_)
  refine box_g rfl rfl ?_
  intro w1 hA hb hl
  try simp only [Act.put, List.setIfInBounds_toArray, List.set_cons_succ, List.set_cons_zero]
  clear hl
  have F2 := Lib.hid (HW0.out.trans (hb.mono HW0.out.size))
  clear HW0
  have F3 := Lib.hid hA
  clear hA hb
  refine takeL (.bool false) rfl (by go_simp) ?_
  try simp only [Act.put, List.setIfInBounds_toArray, List.set_cons_succ, List.set_cons_zero]
  refine wpList_nil ?_
  repeat (first | (with_reducible refine stopR (id := 1) ?_) | go_values | go_skip | go_guarded | go_step | go_upon | go_back)
  refine Stop.mk (wp_region_lit ?_)
  refine load30 (cs := (u8s s).toArray) (Blk.all F3.out rfl) HSL.out rfl rfl ?_
  try simp only [Act.put, List.setIfInBounds_toArray, List.set_cons_succ, List.set_cons_zero]
  refine wpList_op rfl fun K hK => ?_
  go_simp
  refine (HDC.out _).mono ?_
  rintro e w4 ⟨sv, rfl, hby, hb⟩
  have F5 := Lib.hid (F2.out.trans (hb.mono F2.out.size))
  have F6 := Lib.hid (F3.out.below hb F3.out.lt)
  clear F2 F3
  have F7 := Lib.hid hby
  clear hb hby
  refine hK _ _ ?_
  clear hK K
  try simp only [Act.put, List.setIfInBounds_toArray, List.set_cons_succ, List.set_cons_zero]
  refine takeL (.tuple #[.agg ((readOf s).arr sv), .int .u32 (seqOf s), .int .i64 0]) rfl (by go_simp) ?_
  try simp only [Act.put, List.setIfInBounds_toArray, List.set_cons_succ, List.set_cons_zero]
  refine takeL (.agg ((readOf s).arr sv)) rfl (by go_simp) ?_
  try simp only [Act.put, List.setIfInBounds_toArray, List.set_cons_succ, List.set_cons_zero]
  refine takeL (.int .u32 (seqOf s)) rfl (by go_simp) ?_
  try simp only [Act.put, List.setIfInBounds_toArray, List.set_cons_succ, List.set_cons_zero]
  refine takeL (.int .i64 0) rfl (by go_simp) ?_
  try simp only [Act.put, List.setIfInBounds_toArray, List.set_cons_succ, List.set_cons_zero]
  refine alloc_g zero27b rfl ?_
  intro w8 hC hBC hlC
  try simp only [Act.put, List.setIfInBounds_toArray, List.set_cons_succ, List.set_cons_zero]
  have HSN := Lib.hid ((readOf s).arr_size HRW.out sv)
  refine store_all (cs := ((readOf s).arr sv)) hC (by rw [HSN.out]; rfl) (by rw [HSN.out]; exact info27) (arr_form _ F7.out) rfl rfl rfl ?_
  intro w9 hD hOD hlD
  try simp only [Act.put, List.setIfInBounds_toArray, List.set_cons_succ, List.set_cons_zero]
  have hb := hBC.trans (hOD.below hBC.size (fun k hk => Nat.le_of_eq hk.symm))
  have F10 := Lib.hid (F5.out.trans (hb.mono F5.out.size))
  have F11 := Lib.hid (F6.out.below hb F6.out.lt)
  have F12 := Lib.hid (F7.out.below hb)
  clear F5 F6 F7
  have F13 := Lib.hid (show BAt _ _ (readOf s) sv from ⟨hD, HRW.out⟩)
  clear hC hBC hlC hD hOD hlD hb
  generalize w4.heap.size = g14 at *
  clear w8 w4
  refine takeL (.int .u32 (seqOf s)) rfl (by go_simp) ?_
  try simp only [Act.put, List.setIfInBounds_toArray, List.set_cons_succ, List.set_cons_zero]
  refine takeL (.int .i64 0) rfl (by go_simp) ?_
  try simp only [Act.put, List.setIfInBounds_toArray, List.set_cons_succ, List.set_cons_zero]
  refine wpList_nil ?_
  repeat (first | (with_reducible refine stopR (id := 2) ?_) | go_values | go_skip | go_guarded | go_step | go_upon | go_back)
  refine Stop.mk (wp_region_lit ?_)
  refine takeL (.int .i64 0) rfl (by go_simp) ?_
  try simp only [Act.put, List.setIfInBounds_toArray, List.set_cons_succ, List.set_cons_zero]
  refine takeL (.bool false) rfl (by go_simp) ?_
  try simp only [Act.put, List.setIfInBounds_toArray, List.set_cons_succ, List.set_cons_zero]
  refine wpList_nil ?_
  repeat (first | (with_reducible refine stopR (id := 4) ?_) | go_values | go_skip | go_guarded | go_step | go_upon | go_back)
  refine Stop.mk (wp_region_lit ?_)
  refine load27 (cs := ((readOf s).arr sv)) F13.out.all HSN.out rfl rfl ?_
  try simp only [Act.put, List.setIfInBounds_toArray, List.set_cons_succ, List.set_cons_zero]
  refine takeL (.int .u32 (seqOf s)) rfl (by go_simp) ?_
  try simp only [Act.put, List.setIfInBounds_toArray, List.set_cons_succ, List.set_cons_zero]
  refine wpList_op rfl fun K hK => ?_
  go_simp
  refine (HEN.out sv _ F12.out).mono ?_
  rintro e w15 ⟨rfl, hb⟩
  have F16 := Lib.hid (F10.out.trans (hb.mono F10.out.size))
  have F17 := Lib.hid (F11.out.below hb F11.out.lt)
  have F18 := Lib.hid (F12.out.below hb)
  have F19 := Lib.hid (F13.out.below hb F13.out.lt)
  clear F10 F11 F12 F13
  clear hb
  refine hK _ _ ?_
  clear hK K
  try simp only [Act.put, List.setIfInBounds_toArray, List.set_cons_succ, List.set_cons_zero]
  refine takeL (.tuple #[.agg (u8s s).toArray, .int .i64 0]) rfl (by go_simp) ?_
  try simp only [Act.put, List.setIfInBounds_toArray, List.set_cons_succ, List.set_cons_zero]
  refine takeL (.agg (u8s s).toArray) rfl (by go_simp) ?_
  try simp only [Act.put, List.setIfInBounds_toArray, List.set_cons_succ, List.set_cons_zero]
  refine takeL (.int .i64 0) rfl (by go_simp) ?_
  try simp only [Act.put, List.setIfInBounds_toArray, List.set_cons_succ, List.set_cons_zero]
  refine alloc_g zero30 rfl ?_
  intro w20 hC hBC hlC
  try simp only [Act.put, List.setIfInBounds_toArray, List.set_cons_succ, List.set_cons_zero]
  refine store_all (cs := (u8s s).toArray) hC (by rw [HSL.out]; simp [zeros]) (by rw [HSL.out]; exact info30) (u8s_one _) rfl rfl rfl ?_
  intro w21 hD hOD hlD
  try simp only [Act.put, List.setIfInBounds_toArray, List.set_cons_succ, List.set_cons_zero]
  have hb := hBC.trans (hOD.below hBC.size (fun k hk => Nat.le_of_eq hk.symm))
  have F22 := Lib.hid (F16.out.trans (hb.mono F16.out.size))
  have F23 := Lib.hid (F17.out.below hb F17.out.lt)
  have F24 := Lib.hid (F18.out.below hb)
  have F25 := Lib.hid (F19.out.below hb F19.out.lt)
  clear F16 F17 F18 F19
  have F26 := Lib.hid hD
  clear hC hBC hlC hD hOD hlD hb
  generalize w15.heap.size = g27 at *
  clear w20 w15
  refine takeL (.int .i64 0) rfl (by go_simp) ?_
  try simp only [Act.put, List.setIfInBounds_toArray, List.set_cons_succ, List.set_cons_zero]
  refine wpList_nil ?_
  repeat (first | (with_reducible refine stopR (id := 5) ?_) | go_values | go_skip | go_guarded | go_step | go_upon | go_back)
  refine Stop.mk (wp_region_lit ?_)
  refine takeL (.int .i64 0) rfl (by go_simp) ?_
  try simp only [Act.put, List.setIfInBounds_toArray, List.set_cons_succ, List.set_cons_zero]
  refine takeL (.bool false) rfl (by go_simp) ?_
  try simp only [Act.put, List.setIfInBounds_toArray, List.set_cons_succ, List.set_cons_zero]
  refine takeL (.bool false) rfl (by go_simp) ?_
  try simp only [Act.put, List.setIfInBounds_toArray, List.set_cons_succ, List.set_cons_zero]
  refine load30 (cs := (u8s s).toArray) (Blk.all F26.out rfl) HSL.out rfl rfl ?_
  try simp only [Act.put, List.setIfInBounds_toArray, List.set_cons_succ, List.set_cons_zero]
  refine load30 (cs := (u8s s).toArray) (Blk.all F23.out rfl) HSL.out rfl rfl ?_
  try simp only [Act.put, List.setIfInBounds_toArray, List.set_cons_succ, List.set_cons_zero]
  refine takeL (.bool false) rfl (by have hq := HNQ.out; simp only [decide_true, Bool.not_true] at hq; go_simp) ?_
  try simp only [Act.put, List.setIfInBounds_toArray, List.set_cons_succ, List.set_cons_zero]
  refine takeL (.bool false) rfl (by go_simp) ?_
  try simp only [Act.put, List.setIfInBounds_toArray, List.set_cons_succ, List.set_cons_zero]
  refine wpList_nil ?_
  repeat (first | (with_reducible refine stopR (id := 7) ?_) | go_values | go_skip | go_guarded | go_step | go_upon | go_back)
  refine Stop.mk (wp_region_lit ?_)
  refine takeL (.int .u8 at_) rfl (by go_simp) ?_
  try simp only [Act.put, List.setIfInBounds_toArray, List.set_cons_succ, List.set_cons_zero]
  refine takeL (.int .i64 at_) rfl (by go_simp; exact wrap64 (by omega) (by omega)) ?_
  try simp only [Act.put, List.setIfInBounds_toArray, List.set_cons_succ, List.set_cons_zero]
  refine takeL (.int .i64 (at_ % 26)) rfl (by go_simp; rw [Int.tmod_eq_emod_of_nonneg hat1]) ?_
  try simp only [Act.put, List.setIfInBounds_toArray, List.set_cons_succ, List.set_cons_zero]
  refine takeL (.int .i64 (k : Int)) rfl (by have hq := HKK.out; go_simp; rw [← hq]; exact wrap64 (by omega) (by omega)) ?_
  try simp only [Act.put, List.setIfInBounds_toArray, List.set_cons_succ, List.set_cons_zero]
  refine takeL (.pointer (some ⟨w.heap.size, k, none⟩)) rfl (by go_simp) ?_
  try simp only [Act.put, List.setIfInBounds_toArray, List.set_cons_succ, List.set_cons_zero]
  refine takeL (.int .u8 0) rfl (by have hq := F23.out.cell (i := k) (v := .int .u8 0) (by rw [List.getElem?_map, HTU.out.1]; rfl); go_simp) ?_
  try simp only [Act.put, List.setIfInBounds_toArray, List.set_cons_succ, List.set_cons_zero]
  refine takeL (.int .u8 by_) rfl (by go_simp) ?_
  try simp only [Act.put, List.setIfInBounds_toArray, List.set_cons_succ, List.set_cons_zero]
  refine takeL (.int .u8 by_) rfl (by go_simp; rw [xor0 _ HBY.out]) ?_
  try simp only [Act.put, List.setIfInBounds_toArray, List.set_cons_succ, List.set_cons_zero]
  refine takeL (.pointer (some ⟨w.heap.size, k, none⟩)) rfl (by go_simp) ?_
  try simp only [Act.put, List.setIfInBounds_toArray, List.set_cons_succ, List.set_cons_zero]
  refine skipL (w21.setCell ⟨w.heap.size, k, none⟩ (.int .u8 by_)) rfl (by have hq := F23.out.cell (i := k) (v := .int .u8 0) (by rw [List.getElem?_map, HTU.out.1]; rfl); have hf := F23.out.frozen k; go_simp) ?_
  try simp only [Act.put, List.setIfInBounds_toArray, List.set_cons_succ, List.set_cons_zero]
  refine wpList_nil ?_
  have hs2 := F23.out.set k (.int .u8 by_)
  rw [show (List.set (u8s s).toArray.toList k (.int .u8 by_)) = u8s s2 from by rw [HS2.out]; simp [List.map_set]] at hs2
  have FS2 := Lib.hid hs2
  have FB2 := Lib.hid (F22.out.setCell (p := ⟨w.heap.size, k, none⟩) (Nat.le_refl _) (.int .u8 by_))
  clear hs2
  generalize w21.setCell ⟨w.heap.size, k, none⟩ (.int .u8 by_) = wS at *
  repeat (first | (with_reducible refine stopR (id := 8) ?_) | go_values | go_skip | go_guarded | go_step | go_upon | go_back)
  refine Stop.mk (wp_region_lit ?_)
  refine load30 (cs := (u8s s2).toArray) (Blk.all FS2.out rfl) HSZ2.out rfl rfl ?_
  try simp only [Act.put, List.setIfInBounds_toArray, List.set_cons_succ, List.set_cons_zero]
  refine wpList_op rfl fun K hK => ?_
  go_simp
  refine (HD2.out _).mono ?_
  rintro e w29 ⟨sv2, rfl, hby, hb⟩
  have F30 := Lib.hid (FB2.out.trans (hb.mono FB2.out.size))
  have F31 := Lib.hid (FS2.out.below hb FS2.out.lt)
  clear FB2 FS2
  have F32 := Lib.hid hby
  clear hb hby
  refine hK _ _ ?_
  clear hK K
  try simp only [Act.put, List.setIfInBounds_toArray, List.set_cons_succ, List.set_cons_zero]
  refine takeL (.tuple #[.agg ((decB s2).arr sv2), .int .u32 (decN s2), .int .i64 (decE s2)]) rfl (by go_simp) ?_
  try simp only [Act.put, List.setIfInBounds_toArray, List.set_cons_succ, List.set_cons_zero]
  refine takeL (.agg ((decB s2).arr sv2)) rfl (by go_simp) ?_
  try simp only [Act.put, List.setIfInBounds_toArray, List.set_cons_succ, List.set_cons_zero]
  refine takeL (.int .u32 (decN s2)) rfl (by go_simp) ?_
  try simp only [Act.put, List.setIfInBounds_toArray, List.set_cons_succ, List.set_cons_zero]
  refine takeL (.int .i64 (decE s2)) rfl (by go_simp) ?_
  try simp only [Act.put, List.setIfInBounds_toArray, List.set_cons_succ, List.set_cons_zero]
  refine alloc_g zero27b rfl ?_
  intro w33 hC hBC hlC
  try simp only [Act.put, List.setIfInBounds_toArray, List.set_cons_succ, List.set_cons_zero]
  have HSN2 := Lib.hid ((decB s2).arr_size HWF2.out sv2)
  refine store_all (cs := ((decB s2).arr sv2)) hC (by rw [HSN2.out]; rfl) (by rw [HSN2.out]; exact info27) (arr_form _ F32.out) rfl rfl rfl ?_
  intro w34 hD hOD hlD
  try simp only [Act.put, List.setIfInBounds_toArray, List.set_cons_succ, List.set_cons_zero]
  have hb := hBC.trans (hOD.below hBC.size (fun k hk => Nat.le_of_eq hk.symm))
  have F35 := Lib.hid (F30.out.trans (hb.mono F30.out.size))
  have F36 := Lib.hid (F31.out.below hb F31.out.lt)
  have F37 := Lib.hid (F32.out.below hb)
  clear F30 F31 F32
  have F38 := Lib.hid (show BAt _ _ (decB s2) sv2 from ⟨hD, HWF2.out⟩)
  clear hC hBC hlC hD hOD hlD hb
  generalize w29.heap.size = g39 at *
  clear w33 w29
  refine takeL (.int .u32 (decN s2)) rfl (by go_simp) ?_
  try simp only [Act.put, List.setIfInBounds_toArray, List.set_cons_succ, List.set_cons_zero]
  refine takeL (.int .i64 (decE s2)) rfl (by go_simp) ?_
  try simp only [Act.put, List.setIfInBounds_toArray, List.set_cons_succ, List.set_cons_zero]
  refine wpList_nil ?_
  repeat (first | (with_reducible refine stopR (id := 9) ?_) | go_values | go_skip | go_guarded | go_step | go_upon | go_back)
  refine Stop.mk (wp_region_lit ?_)
  have HQ : Hid (((decE s2 == 0) == (by_ == 0)) = true) := Lib.hid (by
    have hq := HTU.out.2
    unfold decE
    rw [hq]
    by_cases hb0 : by_ = 0 <;> simp [hb0])
  refine takeL (.int .i64 (decE s2)) rfl (by go_simp) ?_
  try simp only [Act.put, List.setIfInBounds_toArray, List.set_cons_succ, List.set_cons_zero]
  refine takeL (.bool (decE s2 == 0)) rfl (by go_simp) ?_
  try simp only [Act.put, List.setIfInBounds_toArray, List.set_cons_succ, List.set_cons_zero]
  refine takeL (.int .u8 by_) rfl (by go_simp) ?_
  try simp only [Act.put, List.setIfInBounds_toArray, List.set_cons_succ, List.set_cons_zero]
  refine takeL (.bool (by_ == 0)) rfl (by go_simp) ?_
  try simp only [Act.put, List.setIfInBounds_toArray, List.set_cons_succ, List.set_cons_zero]
  refine takeL (.bool true) rfl (by have hq := HQ.out; go_simp) ?_
  try simp only [Act.put, List.setIfInBounds_toArray, List.set_cons_succ, List.set_cons_zero]
  refine takeL (.bool true) rfl (by go_simp) ?_
  try simp only [Act.put, List.setIfInBounds_toArray, List.set_cons_succ, List.set_cons_zero]
  refine wpList_op rfl fun K hK => ?_
  go_simp
  refine (wakes_any _).mono ?_
  rintro e w40 ⟨rfl, hb⟩
  have F41 := Lib.hid (F35.out.trans (hb.mono F35.out.size))
  have F42 := Lib.hid (F36.out.below hb F36.out.lt)
  have F43 := Lib.hid (F37.out.below hb)
  have F44 := Lib.hid (F38.out.below hb F38.out.lt)
  clear F35 F36 F37 F38
  clear hb
  refine hK _ _ ?_
  clear hK K
  try simp only [Act.put, List.setIfInBounds_toArray, List.set_cons_succ, List.set_cons_zero]
  refine takeL (.bool true) rfl (by go_simp) ?_
  try simp only [Act.put, List.setIfInBounds_toArray, List.set_cons_succ, List.set_cons_zero]
  refine takeL (.bool true) rfl (by go_simp) ?_
  try simp only [Act.put, List.setIfInBounds_toArray, List.set_cons_succ, List.set_cons_zero]
  refine wpList_nil ?_
  go_wp2_with fail
  go_ret
  exact ⟨rfl, F41.out⟩
theorem reads_any (s : List Int) (hs : Sc s) (at_ by_ : Int) (hat : Byte at_) (hby : Byte by_) (w : World) : Calls Try.prog 5 #[.agg (u8s s).toArray, .int .u8 at_, .int .u8 by_] w fun e w' => e = .returned (.bool true) ∧ Below w.heap.size w w' := by
  cases h : isBlock s
  · exact reads_no s hs at_ by_ hat hby h w
  · exact reads_yes s hs at_ by_ hat hby h w
end Go.Proofs.Ytdgciecnnpjeoaa
