/- A block as a value and in memory; arrays compared; the contracts of Good and of what it asks. -/
import Derived.Test.YtbhaifdhmfmeoaaWide
namespace Go.Proofs.Ytbhaifdhmfmeoaa
set_option linter.unusedSimpArgs false
set_option linter.unusedVariables false
open Go.RowKit

/-- A block's cells; sv: its slice of bytes. -/
def Bk.cells (b : Bk) (sv : Value) : List Value := .int .i64 b.kind :: .int .i64 b.id :: (u8s b.page ++ (.int .i64 b.off :: sv :: .int .i64 b.prev :: i64s b.heads))
def Bk.arr (b : Bk) (sv : Value) : Array Value := (b.cells sv).toArray
theorem Bk.cells_length {b : Bk} (h : b.Wf) (sv : Value) : (b.cells sv).length = 45 := by
  simp [Bk.cells, h.page, h.heads]
theorem Bk.arr_size {b : Bk} (h : b.Wf) (sv : Value) : (b.arr sv).size = 45 := by
  simpa [Bk.arr] using b.cells_length h sv
theorem Bk.at0 (b : Bk) (sv : Value) : (b.cells sv)[0]? = some (.int .i64 b.kind) := rfl
theorem Bk.at1 (b : Bk) (sv : Value) : (b.cells sv)[1]? = some (.int .i64 b.id) := rfl
theorem Bk.at_tail {b : Bk} (h : b.Wf) (sv : Value) (k : Nat) : (b.cells sv)[34 + k]? = (.int .i64 b.off :: sv :: .int .i64 b.prev :: i64s b.heads)[k]? := by
  unfold Bk.cells
  rw [show 34 + k = (32 + k) + 1 + 1 by omega]
  simp only [List.getElem?_cons_succ]
  rw [List.getElem?_append_right (by simp [h.page])]
  simp only [List.length_map, h.page]
  congr 1
  omega
theorem Bk.at34 {b : Bk} (h : b.Wf) (sv : Value) : (b.cells sv)[34]? = some (.int .i64 b.off) := b.at_tail h sv 0
theorem Bk.at35 {b : Bk} (h : b.Wf) (sv : Value) : (b.cells sv)[35]? = some sv := b.at_tail h sv 1
theorem Bk.at36 {b : Bk} (h : b.Wf) (sv : Value) : (b.cells sv)[36]? = some (.int .i64 b.prev) := b.at_tail h sv 2
theorem Bk.atH {b : Bk} (h : b.Wf) (sv : Value) (k : Nat) : (b.cells sv)[37 + k]? = (i64s b.heads)[k]? := by
  have := b.at_tail h sv (k + 3)
  rwa [show 34 + (k + 3) = 37 + k by omega] at this
theorem Bk.atP {b : Bk} (h : b.Wf) (sv : Value) (k : Nat) (hk : k < 32) : (b.cells sv)[2 + k]? = (u8s b.page)[k]? := by
  unfold Bk.cells
  rw [show 2 + k = k + 1 + 1 by omega]
  simp only [List.getElem?_cons_succ]
  rw [List.getElem?_append_left (by simp [h.page]; omega)]

/-- What a block that lies at g shows. -/
structure BAt (w : World) (g : Nat) (b : Bk) (sv : Value) : Prop where
  blk : Blk w g (b.cells sv)
  wf : b.Wf
theorem BAt.c0 {w : World} {g : Nat} {b : Bk} {sv : Value} (h : BAt w g b sv) : w.cell? ⟨g, 0, none⟩ = some (.int .i64 b.kind) := h.blk.cell (b.at0 sv)
theorem BAt.c1 {w : World} {g : Nat} {b : Bk} {sv : Value} (h : BAt w g b sv) : w.cell? ⟨g, 1, none⟩ = some (.int .i64 b.id) := h.blk.cell (b.at1 sv)
theorem BAt.c34 {w : World} {g : Nat} {b : Bk} {sv : Value} (h : BAt w g b sv) : w.cell? ⟨g, 34, none⟩ = some (.int .i64 b.off) := h.blk.cell (b.at34 h.wf sv)
theorem BAt.c35 {w : World} {g : Nat} {b : Bk} {sv : Value} (h : BAt w g b sv) : w.cell? ⟨g, 35, none⟩ = some sv := h.blk.cell (b.at35 h.wf sv)
theorem BAt.c36 {w : World} {g : Nat} {b : Bk} {sv : Value} (h : BAt w g b sv) : w.cell? ⟨g, 36, none⟩ = some (.int .i64 b.prev) := h.blk.cell (b.at36 h.wf sv)
theorem BAt.all {w : World} {g : Nat} {b : Bk} {sv : Value} (h : BAt w g b sv) : At w g 0 (b.arr sv) := fun j hj => h.blk.cell (by simp only [Nat.zero_add, Bk.arr, List.getElem_toArray]; exact List.getElem?_eq_getElem _)
theorem BAt.page {w : World} {g : Nat} {b : Bk} {sv : Value} (h : BAt w g b sv) : At w g 2 (u8s b.page).toArray := fun j hj => h.blk.cell (by
  rw [b.atP h.wf sv j (by simpa [h.wf.page] using hj)]
  simp only [List.getElem_toArray]; exact List.getElem?_eq_getElem _)
theorem BAt.heads {w : World} {g : Nat} {b : Bk} {sv : Value} (h : BAt w g b sv) : At w g 37 (i64s b.heads).toArray := fun j hj => h.blk.cell (by
  rw [b.atH h.wf sv j]
  simp only [List.getElem_toArray]; exact List.getElem?_eq_getElem _)

abbrev Bk.box (b : Bk) (sv : Value) (w : World) : World := w.alloc (.cells (b.arr sv) 57)
theorem BAt.box {b : Bk} (h : b.Wf) (sv : Value) (w : World) : BAt (b.box sv w) w.heap.size b sv := ⟨by
  have := Blk.new w (b.arr sv) 57
  rwa [show (b.arr sv).toList = b.cells sv from rfl] at this, h⟩
theorem box_below (b : Bk) (sv : Value) (w : World) : Below w.heap.size w (b.box sv w) := (Below.refl _ _).alloc (Nat.le_refl _) _
theorem BAt.below {w w' : World} {g B : Nat} {b : Bk} {sv : Value} (h : BAt w g b sv) (hb : Below B w w') (hlt : g < B) : BAt w' g b sv := ⟨h.blk.below hb hlt, h.wf⟩
theorem BAt.lt {w : World} {g : Nat} {b : Bk} {sv : Value} (h : BAt w g b sv) : g < w.heap.size := h.blk.lt
/-- A slice of n values, wherever they lie. -/
def Len (sv : Value) (n : Nat) : Prop := ∃ a cap, sv = .slice a n cap

theorem beq_dec (a b : Int) : (a == b) = decide (a = b) := by by_cases h : a = b <;> simp [h]
theorem bne_dec (a b : Int) : (a != b) = !decide (a = b) := by rw [bne, beq_dec]
theorem nodiff_any (b : Bk) (sv : Value) (hs : Len sv b.bytes.length) (hw : b.Wf) (w : World) : Calls Try.prog 65 #[.agg (b.arr sv)] w fun e w' => e = .returned (.bool b.plain) ∧ Below w.heap.size w w' := by
  obtain ⟨a, cap, hs⟩ := hs
  have H := BAt.box hw sv w
  have c34 := H.c34
  have c35 := H.c35.trans (congrArg some hs)
  have c36 := H.c36
  clear H hs
  by_cases h1 : b.off = 0 <;> by_cases h2 : b.bytes.length = 0
  all_goals
    go_enter Try.func65, Try.ntmps65
    go_wp2_with fail
    go_ret
    exact ⟨ret_bool (by simp [Bk.plain, h1, h2, beq_dec]), box_below _ _ _⟩
theorem diff_any (b : Bk) (sv : Value) (hs : Len sv b.bytes.length) (hw : b.Wf) (w : World) : Calls Try.prog 63 #[.agg (b.arr sv)] w fun e w' => e = .returned (.bool b.diff) ∧ Below w.heap.size w w' := by
  obtain ⟨a, cap, hs⟩ := hs
  have H := BAt.box hw sv w
  have c34 := H.c34
  have c35 := H.c35.trans (congrArg some hs)
  have c36 := H.c36
  have H1 := Lib.hid fun w => within_any b.bytes.length 1 16 w
  have H2 := Lib.hid fun w => within_any b.off 0 (32 - b.bytes.length) w
  have H3 := Lib.hid fun w => isHead_any b.prev w
  have hl := hw.bytes
  clear H hs
  unfold Bk.diff
  generalize hq1 : within (↑b.bytes.length) 1 16 = q1 at *
  generalize hq2 : within b.off 0 (32 - ↑b.bytes.length) = q2 at *
  generalize hq3 : isHead b.prev = q3 at *
  clear hq1 hq2 hq3
  go_enter Try.func63, Try.ntmps63
  go_wp2_with fail
  refine (H1.out _).mono ?_
  rintro e w1 ⟨rfl, rfl⟩
  cases q1
  · go_wp2_with fail
    go_ret
    exact ⟨rfl, box_below _ _ _⟩
  go_wp2_with fail
  refine (H2.out _).mono ?_
  rintro e w1 ⟨rfl, rfl⟩
  cases q2
  · go_wp2_with fail
    go_ret
    exact ⟨rfl, box_below _ _ _⟩
  go_wp2_with fail
  refine (H3.out _).mono ?_
  rintro e w1 ⟨rfl, rfl⟩
  cases q3
  · go_wp2_with fail
    go_ret
    exact ⟨rfl, box_below _ _ _⟩
  go_wp2_with fail
  go_ret
  exact ⟨ret_bool (by simp [bne_dec]), box_below _ _ _⟩
theorem eql55 (w : World) (l m : List Int) (hl : l.length = 8) (hm : m.length = 8) : (binOp .eql 55 (.agg (i64s l).toArray) (.agg (i64s m).toArray)).run Try.prog w = .ok (.bool (decide (l = m))) w := by
  obtain ⟨i, hi, hs⟩ := size_of info3
  exact run_eql_ints w 55 3 8 .i64 .i64 i l m Try.underlying55 Try.underlying3 hi hs hl hm
theorem index55 (w : World) (l : List Int) (hl : l.length = 8) (j : Nat) (x : Int) (hx : l[j]? = some x) : (Instr.index 55 (.agg (i64s l).toArray) (.int .i64 j)).run Try.prog w = .ok (.int .i64 x) w := by
  obtain ⟨i, hi, hs⟩ := size_of info3
  exact run_index_ints w 55 3 8 .i64 .i64 i l Try.underlying55 Try.underlying3 hi hs hl j x hx
theorem eql53 (w : World) (l m : List Int) (hl : l.length = 32) (hm : m.length = 32) : (binOp .eql 53 (.agg (u8s l).toArray) (.agg (u8s m).toArray)).run Try.prog w = .ok (.bool (decide (l = m))) w := by
  obtain ⟨i, hi, hs⟩ := size_of info5s
  exact run_eql_ints w 53 5 32 .u8 .u8 i l m Try.underlying53 Try.underlying5 hi hs hl hm
theorem neq53 (w : World) (l m : List Int) (hl : l.length = 32) (hm : m.length = 32) : (binOp .neq 53 (.agg (u8s l).toArray) (.agg (u8s m).toArray)).run Try.prog w = .ok (.bool (!decide (l = m))) w := by
  obtain ⟨i, hi, hs⟩ := size_of info5s
  exact run_neq_ints w 53 5 32 .u8 .u8 i l m Try.underlying53 Try.underlying5 hi hs hl hm
theorem eql50 (w : World) (l m : List Int) (hl : l.length = 64) (hm : m.length = 64) : (binOp .eql 50 (.agg (u8s l).toArray) (.agg (u8s m).toArray)).run Try.prog w = .ok (.bool (decide (l = m))) w := by
  obtain ⟨i, hi, hs⟩ := size_of info5s
  exact run_eql_ints w 50 5 64 .u8 .u8 i l m Try.underlying50 Try.underlying5 hi hs hl hm
theorem neq50 (w : World) (l m : List Int) (hl : l.length = 64) (hm : m.length = 64) : (binOp .neq 50 (.agg (u8s l).toArray) (.agg (u8s m).toArray)).run Try.prog w = .ok (.bool (!decide (l = m))) w := by
  obtain ⟨i, hi, hs⟩ := size_of info5s
  exact run_neq_ints w 50 5 64 .u8 .u8 i l m Try.underlying50 Try.underlying5 hi hs hl hm
set_option maxRecDepth 100000 in
theorem areHeads_any (l : List Int) (hl : l.length = 8) (w : World) : Calls Try.prog 66 #[.agg (i64s l).toArray] w fun e w' => e = .returned (.bool (l.all isHead)) ∧ Below w.heap.size w w' := by
  obtain ⟨x0, x1, x2, x3, x4, x5, x6, x7, rfl⟩ := heads_of l hl
  have HI := fun (j : Nat) (x : Int) (hx : [x0, x1, x2, x3, x4, x5, x6, x7][j]? = some x) (w : World) => index55 w [x0, x1, x2, x3, x4, x5, x6, x7] rfl j x hx
  simp only [List.map_cons, List.map_nil] at HI ⊢
  have HB := Lib.hid (show Below w.heap.size w (w.alloc (.cells #[.int .i64 x0, .int .i64 x1, .int .i64 x2, .int .i64 x3, .int .i64 x4, .int .i64 x5, .int .i64 x6, .int .i64 x7] 55)) from (Below.refl _ _).alloc (Nat.le_refl _) _)
  clear hl
  go_enter Try.func66, Try.ntmps66
  go_wp2_with fail
  go_loopg [6] 8 (fun q i wr => ∃ k : Nat, 8 - k ≤ q ∧ k ≤ 8 ∧ i = .int .i64 k ∧ (∀ x ∈ [x0, x1, x2, x3, x4, x5, x6, x7].take k, isHead x = true) ∧ wr = w.alloc (.cells #[.int .i64 x0, .int .i64 x1, .int .i64 x2, .int .i64 x3, .int .i64 x4, .int .i64 x5, .int .i64 x6, .int .i64 x7] 55))
  case atStart => exact ⟨0, by omega, by omega, rfl, by simp, rfl⟩
  case round =>
    obtain ⟨k, hg, hk, rfl, hall, rfl⟩ := hrel
    by_cases hlt : k < 8
    · obtain ⟨x, hx⟩ : ∃ x, [x0, x1, x2, x3, x4, x5, x6, x7][k]? = some x := ⟨_, List.getElem?_eq_getElem (by simpa using hlt)⟩
      have h3 := HI k x hx
      have H30 := Lib.hid fun w => isHead_any x w
      have HX := Lib.hid hx
      have HALL := Lib.hid hall
      clear HI hx hall
      cases hh : isHead x
      · rw [hh] at H30
        go_wp2_with fail
        refine (H30.out _).mono ?_
        rintro e w1 ⟨rfl, rfl⟩
        go_wp2_with fail
        go_ret
        refine ⟨ret_bool ?_, HB.out⟩
        symm
        rw [List.all_eq_false]
        exact ⟨x, List.mem_of_getElem? HX.out, by simp [hh]⟩
      · rw [hh] at H30
        go_wp2_with fail
        refine (H30.out _).mono ?_
        rintro e w1 ⟨rfl, rfl⟩
        go_wp2_with fail
        go_roundg (8 - (k + 1))
        case measure => omega
        case rel =>
          refine ⟨k + 1, by omega, by omega, by go_num, ?_, rfl⟩
          intro y hy
          rw [List.take_add_one, HX.out] at hy
          rcases List.mem_append.1 hy with hy | hy
          · exact HALL.out y hy
          · simp at hy
            rw [hy]
            exact hh
    · have HALL := Lib.hid hall
      obtain rfl : k = 8 := by omega
      clear HI hall
      go_wp2_with fail
      go_ret
      refine ⟨ret_bool ?_, HB.out⟩
      have h := HALL.out
      rw [List.take_of_length_le (by simp)] at h
      symm
      exact List.all_eq_true.2 h

/-- A delta whose own fields are struck. -/
def Bk.strip (b : Bk) : Bk := { b with off := 0, bytes := [], prev := 0 }
theorem small0 : Small 0 := ⟨by decide, by decide⟩
theorem Bk.strip_wf {b : Bk} (h : b.Wf) : b.strip.Wf :=
  { h with off := small0, prev := small0, bytes := Nat.zero_le _, bytess := fun _ h => by cases h }
theorem BAt.strip {w : World} {g : Nat} {b : Bk} {sv : Value} (h : BAt w g b sv) : BAt (((w.setCell ⟨g, 34, none⟩ (.int .i64 0)).setCell ⟨g, 35, none⟩ (.slice none 0 0)).setCell ⟨g, 36, none⟩ (.int .i64 0)) g b.strip (.slice none 0 0) := by
  refine ⟨?_, b.strip_wf h.wf⟩
  have := ((h.blk.set 34 (.int .i64 0)).set 35 (.slice none 0 0)).set 36 (.int .i64 0)
  have e : (((b.cells sv).set 34 (.int .i64 0)).set 35 (.slice none 0 0)).set 36 (.int .i64 0) = b.strip.cells (.slice none 0 0) := by
    unfold Bk.cells Bk.strip
    simp only [List.set_cons_succ]
    rw [List.set_append_right _ _ (by simp [h.wf.page]), List.set_append_right _ _ (by simp [h.wf.page]), List.set_append_right _ _ (by simp [h.wf.page])]
    simp [h.wf.page]
  rwa [e] at this

set_option maxRecDepth 100000 in
theorem good_any (b : Bk) (sv : Value) (hs : Len sv b.bytes.length) (hw : b.Wf) (w : World) : Calls Try.prog 57 #[.agg (b.arr sv)] w fun e w' => e = .returned (.bool b.good) ∧ Below w.heap.size w w' := by
  have HA := Lib.hid (BAt.box hw sv w)
  have HB := Lib.hid (box_below b sv w)
  have c0 := HA.out.c0
  have c1 := HA.out.c1
  have HS := Lib.hid (b.arr_size hw sv)
  have HS0 := HS
  have HS0 := HS
  have HS0 := HS
  have HS0 := HS
  have HHS : Hid ((i64s b.heads).toArray.size = 8) := Lib.hid (by simpa using hw.heads)
  have HPS : Hid ((u8s b.page).toArray.size = 32) := Lib.hid (by simpa using hw.page)
  have HE := Lib.hid fun w => eql55 w b.heads (zeros 8) hw.heads (zeros_length 8)
  have HP := Lib.hid fun w => eql53 w b.page (zeros 32) hw.page (zeros_length 32)
  have HPN := Lib.hid fun w => neq53 w b.page (zeros 32) hw.page (zeros_length 32)
  have W63 := Lib.hid fun w => within_any b.id 0 63 w
  have W7 := Lib.hid fun w => within_any b.id 0 7 w
  have HN := Lib.hid fun w => nodiff_any b sv hs hw w
  have HD := Lib.hid fun w => diff_any b sv hs hw w
  have HNS := Lib.hid fun w => nodiff_any b.strip (.slice none 0 0) ⟨none, 0, rfl⟩ (b.strip_wf hw) w
  have HSS := Lib.hid (b.strip.arr_size (b.strip_wf hw) (.slice none 0 0))
  have HH := Lib.hid fun w => areHeads_any b.heads hw.heads w
  have hplain : b.strip.plain = true := rfl
  rw [hplain] at HNS
  clear hplain hs hw
  unfold Bk.good
  by_cases k1 : b.kind = 1
  · rw [if_pos k1]
    rw [k1] at c0
    clear k1 HP HPN W7 HD HNS HSS HH HPS
    generalize within b.id 0 63 = q1 at *
    generalize b.plain = q2 at *
    generalize decide (b.heads = zeros 8) = q3 at *
    go_enter Try.func57, Try.ntmps57
    go_wp2_with fail
    refine (W63.out _).mono ?_
    rintro e w1 ⟨rfl, rfl⟩
    cases q1
    · go_wp2_with fail
      go_ret
      exact ⟨rfl, HB.out⟩
    simp only []
    cases q2
    · skip
      refine (‹∀ (a : Act) (w : World), wpList Try.prog _ _ _ a w → _› _ _ ?_)
      refine takeL (.bool true) rfl (by go_simp) ?_
      try simp only [Act.put, List.setIfInBounds_toArray, List.set_cons_succ, List.set_cons_zero]
      refine load57 HA.out.all HS.out rfl rfl ?_
      try simp only [Act.put, List.setIfInBounds_toArray, List.set_cons_succ, List.set_cons_zero]
      refine wpList_op rfl fun K hK => ?_
      go_simp
      refine (HN.out _).mono ?_
      rintro e w2 ⟨rfl, hb⟩
      have HA2 := Lib.hid (HA.out.below hb HA.out.lt)
      have HB2 := Lib.hid (HB.out.trans (hb.mono HB.out.size))
      clear hb
      refine hK _ _ ?_
      clear hK K
      try simp only [Act.put, List.setIfInBounds_toArray, List.set_cons_succ, List.set_cons_zero]
      refine takeL (.bool false) rfl (by go_simp) ?_
      try simp only [Act.put, List.setIfInBounds_toArray, List.set_cons_succ, List.set_cons_zero]
      refine takeL (.bool false) rfl (by go_simp) ?_
      try simp only [Act.put, List.setIfInBounds_toArray, List.set_cons_succ, List.set_cons_zero]
      refine passL rfl ?_
      try simp only [Act.put, List.setIfInBounds_toArray, List.set_cons_succ, List.set_cons_zero]
      refine passL rfl ?_
      try simp only [Act.put, List.setIfInBounds_toArray, List.set_cons_succ, List.set_cons_zero]
      refine passL rfl ?_
      try simp only [Act.put, List.setIfInBounds_toArray, List.set_cons_succ, List.set_cons_zero]
      refine passL rfl ?_
      try simp only [Act.put, List.setIfInBounds_toArray, List.set_cons_succ, List.set_cons_zero]
      refine takeL (.bool false) rfl (by go_simp) ?_
      try simp only [Act.put, List.setIfInBounds_toArray, List.set_cons_succ, List.set_cons_zero]
      refine takeL (.bool false) rfl (by go_simp) ?_
      try simp only [Act.put, List.setIfInBounds_toArray, List.set_cons_succ, List.set_cons_zero]
      refine wpList_nil ?_
      go_wp2_with fail
      go_ret
      exact ⟨ret_bool (by simp), HB2.out⟩
    refine (‹∀ (a : Act) (w : World), wpList Try.prog _ _ _ a w → _› _ _ ?_)
    refine takeL (.bool true) rfl (by go_simp) ?_
    try simp only [Act.put, List.setIfInBounds_toArray, List.set_cons_succ, List.set_cons_zero]
    refine load57 HA.out.all HS.out rfl rfl ?_
    try simp only [Act.put, List.setIfInBounds_toArray, List.set_cons_succ, List.set_cons_zero]
    refine wpList_op rfl fun K hK => ?_
    go_simp
    refine (HN.out _).mono ?_
    rintro e w2 ⟨rfl, hb⟩
    have HA2 := Lib.hid (HA.out.below hb HA.out.lt)
    have HB2 := Lib.hid (HB.out.trans (hb.mono HB.out.size))
    clear hb
    refine hK _ _ ?_
    clear hK K
    try simp only [Act.put, List.setIfInBounds_toArray, List.set_cons_succ, List.set_cons_zero]
    refine takeL (.bool true) rfl (by go_simp) ?_
    try simp only [Act.put, List.setIfInBounds_toArray, List.set_cons_succ, List.set_cons_zero]
    refine takeL (.bool true) rfl (by go_simp) ?_
    try simp only [Act.put, List.setIfInBounds_toArray, List.set_cons_succ, List.set_cons_zero]
    refine takeL (.pointer (some ⟨w.heap.size, 37, none⟩)) rfl (by go_simp) ?_
    try simp only [Act.put, List.setIfInBounds_toArray, List.set_cons_succ, List.set_cons_zero]
    refine load55 (cs := (i64s b.heads).toArray) HA2.out.heads HHS.out rfl rfl ?_
    try simp only [Act.put, List.setIfInBounds_toArray, List.set_cons_succ, List.set_cons_zero]
    refine build_g (build55 _) rfl ?_
    try simp only [Act.put, List.setIfInBounds_toArray, List.set_cons_succ, List.set_cons_zero]
    refine takeL (.bool q3) rfl (by have he := HE.out; go_simp) ?_
    try simp only [Act.put, List.setIfInBounds_toArray, List.set_cons_succ, List.set_cons_zero]
    refine takeL (.bool q3) rfl (by go_simp) ?_
    try simp only [Act.put, List.setIfInBounds_toArray, List.set_cons_succ, List.set_cons_zero]
    refine takeL (.bool q3) rfl (by go_simp) ?_
    try simp only [Act.put, List.setIfInBounds_toArray, List.set_cons_succ, List.set_cons_zero]
    refine wpList_nil ?_
    go_wp2_with fail
    go_ret
    exact ⟨ret_bool (by simp), HB2.out⟩
  · rw [if_neg k1]
    by_cases k2 : b.kind = 2
    · rw [if_pos k2]
      rw [k2] at c0
      clear k1 k2 HP W7 HN HS HH
      generalize within b.id 0 63 = q1 at *
      generalize b.diff = q2 at *
      generalize decide (b.page = zeros 32) = q4 at *
      generalize decide (b.heads = zeros 8) = q3 at *
      go_enter Try.func57, Try.ntmps57
      repeat (first | (with_reducible refine stopR (id := 5) ?_) | go_values | go_skip | go_guarded | go_step | go_upon | go_back)
      refine Stop.mk (wp_region_lit ?_)
      cases q2
      · skip
        refine load57 HA.out.all HS0.out rfl rfl ?_
        try simp only [Act.put, List.setIfInBounds_toArray, List.set_cons_succ, List.set_cons_zero]
        refine wpList_op rfl fun K hK => ?_
        go_simp
        refine (HD.out _).mono ?_
        rintro e w1 ⟨rfl, hb⟩
        have HA1 := Lib.hid (HA.out.below hb HA.out.lt)
        have HB1 := Lib.hid (HB.out.trans (hb.mono HB.out.size))
        clear hb HA HB c0 c1
        refine hK _ _ ?_
        clear hK K
        try simp only [Act.put, List.setIfInBounds_toArray, List.set_cons_succ, List.set_cons_zero]
        refine takeL (.bool true) rfl (by go_simp) ?_
        try simp only [Act.put, List.setIfInBounds_toArray, List.set_cons_succ, List.set_cons_zero]
        refine takeL (.bool true) rfl (by go_simp) ?_
        try simp only [Act.put, List.setIfInBounds_toArray, List.set_cons_succ, List.set_cons_zero]
        refine passL rfl ?_
        try simp only [Act.put, List.setIfInBounds_toArray, List.set_cons_succ, List.set_cons_zero]
        refine passL rfl ?_
        try simp only [Act.put, List.setIfInBounds_toArray, List.set_cons_succ, List.set_cons_zero]
        refine passL rfl ?_
        try simp only [Act.put, List.setIfInBounds_toArray, List.set_cons_succ, List.set_cons_zero]
        refine passL rfl ?_
        try simp only [Act.put, List.setIfInBounds_toArray, List.set_cons_succ, List.set_cons_zero]
        refine takeL (.bool true) rfl (by go_simp) ?_
        try simp only [Act.put, List.setIfInBounds_toArray, List.set_cons_succ, List.set_cons_zero]
        refine wpList_nil ?_
        go_wp2_with fail
        go_ret
        exact ⟨ret_bool (by simp), HB1.out⟩
      refine load57 HA.out.all HS0.out rfl rfl ?_
      try simp only [Act.put, List.setIfInBounds_toArray, List.set_cons_succ, List.set_cons_zero]
      refine wpList_op rfl fun K hK => ?_
      go_simp
      refine (HD.out _).mono ?_
      rintro e w1 ⟨rfl, hb⟩
      have HA1 := Lib.hid (HA.out.below hb HA.out.lt)
      have HB1 := Lib.hid (HB.out.trans (hb.mono HB.out.size))
      clear hb HA HB c0 c1
      refine hK _ _ ?_
      clear hK K
      try simp only [Act.put, List.setIfInBounds_toArray, List.set_cons_succ, List.set_cons_zero]
      refine takeL (.bool false) rfl (by go_simp) ?_
      try simp only [Act.put, List.setIfInBounds_toArray, List.set_cons_succ, List.set_cons_zero]
      refine takeL (.bool false) rfl (by go_simp) ?_
      try simp only [Act.put, List.setIfInBounds_toArray, List.set_cons_succ, List.set_cons_zero]
      refine takeL (.pointer (some ⟨w.heap.size, 2, none⟩)) rfl (by go_simp) ?_
      try simp only [Act.put, List.setIfInBounds_toArray, List.set_cons_succ, List.set_cons_zero]
      refine load53 HA1.out.page HPS.out rfl rfl ?_
      try simp only [Act.put, List.setIfInBounds_toArray, List.set_cons_succ, List.set_cons_zero]
      refine build_g (build53 _) rfl ?_
      try simp only [Act.put, List.setIfInBounds_toArray, List.set_cons_succ, List.set_cons_zero]
      refine takeL (.bool (!q4)) rfl (by have he := HPN.out; go_simp) ?_
      try simp only [Act.put, List.setIfInBounds_toArray, List.set_cons_succ, List.set_cons_zero]
      refine takeL (.bool (!q4)) rfl (by go_simp) ?_
      try simp only [Act.put, List.setIfInBounds_toArray, List.set_cons_succ, List.set_cons_zero]
      refine wpList_nil ?_
      cases q4
      · go_wp2_with fail
        go_ret
        exact ⟨ret_bool (by simp), HB1.out⟩
      have c34 := HA1.out.c34
      have c35 := HA1.out.c35
      have c36 := HA1.out.c36
      have c1 := HA1.out.c1
      have f34 := HA1.out.blk.frozen 34
      have f35 := HA1.out.blk.frozen 35
      have f36 := HA1.out.blk.frozen 36
      have HA3 := Lib.hid HA1.out.strip
      have HB3 := Lib.hid (((HB1.out.setCell (p := ⟨w.heap.size, 34, none⟩) (Nat.le_refl _) (.int .i64 0)).setCell (p := ⟨w.heap.size, 35, none⟩) (Nat.le_refl _) (.slice none 0 0)).setCell (p := ⟨w.heap.size, 36, none⟩) (Nat.le_refl _) (.int .i64 0))
      go_wp2_with fail
      refine (W63.out _).mono ?_
      rintro e w2 ⟨rfl, rfl⟩
      cases q1
      · go_wp2_with fail
        go_ret
        exact ⟨ret_bool (by simp), HB3.out⟩
      simp only []
      refine (‹∀ (a : Act) (w : World), wpList Try.prog _ _ _ a w → _› _ _ ?_)
      refine takeL (.bool true) rfl (by go_simp) ?_
      try simp only [Act.put, List.setIfInBounds_toArray, List.set_cons_succ, List.set_cons_zero]
      refine load57 HA3.out.all HSS.out rfl rfl ?_
      try simp only [Act.put, List.setIfInBounds_toArray, List.set_cons_succ, List.set_cons_zero]
      refine wpList_op rfl fun K hK => ?_
      go_simp
      refine (HNS.out _).mono ?_
      rintro e w2 ⟨rfl, hb⟩
      have HA2 := Lib.hid (HA3.out.below hb HA3.out.lt)
      have HB2 := Lib.hid (HB3.out.trans (hb.mono HB3.out.size))
      clear hb
      refine hK _ _ ?_
      clear hK K
      try simp only [Act.put, List.setIfInBounds_toArray, List.set_cons_succ, List.set_cons_zero]
      refine takeL (.bool true) rfl (by go_simp) ?_
      try simp only [Act.put, List.setIfInBounds_toArray, List.set_cons_succ, List.set_cons_zero]
      refine takeL (.bool true) rfl (by go_simp) ?_
      try simp only [Act.put, List.setIfInBounds_toArray, List.set_cons_succ, List.set_cons_zero]
      refine takeL (.pointer (some ⟨w.heap.size, 37, none⟩)) rfl (by go_simp) ?_
      try simp only [Act.put, List.setIfInBounds_toArray, List.set_cons_succ, List.set_cons_zero]
      refine load55 (cs := (i64s b.heads).toArray) HA2.out.heads HHS.out rfl rfl ?_
      try simp only [Act.put, List.setIfInBounds_toArray, List.set_cons_succ, List.set_cons_zero]
      refine build_g (build55 _) rfl ?_
      try simp only [Act.put, List.setIfInBounds_toArray, List.set_cons_succ, List.set_cons_zero]
      refine takeL (.bool q3) rfl (by have he := HE.out; go_simp) ?_
      try simp only [Act.put, List.setIfInBounds_toArray, List.set_cons_succ, List.set_cons_zero]
      refine takeL (.bool q3) rfl (by go_simp) ?_
      try simp only [Act.put, List.setIfInBounds_toArray, List.set_cons_succ, List.set_cons_zero]
      refine takeL (.bool q3) rfl (by go_simp) ?_
      try simp only [Act.put, List.setIfInBounds_toArray, List.set_cons_succ, List.set_cons_zero]
      refine wpList_nil ?_
      go_wp2_with fail
      go_ret
      exact ⟨ret_bool (by simp), HB2.out⟩
    · rw [if_neg k2]
      by_cases k3 : b.kind = 3
      · rw [if_pos k3]
        rw [k3] at c0
        clear k1 k2 k3 HPN W63 HE HNS HSS HD HS0
        generalize within b.id 0 7 = q1 at *
        generalize b.heads.all isHead = q2 at *
        generalize b.plain = q3 at *
        generalize decide (b.page = zeros 32) = q4 at *
        go_enter Try.func57, Try.ntmps57
        go_wp2_with fail
        refine (W7.out _).mono ?_
        rintro e w1 ⟨rfl, rfl⟩
        cases q1
        · go_wp2_with fail
          go_ret
          exact ⟨rfl, HB.out⟩
        simp only []
        cases q2
        · skip
          refine (‹∀ (a : Act) (w : World), wpList Try.prog _ _ _ a w → _› _ _ ?_)
          refine takeL (.bool true) rfl (by go_simp) ?_
          try simp only [Act.put, List.setIfInBounds_toArray, List.set_cons_succ, List.set_cons_zero]
          refine takeL (.pointer (some ⟨w.heap.size, 37, none⟩)) rfl (by go_simp) ?_
          try simp only [Act.put, List.setIfInBounds_toArray, List.set_cons_succ, List.set_cons_zero]
          refine load55 (cs := (i64s b.heads).toArray) HA.out.heads HHS.out rfl rfl ?_
          try simp only [Act.put, List.setIfInBounds_toArray, List.set_cons_succ, List.set_cons_zero]
          refine wpList_op rfl fun K hK => ?_
          go_simp
          refine (HH.out _).mono ?_
          rintro e w2 ⟨rfl, hb⟩
          have HA2 := Lib.hid (HA.out.below hb HA.out.lt)
          have HB2 := Lib.hid (HB.out.trans (hb.mono HB.out.size))
          clear hb
          refine hK _ _ ?_
          clear hK K
          try simp only [Act.put, List.setIfInBounds_toArray, List.set_cons_succ, List.set_cons_zero]
          refine takeL (.bool false) rfl (by go_simp) ?_
          try simp only [Act.put, List.setIfInBounds_toArray, List.set_cons_succ, List.set_cons_zero]
          refine takeL (.bool false) rfl (by go_simp) ?_
          try simp only [Act.put, List.setIfInBounds_toArray, List.set_cons_succ, List.set_cons_zero]
          refine passL rfl ?_
          try simp only [Act.put, List.setIfInBounds_toArray, List.set_cons_succ, List.set_cons_zero]
          refine passL rfl ?_
          try simp only [Act.put, List.setIfInBounds_toArray, List.set_cons_succ, List.set_cons_zero]
          refine takeL (.bool false) rfl (by go_simp) ?_
          try simp only [Act.put, List.setIfInBounds_toArray, List.set_cons_succ, List.set_cons_zero]
          refine takeL (.bool false) rfl (by go_simp) ?_
          try simp only [Act.put, List.setIfInBounds_toArray, List.set_cons_succ, List.set_cons_zero]
          refine passL rfl ?_
          try simp only [Act.put, List.setIfInBounds_toArray, List.set_cons_succ, List.set_cons_zero]
          refine passL rfl ?_
          try simp only [Act.put, List.setIfInBounds_toArray, List.set_cons_succ, List.set_cons_zero]
          refine passL rfl ?_
          try simp only [Act.put, List.setIfInBounds_toArray, List.set_cons_succ, List.set_cons_zero]
          refine passL rfl ?_
          try simp only [Act.put, List.setIfInBounds_toArray, List.set_cons_succ, List.set_cons_zero]
          refine takeL (.bool false) rfl (by go_simp) ?_
          try simp only [Act.put, List.setIfInBounds_toArray, List.set_cons_succ, List.set_cons_zero]
          refine takeL (.bool false) rfl (by go_simp) ?_
          try simp only [Act.put, List.setIfInBounds_toArray, List.set_cons_succ, List.set_cons_zero]
          refine wpList_nil ?_
          go_wp2_with fail
          go_ret
          exact ⟨ret_bool (by simp), HB2.out⟩
        cases q3
        · skip
          refine (‹∀ (a : Act) (w : World), wpList Try.prog _ _ _ a w → _› _ _ ?_)
          refine takeL (.bool true) rfl (by go_simp) ?_
          try simp only [Act.put, List.setIfInBounds_toArray, List.set_cons_succ, List.set_cons_zero]
          refine takeL (.pointer (some ⟨w.heap.size, 37, none⟩)) rfl (by go_simp) ?_
          try simp only [Act.put, List.setIfInBounds_toArray, List.set_cons_succ, List.set_cons_zero]
          refine load55 (cs := (i64s b.heads).toArray) HA.out.heads HHS.out rfl rfl ?_
          try simp only [Act.put, List.setIfInBounds_toArray, List.set_cons_succ, List.set_cons_zero]
          refine wpList_op rfl fun K hK => ?_
          go_simp
          refine (HH.out _).mono ?_
          rintro e w2 ⟨rfl, hb⟩
          have HA2 := Lib.hid (HA.out.below hb HA.out.lt)
          have HB2 := Lib.hid (HB.out.trans (hb.mono HB.out.size))
          clear hb
          refine hK _ _ ?_
          clear hK K
          try simp only [Act.put, List.setIfInBounds_toArray, List.set_cons_succ, List.set_cons_zero]
          refine takeL (.bool true) rfl (by go_simp) ?_
          try simp only [Act.put, List.setIfInBounds_toArray, List.set_cons_succ, List.set_cons_zero]
          refine takeL (.bool true) rfl (by go_simp) ?_
          try simp only [Act.put, List.setIfInBounds_toArray, List.set_cons_succ, List.set_cons_zero]
          refine load57 HA2.out.all HS.out rfl rfl ?_
          try simp only [Act.put, List.setIfInBounds_toArray, List.set_cons_succ, List.set_cons_zero]
          refine wpList_op rfl fun K hK => ?_
          go_simp
          refine (HN.out _).mono ?_
          rintro e w3 ⟨rfl, hb⟩
          have HA3 := Lib.hid (HA2.out.below hb HA2.out.lt)
          have HB3 := Lib.hid (HB2.out.trans (hb.mono HB2.out.size))
          clear hb
          refine hK _ _ ?_
          clear hK K
          try simp only [Act.put, List.setIfInBounds_toArray, List.set_cons_succ, List.set_cons_zero]
          refine takeL (.bool false) rfl (by go_simp) ?_
          try simp only [Act.put, List.setIfInBounds_toArray, List.set_cons_succ, List.set_cons_zero]
          refine takeL (.bool false) rfl (by go_simp) ?_
          try simp only [Act.put, List.setIfInBounds_toArray, List.set_cons_succ, List.set_cons_zero]
          refine passL rfl ?_
          try simp only [Act.put, List.setIfInBounds_toArray, List.set_cons_succ, List.set_cons_zero]
          refine passL rfl ?_
          try simp only [Act.put, List.setIfInBounds_toArray, List.set_cons_succ, List.set_cons_zero]
          refine passL rfl ?_
          try simp only [Act.put, List.setIfInBounds_toArray, List.set_cons_succ, List.set_cons_zero]
          refine passL rfl ?_
          try simp only [Act.put, List.setIfInBounds_toArray, List.set_cons_succ, List.set_cons_zero]
          refine takeL (.bool false) rfl (by go_simp) ?_
          try simp only [Act.put, List.setIfInBounds_toArray, List.set_cons_succ, List.set_cons_zero]
          refine takeL (.bool false) rfl (by go_simp) ?_
          try simp only [Act.put, List.setIfInBounds_toArray, List.set_cons_succ, List.set_cons_zero]
          refine wpList_nil ?_
          go_wp2_with fail
          go_ret
          exact ⟨ret_bool (by simp), HB3.out⟩
        refine (‹∀ (a : Act) (w : World), wpList Try.prog _ _ _ a w → _› _ _ ?_)
        refine takeL (.bool true) rfl (by go_simp) ?_
        try simp only [Act.put, List.setIfInBounds_toArray, List.set_cons_succ, List.set_cons_zero]
        refine takeL (.pointer (some ⟨w.heap.size, 37, none⟩)) rfl (by go_simp) ?_
        try simp only [Act.put, List.setIfInBounds_toArray, List.set_cons_succ, List.set_cons_zero]
        refine load55 (cs := (i64s b.heads).toArray) HA.out.heads HHS.out rfl rfl ?_
        try simp only [Act.put, List.setIfInBounds_toArray, List.set_cons_succ, List.set_cons_zero]
        refine wpList_op rfl fun K hK => ?_
        go_simp
        refine (HH.out _).mono ?_
        rintro e w2 ⟨rfl, hb⟩
        have HA2 := Lib.hid (HA.out.below hb HA.out.lt)
        have HB2 := Lib.hid (HB.out.trans (hb.mono HB.out.size))
        clear hb
        refine hK _ _ ?_
        clear hK K
        try simp only [Act.put, List.setIfInBounds_toArray, List.set_cons_succ, List.set_cons_zero]
        refine takeL (.bool true) rfl (by go_simp) ?_
        try simp only [Act.put, List.setIfInBounds_toArray, List.set_cons_succ, List.set_cons_zero]
        refine takeL (.bool true) rfl (by go_simp) ?_
        try simp only [Act.put, List.setIfInBounds_toArray, List.set_cons_succ, List.set_cons_zero]
        refine load57 HA2.out.all HS.out rfl rfl ?_
        try simp only [Act.put, List.setIfInBounds_toArray, List.set_cons_succ, List.set_cons_zero]
        refine wpList_op rfl fun K hK => ?_
        go_simp
        refine (HN.out _).mono ?_
        rintro e w3 ⟨rfl, hb⟩
        have HA3 := Lib.hid (HA2.out.below hb HA2.out.lt)
        have HB3 := Lib.hid (HB2.out.trans (hb.mono HB2.out.size))
        clear hb
        refine hK _ _ ?_
        clear hK K
        try simp only [Act.put, List.setIfInBounds_toArray, List.set_cons_succ, List.set_cons_zero]
        refine takeL (.bool true) rfl (by go_simp) ?_
        try simp only [Act.put, List.setIfInBounds_toArray, List.set_cons_succ, List.set_cons_zero]
        refine takeL (.bool true) rfl (by go_simp) ?_
        try simp only [Act.put, List.setIfInBounds_toArray, List.set_cons_succ, List.set_cons_zero]
        refine takeL (.pointer (some ⟨w.heap.size, 2, none⟩)) rfl (by go_simp) ?_
        try simp only [Act.put, List.setIfInBounds_toArray, List.set_cons_succ, List.set_cons_zero]
        refine load53 HA3.out.page HPS.out rfl rfl ?_
        try simp only [Act.put, List.setIfInBounds_toArray, List.set_cons_succ, List.set_cons_zero]
        refine build_g (build53 _) rfl ?_
        try simp only [Act.put, List.setIfInBounds_toArray, List.set_cons_succ, List.set_cons_zero]
        refine takeL (.bool q4) rfl (by have he := HP.out; go_simp) ?_
        try simp only [Act.put, List.setIfInBounds_toArray, List.set_cons_succ, List.set_cons_zero]
        refine takeL (.bool q4) rfl (by go_simp) ?_
        try simp only [Act.put, List.setIfInBounds_toArray, List.set_cons_succ, List.set_cons_zero]
        refine takeL (.bool q4) rfl (by go_simp) ?_
        try simp only [Act.put, List.setIfInBounds_toArray, List.set_cons_succ, List.set_cons_zero]
        refine wpList_nil ?_
        go_wp2_with fail
        go_ret
        exact ⟨ret_bool (by simp), HB3.out⟩
      · rw [if_neg k3]
        clear HPN W63 HE HNS HSS HD HS0 W7 HP HH HN HHS HPS HS
        go_enter Try.func57, Try.ntmps57
        go_wp2_with fail
        go_ret
        exact ⟨rfl, HB.out⟩
end Go.Proofs.Ytbhaifdhmfmeoaa
