/- Hc: stage 13's texts turned: group.Read and what it calls; items compared. -/
import Derived.Test.YthlnmdihdcfphaaGreatDoorHk
namespace Go.Proofs.YthlnmdihdcfphaaGreatDoor
set_option linter.unusedSimpArgs false
set_option linter.unusedVariables false
open Go.RowKit

theorem itCells_mid (A : List (It × Value)) (x : It × Value) (C : List (It × Value)) : itCells (A ++ x :: C) = itCells A ++ (.int .i64 x.1.mark.1 :: .int .i64 x.1.mark.2 :: (x.1.blk.cells x.2 ++ itCells C)) := by
  simp [itCells, It.cells]
theorem set_mark {A C : List (It × Value)} {b : Bk} {v : Value} {m0 m : Mk} {k : Nat} (hA : (itCells A).length = k * 47) : ((itCells (A ++ (⟨m0, b⟩, v) :: C)).set (k * 47) (.int .i64 m.1)).set (k * 47 + 1) (.int .i64 m.2) = itCells (A ++ (⟨m, b⟩, v) :: C) := by
  rw [itCells_mid, itCells_mid, List.set_append_right _ _ (by omega), List.set_append_right _ _ (by omega), hA, Nat.sub_self, show k * 47 + 1 - k * 47 = 1 by omega]
  rfl
theorem set_blk {A C : List (It × Value)} {b c : Bk} {v sv : Value} {m : Mk} {k : Nat} (hA : (itCells A).length = k * 47) (hb : b.Wf) (hc : c.Wf) : (splice (itCells (A ++ (⟨m, b⟩, v) :: C)) (k * 47 + 2) (c.arr sv)).toList = itCells (A ++ (⟨m, c⟩, sv) :: C) := by
  have h1 := Bk.cells_length hb v
  have h2 := Bk.arr_size hc sv
  unfold splice
  rw [h2, itCells_mid, itCells_mid]
  simp only [List.toList_toArray] at *
  rw [List.take_append, List.take_of_length_le (by omega), hA, show k * 47 + 2 - k * 47 = 2 by omega, List.drop_append, List.drop_of_length_le (by omega), hA, show k * 47 + 2 + 45 - k * 47 = 45 + 1 + 1 by omega]
  simp only [List.take_succ_cons, List.take_zero, List.nil_append, List.drop_succ_cons]
  rw [List.drop_append, List.drop_of_length_le (by omega), h1]
  simp [Bk.arr]
theorem itCells_len {l : List (It × Value)} (h : ∀ x ∈ l, x.1.Wf) {n : Nat} (hn : l.length = n) : (itCells l).length = n * 47 := by rw [itCells_length h, hn]
abbrev nilI : It × Value := (It.none, .slice none 0 0)
theorem made_its (n : Nat) : (madeCells (It.none.arr (.slice none 0 0)) (n * 47)).toList = itCells (List.replicate n nilI) := by
  have hl : (itCells (List.replicate n nilI)).length = n * 47 := itCells_len (fun x hx => by rw [List.eq_of_mem_replicate hx]; exact It.none_wf) (by simp)
  unfold madeCells
  apply List.ext_getElem?
  intro i
  by_cases h : i < n * 47
  · have e := itCells_at (l := List.replicate n nilI) (fun x hx => by rw [List.eq_of_mem_replicate hx]; exact It.none_wf) (i := i / 47) (j := i % 47) (Nat.mod_lt _ (by decide))
    rw [show i / 47 * 47 + i % 47 = i by omega, List.getElem?_replicate, if_pos (by omega)] at e
    rw [e]
    have hz : (It.none.arr (.slice none 0 0)).size = 47 := It.arr_size It.none_wf _
    have hj : i % 47 < 47 := Nat.mod_lt _ (by decide)
    simp only [Array.toList_map, List.getElem?_map, Array.toList_range, List.getElem?_range h, Option.map_some, Option.bind_some, hz]
    rw [getElem!_pos _ _ (by rw [hz]; exact hj)]
    simp only [It.arr, List.getElem_toArray]
    rw [List.getElem?_eq_getElem]
  · rw [List.getElem?_eq_none (by simp; omega), List.getElem?_eq_none (by omega)]
theorem madeIt (n : Nat) (hn : n < 1000) (w : World) : (Instr.makeSlice 44 (.int .i64 n) (.int .i64 n)).run Tryz.prog w = .ok (.slice (some ⟨w.heap.size, 0, none⟩) n n) (w.alloc (.cells (madeCells (It.none.arr (.slice none 0 0)) (n * 47)) 75)) := by
  obtain ⟨i, hi, hz, hs, hb⟩ := inf75
  have hr := run_makeSlice (P := Tryz.prog) w 44 75 i (.agg (It.none.arr (.slice none 0 0))) Tryz.underlying44 hi hz .i64 .i64 n n (by omega) (Int.le_refl _) (by rw [hs]; omega) (by rw [hb]; omega) (by omega)
  simpa [hs, Value.cells] using hr
theorem dec_yes' {s : List Int} (h : isBlock s = true) : decB s = readOf s ∧ decN s = seqOf s ∧ decE s = 0 := by
  unfold decB decN decE
  rw [h]
  exact ⟨rfl, rfl, rfl⟩
theorem dec_no' {s : List Int} (h : isBlock s = false) : decB s = Bk.none ∧ decN s = 0 ∧ decE s = 11 := by
  unfold decB decN decE
  rw [h]
  exact ⟨rfl, rfl, rfl⟩
/-- What itemsOf hands back. -/
def ItemsOut (r : Option (List It)) (B : Nat) (e : Ending) (w' : World) : Prop := (r = none ∧ e = .returned (.tuple #[.slice none 0 0, .bool false])) ∨ ∃ iv pl, r = some (pl.map (·.1)) ∧ e = .returned (.tuple #[iv, .bool true]) ∧ ItemsAt w' iv pl ∧ ∀ x ∈ pl, Fresh B x.2
/-- What its loop has come to. -/
structure Fill (w wr : World) (ms : List Mk) (S : List (List Int)) (n k : Nat) (lv : Value) (D : List (It × Value)) (R : List (List Int)) : Prop where
  len : D.length = k
  its : itemsP ms S = (itemsP (ms.drop k) R).map (D.map (·.1) ++ ·)
  secs : SecsAt w lv R
  row : Blk wr w.heap.size (itCells (D ++ List.replicate (n - k) nilI))
  all : ∀ x ∈ D, x.1.Wf ∧ BytesAt wr x.2 x.1.blk.bytes ∧ Fresh (w.heap.size + 1) x.2
  bel : Below w.heap.size w wr
theorem Fill.below {w wr w2 : World} {ms : List Mk} {S : List (List Int)} {n k : Nat} {lv : Value} {D : List (It × Value)} {R : List (List Int)} (h : Fill w wr ms S n k lv D R) (hb : Below wr.heap.size wr w2) : Fill w w2 ms S n k lv D R :=
  ⟨h.len, h.its, h.secs, h.row.below hb h.row.lt, fun x hx => ⟨(h.all x hx).1, (h.all x hx).2.1.below hb, (h.all x hx).2.2⟩, stay h.bel hb⟩
theorem drop_at {ms : List Mk} {k : Nat} {m : Mk} (h : ms[k]? = some m) : ms.drop k = m :: ms.drop (k + 1) := by
  obtain ⟨hk, rfl⟩ := List.getElem?_eq_some_iff.1 h
  exact List.drop_eq_getElem_cons hk
theorem its_no {ms : List Mk} {k : Nat} {m : Mk} {D : List It} {R : List (List Int)} (h : ms[k]? = some m) (hh : hasBlock m.1 = false) : (itemsP (ms.drop k) R).map (D ++ ·) = (itemsP (ms.drop (k + 1)) R).map ((D ++ [⟨m, Bk.none⟩]) ++ ·) := by
  rw [drop_at h]
  simp only [itemsP, hh, Bool.false_eq_true, if_false, Option.map_map]
  congr 1
  funext x
  simp
theorem its_yes {ms : List Mk} {k : Nat} {m : Mk} {D : List It} {y : List Int} {R : List (List Int)} (h : ms[k]? = some m) (hh : hasBlock m.1 = true) (hy : isBlock y = true) : (itemsP (ms.drop k) (y :: R)).map (D ++ ·) = (itemsP (ms.drop (k + 1)) R).map ((D ++ [⟨m, readOf y⟩]) ++ ·) := by
  rw [drop_at h]
  simp only [itemsP, hh, if_true, hy, Option.map_map]
  congr 1
  funext x
  simp
theorem its_end {ms : List Mk} {k : Nat} {m : Mk} {D : List It} (h : ms[k]? = some m) (hh : hasBlock m.1 = true) : (itemsP (ms.drop k) []).map (D ++ ·) = none := by
  rw [drop_at h]
  simp only [itemsP, hh, if_true, Option.map_none]
theorem its_bad {ms : List Mk} {k : Nat} {m : Mk} {D : List It} {y : List Int} {R : List (List Int)} (h : ms[k]? = some m) (hh : hasBlock m.1 = true) (hy : isBlock y = false) : (itemsP (ms.drop k) (y :: R)).map (D ++ ·) = none := by
  rw [drop_at h]
  simp only [itemsP, hh, if_true, hy, Bool.false_eq_true, if_false, Option.map_none]
theorem only_set {g : Nat} {w : World} (i j : Nat) (u v : Value) : Only (fun k => k = g) w ((w.setCell ⟨g, i, none⟩ u).setCell ⟨g, j, none⟩ v) := ((Only.refl (fun k => k = g) w).setCell (p := ⟨g, i, none⟩) (.inl rfl) u).setCell (p := ⟨g, j, none⟩) (.inl rfl) v
/-- An item more. -/
theorem Fill.step {w wr w2 : World} {ms : List Mk} {S : List (List Int)} {n k : Nat} {lv lv2 : Value} {D : List (It × Value)} {R R2 : List (List Int)} (h : Fill w wr ms S n k lv D R) {x : It} {bv : Value} (hi : itemsP ms S = (itemsP (ms.drop (k + 1)) R2).map ((D.map (·.1) ++ [x]) ++ ·)) (hs : SecsAt w lv2 R2)
    (hr : Blk w2 w.heap.size (itCells (D ++ (x, bv) :: List.replicate (n - (k + 1)) nilI))) (hD : ∀ y ∈ D, BytesAt w2 y.2 y.1.blk.bytes) (hx : x.Wf ∧ BytesAt w2 bv x.blk.bytes ∧ Fresh (w.heap.size + 1) bv) (hb : Below w.heap.size w w2) : Fill w w2 ms S n (k + 1) lv2 (D ++ [(x, bv)]) R2 := by
  refine ⟨by rw [List.length_append, h.len]; rfl, by rw [hi]; simp, hs, by rw [List.append_assoc]; exact hr, fun y hy => ?_, hb⟩
  rcases List.mem_append.1 hy with hy | hy
  · exact ⟨(h.all y hy).1, hD y hy, (h.all y hy).2.2⟩
  · obtain rfl := List.mem_singleton.1 hy
    exact hx
theorem bytes_only {w w2 : World} {g : Nat} {sv : Value} {l : List Int} (h : BytesAt w sv l) (ho : Only (fun k => k = g) w w2) (hf : Fresh (g + 1) sv) : BytesAt w2 sv l := h.only ho fun b o n c e => by have := hf b o n c e; omega
set_option maxRecDepth 100000 in
set_option maxHeartbeats 4000000 in
theorem itemsOf_any (ms : List Mk) (hms : ∀ m ∈ ms, okMark m = true) (n : Nat) (hn : ms.length = n) (hlen : n ≤ 24) (S : List (List Int)) (hS : S.length ≤ 100000) (mv sv : Value) (w : World) (hm : MarksAt w mv ms) (hs : SecsAt w sv S) : Calls Tryz.prog 97 #[mv, sv] w fun e w' => ItemsOut (itemsP ms S) w.heap.size e w' ∧ Below w.heap.size w w' := by
  obtain ⟨a, cap, rfl, hc⟩ := hm
  rw [hn]
  have HC := Lib.hid hc
  have HMS := Lib.hid hms
  have HN := Lib.hid hn
  have HSL := Lib.hid hS
  have HS := Lib.hid hs
  have hmk := madeIt n (by omega) w
  clear hc hms hn hs hS
  go_enter Tryz.func97, Tryz.ntmps97
  go_upto_region 1 with fail
  go_wp2_with fail
  have HT0 : Hid (Fill w (w.alloc (.cells (madeCells (It.none.arr (.slice none 0 0)) (n * 47)) 75)) ms S n 0 sv [] S) := Lib.hid (by
    have hb : Below w.heap.size w (w.alloc (.cells (madeCells (It.none.arr (.slice none 0 0)) (n * 47)) 75)) := (Below.refl _ _).alloc (Nat.le_refl _) _
    refine ⟨rfl, ?_, HS.out, ?_, fun x hx => (by cases hx), hb⟩
    · simp
    · have := Blk.new w (madeCells (It.none.arr (.slice none 0 0)) (n * 47)) 75
      rw [made_its] at this
      exact this)
  go_loopg [1, 19] n (fun q u1 i wr => ∃ (k : Nat) (lv : Value) (D : List (It × Value)) (R : List (List Int)), lv = u1 ∧ n - k ≤ q ∧ k ≤ n ∧ i = .int .i64 k ∧ R.length ≤ 100000 ∧ Fill w wr ms S n k lv D R)
  case atStart => exact ⟨0, _, [], S, rfl, by omega, by omega, rfl, HSL.out, HT0.out⟩
  case round =>
    obtain ⟨k, lv, D, R, rfl, hq, hk, rfl, hRl, hf⟩ := hrel
    have HF := Lib.hid hf
    have HRL := Lib.hid hRl
    clear hf HT0 hmk hRl
    by_cases hlt : k < n
    · obtain ⟨m, hx⟩ : ∃ m, ms[k]? = some m := ⟨_, List.getElem?_eq_getElem (by have := HN.out; omega)⟩
      obtain ⟨g, o, rfl, c0', c1'⟩ := HC.out k m hx
      have HMK := Lib.hid hx
      have HOM := Lib.hid (HMS.out m (List.mem_of_getElem? hx))
      have HTE := Lib.hid fun w => tell_any m HOM.out w
      have c0 := (HF.out.bel.cell (block_lt_of_cell c0')).trans c0'
      have c1 := (HF.out.bel.cell (block_lt_of_cell c1')).trans c1'
      have gk : decide ((k : Int) < (n : Int)) = true := decide_eq_true (by omega)
      have hk0 : (k : Int) < (n : Int) := by omega
      clear hx c0' c1'
      obtain ⟨mk, mi⟩ := m
      simp only at c0 c1
      have hA : (itCells D).length = k * 47 := itCells_len (fun x hx => (HF.out.all x hx).1) HF.out.len
      have hrep : List.replicate (n - k) nilI = nilI :: List.replicate (n - (k + 1)) nilI := by rw [show n - k = n - (k + 1) + 1 by omega]; rfl
      have HA := Lib.hid hA
      have HB1 : Hid (Below wr.heap.size wr (wr.alloc (.cells #[.int .i64 mk, .int .i64 mi] 68))) := Lib.hid ((Below.refl _ _).alloc (Nat.le_refl _) _)
      have HF1 := Lib.hid (HF.out.below HB1.out)
      have hr1 := HF1.out.row
      rw [hrep] at hr1
      have HR1 := Lib.hid hr1
      have p0 : (wr.alloc (.cells #[.int .i64 mk, .int .i64 mi] 68)).cell? ⟨w.heap.size, k * 47, none⟩ = some (.int .i64 0) := hr1.cell (by rw [itCells_mid, List.getElem?_append_right (by omega), hA, Nat.sub_self]; rfl)
      have p1 : (wr.alloc (.cells #[.int .i64 mk, .int .i64 mi] 68)).cell? ⟨w.heap.size, k * 47 + 1, none⟩ = some (.int .i64 0) := hr1.cell (by rw [itCells_mid, List.getElem?_append_right (by omega), hA, show k * 47 + 1 - k * 47 = 1 by omega]; rfl)
      have f0 : (wr.alloc (.cells #[.int .i64 mk, .int .i64 mi] 68)).frozen? ⟨w.heap.size, k * 47, none⟩ = false := hr1.frozen _
      have f1 : (wr.alloc (.cells #[.int .i64 mk, .int .i64 mi] 68)).frozen? ⟨w.heap.size, k * 47 + 1, none⟩ = false := hr1.frozen _
      have HNE : Hid (wr.heap.size ≠ w.heap.size) := Lib.hid (by have := HF.out.row.lt; omega)
      have HV1 : Hid (Blk (wr.alloc (.cells #[.int .i64 mk, .int .i64 mi] 68)) wr.heap.size [.int .i64 mk, .int .i64 mi]) := Lib.hid (Blk.new wr #[.int .i64 mk, .int .i64 mi] 68)
      clear hA hrep hr1
      go_upto_region 6 with fail
      have HO2 := Lib.hid (only_set (g := w.heap.size) (w := wr.alloc (.cells #[.int .i64 mk, .int .i64 mi] 68)) (k * 47) (k * 47 + 1) (.int .i64 mk) (.int .i64 mi))
      have HR2 : Hid (Blk (((wr.alloc (.cells #[.int .i64 mk, .int .i64 mi] 68)).setCell ⟨w.heap.size, k * 47, none⟩ (.int .i64 mk)).setCell ⟨w.heap.size, k * 47 + 1, none⟩ (.int .i64 mi)) w.heap.size (itCells (D ++ (⟨(mk, mi), Bk.none⟩, .slice none 0 0) :: List.replicate (n - (k + 1)) nilI))) := Lib.hid (by
        have := (HR1.out.set (k * 47) (.int .i64 mk)).set (k * 47 + 1) (.int .i64 mi)
        rwa [set_mark (m := (mk, mi)) HA.out] at this)
      have HV2 := Lib.hid (HV1.out.only HO2.out HNE.out)
      have HB2 : Hid (Below w.heap.size w (((wr.alloc (.cells #[.int .i64 mk, .int .i64 mi] 68)).setCell ⟨w.heap.size, k * 47, none⟩ (.int .i64 mk)).setCell ⟨w.heap.size, k * 47 + 1, none⟩ (.int .i64 mi))) := Lib.hid (HF1.out.bel.trans (HO2.out.below HF1.out.bel.size fun k hk => Nat.le_of_eq hk.symm))
      have HD2 : Hid (∀ y ∈ D, BytesAt (((wr.alloc (.cells #[.int .i64 mk, .int .i64 mi] 68)).setCell ⟨w.heap.size, k * 47, none⟩ (.int .i64 mk)).setCell ⟨w.heap.size, k * 47 + 1, none⟩ (.int .i64 mi)) y.2 y.1.blk.bytes) := Lib.hid fun y hy => bytes_only (HF1.out.all y hy).2.1 HO2.out (HF1.out.all y hy).2.2
      clear p0 p1 f0 f1 HO2 HR1 HV1 HF1 HB1 c0 c1
      generalize ((wr.alloc (.cells #[.int .i64 mk, .int .i64 mi] 68)).setCell ⟨w.heap.size, k * 47, none⟩ (.int .i64 mk)).setCell ⟨w.heap.size, k * 47 + 1, none⟩ (.int .i64 mi) = w2 at *
      have c0 : w2.cell? ⟨wr.heap.size, 0, none⟩ = some (.int .i64 mk) := HV2.out.cell rfl
      have c1 : w2.cell? ⟨wr.heap.size, 1, none⟩ = some (.int .i64 mi) := HV2.out.cell rfl
      go_wp2_with fail
      refine (HTE.out _).mono ?_
      rintro e w3 ⟨rfl, hb⟩
      have HR3 := Lib.hid (HR2.out.below hb HR2.out.lt)
      have HB3 := Lib.hid (stay HB2.out hb)
      have HD3 := Lib.hid fun y hy => (HD2.out y hy).below hb
      clear hb HR2 HV2 HB2 HD2 c0 c1
      cases hh : hasBlock mk
      · have HST : Hid (Fill w w3 ms S n (k + 1) lv (D ++ [(⟨(mk, mi), Bk.none⟩, .slice none 0 0)]) R) := Lib.hid (HF.out.step (by rw [HF.out.its]; exact its_no HMK.out hh) HF.out.secs HR3.out HD3.out ⟨⟨by have := okMark_iff.1 HOM.out; simp only at this; constructor <;> simp only <;> omega, by have := okMark_iff.1 HOM.out; simp only at this; constructor <;> simp only <;> omega, none_wf⟩, BytesAt.nil _ _ _, Fresh.nil _⟩ HB3.out)
        clear hh
        go_wp2_with fail
        go_roundg (n - (k + 1))
        case measure => omega
        case rel => exact ⟨k + 1, lv, _, R, rfl, by omega, by omega, by go_num, HRL.out, HST.out⟩
      · obtain ⟨ra, rc, rfl, hrc, hrs⟩ := HF.out.secs
        cases R with
        | nil =>
          have HX : Hid (itemsP ms S = none) := Lib.hid (by rw [HF.out.its]; exact its_end HMK.out hh)
          simp only [List.length_nil]
          clear hh
          go_wp2_with fail
          first | go_ret2 | go_ret
          exact ⟨.inl ⟨HX.out, rfl⟩, HB3.out⟩
        | cons y R =>
          obtain ⟨y1, yg, yo, rfl, y2⟩ := hrs 0 y rfl
          rw [Nat.zero_mul, Nat.add_zero] at y2
          obtain ⟨rn, hrn⟩ : ∃ r, (y :: R).length = r := ⟨_, rfl⟩
          have HRW := Lib.hid (show SecsAt w (.slice (some ⟨yg, yo, none⟩) rn rc) (y :: R) from ⟨_, rc, by rw [hrn], hrc, hrs⟩)
          have hrn1 : 1 ≤ rn := by rw [← hrn]; simp
          have HREST := Lib.hid (HRW.out.cut 1 rn hrn1 (Nat.le_refl _) R (by simp [← hrn]))
          rw [hrn]
          have HRN := Lib.hid hrn
          have hrn0 : (0 : Int) < (rn : Int) := by omega
          have gz : ((rn : Int) == 0) = false := by rw [beq_dec]; exact decide_eq_false (by omega)
          have HY := Lib.hid (y2.below HB3.out (y2.lt (by rw [y1.size]; decide)))
          have HYS := Lib.hid y1.size
          have HDE := Lib.hid fun w => decode_any y y1 w
          have HDW := Lib.hid (show (decB y).Wf from by unfold decB; split; exact readOf_wf y1; exact none_wf)
          have HRL1 : Hid (R.length ≤ 100000) := Lib.hid (by have := HRL.out; simp at this; omega)
          have HITS := Lib.hid HF.out.its
          clear y1 y2 hrs hrc hrn HRL
          go_upto_region 10 with fail
          refine wp_region_lit ?_
          refine takeL (.slice (some ⟨yg, yo, none⟩) rn rc) rfl (by go_simp) ?_
          try simp only [Act.put, List.setIfInBounds_toArray, List.set_cons_succ, List.set_cons_zero]
          refine takeL (.pointer (some ⟨yg, yo, none⟩)) rfl (by go_simp; intro h; omega) ?_
          try simp only [Act.put, List.setIfInBounds_toArray, List.set_cons_succ, List.set_cons_zero]
          refine load115 (cs := (u8s y).toArray) HY.out HYS.out rfl rfl ?_
          try simp only [Act.put, List.setIfInBounds_toArray, List.set_cons_succ, List.set_cons_zero]
          refine wpList_op rfl fun K hK => ?_
          go_simp
          refine (HDE.out _).mono ?_
          rintro e w4 ⟨bv, rfl, hby, hb, hfr⟩
          have HR4 := Lib.hid (HR3.out.below hb HR3.out.lt)
          have HB4 := Lib.hid (stay HB3.out hb)
          have HD4 := Lib.hid fun y hy => (HD3.out y hy).below hb
          have HBY := Lib.hid hby
          have HFR : Hid (Fresh (w.heap.size + 1) bv) := Lib.hid fun b o n c e => by have := hfr b o n c e; have := HR3.out.lt; omega
          have HLB := Lib.hid hby.len
          clear hby hb hfr HR3 HB3 HD3 HY HDE
          refine hK _ _ ?_
          clear hK K
          try simp only [Act.put, List.setIfInBounds_toArray, List.set_cons_succ, List.set_cons_zero]
          refine takeL (.tuple #[.agg ((decB y).arr bv), .int .u32 (decN y), .int .i64 (decE y)]) rfl (by go_simp) ?_
          try simp only [Act.put, List.setIfInBounds_toArray, List.set_cons_succ, List.set_cons_zero]
          refine takeL (.agg ((decB y).arr bv)) rfl (by go_simp) ?_
          try simp only [Act.put, List.setIfInBounds_toArray, List.set_cons_succ, List.set_cons_zero]
          refine takeL (.int .u32 (decN y)) rfl (by go_simp) ?_
          try simp only [Act.put, List.setIfInBounds_toArray, List.set_cons_succ, List.set_cons_zero]
          refine takeL (.int .i64 (decE y)) rfl (by go_simp) ?_
          try simp only [Act.put, List.setIfInBounds_toArray, List.set_cons_succ, List.set_cons_zero]
          refine alloc_g zero73b rfl ?_
          intro w5 hA hb hl
          try simp only [Act.put, List.setIfInBounds_toArray, List.set_cons_succ, List.set_cons_zero]
          refine store_all (cs := (decB y).arr bv) hA (by rw [Bk.arr_size HDW.out]; exact Bk.cells_length none_wf nilv) (info73s HDW.out _) (Bk.arr_one (slice_one HLB.out)) rfl rfl rfl ?_
          intro w6 hD hO hlD
          try simp only [Act.put, List.setIfInBounds_toArray, List.set_cons_succ, List.set_cons_zero]
          have hbb : Below w4.heap.size w4 w6 := hb.trans (hO.below hb.size fun k hk => Nat.le_of_eq hk.symm)
          have HR6 := Lib.hid (HR4.out.below hbb HR4.out.lt)
          have HB6 := Lib.hid (stay HB4.out hbb)
          have HD6 := Lib.hid fun y hy => (HD4.out y hy).below hbb
          have HBY6 := Lib.hid (HBY.out.below hbb)
          have HV6 := Lib.hid hD
          have HNE6 : Hid (w4.heap.size ≠ w.heap.size) := Lib.hid (by have := HR4.out.lt; omega)
          generalize w4.heap.size = t at *
          clear hA hb hl hD hO hlD hbb HR4 HB4 HD4 HBY
          refine takeL (.int .u32 (decN y)) rfl (by go_simp) ?_
          try simp only [Act.put, List.setIfInBounds_toArray, List.set_cons_succ, List.set_cons_zero]
          refine takeL (.int .i64 (decE y)) rfl (by go_simp) ?_
          try simp only [Act.put, List.setIfInBounds_toArray, List.set_cons_succ, List.set_cons_zero]
          refine wpList_nil ?_
          cases hy : isBlock y
          · have HX : Hid (itemsP ms S = none) := Lib.hid (by rw [HITS.out]; exact its_bad HMK.out hh hy)
            obtain ⟨q1, q2, q3⟩ := dec_no' hy
            rw [q3]
            clear hh hy q1 q2 q3
            go_wp2_with fail
            first | go_ret2 | go_ret
            exact ⟨.inl ⟨HX.out, rfl⟩, HB6.out⟩
          · obtain ⟨q1, q2, q3⟩ := dec_yes' hy
            rw [q1] at HV6 HBY6 HDW
            rw [q3, q1]
            have HITS2 : Hid (itemsP ms S = (itemsP (ms.drop (k + 1)) R).map ((D.map (·.1) ++ [⟨(mk, mi), readOf y⟩]) ++ ·)) := Lib.hid (by rw [HITS.out]; exact its_yes HMK.out hh hy)
            clear hh hy q1 q2 q3 HITS
            have hCS : ∀ cs : List Value, True := fun _ => trivial
            go_upto_region 13 with fail
            refine startH (fun wq => Only (fun k => k = w.heap.size) w6 wq) (by kernel_rfl) ?_
            refine takeH 0 (some 49) (.slice (some ⟨w.heap.size, 0, none⟩) n n) rfl rfl (by kernel_rfl) (by kernel_rfl) (by kernel_rfl) (fun _ _ _ h => h) rfl (fun wq hS => by go_simp) (Only.refl _ _).drew ?_
            try simp only [Act.put, List.setIfInBounds_toArray, List.set_cons_succ, List.set_cons_zero]
            refine takeH 1 (some 50) (.int .i64 k) rfl rfl (by kernel_rfl) (by kernel_rfl) (by kernel_rfl) (fun _ _ _ h => h) rfl (fun wq hS => by go_simp) (Only.refl _ _).drew ?_
            try simp only [Act.put, List.setIfInBounds_toArray, List.set_cons_succ, List.set_cons_zero]
            refine takeH 2 (some 51) (.agg ((readOf y).arr bv)) rfl rfl (by kernel_rfl) (by kernel_rfl) (by kernel_rfl) (fun _ _ _ h => h) rfl (fun wq hS => exec_load_at wq _ _ 73 _ rfl (t) (0) rfl ((readOf y).arr bv) _ Tryz.underlying73 rfl (by rw [Bk.arr_size HDW.out]; exact info73) (Blk.all (HV6.out.only hS HNE6.out) rfl)) (Only.refl _ _).drew ?_
            try simp only [Act.put, List.setIfInBounds_toArray, List.set_cons_succ, List.set_cons_zero]
            refine takeH 3 (some 52) (.slice (some ⟨yg, yo, none⟩) rn rc) rfl rfl (by kernel_rfl) (by kernel_rfl) (by kernel_rfl) (fun _ _ _ h => h) rfl (fun wq hS => by go_simp) (Only.refl _ _).drew ?_
            try simp only [Act.put, List.setIfInBounds_toArray, List.set_cons_succ, List.set_cons_zero]
            refine takeH 4 (some 53) (.slice (cutA (some ⟨yg, yo, none⟩) 1 rc 64) (rn - 1) (rc - 1)) rfl rfl (by kernel_rfl) (by kernel_rfl) (by kernel_rfl) (fun _ _ _ h => h) rfl (fun wq hS => by exact exec_from24 wq _ _ _ _ rfl (some ⟨yg, yo, none⟩) rn rc 1 rfl rfl hrn1) (Only.refl _ _).drew ?_
            try simp only [Act.put, List.setIfInBounds_toArray, List.set_cons_succ, List.set_cons_zero]
            refine takeH 5 (some 54) (.pointer (some ⟨w.heap.size, k * 47, none⟩)) rfl rfl (by kernel_rfl) (by kernel_rfl) (by kernel_rfl) (fun _ _ _ h => h) rfl (fun wq hS => by go_simp) (Only.refl _ _).drew ?_
            try simp only [Act.put, List.setIfInBounds_toArray, List.set_cons_succ, List.set_cons_zero]
            refine takeH 6 (some 55) (.pointer (some ⟨w.heap.size, k * 47 + 2, none⟩)) rfl rfl (by kernel_rfl) (by kernel_rfl) (by kernel_rfl) (fun _ _ _ h => h) rfl (fun wq hS => by go_simp) (Only.refl _ _).drew ?_
            try simp only [Act.put, List.setIfInBounds_toArray, List.set_cons_succ, List.set_cons_zero]
            refine oneH 7 (by kernel_rfl) rfl rfl fun K hK => ?_
            have HFIT : Hid (k * 47 + 2 + ((readOf y).arr bv).size ≤ (itCells (D ++ (⟨(mk, mi), Bk.none⟩, .slice none 0 0) :: List.replicate (n - (k + 1)) nilI)).length) := Lib.hid (by
              rw [Bk.arr_size HDW.out, itCells_mid, List.length_append, HA.out]
              simp only [List.length_cons, List.length_append, Bk.cells_length none_wf]
              omega)
            refine wp_store_at 73 _ _ rfl w.heap.size (k * 47 + 2) ((readOf y).arr bv) rfl rfl _ HR6.out.drew (info73s HDW.out _) HFIT.out (Bk.arr_one (slice_one HLB.out)) ?_
            have HR7 := Lib.hid (HR6.out.drew.row (splice (itCells (D ++ (⟨(mk, mi), Bk.none⟩, .slice none 0 0) :: List.replicate (n - (k + 1)) nilI)) (k * 47 + 2) ((readOf y).arr bv)))
            rw [set_blk HA.out none_wf HDW.out] at HR7
            have HO7 := Lib.hid ((Only.refl (fun k => k = w.heap.size) w6).drew.setRow (g := w.heap.size) (.inl rfl) (splice (itCells (D ++ (⟨(mk, mi), Bk.none⟩, .slice none 0 0) :: List.replicate (n - (k + 1)) nilI)) (k * 47 + 2) ((readOf y).arr bv)))
            generalize w6.drew.setRow w.heap.size (splice (itCells (D ++ (⟨(mk, mi), Bk.none⟩, .slice none 0 0) :: List.replicate (n - (k + 1)) nilI)) (k * 47 + 2) ((readOf y).arr bv)) = w7 at *
            refine hK _ _ HO7.out ?_
            clear hK K HFIT
            try simp only [Act.put, List.setIfInBounds_toArray, List.set_cons_succ, List.set_cons_zero]
            refine takeH 8 (some 1) (.slice (cutA (some ⟨yg, yo, none⟩) 1 rc 64) (rn - 1) (rc - 1)) rfl rfl (by kernel_rfl) (by kernel_rfl) (by kernel_rfl) (fun _ _ _ h => h) rfl (fun wq hS => by go_simp) HO7.out ?_
            try simp only [Act.put, List.setIfInBounds_toArray, List.set_cons_succ, List.set_cons_zero]
            refine wpAnyH_done (by kernel_rfl) ?_ _
            have HB7 : Hid (Below w.heap.size w w7) := Lib.hid (HB6.out.trans (HO7.out.below HB6.out.size fun k hk => Nat.le_of_eq hk.symm))
            have HST : Hid (Fill w w7 ms S n (k + 1) (.slice (cutA (some ⟨yg, yo, none⟩) 1 rc 64) (rn - 1) (rc - 1)) (D ++ [(⟨(mk, mi), readOf y⟩, bv)]) R) := Lib.hid (HF.out.step HITS2.out HREST.out HR7.out (fun y hy => bytes_only (HD6.out y hy) HO7.out (HF.out.all y hy).2.2) ⟨⟨by have := okMark_iff.1 HOM.out; simp only at this; constructor <;> simp only <;> omega, by have := okMark_iff.1 HOM.out; simp only at this; constructor <;> simp only <;> omega, HDW.out⟩, bytes_only HBY6.out HO7.out HFR.out, HFR.out⟩ HB7.out)
            go_wp2_with fail
            go_roundg (n - (k + 1))
            case measure => omega
            case rel => exact ⟨k + 1, _, _, R, rfl, by omega, by omega, by go_num, HRL1.out, HST.out⟩
    · obtain rfl : k = n := by omega
      have HX : Hid (itemsP ms S = some (D.map (·.1))) := Lib.hid (by
        rw [HF.out.its, List.drop_of_length_le (by have := HN.out; omega)]
        simp [itemsP])
      have HIT : Hid (ItemsAt wr (.slice (some ⟨w.heap.size, 0, none⟩) k k) D) := Lib.hid (by
        have h := HF.out.row
        rw [Nat.sub_self, List.replicate_zero, List.append_nil] at h
        exact ItemsAt.of_row h HF.out.len (Nat.le_refl _) fun x hx => ⟨(HF.out.all x hx).1, (HF.out.all x hx).2.1⟩)
      have gk : decide ((k : Int) < (k : Int)) = false := decide_eq_false (by omega)
      go_wp2_with fail
      first | go_ret2 | go_ret
      exact ⟨.inr ⟨_, D, HX.out, rfl, HIT.out, fun x hx b o n c e => by have := (HF.out.all x hx).2.2 b o n c e; omega⟩, HF.out.bel⟩
theorem zero187s : (Tryz.prog.info? 187).bind (·.zero) = some (.agg #[.int .u32 0, .bool false, .slice none 0 0]) := by kernel_rfl
theorem info187s : (Tryz.prog.info? 187).map (·.size) = some 3 := by kernel_rfl
theorem sum_one {w : World} {sv : Value} {l : List Mk} (h : MarksAt w sv l) (n : Int) (b : Bool) : ∀ v ∈ (#[.int .u32 n, .bool b, sv] : Array Value), v.oneCell' = true := by
  obtain ⟨a, cap, rfl, _⟩ := h
  intro v hv
  simp only [List.mem_toArray, List.mem_cons, List.not_mem_nil, or_false] at hv
  rcases hv with rfl | rfl | rfl <;> rfl
theorem gat_end {L : List (List Int)} {f t : Nat} {P : List It} (h : L.length ≤ t) : gat L (f + 1) P t = ([], 0) := by
  unfold gat
  rw [List.getElem?_eq_none h]
theorem gat_many {L : List (List Int)} {f t : Nat} {P : List It} (h : 64 < P.length) : gat L (f + 1) P t = ([], 0) := by
  unfold gat
  cases L[t]? with
  | none => rfl
  | some y => simp only; rw [if_neg (by omega)]
theorem gat_nosum {L : List (List Int)} {f t : Nat} {P : List It} {y : List Int} (hy : L[t]? = some y) (h : isSum y = false) : gat L (f + 1) P t = ([], 0) := by
  unfold gat
  rw [hy]
  simp [h]
theorem gat_none {L : List (List Int)} {f t : Nat} {P : List It} {y : List Int} (hy : L[t]? = some y) (hi : itemsP (sreadOf y).marks (L.drop (t + 1)) = none) : gat L (f + 1) P t = ([], 0) := by
  unfold gat
  rw [hy]
  simp only [hi]
  split <;> rfl
theorem gat_some {L : List (List Int)} {f t : Nat} {P p : List It} {y : List Int} (hy : L[t]? = some y) (h : isSum y = true) (hP : P.length ≤ 64) (hi : itemsP (sreadOf y).marks (L.drop (t + 1)) = some p) : gat L (f + 1) P t = if (sreadOf y).more then gat L f (P ++ p) (t + (1 + blocks (sreadOf y).marks)) else (P ++ p, t + (1 + blocks (sreadOf y).marks)) := by
  conv => lhs; unfold gat
  rw [hy]
  simp only [h, hP, and_self, if_true, hi]
theorem itemsP_len {ms : List Mk} {S : List (List Int)} {p : List It} (h : itemsP ms S = some p) : p.length = ms.length ∧ blocks ms ≤ S.length := by
  induction ms generalizing S p with
  | nil => cases h; exact ⟨rfl, by simp [blocks]⟩
  | cons m r ih =>
    unfold itemsP at h
    split at h
    · rename_i hh
      cases S with
      | nil => cases h
      | cons y t =>
        simp only at h
        split at h
        · obtain ⟨q, hq, rfl⟩ := Option.map_eq_some_iff.1 h
          obtain ⟨h1, h2⟩ := ih hq
          simp only [List.length_cons, blocks, hh, if_true]
          omega
        · cases h
    · rename_i hh
      obtain ⟨q, hq, rfl⟩ := Option.map_eq_some_iff.1 h
      obtain ⟨h1, h2⟩ := ih hq
      simp only [List.length_cons, blocks]
      rw [if_neg hh]
      omega
theorem sum_good {y : List Int} (h : isSum y = true) : goodMarks (sreadOf y).marks = true := by
  unfold isSum at h
  rw [Bool.and_eq_true] at h
  exact h.1
/-- What gather hands back. -/
def GatOut (r : List It × Nat) (e : Ending) (w' : World) : Prop := ∃ iv pl, r.1 = pl.map (·.1) ∧ e = .returned (.tuple #[iv, .int .i64 r.2]) ∧ ItemsAt w' iv pl
theorem GatOut.none {r : List It × Nat} {w' : World} (h : r = ([], 0)) : GatOut r (.returned (.tuple #[.slice Option.none 0 0, .int .i64 0])) w' := by
  subst h
  exact ⟨_, [], rfl, rfl, ItemsAt.nil _ _ _⟩
theorem zero135 : (Tryz.prog.info? 135).bind (·.zero) = some (.agg #[.slice none 0 0, .slice none 0 0, .int .i64 0, .int .i64 0]) := by kernel_rfl
theorem info135 : (Tryz.prog.info? 135).map (·.size) = some 4 := by kernel_rfl
theorem built135e : Tryz.prog.built 135 [] = some #[.slice none 0 0, .slice none 0 0, .int .i64 0, .int .i64 0] := by kernel_rfl
theorem built135 (a b : Option Addr) (k c n d : Nat) (x y : Int) : Tryz.prog.built 135 [(0, .slice a k c), (1, .slice b n d), (2, .int .i64 x), (3, .int .i64 y)] = some #[.slice a k c, .slice b n d, .int .i64 x, .int .i64 y] := by kernel_rfl
theorem four_one (a b : Option Addr) (k c n d : Nat) (x y : Int) : ∀ v ∈ (#[.slice a k c, .slice b n d, .int .i64 x, .int .i64 y] : Array Value), v.oneCell' = true := fun v hv => by
  simp only [List.mem_toArray, List.mem_cons, List.not_mem_nil, or_false] at hv
  rcases hv with rfl | rfl | rfl | rfl <;> rfl
theorem gather_len {L : List (List Int)} : (gather L).2 ≤ L.length := by
  have key : ∀ f P t, t ≤ L.length → (gat L f P t).2 ≤ L.length := by
    intro f
    induction f with
    | zero => intro P t _; exact Nat.zero_le _
    | succ f ih =>
      intro P t ht
      unfold gat
      split
      · exact Nat.zero_le _
      · rename_i y hy
        have htl := (List.getElem?_eq_some_iff.1 hy).1
        split
        · rename_i hc
          cases e : itemsP (sreadOf y).marks (L.drop (t + 1)) with
          | none => exact Nat.zero_le _
          | some p =>
            have h2 := (itemsP_len e).2
            rw [List.length_drop] at h2
            simp only
            split
            · exact ih _ _ (by omega)
            · simp only; omega
        · exact Nat.zero_le _
  exact key _ _ _ (Nat.zero_le _)
theorem gather_many {L : List (List Int)} : (gather L).1.length ≤ 88 := by
  have key : ∀ f P t, (gat L f P t).1.length ≤ 88 := by
    intro f
    induction f with
    | zero => intro P t; exact Nat.zero_le _
    | succ f ih =>
      intro P t
      unfold gat
      split
      · exact Nat.zero_le _
      · rename_i y hy
        split
        · rename_i hc
          cases e : itemsP (sreadOf y).marks (L.drop (t + 1)) with
          | none => exact Nat.zero_le _
          | some p =>
            have h2 := (itemsP_len e).1
            have h3 := (good_len (sum_good hc.2)).2
            simp only
            split
            · exact ih _ _
            · simp only [List.length_append]; omega
        · exact Nat.zero_le _
  exact key _ _ _
theorem noIt4 (a b : Option Addr) (k c n d : Nat) (x y : Int) : NoIt [.slice a k c, .slice b n d, .int .i64 x, .int .i64 y] := ⟨by simp, fun z hz => by simp at hz⟩
theorem layTo_prefix (n : Int) (l : List It) {k m : Nat} (h : k ≤ m) : (layTo n l k).1 <+: (layTo n l m).1 := by
  obtain ⟨d, rfl⟩ := Nat.exists_eq_add_of_le h
  clear h
  induction d with
  | zero => exact List.prefix_refl _
  | succ d ih => rw [← Nat.add_assoc, layTo_succ]; exact ih.trans (List.prefix_append _ _)
theorem lay_first {l : List It} (h : mayBe l = true) (n : Int) (hn : Seq32 n) : ∃ more, (lay2 n l).1[0]? = some (headOfPart n more (chunk l 0)) := by
  have hp := (parts_pos h).1
  obtain ⟨r, hr⟩ := layTo_prefix n l hp
  refine ⟨decide (24 * 0 + 24 < l.length), ?_⟩
  unfold lay2
  rw [← hr, layTo_succ]
  have : (n + ((0 : Nat) : Int)) % M32 = n := by
    have := hn.1
    have := hn.2
    simp only [M32] at *
    omega
  rw [this]
  simp [layTo, partOf]
theorem lay2_sc {l : List It} (w : ∀ x ∈ l, x.Wf) (n : Int) : ∀ y ∈ (lay2 n l).1, Sc y := layTo_sc w n _
structure R2 (w wx : World) (al : Value) (X : List (List Int)) (f : Nat) (F : List Value) (t : Nat) (iv dv : Value) (pb : Int) (lb : Nat) (pl : List (It × Value)) (B : List It) : Prop where
  bel : Below w.heap.size w wx
  al : SecsAt wx al X
  fb : Blk wx f F
  it : ItemsAt wx iv pl
  eq : pl.map (·.1) = B
  box : Blk wx t [iv, dv, .int .i64 lb, .int .i64 pb]
theorem R2.below {w wx wy : World} {al : Value} {X : List (List Int)} {f : Nat} {F : List Value} {t : Nat} {iv dv : Value} {pb : Int} {lb : Nat} {pl : List (It × Value)} {B : List It} (h : R2 w wx al X f F t iv dv pb lb pl B) (hb : Below wx.heap.size wx wy) : R2 w wy al X f F t iv dv pb lb pl B :=
  ⟨stay h.bel hb, h.al.below hb, h.fb.below hb h.fb.lt, h.it.below hb, h.eq, h.box.below hb h.box.lt⟩

end Go.Proofs.YthlnmdihdcfphaaGreatDoor
