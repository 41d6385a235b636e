/- HeadsLeast's walk: pages taken one by one, the least that is not there each time: just so many as may be. -/
import Derived.Test.YtbokbijehilbiaaTells
import Derived.Test.YtbokbijehilbiaaBools
namespace Go.Proofs.Ytbokbijehilbiaa
set_option linter.unusedSimpArgs false
set_option linter.unusedVariables false
open Go.RowKit

def bits (l : List Bool) : List Int := l.map fun x => if x then 1 else 0
theorem bits_length (l : List Bool) : (bits l).length = l.length := by simp [bits]
theorem bits_yes {l : List Bool} {k : Nat} (h : l[k]? = some true) : (bits l)[k]? = some 1 := by simp [bits, h]
theorem bits_no {l : List Bool} {k : Nat} (h : l[k]? = some false) : (bits l)[k]? = some 0 := by simp [bits, h]
theorem Own.cell {w : World} {B g n cap : Nat} {l : List Int} (h : Own w B (.slice (some ⟨g, 0, none⟩) n cap) l) {i : Nat} {x : Int} (hx : l[i]? = some x) : w.cell? ⟨g, i, none⟩ = some (.int .i64 x) ∧ w.frozen? ⟨g, i, none⟩ = false := by
  have h0 := h
  rcases h.2 with ⟨e, _⟩ | ⟨g', cap', cur, e, hb, hg, hn, hm, hs, ht⟩
  · cases e
  · cases e
    refine ⟨?_, frozen_of_row w g i _ _ hg⟩
    have hi := (List.getElem?_eq_some_iff.1 hx).1
    rw [World.ownsRow.cellAt h0 i (by omega), List.getElem?_map, hx]
    rfl
theorem Own.form {w : World} {B : Nat} {sv : Value} {l : List Int} (h : Own w B sv l) (hl : 0 < l.length) : ∃ g cap, sv = .slice (some ⟨g, 0, none⟩) l.length cap ∧ B ≤ g := by
  rcases h.2 with ⟨e, h0⟩ | ⟨g, cap, cur, e, hb, _⟩
  · omega
  · exact ⟨g, cap, e, hb⟩

set_option maxRecDepth 100000 in
set_option maxHeartbeats 1000000 in
theorem least_any (l : List Bool) (sv : Value) (y : Int) (hy0 : 0 ≤ y) (hy1 : y < 256) (w : World) (h : BoolsAt w sv l) : Calls Try.prog 4 #[sv, .int .u8 y] w fun e w' => e = .returned (.bool true) ∧ Below w.heap.size w w' := by
  obtain ⟨xa, xc, rfl, hc⟩ := h
  have HC := Lib.hid hc
  have HWk := Lib.hid fun W => wakes_any W
  clear hc
  by_cases h1 : 64 < l.length
  · have g1 : decide (64 < (l.length : Int)) = true := decide_eq_true (by omega)
    go_enter Try.func4, Try.ntmps4
    go_wp2_with fail
    refine (HWk.out _).mono ?_
    rintro e w1 ⟨rfl, hb⟩
    have B1 := Lib.hid hb
    clear hb
    go_wp2_with fail
    go_ret
    exact ⟨rfl, B1.out⟩
  have g1 : decide (64 < (l.length : Int)) = false := decide_eq_false (by omega)
  go_enter Try.func4, Try.ntmps4
  go_wp2_with fail
  go_loopg [7, 5, 6] l.length (fun q i s c wr => ∃ (k : Nat) (ov : Value), ov = s ∧ l.length - k ≤ q ∧ k ≤ l.length ∧ i = .int .i64 k ∧ c = .int .i64 (cnt ((bits l).take k)) ∧ Own wr w.heap.size ov ((bits l).take k) ∧ Below w.heap.size w wr)
  case atStart => exact ⟨0, _, rfl, by omega, by omega, rfl, rfl, Own.nil _ _, Below.refl _ _⟩
  case round =>
    obtain ⟨k, ov, rfl, hq, hk, rfl, rfl, ho, hb⟩ := hrel
    have HO := Lib.hid ho
    have HW := Lib.hid hb
    clear ho hb
    by_cases hlt : k < l.length
    · have hk1 : (k : Int) < (l.length : Int) := by omega
      have hlk : l[k]? = some l[k] := by simp [hlt]
      obtain ⟨b, o, rfl, c1⟩ := HC.out k l[k] hlk
      have d1 := (HW.out.cell (block_lt_of_cell c1)).trans c1
      have hct := cnt_take_le (bits l) k
      cases hv : l[k] with
      | true =>
        rw [hv] at d1 hlk
        have HS := Lib.hid (take_snoc (bits_yes hlk))
        have HT := Lib.hid (cnt_yes (bits_yes hlk) (by decide))
        clear hlk c1 hv
        go_upto_region 12 with fail
        refine wp_region_lit ?_
        refine takeL (ov) rfl (by go_simp) ?_
        try simp only [Act.put, List.setIfInBounds_toArray, List.set_cons_succ, List.set_cons_zero]
        refine takeL (.int .i64 1) rfl (by go_simp) ?_
        try simp only [Act.put, List.setIfInBounds_toArray, List.set_cons_succ, List.set_cons_zero]
        refine wpList_run (.slice (some ⟨wr.heap.size, 0, none⟩) 1 1) (wr.alloc (.cells #[.int .i64 1] 3)) rfl (by go_simp) ?_
        try simp only [Act.put, List.setIfInBounds_toArray, List.set_cons_succ, List.set_cons_zero]
        have hbl : Below wr.heap.size wr (wr.alloc (.cells #[.int .i64 1] 3)) := (Below.refl _ _).alloc (Nat.le_refl _) _
        have hli : Own (wr.alloc (.cells #[.int .i64 1] 3)) wr.heap.size (.slice (some ⟨wr.heap.size, 0, none⟩) 1 1) [(1 : Int)] := Own.lit wr wr.heap.size (Nat.le_refl _) [(1 : Int)] (by simp) _ rfl
        have hle : ((bits l).take k).length ≤ 64 := by simp [bits]; omega
        refine app_L (HO.out.below hbl) (Nat.le_trans HW.out.size hbl.size) hli.ints (by simp only [List.length_cons, List.length_nil]; omega) rfl rfl rfl ?_
        intro s2 w2 ho2 hb2
        try simp only [Act.put, List.setIfInBounds_toArray, List.set_cons_succ, List.set_cons_zero]
        refine takeL (s2) rfl (by go_simp) ?_
        try simp only [Act.put, List.setIfInBounds_toArray, List.set_cons_succ, List.set_cons_zero]
        refine wpList_nil ?_
        have HO2 := Lib.hid ho2
        have HB2 := Lib.hid ((HW.out.trans (hbl.mono HW.out.size)).trans hb2)
        clear hbl hli ho2 hb2 hle
        go_wp2_with fail
        go_roundg (l.length - (k + 1))
        case measure => omega
        case rel => exact ⟨k + 1, _, rfl, by omega, by omega, by go_num, by rw [HT.out]; go_num, by rw [HS.out]; exact HO2.out, HB2.out⟩
      | false =>
        rw [hv] at d1 hlk
        have HS := Lib.hid (take_snoc (bits_no hlk))
        have HT := Lib.hid (cnt_no (bits_no hlk))
        clear hlk c1 hv
        go_upto_region 12 with fail
        refine wp_region_lit ?_
        refine takeL (ov) rfl (by go_simp) ?_
        try simp only [Act.put, List.setIfInBounds_toArray, List.set_cons_succ, List.set_cons_zero]
        refine takeL (.int .i64 0) rfl (by go_simp) ?_
        try simp only [Act.put, List.setIfInBounds_toArray, List.set_cons_succ, List.set_cons_zero]
        refine wpList_run (.slice (some ⟨wr.heap.size, 0, none⟩) 1 1) (wr.alloc (.cells #[.int .i64 0] 3)) rfl (by go_simp) ?_
        try simp only [Act.put, List.setIfInBounds_toArray, List.set_cons_succ, List.set_cons_zero]
        have hbl : Below wr.heap.size wr (wr.alloc (.cells #[.int .i64 0] 3)) := (Below.refl _ _).alloc (Nat.le_refl _) _
        have hli : Own (wr.alloc (.cells #[.int .i64 0] 3)) wr.heap.size (.slice (some ⟨wr.heap.size, 0, none⟩) 1 1) [(0 : Int)] := Own.lit wr wr.heap.size (Nat.le_refl _) [(0 : Int)] (by simp) _ rfl
        have hle : ((bits l).take k).length ≤ 64 := by simp [bits]; omega
        refine app_L (HO.out.below hbl) (Nat.le_trans HW.out.size hbl.size) hli.ints (by simp only [List.length_cons, List.length_nil]; omega) rfl rfl rfl ?_
        intro s2 w2 ho2 hb2
        try simp only [Act.put, List.setIfInBounds_toArray, List.set_cons_succ, List.set_cons_zero]
        refine takeL (s2) rfl (by go_simp) ?_
        try simp only [Act.put, List.setIfInBounds_toArray, List.set_cons_succ, List.set_cons_zero]
        refine wpList_nil ?_
        have HO2 := Lib.hid ho2
        have HB2 := Lib.hid ((HW.out.trans (hbl.mono HW.out.size)).trans hb2)
        clear hbl hli ho2 hb2 hle
        go_wp2_with fail
        go_roundg (l.length - (k + 1))
        case measure => omega
        case rel => exact ⟨k + 1, _, rfl, by omega, by omega, by go_num, by rw [HT.out], by rw [HS.out]; exact HO2.out, HB2.out⟩
    · obtain rfl : k = l.length := by omega
      have hk1 : ¬ (l.length : Int) < (l.length : Int) := by omega
      have HT : Hid ((bits l).take l.length = bits l) := Lib.hid (List.take_of_length_le (by rw [bits_length]; exact Nat.le_refl _))
      rw [HT.out] at HO
      have hcl : cnt (bits l) ≤ l.length := by have := cnt_le (bits l); rw [bits_length] at this; exact this
      obtain ⟨c0, hc0⟩ : ∃ c, cnt ((bits l).take l.length) = c := ⟨_, rfl⟩
      have HC0 := Lib.hid (show cnt (bits l) = c0 by rw [HT.out] at hc0; exact hc0)
      rw [hc0]
      have hcl2 : c0 ≤ l.length := by have := HC0.out; omega
      clear hc0 HT hcl
      go_upto_region 14 with fail
      generalize y % 70 = m at *
      obtain ⟨sa, sc, he, -⟩ := HO.out.ints
      rw [bits_length] at he
      subst he
      go_wp2_with fail
      go_loopg [10, 6] 70 (fun q i c wq => ∃ (k : Nat) (L : List Int), 70 - k ≤ q ∧ k ≤ cnt L ∧ L.length = l.length ∧ i = .int .i64 k ∧ c = .int .i64 (cnt L) ∧ Own wq w.heap.size (.slice sa l.length sc) L ∧ Below w.heap.size w wq)
      case atStart => exact ⟨0, bits l, by omega, by omega, bits_length l, rfl, by rw [HC0.out], HO.out, HW.out⟩
      case round =>
        clear HO HW HC0 hcl2 hq hk hlt
        obtain ⟨k, L, hq, hk, hL, rfl, rfl, ho, hb⟩ := hrel
        have hcl : cnt L ≤ l.length := by have := cnt_le L; omega
        obtain ⟨c, hc⟩ : ∃ c, cnt L = c := ⟨_, rfl⟩
        rw [hc] at hk hcl
        rw [hc]
        have HL := Lib.hid hL
        have HCL := Lib.hid hc
        clear hc
        have hk2 : (k : Int) < 70 := by omega
        by_cases hm : m ≤ (c : Int)
        · have H1 := Lib.hid (least_no L (by omega) m (.inl (by have := HCL.out; omega)) _ _ ho.ints)
          have HB := Lib.hid hb
          have d3 : decide (m ≤ (c : Int)) = true := decide_eq_true hm
          clear ho hb hL
          go_wp2_with fail
          refine H1.out.mono ?_
          rintro e w1 ⟨rfl, hb⟩
          have B1 := Lib.hid (stay HB.out hb)
          clear hb
          go_wp2_with fail
          refine (HWk.out _).mono ?_
          rintro e w2 ⟨rfl, hb⟩
          have B2 := Lib.hid (stay B1.out hb)
          clear hb
          go_wp2_with fail
          go_ret
          exact ⟨rfl, B2.out⟩
        have d3 : decide (m ≤ (c : Int)) = false := decide_eq_false hm
        rcases first_or L with ⟨p, hp⟩ | hf
        · have H1 := Lib.hid (least_yes L (by omega) p hp m (by have := HCL.out; omega) _ _ ho.ints)
          have hpl : p < l.length := by have := hp.lt; omega
          obtain ⟨g, cap, e, hg⟩ := ho.form (by omega)
          injection e with e1 e2 e3
          subst e1
          have HO := Lib.hid ho
          have HB := Lib.hid hb
          have HP := Lib.hid hp
          have HG := Lib.hid hg
          clear ho hb e2 e3 hg hL
          have d1 : decide ((p : Int) < 0) = false := decide_eq_false (by omega)
          have d2 : decide ((l.length : Int) ≤ (p : Int)) = false := decide_eq_false (by omega)
          go_wp2_with fail
          refine H1.out.mono ?_
          rintro e w1 ⟨rfl, hb⟩
          have HO1 := Lib.hid (HO.out.below hb)
          have HB1 := Lib.hid (stay HB.out hb)
          obtain ⟨q0, q1⟩ := HO1.out.cell HP.out.1
          clear hb HO HB
          have hpl2 : (p : Int) < (l.length : Int) := by omega
          go_wp2_with fail
          go_loopg [13] p (fun q i wx => ∃ j : Nat, p - j ≤ q ∧ j ≤ p ∧ i = .int .i64 j ∧ w1 = wx)
          case atStart => exact ⟨0, by omega, by omega, rfl, rfl⟩
          case round =>
            obtain ⟨j, hq2, hj, rfl, rfl⟩ := hrel
            by_cases hjp : j < p
            · have hjL : j < L.length := by have := HL.out; omega
              have hx := HP.out.2 j hjp L[j] (by simp [hjL])
              obtain ⟨r0, -⟩ := HO1.out.cell (i := j) (x := L[j]) (by simp [hjL])
              generalize L[j] = x at *
              have e1 : (x == (0 : Int)) = false := by simpa using hx
              have hj2 : (j : Int) < (p : Int) := by omega
              have hj3 : (j : Int) < (l.length : Int) := by omega
              clear hx hjL
              go_wp2_with fail
              go_roundg (p - (j + 1))
              case measure => omega
              case rel => exact ⟨j + 1, by omega, by omega, by go_num, rfl⟩
            · obtain rfl : j = p := by omega
              have hj2 : ¬ (j : Int) < (j : Int) := by omega
              have HO2 := Lib.hid (HO1.out.set j 1 (by have := HL.out; omega))
              have H3 := Lib.hid (count_any (L.set j 1) (by have := HL.out; rw [List.length_set]; omega) _ _ HO2.out.ints)
              have hc1 : cnt (L.set j 1) = c + 1 := by rw [HP.out.set_cnt, HCL.out]
              rw [hc1, show ((c + 1 : Nat) : Int) = (c : Int) + 1 by omega] at H3
              have HC1 := Lib.hid hc1
              clear hc1
              go_wp2_with fail
              refine H3.out.mono ?_
              rintro e w2 ⟨rfl, rfl⟩
              go_wp2_with fail
              go_roundg (70 - (k + 1))
              case measure => omega
              case rel => exact ⟨k + 1, L.set j 1, by omega, by have := HC1.out; omega, by rw [List.length_set]; exact HL.out, by go_num, by rw [HC1.out]; go_num, HO2.out, HB1.out.setCell HG.out _⟩
        · have H1 := Lib.hid (least_no L (by omega) m (.inr hf) _ _ ho.ints)
          have HB := Lib.hid hb
          have hcn : (c : Int) = (l.length : Int) := by have := full_cnt hf; have := HCL.out; omega
          have e1 : ((c : Int) == (l.length : Int)) = true := by rw [hcn]; simp
          have HCN := Lib.hid hcn
          clear ho hb hL hf hcn
          go_wp2_with fail
          refine H1.out.mono ?_
          rintro e w1 ⟨rfl, hb⟩
          have B1 := Lib.hid (stay HB.out hb)
          clear hb
          go_wp2_with fail
          refine (HWk.out _).mono ?_
          rintro e w2 ⟨rfl, hb⟩
          have B2 := Lib.hid (stay B1.out hb)
          clear hb
          go_wp2_with fail
          go_ret
          exact ⟨rfl, B2.out⟩
end Go.Proofs.Ytbokbijehilbiaa
