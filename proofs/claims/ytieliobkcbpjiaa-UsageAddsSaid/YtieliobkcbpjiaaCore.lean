/- The statements' own comparison of two lists, usage.Sum, usage.Free and the reference's Free. -/
import Derived.Test.YtieliobkcbpjiaaSpec
import Derived.WalkKit
import Derived.Deep.LoopGhost
import Derived.Deep.Cut
import Derived.Deep.CutRange
namespace Go.Proofs.Ytieliobkcbpjiaa
set_option linter.unusedSimpArgs false
set_option linter.unusedVariables false
open Go.RowKit

theorem ints_any (l m : List Int) (hl : l.length ≤ 1000) (hm : m.length ≤ 1000) (sv tv : Value) (w : World) (h : IntsAt w sv l) (k : IntsAt w tv m) : Calls Try.prog 7 #[sv, tv] w fun e w' => e = .returned (.bool (decide (l = m))) ∧ Below w.heap.size w w' := by
  obtain ⟨a, cap, rfl, hc⟩ := h
  obtain ⟨a', cap', rfl, hc'⟩ := k
  have HC := Lib.hid hc
  have HC' := Lib.hid hc'
  clear hc hc'
  by_cases hlen : l.length = m.length
  · obtain ⟨n, hn⟩ : ∃ n, m.length = n := ⟨_, rfl⟩
    have hln := hlen.trans hn
    rw [hn] at hm
    rw [hln, hn]
    have HN := Lib.hid hn
    have HLN := Lib.hid hln
    clear hln hl hlen hn
    go_enter Try.func7, Try.ntmps7
    go_wp2_with fail
    go_loopg [5] n (fun q i wr => ∃ k : Nat, n - k ≤ q ∧ k ≤ n ∧ i = .int .i64 k ∧ (∀ j, j < k → l[j]? = m[j]?) ∧ Below w.heap.size w wr)
    case atStart => exact ⟨0, by omega, by omega, rfl, fun j hj => by omega, Below.refl _ _⟩
    case round =>
      obtain ⟨k, hg, hk, rfl, heq, hbel⟩ := hrel
      have HE := Lib.hid heq
      have HB := Lib.hid hbel
      clear heq hbel
      by_cases hlt : k < n
      · have h1 := HLN.out
        have h2 := HN.out
        obtain ⟨x, hx⟩ : ∃ x, l[k]? = some x := ⟨_, List.getElem?_eq_getElem (by omega)⟩
        obtain ⟨y, hy⟩ : ∃ y, m[k]? = some y := ⟨_, List.getElem?_eq_getElem (by omega)⟩
        obtain ⟨b, o, rfl, c1⟩ := HC.out k x hx
        obtain ⟨b', o', rfl, c2⟩ := HC'.out k y hy
        have d1 := (HB.out.cell (block_lt_of_cell c1)).trans c1
        have d2 := (HB.out.cell (block_lt_of_cell c2)).trans c2
        have HX := Lib.hid hx
        have HY := Lib.hid hy
        clear hx hy c1 c2 h1 h2
        have hk1 : (k : Int) < (n : Int) := by omega
        have hg1 : decide ((k : Int) < (n : Int)) = true := decide_eq_true hk1
        by_cases hxy : x = y
        · subst hxy
          have e1 : (x != x) = false := by simp
          go_wp2_with fail
          go_quiet (fail)
          go_wp2_with fail
          go_roundg (n - (k + 1))
          case measure => omega
          case rel => exact ⟨k + 1, by omega, by omega, by go_num, fun j hj => by
            by_cases hj2 : j < k
            · exact HE.out j hj2
            · obtain rfl : j = k := by omega
              rw [HX.out, HY.out], drewN_below HB.out _⟩
        · have e1 : (x != y) = true := by simpa using hxy
          have HXY := Lib.hid hxy
          clear hxy
          go_wp2_with fail
          go_quiet (fail)
          go_wp2_with fail
          go_ret
          exact ⟨ret_bool (by
            symm
            refine decide_eq_false fun e => HXY.out ?_
            have := HX.out
            rw [e, HY.out] at this
            exact (Option.some.inj this).symm), drewN_below HB.out _⟩
      · obtain rfl : k = n := by omega
        have hk1 : ¬ (k : Int) < (k : Int) := by omega
        have hg1 : decide ((k : Int) < (k : Int)) = false := decide_eq_false hk1
        go_wp2_with fail
        go_ret
        exact ⟨ret_bool (by
          symm
          refine decide_eq_true (List.ext_getElem? fun j => ?_)
          rcases Nat.lt_or_ge j k with h1 | h1
          · exact HE.out j h1
          · have h2 := HLN.out
            have h3 := HN.out
            rw [List.getElem?_eq_none (by omega), List.getElem?_eq_none (by omega)]), HB.out⟩
  · have HL : Hid (l ≠ m) := Lib.hid fun e => hlen (by rw [e])
    have e1 : ((l.length : Int) != (m.length : Int)) = true := by simp; omega
    have hne : ¬ (l.length : Int) = (m.length : Int) := by omega
    clear hlen
    go_enter Try.func7, Try.ntmps7
    go_wp2_with fail
    go_ret
    exact ⟨ret_bool (by symm; exact decide_eq_false HL.out), Below.refl _ _⟩

theorem Own.cell {w : World} {B g n cap : Nat} {l : List Int} (h : Own w B (.slice (some ⟨g, 0, none⟩) n cap) l) {i : Nat} {x : Int} (hx : l[i]? = some x) : w.cell? ⟨g, i, none⟩ = some (.int .i64 x) ∧ w.frozen? ⟨g, i, none⟩ = false := by
  have h0 := h
  rcases h.2 with ⟨e, _⟩ | ⟨g', cap', cur, e, hb, hg, hn, hm, hs, ht⟩
  · cases e
  · cases e
    refine ⟨?_, frozen_of_row w g i _ _ hg⟩
    have hi := (List.getElem?_eq_some_iff.1 hx).1
    rw [World.ownsRow.cellAt h0 i (by omega), List.getElem?_map, hx]
    rfl
theorem Own.form {w : World} {B : Nat} {sv : Value} {l : List Int} (h : Own w B sv l) (hl : 0 < l.length) : ∃ g cap, sv = .slice (some ⟨g, 0, none⟩) l.length cap ∧ B ≤ g := by
  rcases h.2 with ⟨e, h0⟩ | ⟨g, cap, cur, e, hb, _⟩
  · omega
  · exact ⟨g, cap, e, hb⟩


theorem pass_free (n : Int) (b : Bool) (w : World) : Calls Try.prog 18 #[.int .i64 0, .int .i64 n, .bool b] w fun e w' => e = .returned (.bool (!(decide (n = 0) && !b))) ∧ w = w' := by
  cases b with
  | true =>
    go_enter Try.func18, Try.ntmps18
    go_wp2_with fail
    go_ret
    exact ⟨ret_bool (by simp), rfl⟩
  | false =>
    rcases Int.lt_trichotomy n 0 with h | h | h
    · have h1 : ¬ 0 < n := by omega
      have H : Hid (n ≠ 0) := Lib.hid (by omega)
      go_enter Try.func18, Try.ntmps18
      go_wp2_with fail
      go_ret
      exact ⟨ret_bool (by simp [H.out]), rfl⟩
    · subst h
      go_enter Try.func18, Try.ntmps18
      go_wp2_with fail
      go_ret
      exact ⟨ret_bool (by simp), rfl⟩
    · have H : Hid (n ≠ 0) := Lib.hid (by omega)
      go_enter Try.func18, Try.ntmps18
      go_wp2_with fail
      go_ret
      exact ⟨ret_bool (by simp [H.out]), rfl⟩
theorem pass_in (n : Int) (h : 0 ≤ n ∧ n ≤ 1099511627776) (w : World) : Calls Try.prog 18 #[.int .i64 1, .int .i64 n, .bool false] w fun e w' => e = .returned (.bool false) ∧ w = w' := by
  obtain ⟨h0, h1⟩ := h
  have h2 : ¬ n < 0 := by omega
  have h3 : ¬ 1099511627776 < n := by omega
  go_enter Try.func18, Try.ntmps18
  go_wp2_with fail
  go_ret
  exact ⟨rfl, rfl⟩
theorem pass_out (n : Int) (h : ¬ (0 ≤ n ∧ n ≤ 1099511627776)) (w : World) : Calls Try.prog 18 #[.int .i64 1, .int .i64 n, .bool false] w fun e w' => e = .returned (.bool true) ∧ w = w' := by
  by_cases h2 : n < 0
  · clear h
    go_enter Try.func18, Try.ntmps18
    go_wp2_with fail
    go_ret
    exact ⟨rfl, rfl⟩
  · have h3 : 1099511627776 < n := by omega
    clear h
    go_enter Try.func18, Try.ntmps18
    go_wp2_with fail
    go_ret
    exact ⟨rfl, rfl⟩

theorem sum_any (l : List Int) (hn : l.length ≤ 1000) (sv : Value) (w : World) (h : IntsAt w sv l) : Calls Try.prog 12 #[sv] w fun e w' => e = .returned (.int .i64 (tot l)) ∧ w = w' := by
  obtain ⟨a, cap, rfl, hc⟩ := h
  have HC := Lib.hid hc
  have H1 := Lib.hid pass_in
  have H2 := Lib.hid pass_out
  clear hc
  go_enter Try.func12, Try.ntmps12
  go_wp2_with fail
  go_loopg [8, 3] l.length (fun q i n wr => ∃ k : Nat, l.length - k ≤ q ∧ k ≤ l.length ∧ i = .int .i64 k ∧ n = .int .i64 (tot (l.take k)) ∧ w = wr)
  case atStart => exact ⟨0, by omega, by omega, rfl, rfl, rfl⟩
  case round =>
    obtain ⟨k, hg, hk, rfl, rfl, rfl⟩ := hrel
    obtain ⟨b0, b1⟩ := tot_take_bound hn k
    by_cases hlt : k < l.length
    · have hlk : l[k]? = some l[k] := by simp [hlt]
      obtain ⟨b, o, rfl, c1⟩ := HC.out k l[k] hlk
      generalize l[k] = x at *
      have HL := Lib.hid hlk
      clear hlk
      have HT := Lib.hid (tot_take HL.out)
      obtain ⟨t, ht⟩ : ∃ t, tot (l.take k) = t := ⟨_, rfl⟩
      rw [ht] at HT b0 b1 ⊢
      clear ht
      have hk1 : (k : Int) < (l.length : Int) := by omega
      by_cases hx : 0 ≤ x ∧ x ≤ 1099511627776
      · have H3 := Lib.hid (H1.out x hx)
        rw [val_yes hx] at HT
        obtain ⟨x0, x1⟩ := hx
        go_wp2_with fail
        refine (H3.out _).mono ?_
        rintro e w1 ⟨rfl, rfl⟩
        go_wp2_with fail
        go_roundg (l.length - (k + 1))
        case measure => omega
        case rel => exact ⟨k + 1, by omega, by omega, by go_num, by rw [HT.out], rfl⟩
      · have H3 := Lib.hid (H2.out x hx)
        rw [val_no hx] at HT
        clear hx
        go_wp2_with fail
        refine (H3.out _).mono ?_
        rintro e w1 ⟨rfl, rfl⟩
        go_wp2_with fail
        go_roundg (l.length - (k + 1))
        case measure => omega
        case rel => exact ⟨k + 1, by omega, by omega, by go_num, by rw [HT.out, Int.add_zero], rfl⟩
    · obtain rfl : k = l.length := by omega
      have HT : Hid (l.take l.length = l) := Lib.hid List.take_length
      have hk1 : ¬ (l.length : Int) < (l.length : Int) := by omega
      go_wp2_with fail
      go_ret
      exact ⟨rfl, rfl⟩

set_option maxRecDepth 100000 in
theorem free_any (l : List Int) (hn : l.length ≤ 1000) (h : Int) (sv : Value) (w : World) (hs : IntsAt w sv l) :
    Calls Try.prog 10 #[sv, .int .i64 h] w fun e w' => ∃ rv, e = .returned rv ∧ Own w' w.heap.size rv (frees l h) ∧ Below w.heap.size w w' := by
  obtain ⟨a, cap, rfl, hc⟩ := hs
  have HL := Lib.hid hc
  have HP := Lib.hid fun n b W => pass_free n b W
  clear hc
  unfold frees
  go_enter Try.func10, Try.ntmps10
  go_wp2_with fail
  go_loopg [10, 5] l.length (fun q i s wr => ∃ (k : Nat) (ov : Value), ov = s ∧ l.length - k ≤ q ∧ k ≤ l.length ∧ i = .int .i64 k ∧ Own wr w.heap.size ov (freesN l h k) ∧ Below w.heap.size w wr)
  case atStart => exact ⟨0, _, rfl, by omega, by omega, rfl, Own.nil _ _, Below.refl _ _⟩
  case round =>
    obtain ⟨k, ov, rfl, hq, hk, rfl, ho, hb⟩ := hrel
    have HO := Lib.hid ho
    have HW := Lib.hid hb
    clear ho hb
    by_cases hlt : k < l.length
    · have hk1 : (k : Int) < (l.length : Int) := by omega
      have hlk : l[k]? = some l[k] := by simp [hlt]
      obtain ⟨b, o, rfl, c1⟩ := HL.out k l[k] hlk
      have d1 := (HW.out.cell (block_lt_of_cell c1)).trans c1
      have HY := Lib.hid (freesN_yes (l := l) (h := h) (k := k))
      have HZ := Lib.hid (freesN_no (h := h) hlk)
      generalize l[k] = x at *
      by_cases hx : x = 0 ∧ (k : Int) ≠ h
      · obtain ⟨rfl, hx2⟩ := hx
        have HC := Lib.hid (HY.out hlk hx2)
        have e1 : ((k : Int) == h) = false := by simpa using hx2
        have H3 := Lib.hid (HP.out 0 false)
        rw [show (!(decide ((0 : Int) = 0) && !false)) = false from rfl] at H3
        clear HY HZ hx2 hlk c1
        go_wp2_with fail
        refine (H3.out _).mono ?_
        rintro e w1 ⟨rfl, rfl⟩
        go_upto_region 6 with fail
        refine wp_region_lit ?_
        refine takeL (ov) rfl (by go_simp) ?_
        try simp only [Act.put, List.setIfInBounds_toArray, List.set_cons_succ, List.set_cons_zero]
        refine takeL (.int .i64 k) rfl (by go_simp) ?_
        try simp only [Act.put, List.setIfInBounds_toArray, List.set_cons_succ, List.set_cons_zero]
        refine wpList_run (.slice (some ⟨wr.heap.size, 0, none⟩) 1 1) (wr.alloc (.cells #[.int .i64 k] 3)) rfl (by go_simp) ?_
        try simp only [Act.put, List.setIfInBounds_toArray, List.set_cons_succ, List.set_cons_zero]
        have hbl : Below wr.heap.size wr (wr.alloc (.cells #[.int .i64 k] 3)) := (Below.refl _ _).alloc (Nat.le_refl _) _
        have hli : Own (wr.alloc (.cells #[.int .i64 k] 3)) wr.heap.size (.slice (some ⟨wr.heap.size, 0, none⟩) 1 1) [(k : Int)] := Own.lit wr wr.heap.size (Nat.le_refl _) [(k : Int)] (by simp) _ rfl
        have hle := freesN_le l h k
        refine app_L (HO.out.below hbl) (Nat.le_trans HW.out.size hbl.size) hli.ints (by simp only [List.length_cons, List.length_nil]; omega) rfl rfl rfl ?_
        intro s2 w2 ho2 hb2
        try simp only [Act.put, List.setIfInBounds_toArray, List.set_cons_succ, List.set_cons_zero]
        refine takeL (s2) rfl (by go_simp) ?_
        try simp only [Act.put, List.setIfInBounds_toArray, List.set_cons_succ, List.set_cons_zero]
        refine wpList_nil ?_
        have HO2 := Lib.hid ho2
        have HB2 := Lib.hid ((HW.out.trans (hbl.mono HW.out.size)).trans hb2)
        clear hbl hli ho2 hb2 hle
        go_wp2_with fail
        go_roundg (l.length - (k + 1))
        case measure => omega
        case rel => exact ⟨k + 1, _, rfl, by omega, by omega, by go_num, by rw [HC.out]; exact HO2.out, HB2.out⟩
      · have HC := Lib.hid (HZ.out hx)
        by_cases hkh : (k : Int) = h
        · have e1 : ((k : Int) == h) = true := by simpa using hkh
          have H3 := Lib.hid (HP.out x true)
          rw [show (!(decide (x = 0) && !true)) = true by simp] at H3
          clear HY HZ hx hlk c1 hkh
          go_wp2_with fail
          refine (H3.out _).mono ?_
          rintro e w1 ⟨rfl, rfl⟩
          go_wp2_with fail
          go_roundg (l.length - (k + 1))
          case measure => omega
          case rel => exact ⟨k + 1, _, rfl, by omega, by omega, by go_num, by rw [HC.out]; exact HO.out, HW.out⟩
        · have e1 : ((k : Int) == h) = false := by simpa using hkh
          have H3 := Lib.hid (HP.out x false)
          rw [show (!(decide (x = 0) && !false)) = true by simp; exact fun a => hx ⟨a, hkh⟩] at H3
          clear HY HZ hx hlk c1 hkh
          go_wp2_with fail
          refine (H3.out _).mono ?_
          rintro e w1 ⟨rfl, rfl⟩
          go_wp2_with fail
          go_roundg (l.length - (k + 1))
          case measure => omega
          case rel => exact ⟨k + 1, _, rfl, by omega, by omega, by go_num, by rw [HC.out]; exact HO.out, HW.out⟩
    · obtain rfl : k = l.length := by omega
      have hk1 : ¬ (l.length : Int) < (l.length : Int) := by omega
      go_wp2_with fail
      go_ret
      exact ⟨_, rfl, HO.out, HW.out⟩

set_option maxRecDepth 100000 in
theorem rfree_any (l : List Int) (hn : l.length ≤ 1000) (h : Int) (sv : Value) (w : World) (hs : IntsAt w sv l) :
    Calls Try.prog 11 #[sv, .int .i64 h] w fun e w' => ∃ rv, e = .returned rv ∧ Own w' w.heap.size rv (frees l h) ∧ Below w.heap.size w w' := by
  obtain ⟨a, cap, rfl, hc⟩ := hs
  have HL := Lib.hid hc
  clear hc
  unfold frees
  go_enter Try.func11, Try.ntmps11
  go_wp2_with fail
  go_loopg [6, 5] l.length (fun q i s wr => ∃ (k : Nat) (ov : Value), ov = s ∧ l.length - k ≤ q ∧ k ≤ l.length ∧ i = .int .i64 k ∧ Own wr w.heap.size ov (freesN l h k) ∧ Below w.heap.size w wr)
  case atStart => exact ⟨0, _, rfl, by omega, by omega, rfl, Own.nil _ _, Below.refl _ _⟩
  case round =>
    obtain ⟨k, ov, rfl, hq, hk, rfl, ho, hb⟩ := hrel
    have HO := Lib.hid ho
    have HW := Lib.hid hb
    clear ho hb
    by_cases hlt : k < l.length
    · have hk1 : (k : Int) < (l.length : Int) := by omega
      have hlk : l[k]? = some l[k] := by simp [hlt]
      obtain ⟨b, o, rfl, c1⟩ := HL.out k l[k] hlk
      have d1 := (HW.out.cell (block_lt_of_cell c1)).trans c1
      have HY := Lib.hid (freesN_yes (l := l) (h := h) (k := k))
      have HZ := Lib.hid (freesN_no (h := h) hlk)
      generalize l[k] = x at *
      by_cases hx0 : x = 0
      · subst hx0
        by_cases hx : (k : Int) = h
        · have HC := Lib.hid (HZ.out fun hh => hh.2 hx)
          have e1 : ((k : Int) != h) = false := by simpa using hx
          clear HY HZ hx hlk c1
          go_wp2_with fail
          go_roundg (l.length - (k + 1))
          case measure => omega
          case rel => exact ⟨k + 1, _, rfl, by omega, by omega, by go_num, by rw [HC.out]; exact HO.out, HW.out⟩
        · have HC := Lib.hid (HY.out hlk hx)
          have e1 : ((k : Int) != h) = true := by simpa using hx
          clear HY HZ hx hlk c1
          go_upto_region 6 with fail
          refine wp_region_lit ?_
          refine takeL (ov) rfl (by go_simp) ?_
          try simp only [Act.put, List.setIfInBounds_toArray, List.set_cons_succ, List.set_cons_zero]
          refine takeL (.int .i64 k) rfl (by go_simp) ?_
          try simp only [Act.put, List.setIfInBounds_toArray, List.set_cons_succ, List.set_cons_zero]
          refine wpList_run (.slice (some ⟨wr.heap.size, 0, none⟩) 1 1) (wr.alloc (.cells #[.int .i64 k] 3)) rfl (by go_simp) ?_
          try simp only [Act.put, List.setIfInBounds_toArray, List.set_cons_succ, List.set_cons_zero]
          have hbl : Below wr.heap.size wr (wr.alloc (.cells #[.int .i64 k] 3)) := (Below.refl _ _).alloc (Nat.le_refl _) _
          have hli : Own (wr.alloc (.cells #[.int .i64 k] 3)) wr.heap.size (.slice (some ⟨wr.heap.size, 0, none⟩) 1 1) [(k : Int)] := Own.lit wr wr.heap.size (Nat.le_refl _) [(k : Int)] (by simp) _ rfl
          have hle := freesN_le l h k
          refine app_L (HO.out.below hbl) (Nat.le_trans HW.out.size hbl.size) hli.ints (by simp only [List.length_cons, List.length_nil]; omega) rfl rfl rfl ?_
          intro s2 w2 ho2 hb2
          try simp only [Act.put, List.setIfInBounds_toArray, List.set_cons_succ, List.set_cons_zero]
          refine takeL (s2) rfl (by go_simp) ?_
          try simp only [Act.put, List.setIfInBounds_toArray, List.set_cons_succ, List.set_cons_zero]
          refine wpList_nil ?_
          have HO2 := Lib.hid ho2
          have HB2 := Lib.hid ((HW.out.trans (hbl.mono HW.out.size)).trans hb2)
          clear hbl hli ho2 hb2 hle
          go_wp2_with fail
          go_roundg (l.length - (k + 1))
          case measure => omega
          case rel => exact ⟨k + 1, _, rfl, by omega, by omega, by go_num, by rw [HC.out]; exact HO2.out, HB2.out⟩
      · have HC := Lib.hid (HZ.out fun hh => hx0 hh.1)
        have e1 : (x == (0 : Int)) = false := by simpa using hx0
        clear HY HZ hx0 hlk c1
        go_wp2_with fail
        go_roundg (l.length - (k + 1))
        case measure => omega
        case rel => exact ⟨k + 1, _, rfl, by omega, by omega, by go_num, by rw [HC.out]; exact HO.out, HW.out⟩
    · obtain rfl : k = l.length := by omega
      have hk1 : ¬ (l.length : Int) < (l.length : Int) := by omega
      go_wp2_with fail
      go_ret
      exact ⟨_, rfl, HO.out, HW.out⟩
end Go.Proofs.Ytieliobkcbpjiaa
