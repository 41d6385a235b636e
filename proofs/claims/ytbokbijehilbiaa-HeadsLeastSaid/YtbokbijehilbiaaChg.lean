/- Package heads's Changed, and the reference's: the pages whose heads differ, in a list of their own. -/
import Derived.Test.YtbokbijehilbiaaLeast
import Derived.Deep.Cut
import Derived.Deep.CutRange
namespace Go.Proofs.Ytbokbijehilbiaa
set_option linter.unusedSimpArgs false
set_option linter.unusedVariables false
open Go.RowKit

set_option maxRecDepth 100000 in
theorem changed_any (l m : List Int) (hl : l.length ≤ 1000) (hm : m.length ≤ 1000) (sv tv : Value) (w : World) (h : IntsAt w sv l) (k : IntsAt w tv m) :
    Calls Try.prog 12 #[sv, tv] w fun e w' => ∃ rv, e = .returned rv ∧ Own w' w.heap.size rv (chg l m) ∧ Below w.heap.size w w' := by
  have HL := Lib.hid h
  have HM := Lib.hid k
  obtain ⟨a, cap, rfl, -⟩ := h
  obtain ⟨a', cap', rfl, -⟩ := k
  have HA := Lib.hid fun (i : Nat) (hi : i ≤ 1000) W hW => head_any l hl i hi (.slice a l.length cap) W hW
  have HB := Lib.hid fun (i : Nat) (hi : i ≤ 1000) W hW => head_any m hm i hi (.slice a' m.length cap') W hW
  unfold chg
  obtain ⟨n, hn⟩ : ∃ n, max l.length m.length = n := ⟨_, rfl⟩
  rw [hn]
  have hn1 : n ≤ 1000 := by omega
  have HN : Hid (max l.length m.length = n) := hn
  clear hn
  go_enter Try.func12, Try.ntmps12
  go_upto_region 2 with fail
  refine wp_region_lit ?_
  refine takeL (.slice a l.length cap) rfl (by go_simp) ?_
  try simp only [Act.put, List.setIfInBounds_toArray, List.set_cons_succ, List.set_cons_zero]
  refine takeL (.int .i64 l.length) rfl (by go_simp) ?_
  try simp only [Act.put, List.setIfInBounds_toArray, List.set_cons_succ, List.set_cons_zero]
  refine takeL (.slice a' m.length cap') rfl (by go_simp) ?_
  try simp only [Act.put, List.setIfInBounds_toArray, List.set_cons_succ, List.set_cons_zero]
  refine takeL (.int .i64 m.length) rfl (by go_simp) ?_
  try simp only [Act.put, List.setIfInBounds_toArray, List.set_cons_succ, List.set_cons_zero]
  refine takeL (.int .i64 n) rfl (by go_simp; have := HN.out; split <;> omega) ?_
  try simp only [Act.put, List.setIfInBounds_toArray, List.set_cons_succ, List.set_cons_zero]
  refine takeL (.int .i64 0) rfl (by go_simp) ?_
  try simp only [Act.put, List.setIfInBounds_toArray, List.set_cons_succ, List.set_cons_zero]
  refine wpList_nil ?_
  go_wp2_with fail
  go_loopg [12, 5] n (fun q i s wr => ∃ (k : Nat) (ov : Value), ov = s ∧ n - k ≤ q ∧ k ≤ n ∧ i = .int .i64 k ∧ Own wr w.heap.size ov (chgN l m k) ∧ Below w.heap.size w wr)
  case atStart => exact ⟨0, _, rfl, by omega, by omega, rfl, Own.nil _ _, Below.refl _ _⟩
  case round =>
    obtain ⟨k, ov, rfl, hq, hk, rfl, ho, hb⟩ := hrel
    have HO := Lib.hid ho
    have HW := Lib.hid hb
    clear ho hb
    by_cases hlt : k < n
    · have hk1 : (k : Int) < (n : Int) := by omega
      have hl1 := HL.out.below HW.out
      have hm1 := HM.out.below HW.out
      have H1 := Lib.hid (HA.out k (by omega) wr hl1)
      have H2 := Lib.hid (HB.out k (by omega) wr hm1)
      clear hl1 hm1
      have HY := Lib.hid (chgN_yes (a := l) (b := m) (n := k))
      have HZ := Lib.hid (chgN_no (a := l) (b := m) (n := k))
      generalize hd l k = x at *
      generalize hd m k = y at *
      by_cases hx : x = y
      · subst hx
        have e1 : (x != x) = false := by simp
        have HC := Lib.hid (HZ.out rfl)
        clear HY HZ
        go_wp2_with fail
        refine H1.out.mono ?_
        rintro e w1 ⟨rfl, rfl⟩
        go_wp2_with fail
        refine H2.out.mono ?_
        rintro e w1 ⟨rfl, rfl⟩
        go_wp2_with fail
        go_roundg (n - (k + 1))
        case measure => omega
        case rel => exact ⟨k + 1, _, rfl, by omega, by omega, by go_num, by rw [HC.out]; exact HO.out, HW.out⟩
      · have e1 : (x != y) = true := by simpa using hx
        have HC := Lib.hid (HY.out hx)
        clear HY HZ hx
        go_wp2_with fail
        refine H1.out.mono ?_
        rintro e w1 ⟨rfl, rfl⟩
        go_wp2_with fail
        refine H2.out.mono ?_
        rintro e w1 ⟨rfl, rfl⟩
        go_upto_region 6 with fail
        refine wp_region_lit ?_
        refine takeL (ov) rfl (by go_simp) ?_
        try simp only [Act.put, List.setIfInBounds_toArray, List.set_cons_succ, List.set_cons_zero]
        refine takeL (.int .i64 k) rfl (by go_simp) ?_
        try simp only [Act.put, List.setIfInBounds_toArray, List.set_cons_succ, List.set_cons_zero]
        refine wpList_run (.slice (some ⟨wr.heap.size, 0, none⟩) 1 1) (wr.alloc (.cells #[.int .i64 k] 3)) rfl (by go_simp) ?_
        try simp only [Act.put, List.setIfInBounds_toArray, List.set_cons_succ, List.set_cons_zero]
        have hbl : Below wr.heap.size wr (wr.alloc (.cells #[.int .i64 k] 3)) := (Below.refl _ _).alloc (Nat.le_refl _) _
        have hli : Own (wr.alloc (.cells #[.int .i64 k] 3)) wr.heap.size (.slice (some ⟨wr.heap.size, 0, none⟩) 1 1) [(k : Int)] := Own.lit wr wr.heap.size (Nat.le_refl _) [(k : Int)] (by simp) _ rfl
        have hle := chgN_le l m k
        refine app_L (HO.out.below hbl) (Nat.le_trans HW.out.size hbl.size) hli.ints (by simp only [List.length_cons, List.length_nil]; omega) rfl rfl rfl ?_
        intro s2 w2 ho2 hb2
        try simp only [Act.put, List.setIfInBounds_toArray, List.set_cons_succ, List.set_cons_zero]
        refine takeL (s2) rfl (by go_simp) ?_
        try simp only [Act.put, List.setIfInBounds_toArray, List.set_cons_succ, List.set_cons_zero]
        refine wpList_nil ?_
        have HO2 := Lib.hid ho2
        have HB2 := Lib.hid ((HW.out.trans (hbl.mono HW.out.size)).trans hb2)
        clear hbl hli ho2 hb2 hle
        go_wp2_with fail
        go_roundg (n - (k + 1))
        case measure => omega
        case rel => exact ⟨k + 1, _, rfl, by omega, by omega, by go_num, by rw [HC.out]; exact HO2.out, HB2.out⟩
    · obtain rfl : k = n := by omega
      have hk1 : ¬ (k : Int) < (k : Int) := by omega
      go_wp2_with fail
      go_ret
      exact ⟨_, rfl, HO.out, HW.out⟩

set_option maxRecDepth 100000 in
set_option maxHeartbeats 1000000 in
theorem rchanged_any (l m : List Int) (hl : l.length ≤ 1000) (hm : m.length ≤ 1000) (sv tv : Value) (w : World) (h : IntsAt w sv l) (k : IntsAt w tv m) :
    Calls Try.prog 13 #[sv, tv] w fun e w' => ∃ rv, e = .returned rv ∧ Own w' w.heap.size rv (chg l m) ∧ Below w.heap.size w w' := by
  obtain ⟨a, cap, rfl, hc⟩ := h
  obtain ⟨a', cap', rfl, hc'⟩ := k
  have HL := Lib.hid hc
  have HM := Lib.hid hc'
  clear hc hc'
  unfold chg
  obtain ⟨n, hn⟩ : ∃ n, max l.length m.length = n := ⟨_, rfl⟩
  rw [hn]
  have hn1 : n ≤ 1000 := by omega
  have hn2 : l.length ≤ n := by omega
  have hn3 : m.length ≤ n := by omega
  have HN : Hid (max l.length m.length = n) := hn
  clear hn
  go_enter Try.func13, Try.ntmps13
  go_wp2_with fail
  go_loopg [6, 5] n (fun q i s wr => ∃ (k : Nat) (ov : Value), ov = s ∧ n - k ≤ q ∧ k ≤ n ∧ i = .int .i64 k ∧ Own wr w.heap.size ov (chgN l m k) ∧ Below w.heap.size w wr)
  case atStart => exact ⟨0, _, rfl, by omega, by omega, rfl, Own.nil _ _, Below.refl _ _⟩
  case round =>
    obtain ⟨k, ov, rfl, hq, hk, rfl, ho, hb⟩ := hrel
    have HO := Lib.hid ho
    have HW := Lib.hid hb
    clear ho hb
    by_cases hlt : k < n
    · go_upto_region 3 with fail
      refine wp_region_lit ?_
      refine takeL (.int .i64 k) rfl (by go_simp) ?_
      try simp only [Act.put, List.setIfInBounds_toArray, List.set_cons_succ, List.set_cons_zero]
      refine takeL (.slice a l.length cap) rfl (by go_simp) ?_
      try simp only [Act.put, List.setIfInBounds_toArray, List.set_cons_succ, List.set_cons_zero]
      refine takeL (.int .i64 l.length) rfl (by go_simp) ?_
      try simp only [Act.put, List.setIfInBounds_toArray, List.set_cons_succ, List.set_cons_zero]
      refine takeL (.slice a' m.length cap') rfl (by go_simp) ?_
      try simp only [Act.put, List.setIfInBounds_toArray, List.set_cons_succ, List.set_cons_zero]
      refine takeL (.int .i64 m.length) rfl (by go_simp) ?_
      try simp only [Act.put, List.setIfInBounds_toArray, List.set_cons_succ, List.set_cons_zero]
      refine takeL (.int .i64 n) rfl (by go_simp; have := HN.out; split <;> omega) ?_
      try simp only [Act.put, List.setIfInBounds_toArray, List.set_cons_succ, List.set_cons_zero]
      refine takeL (.bool true) rfl (by go_simp <;> omega) ?_
      try simp only [Act.put, List.setIfInBounds_toArray, List.set_cons_succ, List.set_cons_zero]
      refine wpList_nil ?_
      have HY := Lib.hid (chgN_yes (a := l) (b := m) (n := k))
      have HZ := Lib.hid (chgN_no (a := l) (b := m) (n := k))
      by_cases ha : k < l.length
      · by_cases hb : k < m.length
        · clear HN
          have hk1 : (k : Int) < (l.length : Int) := by omega
          have hlk : l[k]? = some l[k] := by simp [ha]
          obtain ⟨b, o, rfl, c1⟩ := HL.out k l[k] hlk
          have d1 := (HW.out.cell (block_lt_of_cell c1)).trans c1
          have hx0 := hd_some hlk
          generalize l[k] = x at *
          clear hlk c1
          have hk2 : (k : Int) < (m.length : Int) := by omega
          have hmk : m[k]? = some m[k] := by simp [hb]
          obtain ⟨b', o', rfl, c2⟩ := HM.out k m[k] hmk
          have d2 := (HW.out.cell (block_lt_of_cell c2)).trans c2
          have hy0 := hd_some hmk
          generalize m[k] = y at *
          clear hmk c2
          rw [hx0, hy0] at HY HZ
          clear hx0 hy0
          by_cases hxy : x = y
          · have HC := Lib.hid (HZ.out hxy)
            have e1 : (x != y) = false := by simpa using hxy
            clear HY HZ hxy
            go_wp2_with fail
            go_roundg (n - (k + 1))
            case measure => omega
            case rel => exact ⟨k + 1, _, rfl, by omega, by omega, by go_num, by rw [HC.out]; exact HO.out, HW.out⟩
          · have HC := Lib.hid (HY.out hxy)
            have e1 : (x != y) = true := by simpa using hxy
            clear HY HZ hxy
            go_upto_region 11 with fail
            refine wp_region_lit ?_
            refine takeL (ov) rfl (by go_simp) ?_
            try simp only [Act.put, List.setIfInBounds_toArray, List.set_cons_succ, List.set_cons_zero]
            refine takeL (.int .i64 k) rfl (by go_simp) ?_
            try simp only [Act.put, List.setIfInBounds_toArray, List.set_cons_succ, List.set_cons_zero]
            refine wpList_run (.slice (some ⟨wr.heap.size, 0, none⟩) 1 1) (wr.alloc (.cells #[.int .i64 k] 3)) rfl (by go_simp) ?_
            try simp only [Act.put, List.setIfInBounds_toArray, List.set_cons_succ, List.set_cons_zero]
            have hbl : Below wr.heap.size wr (wr.alloc (.cells #[.int .i64 k] 3)) := (Below.refl _ _).alloc (Nat.le_refl _) _
            have hli : Own (wr.alloc (.cells #[.int .i64 k] 3)) wr.heap.size (.slice (some ⟨wr.heap.size, 0, none⟩) 1 1) [(k : Int)] := Own.lit wr wr.heap.size (Nat.le_refl _) [(k : Int)] (by simp) _ rfl
            have hle := chgN_le l m k
            refine app_L (HO.out.below hbl) (Nat.le_trans HW.out.size hbl.size) hli.ints (by simp only [List.length_cons, List.length_nil]; omega) rfl rfl rfl ?_
            intro s2 w2 ho2 hb2
            try simp only [Act.put, List.setIfInBounds_toArray, List.set_cons_succ, List.set_cons_zero]
            refine takeL (s2) rfl (by go_simp) ?_
            try simp only [Act.put, List.setIfInBounds_toArray, List.set_cons_succ, List.set_cons_zero]
            refine wpList_nil ?_
            have HO2 := Lib.hid ho2
            have HB2 := Lib.hid ((HW.out.trans (hbl.mono HW.out.size)).trans hb2)
            clear hbl hli ho2 hb2 hle
            go_wp2_with fail
            go_roundg (n - (k + 1))
            case measure => omega
            case rel => exact ⟨k + 1, _, rfl, by omega, by omega, by go_num, by rw [HC.out]; exact HO2.out, HB2.out⟩
        · clear HN
          have hk1 : (k : Int) < (l.length : Int) := by omega
          have hlk : l[k]? = some l[k] := by simp [ha]
          obtain ⟨b, o, rfl, c1⟩ := HL.out k l[k] hlk
          have d1 := (HW.out.cell (block_lt_of_cell c1)).trans c1
          have hx0 := hd_some hlk
          generalize l[k] = x at *
          clear hlk c1
          have hk2 : ¬ (k : Int) < (m.length : Int) := by omega
          have hy0 := hd_none (l := m) (i := k) (by omega)
          obtain ⟨y, hy⟩ : ∃ y : Int, y = 0 := ⟨_, rfl⟩
          rw [← hy] at hy0
          have HY0 := Lib.hid hy
          clear hy
          rw [hx0, hy0] at HY HZ
          clear hx0 hy0
          by_cases hxy : x = y
          · have HC := Lib.hid (HZ.out hxy)
            obtain rfl := HY0.out
            have e1 : (x != (0 : Int)) = false := by simpa using hxy
            clear HY HZ hxy
            go_wp2_with fail
            go_roundg (n - (k + 1))
            case measure => omega
            case rel => exact ⟨k + 1, _, rfl, by omega, by omega, by go_num, by rw [HC.out]; exact HO.out, HW.out⟩
          · have HC := Lib.hid (HY.out hxy)
            obtain rfl := HY0.out
            have e1 : (x != (0 : Int)) = true := by simpa using hxy
            clear HY HZ hxy
            go_upto_region 11 with fail
            refine wp_region_lit ?_
            refine takeL (ov) rfl (by go_simp) ?_
            try simp only [Act.put, List.setIfInBounds_toArray, List.set_cons_succ, List.set_cons_zero]
            refine takeL (.int .i64 k) rfl (by go_simp) ?_
            try simp only [Act.put, List.setIfInBounds_toArray, List.set_cons_succ, List.set_cons_zero]
            refine wpList_run (.slice (some ⟨wr.heap.size, 0, none⟩) 1 1) (wr.alloc (.cells #[.int .i64 k] 3)) rfl (by go_simp) ?_
            try simp only [Act.put, List.setIfInBounds_toArray, List.set_cons_succ, List.set_cons_zero]
            have hbl : Below wr.heap.size wr (wr.alloc (.cells #[.int .i64 k] 3)) := (Below.refl _ _).alloc (Nat.le_refl _) _
            have hli : Own (wr.alloc (.cells #[.int .i64 k] 3)) wr.heap.size (.slice (some ⟨wr.heap.size, 0, none⟩) 1 1) [(k : Int)] := Own.lit wr wr.heap.size (Nat.le_refl _) [(k : Int)] (by simp) _ rfl
            have hle := chgN_le l m k
            refine app_L (HO.out.below hbl) (Nat.le_trans HW.out.size hbl.size) hli.ints (by simp only [List.length_cons, List.length_nil]; omega) rfl rfl rfl ?_
            intro s2 w2 ho2 hb2
            try simp only [Act.put, List.setIfInBounds_toArray, List.set_cons_succ, List.set_cons_zero]
            refine takeL (s2) rfl (by go_simp) ?_
            try simp only [Act.put, List.setIfInBounds_toArray, List.set_cons_succ, List.set_cons_zero]
            refine wpList_nil ?_
            have HO2 := Lib.hid ho2
            have HB2 := Lib.hid ((HW.out.trans (hbl.mono HW.out.size)).trans hb2)
            clear hbl hli ho2 hb2 hle
            go_wp2_with fail
            go_roundg (n - (k + 1))
            case measure => omega
            case rel => exact ⟨k + 1, _, rfl, by omega, by omega, by go_num, by rw [HC.out]; exact HO2.out, HB2.out⟩
      · have hb : k < m.length := by have := HN.out; omega
        clear HN
        have hk1 : ¬ (k : Int) < (l.length : Int) := by omega
        have hx0 := hd_none (l := l) (i := k) (by omega)
        obtain ⟨x, hx⟩ : ∃ x : Int, x = 0 := ⟨_, rfl⟩
        rw [← hx] at hx0
        have HX0 := Lib.hid hx
        clear hx
        have hk2 : (k : Int) < (m.length : Int) := by omega
        have hmk : m[k]? = some m[k] := by simp [hb]
        obtain ⟨b', o', rfl, c2⟩ := HM.out k m[k] hmk
        have d2 := (HW.out.cell (block_lt_of_cell c2)).trans c2
        have hy0 := hd_some hmk
        generalize m[k] = y at *
        clear hmk c2
        rw [hx0, hy0] at HY HZ
        clear hx0 hy0
        by_cases hxy : x = y
        · have HC := Lib.hid (HZ.out hxy)
          obtain rfl := HX0.out
          have e1 : ((0 : Int) != y) = false := by simpa using hxy
          clear HY HZ hxy
          go_wp2_with fail
          go_roundg (n - (k + 1))
          case measure => omega
          case rel => exact ⟨k + 1, _, rfl, by omega, by omega, by go_num, by rw [HC.out]; exact HO.out, HW.out⟩
        · have HC := Lib.hid (HY.out hxy)
          obtain rfl := HX0.out
          have e1 : ((0 : Int) != y) = true := by simpa using hxy
          clear HY HZ hxy
          go_upto_region 11 with fail
          refine wp_region_lit ?_
          refine takeL (ov) rfl (by go_simp) ?_
          try simp only [Act.put, List.setIfInBounds_toArray, List.set_cons_succ, List.set_cons_zero]
          refine takeL (.int .i64 k) rfl (by go_simp) ?_
          try simp only [Act.put, List.setIfInBounds_toArray, List.set_cons_succ, List.set_cons_zero]
          refine wpList_run (.slice (some ⟨wr.heap.size, 0, none⟩) 1 1) (wr.alloc (.cells #[.int .i64 k] 3)) rfl (by go_simp) ?_
          try simp only [Act.put, List.setIfInBounds_toArray, List.set_cons_succ, List.set_cons_zero]
          have hbl : Below wr.heap.size wr (wr.alloc (.cells #[.int .i64 k] 3)) := (Below.refl _ _).alloc (Nat.le_refl _) _
          have hli : Own (wr.alloc (.cells #[.int .i64 k] 3)) wr.heap.size (.slice (some ⟨wr.heap.size, 0, none⟩) 1 1) [(k : Int)] := Own.lit wr wr.heap.size (Nat.le_refl _) [(k : Int)] (by simp) _ rfl
          have hle := chgN_le l m k
          refine app_L (HO.out.below hbl) (Nat.le_trans HW.out.size hbl.size) hli.ints (by simp only [List.length_cons, List.length_nil]; omega) rfl rfl rfl ?_
          intro s2 w2 ho2 hb2
          try simp only [Act.put, List.setIfInBounds_toArray, List.set_cons_succ, List.set_cons_zero]
          refine takeL (s2) rfl (by go_simp) ?_
          try simp only [Act.put, List.setIfInBounds_toArray, List.set_cons_succ, List.set_cons_zero]
          refine wpList_nil ?_
          have HO2 := Lib.hid ho2
          have HB2 := Lib.hid ((HW.out.trans (hbl.mono HW.out.size)).trans hb2)
          clear hbl hli ho2 hb2 hle
          go_wp2_with fail
          go_roundg (n - (k + 1))
          case measure => omega
          case rel => exact ⟨k + 1, _, rfl, by omega, by omega, by go_num, by rw [HC.out]; exact HO2.out, HB2.out⟩
    · obtain rfl : k = n := by omega
      go_upto_region 3 with fail
      refine wp_region_lit ?_
      refine takeL (.int .i64 k) rfl (by go_simp) ?_
      try simp only [Act.put, List.setIfInBounds_toArray, List.set_cons_succ, List.set_cons_zero]
      refine takeL (.slice a l.length cap) rfl (by go_simp) ?_
      try simp only [Act.put, List.setIfInBounds_toArray, List.set_cons_succ, List.set_cons_zero]
      refine takeL (.int .i64 l.length) rfl (by go_simp) ?_
      try simp only [Act.put, List.setIfInBounds_toArray, List.set_cons_succ, List.set_cons_zero]
      refine takeL (.slice a' m.length cap') rfl (by go_simp) ?_
      try simp only [Act.put, List.setIfInBounds_toArray, List.set_cons_succ, List.set_cons_zero]
      refine takeL (.int .i64 m.length) rfl (by go_simp) ?_
      try simp only [Act.put, List.setIfInBounds_toArray, List.set_cons_succ, List.set_cons_zero]
      refine takeL (.int .i64 k) rfl (by go_simp; have := HN.out; split <;> omega) ?_
      try simp only [Act.put, List.setIfInBounds_toArray, List.set_cons_succ, List.set_cons_zero]
      refine takeL (.bool false) rfl (by go_simp <;> omega) ?_
      try simp only [Act.put, List.setIfInBounds_toArray, List.set_cons_succ, List.set_cons_zero]
      refine wpList_nil ?_
      go_wp2_with fail
      go_ret
      exact ⟨_, rfl, HO.out, HW.out⟩
end Go.Proofs.Ytbokbijehilbiaa
