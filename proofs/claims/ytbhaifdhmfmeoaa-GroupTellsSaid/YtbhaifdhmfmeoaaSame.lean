/- Lists of sectors, of items and of ints compared: slices.Equal, siltkeep's Sectors, Items and Ints. -/
import Derived.Test.YtbhaifdhmfmeoaaGlay
import Derived.Test.YtbhaifdhmfmeoaaKeep
namespace Go.Proofs.Ytbhaifdhmfmeoaa
set_option linter.unusedSimpArgs false
set_option linter.unusedVariables false
open Go.RowKit

set_option maxRecDepth 100000 in
theorem equal_any (sv tv : Value) (l m : List (List Int)) (hl : l.length ≤ 100000) (hm : m.length ≤ 100000) (w : World) (h : SecsAt w sv l) (k : SecsAt w tv m) : Calls Try.prog 37 #[sv, tv] w fun e w' => e = .returned (.bool (decide (l = m))) ∧ Below w.heap.size w w' := by
  obtain ⟨a, c, rfl, hc1, hc⟩ := h
  obtain ⟨b, d, rfl, hd1, hd⟩ := k
  by_cases hlm : l.length = m.length
  · have HC := Lib.hid hc
    have HD := Lib.hid hd
    obtain ⟨n, hn⟩ : ∃ n, m.length = n := ⟨_, rfl⟩
    rw [hlm, hn]
    rw [hn] at hlm hm
    have HL := Lib.hid hlm
    have HM := Lib.hid hn
    clear hc hd hc1 hd1 hl hlm hn
    go_enter Try.func37, Try.ntmps37
    go_wp2_with fail
    go_loopg [13] n (fun q i wr => ∃ k : Nat, n - k ≤ q ∧ k ≤ n ∧ i = .int .i64 k ∧ l.take k = m.take k ∧ Below w.heap.size w wr)
    case atStart => exact ⟨0, by omega, by omega, rfl, rfl, Below.refl _ _⟩
    case round =>
      obtain ⟨k, hq, hk, rfl, hsame, hb⟩ := hrel
      have HS := Lib.hid hsame
      have HB := Lib.hid hb
      clear hsame hb
      by_cases hlt : k < n
      · obtain ⟨y, hy⟩ : ∃ y, l[k]? = some y := ⟨_, List.getElem?_eq_getElem (by have := HL.out; omega)⟩
        obtain ⟨z, hz⟩ : ∃ z, m[k]? = some z := ⟨_, List.getElem?_eq_getElem (by have := HM.out; omega)⟩
        obtain ⟨y1, g, o, rfl, y2⟩ := HC.out k y hy
        obtain ⟨z1, g2, o2, rfl, z2⟩ := HD.out k z hz
        have HY1 := Lib.hid y1
        have HZ1 := Lib.hid z1
        have HYA := Lib.hid (y2.below HB.out (y2.lt (by rw [y1.size]; decide)))
        have HZA := Lib.hid (z2.below HB.out (z2.lt (by rw [z1.size]; decide)))
        have HYL := Lib.hid (HYA.out.lt (by rw [y1.size]; decide))
        have HZL := Lib.hid (HZA.out.lt (by rw [z1.size]; decide))
        have HYK := Lib.hid hy
        have HZK := Lib.hid hz
        have HN := Lib.hid fun w => neq50 w y z y1.length z1.length
        have gk : decide ((k : Int) < (n : Int)) = true := decide_eq_true (by omega)
        have hk0 : (k : Int) < (n : Int) := by omega
        clear y1 y2 z1 z2 hy hz
        go_upto_region 6 with fail
        refine startH (fun wq => Below wr.heap.size wr wq) (by kernel_rfl) ?_
        refine takeH 0 (some 16) (.slice (some ⟨g, o, none⟩) n c) rfl rfl (by kernel_rfl) (by kernel_rfl) (by kernel_rfl) (fun _ _ _ h => h) rfl (fun wq hS => by go_simp) (Below.refl _ _).drew ?_
        try simp only [Act.put, List.setIfInBounds_toArray, List.set_cons_succ, List.set_cons_zero]
        refine takeH 1 (some 17) (.int .i64 k) rfl rfl (by kernel_rfl) (by kernel_rfl) (by kernel_rfl) (fun _ _ _ h => h) rfl (fun wq hS => by go_simp) (Below.refl _ _).drew ?_
        try simp only [Act.put, List.setIfInBounds_toArray, List.set_cons_succ, List.set_cons_zero]
        refine takeH 2 (some 18) (.pointer (some ⟨g, o + k * 64, none⟩)) rfl rfl (by kernel_rfl) (by kernel_rfl) (by kernel_rfl) (fun _ _ _ h => h) rfl (fun wq hS => by go_simp) (Below.refl _ _).drew ?_
        try simp only [Act.put, List.setIfInBounds_toArray, List.set_cons_succ, List.set_cons_zero]
        refine takeH 3 (some 19) (.agg ((u8s y).toArray)) rfl rfl (by kernel_rfl) (by kernel_rfl) (by kernel_rfl) (fun _ _ _ h => h) rfl (fun wq hS => exec_load_at wq _ _ 50 _ rfl (g) (o + k * 64) rfl ((u8s y).toArray) _ Try.underlying50 rfl (by rw [HY1.out.size]; exact info50) (HYA.out.below hS HYL.out)) (Below.refl _ _).drew ?_
        try simp only [Act.put, List.setIfInBounds_toArray, List.set_cons_succ, List.set_cons_zero]
        refine takeH 4 (some 20) (.slice (some ⟨g2, o2, none⟩) n d) rfl rfl (by kernel_rfl) (by kernel_rfl) (by kernel_rfl) (fun _ _ _ h => h) rfl (fun wq hS => by go_simp) (Below.refl _ _).drew ?_
        try simp only [Act.put, List.setIfInBounds_toArray, List.set_cons_succ, List.set_cons_zero]
        refine takeH 5 (some 21) (.int .i64 k) rfl rfl (by kernel_rfl) (by kernel_rfl) (by kernel_rfl) (fun _ _ _ h => h) rfl (fun wq hS => by go_simp) (Below.refl _ _).drew ?_
        try simp only [Act.put, List.setIfInBounds_toArray, List.set_cons_succ, List.set_cons_zero]
        refine takeH 6 (some 22) (.pointer (some ⟨g2, o2 + k * 64, none⟩)) rfl rfl (by kernel_rfl) (by kernel_rfl) (by kernel_rfl) (fun _ _ _ h => h) rfl (fun wq hS => by go_simp) (Below.refl _ _).drew ?_
        try simp only [Act.put, List.setIfInBounds_toArray, List.set_cons_succ, List.set_cons_zero]
        refine takeH 7 (some 23) (.agg ((u8s z).toArray)) rfl rfl (by kernel_rfl) (by kernel_rfl) (by kernel_rfl) (fun _ _ _ h => h) rfl (fun wq hS => exec_load_at wq _ _ 50 _ rfl (g2) (o2 + k * 64) rfl ((u8s z).toArray) _ Try.underlying50 rfl (by rw [HZ1.out.size]; exact info50) (HZA.out.below hS HZL.out)) (Below.refl _ _).drew ?_
        try simp only [Act.put, List.setIfInBounds_toArray, List.set_cons_succ, List.set_cons_zero]
        by_cases e : y = z
        · have gn : (!decide (y = z)) = false := by simp [e]
          rw [gn] at HN
          have HEQ := Lib.hid e
          clear gn e
          refine takeH 8 (some 24) (.bool false) rfl rfl (by kernel_rfl) (by kernel_rfl) (by kernel_rfl) (fun _ _ _ h => h) rfl (fun wq hS => by have hq := HN.out; go_simp) (Below.refl _ _).drew ?_
          try simp only [Act.put, List.setIfInBounds_toArray, List.set_cons_succ, List.set_cons_zero]
          refine wpAnyH_done (by kernel_rfl) ?_ _
          have HST : Hid (l.take (k + 1) = m.take (k + 1)) := Lib.hid (by rw [List.take_add_one, List.take_add_one, HS.out, HYK.out, HZK.out, HEQ.out])
          have HB2 : Hid (Below w.heap.size w wr.drew) := Lib.hid HB.out.drew
          go_wp2_with fail
          go_roundg (n - (k + 1))
          case measure => omega
          case rel => exact ⟨k + 1, by omega, by omega, by go_num, HST.out, by first | exact HB2.out | exact HB.out.drew⟩
        · have gn : (!decide (y = z)) = true := by simp [e]
          rw [gn] at HN
          refine takeH 8 (some 24) (.bool true) rfl rfl (by kernel_rfl) (by kernel_rfl) (by kernel_rfl) (fun _ _ _ h => h) rfl (fun wq hS => by have hq := HN.out; go_simp) (Below.refl _ _).drew ?_
          try simp only [Act.put, List.setIfInBounds_toArray, List.set_cons_succ, List.set_cons_zero]
          refine wpAnyH_done (by kernel_rfl) ?_ _
          have HX : Hid (decide (l = m) = false) := Lib.hid (decide_eq_false fun h => by
            subst h
            have := HYK.out.symm.trans HZK.out
            exact e (Option.some.inj this))
          have HB2 : Hid (Below w.heap.size w wr.drew) := Lib.hid HB.out.drew
          clear gn e
          go_wp2_with fail
          go_ret
          exact ⟨ret_bool HX.out.symm, HB2.out⟩
      · obtain rfl : k = n := by omega
        have HX : Hid (decide (l = m) = true) := Lib.hid (decide_eq_true (by
          have := HS.out
          rwa [List.take_of_length_le (by have := HL.out; omega), List.take_of_length_le (by have := HM.out; omega)] at this))
        have gk : decide ((k : Int) < (k : Int)) = false := decide_eq_false (by omega)
        go_wp2_with fail
        go_ret
        exact ⟨ret_bool HX.out.symm, HB.out⟩
  · have HX : Hid (decide (l = m) = false) := Lib.hid (decide_eq_false fun h => hlm (by rw [h]))
    rw [HX.out]
    have gn : ((l.length : Int) != (m.length : Int)) = true := by simp; omega
    obtain ⟨n1, h1⟩ : ∃ n, l.length = n := ⟨_, rfl⟩
    obtain ⟨n2, h2⟩ : ∃ n, m.length = n := ⟨_, rfl⟩
    rw [h1, h2] at gn hlm
    rw [h1, h2]
    clear hc hd hc1 hd1 hl hm h1 h2
    go_enter Try.func37, Try.ntmps37
    go_wp2_with fail
    go_ret
    exact ⟨rfl, Below.refl _ _⟩

set_option maxRecDepth 100000 in
theorem sectors_any (sv tv : Value) (l m : List (List Int)) (hl : l.length ≤ 100000) (hm : m.length ≤ 100000) (w : World) (h : SecsAt w sv l) (k : SecsAt w tv m) : Calls Try.prog 20 #[sv, tv] w fun e w' => e = .returned (.bool (decide (l = m))) ∧ Below w.heap.size w w' := by
  obtain ⟨a, c, rfl, hc1, hc⟩ := h
  obtain ⟨b, d, rfl, hd1, hd⟩ := k
  by_cases hlm : l.length = m.length
  · have HC := Lib.hid hc
    have HD := Lib.hid hd
    obtain ⟨n, hn⟩ : ∃ n, m.length = n := ⟨_, rfl⟩
    rw [hlm, hn]
    rw [hn] at hlm hm
    have HL := Lib.hid hlm
    have HM := Lib.hid hn
    clear hc hd hc1 hd1 hl hlm hn
    go_enter Try.func20, Try.ntmps20
    go_wp2_with fail
    go_loopg [5] n (fun q i wr => ∃ k : Nat, n - k ≤ q ∧ k ≤ n ∧ i = .int .i64 k ∧ l.take k = m.take k ∧ Below w.heap.size w wr)
    case atStart => exact ⟨0, by omega, by omega, rfl, rfl, Below.refl _ _⟩
    case round =>
      obtain ⟨k, hq, hk, rfl, hsame, hb⟩ := hrel
      have HS := Lib.hid hsame
      have HB := Lib.hid hb
      clear hsame hb
      by_cases hlt : k < n
      · obtain ⟨y, hy⟩ : ∃ y, l[k]? = some y := ⟨_, List.getElem?_eq_getElem (by have := HL.out; omega)⟩
        obtain ⟨z, hz⟩ : ∃ z, m[k]? = some z := ⟨_, List.getElem?_eq_getElem (by have := HM.out; omega)⟩
        obtain ⟨y1, g, o, rfl, y2⟩ := HC.out k y hy
        obtain ⟨z1, g2, o2, rfl, z2⟩ := HD.out k z hz
        have HY1 := Lib.hid y1
        have HZ1 := Lib.hid z1
        have HYA := Lib.hid (y2.below HB.out (y2.lt (by rw [y1.size]; decide)))
        have HZA := Lib.hid (z2.below HB.out (z2.lt (by rw [z1.size]; decide)))
        have HYL := Lib.hid (HYA.out.lt (by rw [y1.size]; decide))
        have HZL := Lib.hid (HZA.out.lt (by rw [z1.size]; decide))
        have HYK := Lib.hid hy
        have HZK := Lib.hid hz
        have HN := Lib.hid fun w => neq50 w y z y1.length z1.length
        have gk : decide ((k : Int) < (n : Int)) = true := decide_eq_true (by omega)
        have hk0 : (k : Int) < (n : Int) := by omega
        clear y1 y2 z1 z2 hy hz
        go_upto_region 6 with fail
        refine startH (fun wq => Below wr.heap.size wr wq) (by kernel_rfl) ?_
        refine takeH 0 (some 17) (.slice (some ⟨g, o, none⟩) n c) rfl rfl (by kernel_rfl) (by kernel_rfl) (by kernel_rfl) (fun _ _ _ h => h) rfl (fun wq hS => by go_simp) (Below.refl _ _).drew ?_
        try simp only [Act.put, List.setIfInBounds_toArray, List.set_cons_succ, List.set_cons_zero]
        refine takeH 1 (some 18) (.int .i64 k) rfl rfl (by kernel_rfl) (by kernel_rfl) (by kernel_rfl) (fun _ _ _ h => h) rfl (fun wq hS => by go_simp) (Below.refl _ _).drew ?_
        try simp only [Act.put, List.setIfInBounds_toArray, List.set_cons_succ, List.set_cons_zero]
        refine takeH 2 (some 19) (.pointer (some ⟨g, o + k * 64, none⟩)) rfl rfl (by kernel_rfl) (by kernel_rfl) (by kernel_rfl) (fun _ _ _ h => h) rfl (fun wq hS => by go_simp) (Below.refl _ _).drew ?_
        try simp only [Act.put, List.setIfInBounds_toArray, List.set_cons_succ, List.set_cons_zero]
        refine takeH 3 (some 20) (.agg ((u8s y).toArray)) rfl rfl (by kernel_rfl) (by kernel_rfl) (by kernel_rfl) (fun _ _ _ h => h) rfl (fun wq hS => exec_load_at wq _ _ 50 _ rfl (g) (o + k * 64) rfl ((u8s y).toArray) _ Try.underlying50 rfl (by rw [HY1.out.size]; exact info50) (HYA.out.below hS HYL.out)) (Below.refl _ _).drew ?_
        try simp only [Act.put, List.setIfInBounds_toArray, List.set_cons_succ, List.set_cons_zero]
        refine takeH 4 (some 21) (.slice (some ⟨g2, o2, none⟩) n d) rfl rfl (by kernel_rfl) (by kernel_rfl) (by kernel_rfl) (fun _ _ _ h => h) rfl (fun wq hS => by go_simp) (Below.refl _ _).drew ?_
        try simp only [Act.put, List.setIfInBounds_toArray, List.set_cons_succ, List.set_cons_zero]
        refine takeH 5 (some 22) (.int .i64 k) rfl rfl (by kernel_rfl) (by kernel_rfl) (by kernel_rfl) (fun _ _ _ h => h) rfl (fun wq hS => by go_simp) (Below.refl _ _).drew ?_
        try simp only [Act.put, List.setIfInBounds_toArray, List.set_cons_succ, List.set_cons_zero]
        refine takeH 6 (some 23) (.pointer (some ⟨g2, o2 + k * 64, none⟩)) rfl rfl (by kernel_rfl) (by kernel_rfl) (by kernel_rfl) (fun _ _ _ h => h) rfl (fun wq hS => by go_simp) (Below.refl _ _).drew ?_
        try simp only [Act.put, List.setIfInBounds_toArray, List.set_cons_succ, List.set_cons_zero]
        refine takeH 7 (some 24) (.agg ((u8s z).toArray)) rfl rfl (by kernel_rfl) (by kernel_rfl) (by kernel_rfl) (fun _ _ _ h => h) rfl (fun wq hS => exec_load_at wq _ _ 50 _ rfl (g2) (o2 + k * 64) rfl ((u8s z).toArray) _ Try.underlying50 rfl (by rw [HZ1.out.size]; exact info50) (HZA.out.below hS HZL.out)) (Below.refl _ _).drew ?_
        try simp only [Act.put, List.setIfInBounds_toArray, List.set_cons_succ, List.set_cons_zero]
        by_cases e : y = z
        · have gn : (!decide (y = z)) = false := by simp [e]
          rw [gn] at HN
          have HEQ := Lib.hid e
          clear gn e
          refine takeH 8 (some 25) (.bool false) rfl rfl (by kernel_rfl) (by kernel_rfl) (by kernel_rfl) (fun _ _ _ h => h) rfl (fun wq hS => by have hq := HN.out; go_simp) (Below.refl _ _).drew ?_
          try simp only [Act.put, List.setIfInBounds_toArray, List.set_cons_succ, List.set_cons_zero]
          refine wpAnyH_done (by kernel_rfl) ?_ _
          have HST : Hid (l.take (k + 1) = m.take (k + 1)) := Lib.hid (by rw [List.take_add_one, List.take_add_one, HS.out, HYK.out, HZK.out, HEQ.out])
          have HB2 : Hid (Below w.heap.size w wr.drew) := Lib.hid HB.out.drew
          go_wp2_with fail
          go_roundg (n - (k + 1))
          case measure => omega
          case rel => exact ⟨k + 1, by omega, by omega, by go_num, HST.out, by first | exact HB2.out | exact HB.out.drew⟩
        · have gn : (!decide (y = z)) = true := by simp [e]
          rw [gn] at HN
          refine takeH 8 (some 25) (.bool true) rfl rfl (by kernel_rfl) (by kernel_rfl) (by kernel_rfl) (fun _ _ _ h => h) rfl (fun wq hS => by have hq := HN.out; go_simp) (Below.refl _ _).drew ?_
          try simp only [Act.put, List.setIfInBounds_toArray, List.set_cons_succ, List.set_cons_zero]
          refine wpAnyH_done (by kernel_rfl) ?_ _
          have HX : Hid (decide (l = m) = false) := Lib.hid (decide_eq_false fun h => by
            subst h
            have := HYK.out.symm.trans HZK.out
            exact e (Option.some.inj this))
          have HB2 : Hid (Below w.heap.size w wr.drew) := Lib.hid HB.out.drew
          clear gn e
          go_wp2_with fail
          go_ret
          exact ⟨ret_bool HX.out.symm, HB2.out⟩
      · obtain rfl : k = n := by omega
        have HX : Hid (decide (l = m) = true) := Lib.hid (decide_eq_true (by
          have := HS.out
          rwa [List.take_of_length_le (by have := HL.out; omega), List.take_of_length_le (by have := HM.out; omega)] at this))
        have gk : decide ((k : Int) < (k : Int)) = false := decide_eq_false (by omega)
        go_wp2_with fail
        go_ret
        exact ⟨ret_bool HX.out.symm, HB.out⟩
  · have HX : Hid (decide (l = m) = false) := Lib.hid (decide_eq_false fun h => hlm (by rw [h]))
    rw [HX.out]
    have gn : ((l.length : Int) != (m.length : Int)) = true := by simp; omega
    obtain ⟨n1, h1⟩ : ∃ n, l.length = n := ⟨_, rfl⟩
    obtain ⟨n2, h2⟩ : ∃ n, m.length = n := ⟨_, rfl⟩
    rw [h1, h2] at gn hlm
    rw [h1, h2]
    clear hc hd hc1 hd1 hl hm h1 h2
    go_enter Try.func20, Try.ntmps20
    go_wp2_with fail
    go_ret
    exact ⟨rfl, Below.refl _ _⟩
set_option maxRecDepth 100000 in
theorem ints_any (l m : List Int) (hl : l.length ≤ 1000) (hm : m.length ≤ 1000) (sv tv : Value) (w : World) (h : IntsAt w sv l) (k : IntsAt w tv m) : Calls Try.prog 21 #[sv, tv] w fun e w' => e = .returned (.bool (decide (l = m))) ∧ Below w.heap.size w w' := by
  obtain ⟨a, cap, rfl, hc⟩ := h
  obtain ⟨a', cap', rfl, hc'⟩ := k
  have HC := Lib.hid hc
  have HC' := Lib.hid hc'
  clear hc hc'
  by_cases hlen : l.length = m.length
  · obtain ⟨n, hn⟩ : ∃ n, m.length = n := ⟨_, rfl⟩
    have hln := hlen.trans hn
    rw [hn] at hm
    rw [hln, hn]
    have HN := Lib.hid hn
    have HLN := Lib.hid hln
    clear hln hl hlen hn
    go_enter Try.func21, Try.ntmps21
    go_wp2_with fail
    go_loopg [5] n (fun q i wr => ∃ k : Nat, n - k ≤ q ∧ k ≤ n ∧ i = .int .i64 k ∧ (∀ j, j < k → l[j]? = m[j]?) ∧ Below w.heap.size w wr)
    case atStart => exact ⟨0, by omega, by omega, rfl, fun j hj => by omega, Below.refl _ _⟩
    case round =>
      obtain ⟨k, hg, hk, rfl, heq, hbel⟩ := hrel
      have HE := Lib.hid heq
      have HB := Lib.hid hbel
      clear heq hbel
      by_cases hlt : k < n
      · have h1 := HLN.out
        have h2 := HN.out
        obtain ⟨x, hx⟩ : ∃ x, l[k]? = some x := ⟨_, List.getElem?_eq_getElem (by omega)⟩
        obtain ⟨y, hy⟩ : ∃ y, m[k]? = some y := ⟨_, List.getElem?_eq_getElem (by omega)⟩
        obtain ⟨b, o, rfl, c1⟩ := HC.out k x hx
        obtain ⟨b', o', rfl, c2⟩ := HC'.out k y hy
        have d1 := (HB.out.cell (block_lt_of_cell c1)).trans c1
        have d2 := (HB.out.cell (block_lt_of_cell c2)).trans c2
        have HX := Lib.hid hx
        have HY := Lib.hid hy
        clear hx hy c1 c2 h1 h2
        have hk1 : (k : Int) < (n : Int) := by omega
        have hg1 : decide ((k : Int) < (n : Int)) = true := decide_eq_true hk1
        by_cases hxy : x = y
        · subst hxy
          have e1 : (x != x) = false := by simp
          go_wp2_with fail
          go_quiet (fail)
          go_wp2_with fail
          go_roundg (n - (k + 1))
          case measure => omega
          case rel => exact ⟨k + 1, by omega, by omega, by go_num, fun j hj => by
            by_cases hj2 : j < k
            · exact HE.out j hj2
            · obtain rfl : j = k := by omega
              rw [HX.out, HY.out], drewN_below HB.out _⟩
        · have e1 : (x != y) = true := by simpa using hxy
          have HXY := Lib.hid hxy
          clear hxy
          go_wp2_with fail
          go_quiet (fail)
          go_wp2_with fail
          go_ret
          exact ⟨ret_bool (by
            symm
            refine decide_eq_false fun e => HXY.out ?_
            have := HX.out
            rw [e, HY.out] at this
            exact (Option.some.inj this).symm), drewN_below HB.out _⟩
      · obtain rfl : k = n := by omega
        have hk1 : ¬ (k : Int) < (k : Int) := by omega
        have hg1 : decide ((k : Int) < (k : Int)) = false := decide_eq_false hk1
        go_wp2_with fail
        go_ret
        exact ⟨ret_bool (by
          symm
          refine decide_eq_true (List.ext_getElem? fun j => ?_)
          rcases Nat.lt_or_ge j k with h1 | h1
          · exact HE.out j h1
          · have h2 := HLN.out
            have h3 := HN.out
            rw [List.getElem?_eq_none (by omega), List.getElem?_eq_none (by omega)]), HB.out⟩
  · have HL : Hid (l ≠ m) := Lib.hid fun e => hlen (by rw [e])
    have e1 : ((l.length : Int) != (m.length : Int)) = true := by simp; omega
    have hne : ¬ (l.length : Int) = (m.length : Int) := by omega
    clear hlen
    go_enter Try.func21, Try.ntmps21
    go_wp2_with fail
    go_ret
    exact ⟨ret_bool (by symm; exact decide_eq_false HL.out), Below.refl _ _⟩
theorem it_eq (x y : It) : x = y ↔ x.mark.1 = y.mark.1 ∧ x.mark.2 = y.mark.2 ∧ x.blk = y.blk := by
  obtain ⟨⟨a, b⟩, c⟩ := x
  obtain ⟨⟨d, e⟩, f⟩ := y
  simp [and_assoc]
def sameIts : List It → List It → Bool
  | [], [] => true
  | x :: r, y :: s => decide (x.mark = y.mark) && x.blk.same y.blk && sameIts r s
  | _, _ => false
theorem sameIts_iff (l m : List It) : sameIts l m = true ↔ l = m := by
  induction l generalizing m with
  | nil => cases m <;> simp [sameIts]
  | cons x r ih =>
    cases m with
    | nil => simp [sameIts]
    | cons y s =>
      obtain ⟨a, b⟩ := x
      obtain ⟨c, d⟩ := y
      simp [sameIts, ih, Bk.same_iff]
theorem sameIts_yes {l m : List It} (h : l = m) : sameIts l m = true := (sameIts_iff l m).2 h
theorem sameIts_no {l m : List It} (h : ¬ l = m) : sameIts l m = false := by rw [← Bool.not_eq_true, sameIts_iff]; exact h
set_option maxRecDepth 100000 in
set_option maxHeartbeats 2000000 in
theorem items_any (sv tv : Value) (l m : List (It × Value)) (hl : l.length ≤ 100000) (hm : m.length ≤ 100000) (w : World) (h : ItemsAt w sv l) (k : ItemsAt w tv m) : Calls Try.prog 22 #[sv, tv] w fun e w' => e = .returned (.bool (sameIts (l.map (·.1)) (m.map (·.1)))) ∧ Below w.heap.size w w' := by
  obtain ⟨a, c, rfl, hc1, hc⟩ := h
  obtain ⟨b, d, rfl, hd1, hd⟩ := k
  by_cases hlm : l.length = m.length
  · have HC := Lib.hid hc
    have HD := Lib.hid hd
    obtain ⟨n, hn⟩ : ∃ n, m.length = n := ⟨_, rfl⟩
    rw [hlm, hn]
    rw [hn] at hlm hm
    have HL := Lib.hid hlm
    have HM := Lib.hid hn
    clear hc hd hc1 hd1 hl hlm hn
    go_enter Try.func22, Try.ntmps22
    go_wp2_with fail
    go_loopg [5] n (fun q i wr => ∃ k : Nat, n - k ≤ q ∧ k ≤ n ∧ i = .int .i64 k ∧ (l.map (·.1)).take k = (m.map (·.1)).take k ∧ Below w.heap.size w wr)
    case atStart => exact ⟨0, by omega, by omega, rfl, rfl, Below.refl _ _⟩
    case round =>
      obtain ⟨k, hq, hk, rfl, hsame, hb⟩ := hrel
      have HS := Lib.hid hsame
      have HB := Lib.hid hb
      clear hsame hb
      by_cases hlt : k < n
      · obtain ⟨xv, hx⟩ : ∃ x, l[k]? = some x := ⟨_, List.getElem?_eq_getElem (by have := HL.out; omega)⟩
        obtain ⟨yv, hy⟩ : ∃ y, m[k]? = some y := ⟨_, List.getElem?_eq_getElem (by have := HM.out; omega)⟩
        obtain ⟨x, bx⟩ := xv
        obtain ⟨y, bY⟩ := yv
        obtain ⟨x1, x2, g, o, rfl, x3⟩ := HC.out k _ hx
        obtain ⟨y1, y2, g2, o2, rfl, y3⟩ := HD.out k _ hy
        have HX := Lib.hid (ItAt.of (x3.below HB.out (x3.lt (by rw [It.arr_size x1]; decide))))
        have HY := Lib.hid (ItAt.of (y3.below HB.out (y3.lt (by rw [It.arr_size y1]; decide))))
        have HXL : Hid (g < wr.heap.size) := Lib.hid (HX.out.all.lt (by rw [It.arr_size x1]; decide))
        have HYL : Hid (g2 < wr.heap.size) := Lib.hid (HY.out.all.lt (by rw [It.arr_size y1]; decide))
        have HXW := Lib.hid x1
        have HYW := Lib.hid y1
        have HXB := Lib.hid (x2.below HB.out)
        have HYB := Lib.hid (y2.below HB.out)
        have HXK : Hid ((l.map (·.1))[k]? = some x) := Lib.hid (by rw [List.getElem?_map, hx]; rfl)
        have HYK : Hid ((m.map (·.1))[k]? = some y) := Lib.hid (by rw [List.getElem?_map, hy]; rfl)
        have HBA := Lib.hid fun w h1 h2 => block_any x.blk y.blk bx bY x1.b y1.b w h1 h2
        have HNO : Hid (x ≠ y → ¬ (l.map (·.1) = m.map (·.1))) := Lib.hid fun hne h => by
          have h2 := HXK.out
          rw [h, HYK.out] at h2
          exact hne (Option.some.inj h2).symm
        have gk : decide ((k : Int) < (n : Int)) = true := decide_eq_true (by omega)
        have hk0 : (k : Int) < (n : Int) := by omega
        have HXS := Lib.hid (x.blk.arr_size x1.b bx)
        have HYS := Lib.hid (y.blk.arr_size y1.b bY)
        clear x1 x2 x3 y1 y2 y3 hx hy
        obtain ⟨⟨xk, xi⟩, xb⟩ := x
        obtain ⟨⟨yk, yi⟩, yb⟩ := y
        simp only at *
        by_cases hmk : xk = yk ∧ xi = yi
        · obtain ⟨rfl, rfl⟩ := hmk
          have gm : ((xk != xk) = false) := by simp
          have gm2 : ((xi != xi) = false) := by simp
          go_upto_region 6 with fail
          refine startH (fun wq => Below wr.heap.size wr wq) (by kernel_rfl) ?_
          refine takeH 0 (some 17) (.slice (some ⟨g, o, none⟩) n c) rfl rfl (by kernel_rfl) (by kernel_rfl) (by kernel_rfl) (fun _ _ _ h => h) rfl (fun wq hS => by go_simp) (Below.refl _ _).drew ?_
          try simp only [Act.put, List.setIfInBounds_toArray, List.set_cons_succ, List.set_cons_zero]
          refine takeH 1 (some 18) (.int .i64 k) rfl rfl (by kernel_rfl) (by kernel_rfl) (by kernel_rfl) (fun _ _ _ h => h) rfl (fun wq hS => by go_simp) (Below.refl _ _).drew ?_
          try simp only [Act.put, List.setIfInBounds_toArray, List.set_cons_succ, List.set_cons_zero]
          refine takeH 2 (some 19) (.pointer (some ⟨g, o + k * 47, none⟩)) rfl rfl (by kernel_rfl) (by kernel_rfl) (by kernel_rfl) (fun _ _ _ h => h) rfl (fun wq hS => by go_simp) (Below.refl _ _).drew ?_
          try simp only [Act.put, List.setIfInBounds_toArray, List.set_cons_succ, List.set_cons_zero]
          refine takeH 3 (some 20) (.pointer (some ⟨g, o + k * 47, none⟩)) rfl rfl (by kernel_rfl) (by kernel_rfl) (by kernel_rfl) (fun _ _ _ h => h) rfl (fun wq hS => by go_simp) (Below.refl _ _).drew ?_
          try simp only [Act.put, List.setIfInBounds_toArray, List.set_cons_succ, List.set_cons_zero]
          refine takeH 4 (some 21) (.agg #[.int .i64 xk, .int .i64 xi]) rfl rfl (by kernel_rfl) (by kernel_rfl) (by kernel_rfl) (fun _ _ _ h => h) rfl (fun wq hS => by have q := HX.out.below hS HXL.out; have c0 := q.c0; have c1 := q.c1; go_simp) (Below.refl _ _).drew ?_
          try simp only [Act.put, List.setIfInBounds_toArray, List.set_cons_succ, List.set_cons_zero]
          refine takeH 5 (some 22) (.slice (some ⟨g2, o2, none⟩) n d) rfl rfl (by kernel_rfl) (by kernel_rfl) (by kernel_rfl) (fun _ _ _ h => h) rfl (fun wq hS => by go_simp) (Below.refl _ _).drew ?_
          try simp only [Act.put, List.setIfInBounds_toArray, List.set_cons_succ, List.set_cons_zero]
          refine takeH 6 (some 23) (.int .i64 k) rfl rfl (by kernel_rfl) (by kernel_rfl) (by kernel_rfl) (fun _ _ _ h => h) rfl (fun wq hS => by go_simp) (Below.refl _ _).drew ?_
          try simp only [Act.put, List.setIfInBounds_toArray, List.set_cons_succ, List.set_cons_zero]
          refine takeH 7 (some 24) (.pointer (some ⟨g2, o2 + k * 47, none⟩)) rfl rfl (by kernel_rfl) (by kernel_rfl) (by kernel_rfl) (fun _ _ _ h => h) rfl (fun wq hS => by go_simp) (Below.refl _ _).drew ?_
          try simp only [Act.put, List.setIfInBounds_toArray, List.set_cons_succ, List.set_cons_zero]
          refine takeH 8 (some 25) (.pointer (some ⟨g2, o2 + k * 47, none⟩)) rfl rfl (by kernel_rfl) (by kernel_rfl) (by kernel_rfl) (fun _ _ _ h => h) rfl (fun wq hS => by go_simp) (Below.refl _ _).drew ?_
          try simp only [Act.put, List.setIfInBounds_toArray, List.set_cons_succ, List.set_cons_zero]
          refine takeH 9 (some 26) (.agg #[.int .i64 xk, .int .i64 xi]) rfl rfl (by kernel_rfl) (by kernel_rfl) (by kernel_rfl) (fun _ _ _ h => h) rfl (fun wq hS => by have q := HY.out.below hS HYL.out; have c0 := q.c0; have c1 := q.c1; go_simp) (Below.refl _ _).drew ?_
          try simp only [Act.put, List.setIfInBounds_toArray, List.set_cons_succ, List.set_cons_zero]
          refine takeH 10 (some 27) (.bool false) rfl rfl (by kernel_rfl) (by kernel_rfl) (by kernel_rfl) (fun _ _ _ h => h) rfl (fun wq hS => by go_simp) (Below.refl _ _).drew ?_
          try simp only [Act.put, List.setIfInBounds_toArray, List.set_cons_succ, List.set_cons_zero]
          refine takeH 11 (some 28) (.bool false) rfl rfl (by kernel_rfl) (by kernel_rfl) (by kernel_rfl) (fun _ _ _ h => h) rfl (fun wq hS => by go_simp) (Below.refl _ _).drew ?_
          try simp only [Act.put, List.setIfInBounds_toArray, List.set_cons_succ, List.set_cons_zero]
          refine takeH 12 (some 29) (.slice (some ⟨g, o, none⟩) n c) rfl rfl (by kernel_rfl) (by kernel_rfl) (by kernel_rfl) (fun _ _ _ h => h) rfl (fun wq hS => by go_simp) (Below.refl _ _).drew ?_
          try simp only [Act.put, List.setIfInBounds_toArray, List.set_cons_succ, List.set_cons_zero]
          refine takeH 13 (some 30) (.int .i64 k) rfl rfl (by kernel_rfl) (by kernel_rfl) (by kernel_rfl) (fun _ _ _ h => h) rfl (fun wq hS => by go_simp) (Below.refl _ _).drew ?_
          try simp only [Act.put, List.setIfInBounds_toArray, List.set_cons_succ, List.set_cons_zero]
          refine takeH 14 (some 31) (.pointer (some ⟨g, o + k * 47, none⟩)) rfl rfl (by kernel_rfl) (by kernel_rfl) (by kernel_rfl) (fun _ _ _ h => h) rfl (fun wq hS => by go_simp) (Below.refl _ _).drew ?_
          try simp only [Act.put, List.setIfInBounds_toArray, List.set_cons_succ, List.set_cons_zero]
          refine takeH 15 (some 32) (.pointer (some ⟨g, o + k * 47 + 2, none⟩)) rfl rfl (by kernel_rfl) (by kernel_rfl) (by kernel_rfl) (fun _ _ _ h => h) rfl (fun wq hS => by go_simp) (Below.refl _ _).drew ?_
          try simp only [Act.put, List.setIfInBounds_toArray, List.set_cons_succ, List.set_cons_zero]
          refine takeH 16 (some 33) (.agg (xb.arr bx)) rfl rfl (by kernel_rfl) (by kernel_rfl) (by kernel_rfl) (fun _ _ _ h => h) rfl (fun wq hS => exec_load_at wq _ _ 57 _ rfl (g) (o + k * 47 + 2) rfl (xb.arr bx) _ Try.underlying57 rfl (by rw [HXS.out]; exact info57) ((HX.out.below hS HXL.out).blk)) (Below.refl _ _).drew ?_
          try simp only [Act.put, List.setIfInBounds_toArray, List.set_cons_succ, List.set_cons_zero]
          refine takeH 17 (some 34) (.slice (some ⟨g2, o2, none⟩) n d) rfl rfl (by kernel_rfl) (by kernel_rfl) (by kernel_rfl) (fun _ _ _ h => h) rfl (fun wq hS => by go_simp) (Below.refl _ _).drew ?_
          try simp only [Act.put, List.setIfInBounds_toArray, List.set_cons_succ, List.set_cons_zero]
          refine takeH 18 (some 35) (.int .i64 k) rfl rfl (by kernel_rfl) (by kernel_rfl) (by kernel_rfl) (fun _ _ _ h => h) rfl (fun wq hS => by go_simp) (Below.refl _ _).drew ?_
          try simp only [Act.put, List.setIfInBounds_toArray, List.set_cons_succ, List.set_cons_zero]
          refine takeH 19 (some 36) (.pointer (some ⟨g2, o2 + k * 47, none⟩)) rfl rfl (by kernel_rfl) (by kernel_rfl) (by kernel_rfl) (fun _ _ _ h => h) rfl (fun wq hS => by go_simp) (Below.refl _ _).drew ?_
          try simp only [Act.put, List.setIfInBounds_toArray, List.set_cons_succ, List.set_cons_zero]
          refine takeH 20 (some 37) (.pointer (some ⟨g2, o2 + k * 47 + 2, none⟩)) rfl rfl (by kernel_rfl) (by kernel_rfl) (by kernel_rfl) (fun _ _ _ h => h) rfl (fun wq hS => by go_simp) (Below.refl _ _).drew ?_
          try simp only [Act.put, List.setIfInBounds_toArray, List.set_cons_succ, List.set_cons_zero]
          refine takeH 21 (some 38) (.agg (yb.arr bY)) rfl rfl (by kernel_rfl) (by kernel_rfl) (by kernel_rfl) (fun _ _ _ h => h) rfl (fun wq hS => exec_load_at wq _ _ 57 _ rfl (g2) (o2 + k * 47 + 2) rfl (yb.arr bY) _ Try.underlying57 rfl (by rw [HYS.out]; exact info57) ((HY.out.below hS HYL.out).blk)) (Below.refl _ _).drew ?_
          try simp only [Act.put, List.setIfInBounds_toArray, List.set_cons_succ, List.set_cons_zero]
          refine oneH 22 (by kernel_rfl) rfl rfl fun K hK => ?_
          go_simp
          refine (HBA.out _ (HXB.out.below (Below.refl _ _).drew) (HYB.out.below (Below.refl _ _).drew)).mono ?_
          rintro e w2 ⟨rfl, hb⟩
          have HS2 := Lib.hid (stay (Below.refl wr.heap.size wr).drew hb)
          refine hK _ _ HS2.out ?_
          clear hK K hb HBA
          try simp only [Act.put, List.setIfInBounds_toArray, List.set_cons_succ, List.set_cons_zero]
          have HB2 := Lib.hid (stay HB.out HS2.out)
          by_cases hbk : xb = yb
          · have hsm : xb.same yb = true := (Bk.same_iff _ _).2 hbk
            rw [hsm]
            have HST : Hid ((l.map (·.1)).take (k + 1) = (m.map (·.1)).take (k + 1)) := Lib.hid (by rw [List.take_add_one, List.take_add_one, HS.out, HXK.out, HYK.out, hbk])
            clear hsm hbk gm gm2
            refine takeH 23 (some 40) (.bool false) rfl rfl (by kernel_rfl) (by kernel_rfl) (by kernel_rfl) (fun _ _ _ h => h) rfl (fun wq hS => by go_simp) HS2.out ?_
            try simp only [Act.put, List.setIfInBounds_toArray, List.set_cons_succ, List.set_cons_zero]
            refine takeH 24 (some 41) (.bool false) rfl rfl (by kernel_rfl) (by kernel_rfl) (by kernel_rfl) (fun _ _ _ h => h) rfl (fun wq hS => by go_simp) HS2.out ?_
            try simp only [Act.put, List.setIfInBounds_toArray, List.set_cons_succ, List.set_cons_zero]
            refine wpAnyH_done (by kernel_rfl) ?_ _
            go_wp2_with fail
            go_roundg (n - (k + 1))
            case measure => omega
            case rel => exact ⟨k + 1, by omega, by omega, by go_num, HST.out, HB2.out⟩
          · have hsm : xb.same yb = false := by rw [← Bool.not_eq_true, Bk.same_iff]; exact hbk
            rw [hsm]
            have HX2 := Lib.hid (HNO.out fun h => hbk (by cases h; rfl))
            clear hsm hbk gm gm2
            refine takeH 23 (some 40) (.bool true) rfl rfl (by kernel_rfl) (by kernel_rfl) (by kernel_rfl) (fun _ _ _ h => h) rfl (fun wq hS => by go_simp) HS2.out ?_
            try simp only [Act.put, List.setIfInBounds_toArray, List.set_cons_succ, List.set_cons_zero]
            refine takeH 24 (some 41) (.bool true) rfl rfl (by kernel_rfl) (by kernel_rfl) (by kernel_rfl) (fun _ _ _ h => h) rfl (fun wq hS => by go_simp) HS2.out ?_
            try simp only [Act.put, List.setIfInBounds_toArray, List.set_cons_succ, List.set_cons_zero]
            refine wpAnyH_done (by kernel_rfl) ?_ _
            go_wp2_with fail
            go_ret
            exact ⟨ret_bool (sameIts_no HX2.out).symm, HB2.out⟩
        · have hne : Hid (¬ ((xk, xi), xb).1 = ((yk, yi), yb).1) := Lib.hid fun h => hmk (by simpa using h)
          have HX2 := Lib.hid (HNO.out fun h => hmk (by cases h; exact ⟨rfl, rfl⟩))
          have HMK := Lib.hid hmk
          clear hmk
          go_upto_region 6 with fail
          refine startH (fun wq => Below wr.heap.size wr wq) (by kernel_rfl) ?_
          refine takeH 0 (some 17) (.slice (some ⟨g, o, none⟩) n c) rfl rfl (by kernel_rfl) (by kernel_rfl) (by kernel_rfl) (fun _ _ _ h => h) rfl (fun wq hS => by go_simp) (Below.refl _ _).drew ?_
          try simp only [Act.put, List.setIfInBounds_toArray, List.set_cons_succ, List.set_cons_zero]
          refine takeH 1 (some 18) (.int .i64 k) rfl rfl (by kernel_rfl) (by kernel_rfl) (by kernel_rfl) (fun _ _ _ h => h) rfl (fun wq hS => by go_simp) (Below.refl _ _).drew ?_
          try simp only [Act.put, List.setIfInBounds_toArray, List.set_cons_succ, List.set_cons_zero]
          refine takeH 2 (some 19) (.pointer (some ⟨g, o + k * 47, none⟩)) rfl rfl (by kernel_rfl) (by kernel_rfl) (by kernel_rfl) (fun _ _ _ h => h) rfl (fun wq hS => by go_simp) (Below.refl _ _).drew ?_
          try simp only [Act.put, List.setIfInBounds_toArray, List.set_cons_succ, List.set_cons_zero]
          refine takeH 3 (some 20) (.pointer (some ⟨g, o + k * 47, none⟩)) rfl rfl (by kernel_rfl) (by kernel_rfl) (by kernel_rfl) (fun _ _ _ h => h) rfl (fun wq hS => by go_simp) (Below.refl _ _).drew ?_
          try simp only [Act.put, List.setIfInBounds_toArray, List.set_cons_succ, List.set_cons_zero]
          refine takeH 4 (some 21) (.agg #[.int .i64 xk, .int .i64 xi]) rfl rfl (by kernel_rfl) (by kernel_rfl) (by kernel_rfl) (fun _ _ _ h => h) rfl (fun wq hS => by have q := HX.out.below hS HXL.out; have c0 := q.c0; have c1 := q.c1; go_simp) (Below.refl _ _).drew ?_
          try simp only [Act.put, List.setIfInBounds_toArray, List.set_cons_succ, List.set_cons_zero]
          refine takeH 5 (some 22) (.slice (some ⟨g2, o2, none⟩) n d) rfl rfl (by kernel_rfl) (by kernel_rfl) (by kernel_rfl) (fun _ _ _ h => h) rfl (fun wq hS => by go_simp) (Below.refl _ _).drew ?_
          try simp only [Act.put, List.setIfInBounds_toArray, List.set_cons_succ, List.set_cons_zero]
          refine takeH 6 (some 23) (.int .i64 k) rfl rfl (by kernel_rfl) (by kernel_rfl) (by kernel_rfl) (fun _ _ _ h => h) rfl (fun wq hS => by go_simp) (Below.refl _ _).drew ?_
          try simp only [Act.put, List.setIfInBounds_toArray, List.set_cons_succ, List.set_cons_zero]
          refine takeH 7 (some 24) (.pointer (some ⟨g2, o2 + k * 47, none⟩)) rfl rfl (by kernel_rfl) (by kernel_rfl) (by kernel_rfl) (fun _ _ _ h => h) rfl (fun wq hS => by go_simp) (Below.refl _ _).drew ?_
          try simp only [Act.put, List.setIfInBounds_toArray, List.set_cons_succ, List.set_cons_zero]
          refine takeH 8 (some 25) (.pointer (some ⟨g2, o2 + k * 47, none⟩)) rfl rfl (by kernel_rfl) (by kernel_rfl) (by kernel_rfl) (fun _ _ _ h => h) rfl (fun wq hS => by go_simp) (Below.refl _ _).drew ?_
          try simp only [Act.put, List.setIfInBounds_toArray, List.set_cons_succ, List.set_cons_zero]
          refine takeH 9 (some 26) (.agg #[.int .i64 yk, .int .i64 yi]) rfl rfl (by kernel_rfl) (by kernel_rfl) (by kernel_rfl) (fun _ _ _ h => h) rfl (fun wq hS => by have q := HY.out.below hS HYL.out; have c0 := q.c0; have c1 := q.c1; go_simp) (Below.refl _ _).drew ?_
          try simp only [Act.put, List.setIfInBounds_toArray, List.set_cons_succ, List.set_cons_zero]
          refine takeH 10 (some 27) (.bool true) rfl rfl (by kernel_rfl) (by kernel_rfl) (by kernel_rfl) (fun _ _ _ h => h) rfl (fun wq hS => by go_simp; exact fun a b => HMK.out ⟨a, b⟩) (Below.refl _ _).drew ?_
          try simp only [Act.put, List.setIfInBounds_toArray, List.set_cons_succ, List.set_cons_zero]
          refine takeH 11 (some 28) (.bool true) rfl rfl (by kernel_rfl) (by kernel_rfl) (by kernel_rfl) (fun _ _ _ h => h) rfl (fun wq hS => by go_simp) (Below.refl _ _).drew ?_
          try simp only [Act.put, List.setIfInBounds_toArray, List.set_cons_succ, List.set_cons_zero]
          refine passH 12 (some 29) rfl rfl (by kernel_rfl) (by kernel_rfl) (by kernel_rfl) (fun _ _ _ h => h) rfl (Below.refl _ _).drew ?_
          try simp only [Act.put, List.setIfInBounds_toArray, List.set_cons_succ, List.set_cons_zero]
          refine passH 13 (some 30) rfl rfl (by kernel_rfl) (by kernel_rfl) (by kernel_rfl) (fun _ _ _ h => h) rfl (Below.refl _ _).drew ?_
          try simp only [Act.put, List.setIfInBounds_toArray, List.set_cons_succ, List.set_cons_zero]
          refine passH 14 (some 31) rfl rfl (by kernel_rfl) (by kernel_rfl) (by kernel_rfl) (fun _ _ _ h => h) rfl (Below.refl _ _).drew ?_
          try simp only [Act.put, List.setIfInBounds_toArray, List.set_cons_succ, List.set_cons_zero]
          refine passH 15 (some 32) rfl rfl (by kernel_rfl) (by kernel_rfl) (by kernel_rfl) (fun _ _ _ h => h) rfl (Below.refl _ _).drew ?_
          try simp only [Act.put, List.setIfInBounds_toArray, List.set_cons_succ, List.set_cons_zero]
          refine passH 16 (some 33) rfl rfl (by kernel_rfl) (by kernel_rfl) (by kernel_rfl) (fun _ _ _ h => h) rfl (Below.refl _ _).drew ?_
          try simp only [Act.put, List.setIfInBounds_toArray, List.set_cons_succ, List.set_cons_zero]
          refine passH 17 (some 34) rfl rfl (by kernel_rfl) (by kernel_rfl) (by kernel_rfl) (fun _ _ _ h => h) rfl (Below.refl _ _).drew ?_
          try simp only [Act.put, List.setIfInBounds_toArray, List.set_cons_succ, List.set_cons_zero]
          refine passH 18 (some 35) rfl rfl (by kernel_rfl) (by kernel_rfl) (by kernel_rfl) (fun _ _ _ h => h) rfl (Below.refl _ _).drew ?_
          try simp only [Act.put, List.setIfInBounds_toArray, List.set_cons_succ, List.set_cons_zero]
          refine passH 19 (some 36) rfl rfl (by kernel_rfl) (by kernel_rfl) (by kernel_rfl) (fun _ _ _ h => h) rfl (Below.refl _ _).drew ?_
          try simp only [Act.put, List.setIfInBounds_toArray, List.set_cons_succ, List.set_cons_zero]
          refine passH 20 (some 37) rfl rfl (by kernel_rfl) (by kernel_rfl) (by kernel_rfl) (fun _ _ _ h => h) rfl (Below.refl _ _).drew ?_
          try simp only [Act.put, List.setIfInBounds_toArray, List.set_cons_succ, List.set_cons_zero]
          refine passH 21 (some 38) rfl rfl (by kernel_rfl) (by kernel_rfl) (by kernel_rfl) (fun _ _ _ h => h) rfl (Below.refl _ _).drew ?_
          try simp only [Act.put, List.setIfInBounds_toArray, List.set_cons_succ, List.set_cons_zero]
          refine passH 22 (some 39) rfl rfl (by kernel_rfl) (by kernel_rfl) (by kernel_rfl) (fun _ _ _ h => h) rfl (Below.refl _ _).drew ?_
          try simp only [Act.put, List.setIfInBounds_toArray, List.set_cons_succ, List.set_cons_zero]
          refine passH 23 (some 40) rfl rfl (by kernel_rfl) (by kernel_rfl) (by kernel_rfl) (fun _ _ _ h => h) rfl (Below.refl _ _).drew ?_
          try simp only [Act.put, List.setIfInBounds_toArray, List.set_cons_succ, List.set_cons_zero]
          refine takeH 24 (some 41) (.bool true) rfl rfl (by kernel_rfl) (by kernel_rfl) (by kernel_rfl) (fun _ _ _ h => h) rfl (fun wq hS => by go_simp) (Below.refl _ _).drew ?_
          try simp only [Act.put, List.setIfInBounds_toArray, List.set_cons_succ, List.set_cons_zero]
          refine wpAnyH_done (by kernel_rfl) ?_ _
          have HB2 : Hid (Below w.heap.size w wr.drew) := Lib.hid HB.out.drew
          go_wp2_with fail
          go_ret
          exact ⟨ret_bool (sameIts_no HX2.out).symm, HB2.out⟩
      · obtain rfl : k = n := by omega
        have HX : Hid (l.map (·.1) = m.map (·.1)) := Lib.hid (by
          have := HS.out
          rwa [List.take_of_length_le (by rw [List.length_map]; have := HL.out; omega), List.take_of_length_le (by rw [List.length_map]; have := HM.out; omega)] at this)
        have gk : decide ((k : Int) < (k : Int)) = false := decide_eq_false (by omega)
        go_wp2_with fail
        go_ret
        exact ⟨ret_bool (sameIts_yes HX.out).symm, HB.out⟩
  · have HX : Hid (¬ (l.map (·.1) = m.map (·.1))) := Lib.hid fun h => hlm (by have := congrArg List.length h; simpa using this)
    have gn : ((l.length : Int) != (m.length : Int)) = true := by simp; omega
    obtain ⟨n1, h1⟩ : ∃ n, l.length = n := ⟨_, rfl⟩
    obtain ⟨n2, h2⟩ : ∃ n, m.length = n := ⟨_, rfl⟩
    rw [h1, h2] at gn hlm
    rw [h1, h2]
    clear hc hd hc1 hd1 hl hm h1 h2
    go_enter Try.func22, Try.ntmps22
    go_wp2_with fail
    go_ret
    exact ⟨ret_bool (sameIts_no HX.out).symm, Below.refl _ _⟩

end Go.Proofs.Ytbhaifdhmfmeoaa
