/- victim.Above and the fraction that it takes; the statements' own at, listed and comparison of two lists. -/
import Derived.Test.YticgkeohghpdkaaSpec
import Derived.WalkKit
import Derived.BigQuiet
import Derived.Deep.QuietTactic
import Derived.Deep.LoopGhost
import Derived.Deep.Cut
import Derived.Deep.CutRange
import Derived.RegionTactic
namespace Go.Proofs.Yticgkeohghpdkaa
set_option linter.unusedSimpArgs false
set_option linter.unusedVariables false
open Go.RowKit

theorem ints_any (l m : List Int) (hl : l.length ≤ 1000) (hm : m.length ≤ 1000) (sv tv : Value) (w : World) (h : IntsAt w sv l) (k : IntsAt w tv m) : Calls Try.prog 11 #[sv, tv] w fun e w' => e = .returned (.bool (decide (l = m))) ∧ Below w.heap.size w w' := by
  obtain ⟨a, cap, rfl, hc⟩ := h
  obtain ⟨a', cap', rfl, hc'⟩ := k
  have HC := Lib.hid hc
  have HC' := Lib.hid hc'
  clear hc hc'
  by_cases hlen : l.length = m.length
  · obtain ⟨n, hn⟩ : ∃ n, m.length = n := ⟨_, rfl⟩
    have hln := hlen.trans hn
    rw [hn] at hm
    rw [hln, hn]
    have HN := Lib.hid hn
    have HLN := Lib.hid hln
    clear hln hl hlen hn
    go_enter Try.func11, Try.ntmps11
    go_wp2_with fail
    go_loopg [5] n (fun q i wr => ∃ k : Nat, n - k ≤ q ∧ k ≤ n ∧ i = .int .i64 k ∧ (∀ j, j < k → l[j]? = m[j]?) ∧ Below w.heap.size w wr)
    case atStart => exact ⟨0, by omega, by omega, rfl, fun j hj => by omega, Below.refl _ _⟩
    case round =>
      obtain ⟨k, hg, hk, rfl, heq, hbel⟩ := hrel
      have HE := Lib.hid heq
      have HB := Lib.hid hbel
      clear heq hbel
      by_cases hlt : k < n
      · have h1 := HLN.out
        have h2 := HN.out
        obtain ⟨x, hx⟩ : ∃ x, l[k]? = some x := ⟨_, List.getElem?_eq_getElem (by omega)⟩
        obtain ⟨y, hy⟩ : ∃ y, m[k]? = some y := ⟨_, List.getElem?_eq_getElem (by omega)⟩
        obtain ⟨b, o, rfl, c1⟩ := HC.out k x hx
        obtain ⟨b', o', rfl, c2⟩ := HC'.out k y hy
        have d1 := (HB.out.cell (block_lt_of_cell c1)).trans c1
        have d2 := (HB.out.cell (block_lt_of_cell c2)).trans c2
        have HX := Lib.hid hx
        have HY := Lib.hid hy
        clear hx hy c1 c2 h1 h2
        have hk1 : (k : Int) < (n : Int) := by omega
        have hg1 : decide ((k : Int) < (n : Int)) = true := decide_eq_true hk1
        by_cases hxy : x = y
        · subst hxy
          have e1 : (x != x) = false := by simp
          go_wp2_with fail
          go_quiet (fail)
          go_wp2_with fail
          go_roundg (n - (k + 1))
          case measure => omega
          case rel => exact ⟨k + 1, by omega, by omega, by go_num, fun j hj => by
            by_cases hj2 : j < k
            · exact HE.out j hj2
            · obtain rfl : j = k := by omega
              rw [HX.out, HY.out], drewN_below HB.out _⟩
        · have e1 : (x != y) = true := by simpa using hxy
          have HXY := Lib.hid hxy
          clear hxy
          go_wp2_with fail
          go_quiet (fail)
          go_wp2_with fail
          go_ret
          exact ⟨ret_bool (by
            symm
            refine decide_eq_false fun e => HXY.out ?_
            have := HX.out
            rw [e, HY.out] at this
            exact (Option.some.inj this).symm), drewN_below HB.out _⟩
      · obtain rfl : k = n := by omega
        have hk1 : ¬ (k : Int) < (k : Int) := by omega
        have hg1 : decide ((k : Int) < (k : Int)) = false := decide_eq_false hk1
        go_wp2_with fail
        go_ret
        exact ⟨ret_bool (by
          symm
          refine decide_eq_true (List.ext_getElem? fun j => ?_)
          rcases Nat.lt_or_ge j k with h1 | h1
          · exact HE.out j h1
          · have h2 := HLN.out
            have h3 := HN.out
            rw [List.getElem?_eq_none (by omega), List.getElem?_eq_none (by omega)]), HB.out⟩
  · have HL : Hid (l ≠ m) := Lib.hid fun e => hlen (by rw [e])
    have e1 : ((l.length : Int) != (m.length : Int)) = true := by simp; omega
    have hne : ¬ (l.length : Int) = (m.length : Int) := by omega
    clear hlen
    go_enter Try.func11, Try.ntmps11
    go_wp2_with fail
    go_ret
    exact ⟨ret_bool (by symm; exact decide_eq_false HL.out), Below.refl _ _⟩

theorem Own.cell {w : World} {B g n cap : Nat} {l : List Int} (h : Own w B (.slice (some ⟨g, 0, none⟩) n cap) l) {i : Nat} {x : Int} (hx : l[i]? = some x) : w.cell? ⟨g, i, none⟩ = some (.int .i64 x) ∧ w.frozen? ⟨g, i, none⟩ = false := by
  have h0 := h
  rcases h.2 with ⟨e, _⟩ | ⟨g', cap', cur, e, hb, hg, hn, hm, hs, ht⟩
  · cases e
  · cases e
    refine ⟨?_, frozen_of_row w g i _ _ hg⟩
    have hi := (List.getElem?_eq_some_iff.1 hx).1
    rw [World.ownsRow.cellAt h0 i (by omega), List.getElem?_map, hx]
    rfl
theorem Own.form {w : World} {B : Nat} {sv : Value} {l : List Int} (h : Own w B sv l) (hl : 0 < l.length) : ∃ g cap, sv = .slice (some ⟨g, 0, none⟩) l.length cap ∧ B ≤ g := by
  rcases h.2 with ⟨e, h0⟩ | ⟨g, cap, cur, e, hb, _⟩
  · omega
  · exact ⟨g, cap, e, hb⟩



abbrev Wt.v (x : Wt) : Value := .agg #[.int .i64 x.l, .int .u32 x.a, .int .u32 x.n, .int .i64 x.s]
theorem alloc_below (w : World) (o : Obj) : Below w.heap.size w (w.alloc o) := (Below.refl _ _).alloc (Nat.le_refl _) _

set_option maxRecDepth 100000 in
theorem frac_ok (x : Wt) (hw : x.Wf) (hk : x.Ok) (w : World) : Calls Try.prog 14 #[x.v] w fun e w' => e = .returned (.tuple #[.int .u64 x.over, .int .u64 x.under]) ∧ Below w.heap.size w w' := by
  have HO : Hid (x.over = (x.s - x.l) * (x.n - min x.a x.n + 1)) := Lib.hid (by simp only [Wt.over, if_pos hk, Wt.since])
  have HU : Hid (x.under = x.s + x.l) := Lib.hid (by obtain ⟨k0, k1, k2, k3⟩ := hk; simp only [Wt.under]; rw [if_pos ⟨k0, k1⟩, if_pos ⟨k2, k3⟩])
  have hb := hw.over
  rw [HO.out] at hb
  rw [HO.out, HU.out]
  obtain ⟨l, a, n, s⟩ := x
  obtain ⟨h0, h1, h2, h3⟩ := hw
  obtain ⟨k0, k1, k2, k3⟩ := hk
  simp only at *
  clear HO HU
  have g0 : ¬ s < 1 := by omega
  have g1 : ¬ 32 < s := by omega
  have g2 : ¬ l < 0 := by omega
  have g3 : ¬ s < l := by omega
  by_cases hna : n < a
  · rw [show (s - l) * (n - min a n + 1) = s - l by rw [show n - min a n + 1 = 1 by omega, Int.mul_one]] at *
    go_enter Try.func14, Try.ntmps14
    go_wp2_with fail
    all_goals try omega
    go_quiet (fail)
    go_wp2_with fail
    go_ret2
    exact ⟨rfl, drewN_below (alloc_below _ _) _⟩
  · rw [show min a n = a by omega] at *
    obtain ⟨m, hm⟩ : ∃ m, (s - l) * (n - a + 1) = m := ⟨_, rfl⟩
    rw [hm] at hb ⊢
    obtain ⟨b0, b1⟩ := hb
    go_enter Try.func14, Try.ntmps14
    go_wp2_with fail
    all_goals try omega
    go_quiet (fail)
    go_wp2_with fail
    go_ret2
    exact ⟨rfl, drewN_below (alloc_below _ _) _⟩
set_option maxRecDepth 100000 in
theorem frac_low (x : Wt) (hw : x.Wf) (k0 : x.s < 1) (w : World) : Calls Try.prog 14 #[x.v] w fun e w' => e = .returned (.tuple #[.int .u64 x.over, .int .u64 x.under]) ∧ Below w.heap.size w w' := by
  have HO : Hid (x.over = 0) := Lib.hid (if_neg fun hk => by obtain ⟨k0, k1, k2, k3⟩ := hk; omega)
  have HU : Hid (x.under = 2) := Lib.hid (by simp only [Wt.under]; rw [if_neg (by omega)])
  rw [HO.out, HU.out]
  obtain ⟨l, a, n, s⟩ := x
  obtain ⟨h0, h1, h2, h3⟩ := hw
  simp only at *
  clear HO HU
  by_cases hna : n < a
  · go_enter Try.func14, Try.ntmps14
    go_wp2_with fail
    all_goals try omega
    go_quiet (fail)
    go_wp2_with fail
    go_ret2
    exact ⟨rfl, drewN_below (alloc_below _ _) _⟩
  · go_enter Try.func14, Try.ntmps14
    go_wp2_with fail
    all_goals try omega
    go_quiet (fail)
    go_wp2_with fail
    go_ret2
    exact ⟨rfl, drewN_below (alloc_below _ _) _⟩
set_option maxRecDepth 100000 in
theorem frac_high (x : Wt) (hw : x.Wf) (k0 : 32 < x.s) (w : World) : Calls Try.prog 14 #[x.v] w fun e w' => e = .returned (.tuple #[.int .u64 x.over, .int .u64 x.under]) ∧ Below w.heap.size w w' := by
  have HO : Hid (x.over = 0) := Lib.hid (if_neg fun hk => by obtain ⟨k0, k1, k2, k3⟩ := hk; omega)
  have HU : Hid (x.under = 2) := Lib.hid (by simp only [Wt.under]; rw [if_neg (by omega)])
  rw [HO.out, HU.out]
  obtain ⟨l, a, n, s⟩ := x
  obtain ⟨h0, h1, h2, h3⟩ := hw
  simp only at *
  clear HO HU
  have g0 : ¬ s < 1 := by omega
  by_cases hna : n < a
  · go_enter Try.func14, Try.ntmps14
    go_wp2_with fail
    all_goals try omega
    go_quiet (fail)
    go_wp2_with fail
    go_ret2
    exact ⟨rfl, drewN_below (alloc_below _ _) _⟩
  · go_enter Try.func14, Try.ntmps14
    go_wp2_with fail
    all_goals try omega
    go_quiet (fail)
    go_wp2_with fail
    go_ret2
    exact ⟨rfl, drewN_below (alloc_below _ _) _⟩
set_option maxRecDepth 100000 in
theorem frac_neg (x : Wt) (hw : x.Wf) (k0 : 1 ≤ x.s) (k1 : x.s ≤ 32) (k2 : x.l < 0) (w : World) : Calls Try.prog 14 #[x.v] w fun e w' => e = .returned (.tuple #[.int .u64 x.over, .int .u64 x.under]) ∧ Below w.heap.size w w' := by
  have HO : Hid (x.over = 0) := Lib.hid (if_neg fun hk => by obtain ⟨k0, k1, k2, k3⟩ := hk; omega)
  have HU : Hid (x.under = x.s + x.s) := Lib.hid (by simp only [Wt.under]; rw [if_pos ⟨k0, k1⟩, if_neg (by omega)])
  rw [HO.out, HU.out]
  obtain ⟨l, a, n, s⟩ := x
  obtain ⟨h0, h1, h2, h3⟩ := hw
  simp only at *
  clear HO HU
  have g0 : ¬ s < 1 := by omega
  have g1 : ¬ 32 < s := by omega
  by_cases hna : n < a
  · go_enter Try.func14, Try.ntmps14
    go_wp2_with fail
    all_goals try omega
    go_quiet (fail)
    go_wp2_with fail
    go_ret2
    exact ⟨rfl, drewN_below (alloc_below _ _) _⟩
  · go_enter Try.func14, Try.ntmps14
    go_wp2_with fail
    all_goals try omega
    go_quiet (fail)
    go_wp2_with fail
    go_ret2
    exact ⟨rfl, drewN_below (alloc_below _ _) _⟩
set_option maxRecDepth 100000 in
theorem frac_full (x : Wt) (hw : x.Wf) (k0 : 1 ≤ x.s) (k1 : x.s ≤ 32) (k2 : 0 ≤ x.l) (k3 : x.s < x.l) (w : World) : Calls Try.prog 14 #[x.v] w fun e w' => e = .returned (.tuple #[.int .u64 x.over, .int .u64 x.under]) ∧ Below w.heap.size w w' := by
  have HO : Hid (x.over = 0) := Lib.hid (if_neg fun hk => by obtain ⟨k0, k1, k2, k3⟩ := hk; omega)
  have HU : Hid (x.under = x.s + x.s) := Lib.hid (by simp only [Wt.under]; rw [if_pos ⟨k0, k1⟩, if_neg (by omega)])
  rw [HO.out, HU.out]
  obtain ⟨l, a, n, s⟩ := x
  obtain ⟨h0, h1, h2, h3⟩ := hw
  simp only at *
  clear HO HU
  have g0 : ¬ s < 1 := by omega
  have g1 : ¬ 32 < s := by omega
  have g2 : ¬ l < 0 := by omega
  by_cases hna : n < a
  · go_enter Try.func14, Try.ntmps14
    go_wp2_with fail
    all_goals try omega
    go_quiet (fail)
    go_wp2_with fail
    go_ret2
    exact ⟨rfl, drewN_below (alloc_below _ _) _⟩
  · go_enter Try.func14, Try.ntmps14
    go_wp2_with fail
    all_goals try omega
    go_quiet (fail)
    go_wp2_with fail
    go_ret2
    exact ⟨rfl, drewN_below (alloc_below _ _) _⟩
theorem frac_any (x : Wt) (hw : x.Wf) (w : World) : Calls Try.prog 14 #[x.v] w fun e w' => e = .returned (.tuple #[.int .u64 x.over, .int .u64 x.under]) ∧ Below w.heap.size w w' := by
  by_cases k0 : x.s < 1
  · exact frac_low x hw k0 w
  by_cases k1 : 32 < x.s
  · exact frac_high x hw k1 w
  by_cases k2 : x.l < 0
  · exact frac_neg x hw (by omega) (by omega) k2 w
  by_cases k3 : x.s < x.l
  · exact frac_full x hw (by omega) (by omega) (by omega) k3 w
  exact frac_ok x hw ⟨by omega, by omega, by omega, by omega⟩ w
theorem two_below (w : World) (o p : Obj) : Below w.heap.size w ((w.alloc o).alloc p) := (alloc_below w o).alloc (alloc_below w o).size _
theorem Blk.newAt {w : World} {cs : Array Value} (t : TypeId) (n : Nat) (l : List Value) (hn : n = w.heap.size) (hl : l = cs.toList) : Blk (w.alloc (.cells cs t)) n l := by
  subst hn
  subst hl
  exact Blk.new w cs t
theorem Blk.at2 (w : World) (o : Obj) (cs : Array Value) (t : TypeId) : Blk ((w.alloc o).alloc (.cells cs t)) (w.heap.size + 1) cs.toList := Blk.newAt t _ _ (by simp) rfl
set_option maxRecDepth 100000 in
theorem above_any (x y : Wt) (hx : x.Wf) (hy : y.Wf) (w : World) : Calls Try.prog 9 #[x.v, y.v] w fun e w' => e = .returned (.bool (above x y)) ∧ Below w.heap.size w w' := by
  have H1 := Lib.hid fun W => frac_any x hx W
  have H2 := Lib.hid fun W => frac_any y hy W
  obtain ⟨a0, a1⟩ := hx.over
  obtain ⟨b0, b1⟩ := hy.over
  obtain ⟨c0, c1⟩ := x.under_bounds
  obtain ⟨d0, d1⟩ := y.under_bounds
  have HA : Hid (above x y = decide (y.over * x.under < x.over * y.under)) := Lib.hid rfl
  rw [HA.out]
  generalize x.over = p at *
  generalize x.under = q at *
  generalize y.over = r at *
  generalize y.under = t at *
  clear HA
  have m0 : 0 ≤ p * t := Int.mul_nonneg a0 (by omega)
  have m1 : p * t ≤ 8796093022208 := Int.mul_le_mul a1 d1 (by omega) (by omega)
  have n0 : 0 ≤ r * q := Int.mul_nonneg b0 (by omega)
  have n1 : r * q ≤ 8796093022208 := Int.mul_le_mul b1 c1 (by omega) (by omega)
  obtain ⟨m, hm⟩ : ∃ m, p * t = m := ⟨_, rfl⟩
  obtain ⟨n, hn⟩ : ∃ n, r * q = n := ⟨_, rfl⟩
  rw [hm] at m0 m1 ⊢
  rw [hn] at n0 n1 ⊢
  obtain ⟨l, a, k, s⟩ := x
  obtain ⟨l', a', k', s'⟩ := y
  simp only [Wt.v] at H1 H2
  clear hx hy
  go_enter Try.func9, Try.ntmps9
  go_wp2_with fail
  refine (H1.out _).mono ?_
  rintro e w1 ⟨rfl, hb⟩
  have HB := Lib.hid ((two_below w _ _).trans (hb.mono (two_below w _ _).size))
  have HK := Lib.hid ((Blk.at2 w _ _ _).below hb (Blk.at2 w _ _ _).lt)
  have c0 := HK.out.cell (i := 0) rfl
  have c1 := HK.out.cell (i := 1) rfl
  have c2 := HK.out.cell (i := 2) rfl
  have c3 := HK.out.cell (i := 3) rfl
  clear hb
  go_wp2_with fail
  refine (H2.out _).mono ?_
  rintro e w2 ⟨rfl, hb⟩
  have HB2 := Lib.hid (stay HB.out hb)
  clear hb HK c0 c1 c2 c3
  go_wp2_with fail
  go_ret
  exact ⟨rfl, HB2.out⟩
end Go.Proofs.Yticgkeohghpdkaa
