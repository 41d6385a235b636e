/- Package heads's Count and head, the standard library's Index, the reference's Count, the statements' own comparison of two lists: they only read. -/
import Derived.Test.YtbokbijehilbiaaSpec
import Derived.WalkKit
import Derived.BigQuiet
import Derived.Deep.QuietTactic
namespace Go.Proofs.Ytbokbijehilbiaa
set_option linter.unusedSimpArgs false
set_option linter.unusedVariables false
open Go.RowKit

theorem count_any (l : List Int) (hn : l.length ≤ 1000) (sv : Value) (w : World) (h : IntsAt w sv l) : Calls Try.prog 9 #[sv] w fun e w' => e = .returned (.int .i64 (cnt l)) ∧ w = w' := by
  obtain ⟨a, cap, rfl, hc⟩ := h
  have HC := Lib.hid hc
  clear hc
  go_enter Try.func9, Try.ntmps9
  go_wp2_with fail
  go_loopg [8, 3] l.length (fun q i n wr => ∃ k : Nat, l.length - k ≤ q ∧ k ≤ l.length ∧ i = .int .i64 k ∧ n = .int .i64 (cnt (l.take k)) ∧ w = wr)
  case atStart => exact ⟨0, by omega, by omega, rfl, rfl, rfl⟩
  case round =>
    obtain ⟨k, hg, hk, rfl, rfl, rfl⟩ := hrel
    have hle := cnt_take_le l k
    by_cases hlt : k < l.length
    · have hlk : l[k]? = some l[k] := by simp [hlt]
      obtain ⟨b, o, rfl, c1⟩ := HC.out k l[k] hlk
      generalize l[k] = x at *
      have HL := Lib.hid hlk
      clear hlk
      have hk1 : (k : Int) < (l.length : Int) := by omega
      by_cases hx : x = 0
      · subst hx
        go_wp2_with fail
        go_roundg (l.length - (k + 1))
        case measure => omega
        case rel => exact ⟨k + 1, by omega, by omega, by go_num, by rw [cnt_no HL.out], rfl⟩
      · have e1 : (x != 0) = true := by simpa using hx
        have HX := Lib.hid hx
        clear hx
        go_wp2_with fail
        go_roundg (l.length - (k + 1))
        case measure => omega
        case rel => exact ⟨k + 1, by omega, by omega, by go_num, by rw [cnt_yes HL.out HX.out]; go_num, rfl⟩
    · obtain rfl : k = l.length := by omega
      have HT : Hid (l.take l.length = l) := Lib.hid List.take_length
      go_wp2_with fail
      go_ret
      exact ⟨by rw [HT.out]; rfl, rfl⟩

theorem rcount_any (l : List Int) (hn : l.length ≤ 1000) (sv : Value) (w : World) (h : IntsAt w sv l) : Calls Try.prog 10 #[sv] w fun e w' => e = .returned (.int .i64 (cnt l)) ∧ w = w' := by
  obtain ⟨a, cap, rfl, hc⟩ := h
  have HC := Lib.hid hc
  clear hc
  go_enter Try.func10, Try.ntmps10
  go_wp2_with fail
  go_loopg [4, 3] l.length (fun q i n wr => ∃ k : Nat, l.length - k ≤ q ∧ k ≤ l.length ∧ i = .int .i64 k ∧ n = .int .i64 (cnt (l.take k)) ∧ w = wr)
  case atStart => exact ⟨0, by omega, by omega, rfl, rfl, rfl⟩
  case round =>
    obtain ⟨k, hg, hk, rfl, rfl, rfl⟩ := hrel
    have hle := cnt_take_le l k
    by_cases hlt : k < l.length
    · have hlk : l[k]? = some l[k] := by simp [hlt]
      obtain ⟨b, o, rfl, c1⟩ := HC.out k l[k] hlk
      generalize l[k] = x at *
      have HL := Lib.hid hlk
      clear hlk
      have hk1 : (k : Int) < (l.length : Int) := by omega
      by_cases hx : x = 0
      · subst hx
        go_wp2_with fail
        go_roundg (l.length - (k + 1))
        case measure => omega
        case rel => exact ⟨k + 1, by omega, by omega, by go_num, by rw [cnt_no HL.out], rfl⟩
      · have e1 : (x != 0) = true := by simpa using hx
        have HX := Lib.hid hx
        clear hx
        go_wp2_with fail
        go_roundg (l.length - (k + 1))
        case measure => omega
        case rel => exact ⟨k + 1, by omega, by omega, by go_num, by rw [cnt_yes HL.out HX.out]; go_num, rfl⟩
    · obtain rfl : k = l.length := by omega
      have HT : Hid (l.take l.length = l) := Lib.hid List.take_length
      go_wp2_with fail
      go_ret
      exact ⟨by rw [HT.out]; rfl, rfl⟩

theorem index_some (l : List Int) (hn : l.length ≤ 1000) (p : Nat) (hp : First l p) (sv : Value) (w : World) (h : IntsAt w sv l) : Calls Try.prog 18 #[sv, .int .i64 0] w fun e w' => e = .returned (.int .i64 p) ∧ w = w' := by
  obtain ⟨a, cap, rfl, hc⟩ := h
  have HC := Lib.hid hc
  have HP := Lib.hid hp
  have hpl := hp.lt
  clear hc hp
  go_enter Try.func18, Try.ntmps18
  go_wp2_with fail
  go_loopg [8] l.length (fun q i wr => ∃ k : Nat, l.length - k ≤ q ∧ k ≤ p ∧ i = .int .i64 k ∧ w = wr)
  case atStart => exact ⟨0, by omega, by omega, rfl, rfl⟩
  case round =>
    obtain ⟨k, hg, hk, rfl, rfl⟩ := hrel
    have hk1 : (k : Int) < (l.length : Int) := by omega
    have hlk : l[k]? = some l[k] := by simp [show k < l.length by omega]
    obtain ⟨b, o, rfl, c1⟩ := HC.out k l[k] hlk
    by_cases hlt : k < p
    · have hx := HP.out.2 k hlt _ hlk
      generalize l[k] = x at *
      have e1 : ((0 : Int) == x) = false := by simpa using fun e => hx e.symm
      clear hx hlk
      go_wp2_with fail
      go_roundg (l.length - (k + 1))
      case measure => omega
      case rel => exact ⟨k + 1, by omega, by omega, by go_num, rfl⟩
    · obtain rfl : k = p := by omega
      have hx : l[k] = 0 := by have := HP.out.1; rw [hlk] at this; exact Option.some.inj this
      rw [hx] at c1
      clear hx hlk
      go_wp2_with fail
      go_ret
      exact ⟨rfl, rfl⟩

theorem index_none (l : List Int) (hn : l.length ≤ 1000) (hp : Full l) (sv : Value) (w : World) (h : IntsAt w sv l) : Calls Try.prog 18 #[sv, .int .i64 0] w fun e w' => e = .returned (.int .i64 (-1)) ∧ w = w' := by
  obtain ⟨a, cap, rfl, hc⟩ := h
  have HC := Lib.hid hc
  have HP := Lib.hid hp
  clear hc hp
  go_enter Try.func18, Try.ntmps18
  go_wp2_with fail
  go_loopg [8] l.length (fun q i wr => ∃ k : Nat, l.length - k ≤ q ∧ k ≤ l.length ∧ i = .int .i64 k ∧ w = wr)
  case atStart => exact ⟨0, by omega, by omega, rfl, rfl⟩
  case round =>
    obtain ⟨k, hg, hk, rfl, rfl⟩ := hrel
    by_cases hlt : k < l.length
    · have hk1 : (k : Int) < (l.length : Int) := by omega
      have hlk : l[k]? = some l[k] := by simp [hlt]
      obtain ⟨b, o, rfl, c1⟩ := HC.out k l[k] hlk
      have hx := HP.out k _ hlk
      generalize l[k] = x at *
      have e1 : ((0 : Int) == x) = false := by simpa using fun e => hx e.symm
      clear hx hlk
      go_wp2_with fail
      go_roundg (l.length - (k + 1))
      case measure => omega
      case rel => exact ⟨k + 1, by omega, by omega, by go_num, rfl⟩
    · obtain rfl : k = l.length := by omega
      go_wp2_with fail
      go_ret
      exact ⟨rfl, rfl⟩

theorem head_any (l : List Int) (hn : l.length ≤ 1000) (i : Nat) (hi : i ≤ 1000) (sv : Value) (w : World) (h : IntsAt w sv l) : Calls Try.prog 16 #[sv, .int .i64 i] w fun e w' => e = .returned (.int .i64 (hd l i)) ∧ w = w' := by
  obtain ⟨a, cap, rfl, hc⟩ := h
  have HC := Lib.hid hc
  clear hc
  by_cases hlt : i < l.length
  · have hlk : l[i]? = some l[i] := by simp [hlt]
    obtain ⟨b, o, rfl, c1⟩ := HC.out i l[i] hlk
    have HD := Lib.hid (hd_some hlk)
    generalize l[i] = x at *
    clear hlk
    have hk1 : (i : Int) < (l.length : Int) := by omega
    go_enter Try.func16, Try.ntmps16
    go_wp2_with fail
    go_ret
    exact ⟨by rw [HD.out]; rfl, rfl⟩
  · have HD := Lib.hid (hd_none (l := l) (i := i) (by omega))
    have hk1 : ¬ (i : Int) < (l.length : Int) := by omega
    go_enter Try.func16, Try.ntmps16
    go_wp2_with fail
    go_ret
    exact ⟨by rw [HD.out]; rfl, rfl⟩

/-- Two lists compared. -/
theorem ints_any (l m : List Int) (hl : l.length ≤ 1000) (hm : m.length ≤ 1000) (sv tv : Value) (w : World) (h : IntsAt w sv l) (k : IntsAt w tv m) : Calls Try.prog 11 #[sv, tv] w fun e w' => e = .returned (.bool (decide (l = m))) ∧ Below w.heap.size w w' := by
  obtain ⟨a, cap, rfl, hc⟩ := h
  obtain ⟨a', cap', rfl, hc'⟩ := k
  have HC := Lib.hid hc
  have HC' := Lib.hid hc'
  clear hc hc'
  by_cases hlen : l.length = m.length
  · obtain ⟨n, hn⟩ : ∃ n, m.length = n := ⟨_, rfl⟩
    have hln := hlen.trans hn
    rw [hn] at hm
    rw [hln, hn]
    have HN := Lib.hid hn
    have HLN := Lib.hid hln
    clear hln hl hlen hn
    go_enter Try.func11, Try.ntmps11
    go_wp2_with fail
    go_loopg [5] n (fun q i wr => ∃ k : Nat, n - k ≤ q ∧ k ≤ n ∧ i = .int .i64 k ∧ (∀ j, j < k → l[j]? = m[j]?) ∧ Below w.heap.size w wr)
    case atStart => exact ⟨0, by omega, by omega, rfl, fun j hj => by omega, Below.refl _ _⟩
    case round =>
      obtain ⟨k, hg, hk, rfl, heq, hbel⟩ := hrel
      have HE := Lib.hid heq
      have HB := Lib.hid hbel
      clear heq hbel
      by_cases hlt : k < n
      · have h1 := HLN.out
        have h2 := HN.out
        obtain ⟨x, hx⟩ : ∃ x, l[k]? = some x := ⟨_, List.getElem?_eq_getElem (by omega)⟩
        obtain ⟨y, hy⟩ : ∃ y, m[k]? = some y := ⟨_, List.getElem?_eq_getElem (by omega)⟩
        obtain ⟨b, o, rfl, c1⟩ := HC.out k x hx
        obtain ⟨b', o', rfl, c2⟩ := HC'.out k y hy
        have d1 := (HB.out.cell (block_lt_of_cell c1)).trans c1
        have d2 := (HB.out.cell (block_lt_of_cell c2)).trans c2
        have HX := Lib.hid hx
        have HY := Lib.hid hy
        clear hx hy c1 c2 h1 h2
        have hk1 : (k : Int) < (n : Int) := by omega
        have hg1 : decide ((k : Int) < (n : Int)) = true := decide_eq_true hk1
        by_cases hxy : x = y
        · subst hxy
          have e1 : (x != x) = false := by simp
          go_wp2_with fail
          go_quiet (fail)
          go_wp2_with fail
          go_roundg (n - (k + 1))
          case measure => omega
          case rel => exact ⟨k + 1, by omega, by omega, by go_num, fun j hj => by
            by_cases hj2 : j < k
            · exact HE.out j hj2
            · obtain rfl : j = k := by omega
              rw [HX.out, HY.out], drewN_below HB.out _⟩
        · have e1 : (x != y) = true := by simpa using hxy
          have HXY := Lib.hid hxy
          clear hxy
          go_wp2_with fail
          go_quiet (fail)
          go_wp2_with fail
          go_ret
          exact ⟨ret_bool (by
            symm
            refine decide_eq_false fun e => HXY.out ?_
            have := HX.out
            rw [e, HY.out] at this
            exact (Option.some.inj this).symm), drewN_below HB.out _⟩
      · obtain rfl : k = n := by omega
        have hk1 : ¬ (k : Int) < (k : Int) := by omega
        have hg1 : decide ((k : Int) < (k : Int)) = false := decide_eq_false hk1
        go_wp2_with fail
        go_ret
        exact ⟨ret_bool (by
          symm
          refine decide_eq_true (List.ext_getElem? fun j => ?_)
          rcases Nat.lt_or_ge j k with h1 | h1
          · exact HE.out j h1
          · have h2 := HLN.out
            have h3 := HN.out
            rw [List.getElem?_eq_none (by omega), List.getElem?_eq_none (by omega)]), HB.out⟩
  · have HL : Hid (l ≠ m) := Lib.hid fun e => hlen (by rw [e])
    have e1 : ((l.length : Int) != (m.length : Int)) = true := by simp; omega
    have hne : ¬ (l.length : Int) = (m.length : Int) := by omega
    clear hlen
    go_enter Try.func11, Try.ntmps11
    go_wp2_with fail
    go_ret
    exact ⟨ret_bool (by symm; exact decide_eq_false HL.out), Below.refl _ _⟩
end Go.Proofs.Ytbokbijehilbiaa
