/- Package heads's Least: the least page that is not there, or that there is no room. -/
import Derived.Test.YtbokbijehilbiaaCount
import Derived.Test.YtbokbijehilbiaaErrs
namespace Go.Proofs.Ytbokbijehilbiaa
set_option linter.unusedSimpArgs false
set_option linter.unusedVariables false
open Go.RowKit

set_option maxRecDepth 100000 in
theorem least0_yes (l : List Int) (hn : l.length ≤ 1000) (p : Nat) (hp : First l p) (most : Int) (hm : (cnt l : Int) < most) (sv : Value) (w : World) (h : IntsAt w sv l) :
    Calls Try.prog 14 #[sv, .int .i64 most] w fun e w' => e = .returned (.tuple #[.int .i64 p, .nilIface]) ∧ w = w' := by
  have H1 := Lib.hid (count_any l hn sv w h)
  have H2 := Lib.hid (index_some l hn p hp sv w h)
  have hg : decide (most ≤ (cnt l : Int)) = false := decide_eq_false (by omega)
  obtain ⟨a, cap, rfl, -⟩ := h
  generalize cnt l = n at *
  have hpl := hp.lt
  clear hp
  go_enter Try.func14, Try.ntmps14
  go_wp2_with fail
  refine H1.out.mono ?_
  rintro e w1 ⟨rfl, rfl⟩
  go_wp2_with fail
  refine H2.out.mono ?_
  rintro e w1 ⟨rfl, rfl⟩
  go_wp2_with fail
  go_ret2
  exact ⟨rfl, rfl⟩

set_option maxRecDepth 100000 in
theorem least0_no (l : List Int) (hn : l.length ≤ 1000) (most : Int) (hno : most ≤ cnt l ∨ Full l) (sv : Value) (w : World) (h : IntsAt w sv l) :
    Calls Try.prog 14 #[sv, .int .i64 most] w fun e w' => ∃ T d ts, e = .returned (.tuple #[.int .i64 0, .iface T d]) ∧ Chain w' 14 ts (.iface T d) ∧ Below w.heap.size w w' := by
  have H1 := Lib.hid (count_any l hn sv w h)
  have HN := Lib.hid fun s W => new_some 14 s W (by decide)
  by_cases hc : most ≤ (cnt l : Int)
  · have hg : decide (most ≤ (cnt l : Int)) = true := decide_eq_true hc
    obtain ⟨a, cap, rfl, -⟩ := h
    generalize cnt l = n at *
    clear hno
    go_enter Try.func14, Try.ntmps14
    go_wp2_with fail
    refine H1.out.mono ?_
    rintro e w1 ⟨rfl, rfl⟩
    go_wp2_with fail
    refine (HN.out _ _).mono ?_
    rintro e w1 ⟨v, rfl, hv, hb⟩
    have HV := Lib.hid hv
    obtain ⟨T, d, rfl⟩ := is_shape hv
    have HB := Lib.hid hb
    clear hv hb
    go_wp2_with fail
    go_ret2
    exact ⟨T, d, _, rfl, HV.out, HB.out⟩
  · have H2 := Lib.hid (index_none l hn (hno.resolve_left hc) sv w h)
    have hg : decide (most ≤ (cnt l : Int)) = false := decide_eq_false hc
    obtain ⟨a, cap, rfl, -⟩ := h
    generalize cnt l = n at *
    clear hno
    go_enter Try.func14, Try.ntmps14
    go_wp2_with fail
    refine H1.out.mono ?_
    rintro e w1 ⟨rfl, rfl⟩
    go_wp2_with fail
    refine H2.out.mono ?_
    rintro e w1 ⟨rfl, rfl⟩
    go_wp2_with fail
    refine (HN.out _ _).mono ?_
    rintro e w1 ⟨v, rfl, hv, hb⟩
    have HV := Lib.hid hv
    obtain ⟨T, d, rfl⟩ := is_shape hv
    have HB := Lib.hid hb
    clear hv hb
    go_wp2_with fail
    go_ret2
    exact ⟨T, d, _, rfl, HV.out, HB.out⟩

/-- There is room: the least page that is not there. -/
theorem least_yes (l : List Int) (hn : l.length ≤ 1000) (p : Nat) (hp : First l p) (most : Int) (hm : (cnt l : Int) < most) (sv : Value) (w : World) (h : IntsAt w sv l) :
    Calls Try.prog 7 #[sv, .int .i64 most] w fun e w' => e = .returned (.tuple #[.int .i64 p, .int .i64 0]) ∧ Below w.heap.size w w' := by
  have H1 := Lib.hid (least0_yes l hn p hp most hm sv w h)
  have H2 := Lib.hid fun W => is_nil 14 false (by decide) W
  obtain ⟨a, cap, rfl, -⟩ := h
  clear hm hp
  go_enter Try.func7, Try.ntmps7
  go_wp2_with fail
  refine H1.out.mono ?_
  rintro e w1 ⟨rfl, rfl⟩
  go_wp2_with fail
  refine (H2.out _).mono ?_
  rintro e w1 ⟨rfl, hb⟩
  have HB := Lib.hid hb
  clear hb
  go_wp2_with fail
  go_ret2
  exact ⟨rfl, HB.out⟩

/-- There is none. -/
theorem least_no (l : List Int) (hn : l.length ≤ 1000) (most : Int) (hno : most ≤ cnt l ∨ Full l) (sv : Value) (w : World) (h : IntsAt w sv l) :
    Calls Try.prog 7 #[sv, .int .i64 most] w fun e w' => e = .returned (.tuple #[.int .i64 0, .int .i64 14]) ∧ Below w.heap.size w w' := by
  have H1 := Lib.hid (least0_no l hn most hno sv w h)
  have H2 := Lib.hid fun ts T d W hc => is_num 14 14 true (by decide) ts T d W hc
  obtain ⟨a, cap, rfl, -⟩ := h
  clear hno
  go_enter Try.func7, Try.ntmps7
  go_wp2_with fail
  refine H1.out.mono ?_
  rintro e w1 ⟨T, d, ts, rfl, hch, hb⟩
  have HC := Lib.hid hch
  have HB := Lib.hid hb
  clear hch hb
  go_wp2_with fail
  refine (H2.out ts T d _ HC.out).mono ?_
  rintro e w2 ⟨rfl, hb⟩
  have HB2 := Lib.hid hb
  clear hb
  go_wp2_with fail
  go_ret2
  exact ⟨rfl, stay HB.out HB2.out⟩

/-- The reference's. -/
theorem rleast_yes (l : List Int) (hn : l.length ≤ 1000) (p : Nat) (hp : First l p) (most : Int) (hm : (cnt l : Int) < most) (sv : Value) (w : World) (h : IntsAt w sv l) :
    Calls Try.prog 8 #[sv, .int .i64 most] w fun e w' => e = .returned (.tuple #[.int .i64 p, .int .i64 0]) ∧ w = w' := by
  have H1 := Lib.hid (rcount_any l hn sv w h)
  have hg : decide ((cnt l : Int) < most) = true := decide_eq_true hm
  obtain ⟨a, cap, rfl, hc⟩ := h
  have HC := Lib.hid hc
  have HP := Lib.hid hp
  have hpl := hp.lt
  clear hc hp
  generalize cnt l = n at *
  go_enter Try.func8, Try.ntmps8
  go_wp2_with fail
  go_loopg [6] l.length (fun q i wr => ∃ k : Nat, l.length - k ≤ q ∧ k ≤ p ∧ i = .int .i64 k ∧ w = wr)
  case atStart => exact ⟨0, by omega, by omega, rfl, rfl⟩
  case round =>
    obtain ⟨k, hq, hk, rfl, rfl⟩ := hrel
    have hk1 : (k : Int) < (l.length : Int) := by omega
    have hk2 : decide ((k : Int) < (l.length : Int)) = true := decide_eq_true hk1
    have hlk : l[k]? = some l[k] := by simp [show k < l.length by omega]
    obtain ⟨b, o, rfl, c1⟩ := HC.out k l[k] hlk
    by_cases hlt : k < p
    · have hx := HP.out.2 k hlt _ hlk
      generalize l[k] = x at *
      have e1 : (x == (0 : Int)) = false := by simpa using hx
      clear hx hlk
      go_wp2_with fail
      refine H1.out.mono ?_
      rintro e w1 ⟨rfl, rfl⟩
      go_wp2_with fail
      go_roundg (l.length - (k + 1))
      case measure => omega
      case rel => exact ⟨k + 1, by omega, by omega, by go_num, rfl⟩
    · obtain rfl : k = p := by omega
      have hx : l[k] = 0 := by have := HP.out.1; rw [hlk] at this; exact Option.some.inj this
      rw [hx] at c1
      clear hx hlk
      go_wp2_with fail
      refine H1.out.mono ?_
      rintro e w1 ⟨rfl, rfl⟩
      go_wp2_with fail
      go_ret2
      exact ⟨rfl, rfl⟩
theorem rleast_no (l : List Int) (hn : l.length ≤ 1000) (most : Int) (hno : most ≤ cnt l ∨ Full l) (sv : Value) (w : World) (h : IntsAt w sv l) :
    Calls Try.prog 8 #[sv, .int .i64 most] w fun e w' => e = .returned (.tuple #[.int .i64 0, .int .i64 14]) ∧ w = w' := by
  have H1 := Lib.hid (rcount_any l hn sv w h)
  obtain ⟨a, cap, rfl, hc⟩ := h
  have HC := Lib.hid hc
  have HO := Lib.hid hno
  clear hc hno
  generalize cnt l = n at *
  go_enter Try.func8, Try.ntmps8
  go_wp2_with fail
  go_loopg [6] l.length (fun q i wr => ∃ k : Nat, l.length - k ≤ q ∧ k ≤ l.length ∧ i = .int .i64 k ∧ w = wr)
  case atStart => exact ⟨0, by omega, by omega, rfl, rfl⟩
  case round =>
    obtain ⟨k, hq, hk, rfl, rfl⟩ := hrel
    by_cases hlt : k < l.length
    · have hk1 : (k : Int) < (l.length : Int) := by omega
      have hk2 : decide ((k : Int) < (l.length : Int)) = true := decide_eq_true hk1
      by_cases hm : (n : Int) < most
      · have hg : decide ((n : Int) < most) = true := decide_eq_true hm
        have hlk : l[k]? = some l[k] := by simp [hlt]
        obtain ⟨b, o, rfl, c1⟩ := HC.out k l[k] hlk
        have hx := (HO.out.resolve_left (by omega)) k _ hlk
        generalize l[k] = x at *
        have e1 : (x == (0 : Int)) = false := by simpa using hx
        clear hx hlk
        go_wp2_with fail
        refine H1.out.mono ?_
        rintro e w1 ⟨rfl, rfl⟩
        go_wp2_with fail
        go_roundg (l.length - (k + 1))
        case measure => omega
        case rel => exact ⟨k + 1, by omega, by omega, by go_num, rfl⟩
      · have hg : decide ((n : Int) < most) = false := decide_eq_false hm
        go_wp2_with fail
        refine H1.out.mono ?_
        rintro e w1 ⟨rfl, rfl⟩
        go_wp2_with fail
        go_ret2
        exact ⟨rfl, rfl⟩
    · obtain rfl : k = l.length := by omega
      have hk1 : ¬ (l.length : Int) < (l.length : Int) := by omega
      have hk2 : decide ((l.length : Int) < (l.length : Int)) = false := decide_eq_false hk1
      go_wp2_with fail
      go_ret2
      exact ⟨rfl, rfl⟩
end Go.Proofs.Ytbokbijehilbiaa
