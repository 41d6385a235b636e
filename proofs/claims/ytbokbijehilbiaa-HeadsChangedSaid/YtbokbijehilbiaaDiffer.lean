/- HeadsChanged's walk: what differs between heads, either way round; of three, in one of the two steps; rising. -/
import Derived.Test.YtbokbijehilbiaaTells
namespace Go.Proofs.Ytbokbijehilbiaa
set_option linter.unusedSimpArgs false
set_option linter.unusedVariables false
open Go.RowKit

theorem mem_take_snoc {l : List Int} {k : Nat} {x z : Int} (h : l[k]? = some x) : z ∈ l.take (k + 1) ↔ z ∈ l.take k ∨ x = z := by
  rw [take_snoc h, List.mem_append, List.mem_singleton]
  constructor
  · rintro (h | rfl)
    · exact .inl h
    · exact .inr rfl
  · rintro (h | rfl)
    · exact .inl h
    · exact .inr rfl

set_option maxRecDepth 100000 in
set_option maxHeartbeats 2000000 in
theorem differ_any (a b c : List Int) (av bv cv : Value) (w : World) (h0 : IntsAt w av a) (h1 : IntsAt w bv b) (h2 : IntsAt w cv c) : Calls Try.prog 5 #[av, bv, cv] w fun e w' => e = .returned (.bool true) ∧ Below w.heap.size w w' := by
  have HA := Lib.hid h0
  have HB := Lib.hid h1
  have HC := Lib.hid h2
  have HWk := Lib.hid fun W => wakes_any W
  obtain ⟨xa, xc, rfl, -⟩ := h0
  obtain ⟨ya, yc, rfl, -⟩ := h1
  obtain ⟨za, zc, rfl, -⟩ := h2
  by_cases k0 : 80 < a.length
  · clear HA HB HC
    have g0 : decide (80 < (a.length : Int)) = true := decide_eq_true (by omega)
    go_enter Try.func5, Try.ntmps5
    go_wp2_with fail
    refine (HWk.out _).mono ?_
    rintro e w1 ⟨rfl, hb⟩
    have B1 := Lib.hid hb
    clear hb
    go_wp2_with fail
    go_ret
    exact ⟨rfl, B1.out⟩
  by_cases k1 : 80 < b.length
  · clear HA HB HC
    have g0 : decide (80 < (a.length : Int)) = false := decide_eq_false (by omega)
    have g1 : decide (80 < (b.length : Int)) = true := decide_eq_true (by omega)
    go_enter Try.func5, Try.ntmps5
    go_wp2_with fail
    refine (HWk.out _).mono ?_
    rintro e w1 ⟨rfl, hb⟩
    have B1 := Lib.hid hb
    clear hb
    go_wp2_with fail
    go_ret
    exact ⟨rfl, B1.out⟩
  by_cases k2 : 80 < c.length
  · clear HA HB HC
    have g0 : decide (80 < (a.length : Int)) = false := decide_eq_false (by omega)
    have g1 : decide (80 < (b.length : Int)) = false := decide_eq_false (by omega)
    have g2 : decide (80 < (c.length : Int)) = true := decide_eq_true (by omega)
    go_enter Try.func5, Try.ntmps5
    go_wp2_with fail
    refine (HWk.out _).mono ?_
    rintro e w1 ⟨rfl, hb⟩
    have B1 := Lib.hid hb
    clear hb
    go_wp2_with fail
    go_ret
    exact ⟨rfl, B1.out⟩
  have g0 : decide (80 < (a.length : Int)) = false := decide_eq_false (by omega)
  have g1 : decide (80 < (b.length : Int)) = false := decide_eq_false (by omega)
  have g2 : decide (80 < (c.length : Int)) = false := decide_eq_false (by omega)
  have L1 := Lib.hid fun sv tv w h k => changed_any a b (by omega) (by omega) sv tv w h k
  have L2 := Lib.hid fun sv tv w h k => changed_any b c (by omega) (by omega) sv tv w h k
  have L3 := Lib.hid fun sv tv w h k => changed_any a c (by omega) (by omega) sv tv w h k
  have L4 := Lib.hid fun sv tv w h k => changed_any b a (by omega) (by omega) sv tv w h k
  have L5 := Lib.hid fun sv tv w h k => changed_any a a (by omega) (by omega) sv tv w h k
  rw [chg_comm b a] at L4
  rw [chg_self] at L5
  have hX := chg_le (a := a) (b := b) (by omega) (by omega)
  have hY := chg_le (a := b) (b := c) (by omega) (by omega)
  have hZ := chg_le (a := a) (b := c) (by omega) (by omega)
  have L6 := Lib.hid fun sv tv w h k => ints_any (chg a b) (chg a b) hX hX sv tv w h k
  have HS := Lib.hid fun (x : Int) (h : x ∈ chg a c) => mem_chg_step (b := b) h
  have HR := Lib.hid fun (i : Nat) (x y : Int) (hx : (chg a c)[i]? = some x) (hy : (chg a c)[i + 1]? = some y) => chg_rises hx hy
  generalize chg a b = X at *
  generalize chg b c = Y at *
  generalize chg a c = Z at *
  go_enter Try.func5, Try.ntmps5
  go_wp2_with fail
  refine (L1.out _ _ _ HA.out HB.out).mono ?_
  rintro e w1 ⟨rx, rfl, ho, hb⟩
  have A1 := Lib.hid (HA.out.below hb)
  have A2 := Lib.hid (HB.out.below hb)
  have A3 := Lib.hid (HC.out.below hb)
  have B1 := Lib.hid hb
  have R1 := Lib.hid ho.ints
  clear hb ho HA HB HC
  go_wp2_with fail
  refine (L2.out _ _ _ A2.out A3.out).mono ?_
  rintro e w2 ⟨ry, rfl, ho, hb⟩
  have HA := Lib.hid (A1.out.below hb)
  have HB := Lib.hid (A2.out.below hb)
  have HC := Lib.hid (A3.out.below hb)
  have B2 := Lib.hid (stay B1.out hb)
  have S1 := Lib.hid (R1.out.below hb)
  have S2 := Lib.hid ho.ints
  clear hb ho A1 A2 A3 B1 R1
  go_wp2_with fail
  refine (L3.out _ _ _ HA.out HC.out).mono ?_
  rintro e w3 ⟨rz, rfl, ho, hb⟩
  have A1 := Lib.hid (HA.out.below hb)
  have A2 := Lib.hid (HB.out.below hb)
  have B3 := Lib.hid (stay B2.out hb)
  have R1 := Lib.hid (S1.out.below hb)
  have R2 := Lib.hid (S2.out.below hb)
  have R3 := Lib.hid ho.ints
  clear hb ho HA HB HC B2 S1 S2
  go_wp2_with fail
  refine (L4.out _ _ _ A2.out A1.out).mono ?_
  rintro e w4 ⟨r4, rfl, ho, hb⟩
  have HA := Lib.hid (A1.out.below hb)
  have B4 := Lib.hid (stay B3.out hb)
  have S1 := Lib.hid (R1.out.below hb)
  have S2 := Lib.hid (R2.out.below hb)
  have S3 := Lib.hid (R3.out.below hb)
  have S4 := Lib.hid ho.ints
  clear hb ho A1 A2 B3 R1 R2 R3
  go_wp2_with fail
  refine (L6.out _ _ _ S1.out S4.out).mono ?_
  rintro e w5 ⟨rfl, hb⟩
  have A1 := Lib.hid (HA.out.below hb)
  have B5 := Lib.hid (stay B4.out hb)
  have R1 := Lib.hid (S1.out.below hb)
  have R2 := Lib.hid (S2.out.below hb)
  have R3 := Lib.hid (S3.out.below hb)
  clear hb HA B4 S1 S2 S3 S4
  go_wp2_with fail
  refine (L5.out _ _ _ A1.out A1.out).mono ?_
  rintro e w6 ⟨r5, rfl, ho, hb⟩
  have B6 := Lib.hid (stay B5.out hb)
  have S1 := Lib.hid (R1.out.below hb)
  have S2 := Lib.hid (R2.out.below hb)
  have S3 := Lib.hid (R3.out.below hb)
  obtain ⟨na, nc, rfl, -⟩ := ho.ints
  clear hb ho A1 B5 R1 R2 R3 L1 L2 L3 L4 L5 L6
  obtain ⟨xa', xc', rfl, fx⟩ := S1.out
  obtain ⟨ya', yc', rfl, fy⟩ := S2.out
  obtain ⟨za', zc', rfl, fz⟩ := S3.out
  have FX := Lib.hid fx
  have FY := Lib.hid fy
  have FZ := Lib.hid fz
  clear fx fy fz S1 S2 S3
  go_wp2_with fail
  go_loopg [10] Z.length (fun q i wr => ∃ k : Nat, Z.length - k ≤ q ∧ k ≤ Z.length ∧ i = .int .i64 k ∧ Below w6.heap.size w6 wr)
  case atStart => exact ⟨0, by omega, by omega, rfl, Below.refl _ _⟩
  case round =>
    obtain ⟨k, hq, hk, rfl, hb⟩ := hrel
    have HW := Lib.hid hb
    clear hb
    by_cases hlt : k < Z.length
    · have hk1 : (k : Int) < (Z.length : Int) := by omega
      obtain ⟨z, hz⟩ : ∃ z, Z[k]? = some z := ⟨_, List.getElem?_eq_getElem hlt⟩
      obtain ⟨zb, zo, rfl, c1⟩ := FZ.out k z hz
      have HZK := Lib.hid hz
      have hmem := HS.out z (List.mem_of_getElem? hz)
      have HMEM := Lib.hid hmem
      have Hc1 := Lib.hid c1
      clear hz hmem c1
      go_wp2_with fail
      go_loopg [12, 11] X.length (fun q i s wq => ∃ (j : Nat) (t : Bool), X.length - j ≤ q ∧ j ≤ X.length ∧ i = .int .i64 j ∧ s = .bool t ∧ (t = true ↔ z ∈ X.take j) ∧ Below w6.heap.size w6 wq)
      case atStart => exact ⟨0, false, by omega, by omega, rfl, rfl, by simp, HW.out⟩
      case round =>
        clear HW
        obtain ⟨j, t, hq2, hj, rfl, rfl, hiff, hb⟩ := hrel
        have HT := Lib.hid hiff
        have HW := Lib.hid hb
        clear hiff hb
        by_cases hjl : j < X.length
        · have hj1 : (j : Int) < (X.length : Int) := by omega
          have hj2 : decide ((j : Int) < (X.length : Int)) = true := decide_eq_true hj1
          obtain ⟨x, hx⟩ : ∃ x, X[j]? = some x := ⟨_, List.getElem?_eq_getElem hjl⟩
          obtain ⟨xb, xo, rfl, c2⟩ := FX.out j x hx
          have c1 := Hc1.out
          have d1 := (HW.out.cell (block_lt_of_cell c1)).trans c1
          have d2 := (HW.out.cell (block_lt_of_cell c2)).trans c2
          have HX := Lib.hid (mem_take_snoc (z := z) hx)
          clear hx c1 c2
          cases t with
          | true =>
            have HN : Hid (z ∈ X.take (j + 1)) := Lib.hid (by rw [HX.out]; exact .inl (HT.out.1 rfl))
            clear HT HX
            go_wp2_with fail
            go_quiet (fail)
            go_wp2_with fail
            go_roundg (X.length - (j + 1))
            case measure => omega
            case rel => exact ⟨j + 1, true, by omega, by omega, by go_num, rfl, ⟨fun _ => HN.out, fun _ => rfl⟩, drewN_below HW.out _⟩
          | false =>
            by_cases hxz : x = z
            · have e1 : (x == z) = true := by simpa using hxz
              have HXZ := Lib.hid hxz
              have HN : Hid (z ∈ X.take (j + 1)) := Lib.hid (by rw [HX.out]; exact .inr hxz)
              clear HT HX HXZ
              clear hxz
              go_wp2_with fail
              go_quiet (fail)
              go_wp2_with fail
              go_roundg (X.length - (j + 1))
              case measure => omega
              case rel => exact ⟨j + 1, true, by omega, by omega, by go_num, rfl, ⟨fun _ => HN.out, fun _ => rfl⟩, drewN_below HW.out _⟩
            · have e1 : (x == z) = false := by simpa using hxz
              have HXZ := Lib.hid hxz
              have HN : Hid (¬ z ∈ X.take (j + 1)) := Lib.hid (by rw [HX.out]; rintro (h | h) <;> first | exact absurd (HT.out.2 h) (by decide) | exact hxz h)
              clear HT HX HXZ
              clear hxz
              go_wp2_with fail
              go_quiet (fail)
              go_wp2_with fail
              go_roundg (X.length - (j + 1))
              case measure => omega
              case rel => exact ⟨j + 1, false, by omega, by omega, by go_num, rfl, ⟨fun h => (by cases h), fun h => absurd h HN.out⟩, drewN_below HW.out _⟩
        · obtain rfl : j = X.length := by omega
          have hj1 : ¬ (X.length : Int) < (X.length : Int) := by omega
          have hj2 : decide ((X.length : Int) < (X.length : Int)) = false := decide_eq_false hj1
          rw [List.take_length] at HT
          go_wp2_with fail
          go_loopg [13, 11] Y.length (fun q i s wq => ∃ (j : Nat) (t : Bool), Y.length - j ≤ q ∧ j ≤ Y.length ∧ i = .int .i64 j ∧ s = .bool t ∧ (t = true ↔ z ∈ X ∨ z ∈ Y.take j) ∧ Below w6.heap.size w6 wq)
          case atStart => exact ⟨0, _, by omega, by omega, rfl, rfl, by rw [HT.out]; simp, HW.out⟩
          case round =>
            clear HW HT hj1 hj2 hjl hj hq2
            obtain ⟨j, t, hq2, hj, rfl, rfl, hiff, hb⟩ := hrel
            have HT := Lib.hid hiff
            have HW := Lib.hid hb
            clear hiff hb
            by_cases hjl : j < Y.length
            · have hj1 : (j : Int) < (Y.length : Int) := by omega
              have hj2 : decide ((j : Int) < (Y.length : Int)) = true := decide_eq_true hj1
              obtain ⟨x, hx⟩ : ∃ x, Y[j]? = some x := ⟨_, List.getElem?_eq_getElem hjl⟩
              obtain ⟨xb, xo, rfl, c2⟩ := FY.out j x hx
              have c1 := Hc1.out
              have d1 := (HW.out.cell (block_lt_of_cell c1)).trans c1
              have d2 := (HW.out.cell (block_lt_of_cell c2)).trans c2
              have HX := Lib.hid (mem_take_snoc (z := z) hx)
              clear hx c1 c2
              cases t with
              | true =>
                have HN : Hid ((z ∈ X ∨ z ∈ Y.take (j + 1))) := Lib.hid (by rw [HX.out, ← or_assoc]; exact .inl (HT.out.1 rfl))
                clear HT HX
                go_wp2_with fail
                go_quiet (fail)
                go_wp2_with fail
                go_roundg (Y.length - (j + 1))
                case measure => omega
                case rel => exact ⟨j + 1, true, by omega, by omega, by go_num, rfl, ⟨fun _ => HN.out, fun _ => rfl⟩, drewN_below HW.out _⟩
              | false =>
                by_cases hxz : x = z
                · have e1 : (x == z) = true := by simpa using hxz
                  have HXZ := Lib.hid hxz
                  have HN : Hid ((z ∈ X ∨ z ∈ Y.take (j + 1))) := Lib.hid (by rw [HX.out, ← or_assoc]; exact .inr hxz)
                  clear HT HX HXZ
                  clear hxz
                  go_wp2_with fail
                  go_quiet (fail)
                  go_wp2_with fail
                  go_roundg (Y.length - (j + 1))
                  case measure => omega
                  case rel => exact ⟨j + 1, true, by omega, by omega, by go_num, rfl, ⟨fun _ => HN.out, fun _ => rfl⟩, drewN_below HW.out _⟩
                · have e1 : (x == z) = false := by simpa using hxz
                  have HXZ := Lib.hid hxz
                  have HN : Hid (¬ (z ∈ X ∨ z ∈ Y.take (j + 1))) := Lib.hid (by rw [HX.out, ← or_assoc]; rintro (h | h) <;> first | exact absurd (HT.out.2 h) (by decide) | exact hxz h)
                  clear HT HX HXZ
                  clear hxz
                  go_wp2_with fail
                  go_quiet (fail)
                  go_wp2_with fail
                  go_roundg (Y.length - (j + 1))
                  case measure => omega
                  case rel => exact ⟨j + 1, false, by omega, by omega, by go_num, rfl, ⟨fun h => (by cases h), fun h => absurd h HN.out⟩, drewN_below HW.out _⟩
            · obtain rfl : j = Y.length := by omega
              have hj1 : ¬ (Y.length : Int) < (Y.length : Int) := by omega
              have hj2 : decide ((Y.length : Int) < (Y.length : Int)) = false := decide_eq_false hj1
              rw [List.take_length] at HT
              obtain rfl : t = true := HT.out.2 HMEM.out
              clear HT HMEM hjl hj hq2
              have c1 := Hc1.out
              have d1 := (HW.out.cell (block_lt_of_cell c1)).trans c1
              clear c1
              cases k with
              | zero =>
                go_wp2_with fail
                go_quiet (fail)
                go_wp2_with fail
                go_roundg (Z.length - 1)
                case measure => omega
                case rel => exact ⟨1, by omega, by omega, by go_num, drewN_below HW.out _⟩
              | succ k =>
                obtain ⟨v, hv⟩ : ∃ v, Z[k]? = some v := ⟨_, List.getElem?_eq_getElem (by omega)⟩
                obtain ⟨zb', zo', e, c3⟩ := FZ.out k v hv
                cases e
                have d3 := (HW.out.cell (block_lt_of_cell c3)).trans c3
                have hvz := HR.out k v z hv HZK.out
                have e1 : decide (z ≤ v) = false := decide_eq_false (by omega)
                have hw : IntKind.i64.wrap (k : Int) = k := by rw [IntKind.wrap_i64]; omega
                have hk3 : (k : Int) < (Z.length : Int) := by omega
                have hk4 : (0 : Int) < (k : Int) + 1 := by omega
                have hk5 : decide ((0 : Int) < (k : Int) + 1) = true := decide_eq_true hk4
                clear c3 hv hvz
                go_wp2_with fail
                go_quiet (fail)
                go_wp2_with fail
                go_roundg (Z.length - (k + 1 + 1))
                case measure => omega
                case rel => exact ⟨k + 1 + 1, by omega, by omega, by go_num, drewN_below HW.out _⟩
    · obtain rfl : k = Z.length := by omega
      have hk1 : ¬ (Z.length : Int) < (Z.length : Int) := by omega
      go_wp2_with fail
      refine (HWk.out _).mono ?_
      rintro e w7 ⟨rfl, hb⟩
      have B7 := Lib.hid (stay (B6.out.trans (HW.out.mono B6.out.size)) hb)
      clear hb
      go_wp2_with fail
      go_ret
      exact ⟨rfl, B7.out⟩
end Go.Proofs.Ytbokbijehilbiaa
