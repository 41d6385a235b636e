/- VictimTwo's walk. -/
import Derived.Test.YticgkeohghpdkaaWakes
namespace Go.Proofs.Yticgkeohghpdkaa
set_option linter.unusedSimpArgs false
set_option linter.unusedVariables false
open Go.RowKit

theorem IntsAt.form {w : World} {sv : Value} {l : List Int} (h : IntsAt w sv l) : ∃ a cap, sv = .slice a l.length cap := let ⟨a, cap, e, _⟩ := h; ⟨a, cap, e⟩
theorem IntsAt.cellAt {w : World} {a : Option Addr} {n cap : Nat} {l : List Int} (h : IntsAt w (.slice a n cap) l) : ∀ i x, l[i]? = some x → ∃ b o, a = some ⟨b, o, none⟩ ∧ w.cell? ⟨b, o + i, none⟩ = some (.int .i64 x) := by
  obtain ⟨a', cap', e, hc⟩ := h
  cases e
  exact hc
set_option maxRecDepth 100000 in
theorem twos_long (live l : List Int) (h : 60 < live.length ∨ 60 < l.length) (sv tv : Value) (w : World) (h0 : IntsAt w sv live) (h1 : IntsAt w tv l) : Calls Try.prog 3 #[sv, tv] w fun e w' => e = .returned (.bool true) ∧ Below w.heap.size w w' := by
  have HK := Lib.hid wakes_any
  obtain ⟨a, cap, rfl⟩ := h0.form
  obtain ⟨b, cap', rfl⟩ := h1.form
  clear h0 h1
  by_cases hl : 60 < live.length
  · have d0 : decide (60 < (live.length : Int)) = true := decide_eq_true (by omega)
    clear h hl
    generalize live.length = m at *
    generalize l.length = n at *
    go_enter Try.func3, Try.ntmps3
    go_wp2_with fail
    refine (HK.out _).mono ?_
    rintro e w2 ⟨rfl, hb⟩
    go_wp2_with fail
    go_ret
    exact ⟨rfl, hb⟩
  · have d0 : decide (60 < (live.length : Int)) = false := decide_eq_false (by omega)
    have d1 : decide (60 < (l.length : Int)) = true := decide_eq_true (by omega)
    clear h hl
    generalize live.length = m at *
    generalize l.length = n at *
    go_enter Try.func3, Try.ntmps3
    go_wp2_with fail
    refine (HK.out _).mono ?_
    rintro e w2 ⟨rfl, hb⟩
    go_wp2_with fail
    go_ret
    exact ⟨rfl, hb⟩
theorem mem_more {l : List Int} {k : Nat} {x v : Int} (h : l[k]? = some x) : v ∈ l.take (k + 1) ↔ v ∈ l.take k ∨ x = v := by
  rw [List.take_add_one, h]
  simp [eq_comm]
set_option maxRecDepth 100000 in
set_option maxHeartbeats 1000000 in
theorem twos_short (live l : List Int) (hn : live.length ≤ 60) (hl : l.length ≤ 60) (sv tv : Value) (w : World) (h0 : IntsAt w sv live) (h1 : IntsAt w tv l) : Calls Try.prog 3 #[sv, tv] w fun e w' => e = .returned (.bool true) ∧ Below w.heap.size w w' := by
  have HK := Lib.hid wakes_any
  have HT := Lib.hid (two_any live (by omega) l (by omega) sv tv w h0 h1)
  have HTw := Lib.hid (two_is live l)
  obtain ⟨L, hL⟩ : ∃ L, two live l = L := ⟨_, rfl⟩
  rw [hL] at HT HTw
  have HV := Lib.hid h0
  have HI := Lib.hid h1
  have hL2 : L.length ≤ 2 := by rw [HTw.out.len]; omega
  obtain ⟨a, cap, rfl⟩ := h0.form
  obtain ⟨b, cap', rfl⟩ := h1.form
  have d0 : decide (60 < (live.length : Int)) = false := decide_eq_false (by omega)
  have d1 : decide (60 < (l.length : Int)) = false := decide_eq_false (by omega)
  clear h0 h1 hL
  go_enter Try.func3, Try.ntmps3
  go_wp2_with fail
  clear d0 d1
  refine HT.out.mono ?_
  rintro e w1 ⟨rv, rfl, ho, hb⟩
  have HV1 := Lib.hid (HV.out.below hb)
  have HI1 := Lib.hid (HI.out.below hb)
  have HR1 := Lib.hid ho.ints
  have HB := Lib.hid hb
  obtain ⟨ra, rc, hrv⟩ := ho.ints.form
  obtain ⟨n2, hn2⟩ : ∃ n2, L.length = n2 := ⟨_, rfl⟩
  rw [ns_length, hn2] at hrv
  subst hrv
  have HN2 := Lib.hid hn2
  rw [hn2] at hL2
  clear hb ho HV HI HT hn2
  go_wp2_with fail
  go_loopg [7, 6] live.length (fun q i s wr => ∃ k : Nat, live.length - k ≤ q ∧ k ≤ live.length ∧ i = .int .i64 k ∧ s = .int .i64 (mays live l k) ∧ w1 = wr)
  case atStart => exact ⟨0, by omega, by omega, rfl, rfl, rfl⟩
  case round =>
    obtain ⟨k, hq, hk, rfl, rfl, rfl⟩ := hrel
    have hmk := mays_le live l k
    by_cases hlt : k < live.length
    · have hk1 : (k : Int) < (live.length : Int) := by omega
      obtain ⟨x, hx⟩ : ∃ x, live[k]? = some x := ⟨_, List.getElem?_eq_getElem (by omega)⟩
      obtain ⟨xb, xo, rfl, x1⟩ := HV1.out.cellAt k x hx
      have HX := Lib.hid hx
      clear hx
      have hg : live.getD k 0 = x := by simp [List.getD, HX.out]
      have HMay : Hid (May live l k ↔ ¬ (x < 0 ∨ (k : Int) ∈ l)) := Lib.hid (by
        unfold May
        rw [hg]
        exact ⟨fun ⟨_, b, c⟩ h => h.elim (fun h => by omega) c, fun h => ⟨hlt, by
          rcases Int.lt_or_le x 0 with q | q
          · exact absurd (.inl q) h
          · exact q, fun q => h (.inr q)⟩⟩)
      obtain ⟨y0, hy0⟩ : ∃ y0, decide (x < 0) = y0 := ⟨_, rfl⟩
      have HY0 := Lib.hid hy0
      clear hg
      go_wp2_with fail
      clear hy0 x1
      go_loopg [9, 8] l.length (fun q i o wr => ∃ (j : Nat) (f : Bool), l.length - j ≤ q ∧ j ≤ l.length ∧ i = .int .i64 j ∧ o = .bool f ∧ (f = true ↔ (x < 0 ∨ (k : Int) ∈ l.take j)) ∧ w1 = wr)
      case atStart => exact ⟨0, y0, by omega, by omega, rfl, rfl, by rw [← HY0.out]; simp, rfl⟩
      case round =>
        obtain ⟨j, f, hjq, hjl, rfl, rfl, hf, rfl⟩ := hrel
        have HF := Lib.hid hf
        clear hf
        by_cases hjt : j < l.length
        · have hj1 : (j : Int) < (l.length : Int) := by omega
          obtain ⟨y, hy⟩ : ∃ y, l[j]? = some y := ⟨_, List.getElem?_eq_getElem (by omega)⟩
          obtain ⟨yb, yo, rfl, y1⟩ := HI1.out.cellAt j y hy
          have HM := Lib.hid (mem_more (v := (k : Int)) hy)
          clear hy
          cases f with
          | true =>
            have HN : Hid (x < 0 ∨ (k : Int) ∈ l.take (j + 1)) := Lib.hid (by
              rw [HM.out]
              rcases HF.out.1 rfl with q | q
              · exact .inl q
              · exact .inr (.inl q))
            go_wp2_with fail
            go_roundg (l.length - (j + 1))
            case measure => omega
            case rel => exact ⟨j + 1, true, by omega, by omega, by go_num, rfl, ⟨fun _ => HN.out, fun _ => rfl⟩, rfl⟩
          | false =>
            obtain ⟨t, ht⟩ : ∃ t, (y == (k : Int)) = t := ⟨_, rfl⟩
            have HN : Hid (t = true ↔ (x < 0 ∨ (k : Int) ∈ l.take (j + 1))) := Lib.hid (by
              rw [HM.out, ← ht]
              have := HF.out
              constructor
              · intro q
                exact .inr (.inr (by simpa using q))
              · rintro (q | q | q)
                · exact absurd (this.2 (.inl q)) (by simp)
                · exact absurd (this.2 (.inr q)) (by simp)
                · simpa using q)
            go_wp2_with fail
            go_roundg (l.length - (j + 1))
            case measure => omega
            case rel => exact ⟨j + 1, t, by omega, by omega, by go_num, rfl, HN.out, rfl⟩
        · obtain rfl : j = l.length := by omega
          have hj1 : ¬ (l.length : Int) < (l.length : Int) := by omega
          have HF2 : Hid (f = true ↔ ¬ May live l k) := Lib.hid (by
            have := HF.out
            rw [List.take_length] at this
            rw [this]
            exact ⟨fun h c => HMay.out.1 c h, fun h => Classical.byContradiction fun q => h (HMay.out.2 q)⟩)
          clear HF
          cases f with
          | true =>
            have HNo : Hid (¬ May live l k) := Lib.hid (HF2.out.1 rfl)
            have HMs := Lib.hid (mays_no HNo.out)
            clear HF2
            go_wp2_with fail
            go_loopg [10] n2 (fun q i wr => ∃ j : Nat, n2 - j ≤ q ∧ j ≤ n2 ∧ i = .int .i64 j ∧ w1 = wr)
            case atStart => exact ⟨0, by omega, by omega, rfl, rfl⟩
            case round =>
              obtain ⟨j, hjq, hjn, rfl, rfl⟩ := hrel
              by_cases hjt : j < n2
              · have hj1 : (j : Int) < (n2 : Int) := by omega
                obtain ⟨z, hz⟩ : ∃ z, L[j]? = some z := ⟨_, List.getElem?_eq_getElem (by have := HN2.out; omega)⟩
                obtain ⟨zb, zo, rfl, z1⟩ := HR1.out.cellAt j z (by simp [ns, hz])
                have hzk : z ≠ k := fun e => HNo.out (e ▸ HTw.out.all z (List.mem_of_getElem? hz))
                have e1 : ((z : Int) == (k : Int)) = false := by simp; omega
                clear hz hzk
                go_wp2_with fail
                go_roundg (n2 - (j + 1))
                case measure => omega
                case rel => exact ⟨j + 1, by omega, by omega, by go_num, rfl⟩
              · obtain rfl : j = n2 := by omega
                have hj1 : ¬ (j : Int) < (j : Int) := by omega
                go_wp2_with fail
                go_roundg (live.length - (k + 1))
                case measure => omega
                case rel => exact ⟨k + 1, by omega, by omega, by go_num, by rw [HMs.out], rfl⟩
          | false =>
            have HYes : Hid (May live l k) := Lib.hid (by
              have := HF2.out
              by_cases q : May live l k
              · exact q
              · exact absurd (this.2 q) (by simp))
            have HMs := Lib.hid (mays_yes HYes.out)
            clear HF2
            go_wp2_with fail
            go_roundg (live.length - (k + 1))
            case measure => omega
            case rel => exact ⟨k + 1, by omega, by omega, by go_num, by rw [HMs.out]; go_num, rfl⟩
    · obtain rfl : k = live.length := by omega
      have hk1 : ¬ (live.length : Int) < (live.length : Int) := by omega
      obtain ⟨my, hmy⟩ : ∃ my, mays live l live.length = my := ⟨_, rfl⟩
      have HLen : Hid (n2 = min 2 my) := Lib.hid (by rw [← hmy, ← HN2.out]; exact HTw.out.len)
      rw [hmy] at hmk ⊢
      clear hmy hq hk
      go_upto_region 20 with fail
      go_cut [72] from 68 to 71 (fun s72 wx => s72 = .bool false ∧ w1 = wx)
      case first =>
        go_wp2_with fail
        all_goals go_meet
        all_goals exact ⟨congrArg Value.bool (by have := HLen.out; simp; omega), rfl⟩
      case rest =>
        obtain ⟨rfl, rfl⟩ := hcut
        clear hmk HLen
        go_wp2_with fail
        go_loopg [11] n2 (fun q i wr => ∃ j : Nat, n2 - j ≤ q ∧ j ≤ n2 ∧ i = .int .i64 j ∧ w1 = wr)
        case atStart => exact ⟨0, by omega, by omega, rfl, rfl⟩
        case round =>
          obtain ⟨j, hjq, hjn, rfl, rfl⟩ := hrel
          by_cases hjt : j < n2
          · have hj1 : (j : Int) < (n2 : Int) := by omega
            obtain ⟨z, hz⟩ : ∃ z, L[j]? = some z := ⟨_, List.getElem?_eq_getElem (by have := HN2.out; omega)⟩
            obtain ⟨zb, zo, rfl, z1⟩ := HR1.out.cellAt j z (by simp [ns, hz])
            have hzk : z < live.length := (HTw.out.all z (List.mem_of_getElem? hz)).1
            have hzk1 : (z : Int) < (live.length : Int) := by omega
            clear hz
            go_wp2_with fail
            go_roundg (n2 - (j + 1))
            case measure => omega
            case rel => exact ⟨j + 1, by omega, by omega, by go_num, rfl⟩
          · obtain rfl : j = n2 := by omega
            have hj1 : ¬ (j : Int) < (j : Int) := by omega
            clear hjq hjn hjt
            by_cases h2 : j = 2
            · subst h2
              obtain ⟨p, r, hpr⟩ : ∃ p r, L = [p, r] := by
                have := HN2.out
                match L, this with
                | [p, r], _ => exact ⟨p, r, rfl⟩
              obtain ⟨hne, hle, hle2⟩ := HTw.out.apart p r hpr
              have hp := HTw.out.all p (by rw [hpr]; simp)
              have hr := HTw.out.all r (by rw [hpr]; simp)
              obtain ⟨zb, zo, rfl, z0⟩ := HR1.out.cellAt 0 p (by rw [hpr]; rfl)
              obtain ⟨zb', zo', e, z1⟩ := HR1.out.cellAt 1 r (by rw [hpr]; rfl)
              cases e
              obtain ⟨x, hx⟩ : ∃ x, live[p]? = some x := ⟨_, List.getElem?_eq_getElem hp.1⟩
              obtain ⟨y, hy⟩ : ∃ y, live[r]? = some y := ⟨_, List.getElem?_eq_getElem hr.1⟩
              obtain ⟨xb, xo, rfl, x1⟩ := HV1.out.cellAt p x hx
              obtain ⟨yb, yo, e, y1⟩ := HV1.out.cellAt r y hy
              cases e
              have gx : live.getD p 0 = x := by simp [List.getD, hx]
              have gy : live.getD r 0 = y := by simp [List.getD, hy]
              rw [gx, gy] at hle
              have HLe := Lib.hid hle2
              rw [gy] at HLe
              rw [Nat.add_zero] at z0
              have hp1 : (p : Int) < (live.length : Int) := by have := hp.1; omega
              have hr1 : (r : Int) < (live.length : Int) := by have := hr.1; omega
              have e1 : ((p : Int) == (r : Int)) = false := by simp; omega
              have e2 : decide (y < x) = false := decide_eq_false (by omega)
              have HZ0 := Lib.hid z0
              have HZ1 := Lib.hid z1
              have HY1 := Lib.hid y1
              clear hp hr hx hy gx gy hle2 hle hne
              go_wp2_with fail
              go_quiet (fail)
              go_wp2_with fail
              clear e1 e2 x1 z0 z1 y1
              go_loopg [12] live.length (fun q i wr => ∃ k : Nat, live.length - k ≤ q ∧ k ≤ live.length ∧ i = .int .i64 k ∧ Below w1.heap.size w1 wr)
              case atStart => exact ⟨0, by omega, by omega, rfl, drewN_below (Below.refl _ _) _⟩
              case round =>
                obtain ⟨k, hq, hk, rfl, hw⟩ := hrel
                have HW := Lib.hid hw
                clear hw
                by_cases hlt : k < live.length
                · have hk1 : (k : Int) < (live.length : Int) := by omega
                  obtain ⟨v, hv⟩ : ∃ v, live[k]? = some v := ⟨_, List.getElem?_eq_getElem (by omega)⟩
                  obtain ⟨vb, vo, e, v0⟩ := HV1.out.cellAt k v hv
                  cases e
                  have v1 := (HW.out.cell (block_lt_of_cell v0)).trans v0
                  have z0 := (HW.out.cell (block_lt_of_cell HZ0.out)).trans HZ0.out
                  have z1 := (HW.out.cell (block_lt_of_cell HZ1.out)).trans HZ1.out
                  have y1 := (HW.out.cell (block_lt_of_cell HY1.out)).trans HY1.out
                  have hg : live.getD k 0 = v := by simp [List.getD, hv]
                  have HL : Hid (¬ (v < 0 ∨ k = p ∨ k = r ∨ (k : Int) ∈ l) → ¬ v < y) := Lib.hid fun h q => by
                    have := HLe.out k ⟨hlt, by
                      rw [hg]
                      rcases Int.lt_or_le v 0 with q | q
                      · exact absurd (.inl q) h
                      · exact q, fun q => h (.inr (.inr (.inr q)))⟩ (fun q => h (.inr (.inl q))) (fun q => h (.inr (.inr (.inl q))))
                    rw [hg] at this
                    omega
                  clear hv v0 hg
                  go_upto_region 32 with fail
                  go_cut [13] from 131 to 149 (fun s13 wx => ∃ f : Bool, s13 = .bool f ∧ (f = true ↔ (v < 0 ∨ k = p ∨ k = r)) ∧ wr = wx)
                  case first =>
                    by_cases c0 : v < 0
                    · have d0 : decide (v < 0) = true := decide_eq_true c0
                      go_wp2_with fail
                      go_meet
                      exact ⟨true, rfl, by simp [c0], rfl⟩
                    · have d0 : decide (v < 0) = false := decide_eq_false c0
                      by_cases c1 : k = p
                      · have d1 : ((k : Int) == (p : Int)) = true := by simp; omega
                        have C1 := Lib.hid c1
                        clear c1
                        go_wp2_with fail
                        go_meet
                        exact ⟨true, rfl, by simp [C1.out], rfl⟩
                      · have d1 : ((k : Int) == (p : Int)) = false := by simp; omega
                        have C1 := Lib.hid c1
                        clear c1
                        by_cases c2 : k = r
                        · have d2 : ((k : Int) == (r : Int)) = true := by simp; omega
                          have C2 := Lib.hid c2
                          clear c2
                          go_wp2_with fail
                          go_meet
                          exact ⟨true, rfl, by simp [C2.out], rfl⟩
                        · have d2 : ((k : Int) == (r : Int)) = false := by simp; omega
                          have C2 := Lib.hid c2
                          clear c2
                          go_wp2_with fail
                          go_meet
                          exact ⟨false, rfl, by
                            have := C1.out
                            have := C2.out
                            simp
                            omega, rfl⟩
                  case rest =>
                    obtain ⟨f0, rfl, hf0, rfl⟩ := hcut
                    have HF0 := Lib.hid hf0
                    clear hf0
                    go_wp2_with fail
                    go_loopg [14, 13] l.length (fun q i o wx => ∃ (j : Nat) (f : Bool), l.length - j ≤ q ∧ j ≤ l.length ∧ i = .int .i64 j ∧ o = .bool f ∧ (f = true ↔ (v < 0 ∨ k = p ∨ k = r ∨ (k : Int) ∈ l.take j)) ∧ wr = wx)
                    case atStart => exact ⟨0, f0, by omega, by omega, rfl, rfl, by rw [HF0.out]; simp, rfl⟩
                    case round =>
                      obtain ⟨j, f, hjq, hjl, rfl, rfl, hf, rfl⟩ := hrel
                      have HF := Lib.hid hf
                      clear hf
                      by_cases hjt : j < l.length
                      · have hj1 : (j : Int) < (l.length : Int) := by omega
                        obtain ⟨t, ht⟩ : ∃ t, l[j]? = some t := ⟨_, List.getElem?_eq_getElem (by omega)⟩
                        obtain ⟨tb, tq, rfl, t0⟩ := HI1.out.cellAt j t ht
                        have t1 := (HW.out.cell (block_lt_of_cell t0)).trans t0
                        have HM := Lib.hid (mem_more (v := (k : Int)) ht)
                        clear ht t0
                        cases f with
                        | true =>
                          have HN : Hid (v < 0 ∨ k = p ∨ k = r ∨ (k : Int) ∈ l.take (j + 1)) := Lib.hid (by
                            rw [HM.out]
                            rcases HF.out.1 rfl with q | q | q | q
                            · exact .inl q
                            · exact .inr (.inl q)
                            · exact .inr (.inr (.inl q))
                            · exact .inr (.inr (.inr (.inl q))))
                          go_wp2_with fail
                          go_roundg (l.length - (j + 1))
                          case measure => omega
                          case rel => exact ⟨j + 1, true, by omega, by omega, by go_num, rfl, ⟨fun _ => HN.out, fun _ => rfl⟩, rfl⟩
                        | false =>
                          obtain ⟨s, hs⟩ : ∃ s, (t == (k : Int)) = s := ⟨_, rfl⟩
                          have HN : Hid (s = true ↔ (v < 0 ∨ k = p ∨ k = r ∨ (k : Int) ∈ l.take (j + 1))) := Lib.hid (by
                            rw [HM.out, ← hs]
                            have := HF.out
                            constructor
                            · intro q
                              exact .inr (.inr (.inr (.inr (by simpa using q))))
                            · rintro (q | q | q | q | q)
                              · exact absurd (this.2 (.inl q)) (by simp)
                              · exact absurd (this.2 (.inr (.inl q))) (by simp)
                              · exact absurd (this.2 (.inr (.inr (.inl q)))) (by simp)
                              · exact absurd (this.2 (.inr (.inr (.inr q)))) (by simp)
                              · simpa using q)
                          go_wp2_with fail
                          go_roundg (l.length - (j + 1))
                          case measure => omega
                          case rel => exact ⟨j + 1, s, by omega, by omega, by go_num, rfl, HN.out, rfl⟩
                      · obtain rfl : j = l.length := by omega
                        have hj1 : ¬ (l.length : Int) < (l.length : Int) := by omega
                        cases f with
                        | true =>
                          clear HF HF0
                          go_wp2_with fail
                          go_quiet (fail)
                          go_wp2_with fail
                          go_roundg (live.length - (k + 1))
                          case measure => omega
                          case rel => exact ⟨k + 1, by omega, by omega, by go_num, drewN_below HW.out _⟩
                        | false =>
                          have e3 : decide (v < y) = false := decide_eq_false (by
                            have := HL.out fun q => by
                              have := HF.out.2 (by rw [List.take_length]; exact q)
                              cases this
                            omega)
                          clear HF HF0
                          go_wp2_with fail
                          go_quiet (fail)
                          go_wp2_with fail
                          go_roundg (live.length - (k + 1))
                          case measure => omega
                          case rel => exact ⟨k + 1, by omega, by omega, by go_num, drewN_below HW.out _⟩
                · obtain rfl : k = live.length := by omega
                  have hk1 : ¬ (live.length : Int) < (live.length : Int) := by omega
                  have hk2 : decide ((live.length : Int) < (live.length : Int)) = false := decide_eq_false hk1
                  go_wp2_with fail
                  refine (HK.out _).mono ?_
                  rintro e w2 ⟨rfl, hb⟩
                  go_wp2_with fail
                  go_ret
                  exact ⟨rfl, stay (stay HB.out HW.out) hb⟩
            · have e1 : ((j : Int) == 2) = false := by simp; omega
              go_wp2_with fail
              go_quiet (fail)
              go_wp2_with fail
              go_loopg [12] 1 (fun q i wr => 1 ≤ q ∧ i = .int .i64 0 ∧ Below w1.heap.size w1 wr)
              case atStart => exact ⟨Nat.le_refl _, rfl, drewN_below (Below.refl _ _) _⟩
              case round =>
                obtain ⟨hq, rfl, hw⟩ := hrel
                have HW := Lib.hid hw
                clear hw
                by_cases hlt : 0 < live.length
                · have d0 : decide (0 < live.length) = true := decide_eq_true hlt
                  have d1 : decide ((0 : Int) < (live.length : Int)) = true := decide_eq_true (by omega)
                  go_wp2_with fail
                  refine (HK.out _).mono ?_
                  rintro e w2 ⟨rfl, hb⟩
                  go_wp2_with fail
                  go_ret
                  exact ⟨rfl, stay (stay HB.out HW.out) hb⟩
                · have d0 : decide (0 < live.length) = false := decide_eq_false hlt
                  have d1 : decide ((0 : Int) < (live.length : Int)) = false := decide_eq_false (by omega)
                  go_wp2_with fail
                  refine (HK.out _).mono ?_
                  rintro e w2 ⟨rfl, hb⟩
                  go_wp2_with fail
                  go_ret
                  exact ⟨rfl, stay (stay HB.out HW.out) hb⟩
theorem twos_any (live l : List Int) (sv tv : Value) (w : World) (h0 : IntsAt w sv live) (h1 : IntsAt w tv l) : Calls Try.prog 3 #[sv, tv] w fun e w' => e = .returned (.bool true) ∧ Below w.heap.size w w' := by
  by_cases h : 60 < live.length ∨ 60 < l.length
  · exact twos_long live l h sv tv w h0 h1
  · exact twos_short live l (by omega) (by omega) sv tv w h0 h1
end Go.Proofs.Yticgkeohghpdkaa
