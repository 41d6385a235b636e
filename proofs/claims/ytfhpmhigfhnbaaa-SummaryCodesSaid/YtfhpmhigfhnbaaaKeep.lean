/- Marks compared, one by one. -/
import Derived.Test.YtfhpmhigfhnbaaaMarks
import Derived.BigQuiet
import Derived.Deep.QuietTactic
namespace Go.Proofs.Ytfhpmhigfhnbaaa
set_option linter.unusedSimpArgs false
set_option linter.unusedVariables false
open Go.RowKit

theorem same_of {l m : List Mk} (hn : l.length = m.length) (h : ∀ j, j < l.length → l[j]? = m[j]?) : l = m := by
  apply List.ext_getElem?
  intro j
  by_cases hj : j < l.length
  · exact h j hj
  · rw [List.getElem?_eq_none (by omega), List.getElem?_eq_none (by omega)]
set_option maxRecDepth 100000 in
theorem keep_any (sv tv : Value) (l m : List Mk) (hl : l.length ≤ 1000000) (hm : m.length ≤ 1000000) (w : World) (h : MarksAt w sv l) (h' : MarksAt w tv m) : Calls Try.prog 16 #[sv, tv] w fun e w' => e = .returned (.bool (decide (l = m))) ∧ Below w.heap.size w w' := by
  obtain ⟨a, cap, rfl, hc⟩ := id h
  obtain ⟨a', cap', rfl, hc'⟩ := id h'
  have HC := Lib.hid hc
  have HD := Lib.hid hc'
  clear h hc h' hc'
  by_cases hn : l.length = m.length
  case neg =>
    have HE := Lib.hid (show decide (l = m) = false from decide_eq_false fun e => hn (by rw [e]))
    have hn' : ¬ (l.length : Int) = (m.length : Int) := by omega
    go_enter Try.func16, Try.ntmps16
    go_wp2_with fail
    go_ret
    exact ⟨by first | (rw [HE.out]; done) | (rw [HE.out]; rfl), Below.refl _ _⟩
  obtain ⟨n, hnl⟩ : ∃ n, l.length = n := ⟨_, rfl⟩
  have hnm : m.length = n := by omega
  have HL := Lib.hid hnl
  have HM := Lib.hid hnm
  rw [hnl] at hl ⊢
  rw [hnm]
  clear hn hnl hnm hm
  go_enter Try.func16, Try.ntmps16
  go_wp2_with fail
  go_loopg [5] n (fun q i wr => ∃ k : Nat, n - k ≤ q ∧ k ≤ n ∧ i = .int .i64 k ∧ (∀ j, j < k → l[j]? = m[j]?) ∧ Below w.heap.size w wr)
  case atStart => exact ⟨0, by omega, by omega, rfl, fun j h => by omega, Below.refl _ _⟩
  case round =>
    obtain ⟨k, hg, hk, rfl, hall, hbel⟩ := hrel
    have HB := Lib.hid hbel
    have HA := Lib.hid hall
    clear hbel hall
    by_cases hlt : k < n
    · have hlk : l[k]? = some (l[k]'(by rw [HL.out]; exact hlt)) := List.getElem?_eq_getElem _
      have hmk : m[k]? = some (m[k]'(by rw [HM.out]; exact hlt)) := List.getElem?_eq_getElem _
      obtain ⟨b, o, rfl, h1, h2⟩ := HC.out k _ hlk
      obtain ⟨b', o', rfl, h3, h4⟩ := HD.out k _ hmk
      have c1 := (HB.out.cell (block_lt_of_cell h1)).trans h1
      have c2 := (HB.out.cell (block_lt_of_cell h2)).trans h2
      have c3 := (HB.out.cell (block_lt_of_cell h3)).trans h3
      have c4 := (HB.out.cell (block_lt_of_cell h4)).trans h4
      clear h1 h2 h3 h4
      generalize l[k]'(by rw [HL.out]; exact hlt) = x at *
      generalize m[k]'(by rw [HM.out]; exact hlt) = y at *
      obtain ⟨x1, x2⟩ := x
      obtain ⟨y1, y2⟩ := y
      have HLK := Lib.hid hlk
      have HMK := Lib.hid hmk
      clear hlk hmk
      simp only at c1 c2 c3 c4
      have hk0 : (0 : Int) ≤ (k : Int) := by omega
      have hk1 : (k : Int) < (n : Int) := by omega
      by_cases e1 : x1 = y1
      · subst e1
        by_cases e2 : x2 = y2
        · subst e2
          go_wp2_with fail
          go_region
          go_wp2_with fail
          go_roundg (n - (k + 1))
          case measure => omega
          case rel =>
            refine ⟨k + 1, by omega, by omega, by go_num, fun j hjk => ?_, HB.out.drew⟩
            by_cases e : j = k
            · subst e
              rw [HLK.out, HMK.out]
            · exact HA.out j (by omega)
        · have HE := Lib.hid (show decide (l = m) = false from decide_eq_false fun e => by
            have h1 := HLK.out
            rw [e, HMK.out] at h1
            cases h1
            exact e2 rfl)
          go_wp2_with fail
          go_region
          go_wp2_with fail
          go_ret
          exact ⟨by first | (rw [HE.out]; done) | (rw [HE.out]; rfl), HB.out.drew⟩
      · have HE := Lib.hid (show decide (l = m) = false from decide_eq_false fun e => by
          have h1 := HLK.out
          rw [e, HMK.out] at h1
          cases h1
          exact e1 rfl)
        go_wp2_with fail
        go_region
        go_wp2_with fail
        go_ret
        exact ⟨by first | (rw [HE.out]; done) | (rw [HE.out]; rfl), HB.out.drew⟩
    · have hkl : k = n := by omega
      subst hkl
      have HE := Lib.hid (show decide (l = m) = true from decide_eq_true (same_of (HL.out.trans HM.out.symm) fun j hj => HA.out j (by rw [← HL.out]; exact hj)))
      clear hlt
      go_wp2_with fail
      go_ret
      exact ⟨by first | (rw [HE.out]; done) | (rw [HE.out]; rfl), HB.out⟩
end Go.Proofs.Ytfhpmhigfhnbaaa
