/- Marks as they lie in memory; the small functions over marks. -/
import Derived.Test.YtbhaifdhmfmeoaaSx
namespace Go.Proofs.Ytbhaifdhmfmeoaa
set_option linter.unusedSimpArgs false
set_option linter.unusedVariables false
open Go.RowKit

/-- A slice whose marks are l. -/
def MarksAt (w : World) (sv : Value) (l : List Mk) : Prop := ∃ a cap, sv = .slice a l.length cap ∧ ∀ i m, l[i]? = some m → ∃ b o, a = some ⟨b, o, none⟩ ∧ w.cell? ⟨b, o + i * 2, none⟩ = some (.int .i64 m.1) ∧ w.cell? ⟨b, o + i * 2 + 1, none⟩ = some (.int .i64 m.2)
theorem MarksAt.below {w w' : World} {sv : Value} {l : List Mk} (h : MarksAt w sv l) (hb : Below w.heap.size w w') : MarksAt w' sv l := by
  obtain ⟨a, cap, e, hc⟩ := h
  refine ⟨a, cap, e, fun i x hx => ?_⟩
  obtain ⟨b, o, e2, h1, h2⟩ := hc i x hx
  exact ⟨b, o, e2, (hb.cell (block_lt_of_cell h1)).trans h1, (hb.cell (block_lt_of_cell h2)).trans h2⟩
theorem MarksAt.nil (w : World) (cap : Nat) (a : Option Addr) : MarksAt w (.slice a 0 cap) [] := ⟨a, cap, rfl, fun i x h => by simp at h⟩
theorem MarksAt.has {w : World} {sv : Value} {l : List Mk} (h : MarksAt w sv l) (hl : 0 < l.length) : ∃ b o cap, sv = .slice (some ⟨b, o, none⟩) l.length cap ∧ ∀ i m, l[i]? = some m → w.cell? ⟨b, o + i * 2, none⟩ = some (.int .i64 m.1) ∧ w.cell? ⟨b, o + i * 2 + 1, none⟩ = some (.int .i64 m.2) := by
  obtain ⟨a, cap, e, hc⟩ := h
  obtain ⟨b, o, e2, _⟩ := hc 0 l[0] (by simp [hl])
  subst e2
  refine ⟨b, o, cap, e, fun i x hx => ?_⟩
  obtain ⟨b', o', e3, hx2⟩ := hc i x hx
  cases e3
  exact hx2

theorem kindOf_any (n : Int) (w : World) : Calls Try.prog 53 #[.int .i64 n] w fun e w' => e = .returned (.tuple #[.int .i64 (kindIds n), .bool (hasBlock n)]) ∧ w = w' := by
  by_cases h3 : n = 3
  · subst h3
    go_enter Try.func53, Try.ntmps53
    go_wp2_with fail
    go_ret2
    exact ⟨rfl, rfl⟩
  · by_cases h1 : n = 1
    · subst h1
      go_enter Try.func53, Try.ntmps53
      go_wp2_with fail
      go_ret2
      exact ⟨rfl, rfl⟩
    · by_cases h2 : n = 2
      · subst h2
        go_enter Try.func53, Try.ntmps53
        go_wp2_with fail
        go_ret2
        exact ⟨rfl, rfl⟩
      · by_cases h4 : n = 4
        · subst h4
          go_enter Try.func53, Try.ntmps53
          go_wp2_with fail
          go_ret2
          exact ⟨rfl, rfl⟩
        · by_cases h5 : n = 5
          · subst h5
            go_enter Try.func53, Try.ntmps53
            go_wp2_with fail
            go_ret2
            exact ⟨rfl, rfl⟩
          · have e1 : kindIds n = 0 := by unfold kindIds; rw [if_neg h3, if_neg (by omega)]
            have e2 : hasBlock n = false := by unfold hasBlock; rw [Bool.and_eq_false_iff, decide_eq_false_iff_not, decide_eq_false_iff_not]; omega
            rw [e1, e2]
            clear e1 e2
            go_enter Try.func53, Try.ntmps53
            go_wp2_with fail
            go_ret2
            exact ⟨rfl, rfl⟩

set_option maxRecDepth 100000 in
theorem blocks_any (sv : Value) (l : List Mk) (hl : l.length ≤ 1000000) (w : World) (h : MarksAt w sv l) : Calls Try.prog 38 #[sv] w fun e w' => e = .returned (.int .i64 (blocks l)) ∧ Below w.heap.size w w' := by
  obtain ⟨a, cap, rfl, hc⟩ := id h
  have HC := Lib.hid hc
  clear h hc
  go_enter Try.func38, Try.ntmps38
  go_wp2_with fail
  go_loopg [3, 10] l.length (fun q n i wr => ∃ k : Nat, l.length - k ≤ q ∧ k ≤ l.length ∧ i = .int .i64 k ∧ n = .int .i64 (blocks (l.take k)) ∧ Below w.heap.size w wr)
  case atStart => exact ⟨0, by omega, by omega, rfl, rfl, Below.refl _ _⟩
  case round =>
    obtain ⟨k, hg, hk, rfl, rfl, hbel⟩ := hrel
    have HB := Lib.hid hbel
    clear hbel
    by_cases hlt : k < l.length
    · obtain ⟨b, o, rfl, h1, h2⟩ := HC.out k l[k] (by simp [hlt])
      have c1 := (HB.out.cell (block_lt_of_cell h1)).trans h1
      have c2 := (HB.out.cell (block_lt_of_cell h2)).trans h2
      have HBS := Lib.hid (blocks_snoc (l := l) (k := k) (m := l[k]) (by simp [hlt]))
      have hle := blocks_le (l.take k)
      have hle2 : (l.take k).length ≤ k := by simp; omega
      clear h1 h2
      generalize l[k] = m at *
      obtain ⟨mk, mi⟩ := m
      simp only at c1 c2
      have hk0 : (0 : Int) ≤ (k : Int) := by omega
      have hk1 : (k : Int) < (l.length : Int) := by omega
      have HK := Lib.hid fun w => kindOf_any mk w
      go_wp2_with fail
      refine (HK.out _).mono ?_
      rintro e w1 ⟨rfl, rfl⟩
      cases hh : hasBlock mk
      case false =>
        have HBQ := HBS.out
        simp only [hh, Bool.false_eq_true, if_false, Nat.add_zero] at HBQ
        have HBQ := Lib.hid HBQ
        clear HBS
        go_wp2_with fail
        go_roundg (l.length - (k + 1))
        case measure => omega
        case rel => exact ⟨k + 1, by omega, by omega, by go_num, by rw [HBQ.out], HB.out.alloc HB.out.size _⟩
      case true =>
        have HBQ := HBS.out
        simp only [hh, if_true] at HBQ
        have HBQ := Lib.hid HBQ
        clear HBS
        go_wp2_with fail
        go_roundg (l.length - (k + 1))
        case measure => omega
        case rel => exact ⟨k + 1, by omega, by omega, by go_num, by rw [HBQ.out]; go_num, HB.out.alloc HB.out.size _⟩
    · have hkl : k = l.length := by omega
      subst hkl
      have HE := Lib.hid (show blocks (l.take l.length) = blocks l by rw [List.take_length])
      clear hlt
      go_wp2_with fail
      go_ret
      exact ⟨by first | (rw [HE.out]; done) | (rw [HE.out]; rfl), HB.out⟩


theorem good_short {l : List Mk} (h : l.length < 1) : goodMarks l = false := by unfold goodMarks; rw [decide_eq_false (by omega)]; rfl
theorem good_long {l : List Mk} (h : 24 < l.length) : goodMarks l = false := by unfold goodMarks; rw [decide_eq_false (p := l.length ≤ 24) (by omega)]; simp
theorem good_bad {l : List Mk} {k : Nat} {m : Mk} (hk : l[k]? = some m) (h : okMark m = false) : goodMarks l = false := by
  cases e : goodMarks l with
  | false => rfl
  | true =>
    have := good_ok e m (List.mem_of_getElem? hk)
    rw [h] at this
    cases this
theorem good_all {l : List Mk} (h1 : 1 ≤ l.length) (h2 : l.length ≤ 24) (h : ∀ k m, l[k]? = some m → k < l.length → okMark m = true) : goodMarks l = true := by
  unfold goodMarks
  rw [decide_eq_true h1, decide_eq_true h2, Bool.true_and, Bool.true_and, List.all_eq_true]
  intro m hm
  obtain ⟨k, hk, rfl⟩ := List.mem_iff_getElem.1 hm
  exact h k _ (by simp [hk]) hk

set_option maxRecDepth 100000 in
theorem areMarks_any (sv : Value) (l : List Mk) (hl : l.length ≤ 1000000) (w : World) (h : MarksAt w sv l) : Calls Try.prog 58 #[sv] w fun e w' => e = .returned (.bool (goodMarks l)) ∧ Below w.heap.size w w' := by
  obtain ⟨a, cap, rfl, hc⟩ := id h
  have HC := Lib.hid hc
  clear h hc
  by_cases hs1 : l.length < 1
  · have HG := Lib.hid (good_short hs1)
    go_enter Try.func58, Try.ntmps58
    go_wp2_with fail
    go_ret
    exact ⟨by first | (rw [HG.out]; done) | (rw [HG.out]; rfl), Below.refl _ _⟩
  by_cases hs2 : 24 < l.length
  · have HG := Lib.hid (good_long hs2)
    go_enter Try.func58, Try.ntmps58
    go_wp2_with fail
    go_ret
    exact ⟨by first | (rw [HG.out]; done) | (rw [HG.out]; rfl), Below.refl _ _⟩
  go_enter Try.func58, Try.ntmps58
  go_wp2_with fail
  go_loopg [17] l.length (fun q i wr => ∃ k : Nat, l.length - k ≤ q ∧ k ≤ l.length ∧ i = .int .i64 k ∧ (∀ j m, l[j]? = some m → j < k → okMark m = true) ∧ Below w.heap.size w wr)
  case atStart => exact ⟨0, by omega, by omega, rfl, fun j m _ h => by omega, Below.refl _ _⟩
  case round =>
    obtain ⟨k, hg, hk, rfl, hall, hbel⟩ := hrel
    have HB := Lib.hid hbel
    have HA := Lib.hid hall
    clear hbel hall
    by_cases hlt : k < l.length
    · have hlk : l[k]? = some l[k] := by simp [hlt]
      obtain ⟨b, o, rfl, h1, h2⟩ := HC.out k l[k] hlk
      have c1 := (HB.out.cell (block_lt_of_cell h1)).trans h1
      have c2 := (HB.out.cell (block_lt_of_cell h2)).trans h2
      clear h1 h2
      generalize l[k] = m at *
      obtain ⟨mk, mi⟩ := m
      have HLK := Lib.hid hlk
      clear hlk
      simp only at c1 c2
      have hk0 : (0 : Int) ≤ (k : Int) := by omega
      have hk1 : (k : Int) < (l.length : Int) := by omega
      have HK := Lib.hid fun w => kindOf_any mk w
      obtain ⟨ids, hids⟩ : ∃ n, kindIds mk = n := ⟨_, rfl⟩
      rw [hids] at HK
      have HI := Lib.hid hids
      clear hids
      by_cases hm0 : mi < 0
      · have HG := Lib.hid (good_bad (l := l) HLK.out (show okMark (mk, mi) = false by unfold okMark; rw [decide_eq_false (by simp only; omega)]; rfl))
        go_wp2_with fail
        refine (HK.out _).mono ?_
        rintro e w1 ⟨rfl, rfl⟩
        go_wp2_with fail
        go_ret
        exact ⟨by first | (rw [HG.out]; done) | (rw [HG.out]; rfl), HB.out.alloc HB.out.size _⟩
      · by_cases hm1 : ids ≤ mi
        · have HG := Lib.hid (good_bad (l := l) HLK.out (show okMark (mk, mi) = false by unfold okMark; rw [HI.out, decide_eq_false (p := mi < ids) (by omega)]; simp))
          go_wp2_with fail
          refine (HK.out _).mono ?_
          rintro e w1 ⟨rfl, rfl⟩
          go_wp2_with fail
          go_ret
          exact ⟨by first | (rw [HG.out]; done) | (rw [HG.out]; rfl), HB.out.alloc HB.out.size _⟩
        · have HO := Lib.hid (show okMark (mk, mi) = true by unfold okMark; rw [HI.out, decide_eq_true (p := mi < ids) (by omega), decide_eq_true (by simp only; omega)]; rfl)
          go_wp2_with fail
          refine (HK.out _).mono ?_
          rintro e w1 ⟨rfl, rfl⟩
          go_wp2_with fail
          go_roundg (l.length - (k + 1))
          case measure => omega
          case rel =>
            refine ⟨k + 1, by omega, by omega, by go_num, fun j m hj hjk => ?_, HB.out.alloc HB.out.size _⟩
            by_cases e : j = k
            · subst e
              rw [HLK.out] at hj
              cases hj
              exact HO.out
            · exact HA.out j m hj (by omega)
    · have hkl : k = l.length := by omega
      subst hkl
      have HG := Lib.hid (good_all (l := l) (by omega) (by omega) HA.out)
      clear hlt
      go_wp2_with fail
      go_ret
      exact ⟨by first | (rw [HG.out]; done) | (rw [HG.out]; rfl), HB.out⟩

theorem ok_eq {mk mi : Int} (b : Bool) (h : b = true ↔ (1 ≤ mk ∧ mk ≤ 5 ∧ 0 ≤ mi ∧ mi < 64 ∧ (mk = 3 → mi < 8))) : b = okMark (mk, mi) := Bool.eq_iff_iff.2 (h.trans (okMark_iff (m := (mk, mi))).symm)
set_option maxRecDepth 100000 in
theorem rmark_any (mk mi : Int) (w : World) : Calls Try.prog 45 #[.agg #[.int .i64 mk, .int .i64 mi]] w fun e w' => e = .returned (.bool (okMark (mk, mi))) ∧ Below w.heap.size w w' := by
  have HB := Lib.hid fun o => (Below.refl w.heap.size w).alloc (Nat.le_refl _) o
  by_cases h1 : mk < 1
  · have HO := Lib.hid (ok_eq (mk := mk) (mi := mi) false (by simp; omega))
    go_enter Try.func45, Try.ntmps45
    go_wp2_with fail
    go_ret
    exact ⟨by first | (rw [← HO.out]; done) | (rw [← HO.out]; rfl), HB.out _⟩
  by_cases h2 : 5 < mk
  · have HO := Lib.hid (ok_eq (mk := mk) (mi := mi) false (by simp; omega))
    go_enter Try.func45, Try.ntmps45
    go_wp2_with fail
    go_ret
    exact ⟨by first | (rw [← HO.out]; done) | (rw [← HO.out]; rfl), HB.out _⟩
  by_cases h3 : mi < 0
  · have HO := Lib.hid (ok_eq (mk := mk) (mi := mi) false (by simp; omega))
    go_enter Try.func45, Try.ntmps45
    go_wp2_with fail
    go_ret
    exact ⟨by first | (rw [← HO.out]; done) | (rw [← HO.out]; rfl), HB.out _⟩
  by_cases h4 : mi < 8
  · have HO := Lib.hid (ok_eq (mk := mk) (mi := mi) true (by simp; omega))
    go_enter Try.func45, Try.ntmps45
    go_wp2_with fail
    go_ret
    exact ⟨by first | (rw [← HO.out]; done) | (rw [← HO.out]; rfl), HB.out _⟩
  by_cases h5 : mk = 3
  · subst h5
    have HO := Lib.hid (ok_eq (mk := 3) (mi := mi) false (by simp; omega))
    go_enter Try.func45, Try.ntmps45
    go_wp2_with fail
    go_ret
    exact ⟨by first | (rw [← HO.out]; done) | (rw [← HO.out]; rfl), HB.out _⟩
  by_cases h6 : mi < 64
  · have HO := Lib.hid (ok_eq (mk := mk) (mi := mi) true (by simp; omega))
    go_enter Try.func45, Try.ntmps45
    go_wp2_with fail
    go_ret
    refine ⟨?_, HB.out _⟩
    rw [← HO.out]
    exact Eq.trans (b := Ending.returned (.bool (mk != 3))) rfl (ret_bool (by simp [h5]))
  · have HO := Lib.hid (ok_eq (mk := mk) (mi := mi) false (by simp; omega))
    go_enter Try.func45, Try.ntmps45
    go_wp2_with fail
    go_ret
    exact ⟨by first | (rw [← HO.out]; done) | (rw [← HO.out]; rfl), HB.out _⟩
end Go.Proofs.Ytbhaifdhmfmeoaa
