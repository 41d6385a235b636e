/- victim's least and Two. -/
import Derived.Test.YticgkeohghpdkaaLists
namespace Go.Proofs.Yticgkeohghpdkaa
set_option linter.unusedSimpArgs false
set_option linter.unusedVariables false
open Go.RowKit

theorem ret_pair {a b : Int} {p q : Bool} (h : a = b) (k : p = q) : Ending.returned (.tuple #[.int .i64 a, .bool p]) = Ending.returned (.tuple #[.int .i64 b, .bool q]) := by rw [h, k]
set_option maxRecDepth 100000 in
theorem least_any (live : List Int) (hn : live.length ≤ 1000) (out : List Bool) (hout : out.length = live.length) (sv : Value) (g : Nat) (w : World) (h : IntsAt w sv live) (hg : Blk w g (bools out)) :
    Calls Try.prog 13 #[sv, .slice (some ⟨g, 0, none⟩) live.length live.length] w fun e w' => e = .returned (.tuple #[.int .i64 (least live out).1, .bool (least live out).2]) ∧ w = w' := by
  obtain ⟨a, cap, rfl, hc⟩ := h
  have HC := Lib.hid hc
  have HG := Lib.hid hg
  have HO := Lib.hid hout
  clear hc hg hout
  go_enter Try.func13, Try.ntmps13
  go_wp2_with fail
  go_loopg [12, 6, 7] live.length (fun q i b o wr => ∃ k : Nat, live.length - k ≤ q ∧ k ≤ live.length ∧ i = .int .i64 k ∧ (∃ (u : Nat) (f : Bool), leastN live out k = (u, f) ∧ b = .int .i64 u ∧ o = .bool f) ∧ w = wr)
  case atStart => exact ⟨0, by omega, by omega, rfl, ⟨0, false, rfl, rfl, rfl⟩, rfl⟩
  case round =>
    obtain ⟨k, hq, hk, rfl, ⟨u, f, huf, rfl, rfl⟩, rfl⟩ := hrel
    have HU := Lib.hid huf
    by_cases hlt : k < live.length
    · have hk1 : (k : Int) < (live.length : Int) := by omega
      have hlk : live[k]? = some live[k] := by simp [hlt]
      obtain ⟨b, o, rfl, c1⟩ := HC.out k live[k] hlk
      obtain ⟨t, ht⟩ : ∃ t, out[k]? = some t := ⟨_, List.getElem?_eq_getElem (by rw [HO.out]; exact hlt)⟩
      have c2 := HG.out.bool ht
      have hyes := leastN_yes (out := out) hlk
      have hneg := leastN_neg (out := out) hlk
      have hno := leastN_no (out := out) hlk
      have hout := leastN_out (live := live) (out := out) (k := k)
      rw [huf] at hyes hneg hno hout
      have hlu := (least_is live out k).yes
      rw [huf] at hlu
      simp only at hyes hno hlu
      generalize live[k] = n at *
      have HT := Lib.hid ht
      clear hlk huf ht
      cases t with
      | true =>
        have HM := Lib.hid (hout HT.out)
        clear hyes hneg hno hout hlu
        go_wp2_with fail
        go_roundg (live.length - (k + 1))
        case measure => omega
        case rel => exact ⟨k + 1, by omega, by omega, by go_num, ⟨u, f, HM.out, rfl, rfl⟩, rfl⟩
      | false =>
        by_cases hx : 0 ≤ n
        · have e1 : decide (0 ≤ n) = true := decide_eq_true hx
          cases f with
          | false =>
            have HM := Lib.hid (hyes HT.out hx (.inl rfl))
            clear hyes hneg hno hout hlu
            go_wp2_with fail
            go_roundg (live.length - (k + 1))
            case measure => omega
            case rel => exact ⟨k + 1, by omega, by omega, by go_num, ⟨k, true, HM.out, rfl, rfl⟩, rfl⟩
          | true =>
            obtain ⟨hu, -⟩ := hlu rfl
            have hlk : live[u]? = some live[u] := by simp [show u < live.length by omega]
            obtain ⟨b', o', e, c3⟩ := HC.out u live[u] hlk
            cases e
            have hg : live.getD u 0 = live[u] := by simp [List.getD, hlk]
            rw [hg] at hyes hno
            generalize live[u] = m at *
            have hu1 : (u : Int) < (live.length : Int) := by omega
            clear hlk hg
            by_cases hm : n < m
            · have e2 : decide (n < m) = true := decide_eq_true hm
              have HM := Lib.hid (hyes HT.out hx (.inr hm))
              clear hyes hneg hno hout hlu
              go_wp2_with fail
              go_roundg (live.length - (k + 1))
              case measure => omega
              case rel => exact ⟨k + 1, by omega, by omega, by go_num, ⟨k, true, HM.out, rfl, rfl⟩, rfl⟩
            · have e2 : decide (n < m) = false := decide_eq_false hm
              have HM := Lib.hid (hno rfl hm)
              clear hyes hneg hno hout hlu
              go_wp2_with fail
              go_roundg (live.length - (k + 1))
              case measure => omega
              case rel => exact ⟨k + 1, by omega, by omega, by go_num, ⟨u, true, HM.out, rfl, rfl⟩, rfl⟩
        · have e1 : decide (0 ≤ n) = false := decide_eq_false hx
          have HM := Lib.hid (hneg hx)
          clear hyes hneg hno hout hlu
          go_wp2_with fail
          go_roundg (live.length - (k + 1))
          case measure => omega
          case rel => exact ⟨k + 1, by omega, by omega, by go_num, ⟨u, f, HM.out, rfl, rfl⟩, rfl⟩
    · obtain rfl : k = live.length := by omega
      have hk1 : ¬ (live.length : Int) < (live.length : Int) := by omega
      clear huf
      go_wp2_with fail
      go_ret2
      exact ⟨ret_pair (by unfold least; rw [HU.out]) (by unfold least; rw [HU.out]), rfl⟩

theorem Own.setLow {w : World} {B : Nat} {sv : Value} {l : List Int} (h : Own w B sv l) {p : Addr} (hp : p.block < B) (v : Value) : Own (w.setCell p v) B sv l := by
  refine ⟨h.1, ?_⟩
  rcases h.2 with hn | ⟨g, cap, cur, e, hB, hg, r⟩
  · exact .inl hn
  · exact .inr ⟨g, cap, cur, e, hB, (heap_setCell_other w p g v (by omega)).trans hg, r⟩
/-- What Two has come to. -/
inductive St (live not : List Int) : Nat → List Nat → List Bool → Prop
  | nil : St live not 0 [] (outs not live.length)
  | one (a : Nat) : least live (outs not live.length) = (a, true) → St live not 1 [a] ((outs not live.length).set a true)
  | pair (a b : Nat) (O : List Bool) : least live (outs not live.length) = (a, true) → least live ((outs not live.length).set a true) = (b, true) → O.length = live.length → St live not 2 [a, b] O
theorem St.length {live not : List Int} {m : Nat} {L : List Nat} {O : List Bool} (h : St live not m L O) : O.length = live.length := by
  cases h with
  | nil => exact outs_length _ _
  | one a h => rw [List.length_set, outs_length]
  | pair a b O h k hO => exact hO
theorem St.done {live not : List Int} {m : Nat} {L : List Nat} {O : List Bool} (h : St live not m L O) (hm : m = 2) : two live not = L := by
  cases h with
  | nil => cases hm
  | one a h => cases hm
  | pair a b O h k => simp [two, h, k]
theorem St.stop {live not : List Int} {m : Nat} {L : List Nat} {O : List Bool} (h : St live not m L O) (hm : m < 2) {u : Nat} (k : least live O = (u, false)) : two live not = L := by
  cases h with
  | nil => simp [two, k]
  | one a h => simp [two, h, k]
  | pair a b O h k => omega
theorem St.next {live not : List Int} {m : Nat} {L : List Nat} {O : List Bool} (h : St live not m L O) (hm : m < 2) {u : Nat} (k : least live O = (u, true)) : St live not (m + 1) (L ++ [u]) (O.set u true) := by
  have hO := h.length
  cases h with
  | nil => exact .one u k
  | one a h => exact .pair a u _ h k (by rw [List.length_set, hO])
  | pair a b O h k => omega
theorem St.short {live not : List Int} {m : Nat} {L : List Nat} {O : List Bool} (h : St live not m L O) : L.length ≤ 2 := by
  cases h <;> simp
def ns (l : List Nat) : List Int := l.map fun n : Nat => (n : Int)
theorem ns_more (l : List Nat) (u : Nat) : ns (l ++ [u]) = ns l ++ [(u : Int)] := by simp [ns]
theorem ns_length (l : List Nat) : (ns l).length = l.length := by simp [ns]

set_option maxRecDepth 100000 in
theorem two_any (live : List Int) (hn : live.length ≤ 1000) (l : List Int) (hl : l.length ≤ 1000) (sv tv : Value) (w : World) (h : IntsAt w sv live) (k : IntsAt w tv l) :
    Calls Try.prog 6 #[sv, tv] w fun e w' => ∃ rv, e = .returned rv ∧ Own w' w.heap.size rv (ns (two live l)) ∧ Below w.heap.size w w' := by
  have H1 := Lib.hid (passed_any live.length hn l hl tv w k)
  have H2 := Lib.hid fun out hout sv g w h hg => least_any live hn out hout sv g w h hg
  have HV := Lib.hid h
  obtain ⟨a, cap, rfl, -⟩ := h
  clear k
  go_enter Try.func6, Try.ntmps6
  go_wp2_with fail
  refine H1.out.mono ?_
  rintro e w1 ⟨g, rfl, hg, hlt, hb⟩
  have HG := Lib.hid hg
  have HB := Lib.hid hb
  have HL := Lib.hid hlt
  have HLT := Lib.hid hg.lt
  obtain ⟨B, hBe⟩ : ∃ B, w1.heap.size = B := ⟨_, rfl⟩
  have HBe := Lib.hid hBe
  clear hg hlt hb H1 hBe
  go_wp2_with fail
  go_loopg [13, 6] 2 (fun q i s wr => ∃ (m : Nat) (ov : Value) (L : List Nat) (O : List Bool), ov = s ∧ 2 - m ≤ q ∧ m ≤ 2 ∧ i = .int .i64 m ∧ St live l m L O ∧ Own wr B ov (ns L) ∧ Blk wr g (bools O) ∧ Below w.heap.size w wr ∧ B ≤ wr.heap.size)
  case atStart => exact ⟨0, _, [], _, rfl, by omega, by omega, rfl, .nil, Own.nil _ _, HG.out, HB.out, by rw [HBe.out]; exact Nat.le_refl _⟩
  case round =>
    obtain ⟨m, ov, L, O, rfl, hq, hm, rfl, hst, ho, hg, hb, hs⟩ := hrel
    have HST := Lib.hid hst
    have HO := Lib.hid ho
    have HK := Lib.hid hg
    have HW := Lib.hid hb
    have HS := Lib.hid hs
    have hOl := hst.length
    have hLl := hst.short
    have HVr := Lib.hid (HV.out.below hb)
    clear ho hg hb hs
    obtain ⟨p, hp⟩ : ∃ p, least live O = p := ⟨_, rfl⟩
    obtain ⟨u, ok⟩ := p
    have H3 := Lib.hid (H2.out O hOl _ g wr HVr.out HK.out)
    rw [hp] at H3
    simp only at H3
    have hul := (least_is live O live.length).yes
    rw [show leastN live O live.length = (u, ok) from hp] at hul
    simp only at hul
    have HP := Lib.hid hp
    by_cases hm2 : m = 2
    · have HD := Lib.hid (hst.done hm2)
      subst hm2
      clear hst hp hul H3
      go_wp2_with fail
      go_ret
      exact ⟨_, rfl, by rw [HD.out]; exact HO.out.mono (by have := HW.out.size; have := HBe.out; have := HB.out.size; omega), HW.out⟩
    · have hm3 : m < 2 := by omega
      have hm4 : (m : Int) < 2 := by omega
      cases ok with
      | false =>
        have HD := Lib.hid (hst.stop hm3 hp)
        clear hst hp hul
        go_wp2_with fail
        refine H3.out.mono ?_
        rintro e w2 ⟨rfl, rfl⟩
        go_wp2_with fail
        go_ret
        exact ⟨_, rfl, by rw [HD.out]; exact HO.out.mono (by have := HBe.out; have := HB.out.size; omega), HW.out⟩
      | true =>
        obtain ⟨hul1, -⟩ := hul rfl
        have HN := Lib.hid (hst.next hm3 hp)
        have hul2 : (u : Int) < (live.length : Int) := by omega
        clear hst hp
        go_wp2_with fail
        refine H3.out.mono ?_
        rintro e w2 ⟨rfl, rfl⟩
        go_upto_region 7 with fail
        refine wp_region_lit ?_
        refine takeL (ov) rfl (by go_simp) ?_
        try simp only [Act.put, List.setIfInBounds_toArray, List.set_cons_succ, List.set_cons_zero]
        refine takeL (.int .i64 u) rfl (by go_simp) ?_
        try simp only [Act.put, List.setIfInBounds_toArray, List.set_cons_succ, List.set_cons_zero]
        refine wpList_run (.slice (some ⟨wr.heap.size, 0, none⟩) 1 1) (wr.alloc (.cells #[.int .i64 u] 3)) rfl (by go_simp) ?_
        try simp only [Act.put, List.setIfInBounds_toArray, List.set_cons_succ, List.set_cons_zero]
        have hbl : Below wr.heap.size wr (wr.alloc (.cells #[.int .i64 u] 3)) := (Below.refl _ _).alloc (Nat.le_refl _) _
        have hli : Own (wr.alloc (.cells #[.int .i64 u] 3)) wr.heap.size (.slice (some ⟨wr.heap.size, 0, none⟩) 1 1) [(u : Int)] := Own.lit wr wr.heap.size (Nat.le_refl _) [(u : Int)] (by simp) _ rfl
        refine app_L (HO.out.below hbl) (Nat.le_trans HS.out hbl.size) hli.ints (by simp only [ns_length, List.length_cons, List.length_nil]; omega) rfl rfl rfl ?_
        intro s2 w2 ho2 hb2
        try simp only [Act.put, List.setIfInBounds_toArray, List.set_cons_succ, List.set_cons_zero]
        refine takeL (s2) rfl (by go_simp) ?_
        try simp only [Act.put, List.setIfInBounds_toArray, List.set_cons_succ, List.set_cons_zero]
        refine wpList_nil ?_
        have hX : Below B wr w2 := (hbl.mono HS.out).trans hb2
        have HO2 := Lib.hid ho2
        have HB2 := Lib.hid (HW.out.trans (hX.mono (by have := HBe.out; have := HB.out.size; omega)))
        have HK2 := Lib.hid (HK.out.below hX (by have := HLT.out; have := HBe.out; omega))
        have HS2 : Hid (B ≤ w2.heap.size) := Lib.hid (Nat.le_trans HS.out hX.size)
        have p1 := HK2.out.frozen u
        obtain ⟨t, ht⟩ : ∃ t, O[u]? = some t := ⟨_, List.getElem?_eq_getElem (by omega)⟩
        have p2 := HK2.out.bool ht
        clear hbl hli ho2 hb2 hX ht
        go_wp2_with fail
        go_roundg (2 - (m + 1))
        case measure => omega
        case rel => exact ⟨m + 1, _, _, _, rfl, by omega, by omega, by go_num, HN.out, by rw [ns_more]; exact HO2.out.setLow (by show g < B; have := HLT.out; have := HBe.out; omega) _, HK2.out.setBool u true, HB2.out.setCell (by exact HL.out) _, by simpa using HS2.out⟩
end Go.Proofs.Yticgkeohghpdkaa
