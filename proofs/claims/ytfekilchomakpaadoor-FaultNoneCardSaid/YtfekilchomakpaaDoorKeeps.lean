/- What the law FaultKeeps does: it returns true, and nothing that was there has turned. -/
import Derived.Test.YtfekilchomakpaaDoorTwo
import Derived.Test.YtfekilchomakpaaDoorFair
namespace Go.Proofs.YtfekilchomakpaaDoor
open Go.RowKit

def upTo (l : List ByteArray) (what : ByteArray) (k : Nat) : List ByteArray := (l.take k).reverse ++ [what]
theorem upTo_succ (l : List ByteArray) (what : ByteArray) (k : Nat) (h : k < l.length) : upTo l what (k + 1) = l[k] :: upTo l what k := by
  unfold upTo
  rw [List.take_succ_eq_append_getElem h, List.reverse_append]
  rfl
theorem upTo_length (l : List ByteArray) (what : ByteArray) (k : Nat) (h : k ≤ l.length) : (upTo l what k).length = k + 1 := by
  simp [upTo, h]
theorem upTo_cons (l : List ByteArray) (what : ByteArray) (k : Nat) : ∃ t ts, upTo l what k = t :: ts := by
  cases h : upTo l what k with
  | nil => simp [upTo] at h
  | cons t ts => exact ⟨t, ts, rfl⟩
theorem le_sum : ∀ {l : List ByteArray} {s : ByteArray}, s ∈ l → s.size ≤ (l.map (·.size)).sum
  | t :: l, s, h => by
    rcases List.mem_cons.1 h with h | h
    · subst h; simp
    · have := le_sum h; simp; omega
theorem texts_length : ∀ ts : List ByteArray, (texts ts).length = (ts.map (·.size)).sum + 2 * ts.length
  | [] => rfl
  | t :: ts => by
    simp only [texts, List.length_append, texts_length ts, List.map_cons, List.sum_cons, List.length_cons, List.length_nil]
    have : t.data.toList.length = t.size := by simp
    omega
theorem upTo_texts (l : List ByteArray) (what : ByteArray) (k : Nat) (h : k ≤ l.length) (h1 : (l.map (·.size)).sum ≤ 2000) (h2 : l.length ≤ 50) (h3 : what.size ≤ 500) : (texts (upTo l what k)).length ≤ 10000 := by
  rw [texts_length, upTo_length l what k h]
  have h4 : (l.map (·.size)).sum = ((l.take k).map (·.size)).sum + ((l.drop k).map (·.size)).sum := by
    rw [← List.sum_append, ← List.map_append, List.take_append_drop]
  have h5 : ((upTo l what k).map (·.size)).sum = ((l.take k).map (·.size)).sum + what.size := by
    unfold upTo
    rw [List.map_append, List.sum_append, List.map_reverse, List.sum_reverse]
    simp
  omega
theorem textOf_cons (n : Int) (s : ByteArray) (ts : List ByteArray) : s ++ ⟨#[58, 32]⟩ ++ (⟨(textOf n ts).toArray⟩ : ByteArray) = ⟨(textOf n (s :: ts)).toArray⟩ := by
  apply ByteArray.ext
  simp [textOf, texts]
theorem textOf_one (u : Nat) (s : ByteArray) : s ++ ⟨#[58, 32, 101, 114, 114, 111, 114, 32]⟩ ++ (⟨(Lib.decDigits (1 + u)).toArray⟩ : ByteArray) = ⟨(textOf (1 + (u : Int)) [s]).toArray⟩ := by
  apply ByteArray.ext
  simp [textOf, texts, itoa_nat]
theorem textOf_size (u : Nat) (hu : u ≤ 65535) (ts : List ByteArray) (h : (texts ts).length ≤ 10000) (S : ByteArray) (hS : S = ⟨(textOf (1 + (u : Int)) ts).toArray⟩) : S.size ≤ 100000 := by
  subst hS
  show (textOf (1 + (u : Int)) ts).toArray.size ≤ _
  rw [List.size_toArray]
  have := dec_len (1 + u) (1 + u) (Nat.le_refl _)
  simp [textOf, itoa_nat]
  omega

set_option maxRecDepth 100000 in
set_option maxHeartbeats 4000000 in
theorem keeps_any (p : Nat) (hp : p ≤ 65535) (what : ByteArray) (hw : what.size ≤ maxLen) (v : Value) (l : List ByteArray) (w : World) (hg : Vars w) (hs : StrsAt w v l) (hm : ∀ s ∈ l, s.size ≤ maxLen) :
    Calls Tryd.prog 3 #[.int .u16 p, .string what, v] w fun e w' => e = .returned (.bool true) ∧ Below w.heap.size w w' := by
  unfold maxLen at hw
  have HFa := fair_any v l w hs hm
  have HW := Lib.hid (wakes_any w hg)
  have HG := Lib.hid hg
  obtain ⟨a, cap, rfl, hl, hc⟩ := hs
  have HC := Lib.hid hc
  clear hg hm hc
  unfold maxLen at hl
  cases hf : fairB l with
  | false =>
    rw [hf] at HFa
    have HF := Lib.hid HFa
    clear HFa hf
    go_enter Tryd.func3, Tryd.ntmps3
    go_wp2_with fail
    refine HF.out.mono ?_
    rintro e w' ⟨rfl, rfl⟩
    go_wp2_with fail
    refine HW.out.mono ?_
    rintro e w' ⟨rfl, hb⟩
    go_wp2
    go_ret
    exact ⟨rfl, hb⟩
  | true =>
    obtain ⟨hsum, hcount⟩ := fairB_le hf
    have HSum := Lib.hid hsum
    rw [hf] at HFa
    have HF := Lib.hid HFa
    clear HFa hf hsum
    by_cases h5 : 500 < what.size
    · go_enter Tryd.func3, Tryd.ntmps3
      go_wp2_with fail
      refine HF.out.mono ?_
      rintro e w' ⟨rfl, rfl⟩
      go_wp2_with fail
      refine HW.out.mono ?_
      rintro e w' ⟨rfl, hb⟩
      go_wp2
      go_ret
      exact ⟨rfl, hb⟩
    · have hw5 : what.size ≤ 500 := by omega
      have HTx := Lib.hid (fun (k : Nat) (h : k ≤ l.length) => upTo_texts l what k h HSum.out hcount hw5)
      have D1 : (Lib.decDigits (1 + p)).length ≤ 70000 := Nat.le_trans (dec_len _ _ (Nat.le_refl _)) (by omega)
      clear hw
      go_enter Tryd.func3, Tryd.ntmps3
      go_wp2_with fail
      refine HF.out.mono ?_
      rintro e w' ⟨rfl, rfl⟩
      have HB0 := Lib.hid (Below.refl w.heap.size w)
      have HS1 := Lib.hid (new_some (1 + (p : Int)) what w (beq_eq_false_iff_ne.2 (by omega)))
      go_wp2_with fail
      refine HS1.out.mono ?_
      rintro e wx2 ⟨v1, rfl, hc, hbx⟩
      have HBx3 := Lib.hid (HB0.out.trans (hbx.mono HB0.out.size))
      obtain ⟨T1, d1, rfl⟩ := hc.shape
      have HC4 := Lib.hid hc
      clear hc
      clear hbx
      have HS5 := Lib.hid (dec_one p (by omega) wx2)
      go_wp2_with fail
      refine HS5.out.mono ?_
      rintro e wx6 ⟨rfl, hbx⟩
      have HBx7 := Lib.hid (HBx3.out.trans (hbx.mono HBx3.out.size))
      have HC8 := Lib.hid (HC4.out.below (Nat.le_refl _) hbx)
      clear hbx
      have E0 := Lib.hid (textOf_one p what)
      go_wp2_with fail
      go_loopg [8, 9, 10] l.length (fun g x s i wr => ∃ (k : Nat) (S : ByteArray), l.length - k ≤ g ∧ k ≤ l.length ∧ i = .int .i64 k ∧ s = .string S ∧ S = ⟨(textOf (1 + (p : Int)) (upTo l what k)).toArray⟩ ∧ Chain wr (1 + (p : Int)) (upTo l what k) x ∧ Below w.heap.size w wr)
      case atStart => exact ⟨0, _, by omega, by omega, rfl, rfl, textOf_one p what, HC8.out, HBx7.out⟩
      case round =>
        obtain ⟨k, S, hgk, hk, rfl, rfl, hS, hx, hbr⟩ := hrel
        obtain ⟨Tx, dx, rfl⟩ := hx.shape
        have hsz : S.size ≤ 100000 := textOf_size p hp _ (HTx.out k hk) S hS
        have HSS := Lib.hid hS; have HXr := Lib.hid hx; have HBr := Lib.hid hbr
        have HI := Lib.hid (Nat.le_trans (HTx.out k hk) (show 10000 ≤ 100000 by decide))
        have HLn := Lib.hid (upTo_length l what k hk)
        clear hS hx hbr
        by_cases hlt : k < l.length
        · have hs2 : l[k].size ≤ 2000 := by
            have h1 := HSum.out
            have h2 := le_sum (List.getElem_mem hlt)
            omega
          have HU := Lib.hid (upTo_succ l what k hlt)
          have HC2 := Lib.hid (HC.out k hlt)
          generalize l[k] = s at *
          have HS51 := Lib.hid (text_any (1 + (p : Int)) (by omega) (by omega) (upTo l what k) Tx dx wr (texts_len p (by omega) _ HI.out) (HG.out.below (Nat.le_refl _) HBr.out) HXr.out)
          rw [← HSS.out] at HS51
          go_wp2_with fail
          refine HS51.out.mono ?_
          rintro e wx52 ⟨rfl, hbx⟩
          have HBx53 := Lib.hid (HBr.out.trans (hbx.mono HBr.out.size))
          have HC54 := Lib.hid (HXr.out.below (Nat.le_refl _) hbx)
          clear hbx
          have HS55 := Lib.hid (deep_any (1 + (p : Int)) (upTo l what k) (.iface Tx dx) wx52 (by rw [HLn.out]; omega) (HG.out.below (Nat.le_refl _) HBx53.out).1 HC54.out)
          rw [show (upTo l what k).length - 1 = k from by rw [HLn.out]; rfl] at HS55
          go_wp2_with fail
          refine HS55.out.mono ?_
          rintro e wx56 ⟨rfl, hbx⟩
          have HBx57 := Lib.hid (HBx53.out.trans (hbx.mono HBx53.out.size))
          have HC58 := Lib.hid (HC54.out.below (Nat.le_refl _) hbx)
          clear hbx
          obtain ⟨b, o, rfl, c0⟩ := HC2.out
          have c1 : wx56.cell? ⟨b, o + k, none⟩ = some (.string s) := (HBx57.out.cell (p := ⟨b, o + k, none⟩) (lt_of_cell c0)).trans c0
          clear c0
          obtain ⟨t0, ts0, he0⟩ := upTo_cons l what k
          have HE0 := Lib.hid he0
          clear he0
          have HX1 := Lib.hid (HE0.out ▸ HC58.out)
          have HS59 := Lib.hid (wrap_some (.iface Tx dx) (1 + (p : Int)) t0 ts0 s wx56 HX1.out)
          go_wp2_with fail
          refine HS59.out.mono ?_
          rintro e wx60 ⟨v5, rfl, hc, hbx⟩
          have HBx61 := Lib.hid (HBx57.out.trans (hbx.mono HBx57.out.size))
          have HC62 := Lib.hid (HC58.out.below (Nat.le_refl _) hbx)
          obtain ⟨T5, d5, rfl⟩ := hc.shape
          have HC63 := Lib.hid hc
          clear hc
          clear hbx
          have c2 : wx60.cell? ⟨b, o + k, none⟩ = some (.string s) := (HBx61.out.cell (p := ⟨b, o + k, none⟩) (lt_of_cell (w := w) (by obtain ⟨b', o', hh, h0⟩ := HC2.out; simp only [Option.some.injEq, Addr.mk.injEq] at hh; obtain ⟨rfl, rfl, -⟩ := hh; exact h0))).trans (by obtain ⟨b', o', hh, h0⟩ := HC2.out; simp only [Option.some.injEq, Addr.mk.injEq] at hh; obtain ⟨rfl, rfl, -⟩ := hh; exact h0)
          clear c1
          go_wp2_with fail
          go_roundg (l.length - (k + 1))
          case measure => omega
          case rel => exact ⟨k + 1, _, Nat.le_refl _, by omega, by go_num, rfl, by rw [HU.out, HSS.out]; exact textOf_cons _ _ _, by rw [HU.out, HE0.out]; exact HC63.out, HBx61.out⟩
        · have hkl : k = l.length := by omega
          have q1 : ((k : Int) == (l.length : Int)) = true := by rw [beq_iff_eq]; omega
          have e1 : ((1 + (p : Int)) == 1 + (p : Int) + 1) = false := beq_eq_false_iff_ne.2 (by omega)
          have e2 : ((1 + (p : Int)) == 0) = false := beq_eq_false_iff_ne.2 (by omega)
          clear hkl
          have HS101 := Lib.hid (text_any (1 + (p : Int)) (by omega) (by omega) (upTo l what k) Tx dx wr (texts_len p (by omega) _ HI.out) (HG.out.below (Nat.le_refl _) HBr.out) HXr.out)
          rw [← HSS.out] at HS101
          go_wp2_with fail
          refine HS101.out.mono ?_
          rintro e wx102 ⟨rfl, hbx⟩
          have HBx103 := Lib.hid (HBr.out.trans (hbx.mono HBr.out.size))
          have HC104 := Lib.hid (HXr.out.below (Nat.le_refl _) hbx)
          clear hbx
          have HS105 := Lib.hid (of_num (1 + (p : Int)) _ Tx dx wx102 (HG.out.below (Nat.le_refl _) HBx103.out).1 HC104.out)
          go_wp2_with fail
          refine HS105.out.mono ?_
          rintro e wx106 ⟨rfl, hbx⟩
          have HBx107 := Lib.hid (HBx103.out.trans (hbx.mono HBx103.out.size))
          have HC108 := Lib.hid (HC104.out.below (Nat.le_refl _) hbx)
          clear hbx
          have HS109 := Lib.hid (is_num (1 + (p : Int)) (1 + (p : Int)) true (by simp) _ Tx dx wx106 HC108.out)
          go_wp2_with fail
          refine HS109.out.mono ?_
          rintro e wx110 ⟨rfl, hbx⟩
          have HBx111 := Lib.hid (HBx107.out.trans (hbx.mono HBx107.out.size))
          have HC112 := Lib.hid (HC108.out.below (Nat.le_refl _) hbx)
          clear hbx
          have HS113 := Lib.hid (is_num (1 + (p : Int)) ((1 + (p : Int)) + 1) false e1 _ Tx dx wx110 HC112.out)
          go_wp2_with fail
          refine HS113.out.mono ?_
          rintro e wx114 ⟨rfl, hbx⟩
          have HBx115 := Lib.hid (HBx111.out.trans (hbx.mono HBx111.out.size))
          have HC116 := Lib.hid (HC112.out.below (Nat.le_refl _) hbx)
          clear hbx
          have HS117 := Lib.hid (is_num (1 + (p : Int)) 0 false e2 _ Tx dx wx114 HC116.out)
          go_wp2_with fail
          refine HS117.out.mono ?_
          rintro e wx118 ⟨rfl, hbx⟩
          have HBx119 := Lib.hid (HBx115.out.trans (hbx.mono HBx115.out.size))
          have HC120 := Lib.hid (HC116.out.below (Nat.le_refl _) hbx)
          clear hbx
          have HS121 := Lib.hid (deep_any (1 + (p : Int)) (upTo l what k) (.iface Tx dx) wx118 (by rw [HLn.out]; omega) (HG.out.below (Nat.le_refl _) HBx119.out).1 HC120.out)
          rw [show (upTo l what k).length - 1 = k from by rw [HLn.out]; rfl] at HS121
          go_wp2_with fail
          refine HS121.out.mono ?_
          rintro e wx122 ⟨rfl, hbx⟩
          have HBx123 := Lib.hid (HBx119.out.trans (hbx.mono HBx119.out.size))
          have HC124 := Lib.hid (HC120.out.below (Nat.le_refl _) hbx)
          clear hbx
          have HS125 := Lib.hid (wakes_any wx122 (HG.out.below (Nat.le_refl _) HBx123.out))
          go_wp2_with fail
          refine HS125.out.mono ?_
          rintro e wx126 ⟨rfl, hbx⟩
          have HBx127 := Lib.hid (HBx123.out.trans (hbx.mono HBx123.out.size))
          have HC128 := Lib.hid (HC124.out.below (Nat.le_refl _) hbx)
          clear hbx
          go_wp2
          go_ret
          exact ⟨rfl, HBx127.out⟩
end Go.Proofs.YtfekilchomakpaaDoor
