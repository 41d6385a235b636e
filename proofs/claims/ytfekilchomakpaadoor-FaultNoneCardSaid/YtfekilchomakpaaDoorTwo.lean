/- What the law FaultTwo does: it returns true, and nothing that was there has turned. -/
import Derived.Test.YtfekilchomakpaaDoorWakes
import Derived.BigQuiet
import Derived.Deep.QuietTactic
namespace Go.Proofs.YtfekilchomakpaaDoor
open Go.RowKit

theorem dec_len : ∀ (f u : Nat), u ≤ f → (Lib.decDigits u).length ≤ u + 1
  | 0, u, h => by
    have : u = 0 := by omega
    subst this
    rw [Lib.decDigits, dif_pos (by omega)]; simp
  | f + 1, u, h => by
    rw [Lib.decDigits]
    split
    · simp
    · have := dec_len f (u / 10) (by omega)
      simp
      omega
theorem itoa_nat (u : Nat) : Lib.itoa (1 + (u : Int)) = Lib.decDigits (1 + u) := by
  unfold Lib.itoa
  rw [if_neg (by omega)]
  congr 1
/-- ": error " -/
def sErr : ByteArray := ⟨#[58, 32, 101, 114, 114, 111, 114, 32]⟩
def sSep : ByteArray := ⟨#[58, 32]⟩
theorem dec_one (u : Nat) (hu : u ≤ 65535) (w : World) : Calls Tryd.prog 10 #[.int .i64 (1 + (u : Int))] w fun e w' => e = .returned (.string ⟨(Lib.decDigits (1 + u)).toArray⟩) ∧ Below w.heap.size w w' := by
  have := dec_any (1 + u) (by omega) w
  rwa [show (((1 + u : Nat)) : Int) = 1 + (u : Int) from by omega] at this
theorem text_two (u : Nat) (a b : ByteArray) : (⟨(textOf (1 + (u : Int)) [b, a]).toArray⟩ : ByteArray) = b ++ ⟨#[58, 32]⟩ ++ a ++ ⟨#[58, 32, 101, 114, 114, 111, 114, 32]⟩ ++ ⟨(Lib.decDigits (1 + u)).toArray⟩ := by
  apply ByteArray.ext
  simp [textOf, texts, itoa_nat]
theorem texts_len (u : Nat) (hu : u ≤ 65535) (ts : List ByteArray) (h : (texts ts).length ≤ 100000) : (textOf (1 + (u : Int)) ts).length ≤ 140737488355328 := by
  have := dec_len (1 + u) (1 + u) (Nat.le_refl _)
  simp [textOf, itoa_nat]
  omega

set_option maxRecDepth 100000 in
set_option maxHeartbeats 4000000 in
theorem two_any (p q : Nat) (hp : p ≤ 255) (hq : q ≤ 255) (a b : ByteArray) (ha : a.size ≤ maxLen) (hb : b.size ≤ maxLen) (w : World) (hg : Vars w) :
    Calls Tryd.prog 5 #[.agg #[.int .u8 p, .int .u8 q], .string a, .string b] w fun e w' => e = .returned (.bool true) ∧ Below w.heap.size w w' := by
  unfold maxLen at ha hb
  have b1 : Below w.heap.size w (w.alloc (.cells #[.int .u8 p, .int .u8 q] 38)) := (Below.refl _ _).alloc (Nat.le_refl _) _
  have HG := Lib.hid hg
  have HB := Lib.hid b1
  have HW := Lib.hid (wakes_any _ (hg.below (Nat.le_refl _) b1))
  clear hg b1
  by_cases h1 : 500 < a.size ∨ 500 < b.size
  · rcases (show 500 < a.size ∨ (¬ 500 < a.size ∧ 500 < b.size) by omega) with h2 | ⟨h2, h3⟩
    all_goals
      clear h1
      go_enter Tryd.func5, Tryd.ntmps5
      go_wp2_with fail
      refine HW.out.mono ?_
      rintro e w' ⟨rfl, hb⟩
      go_wp2
      go_ret
      exact ⟨rfl, HB.out.trans (hb.mono HB.out.size)⟩
  · have ha2 : a.size ≤ 500 := by omega
    have hb2 : b.size ≤ 500 := by omega
    have L1 : (texts [b, a]).length ≤ 100000 := by simp [texts]; omega
    have L2 : (texts [a, b]).length ≤ 100000 := by simp [texts]; omega
    have HL1 := Lib.hid L1
    have HL2 := Lib.hid L2
    have D1 : (Lib.decDigits (1 + p)).length ≤ 70000 := Nat.le_trans (dec_len _ _ (Nat.le_refl _)) (by omega)
    have D2 : (Lib.decDigits (1 + q)).length ≤ 70000 := Nat.le_trans (dec_len _ _ (Nat.le_refl _)) (by omega)
    clear h1 HW L1 L2 ha hb
    by_cases hpq : p = q
    · subst hpq
      go_enter Tryd.func5, Tryd.ntmps5
      go_wp2_with fail
      go_quiet (fail)
      go_wp2_with fail
      have HB0 := Lib.hid (below_drewN HB.out nq)
      generalize (w.alloc (.cells #[.int .u8 (p : Int), .int .u8 (p : Int)] 38)).drewN nq = W0 at *
      have HS1 := Lib.hid (new_some (1 + (p : Int)) a W0 (beq_eq_false_iff_ne.2 (by omega)))
      go_wp2_with fail
      refine HS1.out.mono ?_
      rintro e wx2 ⟨v1, rfl, hc, hbx⟩
      have HBx3 := Lib.hid (HB0.out.trans (hbx.mono HB0.out.size))
      obtain ⟨T1, d1, rfl⟩ := hc.shape
      have HC4 := Lib.hid hc
      clear hc
      clear hbx
      have HS5 := Lib.hid (wrap_some (.iface T1 d1) (1 + (p : Int)) a [] b wx2 HC4.out)
      go_wp2_with fail
      refine HS5.out.mono ?_
      rintro e wx6 ⟨v2, rfl, hc, hbx⟩
      have HBx7 := Lib.hid (HBx3.out.trans (hbx.mono HBx3.out.size))
      have HC8 := Lib.hid (HC4.out.below (Nat.le_refl _) hbx)
      obtain ⟨T2, d2, rfl⟩ := hc.shape
      have HC9 := Lib.hid hc
      clear hc
      clear hbx
      have HS10 := Lib.hid (new_some (1 + (p : Int)) b wx6 (beq_eq_false_iff_ne.2 (by omega)))
      go_wp2_with fail
      refine HS10.out.mono ?_
      rintro e wx11 ⟨v3, rfl, hc, hbx⟩
      have HBx12 := Lib.hid (HBx7.out.trans (hbx.mono HBx7.out.size))
      have HC13 := Lib.hid (HC9.out.below (Nat.le_refl _) hbx)
      obtain ⟨T3, d3, rfl⟩ := hc.shape
      have HC14 := Lib.hid hc
      clear hc
      clear hbx
      have HS15 := Lib.hid (wrap_some (.iface T3 d3) (1 + (p : Int)) b [] a wx11 HC14.out)
      go_wp2_with fail
      refine HS15.out.mono ?_
      rintro e wx16 ⟨v4, rfl, hc, hbx⟩
      have HBx17 := Lib.hid (HBx12.out.trans (hbx.mono HBx12.out.size))
      have HC18 := Lib.hid (HC13.out.below (Nat.le_refl _) hbx)
      have HC19 := Lib.hid (HC14.out.below (Nat.le_refl _) hbx)
      obtain ⟨T4, d4, rfl⟩ := hc.shape
      have HC20 := Lib.hid hc
      clear hc
      clear hbx
      have HS21 := Lib.hid (of_num (1 + (p : Int)) _ T2 d2 wx16 (HG.out.below (Nat.le_refl _) HBx17.out).1 HC18.out)
      go_wp2_with fail
      refine HS21.out.mono ?_
      rintro e wx22 ⟨rfl, hbx⟩
      have HBx23 := Lib.hid (HBx17.out.trans (hbx.mono HBx17.out.size))
      have HC24 := Lib.hid (HC18.out.below (Nat.le_refl _) hbx)
      have HC25 := Lib.hid (HC20.out.below (Nat.le_refl _) hbx)
      clear hbx
      have HS26 := Lib.hid (of_num (1 + (p : Int)) _ T4 d4 wx22 (HG.out.below (Nat.le_refl _) HBx23.out).1 HC25.out)
      go_wp2_with fail
      refine HS26.out.mono ?_
      rintro e wx27 ⟨rfl, hbx⟩
      have HBx28 := Lib.hid (HBx23.out.trans (hbx.mono HBx23.out.size))
      have HC29 := Lib.hid (HC24.out.below (Nat.le_refl _) hbx)
      have HC30 := Lib.hid (HC25.out.below (Nat.le_refl _) hbx)
      clear hbx
      have HS31 := Lib.hid (is_num (1 + (p : Int)) (1 + (p : Int)) true (by simp) _ T2 d2 wx27 HC29.out)
      go_wp2_with fail
      refine HS31.out.mono ?_
      rintro e wx32 ⟨rfl, hbx⟩
      have HBx33 := Lib.hid (HBx28.out.trans (hbx.mono HBx28.out.size))
      have HC34 := Lib.hid (HC29.out.below (Nat.le_refl _) hbx)
      have HC35 := Lib.hid (HC30.out.below (Nat.le_refl _) hbx)
      clear hbx
      have HS36 := Lib.hid (text_any (1 + (p : Int)) (by omega) (by omega) [b, a] T2 d2 wx32 (texts_len p (by omega) _ HL1.out) (HG.out.below (Nat.le_refl _) HBx33.out) HC34.out)
      rw [text_two] at HS36
      go_wp2_with fail
      refine HS36.out.mono ?_
      rintro e wx37 ⟨rfl, hbx⟩
      have HBx38 := Lib.hid (HBx33.out.trans (hbx.mono HBx33.out.size))
      have HC39 := Lib.hid (HC34.out.below (Nat.le_refl _) hbx)
      have HC40 := Lib.hid (HC35.out.below (Nat.le_refl _) hbx)
      clear hbx
      have HS41 := Lib.hid (dec_one p (by omega) wx37)
      go_wp2_with fail
      refine HS41.out.mono ?_
      rintro e wx42 ⟨rfl, hbx⟩
      have HBx43 := Lib.hid (HBx38.out.trans (hbx.mono HBx38.out.size))
      have HC44 := Lib.hid (HC39.out.below (Nat.le_refl _) hbx)
      have HC45 := Lib.hid (HC40.out.below (Nat.le_refl _) hbx)
      clear hbx
      have HS46 := Lib.hid (text_any (1 + (p : Int)) (by omega) (by omega) [a, b] T4 d4 wx42 (texts_len p (by omega) _ HL2.out) (HG.out.below (Nat.le_refl _) HBx43.out) HC45.out)
      rw [text_two] at HS46
      go_wp2_with fail
      refine HS46.out.mono ?_
      rintro e wx47 ⟨rfl, hbx⟩
      have HBx48 := Lib.hid (HBx43.out.trans (hbx.mono HBx43.out.size))
      have HC49 := Lib.hid (HC44.out.below (Nat.le_refl _) hbx)
      have HC50 := Lib.hid (HC45.out.below (Nat.le_refl _) hbx)
      clear hbx
      have HS51 := Lib.hid (dec_one p (by omega) wx47)
      go_wp2_with fail
      refine HS51.out.mono ?_
      rintro e wx52 ⟨rfl, hbx⟩
      have HBx53 := Lib.hid (HBx48.out.trans (hbx.mono HBx48.out.size))
      have HC54 := Lib.hid (HC49.out.below (Nat.le_refl _) hbx)
      have HC55 := Lib.hid (HC50.out.below (Nat.le_refl _) hbx)
      clear hbx
      have HS56 := Lib.hid (deep_any (1 + (p : Int)) _ _ wx52 (by simp) (HG.out.below (Nat.le_refl _) HBx53.out).1 HC54.out)
      go_wp2_with fail
      refine HS56.out.mono ?_
      rintro e wx57 ⟨rfl, hbx⟩
      have HBx58 := Lib.hid (HBx53.out.trans (hbx.mono HBx53.out.size))
      have HC59 := Lib.hid (HC54.out.below (Nat.le_refl _) hbx)
      have HC60 := Lib.hid (HC55.out.below (Nat.le_refl _) hbx)
      clear hbx
      go_wp2_with (go_at_call 16; go_in)
      have HSw := Lib.hid (wakes_any wx57 (HG.out.below (Nat.le_refl _) HBx58.out))
      refine HSw.out.mono ?_
      rintro e wz ⟨rfl, hbx⟩
      go_wp2
      go_ret
      exact ⟨rfl, HBx58.out.trans (hbx.mono HBx58.out.size)⟩
    · have e1 : ((1 + (p : Int)) == 1 + (q : Int)) = false := beq_eq_false_iff_ne.2 (by omega)
      have e2 : ((p : Int) == (q : Int)) = false := beq_eq_false_iff_ne.2 (by omega)
      have e3 : (p == q) = false := beq_eq_false_iff_ne.2 (by omega)
      clear hpq
      go_enter Tryd.func5, Tryd.ntmps5
      go_wp2_with fail
      go_quiet (fail)
      go_wp2_with fail
      have HB0 := Lib.hid (below_drewN HB.out nq)
      generalize (w.alloc (.cells #[.int .u8 (p : Int), .int .u8 (q : Int)] 38)).drewN nq = W0 at *
      have HS1 := Lib.hid (new_some (1 + (p : Int)) a W0 (beq_eq_false_iff_ne.2 (by omega)))
      go_wp2_with fail
      refine HS1.out.mono ?_
      rintro e wx2 ⟨v1, rfl, hc, hbx⟩
      have HBx3 := Lib.hid (HB0.out.trans (hbx.mono HB0.out.size))
      obtain ⟨T1, d1, rfl⟩ := hc.shape
      have HC4 := Lib.hid hc
      clear hc
      clear hbx
      have HS5 := Lib.hid (wrap_some (.iface T1 d1) (1 + (p : Int)) a [] b wx2 HC4.out)
      go_wp2_with fail
      refine HS5.out.mono ?_
      rintro e wx6 ⟨v2, rfl, hc, hbx⟩
      have HBx7 := Lib.hid (HBx3.out.trans (hbx.mono HBx3.out.size))
      have HC8 := Lib.hid (HC4.out.below (Nat.le_refl _) hbx)
      obtain ⟨T2, d2, rfl⟩ := hc.shape
      have HC9 := Lib.hid hc
      clear hc
      clear hbx
      have HS10 := Lib.hid (new_some (1 + (q : Int)) b wx6 (beq_eq_false_iff_ne.2 (by omega)))
      go_wp2_with fail
      refine HS10.out.mono ?_
      rintro e wx11 ⟨v3, rfl, hc, hbx⟩
      have HBx12 := Lib.hid (HBx7.out.trans (hbx.mono HBx7.out.size))
      have HC13 := Lib.hid (HC9.out.below (Nat.le_refl _) hbx)
      obtain ⟨T3, d3, rfl⟩ := hc.shape
      have HC14 := Lib.hid hc
      clear hc
      clear hbx
      have HS15 := Lib.hid (wrap_some (.iface T3 d3) (1 + (q : Int)) b [] a wx11 HC14.out)
      go_wp2_with fail
      refine HS15.out.mono ?_
      rintro e wx16 ⟨v4, rfl, hc, hbx⟩
      have HBx17 := Lib.hid (HBx12.out.trans (hbx.mono HBx12.out.size))
      have HC18 := Lib.hid (HC13.out.below (Nat.le_refl _) hbx)
      have HC19 := Lib.hid (HC14.out.below (Nat.le_refl _) hbx)
      obtain ⟨T4, d4, rfl⟩ := hc.shape
      have HC20 := Lib.hid hc
      clear hc
      clear hbx
      have HS21 := Lib.hid (of_num (1 + (p : Int)) _ T2 d2 wx16 (HG.out.below (Nat.le_refl _) HBx17.out).1 HC18.out)
      go_wp2_with fail
      refine HS21.out.mono ?_
      rintro e wx22 ⟨rfl, hbx⟩
      have HBx23 := Lib.hid (HBx17.out.trans (hbx.mono HBx17.out.size))
      have HC24 := Lib.hid (HC18.out.below (Nat.le_refl _) hbx)
      have HC25 := Lib.hid (HC20.out.below (Nat.le_refl _) hbx)
      clear hbx
      have HS26 := Lib.hid (of_num (1 + (q : Int)) _ T4 d4 wx22 (HG.out.below (Nat.le_refl _) HBx23.out).1 HC25.out)
      go_wp2_with fail
      refine HS26.out.mono ?_
      rintro e wx27 ⟨rfl, hbx⟩
      have HBx28 := Lib.hid (HBx23.out.trans (hbx.mono HBx23.out.size))
      have HC29 := Lib.hid (HC24.out.below (Nat.le_refl _) hbx)
      have HC30 := Lib.hid (HC25.out.below (Nat.le_refl _) hbx)
      clear hbx
      have HS31 := Lib.hid (is_num (1 + (p : Int)) (1 + (q : Int)) false e1 _ T2 d2 wx27 HC29.out)
      go_wp2_with fail
      refine HS31.out.mono ?_
      rintro e wx32 ⟨rfl, hbx⟩
      have HBx33 := Lib.hid (HBx28.out.trans (hbx.mono HBx28.out.size))
      have HC34 := Lib.hid (HC29.out.below (Nat.le_refl _) hbx)
      have HC35 := Lib.hid (HC30.out.below (Nat.le_refl _) hbx)
      clear hbx
      have HS36 := Lib.hid (text_any (1 + (p : Int)) (by omega) (by omega) [b, a] T2 d2 wx32 (texts_len p (by omega) _ HL1.out) (HG.out.below (Nat.le_refl _) HBx33.out) HC34.out)
      rw [text_two] at HS36
      go_wp2_with fail
      refine HS36.out.mono ?_
      rintro e wx37 ⟨rfl, hbx⟩
      have HBx38 := Lib.hid (HBx33.out.trans (hbx.mono HBx33.out.size))
      have HC39 := Lib.hid (HC34.out.below (Nat.le_refl _) hbx)
      have HC40 := Lib.hid (HC35.out.below (Nat.le_refl _) hbx)
      clear hbx
      have HS41 := Lib.hid (dec_one p (by omega) wx37)
      go_wp2_with fail
      refine HS41.out.mono ?_
      rintro e wx42 ⟨rfl, hbx⟩
      have HBx43 := Lib.hid (HBx38.out.trans (hbx.mono HBx38.out.size))
      have HC44 := Lib.hid (HC39.out.below (Nat.le_refl _) hbx)
      have HC45 := Lib.hid (HC40.out.below (Nat.le_refl _) hbx)
      clear hbx
      have HS46 := Lib.hid (text_any (1 + (q : Int)) (by omega) (by omega) [a, b] T4 d4 wx42 (texts_len q (by omega) _ HL2.out) (HG.out.below (Nat.le_refl _) HBx43.out) HC45.out)
      rw [text_two] at HS46
      go_wp2_with fail
      refine HS46.out.mono ?_
      rintro e wx47 ⟨rfl, hbx⟩
      have HBx48 := Lib.hid (HBx43.out.trans (hbx.mono HBx43.out.size))
      have HC49 := Lib.hid (HC44.out.below (Nat.le_refl _) hbx)
      have HC50 := Lib.hid (HC45.out.below (Nat.le_refl _) hbx)
      clear hbx
      have HS51 := Lib.hid (dec_one q (by omega) wx47)
      go_wp2_with fail
      refine HS51.out.mono ?_
      rintro e wx52 ⟨rfl, hbx⟩
      have HBx53 := Lib.hid (HBx48.out.trans (hbx.mono HBx48.out.size))
      have HC54 := Lib.hid (HC49.out.below (Nat.le_refl _) hbx)
      have HC55 := Lib.hid (HC50.out.below (Nat.le_refl _) hbx)
      clear hbx
      have HS56 := Lib.hid (deep_any (1 + (p : Int)) _ _ wx52 (by simp) (HG.out.below (Nat.le_refl _) HBx53.out).1 HC54.out)
      go_wp2_with fail
      refine HS56.out.mono ?_
      rintro e wx57 ⟨rfl, hbx⟩
      have HBx58 := Lib.hid (HBx53.out.trans (hbx.mono HBx53.out.size))
      have HC59 := Lib.hid (HC54.out.below (Nat.le_refl _) hbx)
      have HC60 := Lib.hid (HC55.out.below (Nat.le_refl _) hbx)
      clear hbx
      go_wp2_with (go_at_call 16; go_in)
      have HSw := Lib.hid (wakes_any wx57 (HG.out.below (Nat.le_refl _) HBx58.out))
      refine HSw.out.mono ?_
      rintro e wz ⟨rfl, hbx⟩
      go_wp2
      go_ret
      exact ⟨rfl, HBx58.out.trans (hbx.mono HBx58.out.size)⟩
end Go.Proofs.YtfekilchomakpaaDoor
