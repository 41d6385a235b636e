/- What the law FaultTexts does: it returns true, and nothing that was there has turned. -/
import Derived.Test.YtfekilchomakpaaDoorTwo
namespace Go.Proofs.YtfekilchomakpaaDoor
open Go.RowKit

theorem digit_inj {a b : Nat} (ha : a < 10) (hb : b < 10) (h : UInt8.ofNat (48 + a) = UInt8.ofNat (48 + b)) : a = b := by
  have := congrArg UInt8.toNat h
  simp only [UInt8.toNat_ofNat'] at this
  omega
theorem dec_ne (u : Nat) : Lib.decDigits u ≠ [] := by
  rw [Lib.decDigits]
  split <;> simp
theorem dec_small {u : Nat} (h : u < 10) : Lib.decDigits u = [UInt8.ofNat (48 + u)] := by rw [Lib.decDigits, dif_pos h]
theorem dec_big {u : Nat} (h : ¬ u < 10) : Lib.decDigits u = Lib.decDigits (u / 10) ++ [UInt8.ofNat (48 + u % 10)] := by rw [Lib.decDigits, dif_neg h]
theorem dec_inj : ∀ (f u v : Nat), u ≤ f → Lib.decDigits u = Lib.decDigits v → u = v
  | f, u, v, hf, h => by
    by_cases hu : u < 10 <;> by_cases hv : v < 10
    · rw [dec_small hu, dec_small hv] at h
      exact digit_inj hu hv (by simpa using h)
    · rw [dec_small hu, dec_big hv] at h
      have h2 := congrArg List.length h
      have h3 := List.length_pos_iff.2 (dec_ne (v / 10))
      simp only [List.length_append, List.length_cons, List.length_nil] at h2
      omega
    · rw [dec_big hu, dec_small hv] at h
      have h2 := congrArg List.length h
      have h3 := List.length_pos_iff.2 (dec_ne (u / 10))
      simp only [List.length_append, List.length_cons, List.length_nil] at h2
      omega
    · rw [dec_big hu, dec_big hv] at h
      obtain ⟨h1, h2⟩ := List.append_inj' h rfl
      have h3 := digit_inj (Nat.mod_lt u (by omega)) (Nat.mod_lt v (by omega)) (by simpa using h2)
      match f, hf with
      | 0, hf => omega
      | f + 1, hf =>
        have h4 := dec_inj f (u / 10) (v / 10) (by omega) h1
        omega

def sIn : ByteArray := ⟨#[105, 110]⟩
def ins (k : Nat) (what : ByteArray) : List ByteArray := List.replicate k sIn ++ [what]
theorem ins_succ (k : Nat) (what : ByteArray) : ins (k + 1) what = sIn :: ins k what := by simp [ins, List.replicate_succ]
theorem ins_cons (k : Nat) (what : ByteArray) : ∃ t ts, ins k what = t :: ts := by
  cases k with
  | zero => exact ⟨_, _, rfl⟩
  | succ k => exact ⟨_, _, ins_succ k what⟩
theorem ins_texts (what : ByteArray) : ∀ k, (texts (ins k what)).length = 4 * k + what.size + 2
  | 0 => by simp [ins, texts]
  | k + 1 => by
    rw [ins_succ]
    simp only [texts, List.length_append, ins_texts what k]
    simp [sIn]
    omega
theorem ins_len (what : ByteArray) (k u : Nat) : (textOf (1 + (u : Int)) (ins k what)).length = 4 * k + what.size + 8 + (Lib.decDigits (1 + u)).length := by
  simp [textOf, itoa_nat, ins_texts]
  omega
theorem textOf_ne (ts : List ByteArray) (u v : Nat) (h : u ≠ v) : textOf (1 + (u : Int)) ts ≠ textOf (1 + (v : Int)) ts := by
  intro he
  simp only [textOf, itoa_nat] at he
  have h1 := List.append_cancel_left (List.append_cancel_left he)
  exact h (by have := dec_inj (1 + u) (1 + u) (1 + v) (Nat.le_refl _) h1; omega)

set_option maxRecDepth 100000 in
set_option maxHeartbeats 4000000 in
theorem texts_any (p q dp : Nat) (hp : p ≤ 65535) (hq : q ≤ 65535) (hd : dp ≤ 255) (a : ByteArray) (ha : a.size ≤ maxLen) (w : World) (hg : Vars w) :
    Calls Tryd.prog 6 #[.agg #[.int .u16 p, .int .u16 q], .string a, .int .u8 dp] w fun e w' => e = .returned (.bool true) ∧ Below w.heap.size w w' := by
  unfold maxLen at ha
  have b1 : Below w.heap.size w (w.alloc (.cells #[.int .u16 p, .int .u16 q] 41)) := (Below.refl _ _).alloc (Nat.le_refl _) _
  have HG := Lib.hid hg
  have HB := Lib.hid b1
  have HW := Lib.hid (wakes_any _ (hg.below (Nat.le_refl _) b1))
  clear hg b1
  by_cases h1 : 200 < a.size
  · go_enter Tryd.func6, Tryd.ntmps6
    go_wp2_with fail
    refine HW.out.mono ?_
    rintro e w' ⟨rfl, hb⟩
    go_wp2
    go_ret
    exact ⟨rfl, HB.out.trans (hb.mono HB.out.size)⟩
  · have ha2 : a.size ≤ 200 := by omega
    clear h1 HW ha
    obtain ⟨m, hm, hmA, hmB⟩ : ∃ m : Nat, m < 20 ∧ m ≤ dp % 20 ∧ dp % 20 ≤ m := ⟨dp % 20, Nat.mod_lt _ (by omega), Nat.le_refl _, Nat.le_refl _⟩
    go_enter Tryd.func6, Tryd.ntmps6
    go_wp2_with fail
    go_quiet (fail)
    go_wp2_with fail
    have HB0 := Lib.hid (below_drewN HB.out nq)
    generalize (w.alloc (.cells #[.int .u16 (p : Int), .int .u16 (q : Int)] 41)).drewN nq = W0 at *
    have HS1 := Lib.hid (new_some (1 + (p : Int)) a W0 (beq_eq_false_iff_ne.2 (by omega)))
    go_wp2_with fail
    refine HS1.out.mono ?_
    rintro e wx2 ⟨v1, rfl, hc, hbx⟩
    have HBx3 := Lib.hid (HB0.out.trans (hbx.mono HB0.out.size))
    obtain ⟨T1, d1, rfl⟩ := hc.shape
    have HC4 := Lib.hid hc
    clear hc
    clear hbx
    have HS5 := Lib.hid (new_some (1 + (q : Int)) a wx2 (beq_eq_false_iff_ne.2 (by omega)))
    go_wp2_with fail
    refine HS5.out.mono ?_
    rintro e wx6 ⟨v2, rfl, hc, hbx⟩
    have HBx7 := Lib.hid (HBx3.out.trans (hbx.mono HBx3.out.size))
    have HC8 := Lib.hid (HC4.out.below (Nat.le_refl _) hbx)
    obtain ⟨T2, d2, rfl⟩ := hc.shape
    have HC9 := Lib.hid hc
    clear hc
    clear hbx
    obtain ⟨S0, hS0, HS0⟩ : ∃ S : ByteArray, S.size = a.size + 8 + (Lib.decDigits (1 + p)).length ∧ Hid (S = ⟨(textOf (1 + (p : Int)) (ins 0 a)).toArray⟩) := ⟨_, by show (textOf (1 + (p : Int)) (ins 0 a)).toArray.size = _; rw [List.size_toArray]; have := ins_len a 0 p; omega, rfl⟩
    have HS1 := Lib.hid hS0
    clear hS0
    have HS10 := Lib.hid (text_any (1 + (p : Int)) (by omega) (by omega) [a] T1 d1 wx6 (texts_len p (by omega) _ (by simp [texts]; omega)) (HG.out.below (Nat.le_refl _) HBx7.out) HC8.out)
    rw [show (⟨(textOf (1 + (p : Int)) [a]).toArray⟩ : ByteArray) = S0 from HS0.out.symm] at HS10
    go_wp2_with fail
    refine HS10.out.mono ?_
    rintro e wx11 ⟨rfl, hbx⟩
    have HBx12 := Lib.hid (HBx7.out.trans (hbx.mono HBx7.out.size))
    have HC13 := Lib.hid (HC8.out.below (Nat.le_refl _) hbx)
    have HC14 := Lib.hid (HC9.out.below (Nat.le_refl _) hbx)
    clear hbx
    have hsz : S0.size ≤ 100000 := by have := HS1.out; have := dec_len (1 + p) (1 + p) (Nat.le_refl _); omega
    go_wp2_with fail
    go_loopg [10, 11, 13] m (fun g x y i wr => ∃ k : Nat, m - k ≤ g ∧ k ≤ m ∧ i = .int .i64 k ∧ Chain wr (1 + (p : Int)) (ins k a) x ∧ Chain wr (1 + (q : Int)) (ins k a) y ∧ Below w.heap.size w wr)
    case atStart => exact ⟨0, by omega, by omega, rfl, HC13.out, HC14.out, HBx12.out⟩
    case round =>
      obtain ⟨k, hg, hk, rfl, hx, hy, hbr⟩ := hrel
      obtain ⟨Tx, dx, rfl⟩ := hx.shape
      obtain ⟨Ty, dy, rfl⟩ := hy.shape
      have HXr := Lib.hid hx; have HYr := Lib.hid hy; have HBr := Lib.hid hbr
      clear hx hy hbr
      by_cases hlt : k < m
      · obtain ⟨t0, ts0, he0⟩ := ins_cons k a
        have hlt2 : (k : Int) < (dp : Int) % 20 := by omega
        have HE0 := Lib.hid he0
        clear he0
        have HX1 := Lib.hid (HE0.out ▸ HXr.out)
        have HY1 := Lib.hid (HE0.out ▸ HYr.out)
        have HS51 := Lib.hid (wrap_some (.iface Tx dx) (1 + (p : Int)) t0 ts0 sIn wr HX1.out)
        go_wp2_with fail
        refine HS51.out.mono ?_
        rintro e wx52 ⟨v5, rfl, hc, hbx⟩
        have HBx53 := Lib.hid (HBr.out.trans (hbx.mono HBr.out.size))
        have HC54 := Lib.hid (HXr.out.below (Nat.le_refl _) hbx)
        have HC55 := Lib.hid (HYr.out.below (Nat.le_refl _) hbx)
        obtain ⟨T5, d5, rfl⟩ := hc.shape
        have HC56 := Lib.hid hc
        clear hc
        clear hbx
        have HS57 := Lib.hid (wrap_some (.iface Ty dy) (1 + (q : Int)) t0 ts0 sIn wx52 (HE0.out ▸ HC55.out))
        go_wp2_with fail
        refine HS57.out.mono ?_
        rintro e wx58 ⟨v6, rfl, hc, hbx⟩
        have HBx59 := Lib.hid (HBx53.out.trans (hbx.mono HBx53.out.size))
        have HC60 := Lib.hid (HC54.out.below (Nat.le_refl _) hbx)
        have HC61 := Lib.hid (HC55.out.below (Nat.le_refl _) hbx)
        have HC62 := Lib.hid (HC56.out.below (Nat.le_refl _) hbx)
        obtain ⟨T6, d6, rfl⟩ := hc.shape
        have HC63 := Lib.hid hc
        clear hc
        clear hbx
        go_wp2_with fail
        go_roundg (m - (k + 1))
        case measure => omega
        case rel => exact ⟨k + 1, Nat.le_refl _, by omega, by go_num, by rw [ins_succ, HE0.out]; exact HC62.out, by rw [ins_succ, HE0.out]; exact HC63.out, HBx59.out⟩
      · obtain rfl : k = m := by omega
        have hge2 : ¬ (k : Int) < (dp : Int) % 20 := by omega
        have q1 : ((k : Int) == (dp : Int) % 20) = true := by rw [beq_iff_eq]; omega
        clear hlt hk hg
        have HI := Lib.hid (show (texts (ins k a)).length ≤ 100000 by rw [ins_texts]; omega)
        obtain ⟨S1, hS1, HS2⟩ : ∃ S : ByteArray, (((S.size : Nat) : Int) == (S0.size : Int) + 4 * ((dp : Int) % 20)) = true ∧ Hid (S = ⟨(textOf (1 + (p : Int)) (ins k a)).toArray⟩) := ⟨_, by have h1 := ins_len a k p; have h2 := HS1.out; rw [beq_iff_eq]; show (((textOf (1 + (p : Int)) (ins k a)).toArray.size : Nat) : Int) = _; rw [List.size_toArray]; omega, rfl⟩
        obtain ⟨S2, HS3⟩ : ∃ S : ByteArray, Hid (S = ⟨(textOf (1 + (q : Int)) (ins k a)).toArray⟩) := ⟨_, rfl⟩
        by_cases hpq : p = q
        · subst hpq
          obtain rfl : S2 = S1 := HS3.out.trans HS2.out.symm
          have HS101 := Lib.hid (text_any (1 + (p : Int)) (by omega) (by omega) (ins k a) Tx dx wr (texts_len p (by omega) _ HI.out) (HG.out.below (Nat.le_refl _) HBr.out) HXr.out)
          rw [show (⟨(textOf (1 + (p : Int)) (ins k a)).toArray⟩ : ByteArray) = S2 from HS2.out.symm] at HS101
          go_wp2_with fail
          refine HS101.out.mono ?_
          rintro e wx102 ⟨rfl, hbx⟩
          have HBx103 := Lib.hid (HBr.out.trans (hbx.mono HBr.out.size))
          have HC104 := Lib.hid (HXr.out.below (Nat.le_refl _) hbx)
          have HC105 := Lib.hid (HYr.out.below (Nat.le_refl _) hbx)
          clear hbx
          have HS106 := Lib.hid (text_any (1 + (p : Int)) (by omega) (by omega) (ins k a) Tx dx wx102 (texts_len p (by omega) _ HI.out) (HG.out.below (Nat.le_refl _) HBx103.out) HC104.out)
          rw [show (⟨(textOf (1 + (p : Int)) (ins k a)).toArray⟩ : ByteArray) = S2 from HS2.out.symm] at HS106
          go_wp2_with fail
          refine HS106.out.mono ?_
          rintro e wx107 ⟨rfl, hbx⟩
          have HBx108 := Lib.hid (HBx103.out.trans (hbx.mono HBx103.out.size))
          have HC109 := Lib.hid (HC104.out.below (Nat.le_refl _) hbx)
          have HC110 := Lib.hid (HC105.out.below (Nat.le_refl _) hbx)
          clear hbx
          have HS111 := Lib.hid (text_any (1 + (p : Int)) (by omega) (by omega) (ins k a) Ty dy wx107 (texts_len p (by omega) _ HI.out) (HG.out.below (Nat.le_refl _) HBx108.out) HC110.out)
          rw [show (⟨(textOf (1 + (p : Int)) (ins k a)).toArray⟩ : ByteArray) = S2 from HS2.out.symm] at HS111
          go_wp2_with fail
          refine HS111.out.mono ?_
          rintro e wx112 ⟨rfl, hbx⟩
          have HBx113 := Lib.hid (HBx108.out.trans (hbx.mono HBx108.out.size))
          have HC114 := Lib.hid (HC109.out.below (Nat.le_refl _) hbx)
          have HC115 := Lib.hid (HC110.out.below (Nat.le_refl _) hbx)
          clear hbx
          have HS116 := Lib.hid (deep_any (1 + (p : Int)) (ins k a) (.iface Tx dx) wx112 (by simp [ins]; omega) (HG.out.below (Nat.le_refl _) HBx113.out).1 HC114.out)
          rw [show (ins k a).length - 1 = k from by simp [ins]] at HS116
          go_wp2_with fail
          refine HS116.out.mono ?_
          rintro e wx117 ⟨rfl, hbx⟩
          have HBx118 := Lib.hid (HBx113.out.trans (hbx.mono HBx113.out.size))
          have HC119 := Lib.hid (HC114.out.below (Nat.le_refl _) hbx)
          have HC120 := Lib.hid (HC115.out.below (Nat.le_refl _) hbx)
          clear hbx
          have dl : (Lib.decDigits (1 + p)).length ≤ 70000 := Nat.le_trans (dec_len _ _ (Nat.le_refl _)) (by omega)
          have q2 : ((S0.size : Int) == (a.size : Int) + 8 + ((Lib.decDigits (1 + p)).length : Int)) = true := by have := HS1.out; rw [beq_iff_eq]; omega
          have HS121 := Lib.hid (dec_one p (by omega) wx117)
          go_wp2_with fail
          refine HS121.out.mono ?_
          rintro e wx122 ⟨rfl, hbx⟩
          have HBx123 := Lib.hid (HBx118.out.trans (hbx.mono HBx118.out.size))
          have HC124 := Lib.hid (HC119.out.below (Nat.le_refl _) hbx)
          have HC125 := Lib.hid (HC120.out.below (Nat.le_refl _) hbx)
          clear hbx
          have HS126 := Lib.hid (wakes_any wx122 (HG.out.below (Nat.le_refl _) HBx123.out))
          go_wp2_with fail
          refine HS126.out.mono ?_
          rintro e wx127 ⟨rfl, hbx⟩
          have HBx128 := Lib.hid (HBx123.out.trans (hbx.mono HBx123.out.size))
          have HC129 := Lib.hid (HC124.out.below (Nat.le_refl _) hbx)
          have HC130 := Lib.hid (HC125.out.below (Nat.le_refl _) hbx)
          clear hbx
          go_wp2
          go_ret
          exact ⟨rfl, HBx128.out⟩
        · have e1 : ((1 + (p : Int)) == 1 + (q : Int)) = false := beq_eq_false_iff_ne.2 (by omega)
          have e2 : ((p : Int) == (q : Int)) = false := beq_eq_false_iff_ne.2 (by omega)
          have e3 : (p == q) = false := beq_eq_false_iff_ne.2 (by omega)
          have e4 : ¬ S1 = S2 := by rw [HS2.out, HS3.out]; intro hh; exact textOf_ne (ins k a) p q hpq (by simpa using hh)
          have e6 : (S1.toList == S2.toList) = false := by rw [ByteArray.toList_eq, ByteArray.toList_eq, HS2.out, HS3.out]; exact beq_eq_false_iff_ne.2 (by simpa using textOf_ne (ins k a) p q hpq)
          clear hpq e4
          have HS201 := Lib.hid (text_any (1 + (p : Int)) (by omega) (by omega) (ins k a) Tx dx wr (texts_len p (by omega) _ HI.out) (HG.out.below (Nat.le_refl _) HBr.out) HXr.out)
          rw [show (⟨(textOf (1 + (p : Int)) (ins k a)).toArray⟩ : ByteArray) = S1 from HS2.out.symm] at HS201
          go_wp2_with fail
          refine HS201.out.mono ?_
          rintro e wx202 ⟨rfl, hbx⟩
          have HBx203 := Lib.hid (HBr.out.trans (hbx.mono HBr.out.size))
          have HC204 := Lib.hid (HXr.out.below (Nat.le_refl _) hbx)
          have HC205 := Lib.hid (HYr.out.below (Nat.le_refl _) hbx)
          clear hbx
          have HS206 := Lib.hid (text_any (1 + (p : Int)) (by omega) (by omega) (ins k a) Tx dx wx202 (texts_len p (by omega) _ HI.out) (HG.out.below (Nat.le_refl _) HBx203.out) HC204.out)
          rw [show (⟨(textOf (1 + (p : Int)) (ins k a)).toArray⟩ : ByteArray) = S1 from HS2.out.symm] at HS206
          go_wp2_with fail
          refine HS206.out.mono ?_
          rintro e wx207 ⟨rfl, hbx⟩
          have HBx208 := Lib.hid (HBx203.out.trans (hbx.mono HBx203.out.size))
          have HC209 := Lib.hid (HC204.out.below (Nat.le_refl _) hbx)
          have HC210 := Lib.hid (HC205.out.below (Nat.le_refl _) hbx)
          clear hbx
          have HS211 := Lib.hid (text_any (1 + (q : Int)) (by omega) (by omega) (ins k a) Ty dy wx207 (texts_len q (by omega) _ HI.out) (HG.out.below (Nat.le_refl _) HBx208.out) HC210.out)
          rw [show (⟨(textOf (1 + (q : Int)) (ins k a)).toArray⟩ : ByteArray) = S2 from HS3.out.symm] at HS211
          go_wp2_with fail
          refine HS211.out.mono ?_
          rintro e wx212 ⟨rfl, hbx⟩
          have HBx213 := Lib.hid (HBx208.out.trans (hbx.mono HBx208.out.size))
          have HC214 := Lib.hid (HC209.out.below (Nat.le_refl _) hbx)
          have HC215 := Lib.hid (HC210.out.below (Nat.le_refl _) hbx)
          clear hbx
          have HS216 := Lib.hid (deep_any (1 + (p : Int)) (ins k a) (.iface Tx dx) wx212 (by simp [ins]; omega) (HG.out.below (Nat.le_refl _) HBx213.out).1 HC214.out)
          rw [show (ins k a).length - 1 = k from by simp [ins]] at HS216
          go_wp2_with fail
          refine HS216.out.mono ?_
          rintro e wx217 ⟨rfl, hbx⟩
          have HBx218 := Lib.hid (HBx213.out.trans (hbx.mono HBx213.out.size))
          have HC219 := Lib.hid (HC214.out.below (Nat.le_refl _) hbx)
          have HC220 := Lib.hid (HC215.out.below (Nat.le_refl _) hbx)
          clear hbx
          have dl : (Lib.decDigits (1 + p)).length ≤ 70000 := Nat.le_trans (dec_len _ _ (Nat.le_refl _)) (by omega)
          have q2 : ((S0.size : Int) == (a.size : Int) + 8 + ((Lib.decDigits (1 + p)).length : Int)) = true := by have := HS1.out; rw [beq_iff_eq]; omega
          have HS221 := Lib.hid (dec_one p (by omega) wx217)
          go_wp2_with fail
          refine HS221.out.mono ?_
          rintro e wx222 ⟨rfl, hbx⟩
          have HBx223 := Lib.hid (HBx218.out.trans (hbx.mono HBx218.out.size))
          have HC224 := Lib.hid (HC219.out.below (Nat.le_refl _) hbx)
          have HC225 := Lib.hid (HC220.out.below (Nat.le_refl _) hbx)
          clear hbx
          have HS226 := Lib.hid (wakes_any wx222 (HG.out.below (Nat.le_refl _) HBx223.out))
          go_wp2_with fail
          refine HS226.out.mono ?_
          rintro e wx227 ⟨rfl, hbx⟩
          have HBx228 := Lib.hid (HBx223.out.trans (hbx.mono HBx223.out.size))
          have HC229 := Lib.hid (HC224.out.below (Nat.le_refl _) hbx)
          have HC230 := Lib.hid (HC225.out.below (Nat.le_refl _) hbx)
          clear hbx
          go_wp2
          go_ret
          exact ⟨rfl, HBx228.out⟩
end Go.Proofs.YtfekilchomakpaaDoor
