/- The statements own clock: its calls. -/
import Derived.Test.YtaemjglblfencaaGreatDoorKRa
namespace Go.Proofs.YtaemjglblfencaaGreatDoor
namespace Kl
set_option linter.unusedSimpArgs false
set_option linter.unusedVariables false
open Go.RowKit

/-- The hand's frame, as the statements' clock tells it. -/
def findI : Option Nat → Int
  | some k => (k : Int)
  | none => -1
set_option maxRecDepth 100000 in
theorem rhas_any (w : World) (b r cap : Nat) (tl : List Value) (c : Ck) (h : At encR w b r cap tl c) (i : Int) : Calls Tryz.prog 47 #[.pointer (some ⟨b, 0, none⟩), .int .i64 i] w fun e w' => e = .returned (.bool (c.get i).isSome) ∧ w = w' := by
  have b0 := h.blk.cell (i := 0) rfl
  cases hg : c.get i with
  | some f =>
    obtain ⟨k, rfl, hlt, hk⟩ := Ck.get_some hg
    have d0 : decide (0 ≤ (k : Int)) = true := decide_eq_true (by omega)
    have d1 : decide ((k : Int) < (c.l.length : Int)) = true := decide_eq_true (by omega)
    clear h hg hk
    generalize c.l.length = n at *
    go_enter Tryz.func47, Tryz.ntmps47
    go_wp2_with fail
    go_ret
    exact ⟨rfl, rfl⟩
  | none =>
    have hn := Ck.get_none hg
    by_cases h0 : i < 0
    · have d0 : decide (0 ≤ i) = false := decide_eq_false (by omega)
      clear h hg hn h0
      generalize c.l.length = n at *
      go_enter Tryz.func47, Tryz.ntmps47
      go_wp2_with fail
      go_ret
      exact ⟨rfl, rfl⟩
    · have d0 : decide (0 ≤ i) = true := decide_eq_true (by omega)
      have d1 : decide (i < (c.l.length : Int)) = false := decide_eq_false (by omega)
      clear h hg hn h0
      generalize c.l.length = n at *
      go_enter Tryz.func47, Tryz.ntmps47
      go_wp2_with fail
      go_ret
      exact ⟨rfl, rfl⟩
set_option maxRecDepth 100000 in
theorem rfind_any {B : Nat} (w : World) (b r cap : Nat) (tl : List Value) (c : Ck) (h : At encR w b r cap tl c) (ho : c.Ok B) (key : Int) : Calls Tryz.prog 30 #[.pointer (some ⟨b, 0, none⟩), .int .i64 key] w fun e w' => e = .returned (.int .i64 (findI (c.find key))) ∧ w = w' := by
  have HA := Lib.hid h
  have hn1 := ho.n1
  have b0 := h.blk.cell (i := 0) rfl
  have HF : Hid (firstFrom (isKey key) c.l 0 = firstFrom (isKey key) (c.l.drop 0) 0) := Lib.hid (by rw [List.drop_zero])
  have HL : Hid (0 < c.l.length) := Lib.hid ho.n0
  clear h ho
  unfold Ck.find
  by_cases h0 : key < 0
  · have d0 : decide (0 ≤ key) = false := decide_eq_false (by omega)
    have d1 : decide ((0 : Int) < (c.l.length : Int)) = true := decide_eq_true (by have := HL.out; omega)
    have HR : Hid (firstFrom (isKey key) c.l 0 = none) := Lib.hid (by
      cases hf : firstFrom (isKey key) c.l 0 with
      | none => rfl
      | some q =>
        obtain ⟨j, f, -, -, hp, -⟩ := first_some hf
        simp only [isKey, Fm.K, Bool.and_eq_true, decide_eq_true_eq] at hp
        omega)
    clear h0
    go_enter Tryz.func30, Tryz.ntmps30
    go_wp2_with fail
    go_loopg [5] 0 (fun q i wr => i = .int .i64 0 ∧ w = wr)
    case atStart => exact ⟨rfl, rfl⟩
    case round =>
      obtain ⟨rfl, rfl⟩ := hrel
      go_wp2_with fail
      go_ret
      exact ⟨by rw [HR.out]; rfl, rfl⟩
  · have d0 : decide (0 ≤ key) = true := decide_eq_true (by omega)
    have HK0 : Hid (0 ≤ key) := Lib.hid (by omega)
    clear h0
    go_enter Tryz.func30, Tryz.ntmps30
    go_wp2_with fail
    go_loopg [5] c.l.length (fun q i wr => ∃ k : Nat, c.l.length - k ≤ q ∧ k ≤ c.l.length ∧ i = .int .i64 k ∧ firstFrom (isKey key) c.l 0 = firstFrom (isKey key) (c.l.drop k) k ∧ w = wr)
    case atStart => exact ⟨0, by omega, by omega, rfl, HF.out, rfl⟩
    case round =>
      obtain ⟨k, hq, hk, rfl, hf, rfl⟩ := hrel
      have HE := Lib.hid hf
      clear hf
      by_cases hlt : k < c.l.length
      · have hk1 : (k : Int) < (c.l.length : Int) := by omega
        have dk1 : decide ((k : Int) < (c.l.length : Int)) = true := decide_eq_true hk1
        obtain ⟨f, hfk⟩ : ∃ f, c.l[k]? = some f := ⟨_, List.getElem?_eq_getElem hlt⟩
        have HK := Lib.hid hfk
        have x0 := HA.out.cell encR_len hfk (j := 0) rfl
        rw [Nat.add_zero] at x0
        clear hfk
        by_cases he : f.key = key
        · have e1 : (f.key == key) = true := by simpa using he
          have HR : Hid (firstFrom (isKey key) c.l 0 = some k) := Lib.hid (by rw [HE.out, first_here HK.out]; have := HK0.out; simp [isKey, Fm.K, he]; omega)
          clear he
          go_wp2_with fail
          go_ret
          exact ⟨by rw [HR.out]; rfl, rfl⟩
        · have e1 : (f.key == key) = false := by simpa using he
          have HN : Hid (isKey key f = false) := Lib.hid (by simp [isKey, he])
          clear he
          go_wp2_with fail
          go_roundg (c.l.length - (k + 1))
          case measure => omega
          case rel => exact ⟨k + 1, by omega, by omega, by go_num, by rw [HE.out, first_next HK.out HN.out], rfl⟩
      · obtain rfl : k = c.l.length := by omega
        have hk1 : decide ((c.l.length : Int) < (c.l.length : Int)) = false := decide_eq_false (by omega)
        have HR : Hid (firstFrom (isKey key) c.l 0 = none) := Lib.hid (by rw [HE.out, first_end])
        go_wp2_with fail
        go_ret
        exact ⟨by rw [HR.out]; rfl, rfl⟩
/-- Three cells laid over a frame's. -/
theorem flat_set3 : ∀ {l : List Fm} {i : Nat} {f g : Fm} {p q s : Value}, l[i]? = some f → encR g = [p, q, s] → (((l.flatMap encR).set (i * 3) p).set (i * 3 + 1) q).set (i * 3 + 2) s = (l.set i g).flatMap encR
  | [], i, f, g, p, q, s, h, _ => by simp at h
  | x :: r, 0, f, g, p, q, s, h, e => by
    rw [List.set_cons_zero, List.flatMap_cons, List.flatMap_cons, e]
    rfl
  | x :: r, i + 1, f, g, p, q, s, h, e => by
    rw [List.set_cons_succ, List.flatMap_cons, List.flatMap_cons]
    rw [List.set_append_right _ _ (by rw [encR_len]; omega), encR_len, show (i + 1) * 3 - 3 = i * 3 by omega]
    rw [List.set_append_right _ _ (by rw [encR_len]; omega), encR_len, show (i + 1) * 3 + 1 - 3 = i * 3 + 1 by omega]
    rw [List.set_append_right _ _ (by rw [encR_len]; omega), encR_len, show (i + 1) * 3 + 2 - 3 = i * 3 + 2 by omega]
    rw [flat_set3 (by simpa using h) e]
theorem At.set3 {w : World} {b r cap : Nat} {tl : List Value} {c : Ck} (h : At encR w b r cap tl c) {i : Nat} {f g : Fm} {p q s : Value} (hi : c.l[i]? = some f) (e : encR g = [p, q, s]) : At encR (((w.setCell ⟨r, i * 3, none⟩ p).setCell ⟨r, i * 3 + 1, none⟩ q).setCell ⟨r, i * 3 + 2, none⟩ s) b r cap tl { c with l := c.l.set i g } := by
  refine ⟨by simpa using ((h.blk.setOther (a := ⟨r, i * 3, none⟩) h.ne p).setOther (a := ⟨r, i * 3 + 1, none⟩) h.ne q).setOther (a := ⟨r, i * 3 + 2, none⟩) h.ne s, ?_, h.ne⟩
  have h2 := ((h.row.set (i * 3) p).set (i * 3 + 1) q).set (i * 3 + 2) s
  have hlt := (List.getElem?_eq_some_iff.1 hi).1
  have hlen := flat_len encR_len c.l
  rw [List.set_append_left _ _ (by omega), List.set_append_left _ _ (by simp only [List.length_set]; omega), List.set_append_left _ _ (by simp only [List.length_set]; omega), flat_set3 hi e] at h2
  exact h2
theorem foot3 {w w1 : World} {b r : Nat} (h : Only (foot b r) w w1) (i : Nat) (p q s : Value) : Only (foot b r) w (((w1.setCell ⟨r, i * 3, none⟩ p).setCell ⟨r, i * 3 + 1, none⟩ q).setCell ⟨r, i * 3 + 2, none⟩ s) :=
  ((h.setCell (.inl (.inr rfl)) _).setCell (.inl (.inr rfl)) _).setCell (.inl (.inr rfl)) _
theorem built95p (key : Int) : Tryz.prog.built 95 [(0, .int .i64 key), (2, .bool true)] = some #[.int .i64 key, .int .i64 0, .bool true] := by kernel_rfl
set_option maxRecDepth 100000 in
theorem rtouch_any {B : Nat} (w : World) (b r cap : Nat) (tl : List Value) (c : Ck) (h : At encR w b r cap tl c) (ho : c.Ok B) (i : Int) : Calls Tryz.prog 41 #[.pointer (some ⟨b, 0, none⟩), .int .i64 i] w fun e w' => e = .returned (.tuple #[]) ∧ At encR w' b r cap tl (c.touch i) ∧ Only (foot b r) w w' := by
  have HS := Lib.hid (rhas_any w b r cap tl c h i)
  have HA := Lib.hid h
  cases hg : c.get i with
  | none =>
    rw [hg] at HS
    have HN : Hid (c.keyed i = false) := Lib.hid (by unfold Ck.keyed; rw [hg])
    clear hg h ho
    go_enter Tryz.func41, Tryz.ntmps41
    go_wp2_with fail
    refine HS.out.mono ?_
    rintro e w' ⟨rfl, rfl⟩
    go_wp2_with fail
    first | refine bodyPost_end (results_none rfl _ _ _) rfl ?_ | refine bodyPost_ret (results_none rfl _ _ _) rfl ?_
    exact ⟨rfl, by rw [touch_no HN.out]; exact HA.out, Only.refl _ _⟩
  | some f =>
    rw [hg] at HS
    obtain ⟨k, rfl, hlt, hk⟩ := Ck.get_some hg
    have HF : Hid (f.Ok B) := Lib.hid (ho.all k f hk)
    have HK : Hid (c.l[k]? = some f) := Lib.hid hk
    by_cases hc : f.key < 0
    · have dc : decide (0 ≤ f.key) = false := decide_eq_false (by omega)
      have HN : Hid (c.keyed k = false) := Lib.hid (by unfold Ck.keyed; rw [hg]; exact dc)
      clear hg h ho hk hc
      have b0 := HA.out.blk.cell (i := 0) rfl
      have x0 := HA.out.cell encR_len HK.out (j := 0) rfl
      rw [Nat.add_zero] at x0
      have hk2 : (k : Int) < (c.l.length : Int) := by omega
      go_enter Tryz.func41, Tryz.ntmps41
      go_wp2_with fail
      refine HS.out.mono ?_
      rintro e w' ⟨rfl, rfl⟩
      go_wp2_with fail
      first | refine bodyPost_end (results_none rfl _ _ _) rfl ?_ | refine bodyPost_ret (results_none rfl _ _ _) rfl ?_
      exact ⟨rfl, by rw [touch_no HN.out]; exact HA.out, Only.refl _ _⟩
    · have dc : decide (0 ≤ f.key) = true := decide_eq_true (by omega)
      have HN : Hid (c.keyed k = true) := Lib.hid (by unfold Ck.keyed; rw [hg]; exact dc)
      
      have HY := Lib.hid (touch_yes hk dc)
      clear hg h ho hk hc
      have b0 := HA.out.blk.cell (i := 0) rfl
      have x0 := HA.out.cell encR_len HK.out (j := 0) rfl
      rw [Nat.add_zero] at x0
      have x2 := HA.out.cell encR_len HK.out (j := 2) rfl
      have hk2 : (k : Int) < (c.l.length : Int) := by omega
      have z2 := HA.out.row.frozen (k * 3 + 2)

      go_enter Tryz.func41, Tryz.ntmps41
      go_wp2_with fail
      refine HS.out.mono ?_
      rintro e w' ⟨rfl, rfl⟩
      go_wp2_with fail
      first | refine bodyPost_end (results_none rfl _ _ _) rfl ?_ | refine bodyPost_ret (results_none rfl _ _ _) rfl ?_
      exact ⟨rfl, by rw [HY.out]; exact HA.out.set encR_len HK.out (j := 2) (by omega) rfl, (Only.refl _ _).setCell (.inl (.inr rfl)) _⟩
set_option maxRecDepth 100000 in
theorem rpin_any {B : Nat} (w : World) (b r cap : Nat) (tl : List Value) (c : Ck) (h : At encR w b r cap tl c) (ho : c.Ok B) (hB : B ≤ 1000000) (i : Int) : Calls Tryz.prog 21 #[.pointer (some ⟨b, 0, none⟩), .int .i64 i] w fun e w' => e = .returned (.bool (c.keyed i)) ∧ At encR w' b r cap tl (c.pin i) ∧ Only (foot b r) w w' := by
  have HS := Lib.hid (rhas_any w b r cap tl c h i)
  have HA := Lib.hid h
  have HB6 := Lib.hid hB
  clear hB
  cases hg : c.get i with
  | none =>
    rw [hg] at HS
    have HN : Hid (c.keyed i = false) := Lib.hid (by unfold Ck.keyed; rw [hg])
    clear hg h ho
    go_enter Tryz.func21, Tryz.ntmps21
    go_wp2_with fail
    refine HS.out.mono ?_
    rintro e w' ⟨rfl, rfl⟩
    go_wp2_with fail
    go_ret
    exact ⟨by rw [HN.out]; rfl, by rw [pin_no HN.out]; exact HA.out, Only.refl _ _⟩
  | some f =>
    rw [hg] at HS
    obtain ⟨k, rfl, hlt, hk⟩ := Ck.get_some hg
    have HF : Hid (f.Ok B) := Lib.hid (ho.all k f hk)
    have HK : Hid (c.l[k]? = some f) := Lib.hid hk
    by_cases hc : f.key < 0
    · have dc : decide (f.key < 0) = true := decide_eq_true hc
      have HN : Hid (c.keyed k = false) := Lib.hid (by unfold Ck.keyed; rw [hg]; exact decide_eq_false (by omega))
      clear hg h ho hk hc
      have b0 := HA.out.blk.cell (i := 0) rfl
      have x0 := HA.out.cell encR_len HK.out (j := 0) rfl
      rw [Nat.add_zero] at x0
      have hk2 : (k : Int) < (c.l.length : Int) := by omega
      go_enter Tryz.func21, Tryz.ntmps21
      go_wp2_with fail
      refine HS.out.mono ?_
      rintro e w' ⟨rfl, rfl⟩
      go_wp2_with fail
      go_ret
      exact ⟨by rw [HN.out]; rfl, by rw [pin_no HN.out]; exact HA.out, Only.refl _ _⟩
    · have dc : decide (f.key < 0) = false := decide_eq_false hc
      have HN : Hid (c.keyed k = true) := Lib.hid (by unfold Ck.keyed; rw [hg]; exact decide_eq_true (by omega))
      
      have HY := Lib.hid (pin_yes hk (decide_eq_true (by omega)))
      clear hg h ho hk hc
      have b0 := HA.out.blk.cell (i := 0) rfl
      have x0 := HA.out.cell encR_len HK.out (j := 0) rfl
      rw [Nat.add_zero] at x0
      have x1 := HA.out.cell encR_len HK.out (j := 1) rfl
      have hk2 : (k : Int) < (c.l.length : Int) := by omega
      have z1 := HA.out.row.frozen (k * 3 + 1)
      have gw : IntKind.i64.wrap (f.pins + 1) = f.pins + 1 := wrap63 (by have := HF.out.p0; omega) (by have := HF.out.p1; have := HB6.out; omega)
      go_enter Tryz.func21, Tryz.ntmps21
      go_wp2_with fail
      refine HS.out.mono ?_
      rintro e w' ⟨rfl, rfl⟩
      go_wp2_with fail
      go_ret
      exact ⟨by rw [HN.out]; rfl, by rw [HY.out]; exact HA.out.set encR_len HK.out (j := 1) (by omega) rfl, (Only.refl _ _).setCell (.inl (.inr rfl)) _⟩
set_option maxRecDepth 100000 in
theorem runpin_any {B : Nat} (w : World) (b r cap : Nat) (tl : List Value) (c : Ck) (h : At encR w b r cap tl c) (ho : c.Ok B) (hB : B ≤ 1000000) (i : Int) : Calls Tryz.prog 23 #[.pointer (some ⟨b, 0, none⟩), .int .i64 i] w fun e w' => e = .returned (.bool (c.pinnedAt i)) ∧ At encR w' b r cap tl (c.unpin i) ∧ Only (foot b r) w w' := by
  have HS := Lib.hid (rhas_any w b r cap tl c h i)
  have HA := Lib.hid h
  have HB6 := Lib.hid hB
  clear hB
  cases hg : c.get i with
  | none =>
    rw [hg] at HS
    have HN : Hid (c.pinnedAt i = false) := Lib.hid (by unfold Ck.pinnedAt; rw [hg])
    clear hg h ho
    go_enter Tryz.func23, Tryz.ntmps23
    go_wp2_with fail
    refine HS.out.mono ?_
    rintro e w' ⟨rfl, rfl⟩
    go_wp2_with fail
    go_ret
    exact ⟨by rw [HN.out]; rfl, by rw [unpin_no HN.out]; exact HA.out, Only.refl _ _⟩
  | some f =>
    rw [hg] at HS
    obtain ⟨k, rfl, hlt, hk⟩ := Ck.get_some hg
    have HF : Hid (f.Ok B) := Lib.hid (ho.all k f hk)
    have HK : Hid (c.l[k]? = some f) := Lib.hid hk
    by_cases hc : f.pins = 0
    · have dc : (f.pins == 0) = true := by simpa using hc
      have HN : Hid (c.pinnedAt k = false) := Lib.hid (by unfold Ck.pinnedAt; rw [hg]; exact decide_eq_false (by omega))
      clear hg h ho hk hc
      have b0 := HA.out.blk.cell (i := 0) rfl
      have x1 := HA.out.cell encR_len HK.out (j := 1) rfl
      have hk2 : (k : Int) < (c.l.length : Int) := by omega
      go_enter Tryz.func23, Tryz.ntmps23
      go_wp2_with fail
      refine HS.out.mono ?_
      rintro e w' ⟨rfl, rfl⟩
      go_wp2_with fail
      go_ret
      exact ⟨by rw [HN.out]; rfl, by rw [unpin_no HN.out]; exact HA.out, Only.refl _ _⟩
    · have dc : (f.pins == 0) = false := by simpa using hc
      have HN : Hid (c.pinnedAt k = true) := Lib.hid (by unfold Ck.pinnedAt; rw [hg]; exact decide_eq_true (by have := HF.out.p0; omega))
      have HQ : Hid (0 < f.pins) := Lib.hid (by have := HF.out.p0; omega)
      have HY := Lib.hid (unpin_yes hk (decide_eq_true HQ.out))
      clear hg h ho hk hc
      have b0 := HA.out.blk.cell (i := 0) rfl
      have x1 := HA.out.cell encR_len HK.out (j := 1) rfl
      have hk2 : (k : Int) < (c.l.length : Int) := by omega
      have z1 := HA.out.row.frozen (k * 3 + 1)
      have gw : IntKind.i64.wrap (f.pins - 1) = f.pins - 1 := wrap63 (by have := HQ.out; omega) (by have := HF.out.p1; have := HB6.out; omega)
      go_enter Tryz.func23, Tryz.ntmps23
      go_wp2_with fail
      refine HS.out.mono ?_
      rintro e w' ⟨rfl, rfl⟩
      go_wp2_with fail
      go_ret
      exact ⟨by rw [HN.out]; rfl, by rw [HY.out]; exact HA.out.set encR_len HK.out (j := 1) (by omega) rfl, (Only.refl _ _).setCell (.inl (.inr rfl)) _⟩
set_option maxRecDepth 100000 in
theorem rdrop_any {B : Nat} (w : World) (b r cap : Nat) (tl : List Value) (c : Ck) (h : At encR w b r cap tl c) (ho : c.Ok B) (i : Int) : Calls Tryz.prog 45 #[.pointer (some ⟨b, 0, none⟩), .int .i64 i] w fun e w' => e = .returned (.bool (c.may i)) ∧ At encR w' b r cap tl (c.drop i) ∧ Only (foot b r) w w' := by
  have HS := Lib.hid (rhas_any w b r cap tl c h i)
  have HA := Lib.hid h
  cases hg : c.get i with
  | none =>
    rw [hg] at HS
    have HN : Hid (c.may i = false) := Lib.hid (by unfold Ck.may; rw [hg])
    clear hg h ho
    go_enter Tryz.func45, Tryz.ntmps45
    go_wp2_with fail
    refine HS.out.mono ?_
    rintro e w' ⟨rfl, rfl⟩
    go_wp2_with fail
    go_ret
    exact ⟨by rw [HN.out]; rfl, by rw [drop_no HN.out]; exact HA.out, Only.refl _ _⟩
  | some f =>
    rw [hg] at HS
    obtain ⟨k, rfl, hlt, hk⟩ := Ck.get_some hg
    have HF : Hid (f.Ok B) := Lib.hid (ho.all k f hk)
    have HK : Hid (c.l[k]? = some f) := Lib.hid hk
    by_cases hc : 0 < f.pins
    · have dc : decide (0 < f.pins) = true := decide_eq_true hc
      have HN : Hid (c.may k = false) := Lib.hid (by unfold Ck.may; rw [hg]; exact (by simp only [Fm.P, dc]; rfl))
      clear hg h ho hk hc
      have b0 := HA.out.blk.cell (i := 0) rfl
      have x1 := HA.out.cell encR_len HK.out (j := 1) rfl
      have hk2 : (k : Int) < (c.l.length : Int) := by omega
      go_enter Tryz.func45, Tryz.ntmps45
      go_wp2_with fail
      refine HS.out.mono ?_
      rintro e w' ⟨rfl, rfl⟩
      go_wp2_with fail
      go_ret
      exact ⟨by rw [HN.out]; rfl, by rw [drop_no HN.out]; exact HA.out, Only.refl _ _⟩
    · have dc : decide (0 < f.pins) = false := decide_eq_false hc
      have HN : Hid (c.may k = true) := Lib.hid (by unfold Ck.may; rw [hg]; exact (by simp only [Fm.P, dc]; rfl))
      have b45 := built95n
      have HY := Lib.hid (drop_yes HN.out)
      clear hg h ho hk hc
      have b0 := HA.out.blk.cell (i := 0) rfl
      have x0 := HA.out.cell encR_len HK.out (j := 0) rfl
      rw [Nat.add_zero] at x0
      have x1 := HA.out.cell encR_len HK.out (j := 1) rfl
      have x2 := HA.out.cell encR_len HK.out (j := 2) rfl
      have hk2 : (k : Int) < (c.l.length : Int) := by omega
      have z0 := HA.out.row.frozen (k * 3)
      have z1 := HA.out.row.frozen (k * 3 + 1)
      have z2 := HA.out.row.frozen (k * 3 + 2)

      go_enter Tryz.func45, Tryz.ntmps45
      go_wp2_with fail
      refine HS.out.mono ?_
      rintro e w' ⟨rfl, rfl⟩
      go_wp2_with fail
      go_ret
      exact ⟨by rw [HN.out]; rfl, by rw [HY.out]; exact HA.out.set3 HK.out rfl, foot3 (Only.refl _ _) _ _ _ _⟩

end Kl
end Go.Proofs.YtaemjglblfencaaGreatDoor
