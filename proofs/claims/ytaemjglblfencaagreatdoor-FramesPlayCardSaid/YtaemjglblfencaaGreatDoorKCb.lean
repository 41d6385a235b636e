/- What turns a clock: Touch, Pin, Unpin, Drop. -/
import Derived.Test.YtaemjglblfencaaGreatDoorKCa
namespace Go.Proofs.YtaemjglblfencaaGreatDoor
namespace Kl
set_option linter.unusedSimpArgs false
set_option linter.unusedVariables false
open Go.RowKit

theorem wrap63 {n : Int} (h0 : 0 ≤ n) (h1 : n < 9223372036854775808) : IntKind.i64.wrap n = n := by rw [IntKind.wrap_i64]; omega
section
variable {c : Ck} {k : Nat} {f : Fm}
theorem touch_yes (h : c.l[k]? = some f) (hK : f.K = true) : c.touch k = { c with l := c.l.set k { f with mark := true } } := by unfold Ck.touch Ck.keyed Ck.turn; simp only [Ck.get_nat, h, hK, if_true, Int.toNat_natCast]
theorem touch_no {i : Int} (h : c.keyed i = false) : c.touch i = c := by unfold Ck.touch; rw [h]; rfl
theorem pin_yes (h : c.l[k]? = some f) (hK : f.K = true) : c.pin k = { c with l := c.l.set k { f with pins := f.pins + 1 } } := by unfold Ck.pin Ck.keyed Ck.turn; simp only [Ck.get_nat, h, hK, if_true, Int.toNat_natCast]
theorem pin_no {i : Int} (h : c.keyed i = false) : c.pin i = c := by unfold Ck.pin; rw [h]; rfl
theorem unpin_yes (h : c.l[k]? = some f) (hK : f.P = true) : c.unpin k = { c with l := c.l.set k { f with pins := f.pins - 1 } } := by unfold Ck.unpin Ck.pinnedAt Ck.turn; simp only [Ck.get_nat, h, hK, if_true, Int.toNat_natCast]
theorem unpin_no {i : Int} (h : c.pinnedAt i = false) : c.unpin i = c := by unfold Ck.unpin; rw [h]; rfl
theorem drop_yes (h : c.may k = true) : c.drop k = { c with l := c.l.set k noFm } := by unfold Ck.drop; rw [if_pos h, Int.toNat_natCast]
theorem drop_no {i : Int} (h : c.may i = false) : c.drop i = c := by unfold Ck.drop; rw [h]; rfl
theorem put_yes {key : Int} (h : c.mayPut k key = true) : c.put k key = { c with l := c.l.set k ⟨key, true, 0⟩ } := by unfold Ck.put; rw [if_pos h, Int.toNat_natCast]
theorem put_no {i key : Int} (h : c.mayPut i key = false) : c.put i key = c := by unfold Ck.put; rw [h]; rfl
end
/-- Four cells laid over a frame's. -/
theorem flat_set4 : ∀ {l : List Fm} {i : Nat} {f g : Fm} {p q s t : Value}, l[i]? = some f → encC g = [p, q, s, t] → ((((l.flatMap encC).set (i * 4) p).set (i * 4 + 1) q).set (i * 4 + 2) s).set (i * 4 + 3) t = (l.set i g).flatMap encC
  | [], i, f, g, p, q, s, t, h, _ => by simp at h
  | x :: r, 0, f, g, p, q, s, t, h, e => by
    rw [List.set_cons_zero, List.flatMap_cons, List.flatMap_cons, e]
    rfl
  | x :: r, i + 1, f, g, p, q, s, t, h, e => by
    rw [List.set_cons_succ, List.flatMap_cons, List.flatMap_cons]
    rw [List.set_append_right _ _ (by rw [encC_len]; omega), encC_len, show (i + 1) * 4 - 4 = i * 4 by omega]
    rw [List.set_append_right _ _ (by rw [encC_len]; omega), encC_len, show (i + 1) * 4 + 1 - 4 = i * 4 + 1 by omega]
    rw [List.set_append_right _ _ (by rw [encC_len]; omega), encC_len, show (i + 1) * 4 + 2 - 4 = i * 4 + 2 by omega]
    rw [List.set_append_right _ _ (by rw [encC_len]; omega), encC_len, show (i + 1) * 4 + 3 - 4 = i * 4 + 3 by omega]
    rw [flat_set4 (by simpa using h) e]
theorem At.set4 {w : World} {b r cap : Nat} {tl : List Value} {c : Ck} (h : At encC w b r cap tl c) {i : Nat} {f g : Fm} {p q s t : Value} (hi : c.l[i]? = some f) (e : encC g = [p, q, s, t]) : At encC ((((w.setCell ⟨r, i * 4, none⟩ p).setCell ⟨r, i * 4 + 1, none⟩ q).setCell ⟨r, i * 4 + 2, none⟩ s).setCell ⟨r, i * 4 + 3, none⟩ t) b r cap tl { c with l := c.l.set i g } := by
  refine ⟨by simpa using (((h.blk.setOther (a := ⟨r, i * 4, none⟩) h.ne p).setOther (a := ⟨r, i * 4 + 1, none⟩) h.ne q).setOther (a := ⟨r, i * 4 + 2, none⟩) h.ne s).setOther (a := ⟨r, i * 4 + 3, none⟩) h.ne t, ?_, h.ne⟩
  have h2 := (((h.row.set (i * 4) p).set (i * 4 + 1) q).set (i * 4 + 2) s).set (i * 4 + 3) t
  have hlt := (List.getElem?_eq_some_iff.1 hi).1
  have hlen := flat_len encC_len c.l
  rw [List.set_append_left _ _ (by omega), List.set_append_left _ _ (by simp only [List.length_set]; omega), List.set_append_left _ _ (by simp only [List.length_set]; omega), List.set_append_left _ _ (by simp only [List.length_set]; omega), flat_set4 hi e] at h2
  exact h2
theorem foot4 {w w1 : World} {b r : Nat} (h : Only (foot b r) w w1) (i : Nat) (p q s t : Value) : Only (foot b r) w ((((w1.setCell ⟨r, i * 4, none⟩ p).setCell ⟨r, i * 4 + 1, none⟩ q).setCell ⟨r, i * 4 + 2, none⟩ s).setCell ⟨r, i * 4 + 3, none⟩ t) :=
  (((h.setCell (.inl (.inr rfl)) _).setCell (.inl (.inr rfl)) _).setCell (.inl (.inr rfl)) _).setCell (.inl (.inr rfl)) _
theorem encC_key {key : Int} (h : decide (0 ≤ key) = true) : encC ⟨key, true, 0⟩ = [.int .i64 key, .bool true, .bool true, .int .i64 0] := by
  have h0 : 0 ≤ key := of_decide_eq_true h
  unfold encC Fm.K
  rw [if_pos h0, decide_eq_true h0]
theorem built90 (key : Int) : Tryz.prog.built 90 [(0, .int .i64 key), (1, .bool true), (2, .bool true)] = some #[.int .i64 key, .bool true, .bool true, .int .i64 0] := by kernel_rfl
theorem built90z : Tryz.prog.built 90 [] = some #[.int .i64 0, .bool false, .bool false, .int .i64 0] := by kernel_rfl
set_option maxRecDepth 100000 in
theorem touch_any {B : Nat} (w : World) (b r cap : Nat) (tl : List Value) (c : Ck) (h : At encC w b r cap tl c) (ho : c.Ok B) (i : Int) : Calls Tryz.prog 39 #[.pointer (some ⟨b, 0, none⟩), .int .i64 i] w fun e w' => e = .returned (.tuple #[]) ∧ At encC w' b r cap tl (c.touch i) ∧ Only (foot b r) w w' := by
  have HW := Lib.hid (what_any w b r cap tl c h ho i)
  have HA := Lib.hid h
  have flk := field87k
  cases hg : c.get i with
  | none =>
    rw [hg] at HW
    have HN : Hid (c.keyed i = false) := Lib.hid (by unfold Ck.keyed; rw [hg])
    simp only [traits] at HW
    clear hg h ho
    go_enter Tryz.func39, Tryz.ntmps39
    go_wp2_with fail
    refine HW.out.mono ?_
    rintro e w1 ⟨rfl, hb⟩
    have HB := Lib.hid hb
    clear hb
    go_wp2_with fail
    first | refine bodyPost_end (results_none rfl _ _ _) rfl ?_ | refine bodyPost_ret (results_none rfl _ _ _) rfl ?_
    exact ⟨rfl, by rw [touch_no HN.out]; exact HA.out.below HB.out, .of_below HB.out⟩
  | some f =>
    rw [hg] at HW
    obtain ⟨k, rfl, hlt, hk⟩ := Ck.get_some hg
    have HF : Hid (f.Ok B) := Lib.hid (ho.all k f hk)
    have HK : Hid (c.l[k]? = some f) := Lib.hid hk
    simp only [traits] at HW
    cases hb : f.K with
    | false =>
      rw [hb] at HW
      have HN : Hid (c.keyed k = false) := Lib.hid (by unfold Ck.keyed; rw [hg]; exact hb)
      clear hg h ho hk hb HF
      generalize f.P = ob at *
      go_enter Tryz.func39, Tryz.ntmps39
      go_wp2_with fail
      refine HW.out.mono ?_
      rintro e w1 ⟨rfl, hb⟩
      have HB := Lib.hid hb
      clear hb
      go_wp2_with fail
      first | refine bodyPost_end (results_none rfl _ _ _) rfl ?_ | refine bodyPost_ret (results_none rfl _ _ _) rfl ?_
      exact ⟨rfl, by rw [touch_no HN.out]; exact HA.out.below HB.out, .of_below HB.out⟩
    | true =>
      rw [hb] at HW
      have HN : Hid (c.keyed k = true) := Lib.hid (by unfold Ck.keyed; rw [hg]; exact hb)
      have HY := Lib.hid (touch_yes hk hb)
      clear hg h ho hk hb
      generalize f.P = ob at *
      go_enter Tryz.func39, Tryz.ntmps39
      go_wp2_with fail
      refine HW.out.mono ?_
      rintro e w1 ⟨rfl, hb⟩
      have HB := Lib.hid hb
      have h2 := HA.out.below hb
      have b0 := h2.blk.cell (i := 0) rfl
      have x2 := h2.cell encC_len HK.out (j := 2) rfl
      have z2 := h2.row.frozen (k * 4 + 2)
      have hk2 : (k : Int) < (c.l.length : Int) := by omega

      clear hb h2
      go_wp2_with fail
      first | refine bodyPost_end (results_none rfl _ _ _) rfl ?_ | refine bodyPost_ret (results_none rfl _ _ _) rfl ?_
      exact ⟨rfl, by rw [HY.out]; exact (HA.out.below HB.out).set encC_len HK.out (j := 2) (by omega) rfl, (Only.of_below HB.out).setCell (.inl (.inr rfl)) _⟩
set_option maxRecDepth 100000 in
theorem pin_any {B : Nat} (w : World) (b r cap : Nat) (tl : List Value) (c : Ck) (h : At encC w b r cap tl c) (ho : c.Ok B) (hB : B ≤ 1000000) (i : Int) : Calls Tryz.prog 20 #[.pointer (some ⟨b, 0, none⟩), .int .i64 i] w fun e w' => e = .returned (.bool (c.keyed i)) ∧ At encC w' b r cap tl (c.pin i) ∧ Only (foot b r) w w' := by
  have HW := Lib.hid (what_any w b r cap tl c h ho i)
  have HA := Lib.hid h
  have HB6 := Lib.hid hB
  clear hB
  have flk := field87k
  cases hg : c.get i with
  | none =>
    rw [hg] at HW
    have HN : Hid (c.keyed i = false) := Lib.hid (by unfold Ck.keyed; rw [hg])
    simp only [traits] at HW
    clear hg h ho
    go_enter Tryz.func20, Tryz.ntmps20
    go_wp2_with fail
    refine HW.out.mono ?_
    rintro e w1 ⟨rfl, hb⟩
    have HB := Lib.hid hb
    clear hb
    go_wp2_with fail
    go_ret
    exact ⟨by rw [HN.out]; rfl, by rw [pin_no HN.out]; exact HA.out.below HB.out, .of_below HB.out⟩
  | some f =>
    rw [hg] at HW
    obtain ⟨k, rfl, hlt, hk⟩ := Ck.get_some hg
    have HF : Hid (f.Ok B) := Lib.hid (ho.all k f hk)
    have HK : Hid (c.l[k]? = some f) := Lib.hid hk
    simp only [traits] at HW
    cases hb : f.K with
    | false =>
      rw [hb] at HW
      have HN : Hid (c.keyed k = false) := Lib.hid (by unfold Ck.keyed; rw [hg]; exact hb)
      clear hg h ho hk hb HF
      generalize f.P = ob at *
      go_enter Tryz.func20, Tryz.ntmps20
      go_wp2_with fail
      refine HW.out.mono ?_
      rintro e w1 ⟨rfl, hb⟩
      have HB := Lib.hid hb
      clear hb
      go_wp2_with fail
      go_ret
      exact ⟨by rw [HN.out]; rfl, by rw [pin_no HN.out]; exact HA.out.below HB.out, .of_below HB.out⟩
    | true =>
      rw [hb] at HW
      have HN : Hid (c.keyed k = true) := Lib.hid (by unfold Ck.keyed; rw [hg]; exact hb)
      have HY := Lib.hid (pin_yes hk hb)
      clear hg h ho hk hb
      generalize f.P = ob at *
      go_enter Tryz.func20, Tryz.ntmps20
      go_wp2_with fail
      refine HW.out.mono ?_
      rintro e w1 ⟨rfl, hb⟩
      have HB := Lib.hid hb
      have h2 := HA.out.below hb
      have b0 := h2.blk.cell (i := 0) rfl
      have x3 := h2.cell encC_len HK.out (j := 3) rfl
      have z3 := h2.row.frozen (k * 4 + 3)
      have hk2 : (k : Int) < (c.l.length : Int) := by omega
      have gw : IntKind.i64.wrap (f.pins + 1) = f.pins + 1 := wrap63 (by have := HF.out.p0; omega) (by have := HF.out.p1; have := HB6.out; omega)
      clear hb h2
      go_wp2_with fail
      go_ret
      exact ⟨by rw [HN.out]; rfl, by rw [HY.out]; exact (HA.out.below HB.out).set encC_len HK.out (j := 3) (by omega) rfl, (Only.of_below HB.out).setCell (.inl (.inr rfl)) _⟩
set_option maxRecDepth 100000 in
theorem unpin_any {B : Nat} (w : World) (b r cap : Nat) (tl : List Value) (c : Ck) (h : At encC w b r cap tl c) (ho : c.Ok B) (hB : B ≤ 1000000) (i : Int) : Calls Tryz.prog 22 #[.pointer (some ⟨b, 0, none⟩), .int .i64 i] w fun e w' => e = .returned (.bool (c.pinnedAt i)) ∧ At encC w' b r cap tl (c.unpin i) ∧ Only (foot b r) w w' := by
  have HW := Lib.hid (what_any w b r cap tl c h ho i)
  have HA := Lib.hid h
  have HB6 := Lib.hid hB
  clear hB
  have flp := field87p
  cases hg : c.get i with
  | none =>
    rw [hg] at HW
    have HN : Hid (c.pinnedAt i = false) := Lib.hid (by unfold Ck.pinnedAt; rw [hg])
    simp only [traits] at HW
    clear hg h ho
    go_enter Tryz.func22, Tryz.ntmps22
    go_wp2_with fail
    refine HW.out.mono ?_
    rintro e w1 ⟨rfl, hb⟩
    have HB := Lib.hid hb
    clear hb
    go_wp2_with fail
    go_ret
    exact ⟨by rw [HN.out]; rfl, by rw [unpin_no HN.out]; exact HA.out.below HB.out, .of_below HB.out⟩
  | some f =>
    rw [hg] at HW
    obtain ⟨k, rfl, hlt, hk⟩ := Ck.get_some hg
    have HF : Hid (f.Ok B) := Lib.hid (ho.all k f hk)
    have HK : Hid (c.l[k]? = some f) := Lib.hid hk
    simp only [traits] at HW
    cases hb : f.P with
    | false =>
      rw [hb] at HW
      have HN : Hid (c.pinnedAt k = false) := Lib.hid (by unfold Ck.pinnedAt; rw [hg]; exact hb)
      clear hg h ho hk hb HF
      generalize f.K = ob at *
      go_enter Tryz.func22, Tryz.ntmps22
      go_wp2_with fail
      refine HW.out.mono ?_
      rintro e w1 ⟨rfl, hb⟩
      have HB := Lib.hid hb
      clear hb
      go_wp2_with fail
      go_ret
      exact ⟨by rw [HN.out]; rfl, by rw [unpin_no HN.out]; exact HA.out.below HB.out, .of_below HB.out⟩
    | true =>
      rw [hb] at HW
      have HN : Hid (c.pinnedAt k = true) := Lib.hid (by unfold Ck.pinnedAt; rw [hg]; exact hb)
      have HQ : Hid (0 < f.pins) := Lib.hid (by simpa [Fm.P] using hb)
      have HY := Lib.hid (unpin_yes hk hb)
      clear hg h ho hk hb
      generalize f.K = ob at *
      go_enter Tryz.func22, Tryz.ntmps22
      go_wp2_with fail
      refine HW.out.mono ?_
      rintro e w1 ⟨rfl, hb⟩
      have HB := Lib.hid hb
      have h2 := HA.out.below hb
      have b0 := h2.blk.cell (i := 0) rfl
      have x3 := h2.cell encC_len HK.out (j := 3) rfl
      have z3 := h2.row.frozen (k * 4 + 3)
      have hk2 : (k : Int) < (c.l.length : Int) := by omega
      have gw : IntKind.i64.wrap (f.pins - 1) = f.pins - 1 := wrap63 (by have := HF.out.p0; have := HQ.out; omega) (by have := HF.out.p1; have := HB6.out; omega)
      clear hb h2
      go_wp2_with fail
      go_ret
      exact ⟨by rw [HN.out]; rfl, by rw [HY.out]; exact (HA.out.below HB.out).set encC_len HK.out (j := 3) (by omega) rfl, (Only.of_below HB.out).setCell (.inl (.inr rfl)) _⟩
set_option maxRecDepth 100000 in
theorem drop_any {B : Nat} (w : World) (b r cap : Nat) (tl : List Value) (c : Ck) (h : At encC w b r cap tl c) (ho : c.Ok B) (i : Int) : Calls Tryz.prog 43 #[.pointer (some ⟨b, 0, none⟩), .int .i64 i] w fun e w' => e = .returned (.bool (c.may i)) ∧ At encC w' b r cap tl (c.drop i) ∧ Only (foot b r) w w' := by
  have HW := Lib.hid (may_any w b r cap tl c h ho i)
  have HA := Lib.hid h
  have bz := built90z
  cases hm : c.may i with
  | false =>
    rw [hm] at HW
    have HN := Lib.hid hm
    clear h ho hm
    go_enter Tryz.func43, Tryz.ntmps43
    go_wp2_with fail
    refine HW.out.mono ?_
    rintro e w1 ⟨rfl, hb⟩
    have HB := Lib.hid hb
    clear hb
    go_wp2_with fail
    go_ret
    exact ⟨rfl, by rw [drop_no HN.out]; exact HA.out.below HB.out, .of_below HB.out⟩
  | true =>
    rw [hm] at HW
    have HN := Lib.hid hm
    unfold Ck.may at hm
    cases hg : c.get i with
    | none => rw [hg] at hm; cases hm
    | some f =>
    obtain ⟨k, rfl, hlt, hk⟩ := Ck.get_some hg
    have HK := Lib.hid hk
    have HY := Lib.hid (drop_yes HN.out)
    clear h ho hm hg hk
    go_enter Tryz.func43, Tryz.ntmps43
    go_wp2_with fail
    refine HW.out.mono ?_
    rintro e w1 ⟨rfl, hb⟩
    have HB := Lib.hid hb
    have h2 := HA.out.below hb
    have b0 := h2.blk.cell (i := 0) rfl
    have x0 := h2.cell encC_len HK.out (j := 0) rfl
    rw [Nat.add_zero] at x0
    have x1 := h2.cell encC_len HK.out (j := 1) rfl
    have x2 := h2.cell encC_len HK.out (j := 2) rfl
    have x3 := h2.cell encC_len HK.out (j := 3) rfl
    have z0 := h2.row.frozen (k * 4)
    have z1 := h2.row.frozen (k * 4 + 1)
    have z2 := h2.row.frozen (k * 4 + 2)
    have z3 := h2.row.frozen (k * 4 + 3)
    have hk2 : (k : Int) < (c.l.length : Int) := by omega
    clear hb h2
    go_wp2_with fail
    go_ret
    exact ⟨rfl, by rw [HY.out]; exact (HA.out.below HB.out).set4 HK.out rfl, foot4 (.of_below HB.out) _ _ _ _ _⟩
set_option maxRecDepth 100000 in
theorem put_any {B : Nat} (w : World) (b r cap : Nat) (tl : List Value) (c : Ck) (h : At encC w b r cap tl c) (ho : c.Ok B) (i key : Int) : Calls Tryz.prog 53 #[.pointer (some ⟨b, 0, none⟩), .int .i64 i, .int .i64 key] w fun e w' => e = .returned (.bool (c.mayPut i key)) ∧ At encC w' b r cap tl (c.put i key) ∧ Only (foot b r) w w' := by
  have HW := Lib.hid (may_any w b r cap tl c h ho i)
  have HA := Lib.hid h
  have HO := Lib.hid ho
  have bz := built90 key
  by_cases h0 : key < 0
  · have dk : decide (key < 0) = true := decide_eq_true h0
    have HN : Hid (c.mayPut i key = false) := Lib.hid (by unfold Ck.mayPut; rw [decide_eq_false (by omega)]; rfl)
    clear h ho h0
    go_enter Tryz.func53, Tryz.ntmps53
    go_wp2_with fail
    go_ret
    exact ⟨by rw [HN.out]; rfl, by rw [put_no HN.out]; exact HA.out, Only.refl _ _⟩
  have dk : decide (key < 0) = false := decide_eq_false h0
  have HK0 : Hid (decide (0 ≤ key) = true) := Lib.hid (decide_eq_true (by omega))
  clear h0
  cases hm : c.may i with
  | false =>
    rw [hm] at HW
    have HN : Hid (c.mayPut i key = false) := Lib.hid (by unfold Ck.mayPut; rw [hm, HK0.out]; rfl)
    clear h ho hm
    go_enter Tryz.func53, Tryz.ntmps53
    go_wp2_with fail
    refine HW.out.mono ?_
    rintro e w1 ⟨rfl, hb⟩
    have HB := Lib.hid hb
    clear hb
    go_wp2_with fail
    go_ret
    exact ⟨by rw [HN.out]; rfl, by rw [put_no HN.out]; exact HA.out.below HB.out, .of_below HB.out⟩
  | true =>
    rw [hm] at HW
    have HM := Lib.hid hm
    unfold Ck.may at hm
    cases hg : c.get i with
    | none => rw [hg] at hm; cases hm
    | some f =>
    obtain ⟨k, rfl, hlt, hk⟩ := Ck.get_some hg
    have HK := Lib.hid hk
    clear h ho hm hg hk
    cases hf : c.find key with
    | none =>
      have HN : Hid (c.mayPut k key = true) := Lib.hid (by unfold Ck.mayPut; rw [HM.out, HK0.out, hf]; rfl)
      have HY := Lib.hid (put_yes HN.out)
      have HR : Hid (findR (c.find key) = .tuple #[.int .i64 0, .bool false]) := Lib.hid (by rw [hf]; rfl)
      clear hf
      go_enter Tryz.func53, Tryz.ntmps53
      go_wp2_with fail
      refine HW.out.mono ?_
      rintro e w1 ⟨rfl, hb⟩
      have HB := Lib.hid hb
      clear hb
      go_wp2_with fail
      refine (find_any w1 b r cap tl c (HA.out.below HB.out) HO.out key).mono ?_
      rintro e w2 ⟨rfl, hb⟩
      rw [HR.out]
      have HB2 := Lib.hid (stay HB.out hb)
      have h2 := HA.out.below HB2.out
      have b0 := h2.blk.cell (i := 0) rfl
      have x0 := h2.cell encC_len HK.out (j := 0) rfl
      rw [Nat.add_zero] at x0
      have x1 := h2.cell encC_len HK.out (j := 1) rfl
      have x2 := h2.cell encC_len HK.out (j := 2) rfl
      have x3 := h2.cell encC_len HK.out (j := 3) rfl
      have z0 := h2.row.frozen (k * 4)
      have z1 := h2.row.frozen (k * 4 + 1)
      have z2 := h2.row.frozen (k * 4 + 2)
      have z3 := h2.row.frozen (k * 4 + 3)
      have hk2 : (k : Int) < (c.l.length : Int) := by omega
      clear hb h2
      go_wp2_with fail
      go_ret
      exact ⟨by rw [HN.out]; rfl, by rw [HY.out]; exact (HA.out.below HB2.out).set4 HK.out (encC_key HK0.out), foot4 (.of_below HB2.out) _ _ _ _ _⟩
    | some q =>
      have HR : Hid (findR (c.find key) = .tuple #[.int .i64 q, .bool true]) := Lib.hid (by rw [hf]; rfl)
      by_cases hq : q = k
      · have HN : Hid (c.mayPut k key = true) := Lib.hid (by unfold Ck.mayPut; rw [HM.out, HK0.out, hf]; simp [hq])
        have HY := Lib.hid (put_yes HN.out)
        have HR2 : Hid (findR (c.find key) = .tuple #[.int .i64 k, .bool true]) := Lib.hid (by rw [hf, hq]; rfl)
        clear hf hq HR
        go_enter Tryz.func53, Tryz.ntmps53
        go_wp2_with fail
        refine HW.out.mono ?_
        rintro e w1 ⟨rfl, hb⟩
        have HB := Lib.hid hb
        clear hb
        go_wp2_with fail
        refine (find_any w1 b r cap tl c (HA.out.below HB.out) HO.out key).mono ?_
        rintro e w2 ⟨rfl, hb⟩
        rw [HR2.out]
        have HB2 := Lib.hid (stay HB.out hb)
        have h2 := HA.out.below HB2.out
        have b0 := h2.blk.cell (i := 0) rfl
        have x0 := h2.cell encC_len HK.out (j := 0) rfl
        rw [Nat.add_zero] at x0
        have x1 := h2.cell encC_len HK.out (j := 1) rfl
        have x2 := h2.cell encC_len HK.out (j := 2) rfl
        have x3 := h2.cell encC_len HK.out (j := 3) rfl
        have z0 := h2.row.frozen (k * 4)
        have z1 := h2.row.frozen (k * 4 + 1)
        have z2 := h2.row.frozen (k * 4 + 2)
        have z3 := h2.row.frozen (k * 4 + 3)
        have hk2 : (k : Int) < (c.l.length : Int) := by omega
        clear hb h2
        go_wp2_with fail
        go_ret
        exact ⟨by rw [HN.out]; rfl, by rw [HY.out]; exact (HA.out.below HB2.out).set4 HK.out (encC_key HK0.out), foot4 (.of_below HB2.out) _ _ _ _ _⟩
      · have hq2 : ¬ (q : Int) = (k : Int) := by omega
        have HN : Hid (c.mayPut k key = false) := Lib.hid (by unfold Ck.mayPut; rw [HM.out, HK0.out, hf]; simp only [hq2]; rfl)
        have hne : ((q : Int) == (k : Int)) = false := by simp only [beq_eq_false_iff_ne]; exact hq2
        clear hq2
        clear hf hq
        go_enter Tryz.func53, Tryz.ntmps53
        go_wp2_with fail
        refine HW.out.mono ?_
        rintro e w1 ⟨rfl, hb⟩
        have HB := Lib.hid hb
        clear hb
        go_wp2_with fail
        refine (find_any w1 b r cap tl c (HA.out.below HB.out) HO.out key).mono ?_
        rintro e w2 ⟨rfl, hb⟩
        rw [HR.out]
        have HB2 := Lib.hid (stay HB.out hb)
        clear hb
        go_wp2_with fail
        go_ret
        exact ⟨by rw [HN.out]; rfl, by rw [put_no HN.out]; exact HA.out.below HB2.out, .of_below HB2.out⟩

end Kl
end Go.Proofs.YtaemjglblfencaaGreatDoor
