/- The statements own clock: put, how many pinned, the victim. -/
import Derived.Test.YtaemjglblfencaaGreatDoorKRb
namespace Go.Proofs.YtaemjglblfencaaGreatDoor
namespace Kl
set_option linter.unusedSimpArgs false
set_option linter.unusedVariables false
open Go.RowKit

set_option maxRecDepth 100000 in
theorem rput_any {B : Nat} (w : World) (b r cap : Nat) (tl : List Value) (c : Ck) (h : At encR w b r cap tl c) (ho : c.Ok B) (i key : Int) : Calls Tryz.prog 54 #[.pointer (some ⟨b, 0, none⟩), .int .i64 i, .int .i64 key] w fun e w' => e = .returned (.bool (c.mayPut i key)) ∧ At encR w' b r cap tl (c.put i key) ∧ Only (foot b r) w w' := by
  have HS := Lib.hid (rhas_any w b r cap tl c h i)
  have HA := Lib.hid h
  have HO := Lib.hid ho
  have b45 := built95p key
  cases hg : c.get i with
  | none =>
    rw [hg] at HS
    have HN : Hid (c.mayPut i key = false) := Lib.hid (by unfold Ck.mayPut Ck.may; rw [hg]; simp)
    clear hg h ho
    go_enter Tryz.func54, Tryz.ntmps54
    go_wp2_with fail
    refine HS.out.mono ?_
    rintro e w' ⟨rfl, rfl⟩
    go_wp2_with fail
    go_ret
    exact ⟨by rw [HN.out]; rfl, by rw [put_no HN.out]; exact HA.out, Only.refl _ _⟩
  | some f =>
    rw [hg] at HS
    obtain ⟨k, rfl, hlt, hk⟩ := Ck.get_some hg
    have HF : Hid (f.Ok B) := Lib.hid (ho.all k f hk)
    have HK : Hid (c.l[k]? = some f) := Lib.hid hk
    have HG := Lib.hid hg
    clear h ho hk hg
    by_cases hc : 0 < f.pins
    · have dc : decide (0 < f.pins) = true := decide_eq_true hc
      have HN : Hid (c.mayPut k key = false) := Lib.hid (by unfold Ck.mayPut Ck.may; rw [HG.out]; simp [Fm.P, hc])
      clear hc
      have b0 := HA.out.blk.cell (i := 0) rfl
      have x1 := HA.out.cell encR_len HK.out (j := 1) rfl
      have hk2 : (k : Int) < (c.l.length : Int) := by omega
      go_enter Tryz.func54, Tryz.ntmps54
      go_wp2_with fail
      refine HS.out.mono ?_
      rintro e w' ⟨rfl, rfl⟩
      go_wp2_with fail
      go_ret
      exact ⟨by rw [HN.out]; rfl, by rw [put_no HN.out]; exact HA.out, Only.refl _ _⟩
    · have dc : decide (0 < f.pins) = false := decide_eq_false hc
      have HM : Hid (c.may k = true) := Lib.hid (by unfold Ck.may; rw [HG.out]; simp [Fm.P, hc])
      clear hc
      by_cases h0 : key < 0
      · have dk : decide (key < 0) = true := decide_eq_true h0
        have HN : Hid (c.mayPut k key = false) := Lib.hid (by unfold Ck.mayPut; rw [decide_eq_false (by omega)]; rfl)
        clear h0
        have b0 := HA.out.blk.cell (i := 0) rfl
        have x1 := HA.out.cell encR_len HK.out (j := 1) rfl
        have hk2 : (k : Int) < (c.l.length : Int) := by omega
        go_enter Tryz.func54, Tryz.ntmps54
        go_wp2_with fail
        refine HS.out.mono ?_
        rintro e w' ⟨rfl, rfl⟩
        go_wp2_with fail
        go_ret
        exact ⟨by rw [HN.out]; rfl, by rw [put_no HN.out]; exact HA.out, Only.refl _ _⟩
      · have dk : decide (key < 0) = false := decide_eq_false h0
        have HK0 : Hid (decide (0 ≤ key) = true) := Lib.hid (decide_eq_true (by omega))
        clear h0
        have HFD := Lib.hid (rfind_any w b r cap tl c HA.out HO.out key)
        cases hf : c.find key with
        | none =>
          rw [hf] at HFD
          simp only [findI] at HFD
          have HN : Hid (c.mayPut k key = true) := Lib.hid (by unfold Ck.mayPut; rw [HM.out, HK0.out, hf]; rfl)
          have HY := Lib.hid (put_yes HN.out)
          clear hf
          have b0 := HA.out.blk.cell (i := 0) rfl
          have x0 := HA.out.cell encR_len HK.out (j := 0) rfl
          rw [Nat.add_zero] at x0
          have x1 := HA.out.cell encR_len HK.out (j := 1) rfl
          have x2 := HA.out.cell encR_len HK.out (j := 2) rfl
          have hk2 : (k : Int) < (c.l.length : Int) := by omega
          have z0 := HA.out.row.frozen (k * 3)
          have z1 := HA.out.row.frozen (k * 3 + 1)
          have z2 := HA.out.row.frozen (k * 3 + 2)
          go_enter Tryz.func54, Tryz.ntmps54
          go_wp2_with fail
          refine HS.out.mono ?_
          rintro e w' ⟨rfl, rfl⟩
          go_wp2_with fail
          refine HFD.out.mono ?_
          rintro e w' ⟨rfl, rfl⟩
          go_wp2_with fail
          go_ret
          exact ⟨by rw [HN.out]; rfl, by rw [HY.out]; exact HA.out.set3 HK.out rfl, foot3 (Only.refl _ _) _ _ _ _⟩
        | some q =>
          rw [hf] at HFD
          simp only [findI] at HFD
          have dq : decide (0 ≤ (q : Int)) = true := decide_eq_true (by omega)
          by_cases hq : q = k
          · have HN : Hid (c.mayPut k key = true) := Lib.hid (by unfold Ck.mayPut; rw [HM.out, HK0.out, hf]; simp [hq])
            have HY := Lib.hid (put_yes HN.out)
            rw [hq] at HFD dq
            clear hf hq
            have b0 := HA.out.blk.cell (i := 0) rfl
            have x0 := HA.out.cell encR_len HK.out (j := 0) rfl
            rw [Nat.add_zero] at x0
            have x1 := HA.out.cell encR_len HK.out (j := 1) rfl
            have x2 := HA.out.cell encR_len HK.out (j := 2) rfl
            have hk2 : (k : Int) < (c.l.length : Int) := by omega
            have z0 := HA.out.row.frozen (k * 3)
            have z1 := HA.out.row.frozen (k * 3 + 1)
            have z2 := HA.out.row.frozen (k * 3 + 2)
            go_enter Tryz.func54, Tryz.ntmps54
            go_wp2_with fail
            refine HS.out.mono ?_
            rintro e w' ⟨rfl, rfl⟩
            go_wp2_with fail
            refine HFD.out.mono ?_
            rintro e w' ⟨rfl, rfl⟩
            go_wp2_with fail
            go_ret
            exact ⟨by rw [HN.out]; rfl, by rw [HY.out]; exact HA.out.set3 HK.out rfl, foot3 (Only.refl _ _) _ _ _ _⟩
          · have hq2 : ¬ (q : Int) = (k : Int) := by omega
            have HN : Hid (c.mayPut k key = false) := Lib.hid (by unfold Ck.mayPut; rw [HM.out, HK0.out, hf]; simp only [hq2]; rfl)
            have hne : ((q : Int) == (k : Int)) = false := by simp only [beq_eq_false_iff_ne]; exact hq2
            clear hf hq hq2
            have b0 := HA.out.blk.cell (i := 0) rfl
            have x1 := HA.out.cell encR_len HK.out (j := 1) rfl
            have hk2 : (k : Int) < (c.l.length : Int) := by omega
            go_enter Tryz.func54, Tryz.ntmps54
            go_wp2_with fail
            refine HS.out.mono ?_
            rintro e w' ⟨rfl, rfl⟩
            go_wp2_with fail
            refine HFD.out.mono ?_
            rintro e w' ⟨rfl, rfl⟩
            go_wp2_with fail
            go_ret
            exact ⟨by rw [HN.out]; rfl, by rw [put_no HN.out]; exact HA.out, Only.refl _ _⟩
theorem _root_.Go.Proofs.YtaemjglblfencaaGreatDoor.Only.drew' {S : Nat → Prop} {a w : World} (h : Only S a w) : Only S a w.drew := h.drew
end Kl
end Go.Proofs.YtaemjglblfencaaGreatDoor
