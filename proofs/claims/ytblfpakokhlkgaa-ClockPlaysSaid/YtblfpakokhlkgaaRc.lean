/- The statements own clock: put, how many pinned, the victim. -/
import Derived.Test.YtblfpakokhlkgaaRb
namespace Go.Proofs.Ytblfpakokhlkgaa
set_option linter.unusedSimpArgs false
set_option linter.unusedVariables false
open Go.RowKit

set_option maxRecDepth 100000 in
theorem rput_any {B : Nat} (w : World) (b r cap : Nat) (tl : List Value) (c : Ck) (h : At encR w b r cap tl c) (ho : c.Ok B) (i key : Int) : Calls Try.prog 14 #[.pointer (some ⟨b, 0, none⟩), .int .i64 i, .int .i64 key] w fun e w' => e = .returned (.bool (c.mayPut i key)) ∧ At encR w' b r cap tl (c.put i key) ∧ Only (foot b r) w w' := by
  have HS := Lib.hid (rhas_any w b r cap tl c h i)
  have HA := Lib.hid h
  have HO := Lib.hid ho
  have b45 := built45p key
  cases hg : c.get i with
  | none =>
    rw [hg] at HS
    have HN : Hid (c.mayPut i key = false) := Lib.hid (by unfold Ck.mayPut Ck.may; rw [hg]; simp)
    clear hg h ho
    go_enter Try.func14, Try.ntmps14
    go_wp2_with fail
    refine HS.out.mono ?_
    rintro e w' ⟨rfl, rfl⟩
    go_wp2_with fail
    go_ret
    exact ⟨by rw [HN.out]; rfl, by rw [put_no HN.out]; exact HA.out, Only.refl _ _⟩
  | some f =>
    rw [hg] at HS
    obtain ⟨k, rfl, hlt, hk⟩ := Ck.get_some hg
    have HF : Hid (f.Ok B) := Lib.hid (ho.all k f hk)
    have HK : Hid (c.l[k]? = some f) := Lib.hid hk
    have HG := Lib.hid hg
    clear h ho hk hg
    by_cases hc : 0 < f.pins
    · have dc : decide (0 < f.pins) = true := decide_eq_true hc
      have HN : Hid (c.mayPut k key = false) := Lib.hid (by unfold Ck.mayPut Ck.may; rw [HG.out]; simp [Fm.P, hc])
      clear hc
      have b0 := HA.out.blk.cell (i := 0) rfl
      have x1 := HA.out.cell encR_len HK.out (j := 1) rfl
      have hk2 : (k : Int) < (c.l.length : Int) := by omega
      go_enter Try.func14, Try.ntmps14
      go_wp2_with fail
      refine HS.out.mono ?_
      rintro e w' ⟨rfl, rfl⟩
      go_wp2_with fail
      go_ret
      exact ⟨by rw [HN.out]; rfl, by rw [put_no HN.out]; exact HA.out, Only.refl _ _⟩
    · have dc : decide (0 < f.pins) = false := decide_eq_false hc
      have HM : Hid (c.may k = true) := Lib.hid (by unfold Ck.may; rw [HG.out]; simp [Fm.P, hc])
      clear hc
      by_cases h0 : key < 0
      · have dk : decide (key < 0) = true := decide_eq_true h0
        have HN : Hid (c.mayPut k key = false) := Lib.hid (by unfold Ck.mayPut; rw [decide_eq_false (by omega)]; rfl)
        clear h0
        have b0 := HA.out.blk.cell (i := 0) rfl
        have x1 := HA.out.cell encR_len HK.out (j := 1) rfl
        have hk2 : (k : Int) < (c.l.length : Int) := by omega
        go_enter Try.func14, Try.ntmps14
        go_wp2_with fail
        refine HS.out.mono ?_
        rintro e w' ⟨rfl, rfl⟩
        go_wp2_with fail
        go_ret
        exact ⟨by rw [HN.out]; rfl, by rw [put_no HN.out]; exact HA.out, Only.refl _ _⟩
      · have dk : decide (key < 0) = false := decide_eq_false h0
        have HK0 : Hid (decide (0 ≤ key) = true) := Lib.hid (decide_eq_true (by omega))
        clear h0
        have HFD := Lib.hid (rfind_any w b r cap tl c HA.out HO.out key)
        cases hf : c.find key with
        | none =>
          rw [hf] at HFD
          simp only [findI] at HFD
          have HN : Hid (c.mayPut k key = true) := Lib.hid (by unfold Ck.mayPut; rw [HM.out, HK0.out, hf]; rfl)
          have HY := Lib.hid (put_yes HN.out)
          clear hf
          have b0 := HA.out.blk.cell (i := 0) rfl
          have x0 := HA.out.cell encR_len HK.out (j := 0) rfl
          rw [Nat.add_zero] at x0
          have x1 := HA.out.cell encR_len HK.out (j := 1) rfl
          have x2 := HA.out.cell encR_len HK.out (j := 2) rfl
          have hk2 : (k : Int) < (c.l.length : Int) := by omega
          have z0 := HA.out.row.frozen (k * 3)
          have z1 := HA.out.row.frozen (k * 3 + 1)
          have z2 := HA.out.row.frozen (k * 3 + 2)
          go_enter Try.func14, Try.ntmps14
          go_wp2_with fail
          refine HS.out.mono ?_
          rintro e w' ⟨rfl, rfl⟩
          go_wp2_with fail
          refine HFD.out.mono ?_
          rintro e w' ⟨rfl, rfl⟩
          go_wp2_with fail
          go_ret
          exact ⟨by rw [HN.out]; rfl, by rw [HY.out]; exact HA.out.set3 HK.out rfl, foot3 (Only.refl _ _) _ _ _ _⟩
        | some q =>
          rw [hf] at HFD
          simp only [findI] at HFD
          have dq : decide (0 ≤ (q : Int)) = true := decide_eq_true (by omega)
          by_cases hq : q = k
          · have HN : Hid (c.mayPut k key = true) := Lib.hid (by unfold Ck.mayPut; rw [HM.out, HK0.out, hf]; simp [hq])
            have HY := Lib.hid (put_yes HN.out)
            rw [hq] at HFD dq
            clear hf hq
            have b0 := HA.out.blk.cell (i := 0) rfl
            have x0 := HA.out.cell encR_len HK.out (j := 0) rfl
            rw [Nat.add_zero] at x0
            have x1 := HA.out.cell encR_len HK.out (j := 1) rfl
            have x2 := HA.out.cell encR_len HK.out (j := 2) rfl
            have hk2 : (k : Int) < (c.l.length : Int) := by omega
            have z0 := HA.out.row.frozen (k * 3)
            have z1 := HA.out.row.frozen (k * 3 + 1)
            have z2 := HA.out.row.frozen (k * 3 + 2)
            go_enter Try.func14, Try.ntmps14
            go_wp2_with fail
            refine HS.out.mono ?_
            rintro e w' ⟨rfl, rfl⟩
            go_wp2_with fail
            refine HFD.out.mono ?_
            rintro e w' ⟨rfl, rfl⟩
            go_wp2_with fail
            go_ret
            exact ⟨by rw [HN.out]; rfl, by rw [HY.out]; exact HA.out.set3 HK.out rfl, foot3 (Only.refl _ _) _ _ _ _⟩
          · have hq2 : ¬ (q : Int) = (k : Int) := by omega
            have HN : Hid (c.mayPut k key = false) := Lib.hid (by unfold Ck.mayPut; rw [HM.out, HK0.out, hf]; simp only [hq2]; rfl)
            have hne : ((q : Int) == (k : Int)) = false := by simp only [beq_eq_false_iff_ne]; exact hq2
            clear hf hq hq2
            have b0 := HA.out.blk.cell (i := 0) rfl
            have x1 := HA.out.cell encR_len HK.out (j := 1) rfl
            have hk2 : (k : Int) < (c.l.length : Int) := by omega
            go_enter Try.func14, Try.ntmps14
            go_wp2_with fail
            refine HS.out.mono ?_
            rintro e w' ⟨rfl, rfl⟩
            go_wp2_with fail
            refine HFD.out.mono ?_
            rintro e w' ⟨rfl, rfl⟩
            go_wp2_with fail
            go_ret
            exact ⟨by rw [HN.out]; rfl, by rw [put_no HN.out]; exact HA.out, Only.refl _ _⟩
set_option maxRecDepth 100000 in
theorem rpinned_any {B : Nat} (w : World) (b r cap : Nat) (tl : List Value) (c : Ck) (h : At encR w b r cap tl c) (ho : c.Ok B)  : Calls Try.prog 26 #[.pointer (some ⟨b, 0, none⟩)] w fun e w' => e = .returned (.int .i64 c.pinned) ∧ w = w' := by
  have HA := Lib.hid h
  have hn1 := ho.n1
  have b0 := h.blk.cell (i := 0) rfl
  unfold Ck.pinned
  clear h ho
  go_enter Try.func26, Try.ntmps26
  go_wp2_with fail
  go_loopg [3, 4] c.l.length (fun q n i wr => ∃ k : Nat, c.l.length - k ≤ q ∧ k ≤ c.l.length ∧ i = .int .i64 k ∧ n = .int .i64 ((c.l.take k).countP Fm.P) ∧ w = wr)
  case atStart => exact ⟨0, by omega, by omega, rfl, by simp, rfl⟩
  case round =>
    obtain ⟨k, hq, hk, rfl, rfl, rfl⟩ := hrel
    by_cases hlt : k < c.l.length
    · have hk1 : (k : Int) < (c.l.length : Int) := by omega
      have hk2 : decide ((k : Int) < (c.l.length : Int)) = true := decide_eq_true hk1
      obtain ⟨f, hfk⟩ : ∃ f, c.l[k]? = some f := ⟨_, List.getElem?_eq_getElem hlt⟩
      have x1 := HA.out.cell encR_len hfk (j := 1) rfl
      have HT : Hid ((c.l.take (k + 1)).countP Fm.P = (c.l.take k).countP Fm.P + if f.P then 1 else 0) := Lib.hid (by
        rw [List.take_add_one, hfk, List.countP_append]
        simp only [Option.toList_some, List.countP_cons, List.countP_nil]
        omega)
      have hle : (c.l.take k).countP Fm.P ≤ 16 := Nat.le_trans List.countP_le_length (by rw [List.length_take]; omega)
      generalize (c.l.take k).countP Fm.P = m at *
      clear hfk
      have gw : IntKind.i64.wrap ((m : Int) + 1) = (m : Int) + 1 := wrap63 (by omega) (by omega)
      by_cases hP : 0 < f.pins
      · have dP : decide (0 < f.pins) = true := decide_eq_true hP
        have HT2 : Hid ((c.l.take (k + 1)).countP Fm.P = m + 1) := Lib.hid (by rw [HT.out]; simp [Fm.P, hP])
        clear hP HT
        go_wp2_with fail
        go_roundg (c.l.length - (k + 1))
        case measure => omega
        case rel => exact ⟨k + 1, by omega, by omega, by go_num, by rw [HT2.out]; exact congrArg (Value.int IntKind.i64) (by simp), rfl⟩
      · have dP : decide (0 < f.pins) = false := decide_eq_false hP
        have HT2 : Hid ((c.l.take (k + 1)).countP Fm.P = m) := Lib.hid (by rw [HT.out]; simp [Fm.P, hP])
        clear hP HT
        go_wp2_with fail
        go_roundg (c.l.length - (k + 1))
        case measure => omega
        case rel => exact ⟨k + 1, by omega, by omega, by go_num, by rw [HT2.out], rfl⟩
    · obtain rfl : k = c.l.length := by omega
      have hk1 : decide ((c.l.length : Int) < (c.l.length : Int)) = false := decide_eq_false (by omega)
      rw [List.take_length]
      go_wp2_with fail
      go_ret
      exact ⟨rfl, rfl⟩
theorem spin_pin {m : Nat} {c : Ck} {f : Fm} (hf : c.l[c.h]? = some f) (hp : f.P = true) : spin (m + 1) c.l c.h = spin m c.l ((c.h + 1) % c.l.length) := by rw [spin, hf]; simp only [if_pos hp]
theorem spin_mark {m : Nat} {c : Ck} {f : Fm} (hf : c.l[c.h]? = some f) (hp : f.P = false) (hm : f.mark = true) : spin (m + 1) c.l c.h = spin m (c.l.set c.h { f with mark := false }) ((c.h + 1) % c.l.length) := by rw [spin, hf]; simp only [hp, Bool.false_eq_true, if_false, if_pos hm]
theorem spin_stop {m : Nat} {c : Ck} {f : Fm} (hf : c.l[c.h]? = some f) (hp : f.P = false) (hm : f.mark = false) : spin (m + 1) c.l c.h = (some c.h, { c with h := (c.h + 1) % c.l.length }) := by rw [spin, hf]; simp only [hp, hm, Bool.false_eq_true, if_false]
theorem Only.drew' {S : Nat → Prop} {a w : World} (h : Only S a w) : Only S a w.drew := h.drew
set_option maxRecDepth 100000 in
theorem rvictim_any {B : Nat} (w : World) (b r cap : Nat) (tl : List Value) (c : Ck) (h : At encR w b r cap tl c) (ho : c.Ok B)  : Calls Try.prog 12 #[.pointer (some ⟨b, 0, none⟩)] w fun e w' => e = .returned (.int .i64 (findI c.victim.1)) ∧ At encR w' b r cap tl c.victim.2 ∧ Only (foot b r) w w' := by
  have HA := Lib.hid h
  have HO := Lib.hid ho
  have hn1 := ho.n1
  have b0 := h.blk.cell (i := 0) rfl
  have HF : Hid (firstFrom noKey c.l 0 = firstFrom noKey (c.l.drop 0) 0) := Lib.hid (by rw [List.drop_zero])
  clear h ho
  go_enter Try.func12, Try.ntmps12
  go_wp2_with fail
  go_loopg [3] c.l.length (fun q i wr => ∃ k : Nat, c.l.length - k ≤ q ∧ k ≤ c.l.length ∧ i = .int .i64 k ∧ firstFrom noKey c.l 0 = firstFrom noKey (c.l.drop k) k ∧ w = wr)
  case atStart => exact ⟨0, by omega, by omega, rfl, HF.out, rfl⟩
  case round =>
    obtain ⟨k, hq, hk, rfl, hf, rfl⟩ := hrel
    have HE := Lib.hid hf
    clear hf
    by_cases hlt : k < c.l.length
    · have hk1 : (k : Int) < (c.l.length : Int) := by omega
      have dk1 : decide ((k : Int) < (c.l.length : Int)) = true := decide_eq_true hk1
      obtain ⟨f, hfk⟩ : ∃ f, c.l[k]? = some f := ⟨_, List.getElem?_eq_getElem hlt⟩
      have HK := Lib.hid hfk
      have x0 := HA.out.cell encR_len hfk (j := 0) rfl
      rw [Nat.add_zero] at x0
      clear hfk
      by_cases he : f.key < 0
      · have e1 : decide (f.key < 0) = true := decide_eq_true he
        have HV : Hid (c.victim = (some k, c)) := Lib.hid (by unfold Ck.victim; rw [HE.out, first_here HK.out e1])
        clear he
        go_wp2_with fail
        go_ret
        exact ⟨by rw [HV.out]; rfl, by rw [HV.out]; exact HA.out, Only.refl _ _⟩
      · have e1 : decide (f.key < 0) = false := decide_eq_false he
        have HN : Hid (noKey f = false) := Lib.hid e1
        clear he
        go_wp2_with fail
        go_roundg (c.l.length - (k + 1))
        case measure => omega
        case rel => exact ⟨k + 1, by omega, by omega, by go_num, by rw [HE.out, first_next HK.out HN.out], rfl⟩
    · obtain rfl : k = c.l.length := by omega
      have hk1 : decide ((c.l.length : Int) < (c.l.length : Int)) = false := decide_eq_false (by omega)
      have HV : Hid (c.victim = spin (2 * c.l.length) c.l c.h) := Lib.hid (by unfold Ck.victim; rw [HE.out, first_end])
      obtain ⟨n, hn⟩ : ∃ n, c.l.length = n := ⟨_, rfl⟩
      have HN := Lib.hid hn
      have HP0 : Hid (0 < n) := Lib.hid (by have := HO.out.n0; omega)
      rw [hn] at HV hn1 hk1 b0 ⊢
      clear hq hk HF HE hn
      have gw2 : IntKind.i64.wrap (2 * (n : Int)) = 2 * (n : Int) := wrap63 (by omega) (by omega)
      go_wp2_with fail
      go_loopg [4] (2 * n) (fun q i wq => ∃ (k : Nat) (d : Ck), 2 * n - k ≤ q ∧ k ≤ 2 * n ∧ i = .int .i64 k ∧ At encR wq b r cap tl d ∧ d.Ok B ∧ d.l.length = n ∧ spin (2 * n) c.l c.h = spin (2 * n - k) d.l d.h ∧ Only (foot b r) w wq)
      case atStart => exact ⟨0, c, by omega, by omega, rfl, HA.out, HO.out, HN.out, rfl, Only.refl _ _⟩
      case round =>
        obtain ⟨k, d, hq, hk, rfl, ha, ho, hl, hsp, hon⟩ := hrel
        have HD := Lib.hid ha
        have HDO := Lib.hid ho
        have HL := Lib.hid hl
        have HSP := Lib.hid hsp
        have HON := Lib.hid hon
        have c0 := ha.blk.cell (i := 0) rfl
        have c1 := ha.blk.cell (i := 1) rfl
        have z1 := ha.blk.frozen 1
        have hdl : d.h < d.l.length := ho.h
        rw [hl] at c0 hdl
        have gw : IntKind.i64.wrap ((d.h : Int) + 1) = (d.h : Int) + 1 := wrap63 (by omega) (by omega)
        have hR := rem_nat d.h n
        have hm : (d.h + 1) % n < n := Nat.mod_lt _ HP0.out
        have gm : IntKind.i64.wrap (((d.h + 1) % n : Nat) : Int) = (((d.h + 1) % n : Nat) : Int) := wrap63 (by omega) (by omega)
        have hn2 : ¬ (n : Int) = 0 := by have := HP0.out; omega
        obtain ⟨f, hfk⟩ : ∃ f, d.l[d.h]? = some f := ⟨_, List.getElem?_eq_getElem ho.h⟩
        have HH2 := Lib.hid (ha.hand ((d.h + 1) % n)).drew
        have hfk2 : ({ d with h := (d.h + 1) % n } : Ck).l[d.h]? = some f := hfk
        have HF := Lib.hid (ho.all d.h f hfk)
        have y0 := HH2.out.blk.cell (i := 0) rfl
        have x1 := HH2.out.cell encR_len hfk2 (j := 1) rfl
        have x2 := HH2.out.cell encR_len hfk2 (j := 2) rfl
        have z2 := HH2.out.row.frozen (d.h * 3 + 2)
        have HON2 : Hid (Only (foot b r) w (wr.setCell ⟨b, 1, none⟩ (.int .i64 ((d.h + 1) % n : Nat))).drew) := Lib.hid (hon.setCell (.inl (.inl rfl)) _).drew
        have HSM := Lib.hid (HH2.out.set encR_len hfk2 (j := 2) (g := { f with mark := false }) (v := .bool false) (by omega) rfl)
        have HDK2 := Lib.hid (ho.hand (x := (d.h + 1) % n) (by rw [hl]; exact hm))
        have HPN : Hid (f.P = true → spin (2 * n - k) d.l d.h = spin (2 * n - k - 1) d.l ((d.h + 1) % n) ∨ 2 * n ≤ k) := Lib.hid fun hp => by
          by_cases hk2 : k < 2 * n
          · left
            rw [show 2 * n - k = 2 * n - k - 1 + 1 by omega, spin_pin hfk hp, hl]
            rfl
          · right; omega
        have HMK : Hid (f.P = false → f.mark = true → k < 2 * n → spin (2 * n - k) d.l d.h = spin (2 * n - k - 1) (d.l.set d.h { f with mark := false }) ((d.h + 1) % n)) := Lib.hid fun hp hmk hk2 => by
          rw [show 2 * n - k = 2 * n - k - 1 + 1 by omega, spin_mark hfk hp hmk, hl]
          rfl
        have HST : Hid (f.P = false → f.mark = false → k < 2 * n → spin (2 * n - k) d.l d.h = (some d.h, { d with h := (d.h + 1) % n })) := Lib.hid fun hp hmk hk2 => by
          rw [show 2 * n - k = 2 * n - k - 1 + 1 by omega, spin_stop hfk hp hmk, hl]
        have HDM : Hid (f.P = false → f.mark = true → Ck.Ok B { l := d.l.set d.h { f with mark := false }, h := (d.h + 1) % n }) := Lib.hid fun hp hmk => by
          have hf := ho.all d.h f hfk
          refine (ho.same (k := d.h) (g := { f with mark := false }) hfk ⟨fun h0 => ?_, hf.key, hf.p0, hf.p1⟩ rfl).hand (x := (d.h + 1) % n) (by simpa [hl] using hm)
          have := hf.none h0
          rw [this] at hmk
          cases hmk
        simp only at y0
        rw [hl] at y0
        have HK := Lib.hid hfk
        have gk : IntKind.i64.wrap ((k : Int) + 1) = (k : Int) + 1 := wrap63 (by omega) (by omega)
        clear ha ho hl hsp hon hfk hfk2
        by_cases hlt : k < 2 * n
        · have hk2 : (k : Int) < 2 * (n : Int) := by omega
          have dk2 : decide ((k : Int) < 2 * (n : Int)) = true := decide_eq_true hk2
          generalize (d.h + 1) % n = m at *
          by_cases hp : 0 < f.pins
          · have dp : decide (0 < f.pins) = true := decide_eq_true hp
            have HS2 : Hid (spin (2 * n) c.l c.h = spin (2 * n - (k + 1)) d.l m) := Lib.hid (by
              rcases HPN.out dp with h1 | h1
              · rw [HSP.out, h1]; rfl
              · omega)
            clear hp
            go_upto_region 10 with fail
            go_region
            go_wp2_with fail
            go_roundg (2 * n - (k + 1))
            case measure => omega
            case rel => exact ⟨k + 1, { d with h := m }, by omega, by omega, by go_num, HH2.out, HDK2.out, HL.out, HS2.out, HON2.out⟩
          · have dp : decide (0 < f.pins) = false := decide_eq_false hp
            clear hp
            cases hmk : f.mark with
            | true =>
              rw [hmk] at x2
              have HS2 : Hid (spin (2 * n) c.l c.h = spin (2 * n - (k + 1)) (d.l.set d.h { f with mark := false }) m) := Lib.hid (by rw [HSP.out, HMK.out dp hmk hlt]; rfl)
              have HD3 := Lib.hid (HDM.out dp hmk)
              clear hmk
              go_upto_region 10 with fail
              go_region
              go_wp2_with fail
              go_roundg (2 * n - (k + 1))
              case measure => omega
              case rel => exact ⟨k + 1, { l := d.l.set d.h { f with mark := false }, h := m }, by omega, by omega, by go_num, HSM.out, HD3.out, by simpa using HL.out, HS2.out, HON2.out.setCell (.inl (.inr rfl)) _⟩
            | false =>
              rw [hmk] at x2
              have HS2 : Hid (spin (2 * n) c.l c.h = (some d.h, { d with h := m })) := Lib.hid (by rw [HSP.out, HST.out dp hmk hlt])
              clear hmk
              go_upto_region 10 with fail
              go_region
              go_wp2_with fail
              go_ret
              exact ⟨by rw [HV.out, HS2.out]; rfl, by rw [HV.out, HS2.out]; exact HH2.out, HON2.out⟩
        · obtain rfl : k = 2 * n := by omega
          have hk2 : decide ((((2 * n : Nat) : Int) < 2 * (n : Int))) = false := decide_eq_false (by omega)
          have HSP2 : Hid (spin (2 * n) c.l c.h = (none, d)) := Lib.hid (by rw [HSP.out, Nat.sub_self]; rfl)
          clear HPN HMK HST HDM HSM HON2 HDK2 HH2 y0 x1 x2 z2 hR gm hm HK HF
          go_wp2_with fail
          go_ret
          exact ⟨by rw [HV.out, HSP2.out]; rfl, by rw [HV.out, HSP2.out]; exact HD.out, HON.out⟩

end Go.Proofs.Ytblfpakokhlkgaa
