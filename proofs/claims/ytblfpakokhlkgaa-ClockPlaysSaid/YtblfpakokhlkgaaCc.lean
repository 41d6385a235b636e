/- The hand turned; the victim; how many frames are pinned. -/
import Derived.Test.YtblfpakokhlkgaaCb
namespace Go.Proofs.Ytblfpakokhlkgaa
set_option linter.unusedSimpArgs false
set_option linter.unusedVariables false
open Go.RowKit

def Ck.step (c : Ck) : Option Nat × Ck := match c.l[c.h]? with
  | none => (none, c)
  | some f => if f.P then (none, { c with h := (c.h + 1) % c.l.length }) else if f.mark then (none, ⟨c.l.set c.h { f with mark := false }, (c.h + 1) % c.l.length⟩) else (some c.h, { c with h := (c.h + 1) % c.l.length })
theorem spin_step (m : Nat) (c : Ck) (hh : c.h < c.l.length) : spin (m + 1) c.l c.h = match c.step with
  | (none, d) => spin m d.l d.h
  | (some i, d) => (some i, d) := by
  obtain ⟨f, hf⟩ : ∃ f, c.l[c.h]? = some f := ⟨_, List.getElem?_eq_getElem hh⟩
  rw [spin, Ck.step, hf]
  simp only
  by_cases hp : f.P = true
  · rw [if_pos hp, if_pos hp]
  · rw [if_neg hp, if_neg hp]
    by_cases hm : f.mark = true
    · rw [if_pos hm, if_pos hm]
    · rw [if_neg hm, if_neg hm]
theorem step_ok {B : Nat} {c : Ck} (h : c.Ok B) : c.step.2.Ok B ∧ c.step.2.l.length = c.l.length := by
  have h1 := spin_step 0 c h.h
  have h2 := spin_ok (B := B) 1 c.l c.h h
  have h3 := spin_len 1 c.l c.h
  rw [h1] at h2 h3
  cases hs : c.step with
  | mk o d =>
    rw [hs] at h2 h3
    cases o with
    | none => exact ⟨h2, h3⟩
    | some i => exact ⟨h2, h3⟩
theorem rem_nat (h n : Nat) : ((h : Int) + 1).tmod (n : Int) = (((h + 1) % n : Nat) : Int) := by
  rw [show (h : Int) + 1 = ((h + 1 : Nat) : Int) by omega]
  rfl
set_option maxRecDepth 100000 in
theorem turn_any {B : Nat} (w : World) (b r cap : Nat) (tl : List Value) (c : Ck) (h : At encC w b r cap tl c) (ho : c.Ok B) : Calls Try.prog 32 #[.pointer (some ⟨b, 0, none⟩)] w fun e w' => e = .returned (findR c.step.1) ∧ At encC w' b r cap tl c.step.2 ∧ Only (foot b r) w w' := by
  obtain ⟨f, hf⟩ : ∃ f, c.l[c.h]? = some f := ⟨_, List.getElem?_eq_getElem ho.h⟩
  have hlt := ho.h
  have hn1 := ho.n1
  have hn0 := ho.n0
  have hR := rem_nat c.h c.l.length
  unfold Ck.step
  rw [hf]
  have hm : (c.h + 1) % c.l.length < c.l.length := Nat.mod_lt _ hn0
  have H2 := h.hand ((c.h + 1) % c.l.length)
  have b0 := h.blk.cell (i := 0) rfl
  have b1 := h.blk.cell (i := 1) rfl
  have z1 := h.blk.frozen 1
  have y0 := H2.blk.cell (i := 0) rfl
  have x1 := H2.cell encC_len (show ({ c with h := (c.h + 1) % c.l.length } : Ck).l[c.h]? = some f from hf) (j := 1) rfl
  have x2 := H2.cell encC_len (show ({ c with h := (c.h + 1) % c.l.length } : Ck).l[c.h]? = some f from hf) (j := 2) rfl
  have x3 := H2.cell encC_len (show ({ c with h := (c.h + 1) % c.l.length } : Ck).l[c.h]? = some f from hf) (j := 3) rfl
  have z2 := H2.row.frozen (c.h * 4 + 2)
  have HS := Lib.hid (H2.set encC_len (show ({ c with h := (c.h + 1) % c.l.length } : Ck).l[c.h]? = some f from hf) (j := 2) (g := { f with mark := false }) (v := .bool false) (by omega) rfl)
  have HH := Lib.hid H2
  have gw : IntKind.i64.wrap ((c.h : Int) + 1) = (c.h : Int) + 1 := wrap63 (by omega) (by omega)
  have hk1 : (c.h : Int) < (c.l.length : Int) := by omega
  have hn2 : ¬ (c.l.length : Int) = 0 := by omega
  have gm : IntKind.i64.wrap (((c.h + 1) % c.l.length : Nat) : Int) = (((c.h + 1) % c.l.length : Nat) : Int) := wrap63 (by omega) (by omega)
  simp only at x1 x2 x3 z2 y0
  clear h H2 ho hf
  obtain ⟨l, hd⟩ := c
  obtain ⟨key, mark, pins⟩ := f
  simp only [Fm.P] at *
  generalize (hd + 1) % l.length = m at *
  by_cases hp : 0 < pins
  · have dp : decide (0 < pins) = true := decide_eq_true hp
    rw [if_pos dp]
    clear hp
    go_enter Try.func32, Try.ntmps32
    go_wp2_with fail
    go_ret2
    exact ⟨rfl, HH.out, (Only.refl _ _).setCell (.inl (.inl rfl)) _⟩
  · have dp : decide (0 < pins) = false := decide_eq_false hp
    rw [if_neg (by rw [dp]; exact Bool.false_ne_true)]
    clear hp
    cases mark with
    | true =>
      rw [if_pos rfl]
      go_enter Try.func32, Try.ntmps32
      go_wp2_with fail
      go_ret2
      exact ⟨rfl, HS.out, ((Only.refl _ _).setCell (.inl (.inl rfl)) _).setCell (.inl (.inr rfl)) _⟩
    | false =>
      rw [if_neg Bool.false_ne_true]
      go_enter Try.func32, Try.ntmps32
      go_wp2_with fail
      go_ret2
      exact ⟨rfl, HH.out, (Only.refl _ _).setCell (.inl (.inl rfl)) _⟩
set_option maxRecDepth 100000 in
theorem pinned_any {B : Nat} (w : World) (b r cap : Nat) (tl : List Value) (c : Ck) (h : At encC w b r cap tl c) (ho : c.Ok B) : Calls Try.prog 25 #[.pointer (some ⟨b, 0, none⟩)] w fun e w' => e = .returned (.int .i64 c.pinned) ∧ Below w.heap.size w w' := by
  have HC := Lib.hid (count_any w b r cap tl c h)
  have HA := Lib.hid h
  have HO := Lib.hid ho
  have hn1 := ho.n1
  have flp := field56p
  unfold Ck.pinned
  clear h ho
  go_enter Try.func25, Try.ntmps25
  go_wp2_with fail
  refine HC.out.mono ?_
  rintro e w' ⟨rfl, rfl⟩
  go_wp2_with fail
  go_loopg [3, 7] c.l.length (fun q n i wr => ∃ k : Nat, c.l.length - k ≤ q ∧ k ≤ c.l.length ∧ i = .int .i64 k ∧ n = .int .i64 ((c.l.take k).countP Fm.P) ∧ Below w.heap.size w wr)
  case atStart => exact ⟨0, by omega, by omega, rfl, by simp, Below.refl _ _⟩
  case round =>
    obtain ⟨k, hq, hk, rfl, rfl, hb⟩ := hrel
    have HB := Lib.hid hb
    by_cases hlt : k < c.l.length
    · have hk1 : (k : Int) < (c.l.length : Int) := by omega
      obtain ⟨f, hfk⟩ : ∃ f, c.l[k]? = some f := ⟨_, List.getElem?_eq_getElem hlt⟩
      have HW : Hid (Calls Try.prog 31 #[.pointer (some ⟨b, 0, none⟩), .int .i64 k] wr fun e w' => e = .returned (.agg #[.bool true, .bool f.K, .bool f.P]) ∧ Below wr.heap.size wr w') := Lib.hid (by
        have := what_any wr b r cap tl c (HA.out.below hb) HO.out k
        rwa [Ck.get_nat, hfk] at this)
      have HT : Hid ((c.l.take (k + 1)).countP Fm.P = (c.l.take k).countP Fm.P + if f.P then 1 else 0) := Lib.hid (by
        rw [List.take_add_one, hfk, List.countP_append]
        simp only [Option.toList_some, List.countP_cons, List.countP_nil]
        omega)
      have hle : (c.l.take k).countP Fm.P ≤ 16 := Nat.le_trans List.countP_le_length (by rw [List.length_take]; omega)
      generalize (c.l.take k).countP Fm.P = m at *
      generalize f.K = kb at *
      clear hb hfk
      have gw : IntKind.i64.wrap ((m : Int) + 1) = (m : Int) + 1 := wrap63 (by omega) (by omega)
      cases hP : f.P with
      | false =>
        rw [hP] at HW HT
        clear hP
        go_wp2_with fail
        refine HW.out.mono ?_
        rintro e w1 ⟨rfl, hb⟩
        have HB1 := Lib.hid (stay HB.out hb)
        clear hb
        go_wp2_with fail
        go_roundg (c.l.length - (k + 1))
        case measure => omega
        case rel => exact ⟨k + 1, by omega, by omega, by go_num, by rw [HT.out]; rfl, HB1.out⟩
      | true =>
        rw [hP] at HW HT
        clear hP
        go_wp2_with fail
        refine HW.out.mono ?_
        rintro e w1 ⟨rfl, hb⟩
        have HB1 := Lib.hid (stay HB.out hb)
        clear hb
        go_wp2_with fail
        go_roundg (c.l.length - (k + 1))
        case measure => omega
        case rel => exact ⟨k + 1, by omega, by omega, by go_num, by rw [HT.out]; exact congrArg (Value.int IntKind.i64) (by simp), HB1.out⟩
    · obtain rfl : k = c.l.length := by omega
      have hk1 : ¬ (c.l.length : Int) < (c.l.length : Int) := by omega
      rw [List.take_length]
      clear hb
      go_wp2_with fail
      go_ret
      exact ⟨rfl, HB.out⟩
set_option maxRecDepth 100000 in
theorem victim_any {B : Nat} (w : World) (b r cap : Nat) (tl : List Value) (c : Ck) (h : At encC w b r cap tl c) (ho : c.Ok B) : Calls Try.prog 11 #[.pointer (some ⟨b, 0, none⟩)] w fun e w' => e = .returned (findR c.victim.1) ∧ At encC w' b r cap tl c.victim.2 ∧ Only (foot b r) w w' := by
  have HC := Lib.hid (count_any w b r cap tl c h)
  have HA := Lib.hid h
  have HO := Lib.hid ho
  have hn1 := ho.n1
  have flk := field56k
  have HF : Hid (firstFrom noKey c.l 0 = firstFrom noKey (c.l.drop 0) 0) := Lib.hid (by rw [List.drop_zero])
  clear h ho
  go_enter Try.func11, Try.ntmps11
  go_wp2_with fail
  refine HC.out.mono ?_
  rintro e w' ⟨rfl, rfl⟩
  go_wp2_with fail
  go_loopg [9] c.l.length (fun q i wr => ∃ k : Nat, c.l.length - k ≤ q ∧ k ≤ c.l.length ∧ i = .int .i64 k ∧ firstFrom noKey c.l 0 = firstFrom noKey (c.l.drop k) k ∧ Below w.heap.size w wr)
  case atStart => exact ⟨0, by omega, by omega, rfl, HF.out, Below.refl _ _⟩
  case round =>
    obtain ⟨k, hq, hk, rfl, hf, hb⟩ := hrel
    have HE := Lib.hid hf
    have HB := Lib.hid hb
    clear hf
    by_cases hlt : k < c.l.length
    · have hk1 : (k : Int) < (c.l.length : Int) := by omega
      obtain ⟨f, hfk⟩ : ∃ f, c.l[k]? = some f := ⟨_, List.getElem?_eq_getElem hlt⟩
      have HK := Lib.hid hfk
      have HW : Hid (Calls Try.prog 31 #[.pointer (some ⟨b, 0, none⟩), .int .i64 k] wr fun e w' => e = .returned (.agg #[.bool true, .bool f.K, .bool f.P]) ∧ Below wr.heap.size wr w') := Lib.hid (by
        have := what_any wr b r cap tl c (HA.out.below hb) HO.out k
        rwa [Ck.get_nat, hfk] at this)
      have HNK : Hid (noKey f = !f.K) := Lib.hid (by unfold noKey Fm.K; by_cases h0 : f.key < 0 <;> simp [h0] <;> omega)
      clear hb hfk
      generalize f.P = pb at *
      cases hK : f.K with
      | true =>
        rw [hK] at HW HNK
        clear hK
        go_wp2_with fail
        refine HW.out.mono ?_
        rintro e w1 ⟨rfl, hb⟩
        have HB1 := Lib.hid (stay HB.out hb)
        clear hb
        go_wp2_with fail
        go_roundg (c.l.length - (k + 1))
        case measure => omega
        case rel => exact ⟨k + 1, by omega, by omega, by go_num, by rw [HE.out, first_next HK.out HNK.out], HB1.out⟩
      | false =>
        rw [hK] at HW HNK
        clear hK
        have HV : Hid (c.victim = (some k, c)) := Lib.hid (by unfold Ck.victim; rw [HE.out, first_here HK.out HNK.out])
        go_wp2_with fail
        refine HW.out.mono ?_
        rintro e w1 ⟨rfl, hb⟩
        have HB1 := Lib.hid (stay HB.out hb)
        clear hb
        go_wp2_with fail
        go_ret2
        rw [HV.out]
        exact ⟨rfl, HA.out.below HB1.out, .of_below HB1.out⟩
    · obtain rfl : k = c.l.length := by omega
      have hk1 : ¬ (c.l.length : Int) < (c.l.length : Int) := by omega
      have HV : Hid (c.victim = spin (2 * c.l.length) c.l c.h) := Lib.hid (by unfold Ck.victim; rw [HE.out, first_end])
      have HA1 := Lib.hid (HA.out.below hb)
      have HC1 := Lib.hid (count_any wr b r cap tl c HA1.out)
      obtain ⟨n, hn⟩ : ∃ n, c.l.length = n := ⟨_, rfl⟩
      have HN := Lib.hid hn
      have HP0 : Hid (0 < n) := Lib.hid (by have := HO.out.n0; omega)
      rw [hn] at HV HC1 hn1 hk1 ⊢
      clear hb hq hk HC HF HE hn
      have gw : IntKind.i64.wrap (2 * (n : Int)) = 2 * (n : Int) := wrap63 (by omega) (by omega)
      go_wp2_with fail
      refine HC1.out.mono ?_
      rintro e w' ⟨rfl, rfl⟩
      go_wp2_with fail
      go_loopg [22] (2 * n) (fun q i wq => ∃ (k : Nat) (d : Ck), 2 * n - k ≤ q ∧ k ≤ 2 * n ∧ i = .int .i64 k ∧ At encC wq b r cap tl d ∧ d.Ok B ∧ d.l.length = n ∧ spin (2 * n) c.l c.h = spin (2 * n - k) d.l d.h ∧ Only (foot b r) w wq)
      case atStart => exact ⟨0, c, by omega, by omega, rfl, HA1.out, HO.out, HN.out, rfl, .of_below HB.out⟩
      case round =>
        obtain ⟨k, d, hq, hk, rfl, ha, ho, hl, hsp, hon⟩ := hrel
        have HD := Lib.hid ha
        have HDO := Lib.hid ho
        have HL := Lib.hid hl
        have HSP := Lib.hid hsp
        have HON := Lib.hid hon
        clear ha ho hl hsp hon
        by_cases hlt : k < 2 * n
        · have hk2 : (k : Int) < 2 * (n : Int) := by omega
          have HT := Lib.hid (turn_any wr b r cap tl d HD.out HDO.out)
          cases hs : d.step with
          | mk o d2 =>
          have h1 := spin_step (2 * n - k - 1) d HDO.out.h
          have h2 := step_ok HDO.out
          rw [hs] at HT h1 h2
          have HDO2 := Lib.hid h2.1
          have HL2 : Hid (d2.l.length = n) := Lib.hid (h2.2.trans HL.out)
          cases o with
          | none =>
            have HSP2 : Hid (spin (2 * n) c.l c.h = spin (2 * n - (k + 1)) d2.l d2.h) := Lib.hid (by rw [HSP.out, show 2 * n - k = 2 * n - k - 1 + 1 by omega, h1, show 2 * n - (k + 1) = 2 * n - k - 1 by omega])
            simp only [findR] at HT
            clear hs h1 h2
            go_wp2_with fail
            refine HT.out.mono ?_
            rintro e w1 ⟨rfl, ha, hon⟩
            have HD2 := Lib.hid ha
            have HON2 := Lib.hid (HON.out.trans hon)
            clear ha hon
            go_wp2_with fail
            go_roundg (2 * n - (k + 1))
            case measure => omega
            case rel => exact ⟨k + 1, d2, by omega, by omega, by go_num, HD2.out, HDO2.out, HL2.out, HSP2.out, HON2.out⟩
          | some i =>
            have HSP2 : Hid (spin (2 * n) c.l c.h = (some i, d2)) := Lib.hid (by rw [HSP.out, show 2 * n - k = 2 * n - k - 1 + 1 by omega, h1])
            simp only [findR] at HT
            clear hs h1 h2
            go_wp2_with fail
            refine HT.out.mono ?_
            rintro e w1 ⟨rfl, ha, hon⟩
            have HD2 := Lib.hid ha
            have HON2 := Lib.hid (HON.out.trans hon)
            clear ha hon
            go_wp2_with fail
            go_ret2
            rw [HV.out, HSP2.out]
            exact ⟨rfl, HD2.out, HON2.out⟩
        · obtain rfl : k = 2 * n := by omega
          have hk2 : ¬ (((2 * n : Nat) : Int) < 2 * (n : Int)) := by omega
          have HSP2 : Hid (spin (2 * n) c.l c.h = (none, d)) := Lib.hid (by rw [HSP.out, Nat.sub_self]; rfl)
          go_wp2_with fail
          go_ret2
          rw [HV.out, HSP2.out]
          exact ⟨rfl, HD.out, HON.out⟩

end Go.Proofs.Ytblfpakokhlkgaa
