/- What a frame holds, where a key is, a key lost. -/
import Derived.Test.YtaemjglblfencaaGreatDoorFb
namespace Go.Proofs.YtaemjglblfencaaGreatDoor
set_option linter.unusedSimpArgs false
set_option linter.unusedVariables false
open Go.RowKit Kl

set_option maxRecDepth 100000 in
theorem in_any {B : Nat} {w : World} {L : Lay} {ps : List (Option Nat)} {s : Fs} (h : FAt w L ps s) (ho : s.Ok B) (i : Int) : Calls Tryz.prog 48 #[.pointer (some ⟨L.b, 0, none⟩), .int .i64 i] w fun e w' => e = .returned (pv (inn ps i)) ∧ Below w.heap.size w w' := by
  have HC := Lib.hid (clockF_any h)
  have HK := Lib.hid (key_any w L.cb L.cr L.cap [] s.c h.clk ho.ck i)
  have HA := Lib.hid h
  cases hg : s.c.get i with
  | none =>
    rw [hg] at HK
    simp only [keyR] at HK
    rw [inn_out (by rw [h.len]; exact Ck.get_none hg)]
    simp only [pv]
    clear h ho hg
    go_enter Tryz.func48, Tryz.ntmps48
    go_wp2_with fail
    refine HC.out.mono ?_
    rintro e w' ⟨rfl, rfl⟩
    go_wp2_with fail
    refine HK.out.mono ?_
    rintro e w1 ⟨rfl, hb⟩
    have HB := Lib.hid hb
    clear hb
    go_wp2_with fail
    go_ret
    exact ⟨rfl, HB.out⟩
  | some f =>
    rw [hg] at HK
    obtain ⟨k, rfl, hk, hf⟩ := Ck.get_some hg
    obtain ⟨x, hx, hxo, ⟨h0, g, hg2, hb⟩ | ⟨h0, hn⟩⟩ := h.at ho hf
    · have hK : f.K = true := decide_eq_true h0
      simp only [keyR, hK, if_true] at HK
      rw [inn_nat hg2]
      simp only [pv]
      have HG := Lib.hid hg2
      have HBK := Lib.hid hb
      have hk1 : (k : Int) < (s.c.l.length : Int) := by omega
      clear h ho hg hb hf hx hxo h0 hK hg2
      generalize f.key = key at *
      go_enter Tryz.func48, Tryz.ntmps48
      go_wp2_with fail
      refine HC.out.mono ?_
      rintro e w' ⟨rfl, rfl⟩
      go_wp2_with fail
      refine HK.out.mono ?_
      rintro e w1 ⟨rfl, hb⟩
      have HB := Lib.hid hb
      have h2 := HA.out.below hb
      have b1 := h2.blk.cell (i := 1) rfl
      have x1 := pv_cell h2.row HG.out
      have k1 := (HBK.out.below hb HBK.out.lt).cell (i := 0) rfl
      simp only [pv] at x1
      clear hb h2
      generalize s.c.l.length = n at *
      go_wp2_with fail
      go_ret
      exact ⟨rfl, HB.out⟩
    · have hK : f.K = false := decide_eq_false (by omega)
      simp only [keyR, hK, if_false] at HK
      rw [inn_nat hn]
      simp only [pv]
      clear h ho hg hf hx hxo h0 hK hn
      go_enter Tryz.func48, Tryz.ntmps48
      go_wp2_with fail
      refine HC.out.mono ?_
      rintro e w' ⟨rfl, rfl⟩
      go_wp2_with fail
      refine HK.out.mono ?_
      rintro e w1 ⟨rfl, hb⟩
      have HB := Lib.hid hb
      clear hb
      go_wp2_with fail
      go_ret
      exact ⟨rfl, HB.out⟩
theorem in_nil (w : World) (i : Int) : Calls Tryz.prog 48 #[.pointer none, .int .i64 i] w fun e w' => e = .returned (.pointer none) ∧ Below w.heap.size w w' := by
  go_enter Tryz.func48, Tryz.ntmps48
  go_wp2_with fail
  refine (clockF_nil w).mono ?_
  rintro e w' ⟨rfl, rfl⟩
  go_wp2_with fail
  refine (key_nil w i).mono ?_
  rintro e w1 ⟨rfl, hb⟩
  have HB := Lib.hid hb
  clear hb
  go_wp2_with fail
  go_ret
  exact ⟨rfl, HB.out⟩
def findP (ps : List (Option Nat)) : Option Nat → Value
  | some k => .tuple #[.int .i64 k, pv (inn ps k)]
  | none => .tuple #[.int .i64 0, .pointer none]
set_option maxRecDepth 100000 in
theorem findF_any {B : Nat} {w : World} {L : Lay} {ps : List (Option Nat)} {s : Fs} (h : FAt w L ps s) (ho : s.Ok B) (key : Int) : Calls Tryz.prog 52 #[.pointer (some ⟨L.b, 0, none⟩), .int .i64 key] w fun e w' => e = .returned (findP ps (s.c.find key)) ∧ Below w.heap.size w w' := by
  have HC := Lib.hid (clockF_any h)
  have HF := Lib.hid (find_any w L.cb L.cr L.cap [] s.c h.clk ho.ck key)
  have HA := Lib.hid h
  have HO := Lib.hid ho
  clear h ho
  cases hc : s.c.find key with
  | none =>
    rw [hc] at HF
    simp only [findR, findP] at *
    clear hc
    go_enter Tryz.func52, Tryz.ntmps52
    go_wp2_with fail
    refine HC.out.mono ?_
    rintro e w' ⟨rfl, rfl⟩
    go_wp2_with fail
    refine HF.out.mono ?_
    rintro e w1 ⟨rfl, hb⟩
    have HB := Lib.hid hb
    clear hb
    go_wp2_with fail
    go_ret2
    exact ⟨rfl, HB.out⟩
  | some k =>
    rw [hc] at HF
    simp only [findR, findP] at *
    clear hc
    have HI := Lib.hid fun (w' : World) (hb : Below w.heap.size w w') => in_any (HA.out.below hb) HO.out (k : Int)
    generalize pv (inn ps k) = p at *
    go_enter Tryz.func52, Tryz.ntmps52
    go_wp2_with fail
    refine HC.out.mono ?_
    rintro e w' ⟨rfl, rfl⟩
    go_wp2_with fail
    refine HF.out.mono ?_
    rintro e w1 ⟨rfl, hb⟩
    have HB := Lib.hid hb
    clear hb
    go_wp2_with fail
    refine (HI.out _ HB.out).mono ?_
    rintro e w2 ⟨rfl, hb⟩
    have HB2 := Lib.hid (stay HB.out hb)
    clear hb
    go_wp2_with fail
    go_ret2
    exact ⟨rfl, HB2.out⟩
theorem findF_nil (w : World) (key : Int) : Calls Tryz.prog 52 #[.pointer none, .int .i64 key] w fun e w' => e = .returned (.tuple #[.int .i64 0, .pointer none]) ∧ Below w.heap.size w w' := by
  go_enter Tryz.func52, Tryz.ntmps52
  go_wp2_with fail
  refine (clockF_nil w).mono ?_
  rintro e w' ⟨rfl, rfl⟩
  go_wp2_with fail
  refine (find_nil w key).mono ?_
  rintro e w1 ⟨rfl, hb⟩
  have HB := Lib.hid hb
  clear hb
  go_wp2_with fail
  go_ret2
  exact ⟨rfl, HB.out⟩
theorem fieldtp (a b : Bool) (w : World) : (Instr.field 70 (.agg #[.bool a, .bool b]) 1).run Tryz.prog w = .ok (.bool b) w := by kernel_rfl
theorem fieldts (a b : Bool) (w : World) : (Instr.field 70 (.agg #[.bool a, .bool b]) 0).run Tryz.prog w = .ok (.bool a) w := by kernel_rfl
theorem page_as (v : Value) (R : World → Value → World → Prop) (w : World) (p : Int) (x : Value) (hy : pageKey p = true → ∀ w', Below w.heap.size w w' → Calls Tryz.prog 52 #[v, .int .i64 p] w' fun e w'' => e = .returned x ∧ Below w'.heap.size w' w'') (hx : ∃ k q, x = .tuple #[k, q]) : Calls Tryz.prog 37 #[v, .int .i64 p] w fun e w' => e = .returned (if pageKey p then x else .tuple #[.int .i64 0, .pointer none]) ∧ Below w.heap.size w w' := by
  obtain ⟨k, q, rfl⟩ := hx
  have HW := Lib.hid (what_any p w)
  have flp := fieldtp
  cases hp : pageKey p with
  | false =>
    rw [hp] at HW
    generalize someKey p = sk at *
    clear hy hp
    simp only [Bool.false_eq_true, if_false]
    go_enter Tryz.func37, Tryz.ntmps37
    go_wp2_with fail
    refine HW.out.mono ?_
    rintro e w1 ⟨rfl, hb⟩
    have HB := Lib.hid hb
    clear hb
    go_wp2_with fail
    go_ret2
    exact ⟨rfl, HB.out⟩
  | true =>
    rw [hp] at HW
    have HY := Lib.hid (hy hp)
    generalize someKey p = sk at *
    clear hy hp
    simp only [if_true]
    go_enter Tryz.func37, Tryz.ntmps37
    go_wp2_with fail
    refine HW.out.mono ?_
    rintro e w1 ⟨rfl, hb⟩
    have HB := Lib.hid hb
    clear hb
    go_wp2_with fail
    refine (HY.out _ HB.out).mono ?_
    rintro e w2 ⟨rfl, hb⟩
    have HB2 := Lib.hid (stay HB.out hb)
    clear hb
    go_wp2_with fail
    go_ret2
    exact ⟨rfl, HB2.out⟩
theorem findP_two (ps : List (Option Nat)) (o : Option Nat) : ∃ k q, findP ps o = .tuple #[k, q] := by cases o <;> exact ⟨_, _, rfl⟩
theorem pageF_any {B : Nat} {w : World} {L : Lay} {ps : List (Option Nat)} {s : Fs} (h : FAt w L ps s) (ho : s.Ok B) (p : Int) : Calls Tryz.prog 37 #[.pointer (some ⟨L.b, 0, none⟩), .int .i64 p] w fun e w' => e = .returned (findP ps (s.page p)) ∧ Below w.heap.size w w' := by
  have := page_as (.pointer (some ⟨L.b, 0, none⟩)) (fun _ _ _ => True) w p (findP ps (s.c.find p)) (fun _ w' hb => findF_any (h.below hb) ho p) (findP_two _ _)
  refine this.mono ?_
  rintro e w' ⟨rfl, hb⟩
  refine ⟨?_, hb⟩
  unfold Fs.page pageKey
  by_cases h0 : 0 ≤ p
  · by_cases h1 : p < 64
    · simp [h0, h1]
    · simp [h0, h1, findP]
  · simp [h0, findP]
theorem pageF_nil (w : World) (p : Int) : Calls Tryz.prog 37 #[.pointer none, .int .i64 p] w fun e w' => e = .returned (.tuple #[.int .i64 0, .pointer none]) ∧ Below w.heap.size w w' := by
  have := page_as (.pointer none) (fun _ _ _ => True) w p (.tuple #[.int .i64 0, .pointer none]) (fun _ w' hb => findF_nil w' p) ⟨_, _, rfl⟩
  refine this.mono ?_
  rintro e w' ⟨rfl, hb⟩
  exact ⟨by split <;> rfl, hb⟩
theorem set_pv (ps : List (Option Nat)) (k : Nat) (p : Option Nat) : (ps.map pv).set k (pv p) = (ps.set k p).map pv := by rw [List.map_set]
/-- The row, with or without what a frame held. -/
def Lost (w w' : World) (L : Lay) (ps : List (Option Nat)) (k0 : Nat) : Prop := ∃ ps', (ps' = ps ∨ ps' = ps.set k0 none) ∧ Blk w' L.gr (ps'.map pv) ∧ Only (fun k => k = L.gr) w w'
set_option maxRecDepth 100000 in
theorem lose_any {w : World} {L : Lay} {ps : List (Option Nat)} (n k0 : Nat) (key : Int) (hblk : ∃ v, Blk w L.b [v, .slice (some ⟨L.gr, 0, none⟩) n L.gcap]) (hrow : Blk w L.gr (ps.map pv)) (hlen : ps.length = n) (hn : n ≤ 16) (hne : L.b ≠ L.gr)
    (hk : ∀ (j g : Nat), ps[j]? = some (some g) → g ≠ L.gr ∧ ∃ kj, w.cell? ⟨g, 0, none⟩ = some (.int .i64 kj) ∧ (kj = key → j = k0)) :
    Calls Tryz.prog 44 #[.pointer (some ⟨L.b, 0, none⟩), .int .i64 key] w fun e w' => e = .returned (.tuple #[]) ∧ Lost w w' L ps k0 := by
  obtain ⟨v, hblk⟩ := hblk
  have b1 := hblk.cell (i := 1) rfl
  have HBL := Lib.hid hblk
  have HR := Lib.hid hrow
  have HL := Lib.hid hlen
  have HNE := Lib.hid hne
  have HKK := Lib.hid hk
  clear hblk hrow hlen hne hk
  go_enter Tryz.func44, Tryz.ntmps44
  go_wp2_with fail
  clear b1
  go_loopg [11] n (fun q i wr => ∃ (k : Nat) (ps' : List (Option Nat)), n - k ≤ q ∧ k ≤ n ∧ i = .int .i64 k ∧ (ps' = ps ∨ ps' = ps.set k0 none) ∧ (k ≤ k0 → ps' = ps) ∧ Blk wr L.gr (ps'.map pv) ∧ Only (fun k => k = L.gr) w wr)
  case atStart => exact ⟨0, ps, by omega, by omega, rfl, .inl rfl, fun _ => rfl, HR.out, Only.refl _ _⟩
  case round =>
    obtain ⟨k, ps', hq, hkn, rfl, hps, hp0, hrw, hon⟩ := hrel
    have HP := Lib.hid hps
    have HP0 := Lib.hid hp0
    have HRW := Lib.hid hrw
    have HON := Lib.hid hon
    clear hps hp0 hrw
    by_cases hlt : k < n
    · have hk1 : (k : Int) < (n : Int) := by omega
      have b1 := (HBL.out.only hon (by exact HNE.out)).cell (i := 1) rfl
      clear hon
      have hl' : ps'.length = n := by rcases HP.out with e | e <;> rw [e] <;> simp [HL.out]
      obtain ⟨p, hp⟩ : ∃ p, ps'[k]? = some p := ⟨_, List.getElem?_eq_getElem (by omega)⟩
      have x1 := pv_cell HRW.out hp
      have hpp : ps[k]? = some p ∨ p = none := by
        rcases HP.out with e | e
        · exact .inl (by rw [← e]; exact hp)
        · rw [e, List.getElem?_set] at hp
          split at hp
          · split at hp
            · exact .inr (Option.some.inj hp).symm
            · cases hp
          · exact .inl hp
      have HPK := Lib.hid hp
      clear hp hl'
      cases p with
      | none =>
        simp only [pv] at x1
        clear hpp
        go_wp2_with fail
        go_roundg (n - (k + 1))
        case measure => omega
        case rel => exact ⟨k + 1, ps', by omega, by omega, by go_num, HP.out, fun h => HP0.out (by omega), HRW.out, HON.out⟩
      | some g =>
        simp only [pv] at x1
        obtain ⟨hgr, kj, hkj, himp⟩ := HKK.out k g (hpp.resolve_right (by simp))
        have hkj := HON.out.cell (a := ⟨g, 0, none⟩) hgr hkj
        have HIM := Lib.hid himp
        clear hpp himp hgr
        by_cases e : kj = key
        · have e1 : (kj == key) = true := by simpa using e
          have HE : Hid (k = k0) := Lib.hid (HIM.out e)
          have frz := HRW.out.frozen
          clear e
          go_wp2_with fail
          go_roundg (n - (k + 1))
          case measure => omega
          case rel =>
            refine ⟨k + 1, ps'.set k none, by omega, by omega, by go_num, .inr ?_, fun h => by have := HE.out; omega, ?_, HON.out.setCell (.inl rfl) _⟩
            · rw [HP0.out (by have := HE.out; omega), HE.out]
            · rw [← set_pv]
              exact HRW.out.set k _
        · have e1 : (kj == key) = false := by simpa using e
          clear e
          go_wp2_with fail
          go_roundg (n - (k + 1))
          case measure => omega
          case rel => exact ⟨k + 1, ps', by omega, by omega, by go_num, HP.out, fun h => HP0.out (by omega), HRW.out, HON.out⟩
    · obtain rfl : k = n := by omega
      have hk1 : ¬ (k : Int) < (k : Int) := by omega
      clear hon
      go_wp2_with fail
      first | refine bodyPost_end (results_none rfl _ _ _) rfl ?_ | refine bodyPost_ret (results_none rfl _ _ _) rfl ?_
      exact ⟨rfl, ps', HP.out, HRW.out, HON.out⟩
theorem dirtyI_any {B : Nat} {w : World} {L : Lay} {ps : List (Option Nat)} {s : Fs} (h : FAt w L ps s) (ho : s.Ok B) (i : Int) : Calls Tryz.prog 49 #[pv (inn ps i)] w fun e w' => e = .returned (.bool (s.dirty i)) ∧ Below w.heap.size w w' := by
  cases hg : s.c.get i with
  | none =>
    have hn := Ck.get_none hg
    rw [inn_out (by rw [h.len]; exact hn)]
    have : s.dirty i = false := by
      unfold Fs.dirty
      split
      · unfold Fs.dirtyN
        rw [List.getElem?_eq_none (l := s.c.l) (by omega)]
      · rfl
    rw [this]
    exact dirty_nil w
  | some f =>
    obtain ⟨k, rfl, hk, hf⟩ := Ck.get_some hg
    rw [Fs.dirty_nat]
    exact dirty_any h ho hf
theorem _root_.Go.Proofs.YtaemjglblfencaaGreatDoor.Kl.At.setOther {E : Fm → List Value} {w : World} {b r cap : Nat} {tl : List Value} {c : Ck} (h : Kl.At E w b r cap tl c) {g i : Nat} {v : Value} (h1 : b ≠ g) (h2 : r ≠ g) : Kl.At E (w.setCell ⟨g, i, none⟩ v) b r cap tl c := ⟨h.blk.setOther h1 v, h.row.setOther h2 v, h.ne⟩

end Go.Proofs.YtaemjglblfencaaGreatDoor
