/- The statement ClockPins, walked. -/
import Derived.Test.YtblfpakokhlkgaaKs
import Derived.Test.YtblfpakokhlkgaaPp
import Derived.Deep.Cut
import Derived.Deep.CutRange
import Derived.RegionTactic
import Derived.BigQuiet
import Derived.Deep.QuietTactic
namespace Go.Proofs.Ytblfpakokhlkgaa
set_option linter.unusedSimpArgs false
set_option linter.unusedVariables false
open Go.RowKit

theorem not_foot {b r g B : Nat} (h : g < B) (h1 : B ≤ b) (h2 : B ≤ r) : ¬ foot b r g := fun hf => by rcases hf with e | e <;> omega
theorem KS.nf {w wr : World} {b r cap q : Nat} {c : Ck} {l : List Int} (h : KS w wr b r cap q c l) : ¬ foot b r q := fun hf => by rcases hf with e | e; exact h.nb e; exact h.nr e
theorem cell_only {S : Nat → Prop} {w w' : World} {g o : Nat} {v : Value} (h : Only S w w') (hs : ¬ S g) (hc : w.cell? ⟨g, o, none⟩ = some v) : w'.cell? ⟨g, o, none⟩ = some v := by
  have hb := h.block g (block_lt_of_cell hc) hs
  rw [← hc]
  simp only [World.cell?, hb]

theorem StepAt.at {w wz : World} {b o : Nat} {x : St} (h : StepAt w b o x) (hb : Below w.heap.size w wz) : StepAt wz b o x := h.below hb
theorem row_pins {w wr : World} {b r cap q : Nat} {c : Ck} (h : KS w wr b r cap q c (pinsOf c.l)) {i : Nat} {f : Fm} (hf : c.l[i]? = some f) : wr.cell? ⟨q, i, none⟩ = some (.int .i64 f.pins) := h.cell (by simp [pinsOf, hf])
set_option maxHeartbeats 8000000 in
set_option maxRecDepth 100000 in
theorem pinsL_any (w : World) (n : Nat) (hn : n < 256) (l : List St) (v1 : Value) (hl : StepsAt w v1 l) : Calls Try.prog 4 #[.int .u8 n, v1] w fun e w' => e = .returned (.bool true) ∧ Below w.heap.size w w' := by
  have HS := Lib.hid hl
  obtain ⟨sa, sc, rfl, -⟩ := hl
  obtain ⟨m, hm, hm16⟩ := mod16 n
  have HM16 := Lib.hid hm16
  obtain ⟨M, hM⟩ : ∃ M : Nat, M = 1 + m := ⟨_, rfl⟩
  have HM : Hid (1 ≤ M ∧ M ≤ 16) := Lib.hid (by omega)
  have gw : IntKind.i64.wrap (1 + (m : Int)) = (M : Int) := by rw [wrap63 (by omega) (by omega)]; omega
  have gn : IntKind.i64.wrap (n : Int) = (n : Int) := wrap63 (by omega) (by omega)
  have HN := Lib.hid (new_yes w M (by omega) (by omega))
  clear hM hm16 hn
  go_enter Try.func4, Try.ntmps4
  go_wp2_with fail
  refine HN.out.mono ?_
  rintro e w1 ⟨b, r, rfl, ha, hb, h1, h2⟩
  have HA1 := Lib.hid ha
  have HB1 := Lib.hid hb
  have HL1 : Hid (w.heap.size ≤ b ∧ w.heap.size ≤ r) := Lib.hid ⟨h1, h2⟩
  clear ha hb h1 h2 HN hm gw gn
  by_cases hl0 : 150 < l.length
  · have dl : decide ((150 : Int) < (l.length : Int)) = true := decide_eq_true (by omega)
    go_wp2_with fail
    refine (wakes_any _).mono ?_
    rintro e w2 ⟨rfl, hb⟩
    have HB2 := Lib.hid (stay HB1.out hb)
    clear hb
    go_wp2_with fail
    go_ret
    exact ⟨rfl, HB2.out⟩
  have dl : decide ((150 : Int) < (l.length : Int)) = false := decide_eq_false (by omega)
  have HLL : Hid (l.length ≤ 150) := Lib.hid (by omega)
  clear hl0
  have mk := make47 M (by have := HM.out; omega)
  go_wp2_with fail
  have HK0 : Hid (KS w (w1.alloc (.cells (Array.replicate M (.int .i64 0)) 3)) b r M w1.heap.size (newCk M) (pinsOf (newCk M).l)) := Lib.hid (by
    have hb := alloc_below w1 (.cells (Array.replicate M (.int .i64 0)) 3)
    refine ⟨HA1.out.below hb, ?_, ?_, ?_, stay HB1.out hb, HL1.out.1, HL1.out.2, HB1.out.size⟩
    · refine Blk.newAt _ _ _ rfl ?_
      simp [i64s, pinsOf, newCk]
    · have := HA1.out.blk.lt; omega
    · have := HA1.out.row.lt; omega)
  generalize w1.alloc (.cells (Array.replicate M (.int .i64 0)) 3) = w2 at *
  generalize w1.heap.size = q at *
  have HO1 : Hid ((newCk M).Ok 0) := Lib.hid (newCk_ok HM.out.1 HM.out.2)
  have HL2 : Hid ((newCk M).l.length = M) := Lib.hid (by simp [newCk])
  generalize newCk M = c0 at *
  clear mk HA1 HB1 HL1
  go_loopg [9] l.length (fun g i wr => ∃ (k : Nat) (c : Ck), l.length - k ≤ g ∧ k ≤ l.length ∧ i = .int .i64 k ∧ KS w wr b r M q c (pinsOf c.l) ∧ c.Ok k ∧ c.l.length = M)
  case atStart => exact ⟨0, c0, by omega, by omega, rfl, HK0.out, HO1.out, HL2.out⟩
  case round =>
    as_aux_lemma =>
      obtain ⟨k, c, hq, hk, rfl, hks, hok, hlen⟩ := hrel
      have HK := Lib.hid hks
      have HO := Lib.hid hok
      have HLN := Lib.hid hlen
      clear hok hlen HK0 HO1 HL2
      by_cases hlt : k < l.length
      · have hk1 : (k : Int) < (l.length : Int) := by omega
        have gk : IntKind.i64.wrap ((k : Int) + 1) = (k : Int) + 1 := by have := HLL.out; exact wrap63 (by omega) (by omega)
        obtain ⟨x, hx⟩ : ∃ x, l[k]? = some x := ⟨_, List.getElem?_eq_getElem hlt⟩
        obtain ⟨a', cap', e, hc⟩ := id HS.out
        cases e
        obtain ⟨hw, b', o, rfl, hst⟩ := hc k x hx
        have HST := Lib.hid hst
        obtain ⟨kd, fr, ky⟩ := x
        have HWK : Hid (Small ky) := Lib.hid hw.key
        have hB : k ≤ 1000000 := by have := HLL.out; omega
        have HV := Lib.hid (victim_any wr b r M [] c hks.at' HO.out)
        rw [findR_eq] at HV
        obtain ⟨d, hd⟩ : ∃ d, c.victim.2 = d := ⟨_, rfl⟩
        have HDO : Hid (d.Ok k) := Lib.hid (by rw [← hd]; exact HO.out.victim)
        have HDL : Hid (d.l.length = M) := Lib.hid (by rw [← hd, Ck.victim_len]; exact HLN.out)
        have HDP : Hid (pinsOf c.l = pinsOf d.l) := Lib.hid (by rw [← hd, victim_pins])
        have hda : c.l.all Fm.P = d.l.all Fm.P := by
          have h1 : ∀ (l : List Fm), l.all Fm.P = (pinsOf l).all (fun p => decide (0 < p)) := fun l => by simp only [pinsOf, List.all_map]; rfl
          rw [h1, h1, HDP.out]
        obtain ⟨vI, hvI⟩ : ∃ v, findV c.victim.1 = v := ⟨_, rfl⟩
        obtain ⟨ok, hokv⟩ : ∃ v, c.victim.1.isSome = v := ⟨_, rfl⟩
        have HVC : Hid ((ok = false ∧ vI = 0) ∨ ∃ (v : Nat) (f : Fm), ok = true ∧ vI = v ∧ v < M ∧ d.l[v]? = some f ∧ f.P = false) := Lib.hid (by
          cases hv : c.victim.1 with
          | none => rw [hv] at hvI hokv; exact .inl ⟨hokv.symm, hvI.symm⟩
          | some v =>
            obtain ⟨f, hf, hp⟩ := victim_some HO.out hv
            rw [hd] at hf
            rw [hv] at hvI hokv
            exact .inr ⟨v, f, hokv.symm, hvI.symm, by rw [← HDL.out]; exact (List.getElem?_eq_some_iff.1 hf).1, hf, hp⟩)
        have HOA : Hid (ok = !d.l.all Fm.P) := Lib.hid (by rw [← hokv, victim_is HO.out, hda])
        rw [hd, hvI, hokv] at HV
        clear hks hst hc hw hx hd hvI hokv hda
        go_wp2_with fail
        refine HV.out.mono ?_
        rintro e w3 ⟨rfl, ha, hon⟩
        have HK3 : Hid (KS w w3 b r M q d (pinsOf d.l)) := Lib.hid (by rw [← HDP.out]; exact HK.out.turn ha hon)
        clear ha hon HV HK HDP HO HLN
        go_wp2_with fail
        go_loopg [12, 13] M (fun g s12 s13 wq => ∃ j : Nat, M - j ≤ g ∧ j ≤ M ∧ s12 = .bool ((d.l.take j).all Fm.P) ∧ s13 = .int .i64 j ∧ w3 = wq)
        case atStart => exact ⟨0, by omega, by omega, by simp, rfl, rfl⟩
        case round =>
          as_aux_lemma =>
            obtain ⟨j, hq3, hj, rfl, rfl, rfl⟩ := hrel
            by_cases hltj : j < M
            · have hj1 : (j : Int) < (M : Int) := by omega
              obtain ⟨f, hfj⟩ : ∃ f, d.l[j]? = some f := ⟨_, List.getElem?_eq_getElem (by rw [HDL.out]; exact hltj)⟩
              have y0 := row_pins HK3.out hfj
              have gj : IntKind.i64.wrap ((j : Int) + 1) = (j : Int) + 1 := by have := HM.out; exact wrap63 (by omega) (by omega)
              have HT : Hid ((d.l.take (j + 1)).all Fm.P = ((d.l.take j).all Fm.P && f.P)) := Lib.hid (by rw [List.take_add_one, hfj]; simp)
              generalize (d.l.take j).all Fm.P = al at *
              clear hfj
              cases al with
              | false =>
                go_wp2_with fail
                go_roundg (M - (j + 1))
                case measure => omega
                case rel => exact ⟨j + 1, by omega, by omega, by rw [HT.out]; rfl, by go_num, rfl⟩
              | true =>
                cases hp : f.P with
                | true =>
                  have d0 : decide (0 < f.pins) = true := hp
                  rw [hp] at HT
                  clear hp
                  go_wp2_with fail
                  go_roundg (M - (j + 1))
                  case measure => omega
                  case rel => exact ⟨j + 1, by omega, by omega, by rw [HT.out]; rfl, by go_num, rfl⟩
                | false =>
                  have d0 : decide (0 < f.pins) = false := hp
                  rw [hp] at HT
                  clear hp
                  go_wp2_with fail
                  go_roundg (M - (j + 1))
                  case measure => omega
                  case rel => exact ⟨j + 1, by omega, by omega, by rw [HT.out]; rfl, by go_num, rfl⟩
            · obtain rfl : j = M := by omega
              have hj1 : ¬ (j : Int) < (j : Int) := by omega
              rw [List.take_of_length_le (by rw [HDL.out]; omega)]
              have HAL : Hid (d.l.all Fm.P = !ok) := Lib.hid (by rw [HOA.out]; simp)
              rw [HAL.out]
              clear hq3 hj HOA HAL
              generalize j = M at *
              go_upto_region 15 with fail
              go_cut [94] from 49 to 210 (fun s94 wz => s94 = .bool false ∧ w3 = wz)
              case first =>
                rcases HVC.out with ⟨rfl, rfl⟩ | ⟨v, f, rfl, rfl, hvM, hf, hp⟩
                · go_wp2_with fail
                  go_meet
                  exact ⟨rfl, rfl⟩
                · have y0 := row_pins HK3.out hf
                  have d0 : decide (0 < f.pins) = false := hp
                  have v0 : decide ((v : Int) < 0) = false := decide_eq_false (by omega)
                  have v1 : decide ((M : Int) ≤ (v : Int)) = false := decide_eq_false (by omega)
                  have v2 : decide (M ≤ v) = false := decide_eq_false (by omega)
                  have v3 : (v : Int) < (M : Int) := by omega
                  clear hf hp
                  go_wp2_with fail
                  go_meet
                  exact ⟨rfl, rfl⟩
              case rest =>
                as_aux_lemma =>
                  obtain ⟨rfl, rfl⟩ := hcut
                  go_upto_if 95 with fail
                  go_cut [10, 14, 15, 16] from 49 to 210 (fun s10 s14 s15 s16 wz => ∃ c2, KS w wz b r M q c2 (pinsOf c2.l) ∧ c2.Ok (k + 1) ∧ c2.l.length = M)
                  case first =>
                    have HX3 := Lib.hid (HST.out.at HK3.out.bel)
                    have s2 := HX3.out.key
                    simp only at s2
                    rcases HVC.out with ⟨rfl, rfl⟩ | ⟨v, f, rfl, rfl, hvM, hf, hp⟩
                    · go_wp2_with fail
                      go_meet
                      exact ⟨d, HK3.out, HDO.out.mono (by omega), HDL.out⟩
                    · have hf' := Lib.hid hf
                      have hp' := Lib.hid hp
                      clear hf hp
                      by_cases h0 : 0 ≤ ky
                      · have k0 : decide (0 ≤ ky) = true := decide_eq_true h0
                        have HFD := Lib.hid (find_any w3 b r M [] d HK3.out.at' HDO.out ky)
                        cases hfd : d.find ky with
                        | some u =>
                          rw [hfd] at HFD
                          simp only [findR] at HFD
                          obtain ⟨j2, f2, e2, hj2, hp2, -⟩ := first_some hfd
                          obtain rfl : j2 = u := by omega
                          have huM : j2 < M := by rw [← HDL.out]; exact (List.getElem?_eq_some_iff.1 hj2).1
                          have hK2 : f2.K = true := by
                            simp only [isKey, Bool.and_eq_true] at hp2
                            exact hp2.1
                          have HJ2 := Lib.hid hj2
                          have HK2 := Lib.hid hK2
                          have u0 : decide ((j2 : Int) < 0) = false := decide_eq_false (by omega)
                          have u1 : decide ((M : Int) ≤ (j2 : Int)) = false := decide_eq_false (by omega)
                          have u2 : decide (M ≤ j2) = false := decide_eq_false (by omega)
                          have u3 : (j2 : Int) < (M : Int) := by omega
                          clear hfd hj2 hp2 hK2 h0 e2
                          by_cases h2 : kd = 2
                          · have d2 : (kd == 2) = true := by simpa using h2
                            have HPI := fun (w9 : World) (h9 : At encC w9 b r M [] d) => pin_any w9 b r M [] d h9 HDO.out hB j2
                            have hke : (d).keyed j2 = true := by unfold Ck.keyed; rw [Ck.get_nat, HJ2.out]; exact HK2.out
                            rw [hke] at HPI
                            have HPJ := Lib.hid HPI
                            have HPQ := Lib.hid (pin_pins HJ2.out HK2.out)
                            have HOQ := Lib.hid (HDO.out.pin (j2 : Int))
                            have HLQ : Hid (((d).pin j2).l.length = M) := Lib.hid (by rw [Ck.pin_len]; exact HDL.out)
                            have gp : IntKind.i64.wrap ((f2).pins + 1) = (f2).pins + 1 := wrap63 (by have := (HDO.out.all _ _ HJ2.out).p0; omega) (by have := (HDO.out.all _ _ HJ2.out).p1; omega)
                            clear h2 hke HPI
                            go_wp2_with fail
                            refine HFD.out.mono ?_
                            rintro e w4 ⟨rfl, hb⟩
                            have HK4 := Lib.hid (HK3.out.below hb)
                            clear hb
                            have t0 := (HST.out.at HK4.out.bel).kind
                            simp only at t0
                            go_wp2_with fail
                            refine (HPJ.out _ HK4.out.at').mono ?_
                            rintro e w6 ⟨rfl, ha, hon⟩
                            have HK6 := Lib.hid (HK4.out.turn ha hon)
                            have y0 : w6.cell? ⟨q, j2, none⟩ = some (.int .i64 (f2).pins) := HK6.out.cell (by simp [pinsOf, HJ2.out])
                            have y1 := HK6.out.row.frozen j2
                            have HK7 : Hid (KS w (w6.setCell ⟨q, j2, none⟩ (.int .i64 ((f2).pins + 1))) b r M q ((d).pin j2) (pinsOf ((d).pin j2).l)) := Lib.hid (by rw [HPQ.out]; exact HK6.out.set _ _)
                            clear ha hon
                            skip
                            go_wp2_with fail
                            go_meet
                            exact ⟨_, HK7.out, HOQ.out, HLQ.out⟩
                          · have d2 : (kd == 2) = false := by simpa using h2
                            clear h2
                            go_wp2_with fail
                            refine HFD.out.mono ?_
                            rintro e w4 ⟨rfl, hb⟩
                            have HK4 := Lib.hid (HK3.out.below hb)
                            clear hb
                            have t0 := (HST.out.at HK4.out.bel).kind
                            simp only at t0
                            go_wp2_with fail
                            go_meet
                            exact ⟨_, HK4.out, HDO.out.mono (by omega), HDL.out⟩
                        | none =>
                          rw [hfd] at HFD
                          simp only [findR] at HFD
                          have HMP : Hid (d.mayPut v ky = true) := Lib.hid (by
                            unfold Ck.mayPut Ck.may
                            rw [k0, Ck.get_nat, hf'.out, hfd]
                            simp [hp'.out])
                          have HPU := fun (w4 : World) (h4 : At encC w4 b r M [] d) => put_any w4 b r M [] d h4 HDO.out v ky
                          rw [HMP.out] at HPU
                          have HPP := Lib.hid HPU
                          have HPN := Lib.hid (put_pins (key := ky) (k := 0) HDO.out (v : Int))
                          have HOP := Lib.hid (HDO.out.put (v : Int) ky HWK.out.2)
                          have HLP : Hid ((d.put v ky).l.length = M) := Lib.hid (by rw [Ck.put_len]; exact HDL.out)
                          have HPG : Hid ((d.put v ky).l[v]? = some ⟨ky, true, 0⟩) := Lib.hid (by
                            rw [put_yes HMP.out]
                            simp only [List.getElem?_set, if_true]
                            rw [if_pos (by rw [HDL.out]; exact hvM)])
                          have v0 : decide ((v : Int) < 0) = false := decide_eq_false (by omega)
                          have v1 : decide ((M : Int) ≤ (v : Int)) = false := decide_eq_false (by omega)
                          have v2 : decide (M ≤ v) = false := decide_eq_false (by omega)
                          have v3 : (v : Int) < (M : Int) := by omega
                          clear hfd h0 HPU
                          by_cases h2 : kd = 2
                          · have d2 : (kd == 2) = true := by simpa using h2
                            have HPI := fun (w9 : World) (h9 : At encC w9 b r M [] (d.put v ky)) => pin_any w9 b r M [] (d.put v ky) h9 HOP.out hB v
                            have hke : ((d.put v ky)).keyed v = true := by unfold Ck.keyed; rw [Ck.get_nat, HPG.out]; exact k0
                            rw [hke] at HPI
                            have HPJ := Lib.hid HPI
                            have HPQ := Lib.hid (pin_pins HPG.out k0)
                            have HOQ := Lib.hid (HOP.out.pin (v : Int))
                            have HLQ : Hid ((((d.put v ky)).pin v).l.length = M) := Lib.hid (by rw [Ck.pin_len]; exact HLP.out)
                            have gp : IntKind.i64.wrap (((⟨ky, true, 0⟩ : Fm)).pins + 1) = ((⟨ky, true, 0⟩ : Fm)).pins + 1 := wrap63 (by have := (HOP.out.all _ _ HPG.out).p0; omega) (by have := (HOP.out.all _ _ HPG.out).p1; omega)
                            clear h2 hke HPI
                            go_wp2_with fail
                            refine HFD.out.mono ?_
                            rintro e w8 ⟨rfl, hb⟩
                            have HK8 := Lib.hid (HK3.out.below hb)
                            clear hb
                            go_wp2_with fail
                            refine (HPP.out _ HK8.out.at').mono ?_
                            rintro e w4 ⟨rfl, ha, hon⟩
                            have HK4 : Hid (KS w w4 b r M q (d.put v ky) (pinsOf (d.put v ky).l)) := Lib.hid (by rw [HPN.out]; exact HK8.out.turn ha hon)
                            clear ha hon
                            have t0 := (HST.out.at HK4.out.bel).kind
                            simp only at t0
                            go_wp2_with fail
                            refine (HPJ.out _ HK4.out.at').mono ?_
                            rintro e w6 ⟨rfl, ha, hon⟩
                            have HK6 := Lib.hid (HK4.out.turn ha hon)
                            have y0 : w6.cell? ⟨q, v, none⟩ = some (.int .i64 ((⟨ky, true, 0⟩ : Fm)).pins) := HK6.out.cell (by simp [pinsOf, HPG.out])
                            have y1 := HK6.out.row.frozen v
                            have HK7 : Hid (KS w (w6.setCell ⟨q, v, none⟩ (.int .i64 (((⟨ky, true, 0⟩ : Fm)).pins + 1))) b r M q (((d.put v ky)).pin v) (pinsOf (((d.put v ky)).pin v).l)) := Lib.hid (by rw [HPQ.out]; exact HK6.out.set _ _)
                            clear ha hon
                            simp only at y0 gp HK7
                            go_wp2_with fail
                            go_meet
                            exact ⟨_, HK7.out, HOQ.out, HLQ.out⟩
                          · have d2 : (kd == 2) = false := by simpa using h2
                            clear h2
                            go_wp2_with fail
                            refine HFD.out.mono ?_
                            rintro e w8 ⟨rfl, hb⟩
                            have HK8 := Lib.hid (HK3.out.below hb)
                            clear hb
                            go_wp2_with fail
                            refine (HPP.out _ HK8.out.at').mono ?_
                            rintro e w4 ⟨rfl, ha, hon⟩
                            have HK4 : Hid (KS w w4 b r M q (d.put v ky) (pinsOf (d.put v ky).l)) := Lib.hid (by rw [HPN.out]; exact HK8.out.turn ha hon)
                            clear ha hon
                            have t0 := (HST.out.at HK4.out.bel).kind
                            simp only at t0
                            go_wp2_with fail
                            go_meet
                            exact ⟨_, HK4.out, HOP.out.mono (by omega), HLP.out⟩
                      · have k0 : decide (0 ≤ ky) = false := decide_eq_false h0
                        clear h0
                        go_wp2_with fail
                        go_meet
                        exact ⟨d, HK3.out, HDO.out.mono (by omega), HDL.out⟩
                  case rest =>
                    as_aux_lemma =>
                      obtain ⟨c2, h1, h2, h3⟩ := hcut
                      have HK5 := Lib.hid h1
                      have HO5 := Lib.hid h2
                      have HL5 := Lib.hid h3
                      clear h1 h2 h3 HK3 HDO HDL HVC
                      generalize wc = w5 at *
                      have HX5 := Lib.hid (HST.out.at HK5.out.bel)
                      have s0 := HX5.out.kind
                      have s1 := HX5.out.frame
                      simp only at s0 s1
                      obtain ⟨cnd, hcnd⟩ : ∃ v, (decide (kd = 3) && decide (0 ≤ fr) && decide (fr < (M : Int))) = v := ⟨_, rfl⟩
                      go_upto_region 29 with fail
                      go_cut [163] from 49 to 210 (fun s163 wz => s163 = .bool cnd ∧ w5 = wz)
                      case first =>
                        by_cases h3 : kd = 3
                        · have d3 : (kd == 3) = true := by simpa using h3
                          by_cases h0 : 0 ≤ fr
                          · have f0 : decide (0 ≤ fr) = true := decide_eq_true h0
                            by_cases h1 : fr < (M : Int)
                            · have f1 : decide (fr < (M : Int)) = true := decide_eq_true h1
                              have e : cnd = true := by rw [← hcnd, f0, f1, decide_eq_true h3]; rfl
                              clear hcnd h3 h0 h1
                              subst e
                              go_wp2_with fail
                              go_meet
                              exact ⟨rfl, rfl⟩
                            · have f1 : decide (fr < (M : Int)) = false := decide_eq_false h1
                              have e : cnd = false := by rw [← hcnd, f1]; simp
                              clear hcnd h3 h0 h1
                              subst e
                              go_wp2_with fail
                              go_meet
                              exact ⟨rfl, rfl⟩
                          · have f0 : decide (0 ≤ fr) = false := decide_eq_false h0
                            have e : cnd = false := by rw [← hcnd, f0]; simp
                            clear hcnd h3 h0
                            subst e
                            go_wp2_with fail
                            go_meet
                            exact ⟨rfl, rfl⟩
                        · have d3 : (kd == 3) = false := by simpa using h3
                          have e : cnd = false := by rw [← hcnd, decide_eq_false h3]; rfl
                          clear hcnd h3
                          subst e
                          go_wp2_with fail
                          go_meet
                          exact ⟨rfl, rfl⟩
                      case rest =>
                        as_aux_lemma =>
                          obtain ⟨rfl, rfl⟩ := hcut
                          go_upto_if 163 with fail
                          go_cut [] from 49 to 210 (fun wz => ∃ c3, KS w wz b r M q c3 (pinsOf c3.l) ∧ c3.Ok (k + 1) ∧ c3.l.length = M)
                          case first =>
                            cases cnd with
                            | false =>
                              clear hcnd
                              go_wp2_with fail
                              go_meet
                              exact ⟨c2, HK5.out, HO5.out, HL5.out⟩
                            | true =>
                              simp only [Bool.and_eq_true, decide_eq_true_eq] at hcnd
                              obtain ⟨z, rfl⟩ : ∃ z : Nat, fr = (z : Int) := ⟨fr.toNat, by omega⟩
                              have hzM : z < M := by omega
                              have hz1 : (z : Int) < (M : Int) := by omega
                              obtain ⟨f, hf⟩ : ∃ f, c2.l[z]? = some f := ⟨_, List.getElem?_eq_getElem (by rw [HL5.out]; exact hzM)⟩
                              have HF := Lib.hid hf
                              have HFO := Lib.hid (HO5.out.all z f hf)
                              have HUP := fun (w9 : World) (h9 : At encC w9 b r M [] c2) => unpin_any w9 b r M [] c2 h9 HO5.out (by have := HLL.out; omega) z
                              have hpa : c2.pinnedAt z = f.P := by unfold Ck.pinnedAt; rw [Ck.get_nat, hf]
                              rw [hpa] at HUP
                              have HUU := Lib.hid HUP
                              have HUQ := Lib.hid (unpin_pins HO5.out hf)
                              have HOU := Lib.hid (HO5.out.unpin (z : Int))
                              have HLU : Hid ((c2.unpin z).l.length = M) := Lib.hid (by rw [Ck.unpin_len]; exact HL5.out)
                              have gp : IntKind.i64.wrap (f.pins - 1) = f.pins - 1 := by rw [IntKind.wrap_i64]; have h0 := HFO.out.p0; have h1 := HFO.out.p1; omega
                              clear hcnd hf hpa HUP
                              go_upto_region 30 with fail
                              go_cut [180] from 49 to 210 (fun s180 wz => s180 = .bool false ∧ At encC wz b r M [] (c2.unpin z) ∧ Only (foot b r) w5 wz)
                              case first =>
                                refine startH (fun wq => Only (foot b r) w5 wq) (by kernel_rfl) ?_
                                have HA0 : Hid (At encC w5.drew b r M [] c2) := Lib.hid (HK5.out.drewN 1).at'
                                have HS0 : Hid (Only (foot b r) w5 w5.drew) := Lib.hid (Only.refl _ _).drew
                                generalize w5.drew = wS at *
                                have HNQ := Lib.hid (KS.nf HK5.out)
                                have HNB := Lib.hid (not_foot (block_lt_of_cell HST.out.frame) HK5.out.lb HK5.out.lr)
                                have HC1 : Hid (w5.cell? ⟨b', o + k * 3 + 1, none⟩ = some (.int .i64 (z : Int))) := Lib.hid s1
                                have HCQ := Lib.hid (row_pins HK5.out HF.out)
                                have hkl : k < l.length := hlt
                                clear s0 s1
                                refine takeH 0 (some 164) (.pointer (some ⟨b, 0, none⟩)) rfl rfl (by kernel_rfl) (by kernel_rfl) (by kernel_rfl) (fun _ _ _ h => h) rfl (fun wq hS => by go_simp) HS0.out ?_
                                try simp only [Act.put, List.setIfInBounds_toArray, List.set_cons_succ, List.set_cons_zero]
                                refine takeH 1 (some 165) (.slice (some ⟨b', o, none⟩) l.length sc) rfl rfl (by kernel_rfl) (by kernel_rfl) (by kernel_rfl) (fun _ _ _ h => h) rfl (fun wq hS => by go_simp) HS0.out ?_
                                try simp only [Act.put, List.setIfInBounds_toArray, List.set_cons_succ, List.set_cons_zero]
                                refine takeH 2 (some 166) (.int .i64 (k : Int)) rfl rfl (by kernel_rfl) (by kernel_rfl) (by kernel_rfl) (fun _ _ _ h => h) rfl (fun wq hS => by go_simp) HS0.out ?_
                                try simp only [Act.put, List.setIfInBounds_toArray, List.set_cons_succ, List.set_cons_zero]
                                refine takeH 3 (some 167) (.pointer (some ⟨b', o + k * 3, none⟩)) rfl rfl (by kernel_rfl) (by kernel_rfl) (by kernel_rfl) (fun _ _ _ h => h) rfl (fun wq hS => by go_simp) HS0.out ?_
                                try simp only [Act.put, List.setIfInBounds_toArray, List.set_cons_succ, List.set_cons_zero]
                                refine takeH 4 (some 168) (.pointer (some ⟨b', o + k * 3 + 1, none⟩)) rfl rfl (by kernel_rfl) (by kernel_rfl) (by kernel_rfl) (fun _ _ _ h => h) rfl (fun wq hS => by go_simp) HS0.out ?_
                                try simp only [Act.put, List.setIfInBounds_toArray, List.set_cons_succ, List.set_cons_zero]
                                refine takeH 5 (some 169) (.int .i64 (z : Int)) rfl rfl (by kernel_rfl) (by kernel_rfl) (by kernel_rfl) (fun _ _ _ h => h) rfl (fun wq hS => by have z := cell_only hS HNB.out HC1.out; go_simp) HS0.out ?_
                                try simp only [Act.put, List.setIfInBounds_toArray, List.set_cons_succ, List.set_cons_zero]
                                refine takeH 7 (some 171) (.slice (some ⟨q, 0, none⟩) M M) rfl rfl (by kernel_rfl) (by kernel_rfl) (by kernel_rfl) (fun _ _ _ h => h) rfl (fun wq hS => by go_simp) HS0.out ?_
                                try simp only [Act.put, List.setIfInBounds_toArray, List.set_cons_succ, List.set_cons_zero]
                                refine takeH 8 (some 172) (.slice (some ⟨b', o, none⟩) l.length sc) rfl rfl (by kernel_rfl) (by kernel_rfl) (by kernel_rfl) (fun _ _ _ h => h) rfl (fun wq hS => by go_simp) HS0.out ?_
                                try simp only [Act.put, List.setIfInBounds_toArray, List.set_cons_succ, List.set_cons_zero]
                                refine takeH 9 (some 173) (.int .i64 (k : Int)) rfl rfl (by kernel_rfl) (by kernel_rfl) (by kernel_rfl) (fun _ _ _ h => h) rfl (fun wq hS => by go_simp) HS0.out ?_
                                try simp only [Act.put, List.setIfInBounds_toArray, List.set_cons_succ, List.set_cons_zero]
                                refine takeH 10 (some 174) (.pointer (some ⟨b', o + k * 3, none⟩)) rfl rfl (by kernel_rfl) (by kernel_rfl) (by kernel_rfl) (fun _ _ _ h => h) rfl (fun wq hS => by go_simp) HS0.out ?_
                                try simp only [Act.put, List.setIfInBounds_toArray, List.set_cons_succ, List.set_cons_zero]
                                refine takeH 11 (some 175) (.pointer (some ⟨b', o + k * 3 + 1, none⟩)) rfl rfl (by kernel_rfl) (by kernel_rfl) (by kernel_rfl) (fun _ _ _ h => h) rfl (fun wq hS => by go_simp) HS0.out ?_
                                try simp only [Act.put, List.setIfInBounds_toArray, List.set_cons_succ, List.set_cons_zero]
                                refine takeH 12 (some 176) (.int .i64 (z : Int)) rfl rfl (by kernel_rfl) (by kernel_rfl) (by kernel_rfl) (fun _ _ _ h => h) rfl (fun wq hS => by have z := cell_only hS HNB.out HC1.out; go_simp) HS0.out ?_
                                try simp only [Act.put, List.setIfInBounds_toArray, List.set_cons_succ, List.set_cons_zero]
                                refine takeH 13 (some 177) (.pointer (some ⟨q, z, none⟩)) rfl rfl (by kernel_rfl) (by kernel_rfl) (by kernel_rfl) (fun _ _ _ h => h) rfl (fun wq hS => by go_simp) HS0.out ?_
                                try simp only [Act.put, List.setIfInBounds_toArray, List.set_cons_succ, List.set_cons_zero]
                                refine takeH 14 (some 178) (.int .i64 f.pins) rfl rfl (by kernel_rfl) (by kernel_rfl) (by kernel_rfl) (fun _ _ _ h => h) rfl (fun wq hS => by have z := cell_only hS HNQ.out HCQ.out; go_simp) HS0.out ?_
                                try simp only [Act.put, List.setIfInBounds_toArray, List.set_cons_succ, List.set_cons_zero]
                                refine takeH 15 (some 179) (.bool f.P) rfl rfl (by kernel_rfl) (by kernel_rfl) (by kernel_rfl) (fun _ _ _ h => h) rfl (fun wq hS => by go_simp) HS0.out ?_
                                try simp only [Act.put, List.setIfInBounds_toArray, List.set_cons_succ, List.set_cons_zero]
                                refine oneH 6 (by kernel_rfl) rfl rfl fun K hK => ?_
                                go_simp
                                refine (HUU.out _ HA0.out).mono ?_
                                rintro e w6 ⟨rfl, ha, hon⟩
                                have HA6 := Lib.hid ha
                                have HS6 := Lib.hid (HS0.out.trans hon)
                                refine hK _ _ HS6.out ?_
                                clear hK K ha hon
                                try simp only [Act.put, List.setIfInBounds_toArray, List.set_cons_succ, List.set_cons_zero]
                                refine takeH 16 (some 180) (.bool false) rfl rfl (by kernel_rfl) (by kernel_rfl) (by kernel_rfl) (fun _ _ _ h => h) rfl (fun wq hS => by go_simp) HS6.out ?_
                                try simp only [Act.put, List.setIfInBounds_toArray, List.set_cons_succ, List.set_cons_zero]
                                refine wpAnyH_done (by kernel_rfl) ?_ _
                                go_wp2_with fail
                                go_meet
                                exact ⟨rfl, HA6.out, HS6.out⟩
                              case rest =>
                                as_aux_lemma =>
                                  obtain ⟨rfl, ha, hon⟩ := hcut
                                  have HK6 := Lib.hid (HK5.out.turn ha hon)
                                  have y0 : wc.cell? ⟨q, z, none⟩ = some (.int .i64 f.pins) := HK6.out.cell (by simp [pinsOf, HF.out])
                                  have y1 := HK6.out.row.frozen z
                                  have s1' := (HST.out.at HK6.out.bel).frame
                                  simp only at s1'
                                  have HK7 : Hid (KS w (wc.setCell ⟨q, z, none⟩ (.int .i64 (max 0 (f.pins - 1)))) b r M q (c2.unpin z) (pinsOf (c2.unpin z).l)) := Lib.hid (by rw [HUQ.out]; exact HK6.out.set _ _)
                                  have HK8 : Hid (KS w (wc.setCell ⟨q, z, none⟩ (.int .i64 (max 0 (f.pins - 1)))).drew b r M q (c2.unpin z) (pinsOf (c2.unpin z).l)) := Lib.hid (HK7.out.drewN 1)
                                  clear ha hon s0 s1
                                  generalize wc = w7 at *
                                  go_upto_region 32 with fail
                                  go_region
                                  go_wp2_with fail
                                  all_goals
                                    go_meet
                                    refine ⟨_, ?_, HOU.out, HLU.out⟩
                                    first
                                    | (have e : max 0 (f.pins - 1) = f.pins - 1 := by omega
                                       have h := HK8.out
                                       rw [e] at h
                                       exact h)
                                    | (have e : max 0 (f.pins - 1) = 0 := by omega
                                       have h := HK8.out
                                       rw [e] at h
                                       exact h)
                          case rest =>
                            as_aux_lemma =>
                              obtain ⟨c3, h1, h2, h3⟩ := hcut
                              have HK9 := Lib.hid h1
                              have HO9 := Lib.hid h2
                              have HL9 := Lib.hid h3
                              clear h1 h2 h3 HK5 HO5 HL5 HX5 s0 s1
                              generalize wc = w9 at *
                              go_wp2_with fail
                              go_loopg [17] M (fun g i wq => ∃ j : Nat, M - j ≤ g ∧ j ≤ M ∧ i = .int .i64 j ∧ KS w wq b r M q c3 (pinsOf c3.l))
                              case atStart => exact ⟨0, by omega, by omega, rfl, HK9.out⟩
                              case round =>
                                as_aux_lemma =>
                                  obtain ⟨j, hq4, hj, rfl, hk4⟩ := hrel
                                  have HK4 := Lib.hid hk4
                                  by_cases hlt4 : j < M
                                  · have hj1 : (j : Int) < (M : Int) := by omega
                                    obtain ⟨f, hfj⟩ : ∃ f, c3.l[j]? = some f := ⟨_, List.getElem?_eq_getElem (by rw [HL9.out]; exact hlt4)⟩
                                    have HPN := fun (wz : World) (hz : At encC wz b r M [] c3) => pins_any wz b r M [] c3 hz HO9.out j
                                    have hpj : c3.pins j = f.pins := by unfold Ck.pins; rw [Ck.get_nat, hfj]
                                    rw [hpj] at HPN
                                    have HPP := Lib.hid HPN
                                    have HJ := Lib.hid hfj
                                    have gj : IntKind.i64.wrap ((j : Int) + 1) = (j : Int) + 1 := by have := HM.out; exact wrap63 (by omega) (by omega)
                                    clear hk4 hfj hpj HPN
                                    go_upto_region 36 with fail
                                    go_cut [210] from 198 to 210 (fun s210 wz => s210 = .bool false ∧ KS w wz b r M q c3 (pinsOf c3.l))
                                    case first =>
                                      refine startH (fun wq => KS w wq b r M q c3 (pinsOf c3.l)) (by kernel_rfl) ?_
                                      have HS0 : Hid (KS w wr.drew b r M q c3 (pinsOf c3.l)) := Lib.hid (HK4.out.drewN 1)
                                      generalize wr.drew = wS at *
                                      refine takeH 0 (some 203) (.pointer (some ⟨b, 0, none⟩)) rfl rfl (by kernel_rfl) (by kernel_rfl) (by kernel_rfl) (fun _ _ _ h => h) rfl (fun wq hS => by go_simp) HS0.out ?_
                                      try simp only [Act.put, List.setIfInBounds_toArray, List.set_cons_succ, List.set_cons_zero]
                                      refine takeH 1 (some 204) (.int .i64 (j : Int)) rfl rfl (by kernel_rfl) (by kernel_rfl) (by kernel_rfl) (fun _ _ _ h => h) rfl (fun wq hS => by go_simp) HS0.out ?_
                                      try simp only [Act.put, List.setIfInBounds_toArray, List.set_cons_succ, List.set_cons_zero]
                                      refine takeH 3 (some 206) (.slice (some ⟨q, 0, none⟩) M M) rfl rfl (by kernel_rfl) (by kernel_rfl) (by kernel_rfl) (fun _ _ _ h => h) rfl (fun wq hS => by go_simp) HS0.out ?_
                                      try simp only [Act.put, List.setIfInBounds_toArray, List.set_cons_succ, List.set_cons_zero]
                                      refine takeH 4 (some 207) (.int .i64 (j : Int)) rfl rfl (by kernel_rfl) (by kernel_rfl) (by kernel_rfl) (fun _ _ _ h => h) rfl (fun wq hS => by go_simp) HS0.out ?_
                                      try simp only [Act.put, List.setIfInBounds_toArray, List.set_cons_succ, List.set_cons_zero]
                                      refine takeH 5 (some 208) (.pointer (some ⟨q, j, none⟩)) rfl rfl (by kernel_rfl) (by kernel_rfl) (by kernel_rfl) (fun _ _ _ h => h) rfl (fun wq hS => by go_simp) HS0.out ?_
                                      try simp only [Act.put, List.setIfInBounds_toArray, List.set_cons_succ, List.set_cons_zero]
                                      refine takeH 6 (some 209) (.int .i64 f.pins) rfl rfl (by kernel_rfl) (by kernel_rfl) (by kernel_rfl) (fun _ _ _ h => h) rfl (fun wq hS => by have z := row_pins hS HJ.out; go_simp) HS0.out ?_
                                      try simp only [Act.put, List.setIfInBounds_toArray, List.set_cons_succ, List.set_cons_zero]
                                      refine oneH 2 (by kernel_rfl) rfl rfl fun K hK => ?_
                                      go_simp
                                      refine (HPP.out _ HS0.out.at').mono ?_
                                      rintro e w6 ⟨rfl, hb⟩
                                      have HS6 := Lib.hid (HS0.out.below hb)
                                      refine hK _ _ HS6.out ?_
                                      clear hK K hb
                                      try simp only [Act.put, List.setIfInBounds_toArray, List.set_cons_succ, List.set_cons_zero]
                                      refine takeH 7 (some 210) (.bool false) rfl rfl (by kernel_rfl) (by kernel_rfl) (by kernel_rfl) (fun _ _ _ h => h) rfl (fun wq hS => by go_simp) HS6.out ?_
                                      try simp only [Act.put, List.setIfInBounds_toArray, List.set_cons_succ, List.set_cons_zero]
                                      refine wpAnyH_done (by kernel_rfl) ?_ _
                                      go_wp2_with fail
                                      go_meet
                                      exact ⟨rfl, HS6.out⟩
                                    case rest =>
                                      as_aux_lemma =>
                                        obtain ⟨rfl, h1⟩ := hcut
                                        have HKA := Lib.hid h1
                                        clear h1
                                        go_wp2_with fail
                                        go_roundg (M - (j + 1))
                                        case measure => omega
                                        case rel => exact ⟨j + 1, by omega, by omega, by go_num, HKA.out⟩
                                  · obtain rfl : j = M := by omega
                                    have hj1 : ¬ (j : Int) < (j : Int) := by omega
                                    clear hk4
                                    go_wp2_with fail
                                    go_roundg (l.length - (k + 1))
                                    case measure => omega
                                    case rel => exact ⟨k + 1, c3, by omega, by omega, by go_num, HK4.out, HO9.out, HL9.out⟩
      · obtain rfl : k = l.length := by omega
        have hk1 : ¬ (l.length : Int) < (l.length : Int) := by omega
        clear hks
        go_wp2_with fail
        refine (wakes_any _).mono ?_
        rintro e w5 ⟨rfl, hb⟩
        have HB5 := Lib.hid (stay HK.out.bel hb)
        clear hb
        go_wp2_with fail
        go_ret
        exact ⟨rfl, HB5.out⟩

end Go.Proofs.Ytblfpakokhlkgaa
