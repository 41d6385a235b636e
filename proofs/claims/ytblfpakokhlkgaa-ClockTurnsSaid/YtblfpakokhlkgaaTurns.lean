/- The statement ClockTurns, walked. -/
import Derived.Test.YtblfpakokhlkgaaWk
import Derived.Test.YtblfpakokhlkgaaSt
import Derived.Test.YtblfpakokhlkgaaTp
import Derived.Deep.Cut
import Derived.Deep.CutRange
import Derived.RegionTactic
import Derived.BigQuiet
import Derived.Deep.QuietTactic
namespace Go.Proofs.Ytblfpakokhlkgaa
set_option linter.unusedSimpArgs false
set_option linter.unusedVariables false
open Go.RowKit

theorem Own.only {w w' : World} {B : Nat} {sv : Value} {l : List Int} {S : Nat → Prop} (h : Own w B sv l) (ho : Only S w w') (hS : ∀ k, B ≤ k → ¬ S k) : Own w' B sv l := by
  refine ⟨h.1, ?_⟩
  rcases h.2 with hn | ⟨g, cap, cur, e, hB, hg, r⟩
  · exact .inl hn
  · exact .inr ⟨g, cap, cur, e, hB, (ho.block g (Array.getElem?_eq_some_iff.1 hg).1 (hS g hB)).trans hg, r⟩
theorem At.belowB {E : Fm → List Value} {w w' : World} {b r cap : Nat} {tl : List Value} {c : Ck} {B : Nat} (h : At E w b r cap tl c) (hb : Below B w w') (h1 : b < B) (h2 : r < B) : At E w' b r cap tl c := ⟨h.blk.below hb h1, h.row.below hb h2, h.ne⟩
theorem cell_only {S : Nat → Prop} {w w' : World} {g o : Nat} {v : Value} (h : Only S w w') (hs : ¬ S g) (hc : w.cell? ⟨g, o, none⟩ = some v) : w'.cell? ⟨g, o, none⟩ = some v := by
  have hb := h.block g (block_lt_of_cell hc) hs
  rw [← hc]
  simp only [World.cell?, hb]
abbrev lz (l : List Nat) : List Int := l.map fun (i : Nat) => (i : Int)
theorem mod15 (n : Nat) : ∃ m : Nat, ((n : Int).tmod 15 = (m : Int)) ∧ m < 15 := ⟨n % 15, by rfl, by omega⟩
theorem tmod_nat (n k : Nat) : (n : Int).tmod (k : Int) = ((n % k : Nat) : Int) := rfl
set_option maxHeartbeats 8000000 in
set_option maxRecDepth 100000 in
theorem turns_any (w : World) (n : Nat) (hn : n < 256) (l : List Bool) (v1 : Value) (hl : BoolsAt w v1 l) (u : Nat) (hu : u < 256) : Calls Try.prog 6 #[.int .u8 n, v1, .int .u8 u] w fun e w' => e = .returned (.bool true) ∧ Below w.heap.size w w' := by
  have HS := Lib.hid hl
  obtain ⟨sa, sc, rfl, -⟩ := hl
  obtain ⟨m, hm, hm16⟩ := mod15 n
  obtain ⟨M, hM⟩ : ∃ M : Nat, M = 2 + m := ⟨_, rfl⟩
  have HM : Hid (2 ≤ M ∧ M ≤ 16) := Lib.hid (by omega)
  have gw : IntKind.i64.wrap (2 + (m : Int)) = (M : Int) := by rw [wrap63 (by omega) (by omega)]; omega
  have gn : IntKind.i64.wrap (n : Int) = (n : Int) := wrap63 (by omega) (by omega)
  have HU := Lib.hid hu
  have HN := Lib.hid (new_yes w M (by omega) (by omega))
  clear hM hm16 hn hu
  go_enter Try.func6, Try.ntmps6
  go_wp2_with fail
  refine HN.out.mono ?_
  rintro e w1 ⟨b, r, rfl, ha, hb, h1, h2⟩
  have HA1 := Lib.hid ha
  have HB1 := Lib.hid hb
  have HL1 : Hid (w.heap.size ≤ b ∧ w.heap.size ≤ r) := Lib.hid ⟨h1, h2⟩
  clear ha hb h1 h2 HN hm gw gn
  by_cases hl0 : l.length < M
  · have dl2 : decide (l.length < M) = true := decide_eq_true hl0
    have dl : decide ((l.length : Int) < (M : Int)) = true := decide_eq_true (by omega)
    go_wp2_with fail
    refine (wakes_any _).mono ?_
    rintro e w2 ⟨rfl, hb⟩
    have HB2 := Lib.hid (stay HB1.out hb)
    clear hb
    go_wp2_with fail
    go_ret
    exact ⟨rfl, HB2.out⟩
  have dl2 : decide (l.length < M) = false := decide_eq_false hl0
  have dl : decide ((l.length : Int) < (M : Int)) = false := decide_eq_false (by omega)
  have HLL : Hid (M ≤ l.length) := Lib.hid (by omega)
  clear hl0
  have HA2 : Hid (At encC w1 b r M [] ⟨pt M 0, 0⟩) := Lib.hid (by rw [pt_none]; exact HA1.out)
  have HO2 : Hid ((⟨pt M 0, 0⟩ : Ck).Ok 0) := Lib.hid (by rw [pt_none]; exact newCk_ok (by have := HM.out; omega) HM.out.2)
  clear HA1
  go_wp2_with fail
  go_loopg [11] M (fun g i wr => ∃ k : Nat, M - k ≤ g ∧ k ≤ M ∧ i = .int .i64 k ∧ At encC wr b r M [] ⟨pt M k, 0⟩ ∧ (⟨pt M k, 0⟩ : Ck).Ok 0 ∧ Only (foot b r) w1 wr)
  case atStart => exact ⟨0, by omega, by omega, rfl, HA2.out, HO2.out, Only.refl _ _⟩
  case round =>
    obtain ⟨k, hq, hk, rfl, ha, ho, hon⟩ := hrel
    have HA := Lib.hid ha
    have HO := Lib.hid ho
    have HON := Lib.hid hon
    clear ha ho hon
    by_cases hlt : k < M
    · have hk1 : (k : Int) < (M : Int) := by omega
      have gk : IntKind.i64.wrap ((k : Int) + 1) = (k : Int) + 1 := by have := HM.out; exact wrap63 (by omega) (by omega)
      have gk2 : IntKind.i64.wrap (100 + (k : Int)) = 100 + (k : Int) := by have := HM.out; exact wrap63 (by omega) (by omega)
      have HV := Lib.hid (victim_any wr b r M [] _ HA.out HO.out)
      rw [pt_victim hlt] at HV
      simp only [findR] at HV
      have HP := fun (w4 : World) (h4 : At encC w4 b r M [] ⟨pt M k, 0⟩) => put_any w4 b r M [] _ h4 HO.out k (100 + (k : Int))
      rw [pt_may hlt, pt_put hlt] at HP
      have HPP := Lib.hid HP
      have HO3 : Hid ((⟨pt M (k + 1), 0⟩ : Ck).Ok 0) := Lib.hid (by
        have := HO.out.put (k : Int) (100 + (k : Int)) (by have := HM.out; omega)
        rwa [pt_put hlt] at this)
      clear HP
      go_wp2_with fail
      refine HV.out.mono ?_
      rintro e w4 ⟨rfl, ha, hon⟩
      have HA4 := Lib.hid ha
      have HON4 := Lib.hid (HON.out.trans hon)
      clear ha hon
      go_wp2_with fail
      refine (HPP.out _ HA4.out).mono ?_
      rintro e w5 ⟨rfl, ha, hon⟩
      have HA5 := Lib.hid ha
      have HON5 := Lib.hid (HON4.out.trans hon)
      clear ha hon
      go_wp2_with fail
      go_roundg (M - (k + 1))
      case measure => omega
      case rel => exact ⟨k + 1, by omega, by omega, by go_num, HA5.out, HO3.out, HON5.out⟩
    · obtain rfl : k = M := by omega
      have hk1 : ¬ (k : Int) < (k : Int) := by omega
      have HA3 : Hid (At encC wr b r k [] ⟨tl k (fun _ => false) (fun _ => true), 0⟩) := Lib.hid (by rw [← pt_all]; exact HA.out)
      have HO3 : Hid ((⟨tl k (fun _ => false) (fun _ => true), 0⟩ : Ck).Ok 0) := Lib.hid (by rw [← pt_all]; exact HO.out)
      have HBR0 : Hid (b < wr.heap.size ∧ r < wr.heap.size) := Lib.hid ⟨HA.out.blk.lt, HA.out.row.lt⟩
      have HB3 : Hid (Below w.heap.size w wr) := Lib.hid (HB1.out.trans (HON.out.below HB1.out.size fun j hj => by rcases hj with rfl | rfl; exact HL1.out.1; exact HL1.out.2))
      clear hq hk HA2 HO2 HA HO HON
      generalize wr = w3 at *
      have HBR := Lib.hid HBR0.out
      have HW3 : Hid (w.heap.size ≤ w3.heap.size) := Lib.hid HB3.out.size
      generalize k = M at *
      go_wp2_with fail
      go_loopg [10, 14] M (fun g s10 i wr => ∃ (k : Nat) (sv : Value), sv = s10 ∧ M - k ≤ g ∧ k ≤ M ∧ i = .int .i64 k ∧ At encC wr b r M [] ⟨tl M (fun j => decide (j < k) && l.getD j false) (fun _ => true), 0⟩ ∧ (⟨tl M (fun j => decide (j < k) && l.getD j false) (fun _ => true), 0⟩ : Ck).Ok k ∧ Own wr w3.heap.size sv (lz (loose k (fun j => l.getD j false))) ∧ Below w.heap.size w wr ∧ w3.heap.size ≤ wr.heap.size)
      case atStart => exact ⟨0, _, rfl, by omega, by omega, rfl, by simpa using HA3.out, by simpa using HO3.out, Own.nil _ _, HB3.out, Nat.le_refl _⟩
      case round =>
        obtain ⟨k, sv, rfl, hq, hk, rfl, ha, ho, how, hb, hle⟩ := hrel
        have HA := Lib.hid ha
        have HO := Lib.hid ho
        have HW := Lib.hid how
        have HB := Lib.hid hb
        have HLE := Lib.hid hle
        obtain ⟨xa, xc, hxv⟩ : ∃ xa xc, sv = .slice xa (loose k (fun j => l.getD j false)).length xc := by
          obtain ⟨xa, xc, e, -⟩ := how.ints
          exact ⟨xa, xc, by rw [e]; simp⟩
        subst hxv
        clear ha ho how hle
        by_cases hlt : k < M
        · have hk1 : (k : Int) < (M : Int) := by omega
          have gk : IntKind.i64.wrap ((k : Int) + 1) = (k : Int) + 1 := by have := HM.out; exact wrap63 (by omega) (by omega)
          have hkl : k < l.length := by have := HLL.out; omega
          have hkl2 : (k : Int) < (l.length : Int) := by omega
          obtain ⟨pb, hpb⟩ : ∃ pb, l[k]? = some pb := ⟨_, List.getElem?_eq_getElem hkl⟩
          obtain ⟨a', cap', e, hc⟩ := HS.out.below hb
          cases e
          obtain ⟨b', o, rfl, y0⟩ := hc k pb hpb
          have HG : Hid (l.getD k false = pb) := Lib.hid (by simp [List.getD, hpb])
          clear hc hpb hb
          cases pb with
          | true =>
            have HP := Lib.hid (pin_any wr b r M [] _ HA.out HO.out (by have := HM.out; omega) k)
            rw [tl_keyed hlt, tl_pin hlt (by simp)] at HP
            have HE : Hid (tl M (fun i => if i = k then true else decide (i < k) && l.getD i false) (fun _ => true) = tl M (fun j => decide (j < k + 1) && l.getD j false) (fun _ => true)) := Lib.hid (tl_congr (fun i hi => by
              by_cases e : i = k
              · subst e; simp only [if_true, HG.out, decide_eq_true (show i < i + 1 by omega), Bool.and_self]
              · simp only [e, if_false]; rw [show decide (i < k + 1) = decide (i < k) from decide_eq_decide.2 (by omega)]) fun _ _ => rfl)
            have HO5 : Hid ((⟨tl M (fun j => decide (j < k + 1) && l.getD j false) (fun _ => true), 0⟩ : Ck).Ok (k + 1)) := Lib.hid (by
              have := HO.out.pin (k : Int)
              rw [tl_pin hlt (by simp)] at this
              rw [← HE.out]
              exact this)
            have HLO : Hid (loose (k + 1) (fun j => l.getD j false) = loose k (fun j => l.getD j false)) := Lib.hid (by rw [loose_next (n := k) (Nat.le_refl _)]; simp only [HG.out, if_true, List.append_nil])
            go_wp2_with fail
            refine HP.out.mono ?_
            rintro e w5 ⟨rfl, ha, hon⟩
            have HA5 := Lib.hid ha
            have HW5 : Hid (Own w5 w3.heap.size (.slice xa (loose k (fun j => l.getD j false)).length xc) (lz (loose k (fun j => l.getD j false)))) := Lib.hid (HW.out.only hon fun j hj hf => by
              have := HBR.out
              rcases hf with rfl | rfl <;> omega)
            have HB5 : Hid (Below w.heap.size w w5) := Lib.hid (HB.out.trans (hon.below HB.out.size fun j hj => by
              rcases hj with rfl | rfl
              · exact HL1.out.1
              · exact HL1.out.2))
            have HLE5 : Hid (w3.heap.size ≤ w5.heap.size) := Lib.hid (Nat.le_trans HLE.out hon.size)
            clear ha hon
            go_wp2_with fail
            go_roundg (M - (k + 1))
            case measure => omega
            case rel => exact ⟨k + 1, _, rfl, by omega, by omega, by go_num, by rw [← HE.out]; exact HA5.out, HO5.out, by rw [HLO.out]; exact HW5.out, HB5.out, HLE5.out⟩
          | false =>
            have HE : Hid (tl M (fun j => decide (j < k) && l.getD j false) (fun _ => true) = tl M (fun j => decide (j < k + 1) && l.getD j false) (fun _ => true)) := Lib.hid (tl_congr (fun i hi => by
              by_cases e : i = k
              · subst e; simp only [HG.out, Bool.and_false]
              · rw [show decide (i < k + 1) = decide (i < k) from decide_eq_decide.2 (by omega)]) fun _ _ => rfl)
            have HLO : Hid (loose (k + 1) (fun j => l.getD j false) = loose k (fun j => l.getD j false) ++ [k]) := Lib.hid (by rw [loose_next (n := k) (Nat.le_refl _)]; simp only [HG.out, Bool.false_eq_true, if_false])
            have hlen : (loose k (fun j => l.getD j false)).length ≤ 16 := Nat.le_trans (List.length_filter_le _ _) (by rw [List.length_range]; have := HM.out; omega)
            go_upto_region 18 with fail
            refine wp_region_lit ?_
            refine takeL (.slice xa (loose k (fun j => l.getD j false)).length xc) rfl (by go_simp) ?_
            try simp only [Act.put, List.setIfInBounds_toArray, List.set_cons_succ, List.set_cons_zero]
            refine takeL (.int .i64 (k : Int)) rfl (by go_simp) ?_
            try simp only [Act.put, List.setIfInBounds_toArray, List.set_cons_succ, List.set_cons_zero]
            refine wpList_run (.slice (some ⟨wr.heap.size, 0, none⟩) 1 1) (wr.alloc (.cells #[.int .i64 (k : Int)] 3)) rfl (by go_simp) ?_
            try simp only [Act.put, List.setIfInBounds_toArray, List.set_cons_succ, List.set_cons_zero]
            have hb1 := alloc_below wr (.cells #[.int .i64 (k : Int)] 3)
            have hl1 : IntsAt (wr.alloc (.cells #[.int .i64 (k : Int)] 3)) (.slice (some ⟨wr.heap.size, 0, none⟩) 1 1) [(k : Int)] := (Own.lit wr wr.heap.size (Nat.le_refl _) [(k : Int)] (by simp) _ rfl).ints
            refine app_L (HW.out.below hb1) (Nat.le_trans HLE.out hb1.size) hl1 (by rw [List.length_map]; simp only [List.length_cons, List.length_nil]; omega) rfl rfl rfl ?_
            intro tv w8 ho hb8
            try simp only [Act.put, List.setIfInBounds_toArray, List.set_cons_succ, List.set_cons_zero]
            have e8 : lz (loose k (fun j => l.getD j false)) ++ [(k : Int)] = lz (loose (k + 1) (fun j => l.getD j false)) := by rw [HLO.out]; simp [lz]
            rw [e8] at ho
            have HW8 := Lib.hid ho
            have hb18 : Below w3.heap.size wr w8 := (hb1.mono HLE.out).trans hb8
            have HA8 : Hid (At encC w8 b r M [] ⟨tl M (fun j => decide (j < k + 1) && l.getD j false) (fun _ => true), 0⟩) := Lib.hid (by rw [← HE.out]; exact HA.out.belowB hb18 HBR.out.1 HBR.out.2)
            have HO8 : Hid ((⟨tl M (fun j => decide (j < k + 1) && l.getD j false) (fun _ => true), 0⟩ : Ck).Ok (k + 1)) := Lib.hid (by rw [← HE.out]; exact HO.out.mono (by omega))
            have HB8 : Hid (Below w.heap.size w w8) := Lib.hid (HB.out.trans (hb18.mono HW3.out))
            have HLE8 : Hid (w3.heap.size ≤ w8.heap.size) := Lib.hid (Nat.le_trans HLE.out hb18.size)
            clear hb1 hl1 ho hb8 hb18 e8
            refine takeL (tv) rfl (by go_simp) ?_
            try simp only [Act.put, List.setIfInBounds_toArray, List.set_cons_succ, List.set_cons_zero]
            refine wpList_nil ?_
            go_wp2_with fail
            go_roundg (M - (k + 1))
            case measure => omega
            case rel => exact ⟨k + 1, _, rfl, by omega, by omega, by go_num, HA8.out, HO8.out, HW8.out, HB8.out, HLE8.out⟩
        · obtain rfl : k = M := by omega
          have hk1 : ¬ (k : Int) < (k : Int) := by omega
          obtain ⟨P, hP⟩ : ∃ P : Nat → Bool, P = fun j => l.getD j false := ⟨_, rfl⟩
          have HA6 : Hid (At encC wr b r k [] ⟨tl k P (fun _ => true), 0⟩) := Lib.hid (by
            rw [hP, tl_congr (q := fun j => decide (j < k) && l.getD j false) (nk := fun _ => true) (fun i hi => by simp [hi]) (fun _ _ => rfl)]
            exact HA.out)
          have HO6 : Hid ((⟨tl k P (fun _ => true), 0⟩ : Ck).Ok k) := Lib.hid (by
            rw [hP, tl_congr (q := fun j => decide (j < k) && l.getD j false) (nk := fun _ => true) (fun i hi => by simp [hi]) (fun _ _ => rfl)]
            exact HO.out)
          rw [← hP] at HW ⊢
          clear HA HO HA3 HO3 hP hq hk hb
          obtain ⟨L, hL⟩ : ∃ L, loose k P = L := ⟨_, rfl⟩
          rw [hL] at HW ⊢
          generalize wr = w6 at *
          generalize k = M at *
          by_cases h2 : L.length < 2
          · have d2 : decide (L.length < 2) = true := decide_eq_true h2
            have d3 : decide ((L.length : Int) < 2) = true := decide_eq_true (by omega)
            go_wp2_with fail
            refine (wakes_any _).mono ?_
            rintro e w7 ⟨rfl, hb⟩
            have HB7 := Lib.hid (stay HB.out hb)
            clear hb
            go_wp2_with fail
            go_ret
            exact ⟨rfl, HB7.out⟩
          · have d2 : decide (L.length < 2) = false := decide_eq_false h2
            have d3 : decide ((L.length : Int) < 2) = false := decide_eq_false (by omega)
            have hLM : L.length ≤ 16 := by rw [← hL]; exact Nat.le_trans (List.length_filter_le _ _) (by rw [List.length_range]; have := HM.out; omega)
            match L, hL, h2, hLM, HW, d2, d3 with
            | [], _, h2, _, _, _, _ => simp at h2
            | [_], _, h2, _, _, _, _ => simp at h2
            | a :: b2 :: rr, hL, h2, hLM, HW, d2, d3 =>
              obtain ⟨N, hN⟩ : ∃ N, (a :: b2 :: rr).length = N := ⟨_, rfl⟩
              obtain ⟨nk, hnk, hv⟩ := turn_one hL
              have HNK := Lib.hid hnk
              have HV := Lib.hid (victim_any w6 b r M [] _ HA6.out HO6.out)
              have HO7 := Lib.hid HO6.out.victim
              rw [hv] at HV HO7
              simp only [findR] at HV
              obtain ⟨xg, xo, xc2, e, hc⟩ := HW.out.ints.has (by simp)
              rw [List.length_map, hN] at e
              have HXG : Hid (w3.heap.size ≤ xg) := Lib.hid ((HW.out.lt xg (by rw [hN, e]; rfl)).1)
              have C0 : Hid (w6.cell? ⟨xg, xo, none⟩ = some (.int .i64 a)) := Lib.hid (by have := hc 0 a rfl; rwa [Nat.add_zero] at this)
              have C1 : Hid (w6.cell? ⟨xg, xo + 1, none⟩ = some (.int .i64 b2)) := Lib.hid (hc 1 b2 rfl)
              have HNF : Hid (¬ foot b r xg) := Lib.hid fun hf => by
                have := HBR.out
                have := HXG.out
                rcases hf with rfl | rfl <;> omega
              cases e
              obtain ⟨D, hD⟩ : ∃ D, N = D + 1 := ⟨rr.length + 1, by rw [← hN]; simp⟩
              have hD1 : 1 ≤ D := by simp at hN; omega
              obtain ⟨q, hq⟩ : ∃ q, q = 1 + u % D := ⟨_, rfl⟩
              have hqD : u % D < D := Nat.mod_lt _ (by omega)
              obtain ⟨t, ht⟩ : ∃ t, (a :: b2 :: rr)[q]? = some t := ⟨_, List.getElem?_eq_getElem (by rw [hN]; omega)⟩
              have htm : t ∈ b2 :: rr := by
                rw [show q = u % D + 1 by omega, List.getElem?_cons_succ] at ht
                exact List.mem_of_getElem? ht
              have htM : t < M := (mem_loose.1 (by rw [hL]; exact List.mem_cons_of_mem _ htm)).1
              have CQ : Hid (w6.cell? ⟨xg, xo + q, none⟩ = some (.int .i64 t)) := Lib.hid (hc q t (by rw [lz, List.getElem?_map, ht]; rfl))
              have HT := fun (w9 : World) (h9 : At encC w9 b r M [] ⟨tl M P nk, a + 1⟩) => touch_any w9 b r M [] _ h9 HO7.out t
              rw [tl_touch htM] at HT
              have HTC := Lib.hid HT
              have HO8 : Hid ((⟨tl M P (fun i => if i = t then true else nk i), a + 1⟩ : Ck).Ok M) := Lib.hid (by
                have := HO7.out.touch (t : Int)
                rwa [tl_touch htM] at this)
              have h2v := turn_two hL hnk htm
              have HV2 := fun (w9 : World) (h9 : At encC w9 b r M [] ⟨tl M P (fun i => if i = t then true else nk i), a + 1⟩) => victim_any w9 b r M [] _ h9 HO8.out
              rw [h2v] at HV2
              have gu : IntKind.i64.wrap (u : Int) = (u : Int) := by have := HU.out; exact wrap63 (by omega) (by omega)
              have gD : IntKind.i64.wrap ((N : Int) - 1) = (D : Int) := by
                have := HM.out
                rw [wrap63 (by omega) (by rw [hN] at hLM; omega)]; omega
              have gt := tmod_nat u D
              have gq : IntKind.i64.wrap (1 + ((u % D : Nat) : Int)) = (q : Int) := by rw [hN] at hLM; rw [wrap63 (by omega) (by omega)]; omega
              have hD0 : ¬ (D : Int) = 0 := by omega
              have hqN : (q : Int) < (N : Int) := by omega
              have hqN2 : q < N := by omega
              have h0N : 0 < N := by omega
              have hq1 : 1 ≤ q := by omega
              have h1N : 1 < N := by omega
              have h0Ni : (0 : Int) < (N : Int) := by omega
              have h1Ni : (1 : Int) < (N : Int) := by omega
              have ht1 : t = b2 ↔ q = 1 := by
                constructor
                · intro e
                  by_cases hq1 : q = 1
                  · exact hq1
                  · have hs := loose_lt M P
                    rw [hL] at hs
                    obtain ⟨-, hs2⟩ := List.pairwise_cons.1 hs
                    obtain ⟨h3, -⟩ := List.pairwise_cons.1 hs2
                    rw [show q = (q - 2) + 1 + 1 by omega, List.getElem?_cons_succ, List.getElem?_cons_succ] at ht
                    have := h3 t (List.mem_of_getElem? ht)
                    omega
                · intro e
                  rw [e] at ht
                  simpa using ht.symm
              have ht1' := Lib.hid ht1
              have hd2 : ∀ d s, rr = d :: s → w6.cell? ⟨xg, xo + 2, none⟩ = some (.int .i64 d) ∧ 2 < N := fun d s e => ⟨hc 2 d (by rw [e]; rfl), by rw [← hN, e]; simp⟩
              have hd0 : rr = [] → N = 2 := fun e => by rw [← hN, e]; rfl
              rw [hN] at d2 d3 ⊢
              generalize u % D = eu at *
              clear hc hq hqD ht hv HT HW hN hD hD1 h2 ht1
              cases rr with
              | nil =>
                have hN2 := hd0 rfl
                by_cases e : t = b2
                · subst e
                  rw [if_pos rfl] at HV2
                  simp only [findR] at HV2
                  have HVV := Lib.hid HV2
                  have C2 : Hid (True) := Lib.hid trivial
                  skip
                  skip
                  have dn : decide (2 < N) = false := decide_eq_false (by omega)
                  have dni : decide ((2 : Int) < (N : Int)) = false := decide_eq_false (by omega)
                  clear HV2 hd0 hd2 hN2 
                  go_wp2_with fail
                  refine HV.out.mono ?_
                  rintro e w7 ⟨rfl, ha, hon⟩
                  have HA7 := Lib.hid ha
                  have HON7 := Lib.hid hon
                  have x0 := cell_only hon HNF.out C0.out
                  have xq := cell_only hon HNF.out CQ.out
                  clear ha hon
                  go_wp2_with fail
                  refine (HTC.out _ HA7.out).mono ?_
                  rintro e w8 ⟨rfl, ha, hon⟩
                  have HA8 := Lib.hid ha
                  have HON8 := Lib.hid (HON7.out.trans hon)
                  have x1 := cell_only HON8.out HNF.out C1.out
                  have y0 := cell_only HON8.out HNF.out C0.out
                  skip
                  clear ha hon x0 xq
                  go_wp2_with fail
                  refine (HVV.out _ HA8.out).mono ?_
                  rintro e w9 ⟨rfl, ha, hon⟩
                  have HB9 : Hid (Below w.heap.size w w9) := Lib.hid (HB.out.trans ((HON8.out.trans hon).below HB.out.size fun j hj => by
                    rcases hj with rfl | rfl
                    · exact HL1.out.1
                    · exact HL1.out.2))
                  clear ha hon
                  go_wp2_with fail
                  refine (wakes_any _).mono ?_
                  rintro e w10 ⟨rfl, hb⟩
                  have HBX := Lib.hid (stay HB9.out hb)
                  clear hb
                  go_wp2_with fail
                  go_ret
                  exact ⟨rfl, HBX.out⟩
                · exfalso
                  have := ht1'.out
                  omega
              | cons d s =>
                obtain ⟨hc2, h2N⟩ := hd2 d s rfl
                have h2Ni : (2 : Int) < (N : Int) := by omega
                by_cases e : t = b2
                · subst e
                  rw [if_pos rfl] at HV2
                  simp only [findR] at HV2
                  have HVV := Lib.hid HV2
                  have C2 : Hid (w6.cell? ⟨xg, xo + 2, none⟩ = some (.int .i64 d)) := Lib.hid hc2
                  skip
                  skip
                  have dn : decide (2 < N) = true := decide_eq_true h2N
                  have dni : decide ((2 : Int) < (N : Int)) = true := decide_eq_true h2Ni
                  clear HV2 hd0 hd2 hc2 
                  go_wp2_with fail
                  refine HV.out.mono ?_
                  rintro e w7 ⟨rfl, ha, hon⟩
                  have HA7 := Lib.hid ha
                  have HON7 := Lib.hid hon
                  have x0 := cell_only hon HNF.out C0.out
                  have xq := cell_only hon HNF.out CQ.out
                  clear ha hon
                  go_wp2_with fail
                  refine (HTC.out _ HA7.out).mono ?_
                  rintro e w8 ⟨rfl, ha, hon⟩
                  have HA8 := Lib.hid ha
                  have HON8 := Lib.hid (HON7.out.trans hon)
                  have x1 := cell_only HON8.out HNF.out C1.out
                  have y0 := cell_only HON8.out HNF.out C0.out
                  have x2 := cell_only HON8.out HNF.out C2.out
                  clear ha hon x0 xq
                  go_wp2_with fail
                  refine (HVV.out _ HA8.out).mono ?_
                  rintro e w9 ⟨rfl, ha, hon⟩
                  have HB9 : Hid (Below w.heap.size w w9) := Lib.hid (HB.out.trans ((HON8.out.trans hon).below HB.out.size fun j hj => by
                    rcases hj with rfl | rfl
                    · exact HL1.out.1
                    · exact HL1.out.2))
                  clear ha hon
                  go_wp2_with fail
                  refine (wakes_any _).mono ?_
                  rintro e w10 ⟨rfl, hb⟩
                  have HBX := Lib.hid (stay HB9.out hb)
                  clear hb
                  go_wp2_with fail
                  go_ret
                  exact ⟨rfl, HBX.out⟩
                · skip
                  rw [if_neg e] at HV2
                  simp only [findR] at HV2
                  have HVV := Lib.hid HV2
                  have C2 : Hid (w6.cell? ⟨xg, xo + 2, none⟩ = some (.int .i64 d)) := Lib.hid hc2
                  have et : ((t : Int) == (b2 : Int)) = false := by simp only [beq_eq_false_iff_ne]; omega
                  have et2 : (t == b2) = false := by simp only [beq_eq_false_iff_ne]; exact e
                  have dn : decide (2 < N) = true := decide_eq_true h2N
                  have dni : decide ((2 : Int) < (N : Int)) = true := decide_eq_true h2Ni
                  clear HV2 hd0 hd2 hc2 e
                  go_wp2_with fail
                  refine HV.out.mono ?_
                  rintro e w7 ⟨rfl, ha, hon⟩
                  have HA7 := Lib.hid ha
                  have HON7 := Lib.hid hon
                  have x0 := cell_only hon HNF.out C0.out
                  have xq := cell_only hon HNF.out CQ.out
                  clear ha hon
                  go_wp2_with fail
                  refine (HTC.out _ HA7.out).mono ?_
                  rintro e w8 ⟨rfl, ha, hon⟩
                  have HA8 := Lib.hid ha
                  have HON8 := Lib.hid (HON7.out.trans hon)
                  have x1 := cell_only HON8.out HNF.out C1.out
                  have y0 := cell_only HON8.out HNF.out C0.out
                  have x2 := cell_only HON8.out HNF.out C2.out
                  clear ha hon x0 xq
                  go_wp2_with fail
                  refine (HVV.out _ HA8.out).mono ?_
                  rintro e w9 ⟨rfl, ha, hon⟩
                  have HB9 : Hid (Below w.heap.size w w9) := Lib.hid (HB.out.trans ((HON8.out.trans hon).below HB.out.size fun j hj => by
                    rcases hj with rfl | rfl
                    · exact HL1.out.1
                    · exact HL1.out.2))
                  clear ha hon
                  go_wp2_with fail
                  refine (wakes_any _).mono ?_
                  rintro e w10 ⟨rfl, hb⟩
                  have HBX := Lib.hid (stay HB9.out hb)
                  clear hb
                  go_wp2_with fail
                  go_ret
                  exact ⟨rfl, HBX.out⟩

end Go.Proofs.Ytblfpakokhlkgaa
