/- Own items that are new; fair steps. -/
import Derived.Test.YtmlniannilnmhaaGreatDoorRd
namespace Go.Proofs.YtmlniannilnmhaaGreatDoor
set_option linter.unusedSimpArgs false
set_option linter.unusedVariables false
open Go.RowKit

set_option maxRecDepth 100000 in
set_option maxHeartbeats 4000000 in
theorem own_new (l : List (It × Value)) (hl : l.length ≤ 100) (hbl : ∀ x ∈ l, x.1.blk.bytes.length ≤ 300) (sv : Value) (w : World) (h : ItemsAt w sv l) : Calls Tryz.prog 20 #[sv] w fun e w' => ∃ tv m, e = .returned tv ∧ m.map (·.1) = l.map (·.1) ∧ ItemsAt w' tv m ∧ Below w.heap.size w w' ∧ (∀ b o n c, tv = .slice (some ⟨b, o, Option.none⟩) n c → w.heap.size ≤ b) ∧ ∀ x ∈ m, ∀ b o n c, x.2 = .slice (some ⟨b, o, Option.none⟩) n c → w.heap.size ≤ b := by
  obtain ⟨a, c, hs⟩ := items_one h
  subst hs
  obtain ⟨N, hN⟩ : ∃ N, l.length = N := ⟨_, rfl⟩
  rw [hN] at h hl ⊢
  have HH := Lib.hid h
  have HN := Lib.hid hN
  have HBL := Lib.hid hbl
  clear h hbl hN
  go_enter Tryz.func20, Tryz.ntmps20
  go_wp2_with fail
  go_loopg [3, 4] N (fun q u i wr => ∃ (k : Nat) (s3 : Value) (L : List (It × Value)), s3 = u ∧ N - k ≤ q ∧ k ≤ N ∧ i = .int .i64 k ∧ L.map (·.1) = (l.take k).map (·.1) ∧ OwnI wr w.heap.size s3 L ∧ Below w.heap.size w wr ∧ ∀ x ∈ L, ∀ b o n c, x.2 = .slice (some ⟨b, o, Option.none⟩) n c → w.heap.size ≤ b)
  case atStart => exact ⟨0, _, [], rfl, by omega, by omega, rfl, rfl, OwnI.nil _ _, Below.refl _ _, fun x hx => by cases hx⟩
  case round =>
    obtain ⟨k, s3, L, rfl, hq, hk, rfl, hL, ho, hb, hnw⟩ := hrel
    have HL := Lib.hid hL
    have HO := Lib.hid ho
    have HB := Lib.hid hb
    have HLN : Hid (L.length = k) := Lib.hid (by have := congrArg List.length hL; rw [List.length_map, List.length_map, List.length_take, HN.out] at this; omega)
    have HNW := Lib.hid hnw
    have HBS := Lib.hid hb.size
    clear hL ho hb hnw
    by_cases hkN : k < N
    · have gk : decide ((k : Int) < (N : Int)) = true := decide_eq_true (by omega)
      have gki : (k : Int) < (N : Int) := by omega
      obtain ⟨x, hx⟩ : ∃ x, l[k]? = some x := ⟨_, List.getElem?_eq_getElem (by rw [HN.out]; exact hkN)⟩
      obtain ⟨g, o, cap, heq, hcap, hg, hat⟩ := (HH.out.below HB.out).has (by rw [HN.out]; omega)
      obtain ⟨hxw, hxb, hxa⟩ := hat k x hx
      have qa : a = some ⟨g, o, none⟩ := by
        injection heq with q1 q2 q3
      subst qa
      have HXW := Lib.hid hxw
      have HXA := Lib.hid hxa
      have HKO := Lib.hid (kown_any x.1 x.2 hxw (by have := HBL.out x (List.mem_of_getElem? hx); omega) wr hxb)
      have HXX := Lib.hid hx
      clear hat hxw hxb hxa heq hcap hx
      go_upto_region 5 with fail
      refine wp_region_lit ?_
      refine takeL (s3) rfl (by go_simp) ?_
      try simp only [Act.put, List.setIfInBounds_toArray, List.set_cons_succ, List.set_cons_zero]
      refine takeL (.slice (some ⟨g, o, none⟩) N c) rfl (by go_simp) ?_
      try simp only [Act.put, List.setIfInBounds_toArray, List.set_cons_succ, List.set_cons_zero]
      refine takeL (.int .i64 k) rfl (by go_simp) ?_
      try simp only [Act.put, List.setIfInBounds_toArray, List.set_cons_succ, List.set_cons_zero]
      refine takeL (.pointer (some ⟨g, o + k * 47, none⟩)) rfl (by go_simp) ?_
      try simp only [Act.put, List.setIfInBounds_toArray, List.set_cons_succ, List.set_cons_zero]
      refine load102 (g := g) (off := o + k * 47) (cs := x.1.arr x.2) HXA.out (x.1.arr_size HXW.out _) rfl rfl ?_
      try simp only [Act.put, List.setIfInBounds_toArray, List.set_cons_succ, List.set_cons_zero]
      refine wpList_op rfl fun K hK => ?_
      go_simp
      refine (HKO.out).mono ?_
      rintro e w2 ⟨tv, rfl, hown, hb⟩
      have hrow := HO.out.lt
      have HO2 := Lib.hid (HO.out.below hb)
      have HB2 := Lib.hid (stay HB.out hb)
      have HF : Hid (Off s3.ownBlock tv x.1.blk.bytes) := Lib.hid (Off.fresh hown.fresh fun k hk => (hrow k hk).2)
      have HBY := Lib.hid hown.bytes
      obtain ⟨ta, tc, htv⟩ : ∃ ta tc, tv = .slice ta x.1.blk.bytes.length tc := by
        obtain ⟨a, c, e, -⟩ := hown.bytes
        exact ⟨a, c, e⟩
      subst htv
      have HTN : Hid (∀ b o n c, Value.slice ta x.1.blk.bytes.length tc = .slice (some ⟨b, o, Option.none⟩) n c → w.heap.size ≤ b) := Lib.hid fun b o n c e => Nat.le_trans HBS.out (hown.lt b (by rw [e]; rfl)).1
      clear hown hb hrow HKO HO HB
      refine hK _ _ ?_
      clear hK K
      try simp only [Act.put, List.setIfInBounds_toArray, List.set_cons_succ, List.set_cons_zero]
      refine wpList_run _ _ rfl (exec_buildSlice _ _ _ _ 51 1 _ rfl #[(0, .agg (x.1.arr (.slice ta x.1.blk.bytes.length tc)))] (by simp only [List.map_toArray, List.map_cons, List.map_nil]; rfl) _ (run_litI w2 [(x.1, .slice ta x.1.blk.bytes.length tc)] (fun y hy => by obtain rfl := List.mem_singleton.1 hy; exact HXW.out) (by simp) (by simp))) ?_
      try simp only [Act.put, List.setIfInBounds_toArray, List.set_cons_succ, List.set_cons_zero]
      have hb := alloc_bel w2 (.cells (itCells [(x.1, .slice ta x.1.blk.bytes.length tc)]).toArray 102)
      have HB3 := Lib.hid (stay HB2.out hb)
      have HO3 := Lib.hid (HO2.out.below hb)
      have HI3 := Lib.hid (OwnI.lit (w := w2) (l := [(x.1, .slice ta x.1.blk.bytes.length tc)]) (fun y hy => by obtain rfl := List.mem_singleton.1 hy; exact HXW.out) (fun y hy => by obtain rfl := List.mem_singleton.1 hy; exact HBY.out) (by simp)).items
      generalize w2.alloc (.cells (itCells [(x.1, .slice ta x.1.blk.bytes.length tc)]).toArray 102) = w3 at *
      clear hb HB2 HO2
      refine app_LI HO3.out HB3.out.size HI3.out (fun y hy => by obtain rfl := List.mem_singleton.1 hy; exact HF.out) (by have := HLN.out; simp only [List.length_cons, List.length_nil]; omega) rfl rfl rfl ?_
      intro t7 w4 ho4 hg4 hr4
      try simp only [Act.put, List.setIfInBounds_toArray, List.set_cons_succ, List.set_cons_zero]
      have HB4 := Lib.hid (HB3.out.trans (grown_below hg4 HB3.out.size fun k hk => (HO3.out.lt k hk).1))
      have HO4 := Lib.hid ho4
      have HL4 : Hid ((L ++ [(x.1, (.slice ta x.1.blk.bytes.length tc : Value))]).map (·.1) = (l.take (k + 1)).map (·.1)) := Lib.hid (by rw [List.map_append, HL.out, List.take_add_one, HXX.out, List.map_append]; rfl)
      have HNW4 : Hid (∀ y ∈ L ++ [(x.1, (.slice ta x.1.blk.bytes.length tc : Value))], ∀ b o n c, y.2 = .slice (some ⟨b, o, Option.none⟩) n c → w.heap.size ≤ b) := Lib.hid fun y hy => by
        rcases List.mem_append.1 hy with hy | hy
        · exact HNW.out y hy
        · obtain rfl := List.mem_singleton.1 hy
          exact HTN.out
      clear ho4 hg4 hr4
      refine takeL (t7) rfl (by go_simp) ?_
      try simp only [Act.put, List.setIfInBounds_toArray, List.set_cons_succ, List.set_cons_zero]
      refine wpList_nil ?_
      go_wp2_with fail
      go_roundg (N - (k + 1))
      case measure => omega
      case rel => exact ⟨k + 1, _, _, rfl, by omega, by omega, by go_num, HL4.out, HO4.out, HB4.out, HNW4.out⟩
    · obtain rfl : k = N := by omega
      have gk : decide ((k : Int) < (k : Int)) = false := decide_eq_false (by omega)
      have HSL : Hid (∀ b o n c, s3 = .slice (some ⟨b, o, Option.none⟩) n c → w.heap.size ≤ b) := Lib.hid fun b o n c e => (HO.out.lt b (by rw [e]; rfl)).1
      have HLL : Hid (L.map (·.1) = l.map (·.1)) := Lib.hid (by rw [HL.out, List.take_of_length_le (by rw [HN.out]; exact Nat.le_refl _)])
      go_wp2_with fail
      go_ret
      exact ⟨_, rfl, L, HLL.out, HO.out.items, HB.out, HSL.out, fun a b hx => HNW.out (a, b) hx⟩
/-- A step. -/
structure Sp where
  kind : Int
  n : Int
  lv : Value
  l : List (It × Value)
  fv : Value
  f : List Int
def StepsAt (w : World) (sv : Value) (ss : List Sp) : Prop := ∃ a cap, sv = .slice a ss.length cap ∧ ∀ i x, ss[i]? = some x → De.I64 x.n ∧ ItemsAt w x.lv x.l ∧ x.l.length ≤ 9223372036854775807 ∧ IntsAt w x.fv x.f ∧ x.f.length ≤ 9223372036854775807 ∧
  ∃ b o, a = some ⟨b, o, none⟩ ∧ w.cell? ⟨b, o + i * 4, none⟩ = some (.int .i64 x.kind) ∧ w.cell? ⟨b, o + i * 4 + 1, none⟩ = some (.int .i64 x.n) ∧ w.cell? ⟨b, o + i * 4 + 2, none⟩ = some x.lv ∧ w.cell? ⟨b, o + i * 4 + 3, none⟩ = some x.fv
theorem StepsAt.below {w w' : World} {sv : Value} {ss : List Sp} (h : StepsAt w sv ss) (hb : Below w.heap.size w w') : StepsAt w' sv ss := by
  obtain ⟨a, cap, e, hc⟩ := h
  refine ⟨a, cap, e, fun i x hx => ?_⟩
  obtain ⟨h0, h1, h2, h3, h4, b, o, e2, c0, c1, c2, c3⟩ := hc i x hx
  exact ⟨h0, h1.below hb, h2, h3.below hb, h4, b, o, e2, (hb.cell (block_lt_of_cell c0)).trans c0, (hb.cell (block_lt_of_cell c1)).trans c1, (hb.cell (block_lt_of_cell c2)).trans c2, (hb.cell (block_lt_of_cell c3)).trans c3⟩
/-- A step whose lists are not too long. -/
def Sp.ok (x : Sp) : Prop := fair (x.l.map (·.1)) = true ∧ x.f.length ≤ 60
set_option maxRecDepth 100000 in
set_option maxHeartbeats 2000000 in
theorem fairS_any (ss : List Sp) (n : Nat) (hn : ss.length = n) (hbig : n ≤ 9223372036854775807) (sv : Value) (w : World) (h : StepsAt w sv ss) : Calls Tryz.prog 9 #[sv] w fun e w' => (∃ r, e = .returned (.bool r) ∧ (r = true → (∀ x ∈ ss, x.ok) ∧ n ≤ 40)) ∧ Below w.heap.size w w' := by
  have HS := Lib.hid h
  have HN := Lib.hid hn
  obtain ⟨sa, sc, hsv, -⟩ := h
  rw [hn] at hsv
  subst hsv
  have hlen : (n : Int) ≤ 9223372036854775807 := by omega
  clear hn hbig
  go_enter Tryz.func9, Tryz.ntmps9
  go_wp2_with fail
  go_loopg [3] n (fun q i wr => ∃ k : Nat, n - k ≤ q ∧ k ≤ n ∧ i = .int .i64 k ∧ (∀ j x, j < k → ss[j]? = some x → x.ok) ∧ Below w.heap.size w wr)
  case atStart => exact ⟨0, by omega, by omega, rfl, fun j x hj => by omega, Below.refl _ _⟩
  case round =>
    obtain ⟨k, hq, hk, rfl, hall, hb⟩ := hrel
    have HAL := Lib.hid hall
    have HB := Lib.hid hb
    clear hall
    by_cases hkn : k < n
    · have gk : decide ((k : Int) < (n : Int)) = true := decide_eq_true (by omega)
      have hk0 : (k : Int) < (n : Int) := by omega
      obtain ⟨x, hx⟩ : ∃ x, ss[k]? = some x := ⟨_, List.getElem?_eq_getElem (by have := HN.out; omega)⟩
      obtain ⟨a', c', e, hc⟩ := HS.out.below hb
      obtain ⟨-, hil, hll, hfl, hff, b, o, e2, c0, c1, c2, c3⟩ := hc k x hx
      have hsa : sa = some ⟨b, o, none⟩ := by
        injection e with e1
        rw [e1, e2]
      subst hsa
      have HX := Lib.hid hx
      have HIL := Lib.hid hil
      obtain ⟨kd, xn, lv, l, fv, f⟩ := x
      simp only at hil hll hfl hff c2 c3
      obtain ⟨la, lc, hlv⟩ := items_one hil
      obtain ⟨fa, fc, hfv⟩ := hfl.form
      obtain ⟨ln, hln⟩ : ∃ n, l.length = n := ⟨_, rfl⟩
      obtain ⟨fn, hfn⟩ : ∃ n, f.length = n := ⟨_, rfl⟩
      rw [hln] at hlv
      rw [hfn] at hfv hff
      subst hlv
      subst hfv
      have HFN := Lib.hid hfn
      have HFA := Lib.hid (fair_any l l.length rfl hll (.slice la ln lc) wr hil)
      clear hc e e2 hx hil hll hfl hln hfn hb c0 c1
      go_wp2_with fail
      refine HFA.out.mono ?_
      rintro e w2 ⟨rfl, rfl⟩
      cases hfr : fair (l.map (·.1))
      · go_wp2_with fail
        go_ret
        exact ⟨⟨false, rfl, fun h => by cases h⟩, HB.out⟩
      by_cases h60 : 60 < fn
      · have d60 : decide ((60 : Int) < (fn : Int)) = true := decide_eq_true (by omega)
        go_wp2_with fail
        go_ret
        exact ⟨⟨false, rfl, fun h => by cases h⟩, HB.out⟩
      have d60 : decide ((60 : Int) < (fn : Int)) = false := decide_eq_false (by omega)
      have HST : Hid (∀ j x, j < k + 1 → ss[j]? = some x → x.ok) := Lib.hid fun j x hj hx => by
        by_cases h : j < k
        · exact HAL.out j x h hx
        · obtain rfl : j = k := by omega
          rw [HX.out] at hx
          cases hx
          exact ⟨hfr, by rw [show (⟨kd, xn, .slice la ln lc, l, .slice fa fn fc, f⟩ : Sp).f = f from rfl, HFN.out]; omega⟩
      clear h60 hfr
      go_wp2_with fail
      go_roundg (n - (k + 1))
      case measure => omega
      case rel => exact ⟨k + 1, by omega, by omega, by go_num, HST.out, HB.out⟩
    · obtain rfl : k = n := by omega
      have HOK : Hid (∀ x ∈ ss, x.ok) := Lib.hid fun x hx => by
        obtain ⟨i, hi⟩ := List.getElem?_of_mem hx
        exact HAL.out i x (by have := (List.getElem?_eq_some_iff.1 hi).1; have := HN.out; omega) hi
      have gk : decide ((k : Int) < (k : Int)) = false := decide_eq_false (by omega)
      by_cases h40 : k ≤ 40
      · have d40 : decide ((k : Int) ≤ 40) = true := decide_eq_true (by omega)
        go_wp2_with fail
        go_ret
        exact ⟨⟨true, rfl, fun _ => ⟨HOK.out, h40⟩⟩, HB.out⟩
      · have d40 : decide ((k : Int) ≤ 40) = false := decide_eq_false (by omega)
        go_wp2_with fail
        go_ret
        exact ⟨⟨false, rfl, fun h => by cases h⟩, HB.out⟩

end Go.Proofs.YtmlniannilnmhaaGreatDoor
