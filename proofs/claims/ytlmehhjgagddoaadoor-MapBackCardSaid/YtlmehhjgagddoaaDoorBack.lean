/- MapBack's walk. -/
import Derived.Test.YtlmehhjgagddoaaDoorWakes
namespace Go.Proofs.YtlmehhjgagddoaaDoor
set_option linter.unusedSimpArgs false
set_option linter.unusedVariables false
open Go.RowKit

theorem wakes_ev (w : World) : Calls Tryd.prog 5 #[] w fun e w' => e = .returned (.bool true) ∧ Below w.heap.size w w' := wakes_any w
set_option maxRecDepth 100000 in
theorem back_big (g : Gm) (n : Nat) (hn : 100 < n) (page : Int) (sv : Value) (hs : Len sv n) (w : World) : Calls Tryd.prog 3 #[g.v, sv, .int .i64 page] w fun e w' => e = .returned (.bool true) ∧ Below w.heap.size w w' := by
  have HK := Lib.hid wakes_any
  obtain ⟨sa, sc, rfl⟩ := hs
  have d0 : decide (100 < (n : Int)) = true := decide_eq_true (by omega)
  go_enter Tryd.func3, Tryd.ntmps3
  go_wp2_with fail
  refine (HK.out _).mono ?_
  rintro e w1 ⟨rfl, hb⟩
  have HB := Lib.hid (box_call hb)
  clear hb
  go_wp2_with fail
  go_ret
  exact ⟨rfl, HB.out.1⟩
set_option maxRecDepth 100000 in
theorem back_out (g : Gm) (n : Nat) (hn : n ≤ 100) (page : Int) (hp : ¬ (0 ≤ page ∧ page < 64)) (sv : Value) (hs : Len sv n) (w : World) : Calls Tryd.prog 3 #[g.v, sv, .int .i64 page] w fun e w' => e = .returned (.bool true) ∧ Below w.heap.size w w' := by
  have HK := Lib.hid wakes_any
  have HO := Lib.hid fun w => of_out page hp w
  obtain ⟨sa, sc, rfl⟩ := hs
  have d0 : decide (100 < (n : Int)) = false := decide_eq_false (by omega)
  by_cases h0 : page < 0
  · have d1 : decide (page < 0) = true := decide_eq_true h0
    clear hp
    go_enter Tryd.func3, Tryd.ntmps3
    go_wp2_with fail
    refine (HO.out _).mono ?_
    rintro e w1 ⟨rfl, rfl⟩
    go_wp2_with fail
    refine (HK.out _).mono ?_
    rintro e w1 ⟨rfl, hb⟩
    have HB := Lib.hid (box_call hb)
    clear hb
    go_wp2_with fail
    go_ret
    exact ⟨rfl, HB.out.1⟩
  · have d1 : decide (page < 0) = false := decide_eq_false h0
    have d2 : decide (64 ≤ page) = true := decide_eq_true (by omega)
    clear hp
    go_enter Tryd.func3, Tryd.ntmps3
    go_wp2_with fail
    refine (HO.out _).mono ?_
    rintro e w1 ⟨rfl, rfl⟩
    go_wp2_with fail
    refine (HK.out _).mono ?_
    rintro e w1 ⟨rfl, hb⟩
    have HB := Lib.hid (box_call hb)
    clear hb
    go_wp2_with fail
    go_ret
    exact ⟨rfl, HB.out.1⟩
set_option maxRecDepth 100000 in
theorem back_bad (g : Gm) (l : List Int) (hn : l.length ≤ 100) (hh : ¬ Heads g l) (hsm : ∀ x ∈ l, Small x) (m : Nat) (hm : m < 64) (sv : Value) (w : World) (hs : IntsAt w sv l) (hev : ErrVar w) : Calls Tryd.prog 3 #[g.v, sv, .int .i64 m] w fun e w' => e = .returned (.bool true) ∧ Below w.heap.size w w' := by
  have HK := Lib.hid wakes_any
  have HO := Lib.hid fun w => of_nat m hm w
  have HC := Lib.hid fun sv w hev hs => cut_no g l hh hsm sv w hev hs
  have HI := Lib.hid hs
  have HE := Lib.hid hev
  obtain ⟨sa, sc, rfl, -⟩ := hs
  have d0 : decide (100 < (l.length : Int)) = false := decide_eq_false (by omega)
  generalize l.length = z at *
  have d1 : decide ((m : Int) < 0) = false := decide_eq_false (by omega)
  have d2 : decide (64 ≤ (m : Int)) = false := decide_eq_false (by omega)
  obtain ⟨u, hu⟩ : ∃ u, ((m / 8 : Nat) : Int) = u := ⟨_, rfl⟩
  obtain ⟨v, hv⟩ : ∃ v, ((m % 8 : Nat) : Int) = v := ⟨_, rfl⟩
  have q1 : (m : Int).tdiv 8 = u := by rw [Int.tdiv_eq_ediv_of_nonneg (by omega)]; omega
  have q2 : (m : Int).tmod 8 = v := by rw [Int.tmod_eq_emod_of_nonneg (by omega)]; omega
  have hu1 : 0 ≤ u ∧ u < 8 := by omega
  have hv1 : 0 ≤ v ∧ v < 8 := by omega
  rw [hu, hv] at HO
  have HI0 := Lib.hid (HI.out.below (gbox_below g w))
  have HE0 := Lib.hid (HE.out.below (Nat.le_refl _) (gbox_below g w))
  clear hh hu hv hev
  go_enter Tryd.func3, Tryd.ntmps3
  go_wp2_with fail
  refine (HO.out _).mono ?_
  rintro e w1 ⟨rfl, rfl⟩
  go_wp2_with fail
  refine (HC.out _ _ HE0.out HI0.out).mono ?_
  rintro e w1 ⟨rfl, hb⟩
  have HB := Lib.hid (box_call hb)
  clear hb
  go_wp2_with fail
  refine (HK.out _).mono ?_
  rintro e w2 ⟨rfl, hb⟩
  have HB2 := Lib.hid (further HB.out hb)
  clear hb
  go_wp2_with fail
  go_ret
  exact ⟨rfl, HB2.out.1⟩

theorem Own.cell {w : World} {B g n cap : Nat} {l : List Int} (h : Own w B (.slice (some ⟨g, 0, none⟩) n cap) l) {i : Nat} {x : Int} (hx : l[i]? = some x) : w.cell? ⟨g, i, none⟩ = some (.int .i64 x) ∧ w.frozen? ⟨g, i, none⟩ = false := by
  have h0 := h
  rcases h.2 with ⟨e, _⟩ | ⟨g', cap', cur, e, hb, hg, hn, hm, hs, ht⟩
  · cases e
  · cases e
    refine ⟨?_, frozen_of_row w g i _ _ hg⟩
    have hi := (List.getElem?_eq_some_iff.1 hx).1
    rw [World.ownsRow.cellAt h0 i (by omega), List.getElem?_map, hx]
    rfl
theorem Own.form {w : World} {B : Nat} {sv : Value} {l : List Int} (h : Own w B sv l) (hl : 0 < l.length) : ∃ g cap, sv = .slice (some ⟨g, 0, none⟩) l.length cap ∧ B ≤ g := by
  rcases h.2 with ⟨e, h0⟩ | ⟨g, cap, cur, e, hb, _⟩
  · omega
  · exact ⟨g, cap, e, hb⟩
theorem alloc_below (w : World) (o : Obj) : Below w.heap.size w (w.alloc o) := (Below.refl _ _).alloc (Nat.le_refl _) _
theorem field36 (a b c : Int) (w : World) : (Instr.field 36 (.agg #[.int .i64 a, .int .i64 b, .int .i64 c]) 0).run Tryd.prog w = .ok (.int .i64 a) w := by kernel_rfl
theorem mk_head2 {l : List Int} {n k j : Nat} (hk : k < n) (hj : j < 8) : (row (mk l) n)[k * 45 + 37 + j]? = some (.int .i64 (l.getD (k * 8 + j) 0)) := by
  have := mk_head (l := l) (n := n) (p := k * 8 + j) (by omega)
  rwa [show (k * 8 + j) / 8 = k by omega, show (k * 8 + j) % 8 = j by omega, ← Nat.add_assoc] at this
theorem getD_set {l : List Int} {m q : Nat} (x : Int) (h : q ≠ m) : (l.set m x).getD q 0 = l.getD q 0 := by
  simp [List.getD_eq_getElem?_getD, List.getElem?_set_ne (Ne.symm h)]
theorem getD_set_self {l : List Int} {m : Nat} (x : Int) (h : m < l.length) : (l.set m x).getD m 0 = x := by
  simp [List.getD_eq_getElem?_getD, h]
theorem set_heads {g : Gm} {l : List Int} (h : Heads g l) (m : Nat) : Heads g (l.set m 1000) := ⟨h.1, by rw [List.length_set]; exact h.2.1, fun x hx => by
  rcases List.mem_or_eq_of_mem_set hx with hx | rfl
  · exact h.2.2 x hx
  · decide⟩
theorem set_small {l : List Int} (h : ∀ x ∈ l, Small x) (m : Nat) : ∀ x ∈ l.set m 1000, Small x := fun x hx => by
  rcases List.mem_or_eq_of_mem_set hx with hx | rfl
  · exact h x hx
  · exact ⟨by decide, by decide⟩
set_option maxRecDepth 100000 in
set_option maxHeartbeats 1000000 in
theorem back_good (g : Gm) (l : List Int) (hh : Heads g l) (hsm : ∀ x ∈ l, Small x) (m : Nat) (hm : m < 64) (sv : Value) (w : World) (hs : IntsAt w sv l) : Calls Tryd.prog 3 #[g.v, sv, .int .i64 m] w fun e w' => e = .returned (.bool true) ∧ Below w.heap.size w w' := by
  obtain ⟨n, p, e1, e2, n1, n8, p1, p64, p8, -⟩ := hh.1.nat
  have hlp : l.length = p := by have := hh.2.1; omega
  have HK := Lib.hid wakes_any
  have HO := Lib.hid fun w => of_nat m hm w
  have HC := Lib.hid fun sv w hs => cut_yes g l hh hsm n e1 sv w hs
  have HC2 := Lib.hid fun sv w hs => cut_yes g (l.set m 1000) (set_heads hh m) (set_small hsm m) n e1 sv w hs
  have HJ := Lib.hid fun r w hs => join_yes g l hh hsm n e1 r w hs
  have HN := Lib.hid fun sv tv w h k => ints_any l l (by omega) (by omega) sv tv w h k
  have HR := Lib.hid fun w => rof_yes g hh.1 w
  rw [e1] at HR
  have HI := Lib.hid hs
  have HL := Lib.hid hlp
  obtain ⟨sa, sc, rfl, -⟩ := hs
  rw [hlp] at HI ⊢
  have d0 : decide (100 < (p : Int)) = false := decide_eq_false (by omega)
  have d1 : decide ((m : Int) < 0) = false := decide_eq_false (by omega)
  have d2 : decide (64 ≤ (m : Int)) = false := decide_eq_false (by omega)
  obtain ⟨u, hu⟩ : ∃ u, m / 8 = u := ⟨_, rfl⟩
  obtain ⟨v, hv⟩ : ∃ v, m % 8 = v := ⟨_, rfl⟩
  obtain ⟨U, hU⟩ : ∃ U : Int, (u : Int) = U := ⟨_, rfl⟩
  obtain ⟨V, hV⟩ : ∃ V : Int, (v : Int) = V := ⟨_, rfl⟩
  have q1 : (m : Int) / 8 = U := by omega
  have q2 : (m : Int) % 8 = V := by omega
  have HU := Lib.hid hU
  have HV := Lib.hid hV
  have hv1 : v < 8 := by omega
  have HUV : Hid (u * 8 + v = m) := Lib.hid (by omega)
  have HGP := Lib.hid e2
  rw [hu, hv, hU, hV] at HO
  have HI0 := Lib.hid (HI.out.below (gbox_below g w))
  clear hh hu hv e1 e2 hsm hlp hU hV
  go_enter Tryd.func3, Tryd.ntmps3
  go_wp2_with fail
  refine (HO.out _).mono ?_
  rintro e w1 ⟨rfl, rfl⟩
  go_upto_region 8 with fail
  clear q1 q2
  obtain rfl := HU.out
  obtain rfl := HV.out
  clear HU HV
  go_wp2_with fail
  refine (HC.out _ _ HI0.out).mono ?_
  rintro e w1 ⟨r, rfl, hk, -, hb⟩
  have B1 := Lib.hid (box_call hb)
  have R1 := Lib.hid hk
  obtain ⟨c0, c1, c2, c3⟩ := B1.out.2.1
  clear hb hk HC HI0
  go_wp2_with fail
  refine (HJ.out _ _ R1.out).mono ?_
  rintro e w2 ⟨jv, rfl, hj, hb⟩
  have B2 := Lib.hid (further B1.out hb)
  have R2 := Lib.hid (R1.out.below hb R1.out.lt)
  have J2 := Lib.hid hj
  clear hb hj HJ c0 c1 c2 c3 B1 R1
  obtain ⟨ja, jc, he, -⟩ := J2.out
  rw [HL.out] at he
  subst he
  go_wp2_with fail
  refine (HN.out _ _ _ J2.out (HI.out.below B2.out.1)).mono ?_
  rintro e w3 ⟨rfl, hb⟩
  have B3 := Lib.hid (further B2.out hb)
  have R3 := Lib.hid (R2.out.below hb R2.out.lt)
  obtain ⟨c0, c1, c2, c3⟩ := B3.out.2.1
  clear hb HN B2 R2 J2
  go_wp2_with fail
  refine (HR.out _).mono ?_
  rintro e w4 ⟨rfl, hb⟩
  have B4 := Lib.hid (further B3.out hb)
  have R4 := Lib.hid (R3.out.below hb R3.out.lt)
  clear hb HR B3 R3 c0 c1 c2 c3
  obtain ⟨c0, c1, c2, c3⟩ := B4.out.2.1
  rw [HGP.out] at c0
  have hfi := fun w => field36 n (4 + g.s * g.l) g.cap w
  have e4 : ((n : Int) != (n : Int)) = false := by simp
  by_cases hmp : p ≤ m
  · have d5 : decide ((p : Int) ≤ (m : Int)) = true := decide_eq_true (by omega)
    go_wp2_with fail
    refine (HK.out _).mono ?_
    rintro e w5 ⟨rfl, hb⟩
    have B5 := Lib.hid (further B4.out hb)
    clear hb
    go_wp2_with fail
    go_ret
    exact ⟨rfl, B5.out.1⟩
  have d5 : decide ((p : Int) ≤ (m : Int)) = false := decide_eq_false (by omega)
  have hmp2 : m < p := by omega
  have hun : u < n := by have := HUV.out; omega
  have d6 : decide ((n : Int) ≤ (u : Int)) = false := decide_eq_false (by omega)
  have HX := R4.out.cell (mk_head2 (l := l) (n := n) (k := u) (j := v) hun hv1)
  rw [HUV.out] at HX
  have hlm : l[m]? = some (l.getD m 0) := by
    have := HL.out
    rw [List.getD_eq_getElem?_getD, List.getElem?_eq_getElem (by omega)]
    rfl
  obtain ⟨a2, c2', e5, hc⟩ := (HI.out.below B4.out.1)
  injection e5 with e6 e7 e8
  subst e6 e8
  obtain ⟨b, o, rfl, k1⟩ := hc m _ hlm
  obtain ⟨x, hx⟩ : ∃ x, l.getD m 0 = x := ⟨_, rfl⟩
  rw [hx] at HX k1
  have hmp3 : (m : Int) < (p : Int) := by omega
  have hun3 : (u : Int) < (n : Int) := by omega
  have hv3 : (v : Int) < 8 := by omega
  have e9 : (x != x) = false := by simp
  clear hc e7 hlm hx
  go_wp2_with fail
  go_quiet (fail)
  go_upto_region 18 with fail
  have B5 := Lib.hid (further B4.out (drewN_below (Below.refl _ _) nq))
  have R5 := Lib.hid (R4.out.drewN nq)
  clear c0 c1 c2 c3 k1 HX B4 R4 d6 e9 hfi
  generalize w4.drewN nq = w5 at *
  refine wp_region_lit ?_
  refine wpList_run (.slice (some ⟨w5.heap.size, 0, none⟩) 0 0) (w5.alloc (.cells #[] 3)) rfl (by go_simp) ?_
  try simp only [Act.put, List.setIfInBounds_toArray, List.set_cons_succ, List.set_cons_zero]
  refine takeL (.slice (some ⟨b, o, none⟩) p sc) rfl (by go_simp) ?_
  try simp only [Act.put, List.setIfInBounds_toArray, List.set_cons_succ, List.set_cons_zero]
  refine app_L (B := w5.heap.size) (l := []) (Own.lit w5 w5.heap.size (Nat.le_refl _) [] (by simp) _ rfl) (alloc_below w5 _).size ((HI.out.below B5.out.1).below (alloc_below w5 _)) (by have := HL.out; simp only [List.length_nil]; omega) rfl rfl rfl ?_
  intro s2 w6 ho2 hb2
  try simp only [Act.put, List.setIfInBounds_toArray, List.set_cons_succ, List.set_cons_zero]
  rw [List.nil_append] at ho2
  refine takeL s2 rfl (by go_simp) ?_
  try simp only [Act.put, List.setIfInBounds_toArray, List.set_cons_succ, List.set_cons_zero]
  refine wpList_nil ?_
  have hb6 := (alloc_below w5 _).trans hb2
  obtain ⟨g2, cp2, e10, hg2⟩ := ho2.form (by have := HL.out; omega)
  rw [HL.out] at e10
  subst e10
  have hlm : l[m]? = some (l.getD m 0) := by
    have := HL.out
    rw [List.getD_eq_getElem?_getD, List.getElem?_eq_getElem (by omega)]
    rfl
  obtain ⟨k2, k3⟩ := ho2.cell hlm
  have O7 := Lib.hid (ho2.set m 1000 (by have := HL.out; omega))
  have hb7 : Below w5.heap.size w5 (w6.setCell ⟨g2, m, none⟩ (.int .i64 1000)) := hb6.setCell hg2 _
  have B7 := Lib.hid (further B5.out hb7)
  have R7 := Lib.hid (R5.out.below hb7 R5.out.lt)
  clear ho2 hb2 hb6 hb7 hlm B5 R5
  go_upto_region 20 with fail
  clear k2 k3 hg2
  generalize w6.setCell ⟨g2, m, none⟩ (.int .i64 1000) = w7 at *
  generalize w5.heap.size = g5 at *
  obtain ⟨c0, c1, c2, c3⟩ := B7.out.2.1
  go_wp2_with fail
  refine (HC2.out _ _ O7.out.ints).mono ?_
  rintro e w8 ⟨r2, rfl, hk, -, hb⟩
  have B8 := Lib.hid (further B7.out hb)
  have R8 := Lib.hid (R7.out.below hb R7.out.lt)
  have S8 := Lib.hid hk
  clear hb hk B7 R7 O7 HC2 c0 c1 c2 c3
  clear HI d0 d1 d2 d5 HGP
  go_wp2_with fail
  go_loopg [16] n (fun z c wr => ∃ k : Nat, n - k ≤ z ∧ k ≤ n ∧ c = .int .i64 k ∧ Below w.heap.size w wr ∧ Blk wr r (row (mk l) n) ∧ Blk wr r2 (row (mk (l.set m 1000)) n))
  case atStart => exact ⟨0, by omega, by omega, rfl, B8.out.1, R8.out, S8.out⟩
  case round =>
    clear B8 R8 S8
    obtain ⟨k, hz, hk, rfl, hb, h1, h2⟩ := hrel
    have HB := Lib.hid hb
    have HR := Lib.hid h1
    have HS := Lib.hid h2
    clear hb h1 h2
    by_cases hlt : k < n
    · have hkn : (k : Int) < (n : Int) := by omega
      go_wp2_with fail
      go_loopg [17] 8 (fun z c wr => ∃ j : Nat, 8 - j ≤ z ∧ j ≤ 8 ∧ c = .int .i64 j ∧ Below w.heap.size w wr ∧ Blk wr r (row (mk l) n) ∧ Blk wr r2 (row (mk (l.set m 1000)) n))
      case atStart => exact ⟨0, by omega, by omega, rfl, HB.out, HR.out, HS.out⟩
      case round =>
        clear HB HR HS
        obtain ⟨j, hz, hj, rfl, hb, h1, h2⟩ := hrel
        have HB := Lib.hid hb
        have HR := Lib.hid h1
        have HS := Lib.hid h2
        clear hb h1 h2
        by_cases hj8 : j < 8
        · have hj3 : (j : Int) < 8 := by omega
          by_cases hu : k = u
          · have e1 : ((k : Int) != (u : Int)) = false := by simp; omega
            by_cases hv : j = v
            · have e2 : ((j : Int) != (v : Int)) = false := by simp; omega
              clear hu hv
              go_wp2_with fail
              go_quiet (fail)
              go_wp2_with fail
              go_roundg (8 - (j + 1))
              case measure => omega
              case rel => exact ⟨j + 1, by omega, by omega, by go_num, drewN_below HB.out _, HR.out.drewN _, HS.out.drewN _⟩
            · have e2 : ((j : Int) != (v : Int)) = true := by simp; omega
              have hne : k * 8 + j ≠ m := by have := HUV.out; omega
              have x1 := HR.out.cell (mk_head2 (l := l) (n := n) hlt hj8)
              have x2 := HS.out.cell (mk_head2 (l := l.set m 1000) (n := n) hlt hj8)
              rw [getD_set 1000 hne] at x2
              generalize l.getD (k * 8 + j) 0 = y at *
              have e3 : (y != y) = false := by simp
              clear hu hv hne
              go_wp2_with fail
              go_quiet (fail)
              go_wp2_with fail
              go_roundg (8 - (j + 1))
              case measure => omega
              case rel => exact ⟨j + 1, by omega, by omega, by go_num, drewN_below HB.out _, HR.out.drewN _, HS.out.drewN _⟩
          · have e1 : ((k : Int) != (u : Int)) = true := by simp; omega
            have hne : k * 8 + j ≠ m := by have := HUV.out; omega
            have x1 := HR.out.cell (mk_head2 (l := l) (n := n) hlt hj8)
            have x2 := HS.out.cell (mk_head2 (l := l.set m 1000) (n := n) hlt hj8)
            rw [getD_set 1000 hne] at x2
            generalize l.getD (k * 8 + j) 0 = y at *
            have e3 : (y != y) = false := by simp
            clear hu hne
            go_wp2_with fail
            go_quiet (fail)
            go_wp2_with fail
            go_roundg (8 - (j + 1))
            case measure => omega
            case rel => exact ⟨j + 1, by omega, by omega, by go_num, drewN_below HB.out _, HR.out.drewN _, HS.out.drewN _⟩
        · obtain rfl : 8 = j := by omega
          go_wp2_with fail
          go_roundg (n - (k + 1))
          case measure => omega
          case rel => exact ⟨k + 1, by omega, by omega, by go_num, HB.out, HR.out, HS.out⟩
    · obtain rfl : n = k := by omega
      have hk1 : ¬ (n : Int) < (n : Int) := by omega
      have x2 := HS.out.cell (mk_head2 (l := l.set m 1000) (n := n) hun hv1)
      rw [HUV.out, getD_set_self 1000 (by have := HL.out; omega)] at x2
      go_wp2_with fail
      refine (HK.out _).mono ?_
      rintro e w9 ⟨rfl, hb⟩
      have HB9 := Lib.hid (stay HB.out hb)
      clear hb
      go_wp2_with fail
      go_ret
      exact ⟨rfl, HB9.out⟩

theorem back_any (g : Gm) (l : List Int) (hsm : ∀ x ∈ l, Small x) (page : Int) (sv : Value) (w : World) (hs : IntsAt w sv l) (hev : ErrVar w) : Calls Tryd.prog 3 #[g.v, sv, .int .i64 page] w fun e w' => e = .returned (.bool true) ∧ Below w.heap.size w w' := by
  by_cases h : l.length ≤ 100
  · by_cases hp : 0 ≤ page ∧ page < 64
    · obtain ⟨m, rfl⟩ : ∃ m : Nat, (m : Int) = page := ⟨page.toNat, by omega⟩
      by_cases hh : Heads g l
      · exact back_good g l hh hsm m (by omega) sv w hs
      · exact back_bad g l h hh hsm m (by omega) sv w hs hev
    · exact back_out g l.length h page hp sv hs.len w
  · exact back_big g l.length (by omega) page sv hs.len w
end Go.Proofs.YtlmehhjgagddoaaDoor
