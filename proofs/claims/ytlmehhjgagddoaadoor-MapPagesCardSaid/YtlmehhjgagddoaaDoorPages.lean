/- MapPages's walk. -/
import Derived.Test.YtlmehhjgagddoaaDoorWakes
import Derived.Test.YtlmehhjgagddoaaDoorKeep
namespace Go.Proofs.YtlmehhjgagddoaaDoor
set_option linter.unusedSimpArgs false
set_option linter.unusedVariables false
open Go.RowKit

set_option maxRecDepth 100000 in
theorem pages_big1 (g : Gm) (n k : Nat) (hn : 100 < n) (av bv : Value) (hs : Len av n) (ks : Len bv k) (w : World) : Calls Tryd.prog 4 #[g.v, av, bv] w fun e w' => e = .returned (.bool true) ∧ Below w.heap.size w w' := by
  have HK := Lib.hid wakes_any
  obtain ⟨sa, sc, rfl⟩ := hs
  obtain ⟨ta, tc, rfl⟩ := ks
  have d0 : decide (100 < (n : Int)) = true := decide_eq_true (by omega)
  go_enter Tryd.func4, Tryd.ntmps4
  go_wp2_with fail
  refine (HK.out _).mono ?_
  rintro e w1 ⟨rfl, hb⟩
  have HB := Lib.hid (box_call hb)
  clear hb
  go_wp2_with fail
  go_ret
  exact ⟨rfl, HB.out.1⟩
set_option maxRecDepth 100000 in
theorem pages_big2 (g : Gm) (n k : Nat) (hn : n ≤ 100) (hk : 100 < k) (av bv : Value) (hs : Len av n) (ks : Len bv k) (w : World) : Calls Tryd.prog 4 #[g.v, av, bv] w fun e w' => e = .returned (.bool true) ∧ Below w.heap.size w w' := by
  have HK := Lib.hid wakes_any
  obtain ⟨sa, sc, rfl⟩ := hs
  obtain ⟨ta, tc, rfl⟩ := ks
  have d0 : decide (100 < (n : Int)) = false := decide_eq_false (by omega)
  have d1 : decide (100 < (k : Int)) = true := decide_eq_true (by omega)
  go_enter Tryd.func4, Tryd.ntmps4
  go_wp2_with fail
  refine (HK.out _).mono ?_
  rintro e w1 ⟨rfl, hb⟩
  have HB := Lib.hid (box_call hb)
  clear hb
  go_wp2_with fail
  go_ret
  exact ⟨rfl, HB.out.1⟩
set_option maxRecDepth 100000 in
theorem pages_nn (g : Gm) (a b : List Int) (hal : a.length ≤ 100) (hbl : b.length ≤ 100) (ha : ¬ Heads g a) (hb : ¬ Heads g b) (sa : ∀ x ∈ a, Small x) (sb : ∀ x ∈ b, Small x) (av bv : Value) (w : World) (hs : IntsAt w av a) (ks : IntsAt w bv b) (hev : ErrVar w) : Calls Tryd.prog 4 #[g.v, av, bv] w fun e w' => e = .returned (.bool true) ∧ Below w.heap.size w w' := by
  have HK := Lib.hid wakes_any
  have HCa := Lib.hid fun sv w hev hs => cut_no g a ha sa sv w hev hs
  have HCb := Lib.hid fun sv w hev hs => cut_no g b hb sb sv w hev hs
  have HIa := Lib.hid hs
  have HIb := Lib.hid ks
  have HE := Lib.hid hev
  obtain ⟨xa, xc, rfl, -⟩ := hs
  obtain ⟨ya, yc, rfl, -⟩ := ks
  have d0 : decide (100 < (a.length : Int)) = false := decide_eq_false (by omega)
  have d1 : decide (100 < (b.length : Int)) = false := decide_eq_false (by omega)
  generalize a.length = z at *
  generalize b.length = y at *
  have HIa0 := Lib.hid (HIa.out.below (gbox_below g w))
  have HE0 := Lib.hid (HE.out.below (Nat.le_refl _) (gbox_below g w))
  clear ha hb hev
  go_enter Tryd.func4, Tryd.ntmps4
  go_wp2_with fail
  refine (HCa.out _ _ HE0.out HIa0.out).mono ?_
  rintro e w1 ⟨rfl, hb⟩
  have HB1 := Lib.hid (box_call hb)
  have HIb1 := Lib.hid (HIb.out.below HB1.out.1)
  have HE1 := Lib.hid (HE.out.below (Nat.le_refl _) HB1.out.1)
  obtain ⟨c0, c1, c2, c3⟩ := HB1.out.2.1
  clear hb
  go_wp2_with fail
  refine (HCb.out _ _ HE1.out HIb1.out).mono ?_
  rintro e w2 ⟨rfl, hb⟩
  have HB2 := Lib.hid (further HB1.out hb)
  clear hb c0 c1 c2 c3
  go_wp2_with fail
  refine (HK.out _).mono ?_
  rintro e w3 ⟨rfl, hb⟩
  have HB3 := Lib.hid (further HB2.out hb)
  clear hb
  go_wp2_with fail
  go_ret
  exact ⟨rfl, HB3.out.1⟩
set_option maxRecDepth 100000 in
theorem pages_ny (g : Gm) (a b : List Int) (hal : a.length ≤ 100) (hbl : b.length ≤ 100) (ha : ¬ Heads g a) (hb : Heads g b) (sa : ∀ x ∈ a, Small x) (sb : ∀ x ∈ b, Small x) (av bv : Value) (w : World) (hs : IntsAt w av a) (ks : IntsAt w bv b) (hev : ErrVar w) : Calls Tryd.prog 4 #[g.v, av, bv] w fun e w' => e = .returned (.bool true) ∧ Below w.heap.size w w' := by
  have HK := Lib.hid wakes_any
  obtain ⟨n, p, e1, e2, n1, n8, p1, p64, p8, -⟩ := hb.1.nat
  have HCa := Lib.hid fun sv w hev hs => cut_no g a ha sa sv w hev hs
  have HCb := Lib.hid fun sv w hs => cut_yes g b hb sb n e1 sv w hs
  have HIa := Lib.hid hs
  have HIb := Lib.hid ks
  have HE := Lib.hid hev
  obtain ⟨xa, xc, rfl, -⟩ := hs
  obtain ⟨ya, yc, rfl, -⟩ := ks
  have d0 : decide (100 < (a.length : Int)) = false := decide_eq_false (by omega)
  have d1 : decide (100 < (b.length : Int)) = false := decide_eq_false (by omega)
  generalize a.length = z at *
  generalize b.length = y at *
  have HIa0 := Lib.hid (HIa.out.below (gbox_below g w))
  have HE0 := Lib.hid (HE.out.below (Nat.le_refl _) (gbox_below g w))
  clear ha hb hev e1 e2 p1 p64 p8 n1
  go_enter Tryd.func4, Tryd.ntmps4
  go_wp2_with fail
  refine (HCa.out _ _ HE0.out HIa0.out).mono ?_
  rintro e w1 ⟨rfl, hb⟩
  have HB1 := Lib.hid (box_call hb)
  have HIb1 := Lib.hid (HIb.out.below HB1.out.1)
  have HE1 := Lib.hid (HE.out.below (Nat.le_refl _) HB1.out.1)
  obtain ⟨c0, c1, c2, c3⟩ := HB1.out.2.1
  clear hb
  go_wp2_with fail
  refine (HCb.out _ _ HIb1.out).mono ?_
  rintro e w2 ⟨rb, rfl, -, -, hb⟩
  have HB2 := Lib.hid (further HB1.out hb)
  clear hb c0 c1 c2 c3
  go_wp2_with fail
  refine (HK.out _).mono ?_
  rintro e w3 ⟨rfl, hb⟩
  have HB3 := Lib.hid (further HB2.out hb)
  clear hb
  go_wp2_with fail
  go_ret
  exact ⟨rfl, HB3.out.1⟩
set_option maxRecDepth 100000 in
theorem pages_yn (g : Gm) (a b : List Int) (hal : a.length ≤ 100) (hbl : b.length ≤ 100) (ha : Heads g a) (hb : ¬ Heads g b) (sa : ∀ x ∈ a, Small x) (sb : ∀ x ∈ b, Small x) (av bv : Value) (w : World) (hs : IntsAt w av a) (ks : IntsAt w bv b) (hev : ErrVar w) : Calls Tryd.prog 4 #[g.v, av, bv] w fun e w' => e = .returned (.bool true) ∧ Below w.heap.size w w' := by
  have HK := Lib.hid wakes_any
  obtain ⟨n, p, e1, e2, n1, n8, p1, p64, p8, -⟩ := ha.1.nat
  have HCa := Lib.hid fun sv w hs => cut_yes g a ha sa n e1 sv w hs
  have HCb := Lib.hid fun sv w hev hs => cut_no g b hb sb sv w hev hs
  have HIa := Lib.hid hs
  have HIb := Lib.hid ks
  have HE := Lib.hid hev
  obtain ⟨xa, xc, rfl, -⟩ := hs
  obtain ⟨ya, yc, rfl, -⟩ := ks
  have d0 : decide (100 < (a.length : Int)) = false := decide_eq_false (by omega)
  have d1 : decide (100 < (b.length : Int)) = false := decide_eq_false (by omega)
  generalize a.length = z at *
  generalize b.length = y at *
  have HIa0 := Lib.hid (HIa.out.below (gbox_below g w))
  have HE0 := Lib.hid (HE.out.below (Nat.le_refl _) (gbox_below g w))
  clear ha hb hev e1 e2 p1 p64 p8 n1
  go_enter Tryd.func4, Tryd.ntmps4
  go_wp2_with fail
  refine (HCa.out _ _ HIa0.out).mono ?_
  rintro e w1 ⟨ra, rfl, -, -, hb⟩
  have HB1 := Lib.hid (box_call hb)
  have HIb1 := Lib.hid (HIb.out.below HB1.out.1)
  have HE1 := Lib.hid (HE.out.below (Nat.le_refl _) HB1.out.1)
  obtain ⟨c0, c1, c2, c3⟩ := HB1.out.2.1
  clear hb
  go_wp2_with fail
  refine (HCb.out _ _ HE1.out HIb1.out).mono ?_
  rintro e w2 ⟨rfl, hb⟩
  have HB2 := Lib.hid (further HB1.out hb)
  clear hb c0 c1 c2 c3
  go_wp2_with fail
  refine (HK.out _).mono ?_
  rintro e w3 ⟨rfl, hb⟩
  have HB3 := Lib.hid (further HB2.out hb)
  clear hb
  go_wp2_with fail
  go_ret
  exact ⟨rfl, HB3.out.1⟩

/-- Are the first k heads of mapping page i alike? -/
def eqTo (a b : List Int) (i k : Nat) : Bool := (List.range k).all fun q => decide (a.getD (i * 8 + q) 0 = b.getD (i * 8 + q) 0)
theorem eqTo_succ (a b : List Int) (i k : Nat) : eqTo a b i (k + 1) = (eqTo a b i k && decide (a.getD (i * 8 + k) 0 = b.getD (i * 8 + k) 0)) := by
  simp [eqTo, List.range_succ, List.all_append]
theorem eqTo_all (a b : List Int) (i : Nat) : (mk a i).same (mk b i) = eqTo a b i 8 := by
  have h : hds a i = hds b i ↔ eqTo a b i 8 = true := by
    simp only [hds, eqTo, List.all_eq_true, decide_eq_true_eq]
    exact List.map_inj_left
  simp only [Bk.same, mk, decide_true, Bool.true_and]
  cases e : eqTo a b i 8 with
  | true => exact decide_eq_true (h.2 e)
  | false => exact decide_eq_false fun k => by rw [h.1 k] at e; cases e
theorem mk_head2 {l : List Int} {n k j : Nat} (hk : k < n) (hj : j < 8) : (row (mk l) n)[k * 45 + 37 + j]? = some (.int .i64 (l.getD (k * 8 + j) 0)) := by
  have := mk_head (l := l) (n := n) (p := k * 8 + j) (by omega)
  rwa [show (k * 8 + j) / 8 = k by omega, show (k * 8 + j) % 8 = j by omega, ← Nat.add_assoc] at this
theorem getD_at {l : List Int} {q : Nat} (h : q < l.length) : l[q]? = some (l.getD q 0) := by
  rw [List.getD_eq_getElem?_getD, List.getElem?_eq_getElem h]
  rfl
set_option maxRecDepth 100000 in
set_option maxHeartbeats 1000000 in
theorem pages_yy (g : Gm) (a b : List Int) (ha : Heads g a) (hb : Heads g b) (sa : ∀ x ∈ a, Small x) (sb : ∀ x ∈ b, Small x) (av bv : Value) (w : World) (hs : IntsAt w av a) (ks : IntsAt w bv b) : Calls Tryd.prog 4 #[g.v, av, bv] w fun e w' => e = .returned (.bool true) ∧ Below w.heap.size w w' := by
  have HK := Lib.hid wakes_any
  obtain ⟨n, p, e1, e2, n1, n8, p1, p64, p8, -⟩ := ha.1.nat
  have hal : a.length = p := by have := ha.2.1; omega
  have hbl : b.length = p := by have := hb.2.1; omega
  have HCa := Lib.hid fun sv w hs => cut_yes g a ha sa n e1 sv w hs
  have HCb := Lib.hid fun sv w hs => cut_yes g b hb sb n e1 sv w hs
  have HBk := Lib.hid fun i (hi : i < n) w => block_any (mk a i) (mk b i) nosl nosl (mk_wf sa (by omega)) (mk_wf sb (by omega)) w (BytesAt.nil w 0 none) (BytesAt.nil w 0 none)
  have HWa := Lib.hid fun i (hi : i < n) => mk_wf sa (i := i) (by omega)
  have HWb := Lib.hid fun i (hi : i < n) => mk_wf sb (i := i) (by omega)
  have HIa := Lib.hid hs
  have HIb := Lib.hid ks
  have HLa := Lib.hid hal
  have HLb := Lib.hid hbl
  have HGP := Lib.hid e2
  obtain ⟨xa, xc, rfl, -⟩ := hs
  obtain ⟨ya, yc, rfl, -⟩ := ks
  have d0 : decide (100 < (p : Int)) = false := decide_eq_false (by omega)
  rw [hal] at HIa ⊢
  rw [hbl] at HIb ⊢
  have HIa0 := Lib.hid (HIa.out.below (gbox_below g w))
  clear ha hb e1 e2 sa sb hal hbl
  go_enter Tryd.func4, Tryd.ntmps4
  go_wp2_with fail
  refine (HCa.out _ _ HIa0.out).mono ?_
  rintro e w1 ⟨r, rfl, hk, -, hb⟩
  have B1 := Lib.hid (box_call hb)
  have R1 := Lib.hid hk
  have HIb1 := Lib.hid (HIb.out.below B1.out.1)
  obtain ⟨c0, c1, c2, c3⟩ := B1.out.2.1
  clear hb hk HCa HIa0
  go_wp2_with fail
  refine (HCb.out _ _ HIb1.out).mono ?_
  rintro e w2 ⟨r2, rfl, hk, -, hb⟩
  have B2 := Lib.hid (further B1.out hb)
  have R2 := Lib.hid (R1.out.below hb R1.out.lt)
  have S2 := Lib.hid hk
  clear hb hk HCb HIb1 c0 c1 c2 c3
  obtain ⟨c0, c1, c2, c3⟩ := B2.out.2.1
  rw [HGP.out] at c0
  have e4 : ((n : Int) != (n : Int)) = false := by simp
  have e5 : ((p : Int) != (p : Int)) = false := by simp
  go_wp2_with fail
  clear c0 c1 c2 c3 e4 e5 d0
  go_loopg [11] n (fun z c wr => ∃ i : Nat, n - i ≤ z ∧ i ≤ n ∧ c = .int .i64 i ∧ (Below w.heap.size w wr ∧ GAt wr w.heap.size g ∧ w.heap.size < wr.heap.size) ∧ Blk wr r (row (mk a) n) ∧ Blk wr r2 (row (mk b) n))
  case atStart => exact ⟨0, by omega, by omega, rfl, B2.out, R2.out, S2.out⟩
  case round =>
    clear B2 R2 S2 B1 R1
    obtain ⟨i, hz, hi, rfl, hb, h1, h2⟩ := hrel
    have B2 := Lib.hid hb
    have HR := Lib.hid h1
    have HS := Lib.hid h2
    clear hb h1 h2
    by_cases hlt : i < n
    · have hin : (i : Int) < (n : Int) := by omega
      have HI8 := Lib.hid (show i < 8 by omega)
      go_wp2_with fail
      go_loopg [13, 12] 8 (fun z c t wr => ∃ k : Nat, 8 - k ≤ z ∧ k ≤ 8 ∧ c = .int .i64 k ∧ t = .bool (eqTo a b i k) ∧ (Below w.heap.size w wr ∧ GAt wr w.heap.size g ∧ w.heap.size < wr.heap.size) ∧ Blk wr r (row (mk a) n) ∧ Blk wr r2 (row (mk b) n))
      case atStart => exact ⟨0, by omega, by omega, rfl, rfl, B2.out, HR.out, HS.out⟩
      case round =>
        clear B2 HR HS
        obtain ⟨k, hz2, hk, rfl, rfl, hb, h1, h2⟩ := hrel
        have B2 := Lib.hid hb
        have HR := Lib.hid h1
        have HS := Lib.hid h2
        clear hb h1 h2
        by_cases hlt2 : k < 8
        · have hk8 : (k : Int) < 8 := by omega
          have HE := Lib.hid (eqTo_succ a b i k)
          have HE2 := Lib.hid (show eqTo a b i k = true ∨ eqTo a b i k = false by cases eqTo a b i k <;> simp)
          obtain ⟨c0, c1, c2, c3⟩ := B2.out.2.1
          rw [HGP.out] at c0
          have x1 := HR.out.cell (mk_head2 (l := a) (n := n) hlt hlt2)
          obtain ⟨t, ht⟩ : ∃ t, eqTo a b i k = t := ⟨_, rfl⟩
          rw [ht] at HE HE2
          rw [ht]
          clear ht HE2
          go_upto_region 17 with fail
          obtain ⟨q, hq⟩ : ∃ q, i * 8 + k = q := ⟨_, rfl⟩
          have hq2 : 8 * (i : Int) + (k : Int) = (q : Int) := by omega
          rw [hq2]
          rw [hq] at x1 HE
          by_cases hqp : q < p
          · have hqp2 : (q : Int) < (p : Int) := by omega
            have hqp3 : decide ((q : Int) < (p : Int)) = true := decide_eq_true hqp2
            have ka := getD_at (l := a) (q := q) (by have := HLa.out; omega)
            have kb := getD_at (l := b) (q := q) (by have := HLb.out; omega)
            obtain ⟨a2, a3, a4, hca⟩ := (HIa.out.below B2.out.1)
            obtain ⟨b2, b3, b4, hcb⟩ := (HIb.out.below B2.out.1)
            injection a4 with a5 a6 a7
            injection b4 with b5 b6 b7
            subst a5 a7 b5 b7
            obtain ⟨ga, oa, rfl, l1⟩ := hca q _ ka
            obtain ⟨gb, ob, rfl, l2⟩ := hcb q _ kb
            generalize a.getD q 0 = x at *
            generalize b.getD q 0 = y at *
            clear hca hcb a6 b6 ka kb x1 c1 c2 c3 hq hq2
            cases t with
            | false =>
              have HE3 : Hid (eqTo a b i (k + 1) = false) := Lib.hid (by rw [HE.out]; rfl)
              clear HE
              go_wp2_with fail
              go_quiet (fail)
              go_wp2_with fail
              go_roundg (8 - (k + 1))
              case measure => omega
              case rel => exact ⟨k + 1, by omega, by omega, by go_num, by rw [HE3.out], further B2.out (drewN_below (Below.refl _ _) _), HR.out.drewN _, HS.out.drewN _⟩
            | true =>
              by_cases hxy : x = y
              · have HE3 : Hid (eqTo a b i (k + 1) = true) := Lib.hid (by rw [HE.out, hxy]; simp)
                have e6 : (x == y) = true := by simpa using hxy
                clear HE hxy
                go_wp2_with fail
                go_quiet (fail)
                go_wp2_with fail
                go_roundg (8 - (k + 1))
                case measure => omega
                case rel => exact ⟨k + 1, by omega, by omega, by go_num, by rw [HE3.out], further B2.out (drewN_below (Below.refl _ _) _), HR.out.drewN _, HS.out.drewN _⟩
              · have HE3 : Hid (eqTo a b i (k + 1) = false) := Lib.hid (by rw [HE.out]; simp [hxy])
                have e6 : (x == y) = false := by simpa using hxy
                clear HE hxy
                go_wp2_with fail
                go_quiet (fail)
                go_wp2_with fail
                go_roundg (8 - (k + 1))
                case measure => omega
                case rel => exact ⟨k + 1, by omega, by omega, by go_num, by rw [HE3.out], further B2.out (drewN_below (Below.refl _ _) _), HR.out.drewN _, HS.out.drewN _⟩
          · have hqp3 : decide ((q : Int) < (p : Int)) = false := decide_eq_false (by omega)
            have za : a.getD q 0 = 0 := by rw [List.getD_eq_getElem?_getD, List.getElem?_eq_none (by have := HLa.out; omega)]; rfl
            have zb : b.getD q 0 = 0 := by rw [List.getD_eq_getElem?_getD, List.getElem?_eq_none (by have := HLb.out; omega)]; rfl
            have HE3 : Hid (eqTo a b i (k + 1) = t) := Lib.hid (by rw [HE.out, za, zb]; simp)
            rw [za] at x1
            clear HE za zb hq hq2
            go_wp2_with fail
            go_roundg (8 - (k + 1))
            case measure => omega
            case rel => exact ⟨k + 1, by omega, by omega, by go_num, by rw [HE3.out], B2.out, HR.out, HS.out⟩
        · obtain rfl : 8 = k := by omega
          have HB := Lib.hid fun w => HBk.out i hlt w
          rw [eqTo_all] at HB
          have Wa := Lib.hid (HWa.out i hlt)
          have Wb := Lib.hid (HWb.out i hlt)
          have hin2 : (i : Int) < (n : Int) := by omega
          have e7 : (eqTo a b i 8 != eqTo a b i 8) = false := by simp
          have e8 : ((i : Int) != (i : Int)) = false := by simp
          go_upto_region 21 with fail
          refine startH (fun wq => Below wr.heap.size wr wq) (by kernel_rfl) ?_
          refine takeH 0 (some 108) (.bool (eqTo a b i 8)) rfl rfl (by kernel_rfl) (by kernel_rfl) (by kernel_rfl) (fun _ _ _ h => h) rfl (fun wq hS => by go_simp) (Below.refl _ _).drew ?_
          try simp only [Act.put, List.setIfInBounds_toArray, List.set_cons_succ, List.set_cons_zero]
          refine takeH 1 (some 109) (.slice (some ⟨r, 0, none⟩) n n) rfl rfl (by kernel_rfl) (by kernel_rfl) (by kernel_rfl) (fun _ _ _ h => h) rfl (fun wq hS => by go_simp) (Below.refl _ _).drew ?_
          try simp only [Act.put, List.setIfInBounds_toArray, List.set_cons_succ, List.set_cons_zero]
          refine takeH 2 (some 110) (.int .i64 i) rfl rfl (by kernel_rfl) (by kernel_rfl) (by kernel_rfl) (fun _ _ _ h => h) rfl (fun wq hS => by go_simp) (Below.refl _ _).drew ?_
          try simp only [Act.put, List.setIfInBounds_toArray, List.set_cons_succ, List.set_cons_zero]
          refine takeH 3 (some 111) (.pointer (some ⟨r, i * 45, none⟩)) rfl rfl (by kernel_rfl) (by kernel_rfl) (by kernel_rfl) (fun _ _ _ h => h) rfl (fun wq hS => by go_simp) (Below.refl _ _).drew ?_
          try simp only [Act.put, List.setIfInBounds_toArray, List.set_cons_succ, List.set_cons_zero]
          refine takeH 4 (some 112) (.agg ((mk a i).arr nosl)) rfl rfl (by kernel_rfl) (by kernel_rfl) (by kernel_rfl) (fun _ _ _ h => h) rfl (fun wq hS => by exact exec_load_at wq _ _ 43 _ rfl r (i * 45) rfl ((mk a i).arr nosl) _ Tryd.underlying43 rfl (info43s Wa.out) (row_block (HR.out.below hS HR.out.lt) hlt)) (Below.refl _ _).drew ?_
          try simp only [Act.put, List.setIfInBounds_toArray, List.set_cons_succ, List.set_cons_zero]
          refine takeH 5 (some 113) (.slice (some ⟨r2, 0, none⟩) n n) rfl rfl (by kernel_rfl) (by kernel_rfl) (by kernel_rfl) (fun _ _ _ h => h) rfl (fun wq hS => by go_simp) (Below.refl _ _).drew ?_
          try simp only [Act.put, List.setIfInBounds_toArray, List.set_cons_succ, List.set_cons_zero]
          refine takeH 6 (some 114) (.int .i64 i) rfl rfl (by kernel_rfl) (by kernel_rfl) (by kernel_rfl) (fun _ _ _ h => h) rfl (fun wq hS => by go_simp) (Below.refl _ _).drew ?_
          try simp only [Act.put, List.setIfInBounds_toArray, List.set_cons_succ, List.set_cons_zero]
          refine takeH 7 (some 115) (.pointer (some ⟨r2, i * 45, none⟩)) rfl rfl (by kernel_rfl) (by kernel_rfl) (by kernel_rfl) (fun _ _ _ h => h) rfl (fun wq hS => by go_simp) (Below.refl _ _).drew ?_
          try simp only [Act.put, List.setIfInBounds_toArray, List.set_cons_succ, List.set_cons_zero]
          refine takeH 8 (some 116) (.agg ((mk b i).arr nosl)) rfl rfl (by kernel_rfl) (by kernel_rfl) (by kernel_rfl) (fun _ _ _ h => h) rfl (fun wq hS => by exact exec_load_at wq _ _ 43 _ rfl r2 (i * 45) rfl ((mk b i).arr nosl) _ Tryd.underlying43 rfl (info43s Wb.out) (row_block (HS.out.below hS HS.out.lt) hlt)) (Below.refl _ _).drew ?_
          try simp only [Act.put, List.setIfInBounds_toArray, List.set_cons_succ, List.set_cons_zero]
          refine oneH 9 (by kernel_rfl) rfl rfl fun K hK => ?_
          go_simp
          refine (HB.out _).mono ?_
          rintro e w9 ⟨rfl, hb⟩
          have HQ := Lib.hid (stay (Below.refl wr.heap.size wr).drew hb)
          clear hb
          refine hK _ _ HQ.out ?_
          clear hK K
          try simp only [Act.put, List.setIfInBounds_toArray, List.set_cons_succ, List.set_cons_zero]
          refine takeH 10 (some 118) (.bool false) rfl rfl (by kernel_rfl) (by kernel_rfl) (by kernel_rfl) (fun _ _ _ h => h) rfl (fun wq hS => by go_simp) HQ.out ?_
          try simp only [Act.put, List.setIfInBounds_toArray, List.set_cons_succ, List.set_cons_zero]
          refine takeH 11 (some 119) (.bool false) rfl rfl (by kernel_rfl) (by kernel_rfl) (by kernel_rfl) (fun _ _ _ h => h) rfl (fun wq hS => by go_simp) HQ.out ?_
          try simp only [Act.put, List.setIfInBounds_toArray, List.set_cons_succ, List.set_cons_zero]
          refine takeH 12 (some 120) (.slice (some ⟨r, 0, none⟩) n n) rfl rfl (by kernel_rfl) (by kernel_rfl) (by kernel_rfl) (fun _ _ _ h => h) rfl (fun wq hS => by go_simp) HQ.out ?_
          try simp only [Act.put, List.setIfInBounds_toArray, List.set_cons_succ, List.set_cons_zero]
          refine takeH 13 (some 121) (.int .i64 i) rfl rfl (by kernel_rfl) (by kernel_rfl) (by kernel_rfl) (fun _ _ _ h => h) rfl (fun wq hS => by go_simp) HQ.out ?_
          try simp only [Act.put, List.setIfInBounds_toArray, List.set_cons_succ, List.set_cons_zero]
          refine takeH 14 (some 122) (.pointer (some ⟨r, i * 45, none⟩)) rfl rfl (by kernel_rfl) (by kernel_rfl) (by kernel_rfl) (fun _ _ _ h => h) rfl (fun wq hS => by go_simp) HQ.out ?_
          try simp only [Act.put, List.setIfInBounds_toArray, List.set_cons_succ, List.set_cons_zero]
          refine takeH 15 (some 123) (.pointer (some ⟨r, i * 45, none⟩)) rfl rfl (by kernel_rfl) (by kernel_rfl) (by kernel_rfl) (fun _ _ _ h => h) rfl (fun wq hS => by go_simp) HQ.out ?_
          try simp only [Act.put, List.setIfInBounds_toArray, List.set_cons_succ, List.set_cons_zero]
          refine takeH 16 (some 124) (.int .i64 3) rfl rfl (by kernel_rfl) (by kernel_rfl) (by kernel_rfl) (fun _ _ _ h => h) rfl (fun wq hS => by have hq := (HR.out.below hS HR.out.lt).cell (mk_kind (l := a) hlt); go_simp) HQ.out ?_
          try simp only [Act.put, List.setIfInBounds_toArray, List.set_cons_succ, List.set_cons_zero]
          refine takeH 17 (some 125) (.bool false) rfl rfl (by kernel_rfl) (by kernel_rfl) (by kernel_rfl) (fun _ _ _ h => h) rfl (fun wq hS => by go_simp) HQ.out ?_
          try simp only [Act.put, List.setIfInBounds_toArray, List.set_cons_succ, List.set_cons_zero]
          refine takeH 18 (some 126) (.bool false) rfl rfl (by kernel_rfl) (by kernel_rfl) (by kernel_rfl) (fun _ _ _ h => h) rfl (fun wq hS => by go_simp) HQ.out ?_
          try simp only [Act.put, List.setIfInBounds_toArray, List.set_cons_succ, List.set_cons_zero]
          refine takeH 19 (some 127) (.bool false) rfl rfl (by kernel_rfl) (by kernel_rfl) (by kernel_rfl) (fun _ _ _ h => h) rfl (fun wq hS => by go_simp) HQ.out ?_
          try simp only [Act.put, List.setIfInBounds_toArray, List.set_cons_succ, List.set_cons_zero]
          refine takeH 20 (some 128) (.slice (some ⟨r, 0, none⟩) n n) rfl rfl (by kernel_rfl) (by kernel_rfl) (by kernel_rfl) (fun _ _ _ h => h) rfl (fun wq hS => by go_simp) HQ.out ?_
          try simp only [Act.put, List.setIfInBounds_toArray, List.set_cons_succ, List.set_cons_zero]
          refine takeH 21 (some 129) (.int .i64 i) rfl rfl (by kernel_rfl) (by kernel_rfl) (by kernel_rfl) (fun _ _ _ h => h) rfl (fun wq hS => by go_simp) HQ.out ?_
          try simp only [Act.put, List.setIfInBounds_toArray, List.set_cons_succ, List.set_cons_zero]
          refine takeH 22 (some 130) (.pointer (some ⟨r, i * 45, none⟩)) rfl rfl (by kernel_rfl) (by kernel_rfl) (by kernel_rfl) (fun _ _ _ h => h) rfl (fun wq hS => by go_simp) HQ.out ?_
          try simp only [Act.put, List.setIfInBounds_toArray, List.set_cons_succ, List.set_cons_zero]
          refine takeH 23 (some 131) (.pointer (some ⟨r, i * 45 + 1, none⟩)) rfl rfl (by kernel_rfl) (by kernel_rfl) (by kernel_rfl) (fun _ _ _ h => h) rfl (fun wq hS => by go_simp) HQ.out ?_
          try simp only [Act.put, List.setIfInBounds_toArray, List.set_cons_succ, List.set_cons_zero]
          refine takeH 24 (some 132) (.int .i64 i) rfl rfl (by kernel_rfl) (by kernel_rfl) (by kernel_rfl) (fun _ _ _ h => h) rfl (fun wq hS => by have hq := (HR.out.below hS HR.out.lt).cell (mk_id (l := a) hlt); go_simp) HQ.out ?_
          try simp only [Act.put, List.setIfInBounds_toArray, List.set_cons_succ, List.set_cons_zero]
          refine takeH 25 (some 133) (.int .i64 i) rfl rfl (by kernel_rfl) (by kernel_rfl) (by kernel_rfl) (fun _ _ _ h => h) rfl (fun wq hS => by go_simp) HQ.out ?_
          try simp only [Act.put, List.setIfInBounds_toArray, List.set_cons_succ, List.set_cons_zero]
          refine takeH 26 (some 134) (.bool false) rfl rfl (by kernel_rfl) (by kernel_rfl) (by kernel_rfl) (fun _ _ _ h => h) rfl (fun wq hS => by go_simp) HQ.out ?_
          try simp only [Act.put, List.setIfInBounds_toArray, List.set_cons_succ, List.set_cons_zero]
          refine takeH 27 (some 135) (.bool false) rfl rfl (by kernel_rfl) (by kernel_rfl) (by kernel_rfl) (fun _ _ _ h => h) rfl (fun wq hS => by go_simp) HQ.out ?_
          try simp only [Act.put, List.setIfInBounds_toArray, List.set_cons_succ, List.set_cons_zero]
          refine wpAnyH_done (by kernel_rfl) ?_ _
          have B9 := Lib.hid (further B2.out HQ.out)
          have R9 := Lib.hid (HR.out.below HQ.out HR.out.lt)
          have S9 := Lib.hid (HS.out.below HQ.out HS.out.lt)
          clear HQ
          go_wp2_with fail
          go_roundg (n - (i + 1))
          case measure => omega
          case rel => exact ⟨i + 1, by omega, by omega, by go_num, B9.out, R9.out, S9.out⟩
    · obtain rfl : n = i := by omega
      have hk1 : ¬ (n : Int) < (n : Int) := by omega
      go_wp2_with fail
      refine (HK.out _).mono ?_
      rintro e w9 ⟨rfl, hb⟩
      have HB9 := Lib.hid (further B2.out hb)
      clear hb
      go_wp2_with fail
      go_ret
      exact ⟨rfl, HB9.out.1⟩

theorem pages_any (g : Gm) (a b : List Int) (sa : ∀ x ∈ a, Small x) (sb : ∀ x ∈ b, Small x) (av bv : Value) (w : World) (hs : IntsAt w av a) (ks : IntsAt w bv b) (hev : ErrVar w) : Calls Tryd.prog 4 #[g.v, av, bv] w fun e w' => e = .returned (.bool true) ∧ Below w.heap.size w w' := by
  by_cases ha : a.length ≤ 100
  · by_cases hb : b.length ≤ 100
    · by_cases h1 : Heads g a
      · by_cases h2 : Heads g b
        · exact pages_yy g a b h1 h2 sa sb av bv w hs ks
        · exact pages_yn g a b ha hb h1 h2 sa sb av bv w hs ks hev
      · by_cases h2 : Heads g b
        · exact pages_ny g a b ha hb h1 h2 sa sb av bv w hs ks hev
        · exact pages_nn g a b ha hb h1 h2 sa sb av bv w hs ks hev
    · exact pages_big2 g a.length b.length ha (by omega) av bv hs.len ks.len w
  · exact pages_big1 g a.length b.length (by omega) av bv hs.len ks.len w
end Go.Proofs.YtlmehhjgagddoaaDoor
