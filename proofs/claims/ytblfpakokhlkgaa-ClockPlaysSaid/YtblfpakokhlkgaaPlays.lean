/- The statement ClockPlays, walked. -/
import Derived.Test.YtblfpakokhlkgaaWk
import Derived.Test.YtblfpakokhlkgaaSt
import Derived.Test.YtblfpakokhlkgaaRc
import Derived.Deep.Cut
import Derived.Deep.CutRange
import Derived.Deep.CutBlock
import Derived.RegionTactic
import Derived.BigQuiet
import Derived.Deep.QuietTactic
namespace Go.Proofs.Ytblfpakokhlkgaa
set_option linter.unusedSimpArgs false
set_option linter.unusedVariables false
open Go.RowKit

theorem cell_only {S : Nat → Prop} {w w' : World} {g o : Nat} {v : Value} (h : Only S w w') (hs : ¬ S g) (hc : w.cell? ⟨g, o, none⟩ = some v) : w'.cell? ⟨g, o, none⟩ = some v := by
  have hb := h.block g (block_lt_of_cell hc) hs
  rw [← hc]
  simp only [World.cell?, hb]
/-- Both clocks, of one state, apart; a variable x of one's own. -/
structure Bo (w wr : World) (b r cap : Nat) (b2 r2 cap2 : Nat) (tl2 : List Value) (c : Ck) : Prop where
  co : At encC wr b r cap [] c
  re : At encR wr b2 r2 cap2 tl2 c
  bel : Below w.heap.size w wr
  lb : w.heap.size ≤ b
  lr : w.heap.size ≤ r
  lb2 : w.heap.size ≤ b2
  lr2 : w.heap.size ≤ r2
  n1 : b ≠ b2
  n2 : b ≠ r2
  n3 : r ≠ b2
  n4 : r ≠ r2
structure Bx (w wr : World) (b r cap : Nat) (b2 r2 cap2 : Nat) (tl2 : List Value) (c : Ck) (xb : Nat) (X : List Value) : Prop where
  bo : Bo w wr b r cap b2 r2 cap2 tl2 c
  x : Blk wr xb X
  m1 : xb ≠ b
  m2 : xb ≠ r
  m3 : xb ≠ b2
  m4 : xb ≠ r2
/-- The program's clock is turned already, the other one not yet. -/
structure Half (w wr : World) (b r cap : Nat) (b2 r2 cap2 : Nat) (tl2 : List Value) (c d : Ck) (xb : Nat) (X : List Value) : Prop where
  co : At encC wr b r cap [] d
  re : At encR wr b2 r2 cap2 tl2 c
  bel : Below w.heap.size w wr
  lb : w.heap.size ≤ b
  lr : w.heap.size ≤ r
  lb2 : w.heap.size ≤ b2
  lr2 : w.heap.size ≤ r2
  n1 : b ≠ b2
  n2 : b ≠ r2
  n3 : r ≠ b2
  n4 : r ≠ r2
  x : Blk wr xb X
  m1 : xb ≠ b
  m2 : xb ≠ r
  m3 : xb ≠ b2
  m4 : xb ≠ r2
section
variable {w wr w' : World} {b r cap b2 r2 cap2 xb : Nat} {tl2 X : List Value} {c d : Ck}
theorem Bo.below (h : Bo w wr b r cap b2 r2 cap2 tl2 c) (hb : Below wr.heap.size wr w') : Bo w w' b r cap b2 r2 cap2 tl2 c :=
  ⟨h.co.below hb, h.re.below hb, stay h.bel hb, h.lb, h.lr, h.lb2, h.lr2, h.n1, h.n2, h.n3, h.n4⟩
theorem Bx.below (h : Bx w wr b r cap b2 r2 cap2 tl2 c xb X) (hb : Below wr.heap.size wr w') : Bx w w' b r cap b2 r2 cap2 tl2 c xb X :=
  ⟨h.bo.below hb, h.x.below hb h.x.lt, h.m1, h.m2, h.m3, h.m4⟩
theorem Bx.drew (h : Bx w wr b r cap b2 r2 cap2 tl2 c xb X) : Bx w wr.drew b r cap b2 r2 cap2 tl2 c xb X := h.below (Below.refl _ _).drew
theorem Bx.drewN (h : Bx w wr b r cap b2 r2 cap2 tl2 c xb X) (n : Nat) : Bx w (wr.drewN n) b r cap b2 r2 cap2 tl2 c xb X := h.below (drewN_below (Below.refl _ _) n)
theorem Bo.box (h : Bo w wr b r cap b2 r2 cap2 tl2 c) (cs : Array Value) (t : TypeId) : Bx w (wr.alloc (.cells cs t)) b r cap b2 r2 cap2 tl2 c wr.heap.size cs.toList := by
  refine ⟨h.below (alloc_below wr _), Blk.new wr cs t, ?_, ?_, ?_, ?_⟩
  · have := h.co.blk.lt; omega
  · have := h.co.row.lt; omega
  · have := h.re.blk.lt; omega
  · have := h.re.row.lt; omega
theorem Bx.half (h : Bx w wr b r cap b2 r2 cap2 tl2 c xb X) (ha : At encC w' b r cap [] d) (ho : Only (foot b r) wr w') : Half w w' b r cap b2 r2 cap2 tl2 c d xb X :=
  ⟨ha, h.bo.re.only ho (fun hf => by rcases hf with e | e; exact h.bo.n1 e.symm; exact h.bo.n3 e.symm) (fun hf => by rcases hf with e | e; exact h.bo.n2 e.symm; exact h.bo.n4 e.symm),
    h.bo.bel.trans (ho.below h.bo.bel.size fun k hk => by rcases hk with rfl | rfl; exact h.bo.lb; exact h.bo.lr), h.bo.lb, h.bo.lr, h.bo.lb2, h.bo.lr2, h.bo.n1, h.bo.n2, h.bo.n3, h.bo.n4,
    h.x.only ho (fun hf => by rcases hf with e | e; exact h.m1 e; exact h.m2 e), h.m1, h.m2, h.m3, h.m4⟩
theorem Half.whole (h : Half w wr b r cap b2 r2 cap2 tl2 c d xb X) (ha : At encR w' b2 r2 cap2 tl2 d) (ho : Only (foot b2 r2) wr w') : Bx w w' b r cap b2 r2 cap2 tl2 d xb X :=
  ⟨⟨h.co.only ho (fun hf => by rcases hf with e | e; exact h.n1 e; exact h.n2 e) (fun hf => by rcases hf with e | e; exact h.n3 e; exact h.n4 e), ha,
    h.bel.trans (ho.below h.bel.size fun k hk => by rcases hk with rfl | rfl; exact h.lb2; exact h.lr2), h.lb, h.lr, h.lb2, h.lr2, h.n1, h.n2, h.n3, h.n4⟩,
    h.x.only ho (fun hf => by rcases hf with e | e; exact h.m3 e; exact h.m4 e), h.m1, h.m2, h.m3, h.m4⟩
end
theorem only3 (w : World) (yb i j k : Nat) (a b c : Value) : Only (fun q => q = yb) w (((w.setCell ⟨yb, i, none⟩ a).setCell ⟨yb, j, none⟩ b).setCell ⟨yb, k, none⟩ c) := by
  have h0 := Only.refl (fun q => q = yb) w
  have h1 := h0.setCell (p := ⟨yb, i, none⟩) (.inl rfl) a
  have h2 := h1.setCell (p := ⟨yb, j, none⟩) (.inl rfl) b
  exact h2.setCell (p := ⟨yb, k, none⟩) (.inl rfl) c
theorem Bx.free {w wr w' : World} {b r cap b2 r2 cap2 xb yb : Nat} {tl2 X : List Value} {c : Ck} (h : Bx w wr b r cap b2 r2 cap2 tl2 c xb X) (ho : Only (fun q => q = yb) wr w') (hn : yb ≠ b ∧ yb ≠ r ∧ yb ≠ b2 ∧ yb ≠ r2 ∧ yb ≠ xb ∧ w.heap.size ≤ yb) : Bx w w' b r cap b2 r2 cap2 tl2 c xb X :=
  ⟨⟨h.bo.co.only ho (fun e => hn.1 e.symm) (fun e => hn.2.1 e.symm), h.bo.re.only ho (fun e => hn.2.2.1 e.symm) (fun e => hn.2.2.2.1 e.symm), h.bo.bel.trans (ho.below h.bo.bel.size fun k hk => by rw [hk]; exact hn.2.2.2.2.2), h.bo.lb, h.bo.lr, h.bo.lb2, h.bo.lr2, h.bo.n1, h.bo.n2, h.bo.n3, h.bo.n4⟩, h.x.only ho (fun e => hn.2.2.2.2.1 e.symm), h.m1, h.m2, h.m3, h.m4⟩
theorem findI_lt (o : Option Nat) : decide (0 ≤ findI o) = o.isSome := by
  cases o with
  | none => rfl
  | some k => simp [findI]
def findV : Option Nat → Int
  | some k => (k : Int)
  | none => 0
theorem findR_eq (o : Option Nat) : findR o = .tuple #[.int .i64 (findV o), .bool o.isSome] := by cases o <;> rfl
set_option maxHeartbeats 16000000 in
set_option maxRecDepth 100000 in
theorem plays_any (w : World) (n : Int) (hn : Small n) (l : List St) (v1 : Value) (hl : StepsAt w v1 l) : Calls Try.prog 3 #[.int .i64 n, v1] w fun e w' => e = .returned (.bool true) ∧ Below w.heap.size w w' := by
  have HS := Lib.hid hl
  obtain ⟨sa, sc, rfl, -⟩ := hl
  by_cases hl0 : 200 < l.length
  · have dl : decide ((200 : Int) < (l.length : Int)) = true := decide_eq_true (by omega)
    go_enter Try.func3, Try.ntmps3
    go_wp2_with fail
    refine (wakes_any _).mono ?_
    rintro e w2 ⟨rfl, hb⟩
    have HB2 := Lib.hid hb
    clear hb
    go_wp2_with fail
    go_ret
    exact ⟨rfl, HB2.out⟩
  have dl : decide ((200 : Int) < (l.length : Int)) = false := decide_eq_false (by omega)
  have HLL : Hid (l.length ≤ 200) := Lib.hid (by omega)
  clear hl0
  by_cases hnm : n < 1 ∨ 16 < n
  · have HN := Lib.hid (fun w9 => new_no w9 n hnm)
    have HR := Lib.hid (fun w9 => rnew_no w9 n hnm)
    clear hnm hn
    go_enter Try.func3, Try.ntmps3
    go_wp2_with fail
    refine (HN.out _).mono ?_
    rintro e w' ⟨rfl, rfl⟩
    go_wp2_with fail
    refine (HR.out _).mono ?_
    rintro e w' ⟨rfl, rfl⟩
    go_wp2_with fail
    go_loopg [9] 0 (fun g i wr => i = .int .i64 0 ∧ w = wr)
    case atStart => exact ⟨rfl, rfl⟩
    case round =>
      as_aux_lemma =>
        obtain ⟨rfl, rfl⟩ := hrel
        by_cases h0 : 0 < l.length
        · have d0 : decide ((0 : Int) < (l.length : Int)) = true := decide_eq_true (by omega)
          have d1 : decide (0 < l.length) = true := decide_eq_true h0
          go_wp2_with fail
          refine (wakes_any _).mono ?_
          rintro e w5 ⟨rfl, hb⟩
          have HB5 := Lib.hid hb
          clear hb
          go_wp2_with fail
          go_ret
          exact ⟨rfl, HB5.out⟩
        · have d0 : decide ((0 : Int) < (l.length : Int)) = false := decide_eq_false (by omega)
          have d1 : decide (0 < l.length) = false := decide_eq_false h0
          go_wp2_with fail
          refine (wakes_any _).mono ?_
          rintro e w5 ⟨rfl, hb⟩
          have HB5 := Lib.hid hb
          clear hb
          go_wp2_with fail
          go_ret
          exact ⟨rfl, HB5.out⟩
  obtain ⟨M, rfl⟩ : ∃ M : Nat, n = (M : Int) := ⟨n.toNat, by omega⟩
  have HM : Hid (1 ≤ M ∧ M ≤ 16) := Lib.hid (by omega)
  have HN := Lib.hid (fun w9 => new_yes w9 M (by omega) (by omega))
  have HR := Lib.hid (fun w9 => rnew_yes w9 M (by omega) (by omega))
  have HO0 : Hid ((newCk M).Ok 0) := Lib.hid (newCk_ok (by omega) (by omega))
  have HL0 : Hid ((newCk M).l.length = M) := Lib.hid (by simp [newCk])
  clear hnm hn
  go_enter Try.func3, Try.ntmps3
  go_wp2_with fail
  refine (HN.out _).mono ?_
  rintro e w1 ⟨b, r, rfl, ha, hb, h1, h2⟩
  have HA1 := Lib.hid ha
  have HB1 := Lib.hid hb
  have HL1 : Hid (w.heap.size ≤ b ∧ w.heap.size ≤ r) := Lib.hid ⟨h1, h2⟩
  clear ha hb h1 h2
  go_wp2_with fail
  refine (HR.out _).mono ?_
  rintro e w2 ⟨b2, r2, cap2, tl2, rfl, ha, hb, h1, h2⟩
  have HBO : Hid (Bo w w2 b r M b2 r2 cap2 tl2 (newCk M)) := Lib.hid (by
    have k1 := HA1.out.blk.lt
    have k2 := HA1.out.row.lt
    exact ⟨HA1.out.below hb, ha, stay HB1.out hb, HL1.out.1, HL1.out.2, Nat.le_trans HB1.out.size h1, Nat.le_trans HB1.out.size h2, by omega, by omega, by omega, by omega⟩)
  clear ha hb h1 h2 HA1 HB1 HL1 HN HR
  generalize newCk M = c0 at *
  go_wp2_with fail
  go_loopg [9] l.length (fun g i wr => ∃ (k : Nat) (c : Ck), l.length - k ≤ g ∧ k ≤ l.length ∧ i = .int .i64 k ∧ Bo w wr b r M b2 r2 cap2 tl2 c ∧ c.Ok k ∧ c.l.length = M)
  case atStart => exact ⟨0, c0, by omega, by omega, rfl, HBO.out, HO0.out, HL0.out⟩
  case round =>
    as_aux_lemma =>
      obtain ⟨k, c, hq, hk, rfl, hbo, hok, hlen⟩ := hrel
      have HK := Lib.hid hbo
      have HO := Lib.hid hok
      have HLN := Lib.hid hlen
      clear hok hlen HBO HO0 HL0
      by_cases hlt : k < l.length
      · have hk1 : (k : Int) < (l.length : Int) := by omega
        have dk1 : decide ((k : Int) < (l.length : Int)) = true := decide_eq_true hk1
        have dk2 : decide (k < l.length) = true := decide_eq_true hlt
        have gk : IntKind.i64.wrap ((k : Int) + 1) = (k : Int) + 1 := by have := HLL.out; exact wrap63 (by omega) (by omega)
        obtain ⟨x, hx⟩ : ∃ x, l[k]? = some x := ⟨_, List.getElem?_eq_getElem hlt⟩
        obtain ⟨a', cap', e, hc⟩ := HS.out.below hbo.bel
        cases e
        obtain ⟨hw, b', o, rfl, hst⟩ := hc k x hx
        obtain ⟨kd, fr, ky⟩ := x
        have s0 := hst.kind
        have s1 := hst.frame
        have s2 := hst.key
        simp only at s0 s1 s2
        have HWK : Hid (Small ky) := Lib.hid hw.key
        have hB : k ≤ 1000000 := by have := HLL.out; omega
        clear hbo hst hc hw hx
        go_upto_region 11 with fail
        have HX0 : Hid (Bx w (wr.alloc (.cells #[.int .i64 kd, .int .i64 fr, .int .i64 ky] 32)) b r M b2 r2 cap2 tl2 c wr.heap.size [.int .i64 kd, .int .i64 fr, .int .i64 ky]) := Lib.hid (HK.out.box _ _)
        clear s0 s1 s2
        generalize wr.alloc (.cells #[.int .i64 kd, .int .i64 fr, .int .i64 ky] 32) = wx at *
        generalize wr.heap.size = xb at *
        have P0 := HX0.out.x.cell (i := 0) rfl
        go_upto_block 2 with fail
        clear P0
        go_cut [11, 12, 13, 14, 15] from 44 to 255 (fun s11 s12 s13 s14 s15 wz => ∃ (c5 : Ck) (a bI : Int) (ok sv : Bool), s11 = .int .i64 a ∧ s12 = .int .i64 bI ∧ s13 = .bool ok ∧ s14 = .bool sv ∧ s15 = .bool sv ∧ Bx w wz b r M b2 r2 cap2 tl2 c5 xb [.int .i64 kd, .int .i64 fr, .int .i64 ky] ∧ c5.Ok (k + 1) ∧ c5.l.length = M ∧ (0 ≤ kd → kd ≤ 1 → ok = decide (0 ≤ bI) ∧ (ok = true → a = bI) ∧ (ok = false → a = 0)))
        case first =>
          by_cases h0 : kd = 0
          · obtain rfl := h0
            as_aux_lemma =>
              have HVC := Lib.hid (victim_any wx b r M [] c HX0.out.bo.co HO.out)
              have HVR := Lib.hid (fun (w9 : World) (h9 : At encR w9 b2 r2 cap2 tl2 c) => rvictim_any w9 b2 r2 cap2 tl2 c h9 HO.out)
              have HOV := Lib.hid HO.out.victim
              have HLV : Hid (c.victim.2.l.length = M) := Lib.hid (by rw [Ck.victim_len]; exact HLN.out)
              obtain ⟨vo, hvo⟩ : ∃ vo, c.victim.1 = vo := ⟨_, rfl⟩
              rw [hvo] at HVC HVR
              generalize c.victim.2 = d at *
              clear hvo
              cases vo with
              | none =>
                simp only [findR, findI] at HVC HVR
                have p0 := HX0.out.x.cell (i := 0) rfl
                have p1 := HX0.out.x.cell (i := 1) rfl
                have p2 := HX0.out.x.cell (i := 2) rfl
                go_wp2_with fail
                refine HVC.out.mono ?_
                rintro e w6 ⟨rfl, ha, hon⟩
                have HH := Lib.hid (HX0.out.half ha hon)
                clear ha hon
                go_wp2_with fail
                refine (HVR.out _ HH.out.re).mono ?_
                rintro e w7 ⟨rfl, ha, hon⟩
                have HW := Lib.hid (HH.out.whole ha hon)
                clear ha hon
                go_wp2_with fail
                go_meet
                exact ⟨d, 0, -1, false, false, rfl, rfl, rfl, rfl, rfl, HW.out, HOV.out.mono (by omega), HLV.out, fun _ _ => ⟨rfl, (fun h => by cases h), fun _ => rfl⟩⟩
              | some u =>
                simp only [findR, findI] at HVC HVR
                have u0 : decide (0 ≤ (u : Int)) = true := decide_eq_true (by omega)
                have p0 := HX0.out.x.cell (i := 0) rfl
                have p1 := HX0.out.x.cell (i := 1) rfl
                have p2 := HX0.out.x.cell (i := 2) rfl
                go_wp2_with fail
                refine HVC.out.mono ?_
                rintro e w6 ⟨rfl, ha, hon⟩
                have HH0 := Lib.hid (HX0.out.half ha hon)
                clear ha hon
                go_wp2_with fail
                refine (HVR.out _ HH0.out.re).mono ?_
                rintro e w7 ⟨rfl, ha, hon⟩
                have HX7 := Lib.hid (HH0.out.whole ha hon)
                clear ha hon p0 p1 p2
                go_upto_region 18 with fail
                refine startH (fun wq => Blk wq xb [.int .i64 0, .int .i64 fr, .int .i64 ky]) (by kernel_rfl) ?_
                have HD0 := Lib.hid HX7.out.drew
                generalize w7.drew = wS at *
                refine takeH 0 (some 74) (.pointer (some ⟨b, 0, none⟩)) rfl rfl (by kernel_rfl) (by kernel_rfl) (by kernel_rfl) (fun _ _ _ h => h) rfl (fun wq hS => by go_simp) HD0.out.x ?_
                try simp only [Act.put, List.setIfInBounds_toArray, List.set_cons_succ, List.set_cons_zero]
                refine takeH 1 (some 75) (.int .i64 (u : Int)) rfl rfl (by kernel_rfl) (by kernel_rfl) (by kernel_rfl) (fun _ _ _ h => h) rfl (fun wq hS => by go_simp) HD0.out.x ?_
                try simp only [Act.put, List.setIfInBounds_toArray, List.set_cons_succ, List.set_cons_zero]
                refine takeH 2 (some 76) (.pointer (some ⟨xb, 2, none⟩)) rfl rfl (by kernel_rfl) (by kernel_rfl) (by kernel_rfl) (fun _ _ _ h => h) rfl (fun wq hS => by go_simp) HD0.out.x ?_
                try simp only [Act.put, List.setIfInBounds_toArray, List.set_cons_succ, List.set_cons_zero]
                refine takeH 3 (some 77) (.int .i64 ky) rfl rfl (by kernel_rfl) (by kernel_rfl) (by kernel_rfl) (fun _ _ _ h => h) rfl (fun wq hS => by have z := Blk.cell hS (i := 2) rfl; go_simp) HD0.out.x ?_
                try simp only [Act.put, List.setIfInBounds_toArray, List.set_cons_succ, List.set_cons_zero]
                refine takeH 5 (some 79) (.pointer (some ⟨b2, 0, none⟩)) rfl rfl (by kernel_rfl) (by kernel_rfl) (by kernel_rfl) (fun _ _ _ h => h) rfl (fun wq hS => by go_simp) HD0.out.x ?_
                try simp only [Act.put, List.setIfInBounds_toArray, List.set_cons_succ, List.set_cons_zero]
                refine takeH 6 (some 80) (.int .i64 (u : Int)) rfl rfl (by kernel_rfl) (by kernel_rfl) (by kernel_rfl) (fun _ _ _ h => h) rfl (fun wq hS => by go_simp) HD0.out.x ?_
                try simp only [Act.put, List.setIfInBounds_toArray, List.set_cons_succ, List.set_cons_zero]
                refine takeH 7 (some 81) (.pointer (some ⟨xb, 2, none⟩)) rfl rfl (by kernel_rfl) (by kernel_rfl) (by kernel_rfl) (fun _ _ _ h => h) rfl (fun wq hS => by go_simp) HD0.out.x ?_
                try simp only [Act.put, List.setIfInBounds_toArray, List.set_cons_succ, List.set_cons_zero]
                refine takeH 8 (some 82) (.int .i64 ky) rfl rfl (by kernel_rfl) (by kernel_rfl) (by kernel_rfl) (fun _ _ _ h => h) rfl (fun wq hS => by have z := Blk.cell hS (i := 2) rfl; go_simp) HD0.out.x ?_
                try simp only [Act.put, List.setIfInBounds_toArray, List.set_cons_succ, List.set_cons_zero]
                refine oneH 4 (by kernel_rfl) rfl rfl fun K hK => ?_
                go_simp
                refine (put_any _ b r M [] d HD0.out.bo.co HOV.out u ky).mono ?_
                rintro e w6 ⟨rfl, ha, hon⟩
                have HH := Lib.hid (HD0.out.half ha hon)
                refine hK _ _ HH.out.x ?_
                clear hK K ha hon
                try simp only [Act.put, List.setIfInBounds_toArray, List.set_cons_succ, List.set_cons_zero]
                refine oneH 9 (by kernel_rfl) rfl rfl fun K hK => ?_
                go_simp
                refine (rput_any _ b2 r2 cap2 tl2 d HH.out.re HOV.out u ky).mono ?_
                rintro e w7 ⟨rfl, ha, hon⟩
                have HW := Lib.hid (HH.out.whole ha hon)
                refine hK _ _ HW.out.x ?_
                clear hK K ha hon
                try simp only [Act.put, List.setIfInBounds_toArray, List.set_cons_succ, List.set_cons_zero]
                refine takeH 10 (some 14) (.bool (d.mayPut u ky)) rfl rfl (by kernel_rfl) (by kernel_rfl) (by kernel_rfl) (fun _ _ _ h => h) rfl (fun wq hS => by go_simp) HW.out.x ?_
                try simp only [Act.put, List.setIfInBounds_toArray, List.set_cons_succ, List.set_cons_zero]
                refine takeH 11 (some 15) (.bool (d.mayPut u ky)) rfl rfl (by kernel_rfl) (by kernel_rfl) (by kernel_rfl) (fun _ _ _ h => h) rfl (fun wq hS => by go_simp) HW.out.x ?_
                try simp only [Act.put, List.setIfInBounds_toArray, List.set_cons_succ, List.set_cons_zero]
                refine wpAnyH_done (by kernel_rfl) ?_ _
                go_wp2_with fail
                go_meet
                exact ⟨_, u, u, true, d.mayPut u ky, rfl, rfl, rfl, rfl, rfl, HW.out, (HOV.out.put u ky HWK.out.2).mono (by omega), by rw [Ck.put_len]; exact HLV.out, fun _ _ => ⟨(decide_eq_true (by omega)).symm, fun _ => rfl, (fun h => by cases h)⟩⟩
          have d0 : (kd == 0) = false := by simpa using h0
          by_cases h1 : kd = 1
          · obtain rfl := h1
            as_aux_lemma =>
              have HFD := Lib.hid (find_any wx b r M [] c HX0.out.bo.co HO.out ky)
              have HRF := Lib.hid (fun (w9 : World) (h9 : At encR w9 b2 r2 cap2 tl2 c) => rfind_any w9 b2 r2 cap2 tl2 c h9 HO.out ky)
              cases hf : c.find ky with
              | none =>
                rw [hf] at HFD HRF
                simp only [findR, findI] at HFD HRF
                have HTN : Hid (c.touch (-1) = c) := Lib.hid (touch_no rfl)
                clear hf
                have p0 := HX0.out.x.cell (i := 0) rfl
                have p1 := HX0.out.x.cell (i := 1) rfl
                have p2 := HX0.out.x.cell (i := 2) rfl
                go_wp2_with fail
                refine HFD.out.mono ?_
                rintro e w6 ⟨rfl, hb⟩
                have HX6 := Lib.hid (HX0.out.below hb)
                have p2' := HX6.out.x.cell (i := 2) rfl
                clear hb
                go_wp2_with fail
                refine (HRF.out _ HX6.out.bo.re).mono ?_
                rintro e w' ⟨rfl, rfl⟩
                go_wp2_with fail
                refine (rtouch_any _ b2 r2 cap2 tl2 c HX6.out.bo.re HO.out (-1)).mono ?_
                rintro e w7 ⟨rfl, ha, hon⟩
                rw [HTN.out] at ha
                have HW := Lib.hid ((HX6.out.half HX6.out.bo.co (Only.refl _ _)).whole ha hon)
                clear ha hon
                go_wp2_with fail
                go_meet
                exact ⟨c, 0, -1, false, false, rfl, rfl, rfl, rfl, rfl, HW.out, HO.out.mono (by omega), HLN.out, fun _ _ => ⟨rfl, (fun h => by cases h), fun _ => rfl⟩⟩
              | some u =>
                rw [hf] at HFD HRF
                simp only [findR, findI] at HFD HRF
                clear hf
                have p0 := HX0.out.x.cell (i := 0) rfl
                have p1 := HX0.out.x.cell (i := 1) rfl
                have p2 := HX0.out.x.cell (i := 2) rfl
                go_wp2_with fail
                refine HFD.out.mono ?_
                rintro e w6 ⟨rfl, hb⟩
                have HX6 := Lib.hid (HX0.out.below hb)
                have p2' := HX6.out.x.cell (i := 2) rfl
                clear hb
                go_wp2_with fail
                refine (HRF.out _ HX6.out.bo.re).mono ?_
                rintro e w' ⟨rfl, rfl⟩
                go_wp2_with fail
                refine (touch_any _ b r M [] c HX6.out.bo.co HO.out u).mono ?_
                rintro e w7 ⟨rfl, ha, hon⟩
                have HH := Lib.hid (HX6.out.half ha hon)
                clear ha hon
                go_wp2_with fail
                refine (rtouch_any _ b2 r2 cap2 tl2 c HH.out.re HO.out u).mono ?_
                rintro e w8 ⟨rfl, ha, hon⟩
                have HW := Lib.hid (HH.out.whole ha hon)
                clear ha hon
                go_wp2_with fail
                go_meet
                exact ⟨_, u, u, true, false, rfl, rfl, rfl, rfl, rfl, HW.out, (HO.out.touch u).mono (by omega), by rw [Ck.touch_len]; exact HLN.out, fun _ _ => ⟨(decide_eq_true (by omega)).symm, fun _ => rfl, (fun h => by cases h)⟩⟩
          have d1 : (kd == 1) = false := by simpa using h1
          by_cases h2 : kd = 2
          · obtain rfl := h2
            as_aux_lemma =>
              go_upto_region 26 with fail
              refine startH (fun wq => Blk wq xb [.int .i64 2, .int .i64 fr, .int .i64 ky]) (by kernel_rfl) ?_
              have HD0 := Lib.hid HX0.out.drew
              generalize wx.drew = wS at *
              refine takeH 0 (some 106) (.pointer (some ⟨b, 0, none⟩)) rfl rfl (by kernel_rfl) (by kernel_rfl) (by kernel_rfl) (fun _ _ _ h => h) rfl (fun wq hS => by go_simp) HD0.out.x ?_
              try simp only [Act.put, List.setIfInBounds_toArray, List.set_cons_succ, List.set_cons_zero]
              refine takeH 1 (some 107) (.pointer (some ⟨xb, 1, none⟩)) rfl rfl (by kernel_rfl) (by kernel_rfl) (by kernel_rfl) (fun _ _ _ h => h) rfl (fun wq hS => by go_simp) HD0.out.x ?_
              try simp only [Act.put, List.setIfInBounds_toArray, List.set_cons_succ, List.set_cons_zero]
              refine takeH 2 (some 108) (.int .i64 fr) rfl rfl (by kernel_rfl) (by kernel_rfl) (by kernel_rfl) (fun _ _ _ h => h) rfl (fun wq hS => by have z := Blk.cell hS (i := 1) rfl; go_simp) HD0.out.x ?_
              try simp only [Act.put, List.setIfInBounds_toArray, List.set_cons_succ, List.set_cons_zero]
              refine takeH 4 (some 110) (.pointer (some ⟨b2, 0, none⟩)) rfl rfl (by kernel_rfl) (by kernel_rfl) (by kernel_rfl) (fun _ _ _ h => h) rfl (fun wq hS => by go_simp) HD0.out.x ?_
              try simp only [Act.put, List.setIfInBounds_toArray, List.set_cons_succ, List.set_cons_zero]
              refine takeH 5 (some 111) (.pointer (some ⟨xb, 1, none⟩)) rfl rfl (by kernel_rfl) (by kernel_rfl) (by kernel_rfl) (fun _ _ _ h => h) rfl (fun wq hS => by go_simp) HD0.out.x ?_
              try simp only [Act.put, List.setIfInBounds_toArray, List.set_cons_succ, List.set_cons_zero]
              refine takeH 6 (some 112) (.int .i64 fr) rfl rfl (by kernel_rfl) (by kernel_rfl) (by kernel_rfl) (fun _ _ _ h => h) rfl (fun wq hS => by have z := Blk.cell hS (i := 1) rfl; go_simp) HD0.out.x ?_
              try simp only [Act.put, List.setIfInBounds_toArray, List.set_cons_succ, List.set_cons_zero]
              refine oneH 3 (by kernel_rfl) rfl rfl fun K hK => ?_
              go_simp
              refine (pin_any _ b r M [] c HD0.out.bo.co HO.out hB fr).mono ?_
              rintro e w6 ⟨rfl, ha, hon⟩
              have HH := Lib.hid (HD0.out.half ha hon)
              refine hK _ _ HH.out.x ?_
              clear hK K ha hon
              try simp only [Act.put, List.setIfInBounds_toArray, List.set_cons_succ, List.set_cons_zero]
              refine oneH 7 (by kernel_rfl) rfl rfl fun K hK => ?_
              go_simp
              refine (rpin_any _ b2 r2 cap2 tl2 c HH.out.re HO.out hB fr).mono ?_
              rintro e w7 ⟨rfl, ha, hon⟩
              have HW := Lib.hid (HH.out.whole ha hon)
              refine hK _ _ HW.out.x ?_
              clear hK K ha hon
              try simp only [Act.put, List.setIfInBounds_toArray, List.set_cons_succ, List.set_cons_zero]
              refine takeH 8 (some 14) (.bool (c.keyed fr)) rfl rfl (by kernel_rfl) (by kernel_rfl) (by kernel_rfl) (fun _ _ _ h => h) rfl (fun wq hS => by go_simp) HW.out.x ?_
              try simp only [Act.put, List.setIfInBounds_toArray, List.set_cons_succ, List.set_cons_zero]
              refine takeH 9 (some 15) (.bool (c.keyed fr)) rfl rfl (by kernel_rfl) (by kernel_rfl) (by kernel_rfl) (fun _ _ _ h => h) rfl (fun wq hS => by go_simp) HW.out.x ?_
              try simp only [Act.put, List.setIfInBounds_toArray, List.set_cons_succ, List.set_cons_zero]
              refine wpAnyH_done (by kernel_rfl) ?_ _
              go_wp2_with fail
              go_meet
              exact ⟨_, 0, 0, false, c.keyed fr, rfl, rfl, rfl, rfl, rfl, HW.out, HO.out.pin fr, by rw [Ck.pin_len]; exact HLN.out, fun h0 h1 => by omega⟩
          have d2 : (kd == 2) = false := by simpa using h2
          by_cases h3 : kd = 3
          · obtain rfl := h3
            as_aux_lemma =>
              go_upto_region 28 with fail
              refine startH (fun wq => Blk wq xb [.int .i64 3, .int .i64 fr, .int .i64 ky]) (by kernel_rfl) ?_
              have HD0 := Lib.hid HX0.out.drew
              generalize wx.drew = wS at *
              refine takeH 0 (some 116) (.pointer (some ⟨b, 0, none⟩)) rfl rfl (by kernel_rfl) (by kernel_rfl) (by kernel_rfl) (fun _ _ _ h => h) rfl (fun wq hS => by go_simp) HD0.out.x ?_
              try simp only [Act.put, List.setIfInBounds_toArray, List.set_cons_succ, List.set_cons_zero]
              refine takeH 1 (some 117) (.pointer (some ⟨xb, 1, none⟩)) rfl rfl (by kernel_rfl) (by kernel_rfl) (by kernel_rfl) (fun _ _ _ h => h) rfl (fun wq hS => by go_simp) HD0.out.x ?_
              try simp only [Act.put, List.setIfInBounds_toArray, List.set_cons_succ, List.set_cons_zero]
              refine takeH 2 (some 118) (.int .i64 fr) rfl rfl (by kernel_rfl) (by kernel_rfl) (by kernel_rfl) (fun _ _ _ h => h) rfl (fun wq hS => by have z := Blk.cell hS (i := 1) rfl; go_simp) HD0.out.x ?_
              try simp only [Act.put, List.setIfInBounds_toArray, List.set_cons_succ, List.set_cons_zero]
              refine takeH 4 (some 120) (.pointer (some ⟨b2, 0, none⟩)) rfl rfl (by kernel_rfl) (by kernel_rfl) (by kernel_rfl) (fun _ _ _ h => h) rfl (fun wq hS => by go_simp) HD0.out.x ?_
              try simp only [Act.put, List.setIfInBounds_toArray, List.set_cons_succ, List.set_cons_zero]
              refine takeH 5 (some 121) (.pointer (some ⟨xb, 1, none⟩)) rfl rfl (by kernel_rfl) (by kernel_rfl) (by kernel_rfl) (fun _ _ _ h => h) rfl (fun wq hS => by go_simp) HD0.out.x ?_
              try simp only [Act.put, List.setIfInBounds_toArray, List.set_cons_succ, List.set_cons_zero]
              refine takeH 6 (some 122) (.int .i64 fr) rfl rfl (by kernel_rfl) (by kernel_rfl) (by kernel_rfl) (fun _ _ _ h => h) rfl (fun wq hS => by have z := Blk.cell hS (i := 1) rfl; go_simp) HD0.out.x ?_
              try simp only [Act.put, List.setIfInBounds_toArray, List.set_cons_succ, List.set_cons_zero]
              refine oneH 3 (by kernel_rfl) rfl rfl fun K hK => ?_
              go_simp
              refine (unpin_any _ b r M [] c HD0.out.bo.co HO.out hB fr).mono ?_
              rintro e w6 ⟨rfl, ha, hon⟩
              have HH := Lib.hid (HD0.out.half ha hon)
              refine hK _ _ HH.out.x ?_
              clear hK K ha hon
              try simp only [Act.put, List.setIfInBounds_toArray, List.set_cons_succ, List.set_cons_zero]
              refine oneH 7 (by kernel_rfl) rfl rfl fun K hK => ?_
              go_simp
              refine (runpin_any _ b2 r2 cap2 tl2 c HH.out.re HO.out hB fr).mono ?_
              rintro e w7 ⟨rfl, ha, hon⟩
              have HW := Lib.hid (HH.out.whole ha hon)
              refine hK _ _ HW.out.x ?_
              clear hK K ha hon
              try simp only [Act.put, List.setIfInBounds_toArray, List.set_cons_succ, List.set_cons_zero]
              refine takeH 8 (some 14) (.bool (c.pinnedAt fr)) rfl rfl (by kernel_rfl) (by kernel_rfl) (by kernel_rfl) (fun _ _ _ h => h) rfl (fun wq hS => by go_simp) HW.out.x ?_
              try simp only [Act.put, List.setIfInBounds_toArray, List.set_cons_succ, List.set_cons_zero]
              refine takeH 9 (some 15) (.bool (c.pinnedAt fr)) rfl rfl (by kernel_rfl) (by kernel_rfl) (by kernel_rfl) (fun _ _ _ h => h) rfl (fun wq hS => by go_simp) HW.out.x ?_
              try simp only [Act.put, List.setIfInBounds_toArray, List.set_cons_succ, List.set_cons_zero]
              refine wpAnyH_done (by kernel_rfl) ?_ _
              go_wp2_with fail
              go_meet
              exact ⟨_, 0, 0, false, c.pinnedAt fr, rfl, rfl, rfl, rfl, rfl, HW.out, (HO.out.unpin fr).mono (by omega), by rw [Ck.unpin_len]; exact HLN.out, fun h0 h1 => by omega⟩
          have d3 : (kd == 3) = false := by simpa using h3
          by_cases h4 : kd = 4
          · obtain rfl := h4
            as_aux_lemma =>
              go_upto_region 30 with fail
              refine startH (fun wq => Blk wq xb [.int .i64 4, .int .i64 fr, .int .i64 ky]) (by kernel_rfl) ?_
              have HD0 := Lib.hid HX0.out.drew
              generalize wx.drew = wS at *
              refine takeH 0 (some 126) (.pointer (some ⟨b, 0, none⟩)) rfl rfl (by kernel_rfl) (by kernel_rfl) (by kernel_rfl) (fun _ _ _ h => h) rfl (fun wq hS => by go_simp) HD0.out.x ?_
              try simp only [Act.put, List.setIfInBounds_toArray, List.set_cons_succ, List.set_cons_zero]
              refine takeH 1 (some 127) (.pointer (some ⟨xb, 1, none⟩)) rfl rfl (by kernel_rfl) (by kernel_rfl) (by kernel_rfl) (fun _ _ _ h => h) rfl (fun wq hS => by go_simp) HD0.out.x ?_
              try simp only [Act.put, List.setIfInBounds_toArray, List.set_cons_succ, List.set_cons_zero]
              refine takeH 2 (some 128) (.int .i64 fr) rfl rfl (by kernel_rfl) (by kernel_rfl) (by kernel_rfl) (fun _ _ _ h => h) rfl (fun wq hS => by have z := Blk.cell hS (i := 1) rfl; go_simp) HD0.out.x ?_
              try simp only [Act.put, List.setIfInBounds_toArray, List.set_cons_succ, List.set_cons_zero]
              refine takeH 4 (some 130) (.pointer (some ⟨b2, 0, none⟩)) rfl rfl (by kernel_rfl) (by kernel_rfl) (by kernel_rfl) (fun _ _ _ h => h) rfl (fun wq hS => by go_simp) HD0.out.x ?_
              try simp only [Act.put, List.setIfInBounds_toArray, List.set_cons_succ, List.set_cons_zero]
              refine takeH 5 (some 131) (.pointer (some ⟨xb, 1, none⟩)) rfl rfl (by kernel_rfl) (by kernel_rfl) (by kernel_rfl) (fun _ _ _ h => h) rfl (fun wq hS => by go_simp) HD0.out.x ?_
              try simp only [Act.put, List.setIfInBounds_toArray, List.set_cons_succ, List.set_cons_zero]
              refine takeH 6 (some 132) (.int .i64 fr) rfl rfl (by kernel_rfl) (by kernel_rfl) (by kernel_rfl) (fun _ _ _ h => h) rfl (fun wq hS => by have z := Blk.cell hS (i := 1) rfl; go_simp) HD0.out.x ?_
              try simp only [Act.put, List.setIfInBounds_toArray, List.set_cons_succ, List.set_cons_zero]
              refine oneH 3 (by kernel_rfl) rfl rfl fun K hK => ?_
              go_simp
              refine (drop_any _ b r M [] c HD0.out.bo.co HO.out fr).mono ?_
              rintro e w6 ⟨rfl, ha, hon⟩
              have HH := Lib.hid (HD0.out.half ha hon)
              refine hK _ _ HH.out.x ?_
              clear hK K ha hon
              try simp only [Act.put, List.setIfInBounds_toArray, List.set_cons_succ, List.set_cons_zero]
              refine oneH 7 (by kernel_rfl) rfl rfl fun K hK => ?_
              go_simp
              refine (rdrop_any _ b2 r2 cap2 tl2 c HH.out.re HO.out fr).mono ?_
              rintro e w7 ⟨rfl, ha, hon⟩
              have HW := Lib.hid (HH.out.whole ha hon)
              refine hK _ _ HW.out.x ?_
              clear hK K ha hon
              try simp only [Act.put, List.setIfInBounds_toArray, List.set_cons_succ, List.set_cons_zero]
              refine takeH 8 (some 14) (.bool (c.may fr)) rfl rfl (by kernel_rfl) (by kernel_rfl) (by kernel_rfl) (fun _ _ _ h => h) rfl (fun wq hS => by go_simp) HW.out.x ?_
              try simp only [Act.put, List.setIfInBounds_toArray, List.set_cons_succ, List.set_cons_zero]
              refine takeH 9 (some 15) (.bool (c.may fr)) rfl rfl (by kernel_rfl) (by kernel_rfl) (by kernel_rfl) (fun _ _ _ h => h) rfl (fun wq hS => by go_simp) HW.out.x ?_
              try simp only [Act.put, List.setIfInBounds_toArray, List.set_cons_succ, List.set_cons_zero]
              refine wpAnyH_done (by kernel_rfl) ?_ _
              go_wp2_with fail
              go_meet
              exact ⟨_, 0, 0, false, c.may fr, rfl, rfl, rfl, rfl, rfl, HW.out, (HO.out.drop fr).mono (by omega), by rw [Ck.drop_len]; exact HLN.out, fun h0 h1 => by omega⟩
          have d4 : (kd == 4) = false := by simpa using h4
          by_cases h5 : kd = 5
          · obtain rfl := h5
            as_aux_lemma =>
              go_upto_region 32 with fail
              refine startH (fun wq => Blk wq xb [.int .i64 5, .int .i64 fr, .int .i64 ky]) (by kernel_rfl) ?_
              have HD0 := Lib.hid HX0.out.drew
              generalize wx.drew = wS at *
              refine takeH 0 (some 136) (.pointer (some ⟨b, 0, none⟩)) rfl rfl (by kernel_rfl) (by kernel_rfl) (by kernel_rfl) (fun _ _ _ h => h) rfl (fun wq hS => by go_simp) HD0.out.x ?_
              try simp only [Act.put, List.setIfInBounds_toArray, List.set_cons_succ, List.set_cons_zero]
              refine takeH 1 (some 137) (.pointer (some ⟨xb, 1, none⟩)) rfl rfl (by kernel_rfl) (by kernel_rfl) (by kernel_rfl) (fun _ _ _ h => h) rfl (fun wq hS => by go_simp) HD0.out.x ?_
              try simp only [Act.put, List.setIfInBounds_toArray, List.set_cons_succ, List.set_cons_zero]
              refine takeH 2 (some 138) (.int .i64 fr) rfl rfl (by kernel_rfl) (by kernel_rfl) (by kernel_rfl) (fun _ _ _ h => h) rfl (fun wq hS => by have z := Blk.cell hS (i := 1) rfl; go_simp) HD0.out.x ?_
              try simp only [Act.put, List.setIfInBounds_toArray, List.set_cons_succ, List.set_cons_zero]
              refine takeH 3 (some 139) (.pointer (some ⟨xb, 2, none⟩)) rfl rfl (by kernel_rfl) (by kernel_rfl) (by kernel_rfl) (fun _ _ _ h => h) rfl (fun wq hS => by go_simp) HD0.out.x ?_
              try simp only [Act.put, List.setIfInBounds_toArray, List.set_cons_succ, List.set_cons_zero]
              refine takeH 4 (some 140) (.int .i64 ky) rfl rfl (by kernel_rfl) (by kernel_rfl) (by kernel_rfl) (fun _ _ _ h => h) rfl (fun wq hS => by have z := Blk.cell hS (i := 2) rfl; go_simp) HD0.out.x ?_
              try simp only [Act.put, List.setIfInBounds_toArray, List.set_cons_succ, List.set_cons_zero]
              refine takeH 6 (some 142) (.pointer (some ⟨b2, 0, none⟩)) rfl rfl (by kernel_rfl) (by kernel_rfl) (by kernel_rfl) (fun _ _ _ h => h) rfl (fun wq hS => by go_simp) HD0.out.x ?_
              try simp only [Act.put, List.setIfInBounds_toArray, List.set_cons_succ, List.set_cons_zero]
              refine takeH 7 (some 143) (.pointer (some ⟨xb, 1, none⟩)) rfl rfl (by kernel_rfl) (by kernel_rfl) (by kernel_rfl) (fun _ _ _ h => h) rfl (fun wq hS => by go_simp) HD0.out.x ?_
              try simp only [Act.put, List.setIfInBounds_toArray, List.set_cons_succ, List.set_cons_zero]
              refine takeH 8 (some 144) (.int .i64 fr) rfl rfl (by kernel_rfl) (by kernel_rfl) (by kernel_rfl) (fun _ _ _ h => h) rfl (fun wq hS => by have z := Blk.cell hS (i := 1) rfl; go_simp) HD0.out.x ?_
              try simp only [Act.put, List.setIfInBounds_toArray, List.set_cons_succ, List.set_cons_zero]
              refine takeH 9 (some 145) (.pointer (some ⟨xb, 2, none⟩)) rfl rfl (by kernel_rfl) (by kernel_rfl) (by kernel_rfl) (fun _ _ _ h => h) rfl (fun wq hS => by go_simp) HD0.out.x ?_
              try simp only [Act.put, List.setIfInBounds_toArray, List.set_cons_succ, List.set_cons_zero]
              refine takeH 10 (some 146) (.int .i64 ky) rfl rfl (by kernel_rfl) (by kernel_rfl) (by kernel_rfl) (fun _ _ _ h => h) rfl (fun wq hS => by have z := Blk.cell hS (i := 2) rfl; go_simp) HD0.out.x ?_
              try simp only [Act.put, List.setIfInBounds_toArray, List.set_cons_succ, List.set_cons_zero]
              refine oneH 5 (by kernel_rfl) rfl rfl fun K hK => ?_
              go_simp
              refine (put_any _ b r M [] c HD0.out.bo.co HO.out fr ky).mono ?_
              rintro e w6 ⟨rfl, ha, hon⟩
              have HH := Lib.hid (HD0.out.half ha hon)
              refine hK _ _ HH.out.x ?_
              clear hK K ha hon
              try simp only [Act.put, List.setIfInBounds_toArray, List.set_cons_succ, List.set_cons_zero]
              refine oneH 11 (by kernel_rfl) rfl rfl fun K hK => ?_
              go_simp
              refine (rput_any _ b2 r2 cap2 tl2 c HH.out.re HO.out fr ky).mono ?_
              rintro e w7 ⟨rfl, ha, hon⟩
              have HW := Lib.hid (HH.out.whole ha hon)
              refine hK _ _ HW.out.x ?_
              clear hK K ha hon
              try simp only [Act.put, List.setIfInBounds_toArray, List.set_cons_succ, List.set_cons_zero]
              refine takeH 12 (some 14) (.bool (c.mayPut fr ky)) rfl rfl (by kernel_rfl) (by kernel_rfl) (by kernel_rfl) (fun _ _ _ h => h) rfl (fun wq hS => by go_simp) HW.out.x ?_
              try simp only [Act.put, List.setIfInBounds_toArray, List.set_cons_succ, List.set_cons_zero]
              refine takeH 13 (some 15) (.bool (c.mayPut fr ky)) rfl rfl (by kernel_rfl) (by kernel_rfl) (by kernel_rfl) (fun _ _ _ h => h) rfl (fun wq hS => by go_simp) HW.out.x ?_
              try simp only [Act.put, List.setIfInBounds_toArray, List.set_cons_succ, List.set_cons_zero]
              refine wpAnyH_done (by kernel_rfl) ?_ _
              go_wp2_with fail
              go_meet
              exact ⟨_, 0, 0, false, c.mayPut fr ky, rfl, rfl, rfl, rfl, rfl, HW.out, (HO.out.put fr ky HWK.out.2).mono (by omega), by rw [Ck.put_len]; exact HLN.out, fun h0 h1 => by omega⟩
          have d5 : (kd == 5) = false := by simpa using h5
          by_cases h6 : kd = 6
          · obtain rfl := h6
            as_aux_lemma =>
              have p0 := HX0.out.x.cell (i := 0) rfl
              have p1 := HX0.out.x.cell (i := 1) rfl
              have p2 := HX0.out.x.cell (i := 2) rfl
              go_wp2_with fail
              refine (touch_any _ b r M [] c HX0.out.bo.co HO.out fr).mono ?_
              rintro e w6 ⟨rfl, ha, hon⟩
              have HH := Lib.hid (HX0.out.half ha hon)
              have p1' := HH.out.x.cell (i := 1) rfl
              clear ha hon
              go_wp2_with fail
              refine (rtouch_any _ b2 r2 cap2 tl2 c HH.out.re HO.out fr).mono ?_
              rintro e w7 ⟨rfl, ha, hon⟩
              have HW := Lib.hid (HH.out.whole ha hon)
              clear ha hon
              go_wp2_with fail
              go_meet
              exact ⟨_, 0, 0, false, false, rfl, rfl, rfl, rfl, rfl, HW.out, (HO.out.touch fr).mono (by omega), by rw [Ck.touch_len]; exact HLN.out, fun h0 h1 => by omega⟩
          have d6 : (kd == 6) = false := by simpa using h6
          as_aux_lemma =>
            have p0 := HX0.out.x.cell (i := 0) rfl
            have p1 := HX0.out.x.cell (i := 1) rfl
            have p2 := HX0.out.x.cell (i := 2) rfl
            go_wp2_with fail
            go_meet
            exact ⟨c, 0, 0, false, false, rfl, rfl, rfl, rfl, rfl, HX0.out, HO.out.mono (by omega), HLN.out, fun h0 h1 => by omega⟩
        case rest =>
          as_aux_lemma =>
            obtain ⟨c5, a, bI, ok, sv, rfl, rfl, rfl, rfl, rfl, h1, h2, h3, h4⟩ := hcut
            have HX5 := Lib.hid h1
            have HO5 := Lib.hid h2
            have HL5 := Lib.hid h3
            have HTL := Lib.hid h4
            have p0 := h1.x.cell (i := 0) rfl
            clear h1 h2 h3 h4 HX0 HO HLN HK
            generalize wc = w5 at *
            go_upto_region 36 with fail
            go_cut [199] from 44 to 255 (fun s199 wz => s199 = .bool false ∧ Bx w wz b r M b2 r2 cap2 tl2 c5 xb [.int .i64 kd, .int .i64 fr, .int .i64 ky])
            case first =>
              have HP1 := Lib.hid (fun (w9 : World) (h9 : At encC w9 b r M [] c5) => pinned_any w9 b r M [] c5 h9 HO5.out)
              have HP2 := Lib.hid (fun (w9 : World) (h9 : At encR w9 b2 r2 cap2 tl2 c5) => rpinned_any w9 b2 r2 cap2 tl2 c5 h9 HO5.out)
              generalize c5.pinned = pn at *
              by_cases h0 : 0 ≤ kd
              · have k0 : decide (0 ≤ kd) = true := decide_eq_true h0
                by_cases h1 : kd ≤ 1
                · have k1 : decide (kd ≤ 1) = true := decide_eq_true h1
                  obtain ⟨g1, g2, g3⟩ := HTL.out h0 h1
                  clear h0 h1 HTL
                  cases ok with
                  | true =>
                    obtain rfl := g2 rfl
                    have g1' := g1.symm
                    clear g1 g2 g3
                    as_aux_lemma =>
                      go_wp2_with fail
                      refine (HP1.out _ HX5.out.bo.co).mono ?_
                      rintro e w6 ⟨rfl, hb⟩
                      have HX6 := Lib.hid (HX5.out.below hb)
                      clear hb
                      go_wp2_with fail
                      refine (HP2.out _ HX6.out.bo.re).mono ?_
                      rintro e w' ⟨rfl, rfl⟩
                      go_wp2_with fail
                      go_meet
                      exact ⟨rfl, HX6.out⟩
                  | false =>
                    obtain rfl := g3 rfl
                    have g1' := g1.symm
                    clear g1 g2 g3
                    as_aux_lemma =>
                      go_wp2_with fail
                      refine (HP1.out _ HX5.out.bo.co).mono ?_
                      rintro e w6 ⟨rfl, hb⟩
                      have HX6 := Lib.hid (HX5.out.below hb)
                      clear hb
                      go_wp2_with fail
                      refine (HP2.out _ HX6.out.bo.re).mono ?_
                      rintro e w' ⟨rfl, rfl⟩
                      go_wp2_with fail
                      go_meet
                      exact ⟨rfl, HX6.out⟩
                · have k1 : decide (kd ≤ 1) = false := decide_eq_false h1
                  clear h0 h1 HTL
                  as_aux_lemma =>
                    go_wp2_with fail
                    refine (HP1.out _ HX5.out.bo.co).mono ?_
                    rintro e w6 ⟨rfl, hb⟩
                    have HX6 := Lib.hid (HX5.out.below hb)
                    clear hb
                    go_wp2_with fail
                    refine (HP2.out _ HX6.out.bo.re).mono ?_
                    rintro e w' ⟨rfl, rfl⟩
                    go_wp2_with fail
                    go_meet
                    exact ⟨rfl, HX6.out⟩
              · have k0 : decide (0 ≤ kd) = false := decide_eq_false h0
                clear h0 HTL
                as_aux_lemma =>
                  go_wp2_with fail
                  refine (HP1.out _ HX5.out.bo.co).mono ?_
                  rintro e w6 ⟨rfl, hb⟩
                  have HX6 := Lib.hid (HX5.out.below hb)
                  clear hb
                  go_wp2_with fail
                  refine (HP2.out _ HX6.out.bo.re).mono ?_
                  rintro e w' ⟨rfl, rfl⟩
                  go_wp2_with fail
                  go_meet
                  exact ⟨rfl, HX6.out⟩
            case rest =>
              as_aux_lemma =>
                obtain ⟨rfl, h1⟩ := hcut
                have HXA := Lib.hid h1
                clear h1 HX5 p0
                generalize wc = wa at *
                go_wp2_with fail
                go_loopg [16] (M + 2) (fun g i wq => ∃ j : Nat, M + 2 - j ≤ g ∧ j ≤ M + 2 ∧ i = .int .i64 ((j : Int) - 1) ∧ Bx w wq b r M b2 r2 cap2 tl2 c5 xb [.int .i64 kd, .int .i64 fr, .int .i64 ky])
                case atStart => exact ⟨0, by omega, by omega, rfl, HXA.out⟩
                case round =>
                  as_aux_lemma =>
                    obtain ⟨j, hq4, hj, rfl, hk4⟩ := hrel
                    have HXB := Lib.hid hk4
                    have c0 := hk4.bo.re.blk.cell (i := 0) rfl
                    rw [HL5.out] at c0
                    clear hk4
                    obtain ⟨ii, hii⟩ : ∃ ii : Int, (j : Int) - 1 = ii := ⟨_, rfl⟩
                    have HII := Lib.hid hii
                    rw [hii]
                    by_cases hlt4 : j < M + 2
                    · have d0 : decide (ii ≤ (M : Int)) = true := decide_eq_true (by omega)
                      have gj : IntKind.i64.wrap (ii + 1) = ii + 1 := by
                        have := HM.out
                        rw [IntKind.wrap_i64]; omega
                      have HKY := Lib.hid (key_any wr b r M [] c5 HXB.out.bo.co HO5.out ii)
                      have HHS := Lib.hid (fun (w9 : World) (h9 : At encR w9 b2 r2 cap2 tl2 c5) => rhas_any w9 b2 r2 cap2 tl2 c5 h9 ii)
                      have HPN := Lib.hid (fun (w9 : World) (h9 : At encC w9 b r M [] c5) => pins_any w9 b r M [] c5 h9 HO5.out ii)
                      clear hii
                      cases hg : c5.get ii with
                      | none =>
                        have hpi : c5.pins ii = 0 := by unfold Ck.pins; rw [hg]
                        rw [hpi] at HPN
                        rw [hg] at HKY HHS
                        simp only [keyR, Option.isSome_none] at HKY HHS
                        clear hg hpi
                        go_wp2_with fail
                        refine HKY.out.mono ?_
                        rintro e w3 ⟨rfl, hb⟩
                        have HX3 := Lib.hid (HXB.out.below hb)
                        clear hb
                        have b45 := built45n
                        go_wp2_with fail
                        have HY3 : Hid (Blk (w3.alloc (.cells #[.int .i64 (-1), .int .i64 0, .bool false] 45)) w3.heap.size [.int .i64 (-1), .int .i64 0, .bool false]) := Lib.hid (Blk.newAt _ _ _ rfl rfl)
                        have HX4 := Lib.hid (HX3.out.below (alloc_below w3 (.cells #[.int .i64 (-1), .int .i64 0, .bool false] 45)))
                        have HNY : Hid (w3.heap.size ≠ b ∧ w3.heap.size ≠ r ∧ w3.heap.size ≠ b2 ∧ w3.heap.size ≠ r2 ∧ w3.heap.size ≠ xb ∧ w.heap.size ≤ w3.heap.size) := Lib.hid (by
                          have k1 := HX3.out.bo.co.blk.lt
                          have k2 := HX3.out.bo.co.row.lt
                          have k3 := HX3.out.bo.re.blk.lt
                          have k4 := HX3.out.bo.re.row.lt
                          have k5 := HX3.out.x.lt
                          exact ⟨by omega, by omega, by omega, by omega, by omega, HX3.out.bo.bel.size⟩)
                        generalize w3.alloc (.cells #[.int .i64 (-1), .int .i64 0, .bool false] 45) = w4 at *
                        generalize w3.heap.size = yb at *
                        refine (HHS.out _ HX4.out.bo.re).mono ?_
                        rintro e w' ⟨rfl, rfl⟩
                        have HY := Lib.hid HY3.out
                        have HBV := Lib.hid HX4.out
                        generalize w4 = wv at *
                        go_upto_region 45 with fail
                        go_cut [255] from 200 to 255 (fun s255 wz => s255 = .bool false ∧ Bx w wz b r M b2 r2 cap2 tl2 c5 xb [.int .i64 kd, .int .i64 fr, .int .i64 ky])
                        case first =>
                          refine startH (fun wq => Blk wq yb [.int .i64 (-1), .int .i64 0, .bool false]) (by kernel_rfl) ?_
                          have HY0 := Lib.hid HY.out.drew
                          have HB0 := Lib.hid HBV.out.drew
                          generalize wv.drew = wS at *
                          refine takeH 0 (some 226) (.bool false) rfl rfl (by kernel_rfl) (by kernel_rfl) (by kernel_rfl) (fun _ _ _ h => h) rfl (fun wq hS => by go_simp) HY0.out ?_
                          try simp only [Act.put, List.setIfInBounds_toArray, List.set_cons_succ, List.set_cons_zero]
                          refine takeH 1 (some 227) (.pointer (some ⟨yb, 0, none⟩)) rfl rfl (by kernel_rfl) (by kernel_rfl) (by kernel_rfl) (fun _ _ _ h => h) rfl (fun wq hS => by go_simp) HY0.out ?_
                          try simp only [Act.put, List.setIfInBounds_toArray, List.set_cons_succ, List.set_cons_zero]
                          refine takeH 2 (some 228) (.int .i64 (-1)) rfl rfl (by kernel_rfl) (by kernel_rfl) (by kernel_rfl) (fun _ _ _ h => h) rfl (fun wq hS => by have z := Blk.cell hS (i := 0) rfl; go_simp) HY0.out ?_
                          try simp only [Act.put, List.setIfInBounds_toArray, List.set_cons_succ, List.set_cons_zero]
                          refine takeH 3 (some 229) (.bool false) rfl rfl (by kernel_rfl) (by kernel_rfl) (by kernel_rfl) (fun _ _ _ h => h) rfl (fun wq hS => by go_simp) HY0.out ?_
                          try simp only [Act.put, List.setIfInBounds_toArray, List.set_cons_succ, List.set_cons_zero]
                          refine takeH 4 (some 230) (.bool false) rfl rfl (by kernel_rfl) (by kernel_rfl) (by kernel_rfl) (fun _ _ _ h => h) rfl (fun wq hS => by go_simp) HY0.out ?_
                          try simp only [Act.put, List.setIfInBounds_toArray, List.set_cons_succ, List.set_cons_zero]
                          refine takeH 5 (some 231) (.bool false) rfl rfl (by kernel_rfl) (by kernel_rfl) (by kernel_rfl) (fun _ _ _ h => h) rfl (fun wq hS => by go_simp) HY0.out ?_
                          try simp only [Act.put, List.setIfInBounds_toArray, List.set_cons_succ, List.set_cons_zero]
                          refine takeH 6 (some 232) (.bool false) rfl rfl (by kernel_rfl) (by kernel_rfl) (by kernel_rfl) (fun _ _ _ h => h) rfl (fun wq hS => by go_simp) HY0.out ?_
                          try simp only [Act.put, List.setIfInBounds_toArray, List.set_cons_succ, List.set_cons_zero]
                          refine takeH 7 (some 233) (.bool false) rfl rfl (by kernel_rfl) (by kernel_rfl) (by kernel_rfl) (fun _ _ _ h => h) rfl (fun wq hS => by go_simp) HY0.out ?_
                          try simp only [Act.put, List.setIfInBounds_toArray, List.set_cons_succ, List.set_cons_zero]
                          refine passH 8 (some 234) rfl rfl (by kernel_rfl) (by kernel_rfl) (by kernel_rfl) (fun _ _ _ h => h) rfl HY0.out ?_
                          try simp only [Act.put, List.setIfInBounds_toArray, List.set_cons_succ, List.set_cons_zero]
                          refine passH 9 (some 235) rfl rfl (by kernel_rfl) (by kernel_rfl) (by kernel_rfl) (fun _ _ _ h => h) rfl HY0.out ?_
                          try simp only [Act.put, List.setIfInBounds_toArray, List.set_cons_succ, List.set_cons_zero]
                          refine passH 10 (some 236) rfl rfl (by kernel_rfl) (by kernel_rfl) (by kernel_rfl) (fun _ _ _ h => h) rfl HY0.out ?_
                          try simp only [Act.put, List.setIfInBounds_toArray, List.set_cons_succ, List.set_cons_zero]
                          refine passH 11 (some 237) rfl rfl (by kernel_rfl) (by kernel_rfl) (by kernel_rfl) (fun _ _ _ h => h) rfl HY0.out ?_
                          try simp only [Act.put, List.setIfInBounds_toArray, List.set_cons_succ, List.set_cons_zero]
                          refine takeH 12 (some 238) (.bool false) rfl rfl (by kernel_rfl) (by kernel_rfl) (by kernel_rfl) (fun _ _ _ h => h) rfl (fun wq hS => by go_simp) HY0.out ?_
                          try simp only [Act.put, List.setIfInBounds_toArray, List.set_cons_succ, List.set_cons_zero]
                          refine takeH 13 (some 239) (.bool false) rfl rfl (by kernel_rfl) (by kernel_rfl) (by kernel_rfl) (fun _ _ _ h => h) rfl (fun wq hS => by go_simp) HY0.out ?_
                          try simp only [Act.put, List.setIfInBounds_toArray, List.set_cons_succ, List.set_cons_zero]
                          refine takeH 14 (some 240) (.bool false) rfl rfl (by kernel_rfl) (by kernel_rfl) (by kernel_rfl) (fun _ _ _ h => h) rfl (fun wq hS => by go_simp) HY0.out ?_
                          try simp only [Act.put, List.setIfInBounds_toArray, List.set_cons_succ, List.set_cons_zero]
                          refine takeH 15 (some 241) (.bool false) rfl rfl (by kernel_rfl) (by kernel_rfl) (by kernel_rfl) (fun _ _ _ h => h) rfl (fun wq hS => by go_simp) HY0.out ?_
                          try simp only [Act.put, List.setIfInBounds_toArray, List.set_cons_succ, List.set_cons_zero]
                          refine takeH 16 (some 242) (.bool true) rfl rfl (by kernel_rfl) (by kernel_rfl) (by kernel_rfl) (fun _ _ _ h => h) rfl (fun wq hS => by go_simp) HY0.out ?_
                          try simp only [Act.put, List.setIfInBounds_toArray, List.set_cons_succ, List.set_cons_zero]
                          refine takeH 17 (some 243) (.bool true) rfl rfl (by kernel_rfl) (by kernel_rfl) (by kernel_rfl) (fun _ _ _ h => h) rfl (fun wq hS => by go_simp) HY0.out ?_
                          try simp only [Act.put, List.setIfInBounds_toArray, List.set_cons_succ, List.set_cons_zero]
                          refine takeH 18 (some 244) (.int .i64 0) rfl rfl (by kernel_rfl) (by kernel_rfl) (by kernel_rfl) (fun _ _ _ h => h) rfl (fun wq hS => by go_simp) HY0.out ?_
                          try simp only [Act.put, List.setIfInBounds_toArray, List.set_cons_succ, List.set_cons_zero]
                          refine takeH 19 (some 245) (.bool false) rfl rfl (by kernel_rfl) (by kernel_rfl) (by kernel_rfl) (fun _ _ _ h => h) rfl (fun wq hS => by go_simp) HY0.out ?_
                          try simp only [Act.put, List.setIfInBounds_toArray, List.set_cons_succ, List.set_cons_zero]
                          refine takeH 20 (some 246) (.bool false) rfl rfl (by kernel_rfl) (by kernel_rfl) (by kernel_rfl) (fun _ _ _ h => h) rfl (fun wq hS => by go_simp) HY0.out ?_
                          try simp only [Act.put, List.setIfInBounds_toArray, List.set_cons_succ, List.set_cons_zero]
                          refine takeH 21 (some 247) (.bool false) rfl rfl (by kernel_rfl) (by kernel_rfl) (by kernel_rfl) (fun _ _ _ h => h) rfl (fun wq hS => by go_simp) HY0.out ?_
                          try simp only [Act.put, List.setIfInBounds_toArray, List.set_cons_succ, List.set_cons_zero]
                          refine takeH 22 (some 248) (.bool false) rfl rfl (by kernel_rfl) (by kernel_rfl) (by kernel_rfl) (fun _ _ _ h => h) rfl (fun wq hS => by go_simp) HY0.out ?_
                          try simp only [Act.put, List.setIfInBounds_toArray, List.set_cons_succ, List.set_cons_zero]
                          refine takeH 23 (some 249) (.pointer (some ⟨b, 0, none⟩)) rfl rfl (by kernel_rfl) (by kernel_rfl) (by kernel_rfl) (fun _ _ _ h => h) rfl (fun wq hS => by go_simp) HY0.out ?_
                          try simp only [Act.put, List.setIfInBounds_toArray, List.set_cons_succ, List.set_cons_zero]
                          refine takeH 24 (some 250) (.int .i64 ii) rfl rfl (by kernel_rfl) (by kernel_rfl) (by kernel_rfl) (fun _ _ _ h => h) rfl (fun wq hS => by go_simp) HY0.out ?_
                          try simp only [Act.put, List.setIfInBounds_toArray, List.set_cons_succ, List.set_cons_zero]
                          refine takeH 26 (some 252) (.pointer (some ⟨yb, 1, none⟩)) rfl rfl (by kernel_rfl) (by kernel_rfl) (by kernel_rfl) (fun _ _ _ h => h) rfl (fun wq hS => by go_simp) HY0.out ?_
                          try simp only [Act.put, List.setIfInBounds_toArray, List.set_cons_succ, List.set_cons_zero]
                          refine takeH 27 (some 253) (.int .i64 0) rfl rfl (by kernel_rfl) (by kernel_rfl) (by kernel_rfl) (fun _ _ _ h => h) rfl (fun wq hS => by have z := Blk.cell hS (i := 1) rfl; go_simp) HY0.out ?_
                          try simp only [Act.put, List.setIfInBounds_toArray, List.set_cons_succ, List.set_cons_zero]
                          refine oneH 25 (by kernel_rfl) rfl rfl fun K hK => ?_
                          go_simp
                          refine (HPN.out _ HB0.out.bo.co).mono ?_
                          rintro e w6 ⟨rfl, hb⟩
                          have HY6 := Lib.hid (HY0.out.below hb HY0.out.lt)
                          have HB6 := Lib.hid (HB0.out.below hb)
                          refine hK _ _ HY6.out ?_
                          clear hK K hb
                          try simp only [Act.put, List.setIfInBounds_toArray, List.set_cons_succ, List.set_cons_zero]
                          refine takeH 28 (some 254) (.bool false) rfl rfl (by kernel_rfl) (by kernel_rfl) (by kernel_rfl) (fun _ _ _ h => h) rfl (fun wq hS => by go_simp) HY6.out ?_
                          try simp only [Act.put, List.setIfInBounds_toArray, List.set_cons_succ, List.set_cons_zero]
                          refine takeH 29 (some 255) (.bool false) rfl rfl (by kernel_rfl) (by kernel_rfl) (by kernel_rfl) (fun _ _ _ h => h) rfl (fun wq hS => by go_simp) HY6.out ?_
                          try simp only [Act.put, List.setIfInBounds_toArray, List.set_cons_succ, List.set_cons_zero]
                          refine wpAnyH_done (by kernel_rfl) ?_ _
                          go_wp2_with fail
                          go_meet
                          exact ⟨rfl, HB6.out⟩
                        case rest =>
                          as_aux_lemma =>
                            obtain ⟨rfl, h1⟩ := hcut
                            have HXC := Lib.hid h1
                            clear h1
                            go_wp2_with fail
                            go_roundg (M + 2 - (j + 1))
                            case measure => omega
                            case rel => exact ⟨j + 1, by omega, by omega, by have := HII.out; exact congrArg (Value.int IntKind.i64) (by push_cast; omega), HXC.out⟩
                      | some f =>
                        have hpi : c5.pins ii = f.pins := by unfold Ck.pins; rw [hg]
                        rw [hpi] at HPN
                        rw [hg] at HKY HHS
                        simp only [keyR, Option.isSome_some] at HKY HHS
                        obtain ⟨z, hz, hzl, hzf⟩ := Ck.get_some hg
                        subst hz
                        have hfo := HO5.out.all z f hzf
                        have HZ := Lib.hid hzf
                        have hzM : (z : Int) < (M : Int) := by have := HL5.out; omega
                        have hzN : z < M := by omega
                        cases hK : f.K with
                        | true =>
                          simp only [hK, if_true] at HKY
                          have f0 : decide (0 ≤ f.key) = true := hK
                          clear hg hpi hzf hfo hK
                          go_wp2_with fail
                          refine HKY.out.mono ?_
                          rintro e w3 ⟨rfl, hb⟩
                          have HX3 := Lib.hid (HXB.out.below hb)
                          clear hb
                          have b45 := built45n
                          go_wp2_with fail
                          have HY3 : Hid (Blk (w3.alloc (.cells #[.int .i64 (-1), .int .i64 0, .bool false] 45)) w3.heap.size [.int .i64 (-1), .int .i64 0, .bool false]) := Lib.hid (Blk.newAt _ _ _ rfl rfl)
                          have HX4 := Lib.hid (HX3.out.below (alloc_below w3 (.cells #[.int .i64 (-1), .int .i64 0, .bool false] 45)))
                          have HNY : Hid (w3.heap.size ≠ b ∧ w3.heap.size ≠ r ∧ w3.heap.size ≠ b2 ∧ w3.heap.size ≠ r2 ∧ w3.heap.size ≠ xb ∧ w.heap.size ≤ w3.heap.size) := Lib.hid (by
                            have k1 := HX3.out.bo.co.blk.lt
                            have k2 := HX3.out.bo.co.row.lt
                            have k3 := HX3.out.bo.re.blk.lt
                            have k4 := HX3.out.bo.re.row.lt
                            have k5 := HX3.out.x.lt
                            exact ⟨by omega, by omega, by omega, by omega, by omega, HX3.out.bo.bel.size⟩)
                          generalize w3.alloc (.cells #[.int .i64 (-1), .int .i64 0, .bool false] 45) = w4 at *
                          generalize w3.heap.size = yb at *
                          refine (HHS.out _ HX4.out.bo.re).mono ?_
                          rintro e w' ⟨rfl, rfl⟩
                          have q0 := HX4.out.bo.re.blk.cell (i := 0) rfl
                          rw [HL5.out] at q0
                          have y0 := HX4.out.bo.re.cell encR_len HZ.out (j := 0) rfl
                          rw [Nat.add_zero] at y0
                          have y1 := HX4.out.bo.re.cell encR_len HZ.out (j := 1) rfl
                          have y2 := HX4.out.bo.re.cell encR_len HZ.out (j := 2) rfl
                          have v0 := HY3.out.cell (i := 0) rfl
                          have v1 := HY3.out.cell (i := 1) rfl
                          have v2 := HY3.out.cell (i := 2) rfl
                          have u0 := HY3.out.frozen 0
                          have u1 := HY3.out.frozen 1
                          have u2 := HY3.out.frozen 2
                          skip
                          go_upto_region 44 with fail
                          go_cut [] from 200 to 255 (fun wz => Blk wz yb [.int .i64 f.key, .int .i64 f.pins, .bool f.mark] ∧ Bx w wz b r M b2 r2 cap2 tl2 c5 xb [.int .i64 kd, .int .i64 fr, .int .i64 ky])
                          case first =>
                            go_wp2_with fail
                            go_meet
                            refine ⟨?_, ?_⟩
                            · have h := ((HY3.out.set 0 (.int .i64 f.key)).set 1 (.int .i64 f.pins)).set 2 (.bool f.mark)
                              simpa using h
                            · exact HX4.out.free (only3 w4 yb 0 1 2 _ _ _) HNY.out
                          case rest =>
                            as_aux_lemma =>
                              obtain ⟨h1, h2⟩ := hcut
                              have HY := Lib.hid h1
                              have HBV := Lib.hid h2
                              clear h1 h2 q0 y0 y1 y2 v0 v1 v2 u0 u1 u2 HX4 HY3
                              generalize wc = wv at *
                              go_upto_region 45 with fail
                              go_cut [255] from 200 to 255 (fun s255 wz => s255 = .bool false ∧ Bx w wz b r M b2 r2 cap2 tl2 c5 xb [.int .i64 kd, .int .i64 fr, .int .i64 ky])
                              case first =>
                                refine startH (fun wq => Blk wq yb [.int .i64 f.key, .int .i64 f.pins, .bool f.mark]) (by kernel_rfl) ?_
                                have HY0 := Lib.hid HY.out.drew
                                have HB0 := Lib.hid HBV.out.drew
                                generalize wv.drew = wS at *
                                refine takeH 0 (some 226) (.bool true) rfl rfl (by kernel_rfl) (by kernel_rfl) (by kernel_rfl) (fun _ _ _ h => h) rfl (fun wq hS => by go_simp) HY0.out ?_
                                try simp only [Act.put, List.setIfInBounds_toArray, List.set_cons_succ, List.set_cons_zero]
                                refine takeH 1 (some 227) (.pointer (some ⟨yb, 0, none⟩)) rfl rfl (by kernel_rfl) (by kernel_rfl) (by kernel_rfl) (fun _ _ _ h => h) rfl (fun wq hS => by go_simp) HY0.out ?_
                                try simp only [Act.put, List.setIfInBounds_toArray, List.set_cons_succ, List.set_cons_zero]
                                refine takeH 2 (some 228) (.int .i64 f.key) rfl rfl (by kernel_rfl) (by kernel_rfl) (by kernel_rfl) (fun _ _ _ h => h) rfl (fun wq hS => by have z := Blk.cell hS (i := 0) rfl; go_simp) HY0.out ?_
                                try simp only [Act.put, List.setIfInBounds_toArray, List.set_cons_succ, List.set_cons_zero]
                                refine takeH 3 (some 229) (.bool true) rfl rfl (by kernel_rfl) (by kernel_rfl) (by kernel_rfl) (fun _ _ _ h => h) rfl (fun wq hS => by go_simp) HY0.out ?_
                                try simp only [Act.put, List.setIfInBounds_toArray, List.set_cons_succ, List.set_cons_zero]
                                refine takeH 4 (some 230) (.bool false) rfl rfl (by kernel_rfl) (by kernel_rfl) (by kernel_rfl) (fun _ _ _ h => h) rfl (fun wq hS => by go_simp) HY0.out ?_
                                try simp only [Act.put, List.setIfInBounds_toArray, List.set_cons_succ, List.set_cons_zero]
                                refine takeH 5 (some 231) (.bool false) rfl rfl (by kernel_rfl) (by kernel_rfl) (by kernel_rfl) (fun _ _ _ h => h) rfl (fun wq hS => by go_simp) HY0.out ?_
                                try simp only [Act.put, List.setIfInBounds_toArray, List.set_cons_succ, List.set_cons_zero]
                                refine takeH 6 (some 232) (.bool true) rfl rfl (by kernel_rfl) (by kernel_rfl) (by kernel_rfl) (fun _ _ _ h => h) rfl (fun wq hS => by go_simp) HY0.out ?_
                                try simp only [Act.put, List.setIfInBounds_toArray, List.set_cons_succ, List.set_cons_zero]
                                refine takeH 7 (some 233) (.bool true) rfl rfl (by kernel_rfl) (by kernel_rfl) (by kernel_rfl) (fun _ _ _ h => h) rfl (fun wq hS => by go_simp) HY0.out ?_
                                try simp only [Act.put, List.setIfInBounds_toArray, List.set_cons_succ, List.set_cons_zero]
                                refine takeH 8 (some 234) (.int .i64 f.key) rfl rfl (by kernel_rfl) (by kernel_rfl) (by kernel_rfl) (fun _ _ _ h => h) rfl (fun wq hS => by go_simp) HY0.out ?_
                                try simp only [Act.put, List.setIfInBounds_toArray, List.set_cons_succ, List.set_cons_zero]
                                refine takeH 9 (some 235) (.pointer (some ⟨yb, 0, none⟩)) rfl rfl (by kernel_rfl) (by kernel_rfl) (by kernel_rfl) (fun _ _ _ h => h) rfl (fun wq hS => by go_simp) HY0.out ?_
                                try simp only [Act.put, List.setIfInBounds_toArray, List.set_cons_succ, List.set_cons_zero]
                                refine takeH 10 (some 236) (.int .i64 f.key) rfl rfl (by kernel_rfl) (by kernel_rfl) (by kernel_rfl) (fun _ _ _ h => h) rfl (fun wq hS => by have z := Blk.cell hS (i := 0) rfl; go_simp) HY0.out ?_
                                try simp only [Act.put, List.setIfInBounds_toArray, List.set_cons_succ, List.set_cons_zero]
                                refine takeH 11 (some 237) (.bool false) rfl rfl (by kernel_rfl) (by kernel_rfl) (by kernel_rfl) (fun _ _ _ h => h) rfl (fun wq hS => by go_simp) HY0.out ?_
                                try simp only [Act.put, List.setIfInBounds_toArray, List.set_cons_succ, List.set_cons_zero]
                                refine takeH 12 (some 238) (.bool false) rfl rfl (by kernel_rfl) (by kernel_rfl) (by kernel_rfl) (fun _ _ _ h => h) rfl (fun wq hS => by go_simp) HY0.out ?_
                                try simp only [Act.put, List.setIfInBounds_toArray, List.set_cons_succ, List.set_cons_zero]
                                refine takeH 13 (some 239) (.bool false) rfl rfl (by kernel_rfl) (by kernel_rfl) (by kernel_rfl) (fun _ _ _ h => h) rfl (fun wq hS => by go_simp) HY0.out ?_
                                try simp only [Act.put, List.setIfInBounds_toArray, List.set_cons_succ, List.set_cons_zero]
                                refine takeH 14 (some 240) (.bool false) rfl rfl (by kernel_rfl) (by kernel_rfl) (by kernel_rfl) (fun _ _ _ h => h) rfl (fun wq hS => by go_simp) HY0.out ?_
                                try simp only [Act.put, List.setIfInBounds_toArray, List.set_cons_succ, List.set_cons_zero]
                                refine takeH 15 (some 241) (.bool true) rfl rfl (by kernel_rfl) (by kernel_rfl) (by kernel_rfl) (fun _ _ _ h => h) rfl (fun wq hS => by go_simp) HY0.out ?_
                                try simp only [Act.put, List.setIfInBounds_toArray, List.set_cons_succ, List.set_cons_zero]
                                refine takeH 16 (some 242) (.bool false) rfl rfl (by kernel_rfl) (by kernel_rfl) (by kernel_rfl) (fun _ _ _ h => h) rfl (fun wq hS => by go_simp) HY0.out ?_
                                try simp only [Act.put, List.setIfInBounds_toArray, List.set_cons_succ, List.set_cons_zero]
                                refine takeH 17 (some 243) (.bool false) rfl rfl (by kernel_rfl) (by kernel_rfl) (by kernel_rfl) (fun _ _ _ h => h) rfl (fun wq hS => by go_simp) HY0.out ?_
                                try simp only [Act.put, List.setIfInBounds_toArray, List.set_cons_succ, List.set_cons_zero]
                                refine passH 18 (some 244) rfl rfl (by kernel_rfl) (by kernel_rfl) (by kernel_rfl) (fun _ _ _ h => h) rfl HY0.out ?_
                                try simp only [Act.put, List.setIfInBounds_toArray, List.set_cons_succ, List.set_cons_zero]
                                refine passH 19 (some 245) rfl rfl (by kernel_rfl) (by kernel_rfl) (by kernel_rfl) (fun _ _ _ h => h) rfl HY0.out ?_
                                try simp only [Act.put, List.setIfInBounds_toArray, List.set_cons_succ, List.set_cons_zero]
                                refine takeH 20 (some 246) (.bool false) rfl rfl (by kernel_rfl) (by kernel_rfl) (by kernel_rfl) (fun _ _ _ h => h) rfl (fun wq hS => by go_simp) HY0.out ?_
                                try simp only [Act.put, List.setIfInBounds_toArray, List.set_cons_succ, List.set_cons_zero]
                                refine takeH 21 (some 247) (.bool false) rfl rfl (by kernel_rfl) (by kernel_rfl) (by kernel_rfl) (fun _ _ _ h => h) rfl (fun wq hS => by go_simp) HY0.out ?_
                                try simp only [Act.put, List.setIfInBounds_toArray, List.set_cons_succ, List.set_cons_zero]
                                refine takeH 22 (some 248) (.bool false) rfl rfl (by kernel_rfl) (by kernel_rfl) (by kernel_rfl) (fun _ _ _ h => h) rfl (fun wq hS => by go_simp) HY0.out ?_
                                try simp only [Act.put, List.setIfInBounds_toArray, List.set_cons_succ, List.set_cons_zero]
                                refine takeH 23 (some 249) (.pointer (some ⟨b, 0, none⟩)) rfl rfl (by kernel_rfl) (by kernel_rfl) (by kernel_rfl) (fun _ _ _ h => h) rfl (fun wq hS => by go_simp) HY0.out ?_
                                try simp only [Act.put, List.setIfInBounds_toArray, List.set_cons_succ, List.set_cons_zero]
                                refine takeH 24 (some 250) (.int .i64 (z : Int)) rfl rfl (by kernel_rfl) (by kernel_rfl) (by kernel_rfl) (fun _ _ _ h => h) rfl (fun wq hS => by go_simp) HY0.out ?_
                                try simp only [Act.put, List.setIfInBounds_toArray, List.set_cons_succ, List.set_cons_zero]
                                refine takeH 26 (some 252) (.pointer (some ⟨yb, 1, none⟩)) rfl rfl (by kernel_rfl) (by kernel_rfl) (by kernel_rfl) (fun _ _ _ h => h) rfl (fun wq hS => by go_simp) HY0.out ?_
                                try simp only [Act.put, List.setIfInBounds_toArray, List.set_cons_succ, List.set_cons_zero]
                                refine takeH 27 (some 253) (.int .i64 f.pins) rfl rfl (by kernel_rfl) (by kernel_rfl) (by kernel_rfl) (fun _ _ _ h => h) rfl (fun wq hS => by have z := Blk.cell hS (i := 1) rfl; go_simp) HY0.out ?_
                                try simp only [Act.put, List.setIfInBounds_toArray, List.set_cons_succ, List.set_cons_zero]
                                refine oneH 25 (by kernel_rfl) rfl rfl fun K hK => ?_
                                go_simp
                                refine (HPN.out _ HB0.out.bo.co).mono ?_
                                rintro e w6 ⟨rfl, hb⟩
                                have HY6 := Lib.hid (HY0.out.below hb HY0.out.lt)
                                have HB6 := Lib.hid (HB0.out.below hb)
                                refine hK _ _ HY6.out ?_
                                clear hK K hb
                                try simp only [Act.put, List.setIfInBounds_toArray, List.set_cons_succ, List.set_cons_zero]
                                refine takeH 28 (some 254) (.bool false) rfl rfl (by kernel_rfl) (by kernel_rfl) (by kernel_rfl) (fun _ _ _ h => h) rfl (fun wq hS => by go_simp) HY6.out ?_
                                try simp only [Act.put, List.setIfInBounds_toArray, List.set_cons_succ, List.set_cons_zero]
                                refine takeH 29 (some 255) (.bool false) rfl rfl (by kernel_rfl) (by kernel_rfl) (by kernel_rfl) (fun _ _ _ h => h) rfl (fun wq hS => by go_simp) HY6.out ?_
                                try simp only [Act.put, List.setIfInBounds_toArray, List.set_cons_succ, List.set_cons_zero]
                                refine wpAnyH_done (by kernel_rfl) ?_ _
                                go_wp2_with fail
                                go_meet
                                exact ⟨rfl, HB6.out⟩
                              case rest =>
                                as_aux_lemma =>
                                  obtain ⟨rfl, h1⟩ := hcut
                                  have HXC := Lib.hid h1
                                  clear h1
                                  go_wp2_with fail
                                  go_roundg (M + 2 - (j + 1))
                                  case measure => omega
                                  case rel => exact ⟨j + 1, by omega, by omega, by have := HII.out; exact congrArg (Value.int IntKind.i64) (by push_cast; omega), HXC.out⟩
                        | false =>
                          simp only [hK, Bool.false_eq_true, if_false] at HKY
                          have hkey : f.key < 0 := by simpa [Fm.K] using hK
                          have hfn := hfo.none hkey
                          subst hfn
                          clear hg hpi hzf hfo hK hkey
                          go_wp2_with fail
                          refine HKY.out.mono ?_
                          rintro e w3 ⟨rfl, hb⟩
                          have HX3 := Lib.hid (HXB.out.below hb)
                          clear hb
                          have b45 := built45n
                          go_wp2_with fail
                          have HY3 : Hid (Blk (w3.alloc (.cells #[.int .i64 (-1), .int .i64 0, .bool false] 45)) w3.heap.size [.int .i64 (-1), .int .i64 0, .bool false]) := Lib.hid (Blk.newAt _ _ _ rfl rfl)
                          have HX4 := Lib.hid (HX3.out.below (alloc_below w3 (.cells #[.int .i64 (-1), .int .i64 0, .bool false] 45)))
                          have HNY : Hid (w3.heap.size ≠ b ∧ w3.heap.size ≠ r ∧ w3.heap.size ≠ b2 ∧ w3.heap.size ≠ r2 ∧ w3.heap.size ≠ xb ∧ w.heap.size ≤ w3.heap.size) := Lib.hid (by
                            have k1 := HX3.out.bo.co.blk.lt
                            have k2 := HX3.out.bo.co.row.lt
                            have k3 := HX3.out.bo.re.blk.lt
                            have k4 := HX3.out.bo.re.row.lt
                            have k5 := HX3.out.x.lt
                            exact ⟨by omega, by omega, by omega, by omega, by omega, HX3.out.bo.bel.size⟩)
                          generalize w3.alloc (.cells #[.int .i64 (-1), .int .i64 0, .bool false] 45) = w4 at *
                          generalize w3.heap.size = yb at *
                          refine (HHS.out _ HX4.out.bo.re).mono ?_
                          rintro e w' ⟨rfl, rfl⟩
                          have q0 := HX4.out.bo.re.blk.cell (i := 0) rfl
                          rw [HL5.out] at q0
                          have y0 := HX4.out.bo.re.cell encR_len HZ.out (j := 0) rfl
                          rw [Nat.add_zero] at y0
                          have y1 := HX4.out.bo.re.cell encR_len HZ.out (j := 1) rfl
                          have y2 := HX4.out.bo.re.cell encR_len HZ.out (j := 2) rfl
                          have v0 := HY3.out.cell (i := 0) rfl
                          have v1 := HY3.out.cell (i := 1) rfl
                          have v2 := HY3.out.cell (i := 2) rfl
                          have u0 := HY3.out.frozen 0
                          have u1 := HY3.out.frozen 1
                          have u2 := HY3.out.frozen 2
                          simp only at y0 y1 y2
                          go_upto_region 44 with fail
                          go_cut [] from 200 to 255 (fun wz => Blk wz yb [.int .i64 (-1), .int .i64 0, .bool false] ∧ Bx w wz b r M b2 r2 cap2 tl2 c5 xb [.int .i64 kd, .int .i64 fr, .int .i64 ky])
                          case first =>
                            go_wp2_with fail
                            go_meet
                            refine ⟨?_, ?_⟩
                            · have h := ((HY3.out.set 0 (.int .i64 (-1))).set 1 (.int .i64 0)).set 2 (.bool false)
                              simpa using h
                            · exact HX4.out.free (only3 w4 yb 0 1 2 _ _ _) HNY.out
                          case rest =>
                            as_aux_lemma =>
                              obtain ⟨h1, h2⟩ := hcut
                              have HY := Lib.hid h1
                              have HBV := Lib.hid h2
                              clear h1 h2 q0 y0 y1 y2 v0 v1 v2 u0 u1 u2 HX4 HY3
                              generalize wc = wv at *
                              go_upto_region 45 with fail
                              go_cut [255] from 200 to 255 (fun s255 wz => s255 = .bool false ∧ Bx w wz b r M b2 r2 cap2 tl2 c5 xb [.int .i64 kd, .int .i64 fr, .int .i64 ky])
                              case first =>
                                refine startH (fun wq => Blk wq yb [.int .i64 (-1), .int .i64 0, .bool false]) (by kernel_rfl) ?_
                                have HY0 := Lib.hid HY.out.drew
                                have HB0 := Lib.hid HBV.out.drew
                                generalize wv.drew = wS at *
                                refine takeH 0 (some 226) (.bool false) rfl rfl (by kernel_rfl) (by kernel_rfl) (by kernel_rfl) (fun _ _ _ h => h) rfl (fun wq hS => by go_simp) HY0.out ?_
                                try simp only [Act.put, List.setIfInBounds_toArray, List.set_cons_succ, List.set_cons_zero]
                                refine takeH 1 (some 227) (.pointer (some ⟨yb, 0, none⟩)) rfl rfl (by kernel_rfl) (by kernel_rfl) (by kernel_rfl) (fun _ _ _ h => h) rfl (fun wq hS => by go_simp) HY0.out ?_
                                try simp only [Act.put, List.setIfInBounds_toArray, List.set_cons_succ, List.set_cons_zero]
                                refine takeH 2 (some 228) (.int .i64 (-1)) rfl rfl (by kernel_rfl) (by kernel_rfl) (by kernel_rfl) (fun _ _ _ h => h) rfl (fun wq hS => by have z := Blk.cell hS (i := 0) rfl; go_simp) HY0.out ?_
                                try simp only [Act.put, List.setIfInBounds_toArray, List.set_cons_succ, List.set_cons_zero]
                                refine takeH 3 (some 229) (.bool false) rfl rfl (by kernel_rfl) (by kernel_rfl) (by kernel_rfl) (fun _ _ _ h => h) rfl (fun wq hS => by go_simp) HY0.out ?_
                                try simp only [Act.put, List.setIfInBounds_toArray, List.set_cons_succ, List.set_cons_zero]
                                refine takeH 4 (some 230) (.bool false) rfl rfl (by kernel_rfl) (by kernel_rfl) (by kernel_rfl) (fun _ _ _ h => h) rfl (fun wq hS => by go_simp) HY0.out ?_
                                try simp only [Act.put, List.setIfInBounds_toArray, List.set_cons_succ, List.set_cons_zero]
                                refine takeH 5 (some 231) (.bool false) rfl rfl (by kernel_rfl) (by kernel_rfl) (by kernel_rfl) (fun _ _ _ h => h) rfl (fun wq hS => by go_simp) HY0.out ?_
                                try simp only [Act.put, List.setIfInBounds_toArray, List.set_cons_succ, List.set_cons_zero]
                                refine takeH 6 (some 232) (.bool false) rfl rfl (by kernel_rfl) (by kernel_rfl) (by kernel_rfl) (fun _ _ _ h => h) rfl (fun wq hS => by go_simp) HY0.out ?_
                                try simp only [Act.put, List.setIfInBounds_toArray, List.set_cons_succ, List.set_cons_zero]
                                refine takeH 7 (some 233) (.bool false) rfl rfl (by kernel_rfl) (by kernel_rfl) (by kernel_rfl) (fun _ _ _ h => h) rfl (fun wq hS => by go_simp) HY0.out ?_
                                try simp only [Act.put, List.setIfInBounds_toArray, List.set_cons_succ, List.set_cons_zero]
                                refine passH 8 (some 234) rfl rfl (by kernel_rfl) (by kernel_rfl) (by kernel_rfl) (fun _ _ _ h => h) rfl HY0.out ?_
                                try simp only [Act.put, List.setIfInBounds_toArray, List.set_cons_succ, List.set_cons_zero]
                                refine passH 9 (some 235) rfl rfl (by kernel_rfl) (by kernel_rfl) (by kernel_rfl) (fun _ _ _ h => h) rfl HY0.out ?_
                                try simp only [Act.put, List.setIfInBounds_toArray, List.set_cons_succ, List.set_cons_zero]
                                refine passH 10 (some 236) rfl rfl (by kernel_rfl) (by kernel_rfl) (by kernel_rfl) (fun _ _ _ h => h) rfl HY0.out ?_
                                try simp only [Act.put, List.setIfInBounds_toArray, List.set_cons_succ, List.set_cons_zero]
                                refine passH 11 (some 237) rfl rfl (by kernel_rfl) (by kernel_rfl) (by kernel_rfl) (fun _ _ _ h => h) rfl HY0.out ?_
                                try simp only [Act.put, List.setIfInBounds_toArray, List.set_cons_succ, List.set_cons_zero]
                                refine takeH 12 (some 238) (.bool false) rfl rfl (by kernel_rfl) (by kernel_rfl) (by kernel_rfl) (fun _ _ _ h => h) rfl (fun wq hS => by go_simp) HY0.out ?_
                                try simp only [Act.put, List.setIfInBounds_toArray, List.set_cons_succ, List.set_cons_zero]
                                refine takeH 13 (some 239) (.bool false) rfl rfl (by kernel_rfl) (by kernel_rfl) (by kernel_rfl) (fun _ _ _ h => h) rfl (fun wq hS => by go_simp) HY0.out ?_
                                try simp only [Act.put, List.setIfInBounds_toArray, List.set_cons_succ, List.set_cons_zero]
                                refine takeH 14 (some 240) (.bool false) rfl rfl (by kernel_rfl) (by kernel_rfl) (by kernel_rfl) (fun _ _ _ h => h) rfl (fun wq hS => by go_simp) HY0.out ?_
                                try simp only [Act.put, List.setIfInBounds_toArray, List.set_cons_succ, List.set_cons_zero]
                                refine takeH 15 (some 241) (.bool false) rfl rfl (by kernel_rfl) (by kernel_rfl) (by kernel_rfl) (fun _ _ _ h => h) rfl (fun wq hS => by go_simp) HY0.out ?_
                                try simp only [Act.put, List.setIfInBounds_toArray, List.set_cons_succ, List.set_cons_zero]
                                refine takeH 16 (some 242) (.bool true) rfl rfl (by kernel_rfl) (by kernel_rfl) (by kernel_rfl) (fun _ _ _ h => h) rfl (fun wq hS => by go_simp) HY0.out ?_
                                try simp only [Act.put, List.setIfInBounds_toArray, List.set_cons_succ, List.set_cons_zero]
                                refine takeH 17 (some 243) (.bool true) rfl rfl (by kernel_rfl) (by kernel_rfl) (by kernel_rfl) (fun _ _ _ h => h) rfl (fun wq hS => by go_simp) HY0.out ?_
                                try simp only [Act.put, List.setIfInBounds_toArray, List.set_cons_succ, List.set_cons_zero]
                                refine takeH 18 (some 244) (.int .i64 0) rfl rfl (by kernel_rfl) (by kernel_rfl) (by kernel_rfl) (fun _ _ _ h => h) rfl (fun wq hS => by go_simp) HY0.out ?_
                                try simp only [Act.put, List.setIfInBounds_toArray, List.set_cons_succ, List.set_cons_zero]
                                refine takeH 19 (some 245) (.bool false) rfl rfl (by kernel_rfl) (by kernel_rfl) (by kernel_rfl) (fun _ _ _ h => h) rfl (fun wq hS => by go_simp) HY0.out ?_
                                try simp only [Act.put, List.setIfInBounds_toArray, List.set_cons_succ, List.set_cons_zero]
                                refine takeH 20 (some 246) (.bool false) rfl rfl (by kernel_rfl) (by kernel_rfl) (by kernel_rfl) (fun _ _ _ h => h) rfl (fun wq hS => by go_simp) HY0.out ?_
                                try simp only [Act.put, List.setIfInBounds_toArray, List.set_cons_succ, List.set_cons_zero]
                                refine takeH 21 (some 247) (.bool false) rfl rfl (by kernel_rfl) (by kernel_rfl) (by kernel_rfl) (fun _ _ _ h => h) rfl (fun wq hS => by go_simp) HY0.out ?_
                                try simp only [Act.put, List.setIfInBounds_toArray, List.set_cons_succ, List.set_cons_zero]
                                refine takeH 22 (some 248) (.bool false) rfl rfl (by kernel_rfl) (by kernel_rfl) (by kernel_rfl) (fun _ _ _ h => h) rfl (fun wq hS => by go_simp) HY0.out ?_
                                try simp only [Act.put, List.setIfInBounds_toArray, List.set_cons_succ, List.set_cons_zero]
                                refine takeH 23 (some 249) (.pointer (some ⟨b, 0, none⟩)) rfl rfl (by kernel_rfl) (by kernel_rfl) (by kernel_rfl) (fun _ _ _ h => h) rfl (fun wq hS => by go_simp) HY0.out ?_
                                try simp only [Act.put, List.setIfInBounds_toArray, List.set_cons_succ, List.set_cons_zero]
                                refine takeH 24 (some 250) (.int .i64 (z : Int)) rfl rfl (by kernel_rfl) (by kernel_rfl) (by kernel_rfl) (fun _ _ _ h => h) rfl (fun wq hS => by go_simp) HY0.out ?_
                                try simp only [Act.put, List.setIfInBounds_toArray, List.set_cons_succ, List.set_cons_zero]
                                refine takeH 26 (some 252) (.pointer (some ⟨yb, 1, none⟩)) rfl rfl (by kernel_rfl) (by kernel_rfl) (by kernel_rfl) (fun _ _ _ h => h) rfl (fun wq hS => by go_simp) HY0.out ?_
                                try simp only [Act.put, List.setIfInBounds_toArray, List.set_cons_succ, List.set_cons_zero]
                                refine takeH 27 (some 253) (.int .i64 0) rfl rfl (by kernel_rfl) (by kernel_rfl) (by kernel_rfl) (fun _ _ _ h => h) rfl (fun wq hS => by have z := Blk.cell hS (i := 1) rfl; go_simp) HY0.out ?_
                                try simp only [Act.put, List.setIfInBounds_toArray, List.set_cons_succ, List.set_cons_zero]
                                refine oneH 25 (by kernel_rfl) rfl rfl fun K hK => ?_
                                go_simp
                                refine (HPN.out _ HB0.out.bo.co).mono ?_
                                rintro e w6 ⟨rfl, hb⟩
                                have HY6 := Lib.hid (HY0.out.below hb HY0.out.lt)
                                have HB6 := Lib.hid (HB0.out.below hb)
                                refine hK _ _ HY6.out ?_
                                clear hK K hb
                                try simp only [Act.put, List.setIfInBounds_toArray, List.set_cons_succ, List.set_cons_zero]
                                refine takeH 28 (some 254) (.bool false) rfl rfl (by kernel_rfl) (by kernel_rfl) (by kernel_rfl) (fun _ _ _ h => h) rfl (fun wq hS => by go_simp) HY6.out ?_
                                try simp only [Act.put, List.setIfInBounds_toArray, List.set_cons_succ, List.set_cons_zero]
                                refine takeH 29 (some 255) (.bool false) rfl rfl (by kernel_rfl) (by kernel_rfl) (by kernel_rfl) (fun _ _ _ h => h) rfl (fun wq hS => by go_simp) HY6.out ?_
                                try simp only [Act.put, List.setIfInBounds_toArray, List.set_cons_succ, List.set_cons_zero]
                                refine wpAnyH_done (by kernel_rfl) ?_ _
                                go_wp2_with fail
                                go_meet
                                exact ⟨rfl, HB6.out⟩
                              case rest =>
                                as_aux_lemma =>
                                  obtain ⟨rfl, h1⟩ := hcut
                                  have HXC := Lib.hid h1
                                  clear h1
                                  go_wp2_with fail
                                  go_roundg (M + 2 - (j + 1))
                                  case measure => omega
                                  case rel => exact ⟨j + 1, by omega, by omega, by have := HII.out; exact congrArg (Value.int IntKind.i64) (by push_cast; omega), HXC.out⟩
                    · obtain rfl : j = M + 2 := by omega
                      have d0 : decide (ii ≤ (M : Int)) = false := decide_eq_false (by push_cast at hii; omega)
                      clear hii
                      go_wp2_with fail
                      go_roundg (l.length - (k + 1))
                      case measure => omega
                      case rel => exact ⟨k + 1, c5, by omega, by omega, by go_num, HXB.out.bo, HO5.out, HL5.out⟩
      · obtain rfl : k = l.length := by omega
        have hk1 : decide ((l.length : Int) < (l.length : Int)) = false := decide_eq_false (by omega)
        have hk2 : decide (l.length < l.length) = false := decide_eq_false (by omega)
        clear hbo
        go_wp2_with fail
        refine (wakes_any _).mono ?_
        rintro e w5 ⟨rfl, hb⟩
        have HB5 := Lib.hid (stay HK.out.bel hb)
        clear hb
        go_wp2_with fail
        go_ret
        exact ⟨rfl, HB5.out⟩

end Go.Proofs.Ytblfpakokhlkgaa
