/- The statement ClockKeys, walked. -/
import Derived.Test.YtblfpakokhlkgaaWk
import Derived.Test.YtblfpakokhlkgaaSt
import Derived.Deep.Cut
import Derived.Deep.CutRange
import Derived.RegionTactic
import Derived.BigQuiet
import Derived.Deep.QuietTactic
namespace Go.Proofs.Ytblfpakokhlkgaa
set_option linter.unusedSimpArgs false
set_option linter.unusedVariables false
open Go.RowKit

theorem i64s_set (l : List Int) (i : Nat) (v : Int) : (i64s l).set i (.int .i64 v) = i64s (l.set i v) := by simp [i64s, List.map_set]
theorem info3b : (Try.prog.info? 3).map (fun i => (i.zero, i.size, i.bytes)) = some (some (.int .i64 0), 1, 8) := by kernel_rfl
theorem make47 (n : Nat) (hn : n ≤ 1000) (w : World) : (Instr.makeSlice 47 (.int .i64 (n : Int)) (.int .i64 (n : Int))).run Try.prog w = .ok (.slice (some ⟨w.heap.size, 0, none⟩) n n) (w.alloc (.cells (Array.replicate n (Value.int .i64 0)) 3)) := by
  obtain ⟨i, hi, hz, hs, hb⟩ : ∃ i, Try.prog.info? 3 = some i ∧ i.zero = some (.int .i64 0) ∧ i.size = 1 ∧ i.bytes = 8 := by
    have := info3b
    cases hq : Try.prog.info? 3 with
    | none => simp [hq] at this
    | some i => simp [hq] at this; exact ⟨i, rfl, this⟩
  have := run_makeSlice (P := Try.prog) w 47 3 i _ Try.underlying47 hi hz .i64 .i64 n n (by omega) (Int.le_refl _) (by rw [hs]; omega) (by rw [hb]; omega) (by omega)
  rw [hs] at this
  have e : madeCells #[.int .i64 0] n = Array.replicate n (Value.int .i64 0) := by
    apply Array.ext
    · simp [madeCells]
    · intro j h1 h2
      simp [madeCells, Nat.mod_one]
  rw [Nat.mul_one, Int.toNat_natCast] at this
  rw [this, show (Value.int IntKind.i64 0).cells = #[.int .i64 0] from rfl, e]
/-- A clock at b and r, and a row of numbers at q, all made since w. -/
structure KS (w wr : World) (b r cap : Nat) (q : Nat) (c : Ck) (l : List Int) : Prop where
  at' : At encC wr b r cap [] c
  row : Blk wr q (i64s l)
  nb : q ≠ b
  nr : q ≠ r
  bel : Below w.heap.size w wr
  lb : w.heap.size ≤ b
  lr : w.heap.size ≤ r
  lq : w.heap.size ≤ q
theorem KS.below {w wr w' : World} {b r cap q : Nat} {c : Ck} {l : List Int} (h : KS w wr b r cap q c l) (hb : Below wr.heap.size wr w') : KS w w' b r cap q c l :=
  ⟨h.at'.below hb, h.row.below hb h.row.lt, h.nb, h.nr, stay h.bel hb, h.lb, h.lr, h.lq⟩
theorem KS.drewN {w wr : World} {b r cap q : Nat} {c : Ck} {l : List Int} (h : KS w wr b r cap q c l) (n : Nat) : KS w (wr.drewN n) b r cap q c l := h.below (drewN_below (Below.refl _ _) n)
/-- The clock turned. -/
theorem KS.turn {w wr w' : World} {b r cap q : Nat} {c d : Ck} {l : List Int} (h : KS w wr b r cap q c l) (ha : At encC w' b r cap [] d) (ho : Only (foot b r) wr w') : KS w w' b r cap q d l :=
  ⟨ha, h.row.only ho (fun hf => by rcases hf with e | e; exact h.nb e; exact h.nr e), h.nb, h.nr, h.bel.trans (ho.below h.bel.size fun k hk => by rcases hk with rfl | rfl; exact h.lb; exact h.lr), h.lb, h.lr, h.lq⟩
/-- The row turned. -/
theorem KS.set {w wr : World} {b r cap q : Nat} {c : Ck} {l : List Int} (h : KS w wr b r cap q c l) (i : Nat) (v : Int) : KS w (wr.setCell ⟨q, i, none⟩ (.int .i64 v)) b r cap q c (l.set i v) :=
  ⟨⟨h.at'.blk.setOther h.nb.symm _, h.at'.row.setOther h.nr.symm _, h.at'.ne⟩, by rw [← i64s_set]; exact h.row.set i _, h.nb, h.nr, h.bel.setCell h.lq _, h.lb, h.lr, h.lq⟩
theorem KS.cell {w wr : World} {b r cap q : Nat} {c : Ck} {l : List Int} (h : KS w wr b r cap q c l) {i : Nat} {v : Int} (hi : l[i]? = some v) : wr.cell? ⟨q, i, none⟩ = some (.int .i64 v) := h.row.cell (by simp [i64s, hi])
/-- A variable of one's own, newer than all of it. -/
theorem fresh_blk {w : World} {b : Nat} {l : List Value} (h : Blk w b l) {w' : World} (hb : Below w.heap.size w w') : Blk w' b l := h.below hb h.lt
theorem mod16 (n : Nat) : ∃ m : Nat, ((n : Int).tmod 16 = (m : Int)) ∧ m < 16 := ⟨n % 16, by rfl, by omega⟩

/-- And a variable of one's own. -/
structure KX (w wr : World) (b r cap q : Nat) (c : Ck) (l : List Int) (xb : Nat) (X : List Value) : Prop where
  ks : KS w wr b r cap q c l
  x : Blk wr xb X
  n1 : xb ≠ b
  n2 : xb ≠ r
  n3 : xb ≠ q
section
variable {w wr w' : World} {b r cap q : Nat} {c d : Ck} {l : List Int} {xb : Nat} {X : List Value}
theorem KX.below (h : KX w wr b r cap q c l xb X) (hb : Below wr.heap.size wr w') : KX w w' b r cap q c l xb X := ⟨h.ks.below hb, h.x.below hb h.x.lt, h.n1, h.n2, h.n3⟩
theorem KX.drewN (h : KX w wr b r cap q c l xb X) (n : Nat) : KX w (wr.drewN n) b r cap q c l xb X := h.below (drewN_below (Below.refl _ _) n)
theorem KX.turn (h : KX w wr b r cap q c l xb X) (ha : At encC w' b r cap [] d) (ho : Only (foot b r) wr w') : KX w w' b r cap q d l xb X :=
  ⟨h.ks.turn ha ho, h.x.only ho (fun hf => by rcases hf with e | e; exact h.n1 e; exact h.n2 e), h.n1, h.n2, h.n3⟩
theorem KX.set (h : KX w wr b r cap q c l xb X) (i : Nat) (v : Int) : KX w (wr.setCell ⟨q, i, none⟩ (.int .i64 v)) b r cap q c (l.set i v) xb X := ⟨h.ks.set i v, h.x.setOther h.n3 _, h.n1, h.n2, h.n3⟩
theorem KS.box (h : KS w wr b r cap q c l) (cs : Array Value) (t : TypeId) : KX w (wr.alloc (.cells cs t)) b r cap q c l wr.heap.size cs.toList := by
  refine ⟨h.below (alloc_below wr _), Blk.new wr cs t, ?_, ?_, ?_⟩
  · have := h.at'.blk.lt; omega
  · have := h.at'.row.lt; omega
  · have := h.row.lt; omega
end
theorem may_free {c : Ck} (h : c.Ok 0) (i : Int) : c.may i = (c.get i).isSome := by
  unfold Ck.may
  cases hg : c.get i with
  | none => rfl
  | some f =>
    obtain ⟨k, rfl, -, hk⟩ := Ck.get_some hg
    have := (h.all k f hk).p1
    simp [Fm.P]
    omega
theorem key_of {B : Nat} {f : Fm} (h : f.Ok B) (hk : f.K = false) : f.key = -1 := by
  have : f.key < 0 := by simpa [Fm.K] using hk
  rw [h.none this]
theorem find_of {B : Nat} {c : Ck} (ho : c.Ok B) {ky : Int} {u : Nat} {f : Fm} (hu : c.l[u]? = some f) (hk : isKey ky f = true) : c.find ky = some u := by
  cases hf : c.find ky with
  | none => exact absurd (first_none hf u f hu) (by simp [hk])
  | some v =>
    obtain ⟨j, g, e, hj, hg, -⟩ := first_some hf
    simp only [isKey, Fm.K, Bool.and_eq_true, decide_eq_true_eq] at hk hg
    have := ho.one j u g f hj hu hg.1 (by omega)
    rw [e, this, Nat.zero_add]
theorem find_not {c : Ck} {ky : Int} (h : ∀ (u : Nat) (f : Fm), u < c.l.length → c.l[u]? = some f → isKey ky f = false) : c.find ky = none := by
  cases hf : c.find ky with
  | none => rfl
  | some v =>
    obtain ⟨j, g, e, hj, hg, -⟩ := first_some hf
    have := h j g (List.getElem?_eq_some_iff.1 hj).1 hj
    rw [hg] at this
    cases this
theorem fill_step (M k : Nat) (hk : k < M) : (List.replicate k (-1 : Int) ++ List.replicate (M - k) 0).set k (-1) = List.replicate (k + 1) (-1) ++ List.replicate (M - (k + 1)) 0 := by
  obtain ⟨d, rfl⟩ : ∃ d, M = k + d + 1 := ⟨M - k - 1, by omega⟩
  rw [show k + d + 1 - k = d + 1 by omega, show k + d + 1 - (k + 1) = d by omega, List.set_append_right _ _ (by simp), List.length_replicate, Nat.sub_self, List.replicate_succ, List.set_cons_zero, List.replicate_succ', List.append_assoc]
  rfl
set_option maxHeartbeats 8000000 in
set_option maxRecDepth 100000 in
theorem keys_any (w : World) (n : Nat) (hn : n < 256) (l : List St) (v1 : Value) (hl : StepsAt w v1 l) : Calls Try.prog 7 #[.int .u8 n, v1] w fun e w' => e = .returned (.bool true) ∧ Below w.heap.size w w' := by
  have HS := Lib.hid hl
  obtain ⟨sa, sc, rfl, -⟩ := hl
  obtain ⟨m, hm, hm16⟩ := mod16 n
  have HM16 := Lib.hid hm16
  obtain ⟨M, hM⟩ : ∃ M : Nat, M = 1 + m := ⟨_, rfl⟩
  have HM : Hid (1 ≤ M ∧ M ≤ 16) := Lib.hid (by omega)
  have gw : IntKind.i64.wrap (1 + (m : Int)) = (M : Int) := by rw [wrap63 (by omega) (by omega)]; omega
  have gn : IntKind.i64.wrap (n : Int) = (n : Int) := wrap63 (by omega) (by omega)
  have HN := Lib.hid (new_yes w M (by omega) (by omega))
  clear hM hm16 hn
  go_enter Try.func7, Try.ntmps7
  go_wp2_with fail
  refine HN.out.mono ?_
  rintro e w1 ⟨b, r, rfl, ha, hb, h1, h2⟩
  have HA1 := Lib.hid ha
  have HB1 := Lib.hid hb
  have HL1 : Hid (w.heap.size ≤ b ∧ w.heap.size ≤ r) := Lib.hid ⟨h1, h2⟩
  clear ha hb h1 h2 HN hm gw gn
  by_cases hl0 : 150 < l.length
  · have dl : decide ((150 : Int) < (l.length : Int)) = true := decide_eq_true (by omega)
    go_wp2_with fail
    refine (wakes_any _).mono ?_
    rintro e w2 ⟨rfl, hb⟩
    have HB2 := Lib.hid (stay HB1.out hb)
    clear hb
    go_wp2_with fail
    go_ret
    exact ⟨rfl, HB2.out⟩
  have dl : decide ((150 : Int) < (l.length : Int)) = false := decide_eq_false (by omega)
  have HLL : Hid (l.length ≤ 150) := Lib.hid (by omega)
  clear hl0
  have mk := make47 M (by have := HM.out; omega)
  go_wp2_with fail
  have HK0 : Hid (KS w (w1.alloc (.cells (Array.replicate M (.int .i64 0)) 3)) b r M w1.heap.size (newCk M) (List.replicate M 0)) := Lib.hid (by
    have hb := alloc_below w1 (.cells (Array.replicate M (.int .i64 0)) 3)
    refine ⟨HA1.out.below hb, ?_, ?_, ?_, stay HB1.out hb, HL1.out.1, HL1.out.2, HB1.out.size⟩
    · refine Blk.newAt _ _ _ rfl ?_
      simp [i64s]
    · have := HA1.out.blk.lt; omega
    · have := HA1.out.row.lt; omega)
  generalize w1.alloc (.cells (Array.replicate M (.int .i64 0)) 3) = w2 at *
  generalize w1.heap.size = q at *
  clear mk HA1 HB1 HL1
  go_loopg [9] M (fun g i wr => ∃ k : Nat, M - k ≤ g ∧ k ≤ M ∧ i = .int .i64 k ∧ KS w wr b r M q (newCk M) (List.replicate k (-1) ++ List.replicate (M - k) 0))
  case atStart => exact ⟨0, by omega, by omega, rfl, HK0.out⟩
  case round =>
    as_aux_lemma =>
      obtain ⟨k, hq, hk, rfl, hks⟩ := hrel
      have HK := Lib.hid hks
      by_cases hlt : k < M
      · have hk1 : (k : Int) < (M : Int) := by omega
        have x0 := hks.cell (i := k) (v := 0) (by rw [List.getElem?_append_right (by simp), List.length_replicate, Nat.sub_self, List.getElem?_replicate, if_pos (by omega)])
        have z0 := hks.row.frozen k
        have HKS : Hid (KS w (wr.setCell ⟨q, k, none⟩ (.int .i64 (-1))) b r M q (newCk M) (List.replicate (k + 1) (-1) ++ List.replicate (M - (k + 1)) 0)) := Lib.hid (by rw [← fill_step M k hlt]; exact hks.set k (-1))
        have gk : IntKind.i64.wrap ((k : Int) + 1) = (k : Int) + 1 := by have := HM.out; exact wrap63 (by omega) (by omega)
        clear hks
        go_wp2_with fail
        go_roundg (M - (k + 1))
        case measure => omega
        case rel => exact ⟨k + 1, by omega, by omega, by go_num, HKS.out⟩
      · obtain rfl : k = M := by omega
        have hk1 : ¬ (k : Int) < (k : Int) := by omega
        have HK1 : Hid (KS w wr b r k q (newCk k) ((newCk k).l.map Fm.key)) := Lib.hid (by
          have h2 := hks
          rw [Nat.sub_self, List.replicate_zero, List.append_nil] at h2
          simpa [newCk] using h2)
        have HO1 : Hid ((newCk k).Ok 0) := Lib.hid (newCk_ok HM.out.1 HM.out.2)
        have HL1 : Hid ((newCk k).l.length = k) := Lib.hid (by simp [newCk])
        clear hks HK0 hq hk
        generalize wr = w3 at *
        generalize newCk k = c0 at *
        generalize k = M at *
        go_wp2_with fail
        go_loopg [10] l.length (fun g i wr => ∃ (k : Nat) (c : Ck), l.length - k ≤ g ∧ k ≤ l.length ∧ i = .int .i64 k ∧ KS w wr b r M q c (c.l.map Fm.key) ∧ c.Ok 0 ∧ c.l.length = M)
        case atStart => exact ⟨0, c0, by omega, by omega, rfl, HK1.out, HO1.out, HL1.out⟩
        case round =>
          as_aux_lemma =>
            obtain ⟨k, c, hq, hk, rfl, hks, hok, hlen⟩ := hrel
            have HK := Lib.hid hks
            have HO := Lib.hid hok
            have HLN := Lib.hid hlen
            clear hok hlen HK1 HO1 HL1
            by_cases hlt : k < l.length
            · have hk1 : (k : Int) < (l.length : Int) := by omega
              have gk : IntKind.i64.wrap ((k : Int) + 1) = (k : Int) + 1 := by have := HLL.out; exact wrap63 (by omega) (by omega)
              obtain ⟨x, hx⟩ : ∃ x, l[k]? = some x := ⟨_, List.getElem?_eq_getElem hlt⟩
              obtain ⟨a', cap', e, hc⟩ := HS.out.below hks.bel
              cases e
              obtain ⟨hw, b', o, rfl, hst⟩ := hc k x hx
              obtain ⟨kd, fr, ky⟩ := x
              have s0 := hst.kind
              have s1 := hst.frame
              have s2 := hst.key
              simp only at s0 s1 s2
              have HWK : Hid (Small ky) := Lib.hid hw.key
              clear hks hst hc hw hx
              go_wp2_with fail
              have HX0 : Hid (KX w (wr.alloc (.cells #[.int .i64 kd, .int .i64 fr, .int .i64 ky] 32)) b r M q c (c.l.map Fm.key) wr.heap.size [.int .i64 kd, .int .i64 fr, .int .i64 ky]) := Lib.hid (HK.out.box _ _)
              clear s0 s1 s2
              generalize wr.alloc (.cells #[.int .i64 kd, .int .i64 fr, .int .i64 ky] 32) = wx at *
              generalize wr.heap.size = xb at *
              go_loopg [12, 13] M (fun g s12 s13 wq => ∃ (j : Nat) (t : Int), M - j ≤ g ∧ j ≤ M ∧ s12 = .int .i64 t ∧ s13 = .int .i64 j ∧ ((t = -1 ∧ ∀ (u : Nat) (f : Fm), u < j → c.l[u]? = some f → isKey ky f = false) ∨ ∃ (u : Nat) (f : Fm), u < j ∧ t = u ∧ c.l[u]? = some f ∧ isKey ky f = true) ∧ KX w wq b r M q c (c.l.map Fm.key) xb [.int .i64 kd, .int .i64 fr, .int .i64 ky])
              case atStart => exact ⟨0, -1, by omega, by omega, rfl, rfl, .inl ⟨rfl, fun u f hu => by omega⟩, HX0.out⟩
              case round =>
                as_aux_lemma =>
                  obtain ⟨j, t, hq3, hj, rfl, rfl, ht, hkx⟩ := hrel
                  have HK3 := Lib.hid hkx
                  have HT := Lib.hid ht
                  clear ht
                  by_cases hltj : j < M
                  · have hj1 : (j : Int) < (M : Int) := by omega
                    obtain ⟨f, hfj⟩ : ∃ f, c.l[j]? = some f := ⟨_, List.getElem?_eq_getElem (by rw [HLN.out]; exact hltj)⟩
                    have HJ := Lib.hid hfj
                    have y0 := hkx.ks.cell (i := j) (v := f.key) (by simp [hfj])
                    have p2 := hkx.x.cell (i := 2) rfl
                    have gj : IntKind.i64.wrap ((j : Int) + 1) = (j : Int) + 1 := by have := HM.out; exact wrap63 (by omega) (by omega)
                    have HNX : Hid (isKey ky f = false → (t = -1 ∧ ∀ (u : Nat) (f : Fm), u < j + 1 → c.l[u]? = some f → isKey ky f = false) ∨ ∃ (u : Nat) (f : Fm), u < j + 1 ∧ t = u ∧ c.l[u]? = some f ∧ isKey ky f = true) := Lib.hid fun hne => by
                      rcases HT.out with ⟨h1, h2⟩ | ⟨u, g, h1, h2, h3, h4⟩
                      · refine .inl ⟨h1, fun u g hu hg => ?_⟩
                        by_cases e : u = j
                        · subst e
                          rw [HJ.out] at hg
                          cases hg
                          exact hne
                        · exact h2 u g (by omega) hg
                      · exact .inr ⟨u, g, by omega, h2, h3, h4⟩
                    clear hkx hfj
                    by_cases h0 : 0 ≤ ky
                    · have k0 : decide (0 ≤ ky) = true := decide_eq_true h0
                      by_cases he : f.key = ky
                      · have e1 : (f.key == ky) = true := by simpa using he
                        have HY : Hid (isKey ky f = true) := Lib.hid (by simp [isKey, Fm.K, he, h0])
                        clear h0 he HNX
                        go_upto_region 18 with fail
                        go_quiet (fail)
                        go_wp2_with fail
                        go_roundg (M - (j + 1))
                        case measure => omega
                        case rel => exact ⟨j + 1, j, by omega, by omega, rfl, by go_num, .inr ⟨j, f, by omega, rfl, HJ.out, HY.out⟩, HK3.out.drewN _⟩
                      · have e1 : (f.key == ky) = false := by simpa using he
                        have HY := Lib.hid (HNX.out (by simp [isKey, he]))
                        clear h0 he HNX
                        go_upto_region 18 with fail
                        go_quiet (fail)
                        go_wp2_with fail
                        go_roundg (M - (j + 1))
                        case measure => omega
                        case rel => exact ⟨j + 1, t, by omega, by omega, rfl, by go_num, HY.out, HK3.out.drewN _⟩
                    · have k0 : decide (0 ≤ ky) = false := decide_eq_false h0
                      have HY := Lib.hid (HNX.out (by unfold isKey Fm.K; by_cases e : f.key = ky <;> simp [e]; omega))
                      clear h0 HNX
                      go_upto_region 18 with fail
                      go_quiet (fail)
                      go_wp2_with fail
                      go_roundg (M - (j + 1))
                      case measure => omega
                      case rel => exact ⟨j + 1, t, by omega, by omega, rfl, by go_num, HY.out, HK3.out.drewN _⟩
                  · obtain rfl : j = M := by omega
                    have hj1 : ¬ (j : Int) < (j : Int) := by omega
                    have P2 := hkx.x.cell (i := 2) rfl
                    clear hkx
                    generalize j = M at *
                    have HFD := Lib.hid (find_any wr b r M [] c HK3.out.ks.at' HO.out ky)
                    obtain ⟨fnd, hfnd⟩ : ∃ v, (c.find ky).isSome = v := ⟨_, rfl⟩
                    obtain ⟨fa, hfa⟩ : ∃ v : Int, (match c.find ky with | some u => (u : Int) | none => 0) = v := ⟨_, rfl⟩
                    have HTC : Hid ((c.find ky = none ∧ t = -1 ∧ fnd = false ∧ fa = 0) ∨ ∃ u : Nat, c.find ky = some u ∧ t = u ∧ fnd = true ∧ fa = u ∧ 0 ≤ ky) := Lib.hid (by
                      rcases HT.out with ⟨h1, hT⟩ | ⟨u, f0, hu, h1, hf0, hkf⟩
                      · have h2 := find_not fun u f hu hf => hT u f (by rw [← HLN.out]; exact hu) hf
                        rw [h2] at hfnd hfa
                        exact .inl ⟨h2, h1, hfnd.symm, hfa.symm⟩
                      · have h2 := find_of HO.out hf0 hkf
                        rw [h2] at hfnd hfa
                        simp only [isKey, Fm.K, Bool.and_eq_true, decide_eq_true_eq] at hkf
                        exact .inr ⟨u, h2, h1, hfnd.symm, hfa.symm, by omega⟩)
                    obtain ⟨isIn, hIn⟩ : ∃ v, (c.get fr).isSome = v := ⟨_, rfl⟩
                    have HIC : Hid ((c.get fr = none ∧ isIn = false ∧ (fr < 0 ∨ (M : Int) ≤ fr)) ∨ ∃ (z : Nat) (f : Fm), fr = z ∧ z < M ∧ c.l[z]? = some f ∧ isIn = true ∧ c.get z = some f) := Lib.hid (by
                      cases hg : c.get fr with
                      | none =>
                        have := Ck.get_none hg
                        rw [HLN.out] at this
                        rw [hg] at hIn
                        exact .inl ⟨rfl, hIn.symm, this⟩
                      | some f =>
                        obtain ⟨z, e, hz, hzf⟩ := Ck.get_some hg
                        rw [hg] at hIn
                        rw [e] at hg
                        exact .inr ⟨z, f, e, by rw [← HLN.out]; exact hz, hzf, hIn.symm, hg⟩)
                    have HMI : Hid (c.may fr = isIn) := Lib.hid (by rw [may_free HO.out, hIn])
                    clear hfnd hfa hIn HT
                    generalize wr = wy at *
                    go_upto_region 20 with fail
                    go_cut [14, 15] from 59 to 202 (fun s14 s15 wz => s14 = .int .i64 fa ∧ s15 = .bool fnd ∧ KX w wz b r M q c (c.l.map Fm.key) xb [.int .i64 kd, .int .i64 fr, .int .i64 ky])
                    case first =>
                      rcases HTC.out with ⟨h1, rfl, rfl, rfl⟩ | ⟨u, h1, rfl, rfl, rfl, h2⟩
                      · rw [h1] at HFD
                        simp only [findR] at HFD
                        clear h1
                        go_wp2_with fail
                        refine HFD.out.mono ?_
                        rintro e w4 ⟨rfl, hb⟩
                        have HK4 := Lib.hid (HK3.out.below hb)
                        clear hb
                        go_wp2_with fail
                        go_meet
                        exact ⟨rfl, rfl, HK4.out⟩
                      · rw [h1] at HFD
                        simp only [findR] at HFD
                        clear h1 h2
                        go_wp2_with fail
                        refine HFD.out.mono ?_
                        rintro e w4 ⟨rfl, hb⟩
                        have HK4 := Lib.hid (HK3.out.below hb)
                        clear hb
                        go_wp2_with fail
                        go_meet
                        exact ⟨rfl, rfl, HK4.out⟩
                    case rest =>
                      as_aux_lemma =>
                        obtain ⟨rfl, rfl, hkx⟩ := hcut
                        have HK4 := Lib.hid hkx
                        clear hkx HFD HK3 P2
                        go_upto_region 21 with fail
                        go_cut [105] from 59 to 202 (fun s105 wz => s105 = .bool false ∧ KX w wz b r M q c (c.l.map Fm.key) xb [.int .i64 kd, .int .i64 fr, .int .i64 ky])
                        case first =>
                          rcases HTC.out with ⟨h1, rfl, rfl, rfl⟩ | ⟨u, h1, rfl, rfl, rfl, h2⟩
                          · clear h1
                            go_wp2_with fail
                            go_meet
                            exact ⟨rfl, HK4.out⟩
                          · have u0 : decide (0 ≤ (u : Int)) = true := decide_eq_true (by omega)
                            clear h1 h2
                            go_wp2_with fail
                            go_meet
                            exact ⟨rfl, HK4.out⟩
                        case rest =>
                          as_aux_lemma =>
                            obtain ⟨rfl, hkx⟩ := hcut
                            have HK5 := Lib.hid hkx
                            have p1 := hkx.x.cell (i := 1) rfl
                            clear hkx HK4
                            go_upto_region 23 with fail
                            go_cut [16] from 59 to 202 (fun s16 wz => s16 = .bool isIn ∧ KX w wz b r M q c (c.l.map Fm.key) xb [.int .i64 kd, .int .i64 fr, .int .i64 ky])
                            case first =>
                              rcases HIC.out with ⟨h1, rfl, h2⟩ | ⟨z, f, rfl, h1, h2, rfl, h3⟩
                              · by_cases hf0 : 0 ≤ fr
                                · have j0 : decide (0 ≤ fr) = true := decide_eq_true hf0
                                  have j1 : decide (fr < (M : Int)) = false := decide_eq_false (by omega)
                                  clear h1 h2 hf0
                                  go_wp2_with fail
                                  go_meet
                                  exact ⟨rfl, HK5.out⟩
                                · have j0 : decide (0 ≤ fr) = false := decide_eq_false hf0
                                  clear h1 h2 hf0
                                  go_wp2_with fail
                                  go_meet
                                  exact ⟨rfl, HK5.out⟩
                              · have j0 : decide (0 ≤ (z : Int)) = true := decide_eq_true (by omega)
                                have j1 : decide ((z : Int) < (M : Int)) = true := decide_eq_true (by omega)
                                have hz0 : z < M := h1
                                clear h1 h2 h3
                                go_wp2_with fail
                                go_meet
                                exact ⟨rfl, HK5.out⟩
                            case rest =>
                              as_aux_lemma =>
                                obtain ⟨rfl, hkx⟩ := hcut
                                have HK6 := Lib.hid hkx
                                have q0 := hkx.x.cell (i := 0) rfl
                                have q1 := hkx.x.cell (i := 1) rfl
                                have q2 := hkx.x.cell (i := 2) rfl
                                clear hkx HK5 p1
                                generalize wc = w7 at *
                                by_cases h4 : kd = 4
                                · have d4 : (kd == 4) = true := by simpa using h4
                                  clear h4
                                  have HD := Lib.hid (drop_any w7 b r M [] c HK6.out.ks.at' HO.out fr)
                                  rcases HIC.out with ⟨h1, rfl, h2⟩ | ⟨z, f, rfl, h1, h2, rfl, h3⟩
                                  · rw [HMI.out, drop_no HMI.out] at HD
                                    clear h1 h2
                                    go_wp2_with fail
                                    refine HD.out.mono ?_
                                    rintro e w5 ⟨rfl, ha, hon⟩
                                    have HK7 := Lib.hid (HK6.out.turn ha hon)
                                    clear ha hon
                                    go_wp2_with fail
                                    go_roundg (l.length - (k + 1))
                                    case measure => omega
                                    case rel => exact ⟨k + 1, c, by omega, by omega, by go_num, HK7.out.ks, HO.out, HLN.out⟩
                                  · rw [HMI.out, drop_yes HMI.out] at HD
                                    have HQ : Hid ((c.l.map Fm.key)[z]? = some f.key) := Lib.hid (by simp [h2])
                                    have HO5 := Lib.hid (HO.out.drop z)
                                    rw [drop_yes HMI.out] at HO5
                                    have HL5 : Hid (({ c with l := c.l.set z noFm } : Ck).l.length = M) := Lib.hid (by simpa using HLN.out)
                                    have hz1 : (z : Int) < (M : Int) := by omega
                                    clear h1 h2 h3
                                    go_wp2_with fail
                                    refine HD.out.mono ?_
                                    rintro e w5 ⟨rfl, ha, hon⟩
                                    have HK7 := Lib.hid (HK6.out.turn ha hon)
                                    have o1 := HK7.out.x.cell (i := 1) rfl
                                    have y0 := HK7.out.ks.cell HQ.out
                                    have y1 := HK7.out.ks.row.frozen z
                                    have HK8 : Hid (KX w (w5.setCell ⟨q, z, none⟩ (.int .i64 (-1))) b r M q { c with l := c.l.set z noFm } (({ c with l := c.l.set z noFm } : Ck).l.map Fm.key) xb [.int .i64 kd, .int .i64 z, .int .i64 ky]) := Lib.hid (by
                                      have h := HK7.out.set z (-1)
                                      have e : ({ c with l := c.l.set z noFm } : Ck).l.map Fm.key = (c.l.map Fm.key).set z (-1) := by simp [List.map_set]
                                      rw [e]
                                      exact h)
                                    clear ha hon
                                    go_wp2_with fail
                                    go_roundg (l.length - (k + 1))
                                    case measure => omega
                                    case rel => exact ⟨k + 1, _, by omega, by omega, by go_num, HK8.out.ks, HO5.out, HL5.out⟩
                                · have d4 : (kd == 4) = false := by simpa using h4
                                  clear h4
                                  have HP := Lib.hid (put_any w7 b r M [] c HK6.out.ks.at' HO.out fr ky)
                                  obtain ⟨mp, hmp⟩ : ∃ v, c.mayPut fr ky = v := ⟨_, rfl⟩
                                  have HMP := Lib.hid hmp
                                  rw [hmp] at HP
                                  have HPC : Hid (mp = (isIn && (decide (0 ≤ ky) && (match c.find ky with | some k => decide ((k : Int) = fr) | none => true)))) := Lib.hid (by
                                    rw [← hmp]
                                    unfold Ck.mayPut
                                    rw [HMI.out]
                                    cases c.find ky <;> cases isIn <;> simp)
                                  clear hmp
                                  go_upto_region 29 with fail
                                  go_cut [151] from 59 to 202 (fun s151 wz => s151 = .bool false ∧ KX w wz b r M q (c.put fr ky) (c.l.map Fm.key) xb [.int .i64 kd, .int .i64 fr, .int .i64 ky])
                                  case first =>
                                    rcases HIC.out with ⟨h1, rfl, h2⟩ | ⟨z, f, rfl, h1, h2, rfl, h3⟩
                                    · have e : mp = false := by rw [HPC.out]; rfl
                                      clear h1 h2 HPC
                                      subst e
                                      as_aux_lemma =>
                                        go_wp2_with fail
                                        refine HP.out.mono ?_
                                        rintro e w5 ⟨rfl, ha, hon⟩
                                        have HK7 := Lib.hid (HK6.out.turn ha hon)
                                        have o1 := HK7.out.x.cell (i := 1) rfl
                                        have o2 := HK7.out.x.cell (i := 2) rfl
                                        clear ha hon
                                        go_wp2_with fail
                                        go_meet
                                        exact ⟨rfl, HK7.out⟩
                                    · clear h1 h2 h3
                                      rcases HTC.out with ⟨g1, rfl, rfl, rfl⟩ | ⟨u, g1, rfl, rfl, rfl, g2⟩
                                      · rw [g1] at HPC
                                        by_cases h0 : 0 ≤ ky
                                        · have k0 : decide (0 ≤ ky) = true := decide_eq_true h0
                                          have e : mp = true := by rw [HPC.out, k0]; rfl
                                          clear g1 h0 HPC
                                          subst e
                                          as_aux_lemma =>
                                            go_wp2_with fail
                                            refine HP.out.mono ?_
                                            rintro e w5 ⟨rfl, ha, hon⟩
                                            have HK7 := Lib.hid (HK6.out.turn ha hon)
                                            have o1 := HK7.out.x.cell (i := 1) rfl
                                            have o2 := HK7.out.x.cell (i := 2) rfl
                                            clear ha hon
                                            go_wp2_with fail
                                            go_meet
                                            exact ⟨rfl, HK7.out⟩
                                        · have k0 : decide (0 ≤ ky) = false := decide_eq_false h0
                                          have e : mp = false := by rw [HPC.out, k0]; rfl
                                          clear g1 h0 HPC
                                          subst e
                                          as_aux_lemma =>
                                            go_wp2_with fail
                                            refine HP.out.mono ?_
                                            rintro e w5 ⟨rfl, ha, hon⟩
                                            have HK7 := Lib.hid (HK6.out.turn ha hon)
                                            have o1 := HK7.out.x.cell (i := 1) rfl
                                            have o2 := HK7.out.x.cell (i := 2) rfl
                                            clear ha hon
                                            go_wp2_with fail
                                            go_meet
                                            exact ⟨rfl, HK7.out⟩
                                      · rw [g1] at HPC
                                        have k0 : decide (0 ≤ ky) = true := decide_eq_true g2
                                        have u1 : decide ((u : Int) < 0) = false := decide_eq_false (by omega)
                                        by_cases hu : u = z
                                        · have e : mp = true := by rw [HPC.out, k0, hu]; simp
                                          have ez : ((u : Int) == (z : Int)) = true := by simp [hu]
                                          clear g1 g2 hu HPC
                                          subst e
                                          as_aux_lemma =>
                                            go_wp2_with fail
                                            refine HP.out.mono ?_
                                            rintro e w5 ⟨rfl, ha, hon⟩
                                            have HK7 := Lib.hid (HK6.out.turn ha hon)
                                            have o1 := HK7.out.x.cell (i := 1) rfl
                                            have o2 := HK7.out.x.cell (i := 2) rfl
                                            clear ha hon
                                            go_wp2_with fail
                                            go_meet
                                            exact ⟨rfl, HK7.out⟩
                                        · have hu2 : ¬ (u : Int) = (z : Int) := by omega
                                          have e : mp = false := by rw [HPC.out, k0]; simp only [hu2]; rfl
                                          have ez : ((u : Int) == (z : Int)) = false := by simp only [beq_eq_false_iff_ne]; exact hu2
                                          clear g1 g2 hu hu2 HPC
                                          subst e
                                          as_aux_lemma =>
                                            go_wp2_with fail
                                            refine HP.out.mono ?_
                                            rintro e w5 ⟨rfl, ha, hon⟩
                                            have HK7 := Lib.hid (HK6.out.turn ha hon)
                                            have o1 := HK7.out.x.cell (i := 1) rfl
                                            have o2 := HK7.out.x.cell (i := 2) rfl
                                            clear ha hon
                                            go_wp2_with fail
                                            go_meet
                                            exact ⟨rfl, HK7.out⟩
                                  case rest =>
                                    as_aux_lemma =>
                                      obtain ⟨rfl, hkx⟩ := hcut
                                      have HK8 := Lib.hid hkx
                                      have r1 := hkx.x.cell (i := 1) rfl
                                      have r2 := hkx.x.cell (i := 2) rfl
                                      clear hkx q0 q1 q2 HP HK6
                                      go_upto_region 31 with fail
                                      go_cut [167] from 59 to 202 (fun s167 wz => s167 = .bool mp ∧ KX w wz b r M q (c.put fr ky) (c.l.map Fm.key) xb [.int .i64 kd, .int .i64 fr, .int .i64 ky])
                                      case first =>
                                        rcases HIC.out with ⟨h1, rfl, h2⟩ | ⟨z, f, rfl, h1, h2, rfl, h3⟩
                                        · have e : mp = false := by rw [HPC.out]; rfl
                                          clear h1 h2 HPC
                                          subst e
                                          go_wp2_with fail
                                          go_meet
                                          exact ⟨rfl, HK8.out⟩
                                        · clear h1 h2 h3
                                          rcases HTC.out with ⟨g1, rfl, rfl, rfl⟩ | ⟨u, g1, rfl, rfl, rfl, g2⟩
                                          · rw [g1] at HPC
                                            by_cases h0 : 0 ≤ ky
                                            · have k0 : decide (0 ≤ ky) = true := decide_eq_true h0
                                              have e : mp = true := by rw [HPC.out, k0]; rfl
                                              clear g1 h0 HPC
                                              subst e
                                              go_wp2_with fail
                                              go_meet
                                              exact ⟨rfl, HK8.out⟩
                                            · have k0 : decide (0 ≤ ky) = false := decide_eq_false h0
                                              have e : mp = false := by rw [HPC.out, k0]; rfl
                                              clear g1 h0 HPC
                                              subst e
                                              go_wp2_with fail
                                              go_meet
                                              exact ⟨rfl, HK8.out⟩
                                          · rw [g1] at HPC
                                            have k0 : decide (0 ≤ ky) = true := decide_eq_true g2
                                            have u1 : decide ((u : Int) < 0) = false := decide_eq_false (by omega)
                                            by_cases hu : u = z
                                            · have e : mp = true := by rw [HPC.out, k0, hu]; simp
                                              have ez : ((u : Int) == (z : Int)) = true := by simp [hu]
                                              clear g1 g2 hu HPC
                                              subst e
                                              go_wp2_with fail
                                              go_meet
                                              exact ⟨rfl, HK8.out⟩
                                            · have hu2 : ¬ (u : Int) = (z : Int) := by omega
                                              have e : mp = false := by rw [HPC.out, k0]; simp only [hu2]; rfl
                                              have ez : ((u : Int) == (z : Int)) = false := by simp only [beq_eq_false_iff_ne]; exact hu2
                                              clear g1 g2 hu hu2 HPC
                                              subst e
                                              go_wp2_with fail
                                              go_meet
                                              exact ⟨rfl, HK8.out⟩
                                      case rest =>
                                        as_aux_lemma =>
                                          obtain ⟨rfl, hkx⟩ := hcut
                                          have HK9 := Lib.hid hkx
                                          have t1 := hkx.x.cell (i := 1) rfl
                                          have t2 := hkx.x.cell (i := 2) rfl
                                          clear hkx r1 r2 HK8
                                          generalize wc = w9 at *
                                          have HO5 := Lib.hid (HO.out.put fr ky HWK.out.2)
                                          have HL5 : Hid ((c.put fr ky).l.length = M) := Lib.hid (by rw [Ck.put_len, HLN.out])
                                          go_upto_if 167 with fail
                                          go_cut [] from 59 to 202 (fun wz => KX w wz b r M q (c.put fr ky) ((c.put fr ky).l.map Fm.key) xb [.int .i64 kd, .int .i64 fr, .int .i64 ky])
                                          case first =>
                                            cases mp with
                                            | false =>
                                              have HKA : Hid (KX w w9 b r M q (c.put fr ky) ((c.put fr ky).l.map Fm.key) xb [.int .i64 kd, .int .i64 fr, .int .i64 ky]) := Lib.hid (by
                                                have h := HK9.out
                                                rw [put_no HMP.out] at h ⊢
                                                exact h)
                                              go_wp2_with fail
                                              go_meet
                                              exact HKA.out
                                            | true =>
                                              rcases HIC.out with ⟨h1, h2, h3⟩ | ⟨z, f, rfl, h1, h2, h3, h4⟩
                                              · have := HPC.out
                                                rw [h2] at this
                                                cases this
                                              · have hz1 : (z : Int) < (M : Int) := by omega
                                                have HQ : Hid ((c.l.map Fm.key)[z]? = some f.key) := Lib.hid (by simp [h2])
                                                have y0 := HK9.out.ks.cell HQ.out
                                                have y1 := HK9.out.ks.row.frozen z
                                                have HKA : Hid (KX w (w9.setCell ⟨q, z, none⟩ (.int .i64 ky)) b r M q (c.put z ky) ((c.put z ky).l.map Fm.key) xb [.int .i64 kd, .int .i64 z, .int .i64 ky]) := Lib.hid (by
                                                  have h := HK9.out.set z ky
                                                  have e : (c.put z ky).l.map Fm.key = (c.l.map Fm.key).set z ky := by rw [put_yes HMP.out]; simp [List.map_set]
                                                  rw [e]
                                                  exact h)
                                                clear h1 h2 h3 h4
                                                go_wp2_with fail
                                                go_meet
                                                exact HKA.out
                                          case rest =>
                                            as_aux_lemma =>
                                              have HKA := Lib.hid hcut
                                              clear hcut t1 t2 HK9 HTC HIC HMI HMP HPC
                                              generalize wc = wd at *
                                              as_aux_lemma =>
                                                generalize c.put fr ky = c5 at *
                                                go_wp2_with fail
                                                go_loopg [17] M (fun g i wq => ∃ j : Nat, M - j ≤ g ∧ j ≤ M ∧ i = .int .i64 j ∧ KX w wq b r M q c5 (c5.l.map Fm.key) xb [.int .i64 kd, .int .i64 fr, .int .i64 ky])
                                                case atStart => exact ⟨0, by omega, by omega, rfl, HKA.out⟩
                                                case round =>
                                                  as_aux_lemma =>
                                                    obtain ⟨j, hq4, hj, rfl, hk4⟩ := hrel
                                                    have HK4 := Lib.hid hk4
                                                    by_cases hlt4 : j < M
                                                    · have hj1 : (j : Int) < (M : Int) := by omega
                                                      obtain ⟨f, hfj⟩ : ∃ f, c5.l[j]? = some f := ⟨_, List.getElem?_eq_getElem (by rw [HL5.out]; exact hlt4)⟩
                                                      have HF := Lib.hid (HO5.out.all j f hfj)
                                                      have HC : Hid (Calls Try.prog 27 #[.pointer (some ⟨b, 0, none⟩), .int .i64 j] wr fun e w' => e = .returned (keyR (some f)) ∧ Below wr.heap.size wr w') := Lib.hid (by
                                                        have := key_any wr b r M [] c5 hk4.ks.at' HO5.out j
                                                        rwa [Ck.get_nat, hfj] at this)
                                                      have HQ : Hid ((c5.l.map Fm.key)[j]? = some f.key) := Lib.hid (by simp [hfj])
                                                      have gj : IntKind.i64.wrap ((j : Int) + 1) = (j : Int) + 1 := by have := HM.out; exact wrap63 (by omega) (by omega)
                                                      simp only [keyR] at HC
                                                      clear hk4 hfj
                                                      cases hK : f.K with
                                                      | true =>
                                                        simp only [hK, if_true] at HC
                                                        have d0 : decide (0 ≤ f.key) = true := hK
                                                        clear hK
                                                        go_wp2_with fail
                                                        refine HC.out.mono ?_
                                                        rintro e w6 ⟨rfl, hb⟩
                                                        have HK6 := Lib.hid (HK4.out.below hb)
                                                        have y0 := HK6.out.ks.cell HQ.out
                                                        clear hb
                                                        go_wp2_with fail
                                                        go_roundg (M - (j + 1))
                                                        case measure => omega
                                                        case rel => exact ⟨j + 1, by omega, by omega, by go_num, HK6.out⟩
                                                      | false =>
                                                        simp only [hK, Bool.false_eq_true, if_false] at HC
                                                        have d0 : decide (0 ≤ f.key) = false := hK
                                                        clear hK
                                                        go_wp2_with fail
                                                        refine HC.out.mono ?_
                                                        rintro e w6 ⟨rfl, hb⟩
                                                        have HK6 := Lib.hid (HK4.out.below hb)
                                                        have y0 := HK6.out.ks.cell HQ.out
                                                        clear hb
                                                        go_wp2_with fail
                                                        go_roundg (M - (j + 1))
                                                        case measure => omega
                                                        case rel => exact ⟨j + 1, by omega, by omega, by go_num, HK6.out⟩
                                                    · obtain rfl : j = M := by omega
                                                      have hj1 : ¬ (j : Int) < (j : Int) := by omega
                                                      clear hk4
                                                      go_wp2_with fail
                                                      go_roundg (l.length - (k + 1))
                                                      case measure => omega
                                                      case rel => exact ⟨k + 1, c5, by omega, by omega, by go_num, HK4.out.ks, HO5.out, HL5.out⟩
            · obtain rfl : k = l.length := by omega
              have hk1 : ¬ (l.length : Int) < (l.length : Int) := by omega
              clear hks
              go_wp2_with fail
              refine (wakes_any _).mono ?_
              rintro e w5 ⟨rfl, hb⟩
              have HB5 := Lib.hid (stay HK.out.bel hb)
              clear hb
              go_wp2_with fail
              go_ret
              exact ⟨rfl, HB5.out⟩

end Go.Proofs.Ytblfpakokhlkgaa
