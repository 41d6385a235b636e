/- The contract of the document's Read. -/
import Derived.Test.YtdmjhpebpooiaaaRwrite
namespace Go.Proofs.Ytdmjhpebpooiaaa
open Go.RowKit
theorem RefIs.below {w w' : World} {base b sb : Nat} {lv : Value} {d : D} (h : RefIs w base b sb lv d) (hb : Below w.heap.size w w') : RefIs w' base b sb lv d := h.of fun k hk => hb.block k (h.foot_lt k hk).2
theorem RefIs.loose {w : World} {base b sb : Nat} {lv : Value} {d : D} (h : RefIs w base b sb lv d) {k : Nat} {p : Nat × Array Value} (hk : d.L[k]? = some p) : ∃ g cap, lv = .slice (some ⟨g, 0, none⟩) d.L.length cap ∧ w.cell? ⟨g, k * 65, none⟩ = some (.int .i64 p.1) ∧ ∀ x (hx : x < p.2.size), w.cell? ⟨g, k * 65 + 1 + x, none⟩ = some p.2[x] := by
  have hlt : k < d.L.length := (List.getElem?_eq_some_iff.1 hk).1
  obtain ⟨g, cap, e, _⟩ := h.own.form (by omega)
  have hown := h.own
  rw [e] at hown
  have hs := (h.hL p (List.mem_of_getElem? hk)).1
  refine ⟨g, cap, e, ?_, fun x hx => ?_⟩
  · rw [hown.cellAt (k * 65) (by omega)]
    have := flatL_at (fun p hp => (h.hL p hp).1) hk (j := 0) (by decide)
    rw [Nat.add_zero] at this
    rw [this]
    rfl
  · have h65 : 1 + x < 65 := by have := hs.size; omega
    rw [hown.cellAt (k * 65 + 1 + x) (by omega)]
    have := flatL_at (fun p hp => (h.hL p hp).1) hk (j := 1 + x) h65
    rw [Nat.add_assoc, this, Nat.add_comm 1 x]
    simp [hx]
theorem app_take_yes {S : List (Array Value)} {L : List (Nat × Array Value)} {k i : Nat} {s : Array Value} (hk : L[k]? = some (i, s)) (hi : i < S.length) : (app S (L.take (k + 1)))[i]? = some s := by
  obtain ⟨hlt, e⟩ := List.getElem?_eq_some_iff.1 hk
  rw [List.take_succ_eq_append_getElem hlt, e, app_snoc]
  simp [hi]
theorem app_take_no {S : List (Array Value)} {L : List (Nat × Array Value)} {k i j : Nat} {s : Array Value} (hk : L[k]? = some (j, s)) (hne : j ≠ i) : (app S (L.take (k + 1)))[i]? = (app S (L.take k))[i]? := by
  obtain ⟨hlt, e⟩ := List.getElem?_eq_some_iff.1 hk
  rw [List.take_succ_eq_append_getElem hlt, e, app_snoc]
  exact List.getElem?_set_ne hne
set_option maxRecDepth 100000 in
theorem rread_no (w : World) (base b sb : Nat) (lv : Value) (d : D) (h : RefIs w base b sb lv d) (i : Int) (hi : d.has i = false) :
    Calls Try.prog 18 #[.pointer (some ⟨b, 0, none⟩), .int .i64 i] w fun e w' => e = .returned (.tuple #[.agg (fillA 0), .int .i64 1]) ∧ Below w.heap.size w w' := by
  have HA := Lib.hid h
  clear h
  go_enter Try.func18, Try.ntmps18
  go_wp2_with fail
  have hb := Blk.newAt (w := w) (cs := (fillA 0)) 37 _ zeros64 rfl rfl
  obtain ⟨wA, hw⟩ : ∃ wA, wA = w.alloc (.cells (fillA 0) 37) := ⟨_, rfl⟩
  change Calls _ _ _ (w.alloc (.cells (fillA 0) 37)) _
  rw [← hw] at hb ⊢
  have HBel := Lib.hid (show Below w.heap.size w wA by rw [hw]; exact (Below.refl _ _).alloc (Nat.le_refl _) _)
  have H := Lib.hid (rhas_any wA base b sb lv d (HA.out.below HBel.out) i)
  rw [hi] at H
  have HB := Lib.hid hb
  clear hb hw hi
  refine H.out.mono ?_
  rintro e w' ⟨rfl, rfl⟩
  go_wp2_with (first | ((with_reducible refine isBuild ?_); refine wpList_build_g 37 rfl rfl _ (build37 _) ?_) | ((with_reducible refine isStore ?_); refine wpList_store_at rfl 37 _ _ rfl w.heap.size 0 (fillA 0) rfl rfl _ HB.out info37 (by simp [fillA, zeros64]) (fillA_sec 0).one ?_))
  have HZ := HB.out.row (splice zeros64 0 (fillA 0))
  rw [splice_all _ _ (by simp [fillA, zeros64])] at HZ
  refine bodyPost_ret (v := .tuple #[.agg (fillA 0), .int .i64 1]) (results_cell_tmp rfl _ _ w.heap.size 0 (fillA 0) _ _ rfl rfl Try.underlying37 rfl info37 ?_) rfl ⟨rfl, ?_⟩
  · rw [splice_all _ _ (by simp [fillA, zeros64])]
    exact HZ.cells _ rfl
  · exact ((Only.of_below (S := fun k => w.heap.size ≤ k) HBel.out).setRow (.inl (Nat.le_refl _)) _).below (Nat.le_refl _) (fun _ h => h)

set_option maxRecDepth 100000 in
set_option maxHeartbeats 1000000 in
theorem rread_yes (w : World) (base b sb : Nat) (lv : Value) (d : D) (h : RefIs w base b sb lv d) (hLn : d.L.length ≤ 1000000) (i : Nat) (hi : i < d.S.length) :
    Calls Try.prog 18 #[.pointer (some ⟨b, 0, none⟩), .int .i64 i] w fun e w' => e = .returned (.tuple #[.agg (d.read i), .int .i64 0]) ∧ Below w.heap.size w w' := by
  have HA := Lib.hid h
  have hlen := h.len
  have hi0 : (0 : Int) ≤ (i : Int) := by omega
  have hi1 : (i : Int) < (d.S.length : Int) := by omega
  have hh : d.has (i : Int) = true := by unfold D.has; simp [hi]
  obtain ⟨ac, cp, elv⟩ := h.lvShape
  have HLv := Lib.hid elv
  clear h elv
  go_enter Try.func18, Try.ntmps18
  go_wp2_with fail
  have hb := Blk.newAt (w := w) (cs := (fillA 0)) 37 _ zeros64 rfl rfl
  obtain ⟨wA, hw⟩ : ∃ wA, wA = w.alloc (.cells (fillA 0) 37) := ⟨_, rfl⟩
  change Calls _ _ _ (w.alloc (.cells (fillA 0) 37)) _
  rw [← hw] at hb ⊢
  have HBel := Lib.hid (show Below w.heap.size w wA by rw [hw]; exact (Below.refl _ _).alloc (Nat.le_refl _) _)
  have hA := HA.out.below HBel.out
  have H := Lib.hid (rhas_any wA base b sb lv d hA i)
  rw [hh] at H
  have HB := Lib.hid hb
  have c0 : wA.cell? ⟨b, 0, none⟩ = some (.slice (some ⟨sb, 0, none⟩) d.S.length d.S.length) := hA.blk.cell rfl
  obtain ⟨s0, hs0⟩ : ∃ s0, d.S[i]? = some s0 := ⟨_, List.getElem?_eq_getElem hi⟩
  have HS0 := Lib.hid (hA.hS s0 (List.mem_of_getElem? hs0))
  have HL0 := Lib.hid (flat_load hA.sec hA.hS hs0)
  have HSi := Lib.hid hs0
  clear hb hw hh hA hs0
  refine H.out.mono ?_
  rintro e w' ⟨rfl, rfl⟩
  go_wp2_with (first | ((with_reducible refine isLoad ?_); refine wpList_load_g 37 _ rfl sb (i * 64) rfl rfl s0 _ Try.underlying37 rfl (by rw [HS0.out.size]; exact info37) HL0.out ?_) | ((with_reducible refine isNew ?_); refine wpList_store_new 37 _ _ rfl rfl 37 _ s0 rfl rfl (by rw [HS0.out.size]; exact info37) (zeros_size _ HS0.out) HS0.out.one ?_; intro w2 hx hbx; have HX := Lib.hid hx; have HBx := Lib.hid hbx; clear hx hbx))
  have HR2 : Hid (Blk w2 w.heap.size zeros64) := Lib.hid (HB.out.below HBx.out HB.out.lt)
  have HBw : Hid (Below w.heap.size w w2) := Lib.hid (HBel.out.trans (HBx.out.mono HBel.out.size))
  have HNe : Hid (w.heap.size ≠ wA.heap.size) := Lib.hid (Nat.ne_of_lt HB.out.lt)
  clear c0
  go_loopg [7] d.L.length (fun g z wr => ∃ (k : Nat) (cs : Array Value), d.L.length - k ≤ g ∧ k ≤ d.L.length ∧ z = .int .i64 k ∧ (app d.S (d.L.take k))[i]? = some cs ∧ Blk wr wA.heap.size cs.toList ∧ Blk wr w.heap.size zeros64 ∧ Below w.heap.size w wr)
  case atStart => exact ⟨0, s0, by omega, by omega, rfl, HSi.out, HX.out, HR2.out, HBw.out⟩
  case round =>
    obtain ⟨k, cs, hg, hk, rfl, hcs, hx, hr, hbw⟩ := hrel
    have hA := HA.out.below hbw
    have c1 : wr.cell? ⟨b, 1, none⟩ = some lv := hA.blk.cell rfl
    rw [HLv.out] at c1
    have HCs := Lib.hid hcs
    have HXr := Lib.hid hx
    have HRr := Lib.hid hr
    have HBr := Lib.hid hbw
    have HSec : Hid (Sec cs) := Lib.hid (app_sec HA.out.hS (fun p hp => (HA.out.hL p (List.mem_of_mem_take hp)).1) cs (List.mem_of_getElem? hcs))
    clear hcs hx hr hbw
    by_cases hlt : k < d.L.length
    · have hk0 : (0 : Int) ≤ (k : Int) := by omega
      have hk1 : (k : Int) < (d.L.length : Int) := by omega
      obtain ⟨p, hp⟩ : ∃ p, d.L[k]? = some p := ⟨_, List.getElem?_eq_getElem hlt⟩
      obtain ⟨j, s⟩ := p
      obtain ⟨g, cap, elv, cI, cS⟩ := hA.loose hp
      have HSs : Hid (Sec s) := Lib.hid (hA.hL _ (List.mem_of_getElem? hp)).1
      have HP := Lib.hid hp
      have HcS := Lib.hid cS
      have eac : ac = some ⟨g, 0, none⟩ := by
        have := HLv.out.symm.trans elv
        simp at this
        exact this.1
      subst eac
      clear hp cS elv hA
      by_cases hji : j = i
      · subst hji
        have q1 : ((j : Int) == (j : Int)) = true := beq_iff_eq.2 rfl
        go_wp2_with (first | ((with_reducible refine isLoad ?_); refine wpList_load_g 37 _ rfl g (k * 65 + 1) rfl rfl s _ Try.underlying37 rfl (by rw [HSs.out.size]; exact info37) HcS.out ?_) | ((with_reducible refine isStore ?_); refine wpList_store_loc 37 _ _ rfl rfl wA.heap.size _ s rfl rfl HXr.out (by rw [HSs.out.size]; exact info37) (by rw [HSs.out.size]; simpa using HSec.out.size) HSs.out.one ?_; intro w3 hx hox; have HX3 := Lib.hid hx; have HO3 := Lib.hid hox; clear hx hox))
        go_roundg (d.L.length - (k + 1))
        case measure => omega
        case rel => exact ⟨k + 1, s, by omega, by omega, by go_num, app_take_yes HP.out hi, HX3.out, HRr.out.only HO3.out HNe.out, HBr.out.trans (HO3.out.below HBr.out.size fun k e => by rw [e]; exact HBel.out.size)⟩
      · have q1 : ((j : Int) == (i : Int)) = false := beq_eq_false_iff_ne.2 (by omega)
        go_wp2_with fail
        go_roundg (d.L.length - (k + 1))
        case measure => omega
        case rel => exact ⟨k + 1, cs, by omega, by omega, by go_num, by rw [app_take_no HP.out hji]; exact HCs.out, HXr.out, HRr.out, HBr.out⟩
    · have hkl : k = d.L.length := by omega
      subst hkl
      clear hlt hA
      have hcs := HCs.out
      rw [List.take_length] at hcs
      obtain ⟨e1, e2⟩ := read_yes_eq hi hcs
      have HE := Lib.hid e1
      clear hcs e1 e2
      go_wp2_with (first | ((with_reducible refine isLoad ?_); refine wpList_load_g 37 _ rfl wA.heap.size 0 rfl rfl cs _ Try.underlying37 rfl (by rw [HSec.out.size]; exact info37) (HXr.out.cells _ rfl) ?_) | ((with_reducible refine isStore ?_); refine wpList_store_loc 37 _ _ rfl rfl w.heap.size _ cs rfl rfl HRr.out (by rw [HSec.out.size]; exact info37) (by rw [HSec.out.size]; rfl) HSec.out.one ?_; intro w3 hx hox; have HX3 := Lib.hid hx; have HO3 := Lib.hid hox; clear hx hox))
      refine bodyPost_ret (v := .tuple #[.agg cs, .int .i64 0]) (results_cell_tmp rfl _ _ w.heap.size 0 cs _ _ rfl rfl Try.underlying37 rfl (by rw [HSec.out.size]; exact info37) (HX3.out.cells _ rfl)) rfl ⟨by rw [HE.out], ?_⟩
      exact HBr.out.trans (HO3.out.below HBr.out.size fun k e => by rw [e]; exact Nat.le_refl _)
theorem rread_any (w : World) (base b sb : Nat) (lv : Value) (d : D) (h : RefIs w base b sb lv d) (hLn : d.L.length ≤ 1000000) (i : Int) :
    Calls Try.prog 18 #[.pointer (some ⟨b, 0, none⟩), .int .i64 i] w fun e w' => e = .returned (.tuple #[.agg (d.read i), .int .i64 (d.readE i)]) ∧ Below w.heap.size w w' := by
  cases hh : d.has i
  · have := rread_no w base b sb lv d h i hh
    have e1 : d.read i = fillA 0 := by unfold D.read; rw [hh]; rfl
    have e2 : d.readE i = 1 := by unfold D.readE; rw [hh]; rfl
    rw [e1, e2]
    exact this
  · have e2 : d.readE i = 0 := by unfold D.readE; rw [hh]; rfl
    rw [e2]
    obtain ⟨k, rfl, hk⟩ : ∃ k : Nat, i = k ∧ k < d.S.length := by
      unfold D.has at hh
      simp only [Bool.and_eq_true, decide_eq_true_eq] at hh
      exact ⟨i.toNat, by omega, by omega⟩
    exact rread_yes w base b sb lv d h hLn k hk
end Go.Proofs.Ytdmjhpebpooiaaa
