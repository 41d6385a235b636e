/- The statement FoldMore's walk: whatever the blocks and the bytes, the call returns true. -/
import Derived.Test.YtjejodgjakjeiaaDoorTells
namespace Go.Proofs.YtjejodgjakjeiaaDoor
set_option linter.unusedSimpArgs false
set_option linter.unusedVariables false
open Go.RowKit

theorem fits_nat {off : Int} {l : List Int} (h : Fits off l) : ∃ o : Nat, off = (o : Int) := ⟨off.toNat, by have := h.1; omega⟩
theorem chain_head {h : Bk} {r : List Bk} (hc : isChain (h :: r) = true) : 0 ≤ h.id ∧ h.id ≤ 63 ∧ chainFrom h.id (h :: r) = true := by
  rw [isChain, Bool.and_eq_true] at hc
  have h1 := hc.2
  rw [chainFrom, Bool.and_eq_true] at h1
  obtain ⟨h2, h3, -, -⟩ := okAt_iff.1 h1.1
  obtain ⟨-, h4, h5⟩ := good_kind h2
  exact ⟨h4, h5, hc.2⟩
theorem delta_ok {id off : Int} {l : List Int} (h0 : 0 ≤ id) (h1 : id ≤ 63) {pv : Int} (hp : isHead pv = true) (hp0 : pv ≠ 0) (hp1 : pv ≠ 1) : okAt id false (Bk.delta id off l pv) = decide (Fits off l ∧ l.length ≤ 16) := by
  have e : (Bk.delta id off l pv).ends = false := by simp [Bk.ends, Bk.delta, hp1]
  have e2 : decide ((Bk.delta id off l pv).kind = 3) = false := rfl
  have e3 : (Bk.delta id off l pv).id = id := rfl
  unfold okAt
  rw [delta_good, e, e2, e3, hp]
  simp only [within, h0, h1, hp0, decide_true, Bool.true_and, Bool.and_true, decide_false, Bool.not_false, beq_self_eq_true]
  unfold Fits
  by_cases a1 : 0 ≤ off <;> by_cases a2 : 0 < l.length <;> by_cases a3 : off + l.length ≤ 32 <;> by_cases a4 : l.length ≤ 16 <;> simp [a1, a2, a3, a4] <;> omega
theorem chain_more {h : Bk} {r : List Bk} {off : Int} {l : List Int} {pv : Int} (hp : isHead pv = true) (hp0 : pv ≠ 0) (hp1 : pv ≠ 1) (hc : isChain (h :: r) = true) : isChain (Bk.delta h.id off l pv :: h :: r) = (decide ((h :: r).length < 3) && decide (Fits off l ∧ l.length ≤ 16)) := by
  obtain ⟨h0, h1, h2⟩ := chain_head hc
  rw [isChain, chainFrom]
  have e3 : (Bk.delta h.id off l pv).id = h.id := rfl
  rw [e3, h2, Bool.and_true, show (h :: r).isEmpty = false from rfl, delta_ok h0 h1 hp hp0 hp1]
  rfl
theorem told_more {h : Bk} {r : List Bk} {o : Nat} {l : List Int} {pv : Int} (hc : isChain (h :: r) = true) (hd : isChain (Bk.delta h.id o l pv :: h :: r) = true) : told (Bk.delta h.id o l pv :: h :: r) = layI (told (h :: r)) o l := by
  unfold told
  rw [if_pos hc, if_pos hd]
  show (Bk.delta h.id o l pv).over (comes (h :: r)) = _
  unfold Bk.over
  rw [if_neg (show ¬ (Bk.delta h.id o l pv).kind = 1 by show ¬ (2 : Int) = 1; decide)]
  rfl
theorem told_no {L : List Bk} (h : isChain L = false) : told L = zeros 32 ∧ code L = 11 := by
  unfold told code
  rw [h]
  exact ⟨rfl, rfl⟩
theorem code_yes {L : List Bk} (h : isChain L = true) : code L = 0 := by
  unfold code
  rw [h]
  rfl
theorem blks_apart {w w' : World} {B : Nat} {sv : Value} {l : List (Bk × Value)} (h : BlksAt w sv l) (hB : w.heap.size ≤ B) : ∀ x ∈ l, Apart w' B x.2 x.1.bytes := fun x hx b o n c e hl => by
  obtain ⟨a, cap, e2, hc⟩ := h
  obtain ⟨i, hi⟩ := List.getElem?_of_mem hx
  obtain ⟨-, h2, -⟩ := hc i x hi
  exact .inl (Nat.lt_of_lt_of_le (h2.lt hl e) hB)
set_option maxRecDepth 100000 in
set_option maxHeartbeats 2000000 in
theorem more_unfair (l : List (Bk × Value)) (n : Nat) (hn : l.length = n) (sv : Value) (off : Int) (ho : Small off) (tv : Value) (x : List Int) (m : Nat) (hm : x.length = m) (hyx : ∀ y ∈ x, Byte y) (hf : fair (l.map (·.1)) = false) (hbig : n ≤ 9223372036854775807) (w : World) (h : BlksAt w sv l) (hx : BytesAt w tv x) (hev : ErrVar w) : Calls Tryd.prog 4 #[sv, .int .i64 off, tv] w fun e w' => e = .returned (.bool true) ∧ Below w.heap.size w w' := by
  have HZ32 := Lib.hid (zeros_length 32)
  have HNW := Lib.hid Bk.none_wf
  have HNL : Hid (Len (.slice none 0 0) 0) := Lib.hid ⟨none, 0, rfl⟩
  have HBL : Hid (Below w.heap.size w w) := Lib.hid (Below.refl _ _)
  have HEV := Lib.hid hev
  have HE0 := Lib.hid hev.lt
  obtain ⟨L, hL⟩ : ∃ L, l.map (·.1) = L := ⟨_, rfl⟩
  rw [hL] at hf
  have HLM := Lib.hid hL
  have HN := Lib.hid hn
  have HM := Lib.hid hm
  have HLN : Hid (L.length = n) := Lib.hid (by rw [← hL, List.length_map, hn])
  have HBS := Lib.hid h
  have HBX := Lib.hid hx
  have HFA : Hid (∀ w, BlksAt w sv l → Calls Tryd.prog 6 #[sv] w fun e w' => e = .returned (.bool false) ∧ w = w') := Lib.hid fun w h => by
    have := fair_any l n hn hbig sv w h
    rwa [hL, hf] at this
  obtain ⟨ba, bc, he2, -⟩ := hx
  rw [hm] at he2
  subst he2
  obtain ⟨sa, sc, he, -⟩ := h
  rw [hn] at he
  subst he
  clear hev hf hL hn hm
  go_enter Tryd.func4, Tryd.ntmps4
  go_upto_region 1 with fail
  refine wp_region_lit ?_
  refine takeL (.slice sa n sc) rfl (by go_simp) ?_
  try simp only [Act.put, List.setIfInBounds_toArray, List.set_cons_succ, List.set_cons_zero]
  refine wpList_op rfl fun K hK => ?_
  go_simp
  refine (HFA.out _ HBS.out).mono ?_
  rintro e w1 ⟨rfl, rfl⟩
  refine hK _ _ ?_
  clear hK K
  try simp only [Act.put, List.setIfInBounds_toArray, List.set_cons_succ, List.set_cons_zero]
  refine takeL (.bool true) rfl (by go_simp) ?_
  try simp only [Act.put, List.setIfInBounds_toArray, List.set_cons_succ, List.set_cons_zero]
  refine takeL (.bool true) rfl (by go_simp) ?_
  try simp only [Act.put, List.setIfInBounds_toArray, List.set_cons_succ, List.set_cons_zero]
  refine passL rfl ?_
  try simp only [Act.put, List.setIfInBounds_toArray, List.set_cons_succ, List.set_cons_zero]
  refine passL rfl ?_
  try simp only [Act.put, List.setIfInBounds_toArray, List.set_cons_succ, List.set_cons_zero]
  refine passL rfl ?_
  try simp only [Act.put, List.setIfInBounds_toArray, List.set_cons_succ, List.set_cons_zero]
  refine takeL (.bool true) rfl (by go_simp) ?_
  try simp only [Act.put, List.setIfInBounds_toArray, List.set_cons_succ, List.set_cons_zero]
  refine takeL (.bool true) rfl (by go_simp) ?_
  try simp only [Act.put, List.setIfInBounds_toArray, List.set_cons_succ, List.set_cons_zero]
  refine passL rfl ?_
  try simp only [Act.put, List.setIfInBounds_toArray, List.set_cons_succ, List.set_cons_zero]
  refine passL rfl ?_
  try simp only [Act.put, List.setIfInBounds_toArray, List.set_cons_succ, List.set_cons_zero]
  refine passL rfl ?_
  try simp only [Act.put, List.setIfInBounds_toArray, List.set_cons_succ, List.set_cons_zero]
  refine takeL (.bool true) rfl (by go_simp) ?_
  try simp only [Act.put, List.setIfInBounds_toArray, List.set_cons_succ, List.set_cons_zero]
  refine wpList_nil ?_
  go_upto_region 2 with fail
  refine wp_region_lit ?_
  refine wpList_op rfl fun K hK => ?_
  go_simp
  refine (wakes_any _ HEV.out).mono ?_
  rintro e w2 ⟨rfl, hb⟩
  have F3 := Lib.hid (HBL.out.trans (hb.mono HBL.out.size))
  have F4 := Lib.hid (HEV.out.below (Nat.le_refl _) hb)
  clear HBL HEV
  clear hb
  refine hK _ _ ?_
  clear hK K
  try simp only [Act.put, List.setIfInBounds_toArray, List.set_cons_succ, List.set_cons_zero]
  refine takeL (.bool true) rfl (by go_simp) ?_
  try simp only [Act.put, List.setIfInBounds_toArray, List.set_cons_succ, List.set_cons_zero]
  refine wpList_nil ?_
  go_wp2_with fail
  go_ret
  exact ⟨rfl, F3.out⟩
set_option maxRecDepth 100000 in
set_option maxHeartbeats 2000000 in
theorem more_toolong (l : List (Bk × Value)) (n : Nat) (hn : l.length = n) (sv : Value) (off : Int) (ho : Small off) (tv : Value) (x : List Int) (m : Nat) (hm : x.length = m) (hyx : ∀ y ∈ x, Byte y) (hf : fair (l.map (·.1)) = true) (hbig : n ≤ 9223372036854775807) (h3 : 300 < m) (w : World) (h : BlksAt w sv l) (hx : BytesAt w tv x) (hev : ErrVar w) : Calls Tryd.prog 4 #[sv, .int .i64 off, tv] w fun e w' => e = .returned (.bool true) ∧ Below w.heap.size w w' := by
  have HZ32 := Lib.hid (zeros_length 32)
  have HNW := Lib.hid Bk.none_wf
  have HNL : Hid (Len (.slice none 0 0) 0) := Lib.hid ⟨none, 0, rfl⟩
  have HBL : Hid (Below w.heap.size w w) := Lib.hid (Below.refl _ _)
  have HEV := Lib.hid hev
  have HE0 := Lib.hid hev.lt
  obtain ⟨L, hL⟩ : ∃ L, l.map (·.1) = L := ⟨_, rfl⟩
  rw [hL] at hf
  have HLM := Lib.hid hL
  have HN := Lib.hid hn
  have HM := Lib.hid hm
  have HLN : Hid (L.length = n) := Lib.hid (by rw [← hL, List.length_map, hn])
  have HBS := Lib.hid h
  have HBX := Lib.hid hx
  have HFA : Hid (∀ w, BlksAt w sv l → Calls Tryd.prog 6 #[sv] w fun e w' => e = .returned (.bool true) ∧ w = w') := Lib.hid fun w h => by
    have := fair_any l n hn hbig sv w h
    rwa [hL, hf] at this
  obtain ⟨ba, bc, he2, -⟩ := hx
  rw [hm] at he2
  subst he2
  obtain ⟨sa, sc, he, -⟩ := h
  rw [hn] at he
  subst he
  have a0 : decide (300 < (m : Int)) = true := decide_eq_true (by omega)
  clear hev hf hL hn hm
  go_enter Tryd.func4, Tryd.ntmps4
  go_upto_region 1 with fail
  refine wp_region_lit ?_
  refine takeL (.slice sa n sc) rfl (by go_simp) ?_
  try simp only [Act.put, List.setIfInBounds_toArray, List.set_cons_succ, List.set_cons_zero]
  refine wpList_op rfl fun K hK => ?_
  go_simp
  refine (HFA.out _ HBS.out).mono ?_
  rintro e w1 ⟨rfl, rfl⟩
  refine hK _ _ ?_
  clear hK K
  try simp only [Act.put, List.setIfInBounds_toArray, List.set_cons_succ, List.set_cons_zero]
  refine takeL (.bool false) rfl (by go_simp) ?_
  try simp only [Act.put, List.setIfInBounds_toArray, List.set_cons_succ, List.set_cons_zero]
  refine takeL (.bool false) rfl (by go_simp) ?_
  try simp only [Act.put, List.setIfInBounds_toArray, List.set_cons_succ, List.set_cons_zero]
  refine takeL (.slice ba m bc) rfl (by go_simp) ?_
  try simp only [Act.put, List.setIfInBounds_toArray, List.set_cons_succ, List.set_cons_zero]
  refine takeL (.int .i64 m) rfl (by go_simp) ?_
  try simp only [Act.put, List.setIfInBounds_toArray, List.set_cons_succ, List.set_cons_zero]
  refine takeL (.bool true) rfl (by go_simp) ?_
  try simp only [Act.put, List.setIfInBounds_toArray, List.set_cons_succ, List.set_cons_zero]
  refine takeL (.bool true) rfl (by go_simp) ?_
  try simp only [Act.put, List.setIfInBounds_toArray, List.set_cons_succ, List.set_cons_zero]
  refine takeL (.bool true) rfl (by go_simp) ?_
  try simp only [Act.put, List.setIfInBounds_toArray, List.set_cons_succ, List.set_cons_zero]
  refine passL rfl ?_
  try simp only [Act.put, List.setIfInBounds_toArray, List.set_cons_succ, List.set_cons_zero]
  refine passL rfl ?_
  try simp only [Act.put, List.setIfInBounds_toArray, List.set_cons_succ, List.set_cons_zero]
  refine passL rfl ?_
  try simp only [Act.put, List.setIfInBounds_toArray, List.set_cons_succ, List.set_cons_zero]
  refine takeL (.bool true) rfl (by go_simp) ?_
  try simp only [Act.put, List.setIfInBounds_toArray, List.set_cons_succ, List.set_cons_zero]
  refine wpList_nil ?_
  go_upto_region 2 with fail
  refine wp_region_lit ?_
  refine wpList_op rfl fun K hK => ?_
  go_simp
  refine (wakes_any _ HEV.out).mono ?_
  rintro e w2 ⟨rfl, hb⟩
  have F3 := Lib.hid (HBL.out.trans (hb.mono HBL.out.size))
  have F4 := Lib.hid (HEV.out.below (Nat.le_refl _) hb)
  clear HBL HEV
  clear hb
  refine hK _ _ ?_
  clear hK K
  try simp only [Act.put, List.setIfInBounds_toArray, List.set_cons_succ, List.set_cons_zero]
  refine takeL (.bool true) rfl (by go_simp) ?_
  try simp only [Act.put, List.setIfInBounds_toArray, List.set_cons_succ, List.set_cons_zero]
  refine wpList_nil ?_
  go_wp2_with fail
  go_ret
  exact ⟨rfl, F3.out⟩
set_option maxRecDepth 100000 in
set_option maxHeartbeats 2000000 in
theorem more_empty (l : List (Bk × Value)) (n : Nat) (hn : l.length = n) (sv : Value) (off : Int) (ho : Small off) (tv : Value) (x : List Int) (m : Nat) (hm : x.length = m) (hyx : ∀ y ∈ x, Byte y) (hf : fair (l.map (·.1)) = true) (hbig : n ≤ 9223372036854775807) (h3 : ¬ 300 < m) (h0 : n = 0) (w : World) (h : BlksAt w sv l) (hx : BytesAt w tv x) (hev : ErrVar w) : Calls Tryd.prog 4 #[sv, .int .i64 off, tv] w fun e w' => e = .returned (.bool true) ∧ Below w.heap.size w w' := by
  have HZ32 := Lib.hid (zeros_length 32)
  have HNW := Lib.hid Bk.none_wf
  have HNL : Hid (Len (.slice none 0 0) 0) := Lib.hid ⟨none, 0, rfl⟩
  have HBL : Hid (Below w.heap.size w w) := Lib.hid (Below.refl _ _)
  have HEV := Lib.hid hev
  have HE0 := Lib.hid hev.lt
  obtain ⟨L, hL⟩ : ∃ L, l.map (·.1) = L := ⟨_, rfl⟩
  rw [hL] at hf
  have HLM := Lib.hid hL
  have HN := Lib.hid hn
  have HM := Lib.hid hm
  have HLN : Hid (L.length = n) := Lib.hid (by rw [← hL, List.length_map, hn])
  have HBS := Lib.hid h
  have HBX := Lib.hid hx
  have HFA : Hid (∀ w, BlksAt w sv l → Calls Tryd.prog 6 #[sv] w fun e w' => e = .returned (.bool true) ∧ w = w') := Lib.hid fun w h => by
    have := fair_any l n hn hbig sv w h
    rwa [hL, hf] at this
  obtain ⟨ba, bc, he2, -⟩ := hx
  rw [hm] at he2
  subst he2
  obtain ⟨sa, sc, he, -⟩ := h
  rw [hn] at he
  subst he
  have a0 : decide (300 < (m : Int)) = false := decide_eq_false (by omega)
  have a1 : ((n : Int) == 0) = true := by simp [h0]
  have HH0 := Lib.hid h0
  clear h0
  clear hev hf hL hn hm
  go_enter Tryd.func4, Tryd.ntmps4
  go_upto_region 1 with fail
  refine wp_region_lit ?_
  refine takeL (.slice sa n sc) rfl (by go_simp) ?_
  try simp only [Act.put, List.setIfInBounds_toArray, List.set_cons_succ, List.set_cons_zero]
  refine wpList_op rfl fun K hK => ?_
  go_simp
  refine (HFA.out _ HBS.out).mono ?_
  rintro e w1 ⟨rfl, rfl⟩
  refine hK _ _ ?_
  clear hK K
  try simp only [Act.put, List.setIfInBounds_toArray, List.set_cons_succ, List.set_cons_zero]
  refine takeL (.bool false) rfl (by go_simp) ?_
  try simp only [Act.put, List.setIfInBounds_toArray, List.set_cons_succ, List.set_cons_zero]
  refine takeL (.bool false) rfl (by go_simp) ?_
  try simp only [Act.put, List.setIfInBounds_toArray, List.set_cons_succ, List.set_cons_zero]
  refine takeL (.slice ba m bc) rfl (by go_simp) ?_
  try simp only [Act.put, List.setIfInBounds_toArray, List.set_cons_succ, List.set_cons_zero]
  refine takeL (.int .i64 m) rfl (by go_simp) ?_
  try simp only [Act.put, List.setIfInBounds_toArray, List.set_cons_succ, List.set_cons_zero]
  refine takeL (.bool false) rfl (by go_simp) ?_
  try simp only [Act.put, List.setIfInBounds_toArray, List.set_cons_succ, List.set_cons_zero]
  refine takeL (.bool false) rfl (by go_simp) ?_
  try simp only [Act.put, List.setIfInBounds_toArray, List.set_cons_succ, List.set_cons_zero]
  refine takeL (.bool false) rfl (by go_simp) ?_
  try simp only [Act.put, List.setIfInBounds_toArray, List.set_cons_succ, List.set_cons_zero]
  refine takeL (.slice sa n sc) rfl (by go_simp) ?_
  try simp only [Act.put, List.setIfInBounds_toArray, List.set_cons_succ, List.set_cons_zero]
  refine takeL (.int .i64 n) rfl (by go_simp) ?_
  try simp only [Act.put, List.setIfInBounds_toArray, List.set_cons_succ, List.set_cons_zero]
  refine takeL (.bool true) rfl (by go_simp) ?_
  try simp only [Act.put, List.setIfInBounds_toArray, List.set_cons_succ, List.set_cons_zero]
  refine takeL (.bool true) rfl (by go_simp) ?_
  try simp only [Act.put, List.setIfInBounds_toArray, List.set_cons_succ, List.set_cons_zero]
  refine wpList_nil ?_
  go_upto_region 2 with fail
  refine wp_region_lit ?_
  refine wpList_op rfl fun K hK => ?_
  go_simp
  refine (wakes_any _ HEV.out).mono ?_
  rintro e w2 ⟨rfl, hb⟩
  have F3 := Lib.hid (HBL.out.trans (hb.mono HBL.out.size))
  have F4 := Lib.hid (HEV.out.below (Nat.le_refl _) hb)
  clear HBL HEV
  clear hb
  refine hK _ _ ?_
  clear hK K
  try simp only [Act.put, List.setIfInBounds_toArray, List.set_cons_succ, List.set_cons_zero]
  refine takeL (.bool true) rfl (by go_simp) ?_
  try simp only [Act.put, List.setIfInBounds_toArray, List.set_cons_succ, List.set_cons_zero]
  refine wpList_nil ?_
  go_wp2_with fail
  go_ret
  exact ⟨rfl, F3.out⟩
set_option maxRecDepth 100000 in
set_option maxHeartbeats 2000000 in
theorem more_none (l : List (Bk × Value)) (n : Nat) (hn : l.length = n) (sv : Value) (off : Int) (ho : Small off) (tv : Value) (x : List Int) (m : Nat) (hm : x.length = m) (hyx : ∀ y ∈ x, Byte y) (hf : fair (l.map (·.1)) = true) (h3 : m ≤ 300) (hpos : 0 < n) (hcc : isChain (l.map (·.1)) = false) (w : World) (h : BlksAt w sv l) (hx : BytesAt w tv x) (hev : ErrVar w) : Calls Tryd.prog 4 #[sv, .int .i64 off, tv] w fun e w' => e = .returned (.bool true) ∧ Below w.heap.size w w' := by
  have HZ32 := Lib.hid (zeros_length 32)
  have HNW := Lib.hid Bk.none_wf
  have HNL : Hid (Len (.slice none 0 0) 0) := Lib.hid ⟨none, 0, rfl⟩
  have HBL : Hid (Below w.heap.size w w) := Lib.hid (Below.refl _ _)
  have HEV := Lib.hid hev
  have HE0 := Lib.hid hev.lt
  obtain ⟨L, hL⟩ : ∃ L, l.map (·.1) = L := ⟨_, rfl⟩
  rw [hL] at hf hcc
  have HLM := Lib.hid hL
  have HN := Lib.hid hn
  have HM := Lib.hid hm
  have HLN : Hid (L.length = n) := Lib.hid (by rw [← hL, List.length_map, hn])
  have HBS := Lib.hid h
  have HBX := Lib.hid hx
  have h20 : n ≤ 20 := by
    have := (fair_iff hf).1
    rw [← hL, List.length_map, hn] at this
    exact this
  have HFA : Hid (∀ w, BlksAt w sv l → Calls Tryd.prog 6 #[sv] w fun e w' => e = .returned (.bool true) ∧ w = w') := Lib.hid fun w h => by
    have := fair_any l n hn (by omega) sv w h
    rwa [hL, hf] at this
  obtain ⟨p, hp⟩ : ∃ p, told L = p := ⟨_, rfl⟩
  have HPL : Hid (p.length = 32) := Lib.hid (by rw [← hp]; exact told_length (by rw [← hL]; exact h.wf))
  have HP := Lib.hid hp
  have HCC := Lib.hid hcc
  have HLH : Hid (L ≠ []) := Lib.hid (by
    intro e
    have := congrArg List.length e
    rw [← hL, List.length_map, hn] at this
    simp at this
    omega)
  obtain ⟨g, o, cap, he0, hg, hc⟩ := h.has (by omega)
  rw [hn] at he0
  subst he0
  obtain ⟨y, hy⟩ : ∃ y, l[0]? = some y := ⟨_, List.getElem?_eq_getElem (by omega)⟩
  obtain ⟨b0, bv0⟩ := y
  have Y1 : Hid (w.cell? ⟨g, o + 1, none⟩ = some (.int .i64 b0.id)) := Lib.hid (by
    obtain ⟨y1, y2, y3⟩ := hc 0 _ hy
    have := y3 1 (by rw [Bk.arr_size y1]; decide)
    simpa [Bk.arr, Bk.cells] using this)
  have HB0 : Small b0.id := (hc 0 _ hy).1.id
  obtain ⟨r, hr⟩ : ∃ r, L = b0 :: r := by
    have : L[0]? = some b0 := by rw [← hL, List.getElem?_map, hy]; rfl
    cases L with
    | nil => cases this
    | cons z r =>
      cases this
      exact ⟨r, rfl⟩
  have HR := Lib.hid hr
  have HG := Lib.hid hg
  obtain ⟨ba, bc, he2, -⟩ := hx
  rw [hm] at he2
  subst he2
  have a0 : decide (300 < (m : Int)) = false := decide_eq_false (by omega)
  have a1 : ((n : Int) == 0) = false := by simp; omega
  have HX3 := Lib.hid (show x.length ≤ 1000 by omega)
  clear hev hf hcc hL hn hm hp hr hy hc hg h hyx ho
  go_enter Tryd.func4, Tryd.ntmps4
  go_upto_region 1 with fail
  refine wp_region_lit ?_
  refine takeL (.slice (some ⟨g, o, none⟩) n cap) rfl (by go_simp) ?_
  try simp only [Act.put, List.setIfInBounds_toArray, List.set_cons_succ, List.set_cons_zero]
  refine wpList_op rfl fun K hK => ?_
  go_simp
  refine (HFA.out _ HBS.out).mono ?_
  rintro e w1 ⟨rfl, rfl⟩
  refine hK _ _ ?_
  clear hK K
  try simp only [Act.put, List.setIfInBounds_toArray, List.set_cons_succ, List.set_cons_zero]
  refine takeL (.bool false) rfl (by go_simp) ?_
  try simp only [Act.put, List.setIfInBounds_toArray, List.set_cons_succ, List.set_cons_zero]
  refine takeL (.bool false) rfl (by go_simp) ?_
  try simp only [Act.put, List.setIfInBounds_toArray, List.set_cons_succ, List.set_cons_zero]
  refine takeL (.slice ba m bc) rfl (by go_simp) ?_
  try simp only [Act.put, List.setIfInBounds_toArray, List.set_cons_succ, List.set_cons_zero]
  refine takeL (.int .i64 m) rfl (by go_simp) ?_
  try simp only [Act.put, List.setIfInBounds_toArray, List.set_cons_succ, List.set_cons_zero]
  refine takeL (.bool false) rfl (by go_simp) ?_
  try simp only [Act.put, List.setIfInBounds_toArray, List.set_cons_succ, List.set_cons_zero]
  refine takeL (.bool false) rfl (by go_simp) ?_
  try simp only [Act.put, List.setIfInBounds_toArray, List.set_cons_succ, List.set_cons_zero]
  refine takeL (.bool false) rfl (by go_simp) ?_
  try simp only [Act.put, List.setIfInBounds_toArray, List.set_cons_succ, List.set_cons_zero]
  refine takeL (.slice (some ⟨g, o, none⟩) n cap) rfl (by go_simp) ?_
  try simp only [Act.put, List.setIfInBounds_toArray, List.set_cons_succ, List.set_cons_zero]
  refine takeL (.int .i64 n) rfl (by go_simp) ?_
  try simp only [Act.put, List.setIfInBounds_toArray, List.set_cons_succ, List.set_cons_zero]
  refine takeL (.bool false) rfl (by go_simp) ?_
  try simp only [Act.put, List.setIfInBounds_toArray, List.set_cons_succ, List.set_cons_zero]
  refine takeL (.bool false) rfl (by go_simp) ?_
  try simp only [Act.put, List.setIfInBounds_toArray, List.set_cons_succ, List.set_cons_zero]
  refine wpList_nil ?_
  go_upto_region 3 with fail
  refine wp_region_lit ?_
  refine takeL (.slice (some ⟨g, o, none⟩) n cap) rfl (by go_simp) ?_
  try simp only [Act.put, List.setIfInBounds_toArray, List.set_cons_succ, List.set_cons_zero]
  refine wpList_op rfl fun K hK => ?_
  go_simp
  refine (page_to HLM.out HP.out ((told_no HCC.out).2) _ _ HBS.out HEV.out).mono ?_
  rintro e w2 ⟨rfl, hb⟩
  have F3 := Lib.hid (HBL.out.trans (hb.mono HBL.out.size))
  have F4 := Lib.hid (HEV.out.below (Nat.le_refl _) hb)
  have F5 := Lib.hid (HBS.out.below hb)
  have F6 := Lib.hid (HBX.out.below hb)
  clear HBL HEV HBS HBX
  clear hb
  refine hK _ _ ?_
  clear hK K
  try simp only [Act.put, List.setIfInBounds_toArray, List.set_cons_succ, List.set_cons_zero]
  refine takeL (.tuple #[.agg (u8s p).toArray, .int .i64 11]) rfl (by go_simp) ?_
  try simp only [Act.put, List.setIfInBounds_toArray, List.set_cons_succ, List.set_cons_zero]
  refine takeL (.agg (u8s p).toArray) rfl (by go_simp) ?_
  try simp only [Act.put, List.setIfInBounds_toArray, List.set_cons_succ, List.set_cons_zero]
  refine takeL (.int .i64 11) rfl (by go_simp) ?_
  try simp only [Act.put, List.setIfInBounds_toArray, List.set_cons_succ, List.set_cons_zero]
  refine alloc_g zero26 rfl ?_
  intro w7 hA hb hl
  try simp only [Act.put, List.setIfInBounds_toArray, List.set_cons_succ, List.set_cons_zero]
  clear hl
  refine store_all (cs := (u8s p).toArray) hA (by simp only [u8s_size, List.size_toArray, List.length_append, List.length_singleton, List.length_map, HPL.out, HZ32.out]) (by rw [u8s_size, HPL.out]; exact info26) (u8s_one _) rfl rfl rfl ?_
  intro w8 hD hO hlD
  try simp only [Act.put, List.setIfInBounds_toArray, List.set_cons_succ, List.set_cons_zero]
  clear hlD hA
  have hbb : Below w2.heap.size w2 w8 := hb.trans (hO.below hb.size fun k hk => Nat.le_of_eq hk.symm)
  clear hb hO
  have HG9 : Hid (w.heap.size ≤ w2.heap.size) := Lib.hid F3.out.size
  have F10 := Lib.hid (F3.out.trans (hbb.mono F3.out.size))
  have F11 := Lib.hid (F4.out.below (Nat.le_refl _) hbb)
  have F12 := Lib.hid (F5.out.below hbb)
  have F13 := Lib.hid (F6.out.below hbb)
  clear F3 F4 F5 F6
  have F14 : Hid (Blk w8 w2.heap.size (u8s p)) := Lib.hid hD
  clear hD hbb w7
  generalize w2.heap.size = g15 at *
  clear w2
  refine takeL (.int .i64 11) rfl (by go_simp) ?_
  try simp only [Act.put, List.setIfInBounds_toArray, List.set_cons_succ, List.set_cons_zero]
  refine wpList_nil ?_
  go_upto_region 4 with fail
  refine wp_region_lit ?_
  refine takeL (.int .i64 11) rfl (by go_simp) ?_
  try simp only [Act.put, List.setIfInBounds_toArray, List.set_cons_succ, List.set_cons_zero]
  refine takeL (.bool true) rfl (by go_simp) ?_
  try simp only [Act.put, List.setIfInBounds_toArray, List.set_cons_succ, List.set_cons_zero]
  refine wpList_nil ?_
  have HPZ : Hid (p = zeros 32) := Lib.hid (HP.out.symm.trans (told_no HCC.out).1)
  go_upto_region 5 with fail
  refine wp_region_lit ?_
  refine load26 (cs := (u8s p).toArray) (Blk.all F14.out rfl) (by rw [u8s_size, HPL.out]) rfl rfl ?_
  try simp only [Act.put, List.setIfInBounds_toArray, List.set_cons_succ, List.set_cons_zero]
  refine build_g (build26 _) rfl ?_
  try simp only [Act.put, List.setIfInBounds_toArray, List.set_cons_succ, List.set_cons_zero]
  refine takeL (.bool true) rfl (by exact exec_page (decide_eq_true HPZ.out) HPL.out HZ32.out _ _ _ rfl rfl rfl) ?_
  try simp only [Act.put, List.setIfInBounds_toArray, List.set_cons_succ, List.set_cons_zero]
  refine takeL (.bool true) rfl (by go_simp) ?_
  try simp only [Act.put, List.setIfInBounds_toArray, List.set_cons_succ, List.set_cons_zero]
  refine wpList_op rfl fun K hK => ?_
  go_simp
  refine (wakes_any _ F11.out).mono ?_
  rintro e w16 ⟨rfl, hb⟩
  have F17 := Lib.hid (F10.out.trans (hb.mono F10.out.size))
  have F18 := Lib.hid (F11.out.below (Nat.le_refl _) hb)
  have F19 := Lib.hid (F12.out.below hb)
  have F20 := Lib.hid (F13.out.below hb)
  have F21 := Lib.hid (F14.out.below hb F14.out.lt)
  clear F10 F11 F12 F13 F14
  clear hb
  refine hK _ _ ?_
  clear hK K
  try simp only [Act.put, List.setIfInBounds_toArray, List.set_cons_succ, List.set_cons_zero]
  refine takeL (.bool true) rfl (by go_simp) ?_
  try simp only [Act.put, List.setIfInBounds_toArray, List.set_cons_succ, List.set_cons_zero]
  refine takeL (.bool true) rfl (by go_simp) ?_
  try simp only [Act.put, List.setIfInBounds_toArray, List.set_cons_succ, List.set_cons_zero]
  refine wpList_nil ?_
  go_wp2_with fail
  go_ret
  exact ⟨rfl, F17.out⟩
set_option maxRecDepth 100000 in
set_option maxHeartbeats 2000000 in
theorem more_many_fit (l : List (Bk × Value)) (n : Nat) (hn : l.length = n) (sv : Value) (u : Nat) (ho : Small u) (tv : Value) (x : List Int) (m : Nat) (hm : x.length = m) (hyx : ∀ y ∈ x, Byte y) (hf : fair (l.map (·.1)) = true) (h3 : m ≤ 300) (hpos : 0 < n) (hcc : isChain (l.map (·.1)) = true) (hfit : Fits u x) (hmany : 3 ≤ n) (w : World) (h : BlksAt w sv l) (hx : BytesAt w tv x) (hev : ErrVar w) : Calls Tryd.prog 4 #[sv, .int .i64 u, tv] w fun e w' => e = .returned (.bool true) ∧ Below w.heap.size w w' := by
  have HZ32 := Lib.hid (zeros_length 32)
  have HNW := Lib.hid Bk.none_wf
  have HNL : Hid (Len (.slice none 0 0) 0) := Lib.hid ⟨none, 0, rfl⟩
  have HBL : Hid (Below w.heap.size w w) := Lib.hid (Below.refl _ _)
  have HEV := Lib.hid hev
  have HE0 := Lib.hid hev.lt
  obtain ⟨L, hL⟩ : ∃ L, l.map (·.1) = L := ⟨_, rfl⟩
  rw [hL] at hf hcc
  have HLM := Lib.hid hL
  have HN := Lib.hid hn
  have HM := Lib.hid hm
  have HLN : Hid (L.length = n) := Lib.hid (by rw [← hL, List.length_map, hn])
  have HBS := Lib.hid h
  have HBX := Lib.hid hx
  have h20 : n ≤ 20 := by
    have := (fair_iff hf).1
    rw [← hL, List.length_map, hn] at this
    exact this
  have HFA : Hid (∀ w, BlksAt w sv l → Calls Tryd.prog 6 #[sv] w fun e w' => e = .returned (.bool true) ∧ w = w') := Lib.hid fun w h => by
    have := fair_any l n hn (by omega) sv w h
    rwa [hL, hf] at this
  obtain ⟨p, hp⟩ : ∃ p, told L = p := ⟨_, rfl⟩
  have HPL : Hid (p.length = 32) := Lib.hid (by rw [← hp]; exact told_length (by rw [← hL]; exact h.wf))
  have HP := Lib.hid hp
  have HCC := Lib.hid hcc
  have HLH : Hid (L ≠ []) := Lib.hid (by
    intro e
    have := congrArg List.length e
    rw [← hL, List.length_map, hn] at this
    simp at this
    omega)
  obtain ⟨g, o, cap, he0, hg, hc⟩ := h.has (by omega)
  rw [hn] at he0
  subst he0
  obtain ⟨y, hy⟩ : ∃ y, l[0]? = some y := ⟨_, List.getElem?_eq_getElem (by omega)⟩
  obtain ⟨b0, bv0⟩ := y
  have Y1 : Hid (w.cell? ⟨g, o + 1, none⟩ = some (.int .i64 b0.id)) := Lib.hid (by
    obtain ⟨y1, y2, y3⟩ := hc 0 _ hy
    have := y3 1 (by rw [Bk.arr_size y1]; decide)
    simpa [Bk.arr, Bk.cells] using this)
  have HB0 : Small b0.id := (hc 0 _ hy).1.id
  obtain ⟨r, hr⟩ : ∃ r, L = b0 :: r := by
    have : L[0]? = some b0 := by rw [← hL, List.getElem?_map, hy]; rfl
    cases L with
    | nil => cases this
    | cons z r =>
      cases this
      exact ⟨r, rfl⟩
  have HR := Lib.hid hr
  have HG := Lib.hid hg
  obtain ⟨ba, bc, he2, -⟩ := hx
  rw [hm] at he2
  subst he2
  have a0 : decide (300 < (m : Int)) = false := decide_eq_false (by omega)
  have a1 : ((n : Int) == 0) = false := by simp; omega
  have a2 : decide (3 ≤ (n : Int)) = true := decide_eq_true (by omega)
  have HD0 : Hid (isChain (Bk.delta b0.id u x 99 :: L) = false) := Lib.hid (by
    rw [hr, chain_more (by decide) (by decide) (by decide) (by rw [← hr]; exact hcc), ← hr, HLN.out, hm]
    simp
    omega)
  obtain ⟨D, hD⟩ : ∃ D, Bk.delta b0.id u x 99 = D := ⟨_, rfl⟩
  have HWD : Hid D.Wf := Lib.hid (hD ▸ Bk.delta_wf HB0 ho ⟨by decide, by decide⟩ (by omega) hyx)
  have HDB : Hid (D.bytes = x) := Lib.hid (hD ▸ rfl)
  have HLD : Hid (Len (.slice ba m bc) D.bytes.length) := Lib.hid (by rw [HDB.out, hm]; exact ⟨_, _, rfl⟩)
  have HBD : Hid (Tryd.prog.built 30 [(0, .int .i64 2), (1, .int .i64 b0.id), (3, .int .i64 u), (4, .slice ba m bc), (5, .int .i64 99)] = some (D.arr (.slice ba m bc))) := Lib.hid (hD ▸ built30d b0.id u x 99 ba m bc)
  rw [hD] at HD0
  have HT := Lib.hid (told_no HD0.out).1
  have HCD := Lib.hid (told_no HD0.out).2
  obtain ⟨p1, hp1⟩ : ∃ p1, layI p u x = p1 := ⟨_, rfl⟩
  have H1 : Hid (p1.length = 32) := Lib.hid (hp1 ▸ lay_size HPL.out u hfit)
  have HP1 := Lib.hid hp1
  clear hp1
  have HF := Lib.hid hfit
  clear hD hfit
  have HX3 := Lib.hid (show x.length ≤ 1000 by omega)
  clear hev hf hcc hL hn hm hp hr hy hc hg h hyx ho
  go_enter Tryd.func4, Tryd.ntmps4
  go_upto_region 1 with fail
  refine wp_region_lit ?_
  refine takeL (.slice (some ⟨g, o, none⟩) n cap) rfl (by go_simp) ?_
  try simp only [Act.put, List.setIfInBounds_toArray, List.set_cons_succ, List.set_cons_zero]
  refine wpList_op rfl fun K hK => ?_
  go_simp
  refine (HFA.out _ HBS.out).mono ?_
  rintro e w1 ⟨rfl, rfl⟩
  refine hK _ _ ?_
  clear hK K
  try simp only [Act.put, List.setIfInBounds_toArray, List.set_cons_succ, List.set_cons_zero]
  refine takeL (.bool false) rfl (by go_simp) ?_
  try simp only [Act.put, List.setIfInBounds_toArray, List.set_cons_succ, List.set_cons_zero]
  refine takeL (.bool false) rfl (by go_simp) ?_
  try simp only [Act.put, List.setIfInBounds_toArray, List.set_cons_succ, List.set_cons_zero]
  refine takeL (.slice ba m bc) rfl (by go_simp) ?_
  try simp only [Act.put, List.setIfInBounds_toArray, List.set_cons_succ, List.set_cons_zero]
  refine takeL (.int .i64 m) rfl (by go_simp) ?_
  try simp only [Act.put, List.setIfInBounds_toArray, List.set_cons_succ, List.set_cons_zero]
  refine takeL (.bool false) rfl (by go_simp) ?_
  try simp only [Act.put, List.setIfInBounds_toArray, List.set_cons_succ, List.set_cons_zero]
  refine takeL (.bool false) rfl (by go_simp) ?_
  try simp only [Act.put, List.setIfInBounds_toArray, List.set_cons_succ, List.set_cons_zero]
  refine takeL (.bool false) rfl (by go_simp) ?_
  try simp only [Act.put, List.setIfInBounds_toArray, List.set_cons_succ, List.set_cons_zero]
  refine takeL (.slice (some ⟨g, o, none⟩) n cap) rfl (by go_simp) ?_
  try simp only [Act.put, List.setIfInBounds_toArray, List.set_cons_succ, List.set_cons_zero]
  refine takeL (.int .i64 n) rfl (by go_simp) ?_
  try simp only [Act.put, List.setIfInBounds_toArray, List.set_cons_succ, List.set_cons_zero]
  refine takeL (.bool false) rfl (by go_simp) ?_
  try simp only [Act.put, List.setIfInBounds_toArray, List.set_cons_succ, List.set_cons_zero]
  refine takeL (.bool false) rfl (by go_simp) ?_
  try simp only [Act.put, List.setIfInBounds_toArray, List.set_cons_succ, List.set_cons_zero]
  refine wpList_nil ?_
  have HBS0 := Lib.hid HBS.out
  go_upto_region 3 with fail
  refine wp_region_lit ?_
  refine takeL (.slice (some ⟨g, o, none⟩) n cap) rfl (by go_simp) ?_
  try simp only [Act.put, List.setIfInBounds_toArray, List.set_cons_succ, List.set_cons_zero]
  refine wpList_op rfl fun K hK => ?_
  go_simp
  refine (page_to HLM.out HP.out (code_yes HCC.out) _ _ HBS.out HEV.out).mono ?_
  rintro e w2 ⟨rfl, hb⟩
  have F3 := Lib.hid (HBL.out.trans (hb.mono HBL.out.size))
  have F4 := Lib.hid (HEV.out.below (Nat.le_refl _) hb)
  have F5 := Lib.hid (HBS.out.below hb)
  have F6 := Lib.hid (HBX.out.below hb)
  clear HBL HEV HBS HBX
  clear hb
  refine hK _ _ ?_
  clear hK K
  try simp only [Act.put, List.setIfInBounds_toArray, List.set_cons_succ, List.set_cons_zero]
  refine takeL (.tuple #[.agg (u8s p).toArray, .int .i64 0]) rfl (by go_simp) ?_
  try simp only [Act.put, List.setIfInBounds_toArray, List.set_cons_succ, List.set_cons_zero]
  refine takeL (.agg (u8s p).toArray) rfl (by go_simp) ?_
  try simp only [Act.put, List.setIfInBounds_toArray, List.set_cons_succ, List.set_cons_zero]
  refine takeL (.int .i64 0) rfl (by go_simp) ?_
  try simp only [Act.put, List.setIfInBounds_toArray, List.set_cons_succ, List.set_cons_zero]
  refine alloc_g zero26 rfl ?_
  intro w7 hA hb hl
  try simp only [Act.put, List.setIfInBounds_toArray, List.set_cons_succ, List.set_cons_zero]
  clear hl
  refine store_all (cs := (u8s p).toArray) hA (by simp only [u8s_size, List.size_toArray, List.length_append, List.length_singleton, List.length_map, HPL.out, HZ32.out]) (by rw [u8s_size, HPL.out]; exact info26) (u8s_one _) rfl rfl rfl ?_
  intro w8 hD hO hlD
  try simp only [Act.put, List.setIfInBounds_toArray, List.set_cons_succ, List.set_cons_zero]
  clear hlD hA
  have hbb : Below w2.heap.size w2 w8 := hb.trans (hO.below hb.size fun k hk => Nat.le_of_eq hk.symm)
  clear hb hO
  have HG9 : Hid (w.heap.size ≤ w2.heap.size) := Lib.hid F3.out.size
  have F10 := Lib.hid (F3.out.trans (hbb.mono F3.out.size))
  have F11 := Lib.hid (F4.out.below (Nat.le_refl _) hbb)
  have F12 := Lib.hid (F5.out.below hbb)
  have F13 := Lib.hid (F6.out.below hbb)
  clear F3 F4 F5 F6
  have F14 : Hid (Blk w8 w2.heap.size (u8s p)) := Lib.hid hD
  clear hD hbb w7
  generalize w2.heap.size = g15 at *
  clear w2
  refine takeL (.int .i64 0) rfl (by go_simp) ?_
  try simp only [Act.put, List.setIfInBounds_toArray, List.set_cons_succ, List.set_cons_zero]
  refine wpList_nil ?_
  go_upto_region 4 with fail
  refine wp_region_lit ?_
  refine takeL (.int .i64 0) rfl (by go_simp) ?_
  try simp only [Act.put, List.setIfInBounds_toArray, List.set_cons_succ, List.set_cons_zero]
  refine takeL (.bool false) rfl (by go_simp) ?_
  try simp only [Act.put, List.setIfInBounds_toArray, List.set_cons_succ, List.set_cons_zero]
  refine wpList_nil ?_
  have HMD : Hid (([(D, Value.slice ba m bc)] ++ l).map (·.1) = D :: L) := Lib.hid (by rw [← HLM.out]; rfl)
  go_upto_region 6 with fail
  refine wp_region_lit ?_
  refine takeL (.slice (some ⟨g, o, none⟩) n cap) rfl (by go_simp) ?_
  try simp only [Act.put, List.setIfInBounds_toArray, List.set_cons_succ, List.set_cons_zero]
  refine takeL (.pointer (some ⟨g, o, none⟩)) rfl (by go_simp) ?_
  try simp only [Act.put, List.setIfInBounds_toArray, List.set_cons_succ, List.set_cons_zero]
  refine takeL (.pointer (some ⟨g, o + 1, none⟩)) rfl (by go_simp) ?_
  try simp only [Act.put, List.setIfInBounds_toArray, List.set_cons_succ, List.set_cons_zero]
  refine takeL (.int .i64 b0.id) rfl (by have hq := (F10.out.cell (p := ⟨g, o + 1, none⟩) HG.out).trans Y1.out; go_simp) ?_
  try simp only [Act.put, List.setIfInBounds_toArray, List.set_cons_succ, List.set_cons_zero]
  refine takeL (.int .i64 u) rfl (by go_simp) ?_
  try simp only [Act.put, List.setIfInBounds_toArray, List.set_cons_succ, List.set_cons_zero]
  refine takeL (.slice ba m bc) rfl (by go_simp) ?_
  try simp only [Act.put, List.setIfInBounds_toArray, List.set_cons_succ, List.set_cons_zero]
  refine takeL (.agg (D.arr (.slice ba m bc))) rfl (exec_build _ _ _ _ 30 _ rfl #[(0, .int .i64 2), (1, .int .i64 b0.id), (3, .int .i64 u), (4, .slice ba m bc), (5, .int .i64 99)] (by simp [go_sem]) _ (run_build _ 30 _ _ HBD.out)) ?_
  try simp only [Act.put, List.setIfInBounds_toArray, List.set_cons_succ, List.set_cons_zero]
  refine alloc_g zero30b rfl ?_
  intro w16 hA hb hl
  try simp only [Act.put, List.setIfInBounds_toArray, List.set_cons_succ, List.set_cons_zero]
  clear hl
  refine store_all (cs := (D.arr (.slice ba m bc))) hA (same30 HNW.out HWD.out _ _) (info30s HWD.out _) (Bk.arr_one (slice_one HLD.out)) rfl rfl rfl ?_
  intro w17 hD hO hlD
  try simp only [Act.put, List.setIfInBounds_toArray, List.set_cons_succ, List.set_cons_zero]
  clear hlD hA
  have hbb : Below w8.heap.size w8 w17 := hb.trans (hO.below hb.size fun k hk => Nat.le_of_eq hk.symm)
  clear hb hO
  have HN18 := Lib.hid (Nat.ne_of_lt F14.out.lt)
  have HG19 : Hid (w.heap.size ≤ w8.heap.size) := Lib.hid F10.out.size
  have F20 := Lib.hid (F10.out.trans (hbb.mono F10.out.size))
  have F21 := Lib.hid (F11.out.below (Nat.le_refl _) hbb)
  have F22 := Lib.hid (F12.out.below hbb)
  have F23 := Lib.hid (F13.out.below hbb)
  have F24 := Lib.hid (F14.out.below hbb F14.out.lt)
  clear F10 F11 F12 F13 F14
  have F25 : Hid (Blk w17 w8.heap.size (D.cells (.slice ba m bc))) := Lib.hid hD
  clear hD hbb w16
  generalize w8.heap.size = g26 at *
  clear w8
  refine wpList_nil ?_
  go_upto_region 7 with fail
  refine wp_region_lit ?_
  refine load30 (cs := (D.arr (.slice ba m bc))) (Blk.all F25.out rfl) (D.arr_size HWD.out (.slice ba m bc)) rfl rfl ?_
  try simp only [Act.put, List.setIfInBounds_toArray, List.set_cons_succ, List.set_cons_zero]
  refine lit_L1 HWD.out (by rw [HDB.out]; exact F23.out) rfl rfl ?_
  intro sx wl hO hb
  try simp only [Act.put, List.setIfInBounds_toArray, List.set_cons_succ, List.set_cons_zero]
  have HO1 := Lib.hid hO
  have HB1 := Lib.hid hb
  clear hO hb
  refine takeL (.slice (some ⟨g, o, none⟩) n cap) rfl (by go_simp) ?_
  try simp only [Act.put, List.setIfInBounds_toArray, List.set_cons_succ, List.set_cons_zero]
  refine app_LB HO1.out HB1.out.size (F22.out.below HB1.out) (blks_apart HBS0.out F20.out.size) (by have := HN.out; simp; omega) rfl rfl rfl ?_
  intro sy wm hO hb
  try simp only [Act.put, List.setIfInBounds_toArray, List.set_cons_succ, List.set_cons_zero]
  have hbb := HB1.out.trans hb
  clear HB1 HO1 hb
  have F27 := Lib.hid (F20.out.trans (hbb.mono F20.out.size))
  have F28 := Lib.hid (F21.out.below (Nat.le_refl _) hbb)
  have F29 := Lib.hid (F22.out.below hbb)
  have F30 := Lib.hid (F23.out.below hbb)
  have F31 := Lib.hid (F24.out.below hbb F24.out.lt)
  have F32 := Lib.hid (F25.out.below hbb F25.out.lt)
  clear F20 F21 F22 F23 F24 F25
  have BD := Lib.hid hO.blks
  clear hO hbb
  refine wpList_op rfl fun K hK => ?_
  go_simp
  refine (page_to HMD.out HT.out HCD.out _ _ BD.out F28.out).mono ?_
  rintro e w33 ⟨rfl, hb⟩
  have F34 := Lib.hid (F27.out.trans (hb.mono F27.out.size))
  have F35 := Lib.hid (F28.out.below (Nat.le_refl _) hb)
  have F36 := Lib.hid (F29.out.below hb)
  have F37 := Lib.hid (F30.out.below hb)
  have F38 := Lib.hid (F31.out.below hb F31.out.lt)
  have F39 := Lib.hid (F32.out.below hb F32.out.lt)
  have F40 := Lib.hid (BD.out.below hb)
  clear F27 F28 F29 F30 F31 F32 BD
  clear hb
  refine hK _ _ ?_
  clear hK K
  try simp only [Act.put, List.setIfInBounds_toArray, List.set_cons_succ, List.set_cons_zero]
  refine takeL (.tuple #[.agg (u8s (zeros 32)).toArray, .int .i64 11]) rfl (by go_simp) ?_
  try simp only [Act.put, List.setIfInBounds_toArray, List.set_cons_succ, List.set_cons_zero]
  refine takeL (.agg (u8s (zeros 32)).toArray) rfl (by go_simp) ?_
  try simp only [Act.put, List.setIfInBounds_toArray, List.set_cons_succ, List.set_cons_zero]
  refine takeL (.int .i64 11) rfl (by go_simp) ?_
  try simp only [Act.put, List.setIfInBounds_toArray, List.set_cons_succ, List.set_cons_zero]
  refine alloc_g zero26 rfl ?_
  intro w41 hA hb hl
  try simp only [Act.put, List.setIfInBounds_toArray, List.set_cons_succ, List.set_cons_zero]
  clear hl
  refine store_all (cs := (u8s (zeros 32)).toArray) hA (by simp only [u8s_size, List.size_toArray, List.length_append, List.length_singleton, List.length_map, HZ32.out]) (by rw [u8s_size, HZ32.out]; exact info26) (u8s_one _) rfl rfl rfl ?_
  intro w42 hD hO hlD
  try simp only [Act.put, List.setIfInBounds_toArray, List.set_cons_succ, List.set_cons_zero]
  clear hlD hA
  have hbb : Below w33.heap.size w33 w42 := hb.trans (hO.below hb.size fun k hk => Nat.le_of_eq hk.symm)
  clear hb hO
  have HN43 := Lib.hid (Nat.ne_of_lt F38.out.lt)
  have HN44 := Lib.hid (Nat.ne_of_lt F39.out.lt)
  have HG45 : Hid (w.heap.size ≤ w33.heap.size) := Lib.hid F34.out.size
  have F46 := Lib.hid (F34.out.trans (hbb.mono F34.out.size))
  have F47 := Lib.hid (F35.out.below (Nat.le_refl _) hbb)
  have F48 := Lib.hid (F36.out.below hbb)
  have F49 := Lib.hid (F37.out.below hbb)
  have F50 := Lib.hid (F38.out.below hbb F38.out.lt)
  have F51 := Lib.hid (F39.out.below hbb F39.out.lt)
  have F52 := Lib.hid (F40.out.below hbb)
  clear F34 F35 F36 F37 F38 F39 F40
  have F53 : Hid (Blk w42 w33.heap.size (u8s (zeros 32))) := Lib.hid hD
  clear hD hbb w41
  generalize w33.heap.size = g54 at *
  clear w33
  refine takeL (.int .i64 11) rfl (by go_simp) ?_
  try simp only [Act.put, List.setIfInBounds_toArray, List.set_cons_succ, List.set_cons_zero]
  refine wpList_nil ?_
  go_upto_region 8 with fail
  refine wp_region_lit ?_
  refine load26 (cs := (u8s p).toArray) (Blk.all F50.out rfl) (by rw [u8s_size, HPL.out]) rfl rfl ?_
  try simp only [Act.put, List.setIfInBounds_toArray, List.set_cons_succ, List.set_cons_zero]
  refine takeL (.int .i64 u) rfl (by go_simp) ?_
  try simp only [Act.put, List.setIfInBounds_toArray, List.set_cons_succ, List.set_cons_zero]
  refine takeL (.slice ba m bc) rfl (by go_simp) ?_
  try simp only [Act.put, List.setIfInBounds_toArray, List.set_cons_succ, List.set_cons_zero]
  refine wpList_op rfl fun K hK => ?_
  go_simp
  refine (HP1.out ▸ apply_yes p x HPL.out u _ HX3.out HF.out _ F49.out F47.out).mono ?_
  rintro e w55 ⟨rfl, hb⟩
  have F56 := Lib.hid (F46.out.trans (hb.mono F46.out.size))
  have F57 := Lib.hid (F47.out.below (Nat.le_refl _) hb)
  have F58 := Lib.hid (F48.out.below hb)
  have F59 := Lib.hid (F49.out.below hb)
  have F60 := Lib.hid (F50.out.below hb F50.out.lt)
  have F61 := Lib.hid (F51.out.below hb F51.out.lt)
  have F62 := Lib.hid (F52.out.below hb)
  have F63 := Lib.hid (F53.out.below hb F53.out.lt)
  clear F46 F47 F48 F49 F50 F51 F52 F53
  clear hb
  refine hK _ _ ?_
  clear hK K
  try simp only [Act.put, List.setIfInBounds_toArray, List.set_cons_succ, List.set_cons_zero]
  refine takeL (.tuple #[.agg (u8s p1).toArray, .int .i64 0]) rfl (by go_simp) ?_
  try simp only [Act.put, List.setIfInBounds_toArray, List.set_cons_succ, List.set_cons_zero]
  refine takeL (.agg (u8s p1).toArray) rfl (by go_simp) ?_
  try simp only [Act.put, List.setIfInBounds_toArray, List.set_cons_succ, List.set_cons_zero]
  refine takeL (.int .i64 0) rfl (by go_simp) ?_
  try simp only [Act.put, List.setIfInBounds_toArray, List.set_cons_succ, List.set_cons_zero]
  refine alloc_g zero26 rfl ?_
  intro w64 hA hb hl
  try simp only [Act.put, List.setIfInBounds_toArray, List.set_cons_succ, List.set_cons_zero]
  clear hl
  refine store_all (cs := (u8s p1).toArray) hA (by simp only [u8s_size, List.size_toArray, List.length_append, List.length_singleton, List.length_map, H1.out, HZ32.out]) (by rw [u8s_size, H1.out]; exact info26) (u8s_one _) rfl rfl rfl ?_
  intro w65 hD hO hlD
  try simp only [Act.put, List.setIfInBounds_toArray, List.set_cons_succ, List.set_cons_zero]
  clear hlD hA
  have hbb : Below w55.heap.size w55 w65 := hb.trans (hO.below hb.size fun k hk => Nat.le_of_eq hk.symm)
  clear hb hO
  have HN66 := Lib.hid (Nat.ne_of_lt F60.out.lt)
  have HN67 := Lib.hid (Nat.ne_of_lt F61.out.lt)
  have HN68 := Lib.hid (Nat.ne_of_lt F63.out.lt)
  have HG69 : Hid (w.heap.size ≤ w55.heap.size) := Lib.hid F56.out.size
  have F70 := Lib.hid (F56.out.trans (hbb.mono F56.out.size))
  have F71 := Lib.hid (F57.out.below (Nat.le_refl _) hbb)
  have F72 := Lib.hid (F58.out.below hbb)
  have F73 := Lib.hid (F59.out.below hbb)
  have F74 := Lib.hid (F60.out.below hbb F60.out.lt)
  have F75 := Lib.hid (F61.out.below hbb F61.out.lt)
  have F76 := Lib.hid (F62.out.below hbb)
  have F77 := Lib.hid (F63.out.below hbb F63.out.lt)
  clear F56 F57 F58 F59 F60 F61 F62 F63
  have F78 : Hid (Blk w65 w55.heap.size (u8s p1)) := Lib.hid hD
  clear hD hbb w64
  generalize w55.heap.size = g79 at *
  clear w55
  refine takeL (.int .i64 0) rfl (by go_simp) ?_
  try simp only [Act.put, List.setIfInBounds_toArray, List.set_cons_succ, List.set_cons_zero]
  refine wpList_nil ?_
  go_upto_region 9 with fail
  refine wp_region_lit ?_
  refine takeL (.slice (some ⟨g, o, none⟩) n cap) rfl (by go_simp) ?_
  try simp only [Act.put, List.setIfInBounds_toArray, List.set_cons_succ, List.set_cons_zero]
  refine takeL (.int .i64 n) rfl (by go_simp) ?_
  try simp only [Act.put, List.setIfInBounds_toArray, List.set_cons_succ, List.set_cons_zero]
  refine takeL (.bool true) rfl (by go_simp) ?_
  try simp only [Act.put, List.setIfInBounds_toArray, List.set_cons_succ, List.set_cons_zero]
  refine takeL (.bool true) rfl (by go_simp) ?_
  try simp only [Act.put, List.setIfInBounds_toArray, List.set_cons_succ, List.set_cons_zero]
  refine passL rfl ?_
  try simp only [Act.put, List.setIfInBounds_toArray, List.set_cons_succ, List.set_cons_zero]
  refine passL rfl ?_
  try simp only [Act.put, List.setIfInBounds_toArray, List.set_cons_succ, List.set_cons_zero]
  refine takeL (.bool true) rfl (by go_simp) ?_
  try simp only [Act.put, List.setIfInBounds_toArray, List.set_cons_succ, List.set_cons_zero]
  refine takeL (.bool true) rfl (by go_simp) ?_
  try simp only [Act.put, List.setIfInBounds_toArray, List.set_cons_succ, List.set_cons_zero]
  refine passL rfl ?_
  try simp only [Act.put, List.setIfInBounds_toArray, List.set_cons_succ, List.set_cons_zero]
  refine passL rfl ?_
  try simp only [Act.put, List.setIfInBounds_toArray, List.set_cons_succ, List.set_cons_zero]
  refine passL rfl ?_
  try simp only [Act.put, List.setIfInBounds_toArray, List.set_cons_succ, List.set_cons_zero]
  refine takeL (.bool true) rfl (by go_simp) ?_
  try simp only [Act.put, List.setIfInBounds_toArray, List.set_cons_succ, List.set_cons_zero]
  refine wpList_nil ?_
  go_upto_region 10 with fail
  refine wp_region_lit ?_
  refine takeL (.int .i64 11) rfl (by go_simp) ?_
  try simp only [Act.put, List.setIfInBounds_toArray, List.set_cons_succ, List.set_cons_zero]
  refine takeL (.bool true) rfl (by go_simp) ?_
  try simp only [Act.put, List.setIfInBounds_toArray, List.set_cons_succ, List.set_cons_zero]
  refine takeL (.bool true) rfl (by go_simp) ?_
  try simp only [Act.put, List.setIfInBounds_toArray, List.set_cons_succ, List.set_cons_zero]
  refine load26 (cs := (u8s (zeros 32)).toArray) (Blk.all F77.out rfl) (by rw [u8s_size, HZ32.out]) rfl rfl ?_
  try simp only [Act.put, List.setIfInBounds_toArray, List.set_cons_succ, List.set_cons_zero]
  refine build_g (build26 _) rfl ?_
  try simp only [Act.put, List.setIfInBounds_toArray, List.set_cons_succ, List.set_cons_zero]
  refine takeL (.bool true) rfl (by exact exec_page (decide_eq_true rfl) HZ32.out HZ32.out _ _ _ rfl rfl rfl) ?_
  try simp only [Act.put, List.setIfInBounds_toArray, List.set_cons_succ, List.set_cons_zero]
  refine takeL (.bool true) rfl (by go_simp) ?_
  try simp only [Act.put, List.setIfInBounds_toArray, List.set_cons_succ, List.set_cons_zero]
  refine takeL (.bool true) rfl (by go_simp) ?_
  try simp only [Act.put, List.setIfInBounds_toArray, List.set_cons_succ, List.set_cons_zero]
  refine wpList_op rfl fun K hK => ?_
  go_simp
  refine (wakes_any _ F71.out).mono ?_
  rintro e w80 ⟨rfl, hb⟩
  have F81 := Lib.hid (F70.out.trans (hb.mono F70.out.size))
  have F82 := Lib.hid (F71.out.below (Nat.le_refl _) hb)
  have F83 := Lib.hid (F72.out.below hb)
  have F84 := Lib.hid (F73.out.below hb)
  have F85 := Lib.hid (F74.out.below hb F74.out.lt)
  have F86 := Lib.hid (F75.out.below hb F75.out.lt)
  have F87 := Lib.hid (F76.out.below hb)
  have F88 := Lib.hid (F77.out.below hb F77.out.lt)
  have F89 := Lib.hid (F78.out.below hb F78.out.lt)
  clear F70 F71 F72 F73 F74 F75 F76 F77 F78
  clear hb
  refine hK _ _ ?_
  clear hK K
  try simp only [Act.put, List.setIfInBounds_toArray, List.set_cons_succ, List.set_cons_zero]
  refine takeL (.bool true) rfl (by go_simp) ?_
  try simp only [Act.put, List.setIfInBounds_toArray, List.set_cons_succ, List.set_cons_zero]
  refine takeL (.bool true) rfl (by go_simp) ?_
  try simp only [Act.put, List.setIfInBounds_toArray, List.set_cons_succ, List.set_cons_zero]
  refine wpList_nil ?_
  go_wp2_with fail
  go_ret
  exact ⟨rfl, F81.out⟩
set_option maxRecDepth 100000 in
set_option maxHeartbeats 2000000 in
theorem more_many_out (l : List (Bk × Value)) (n : Nat) (hn : l.length = n) (sv : Value) (off : Int) (ho : Small off) (tv : Value) (x : List Int) (m : Nat) (hm : x.length = m) (hyx : ∀ y ∈ x, Byte y) (hf : fair (l.map (·.1)) = true) (h3 : m ≤ 300) (hpos : 0 < n) (hcc : isChain (l.map (·.1)) = true) (hfit : ¬ Fits off x) (hmany : 3 ≤ n) (w : World) (h : BlksAt w sv l) (hx : BytesAt w tv x) (hev : ErrVar w) : Calls Tryd.prog 4 #[sv, .int .i64 off, tv] w fun e w' => e = .returned (.bool true) ∧ Below w.heap.size w w' := by
  have HZ32 := Lib.hid (zeros_length 32)
  have HNW := Lib.hid Bk.none_wf
  have HNL : Hid (Len (.slice none 0 0) 0) := Lib.hid ⟨none, 0, rfl⟩
  have HBL : Hid (Below w.heap.size w w) := Lib.hid (Below.refl _ _)
  have HEV := Lib.hid hev
  have HE0 := Lib.hid hev.lt
  obtain ⟨L, hL⟩ : ∃ L, l.map (·.1) = L := ⟨_, rfl⟩
  rw [hL] at hf hcc
  have HLM := Lib.hid hL
  have HN := Lib.hid hn
  have HM := Lib.hid hm
  have HLN : Hid (L.length = n) := Lib.hid (by rw [← hL, List.length_map, hn])
  have HBS := Lib.hid h
  have HBX := Lib.hid hx
  have h20 : n ≤ 20 := by
    have := (fair_iff hf).1
    rw [← hL, List.length_map, hn] at this
    exact this
  have HFA : Hid (∀ w, BlksAt w sv l → Calls Tryd.prog 6 #[sv] w fun e w' => e = .returned (.bool true) ∧ w = w') := Lib.hid fun w h => by
    have := fair_any l n hn (by omega) sv w h
    rwa [hL, hf] at this
  obtain ⟨p, hp⟩ : ∃ p, told L = p := ⟨_, rfl⟩
  have HPL : Hid (p.length = 32) := Lib.hid (by rw [← hp]; exact told_length (by rw [← hL]; exact h.wf))
  have HP := Lib.hid hp
  have HCC := Lib.hid hcc
  have HLH : Hid (L ≠ []) := Lib.hid (by
    intro e
    have := congrArg List.length e
    rw [← hL, List.length_map, hn] at this
    simp at this
    omega)
  obtain ⟨g, o, cap, he0, hg, hc⟩ := h.has (by omega)
  rw [hn] at he0
  subst he0
  obtain ⟨y, hy⟩ : ∃ y, l[0]? = some y := ⟨_, List.getElem?_eq_getElem (by omega)⟩
  obtain ⟨b0, bv0⟩ := y
  have Y1 : Hid (w.cell? ⟨g, o + 1, none⟩ = some (.int .i64 b0.id)) := Lib.hid (by
    obtain ⟨y1, y2, y3⟩ := hc 0 _ hy
    have := y3 1 (by rw [Bk.arr_size y1]; decide)
    simpa [Bk.arr, Bk.cells] using this)
  have HB0 : Small b0.id := (hc 0 _ hy).1.id
  obtain ⟨r, hr⟩ : ∃ r, L = b0 :: r := by
    have : L[0]? = some b0 := by rw [← hL, List.getElem?_map, hy]; rfl
    cases L with
    | nil => cases this
    | cons z r =>
      cases this
      exact ⟨r, rfl⟩
  have HR := Lib.hid hr
  have HG := Lib.hid hg
  obtain ⟨ba, bc, he2, -⟩ := hx
  rw [hm] at he2
  subst he2
  have a0 : decide (300 < (m : Int)) = false := decide_eq_false (by omega)
  have a1 : ((n : Int) == 0) = false := by simp; omega
  have a2 : decide (3 ≤ (n : Int)) = true := decide_eq_true (by omega)
  have HD0 : Hid (isChain (Bk.delta b0.id off x 99 :: L) = false) := Lib.hid (by
    rw [hr, chain_more (by decide) (by decide) (by decide) (by rw [← hr]; exact hcc), ← hr, HLN.out, hm]
    simp
    omega)
  obtain ⟨D, hD⟩ : ∃ D, Bk.delta b0.id off x 99 = D := ⟨_, rfl⟩
  have HWD : Hid D.Wf := Lib.hid (hD ▸ Bk.delta_wf HB0 ho ⟨by decide, by decide⟩ (by omega) hyx)
  have HDB : Hid (D.bytes = x) := Lib.hid (hD ▸ rfl)
  have HLD : Hid (Len (.slice ba m bc) D.bytes.length) := Lib.hid (by rw [HDB.out, hm]; exact ⟨_, _, rfl⟩)
  have HBD : Hid (Tryd.prog.built 30 [(0, .int .i64 2), (1, .int .i64 b0.id), (3, .int .i64 off), (4, .slice ba m bc), (5, .int .i64 99)] = some (D.arr (.slice ba m bc))) := Lib.hid (hD ▸ built30d b0.id off x 99 ba m bc)
  rw [hD] at HD0
  have HT := Lib.hid (told_no HD0.out).1
  have HCD := Lib.hid (told_no HD0.out).2
  have HF := Lib.hid hfit
  clear hD hfit
  have HX3 := Lib.hid (show x.length ≤ 1000 by omega)
  clear hev hf hcc hL hn hm hp hr hy hc hg h hyx ho
  go_enter Tryd.func4, Tryd.ntmps4
  go_upto_region 1 with fail
  refine wp_region_lit ?_
  refine takeL (.slice (some ⟨g, o, none⟩) n cap) rfl (by go_simp) ?_
  try simp only [Act.put, List.setIfInBounds_toArray, List.set_cons_succ, List.set_cons_zero]
  refine wpList_op rfl fun K hK => ?_
  go_simp
  refine (HFA.out _ HBS.out).mono ?_
  rintro e w1 ⟨rfl, rfl⟩
  refine hK _ _ ?_
  clear hK K
  try simp only [Act.put, List.setIfInBounds_toArray, List.set_cons_succ, List.set_cons_zero]
  refine takeL (.bool false) rfl (by go_simp) ?_
  try simp only [Act.put, List.setIfInBounds_toArray, List.set_cons_succ, List.set_cons_zero]
  refine takeL (.bool false) rfl (by go_simp) ?_
  try simp only [Act.put, List.setIfInBounds_toArray, List.set_cons_succ, List.set_cons_zero]
  refine takeL (.slice ba m bc) rfl (by go_simp) ?_
  try simp only [Act.put, List.setIfInBounds_toArray, List.set_cons_succ, List.set_cons_zero]
  refine takeL (.int .i64 m) rfl (by go_simp) ?_
  try simp only [Act.put, List.setIfInBounds_toArray, List.set_cons_succ, List.set_cons_zero]
  refine takeL (.bool false) rfl (by go_simp) ?_
  try simp only [Act.put, List.setIfInBounds_toArray, List.set_cons_succ, List.set_cons_zero]
  refine takeL (.bool false) rfl (by go_simp) ?_
  try simp only [Act.put, List.setIfInBounds_toArray, List.set_cons_succ, List.set_cons_zero]
  refine takeL (.bool false) rfl (by go_simp) ?_
  try simp only [Act.put, List.setIfInBounds_toArray, List.set_cons_succ, List.set_cons_zero]
  refine takeL (.slice (some ⟨g, o, none⟩) n cap) rfl (by go_simp) ?_
  try simp only [Act.put, List.setIfInBounds_toArray, List.set_cons_succ, List.set_cons_zero]
  refine takeL (.int .i64 n) rfl (by go_simp) ?_
  try simp only [Act.put, List.setIfInBounds_toArray, List.set_cons_succ, List.set_cons_zero]
  refine takeL (.bool false) rfl (by go_simp) ?_
  try simp only [Act.put, List.setIfInBounds_toArray, List.set_cons_succ, List.set_cons_zero]
  refine takeL (.bool false) rfl (by go_simp) ?_
  try simp only [Act.put, List.setIfInBounds_toArray, List.set_cons_succ, List.set_cons_zero]
  refine wpList_nil ?_
  have HBS0 := Lib.hid HBS.out
  go_upto_region 3 with fail
  refine wp_region_lit ?_
  refine takeL (.slice (some ⟨g, o, none⟩) n cap) rfl (by go_simp) ?_
  try simp only [Act.put, List.setIfInBounds_toArray, List.set_cons_succ, List.set_cons_zero]
  refine wpList_op rfl fun K hK => ?_
  go_simp
  refine (page_to HLM.out HP.out (code_yes HCC.out) _ _ HBS.out HEV.out).mono ?_
  rintro e w2 ⟨rfl, hb⟩
  have F3 := Lib.hid (HBL.out.trans (hb.mono HBL.out.size))
  have F4 := Lib.hid (HEV.out.below (Nat.le_refl _) hb)
  have F5 := Lib.hid (HBS.out.below hb)
  have F6 := Lib.hid (HBX.out.below hb)
  clear HBL HEV HBS HBX
  clear hb
  refine hK _ _ ?_
  clear hK K
  try simp only [Act.put, List.setIfInBounds_toArray, List.set_cons_succ, List.set_cons_zero]
  refine takeL (.tuple #[.agg (u8s p).toArray, .int .i64 0]) rfl (by go_simp) ?_
  try simp only [Act.put, List.setIfInBounds_toArray, List.set_cons_succ, List.set_cons_zero]
  refine takeL (.agg (u8s p).toArray) rfl (by go_simp) ?_
  try simp only [Act.put, List.setIfInBounds_toArray, List.set_cons_succ, List.set_cons_zero]
  refine takeL (.int .i64 0) rfl (by go_simp) ?_
  try simp only [Act.put, List.setIfInBounds_toArray, List.set_cons_succ, List.set_cons_zero]
  refine alloc_g zero26 rfl ?_
  intro w7 hA hb hl
  try simp only [Act.put, List.setIfInBounds_toArray, List.set_cons_succ, List.set_cons_zero]
  clear hl
  refine store_all (cs := (u8s p).toArray) hA (by simp only [u8s_size, List.size_toArray, List.length_append, List.length_singleton, List.length_map, HPL.out, HZ32.out]) (by rw [u8s_size, HPL.out]; exact info26) (u8s_one _) rfl rfl rfl ?_
  intro w8 hD hO hlD
  try simp only [Act.put, List.setIfInBounds_toArray, List.set_cons_succ, List.set_cons_zero]
  clear hlD hA
  have hbb : Below w2.heap.size w2 w8 := hb.trans (hO.below hb.size fun k hk => Nat.le_of_eq hk.symm)
  clear hb hO
  have HG9 : Hid (w.heap.size ≤ w2.heap.size) := Lib.hid F3.out.size
  have F10 := Lib.hid (F3.out.trans (hbb.mono F3.out.size))
  have F11 := Lib.hid (F4.out.below (Nat.le_refl _) hbb)
  have F12 := Lib.hid (F5.out.below hbb)
  have F13 := Lib.hid (F6.out.below hbb)
  clear F3 F4 F5 F6
  have F14 : Hid (Blk w8 w2.heap.size (u8s p)) := Lib.hid hD
  clear hD hbb w7
  generalize w2.heap.size = g15 at *
  clear w2
  refine takeL (.int .i64 0) rfl (by go_simp) ?_
  try simp only [Act.put, List.setIfInBounds_toArray, List.set_cons_succ, List.set_cons_zero]
  refine wpList_nil ?_
  go_upto_region 4 with fail
  refine wp_region_lit ?_
  refine takeL (.int .i64 0) rfl (by go_simp) ?_
  try simp only [Act.put, List.setIfInBounds_toArray, List.set_cons_succ, List.set_cons_zero]
  refine takeL (.bool false) rfl (by go_simp) ?_
  try simp only [Act.put, List.setIfInBounds_toArray, List.set_cons_succ, List.set_cons_zero]
  refine wpList_nil ?_
  have HMD : Hid (([(D, Value.slice ba m bc)] ++ l).map (·.1) = D :: L) := Lib.hid (by rw [← HLM.out]; rfl)
  go_upto_region 6 with fail
  refine wp_region_lit ?_
  refine takeL (.slice (some ⟨g, o, none⟩) n cap) rfl (by go_simp) ?_
  try simp only [Act.put, List.setIfInBounds_toArray, List.set_cons_succ, List.set_cons_zero]
  refine takeL (.pointer (some ⟨g, o, none⟩)) rfl (by go_simp) ?_
  try simp only [Act.put, List.setIfInBounds_toArray, List.set_cons_succ, List.set_cons_zero]
  refine takeL (.pointer (some ⟨g, o + 1, none⟩)) rfl (by go_simp) ?_
  try simp only [Act.put, List.setIfInBounds_toArray, List.set_cons_succ, List.set_cons_zero]
  refine takeL (.int .i64 b0.id) rfl (by have hq := (F10.out.cell (p := ⟨g, o + 1, none⟩) HG.out).trans Y1.out; go_simp) ?_
  try simp only [Act.put, List.setIfInBounds_toArray, List.set_cons_succ, List.set_cons_zero]
  refine takeL (.int .i64 off) rfl (by go_simp) ?_
  try simp only [Act.put, List.setIfInBounds_toArray, List.set_cons_succ, List.set_cons_zero]
  refine takeL (.slice ba m bc) rfl (by go_simp) ?_
  try simp only [Act.put, List.setIfInBounds_toArray, List.set_cons_succ, List.set_cons_zero]
  refine takeL (.agg (D.arr (.slice ba m bc))) rfl (exec_build _ _ _ _ 30 _ rfl #[(0, .int .i64 2), (1, .int .i64 b0.id), (3, .int .i64 off), (4, .slice ba m bc), (5, .int .i64 99)] (by simp [go_sem]) _ (run_build _ 30 _ _ HBD.out)) ?_
  try simp only [Act.put, List.setIfInBounds_toArray, List.set_cons_succ, List.set_cons_zero]
  refine alloc_g zero30b rfl ?_
  intro w16 hA hb hl
  try simp only [Act.put, List.setIfInBounds_toArray, List.set_cons_succ, List.set_cons_zero]
  clear hl
  refine store_all (cs := (D.arr (.slice ba m bc))) hA (same30 HNW.out HWD.out _ _) (info30s HWD.out _) (Bk.arr_one (slice_one HLD.out)) rfl rfl rfl ?_
  intro w17 hD hO hlD
  try simp only [Act.put, List.setIfInBounds_toArray, List.set_cons_succ, List.set_cons_zero]
  clear hlD hA
  have hbb : Below w8.heap.size w8 w17 := hb.trans (hO.below hb.size fun k hk => Nat.le_of_eq hk.symm)
  clear hb hO
  have HN18 := Lib.hid (Nat.ne_of_lt F14.out.lt)
  have HG19 : Hid (w.heap.size ≤ w8.heap.size) := Lib.hid F10.out.size
  have F20 := Lib.hid (F10.out.trans (hbb.mono F10.out.size))
  have F21 := Lib.hid (F11.out.below (Nat.le_refl _) hbb)
  have F22 := Lib.hid (F12.out.below hbb)
  have F23 := Lib.hid (F13.out.below hbb)
  have F24 := Lib.hid (F14.out.below hbb F14.out.lt)
  clear F10 F11 F12 F13 F14
  have F25 : Hid (Blk w17 w8.heap.size (D.cells (.slice ba m bc))) := Lib.hid hD
  clear hD hbb w16
  generalize w8.heap.size = g26 at *
  clear w8
  refine wpList_nil ?_
  go_upto_region 7 with fail
  refine wp_region_lit ?_
  refine load30 (cs := (D.arr (.slice ba m bc))) (Blk.all F25.out rfl) (D.arr_size HWD.out (.slice ba m bc)) rfl rfl ?_
  try simp only [Act.put, List.setIfInBounds_toArray, List.set_cons_succ, List.set_cons_zero]
  refine lit_L1 HWD.out (by rw [HDB.out]; exact F23.out) rfl rfl ?_
  intro sx wl hO hb
  try simp only [Act.put, List.setIfInBounds_toArray, List.set_cons_succ, List.set_cons_zero]
  have HO1 := Lib.hid hO
  have HB1 := Lib.hid hb
  clear hO hb
  refine takeL (.slice (some ⟨g, o, none⟩) n cap) rfl (by go_simp) ?_
  try simp only [Act.put, List.setIfInBounds_toArray, List.set_cons_succ, List.set_cons_zero]
  refine app_LB HO1.out HB1.out.size (F22.out.below HB1.out) (blks_apart HBS0.out F20.out.size) (by have := HN.out; simp; omega) rfl rfl rfl ?_
  intro sy wm hO hb
  try simp only [Act.put, List.setIfInBounds_toArray, List.set_cons_succ, List.set_cons_zero]
  have hbb := HB1.out.trans hb
  clear HB1 HO1 hb
  have F27 := Lib.hid (F20.out.trans (hbb.mono F20.out.size))
  have F28 := Lib.hid (F21.out.below (Nat.le_refl _) hbb)
  have F29 := Lib.hid (F22.out.below hbb)
  have F30 := Lib.hid (F23.out.below hbb)
  have F31 := Lib.hid (F24.out.below hbb F24.out.lt)
  have F32 := Lib.hid (F25.out.below hbb F25.out.lt)
  clear F20 F21 F22 F23 F24 F25
  have BD := Lib.hid hO.blks
  clear hO hbb
  refine wpList_op rfl fun K hK => ?_
  go_simp
  refine (page_to HMD.out HT.out HCD.out _ _ BD.out F28.out).mono ?_
  rintro e w33 ⟨rfl, hb⟩
  have F34 := Lib.hid (F27.out.trans (hb.mono F27.out.size))
  have F35 := Lib.hid (F28.out.below (Nat.le_refl _) hb)
  have F36 := Lib.hid (F29.out.below hb)
  have F37 := Lib.hid (F30.out.below hb)
  have F38 := Lib.hid (F31.out.below hb F31.out.lt)
  have F39 := Lib.hid (F32.out.below hb F32.out.lt)
  have F40 := Lib.hid (BD.out.below hb)
  clear F27 F28 F29 F30 F31 F32 BD
  clear hb
  refine hK _ _ ?_
  clear hK K
  try simp only [Act.put, List.setIfInBounds_toArray, List.set_cons_succ, List.set_cons_zero]
  refine takeL (.tuple #[.agg (u8s (zeros 32)).toArray, .int .i64 11]) rfl (by go_simp) ?_
  try simp only [Act.put, List.setIfInBounds_toArray, List.set_cons_succ, List.set_cons_zero]
  refine takeL (.agg (u8s (zeros 32)).toArray) rfl (by go_simp) ?_
  try simp only [Act.put, List.setIfInBounds_toArray, List.set_cons_succ, List.set_cons_zero]
  refine takeL (.int .i64 11) rfl (by go_simp) ?_
  try simp only [Act.put, List.setIfInBounds_toArray, List.set_cons_succ, List.set_cons_zero]
  refine alloc_g zero26 rfl ?_
  intro w41 hA hb hl
  try simp only [Act.put, List.setIfInBounds_toArray, List.set_cons_succ, List.set_cons_zero]
  clear hl
  refine store_all (cs := (u8s (zeros 32)).toArray) hA (by simp only [u8s_size, List.size_toArray, List.length_append, List.length_singleton, List.length_map, HZ32.out]) (by rw [u8s_size, HZ32.out]; exact info26) (u8s_one _) rfl rfl rfl ?_
  intro w42 hD hO hlD
  try simp only [Act.put, List.setIfInBounds_toArray, List.set_cons_succ, List.set_cons_zero]
  clear hlD hA
  have hbb : Below w33.heap.size w33 w42 := hb.trans (hO.below hb.size fun k hk => Nat.le_of_eq hk.symm)
  clear hb hO
  have HN43 := Lib.hid (Nat.ne_of_lt F38.out.lt)
  have HN44 := Lib.hid (Nat.ne_of_lt F39.out.lt)
  have HG45 : Hid (w.heap.size ≤ w33.heap.size) := Lib.hid F34.out.size
  have F46 := Lib.hid (F34.out.trans (hbb.mono F34.out.size))
  have F47 := Lib.hid (F35.out.below (Nat.le_refl _) hbb)
  have F48 := Lib.hid (F36.out.below hbb)
  have F49 := Lib.hid (F37.out.below hbb)
  have F50 := Lib.hid (F38.out.below hbb F38.out.lt)
  have F51 := Lib.hid (F39.out.below hbb F39.out.lt)
  have F52 := Lib.hid (F40.out.below hbb)
  clear F34 F35 F36 F37 F38 F39 F40
  have F53 : Hid (Blk w42 w33.heap.size (u8s (zeros 32))) := Lib.hid hD
  clear hD hbb w41
  generalize w33.heap.size = g54 at *
  clear w33
  refine takeL (.int .i64 11) rfl (by go_simp) ?_
  try simp only [Act.put, List.setIfInBounds_toArray, List.set_cons_succ, List.set_cons_zero]
  refine wpList_nil ?_
  go_upto_region 8 with fail
  refine wp_region_lit ?_
  refine load26 (cs := (u8s p).toArray) (Blk.all F50.out rfl) (by rw [u8s_size, HPL.out]) rfl rfl ?_
  try simp only [Act.put, List.setIfInBounds_toArray, List.set_cons_succ, List.set_cons_zero]
  refine takeL (.int .i64 off) rfl (by go_simp) ?_
  try simp only [Act.put, List.setIfInBounds_toArray, List.set_cons_succ, List.set_cons_zero]
  refine takeL (.slice ba m bc) rfl (by go_simp) ?_
  try simp only [Act.put, List.setIfInBounds_toArray, List.set_cons_succ, List.set_cons_zero]
  refine wpList_op rfl fun K hK => ?_
  go_simp
  refine (apply_no p x HPL.out off _ HX3.out HF.out _ F49.out F47.out).mono ?_
  rintro e w55 ⟨rfl, hb⟩
  have F56 := Lib.hid (F46.out.trans (hb.mono F46.out.size))
  have F57 := Lib.hid (F47.out.below (Nat.le_refl _) hb)
  have F58 := Lib.hid (F48.out.below hb)
  have F59 := Lib.hid (F49.out.below hb)
  have F60 := Lib.hid (F50.out.below hb F50.out.lt)
  have F61 := Lib.hid (F51.out.below hb F51.out.lt)
  have F62 := Lib.hid (F52.out.below hb)
  have F63 := Lib.hid (F53.out.below hb F53.out.lt)
  clear F46 F47 F48 F49 F50 F51 F52 F53
  clear hb
  refine hK _ _ ?_
  clear hK K
  try simp only [Act.put, List.setIfInBounds_toArray, List.set_cons_succ, List.set_cons_zero]
  refine takeL (.tuple #[.agg (u8s (zeros 32)).toArray, .int .i64 1]) rfl (by go_simp) ?_
  try simp only [Act.put, List.setIfInBounds_toArray, List.set_cons_succ, List.set_cons_zero]
  refine takeL (.agg (u8s (zeros 32)).toArray) rfl (by go_simp) ?_
  try simp only [Act.put, List.setIfInBounds_toArray, List.set_cons_succ, List.set_cons_zero]
  refine takeL (.int .i64 1) rfl (by go_simp) ?_
  try simp only [Act.put, List.setIfInBounds_toArray, List.set_cons_succ, List.set_cons_zero]
  refine alloc_g zero26 rfl ?_
  intro w64 hA hb hl
  try simp only [Act.put, List.setIfInBounds_toArray, List.set_cons_succ, List.set_cons_zero]
  clear hl
  refine store_all (cs := (u8s (zeros 32)).toArray) hA (by simp only [u8s_size, List.size_toArray, List.length_append, List.length_singleton, List.length_map, HZ32.out]) (by rw [u8s_size, HZ32.out]; exact info26) (u8s_one _) rfl rfl rfl ?_
  intro w65 hD hO hlD
  try simp only [Act.put, List.setIfInBounds_toArray, List.set_cons_succ, List.set_cons_zero]
  clear hlD hA
  have hbb : Below w55.heap.size w55 w65 := hb.trans (hO.below hb.size fun k hk => Nat.le_of_eq hk.symm)
  clear hb hO
  have HN66 := Lib.hid (Nat.ne_of_lt F60.out.lt)
  have HN67 := Lib.hid (Nat.ne_of_lt F61.out.lt)
  have HN68 := Lib.hid (Nat.ne_of_lt F63.out.lt)
  have HG69 : Hid (w.heap.size ≤ w55.heap.size) := Lib.hid F56.out.size
  have F70 := Lib.hid (F56.out.trans (hbb.mono F56.out.size))
  have F71 := Lib.hid (F57.out.below (Nat.le_refl _) hbb)
  have F72 := Lib.hid (F58.out.below hbb)
  have F73 := Lib.hid (F59.out.below hbb)
  have F74 := Lib.hid (F60.out.below hbb F60.out.lt)
  have F75 := Lib.hid (F61.out.below hbb F61.out.lt)
  have F76 := Lib.hid (F62.out.below hbb)
  have F77 := Lib.hid (F63.out.below hbb F63.out.lt)
  clear F56 F57 F58 F59 F60 F61 F62 F63
  have F78 : Hid (Blk w65 w55.heap.size (u8s (zeros 32))) := Lib.hid hD
  clear hD hbb w64
  generalize w55.heap.size = g79 at *
  clear w55
  refine takeL (.int .i64 1) rfl (by go_simp) ?_
  try simp only [Act.put, List.setIfInBounds_toArray, List.set_cons_succ, List.set_cons_zero]
  refine wpList_nil ?_
  go_upto_region 9 with fail
  refine wp_region_lit ?_
  refine takeL (.slice (some ⟨g, o, none⟩) n cap) rfl (by go_simp) ?_
  try simp only [Act.put, List.setIfInBounds_toArray, List.set_cons_succ, List.set_cons_zero]
  refine takeL (.int .i64 n) rfl (by go_simp) ?_
  try simp only [Act.put, List.setIfInBounds_toArray, List.set_cons_succ, List.set_cons_zero]
  refine takeL (.bool true) rfl (by go_simp) ?_
  try simp only [Act.put, List.setIfInBounds_toArray, List.set_cons_succ, List.set_cons_zero]
  refine takeL (.bool true) rfl (by go_simp) ?_
  try simp only [Act.put, List.setIfInBounds_toArray, List.set_cons_succ, List.set_cons_zero]
  refine passL rfl ?_
  try simp only [Act.put, List.setIfInBounds_toArray, List.set_cons_succ, List.set_cons_zero]
  refine passL rfl ?_
  try simp only [Act.put, List.setIfInBounds_toArray, List.set_cons_succ, List.set_cons_zero]
  refine takeL (.bool true) rfl (by go_simp) ?_
  try simp only [Act.put, List.setIfInBounds_toArray, List.set_cons_succ, List.set_cons_zero]
  refine takeL (.bool true) rfl (by go_simp) ?_
  try simp only [Act.put, List.setIfInBounds_toArray, List.set_cons_succ, List.set_cons_zero]
  refine passL rfl ?_
  try simp only [Act.put, List.setIfInBounds_toArray, List.set_cons_succ, List.set_cons_zero]
  refine passL rfl ?_
  try simp only [Act.put, List.setIfInBounds_toArray, List.set_cons_succ, List.set_cons_zero]
  refine passL rfl ?_
  try simp only [Act.put, List.setIfInBounds_toArray, List.set_cons_succ, List.set_cons_zero]
  refine takeL (.bool true) rfl (by go_simp) ?_
  try simp only [Act.put, List.setIfInBounds_toArray, List.set_cons_succ, List.set_cons_zero]
  refine wpList_nil ?_
  go_upto_region 10 with fail
  refine wp_region_lit ?_
  refine takeL (.int .i64 11) rfl (by go_simp) ?_
  try simp only [Act.put, List.setIfInBounds_toArray, List.set_cons_succ, List.set_cons_zero]
  refine takeL (.bool true) rfl (by go_simp) ?_
  try simp only [Act.put, List.setIfInBounds_toArray, List.set_cons_succ, List.set_cons_zero]
  refine takeL (.bool true) rfl (by go_simp) ?_
  try simp only [Act.put, List.setIfInBounds_toArray, List.set_cons_succ, List.set_cons_zero]
  refine load26 (cs := (u8s (zeros 32)).toArray) (Blk.all F77.out rfl) (by rw [u8s_size, HZ32.out]) rfl rfl ?_
  try simp only [Act.put, List.setIfInBounds_toArray, List.set_cons_succ, List.set_cons_zero]
  refine build_g (build26 _) rfl ?_
  try simp only [Act.put, List.setIfInBounds_toArray, List.set_cons_succ, List.set_cons_zero]
  refine takeL (.bool true) rfl (by exact exec_page (decide_eq_true rfl) HZ32.out HZ32.out _ _ _ rfl rfl rfl) ?_
  try simp only [Act.put, List.setIfInBounds_toArray, List.set_cons_succ, List.set_cons_zero]
  refine takeL (.bool true) rfl (by go_simp) ?_
  try simp only [Act.put, List.setIfInBounds_toArray, List.set_cons_succ, List.set_cons_zero]
  refine takeL (.bool true) rfl (by go_simp) ?_
  try simp only [Act.put, List.setIfInBounds_toArray, List.set_cons_succ, List.set_cons_zero]
  refine wpList_op rfl fun K hK => ?_
  go_simp
  refine (wakes_any _ F71.out).mono ?_
  rintro e w80 ⟨rfl, hb⟩
  have F81 := Lib.hid (F70.out.trans (hb.mono F70.out.size))
  have F82 := Lib.hid (F71.out.below (Nat.le_refl _) hb)
  have F83 := Lib.hid (F72.out.below hb)
  have F84 := Lib.hid (F73.out.below hb)
  have F85 := Lib.hid (F74.out.below hb F74.out.lt)
  have F86 := Lib.hid (F75.out.below hb F75.out.lt)
  have F87 := Lib.hid (F76.out.below hb)
  have F88 := Lib.hid (F77.out.below hb F77.out.lt)
  have F89 := Lib.hid (F78.out.below hb F78.out.lt)
  clear F70 F71 F72 F73 F74 F75 F76 F77 F78
  clear hb
  refine hK _ _ ?_
  clear hK K
  try simp only [Act.put, List.setIfInBounds_toArray, List.set_cons_succ, List.set_cons_zero]
  refine takeL (.bool true) rfl (by go_simp) ?_
  try simp only [Act.put, List.setIfInBounds_toArray, List.set_cons_succ, List.set_cons_zero]
  refine takeL (.bool true) rfl (by go_simp) ?_
  try simp only [Act.put, List.setIfInBounds_toArray, List.set_cons_succ, List.set_cons_zero]
  refine wpList_nil ?_
  go_wp2_with fail
  go_ret
  exact ⟨rfl, F81.out⟩
set_option maxRecDepth 100000 in
set_option maxHeartbeats 2000000 in
theorem more_out (l : List (Bk × Value)) (n : Nat) (hn : l.length = n) (sv : Value) (off : Int) (ho : Small off) (tv : Value) (x : List Int) (m : Nat) (hm : x.length = m) (hyx : ∀ y ∈ x, Byte y) (hf : fair (l.map (·.1)) = true) (h3 : m ≤ 300) (hpos : 0 < n) (hcc : isChain (l.map (·.1)) = true) (hfit : ¬ Fits off x) (hmany : ¬ 3 ≤ n) (w : World) (h : BlksAt w sv l) (hx : BytesAt w tv x) (hev : ErrVar w) : Calls Tryd.prog 4 #[sv, .int .i64 off, tv] w fun e w' => e = .returned (.bool true) ∧ Below w.heap.size w w' := by
  have HZ32 := Lib.hid (zeros_length 32)
  have HNW := Lib.hid Bk.none_wf
  have HNL : Hid (Len (.slice none 0 0) 0) := Lib.hid ⟨none, 0, rfl⟩
  have HBL : Hid (Below w.heap.size w w) := Lib.hid (Below.refl _ _)
  have HEV := Lib.hid hev
  have HE0 := Lib.hid hev.lt
  obtain ⟨L, hL⟩ : ∃ L, l.map (·.1) = L := ⟨_, rfl⟩
  rw [hL] at hf hcc
  have HLM := Lib.hid hL
  have HN := Lib.hid hn
  have HM := Lib.hid hm
  have HLN : Hid (L.length = n) := Lib.hid (by rw [← hL, List.length_map, hn])
  have HBS := Lib.hid h
  have HBX := Lib.hid hx
  have h20 : n ≤ 20 := by
    have := (fair_iff hf).1
    rw [← hL, List.length_map, hn] at this
    exact this
  have HFA : Hid (∀ w, BlksAt w sv l → Calls Tryd.prog 6 #[sv] w fun e w' => e = .returned (.bool true) ∧ w = w') := Lib.hid fun w h => by
    have := fair_any l n hn (by omega) sv w h
    rwa [hL, hf] at this
  obtain ⟨p, hp⟩ : ∃ p, told L = p := ⟨_, rfl⟩
  have HPL : Hid (p.length = 32) := Lib.hid (by rw [← hp]; exact told_length (by rw [← hL]; exact h.wf))
  have HP := Lib.hid hp
  have HCC := Lib.hid hcc
  have HLH : Hid (L ≠ []) := Lib.hid (by
    intro e
    have := congrArg List.length e
    rw [← hL, List.length_map, hn] at this
    simp at this
    omega)
  obtain ⟨g, o, cap, he0, hg, hc⟩ := h.has (by omega)
  rw [hn] at he0
  subst he0
  obtain ⟨y, hy⟩ : ∃ y, l[0]? = some y := ⟨_, List.getElem?_eq_getElem (by omega)⟩
  obtain ⟨b0, bv0⟩ := y
  have Y1 : Hid (w.cell? ⟨g, o + 1, none⟩ = some (.int .i64 b0.id)) := Lib.hid (by
    obtain ⟨y1, y2, y3⟩ := hc 0 _ hy
    have := y3 1 (by rw [Bk.arr_size y1]; decide)
    simpa [Bk.arr, Bk.cells] using this)
  have HB0 : Small b0.id := (hc 0 _ hy).1.id
  obtain ⟨r, hr⟩ : ∃ r, L = b0 :: r := by
    have : L[0]? = some b0 := by rw [← hL, List.getElem?_map, hy]; rfl
    cases L with
    | nil => cases this
    | cons z r =>
      cases this
      exact ⟨r, rfl⟩
  have HR := Lib.hid hr
  have HG := Lib.hid hg
  obtain ⟨ba, bc, he2, -⟩ := hx
  rw [hm] at he2
  subst he2
  have a0 : decide (300 < (m : Int)) = false := decide_eq_false (by omega)
  have a1 : ((n : Int) == 0) = false := by simp; omega
  have a2 : decide (3 ≤ (n : Int)) = false := decide_eq_false (by omega)
  have HD0 : Hid (isChain (Bk.delta b0.id off x 99 :: L) = false) := Lib.hid (by
    rw [hr, chain_more (by decide) (by decide) (by decide) (by rw [← hr]; exact hcc), ← hr, HLN.out, hm]
    simp
    exact fun _ h => absurd h hfit)
  obtain ⟨D, hD⟩ : ∃ D, Bk.delta b0.id off x 99 = D := ⟨_, rfl⟩
  have HWD : Hid D.Wf := Lib.hid (hD ▸ Bk.delta_wf HB0 ho ⟨by decide, by decide⟩ (by omega) hyx)
  have HDB : Hid (D.bytes = x) := Lib.hid (hD ▸ rfl)
  have HLD : Hid (Len (.slice ba m bc) D.bytes.length) := Lib.hid (by rw [HDB.out, hm]; exact ⟨_, _, rfl⟩)
  have HBD : Hid (Tryd.prog.built 30 [(0, .int .i64 2), (1, .int .i64 b0.id), (3, .int .i64 off), (4, .slice ba m bc), (5, .int .i64 99)] = some (D.arr (.slice ba m bc))) := Lib.hid (hD ▸ built30d b0.id off x 99 ba m bc)
  rw [hD] at HD0
  have HT := Lib.hid (told_no HD0.out).1
  have HCD := Lib.hid (told_no HD0.out).2
  have HF := Lib.hid hfit
  clear hD hfit
  have HX3 := Lib.hid (show x.length ≤ 1000 by omega)
  clear hev hf hcc hL hn hm hp hr hy hc hg h hyx ho
  go_enter Tryd.func4, Tryd.ntmps4
  go_upto_region 1 with fail
  refine wp_region_lit ?_
  refine takeL (.slice (some ⟨g, o, none⟩) n cap) rfl (by go_simp) ?_
  try simp only [Act.put, List.setIfInBounds_toArray, List.set_cons_succ, List.set_cons_zero]
  refine wpList_op rfl fun K hK => ?_
  go_simp
  refine (HFA.out _ HBS.out).mono ?_
  rintro e w1 ⟨rfl, rfl⟩
  refine hK _ _ ?_
  clear hK K
  try simp only [Act.put, List.setIfInBounds_toArray, List.set_cons_succ, List.set_cons_zero]
  refine takeL (.bool false) rfl (by go_simp) ?_
  try simp only [Act.put, List.setIfInBounds_toArray, List.set_cons_succ, List.set_cons_zero]
  refine takeL (.bool false) rfl (by go_simp) ?_
  try simp only [Act.put, List.setIfInBounds_toArray, List.set_cons_succ, List.set_cons_zero]
  refine takeL (.slice ba m bc) rfl (by go_simp) ?_
  try simp only [Act.put, List.setIfInBounds_toArray, List.set_cons_succ, List.set_cons_zero]
  refine takeL (.int .i64 m) rfl (by go_simp) ?_
  try simp only [Act.put, List.setIfInBounds_toArray, List.set_cons_succ, List.set_cons_zero]
  refine takeL (.bool false) rfl (by go_simp) ?_
  try simp only [Act.put, List.setIfInBounds_toArray, List.set_cons_succ, List.set_cons_zero]
  refine takeL (.bool false) rfl (by go_simp) ?_
  try simp only [Act.put, List.setIfInBounds_toArray, List.set_cons_succ, List.set_cons_zero]
  refine takeL (.bool false) rfl (by go_simp) ?_
  try simp only [Act.put, List.setIfInBounds_toArray, List.set_cons_succ, List.set_cons_zero]
  refine takeL (.slice (some ⟨g, o, none⟩) n cap) rfl (by go_simp) ?_
  try simp only [Act.put, List.setIfInBounds_toArray, List.set_cons_succ, List.set_cons_zero]
  refine takeL (.int .i64 n) rfl (by go_simp) ?_
  try simp only [Act.put, List.setIfInBounds_toArray, List.set_cons_succ, List.set_cons_zero]
  refine takeL (.bool false) rfl (by go_simp) ?_
  try simp only [Act.put, List.setIfInBounds_toArray, List.set_cons_succ, List.set_cons_zero]
  refine takeL (.bool false) rfl (by go_simp) ?_
  try simp only [Act.put, List.setIfInBounds_toArray, List.set_cons_succ, List.set_cons_zero]
  refine wpList_nil ?_
  have HBS0 := Lib.hid HBS.out
  go_upto_region 3 with fail
  refine wp_region_lit ?_
  refine takeL (.slice (some ⟨g, o, none⟩) n cap) rfl (by go_simp) ?_
  try simp only [Act.put, List.setIfInBounds_toArray, List.set_cons_succ, List.set_cons_zero]
  refine wpList_op rfl fun K hK => ?_
  go_simp
  refine (page_to HLM.out HP.out (code_yes HCC.out) _ _ HBS.out HEV.out).mono ?_
  rintro e w2 ⟨rfl, hb⟩
  have F3 := Lib.hid (HBL.out.trans (hb.mono HBL.out.size))
  have F4 := Lib.hid (HEV.out.below (Nat.le_refl _) hb)
  have F5 := Lib.hid (HBS.out.below hb)
  have F6 := Lib.hid (HBX.out.below hb)
  clear HBL HEV HBS HBX
  clear hb
  refine hK _ _ ?_
  clear hK K
  try simp only [Act.put, List.setIfInBounds_toArray, List.set_cons_succ, List.set_cons_zero]
  refine takeL (.tuple #[.agg (u8s p).toArray, .int .i64 0]) rfl (by go_simp) ?_
  try simp only [Act.put, List.setIfInBounds_toArray, List.set_cons_succ, List.set_cons_zero]
  refine takeL (.agg (u8s p).toArray) rfl (by go_simp) ?_
  try simp only [Act.put, List.setIfInBounds_toArray, List.set_cons_succ, List.set_cons_zero]
  refine takeL (.int .i64 0) rfl (by go_simp) ?_
  try simp only [Act.put, List.setIfInBounds_toArray, List.set_cons_succ, List.set_cons_zero]
  refine alloc_g zero26 rfl ?_
  intro w7 hA hb hl
  try simp only [Act.put, List.setIfInBounds_toArray, List.set_cons_succ, List.set_cons_zero]
  clear hl
  refine store_all (cs := (u8s p).toArray) hA (by simp only [u8s_size, List.size_toArray, List.length_append, List.length_singleton, List.length_map, HPL.out, HZ32.out]) (by rw [u8s_size, HPL.out]; exact info26) (u8s_one _) rfl rfl rfl ?_
  intro w8 hD hO hlD
  try simp only [Act.put, List.setIfInBounds_toArray, List.set_cons_succ, List.set_cons_zero]
  clear hlD hA
  have hbb : Below w2.heap.size w2 w8 := hb.trans (hO.below hb.size fun k hk => Nat.le_of_eq hk.symm)
  clear hb hO
  have HG9 : Hid (w.heap.size ≤ w2.heap.size) := Lib.hid F3.out.size
  have F10 := Lib.hid (F3.out.trans (hbb.mono F3.out.size))
  have F11 := Lib.hid (F4.out.below (Nat.le_refl _) hbb)
  have F12 := Lib.hid (F5.out.below hbb)
  have F13 := Lib.hid (F6.out.below hbb)
  clear F3 F4 F5 F6
  have F14 : Hid (Blk w8 w2.heap.size (u8s p)) := Lib.hid hD
  clear hD hbb w7
  generalize w2.heap.size = g15 at *
  clear w2
  refine takeL (.int .i64 0) rfl (by go_simp) ?_
  try simp only [Act.put, List.setIfInBounds_toArray, List.set_cons_succ, List.set_cons_zero]
  refine wpList_nil ?_
  go_upto_region 4 with fail
  refine wp_region_lit ?_
  refine takeL (.int .i64 0) rfl (by go_simp) ?_
  try simp only [Act.put, List.setIfInBounds_toArray, List.set_cons_succ, List.set_cons_zero]
  refine takeL (.bool false) rfl (by go_simp) ?_
  try simp only [Act.put, List.setIfInBounds_toArray, List.set_cons_succ, List.set_cons_zero]
  refine wpList_nil ?_
  have HMD : Hid (([(D, Value.slice ba m bc)] ++ l).map (·.1) = D :: L) := Lib.hid (by rw [← HLM.out]; rfl)
  go_upto_region 6 with fail
  refine wp_region_lit ?_
  refine takeL (.slice (some ⟨g, o, none⟩) n cap) rfl (by go_simp) ?_
  try simp only [Act.put, List.setIfInBounds_toArray, List.set_cons_succ, List.set_cons_zero]
  refine takeL (.pointer (some ⟨g, o, none⟩)) rfl (by go_simp) ?_
  try simp only [Act.put, List.setIfInBounds_toArray, List.set_cons_succ, List.set_cons_zero]
  refine takeL (.pointer (some ⟨g, o + 1, none⟩)) rfl (by go_simp) ?_
  try simp only [Act.put, List.setIfInBounds_toArray, List.set_cons_succ, List.set_cons_zero]
  refine takeL (.int .i64 b0.id) rfl (by have hq := (F10.out.cell (p := ⟨g, o + 1, none⟩) HG.out).trans Y1.out; go_simp) ?_
  try simp only [Act.put, List.setIfInBounds_toArray, List.set_cons_succ, List.set_cons_zero]
  refine takeL (.int .i64 off) rfl (by go_simp) ?_
  try simp only [Act.put, List.setIfInBounds_toArray, List.set_cons_succ, List.set_cons_zero]
  refine takeL (.slice ba m bc) rfl (by go_simp) ?_
  try simp only [Act.put, List.setIfInBounds_toArray, List.set_cons_succ, List.set_cons_zero]
  refine takeL (.agg (D.arr (.slice ba m bc))) rfl (exec_build _ _ _ _ 30 _ rfl #[(0, .int .i64 2), (1, .int .i64 b0.id), (3, .int .i64 off), (4, .slice ba m bc), (5, .int .i64 99)] (by simp [go_sem]) _ (run_build _ 30 _ _ HBD.out)) ?_
  try simp only [Act.put, List.setIfInBounds_toArray, List.set_cons_succ, List.set_cons_zero]
  refine alloc_g zero30b rfl ?_
  intro w16 hA hb hl
  try simp only [Act.put, List.setIfInBounds_toArray, List.set_cons_succ, List.set_cons_zero]
  clear hl
  refine store_all (cs := (D.arr (.slice ba m bc))) hA (same30 HNW.out HWD.out _ _) (info30s HWD.out _) (Bk.arr_one (slice_one HLD.out)) rfl rfl rfl ?_
  intro w17 hD hO hlD
  try simp only [Act.put, List.setIfInBounds_toArray, List.set_cons_succ, List.set_cons_zero]
  clear hlD hA
  have hbb : Below w8.heap.size w8 w17 := hb.trans (hO.below hb.size fun k hk => Nat.le_of_eq hk.symm)
  clear hb hO
  have HN18 := Lib.hid (Nat.ne_of_lt F14.out.lt)
  have HG19 : Hid (w.heap.size ≤ w8.heap.size) := Lib.hid F10.out.size
  have F20 := Lib.hid (F10.out.trans (hbb.mono F10.out.size))
  have F21 := Lib.hid (F11.out.below (Nat.le_refl _) hbb)
  have F22 := Lib.hid (F12.out.below hbb)
  have F23 := Lib.hid (F13.out.below hbb)
  have F24 := Lib.hid (F14.out.below hbb F14.out.lt)
  clear F10 F11 F12 F13 F14
  have F25 : Hid (Blk w17 w8.heap.size (D.cells (.slice ba m bc))) := Lib.hid hD
  clear hD hbb w16
  generalize w8.heap.size = g26 at *
  clear w8
  refine wpList_nil ?_
  go_upto_region 7 with fail
  refine wp_region_lit ?_
  refine load30 (cs := (D.arr (.slice ba m bc))) (Blk.all F25.out rfl) (D.arr_size HWD.out (.slice ba m bc)) rfl rfl ?_
  try simp only [Act.put, List.setIfInBounds_toArray, List.set_cons_succ, List.set_cons_zero]
  refine lit_L1 HWD.out (by rw [HDB.out]; exact F23.out) rfl rfl ?_
  intro sx wl hO hb
  try simp only [Act.put, List.setIfInBounds_toArray, List.set_cons_succ, List.set_cons_zero]
  have HO1 := Lib.hid hO
  have HB1 := Lib.hid hb
  clear hO hb
  refine takeL (.slice (some ⟨g, o, none⟩) n cap) rfl (by go_simp) ?_
  try simp only [Act.put, List.setIfInBounds_toArray, List.set_cons_succ, List.set_cons_zero]
  refine app_LB HO1.out HB1.out.size (F22.out.below HB1.out) (blks_apart HBS0.out F20.out.size) (by have := HN.out; simp; omega) rfl rfl rfl ?_
  intro sy wm hO hb
  try simp only [Act.put, List.setIfInBounds_toArray, List.set_cons_succ, List.set_cons_zero]
  have hbb := HB1.out.trans hb
  clear HB1 HO1 hb
  have F27 := Lib.hid (F20.out.trans (hbb.mono F20.out.size))
  have F28 := Lib.hid (F21.out.below (Nat.le_refl _) hbb)
  have F29 := Lib.hid (F22.out.below hbb)
  have F30 := Lib.hid (F23.out.below hbb)
  have F31 := Lib.hid (F24.out.below hbb F24.out.lt)
  have F32 := Lib.hid (F25.out.below hbb F25.out.lt)
  clear F20 F21 F22 F23 F24 F25
  have BD := Lib.hid hO.blks
  clear hO hbb
  refine wpList_op rfl fun K hK => ?_
  go_simp
  refine (page_to HMD.out HT.out HCD.out _ _ BD.out F28.out).mono ?_
  rintro e w33 ⟨rfl, hb⟩
  have F34 := Lib.hid (F27.out.trans (hb.mono F27.out.size))
  have F35 := Lib.hid (F28.out.below (Nat.le_refl _) hb)
  have F36 := Lib.hid (F29.out.below hb)
  have F37 := Lib.hid (F30.out.below hb)
  have F38 := Lib.hid (F31.out.below hb F31.out.lt)
  have F39 := Lib.hid (F32.out.below hb F32.out.lt)
  have F40 := Lib.hid (BD.out.below hb)
  clear F27 F28 F29 F30 F31 F32 BD
  clear hb
  refine hK _ _ ?_
  clear hK K
  try simp only [Act.put, List.setIfInBounds_toArray, List.set_cons_succ, List.set_cons_zero]
  refine takeL (.tuple #[.agg (u8s (zeros 32)).toArray, .int .i64 11]) rfl (by go_simp) ?_
  try simp only [Act.put, List.setIfInBounds_toArray, List.set_cons_succ, List.set_cons_zero]
  refine takeL (.agg (u8s (zeros 32)).toArray) rfl (by go_simp) ?_
  try simp only [Act.put, List.setIfInBounds_toArray, List.set_cons_succ, List.set_cons_zero]
  refine takeL (.int .i64 11) rfl (by go_simp) ?_
  try simp only [Act.put, List.setIfInBounds_toArray, List.set_cons_succ, List.set_cons_zero]
  refine alloc_g zero26 rfl ?_
  intro w41 hA hb hl
  try simp only [Act.put, List.setIfInBounds_toArray, List.set_cons_succ, List.set_cons_zero]
  clear hl
  refine store_all (cs := (u8s (zeros 32)).toArray) hA (by simp only [u8s_size, List.size_toArray, List.length_append, List.length_singleton, List.length_map, HZ32.out]) (by rw [u8s_size, HZ32.out]; exact info26) (u8s_one _) rfl rfl rfl ?_
  intro w42 hD hO hlD
  try simp only [Act.put, List.setIfInBounds_toArray, List.set_cons_succ, List.set_cons_zero]
  clear hlD hA
  have hbb : Below w33.heap.size w33 w42 := hb.trans (hO.below hb.size fun k hk => Nat.le_of_eq hk.symm)
  clear hb hO
  have HN43 := Lib.hid (Nat.ne_of_lt F38.out.lt)
  have HN44 := Lib.hid (Nat.ne_of_lt F39.out.lt)
  have HG45 : Hid (w.heap.size ≤ w33.heap.size) := Lib.hid F34.out.size
  have F46 := Lib.hid (F34.out.trans (hbb.mono F34.out.size))
  have F47 := Lib.hid (F35.out.below (Nat.le_refl _) hbb)
  have F48 := Lib.hid (F36.out.below hbb)
  have F49 := Lib.hid (F37.out.below hbb)
  have F50 := Lib.hid (F38.out.below hbb F38.out.lt)
  have F51 := Lib.hid (F39.out.below hbb F39.out.lt)
  have F52 := Lib.hid (F40.out.below hbb)
  clear F34 F35 F36 F37 F38 F39 F40
  have F53 : Hid (Blk w42 w33.heap.size (u8s (zeros 32))) := Lib.hid hD
  clear hD hbb w41
  generalize w33.heap.size = g54 at *
  clear w33
  refine takeL (.int .i64 11) rfl (by go_simp) ?_
  try simp only [Act.put, List.setIfInBounds_toArray, List.set_cons_succ, List.set_cons_zero]
  refine wpList_nil ?_
  go_upto_region 8 with fail
  refine wp_region_lit ?_
  refine load26 (cs := (u8s p).toArray) (Blk.all F50.out rfl) (by rw [u8s_size, HPL.out]) rfl rfl ?_
  try simp only [Act.put, List.setIfInBounds_toArray, List.set_cons_succ, List.set_cons_zero]
  refine takeL (.int .i64 off) rfl (by go_simp) ?_
  try simp only [Act.put, List.setIfInBounds_toArray, List.set_cons_succ, List.set_cons_zero]
  refine takeL (.slice ba m bc) rfl (by go_simp) ?_
  try simp only [Act.put, List.setIfInBounds_toArray, List.set_cons_succ, List.set_cons_zero]
  refine wpList_op rfl fun K hK => ?_
  go_simp
  refine (apply_no p x HPL.out off _ HX3.out HF.out _ F49.out F47.out).mono ?_
  rintro e w55 ⟨rfl, hb⟩
  have F56 := Lib.hid (F46.out.trans (hb.mono F46.out.size))
  have F57 := Lib.hid (F47.out.below (Nat.le_refl _) hb)
  have F58 := Lib.hid (F48.out.below hb)
  have F59 := Lib.hid (F49.out.below hb)
  have F60 := Lib.hid (F50.out.below hb F50.out.lt)
  have F61 := Lib.hid (F51.out.below hb F51.out.lt)
  have F62 := Lib.hid (F52.out.below hb)
  have F63 := Lib.hid (F53.out.below hb F53.out.lt)
  clear F46 F47 F48 F49 F50 F51 F52 F53
  clear hb
  refine hK _ _ ?_
  clear hK K
  try simp only [Act.put, List.setIfInBounds_toArray, List.set_cons_succ, List.set_cons_zero]
  refine takeL (.tuple #[.agg (u8s (zeros 32)).toArray, .int .i64 1]) rfl (by go_simp) ?_
  try simp only [Act.put, List.setIfInBounds_toArray, List.set_cons_succ, List.set_cons_zero]
  refine takeL (.agg (u8s (zeros 32)).toArray) rfl (by go_simp) ?_
  try simp only [Act.put, List.setIfInBounds_toArray, List.set_cons_succ, List.set_cons_zero]
  refine takeL (.int .i64 1) rfl (by go_simp) ?_
  try simp only [Act.put, List.setIfInBounds_toArray, List.set_cons_succ, List.set_cons_zero]
  refine alloc_g zero26 rfl ?_
  intro w64 hA hb hl
  try simp only [Act.put, List.setIfInBounds_toArray, List.set_cons_succ, List.set_cons_zero]
  clear hl
  refine store_all (cs := (u8s (zeros 32)).toArray) hA (by simp only [u8s_size, List.size_toArray, List.length_append, List.length_singleton, List.length_map, HZ32.out]) (by rw [u8s_size, HZ32.out]; exact info26) (u8s_one _) rfl rfl rfl ?_
  intro w65 hD hO hlD
  try simp only [Act.put, List.setIfInBounds_toArray, List.set_cons_succ, List.set_cons_zero]
  clear hlD hA
  have hbb : Below w55.heap.size w55 w65 := hb.trans (hO.below hb.size fun k hk => Nat.le_of_eq hk.symm)
  clear hb hO
  have HN66 := Lib.hid (Nat.ne_of_lt F60.out.lt)
  have HN67 := Lib.hid (Nat.ne_of_lt F61.out.lt)
  have HN68 := Lib.hid (Nat.ne_of_lt F63.out.lt)
  have HG69 : Hid (w.heap.size ≤ w55.heap.size) := Lib.hid F56.out.size
  have F70 := Lib.hid (F56.out.trans (hbb.mono F56.out.size))
  have F71 := Lib.hid (F57.out.below (Nat.le_refl _) hbb)
  have F72 := Lib.hid (F58.out.below hbb)
  have F73 := Lib.hid (F59.out.below hbb)
  have F74 := Lib.hid (F60.out.below hbb F60.out.lt)
  have F75 := Lib.hid (F61.out.below hbb F61.out.lt)
  have F76 := Lib.hid (F62.out.below hbb)
  have F77 := Lib.hid (F63.out.below hbb F63.out.lt)
  clear F56 F57 F58 F59 F60 F61 F62 F63
  have F78 : Hid (Blk w65 w55.heap.size (u8s (zeros 32))) := Lib.hid hD
  clear hD hbb w64
  generalize w55.heap.size = g79 at *
  clear w55
  refine takeL (.int .i64 1) rfl (by go_simp) ?_
  try simp only [Act.put, List.setIfInBounds_toArray, List.set_cons_succ, List.set_cons_zero]
  refine wpList_nil ?_
  go_upto_region 9 with fail
  refine wp_region_lit ?_
  refine takeL (.slice (some ⟨g, o, none⟩) n cap) rfl (by go_simp) ?_
  try simp only [Act.put, List.setIfInBounds_toArray, List.set_cons_succ, List.set_cons_zero]
  refine takeL (.int .i64 n) rfl (by go_simp) ?_
  try simp only [Act.put, List.setIfInBounds_toArray, List.set_cons_succ, List.set_cons_zero]
  refine takeL (.bool false) rfl (by go_simp) ?_
  try simp only [Act.put, List.setIfInBounds_toArray, List.set_cons_succ, List.set_cons_zero]
  refine takeL (.bool false) rfl (by go_simp) ?_
  try simp only [Act.put, List.setIfInBounds_toArray, List.set_cons_succ, List.set_cons_zero]
  refine takeL (.int .i64 1) rfl (by go_simp) ?_
  try simp only [Act.put, List.setIfInBounds_toArray, List.set_cons_succ, List.set_cons_zero]
  refine takeL (.bool true) rfl (by go_simp) ?_
  try simp only [Act.put, List.setIfInBounds_toArray, List.set_cons_succ, List.set_cons_zero]
  refine takeL (.bool true) rfl (by go_simp) ?_
  try simp only [Act.put, List.setIfInBounds_toArray, List.set_cons_succ, List.set_cons_zero]
  refine takeL (.bool true) rfl (by go_simp) ?_
  try simp only [Act.put, List.setIfInBounds_toArray, List.set_cons_succ, List.set_cons_zero]
  refine passL rfl ?_
  try simp only [Act.put, List.setIfInBounds_toArray, List.set_cons_succ, List.set_cons_zero]
  refine passL rfl ?_
  try simp only [Act.put, List.setIfInBounds_toArray, List.set_cons_succ, List.set_cons_zero]
  refine passL rfl ?_
  try simp only [Act.put, List.setIfInBounds_toArray, List.set_cons_succ, List.set_cons_zero]
  refine takeL (.bool true) rfl (by go_simp) ?_
  try simp only [Act.put, List.setIfInBounds_toArray, List.set_cons_succ, List.set_cons_zero]
  refine wpList_nil ?_
  go_upto_region 10 with fail
  refine wp_region_lit ?_
  refine takeL (.int .i64 11) rfl (by go_simp) ?_
  try simp only [Act.put, List.setIfInBounds_toArray, List.set_cons_succ, List.set_cons_zero]
  refine takeL (.bool true) rfl (by go_simp) ?_
  try simp only [Act.put, List.setIfInBounds_toArray, List.set_cons_succ, List.set_cons_zero]
  refine takeL (.bool true) rfl (by go_simp) ?_
  try simp only [Act.put, List.setIfInBounds_toArray, List.set_cons_succ, List.set_cons_zero]
  refine load26 (cs := (u8s (zeros 32)).toArray) (Blk.all F77.out rfl) (by rw [u8s_size, HZ32.out]) rfl rfl ?_
  try simp only [Act.put, List.setIfInBounds_toArray, List.set_cons_succ, List.set_cons_zero]
  refine build_g (build26 _) rfl ?_
  try simp only [Act.put, List.setIfInBounds_toArray, List.set_cons_succ, List.set_cons_zero]
  refine takeL (.bool true) rfl (by exact exec_page (decide_eq_true rfl) HZ32.out HZ32.out _ _ _ rfl rfl rfl) ?_
  try simp only [Act.put, List.setIfInBounds_toArray, List.set_cons_succ, List.set_cons_zero]
  refine takeL (.bool true) rfl (by go_simp) ?_
  try simp only [Act.put, List.setIfInBounds_toArray, List.set_cons_succ, List.set_cons_zero]
  refine takeL (.bool true) rfl (by go_simp) ?_
  try simp only [Act.put, List.setIfInBounds_toArray, List.set_cons_succ, List.set_cons_zero]
  refine wpList_op rfl fun K hK => ?_
  go_simp
  refine (wakes_any _ F71.out).mono ?_
  rintro e w80 ⟨rfl, hb⟩
  have F81 := Lib.hid (F70.out.trans (hb.mono F70.out.size))
  have F82 := Lib.hid (F71.out.below (Nat.le_refl _) hb)
  have F83 := Lib.hid (F72.out.below hb)
  have F84 := Lib.hid (F73.out.below hb)
  have F85 := Lib.hid (F74.out.below hb F74.out.lt)
  have F86 := Lib.hid (F75.out.below hb F75.out.lt)
  have F87 := Lib.hid (F76.out.below hb)
  have F88 := Lib.hid (F77.out.below hb F77.out.lt)
  have F89 := Lib.hid (F78.out.below hb F78.out.lt)
  clear F70 F71 F72 F73 F74 F75 F76 F77 F78
  clear hb
  refine hK _ _ ?_
  clear hK K
  try simp only [Act.put, List.setIfInBounds_toArray, List.set_cons_succ, List.set_cons_zero]
  refine takeL (.bool true) rfl (by go_simp) ?_
  try simp only [Act.put, List.setIfInBounds_toArray, List.set_cons_succ, List.set_cons_zero]
  refine takeL (.bool true) rfl (by go_simp) ?_
  try simp only [Act.put, List.setIfInBounds_toArray, List.set_cons_succ, List.set_cons_zero]
  refine wpList_nil ?_
  go_wp2_with fail
  go_ret
  exact ⟨rfl, F81.out⟩
set_option maxRecDepth 100000 in
set_option maxHeartbeats 2000000 in
theorem more_long (l : List (Bk × Value)) (n : Nat) (hn : l.length = n) (sv : Value) (u : Nat) (ho : Small u) (tv : Value) (x : List Int) (m : Nat) (hm : x.length = m) (hyx : ∀ y ∈ x, Byte y) (hf : fair (l.map (·.1)) = true) (h3 : m ≤ 300) (hpos : 0 < n) (hcc : isChain (l.map (·.1)) = true) (hfit : Fits u x) (hmany : ¬ 3 ≤ n) (hlong : 16 < m) (w : World) (h : BlksAt w sv l) (hx : BytesAt w tv x) (hev : ErrVar w) : Calls Tryd.prog 4 #[sv, .int .i64 u, tv] w fun e w' => e = .returned (.bool true) ∧ Below w.heap.size w w' := by
  have HZ32 := Lib.hid (zeros_length 32)
  have HNW := Lib.hid Bk.none_wf
  have HNL : Hid (Len (.slice none 0 0) 0) := Lib.hid ⟨none, 0, rfl⟩
  have HBL : Hid (Below w.heap.size w w) := Lib.hid (Below.refl _ _)
  have HEV := Lib.hid hev
  have HE0 := Lib.hid hev.lt
  obtain ⟨L, hL⟩ : ∃ L, l.map (·.1) = L := ⟨_, rfl⟩
  rw [hL] at hf hcc
  have HLM := Lib.hid hL
  have HN := Lib.hid hn
  have HM := Lib.hid hm
  have HLN : Hid (L.length = n) := Lib.hid (by rw [← hL, List.length_map, hn])
  have HBS := Lib.hid h
  have HBX := Lib.hid hx
  have h20 : n ≤ 20 := by
    have := (fair_iff hf).1
    rw [← hL, List.length_map, hn] at this
    exact this
  have HFA : Hid (∀ w, BlksAt w sv l → Calls Tryd.prog 6 #[sv] w fun e w' => e = .returned (.bool true) ∧ w = w') := Lib.hid fun w h => by
    have := fair_any l n hn (by omega) sv w h
    rwa [hL, hf] at this
  obtain ⟨p, hp⟩ : ∃ p, told L = p := ⟨_, rfl⟩
  have HPL : Hid (p.length = 32) := Lib.hid (by rw [← hp]; exact told_length (by rw [← hL]; exact h.wf))
  have HP := Lib.hid hp
  have HCC := Lib.hid hcc
  have HLH : Hid (L ≠ []) := Lib.hid (by
    intro e
    have := congrArg List.length e
    rw [← hL, List.length_map, hn] at this
    simp at this
    omega)
  obtain ⟨g, o, cap, he0, hg, hc⟩ := h.has (by omega)
  rw [hn] at he0
  subst he0
  obtain ⟨y, hy⟩ : ∃ y, l[0]? = some y := ⟨_, List.getElem?_eq_getElem (by omega)⟩
  obtain ⟨b0, bv0⟩ := y
  have Y1 : Hid (w.cell? ⟨g, o + 1, none⟩ = some (.int .i64 b0.id)) := Lib.hid (by
    obtain ⟨y1, y2, y3⟩ := hc 0 _ hy
    have := y3 1 (by rw [Bk.arr_size y1]; decide)
    simpa [Bk.arr, Bk.cells] using this)
  have HB0 : Small b0.id := (hc 0 _ hy).1.id
  obtain ⟨r, hr⟩ : ∃ r, L = b0 :: r := by
    have : L[0]? = some b0 := by rw [← hL, List.getElem?_map, hy]; rfl
    cases L with
    | nil => cases this
    | cons z r =>
      cases this
      exact ⟨r, rfl⟩
  have HR := Lib.hid hr
  have HG := Lib.hid hg
  obtain ⟨ba, bc, he2, -⟩ := hx
  rw [hm] at he2
  subst he2
  have a0 : decide (300 < (m : Int)) = false := decide_eq_false (by omega)
  have a1 : ((n : Int) == 0) = false := by simp; omega
  have a2 : decide (3 ≤ (n : Int)) = false := decide_eq_false (by omega)
  have a3 : decide (16 < (m : Int)) = true := decide_eq_true (by omega)
  have HD0 : Hid (isChain (Bk.delta b0.id u x 99 :: L) = false) := Lib.hid (by
    rw [hr, chain_more (by decide) (by decide) (by decide) (by rw [← hr]; exact hcc), ← hr, HLN.out, hm]
    simp
    omega)
  obtain ⟨D, hD⟩ : ∃ D, Bk.delta b0.id u x 99 = D := ⟨_, rfl⟩
  have HWD : Hid D.Wf := Lib.hid (hD ▸ Bk.delta_wf HB0 ho ⟨by decide, by decide⟩ (by omega) hyx)
  have HDB : Hid (D.bytes = x) := Lib.hid (hD ▸ rfl)
  have HLD : Hid (Len (.slice ba m bc) D.bytes.length) := Lib.hid (by rw [HDB.out, hm]; exact ⟨_, _, rfl⟩)
  have HBD : Hid (Tryd.prog.built 30 [(0, .int .i64 2), (1, .int .i64 b0.id), (3, .int .i64 u), (4, .slice ba m bc), (5, .int .i64 99)] = some (D.arr (.slice ba m bc))) := Lib.hid (hD ▸ built30d b0.id u x 99 ba m bc)
  rw [hD] at HD0
  have HT := Lib.hid (told_no HD0.out).1
  have HCD := Lib.hid (told_no HD0.out).2
  obtain ⟨p1, hp1⟩ : ∃ p1, layI p u x = p1 := ⟨_, rfl⟩
  have H1 : Hid (p1.length = 32) := Lib.hid (hp1 ▸ lay_size HPL.out u hfit)
  have HP1 := Lib.hid hp1
  clear hp1
  have HF := Lib.hid hfit
  clear hD hfit
  have HX3 := Lib.hid (show x.length ≤ 1000 by omega)
  clear hev hf hcc hL hn hm hp hr hy hc hg h hyx ho
  go_enter Tryd.func4, Tryd.ntmps4
  go_upto_region 1 with fail
  refine wp_region_lit ?_
  refine takeL (.slice (some ⟨g, o, none⟩) n cap) rfl (by go_simp) ?_
  try simp only [Act.put, List.setIfInBounds_toArray, List.set_cons_succ, List.set_cons_zero]
  refine wpList_op rfl fun K hK => ?_
  go_simp
  refine (HFA.out _ HBS.out).mono ?_
  rintro e w1 ⟨rfl, rfl⟩
  refine hK _ _ ?_
  clear hK K
  try simp only [Act.put, List.setIfInBounds_toArray, List.set_cons_succ, List.set_cons_zero]
  refine takeL (.bool false) rfl (by go_simp) ?_
  try simp only [Act.put, List.setIfInBounds_toArray, List.set_cons_succ, List.set_cons_zero]
  refine takeL (.bool false) rfl (by go_simp) ?_
  try simp only [Act.put, List.setIfInBounds_toArray, List.set_cons_succ, List.set_cons_zero]
  refine takeL (.slice ba m bc) rfl (by go_simp) ?_
  try simp only [Act.put, List.setIfInBounds_toArray, List.set_cons_succ, List.set_cons_zero]
  refine takeL (.int .i64 m) rfl (by go_simp) ?_
  try simp only [Act.put, List.setIfInBounds_toArray, List.set_cons_succ, List.set_cons_zero]
  refine takeL (.bool false) rfl (by go_simp) ?_
  try simp only [Act.put, List.setIfInBounds_toArray, List.set_cons_succ, List.set_cons_zero]
  refine takeL (.bool false) rfl (by go_simp) ?_
  try simp only [Act.put, List.setIfInBounds_toArray, List.set_cons_succ, List.set_cons_zero]
  refine takeL (.bool false) rfl (by go_simp) ?_
  try simp only [Act.put, List.setIfInBounds_toArray, List.set_cons_succ, List.set_cons_zero]
  refine takeL (.slice (some ⟨g, o, none⟩) n cap) rfl (by go_simp) ?_
  try simp only [Act.put, List.setIfInBounds_toArray, List.set_cons_succ, List.set_cons_zero]
  refine takeL (.int .i64 n) rfl (by go_simp) ?_
  try simp only [Act.put, List.setIfInBounds_toArray, List.set_cons_succ, List.set_cons_zero]
  refine takeL (.bool false) rfl (by go_simp) ?_
  try simp only [Act.put, List.setIfInBounds_toArray, List.set_cons_succ, List.set_cons_zero]
  refine takeL (.bool false) rfl (by go_simp) ?_
  try simp only [Act.put, List.setIfInBounds_toArray, List.set_cons_succ, List.set_cons_zero]
  refine wpList_nil ?_
  have HBS0 := Lib.hid HBS.out
  go_upto_region 3 with fail
  refine wp_region_lit ?_
  refine takeL (.slice (some ⟨g, o, none⟩) n cap) rfl (by go_simp) ?_
  try simp only [Act.put, List.setIfInBounds_toArray, List.set_cons_succ, List.set_cons_zero]
  refine wpList_op rfl fun K hK => ?_
  go_simp
  refine (page_to HLM.out HP.out (code_yes HCC.out) _ _ HBS.out HEV.out).mono ?_
  rintro e w2 ⟨rfl, hb⟩
  have F3 := Lib.hid (HBL.out.trans (hb.mono HBL.out.size))
  have F4 := Lib.hid (HEV.out.below (Nat.le_refl _) hb)
  have F5 := Lib.hid (HBS.out.below hb)
  have F6 := Lib.hid (HBX.out.below hb)
  clear HBL HEV HBS HBX
  clear hb
  refine hK _ _ ?_
  clear hK K
  try simp only [Act.put, List.setIfInBounds_toArray, List.set_cons_succ, List.set_cons_zero]
  refine takeL (.tuple #[.agg (u8s p).toArray, .int .i64 0]) rfl (by go_simp) ?_
  try simp only [Act.put, List.setIfInBounds_toArray, List.set_cons_succ, List.set_cons_zero]
  refine takeL (.agg (u8s p).toArray) rfl (by go_simp) ?_
  try simp only [Act.put, List.setIfInBounds_toArray, List.set_cons_succ, List.set_cons_zero]
  refine takeL (.int .i64 0) rfl (by go_simp) ?_
  try simp only [Act.put, List.setIfInBounds_toArray, List.set_cons_succ, List.set_cons_zero]
  refine alloc_g zero26 rfl ?_
  intro w7 hA hb hl
  try simp only [Act.put, List.setIfInBounds_toArray, List.set_cons_succ, List.set_cons_zero]
  clear hl
  refine store_all (cs := (u8s p).toArray) hA (by simp only [u8s_size, List.size_toArray, List.length_append, List.length_singleton, List.length_map, HPL.out, HZ32.out]) (by rw [u8s_size, HPL.out]; exact info26) (u8s_one _) rfl rfl rfl ?_
  intro w8 hD hO hlD
  try simp only [Act.put, List.setIfInBounds_toArray, List.set_cons_succ, List.set_cons_zero]
  clear hlD hA
  have hbb : Below w2.heap.size w2 w8 := hb.trans (hO.below hb.size fun k hk => Nat.le_of_eq hk.symm)
  clear hb hO
  have HG9 : Hid (w.heap.size ≤ w2.heap.size) := Lib.hid F3.out.size
  have F10 := Lib.hid (F3.out.trans (hbb.mono F3.out.size))
  have F11 := Lib.hid (F4.out.below (Nat.le_refl _) hbb)
  have F12 := Lib.hid (F5.out.below hbb)
  have F13 := Lib.hid (F6.out.below hbb)
  clear F3 F4 F5 F6
  have F14 : Hid (Blk w8 w2.heap.size (u8s p)) := Lib.hid hD
  clear hD hbb w7
  generalize w2.heap.size = g15 at *
  clear w2
  refine takeL (.int .i64 0) rfl (by go_simp) ?_
  try simp only [Act.put, List.setIfInBounds_toArray, List.set_cons_succ, List.set_cons_zero]
  refine wpList_nil ?_
  go_upto_region 4 with fail
  refine wp_region_lit ?_
  refine takeL (.int .i64 0) rfl (by go_simp) ?_
  try simp only [Act.put, List.setIfInBounds_toArray, List.set_cons_succ, List.set_cons_zero]
  refine takeL (.bool false) rfl (by go_simp) ?_
  try simp only [Act.put, List.setIfInBounds_toArray, List.set_cons_succ, List.set_cons_zero]
  refine wpList_nil ?_
  have HMD : Hid (([(D, Value.slice ba m bc)] ++ l).map (·.1) = D :: L) := Lib.hid (by rw [← HLM.out]; rfl)
  go_upto_region 6 with fail
  refine wp_region_lit ?_
  refine takeL (.slice (some ⟨g, o, none⟩) n cap) rfl (by go_simp) ?_
  try simp only [Act.put, List.setIfInBounds_toArray, List.set_cons_succ, List.set_cons_zero]
  refine takeL (.pointer (some ⟨g, o, none⟩)) rfl (by go_simp) ?_
  try simp only [Act.put, List.setIfInBounds_toArray, List.set_cons_succ, List.set_cons_zero]
  refine takeL (.pointer (some ⟨g, o + 1, none⟩)) rfl (by go_simp) ?_
  try simp only [Act.put, List.setIfInBounds_toArray, List.set_cons_succ, List.set_cons_zero]
  refine takeL (.int .i64 b0.id) rfl (by have hq := (F10.out.cell (p := ⟨g, o + 1, none⟩) HG.out).trans Y1.out; go_simp) ?_
  try simp only [Act.put, List.setIfInBounds_toArray, List.set_cons_succ, List.set_cons_zero]
  refine takeL (.int .i64 u) rfl (by go_simp) ?_
  try simp only [Act.put, List.setIfInBounds_toArray, List.set_cons_succ, List.set_cons_zero]
  refine takeL (.slice ba m bc) rfl (by go_simp) ?_
  try simp only [Act.put, List.setIfInBounds_toArray, List.set_cons_succ, List.set_cons_zero]
  refine takeL (.agg (D.arr (.slice ba m bc))) rfl (exec_build _ _ _ _ 30 _ rfl #[(0, .int .i64 2), (1, .int .i64 b0.id), (3, .int .i64 u), (4, .slice ba m bc), (5, .int .i64 99)] (by simp [go_sem]) _ (run_build _ 30 _ _ HBD.out)) ?_
  try simp only [Act.put, List.setIfInBounds_toArray, List.set_cons_succ, List.set_cons_zero]
  refine alloc_g zero30b rfl ?_
  intro w16 hA hb hl
  try simp only [Act.put, List.setIfInBounds_toArray, List.set_cons_succ, List.set_cons_zero]
  clear hl
  refine store_all (cs := (D.arr (.slice ba m bc))) hA (same30 HNW.out HWD.out _ _) (info30s HWD.out _) (Bk.arr_one (slice_one HLD.out)) rfl rfl rfl ?_
  intro w17 hD hO hlD
  try simp only [Act.put, List.setIfInBounds_toArray, List.set_cons_succ, List.set_cons_zero]
  clear hlD hA
  have hbb : Below w8.heap.size w8 w17 := hb.trans (hO.below hb.size fun k hk => Nat.le_of_eq hk.symm)
  clear hb hO
  have HN18 := Lib.hid (Nat.ne_of_lt F14.out.lt)
  have HG19 : Hid (w.heap.size ≤ w8.heap.size) := Lib.hid F10.out.size
  have F20 := Lib.hid (F10.out.trans (hbb.mono F10.out.size))
  have F21 := Lib.hid (F11.out.below (Nat.le_refl _) hbb)
  have F22 := Lib.hid (F12.out.below hbb)
  have F23 := Lib.hid (F13.out.below hbb)
  have F24 := Lib.hid (F14.out.below hbb F14.out.lt)
  clear F10 F11 F12 F13 F14
  have F25 : Hid (Blk w17 w8.heap.size (D.cells (.slice ba m bc))) := Lib.hid hD
  clear hD hbb w16
  generalize w8.heap.size = g26 at *
  clear w8
  refine wpList_nil ?_
  go_upto_region 7 with fail
  refine wp_region_lit ?_
  refine load30 (cs := (D.arr (.slice ba m bc))) (Blk.all F25.out rfl) (D.arr_size HWD.out (.slice ba m bc)) rfl rfl ?_
  try simp only [Act.put, List.setIfInBounds_toArray, List.set_cons_succ, List.set_cons_zero]
  refine lit_L1 HWD.out (by rw [HDB.out]; exact F23.out) rfl rfl ?_
  intro sx wl hO hb
  try simp only [Act.put, List.setIfInBounds_toArray, List.set_cons_succ, List.set_cons_zero]
  have HO1 := Lib.hid hO
  have HB1 := Lib.hid hb
  clear hO hb
  refine takeL (.slice (some ⟨g, o, none⟩) n cap) rfl (by go_simp) ?_
  try simp only [Act.put, List.setIfInBounds_toArray, List.set_cons_succ, List.set_cons_zero]
  refine app_LB HO1.out HB1.out.size (F22.out.below HB1.out) (blks_apart HBS0.out F20.out.size) (by have := HN.out; simp; omega) rfl rfl rfl ?_
  intro sy wm hO hb
  try simp only [Act.put, List.setIfInBounds_toArray, List.set_cons_succ, List.set_cons_zero]
  have hbb := HB1.out.trans hb
  clear HB1 HO1 hb
  have F27 := Lib.hid (F20.out.trans (hbb.mono F20.out.size))
  have F28 := Lib.hid (F21.out.below (Nat.le_refl _) hbb)
  have F29 := Lib.hid (F22.out.below hbb)
  have F30 := Lib.hid (F23.out.below hbb)
  have F31 := Lib.hid (F24.out.below hbb F24.out.lt)
  have F32 := Lib.hid (F25.out.below hbb F25.out.lt)
  clear F20 F21 F22 F23 F24 F25
  have BD := Lib.hid hO.blks
  clear hO hbb
  refine wpList_op rfl fun K hK => ?_
  go_simp
  refine (page_to HMD.out HT.out HCD.out _ _ BD.out F28.out).mono ?_
  rintro e w33 ⟨rfl, hb⟩
  have F34 := Lib.hid (F27.out.trans (hb.mono F27.out.size))
  have F35 := Lib.hid (F28.out.below (Nat.le_refl _) hb)
  have F36 := Lib.hid (F29.out.below hb)
  have F37 := Lib.hid (F30.out.below hb)
  have F38 := Lib.hid (F31.out.below hb F31.out.lt)
  have F39 := Lib.hid (F32.out.below hb F32.out.lt)
  have F40 := Lib.hid (BD.out.below hb)
  clear F27 F28 F29 F30 F31 F32 BD
  clear hb
  refine hK _ _ ?_
  clear hK K
  try simp only [Act.put, List.setIfInBounds_toArray, List.set_cons_succ, List.set_cons_zero]
  refine takeL (.tuple #[.agg (u8s (zeros 32)).toArray, .int .i64 11]) rfl (by go_simp) ?_
  try simp only [Act.put, List.setIfInBounds_toArray, List.set_cons_succ, List.set_cons_zero]
  refine takeL (.agg (u8s (zeros 32)).toArray) rfl (by go_simp) ?_
  try simp only [Act.put, List.setIfInBounds_toArray, List.set_cons_succ, List.set_cons_zero]
  refine takeL (.int .i64 11) rfl (by go_simp) ?_
  try simp only [Act.put, List.setIfInBounds_toArray, List.set_cons_succ, List.set_cons_zero]
  refine alloc_g zero26 rfl ?_
  intro w41 hA hb hl
  try simp only [Act.put, List.setIfInBounds_toArray, List.set_cons_succ, List.set_cons_zero]
  clear hl
  refine store_all (cs := (u8s (zeros 32)).toArray) hA (by simp only [u8s_size, List.size_toArray, List.length_append, List.length_singleton, List.length_map, HZ32.out]) (by rw [u8s_size, HZ32.out]; exact info26) (u8s_one _) rfl rfl rfl ?_
  intro w42 hD hO hlD
  try simp only [Act.put, List.setIfInBounds_toArray, List.set_cons_succ, List.set_cons_zero]
  clear hlD hA
  have hbb : Below w33.heap.size w33 w42 := hb.trans (hO.below hb.size fun k hk => Nat.le_of_eq hk.symm)
  clear hb hO
  have HN43 := Lib.hid (Nat.ne_of_lt F38.out.lt)
  have HN44 := Lib.hid (Nat.ne_of_lt F39.out.lt)
  have HG45 : Hid (w.heap.size ≤ w33.heap.size) := Lib.hid F34.out.size
  have F46 := Lib.hid (F34.out.trans (hbb.mono F34.out.size))
  have F47 := Lib.hid (F35.out.below (Nat.le_refl _) hbb)
  have F48 := Lib.hid (F36.out.below hbb)
  have F49 := Lib.hid (F37.out.below hbb)
  have F50 := Lib.hid (F38.out.below hbb F38.out.lt)
  have F51 := Lib.hid (F39.out.below hbb F39.out.lt)
  have F52 := Lib.hid (F40.out.below hbb)
  clear F34 F35 F36 F37 F38 F39 F40
  have F53 : Hid (Blk w42 w33.heap.size (u8s (zeros 32))) := Lib.hid hD
  clear hD hbb w41
  generalize w33.heap.size = g54 at *
  clear w33
  refine takeL (.int .i64 11) rfl (by go_simp) ?_
  try simp only [Act.put, List.setIfInBounds_toArray, List.set_cons_succ, List.set_cons_zero]
  refine wpList_nil ?_
  go_upto_region 8 with fail
  refine wp_region_lit ?_
  refine load26 (cs := (u8s p).toArray) (Blk.all F50.out rfl) (by rw [u8s_size, HPL.out]) rfl rfl ?_
  try simp only [Act.put, List.setIfInBounds_toArray, List.set_cons_succ, List.set_cons_zero]
  refine takeL (.int .i64 u) rfl (by go_simp) ?_
  try simp only [Act.put, List.setIfInBounds_toArray, List.set_cons_succ, List.set_cons_zero]
  refine takeL (.slice ba m bc) rfl (by go_simp) ?_
  try simp only [Act.put, List.setIfInBounds_toArray, List.set_cons_succ, List.set_cons_zero]
  refine wpList_op rfl fun K hK => ?_
  go_simp
  refine (HP1.out ▸ apply_yes p x HPL.out u _ HX3.out HF.out _ F49.out F47.out).mono ?_
  rintro e w55 ⟨rfl, hb⟩
  have F56 := Lib.hid (F46.out.trans (hb.mono F46.out.size))
  have F57 := Lib.hid (F47.out.below (Nat.le_refl _) hb)
  have F58 := Lib.hid (F48.out.below hb)
  have F59 := Lib.hid (F49.out.below hb)
  have F60 := Lib.hid (F50.out.below hb F50.out.lt)
  have F61 := Lib.hid (F51.out.below hb F51.out.lt)
  have F62 := Lib.hid (F52.out.below hb)
  have F63 := Lib.hid (F53.out.below hb F53.out.lt)
  clear F46 F47 F48 F49 F50 F51 F52 F53
  clear hb
  refine hK _ _ ?_
  clear hK K
  try simp only [Act.put, List.setIfInBounds_toArray, List.set_cons_succ, List.set_cons_zero]
  refine takeL (.tuple #[.agg (u8s p1).toArray, .int .i64 0]) rfl (by go_simp) ?_
  try simp only [Act.put, List.setIfInBounds_toArray, List.set_cons_succ, List.set_cons_zero]
  refine takeL (.agg (u8s p1).toArray) rfl (by go_simp) ?_
  try simp only [Act.put, List.setIfInBounds_toArray, List.set_cons_succ, List.set_cons_zero]
  refine takeL (.int .i64 0) rfl (by go_simp) ?_
  try simp only [Act.put, List.setIfInBounds_toArray, List.set_cons_succ, List.set_cons_zero]
  refine alloc_g zero26 rfl ?_
  intro w64 hA hb hl
  try simp only [Act.put, List.setIfInBounds_toArray, List.set_cons_succ, List.set_cons_zero]
  clear hl
  refine store_all (cs := (u8s p1).toArray) hA (by simp only [u8s_size, List.size_toArray, List.length_append, List.length_singleton, List.length_map, H1.out, HZ32.out]) (by rw [u8s_size, H1.out]; exact info26) (u8s_one _) rfl rfl rfl ?_
  intro w65 hD hO hlD
  try simp only [Act.put, List.setIfInBounds_toArray, List.set_cons_succ, List.set_cons_zero]
  clear hlD hA
  have hbb : Below w55.heap.size w55 w65 := hb.trans (hO.below hb.size fun k hk => Nat.le_of_eq hk.symm)
  clear hb hO
  have HN66 := Lib.hid (Nat.ne_of_lt F60.out.lt)
  have HN67 := Lib.hid (Nat.ne_of_lt F61.out.lt)
  have HN68 := Lib.hid (Nat.ne_of_lt F63.out.lt)
  have HG69 : Hid (w.heap.size ≤ w55.heap.size) := Lib.hid F56.out.size
  have F70 := Lib.hid (F56.out.trans (hbb.mono F56.out.size))
  have F71 := Lib.hid (F57.out.below (Nat.le_refl _) hbb)
  have F72 := Lib.hid (F58.out.below hbb)
  have F73 := Lib.hid (F59.out.below hbb)
  have F74 := Lib.hid (F60.out.below hbb F60.out.lt)
  have F75 := Lib.hid (F61.out.below hbb F61.out.lt)
  have F76 := Lib.hid (F62.out.below hbb)
  have F77 := Lib.hid (F63.out.below hbb F63.out.lt)
  clear F56 F57 F58 F59 F60 F61 F62 F63
  have F78 : Hid (Blk w65 w55.heap.size (u8s p1)) := Lib.hid hD
  clear hD hbb w64
  generalize w55.heap.size = g79 at *
  clear w55
  refine takeL (.int .i64 0) rfl (by go_simp) ?_
  try simp only [Act.put, List.setIfInBounds_toArray, List.set_cons_succ, List.set_cons_zero]
  refine wpList_nil ?_
  go_upto_region 9 with fail
  refine wp_region_lit ?_
  refine takeL (.slice (some ⟨g, o, none⟩) n cap) rfl (by go_simp) ?_
  try simp only [Act.put, List.setIfInBounds_toArray, List.set_cons_succ, List.set_cons_zero]
  refine takeL (.int .i64 n) rfl (by go_simp) ?_
  try simp only [Act.put, List.setIfInBounds_toArray, List.set_cons_succ, List.set_cons_zero]
  refine takeL (.bool false) rfl (by go_simp) ?_
  try simp only [Act.put, List.setIfInBounds_toArray, List.set_cons_succ, List.set_cons_zero]
  refine takeL (.bool false) rfl (by go_simp) ?_
  try simp only [Act.put, List.setIfInBounds_toArray, List.set_cons_succ, List.set_cons_zero]
  refine takeL (.int .i64 0) rfl (by go_simp) ?_
  try simp only [Act.put, List.setIfInBounds_toArray, List.set_cons_succ, List.set_cons_zero]
  refine takeL (.bool false) rfl (by go_simp) ?_
  try simp only [Act.put, List.setIfInBounds_toArray, List.set_cons_succ, List.set_cons_zero]
  refine takeL (.bool false) rfl (by go_simp) ?_
  try simp only [Act.put, List.setIfInBounds_toArray, List.set_cons_succ, List.set_cons_zero]
  refine takeL (.bool false) rfl (by go_simp) ?_
  try simp only [Act.put, List.setIfInBounds_toArray, List.set_cons_succ, List.set_cons_zero]
  refine takeL (.slice ba m bc) rfl (by go_simp) ?_
  try simp only [Act.put, List.setIfInBounds_toArray, List.set_cons_succ, List.set_cons_zero]
  refine takeL (.int .i64 m) rfl (by go_simp) ?_
  try simp only [Act.put, List.setIfInBounds_toArray, List.set_cons_succ, List.set_cons_zero]
  refine takeL (.bool true) rfl (by go_simp) ?_
  try simp only [Act.put, List.setIfInBounds_toArray, List.set_cons_succ, List.set_cons_zero]
  refine takeL (.bool true) rfl (by go_simp) ?_
  try simp only [Act.put, List.setIfInBounds_toArray, List.set_cons_succ, List.set_cons_zero]
  refine wpList_nil ?_
  go_upto_region 10 with fail
  refine wp_region_lit ?_
  refine takeL (.int .i64 11) rfl (by go_simp) ?_
  try simp only [Act.put, List.setIfInBounds_toArray, List.set_cons_succ, List.set_cons_zero]
  refine takeL (.bool true) rfl (by go_simp) ?_
  try simp only [Act.put, List.setIfInBounds_toArray, List.set_cons_succ, List.set_cons_zero]
  refine takeL (.bool true) rfl (by go_simp) ?_
  try simp only [Act.put, List.setIfInBounds_toArray, List.set_cons_succ, List.set_cons_zero]
  refine load26 (cs := (u8s (zeros 32)).toArray) (Blk.all F77.out rfl) (by rw [u8s_size, HZ32.out]) rfl rfl ?_
  try simp only [Act.put, List.setIfInBounds_toArray, List.set_cons_succ, List.set_cons_zero]
  refine build_g (build26 _) rfl ?_
  try simp only [Act.put, List.setIfInBounds_toArray, List.set_cons_succ, List.set_cons_zero]
  refine takeL (.bool true) rfl (by exact exec_page (decide_eq_true rfl) HZ32.out HZ32.out _ _ _ rfl rfl rfl) ?_
  try simp only [Act.put, List.setIfInBounds_toArray, List.set_cons_succ, List.set_cons_zero]
  refine takeL (.bool true) rfl (by go_simp) ?_
  try simp only [Act.put, List.setIfInBounds_toArray, List.set_cons_succ, List.set_cons_zero]
  refine takeL (.bool true) rfl (by go_simp) ?_
  try simp only [Act.put, List.setIfInBounds_toArray, List.set_cons_succ, List.set_cons_zero]
  refine wpList_op rfl fun K hK => ?_
  go_simp
  refine (wakes_any _ F71.out).mono ?_
  rintro e w80 ⟨rfl, hb⟩
  have F81 := Lib.hid (F70.out.trans (hb.mono F70.out.size))
  have F82 := Lib.hid (F71.out.below (Nat.le_refl _) hb)
  have F83 := Lib.hid (F72.out.below hb)
  have F84 := Lib.hid (F73.out.below hb)
  have F85 := Lib.hid (F74.out.below hb F74.out.lt)
  have F86 := Lib.hid (F75.out.below hb F75.out.lt)
  have F87 := Lib.hid (F76.out.below hb)
  have F88 := Lib.hid (F77.out.below hb F77.out.lt)
  have F89 := Lib.hid (F78.out.below hb F78.out.lt)
  clear F70 F71 F72 F73 F74 F75 F76 F77 F78
  clear hb
  refine hK _ _ ?_
  clear hK K
  try simp only [Act.put, List.setIfInBounds_toArray, List.set_cons_succ, List.set_cons_zero]
  refine takeL (.bool true) rfl (by go_simp) ?_
  try simp only [Act.put, List.setIfInBounds_toArray, List.set_cons_succ, List.set_cons_zero]
  refine takeL (.bool true) rfl (by go_simp) ?_
  try simp only [Act.put, List.setIfInBounds_toArray, List.set_cons_succ, List.set_cons_zero]
  refine wpList_nil ?_
  go_wp2_with fail
  go_ret
  exact ⟨rfl, F81.out⟩
set_option maxRecDepth 100000 in
set_option maxHeartbeats 2000000 in
theorem more_yes (l : List (Bk × Value)) (n : Nat) (hn : l.length = n) (sv : Value) (u : Nat) (ho : Small u) (tv : Value) (x : List Int) (m : Nat) (hm : x.length = m) (hyx : ∀ y ∈ x, Byte y) (hf : fair (l.map (·.1)) = true) (h3 : m ≤ 300) (hpos : 0 < n) (hcc : isChain (l.map (·.1)) = true) (hfit : Fits u x) (hmany : ¬ 3 ≤ n) (hlong : ¬ 16 < m) (w : World) (h : BlksAt w sv l) (hx : BytesAt w tv x) (hev : ErrVar w) : Calls Tryd.prog 4 #[sv, .int .i64 u, tv] w fun e w' => e = .returned (.bool true) ∧ Below w.heap.size w w' := by
  have HZ32 := Lib.hid (zeros_length 32)
  have HNW := Lib.hid Bk.none_wf
  have HNL : Hid (Len (.slice none 0 0) 0) := Lib.hid ⟨none, 0, rfl⟩
  have HBL : Hid (Below w.heap.size w w) := Lib.hid (Below.refl _ _)
  have HEV := Lib.hid hev
  have HE0 := Lib.hid hev.lt
  obtain ⟨L, hL⟩ : ∃ L, l.map (·.1) = L := ⟨_, rfl⟩
  rw [hL] at hf hcc
  have HLM := Lib.hid hL
  have HN := Lib.hid hn
  have HM := Lib.hid hm
  have HLN : Hid (L.length = n) := Lib.hid (by rw [← hL, List.length_map, hn])
  have HBS := Lib.hid h
  have HBX := Lib.hid hx
  have h20 : n ≤ 20 := by
    have := (fair_iff hf).1
    rw [← hL, List.length_map, hn] at this
    exact this
  have HFA : Hid (∀ w, BlksAt w sv l → Calls Tryd.prog 6 #[sv] w fun e w' => e = .returned (.bool true) ∧ w = w') := Lib.hid fun w h => by
    have := fair_any l n hn (by omega) sv w h
    rwa [hL, hf] at this
  obtain ⟨p, hp⟩ : ∃ p, told L = p := ⟨_, rfl⟩
  have HPL : Hid (p.length = 32) := Lib.hid (by rw [← hp]; exact told_length (by rw [← hL]; exact h.wf))
  have HP := Lib.hid hp
  have HCC := Lib.hid hcc
  have HLH : Hid (L ≠ []) := Lib.hid (by
    intro e
    have := congrArg List.length e
    rw [← hL, List.length_map, hn] at this
    simp at this
    omega)
  obtain ⟨g, o, cap, he0, hg, hc⟩ := h.has (by omega)
  rw [hn] at he0
  subst he0
  obtain ⟨y, hy⟩ : ∃ y, l[0]? = some y := ⟨_, List.getElem?_eq_getElem (by omega)⟩
  obtain ⟨b0, bv0⟩ := y
  have Y1 : Hid (w.cell? ⟨g, o + 1, none⟩ = some (.int .i64 b0.id)) := Lib.hid (by
    obtain ⟨y1, y2, y3⟩ := hc 0 _ hy
    have := y3 1 (by rw [Bk.arr_size y1]; decide)
    simpa [Bk.arr, Bk.cells] using this)
  have HB0 : Small b0.id := (hc 0 _ hy).1.id
  obtain ⟨r, hr⟩ : ∃ r, L = b0 :: r := by
    have : L[0]? = some b0 := by rw [← hL, List.getElem?_map, hy]; rfl
    cases L with
    | nil => cases this
    | cons z r =>
      cases this
      exact ⟨r, rfl⟩
  have HR := Lib.hid hr
  have HG := Lib.hid hg
  obtain ⟨ba, bc, he2, -⟩ := hx
  rw [hm] at he2
  subst he2
  have a0 : decide (300 < (m : Int)) = false := decide_eq_false (by omega)
  have a1 : ((n : Int) == 0) = false := by simp; omega
  have a2 : decide (3 ≤ (n : Int)) = false := decide_eq_false (by omega)
  have a3 : decide (16 < (m : Int)) = false := decide_eq_false (by omega)
  have HD0 : Hid (isChain (Bk.delta b0.id u x 99 :: L) = true) := Lib.hid (by
    rw [hr, chain_more (by decide) (by decide) (by decide) (by rw [← hr]; exact hcc), ← hr, HLN.out, hm]
    simp
    exact ⟨by omega, hfit, by omega⟩)
  obtain ⟨D, hD⟩ : ∃ D, Bk.delta b0.id u x 99 = D := ⟨_, rfl⟩
  have HWD : Hid D.Wf := Lib.hid (hD ▸ Bk.delta_wf HB0 ho ⟨by decide, by decide⟩ (by omega) hyx)
  have HDB : Hid (D.bytes = x) := Lib.hid (hD ▸ rfl)
  have HLD : Hid (Len (.slice ba m bc) D.bytes.length) := Lib.hid (by rw [HDB.out, hm]; exact ⟨_, _, rfl⟩)
  have HBD : Hid (Tryd.prog.built 30 [(0, .int .i64 2), (1, .int .i64 b0.id), (3, .int .i64 u), (4, .slice ba m bc), (5, .int .i64 99)] = some (D.arr (.slice ba m bc))) := Lib.hid (hD ▸ built30d b0.id u x 99 ba m bc)
  have hto := told_more (o := u) (l := x) (pv := 99) (by rw [← hr]; exact hcc) (by rw [← hr]; exact HD0.out)
  rw [← hr, hp, hD] at hto
  obtain ⟨p1, hp1⟩ : ∃ p1, layI p u x = p1 := ⟨_, rfl⟩
  rw [hp1] at hto
  have H1 : Hid (p1.length = 32) := Lib.hid (hp1 ▸ lay_size HPL.out u hfit)
  have HP1 := Lib.hid hp1
  rw [hD] at HD0
  have HT := Lib.hid hto
  have HCD := Lib.hid (code_yes HD0.out)
  clear hto hp1
  have HF := Lib.hid hfit
  clear hD hfit
  have HX3 := Lib.hid (show x.length ≤ 1000 by omega)
  clear hev hf hcc hL hn hm hp hr hy hc hg h hyx ho
  go_enter Tryd.func4, Tryd.ntmps4
  go_upto_region 1 with fail
  refine wp_region_lit ?_
  refine takeL (.slice (some ⟨g, o, none⟩) n cap) rfl (by go_simp) ?_
  try simp only [Act.put, List.setIfInBounds_toArray, List.set_cons_succ, List.set_cons_zero]
  refine wpList_op rfl fun K hK => ?_
  go_simp
  refine (HFA.out _ HBS.out).mono ?_
  rintro e w1 ⟨rfl, rfl⟩
  refine hK _ _ ?_
  clear hK K
  try simp only [Act.put, List.setIfInBounds_toArray, List.set_cons_succ, List.set_cons_zero]
  refine takeL (.bool false) rfl (by go_simp) ?_
  try simp only [Act.put, List.setIfInBounds_toArray, List.set_cons_succ, List.set_cons_zero]
  refine takeL (.bool false) rfl (by go_simp) ?_
  try simp only [Act.put, List.setIfInBounds_toArray, List.set_cons_succ, List.set_cons_zero]
  refine takeL (.slice ba m bc) rfl (by go_simp) ?_
  try simp only [Act.put, List.setIfInBounds_toArray, List.set_cons_succ, List.set_cons_zero]
  refine takeL (.int .i64 m) rfl (by go_simp) ?_
  try simp only [Act.put, List.setIfInBounds_toArray, List.set_cons_succ, List.set_cons_zero]
  refine takeL (.bool false) rfl (by go_simp) ?_
  try simp only [Act.put, List.setIfInBounds_toArray, List.set_cons_succ, List.set_cons_zero]
  refine takeL (.bool false) rfl (by go_simp) ?_
  try simp only [Act.put, List.setIfInBounds_toArray, List.set_cons_succ, List.set_cons_zero]
  refine takeL (.bool false) rfl (by go_simp) ?_
  try simp only [Act.put, List.setIfInBounds_toArray, List.set_cons_succ, List.set_cons_zero]
  refine takeL (.slice (some ⟨g, o, none⟩) n cap) rfl (by go_simp) ?_
  try simp only [Act.put, List.setIfInBounds_toArray, List.set_cons_succ, List.set_cons_zero]
  refine takeL (.int .i64 n) rfl (by go_simp) ?_
  try simp only [Act.put, List.setIfInBounds_toArray, List.set_cons_succ, List.set_cons_zero]
  refine takeL (.bool false) rfl (by go_simp) ?_
  try simp only [Act.put, List.setIfInBounds_toArray, List.set_cons_succ, List.set_cons_zero]
  refine takeL (.bool false) rfl (by go_simp) ?_
  try simp only [Act.put, List.setIfInBounds_toArray, List.set_cons_succ, List.set_cons_zero]
  refine wpList_nil ?_
  have HBS0 := Lib.hid HBS.out
  go_upto_region 3 with fail
  refine wp_region_lit ?_
  refine takeL (.slice (some ⟨g, o, none⟩) n cap) rfl (by go_simp) ?_
  try simp only [Act.put, List.setIfInBounds_toArray, List.set_cons_succ, List.set_cons_zero]
  refine wpList_op rfl fun K hK => ?_
  go_simp
  refine (page_to HLM.out HP.out (code_yes HCC.out) _ _ HBS.out HEV.out).mono ?_
  rintro e w2 ⟨rfl, hb⟩
  have F3 := Lib.hid (HBL.out.trans (hb.mono HBL.out.size))
  have F4 := Lib.hid (HEV.out.below (Nat.le_refl _) hb)
  have F5 := Lib.hid (HBS.out.below hb)
  have F6 := Lib.hid (HBX.out.below hb)
  clear HBL HEV HBS HBX
  clear hb
  refine hK _ _ ?_
  clear hK K
  try simp only [Act.put, List.setIfInBounds_toArray, List.set_cons_succ, List.set_cons_zero]
  refine takeL (.tuple #[.agg (u8s p).toArray, .int .i64 0]) rfl (by go_simp) ?_
  try simp only [Act.put, List.setIfInBounds_toArray, List.set_cons_succ, List.set_cons_zero]
  refine takeL (.agg (u8s p).toArray) rfl (by go_simp) ?_
  try simp only [Act.put, List.setIfInBounds_toArray, List.set_cons_succ, List.set_cons_zero]
  refine takeL (.int .i64 0) rfl (by go_simp) ?_
  try simp only [Act.put, List.setIfInBounds_toArray, List.set_cons_succ, List.set_cons_zero]
  refine alloc_g zero26 rfl ?_
  intro w7 hA hb hl
  try simp only [Act.put, List.setIfInBounds_toArray, List.set_cons_succ, List.set_cons_zero]
  clear hl
  refine store_all (cs := (u8s p).toArray) hA (by simp only [u8s_size, List.size_toArray, List.length_append, List.length_singleton, List.length_map, HPL.out, HZ32.out]) (by rw [u8s_size, HPL.out]; exact info26) (u8s_one _) rfl rfl rfl ?_
  intro w8 hD hO hlD
  try simp only [Act.put, List.setIfInBounds_toArray, List.set_cons_succ, List.set_cons_zero]
  clear hlD hA
  have hbb : Below w2.heap.size w2 w8 := hb.trans (hO.below hb.size fun k hk => Nat.le_of_eq hk.symm)
  clear hb hO
  have HG9 : Hid (w.heap.size ≤ w2.heap.size) := Lib.hid F3.out.size
  have F10 := Lib.hid (F3.out.trans (hbb.mono F3.out.size))
  have F11 := Lib.hid (F4.out.below (Nat.le_refl _) hbb)
  have F12 := Lib.hid (F5.out.below hbb)
  have F13 := Lib.hid (F6.out.below hbb)
  clear F3 F4 F5 F6
  have F14 : Hid (Blk w8 w2.heap.size (u8s p)) := Lib.hid hD
  clear hD hbb w7
  generalize w2.heap.size = g15 at *
  clear w2
  refine takeL (.int .i64 0) rfl (by go_simp) ?_
  try simp only [Act.put, List.setIfInBounds_toArray, List.set_cons_succ, List.set_cons_zero]
  refine wpList_nil ?_
  go_upto_region 4 with fail
  refine wp_region_lit ?_
  refine takeL (.int .i64 0) rfl (by go_simp) ?_
  try simp only [Act.put, List.setIfInBounds_toArray, List.set_cons_succ, List.set_cons_zero]
  refine takeL (.bool false) rfl (by go_simp) ?_
  try simp only [Act.put, List.setIfInBounds_toArray, List.set_cons_succ, List.set_cons_zero]
  refine wpList_nil ?_
  have HMD : Hid (([(D, Value.slice ba m bc)] ++ l).map (·.1) = D :: L) := Lib.hid (by rw [← HLM.out]; rfl)
  go_upto_region 6 with fail
  refine wp_region_lit ?_
  refine takeL (.slice (some ⟨g, o, none⟩) n cap) rfl (by go_simp) ?_
  try simp only [Act.put, List.setIfInBounds_toArray, List.set_cons_succ, List.set_cons_zero]
  refine takeL (.pointer (some ⟨g, o, none⟩)) rfl (by go_simp) ?_
  try simp only [Act.put, List.setIfInBounds_toArray, List.set_cons_succ, List.set_cons_zero]
  refine takeL (.pointer (some ⟨g, o + 1, none⟩)) rfl (by go_simp) ?_
  try simp only [Act.put, List.setIfInBounds_toArray, List.set_cons_succ, List.set_cons_zero]
  refine takeL (.int .i64 b0.id) rfl (by have hq := (F10.out.cell (p := ⟨g, o + 1, none⟩) HG.out).trans Y1.out; go_simp) ?_
  try simp only [Act.put, List.setIfInBounds_toArray, List.set_cons_succ, List.set_cons_zero]
  refine takeL (.int .i64 u) rfl (by go_simp) ?_
  try simp only [Act.put, List.setIfInBounds_toArray, List.set_cons_succ, List.set_cons_zero]
  refine takeL (.slice ba m bc) rfl (by go_simp) ?_
  try simp only [Act.put, List.setIfInBounds_toArray, List.set_cons_succ, List.set_cons_zero]
  refine takeL (.agg (D.arr (.slice ba m bc))) rfl (exec_build _ _ _ _ 30 _ rfl #[(0, .int .i64 2), (1, .int .i64 b0.id), (3, .int .i64 u), (4, .slice ba m bc), (5, .int .i64 99)] (by simp [go_sem]) _ (run_build _ 30 _ _ HBD.out)) ?_
  try simp only [Act.put, List.setIfInBounds_toArray, List.set_cons_succ, List.set_cons_zero]
  refine alloc_g zero30b rfl ?_
  intro w16 hA hb hl
  try simp only [Act.put, List.setIfInBounds_toArray, List.set_cons_succ, List.set_cons_zero]
  clear hl
  refine store_all (cs := (D.arr (.slice ba m bc))) hA (same30 HNW.out HWD.out _ _) (info30s HWD.out _) (Bk.arr_one (slice_one HLD.out)) rfl rfl rfl ?_
  intro w17 hD hO hlD
  try simp only [Act.put, List.setIfInBounds_toArray, List.set_cons_succ, List.set_cons_zero]
  clear hlD hA
  have hbb : Below w8.heap.size w8 w17 := hb.trans (hO.below hb.size fun k hk => Nat.le_of_eq hk.symm)
  clear hb hO
  have HN18 := Lib.hid (Nat.ne_of_lt F14.out.lt)
  have HG19 : Hid (w.heap.size ≤ w8.heap.size) := Lib.hid F10.out.size
  have F20 := Lib.hid (F10.out.trans (hbb.mono F10.out.size))
  have F21 := Lib.hid (F11.out.below (Nat.le_refl _) hbb)
  have F22 := Lib.hid (F12.out.below hbb)
  have F23 := Lib.hid (F13.out.below hbb)
  have F24 := Lib.hid (F14.out.below hbb F14.out.lt)
  clear F10 F11 F12 F13 F14
  have F25 : Hid (Blk w17 w8.heap.size (D.cells (.slice ba m bc))) := Lib.hid hD
  clear hD hbb w16
  generalize w8.heap.size = g26 at *
  clear w8
  refine wpList_nil ?_
  go_upto_region 7 with fail
  refine wp_region_lit ?_
  refine load30 (cs := (D.arr (.slice ba m bc))) (Blk.all F25.out rfl) (D.arr_size HWD.out (.slice ba m bc)) rfl rfl ?_
  try simp only [Act.put, List.setIfInBounds_toArray, List.set_cons_succ, List.set_cons_zero]
  refine lit_L1 HWD.out (by rw [HDB.out]; exact F23.out) rfl rfl ?_
  intro sx wl hO hb
  try simp only [Act.put, List.setIfInBounds_toArray, List.set_cons_succ, List.set_cons_zero]
  have HO1 := Lib.hid hO
  have HB1 := Lib.hid hb
  clear hO hb
  refine takeL (.slice (some ⟨g, o, none⟩) n cap) rfl (by go_simp) ?_
  try simp only [Act.put, List.setIfInBounds_toArray, List.set_cons_succ, List.set_cons_zero]
  refine app_LB HO1.out HB1.out.size (F22.out.below HB1.out) (blks_apart HBS0.out F20.out.size) (by have := HN.out; simp; omega) rfl rfl rfl ?_
  intro sy wm hO hb
  try simp only [Act.put, List.setIfInBounds_toArray, List.set_cons_succ, List.set_cons_zero]
  have hbb := HB1.out.trans hb
  clear HB1 HO1 hb
  have F27 := Lib.hid (F20.out.trans (hbb.mono F20.out.size))
  have F28 := Lib.hid (F21.out.below (Nat.le_refl _) hbb)
  have F29 := Lib.hid (F22.out.below hbb)
  have F30 := Lib.hid (F23.out.below hbb)
  have F31 := Lib.hid (F24.out.below hbb F24.out.lt)
  have F32 := Lib.hid (F25.out.below hbb F25.out.lt)
  clear F20 F21 F22 F23 F24 F25
  have BD := Lib.hid hO.blks
  clear hO hbb
  refine wpList_op rfl fun K hK => ?_
  go_simp
  refine (page_to HMD.out HT.out HCD.out _ _ BD.out F28.out).mono ?_
  rintro e w33 ⟨rfl, hb⟩
  have F34 := Lib.hid (F27.out.trans (hb.mono F27.out.size))
  have F35 := Lib.hid (F28.out.below (Nat.le_refl _) hb)
  have F36 := Lib.hid (F29.out.below hb)
  have F37 := Lib.hid (F30.out.below hb)
  have F38 := Lib.hid (F31.out.below hb F31.out.lt)
  have F39 := Lib.hid (F32.out.below hb F32.out.lt)
  have F40 := Lib.hid (BD.out.below hb)
  clear F27 F28 F29 F30 F31 F32 BD
  clear hb
  refine hK _ _ ?_
  clear hK K
  try simp only [Act.put, List.setIfInBounds_toArray, List.set_cons_succ, List.set_cons_zero]
  refine takeL (.tuple #[.agg (u8s p1).toArray, .int .i64 0]) rfl (by go_simp) ?_
  try simp only [Act.put, List.setIfInBounds_toArray, List.set_cons_succ, List.set_cons_zero]
  refine takeL (.agg (u8s p1).toArray) rfl (by go_simp) ?_
  try simp only [Act.put, List.setIfInBounds_toArray, List.set_cons_succ, List.set_cons_zero]
  refine takeL (.int .i64 0) rfl (by go_simp) ?_
  try simp only [Act.put, List.setIfInBounds_toArray, List.set_cons_succ, List.set_cons_zero]
  refine alloc_g zero26 rfl ?_
  intro w41 hA hb hl
  try simp only [Act.put, List.setIfInBounds_toArray, List.set_cons_succ, List.set_cons_zero]
  clear hl
  refine store_all (cs := (u8s p1).toArray) hA (by simp only [u8s_size, List.size_toArray, List.length_append, List.length_singleton, List.length_map, H1.out, HZ32.out]) (by rw [u8s_size, H1.out]; exact info26) (u8s_one _) rfl rfl rfl ?_
  intro w42 hD hO hlD
  try simp only [Act.put, List.setIfInBounds_toArray, List.set_cons_succ, List.set_cons_zero]
  clear hlD hA
  have hbb : Below w33.heap.size w33 w42 := hb.trans (hO.below hb.size fun k hk => Nat.le_of_eq hk.symm)
  clear hb hO
  have HN43 := Lib.hid (Nat.ne_of_lt F38.out.lt)
  have HN44 := Lib.hid (Nat.ne_of_lt F39.out.lt)
  have HG45 : Hid (w.heap.size ≤ w33.heap.size) := Lib.hid F34.out.size
  have F46 := Lib.hid (F34.out.trans (hbb.mono F34.out.size))
  have F47 := Lib.hid (F35.out.below (Nat.le_refl _) hbb)
  have F48 := Lib.hid (F36.out.below hbb)
  have F49 := Lib.hid (F37.out.below hbb)
  have F50 := Lib.hid (F38.out.below hbb F38.out.lt)
  have F51 := Lib.hid (F39.out.below hbb F39.out.lt)
  have F52 := Lib.hid (F40.out.below hbb)
  clear F34 F35 F36 F37 F38 F39 F40
  have F53 : Hid (Blk w42 w33.heap.size (u8s p1)) := Lib.hid hD
  clear hD hbb w41
  generalize w33.heap.size = g54 at *
  clear w33
  refine takeL (.int .i64 0) rfl (by go_simp) ?_
  try simp only [Act.put, List.setIfInBounds_toArray, List.set_cons_succ, List.set_cons_zero]
  refine wpList_nil ?_
  go_upto_region 8 with fail
  refine wp_region_lit ?_
  refine load26 (cs := (u8s p).toArray) (Blk.all F50.out rfl) (by rw [u8s_size, HPL.out]) rfl rfl ?_
  try simp only [Act.put, List.setIfInBounds_toArray, List.set_cons_succ, List.set_cons_zero]
  refine takeL (.int .i64 u) rfl (by go_simp) ?_
  try simp only [Act.put, List.setIfInBounds_toArray, List.set_cons_succ, List.set_cons_zero]
  refine takeL (.slice ba m bc) rfl (by go_simp) ?_
  try simp only [Act.put, List.setIfInBounds_toArray, List.set_cons_succ, List.set_cons_zero]
  refine wpList_op rfl fun K hK => ?_
  go_simp
  refine (HP1.out ▸ apply_yes p x HPL.out u _ HX3.out HF.out _ F49.out F47.out).mono ?_
  rintro e w55 ⟨rfl, hb⟩
  have F56 := Lib.hid (F46.out.trans (hb.mono F46.out.size))
  have F57 := Lib.hid (F47.out.below (Nat.le_refl _) hb)
  have F58 := Lib.hid (F48.out.below hb)
  have F59 := Lib.hid (F49.out.below hb)
  have F60 := Lib.hid (F50.out.below hb F50.out.lt)
  have F61 := Lib.hid (F51.out.below hb F51.out.lt)
  have F62 := Lib.hid (F52.out.below hb)
  have F63 := Lib.hid (F53.out.below hb F53.out.lt)
  clear F46 F47 F48 F49 F50 F51 F52 F53
  clear hb
  refine hK _ _ ?_
  clear hK K
  try simp only [Act.put, List.setIfInBounds_toArray, List.set_cons_succ, List.set_cons_zero]
  refine takeL (.tuple #[.agg (u8s p1).toArray, .int .i64 0]) rfl (by go_simp) ?_
  try simp only [Act.put, List.setIfInBounds_toArray, List.set_cons_succ, List.set_cons_zero]
  refine takeL (.agg (u8s p1).toArray) rfl (by go_simp) ?_
  try simp only [Act.put, List.setIfInBounds_toArray, List.set_cons_succ, List.set_cons_zero]
  refine takeL (.int .i64 0) rfl (by go_simp) ?_
  try simp only [Act.put, List.setIfInBounds_toArray, List.set_cons_succ, List.set_cons_zero]
  refine alloc_g zero26 rfl ?_
  intro w64 hA hb hl
  try simp only [Act.put, List.setIfInBounds_toArray, List.set_cons_succ, List.set_cons_zero]
  clear hl
  refine store_all (cs := (u8s p1).toArray) hA (by simp only [u8s_size, List.size_toArray, List.length_append, List.length_singleton, List.length_map, H1.out, HZ32.out]) (by rw [u8s_size, H1.out]; exact info26) (u8s_one _) rfl rfl rfl ?_
  intro w65 hD hO hlD
  try simp only [Act.put, List.setIfInBounds_toArray, List.set_cons_succ, List.set_cons_zero]
  clear hlD hA
  have hbb : Below w55.heap.size w55 w65 := hb.trans (hO.below hb.size fun k hk => Nat.le_of_eq hk.symm)
  clear hb hO
  have HN66 := Lib.hid (Nat.ne_of_lt F60.out.lt)
  have HN67 := Lib.hid (Nat.ne_of_lt F61.out.lt)
  have HN68 := Lib.hid (Nat.ne_of_lt F63.out.lt)
  have HG69 : Hid (w.heap.size ≤ w55.heap.size) := Lib.hid F56.out.size
  have F70 := Lib.hid (F56.out.trans (hbb.mono F56.out.size))
  have F71 := Lib.hid (F57.out.below (Nat.le_refl _) hbb)
  have F72 := Lib.hid (F58.out.below hbb)
  have F73 := Lib.hid (F59.out.below hbb)
  have F74 := Lib.hid (F60.out.below hbb F60.out.lt)
  have F75 := Lib.hid (F61.out.below hbb F61.out.lt)
  have F76 := Lib.hid (F62.out.below hbb)
  have F77 := Lib.hid (F63.out.below hbb F63.out.lt)
  clear F56 F57 F58 F59 F60 F61 F62 F63
  have F78 : Hid (Blk w65 w55.heap.size (u8s p1)) := Lib.hid hD
  clear hD hbb w64
  generalize w55.heap.size = g79 at *
  clear w55
  refine takeL (.int .i64 0) rfl (by go_simp) ?_
  try simp only [Act.put, List.setIfInBounds_toArray, List.set_cons_succ, List.set_cons_zero]
  refine wpList_nil ?_
  go_upto_region 9 with fail
  refine wp_region_lit ?_
  refine takeL (.slice (some ⟨g, o, none⟩) n cap) rfl (by go_simp) ?_
  try simp only [Act.put, List.setIfInBounds_toArray, List.set_cons_succ, List.set_cons_zero]
  refine takeL (.int .i64 n) rfl (by go_simp) ?_
  try simp only [Act.put, List.setIfInBounds_toArray, List.set_cons_succ, List.set_cons_zero]
  refine takeL (.bool false) rfl (by go_simp) ?_
  try simp only [Act.put, List.setIfInBounds_toArray, List.set_cons_succ, List.set_cons_zero]
  refine takeL (.bool false) rfl (by go_simp) ?_
  try simp only [Act.put, List.setIfInBounds_toArray, List.set_cons_succ, List.set_cons_zero]
  refine takeL (.int .i64 0) rfl (by go_simp) ?_
  try simp only [Act.put, List.setIfInBounds_toArray, List.set_cons_succ, List.set_cons_zero]
  refine takeL (.bool false) rfl (by go_simp) ?_
  try simp only [Act.put, List.setIfInBounds_toArray, List.set_cons_succ, List.set_cons_zero]
  refine takeL (.bool false) rfl (by go_simp) ?_
  try simp only [Act.put, List.setIfInBounds_toArray, List.set_cons_succ, List.set_cons_zero]
  refine takeL (.bool false) rfl (by go_simp) ?_
  try simp only [Act.put, List.setIfInBounds_toArray, List.set_cons_succ, List.set_cons_zero]
  refine takeL (.slice ba m bc) rfl (by go_simp) ?_
  try simp only [Act.put, List.setIfInBounds_toArray, List.set_cons_succ, List.set_cons_zero]
  refine takeL (.int .i64 m) rfl (by go_simp) ?_
  try simp only [Act.put, List.setIfInBounds_toArray, List.set_cons_succ, List.set_cons_zero]
  refine takeL (.bool false) rfl (by go_simp) ?_
  try simp only [Act.put, List.setIfInBounds_toArray, List.set_cons_succ, List.set_cons_zero]
  refine takeL (.bool false) rfl (by go_simp) ?_
  try simp only [Act.put, List.setIfInBounds_toArray, List.set_cons_succ, List.set_cons_zero]
  refine wpList_nil ?_
  go_upto_region 11 with fail
  refine wp_region_lit ?_
  refine takeL (.int .i64 0) rfl (by go_simp) ?_
  try simp only [Act.put, List.setIfInBounds_toArray, List.set_cons_succ, List.set_cons_zero]
  refine takeL (.bool true) rfl (by go_simp) ?_
  try simp only [Act.put, List.setIfInBounds_toArray, List.set_cons_succ, List.set_cons_zero]
  refine takeL (.bool true) rfl (by go_simp) ?_
  try simp only [Act.put, List.setIfInBounds_toArray, List.set_cons_succ, List.set_cons_zero]
  refine load26 (cs := (u8s p1).toArray) (Blk.all F77.out rfl) (by rw [u8s_size, H1.out]) rfl rfl ?_
  try simp only [Act.put, List.setIfInBounds_toArray, List.set_cons_succ, List.set_cons_zero]
  refine load26 (cs := (u8s p1).toArray) (Blk.all F78.out rfl) (by rw [u8s_size, H1.out]) rfl rfl ?_
  try simp only [Act.put, List.setIfInBounds_toArray, List.set_cons_succ, List.set_cons_zero]
  refine takeL (.bool true) rfl (by exact exec_page (decide_eq_true rfl) H1.out H1.out _ _ _ rfl rfl rfl) ?_
  try simp only [Act.put, List.setIfInBounds_toArray, List.set_cons_succ, List.set_cons_zero]
  refine takeL (.bool true) rfl (by go_simp) ?_
  try simp only [Act.put, List.setIfInBounds_toArray, List.set_cons_succ, List.set_cons_zero]
  refine takeL (.bool true) rfl (by go_simp) ?_
  try simp only [Act.put, List.setIfInBounds_toArray, List.set_cons_succ, List.set_cons_zero]
  refine wpList_op rfl fun K hK => ?_
  go_simp
  refine (wakes_any _ F71.out).mono ?_
  rintro e w80 ⟨rfl, hb⟩
  have F81 := Lib.hid (F70.out.trans (hb.mono F70.out.size))
  have F82 := Lib.hid (F71.out.below (Nat.le_refl _) hb)
  have F83 := Lib.hid (F72.out.below hb)
  have F84 := Lib.hid (F73.out.below hb)
  have F85 := Lib.hid (F74.out.below hb F74.out.lt)
  have F86 := Lib.hid (F75.out.below hb F75.out.lt)
  have F87 := Lib.hid (F76.out.below hb)
  have F88 := Lib.hid (F77.out.below hb F77.out.lt)
  have F89 := Lib.hid (F78.out.below hb F78.out.lt)
  clear F70 F71 F72 F73 F74 F75 F76 F77 F78
  clear hb
  refine hK _ _ ?_
  clear hK K
  try simp only [Act.put, List.setIfInBounds_toArray, List.set_cons_succ, List.set_cons_zero]
  refine takeL (.bool true) rfl (by go_simp) ?_
  try simp only [Act.put, List.setIfInBounds_toArray, List.set_cons_succ, List.set_cons_zero]
  refine takeL (.bool true) rfl (by go_simp) ?_
  try simp only [Act.put, List.setIfInBounds_toArray, List.set_cons_succ, List.set_cons_zero]
  refine wpList_nil ?_
  go_wp2_with fail
  go_ret
  exact ⟨rfl, F81.out⟩
theorem more_any (l : List (Bk × Value)) (hbig : l.length ≤ 9223372036854775807) (sv : Value) (off : Int) (ho : Small off) (tv : Value) (x : List Int) (hyx : ∀ y ∈ x, Byte y) (hnx : x.length ≤ 9223372036854775807) (w : World) (h : BlksAt w sv l) (hx : BytesAt w tv x) (hev : ErrVar w) : Calls Tryd.prog 4 #[sv, .int .i64 off, tv] w fun e w' => e = .returned (.bool true) ∧ Below w.heap.size w w' := by
  cases hf : fair (l.map (·.1)) with
  | false => exact more_unfair l _ rfl sv off ho tv x _ rfl hyx hf hbig w h hx hev
  | true =>
    by_cases h3 : 300 < x.length
    · exact more_toolong l _ rfl sv off ho tv x _ rfl hyx hf hbig h3 w h hx hev
    by_cases h0 : l.length = 0
    · exact more_empty l _ rfl sv off ho tv x _ rfl hyx hf hbig h3 h0 w h hx hev
    cases hcc : isChain (l.map (·.1)) with
    | false => exact more_none l _ rfl sv off ho tv x _ rfl hyx hf (by omega) (by omega) hcc w h hx hev
    | true =>
      by_cases hfit : Fits off x
      · obtain ⟨u, rfl⟩ := fits_nat hfit
        by_cases hm : 3 ≤ l.length
        · exact more_many_fit l _ rfl sv u ho tv x _ rfl hyx hf (by omega) (by omega) hcc hfit hm w h hx hev
        by_cases hl : 16 < x.length
        · exact more_long l _ rfl sv u ho tv x _ rfl hyx hf (by omega) (by omega) hcc hfit hm hl w h hx hev
        · exact more_yes l _ rfl sv u ho tv x _ rfl hyx hf (by omega) (by omega) hcc hfit hm hl w h hx hev
      · by_cases hm : 3 ≤ l.length
        · exact more_many_out l _ rfl sv off ho tv x _ rfl hyx hf (by omega) (by omega) hcc hfit hm w h hx hev
        · exact more_out l _ rfl sv off ho tv x _ rfl hyx hf (by omega) (by omega) hcc hfit hm w h hx hev
end Go.Proofs.YtjejodgjakjeiaaDoor
