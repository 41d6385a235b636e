/- Package journal: placesOf. -/
import Derived.Test.YtmlniannilnmhaaGreatDoorJe
namespace Go.Proofs.YtmlniannilnmhaaGreatDoor
set_option linter.unusedSimpArgs false
set_option linter.unusedVariables false
open Go.RowKit

/-- The place of a block that is the so-manieth sector of a group at f. -/
def plOf (f x : Int) : Int := if 0 ≤ x then f + x else 0
def pls (f : Int) (l : List Int) (k : Nat) : List Int := (l.take k).map (plOf f) ++ List.replicate (l.length - k) 0
theorem pls_zero (f : Int) (l : List Int) : pls f l 0 = List.replicate l.length 0 := by simp [pls]
theorem pls_all (f : Int) (l : List Int) : pls f l l.length = l.map (plOf f) := by simp [pls]
theorem pls_len (f : Int) (l : List Int) (k : Nat) (hk : k ≤ l.length) : (pls f l k).length = l.length := by
  simp only [pls, List.length_append, List.length_map, List.length_take, List.length_replicate]
  omega
theorem pls_at (f : Int) (l : List Int) (k : Nat) (hk : k < l.length) : (pls f l k)[k]? = some 0 := by
  have e : ((l.take k).map (plOf f)).length = k := by simp only [List.length_map, List.length_take]; omega
  rw [pls, List.getElem?_append_right (by omega), e, Nat.sub_self, List.getElem?_replicate, if_pos (by omega)]
theorem pls_set (f : Int) (l : List Int) (k : Nat) (hk : k < l.length) : (pls f l k).set k 0 = pls f l k := by
  refine List.ext_getElem? fun i => ?_
  rw [List.getElem?_set]
  split
  · rename_i h
    subst h
    rw [if_pos (by rw [pls_len f l k (by omega)]; exact hk), pls_at f l k hk]
  · rfl
theorem pls_next (f : Int) (l : List Int) (k : Nat) (x : Int) (hx : l[k]? = some x) : pls f l (k + 1) = (pls f l k).set k (plOf f x) := by
  obtain ⟨hk, hx2⟩ := List.getElem?_eq_some_iff.1 hx
  have e : ((l.take k).map (plOf f)).length = k := by simp only [List.length_map, List.length_take]; omega
  rw [pls, pls, List.set_append_right _ _ (by omega), e, Nat.sub_self, List.take_add_one, hx, show l.length - k = (l.length - (k + 1)) + 1 by omega, List.replicate_succ]
  simp
theorem pls_neg (f : Int) (l : List Int) (k : Nat) (x : Int) (hx : l[k]? = some x) (h : ¬ 0 ≤ x) : pls f l (k + 1) = pls f l k := by
  rw [pls_next f l k x hx, plOf, if_neg h, pls_set f l k (List.getElem?_eq_some_iff.1 hx).1]
theorem i64s_set (l : List Int) (k : Nat) (v : Int) : (i64s l).set k (.int .i64 v) = i64s (l.set k v) := by simp [i64s, List.map_set]
section
variable {W w : World}
structure Pst (w wr : World) (r : Nat) (l : List Int) : Prop where
  blk : Blk wr r (i64s l)
  own : OwnN wr w.heap.size (.slice (some ⟨r, 0, none⟩) l.length l.length) l
  bel : Below w.heap.size w wr
theorem Pst.set {w wr : World} {r : Nat} {l : List Int} (h : Pst w wr r l) (hr : w.heap.size ≤ r) (k : Nat) (v : Int) (hk : k < l.length) : Pst w (wr.setCell ⟨r, k, none⟩ (.int .i64 v)) r (l.set k v) :=
  ⟨by rw [← i64s_set]; exact h.blk.set k _, by have := h.own.set k v hk; rwa [List.length_set], h.bel.trans (set_bel (Below.refl _ _) hr h.bel.size)⟩
set_option maxRecDepth 100000 in
set_option maxHeartbeats 1000000 in
theorem places_any (f : Int) (l : List Int) (sv : Value) (w : World) (hi : IntsAt w sv l) (hl : l.length ≤ 1000) (hf : 0 ≤ f ∧ f ≤ 2000) (hx : ∀ x ∈ l, -1 ≤ x ∧ x ≤ 2000) : Calls Tryz.prog 69 #[.int .i64 f, sv] w fun e w' => ∃ v, e = .returned v ∧ OwnN w' w.heap.size v (l.map (plOf f)) ∧ Below w.heap.size w w' := by
  have HI := Lib.hid hi
  have HX := Lib.hid hx
  have HF := Lib.hid hf
  obtain ⟨sa, sc, hsv, -⟩ := hi
  obtain ⟨m, hm⟩ : ∃ m, l.length = m := ⟨_, rfl⟩
  rw [hm] at hsv hl
  subst hsv
  have HM := Lib.hid hm
  have HP0 : Hid (Pst w (w.alloc (.cells (madeCells #[.int .i64 0] m) 3)) w.heap.size (pls f l 0)) := Lib.hid (by
    have e : madeCells #[Value.int .i64 0] m = (i64s (List.replicate m 0)).toArray := by
      apply Array.ext'
      rw [toList_madeCells_one]
      simp [i64s]
    rw [pls_zero, hm, e]
    exact ⟨Blk.new w _ 3, by have := OwnN.lit w w.heap.size (Nat.le_refl _) (List.replicate m 0) (by simp; omega) _ rfl; exact this, (Below.refl _ _).alloc (Nat.le_refl _) _⟩)
  have mk := De.make62 m (by omega)
  clear hx hf hm
  go_enter Tryz.func69, Tryz.ntmps69
  go_wp2_with fail
  generalize w.alloc (.cells (madeCells #[.int .i64 0] m) 3) = w1 at *
  go_loopg [13] m (fun q i wr => ∃ k : Nat, m - k ≤ q ∧ k ≤ m ∧ i = .int .i64 k ∧ Pst w wr w.heap.size (pls f l k))
  case atStart => exact ⟨0, by omega, by omega, rfl, HP0.out⟩
  case round =>
    obtain ⟨k, hq, hk, rfl, hst⟩ := hrel
    have HP := Lib.hid hst
    clear hst
    by_cases hkm : k < m
    · have gk : decide ((k : Int) < (m : Int)) = true := decide_eq_true (by omega)
      have hk0 : (k : Int) < (m : Int) := by omega
      obtain ⟨x, hx⟩ : ∃ x, l[k]? = some x := ⟨_, List.getElem?_eq_getElem (by have := HM.out; omega)⟩
      have HXX := Lib.hid hx
      have HXB := Lib.hid (HX.out x (List.mem_of_getElem? hx))
      obtain ⟨g0, o0, c0, hsa, hat⟩ := HI.out.has (by have := HM.out; omega)
      have hsa2 : sa = some ⟨g0, o0, none⟩ := by injection hsa
      subst hsa2
      have cx := (HP.out.bel.cell (block_lt_of_cell (hat k x hx))).trans (hat k x hx)
      have HKL : Hid (k < l.length) := Lib.hid (by have := HM.out; omega)
      have HZ : Hid (wr.cell? ⟨w.heap.size, k, none⟩ = some (.int .i64 0)) := Lib.hid (HP.out.blk.cell (by rw [List.getElem?_map, pls_at f l k HKL.out]; rfl))
      have HP1 : Hid (Pst w (wr.setCell ⟨w.heap.size, k, none⟩ (.int .i64 0)) w.heap.size (pls f l k)) := Lib.hid (by
        have := HP.out.set (Nat.le_refl _) k 0 (by rw [pls_len f l k (Nat.le_of_lt HKL.out)]; exact HKL.out)
        rwa [pls_set f l k HKL.out] at this)
      clear hx hat hsa
      go_upto_region 5 with fail
      refine wp_region_lit ?_
      refine takeL (.slice (some ⟨w.heap.size, 0, none⟩) m m) rfl (by go_simp) ?_
      try simp only [Act.put, List.setIfInBounds_toArray, List.set_cons_succ, List.set_cons_zero]
      refine takeL (.int .i64 k) rfl (by go_simp) ?_
      try simp only [Act.put, List.setIfInBounds_toArray, List.set_cons_succ, List.set_cons_zero]
      refine takeL (.pointer (some ⟨w.heap.size, k, none⟩)) rfl (by go_simp) ?_
      try simp only [Act.put, List.setIfInBounds_toArray, List.set_cons_succ, List.set_cons_zero]
      refine skipL (wr.setCell ⟨w.heap.size, k, none⟩ (.int .i64 0)) rfl (by have q := HZ.out; have fz := HP.out.blk.frozen k; go_simp) ?_
      have HZ1 : Hid ((wr.setCell ⟨w.heap.size, k, none⟩ (.int .i64 0)).cell? ⟨w.heap.size, k, none⟩ = some (.int .i64 0)) := Lib.hid (HP1.out.blk.cell (by rw [List.getElem?_map, pls_at f l k HKL.out]; rfl))
      generalize wr.setCell ⟨w.heap.size, k, none⟩ (.int .i64 0) = wS at *
      try simp only [Act.put, List.setIfInBounds_toArray, List.set_cons_succ, List.set_cons_zero]
      refine wpList_nil ?_
      by_cases hx0 : 0 ≤ x
      · have gx : decide (0 ≤ x) = true := decide_eq_true hx0
        have HP2 : Hid (Pst w (wS.setCell ⟨w.heap.size, k, none⟩ (.int .i64 (f + x))) w.heap.size (pls f l (k + 1))) := Lib.hid (by
          have := HP1.out.set (Nat.le_refl _) k (f + x) (by rw [pls_len f l k (Nat.le_of_lt HKL.out)]; exact HKL.out)
          rw [pls_next f l k x HXX.out, plOf, if_pos hx0]
          exact this)
        have gw : Hid (IntKind.i64.wrap (f + x) = f + x) := Lib.hid (wrap64 (by have := HF.out; omega) (by have := HF.out; have := HXB.out; omega))
        go_upto_region 7 with fail
        refine wp_region_lit ?_
        refine takeL (.slice (some ⟨w.heap.size, 0, none⟩) m m) rfl (by go_simp) ?_
        try simp only [Act.put, List.setIfInBounds_toArray, List.set_cons_succ, List.set_cons_zero]
        refine takeL (.int .i64 k) rfl (by go_simp) ?_
        try simp only [Act.put, List.setIfInBounds_toArray, List.set_cons_succ, List.set_cons_zero]
        refine takeL (.int .i64 f) rfl (by go_simp) ?_
        try simp only [Act.put, List.setIfInBounds_toArray, List.set_cons_succ, List.set_cons_zero]
        refine takeL (.int .i64 x) rfl (by go_simp) ?_
        try simp only [Act.put, List.setIfInBounds_toArray, List.set_cons_succ, List.set_cons_zero]
        refine takeL (.int .i64 (f + x)) rfl (by have q := gw.out; go_simp) ?_
        try simp only [Act.put, List.setIfInBounds_toArray, List.set_cons_succ, List.set_cons_zero]
        refine takeL (.pointer (some ⟨w.heap.size, k, none⟩)) rfl (by go_simp) ?_
        try simp only [Act.put, List.setIfInBounds_toArray, List.set_cons_succ, List.set_cons_zero]
        refine skipL (wS.setCell ⟨w.heap.size, k, none⟩ (.int .i64 (f + x))) rfl (by have q := HZ1.out; have fz := HP1.out.blk.frozen k; go_simp) ?_
        generalize wS.setCell ⟨w.heap.size, k, none⟩ (.int .i64 (f + x)) = wT at *
        try simp only [Act.put, List.setIfInBounds_toArray, List.set_cons_succ, List.set_cons_zero]
        refine wpList_nil ?_
        go_wp2_with fail
        go_roundg (m - (k + 1))
        case measure => omega
        case rel => exact ⟨k + 1, by omega, by omega, by go_num, HP2.out⟩
      · have gx : decide (0 ≤ x) = false := decide_eq_false hx0
        have HP2 : Hid (Pst w wS w.heap.size (pls f l (k + 1))) := Lib.hid (by
          rw [pls_neg f l k x HXX.out hx0]
          exact HP1.out)
        clear HXX HXB
        go_wp2_with fail
        go_roundg (m - (k + 1))
        case measure => omega
        case rel => exact ⟨k + 1, by omega, by omega, by go_num, HP2.out⟩
    · have hk2 : k = l.length := by have := HM.out; omega
      have gk : decide ((k : Int) < (m : Int)) = false := decide_eq_false (by omega)
      have HR : Hid (Pst w wr w.heap.size (l.map (plOf f))) := Lib.hid (by rw [← pls_all f l, ← hk2]; exact HP.out)
      clear hk2
      go_wp2_with fail
      go_ret
      refine ⟨_, rfl, ?_, HR.out.bel⟩
      have := HR.out.own
      rw [List.length_map, HM.out] at this
      exact this
end

end Go.Proofs.YtmlniannilnmhaaGreatDoor
