/- Package journal: placesOf. What a Put comes to. Package journal: a Put that puts nothing. -/
import Derived.Test.YthlnmdihdcfphaaGreatDoorJe
namespace Go.Proofs.YthlnmdihdcfphaaGreatDoor
set_option linter.unusedSimpArgs false
set_option linter.unusedVariables false
open Go.RowKit

/-- The place of a block that is the so-manieth sector of a group at f. -/
def plOf (f x : Int) : Int := if 0 ≤ x then f + x else 0
def pls (f : Int) (l : List Int) (k : Nat) : List Int := (l.take k).map (plOf f) ++ List.replicate (l.length - k) 0
theorem pls_zero (f : Int) (l : List Int) : pls f l 0 = List.replicate l.length 0 := by simp [pls]
theorem pls_all (f : Int) (l : List Int) : pls f l l.length = l.map (plOf f) := by simp [pls]
theorem pls_len (f : Int) (l : List Int) (k : Nat) (hk : k ≤ l.length) : (pls f l k).length = l.length := by
  simp only [pls, List.length_append, List.length_map, List.length_take, List.length_replicate]
  omega
theorem pls_at (f : Int) (l : List Int) (k : Nat) (hk : k < l.length) : (pls f l k)[k]? = some 0 := by
  have e : ((l.take k).map (plOf f)).length = k := by simp only [List.length_map, List.length_take]; omega
  rw [pls, List.getElem?_append_right (by omega), e, Nat.sub_self, List.getElem?_replicate, if_pos (by omega)]
theorem pls_set (f : Int) (l : List Int) (k : Nat) (hk : k < l.length) : (pls f l k).set k 0 = pls f l k := by
  refine List.ext_getElem? fun i => ?_
  rw [List.getElem?_set]
  split
  · rename_i h
    subst h
    rw [if_pos (by rw [pls_len f l k (by omega)]; exact hk), pls_at f l k hk]
  · rfl
theorem pls_next (f : Int) (l : List Int) (k : Nat) (x : Int) (hx : l[k]? = some x) : pls f l (k + 1) = (pls f l k).set k (plOf f x) := by
  obtain ⟨hk, hx2⟩ := List.getElem?_eq_some_iff.1 hx
  have e : ((l.take k).map (plOf f)).length = k := by simp only [List.length_map, List.length_take]; omega
  rw [pls, pls, List.set_append_right _ _ (by omega), e, Nat.sub_self, List.take_add_one, hx, show l.length - k = (l.length - (k + 1)) + 1 by omega, List.replicate_succ]
  simp
theorem pls_neg (f : Int) (l : List Int) (k : Nat) (x : Int) (hx : l[k]? = some x) (h : ¬ 0 ≤ x) : pls f l (k + 1) = pls f l k := by
  rw [pls_next f l k x hx, plOf, if_neg h, pls_set f l k (List.getElem?_eq_some_iff.1 hx).1]
theorem i64s_set (l : List Int) (k : Nat) (v : Int) : (i64s l).set k (.int .i64 v) = i64s (l.set k v) := by simp [i64s, List.map_set]
section
variable {W w : World}
structure Pst (w wr : World) (r : Nat) (l : List Int) : Prop where
  blk : Blk wr r (i64s l)
  own : OwnN wr w.heap.size (.slice (some ⟨r, 0, none⟩) l.length l.length) l
  bel : Below w.heap.size w wr
theorem Pst.set {w wr : World} {r : Nat} {l : List Int} (h : Pst w wr r l) (hr : w.heap.size ≤ r) (k : Nat) (v : Int) (hk : k < l.length) : Pst w (wr.setCell ⟨r, k, none⟩ (.int .i64 v)) r (l.set k v) :=
  ⟨by rw [← i64s_set]; exact h.blk.set k _, by have := h.own.set k v hk; rwa [List.length_set], h.bel.trans (set_bel (Below.refl _ _) hr h.bel.size)⟩
set_option maxRecDepth 100000 in
set_option maxHeartbeats 1000000 in
theorem places_any (f : Int) (l : List Int) (sv : Value) (w : World) (hi : IntsAt w sv l) (hl : l.length ≤ 1000) (hf : 0 ≤ f ∧ f ≤ 2000) (hx : ∀ x ∈ l, -1 ≤ x ∧ x ≤ 2000) : Calls Tryz.prog 48 #[.int .i64 f, sv] w fun e w' => ∃ v, e = .returned v ∧ OwnN w' w.heap.size v (l.map (plOf f)) ∧ Below w.heap.size w w' := by
  have HI := Lib.hid hi
  have HX := Lib.hid hx
  have HF := Lib.hid hf
  obtain ⟨sa, sc, hsv, -⟩ := hi
  obtain ⟨m, hm⟩ : ∃ m, l.length = m := ⟨_, rfl⟩
  rw [hm] at hsv hl
  subst hsv
  have HM := Lib.hid hm
  have HP0 : Hid (Pst w (w.alloc (.cells (madeCells #[.int .i64 0] m) 3)) w.heap.size (pls f l 0)) := Lib.hid (by
    have e : madeCells #[Value.int .i64 0] m = (i64s (List.replicate m 0)).toArray := by
      apply Array.ext'
      rw [toList_madeCells_one]
      simp [i64s]
    rw [pls_zero, hm, e]
    exact ⟨Blk.new w _ 3, by have := OwnN.lit w w.heap.size (Nat.le_refl _) (List.replicate m 0) (by simp; omega) _ rfl; exact this, (Below.refl _ _).alloc (Nat.le_refl _) _⟩)
  have mk := De.make62 m (by omega)
  clear hx hf hm
  go_enter Tryz.func48, Tryz.ntmps48
  go_wp2_with fail
  generalize w.alloc (.cells (madeCells #[.int .i64 0] m) 3) = w1 at *
  go_loopg [13] m (fun q i wr => ∃ k : Nat, m - k ≤ q ∧ k ≤ m ∧ i = .int .i64 k ∧ Pst w wr w.heap.size (pls f l k))
  case atStart => exact ⟨0, by omega, by omega, rfl, HP0.out⟩
  case round =>
    obtain ⟨k, hq, hk, rfl, hst⟩ := hrel
    have HP := Lib.hid hst
    clear hst
    by_cases hkm : k < m
    · have gk : decide ((k : Int) < (m : Int)) = true := decide_eq_true (by omega)
      have hk0 : (k : Int) < (m : Int) := by omega
      obtain ⟨x, hx⟩ : ∃ x, l[k]? = some x := ⟨_, List.getElem?_eq_getElem (by have := HM.out; omega)⟩
      have HXX := Lib.hid hx
      have HXB := Lib.hid (HX.out x (List.mem_of_getElem? hx))
      obtain ⟨g0, o0, c0, hsa, hat⟩ := HI.out.has (by have := HM.out; omega)
      have hsa2 : sa = some ⟨g0, o0, none⟩ := by injection hsa
      subst hsa2
      have cx := (HP.out.bel.cell (block_lt_of_cell (hat k x hx))).trans (hat k x hx)
      have HKL : Hid (k < l.length) := Lib.hid (by have := HM.out; omega)
      have HZ : Hid (wr.cell? ⟨w.heap.size, k, none⟩ = some (.int .i64 0)) := Lib.hid (HP.out.blk.cell (by rw [List.getElem?_map, pls_at f l k HKL.out]; rfl))
      have HP1 : Hid (Pst w (wr.setCell ⟨w.heap.size, k, none⟩ (.int .i64 0)) w.heap.size (pls f l k)) := Lib.hid (by
        have := HP.out.set (Nat.le_refl _) k 0 (by rw [pls_len f l k (Nat.le_of_lt HKL.out)]; exact HKL.out)
        rwa [pls_set f l k HKL.out] at this)
      clear hx hat hsa
      go_upto_region 5 with fail
      refine wp_region_lit ?_
      refine takeL (.slice (some ⟨w.heap.size, 0, none⟩) m m) rfl (by go_simp) ?_
      try simp only [Act.put, List.setIfInBounds_toArray, List.set_cons_succ, List.set_cons_zero]
      refine takeL (.int .i64 k) rfl (by go_simp) ?_
      try simp only [Act.put, List.setIfInBounds_toArray, List.set_cons_succ, List.set_cons_zero]
      refine takeL (.pointer (some ⟨w.heap.size, k, none⟩)) rfl (by go_simp) ?_
      try simp only [Act.put, List.setIfInBounds_toArray, List.set_cons_succ, List.set_cons_zero]
      refine skipL (wr.setCell ⟨w.heap.size, k, none⟩ (.int .i64 0)) rfl (by have q := HZ.out; have fz := HP.out.blk.frozen k; go_simp) ?_
      have HZ1 : Hid ((wr.setCell ⟨w.heap.size, k, none⟩ (.int .i64 0)).cell? ⟨w.heap.size, k, none⟩ = some (.int .i64 0)) := Lib.hid (HP1.out.blk.cell (by rw [List.getElem?_map, pls_at f l k HKL.out]; rfl))
      generalize wr.setCell ⟨w.heap.size, k, none⟩ (.int .i64 0) = wS at *
      try simp only [Act.put, List.setIfInBounds_toArray, List.set_cons_succ, List.set_cons_zero]
      refine wpList_nil ?_
      by_cases hx0 : 0 ≤ x
      · have gx : decide (0 ≤ x) = true := decide_eq_true hx0
        have HP2 : Hid (Pst w (wS.setCell ⟨w.heap.size, k, none⟩ (.int .i64 (f + x))) w.heap.size (pls f l (k + 1))) := Lib.hid (by
          have := HP1.out.set (Nat.le_refl _) k (f + x) (by rw [pls_len f l k (Nat.le_of_lt HKL.out)]; exact HKL.out)
          rw [pls_next f l k x HXX.out, plOf, if_pos hx0]
          exact this)
        have gw : Hid (IntKind.i64.wrap (f + x) = f + x) := Lib.hid (wrap64 (by have := HF.out; omega) (by have := HF.out; have := HXB.out; omega))
        go_upto_region 7 with fail
        refine wp_region_lit ?_
        refine takeL (.slice (some ⟨w.heap.size, 0, none⟩) m m) rfl (by go_simp) ?_
        try simp only [Act.put, List.setIfInBounds_toArray, List.set_cons_succ, List.set_cons_zero]
        refine takeL (.int .i64 k) rfl (by go_simp) ?_
        try simp only [Act.put, List.setIfInBounds_toArray, List.set_cons_succ, List.set_cons_zero]
        refine takeL (.int .i64 f) rfl (by go_simp) ?_
        try simp only [Act.put, List.setIfInBounds_toArray, List.set_cons_succ, List.set_cons_zero]
        refine takeL (.int .i64 x) rfl (by go_simp) ?_
        try simp only [Act.put, List.setIfInBounds_toArray, List.set_cons_succ, List.set_cons_zero]
        refine takeL (.int .i64 (f + x)) rfl (by have q := gw.out; go_simp) ?_
        try simp only [Act.put, List.setIfInBounds_toArray, List.set_cons_succ, List.set_cons_zero]
        refine takeL (.pointer (some ⟨w.heap.size, k, none⟩)) rfl (by go_simp) ?_
        try simp only [Act.put, List.setIfInBounds_toArray, List.set_cons_succ, List.set_cons_zero]
        refine skipL (wS.setCell ⟨w.heap.size, k, none⟩ (.int .i64 (f + x))) rfl (by have q := HZ1.out; have fz := HP1.out.blk.frozen k; go_simp) ?_
        generalize wS.setCell ⟨w.heap.size, k, none⟩ (.int .i64 (f + x)) = wT at *
        try simp only [Act.put, List.setIfInBounds_toArray, List.set_cons_succ, List.set_cons_zero]
        refine wpList_nil ?_
        go_wp2_with fail
        go_roundg (m - (k + 1))
        case measure => omega
        case rel => exact ⟨k + 1, by omega, by omega, by go_num, HP2.out⟩
      · have gx : decide (0 ≤ x) = false := decide_eq_false hx0
        have HP2 : Hid (Pst w wS w.heap.size (pls f l (k + 1))) := Lib.hid (by
          rw [pls_neg f l k x HXX.out hx0]
          exact HP1.out)
        clear HXX HXB
        go_wp2_with fail
        go_roundg (m - (k + 1))
        case measure => omega
        case rel => exact ⟨k + 1, by omega, by omega, by go_num, HP2.out⟩
    · have hk2 : k = l.length := by have := HM.out; omega
      have gk : decide ((k : Int) < (m : Int)) = false := decide_eq_false (by omega)
      have HR : Hid (Pst w wr w.heap.size (l.map (plOf f))) := Lib.hid (by rw [← pls_all f l, ← hk2]; exact HP.out)
      clear hk2
      go_wp2_with fail
      go_ret
      refine ⟨_, rfl, ?_, HR.out.bel⟩
      have := HR.out.own
      rw [List.length_map, HM.out] at this
      exact this
end

end Go.Proofs.YthlnmdihdcfphaaGreatDoor
namespace Go.Proofs.YthlnmdihdcfphaaGreatDoor
set_option linter.unusedSimpArgs false
set_option linter.unusedVariables false
open Go.RowKit

theorem lay2_at (n : Int) (l : List It) : (lay2 n l).2.length = l.length := by
  rw [lay2, layTo_at, List.take_of_length_le (parts_le _)]
theorem atOf_at {p : List It} {c i : Nat} {x : It} (h : p[i]? = some x) : ∃ v : Int, (atOf c p)[i]? = some v ∧ (x.has = false → v = -1) ∧ (x.has = true → (c : Int) ≤ v ∧ v < c + blocks (marks p)) := by
  induction p generalizing c i with
  | nil => simp at h
  | cons y r ih =>
    have hb : blocks (marks (y :: r)) = (if y.has then 1 else 0) + blocks (marks r) := rfl
    cases i with
    | zero =>
      simp only [List.getElem?_cons_zero, Option.some.injEq] at h
      subst h
      unfold atOf
      cases k : y.has
      · exact ⟨-1, rfl, fun _ => rfl, fun h => by cases h⟩
      · refine ⟨c, rfl, fun h => (by cases h), fun _ => ⟨Int.le_refl _, ?_⟩⟩
        rw [hb, k]
        simp
        omega
    | succ i =>
      simp only [List.getElem?_cons_succ] at h
      unfold atOf
      cases k : y.has
      · obtain ⟨v, h1, h2, h3⟩ := ih (c := c) h
        refine ⟨v, by simpa using h1, h2, fun hh => ?_⟩
        rw [hb, k]
        simpa using h3 hh
      · obtain ⟨v, h1, h2, h3⟩ := ih (c := c + 1) h
        refine ⟨v, by simpa using h1, h2, fun hh => ?_⟩
        have := h3 hh
        rw [hb, k]
        simp only [if_true]
        omega
theorem layTo_atv {n : Int} {l : List It} {k i : Nat} {x : It} (h : (l.take (24 * k))[i]? = some x) : ∃ v : Int, (layTo n l k).2[i]? = some v ∧ (x.has = false → v = -1) ∧ (x.has = true → 1 ≤ v ∧ v < (layTo n l k).1.length) := by
  induction k with
  | zero => simp at h
  | succ k ih =>
    have hl := layTo_succ n l k
    have h2 : (layTo n l (k + 1)).2 = (layTo n l k).2 ++ atOf ((layTo n l k).1.length + 1) (chunk l k) := by
      rw [layTo, stepPart, foldl_step]
      simp
    rw [take_chunk] at h
    have hlen := layTo_at n l k
    by_cases hi : i < (l.take (24 * k)).length
    · rw [List.getElem?_append_left hi] at h
      obtain ⟨v, a, b, c⟩ := ih h
      refine ⟨v, by rw [h2, List.getElem?_append_left (by omega)]; exact a, b, fun hh => ?_⟩
      have := c hh
      rw [hl, List.length_append]
      omega
    · rw [List.getElem?_append_right (by omega)] at h
      obtain ⟨v, a, b, c⟩ := atOf_at (c := (layTo n l k).1.length + 1) h
      refine ⟨v, by rw [h2, List.getElem?_append_right (by omega), hlen]; exact a, b, fun hh => ?_⟩
      have := c hh
      rw [hl, List.length_append, partOf_length]
      omega
theorem lay2_atv {n : Int} {l : List It} {i : Nat} {x : It} (h : l[i]? = some x) : ∃ v : Int, (lay2 n l).2[i]? = some v ∧ (x.has = false → v = -1) ∧ (x.has = true → 1 ≤ v ∧ v < (lay2 n l).1.length) := layTo_atv (by rw [List.take_of_length_le (parts_le _)]; exact h)
theorem lay2_mem {n : Int} {l : List It} {x : Int} (h : x ∈ (lay2 n l).2) : -1 ≤ x ∧ x < (lay2 n l).1.length := by
  obtain ⟨i, hi⟩ := List.getElem?_of_mem h
  have hil := (List.getElem?_eq_some_iff.1 hi).1
  rw [lay2_at] at hil
  obtain ⟨v, h1, h2, h3⟩ := lay2_atv (n := n) (List.getElem?_eq_getElem hil)
  rw [hi] at h1
  cases h1
  cases hh : (l[i]).has
  · have := h2 hh
    omega
  · have := h3 hh
    omega
theorem lay2_pos {l : List It} (h : mayBe l = true) (n : Int) : 1 ≤ (lay2 n l).1.length := by
  rw [lay2_length]
  have := parts_pos h
  omega
/-- The lists of those that are free behind the first. -/
theorem freeOk_tail {g : Pl.Gm} {seg f : Int} {r : List Int} (h : freeOk g seg (f :: r) = true) : isSeg g f = true ∧ freeOk g f r = true := by
  have h0 := freeOk_at h 0 (by simp)
  unfold okAt at h0
  simp only [Bool.and_eq_true] at h0
  have hstep : ∀ i, i + 1 < (f :: r).length → (f :: r).getD i 0 < (f :: r).getD (i + 1) 0 := fun i hi => by
    have h1 := freeOk_at h (i + 1) hi
    unfold okAt at h1
    simp only [Bool.and_eq_true, Bool.or_eq_true, decide_eq_true_eq] at h1
    have h2 := h1.2
    rw [show i + 1 - 1 = i from rfl] at h2
    omega
  have hlow : ∀ i, i < r.length → f < r.getD i 0 := fun i => by
    induction i with
    | zero =>
      intro hi
      have := hstep 0 (by simp; omega)
      simpa using this
    | succ i ih =>
      intro hi
      have h1 := ih (by omega)
      have h2 := hstep (i + 1) (by simp; omega)
      simp only [List.getD_cons_succ] at h2
      omega
  refine ⟨by simpa using h0.1.1, freeOk_all fun i hi => ?_⟩
  have h1 := freeOk_at h (i + 1) (by simp; omega)
  have h3 := hlow i hi
  unfold okAt at h1 ⊢
  simp only [List.getD_cons_succ, Bool.and_eq_true, Bool.or_eq_true, decide_eq_true_eq, Bool.not_eq_true', decide_eq_false_iff_not] at h1 ⊢
  refine ⟨⟨h1.1.1, by omega⟩, ?_⟩
  cases i with
  | zero => exact .inl rfl
  | succ i =>
    have := hstep (i + 1) (by simp; omega)
    simp only [List.getD_cons_succ] at this
    exact .inr (by simpa using this)
theorem good_of {g : Pl.Gm} {a : Ja} (h1 : g.Ok) (h2 : isSeg g a.seg = true) (h3 : 0 ≤ a.off) (h4 : a.off ≤ g.l) (h5 : freeOk g a.seg a.free = true) : a.good g = true := by
  unfold Ja.good
  simp only [Bool.and_eq_true, decide_eq_true_eq]
  exact ⟨⟨⟨⟨h1, h2⟩, h3⟩, h4⟩, h5⟩
/-- Where the next group goes, it has room. -/
structure Nx (g : Pl.Gm) (a a1 : Ja) (n : Nat) : Prop where
  seq : a1.seq = a.seq
  seg : 0 ≤ a1.seg ∧ a1.seg < g.s
  off : 0 ≤ a1.off ∧ a1.off + n ≤ g.l
  free : freeOk g a1.seg a1.free = true
  ok : g.Ok
theorem nextP_nx {g : Pl.Gm} {a a1 : Ja} {n : Nat} (h : a.good g = true) (hn : (n : Int) ≤ g.l) (e : nextP g a n = some a1) : Nx g a a1 n := by
  obtain ⟨h1, h2, h3, h4, h5⟩ := Ja.good_parts h
  unfold nextP at e
  split at e
  · injection e with e
    subst e
    exact ⟨rfl, h2, ⟨h3, by omega⟩, h5, h1⟩
  · split at e
    · cases e
    · rename_i f r hf
      injection e with e
      subst e
      rw [hf] at h5
      obtain ⟨k1, k2⟩ := freeOk_tail h5
      refine ⟨rfl, ?_, ⟨Int.le_refl _, by simpa using hn⟩, k2, h1⟩
      unfold isSeg at k1
      simpa using k1
theorem Nx.good {g : Pl.Gm} {a a1 : Ja} {n : Nat} (h : Nx g a a1 n) (s : Int) : (⟨a1.seg, a1.off + n, s, a1.free⟩ : Ja).good g = true :=
  good_of h.ok (by unfold isSeg; simpa using h.seg) (by have := h.off; show 0 ≤ a1.off + (n : Int); omega) h.off.2 h.free
def firstOf (g : Pl.Gm) (a : Ja) : Int := 4 + a.seg * g.l + a.off
theorem Nx.first {g : Pl.Gm} {a a1 : Ja} {n : Nat} (h : Nx g a a1 n) : ∃ f : Nat, firstOf g a1 = (f : Int) ∧ 4 ≤ f ∧ ((f + n : Nat) : Int) ≤ 4 + g.s * g.l := by
  have h0 : 0 ≤ a1.seg * g.l := Int.mul_nonneg h.seg.1 (by have := h.off; omega)
  have h1 : a1.seg * g.l ≤ (g.s - 1) * g.l := Int.mul_le_mul_of_nonneg_right (by have := h.seg; omega) (by have := h.off; omega)
  rw [Int.sub_mul, Int.one_mul] at h1
  have := h.off
  refine ⟨(firstOf g a1).toNat, ?_, ?_, ?_⟩
  · unfold firstOf; omega
  · unfold firstOf; omega
  · unfold firstOf; push_cast; omega
theorem wrs_len (d : De.D) (i : Int) (X : List (List Int)) : (wrs d i X).1.S.length = d.S.length ∧ (wrs d i X).1.T ≤ d.T + X.length ∧ (wrs d i X).1.L.length ≤ d.L.length + X.length := by
  induction X generalizing d i with
  | nil => exact ⟨rfl, Nat.le_refl _, Nat.le_refl _⟩
  | cons x r ih =>
    have h1 := write_len d i (u8s x).toArray
    have h2 := write_T d i (u8s x).toArray
    have h3 := write_L d i (u8s x).toArray
    unfold wrs
    split
    · obtain ⟨k1, k2, k3⟩ := ih (d.write i (u8s x).toArray) (i + 1)
      simp only [List.length_cons]
      exact ⟨k1.trans h1, by omega, by omega⟩
    · simp only [List.length_cons]
      exact ⟨h1, by omega, by omega⟩
theorem flush_T (d : De.D) : d.flush.T ≤ d.T + 1 ∧ d.flush.L.length ≤ d.L.length := by
  unfold De.D.flush
  split <;> simp
theorem wrAll_len (d : De.D) (i : Int) (X : List (List Int)) : (wrAll d i X).1.S.length = d.S.length ∧ (wrAll d i X).1.T ≤ d.T + X.length + 1 ∧ (wrAll d i X).1.L.length ≤ d.L.length + X.length := by
  obtain ⟨h1, h2, h3⟩ := wrs_len d i X
  unfold wrAll
  split
  · have := flush_len (wrs d i X).1
    have := flush_T (wrs d i X).1
    simp only
    omega
  · simp only
    omega
/-- What a Put comes to: the error, the places, where the journal is, the device. -/
structure Pr where
  e : Int
  pl : List Int
  a : Ja
  d : De.D
def jput (g : Pl.Gm) (a : Ja) (d : De.D) (L : List It) : Pr :=
  if laid g a L then
    match nextP g a (lay2 a.seq L).1.length with
    | none => ⟨14, [], a, d⟩
    | some a1 =>
      if (wrAll d (firstOf g a1) (lay2 a.seq L).1).2 then ⟨0, (lay2 a.seq L).2.map (plOf (firstOf g a1)), ⟨a1.seg, a1.off + (lay2 a.seq L).1.length, (a.seq + partsN L) % M32, a1.free⟩, (wrAll d (firstOf g a1) (lay2 a.seq L).1).1⟩
      else ⟨12, [], a, (wrAll d (firstOf g a1) (lay2 a.seq L).1).1⟩
  else ⟨1, [], a, d⟩
theorem jput_no {g : Pl.Gm} {a : Ja} {d : De.D} {L : List It} (h : laid g a L = false) : jput g a d L = ⟨1, [], a, d⟩ := by unfold jput; rw [h]; rfl
theorem jput_full {g : Pl.Gm} {a : Ja} {d : De.D} {L : List It} (h : laid g a L = true) (hn : nextP g a (lay2 a.seq L).1.length = none) : jput g a d L = ⟨14, [], a, d⟩ := by unfold jput; rw [if_pos h, hn]
theorem jput_fail {g : Pl.Gm} {a a1 : Ja} {d : De.D} {L : List It} (h : laid g a L = true) (hn : nextP g a (lay2 a.seq L).1.length = some a1) (hw : (wrAll d (firstOf g a1) (lay2 a.seq L).1).2 = false) : jput g a d L = ⟨12, [], a, (wrAll d (firstOf g a1) (lay2 a.seq L).1).1⟩ := by
  unfold jput
  rw [if_pos h, hn]
  simp only [hw]
  rfl
theorem jput_ok {g : Pl.Gm} {a a1 : Ja} {d : De.D} {L : List It} (h : laid g a L = true) (hn : nextP g a (lay2 a.seq L).1.length = some a1) (hw : (wrAll d (firstOf g a1) (lay2 a.seq L).1).2 = true) :
    jput g a d L = ⟨0, (lay2 a.seq L).2.map (plOf (firstOf g a1)), ⟨a1.seg, a1.off + (lay2 a.seq L).1.length, (a.seq + partsN L) % M32, a1.free⟩, (wrAll d (firstOf g a1) (lay2 a.seq L).1).1⟩ := by
  unfold jput
  rw [if_pos h, hn]
  simp only [hw]
  rfl
theorem laid_parts {g : Pl.Gm} {a : Ja} {L : List It} (h : laid g a L = true) : mayBe L = true ∧ ((lay2 a.seq L).1.length : Int) ≤ g.l := by
  unfold laid at h
  simpa using h
/-- A Put leaves as many sectors, and few more are loose. -/
theorem jput_len {g : Pl.Gm} {a : Ja} (d : De.D) {L : List It} (hg : g.l ≤ 1024) : (jput g a d L).d.S.length = d.S.length ∧ (jput g a d L).d.T ≤ d.T + 1025 ∧ (jput g a d L).d.L.length ≤ d.L.length + 1024 := by
  cases h : laid g a L
  · rw [jput_no h]
    exact ⟨rfl, by simp, by simp⟩
  · have hl := (laid_parts h).2
    cases hn : nextP g a (lay2 a.seq L).1.length with
    | none =>
      rw [jput_full h hn]
      exact ⟨rfl, by simp, by simp⟩
    | some a1 =>
      obtain ⟨k1, k2, k3⟩ := wrAll_len d (firstOf g a1) (lay2 a.seq L).1
      cases hw : (wrAll d (firstOf g a1) (lay2 a.seq L).1).2
      · rw [jput_fail h hn hw]
        exact ⟨k1, by simp only; omega, by simp only; omega⟩
      · rw [jput_ok h hn hw]
        exact ⟨k1, by simp only; omega, by simp only; omega⟩
/-- Items whose blocks are none of the device's. -/
theorem BytesAt.onlyF {F : Nat → Prop} {w w' : World} {sv : Value} {l : List Int} (h : BytesAt w sv l) (ho : Only F w w') (hn : ∀ b o n c, sv = .slice (some ⟨b, o, none⟩) n c → ¬ F b) : BytesAt w' sv l := by
  obtain ⟨a, cap, e, hc⟩ := h
  refine ⟨a, cap, e, fun i x hx => ?_⟩
  obtain ⟨b, o, e2, hx2⟩ := hc i x hx
  refine ⟨b, o, e2, ?_⟩
  rw [← hx2]
  simp only [World.cell?, ho.block b (block_lt_of_cell hx2) (hn b o _ _ (by rw [e, e2]))]
theorem IntsAt.onlyF {F : Nat → Prop} {w w' : World} {sv : Value} {l : List Int} (h : IntsAt w sv l) (ho : Only F w w') (hn : ∀ b o n c, sv = .slice (some ⟨b, o, none⟩) n c → ¬ F b) : IntsAt w' sv l := by
  obtain ⟨a, cap, e, hc⟩ := h
  refine ⟨a, cap, e, fun i x hx => ?_⟩
  obtain ⟨b, o, e2, hx2⟩ := hc i x hx
  refine ⟨b, o, e2, ?_⟩
  rw [← hx2]
  simp only [World.cell?, ho.block b (block_lt_of_cell hx2) (hn b o _ _ (by rw [e, e2]))]
theorem ItemsAt.onlyF {F : Nat → Prop} {w w' : World} {sv : Value} {l : List (It × Value)} (h : ItemsAt w sv l) (ho : Only F w w') (hn : ∀ b o n c, sv = .slice (some ⟨b, o, none⟩) n c → ¬ F b) (hx : ∀ x ∈ l, ∀ b o n c, x.2 = .slice (some ⟨b, o, none⟩) n c → ¬ F b) : ItemsAt w' sv l := by
  obtain ⟨a, cap, e, hcap, hc⟩ := h
  refine ⟨a, cap, e, hcap, fun i x hi => ?_⟩
  obtain ⟨h1, h2, g, o, h3, h4⟩ := hc i x hi
  refine ⟨h1, h2.onlyF ho (hx x (List.mem_of_getElem? hi)), g, o, h3, fun j hj => ?_⟩
  rw [← h4 j hj]
  simp only [World.cell?, ho.block g (block_lt_of_cell (h4 j hj)) (hn g o _ _ (by rw [e, h3]))]

end Go.Proofs.YthlnmdihdcfphaaGreatDoor
namespace Go.Proofs.YthlnmdihdcfphaaGreatDoor
set_option linter.unusedSimpArgs false
set_option linter.unusedVariables false
open Go.RowKit

/-- The error of a Put and its places. -/
def PutE (w : World) (n : Int) (v : Value) : Prop := (n = 0 ∧ v = .nilIface) ∨ ((n == 0) = false ∧ Fault w n v)
theorem PutE.below {w w' : World} {n : Int} {v : Value} (h : PutE w n v) (hb : Below w.heap.size w w') : PutE w' n v := h.elim .inl fun ⟨h1, h2⟩ => .inr ⟨h1, h2.below hb⟩
section
variable {W w : World} {jb b : Nat} {F : Nat → Prop} {d : De.D} {g : Pl.Gm} {a : Ja} {fv : Value}
theorem room_any (h : Jn W w jb b F d g a fv) (n : Nat) (a1 : Ja) (hx : nextP g a n = some a1) : Calls Tryz.prog 44 #[.pointer (some ⟨jb, 0, none⟩), .int .i64 n] w fun e w' => ∃ fv', e = .returned (.tuple #[.agg #[.int .i64 a1.seg, .int .i64 a1.off, .int .u32 a1.seq, fv'], .nilIface]) ∧ Room w' fv fv' a1 ∧ Below w.heap.size w w' := by
  unfold nextP at hx
  split at hx
  · rename_i hn
    injection hx with hx
    subst hx
    exact (room_here h n hn).mono fun e w' ⟨h1, h2, h3⟩ => ⟨fv, h1, h2, h3⟩
  · rename_i hn
    split at hx
    · cases hx
    · rename_i f r hf
      injection hx with hx
      subst hx
      exact room_next h n hn f r hf
/-- A slice's block is another one's. -/
def Src (fv fv' : Value) : Prop := ∀ b o n c, fv' = .slice (some ⟨b, o, none⟩) n c → ∃ o2 n2 c2, fv = .slice (some ⟨b, o2, none⟩) n2 c2
theorem Src.refl (fv : Value) : Src fv fv := fun b o n c e => ⟨o, n, c, e⟩
/-- What a Put leaves. -/
def PutOut (W w : World) (jb b : Nat) (F : Nat → Prop) (fv : Value) (g : Pl.Gm) (p : Pr) (pv ev : Value) (w' : World) : Prop :=
  ∃ F' fv', PutE w' p.e ev ∧ OwnN w' w.heap.size pv p.pl ∧ Jn W w' jb b F' p.d g p.a fv' ∧ Only (fun k => F k ∨ k = jb) w w' ∧ (∀ k, F' k → F k ∨ w.heap.size ≤ k) ∧ (∀ k, pv.ownBlock = some k → ¬ F' k ∧ k ≠ jb) ∧ Src fv fv'
theorem PutOut.same (h : Jn W w jb b F d g a fv) {w' : World} (hb : Below w.heap.size w w') {n : Int} (hn : (n == 0) = false) {ev : Value} (hf : Fault w' n ev) : PutOut W w jb b F fv g ⟨n, [], a, d⟩ (.slice none 0 0) ev w' :=
  ⟨F, fv, .inr ⟨hn, hf⟩, OwnN.nil _ _, h.below hb, Only.of_below hb, fun k hk => .inl hk, (fun k hk => by cases hk), Src.refl _⟩
set_option maxRecDepth 100000 in
theorem put_no (h : Jn W w jb b F d g a fv) (l : List (It × Value)) (L : List It) (hL : l.map (·.1) = L) (sv : Value) (hlen : l.length < 100000) (hi : ItemsAt w sv l) (hno : laid g a L = false) : Calls Tryz.prog 28 #[.pointer (some ⟨jb, 0, none⟩), sv] w fun e w' => ∃ pv ev, e = .returned (.tuple #[pv, ev]) ∧ PutOut W w jb b F fv g (jput g a d L) pv ev w' := by
  have HLA := Lib.hid (jlay_no h l L hL sv hlen hi hno)
  have HWF := Lib.hid fun v s w (h : Fault w 1 v) => wrap_fault 1 v s w h
  have HJ := Lib.hid h
  rw [jput_no hno]
  obtain ⟨sa, sc, hsv⟩ := items_one hi
  obtain ⟨m, hm⟩ : ∃ m, l.length = m := ⟨_, rfl⟩
  rw [hm] at hsv
  subst hsv
  clear h hL hlen hi hno hm
  go_enter Tryz.func28, Tryz.ntmps28
  go_wp2_with fail
  refine HLA.out.mono ?_
  rintro e w1 ⟨v, rfl, hf, hb⟩
  have HB := Lib.hid hb
  have HF := Lib.hid hf
  obtain ⟨T, dd, hv⟩ := hf.shape
  subst hv
  clear hf hb
  go_wp2_with fail
  refine (HWF.out _ _ _ HF.out).mono ?_
  rintro e w2 ⟨v2, rfl, hf, hb⟩
  have HB2 := Lib.hid (stay HB.out hb)
  have HF2 := Lib.hid hf
  obtain ⟨T2, dd2, hv⟩ := hf.shape
  subst hv
  clear hf hb
  go_wp2_with fail
  first | go_ret2 | go_ret
  exact ⟨_, _, rfl, PutOut.same HJ.out HB2.out rfl HF2.out⟩
set_option maxRecDepth 100000 in
theorem put_full (h : Jn W w jb b F d g a fv) (l : List (It × Value)) (L : List It) (hL : l.map (·.1) = L) (sv : Value) (hlen : l.length < 100000) (hi : ItemsAt w sv l) (hyes : laid g a L = true) (hx : nextP g a (lay2 a.seq L).1.length = none) : Calls Tryz.prog 28 #[.pointer (some ⟨jb, 0, none⟩), sv] w fun e w' => ∃ pv ev, e = .returned (.tuple #[pv, ev]) ∧ PutOut W w jb b F fv g (jput g a d L) pv ev w' := by
  have HLA := Lib.hid (jlay_yes h l L hL sv hlen hi hyes)
  have HWF := Lib.hid fun v s w (h : Fault w 14 v) => wrap_fault 14 v s w h
  have HJ := Lib.hid h
  rw [jput_full hyes hx]
  obtain ⟨sa, sc, hsv⟩ := items_one hi
  obtain ⟨m, hm⟩ : ∃ m, l.length = m := ⟨_, rfl⟩
  rw [hm] at hsv
  subst hsv
  obtain ⟨N, hN⟩ : ∃ N, (lay2 a.seq L).1.length = N := ⟨_, rfl⟩
  rw [hN] at hx
  have HNN := Lib.hid hN
  have hno : ¬ (N : Int) ≤ g.l - a.off ∧ a.free = [] := by
    unfold nextP at hx
    split at hx
    · cases hx
    · rename_i hn
      split at hx
      · rename_i hf
        exact ⟨hn, hf⟩
      · cases hx
  have HRO := Lib.hid fun w (h : Jn W w jb b F d g a fv) => room_none h N hno.1 hno.2
  clear h hL hlen hi hyes hm hx hN hno
  go_enter Tryz.func28, Tryz.ntmps28
  go_wp2_with fail
  refine HLA.out.mono ?_
  rintro e w1 ⟨s7, s8, rfl, ht⟩
  have HB := Lib.hid ht.b
  obtain ⟨a7, c7', hv7, -⟩ := ht.s.len
  obtain ⟨a8, c8', hv8⟩ := ht.a.ints.form
  rw [HNN.out] at hv7
  subst hv7
  subst hv8
  clear ht
  go_upto_region 6 with fail
  refine wp_region_lit ?_
  refine takeL (.pointer (some ⟨jb, 0, none⟩)) rfl (by go_simp) ?_
  try simp only [Act.put, List.setIfInBounds_toArray, List.set_cons_succ, List.set_cons_zero]
  refine takeL (.slice a7 N c7') rfl (by go_simp) ?_
  try simp only [Act.put, List.setIfInBounds_toArray, List.set_cons_succ, List.set_cons_zero]
  refine takeL (.int .i64 N) rfl (by go_simp) ?_
  try simp only [Act.put, List.setIfInBounds_toArray, List.set_cons_succ, List.set_cons_zero]
  refine wpList_op rfl fun K hK => ?_
  go_simp
  refine (HRO.out _ (HJ.out.below HB.out)).mono ?_
  rintro e w2 ⟨v, rfl, hf, hb⟩
  have HB2 := Lib.hid (stay HB.out hb)
  have HF2 := Lib.hid hf
  obtain ⟨T, dd, hv⟩ := hf.shape
  subst hv
  clear hf hb
  refine hK _ _ ?_
  clear hK K
  try simp only [Act.put, List.setIfInBounds_toArray, List.set_cons_succ, List.set_cons_zero]
  refine takeL (.tuple #[.agg #[.int .i64 0, .int .i64 0, .int .u32 0, .slice none 0 0], .iface T dd]) rfl (by go_simp) ?_
  try simp only [Act.put, List.setIfInBounds_toArray, List.set_cons_succ, List.set_cons_zero]
  refine takeL (.agg #[.int .i64 0, .int .i64 0, .int .u32 0, .slice none 0 0]) rfl (by go_simp) ?_
  try simp only [Act.put, List.setIfInBounds_toArray, List.set_cons_succ, List.set_cons_zero]
  refine takeL (.iface T dd) rfl (by go_simp) ?_
  try simp only [Act.put, List.setIfInBounds_toArray, List.set_cons_succ, List.set_cons_zero]
  refine alloc_g zero40 rfl ?_
  intro w3 hR hb hl
  try simp only [Act.put, List.setIfInBounds_toArray, List.set_cons_succ, List.set_cons_zero]
  have HB3 := Lib.hid (stay HB2.out (hb.mono (Nat.le_refl _)))
  have HF3 := Lib.hid (HF2.out.below hb)
  have HL3 := Lib.hid HB2.out.size
  refine store_all (cs := #[.int .i64 0, .int .i64 0, .int .u32 0, .slice none 0 0]) hR rfl info40 (at_one _ _ _ _ _ _) rfl rfl rfl ?_
  intro w4 hD hO hlD
  try simp only [Act.put, List.setIfInBounds_toArray, List.set_cons_succ, List.set_cons_zero]
  have HB4 := Lib.hid (HB3.out.trans (hO.below HB3.out.size fun k hk => by have := HL3.out; omega))
  have HF4 := Lib.hid (HF3.out.onlyZ hO hR)
  clear hR hb hl hD hO hlD
  refine takeL (.iface T dd) rfl (by go_simp) ?_
  try simp only [Act.put, List.setIfInBounds_toArray, List.set_cons_succ, List.set_cons_zero]
  refine wpList_nil ?_
  go_wp2_with fail
  refine (HWF.out _ _ _ HF4.out).mono ?_
  rintro e w5 ⟨v2, rfl, hf, hb⟩
  have HB5 := Lib.hid (stay HB4.out hb)
  have HF5 := Lib.hid hf
  obtain ⟨T2, dd2, hv⟩ := hf.shape
  subst hv
  clear hf hb
  go_wp2_with fail
  first | go_ret2 | go_ret
  exact ⟨_, _, rfl, PutOut.same HJ.out HB5.out rfl HF5.out⟩
end

end Go.Proofs.YthlnmdihdcfphaaGreatDoor
