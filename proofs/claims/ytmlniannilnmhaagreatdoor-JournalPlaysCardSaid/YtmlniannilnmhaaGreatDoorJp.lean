/- What a Put comes to. -/
import Derived.Test.YtmlniannilnmhaaGreatDoorJf
namespace Go.Proofs.YtmlniannilnmhaaGreatDoor
set_option linter.unusedSimpArgs false
set_option linter.unusedVariables false
open Go.RowKit

theorem parts_le (n : Nat) : n ≤ 24 * parts n := by unfold parts; omega
theorem lay2_length (n : Int) (l : List It) : (lay2 n l).1.length = parts l.length + blocks (marks l) := by
  rw [lay2, layTo_length, List.take_of_length_le (parts_le _)]
theorem lay2_at (n : Int) (l : List It) : (lay2 n l).2.length = l.length := by
  rw [lay2, layTo_at, List.take_of_length_le (parts_le _)]
theorem atOf_at {p : List It} {c i : Nat} {x : It} (h : p[i]? = some x) : ∃ v : Int, (atOf c p)[i]? = some v ∧ (x.has = false → v = -1) ∧ (x.has = true → (c : Int) ≤ v ∧ v < c + blocks (marks p)) := by
  induction p generalizing c i with
  | nil => simp at h
  | cons y r ih =>
    have hb : blocks (marks (y :: r)) = (if y.has then 1 else 0) + blocks (marks r) := rfl
    cases i with
    | zero =>
      simp only [List.getElem?_cons_zero, Option.some.injEq] at h
      subst h
      unfold atOf
      cases k : y.has
      · exact ⟨-1, rfl, fun _ => rfl, fun h => by cases h⟩
      · refine ⟨c, rfl, fun h => (by cases h), fun _ => ⟨Int.le_refl _, ?_⟩⟩
        rw [hb, k]
        simp
        omega
    | succ i =>
      simp only [List.getElem?_cons_succ] at h
      unfold atOf
      cases k : y.has
      · obtain ⟨v, h1, h2, h3⟩ := ih (c := c) h
        refine ⟨v, by simpa using h1, h2, fun hh => ?_⟩
        rw [hb, k]
        simpa using h3 hh
      · obtain ⟨v, h1, h2, h3⟩ := ih (c := c + 1) h
        refine ⟨v, by simpa using h1, h2, fun hh => ?_⟩
        have := h3 hh
        rw [hb, k]
        simp only [if_true]
        omega
theorem layTo_atv {n : Int} {l : List It} {k i : Nat} {x : It} (h : (l.take (24 * k))[i]? = some x) : ∃ v : Int, (layTo n l k).2[i]? = some v ∧ (x.has = false → v = -1) ∧ (x.has = true → 1 ≤ v ∧ v < (layTo n l k).1.length) := by
  induction k with
  | zero => simp at h
  | succ k ih =>
    have hl := layTo_succ n l k
    have h2 : (layTo n l (k + 1)).2 = (layTo n l k).2 ++ atOf ((layTo n l k).1.length + 1) (chunk l k) := by
      rw [layTo, stepPart, foldl_step]
      simp
    rw [take_chunk] at h
    have hlen := layTo_at n l k
    by_cases hi : i < (l.take (24 * k)).length
    · rw [List.getElem?_append_left hi] at h
      obtain ⟨v, a, b, c⟩ := ih h
      refine ⟨v, by rw [h2, List.getElem?_append_left (by omega)]; exact a, b, fun hh => ?_⟩
      have := c hh
      rw [hl, List.length_append]
      omega
    · rw [List.getElem?_append_right (by omega)] at h
      obtain ⟨v, a, b, c⟩ := atOf_at (c := (layTo n l k).1.length + 1) h
      refine ⟨v, by rw [h2, List.getElem?_append_right (by omega), hlen]; exact a, b, fun hh => ?_⟩
      have := c hh
      rw [hl, List.length_append, partOf_length]
      omega
theorem lay2_atv {n : Int} {l : List It} {i : Nat} {x : It} (h : l[i]? = some x) : ∃ v : Int, (lay2 n l).2[i]? = some v ∧ (x.has = false → v = -1) ∧ (x.has = true → 1 ≤ v ∧ v < (lay2 n l).1.length) := layTo_atv (by rw [List.take_of_length_le (parts_le _)]; exact h)
theorem lay2_mem {n : Int} {l : List It} {x : Int} (h : x ∈ (lay2 n l).2) : -1 ≤ x ∧ x < (lay2 n l).1.length := by
  obtain ⟨i, hi⟩ := List.getElem?_of_mem h
  have hil := (List.getElem?_eq_some_iff.1 hi).1
  rw [lay2_at] at hil
  obtain ⟨v, h1, h2, h3⟩ := lay2_atv (n := n) (List.getElem?_eq_getElem hil)
  rw [hi] at h1
  cases h1
  cases hh : (l[i]).has
  · have := h2 hh
    omega
  · have := h3 hh
    omega
/-- The lists of those that are free behind the first. -/
theorem freeOk_tail {g : Pl.Gm} {seg f : Int} {r : List Int} (h : freeOk g seg (f :: r) = true) : isSeg g f = true ∧ freeOk g f r = true := by
  have h0 := freeOk_at h 0 (by simp)
  unfold okAt at h0
  simp only [Bool.and_eq_true] at h0
  have hstep : ∀ i, i + 1 < (f :: r).length → (f :: r).getD i 0 < (f :: r).getD (i + 1) 0 := fun i hi => by
    have h1 := freeOk_at h (i + 1) hi
    unfold okAt at h1
    simp only [Bool.and_eq_true, Bool.or_eq_true, decide_eq_true_eq] at h1
    have h2 := h1.2
    rw [show i + 1 - 1 = i from rfl] at h2
    omega
  have hlow : ∀ i, i < r.length → f < r.getD i 0 := fun i => by
    induction i with
    | zero =>
      intro hi
      have := hstep 0 (by simp; omega)
      simpa using this
    | succ i ih =>
      intro hi
      have h1 := ih (by omega)
      have h2 := hstep (i + 1) (by simp; omega)
      simp only [List.getD_cons_succ] at h2
      omega
  refine ⟨by simpa using h0.1.1, freeOk_all fun i hi => ?_⟩
  have h1 := freeOk_at h (i + 1) (by simp; omega)
  have h3 := hlow i hi
  unfold okAt at h1 ⊢
  simp only [List.getD_cons_succ, Bool.and_eq_true, Bool.or_eq_true, decide_eq_true_eq, Bool.not_eq_true', decide_eq_false_iff_not] at h1 ⊢
  refine ⟨⟨h1.1.1, by omega⟩, ?_⟩
  cases i with
  | zero => exact .inl rfl
  | succ i =>
    have := hstep (i + 1) (by simp; omega)
    simp only [List.getD_cons_succ] at this
    exact .inr (by simpa using this)
theorem good_of {g : Pl.Gm} {a : Ja} (h1 : g.Ok) (h2 : isSeg g a.seg = true) (h3 : 0 ≤ a.off) (h4 : a.off ≤ g.l) (h5 : freeOk g a.seg a.free = true) : a.good g = true := by
  unfold Ja.good
  simp only [Bool.and_eq_true, decide_eq_true_eq]
  exact ⟨⟨⟨⟨h1, h2⟩, h3⟩, h4⟩, h5⟩
/-- Where the next group goes, it has room. -/
structure Nx (g : Pl.Gm) (a a1 : Ja) (n : Nat) : Prop where
  seq : a1.seq = a.seq
  seg : 0 ≤ a1.seg ∧ a1.seg < g.s
  off : 0 ≤ a1.off ∧ a1.off + n ≤ g.l
  free : freeOk g a1.seg a1.free = true
  ok : g.Ok
theorem nextP_nx {g : Pl.Gm} {a a1 : Ja} {n : Nat} (h : a.good g = true) (hn : (n : Int) ≤ g.l) (e : nextP g a n = some a1) : Nx g a a1 n := by
  obtain ⟨h1, h2, h3, h4, h5⟩ := Ja.good_parts h
  unfold nextP at e
  split at e
  · injection e with e
    subst e
    exact ⟨rfl, h2, ⟨h3, by omega⟩, h5, h1⟩
  · split at e
    · cases e
    · rename_i f r hf
      injection e with e
      subst e
      rw [hf] at h5
      obtain ⟨k1, k2⟩ := freeOk_tail h5
      refine ⟨rfl, ?_, ⟨Int.le_refl _, by simpa using hn⟩, k2, h1⟩
      unfold isSeg at k1
      simpa using k1
theorem Nx.good {g : Pl.Gm} {a a1 : Ja} {n : Nat} (h : Nx g a a1 n) (s : Int) : (⟨a1.seg, a1.off + n, s, a1.free⟩ : Ja).good g = true :=
  good_of h.ok (by unfold isSeg; simpa using h.seg) (by have := h.off; show 0 ≤ a1.off + (n : Int); omega) h.off.2 h.free
def firstOf (g : Pl.Gm) (a : Ja) : Int := 4 + a.seg * g.l + a.off
theorem Nx.first {g : Pl.Gm} {a a1 : Ja} {n : Nat} (h : Nx g a a1 n) : ∃ f : Nat, firstOf g a1 = (f : Int) ∧ 4 ≤ f ∧ ((f + n : Nat) : Int) ≤ 4 + g.s * g.l := by
  have h0 : 0 ≤ a1.seg * g.l := Int.mul_nonneg h.seg.1 (by have := h.off; omega)
  have h1 : a1.seg * g.l ≤ (g.s - 1) * g.l := Int.mul_le_mul_of_nonneg_right (by have := h.seg; omega) (by have := h.off; omega)
  rw [Int.sub_mul, Int.one_mul] at h1
  have := h.off
  refine ⟨(firstOf g a1).toNat, ?_, ?_, ?_⟩
  · unfold firstOf; omega
  · unfold firstOf; omega
  · unfold firstOf; push_cast; omega
theorem wrs_len (d : De.D) (i : Int) (X : List (List Int)) : (wrs d i X).1.S.length = d.S.length ∧ (wrs d i X).1.T ≤ d.T + X.length ∧ (wrs d i X).1.L.length ≤ d.L.length + X.length := by
  induction X generalizing d i with
  | nil => exact ⟨rfl, Nat.le_refl _, Nat.le_refl _⟩
  | cons x r ih =>
    have h1 := write_len d i (u8s x).toArray
    have h2 := write_T d i (u8s x).toArray
    have h3 := write_L d i (u8s x).toArray
    unfold wrs
    split
    · obtain ⟨k1, k2, k3⟩ := ih (d.write i (u8s x).toArray) (i + 1)
      simp only [List.length_cons]
      exact ⟨k1.trans h1, by omega, by omega⟩
    · simp only [List.length_cons]
      exact ⟨h1, by omega, by omega⟩
theorem flush_T (d : De.D) : d.flush.T ≤ d.T + 1 ∧ d.flush.L.length ≤ d.L.length := by
  unfold De.D.flush
  split <;> simp
theorem wrAll_len (d : De.D) (i : Int) (X : List (List Int)) : (wrAll d i X).1.S.length = d.S.length ∧ (wrAll d i X).1.T ≤ d.T + X.length + 1 ∧ (wrAll d i X).1.L.length ≤ d.L.length + X.length := by
  obtain ⟨h1, h2, h3⟩ := wrs_len d i X
  unfold wrAll
  split
  · have := flush_len (wrs d i X).1
    have := flush_T (wrs d i X).1
    simp only
    omega
  · simp only
    omega
/-- What a Put comes to: the error, the places, where the journal is, the device. -/
structure Pr where
  e : Int
  pl : List Int
  a : Ja
  d : De.D
def jput (g : Pl.Gm) (a : Ja) (d : De.D) (L : List It) : Pr :=
  if laid g a L then
    match nextP g a (lay2 a.seq L).1.length with
    | none => ⟨14, [], a, d⟩
    | some a1 =>
      if (wrAll d (firstOf g a1) (lay2 a.seq L).1).2 then ⟨0, (lay2 a.seq L).2.map (plOf (firstOf g a1)), ⟨a1.seg, a1.off + (lay2 a.seq L).1.length, (a.seq + partsN L) % M32, a1.free⟩, (wrAll d (firstOf g a1) (lay2 a.seq L).1).1⟩
      else ⟨12, [], a, (wrAll d (firstOf g a1) (lay2 a.seq L).1).1⟩
  else ⟨1, [], a, d⟩
theorem jput_no {g : Pl.Gm} {a : Ja} {d : De.D} {L : List It} (h : laid g a L = false) : jput g a d L = ⟨1, [], a, d⟩ := by unfold jput; rw [h]; rfl
theorem jput_full {g : Pl.Gm} {a : Ja} {d : De.D} {L : List It} (h : laid g a L = true) (hn : nextP g a (lay2 a.seq L).1.length = none) : jput g a d L = ⟨14, [], a, d⟩ := by unfold jput; rw [if_pos h, hn]
theorem jput_fail {g : Pl.Gm} {a a1 : Ja} {d : De.D} {L : List It} (h : laid g a L = true) (hn : nextP g a (lay2 a.seq L).1.length = some a1) (hw : (wrAll d (firstOf g a1) (lay2 a.seq L).1).2 = false) : jput g a d L = ⟨12, [], a, (wrAll d (firstOf g a1) (lay2 a.seq L).1).1⟩ := by
  unfold jput
  rw [if_pos h, hn]
  simp only [hw]
  rfl
theorem jput_ok {g : Pl.Gm} {a a1 : Ja} {d : De.D} {L : List It} (h : laid g a L = true) (hn : nextP g a (lay2 a.seq L).1.length = some a1) (hw : (wrAll d (firstOf g a1) (lay2 a.seq L).1).2 = true) :
    jput g a d L = ⟨0, (lay2 a.seq L).2.map (plOf (firstOf g a1)), ⟨a1.seg, a1.off + (lay2 a.seq L).1.length, (a.seq + partsN L) % M32, a1.free⟩, (wrAll d (firstOf g a1) (lay2 a.seq L).1).1⟩ := by
  unfold jput
  rw [if_pos h, hn]
  simp only [hw]
  rfl
theorem laid_parts {g : Pl.Gm} {a : Ja} {L : List It} (h : laid g a L = true) : mayBe L = true ∧ ((lay2 a.seq L).1.length : Int) ≤ g.l := by
  unfold laid at h
  simpa using h
/-- A Put leaves as many sectors, and few more are loose. -/
theorem jput_len {g : Pl.Gm} {a : Ja} (d : De.D) {L : List It} (hg : g.l ≤ 1024) : (jput g a d L).d.S.length = d.S.length ∧ (jput g a d L).d.T ≤ d.T + 1025 ∧ (jput g a d L).d.L.length ≤ d.L.length + 1024 := by
  cases h : laid g a L
  · rw [jput_no h]
    exact ⟨rfl, by simp, by simp⟩
  · have hl := (laid_parts h).2
    cases hn : nextP g a (lay2 a.seq L).1.length with
    | none =>
      rw [jput_full h hn]
      exact ⟨rfl, by simp, by simp⟩
    | some a1 =>
      obtain ⟨k1, k2, k3⟩ := wrAll_len d (firstOf g a1) (lay2 a.seq L).1
      cases hw : (wrAll d (firstOf g a1) (lay2 a.seq L).1).2
      · rw [jput_fail h hn hw]
        exact ⟨k1, by simp only; omega, by simp only; omega⟩
      · rw [jput_ok h hn hw]
        exact ⟨k1, by simp only; omega, by simp only; omega⟩
/-- Items whose blocks are none of the device's. -/
theorem BytesAt.onlyF {F : Nat → Prop} {w w' : World} {sv : Value} {l : List Int} (h : BytesAt w sv l) (ho : Only F w w') (hn : ∀ b o n c, sv = .slice (some ⟨b, o, none⟩) n c → ¬ F b) : BytesAt w' sv l := by
  obtain ⟨a, cap, e, hc⟩ := h
  refine ⟨a, cap, e, fun i x hx => ?_⟩
  obtain ⟨b, o, e2, hx2⟩ := hc i x hx
  refine ⟨b, o, e2, ?_⟩
  rw [← hx2]
  simp only [World.cell?, ho.block b (block_lt_of_cell hx2) (hn b o _ _ (by rw [e, e2]))]
theorem IntsAt.onlyF {F : Nat → Prop} {w w' : World} {sv : Value} {l : List Int} (h : IntsAt w sv l) (ho : Only F w w') (hn : ∀ b o n c, sv = .slice (some ⟨b, o, none⟩) n c → ¬ F b) : IntsAt w' sv l := by
  obtain ⟨a, cap, e, hc⟩ := h
  refine ⟨a, cap, e, fun i x hx => ?_⟩
  obtain ⟨b, o, e2, hx2⟩ := hc i x hx
  refine ⟨b, o, e2, ?_⟩
  rw [← hx2]
  simp only [World.cell?, ho.block b (block_lt_of_cell hx2) (hn b o _ _ (by rw [e, e2]))]
theorem ItemsAt.onlyF {F : Nat → Prop} {w w' : World} {sv : Value} {l : List (It × Value)} (h : ItemsAt w sv l) (ho : Only F w w') (hn : ∀ b o n c, sv = .slice (some ⟨b, o, none⟩) n c → ¬ F b) (hx : ∀ x ∈ l, ∀ b o n c, x.2 = .slice (some ⟨b, o, none⟩) n c → ¬ F b) : ItemsAt w' sv l := by
  obtain ⟨a, cap, e, hcap, hc⟩ := h
  refine ⟨a, cap, e, hcap, fun i x hi => ?_⟩
  obtain ⟨h1, h2, g, o, h3, h4⟩ := hc i x hi
  refine ⟨h1, h2.onlyF ho (hx x (List.mem_of_getElem? hi)), g, o, h3, fun j hj => ?_⟩
  rw [← h4 j hj]
  simp only [World.cell?, ho.block g (block_lt_of_cell (h4 j hj)) (hn g o _ _ (by rw [e, h3]))]

end Go.Proofs.YtmlniannilnmhaaGreatDoor
