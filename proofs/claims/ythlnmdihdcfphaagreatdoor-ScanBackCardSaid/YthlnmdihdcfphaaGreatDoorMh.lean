/- Reading groups one behind the other: what a device has, no memory. What is read of what was put: behind Puts, behind old groups, behind a Put that fails and a crash. Package scan: sectorsOf, placesOf. -/
import Derived.Test.YthlnmdihdcfphaaGreatDoorMg
import Derived.Test.YthlnmdihdcfphaaGreatDoorMj
import Derived.Test.YthlnmdihdcfphaaGreatDoorMf
namespace Go.Proofs.YthlnmdihdcfphaaGreatDoor
set_option linter.unusedSimpArgs false
set_option linter.unusedVariables false
open Go.RowKit

/-- What a device tells of its sectors. -/
structure Img (d : De.D) (X : List (List Int)) : Prop where
  v : De.app d.S d.L = X.map fun y => (u8s y).toArray
  sc : ∀ y ∈ X, Sc y
theorem Img.len {d : De.D} {X : List (List Int)} (h : Img d X) : d.S.length = X.length := by
  have := congrArg List.length h.v
  simpa using this
theorem img_new (t : Nat) : Img (De.newD t) (List.replicate t (zeros 64)) := by
  refine ⟨?_, fun y hy => ?_⟩
  · show List.replicate t (De.fillA 0) = _
    rw [List.map_replicate]
    congr 1
  · rw [List.eq_of_mem_replicate hy]
    exact zeros_sc
theorem Img.read {d : De.D} {X : List (List Int)} (h : Img d X) {i : Nat} {y : List Int} (hi : X[i]? = some y) : d.read (i : Int) = (u8s y).toArray ∧ d.readE (i : Int) = 0 := by
  have hl := h.len
  have hx := (List.getElem?_eq_some_iff.1 hi).1
  have hh : d.has (i : Int) = true := by
    unfold De.D.has
    simp only [Bool.and_eq_true, decide_eq_true_eq]
    omega
  constructor
  · unfold De.D.read
    rw [if_pos hh, h.v, Int.toNat_natCast, List.getD_eq_getElem?_getD, List.getElem?_map, hi]
    rfl
  · unfold De.D.readE
    rw [if_pos hh]
theorem Img.setF {d : De.D} {X : List (List Int)} (h : Img d X) (n : Int) : Img { d with F := n } X := ⟨h.v, h.sc⟩
theorem Img.write {d : De.D} {X : List (List Int)} (h : Img d X) {i : Nat} {x : List Int} (hx : Sc x) (he : d.writeE (i : Int) = 0) : Img (d.write (i : Int) (u8s x).toArray) (X.set i x) := by
  have hh : d.has (i : Int) = true := by
    cases e : d.has (i : Int)
    · unfold De.D.writeE at he
      rw [e] at he
      cases he
    · rfl
  have hf : ¬ d.F = 0 := fun e => by
    unfold De.D.writeE at he
    rw [if_pos hh, if_pos e] at he
    cases he
  have hw : d.write (i : Int) (u8s x).toArray = { d with F := d.nextF, T := d.T + 1, L := d.L ++ [((i : Int).toNat, (u8s x).toArray)] } := by unfold De.D.write; rw [if_pos hh, if_neg hf]
  rw [hw]
  refine ⟨?_, fun y hy => ?_⟩
  · show De.app d.S (d.L ++ [((i : Int).toNat, (u8s x).toArray)]) = _
    rw [De.app_snoc, h.v, List.map_set]
    simp only [Int.toNat_natCast]
  · rcases List.mem_or_eq_of_mem_set hy with hy | rfl
    · exact h.sc y hy
    · exact hx
theorem Img.wrsX {d : De.D} {X : List (List Int)} (h : Img d X) (Y : List (List Int)) (hY : ∀ y ∈ Y, Sc y) (f : Nat) (hf : f + Y.length ≤ X.length) (ht : (wrs d (f : Int) Y).2 = true) :
    ∃ X', Img (wrs d (f : Int) Y).1 X' ∧ X'.length = X.length ∧ (∀ k y, Y[k]? = some y → X'[f + k]? = some y) ∧ ∀ p, (p < f ∨ f + Y.length ≤ p) → X'[p]? = X[p]? := by
  induction Y generalizing d X f with
  | nil => exact ⟨X, h, rfl, fun k y hk => by simp at hk, fun p _ => rfl⟩
  | cons x r ih =>
    simp only [List.length_cons] at hf
    by_cases he : d.writeE (f : Int) = 0
    · have e : wrs d (f : Int) (x :: r) = wrs (d.write (f : Int) (u8s x).toArray) ((f + 1 : Nat) : Int) r := by
        show (if d.writeE (f : Int) = 0 then _ else _) = _
        rw [if_pos he]
        rfl
      rw [e] at ht ⊢
      obtain ⟨X', h1, h2, h3, h4⟩ := ih (h.write (hY x (by simp)) he) (fun y hy => hY y (List.mem_cons_of_mem _ hy)) (f + 1) (by rw [List.length_set]; omega) ht
      refine ⟨X', h1, by rw [h2, List.length_set], fun k y hk => ?_, fun p hp => ?_⟩
      · cases k with
        | zero =>
          simp only [List.getElem?_cons_zero, Option.some.injEq] at hk
          subst hk
          rw [Nat.add_zero, h4 f (.inl (by omega)), List.getElem?_set_self (by omega)]
        | succ k =>
          have := h3 k y (by simpa using hk)
          rw [show f + (k + 1) = f + 1 + k by omega]
          exact this
      · simp only [List.length_cons] at hp
        rw [h4 p (by omega), List.getElem?_set_ne (by omega)]
    · exfalso
      have e : (wrs d (f : Int) (x :: r)).2 = false := by
        show (if d.writeE (f : Int) = 0 then _ else _ : De.D × Bool).2 = _
        rw [if_neg he]
      rw [e] at ht
      cases ht
theorem Img.flush {d : De.D} {X : List (List Int)} (h : Img d X) : Img d.flush X := by
  unfold De.D.flush
  split
  · exact ⟨h.v, h.sc⟩
  · exact ⟨h.v, h.sc⟩
theorem Img.wrAllX {d : De.D} {X : List (List Int)} (h : Img d X) (Y : List (List Int)) (hY : ∀ y ∈ Y, Sc y) (f : Nat) (hf : f + Y.length ≤ X.length) (ht : (wrAll d (f : Int) Y).2 = true) :
    (wrAll d (f : Int) Y).1.L = [] ∧ ∃ X', Img (wrAll d (f : Int) Y).1 X' ∧ X'.length = X.length ∧ (∀ k y, Y[k]? = some y → X'[f + k]? = some y) ∧ ∀ p, (p < f ∨ f + Y.length ≤ p) → X'[p]? = X[p]? := by
  by_cases hw : (wrs d (f : Int) Y).2 = true
  · have e : wrAll d (f : Int) Y = ((wrs d (f : Int) Y).1.flush, decide ((wrs d (f : Int) Y).1.flushE = 0)) := by unfold wrAll; rw [if_pos hw]
    rw [e] at ht ⊢
    simp only at ht ⊢
    obtain ⟨X', h1, h2⟩ := h.wrsX Y hY f hf hw
    refine ⟨?_, X', h1.flush, h2⟩
    have h0 : ¬ (wrs d (f : Int) Y).1.F = 0 := fun e0 => by
      unfold De.D.flushE at ht
      rw [if_pos e0] at ht
      exact absurd ht (by decide)
    unfold De.D.flush
    rw [if_neg h0]
  · exfalso
    have e : (wrAll d (f : Int) Y).2 = false := by unfold wrAll; rw [if_neg hw]
    rw [e] at ht
    cases ht

/-- The group where a journal is; where the next one is; where it is behind it; its blocks' places. -/
def gAt (X : List (List Int)) (g : Pl.Gm) (a : Ja) : Option (List It) := readP a.seq ((X.drop (firstOf g a).toNat).take (g.l - a.off).toNat)
def aft (a b1 : Ja) (l : List It) : Ja := ⟨b1.seg, b1.off + (lay2 a.seq l).1.length, (a.seq + partsN l) % M32, b1.free⟩
def pOf (g : Pl.Gm) (a b1 : Ja) (l : List It) : List Int := (lay2 a.seq l).2.map (plOf (firstOf g b1))
def nxt (X : List (List Int)) (g : Pl.Gm) (a : Ja) : Option (List It × Ja) := match gAt X g a with
  | some l => some (l, a)
  | none => match a.free with
    | [] => none
    | f :: r => (gAt X g ⟨f, 0, a.seq, r⟩).map fun l => (l, ⟨f, 0, a.seq, r⟩)
/-- Groups read one behind the other. -/
inductive Way (X : List (List Int)) (g : Pl.Gm) (a : Ja) : List (List It × List Int) → Ja → Prop where
  | nil : Way X g a [] a
  | snoc {P : List (List It × List Int)} {b b1 : Ja} {l : List It} : Way X g a P b → nxt X g b = some (l, b1) → Way X g a (P ++ [(l, pOf g b b1 l)]) (aft b b1 l)
def itr (X : List (List Int)) (g : Pl.Gm) (a : Ja) : Nat → Option (List (List It × List Int) × Ja)
  | 0 => some ([], a)
  | n + 1 => match itr X g a n with
    | none => none
    | some (P, b) => match nxt X g b with
      | none => none
      | some (l, b1) => some (P ++ [(l, pOf g b b1 l)], aft b b1 l)
theorem Way.itrX {X : List (List Int)} {g : Pl.Gm} {a b : Ja} {P : List (List It × List Int)} (h : Way X g a P b) : itr X g a P.length = some (P, b) := by
  induction h with
  | nil => rfl
  | snoc h hn ih =>
    rw [List.length_append]
    show itr X g a (_ + 1) = _
    rw [itr, ih]
    simp only [hn]
theorem itr_end {X : List (List Int)} {g : Pl.Gm} {a b : Ja} {n : Nat} {P : List (List It × List Int)} (h : itr X g a n = some (P, b)) (hn : nxt X g b = none) : ∀ k, itr X g a (n + 1 + k) = none
  | 0 => by
    rw [Nat.add_zero, itr, h]
    simp only [hn]
  | k + 1 => by
    rw [← Nat.add_assoc, itr, itr_end h hn k]
/-- There is but one way to the end. -/
theorem Way.uniq {X : List (List Int)} {g : Pl.Gm} {a b b' : Ja} {P P' : List (List It × List Int)} (h : Way X g a P b) (hn : nxt X g b = none) (h' : Way X g a P' b') (hn' : nxt X g b' = none) : P' = P ∧ b' = b := by
  have e := h.itrX
  have e' := h'.itrX
  rcases Nat.lt_trichotomy P.length P'.length with hl | hl | hl
  · have := itr_end e hn (P'.length - P.length - 1)
    rw [show P.length + 1 + (P'.length - P.length - 1) = P'.length by omega, e'] at this
    cases this
  · rw [hl, e'] at e
    injection e with e
    exact ⟨congrArg Prod.fst e, congrArg Prod.snd e⟩
  · have := itr_end e' hn' (P.length - P'.length - 1)
    rw [show P'.length + 1 + (P.length - P'.length - 1) = P.length by omega, e] at this
    cases this
theorem pre_at {α : Type} {A B : List α} (h : A <+: B) {i : Nat} {x : α} (hi : A[i]? = some x) : B[i]? = some x := by
  obtain ⟨r, rfl⟩ := h
  rw [List.getElem?_append_left (List.getElem?_eq_some_iff.1 hi).1]
  exact hi
theorem isSum_first {x : List Int} (h : isSum x = true) : x.getD 0 0 = 83 := by
  simp only [isSum, Bool.and_eq_true, decide_eq_true_eq] at h
  rw [← h.2]
  rfl
/-- No head of that number. -/
def NH (n : Int) (y : List Int) : Prop := isSum y = true → (sreadOf y).seq ≠ n
theorem nh_zero (n : Int) : NH n (zeros 64) := fun h => by
  have := isSum_first h
  exact absurd this (by decide)
theorem lay_head {l : List It} (h : mayBe l = true) (w : ∀ x ∈ l, x.Wf) (n : Int) (hn : Seq32 n) : ∃ y, (lay2 n l).1[0]? = some y ∧ isSum y = true ∧ (sreadOf y).seq = n := by
  obtain ⟨more, e⟩ := lay_first h n hn
  obtain ⟨s1, s2, -⟩ := head_sum (marks_good h (k := 0) (parts_pos h).1) (fun x hx => w x (mem_chunk hx)) hn more
  exact ⟨_, e, s1, by rw [s2]⟩
theorem seg_sc {X : List (List Int)} (hX : ∀ y ∈ X, Sc y) (f m : Nat) : ∀ y ∈ (X.drop f).take m, Sc y := fun y hy => hX y (List.mem_of_mem_drop (List.mem_of_mem_take hy))
theorem gAt_none {X : List (List Int)} (hX : ∀ y ∈ X, Sc y) {g : Pl.Gm} {a : Ja} (hq : Seq32 a.seq) (h : a.off < g.l → ∀ y, X[(firstOf g a).toNat]? = some y → NH a.seq y) : gAt X g a = none := by
  cases e : gAt X g a with
  | none => rfl
  | some l =>
    exfalso
    obtain ⟨h1, h2, h3⟩ := (readP_iff (seg_sc hX _ _)).1 e
    obtain ⟨y, e1, e2, e3⟩ := lay_head h1 h2 a.seq hq
    have e4 := pre_at h3 e1
    rw [List.getElem?_take] at e4
    split at e4
    · rw [List.getElem?_drop, Nat.add_zero] at e4
      exact h (by omega) y e4 e2 e3
    · cases e4
theorem gAt_some {X : List (List Int)} {g : Pl.Gm} {a : Ja} {l : List It} (h : mayBe l = true) (w : ∀ x ∈ l, x.Wf) (hn : ((lay2 a.seq l).1.length : Int) ≤ g.l - a.off) (hat : ∀ k y, (lay2 a.seq l).1[k]? = some y → X[(firstOf g a).toNat + k]? = some y) : gAt X g a = some l := by
  refine readP_of h w (List.prefix_iff_getElem?.2 fun i hi => ?_)
  rw [List.getElem?_take, if_pos (by omega), List.getElem?_drop]
  exact hat i _ (List.getElem?_eq_getElem hi)
theorem step_ne {g : Pl.Gm} {b : Ja} (hg : b.good g = true) {f : Int} {r : List Int} (hf : b.free = f :: r) : f ≠ b.seg := fun e => by
  have hno := freeOk_not (Ja.good_parts hg).2.2.2.2
  rw [hf, e] at hno
  exact hno List.mem_cons_self
theorem nxt_here {X : List (List Int)} {g : Pl.Gm} {b b1 : Ja} {l : List It} (hnx : Nx g b b1 (lay2 b.seq l).1.length) (hs : Step1 b b1) (h : mayBe l = true) (w : ∀ x ∈ l, x.Wf) (hat : ∀ k y, (lay2 b.seq l).1[k]? = some y → X[(firstOf g b1).toNat + k]? = some y) (hno : b1 ≠ b → gAt X g b = none) (hg : b.good g = true) : nxt X g b = some (l, b1) := by
  have hoff := hnx.off
  rcases hs with rfl | ⟨f, r, hf, rfl⟩
  · unfold nxt
    rw [gAt_some h w (by omega) hat]
  · have hne : (⟨f, 0, b.seq, r⟩ : Ja) ≠ b := fun e => step_ne hg hf (by rw [← e])
    unfold nxt
    rw [hno hne]
    simp only [hf]
    rw [gAt_some (a := ⟨f, 0, b.seq, r⟩) h w (by simp only at hoff ⊢; omega) hat]
    rfl
/-- What is known of groups that were put. -/
inductive Rcd (X : List (List Int)) (g : Pl.Gm) (a : Ja) : List (List It × List Int) → Ja → Prop where
  | nil : Rcd X g a [] a
  | snoc {P : List (List It × List Int)} {b b1 : Ja} {l : List It} : Rcd X g a P b → b.good g = true → Nx g b b1 (lay2 b.seq l).1.length → Step1 b b1 → mayBe l = true → (∀ x ∈ l, x.Wf) → (∀ k y, (lay2 b.seq l).1[k]? = some y → X[(firstOf g b1).toNat + k]? = some y) → (b1 ≠ b → gAt X g b = none) → Rcd X g a (P ++ [(l, pOf g b b1 l)]) (aft b b1 l)
theorem Rcd.chain {X : List (List Int)} {g : Pl.Gm} {a b : Ja} {P : List (List It × List Int)} (h : Rcd X g a P b) : Way X g a P b := by
  induction h with
  | nil => exact .nil
  | snoc _ hg hnx hs hm w hat hno ih => exact .snoc ih (nxt_here hnx hs hm w hat hno hg)
theorem gAt_same {X X' : List (List Int)} {g : Pl.Gm} {a : Ja} (h : ∀ i, i < (g.l - a.off).toNat → X'[(firstOf g a).toNat + i]? = X[(firstOf g a).toNat + i]?) : gAt X' g a = gAt X g a := by
  unfold gAt
  congr 1
  refine List.ext_getElem? fun i => ?_
  rw [List.getElem?_take, List.getElem?_take]
  split
  · rw [List.getElem?_drop, List.getElem?_drop]
    exact h i (by omega)
  · rfl
theorem first_nat {g : Pl.Gm} {a : Ja} (h : a.good g = true) : (((firstOf g a).toNat : Nat) : Int) = 4 + a.seg * g.l + a.off ∧ 4 ≤ (firstOf g a).toNat := by
  obtain ⟨h1, h2, h3, h4, -⟩ := Ja.good_parts h
  have h0 : 0 ≤ a.seg * g.l := Int.mul_nonneg h2.1 (by omega)
  unfold firstOf
  omega
theorem Rcd.keep {X X' : List (List Int)} {g : Pl.Gm} {a b : Ja} {P : List (List It × List Int)} (h : Rcd X g a P b) (hk : ∀ p : Nat, metOk g b (p : Int) → X'[p]? = X[p]?) : Rcd X' g a P b := by
  induction h with
  | nil => exact .nil
  | @snoc P b b1 l _ hg hnx hs hm w hat hno ih =>
    refine .snoc (ih fun p hp => hk p (met_old hg hnx hs hp)) hg hnx hs hm w (fun k y hy => ?_) fun hne => ?_
    · rw [← hat k y hy]
      refine hk _ ?_
      obtain ⟨f, e, -, -⟩ := hnx.first
      have hkl := (List.getElem?_eq_some_iff.1 hy).1
      have := met_new hnx (x := (k : Int)) (q := (b.seq + partsN l) % M32) (by omega) (by omega)
      rw [show (((firstOf g b1).toNat + k : Nat) : Int) = firstOf g b1 + (k : Int) by rw [e]; simp]
      exact this
    · rw [← hno hne]
      refine gAt_same fun i hi => hk _ ?_
      obtain ⟨e1, -⟩ := first_nat hg
      obtain ⟨-, h2, h3, h4, h5⟩ := Ja.good_parts hg
      have hpl := place_of (l := g.l) (s := b.seg) (c := b.off + i) (by omega) (by omega) (by omega)
      have e2 : (((firstOf g b).toNat + i : Nat) : Int) - 4 = b.seg * g.l + (b.off + i) := by push_cast; omega
      unfold metOk aft
      rw [e2, hpl.1, hpl.2]
      rcases hs with rfl | ⟨f, r, hf, rfl⟩
      · exact absurd rfl hne
      · have hn := freeOk_not h5
        rw [hf] at hn
        exact .inr ⟨fun e => hn (by rw [e]; exact List.mem_cons_self), fun e => hn (List.mem_cons_of_mem _ e)⟩
/-- What lies where no group was put yet. -/
def Clean (X : List (List Int)) (g : Pl.Gm) (b : Ja) (Q : List Int → Prop) : Prop := ∀ p : Nat, 4 ≤ p → ¬ metOk g b (p : Int) → ∀ y, X[p]? = some y → Q y
theorem clean_here {g : Pl.Gm} {b : Ja} (hg : b.good g = true) (ho : b.off < g.l) : ¬ metOk g b (((firstOf g b).toNat : Nat) : Int) := by
  obtain ⟨e1, -⟩ := first_nat hg
  obtain ⟨-, h2, h3, h4, h5⟩ := Ja.good_parts hg
  have hpl := place_of (l := g.l) (s := b.seg) (c := b.off) (by omega) h3 ho
  unfold metOk
  rw [e1, show 4 + b.seg * g.l + b.off - 4 = b.seg * g.l + b.off by omega, hpl.1, hpl.2]
  rintro (⟨-, h⟩ | ⟨h, -⟩)
  · omega
  · exact h rfl
theorem good_free {g : Pl.Gm} {b : Ja} (hg : b.good g = true) {f : Int} {r : List Int} (hf : b.free = f :: r) : (⟨f, 0, b.seq, r⟩ : Ja).good g = true := by
  obtain ⟨h1, h2, h3, h4, h5⟩ := Ja.good_parts hg
  rw [hf] at h5
  obtain ⟨k1, k2⟩ := freeOk_tail h5
  exact good_of h1 k1 (Int.le_refl _) (by show (0 : Int) ≤ g.l; omega) k2
theorem clean_free {g : Pl.Gm} {b : Ja} (hg : b.good g = true) {f : Int} {r : List Int} (hf : b.free = f :: r) (ho : 0 < g.l) : ¬ metOk g b (((firstOf g ⟨f, 0, b.seq, r⟩).toNat : Nat) : Int) := by
  obtain ⟨e1, -⟩ := first_nat (good_free hg hf)
  have hpl := place_of (l := g.l) (s := f) (c := 0) ho (Int.le_refl _) ho
  unfold metOk
  simp only at e1
  rw [e1, show 4 + f * g.l + 0 - 4 = f * g.l + 0 by omega, hpl.1, hpl.2, hf]
  rintro (⟨h, -⟩ | ⟨-, h⟩)
  · exact step_ne hg hf h
  · exact h List.mem_cons_self
theorem clean_gAt {X : List (List Int)} (hX : ∀ y ∈ X, Sc y) {g : Pl.Gm} {b : Ja} {Q : List Int → Prop} (h : Clean X g b Q) (hQ : ∀ y, Q y → NH b.seq y) (hg : b.good g = true) (hq : Seq32 b.seq) : gAt X g b = none :=
  gAt_none hX hq fun ho y hy => hQ y (h _ (first_nat hg).2 (clean_here hg ho) y hy)
theorem clean_gAtF {X : List (List Int)} (hX : ∀ y ∈ X, Sc y) {g : Pl.Gm} {b : Ja} {Q : List Int → Prop} (h : Clean X g b Q) (hQ : ∀ y, Q y → NH b.seq y) (hg : b.good g = true) (hq : Seq32 b.seq) {f : Int} {r : List Int} (hf : b.free = f :: r) : gAt X g ⟨f, 0, b.seq, r⟩ = none :=
  gAt_none hX hq fun ho y hy => hQ y (h _ (first_nat (good_free hg hf)).2 (clean_free hg hf ho) y hy)
theorem clean_end {X : List (List Int)} (hX : ∀ y ∈ X, Sc y) {g : Pl.Gm} {b : Ja} {Q : List Int → Prop} (h : Clean X g b Q) (hQ : ∀ y, Q y → NH b.seq y) (hg : b.good g = true) (hq : Seq32 b.seq) : nxt X g b = none := by
  unfold nxt
  rw [clean_gAt hX h hQ hg hq]
  simp only
  cases hf : b.free with
  | nil => rfl
  | cons f r =>
    simp only
    rw [clean_gAtF hX h hQ hg hq hf]
    rfl
theorem clean_next {X X' : List (List Int)} {g : Pl.Gm} {b b1 : Ja} {n : Nat} {q : Int} {Q : List Int → Prop} (h : Clean X g b Q) (hg : b.good g = true) (hnx : Nx g b b1 n) (hs : Step1 b b1) (hk : ∀ p : Nat, (p < (firstOf g b1).toNat ∨ (firstOf g b1).toNat + n ≤ p) → X'[p]? = X[p]?) : Clean X' g ⟨b1.seg, b1.off + n, q, b1.free⟩ Q := fun p h4 hm y hy => by
  obtain ⟨f, e, -, -⟩ := hnx.first
  rw [e, Int.toNat_natCast] at hk
  by_cases hr : p < f ∨ f + n ≤ p
  · rw [hk p hr] at hy
    exact h p h4 (fun hm' => hm (met_old hg hnx hs hm')) y hy
  · exfalso
    have := met_new hnx (x := ((p - f : Nat) : Int)) (q := q) (by omega) (by omega)
    rw [e, show (f : Int) + ((p - f : Nat) : Int) = (p : Int) by omega] at this
    exact hm this

end Go.Proofs.YthlnmdihdcfphaaGreatDoor
namespace Go.Proofs.YthlnmdihdcfphaaGreatDoor
set_option linter.unusedSimpArgs false
set_option linter.unusedVariables false
open Go.RowKit

/-- A Put that tells OK, as the sectors have it. -/
structure Puts (g : Pl.Gm) (b b1 : Ja) (L : List It) (X X' : List (List Int)) : Prop where
  may : mayBe L = true
  nx : Nx g b b1 (lay2 b.seq L).1.length
  st : Step1 b b1
  len : X'.length = X.length
  at_ : ∀ k y, (lay2 b.seq L).1[k]? = some y → X'[(firstOf g b1).toNat + k]? = some y
  old : ∀ p : Nat, (p < (firstOf g b1).toNat ∨ (firstOf g b1).toNat + (lay2 b.seq L).1.length ≤ p) → X'[p]? = X[p]?
theorem put_img {g : Pl.Gm} {b : Ja} {d : De.D} {L : List It} {X : List (List Int)} (hg : b.good g = true) (hd : Img d X) (ht : 4 + g.s * g.l ≤ (d.S.length : Int)) (w : ∀ x ∈ L, x.Wf) (he : (jput g b d L).e = 0) :
    ∃ b1 X', Puts g b b1 L X X' ∧ (jput g b d L).a = aft b b1 L ∧ (jput g b d L).pl = pOf g b b1 L ∧ Img (jput g b d L).d X' ∧ (jput g b d L).d.L = [] := by
  cases hl : laid g b L
  · rw [jput_no hl] at he
    exact absurd (show ((1 : Int) = 0) from he) (by decide) 
  · cases hn : nextP g b (lay2 b.seq L).1.length with
    | none =>
      rw [jput_full hl hn] at he
      exact absurd (show ((14 : Int) = 0) from he) (by decide) 
    | some b1 =>
      have hnx := nextP_nx hg (laid_parts hl).2 hn
      obtain ⟨f, hf, hf4, hfn⟩ := hnx.first
      cases hw : (wrAll d (firstOf g b1) (lay2 b.seq L).1).2
      · rw [jput_fail hl hn hw] at he
        exact absurd (show ((12 : Int) = 0) from he) (by decide) 
      · rw [jput_ok hl hn hw]
        rw [hf] at hw ⊢
        have hlen := hd.len
        obtain ⟨h1, X', h2, h3, h4, h5⟩ := hd.wrAllX (lay2 b.seq L).1 (lay2_sc w b.seq) f (by omega) hw
        refine ⟨b1, X', ⟨(laid_parts hl).1, hnx, nextP_step hn, h3, ?_, ?_⟩, rfl, ?_, h2, h1⟩
        · rw [hf, Int.toNat_natCast]
          exact h4
        · rw [hf, Int.toNat_natCast]
          exact h5
        · show _ = pOf g b b1 L
          unfold pOf
          rw [hf]
/-- What the laws keep: the device's sectors, the groups put, what lies where none was. -/
structure Sn (d : De.D) (X : List (List Int)) (g : Pl.Gm) (a : Ja) (P : List (List It × List Int)) (b : Ja) (Q : List Int → Prop) : Prop where
  img : Img d X
  rec_ : Rcd X g a P b
  cl : Clean X g b Q
  good : b.good g = true
  seq : Seq32 b.seq
  tot : 4 + g.s * g.l ≤ (d.S.length : Int)
theorem Sn.new {d : De.D} {X : List (List Int)} {g : Pl.Gm} {a : Ja} {Q : List Int → Prop} (hd : Img d X) (hg : a.good g = true) (hq : Seq32 a.seq) (ht : 4 + g.s * g.l ≤ (d.S.length : Int)) (hQ : ∀ y ∈ X, Q y) : Sn d X g a [] a Q :=
  ⟨hd, .nil, fun p _ _ y hy => hQ y (List.mem_of_getElem? hy), hg, hq, ht⟩
theorem Puts.keep {g : Pl.Gm} {b b1 : Ja} {L : List It} {X X' : List (List Int)} (h : Puts g b b1 L X X') (hg : b.good g = true) (p : Nat) (hp : metOk g b (p : Int)) : X'[p]? = X[p]? := by
  obtain ⟨f, e, -, -⟩ := h.nx.first
  refine h.old p ?_
  rw [e, Int.toNat_natCast]
  by_cases hr : p < f ∨ f + (lay2 b.seq L).1.length ≤ p
  · exact hr
  · exact absurd (by rw [e]; omega) (met_dis hg h.nx h.st (x := ((p - f : Nat) : Int)) (by omega) (by omega) hp)
theorem Sn.put {d : De.D} {X : List (List Int)} {g : Pl.Gm} {a b : Ja} {P : List (List It × List Int)} {Q : List Int → Prop} (h : Sn d X g a P b Q) (hQ : ∀ y, Q y → NH b.seq y) (L : List It) (w : ∀ x ∈ L, x.Wf) (he : (jput g b d L).e = 0) :
    ∃ X', Sn (jput g b d L).d X' g a (P ++ [(L, (jput g b d L).pl)]) (jput g b d L).a Q ∧ (jput g b d L).d.L = [] ∧ mayBe L = true ∧ (jput g b d L).a.seq = (b.seq + partsN L) % M32 := by
  obtain ⟨b1, X', hp, ha, hpl, hi, hL⟩ := put_img h.good h.img h.tot w he
  rw [ha, hpl]
  have hgt : gAt X g b = none := clean_gAt h.img.sc h.cl hQ h.good h.seq
  refine ⟨X', ⟨hi, .snoc (h.rec_.keep fun p hm => hp.keep h.good p hm) h.good hp.nx hp.st hp.may w hp.at_ fun hne => ?_, clean_next h.cl h.good hp.nx hp.st hp.old, hp.nx.good _, seq_mod _, ?_⟩, hL, hp.may, rfl⟩
  · rw [← hgt]
    refine gAt_same fun i hi => ?_
    obtain ⟨e1, -⟩ := first_nat h.good
    obtain ⟨-, h2, h3, h4, h5⟩ := Ja.good_parts h.good
    rcases hp.st with rfl | ⟨f, r, hf, rfl⟩
    · exact absurd rfl hne
    · obtain ⟨f1, e2, -, -⟩ := hp.nx.first
      refine hp.old _ ?_
      by_cases hr : (firstOf g b).toNat + i < (firstOf g ⟨f, 0, b.seq, r⟩).toNat ∨ (firstOf g ⟨f, 0, b.seq, r⟩).toNat + (lay2 b.seq L).1.length ≤ (firstOf g b).toNat + i
      · exact hr
      · exfalso
        have hpl := place_of (l := g.l) (s := b.seg) (c := b.off + i) (by omega) (by omega) (by omega)
        have hfp := first_place hp.nx (x := (((firstOf g b).toNat + i - (firstOf g ⟨f, 0, b.seq, r⟩).toNat : Nat) : Int)) (by omega) (by omega)
        have e3 : firstOf g ⟨f, 0, b.seq, r⟩ + (((firstOf g b).toNat + i - (firstOf g ⟨f, 0, b.seq, r⟩).toNat : Nat) : Int) - 4 = b.seg * g.l + (b.off + i) := by
          rw [e2, Int.toNat_natCast] at hr ⊢
          omega
        rw [e3, hpl.1] at hfp
        exact step_ne h.good hf hfp.1.symm
  · have e1 := h.img.len
    have e2 := hi.len
    rw [e2, hp.len, ← e1]
    exact h.tot
/-- All that was put is read, and no more. -/
theorem Sn.read {d : De.D} {X : List (List Int)} {g : Pl.Gm} {a b : Ja} {P : List (List It × List Int)} {Q : List Int → Prop} (h : Sn d X g a P b Q) (hQ : ∀ y, Q y → NH b.seq y) : Way X g a P b ∧ nxt X g b = none :=
  ⟨h.rec_.chain, clean_end h.img.sc h.cl hQ h.good h.seq⟩

/-- What a sector of Lay is: a block's or a part's summary. -/
inductive Kindly (p : Int) (x : List Int) : Prop where
  | body (b : Bk) (g : b.good = true) (w : b.Wf) (e : x = b.sec p)
  | head (mo : Bool) (c : List It) (g : goodMarks (marks c) = true) (w : ∀ x ∈ c, x.Wf) (e : x = headOfPart p mo c)
theorem part_kind {l : List It} (hg : goodMarks (marks l) = true) (h : ∀ x ∈ l, x.ok = true) (w : ∀ x ∈ l, x.Wf) (p : Int) (mo : Bool) (x : List Int) (hx : x ∈ partOf p mo l) : Kindly p x := by
  rcases List.mem_cons.1 hx with rfl | hx
  · exact .head mo l hg w rfl
  · obtain ⟨z, hz, rfl⟩ := List.mem_map.1 hx
    obtain ⟨h1, h2⟩ := List.mem_filter.1 hz
    exact .body z.blk (ok_has (h z h1) h2).2.2 (w z h1).b rfl
theorem layTo_kinds {l : List It} (h : mayBe l = true) (w : ∀ x ∈ l, x.Wf) (n : Int) (k : Nat) (hk : k ≤ parts l.length) : ∀ x ∈ (layTo n l k).1, ∃ j : Nat, j < k ∧ Kindly ((n + (j : Int)) % M32) x := by
  induction k with
  | zero => exact fun x hx => by simp [layTo] at hx
  | succ k ih =>
    intro x hx
    rw [layTo_succ] at hx
    rcases List.mem_append.1 hx with hx | hx
    · obtain ⟨j, hj, h2⟩ := ih (by omega) x hx
      exact ⟨j, by omega, h2⟩
    · exact ⟨k, by omega, part_kind (marks_good h (k := k) hk) (fun x hx => (mayBe_iff.1 h).2.2.1 x (mem_chunk hx)) (fun x hx => w x (mem_chunk hx)) _ _ x hx⟩
theorem lay2_kinds {l : List It} (h : mayBe l = true) (w : ∀ x ∈ l, x.Wf) (n : Int) : ∀ x ∈ (lay2 n l).1, ∃ j : Nat, j < 3 ∧ Kindly ((n + (j : Int)) % M32) x := fun x hx => by
  obtain ⟨j, hj, hk⟩ := layTo_kinds h w n _ (Nat.le_refl _) x hx
  have := (parts_pos h).2
  exact ⟨j, by omega, hk⟩
theorem body_first {b : Bk} (g : b.good = true) (p : Int) : (b.sec p).getD 0 0 = b.kind ∧ b.kind ≤ 3 ∧ 1 ≤ b.kind := by
  have hk : b.kind = 1 ∨ b.kind = 2 ∨ b.kind = 3 := by
    unfold Bk.good at g
    by_cases k1 : b.kind = 1
    · exact .inl k1
    · by_cases k2 : b.kind = 2
      · exact .inr (.inl k2)
      · by_cases k3 : b.kind = 3
        · exact .inr (.inr k3)
        · rw [if_neg k1, if_neg k2, if_neg k3] at g
          cases g
  have e : b.sec p = b.enc p := by unfold Bk.sec; rw [g]; rfl
  rw [e]
  refine ⟨?_, by omega, by omega⟩
  unfold Bk.enc
  split
  · rename_i h
    rw [h]
    rfl
  · split
    · rename_i h
      rw [h]
      rfl
    · have h : b.kind = 3 := by omega
      rw [h]
      rfl
theorem Kindly.zero {p : Int} {x : List Int} (h : Kindly p x) : x ≠ zeros 64 := by
  cases h with
  | body b g w e =>
    intro e2
    have := body_first g p
    rw [← e, e2] at this
    have h0 : (zeros 64).getD 0 0 = 0 := by decide
    rw [h0] at this
    omega
  | head mo c g w e =>
    intro e2
    have h1 : (headOfPart p mo c).getD 0 0 = 83 := by
      have hs : Sm.good ⟨p, mo, marks c⟩ = true := g
      unfold headOfPart Sm.sec
      rw [if_pos hs]
      rfl
    rw [← e, e2] at h1
    exact absurd h1 (by decide)
theorem Kindly.seq {p : Int} (hp : Seq32 p) {x : List Int} (h : Kindly p x) (hs : isSum x = true) : (sreadOf x).seq = p := by
  cases h with
  | body b g w e =>
    exfalso
    have h1 := isSum_first hs
    have := body_first g p
    rw [← e, h1] at this
    omega
  | head mo c g w e =>
    rw [e, (head_sum g w hp mo).2.1]
/-- Sectors of which some are a group's, the others as they were. -/
def Mix (X X' : List (List Int)) (f : Nat) (Y : List (List Int)) : Prop := X'.length = X.length ∧ ∀ p : Nat, X'[p]? = X[p]? ∨ ∃ k y, p = f + k ∧ Y[k]? = some y ∧ X'[p]? = some y
theorem app_mix {f : Nat} {Y : List (List Int)} (hY : ∀ y ∈ Y, Sc y) : ∀ (M : List (Nat × Array Value)) {X : List (List Int)}, (∀ y ∈ X, Sc y) → f + Y.length ≤ X.length → (∀ e ∈ M, ∃ k y, Y[k]? = some y ∧ e = (f + k, (u8s y).toArray)) →
    ∃ X', De.app (X.map fun y => (u8s y).toArray) M = X'.map (fun y => (u8s y).toArray) ∧ (∀ y ∈ X', Sc y) ∧ Mix X X' f Y
  | [], X, hX, _, _ => ⟨X, rfl, hX, rfl, fun p => .inl rfl⟩
  | e :: M, X, hX, hl, h => by
    obtain ⟨k, y, hk, rfl⟩ := h e (by simp)
    have hkl := (List.getElem?_eq_some_iff.1 hk).1
    obtain ⟨X', h1, h2, h3, h4⟩ := app_mix hY M (X := X.set (f + k) y) (fun z hz => by
      rcases List.mem_or_eq_of_mem_set hz with hz | rfl
      · exact hX z hz
      · exact hY _ (List.mem_of_getElem? hk)) (by rw [List.length_set]; exact hl) (fun e he => h e (List.mem_cons_of_mem _ he))
    refine ⟨X', ?_, h2, by rw [h3, List.length_set], fun p => ?_⟩
    · rw [← h1, List.map_set]
      rfl
    · rcases h4 p with h5 | h5
      · by_cases hp : p = f + k
        · right
          subst hp
          rw [List.getElem?_set_self (by omega)] at h5
          exact ⟨k, y, rfl, hk, h5⟩
        · left
          rw [h5, List.getElem?_set_ne (by omega)]
      · exact .inr h5
theorem wrs_loose (d : De.D) (f : Nat) (Y : List (List Int)) : (wrs d (f : Int) Y).1.S = d.S ∧ ∀ e ∈ (wrs d (f : Int) Y).1.L, e ∈ d.L ∨ ∃ k y, Y[k]? = some y ∧ e = (f + k, (u8s y).toArray) := by
  induction Y generalizing d f with
  | nil => exact ⟨rfl, fun e he => .inl he⟩
  | cons x r ih =>
    have hw : (d.write (f : Int) (u8s x).toArray).S = d.S ∧ ∀ e ∈ (d.write (f : Int) (u8s x).toArray).L, e ∈ d.L ∨ e = (f, (u8s x).toArray) := by
      unfold De.D.write
      split
      · split
        · exact ⟨rfl, fun e he => .inl he⟩
        · refine ⟨rfl, fun e he => ?_⟩
          rcases List.mem_append.1 he with he | he
          · exact .inl he
          · exact .inr (List.mem_singleton.1 he)
      · exact ⟨rfl, fun e he => .inl he⟩
    by_cases he : d.writeE (f : Int) = 0
    · have e : wrs d (f : Int) (x :: r) = wrs (d.write (f : Int) (u8s x).toArray) ((f + 1 : Nat) : Int) r := by
        show (if d.writeE (f : Int) = 0 then _ else _) = _
        rw [if_pos he]
        rfl
      rw [e]
      obtain ⟨h1, h2⟩ := ih (d.write (f : Int) (u8s x).toArray) (f + 1)
      refine ⟨h1.trans hw.1, fun e he => ?_⟩
      rcases h2 e he with h3 | ⟨k, y, hk, h3⟩
      · rcases hw.2 e h3 with h4 | h4
        · exact .inl h4
        · exact .inr ⟨0, x, rfl, h4⟩
      · exact .inr ⟨k + 1, y, by simpa using hk, by rw [h3, show f + 1 + k = f + (k + 1) by omega]⟩
    · have e : wrs d (f : Int) (x :: r) = (d.write (f : Int) (u8s x).toArray, false) := by
        show (if d.writeE (f : Int) = 0 then _ else _) = _
        rw [if_neg he]
      rw [e]
      refine ⟨hw.1, fun e he => ?_⟩
      rcases hw.2 e he with h4 | h4
      · exact .inl h4
      · exact .inr ⟨0, x, rfl, h4⟩
theorem wrAll_loose (d : De.D) (f : Nat) (Y : List (List Int)) (h : (wrAll d (f : Int) Y).2 = false) : (wrAll d (f : Int) Y).1.S = d.S ∧ ∀ e ∈ (wrAll d (f : Int) Y).1.L, e ∈ d.L ∨ ∃ k y, Y[k]? = some y ∧ e = (f + k, (u8s y).toArray) := by
  have hw := wrs_loose d f Y
  by_cases ht : (wrs d (f : Int) Y).2 = true
  · have e : wrAll d (f : Int) Y = ((wrs d (f : Int) Y).1.flush, decide ((wrs d (f : Int) Y).1.flushE = 0)) := by unfold wrAll; rw [if_pos ht]
    rw [e] at h ⊢
    simp only at h ⊢
    have h0 : (wrs d (f : Int) Y).1.F = 0 := by
      by_cases h0 : (wrs d (f : Int) Y).1.F = 0
      · exact h0
      · unfold De.D.flushE at h
        rw [if_neg h0] at h
        exact absurd h (by decide)
    have e2 : (wrs d (f : Int) Y).1.flush = { (wrs d (f : Int) Y).1 with F := -1 } := by unfold De.D.flush; rw [if_pos h0]
    rw [e2]
    exact hw
  · have e : wrAll d (f : Int) Y = ((wrs d (f : Int) Y).1, false) := by unfold wrAll; rw [if_neg ht]
    rw [e]
    exact hw
theorem kept_in {L : List (Nat × Array Value)} {keep : List Int} {e : Nat × Array Value} (h : e ∈ De.kept L keep) : e ∈ L := De.keptTo_mem h
/-- A Put that fails, and a crash behind it. -/
theorem fail_img {g : Pl.Gm} {b : Ja} {d : De.D} {L : List It} {X : List (List Int)} (hg : b.good g = true) (hd : Img d X) (hL0 : d.L = []) (ht : 4 + g.s * g.l ≤ (d.S.length : Int)) (w : ∀ x ∈ L, x.Wf) (he : (jput g b d L).e = 12) (keep : List Int) :
    ∃ b1 X', mayBe L = true ∧ Nx g b b1 (lay2 b.seq L).1.length ∧ Step1 b b1 ∧ Img ((jput g b d L).d.crash keep) X' ∧ Mix X X' (firstOf g b1).toNat (lay2 b.seq L).1 ∧ (jput g b d L).a = b := by
  cases hl : laid g b L
  · rw [jput_no hl] at he
    exact absurd (show ((1 : Int) = 12) from he) (by decide) 
  · cases hn : nextP g b (lay2 b.seq L).1.length with
    | none =>
      rw [jput_full hl hn] at he
      exact absurd (show ((14 : Int) = 12) from he) (by decide) 
    | some b1 =>
      have hnx := nextP_nx hg (laid_parts hl).2 hn
      obtain ⟨f, hf, hf4, hfn⟩ := hnx.first
      cases hw : (wrAll d (firstOf g b1) (lay2 b.seq L).1).2
      · rw [jput_fail hl hn hw]
        rw [hf] at hw ⊢
        have hlen := hd.len
        obtain ⟨h1, h2⟩ := wrAll_loose d f (lay2 b.seq L).1 hw
        have hS : d.S = X.map fun y => (u8s y).toArray := by
          have := hd.v
          rw [hL0] at this
          exact this
        obtain ⟨X', k1, k2, k3⟩ := app_mix (lay2_sc w b.seq) (De.kept (wrAll d (f : Int) (lay2 b.seq L).1).1.L keep) (f := f) (X := X) hd.sc (by omega) (fun e he => by
          rcases h2 e (kept_in he) with h3 | h3
          · rw [hL0] at h3
            cases h3
          · exact h3)
        refine ⟨b1, X', (laid_parts hl).1, hnx, nextP_step hn, ⟨?_, k2⟩, by rw [hf, Int.toNat_natCast]; exact k3, rfl⟩
        show De.app (De.app (wrAll d (f : Int) (lay2 b.seq L).1).1.S (De.kept (wrAll d (f : Int) (lay2 b.seq L).1).1.L keep)) [] = _
        rw [h1, hS]
        exact k1
      · rw [jput_ok hl hn hw] at he
        exact absurd (show ((0 : Int) = 12) from he) (by decide) 
/-- A crash of a device of which nothing is loose. -/
theorem crash_still {d : De.D} {X : List (List Int)} (hd : Img d X) (hL : d.L = []) (keep : List Int) : Img (d.crash keep) X := by
  refine ⟨?_, hd.sc⟩
  rw [← hd.v]
  show De.app (De.app d.S (De.kept d.L keep)) [] = De.app d.S d.L
  rw [hL]
  rfl
/-- A group of which some sectors are missing is none; or it is that one. -/
theorem mix_read {g : Pl.Gm} {b b1 : Ja} {L l : List It} {X X' : List (List Int)} (hm : mayBe L = true) (w : ∀ x ∈ L, x.Wf) (hX' : ∀ y ∈ X', Sc y) (hx : Mix X X' (firstOf g b1).toNat (lay2 b.seq L).1) (hsq : b1.seq = b.seq)
    (hz : ∀ p : Nat, (firstOf g b1).toNat ≤ p → p < (firstOf g b1).toNat + (g.l - b1.off).toNat → ∀ y, X[p]? = some y → y = zeros 64) (e : gAt X' g b1 = some l) : l = L ∧ ∀ k y, (lay2 b.seq L).1[k]? = some y → X'[(firstOf g b1).toNat + k]? = some y := by
  obtain ⟨h1, h2, h3⟩ := (readP_iff (seg_sc hX' _ _)).1 e
  rw [hsq] at h3
  have hlen := h3.length_le
  rw [List.length_take, List.length_drop] at hlen
  have key : ∀ i y, (lay2 b.seq l).1[i]? = some y → (lay2 b.seq L).1[i]? = some y ∧ X'[(firstOf g b1).toNat + i]? = some y := by
    intro i y hi
    have hil := (List.getElem?_eq_some_iff.1 hi).1
    have e4 := pre_at h3 hi
    rw [List.getElem?_take, if_pos (by omega), List.getElem?_drop] at e4
    refine ⟨?_, e4⟩
    rcases hx.2 ((firstOf g b1).toNat + i) with h5 | ⟨k, z, hk, hz2, h5⟩
    · rw [h5] at e4
      have := hz _ (by omega) (by omega) y e4
      obtain ⟨j, -, hkk⟩ := lay2_kinds h1 h2 b.seq y (List.mem_of_getElem? hi)
      exact absurd this hkk.zero
    · obtain rfl : i = k := by omega
      rw [h5] at e4
      rw [hz2]
      exact e4
  have hpre : (lay2 b.seq l).1 <+: (lay2 b.seq L).1 := List.prefix_iff_getElem?.2 fun i hi => (key i _ (List.getElem?_eq_getElem hi)).1
  have e5 := readP_of h1 h2 hpre
  rw [readP_of hm w (List.prefix_refl _)] at e5
  obtain rfl := Option.some.inj e5
  exact ⟨rfl, fun k y hy => (key k y hy).2⟩
/-- What is read behind a Put that failed, and a crash: all ahead of it; and that one, or not. -/
theorem Sn.cut {d : De.D} {X : List (List Int)} {g : Pl.Gm} {a b : Ja} {P : List (List It × List Int)} (h : Sn d X g a P b (· = zeros 64)) (hL0 : d.L = []) (L : List It) (w : ∀ x ∈ L, x.Wf) (he : (jput g b d L).e = 12) (keep : List Int) :
    ∃ X', Img ((jput g b d L).d.crash keep) X' ∧ (jput g b d L).a = b ∧ ((Way X' g a P b ∧ nxt X' g b = none) ∨ ∃ pl c, Way X' g a (P ++ [(L, pl)]) c ∧ nxt X' g c = none) := by
  obtain ⟨b1, X', hm, hnx, hs, hi, hx, ha⟩ := fail_img h.good h.img hL0 h.tot w he keep
  have hN : ∀ n, ∀ y, y = zeros 64 → NH n y := fun n y hy => by rw [hy]; exact nh_zero n
  obtain ⟨f, ef, hf4, hfn⟩ := hnx.first
  have hf1 : (firstOf g b1).toNat = f := by rw [ef]; rfl
  rw [hf1] at hx
  have hdis : ∀ p : Nat, ¬ (f ≤ p ∧ p < f + (lay2 b.seq L).1.length) → X'[p]? = X[p]? := fun p hp => by
    rcases hx.2 p with h1 | ⟨k, y, hk, hy, -⟩
    · exact h1
    · have := (List.getElem?_eq_some_iff.1 hy).1
      omega
  have hmet : ∀ p : Nat, metOk g b (p : Int) → X'[p]? = X[p]? := fun p hp => hdis p fun ⟨h1, h2⟩ =>
    met_dis h.good hnx hs (x := ((p - f : Nat) : Int)) (by omega) (by omega) hp (by rw [ef]; omega)
  have hrec : Rcd X' g a P b := h.rec_.keep hmet
  have hoff := hnx.off
  have hcl2 : ∀ q, Clean X' g ⟨b1.seg, b1.off + (lay2 b.seq L).1.length, q, b1.free⟩ (· = zeros 64) := fun q => clean_next h.cl h.good hnx hs fun p hp => hdis p (by rw [hf1] at hp; omega)
  -- where the journal is, if the group goes elsewhere
  have hb : b1 ≠ b → gAt X' g b = none := fun hne => by
    refine gAt_none hi.sc h.seq fun ho y hy => ?_
    have hp := clean_here h.good ho
    obtain ⟨e1, e2⟩ := first_nat h.good
    rcases hs with rfl | ⟨s, r, hfr, rfl⟩
    · exact absurd rfl hne
    · obtain ⟨-, h2, h3, h4, h5⟩ := Ja.good_parts h.good
      have hpl := place_of (l := g.l) (s := b.seg) (c := b.off) (by omega) h3 ho
      rw [hdis _ fun ⟨k1, k2⟩ => by
        have hfp := first_place hnx (x := (((firstOf g b).toNat - f : Nat) : Int)) (by omega) (by omega)
        have e3 : firstOf g ⟨s, 0, b.seq, r⟩ + (((firstOf g b).toNat - f : Nat) : Int) - 4 = b.seg * g.l + b.off := by
          rw [ef]
          omega
        rw [e3, hpl.1] at hfp
        exact step_ne h.good hfr hfp.1.symm] at hy
      exact hN _ y (h.cl _ e2 hp y hy)
  have hnone : gAt X' g b1 = none → nxt X' g b = none := fun hno => by
    rcases hs with rfl | ⟨s, r, hfr, rfl⟩
    · unfold nxt
      rw [hno]
      simp only
      cases hfr : b1.free with
      | nil => rfl
      | cons s r =>
        simp only
        have : gAt X' g ⟨s, 0, b1.seq, r⟩ = none := by
          refine gAt_none hi.sc h.seq fun ho y hy => ?_
          obtain ⟨e1, e2⟩ := first_nat (good_free h.good hfr)
          have hp := clean_free h.good hfr (by simp only at ho; omega)
          obtain ⟨-, h2, h3, h4, h5⟩ := Ja.good_parts h.good
          have hpl := place_of (l := g.l) (s := s) (c := 0) (by simp only at ho; omega) (Int.le_refl _) (by simp only at ho; omega)
          rw [hdis _ fun ⟨k1, k2⟩ => by
            have hfp := first_place hnx (x := (((firstOf g ⟨s, 0, b1.seq, r⟩).toNat - f : Nat) : Int)) (by omega) (by omega)
            have e3 : firstOf g b1 + (((firstOf g ⟨s, 0, b1.seq, r⟩).toNat - f : Nat) : Int) - 4 = s * g.l + 0 := by
              simp only at e1
              rw [ef]
              omega
            rw [e3, hpl.1] at hfp
            exact step_ne h.good hfr hfp.1] at hy
          exact hN _ y (h.cl _ e2 hp y hy)
        rw [this]
        rfl
    · have hne : (⟨s, 0, b.seq, r⟩ : Ja) ≠ b := fun e => step_ne h.good hfr (by rw [← e])
      unfold nxt
      rw [hb hne]
      simp only [hfr]
      rw [hno]
      rfl
  refine ⟨X', hi, ha, ?_⟩
  cases hr : gAt X' g b1 with
  | none => exact .inl ⟨hrec.chain, hnone hr⟩
  | some l =>
    right
    have hz : ∀ p : Nat, (firstOf g b1).toNat ≤ p → p < (firstOf g b1).toNat + (g.l - b1.off).toNat → ∀ y, X[p]? = some y → y = zeros 64 := fun p h1 h2 y hy => by
      rw [hf1] at h1 h2
      refine h.cl p (by omega) (fun hm' => ?_) y hy
      have hpl := place_of (l := g.l) (s := b1.seg) (c := b1.off + ((p - f : Nat) : Int)) (by omega) (by omega) (by omega)
      have e3 : (p : Int) - 4 = b1.seg * g.l + (b1.off + ((p - f : Nat) : Int)) := by
        have : firstOf g b1 = 4 + b1.seg * g.l + b1.off := rfl
        omega
      unfold metOk at hm'
      rw [e3, hpl.1, hpl.2] at hm'
      rcases hs with rfl | ⟨s, r, hfr, rfl⟩
      · rcases hm' with ⟨-, hm'⟩ | ⟨hm', -⟩
        · omega
        · exact hm' rfl
      · rcases hm' with ⟨hm', -⟩ | ⟨-, hm'⟩
        · exact step_ne h.good hfr hm'
        · rw [hfr] at hm'
          exact hm' List.mem_cons_self
    obtain ⟨rfl, hat⟩ := mix_read hm w hi.sc (by rw [hf1]; exact hx) hnx.seq hz hr
    refine ⟨_, _, (Rcd.snoc hrec h.good hnx hs hm w hat hb).chain, ?_⟩
    exact clean_end hi.sc (hcl2 _) (hN _) (hnx.good _) (seq_mod _)

end Go.Proofs.YthlnmdihdcfphaaGreatDoor
namespace Go.Proofs.YthlnmdihdcfphaaGreatDoor
set_option linter.unusedSimpArgs false
set_option linter.unusedVariables false
open Go.RowKit

/-- Sectors in a row of one's own. -/
structure Row1 (w : World) (g T cap : Nat) (X : List (List Int)) : Prop where
  n : X.length = T
  cap : T ≤ cap
  sc : ∀ y ∈ X, Sc y
  row : ∃ L : List Value, Blk w g L ∧ T * 64 ≤ L.length ∧ ∀ i x, X[i]? = some x → ∀ (j : Nat) (v : Value), (u8s x)[j]? = some v → L[i * 64 + j]? = some v
theorem Row1.secs {w : World} {g T cap : Nat} {X : List (List Int)} (h : Row1 w g T cap X) : SecsAt w (.slice (some ⟨g, 0, none⟩) T cap) X := by
  obtain ⟨L, hb, hl, hc⟩ := h.row
  refine ⟨_, cap, by rw [h.n], by rw [h.n]; exact h.cap, fun i x hx => ?_⟩
  have hs := h.sc x (List.mem_of_getElem? hx)
  refine ⟨hs, g, 0, rfl, fun j hj => ?_⟩
  have := hc i x hx j ((u8s x).toArray[j]) (by simp)
  rw [Nat.zero_add]
  exact hb.cell this
theorem Row1.below {w w' : World} {g T cap : Nat} {X : List (List Int)} (h : Row1 w g T cap X) (hb : Below w.heap.size w w') : Row1 w' g T cap X := by
  obtain ⟨L, h1, h2, h3⟩ := h.row
  exact ⟨h.n, h.cap, h.sc, L, h1.below hb h1.lt, h2, h3⟩
theorem splice_at {L : List Value} {o : Nat} {cs : Array Value} (h : o + cs.size ≤ L.length) (p : Nat) : (splice L o cs).toList[p]? = if o ≤ p ∧ p < o + cs.size then cs.toList[p - o]? else L[p]? := by
  unfold splice
  have hl : (L.take o).length = o := by rw [List.length_take]; omega
  by_cases h1 : p < o
  · rw [if_neg (by omega), List.append_assoc, List.getElem?_append_left (by omega), List.getElem?_take_of_lt h1]
  · by_cases h2 : p < o + cs.size
    · rw [if_pos ⟨by omega, h2⟩, List.append_assoc, List.getElem?_append_right (by omega), hl, List.getElem?_append_left (by simp; omega)]
    · rw [if_neg (by omega), List.getElem?_append_right (by simp; omega), List.getElem?_drop]
      congr 1
      simp
      omega
theorem splice_size {L : List Value} {o : Nat} {cs : Array Value} (h : o + cs.size ≤ L.length) : (splice L o cs).toList.length = L.length := by
  unfold splice
  simp
  omega
theorem row_set {L : List Value} {X : List (List Int)} {T k : Nat} {y : List Int} (hn : X.length = T) (hsc : ∀ y ∈ X, Sc y) (hl : T * 64 ≤ L.length) (hc : ∀ i x, X[i]? = some x → ∀ (j : Nat) (v : Value), (u8s x)[j]? = some v → L[i * 64 + j]? = some v) (hk : k < T) (hy : Sc y) :
    k * 64 + (u8s y).toArray.size ≤ L.length ∧ T * 64 ≤ (splice L (k * 64) (u8s y).toArray).toList.length ∧ ∀ i x, (X.set k y)[i]? = some x → ∀ (j : Nat) (v : Value), (u8s x)[j]? = some v → (splice L (k * 64) (u8s y).toArray).toList[i * 64 + j]? = some v := by
  have hs : (u8s y).toArray.size = 64 := hy.size
  have hf : k * 64 + (u8s y).toArray.size ≤ L.length := by rw [hs]; omega
  refine ⟨hf, by rw [splice_size hf]; exact hl, fun i x hx j v hv => ?_⟩
  rw [splice_at hf, hs]
  by_cases hik : i = k
  · subst hik
    rw [List.getElem?_set_self (by omega)] at hx
    cases hx
    have hj := (List.getElem?_eq_some_iff.1 hv).1
    rw [List.length_map, hy.length] at hj
    rw [if_pos ⟨by omega, by omega⟩, show i * 64 + j - i * 64 = j by omega]
    exact hv
  · rw [List.getElem?_set_ne (fun e => hik e.symm)] at hx
    have hj := (List.getElem?_eq_some_iff.1 hv).1
    rw [List.length_map, (hsc x (List.mem_of_getElem? hx)).length] at hj
    rw [if_neg (by
      intro h
      have : i < k ∨ k < i := by omega
      omega)]
    exact hc i x hx j v hv
section
variable {ops : Array Oper} {rest : List Oper} {dst : Option Tmp} {x y : Operand} {t2 : TypeId} {pos : String} {after : Array Edge} {guard : Option (Nat × Bool)} {a : Act} {w : World} {Q : Exit → Act → World → Prop}
/-- A sector stored into a row of one's own. -/
theorem store_sec {g T cap k : Nat} {X : List (List Int)} {s : List Int} (h : Row1 w g T cap X) (hk : k < T) (hs : Sc s) (hx : a.eval x = .pointer (some ⟨g, k * 64, none⟩)) (hy : a.eval y = .agg (u8s s).toArray) (hw : Region.wanted ⟨dst, .store 115 x y, t2, pos, after, guard⟩ (yielded ops a.tmps) = true)
    (hh : ∀ w', Row1 w' g T cap (X.set k s) → Only (fun k => k = g) w w' → w'.heap.size = w.heap.size → wpList Tryz.prog ops Q rest (a.put dst undef) w') : wpList Tryz.prog ops Q (⟨dst, .store 115 x y, t2, pos, after, guard⟩ :: rest) a w := by
  obtain ⟨L, hb, hl, hc⟩ := h.row
  obtain ⟨h1, h2, h3⟩ := row_set h.n h.sc hl hc hk hs
  refine store_g hb (by rw [hs.size]; exact info115) h1 (u8s_one _) hx hy hw fun wX hX hO hS => ?_
  refine hh wX ⟨by rw [List.length_set]; exact h.n, h.cap, fun z hz => ?_, _, hX, h2, h3⟩ hO hS
  rcases List.mem_or_eq_of_mem_set hz with hz | rfl
  · exact h.sc z hz
  · exact hs
end
theorem made_secs (n : Nat) : (madeCells (De.fillA 0) (n * 64)).toList = secCells (List.replicate n (zeros 64)) := by
  rw [De.flat_zero]
  unfold De.flat secCells
  rw [List.flatMap_replicate, List.flatMap_replicate]
  congr 1
theorem row_new (w w' : World) (n : Nat) (hb : Blk w' w.heap.size (madeCells (De.fillA 0) (n * 64)).toList) : Row1 w' w.heap.size n n (List.replicate n (zeros 64)) := by
  rw [made_secs] at hb
  have hsc : ∀ y ∈ List.replicate n (zeros 64), Sc y := fun y hy => by rw [List.eq_of_mem_replicate hy]; exact zeros_sc
  refine ⟨List.length_replicate, Nat.le_refl _, hsc, _, hb, ?_, fun i x hx j v hv => ?_⟩
  · rw [secCells_length hsc, List.length_replicate]
    exact Nat.le_refl _
  · have hj := (List.getElem?_eq_some_iff.1 hv).1
    rw [List.length_map, (hsc x (List.mem_of_getElem? hx)).length] at hj
    rw [secCells_at hsc hj, hx]
    exact hv
/-- The first k of n sectors, the others zero. -/
def fst (Y : List (List Int)) (n k : Nat) : List (List Int) := Y.take k ++ List.replicate (n - k) (zeros 64)
theorem fst_zero (Y : List (List Int)) (n : Nat) : fst Y n 0 = List.replicate n (zeros 64) := by simp [fst]
theorem fst_all {Y : List (List Int)} {n : Nat} (h : Y.length = n) : fst Y n n = Y := by simp [fst, ← h]
theorem fst_next {Y : List (List Int)} {n k : Nat} {y : List Int} (h : Y.length = n) (hk : Y[k]? = some y) : (fst Y n k).set k y = fst Y n (k + 1) := by
  obtain ⟨hl, he⟩ := List.getElem?_eq_some_iff.1 hk
  have e : (Y.take k).length = k := by rw [List.length_take]; omega
  unfold fst
  rw [List.set_append_right _ _ (by omega), e, Nat.sub_self, List.take_add_one, hk, show n - k = (n - (k + 1)) + 1 by omega, List.replicate_succ]
  simp
section
variable {W w : World} {b : Nat} {F : Nat → Prop} {d : De.D}
set_option maxRecDepth 100000 in
set_option maxHeartbeats 1000000 in
theorem sectorsOf_any {X : List (List Int)} (h : De.Dv W w b F d) (hX : Img d X) (hLn : d.L.length ≤ 1000000) (f n : Nat) (hn : n ≤ 100) (hf : f + n ≤ X.length) (hbig : X.length ≤ 2000) :
    Calls Tryz.prog 67 #[.pointer (some ⟨b, 0, none⟩), .int .i64 f, .int .i64 n] w fun e w' => ∃ sv, e = .returned sv ∧ SecsAt w' sv ((X.drop f).take n) ∧ Below w.heap.size w w' := by
  obtain ⟨Y, hY⟩ : ∃ Y, (X.drop f).take n = Y := ⟨_, rfl⟩
  have hYl : Y.length = n := by rw [← hY, List.length_take, List.length_drop]; omega
  have HYA : Hid (∀ k, k < n → ∃ y, Y[k]? = some y ∧ X[f + k]? = some y ∧ Sc y) := Lib.hid fun k hk => by
    obtain ⟨y, hy⟩ : ∃ y, X[f + k]? = some y := ⟨_, List.getElem?_eq_getElem (by omega)⟩
    refine ⟨y, ?_, hy, hX.sc _ (List.mem_of_getElem? hy)⟩
    rw [← hY, List.getElem?_take, if_pos hk, List.getElem?_drop]
    exact hy
  rw [hY]
  have HYL := Lib.hid hYl
  have HD := Lib.hid h
  have HX := Lib.hid hX
  have HL := Lib.hid hLn
  have HFN : Hid (f + n ≤ 2000) := Lib.hid (by omega)
  have mk := De.make48 n (by omega)
  have HR0 : Hid (∀ w1, w1 = w.alloc (.cells (madeCells (De.fillA 0) (n * 64)) 115) → Row1 w1 w.heap.size n n (fst Y n 0) ∧ Below w.heap.size w w1) := Lib.hid (by
    rintro w1 rfl
    rw [fst_zero]
    exact ⟨row_new w _ n (Blk.new w _ 115), (Below.refl _ _).alloc (Nat.le_refl _) _⟩)
  clear h hX hLn hf hbig hY hYl
  go_enter Tryz.func67, Tryz.ntmps67
  go_wp2_with fail
  obtain ⟨hr, hb⟩ := HR0.out _ rfl
  generalize w.alloc (.cells (madeCells (De.fillA 0) (n * 64)) 115) = w1 at *
  have HR := Lib.hid hr
  have HB := Lib.hid hb
  clear hr hb mk HR0
  go_loopg [13] n (fun q i wr => ∃ k : Nat, n - k ≤ q ∧ k ≤ n ∧ i = .int .i64 k ∧ Row1 wr w.heap.size n n (fst Y n k) ∧ Below w.heap.size w wr)
  case atStart => exact ⟨0, by omega, by omega, rfl, HR.out, HB.out⟩
  case round =>
    obtain ⟨k, hq, hk, rfl, hr, hb⟩ := hrel
    have HRk := Lib.hid hr
    have HBk := Lib.hid hb
    clear hr hb HR HB
    by_cases hkn : k < n
    · have gk : decide ((k : Int) < (n : Int)) = true := decide_eq_true (by omega)
      have hk0 : (k : Int) < (n : Int) := by omega
      obtain ⟨y, hy1, hy2, hy3⟩ := HYA.out k hkn
      have HY1 := Lib.hid hy1
      have HY3 := Lib.hid hy3
      obtain ⟨r1, r2⟩ := HX.out.read hy2
      have HRD : Hid (Calls Tryz.prog 85 #[.pointer (some ⟨b, 0, none⟩), .int .i64 ((f : Int) + (k : Int))] wr fun e w' => e = .returned (.tuple #[.agg (u8s y).toArray, .int .i64 0]) ∧ Below wr.heap.size wr w') := Lib.hid (by
        have := De.dv_read (HD.out.below HBk.out) HL.out ((f + k : Nat) : Int)
        rw [r1, r2] at this
        exact this)
      have gw : Hid (IntKind.i64.wrap ((f : Int) + (k : Int)) = (f : Int) + (k : Int)) := Lib.hid (wrap64 (by omega) (by have := HFN.out; omega))
      clear hy1 hy2 hy3 r1 r2
      go_upto_region 5 with fail
      refine wp_region_lit ?_
      refine takeL (.slice (some ⟨w.heap.size, 0, none⟩) n n) rfl (by go_simp) ?_
      try simp only [Act.put, List.setIfInBounds_toArray, List.set_cons_succ, List.set_cons_zero]
      refine takeL (.int .i64 k) rfl (by go_simp) ?_
      try simp only [Act.put, List.setIfInBounds_toArray, List.set_cons_succ, List.set_cons_zero]
      refine takeL (.pointer (some ⟨b, 0, none⟩)) rfl (by go_simp) ?_
      try simp only [Act.put, List.setIfInBounds_toArray, List.set_cons_succ, List.set_cons_zero]
      refine takeL (.int .i64 f) rfl (by go_simp) ?_
      try simp only [Act.put, List.setIfInBounds_toArray, List.set_cons_succ, List.set_cons_zero]
      refine takeL (.int .i64 k) rfl (by go_simp) ?_
      try simp only [Act.put, List.setIfInBounds_toArray, List.set_cons_succ, List.set_cons_zero]
      refine takeL (.int .i64 ((f : Int) + (k : Int))) rfl (by have q := gw.out; go_simp) ?_
      try simp only [Act.put, List.setIfInBounds_toArray, List.set_cons_succ, List.set_cons_zero]
      refine wpList_op rfl fun K hK => ?_
      go_simp
      refine (HRD.out).mono ?_
      rintro e w2 ⟨rfl, hb2⟩
      have HR2 := Lib.hid (HRk.out.below (hb2.mono (Nat.le_refl _)))
      have HB2 := Lib.hid (stay HBk.out hb2)
      clear hb2
      refine hK _ _ ?_
      clear hK K
      try simp only [Act.put, List.setIfInBounds_toArray, List.set_cons_succ, List.set_cons_zero]
      refine takeL (.tuple #[.agg (u8s y).toArray, .int .i64 0]) rfl (by go_simp) ?_
      try simp only [Act.put, List.setIfInBounds_toArray, List.set_cons_succ, List.set_cons_zero]
      refine takeL (.agg (u8s y).toArray) rfl (by go_simp) ?_
      try simp only [Act.put, List.setIfInBounds_toArray, List.set_cons_succ, List.set_cons_zero]
      refine takeL (.int .i64 0) rfl (by go_simp) ?_
      try simp only [Act.put, List.setIfInBounds_toArray, List.set_cons_succ, List.set_cons_zero]
      refine takeL (.pointer (some ⟨w.heap.size, k * 64, none⟩)) rfl (by go_simp) ?_
      try simp only [Act.put, List.setIfInBounds_toArray, List.set_cons_succ, List.set_cons_zero]
      refine store_sec HR2.out hkn HY3.out rfl rfl rfl ?_
      intro w3 hr3 ho3 hs3
      try simp only [Act.put, List.setIfInBounds_toArray, List.set_cons_succ, List.set_cons_zero]
      have HR3 : Hid (Row1 w3 w.heap.size n n (fst Y n (k + 1))) := Lib.hid (by rw [← fst_next HYL.out HY1.out]; exact hr3)
      have HB3 : Hid (Below w.heap.size w w3) := Lib.hid (HB2.out.trans (ho3.below HB2.out.size fun j hj => Nat.le_of_eq hj.symm))
      clear hr3 ho3 hs3
      refine wpList_nil ?_
      go_wp2_with fail
      go_roundg (n - (k + 1))
      case measure => omega
      case rel => exact ⟨k + 1, by omega, by omega, by go_num, HR3.out, HB3.out⟩
    · have hk2 : k = n := by omega
      subst hk2
      have gk : decide ((k : Int) < (k : Int)) = false := decide_eq_false (by omega)
      have HRS : Hid (SecsAt wr (.slice (some ⟨w.heap.size, 0, none⟩) k k) Y) := Lib.hid (by
        have := HRk.out.secs
        rw [fst_all HYL.out] at this
        exact this)
      go_wp2_with fail
      go_ret
      exact ⟨_, rfl, HRS.out, HBk.out⟩
end

section
variable {W w : World}
set_option maxRecDepth 100000 in
set_option maxHeartbeats 1000000 in
theorem splaces_any (f : Int) (l : List Int) (sv : Value) (w : World) (hi : IntsAt w sv l) (hl : l.length ≤ 1000) (hf : 0 ≤ f ∧ f ≤ 2000) (hx : ∀ x ∈ l, -1 ≤ x ∧ x ≤ 2000) : Calls Tryz.prog 68 #[.int .i64 f, sv] w fun e w' => ∃ v, e = .returned v ∧ OwnN w' w.heap.size v (l.map (plOf f)) ∧ Below w.heap.size w w' := by
  have HI := Lib.hid hi
  have HX := Lib.hid hx
  have HF := Lib.hid hf
  obtain ⟨sa, sc, hsv, -⟩ := hi
  obtain ⟨m, hm⟩ : ∃ m, l.length = m := ⟨_, rfl⟩
  rw [hm] at hsv hl
  subst hsv
  have HM := Lib.hid hm
  have HP0 : Hid (Pst w (w.alloc (.cells (madeCells #[.int .i64 0] m) 3)) w.heap.size (pls f l 0)) := Lib.hid (by
    have e : madeCells #[Value.int .i64 0] m = (i64s (List.replicate m 0)).toArray := by
      apply Array.ext'
      rw [toList_madeCells_one]
      simp [i64s]
    rw [pls_zero, hm, e]
    exact ⟨Blk.new w _ 3, by have := OwnN.lit w w.heap.size (Nat.le_refl _) (List.replicate m 0) (by simp; omega) _ rfl; exact this, (Below.refl _ _).alloc (Nat.le_refl _) _⟩)
  have mk := De.make62 m (by omega)
  clear hx hf hm
  go_enter Tryz.func68, Tryz.ntmps68
  go_wp2_with fail
  generalize w.alloc (.cells (madeCells #[.int .i64 0] m) 3) = w1 at *
  go_loopg [13] m (fun q i wr => ∃ k : Nat, m - k ≤ q ∧ k ≤ m ∧ i = .int .i64 k ∧ Pst w wr w.heap.size (pls f l k))
  case atStart => exact ⟨0, by omega, by omega, rfl, HP0.out⟩
  case round =>
    obtain ⟨k, hq, hk, rfl, hst⟩ := hrel
    have HP := Lib.hid hst
    clear hst
    by_cases hkm : k < m
    · have gk : decide ((k : Int) < (m : Int)) = true := decide_eq_true (by omega)
      have hk0 : (k : Int) < (m : Int) := by omega
      obtain ⟨x, hx⟩ : ∃ x, l[k]? = some x := ⟨_, List.getElem?_eq_getElem (by have := HM.out; omega)⟩
      have HXX := Lib.hid hx
      have HXB := Lib.hid (HX.out x (List.mem_of_getElem? hx))
      obtain ⟨g0, o0, c0, hsa, hat⟩ := HI.out.has (by have := HM.out; omega)
      have hsa2 : sa = some ⟨g0, o0, none⟩ := by injection hsa
      subst hsa2
      have cx := (HP.out.bel.cell (block_lt_of_cell (hat k x hx))).trans (hat k x hx)
      have HKL : Hid (k < l.length) := Lib.hid (by have := HM.out; omega)
      have HZ : Hid (wr.cell? ⟨w.heap.size, k, none⟩ = some (.int .i64 0)) := Lib.hid (HP.out.blk.cell (by rw [List.getElem?_map, pls_at f l k HKL.out]; rfl))
      have HP1 : Hid (Pst w (wr.setCell ⟨w.heap.size, k, none⟩ (.int .i64 0)) w.heap.size (pls f l k)) := Lib.hid (by
        have := HP.out.set (Nat.le_refl _) k 0 (by rw [pls_len f l k (Nat.le_of_lt HKL.out)]; exact HKL.out)
        rwa [pls_set f l k HKL.out] at this)
      clear hx hat hsa
      go_upto_region 5 with fail
      refine wp_region_lit ?_
      refine takeL (.slice (some ⟨w.heap.size, 0, none⟩) m m) rfl (by go_simp) ?_
      try simp only [Act.put, List.setIfInBounds_toArray, List.set_cons_succ, List.set_cons_zero]
      refine takeL (.int .i64 k) rfl (by go_simp) ?_
      try simp only [Act.put, List.setIfInBounds_toArray, List.set_cons_succ, List.set_cons_zero]
      refine takeL (.pointer (some ⟨w.heap.size, k, none⟩)) rfl (by go_simp) ?_
      try simp only [Act.put, List.setIfInBounds_toArray, List.set_cons_succ, List.set_cons_zero]
      refine skipL (wr.setCell ⟨w.heap.size, k, none⟩ (.int .i64 0)) rfl (by have q := HZ.out; have fz := HP.out.blk.frozen k; go_simp) ?_
      have HZ1 : Hid ((wr.setCell ⟨w.heap.size, k, none⟩ (.int .i64 0)).cell? ⟨w.heap.size, k, none⟩ = some (.int .i64 0)) := Lib.hid (HP1.out.blk.cell (by rw [List.getElem?_map, pls_at f l k HKL.out]; rfl))
      generalize wr.setCell ⟨w.heap.size, k, none⟩ (.int .i64 0) = wS at *
      try simp only [Act.put, List.setIfInBounds_toArray, List.set_cons_succ, List.set_cons_zero]
      refine wpList_nil ?_
      by_cases hx0 : 0 ≤ x
      · have gx : decide (0 ≤ x) = true := decide_eq_true hx0
        have HP2 : Hid (Pst w (wS.setCell ⟨w.heap.size, k, none⟩ (.int .i64 (f + x))) w.heap.size (pls f l (k + 1))) := Lib.hid (by
          have := HP1.out.set (Nat.le_refl _) k (f + x) (by rw [pls_len f l k (Nat.le_of_lt HKL.out)]; exact HKL.out)
          rw [pls_next f l k x HXX.out, plOf, if_pos hx0]
          exact this)
        have gw : Hid (IntKind.i64.wrap (f + x) = f + x) := Lib.hid (wrap64 (by have := HF.out; omega) (by have := HF.out; have := HXB.out; omega))
        go_upto_region 7 with fail
        refine wp_region_lit ?_
        refine takeL (.slice (some ⟨w.heap.size, 0, none⟩) m m) rfl (by go_simp) ?_
        try simp only [Act.put, List.setIfInBounds_toArray, List.set_cons_succ, List.set_cons_zero]
        refine takeL (.int .i64 k) rfl (by go_simp) ?_
        try simp only [Act.put, List.setIfInBounds_toArray, List.set_cons_succ, List.set_cons_zero]
        refine takeL (.int .i64 f) rfl (by go_simp) ?_
        try simp only [Act.put, List.setIfInBounds_toArray, List.set_cons_succ, List.set_cons_zero]
        refine takeL (.int .i64 x) rfl (by go_simp) ?_
        try simp only [Act.put, List.setIfInBounds_toArray, List.set_cons_succ, List.set_cons_zero]
        refine takeL (.int .i64 (f + x)) rfl (by have q := gw.out; go_simp) ?_
        try simp only [Act.put, List.setIfInBounds_toArray, List.set_cons_succ, List.set_cons_zero]
        refine takeL (.pointer (some ⟨w.heap.size, k, none⟩)) rfl (by go_simp) ?_
        try simp only [Act.put, List.setIfInBounds_toArray, List.set_cons_succ, List.set_cons_zero]
        refine skipL (wS.setCell ⟨w.heap.size, k, none⟩ (.int .i64 (f + x))) rfl (by have q := HZ1.out; have fz := HP1.out.blk.frozen k; go_simp) ?_
        generalize wS.setCell ⟨w.heap.size, k, none⟩ (.int .i64 (f + x)) = wT at *
        try simp only [Act.put, List.setIfInBounds_toArray, List.set_cons_succ, List.set_cons_zero]
        refine wpList_nil ?_
        go_wp2_with fail
        go_roundg (m - (k + 1))
        case measure => omega
        case rel => exact ⟨k + 1, by omega, by omega, by go_num, HP2.out⟩
      · have gx : decide (0 ≤ x) = false := decide_eq_false hx0
        have HP2 : Hid (Pst w wS w.heap.size (pls f l (k + 1))) := Lib.hid (by
          rw [pls_neg f l k x HXX.out hx0]
          exact HP1.out)
        clear HXX HXB
        go_wp2_with fail
        go_roundg (m - (k + 1))
        case measure => omega
        case rel => exact ⟨k + 1, by omega, by omega, by go_num, HP2.out⟩
    · have hk2 : k = l.length := by have := HM.out; omega
      have gk : decide ((k : Int) < (m : Int)) = false := decide_eq_false (by omega)
      have HR : Hid (Pst w wr w.heap.size (l.map (plOf f))) := Lib.hid (by rw [← pls_all f l, ← hk2]; exact HP.out)
      clear hk2
      go_wp2_with fail
      go_ret
      refine ⟨_, rfl, ?_, HR.out.bel⟩
      have := HR.out.own
      rw [List.length_map, HM.out] at this
      exact this
end

end Go.Proofs.YthlnmdihdcfphaaGreatDoor
