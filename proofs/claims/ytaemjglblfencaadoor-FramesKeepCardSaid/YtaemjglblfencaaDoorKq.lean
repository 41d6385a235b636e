/- What the statement FramesKeep itself keeps of eight pages, beside frames: lists, no memory. -/
import Derived.Test.YtaemjglblfencaaDoorSt
import Derived.Test.YtaemjglblfencaaDoorWk
namespace Go.Proofs.YtaemjglblfencaaDoor
set_option linter.unusedSimpArgs false
set_option linter.unusedVariables false
open Go.RowKit Kl

/-! Rows of things that have K cells each. -/
section
variable {α : Type} {E : α → List Value} {K : Nat} (hE : ∀ f, (E f).length = K)
include hE
theorem fm_len : ∀ (l : List α), (l.flatMap E).length = l.length * K
  | [] => by simp
  | f :: r => by rw [List.flatMap_cons, List.length_append, hE, fm_len r, List.length_cons, Nat.succ_mul]; omega
theorem fm_at : ∀ {l : List α} {i j : Nat} {f : α}, l[i]? = some f → j < K → (l.flatMap E)[i * K + j]? = (E f)[j]?
  | [], i, j, f, h, _ => by simp at h
  | g :: r, 0, j, f, h, hj => by
    simp only [List.getElem?_cons_zero, Option.some.injEq] at h
    subst h
    rw [List.flatMap_cons, Nat.zero_mul, Nat.zero_add, List.getElem?_append_left (by rw [hE]; exact hj)]
  | g :: r, i + 1, j, f, h, hj => by
    rw [List.flatMap_cons, List.getElem?_append_right (by rw [hE, Nat.succ_mul]; omega), hE, show (i + 1) * K + j - K = i * K + j by rw [Nat.succ_mul]; omega]
    exact fm_at (by simpa using h) hj
theorem fm_set : ∀ {l : List α} {i j : Nat} {f g : α} {v : Value}, l[i]? = some f → j < K → E g = (E f).set j v → (l.flatMap E).set (i * K + j) v = (l.set i g).flatMap E
  | [], i, j, f, g, v, h, _, _ => by simp at h
  | x :: r, 0, j, f, g, v, h, hj, e => by
    simp only [List.getElem?_cons_zero, Option.some.injEq] at h
    subst h
    rw [List.set_cons_zero, List.flatMap_cons, List.flatMap_cons, Nat.zero_mul, Nat.zero_add, List.set_append_left _ _ (by rw [hE]; exact hj), e]
  | x :: r, i + 1, j, f, g, v, h, hj, e => by
    rw [List.set_cons_succ, List.flatMap_cons, List.flatMap_cons, List.set_append_right _ _ (by rw [hE, Nat.succ_mul]; omega), hE, show (i + 1) * K + j - K = i * K + j by rw [Nat.succ_mul]; omega]
    rw [fm_set (by simpa using h) hj e]
theorem fm_splice : ∀ {l : List α} {i : Nat} (g : α), i < l.length → splice (l.flatMap E) (i * K) (E g).toArray = ((l.set i g).flatMap E).toArray
  | [], i, g, h => by simp at h
  | x :: r, 0, g, h => by
    rw [List.set_cons_zero, List.flatMap_cons, List.flatMap_cons, Nat.zero_mul]
    have := splice_at (l := []) (m := E x) (r := r.flatMap E) (E g).toArray (by simp [hE])
    simpa using this
  | x :: r, i + 1, g, h => by
    rw [List.set_cons_succ, List.flatMap_cons, List.flatMap_cons]
    have ih := fm_splice (l := r) (i := i) g (by simpa using h)
    unfold splice at ih ⊢
    have ih2 := congrArg Array.toList ih
    simp only at ih2
    rw [← ih2]
    congr 1
    have e1 : (i + 1) * K = (E x).length + i * K := by rw [hE, Nat.succ_mul]; omega
    rw [e1, List.take_append, List.append_assoc, List.append_assoc, List.append_assoc]
    congr 1
    · exact List.take_of_length_le (by omega)
    · congr 1
      · congr 1; omega
      · congr 1
        rw [List.drop_append, List.drop_eq_nil_of_le (by omega), List.nil_append]
        congr 1
        omega
end
def pgE (x : List Int) : List Value := if x.length = 32 then u8s x else u8s (zeros 32)
theorem pgE_len (x : List Int) : (pgE x).length = 32 := by
  unfold pgE
  split
  · rename_i h; simpa using h
  · simp [zeros]
theorem pgE_eq {x : List Int} (h : x.length = 32) : pgE x = u8s x := if_pos h
abbrev bools (l : List Bool) : List Value := l.map Value.bool
/-- What the statement itself keeps of eight pages. -/
structure Kz where
  bs : List (List Int)
  ns : List (List Int)
  hs : List Bool
structure Inv (s : Fs) (z : Kz) : Prop where
  lb : z.bs.length = 8
  ln : z.ns.length = 8
  lh : z.hs.length = 8
  pb : ∀ (i : Nat) (x : List Int), z.bs[i]? = some x → Pg x
  pn : ∀ (i : Nat) (x : List Int), z.ns[i]? = some x → Pg x
  n4 : s.c.l.length = 4
  key : ∀ (i : Nat) (f : Fm), s.c.l[i]? = some f → f.key < 8
  no : ∀ (k : Nat), k < 8 → s.c.find k = none → z.hs[k]? = some false
  yes : ∀ (k i : Nat), k < 8 → s.c.find k = some i → ∃ x, s.h[i]? = some x ∧ z.hs[k]? = some true ∧ z.bs[k]? = some x.base ∧ z.ns[k]? = some x.now
def kz0 : Kz := ⟨List.replicate 8 (zeros 32), List.replicate 8 (zeros 32), List.replicate 8 false⟩
theorem find_iff {B : Nat} {c : Ck} (h : c.Ok B) {key : Int} {k : Nat} : c.find key = some k ↔ ∃ f, c.l[k]? = some f ∧ f.key = key ∧ 0 ≤ key :=
  ⟨fun e => let ⟨f, h1, h2, h3, _⟩ := find_at h e; ⟨f, h1, h2, h3⟩, fun ⟨f, h1, h2, h3⟩ => by subst h2; exact find_is h h1 h3⟩
theorem find_new (n : Nat) (key : Int) : (newFs n).c.find key = none := by
  cases e : (newFs n).c.find key with
  | none => rfl
  | some k =>
    obtain ⟨j, f, _, hj, hp, _⟩ := first_some e
    simp only [newFs, newCk, List.getElem?_replicate] at hj
    split at hj
    · cases hj; simp [isKey, Fm.K] at hp
    · cases hj
theorem inv_new : Inv (newFs 4) kz0 := by
  refine ⟨rfl, rfl, rfl, fun i x h => ?_, fun i x h => ?_, rfl, fun i f h => ?_, fun k hk _ => ?_, fun k i hk h => ?_⟩
  · simp only [kz0, List.getElem?_replicate] at h; split at h <;> cases h; exact Pg.zeros
  · simp only [kz0, List.getElem?_replicate] at h; split at h <;> cases h; exact Pg.zeros
  · simp only [newFs, newCk, List.getElem?_replicate] at h; split at h <;> cases h; decide
  · simp only [kz0, List.getElem?_replicate, if_pos hk]
  · rw [find_new] at h; cases h
theorem find_same {B C : Nat} {c d : Ck} (h : c.Ok B) (h' : d.Ok C) (hl : d.l.length = c.l.length) (hk : ∀ (i : Nat) (f : Fm), d.l[i]? = some f → ∃ f', c.l[i]? = some f' ∧ f'.key = f.key) (key : Int) : d.find key = c.find key := by
  cases e : c.find key with
  | some k =>
    obtain ⟨f, hf, e2, h0, _⟩ := find_at h e
    have hlt := (List.getElem?_eq_some_iff.1 hf).1
    obtain ⟨f', hf'⟩ : ∃ f', d.l[k]? = some f' := ⟨_, List.getElem?_eq_getElem (by omega)⟩
    obtain ⟨f2, hf2, e3⟩ := hk k f' hf'
    rw [hf] at hf2
    cases hf2
    exact (find_iff h').2 ⟨f', hf', by rw [← e3, e2], h0⟩
  | none =>
    cases e2 : d.find key with
    | none => rfl
    | some k =>
      obtain ⟨f, hf, e3, h0, _⟩ := find_at h' e2
      obtain ⟨f', hf', e4⟩ := hk k f hf
      have := (find_iff h).2 ⟨f', hf', by rw [e4, e3], h0⟩
      rw [e] at this
      cases this
theorem Inv.page {s : Fs} {z : Kz} {k : Nat} (hk : k < 8) : s.page k = s.c.find k := by unfold Fs.page; rw [if_pos (by omega)]
/-- A page held by a frame of these. -/
theorem Inv.hold {B : Nat} {s : Fs} {z : Kz} (h : Inv s z) (ho : s.Ok B) {fr p : Nat} {f : Fm} {l : List Int} (hf : s.c.l[fr]? = some f) (hp : p < 8) (hl : Pg l) (hm : s.may fr p = true) :
    Inv (s.hold fr p l).2 ⟨z.bs.set p l, z.ns.set p l, (if 0 ≤ f.key then z.hs.set f.key.toNat false else z.hs).set p true⟩ := by
  have hm2 : s.c.mayPut fr p = true := by unfold Fs.may at hm; rw [Bool.and_eq_true] at hm; exact hm.2
  have hlt := (List.getElem?_eq_some_iff.1 hf).1
  have hpk : pageKey p = true := by simp [pageKey]; omega
  have hs : (s.hold fr p l).2 = ⟨{ s.c with l := s.c.l.set fr ⟨p, true, 0⟩ }, s.h.set fr ⟨l, l, zeros 8⟩⟩ := by
    unfold Fs.hold Fs.put
    simp only [if_pos hpk, if_pos hm, put_yes hm2, Int.toNat_natCast]
  have hok : (s.hold fr p l).2.Ok B := ho.hold fr p hl
  rw [hs] at hok ⊢
  have hfk := h.key fr f hf
  have hhl := ho.len
  have new : ∀ (k i : Nat), Ck.find { s.c with l := s.c.l.set fr ⟨p, true, 0⟩ } k = some i ↔ (k = p ∧ i = fr) ∨ (k ≠ p ∧ i ≠ fr ∧ s.c.find k = some i) := fun k i => by
    rw [find_iff hok.ck]
    simp only [List.getElem?_set]
    constructor
    · rintro ⟨g, hg, e, h0⟩
      by_cases ei : fr = i
      · rw [if_pos ei, if_pos (by omega)] at hg
        cases hg
        simp only at e
        exact .inl ⟨by omega, ei.symm⟩
      · rw [if_neg ei] at hg
        refine .inr ⟨fun ek => ?_, fun e2 => ei e2.symm, (find_iff ho.ck).2 ⟨g, hg, e, h0⟩⟩
        subst ek
        exact ei (may_key ho hm2 hg e).symm
    · rintro (⟨rfl, rfl⟩ | ⟨hk, hi, hfd⟩)
      · exact ⟨_, by rw [if_pos rfl, if_pos hlt], rfl, by omega⟩
      · obtain ⟨g, hg, e, h0, _⟩ := find_at ho.ck hfd
        exact ⟨g, by rw [if_neg (fun e2 => hi e2.symm)]; exact hg, e, h0⟩
  refine ⟨by simp [h.lb], by simp [h.ln], by split <;> simp [h.lh], fun i x hx => ?_, fun i x hx => ?_, by simpa using h.n4, fun i g hg => ?_, fun k hk hn => ?_, fun k i hk hfd => ?_⟩
  · simp only [List.getElem?_set] at hx
    split at hx
    · split at hx <;> cases hx; exact hl
    · exact h.pb i x hx
  · simp only [List.getElem?_set] at hx
    split at hx
    · split at hx <;> cases hx; exact hl
    · exact h.pn i x hx
  · simp only [List.getElem?_set] at hg
    split at hg
    · first
        | (split at hg <;> cases hg <;> (show ((p : Nat) : Int) < 8) <;> omega)
        | (cases hg; show ((p : Nat) : Int) < 8; omega)
        | (simp only [if_pos hlt, Option.some.injEq] at hg; subst hg; show ((p : Nat) : Int) < 8; omega)
    · exact h.key i g hg
  · have hkp : k ≠ p := fun e => by rw [(new k fr).2 (.inl ⟨e, rfl⟩)] at hn; cases hn
    rw [List.getElem?_set, if_neg (fun e => hkp e.symm)]
    by_cases hold : s.c.find k = none
    · have := h.no k hk hold
      split
      · rw [List.getElem?_set]
        split
        · rw [if_pos (by rw [h.lh]; omega)]
        · exact this
      · exact this
    · cases e : s.c.find k with
      | none => exact absurd e hold
      | some i =>
        have hi : i = fr := Classical.byContradiction fun hi => by rw [(new k i).2 (.inr ⟨hkp, hi, e⟩)] at hn; cases hn
        subst hi
        obtain ⟨g, hg, e2, h0, _⟩ := find_at ho.ck e
        rw [hf] at hg
        cases hg
        rw [if_pos (by omega), List.getElem?_set, if_pos (by omega), if_pos (by rw [h.lh]; omega)]
  · rcases (new k i).1 hfd with ⟨rfl, rfl⟩ | ⟨hkp, hi, hold⟩
    · refine ⟨⟨l, l, zeros 8⟩, ?_, ?_, ?_, ?_⟩
      · rw [List.getElem?_set, if_pos rfl, if_pos (by omega)]
      · rw [List.getElem?_set, if_pos rfl, if_pos (by split <;> simp [h.lh] <;> omega)]
      · rw [List.getElem?_set, if_pos rfl, if_pos (by rw [h.lb]; omega)]
      · rw [List.getElem?_set, if_pos rfl, if_pos (by rw [h.ln]; omega)]
    · obtain ⟨x, h1, h2, h3, h4⟩ := h.yes k i hk hold
      obtain ⟨g, hg, e2, h0, _⟩ := find_at ho.ck hold
      refine ⟨x, ?_, ?_, ?_, ?_⟩
      · rw [List.getElem?_set, if_neg (fun e => hi e.symm)]; exact h1
      · rw [List.getElem?_set, if_neg (fun e => hkp e.symm)]
        split
        · rw [List.getElem?_set, if_neg fun e => ?_]
          · exact h2
          · have : f.key = g.key := by omega
            have := ho.ck.one fr i f g hf hg (by omega) this
            exact hi this.symm
        · exact h2
      · rw [List.getElem?_set, if_neg (fun e => hkp e.symm)]; exact h3
      · rw [List.getElem?_set, if_neg (fun e => hkp e.symm)]; exact h4
/-- What a frame of these holds turns. -/
theorem Inv.turn {B C : Nat} {s : Fs} {z : Kz} {c : Ck} (h : Inv s z) (ho : s.Ok B) {p i : Nat} {x y : Hd} (hp : p < 8) (hfd : s.c.find p = some i) (hx : s.h[i]? = some x) (hb : Pg y.base) (hn : Pg y.now) (hok : c.Ok C) (hl : c.l.length = s.c.l.length) (hk : ∀ (i : Nat) (f : Fm), c.l[i]? = some f → ∃ f', s.c.l[i]? = some f' ∧ f'.key = f.key) :
    Inv ⟨c, s.h.set i y⟩ ⟨z.bs.set p y.base, z.ns.set p y.now, z.hs⟩ := by
  have fs := find_same ho.ck hok hl hk
  have hlt := (List.getElem?_eq_some_iff.1 hx).1
  refine ⟨by simp [h.lb], by simp [h.ln], h.lh, fun j u hu => ?_, fun j u hu => ?_, by rw [← h.n4]; exact hl, fun j f hf => ?_, fun k hk8 hno => ?_, fun k j hk8 hfk => ?_⟩
  · simp only [List.getElem?_set] at hu
    split at hu
    · split at hu <;> cases hu; exact hb
    · exact h.pb j u hu
  · simp only [List.getElem?_set] at hu
    split at hu
    · split at hu <;> cases hu; exact hn
    · exact h.pn j u hu
  · obtain ⟨f', h1, h2⟩ := hk j f hf
    have := h.key j f' h1
    omega
  · exact h.no k hk8 (by rw [← fs]; exact hno)
  · have hfk' : s.c.find k = some j := by rw [← fs]; exact hfk
    obtain ⟨u, h1, h2, h3, h4⟩ := h.yes k j hk8 hfk'
    by_cases e : k = p
    · subst e
      rw [hfd] at hfk'
      cases hfk'
      refine ⟨y, by simp only [List.getElem?_set, if_true, if_pos hlt], h2, ?_, ?_⟩
      · rw [List.getElem?_set, if_pos rfl, if_pos (by rw [h.lb]; omega)]
      · rw [List.getElem?_set, if_pos rfl, if_pos (by rw [h.ln]; omega)]
    · have hij : i ≠ j := fun e2 => by
        subst e2
        obtain ⟨g, hg, e3, _⟩ := find_at ho.ck hfk'
        obtain ⟨g2, hg2, e4, _⟩ := find_at ho.ck hfd
        rw [hg] at hg2
        cases hg2
        omega
      refine ⟨u, by simp only [List.getElem?_set, if_neg hij]; exact h1, h2, ?_, ?_⟩
      · rw [List.getElem?_set, if_neg (fun e2 => e e2.symm)]; exact h3
      · rw [List.getElem?_set, if_neg (fun e2 => e e2.symm)]; exact h4
/-- A page of which nothing is held, turned. -/
theorem Inv.away {s : Fs} {z : Kz} (h : Inv s z) {p : Nat} (hp : p < 8) (hfd : s.c.find p = none) {l : List Int} (hl : Pg l) : Inv s ⟨z.bs.set p l, z.ns, z.hs⟩ := by
  refine ⟨by simp [h.lb], h.ln, h.lh, fun j u hu => ?_, h.pn, h.n4, h.key, h.no, fun k j hk8 hfk => ?_⟩
  · simp only [List.getElem?_set] at hu
    split at hu
    · split at hu <;> cases hu; exact hl
    · exact h.pb j u hu
  · obtain ⟨u, h1, h2, h3, h4⟩ := h.yes k j hk8 hfk
    have hkp : k ≠ p := fun e => by subst e; rw [hfd] at hfk; cases hfk
    exact ⟨u, h1, h2, by rw [List.getElem?_set, if_neg (fun e2 => hkp e2.symm)]; exact h3, h4⟩
/-! Which of the eight are dirty. -/
theorem Inv.dirty {B : Nat} {s : Fs} {z : Kz} (h : Inv s z) (ho : s.Ok B) {k : Nat} (hk : k < 8) : ∃ hd b n, z.hs[k]? = some hd ∧ z.bs[k]? = some b ∧ z.ns[k]? = some n ∧ s.isDirty k = (hd && decide (b ≠ n)) := by
  have hb : z.bs[k]? = some _ := List.getElem?_eq_getElem (by rw [h.lb]; exact hk)
  have hn : z.ns[k]? = some _ := List.getElem?_eq_getElem (by rw [h.ln]; exact hk)
  unfold Fs.isDirty
  cases e : s.c.find (k : Int) with
  | none => exact ⟨false, _, _, h.no k hk e, hb, hn, by simp⟩
  | some i =>
    obtain ⟨x, h1, h2, h3, h4⟩ := h.yes k i hk e
    obtain ⟨f, hf, e2, h0, hK⟩ := find_at ho.ck e
    exact ⟨true, _, _, h2, h3, h4, by simp only [Fs.dirtyN_at hf h1, hK, Bool.true_and]⟩
/-- How many there are up to k. -/
def Fs.upto (s : Fs) (k : Nat) : Nat := ((List.range k).filter s.isDirty).length
theorem upto_next (s : Fs) (k : Nat) : s.upto (k + 1) = s.upto k + (if s.isDirty k then 1 else 0) := by
  unfold Fs.upto
  rw [List.range_succ, List.filter_append, List.length_append]
  congr 1
  by_cases h : s.isDirty k = true
  · simp [h]
  · simp [h]
theorem filt_at {p : Nat → Bool} : ∀ (n k : Nat), k < n → p k = true → ((List.range n).filter p)[((List.range k).filter p).length]? = some k
  | 0, k, h, _ => by omega
  | n + 1, k, h, hp => by
    rw [List.range_succ, List.filter_append]
    by_cases e : k = n
    · subst e
      rw [List.getElem?_append_right (Nat.le_refl _), Nat.sub_self]
      simp [hp]
    · have ih := filt_at n k (by omega) hp
      rw [List.getElem?_append_left (List.getElem?_eq_some_iff.1 ih).1]
      exact ih
theorem dirties_at {s : Fs} {k : Nat} (hk : k < 64) (hd : s.isDirty k = true) : s.dirties[s.upto k]? = some (k : Int) := by
  unfold Fs.dirties Fs.upto
  rw [List.getElem?_map, filt_at 64 k hk hd]
  rfl
theorem Inv.all {B : Nat} {s : Fs} {z : Kz} (h : Inv s z) (ho : s.Ok B) : s.dirties.length = s.upto 8 := by
  have none8 : ∀ k, 8 ≤ k → s.isDirty k = false := fun k hk => by
    unfold Fs.isDirty
    cases e : s.c.find (k : Int) with
    | none => rfl
    | some i =>
      obtain ⟨f, hf, e2, _⟩ := find_at ho.ck e
      have := h.key i f hf
      omega
  have more : ∀ m, s.upto (8 + m) = s.upto 8 := fun m => by
    induction m with
    | zero => rfl
    | succ m ih => rw [← Nat.add_assoc, upto_next, ih, none8 (8 + m) (by omega)]; simp
  unfold Fs.dirties
  rw [List.length_map]
  exact more 56

end Go.Proofs.YtaemjglblfencaaDoor
