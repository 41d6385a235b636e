/- What ClockPins comes to, over lists. -/
import Derived.Test.YtblfpakokhlkgaaCb
namespace Go.Proofs.Ytblfpakokhlkgaa
set_option linter.unusedSimpArgs false
set_option linter.unusedVariables false
open Go.RowKit

abbrev pinsOf (l : List Fm) : List Int := l.map Fm.pins
def findV : Option Nat → Int
  | some k => (k : Int)
  | none => 0
theorem findR_eq (o : Option Nat) : findR o = .tuple #[.int .i64 (findV o), .bool o.isSome] := by cases o <;> rfl
theorem map_set_same {l : List Fm} {k : Nat} {f g : Fm} (h : l[k]? = some f) (e : g.pins = f.pins) : pinsOf (l.set k g) = pinsOf l := by
  apply List.ext_getElem?
  intro i
  simp only [pinsOf, List.getElem?_map, List.getElem?_set]
  by_cases hi : k = i
  · subst hi
    have := (List.getElem?_eq_some_iff.1 h).1
    rw [if_pos rfl, if_pos this, h]
    simp [e]
  · rw [if_neg hi]
theorem spin_pins : ∀ (m : Nat) (l : List Fm) (h : Nat), pinsOf (spin m l h).2.l = pinsOf l
  | 0, l, h => rfl
  | m + 1, l, h => by
    unfold spin
    cases e : l[h]? with
    | none => rfl
    | some f =>
      simp only
      by_cases hp : f.P = true
      · rw [if_pos hp]; exact spin_pins m l _
      · rw [if_neg hp]
        by_cases hm : f.mark = true
        · rw [if_pos hm, spin_pins m]
          exact map_set_same e rfl
        · rw [if_neg hm]
theorem victim_pins (c : Ck) : pinsOf c.victim.2.l = pinsOf c.l := by
  unfold Ck.victim
  cases e : firstFrom noKey c.l 0 with
  | some i => rfl
  | none => exact spin_pins _ _ _
theorem spin_some : ∀ (m : Nat) (l : List Fm) (h v : Nat), (spin m l h).1 = some v → ∃ f, (spin m l h).2.l[v]? = some f ∧ f.P = false
  | 0, l, h, v, e => by cases e
  | m + 1, l, h, v, e => by
    unfold spin at e ⊢
    cases hf : l[h]? with
    | none => rw [hf] at e; cases e
    | some f =>
      rw [hf] at e
      simp only at e ⊢
      by_cases hp : f.P = true
      · rw [if_pos hp] at e ⊢; exact spin_some m _ _ v e
      · rw [if_neg hp] at e ⊢
        by_cases hm : f.mark = true
        · rw [if_pos hm] at e ⊢; exact spin_some m _ _ v e
        · rw [if_neg hm] at e ⊢
          cases e
          exact ⟨f, hf, by simpa using hp⟩
theorem spin_hit : ∀ (m : Nat) (l : List Fm) (h j : Nat) (f : Fm), h < l.length → j < m → l[(h + j) % l.length]? = some f → f.P = false → f.mark = false → ∃ v, (spin m l h).1 = some v
  | 0, l, h, j, f, _, hj, _, _, _ => by omega
  | m + 1, l, h, j, f, hh, hj, hf, hp, hm => by
    obtain ⟨g, hg⟩ : ∃ g, l[h]? = some g := ⟨_, List.getElem?_eq_getElem hh⟩
    have hn : 0 < l.length := by omega
    unfold spin
    rw [hg]
    simp only
    have j0 : j = 0 → g = f := fun e => by
      rw [e, Nat.add_zero, Nat.mod_eq_of_lt hh, hg] at hf
      exact Option.some.inj hf
    have step : ∀ j', j = j' + 1 → ((h + 1) % l.length + j') % l.length = (h + j) % l.length := fun j' e => by rw [Nat.mod_add_mod, e]; congr 1; omega
    by_cases hgp : g.P = true
    · rw [if_pos hgp]
      obtain ⟨j', rfl⟩ : ∃ j', j = j' + 1 := by
        cases j with
        | zero => rw [j0 rfl, hp] at hgp; cases hgp
        | succ j => exact ⟨j, rfl⟩
      exact spin_hit m l _ j' f (Nat.mod_lt _ hn) (by omega) (by rw [step j' rfl]; exact hf) hp hm
    · rw [if_neg hgp]
      by_cases hgm : g.mark = true
      · rw [if_pos hgm]
        obtain ⟨j', rfl⟩ : ∃ j', j = j' + 1 := by
          cases j with
          | zero => rw [j0 rfl, hm] at hgm; cases hgm
          | succ j => exact ⟨j, rfl⟩
        refine spin_hit m _ _ j' f (by rw [List.length_set]; exact Nat.mod_lt _ hn) (by omega) ?_ hp hm
        rw [List.length_set, step j' rfl, List.getElem?_set]
        by_cases he : h = (h + (j' + 1)) % l.length
        · rw [← he, hg] at hf
          cases hf
          rw [hm] at hgm
          cases hgm
        · rw [if_neg he]; exact hf
      · rw [if_neg hgm]
        exact ⟨h, rfl⟩
theorem spin_two : ∀ (m : Nat) (l : List Fm) (h j : Nat) (f : Fm), h < l.length → j + l.length < m → l[(h + j) % l.length]? = some f → f.P = false → ∃ v, (spin m l h).1 = some v
  | 0, l, h, j, f, _, hj, _, _ => by omega
  | m + 1, l, h, j, f, hh, hj, hf, hp => by
    obtain ⟨g, hg⟩ : ∃ g, l[h]? = some g := ⟨_, List.getElem?_eq_getElem hh⟩
    have hn : 0 < l.length := by omega
    unfold spin
    rw [hg]
    simp only
    have j0 : j = 0 → g = f := fun e => by
      rw [e, Nat.add_zero, Nat.mod_eq_of_lt hh, hg] at hf
      exact Option.some.inj hf
    have step : ∀ j', j = j' + 1 → ((h + 1) % l.length + j') % l.length = (h + j) % l.length := fun j' e => by rw [Nat.mod_add_mod, e]; congr 1; omega
    by_cases hgp : g.P = true
    · rw [if_pos hgp]
      obtain ⟨j', rfl⟩ : ∃ j', j = j' + 1 := by
        cases j with
        | zero => rw [j0 rfl, hp] at hgp; cases hgp
        | succ j => exact ⟨j, rfl⟩
      exact spin_two m l _ j' f (Nat.mod_lt _ hn) (by omega) (by rw [step j' rfl]; exact hf) hp
    · rw [if_neg hgp]
      by_cases hgm : g.mark = true
      · rw [if_pos hgm]
        by_cases he : h = (h + j) % l.length
        · have hgf : g = f := by
            rw [← he, hg] at hf
            exact Option.some.inj hf
          refine spin_hit m _ _ (l.length - 1) { g with mark := false } (by rw [List.length_set]; exact Nat.mod_lt _ hn) (by omega) ?_ (by rw [hgf]; exact hp) rfl
          rw [List.length_set, Nat.mod_add_mod, show h + 1 + (l.length - 1) = h + l.length by omega, Nat.add_mod_right, Nat.mod_eq_of_lt hh, List.getElem?_set, if_pos rfl, if_pos hh]
        · obtain ⟨j', rfl⟩ : ∃ j', j = j' + 1 := by
            cases j with
            | zero => exact absurd (by rw [Nat.add_zero, Nat.mod_eq_of_lt hh]) he
            | succ j => exact ⟨j, rfl⟩
          refine spin_two m _ _ j' f (by rw [List.length_set]; exact Nat.mod_lt _ hn) (by rw [List.length_set]; omega) ?_ hp
          rw [List.length_set, step j' rfl, List.getElem?_set, if_neg he]
          exact hf
      · rw [if_neg hgm]
        exact ⟨h, rfl⟩
theorem spin_loose {l : List Fm} {h u : Nat} {f : Fm} (hh : h < l.length) (hu : l[u]? = some f) (hp : f.P = false) : ∃ v, (spin (2 * l.length) l h).1 = some v := by
  have hul := (List.getElem?_eq_some_iff.1 hu).1
  by_cases hle : h ≤ u
  · exact spin_two _ l h (u - h) f hh (by omega) (by rw [show h + (u - h) = u by omega, Nat.mod_eq_of_lt hul]; exact hu) hp
  · exact spin_two _ l h (l.length - h + u) f hh (by omega) (by rw [show h + (l.length - h + u) = l.length + u by omega, Nat.add_mod_left, Nat.mod_eq_of_lt hul]; exact hu) hp
theorem nokey_free {B : Nat} {f : Fm} (h : f.Ok B) (hk : noKey f = true) : f.P = false := by
  have : f.key < 0 := by simpa [noKey] using hk
  rw [h.none this]
  rfl
/-- What the victim is: not pinned; there is one just if not all are pinned. -/
theorem victim_some {B : Nat} {c : Ck} (ho : c.Ok B) {v : Nat} (h : c.victim.1 = some v) : ∃ f, c.victim.2.l[v]? = some f ∧ f.P = false := by
  unfold Ck.victim at h ⊢
  cases e : firstFrom noKey c.l 0 with
  | some i =>
    rw [e] at h
    cases h
    obtain ⟨j, f, e2, hj, hp, -⟩ := first_some e
    rw [e2, Nat.zero_add]
    exact ⟨f, hj, nokey_free (ho.all j f hj) hp⟩
  | none =>
    rw [e] at h
    exact spin_some _ _ _ v h
theorem victim_is {B : Nat} {c : Ck} (ho : c.Ok B) : c.victim.1.isSome = !c.l.all Fm.P := by
  cases hv : c.victim.1 with
  | some v =>
    obtain ⟨f, hf, hp⟩ := victim_some ho hv
    have h1 := victim_pins c
    have hlt := (List.getElem?_eq_some_iff.1 hf).1
    rw [Ck.victim_len] at hlt
    obtain ⟨g, hg⟩ : ∃ g, c.l[v]? = some g := ⟨_, List.getElem?_eq_getElem hlt⟩
    have h2 : g.pins = f.pins := by
      have := congrArg (fun l => l[v]?) h1
      simp only [pinsOf, List.getElem?_map, hf, hg, Option.map_some, Option.some.injEq] at this
      exact this.symm
    have : c.l.all Fm.P = false := by
      rw [List.all_eq_false]
      exact ⟨g, List.mem_of_getElem? hg, by simp only [Fm.P] at hp ⊢; rw [h2]; simpa using hp⟩
    rw [this]; rfl
  | none =>
    cases ha : c.l.all Fm.P with
    | true => rfl
    | false =>
      exfalso
      rw [List.all_eq_false] at ha
      obtain ⟨g, hg, hp⟩ := ha
      obtain ⟨u, hu⟩ := List.getElem?_of_mem hg
      obtain ⟨v, h3⟩ := spin_loose ho.h hu (by simpa using hp)
      unfold Ck.victim at hv
      cases e : firstFrom noKey c.l 0 with
      | some i => rw [e] at hv; cases hv
      | none => rw [e] at hv; rw [h3] at hv; cases hv
theorem pin_pins {c : Ck} {k : Nat} {f : Fm} (h : c.l[k]? = some f) (hK : f.K = true) : pinsOf (c.pin k).l = (pinsOf c.l).set k (f.pins + 1) := by
  rw [pin_yes h hK]
  simp [pinsOf, List.map_set]
theorem put_pins {c : Ck} {k : Nat} {key : Int} {B : Nat} (ho : c.Ok B) (i : Int) : pinsOf (c.put i key).l = pinsOf c.l := by
  unfold Ck.put
  by_cases hm : c.mayPut i key = true
  · rw [if_pos hm]
    unfold Ck.mayPut Ck.may at hm
    cases hg : c.get i with
    | none => rw [hg] at hm; simp at hm
    | some f =>
      obtain ⟨k, rfl, -, hk⟩ := Ck.get_some hg
      rw [hg] at hm
      simp only [Bool.and_eq_true] at hm
      rw [Int.toNat_natCast]
      exact map_set_same hk ((ho.all k f hk).free (by simpa using hm.1.2)).symm
  · rw [if_neg hm]
theorem unpin_pins {c : Ck} {k : Nat} {f : Fm} {B : Nat} (ho : c.Ok B) (h : c.l[k]? = some f) : pinsOf (c.unpin k).l = (pinsOf c.l).set k (max 0 (f.pins - 1)) := by
  have hf := ho.all k f h
  cases hp : f.P with
  | true =>
    have h0 : 0 < f.pins := by simpa [Fm.P] using hp
    rw [unpin_yes h hp, show max 0 (f.pins - 1) = f.pins - 1 by omega]
    simp [pinsOf, List.map_set]
  | false =>
    have h0 := hf.free hp
    rw [unpin_no (by unfold Ck.pinnedAt; rw [Ck.get_nat, h]; exact hp), h0]
    have := map_set_same (g := f) h rfl
    have e : (pinsOf c.l).set k (max 0 (0 - 1)) = pinsOf (c.l.set k f) := by simp only [pinsOf, List.map_set, h0]; rfl
    rw [e, this]

end Go.Proofs.Ytblfpakokhlkgaa
