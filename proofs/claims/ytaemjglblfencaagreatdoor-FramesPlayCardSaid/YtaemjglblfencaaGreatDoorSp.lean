/- Where two pages differ, and bytes laid over a page: lists of numbers, no memory. -/
import Derived.Test.YtaemjglblfencaaGreatDoorMem
namespace Go.Proofs.YtaemjglblfencaaGreatDoor
set_option linter.unusedSimpArgs false
set_option linter.unusedVariables false

def Small (n : Int) : Prop := -9223372036854775808 ≤ n ∧ n < 9223372036854775808
def Byte (n : Int) : Prop := 0 ≤ n ∧ n < 256
def zeros (n : Nat) : List Int := List.replicate n 0
theorem zeros_length (n : Nat) : (zeros n).length = n := by simp [zeros]
theorem zeros_byte (n : Nat) : ∀ x ∈ zeros n, Byte x := fun x hx => by
  rw [List.eq_of_mem_replicate hx]
  exact ⟨by decide, by decide⟩
/-- A page. -/
structure Pg (x : List Int) : Prop where
  length : x.length = 32
  bytes : ∀ y ∈ x, Byte y
theorem Pg.zeros : Pg (zeros 32) := ⟨zeros_length 32, zeros_byte 32⟩

/-- From o up to e a and b differ, at o and ahead of e. -/
structure Span (a b : List Int) (o e : Nat) : Prop where
  le : o ≤ e
  up : e ≤ 32
  pre : ∀ i, i < o → a[i]? = b[i]?
  suf : ∀ i, e ≤ i → a[i]? = b[i]?
  fst : o < e → a[o]? ≠ b[o]?
  lst : o < e → a[e - 1]? ≠ b[e - 1]?
  non : o = e → o = 32
theorem first_diff (a b : List Int) : ∀ n : Nat, ∃ o : Nat, o ≤ n ∧ (∀ i, i < o → a[i]? = b[i]?) ∧ (o < n → a[o]? ≠ b[o]?)
  | 0 => ⟨0, Nat.le_refl _, fun i h => by omega, fun h => by omega⟩
  | n + 1 => by
    obtain ⟨o, h1, h2, h3⟩ := first_diff a b n
    by_cases ho : o < n
    · exact ⟨o, by omega, h2, fun _ => h3 ho⟩
    · by_cases he : a[n]? = b[n]?
      · refine ⟨n + 1, Nat.le_refl _, fun i hi => ?_, fun h => by omega⟩
        rcases (show i < o ∨ i = n by omega) with h | rfl
        · exact h2 i h
        · exact he
      · exact ⟨o, by omega, h2, fun _ => by rw [show o = n by omega]; exact he⟩
theorem last_diff (a b : List Int) (o : Nat) : ∀ n : Nat, o ≤ n → (∀ i, n ≤ i → a[i]? = b[i]?) → ∃ e, o ≤ e ∧ e ≤ n ∧ (∀ i, e ≤ i → a[i]? = b[i]?) ∧ (o < e → a[e - 1]? ≠ b[e - 1]?)
  | 0, h, k => ⟨0, h, Nat.le_refl _, k, fun h => by omega⟩
  | n + 1, h, k => by
    by_cases he : o ≤ n ∧ a[n]? = b[n]?
    · obtain ⟨e, h1, h2, h3, h4⟩ := last_diff a b o n he.1 fun i hi => by
        rcases (show i = n ∨ n + 1 ≤ i by omega) with rfl | h
        · exact he.2
        · exact k i h
      exact ⟨e, h1, by omega, h3, h4⟩
    · exact ⟨n + 1, h, Nat.le_refl _, k, fun ho => fun q => he ⟨by omega, q⟩⟩
theorem exists_span {a b : List Int} (ha : Pg a) (hb : Pg b) : ∃ o e, Span a b o e := by
  obtain ⟨o, h1, h2, h3⟩ := first_diff a b 32
  obtain ⟨e, k1, k2, k3, k4⟩ := last_diff a b o 32 h1 fun i hi => by rw [List.getElem?_eq_none (by rw [ha.length]; exact hi), List.getElem?_eq_none (by rw [hb.length]; exact hi)]
  refine ⟨o, e, k1, k2, h2, k3, fun h => h3 (by omega), k4, fun h => ?_⟩
  subst h
  rcases (show o = 32 ∨ o < 32 by omega) with h | h
  · exact h
  · exact absurd (k3 o (Nat.le_refl _)) (h3 h)
theorem Span.all {a b : List Int} {o : Nat} (h : Span a b o o) : a = b := List.ext_getElem? fun i => by
  rcases Nat.lt_or_ge i o with k | k
  · exact h.pre i k
  · exact h.suf i k
theorem Span.self {a : List Int} : Span a a 32 32 := ⟨Nat.le_refl _, Nat.le_refl _, fun _ _ => rfl, fun _ _ => rfl, fun h => by omega, fun h => by omega, fun _ => rfl⟩
theorem Span.at {a b : List Int} (ha : Pg a) (hb : Pg b) {o e i : Nat} (h : Span a b o e) (hi : i < 32) : ∃ x y, a[i]? = some x ∧ b[i]? = some y ∧ (i < o → x = y) ∧ (e ≤ i → x = y) ∧ (o < e → i = o → x ≠ y) ∧ (o < e → i = e - 1 → x ≠ y) := by
  have h1 : i < a.length := by rw [ha.length]; exact hi
  have h2 : i < b.length := by rw [hb.length]; exact hi
  have ea := List.getElem?_eq_getElem h1
  have eb := List.getElem?_eq_getElem h2
  refine ⟨a[i], b[i], ea, eb, fun k => ?_, fun k => ?_, fun k q r => ?_, fun k q r => ?_⟩
  · exact Option.some.inj (ea.symm.trans ((h.pre i k).trans eb))
  · exact Option.some.inj (ea.symm.trans ((h.suf i k).trans eb))
  · subst q
    exact h.fst k (by rw [ea, eb, r])
  · subst q
    exact h.lst k (by rw [ea, eb, r])
/-- Do bytes fit? -/
def Fits (off : Int) (l : List Int) : Prop := 0 ≤ off ∧ 0 < l.length ∧ off + l.length ≤ 32
instance (off : Int) (l : List Int) : Decidable (Fits off l) := by unfold Fits; infer_instance
/-- b's bytes where it differs. -/
def mid (b : List Int) (o e : Nat) : List Int := (b.drop o).take (e - o)
theorem mid_length {b : List Int} (hb : Pg b) {o e : Nat} (h : o ≤ e) (k : e ≤ 32) : (mid b o e).length = e - o := by
  have := hb.length
  simp [mid]
  omega
theorem mid_at {b : List Int} {o e j : Nat} (h : j < e - o) : (mid b o e)[j]? = b[o + j]? := by rw [mid, List.getElem?_take_of_lt h, List.getElem?_drop]
theorem mid_byte {b : List Int} (hb : Pg b) (o e : Nat) : ∀ y ∈ mid b o e, Byte y := fun y hy => hb.bytes y (List.mem_of_mem_drop (List.mem_of_mem_take hy))
end Go.Proofs.YtaemjglblfencaaGreatDoor
