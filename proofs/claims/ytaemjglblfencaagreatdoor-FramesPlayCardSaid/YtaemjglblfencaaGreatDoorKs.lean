/- A clock as frames and a hand: what each call comes to; its cells in memory. -/
import Derived.Test.YtaemjglblfencaaGreatDoorKi
namespace Go.Proofs.YtaemjglblfencaaGreatDoor
namespace Kl
set_option linter.unusedSimpArgs false
set_option linter.unusedVariables false
open Go.RowKit

/-- A frame: its key (-1: none), its mark, its pins. -/
structure Fm where
  key : Int
  mark : Bool
  pins : Int
abbrev noFm : Fm := ⟨-1, false, 0⟩
abbrev Fm.K (f : Fm) : Bool := decide (0 ≤ f.key)
abbrev Fm.P (f : Fm) : Bool := decide (0 < f.pins)
/-- A frame as it may be, with at most B pins. -/
structure Fm.Ok (B : Nat) (f : Fm) : Prop where
  none : f.key < 0 → f = noFm
  key : f.key ≤ 9223372036854775807
  p0 : 0 ≤ f.pins
  p1 : f.pins ≤ B
theorem Fm.Ok.mono {B C : Nat} {f : Fm} (h : f.Ok B) (hb : B ≤ C) : f.Ok C := ⟨h.none, h.key, h.p0, by have := h.p1; omega⟩
theorem noFm_ok (B : Nat) : noFm.Ok B := ⟨fun _ => rfl, by decide, by decide, by show (0 : Int) ≤ B; omega⟩
theorem Fm.Ok.pk {B : Nat} {f : Fm} (h : f.Ok B) (hp : f.P = true) : f.K = true := by
  by_cases hk : f.key < 0
  · have := h.none hk
    subst this
    simp [Fm.P] at hp
  · simp [Fm.K]; omega
theorem Fm.Ok.free {B : Nat} {f : Fm} (h : f.Ok B) (hp : f.P = false) : f.pins = 0 := by
  have := h.p0
  simp [Fm.P] at hp
  omega

/-- Frames, and a hand. -/
structure Ck where
  l : List Fm
  h : Nat
structure Ck.Ok (B : Nat) (c : Ck) : Prop where
  n0 : 1 ≤ c.l.length
  n1 : c.l.length ≤ 16
  h : c.h < c.l.length
  all : ∀ (i : Nat) (f : Fm), c.l[i]? = some f → f.Ok B
  one : ∀ (i j : Nat) (f g : Fm), c.l[i]? = some f → c.l[j]? = some g → 0 ≤ f.key → f.key = g.key → i = j
theorem Ck.Ok.mono {B C : Nat} {c : Ck} (h : c.Ok B) (hb : B ≤ C) : c.Ok C := ⟨h.n0, h.n1, h.h, fun i f e => (h.all i f e).mono hb, h.one⟩
def Ck.get (c : Ck) (i : Int) : Option Fm := if 0 ≤ i then c.l[i.toNat]? else none
theorem Ck.get_some {c : Ck} {i : Int} {f : Fm} (h : c.get i = some f) : ∃ k : Nat, i = (k : Int) ∧ k < c.l.length ∧ c.l[k]? = some f := by
  unfold Ck.get at h
  by_cases h0 : 0 ≤ i
  · rw [if_pos h0] at h
    exact ⟨i.toNat, by omega, (List.getElem?_eq_some_iff.1 h).1, h⟩
  · rw [if_neg h0] at h
    cases h
theorem Ck.get_none {c : Ck} {i : Int} (h : c.get i = none) : i < 0 ∨ (c.l.length : Int) ≤ i := by
  unfold Ck.get at h
  by_cases h0 : 0 ≤ i
  · rw [if_pos h0, List.getElem?_eq_none_iff] at h
    omega
  · omega
theorem Ck.get_nat (c : Ck) (k : Nat) : c.get (k : Int) = c.l[k]? := by
  unfold Ck.get
  rw [if_pos (by omega), Int.toNat_natCast]
/-- The first one of a kind, from k on. -/
def firstFrom (p : Fm → Bool) : List Fm → Nat → Option Nat
  | [], _ => none
  | f :: r, k => if p f then some k else firstFrom p r (k + 1)
theorem drop_at {l : List Fm} {k : Nat} {f : Fm} (h : l[k]? = some f) : l.drop k = f :: l.drop (k + 1) := by
  obtain ⟨hk, rfl⟩ := List.getElem?_eq_some_iff.1 h
  rw [List.drop_eq_getElem_cons hk]
theorem first_here {p : Fm → Bool} {l : List Fm} {k : Nat} {f : Fm} (h : l[k]? = some f) (hp : p f = true) : firstFrom p (l.drop k) k = some k := by rw [drop_at h, firstFrom, if_pos hp]
theorem first_next {p : Fm → Bool} {l : List Fm} {k : Nat} {f : Fm} (h : l[k]? = some f) (hp : p f = false) : firstFrom p (l.drop k) k = firstFrom p (l.drop (k + 1)) (k + 1) := by rw [drop_at h, firstFrom, if_neg (by simp [hp])]
theorem first_end {p : Fm → Bool} {l : List Fm} : firstFrom p (l.drop l.length) l.length = none := by rw [List.drop_length]; rfl
theorem first_some {p : Fm → Bool} : ∀ {l : List Fm} {k i : Nat}, firstFrom p l k = some i → ∃ j f, i = k + j ∧ l[j]? = some f ∧ p f = true ∧ ∀ m g, m < j → l[m]? = some g → p g = false
  | [], _, _, h => by cases h
  | f :: r, k, i, h => by
    unfold firstFrom at h
    by_cases hp : p f
    · rw [if_pos hp] at h
      cases h
      exact ⟨0, f, rfl, rfl, hp, fun m g hm => by omega⟩
    · rw [if_neg hp] at h
      obtain ⟨j, g, e, hg, hpg, hn⟩ := first_some h
      refine ⟨j + 1, g, by omega, by simpa using hg, hpg, fun m g' hm hg' => ?_⟩
      match m, hg' with
      | 0, hg' => simp at hg'; subst hg'; simpa using hp
      | m + 1, hg' => exact hn m g' (by omega) (by simpa using hg')
theorem first_none {p : Fm → Bool} : ∀ {l : List Fm} {k : Nat}, firstFrom p l k = none → ∀ (j : Nat) (f : Fm), l[j]? = some f → p f = false
  | [], _, _, j, f, h => by simp at h
  | f :: r, k, h, j, g, hg => by
    unfold firstFrom at h
    by_cases hp : p f
    · rw [if_pos hp] at h; cases h
    · rw [if_neg hp] at h
      match j, hg with
      | 0, hg => simp at hg; subst hg; simpa using hp
      | j + 1, hg => exact first_none h j g (by simpa using hg)
def isKey (key : Int) (f : Fm) : Bool := f.K && decide (f.key = key)
def noKey (f : Fm) : Bool := decide (f.key < 0)
def Ck.find (c : Ck) (key : Int) : Option Nat := firstFrom (isKey key) c.l 0
/-- The hand, m times on. -/
def spin : Nat → List Fm → Nat → Option Nat × Ck
  | 0, l, h => (none, ⟨l, h⟩)
  | m + 1, l, h => match l[h]? with
    | none => (none, ⟨l, h⟩)
    | some f => if f.P then spin m l ((h + 1) % l.length) else if f.mark then spin m (l.set h { f with mark := false }) ((h + 1) % l.length) else (some h, ⟨l, (h + 1) % l.length⟩)
def Ck.victim (c : Ck) : Option Nat × Ck := match firstFrom noKey c.l 0 with
  | some i => (some i, c)
  | none => spin (2 * c.l.length) c.l c.h
def Ck.may (c : Ck) (i : Int) : Bool := match c.get i with
  | some f => !f.P
  | none => false
def Ck.mayPut (c : Ck) (i key : Int) : Bool := decide (0 ≤ key) && c.may i && (match c.find key with | some k => decide ((k : Int) = i) | none => true)
def Ck.put (c : Ck) (i key : Int) : Ck := if c.mayPut i key then { c with l := c.l.set i.toNat ⟨key, true, 0⟩ } else c
def Ck.drop (c : Ck) (i : Int) : Ck := if c.may i then { c with l := c.l.set i.toNat noFm } else c
def Ck.keyed (c : Ck) (i : Int) : Bool := match c.get i with
  | some f => f.K
  | none => false
def Ck.pinnedAt (c : Ck) (i : Int) : Bool := match c.get i with
  | some f => f.P
  | none => false
def Ck.turn (c : Ck) (i : Int) (g : Fm → Fm) : Ck := match c.get i with
  | some f => { c with l := c.l.set i.toNat (g f) }
  | none => c
def Ck.touch (c : Ck) (i : Int) : Ck := if c.keyed i then c.turn i (fun f => { f with mark := true }) else c
def Ck.pin (c : Ck) (i : Int) : Ck := if c.keyed i then c.turn i (fun f => { f with pins := f.pins + 1 }) else c
def Ck.unpin (c : Ck) (i : Int) : Ck := if c.pinnedAt i then c.turn i (fun f => { f with pins := f.pins - 1 }) else c
def Ck.pins (c : Ck) (i : Int) : Int := match c.get i with
  | some f => f.pins
  | none => 0
def Ck.pinned (c : Ck) : Nat := c.l.countP Fm.P
def newCk (n : Nat) : Ck := ⟨List.replicate n noFm, 0⟩
theorem newCk_ok {n : Nat} (h1 : 1 ≤ n) (h2 : n ≤ 16) : (newCk n).Ok 0 := by
  refine ⟨by simp only [newCk, List.length_replicate]; exact h1, by simpa [newCk] using h2, by simp only [newCk, List.length_replicate]; omega, fun i f e => ?_, fun i j f g e e2 h0 => ?_⟩
  · simp only [newCk, List.getElem?_replicate] at e
    by_cases hi : i < n
    · rw [if_pos hi] at e; cases e; exact noFm_ok _
    · rw [if_neg hi] at e; cases e
  · simp only [newCk, List.getElem?_replicate] at e
    by_cases hi : i < n
    · rw [if_pos hi] at e; cases e; exact absurd h0 (by decide)
    · rw [if_neg hi] at e; cases e
/-- A frame turned that keeps its key, or has none. -/
theorem Ck.Ok.set {B : Nat} {c : Ck} (h : c.Ok B) {k : Nat} {f g : Fm} (hk : c.l[k]? = some f) (hg : g.Ok B) (hkey : 0 ≤ g.key → ∀ (j : Nat) (m : Fm), c.l[j]? = some m → g.key = m.key → j = k) : Ck.Ok B { c with l := c.l.set k g } := by
  have hlt := (List.getElem?_eq_some_iff.1 hk).1
  refine ⟨by simpa using h.n0, by simpa using h.n1, by simpa using h.h, fun i x e => ?_, fun i j x y e e2 h0 hxy => ?_⟩
  · simp only [List.getElem?_set] at e
    by_cases hi : k = i
    · rw [if_pos hi, if_pos hlt] at e; cases e; exact hg
    · rw [if_neg hi] at e; exact h.all i x e
  · simp only [List.getElem?_set] at e e2
    by_cases hi : k = i
    · rw [if_pos hi, if_pos hlt] at e
      cases e
      by_cases hj : k = j
      · omega
      · rw [if_neg hj] at e2
        have := hkey h0 j y e2 hxy
        omega
    · rw [if_neg hi] at e
      by_cases hj : k = j
      · rw [if_pos hj, if_pos hlt] at e2
        cases e2
        have := hkey (by omega) i x e hxy.symm
        omega
      · rw [if_neg hj] at e2
        exact h.one i j x y e e2 h0 hxy
theorem Ck.Ok.same {B : Nat} {c : Ck} (h : c.Ok B) {k : Nat} {f g : Fm} (hk : c.l[k]? = some f) (hg : g.Ok B) (e : g.key = f.key) : Ck.Ok B { c with l := c.l.set k g } :=
  h.set hk hg fun h0 j m hm hkm => h.one j k m f hm hk (by omega) (by omega)
theorem Ck.Ok.hand {B : Nat} {c : Ck} (h : c.Ok B) {x : Nat} (hx : x < c.l.length) : Ck.Ok B { c with h := x } := ⟨h.n0, h.n1, hx, h.all, h.one⟩
theorem Ck.Ok.put {B : Nat} {c : Ck} (h : c.Ok B) (i key : Int) (hk : key ≤ 9223372036854775807) : (c.put i key).Ok B := by
  unfold Ck.put
  by_cases hm : c.mayPut i key = true
  · rw [if_pos hm]
    unfold Ck.mayPut Ck.may at hm
    cases hg : c.get i with
    | none => simp [hg] at hm
    | some f =>
      simp only [hg, Bool.and_eq_true, decide_eq_true_eq] at hm
      obtain ⟨⟨h0, hp⟩, hf⟩ := hm
      obtain ⟨k, rfl, hlt, hkf⟩ := Ck.get_some hg
      rw [Int.toNat_natCast]
      refine h.set hkf ⟨fun hn => by simp only at hn; omega, hk, by simp, by show (0 : Int) ≤ B; omega⟩ fun _ j m hjm hkm => ?_
      simp only at hkm
      subst hkm
      cases hfd : c.find m.key with
      | none => exact absurd (first_none hfd j m hjm) (by simp [isKey, Fm.K, h0])
      | some q =>
        simp only [hfd, decide_eq_true_eq] at hf
        obtain ⟨j2, f2, e2, hj2, hp2, -⟩ := first_some hfd
        simp only [isKey, Fm.K, Bool.and_eq_true, decide_eq_true_eq] at hp2
        have := h.one j2 j f2 m hj2 hjm hp2.1 hp2.2
        omega
  · rw [if_neg hm]; exact h
theorem Ck.Ok.drop {B : Nat} {c : Ck} (h : c.Ok B) (i : Int) : (c.drop i).Ok B := by
  unfold Ck.drop
  by_cases hm : c.may i = true
  · rw [if_pos hm]
    unfold Ck.may at hm
    cases hg : c.get i with
    | none => simp [hg] at hm
    | some f =>
      obtain ⟨k, rfl, hlt, hkf⟩ := Ck.get_some hg
      rw [Int.toNat_natCast]
      exact h.set hkf (noFm_ok B) fun h0 => absurd h0 (by decide)
  · rw [if_neg hm]; exact h
theorem Ck.Ok.turn {B : Nat} {c : Ck} (h : c.Ok B) (i : Int) (g : Fm → Fm) (hg : ∀ f, c.get i = some f → (g f).Ok B) (hk : ∀ f, (g f).key = f.key) : (c.turn i g).Ok B := by
  unfold Ck.turn
  cases hi : c.get i with
  | none => exact h
  | some f =>
    obtain ⟨k, rfl, hlt, hkf⟩ := Ck.get_some hi
    simp only [Int.toNat_natCast]
    exact h.same hkf (hg f hi) (hk f)
theorem Ck.Ok.touch {B : Nat} {c : Ck} (h : c.Ok B) (i : Int) : (c.touch i).Ok B := by
  unfold Ck.touch
  by_cases hm : c.keyed i = true
  · rw [if_pos hm]
    refine h.turn i _ (fun f hf => ?_) fun f => rfl
    obtain ⟨k, rfl, hlt, hkf⟩ := Ck.get_some hf
    have ho := h.all k f hkf
    simp only [Ck.keyed, hf, Fm.K, decide_eq_true_eq] at hm
    exact ⟨fun hn => by simp only at hn; omega, ho.key, ho.p0, ho.p1⟩
  · rw [if_neg hm]; exact h
theorem Ck.Ok.pin {B : Nat} {c : Ck} (h : c.Ok B) (i : Int) : (c.pin i).Ok (B + 1) := by
  unfold Ck.pin
  by_cases hm : c.keyed i = true
  · rw [if_pos hm]
    refine (h.mono (Nat.le_succ B)).turn i _ (fun f hf => ?_) fun f => rfl
    obtain ⟨k, rfl, hlt, hkf⟩ := Ck.get_some hf
    have ho := h.all k f hkf
    have h0 := ho.p0
    have h1 := ho.p1
    simp only [Ck.keyed, hf, Fm.K, decide_eq_true_eq] at hm
    exact ⟨fun hn => by simp only at hn; omega, ho.key, by show 0 ≤ f.pins + 1; omega, by show f.pins + 1 ≤ _; omega⟩
  · rw [if_neg hm]; exact h.mono (Nat.le_succ B)
theorem Ck.Ok.unpin {B : Nat} {c : Ck} (h : c.Ok B) (i : Int) : (c.unpin i).Ok B := by
  unfold Ck.unpin
  by_cases hm : c.pinnedAt i = true
  · rw [if_pos hm]
    refine h.turn i _ (fun f hf => ?_) fun f => rfl
    obtain ⟨k, rfl, hlt, hkf⟩ := Ck.get_some hf
    have ho := h.all k f hkf
    have h1 := ho.p1
    simp only [Ck.pinnedAt, hf, Fm.P, decide_eq_true_eq] at hm
    have hk := ho.pk (by simpa [Fm.P] using hm)
    simp only [Fm.K, decide_eq_true_eq] at hk
    exact ⟨fun hn => by simp only at hn; omega, ho.key, by show 0 ≤ f.pins - 1; omega, by show f.pins - 1 ≤ _; omega⟩
  · rw [if_neg hm]; exact h
theorem spin_ok {B : Nat} : ∀ (m : Nat) (l : List Fm) (h : Nat), Ck.Ok B ⟨l, h⟩ → (spin m l h).2.Ok B
  | 0, l, h, ho => ho
  | m + 1, l, h, ho => by
    unfold spin
    have hn : (h + 1) % l.length < l.length := Nat.mod_lt _ ho.n0
    cases e : l[h]? with
    | none => exact ho
    | some f =>
      simp only
      by_cases hp : f.P = true
      · rw [if_pos hp]
        exact spin_ok m l _ (ho.hand hn)
      · rw [if_neg hp]
        have hf := ho.all h f e
        by_cases hm : f.mark = true
        · rw [if_pos hm]
          refine spin_ok m _ _ ((ho.same (k := h) (g := { f with mark := false }) e ⟨fun h0 => ?_, hf.key, hf.p0, hf.p1⟩ rfl).hand (by simpa using hn))
          have := hf.none h0
          rw [this] at hm
          cases hm
        · rw [if_neg hm]
          exact ho.hand hn
theorem Ck.Ok.victim {B : Nat} {c : Ck} (h : c.Ok B) : c.victim.2.Ok B := by
  unfold Ck.victim
  cases e : firstFrom noKey c.l 0 with
  | some i => exact h
  | none => exact spin_ok _ _ _ h
theorem spin_len : ∀ (m : Nat) (l : List Fm) (h : Nat), (spin m l h).2.l.length = l.length
  | 0, l, h => rfl
  | m + 1, l, h => by
    unfold spin
    cases e : l[h]? with
    | none => rfl
    | some f =>
      simp only
      by_cases hp : f.P = true
      · rw [if_pos hp]; exact spin_len m l _
      · rw [if_neg hp]
        by_cases hm : f.mark = true
        · rw [if_pos hm, spin_len]; simp
        · rw [if_neg hm]
theorem Ck.victim_len (c : Ck) : c.victim.2.l.length = c.l.length := by
  unfold Ck.victim
  cases e : firstFrom noKey c.l 0 with
  | some i => rfl
  | none => exact spin_len _ _ _
theorem Ck.put_len (c : Ck) (i key : Int) : (c.put i key).l.length = c.l.length := by unfold Ck.put; split <;> simp
theorem Ck.drop_len (c : Ck) (i : Int) : (c.drop i).l.length = c.l.length := by unfold Ck.drop; split <;> simp
theorem Ck.turn_len (c : Ck) (i : Int) (g : Fm → Fm) : (c.turn i g).l.length = c.l.length := by unfold Ck.turn; split <;> simp
theorem Ck.touch_len (c : Ck) (i : Int) : (c.touch i).l.length = c.l.length := by unfold Ck.touch; split <;> simp [Ck.turn_len]
theorem Ck.pin_len (c : Ck) (i : Int) : (c.pin i).l.length = c.l.length := by unfold Ck.pin; split <;> simp [Ck.turn_len]
theorem Ck.unpin_len (c : Ck) (i : Int) : (c.unpin i).l.length = c.l.length := by unfold Ck.unpin; split <;> simp [Ck.turn_len]

/-- A frame's cells, as the program lays them. -/
def encC (f : Fm) : List Value := [.int .i64 (if 0 ≤ f.key then f.key else 0), .bool f.K, .bool f.mark, .int .i64 f.pins]
/-- As the statements' own clock lays them. -/
def encR (f : Fm) : List Value := [.int .i64 f.key, .int .i64 f.pins, .bool f.mark]
section
variable {E : Fm → List Value} {K : Nat} (hE : ∀ f, (E f).length = K)
include hE
theorem flat_len : ∀ (l : List Fm), (l.flatMap E).length = l.length * K
  | [] => by simp
  | f :: r => by rw [List.flatMap_cons, List.length_append, hE, flat_len r, List.length_cons, Nat.succ_mul]; omega
theorem flat_at : ∀ {l : List Fm} {i j : Nat} {f : Fm}, l[i]? = some f → j < K → (l.flatMap E)[i * K + j]? = (E f)[j]?
  | [], i, j, f, h, _ => by simp at h
  | g :: r, 0, j, f, h, hj => by
    simp only [List.getElem?_cons_zero, Option.some.injEq] at h
    subst h
    rw [List.flatMap_cons, Nat.zero_mul, Nat.zero_add, List.getElem?_append_left (by rw [hE]; exact hj)]
  | g :: r, i + 1, j, f, h, hj => by
    rw [List.flatMap_cons, List.getElem?_append_right (by rw [hE, Nat.succ_mul]; omega), hE, show (i + 1) * K + j - K = i * K + j by rw [Nat.succ_mul]; omega]
    exact flat_at (by simpa using h) hj
theorem flat_set : ∀ {l : List Fm} {i j : Nat} {f g : Fm} {v : Value}, l[i]? = some f → j < K → E g = (E f).set j v → (l.flatMap E).set (i * K + j) v = (l.set i g).flatMap E
  | [], i, j, f, g, v, h, _, _ => by simp at h
  | x :: r, 0, j, f, g, v, h, hj, e => by
    simp only [List.getElem?_cons_zero, Option.some.injEq] at h
    subst h
    rw [List.set_cons_zero, List.flatMap_cons, List.flatMap_cons, Nat.zero_mul, Nat.zero_add, List.set_append_left _ _ (by rw [hE]; exact hj), e]
  | x :: r, i + 1, j, f, g, v, h, hj, e => by
    rw [List.set_cons_succ, List.flatMap_cons, List.flatMap_cons, List.set_append_right _ _ (by rw [hE, Nat.succ_mul]; omega), hE, show (i + 1) * K + j - K = i * K + j by rw [Nat.succ_mul]; omega]
    rw [flat_set (by simpa using h) hj e]
end
/-- A clock in memory: its block, its row. -/
structure At (E : Fm → List Value) (w : World) (b r cap : Nat) (tl : List Value) (c : Ck) : Prop where
  blk : Blk w b [.slice (some ⟨r, 0, none⟩) c.l.length cap, .int .i64 c.h]
  row : Blk w r (c.l.flatMap E ++ tl)
  ne : b ≠ r
abbrev foot (b r : Nat) (k : Nat) : Prop := k = b ∨ k = r
section
variable {E : Fm → List Value} {w w' : World} {b r cap : Nat} {tl : List Value} {c : Ck}
theorem At.below (h : At E w b r cap tl c) (hb : Below w.heap.size w w') : At E w' b r cap tl c := ⟨h.blk.below hb h.blk.lt, h.row.below hb h.row.lt, h.ne⟩
theorem At.only {S : Nat → Prop} (h : At E w b r cap tl c) (ho : Only S w w') (h1 : ¬ S b) (h2 : ¬ S r) : At E w' b r cap tl c := ⟨h.blk.only ho h1, h.row.only ho h2, h.ne⟩
theorem At.hand (h : At E w b r cap tl c) (x : Nat) : At E (w.setCell ⟨b, 1, none⟩ (.int .i64 x)) b r cap tl { c with h := x } := ⟨h.blk.set 1 _, h.row.setOther h.ne.symm _, h.ne⟩
theorem At.cell {K : Nat} (hE : ∀ f, (E f).length = K) (h : At E w b r cap tl c) {i j : Nat} {f : Fm} {v : Value} (hi : c.l[i]? = some f) (hj : (E f)[j]? = some v) : w.cell? ⟨r, i * K + j, none⟩ = some v := by
  have hjK : j < K := by rw [← hE f]; exact (List.getElem?_eq_some_iff.1 hj).1
  have := flat_at hE hi hjK
  refine h.row.cell ?_
  rw [List.getElem?_append_left, this, hj]
  rw [flat_len hE]
  have := (List.getElem?_eq_some_iff.1 hi).1
  calc i * K + j < i * K + K := by omega
    _ = (i + 1) * K := by rw [Nat.succ_mul]
    _ ≤ c.l.length * K := Nat.mul_le_mul_right K this
theorem At.set {K : Nat} (hE : ∀ f, (E f).length = K) (h : At E w b r cap tl c) {i j : Nat} {f g : Fm} {v : Value} (hi : c.l[i]? = some f) (hj : j < K) (e : E g = (E f).set j v) : At E (w.setCell ⟨r, i * K + j, none⟩ v) b r cap tl { c with l := c.l.set i g } := by
  refine ⟨by simpa using h.blk.setOther (a := ⟨r, i * K + j, none⟩) h.ne v, ?_, h.ne⟩
  have h2 := h.row.set (i * K + j) v
  rw [List.set_append_left, flat_set hE hi hj e] at h2
  · exact h2
  · rw [flat_len hE]
    have := (List.getElem?_eq_some_iff.1 hi).1
    calc i * K + j < i * K + K := by omega
      _ = (i + 1) * K := by rw [Nat.succ_mul]
      _ ≤ c.l.length * K := Nat.mul_le_mul_right K this
end
theorem encC_len (f : Fm) : (encC f).length = 4 := rfl
theorem encR_len (f : Fm) : (encR f).length = 3 := rfl

end Kl
end Go.Proofs.YtaemjglblfencaaGreatDoor
