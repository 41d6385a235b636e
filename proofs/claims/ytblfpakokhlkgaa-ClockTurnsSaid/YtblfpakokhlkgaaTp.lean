/- What ClockTurns comes to, over lists. -/
import Derived.Test.YtblfpakokhlkgaaCb
namespace Go.Proofs.Ytblfpakokhlkgaa
set_option linter.unusedSimpArgs false
set_option linter.unusedVariables false
open Go.RowKit

/-- Frames with the keys from 100 on: which are pinned, which are marked. -/
def tl (n : Nat) (p mk : Nat → Bool) : List Fm := (List.range n).map fun (i : Nat) => (⟨100 + (i : Int), mk i, if p i then 1 else 0⟩ : Fm)
/-- The first k have their keys. -/
def pt (n k : Nat) : List Fm := (List.range n).map fun (i : Nat) => if i < k then (⟨100 + (i : Int), true, 0⟩ : Fm) else noFm
theorem tl_len (n : Nat) (p mk : Nat → Bool) : (tl n p mk).length = n := by simp [tl]
theorem pt_len (n k : Nat) : (pt n k).length = n := by simp [pt]
theorem tl_get {n : Nat} {p mk : Nat → Bool} {i : Nat} (h : i < n) : (tl n p mk)[i]? = some ⟨100 + (i : Int), mk i, if p i then 1 else 0⟩ := by simp [tl, h]
theorem pt_get {n k i : Nat} (h : i < n) : (pt n k)[i]? = some (if i < k then ⟨100 + (i : Int), true, 0⟩ else noFm) := by simp [pt, h]
theorem pt_all (n : Nat) : pt n n = tl n (fun _ => false) (fun _ => true) := by
  apply List.ext_getElem?
  intro i
  by_cases h : i < n
  · rw [pt_get h, tl_get h, if_pos h]; rfl
  · rw [List.getElem?_eq_none (by rw [pt_len]; omega), List.getElem?_eq_none (by rw [tl_len]; omega)]
theorem pt_none (n : Nat) : pt n 0 = List.replicate n noFm := by
  apply List.ext_getElem?
  intro i
  by_cases h : i < n
  · rw [pt_get h, List.getElem?_replicate, if_pos h, if_neg (by omega)]
  · rw [List.getElem?_eq_none (by rw [pt_len]; omega), List.getElem?_eq_none (by simp; omega)]
theorem pt_set {n k : Nat} (h : k < n) : (pt n k).set k ⟨100 + (k : Int), true, 0⟩ = pt n (k + 1) := by
  apply List.ext_getElem?
  intro i
  rw [List.getElem?_set, pt_len]
  by_cases hi : k = i
  · subst hi
    rw [if_pos rfl, if_pos h, pt_get h, if_pos (by omega)]
  · rw [if_neg hi]
    by_cases hn : i < n
    · rw [pt_get hn, pt_get hn]
      by_cases hk : i < k
      · rw [if_pos hk, if_pos (by omega)]
      · rw [if_neg hk, if_neg (by omega)]
    · rw [List.getElem?_eq_none (by rw [pt_len]; omega), List.getElem?_eq_none (by rw [pt_len]; omega)]
theorem pt_victim {n k : Nat} (h : k < n) (hd : Nat) : (⟨pt n k, hd⟩ : Ck).victim = (some k, ⟨pt n k, hd⟩) := by
  unfold Ck.victim
  simp only
  cases hf : firstFrom noKey (pt n k) 0 with
  | none =>
    have := first_none hf k _ (pt_get h)
    rw [if_neg (by omega)] at this
    exact absurd this (by decide)
  | some i =>
    obtain ⟨j, f, e, hj, hp, hn⟩ := first_some hf
    have hjn : j < n := by have := (List.getElem?_eq_some_iff.1 hj).1; rwa [pt_len] at this
    have h1 : ¬ j < k := fun hlt => by
      rw [pt_get hjn, if_pos hlt] at hj
      cases hj
      simp [noKey] at hp
      omega
    have h2 : ¬ k < j := fun hlt => by
      have := hn k _ hlt (pt_get h)
      rw [if_neg (by omega)] at this
      exact absurd this (by decide)
    have : i = k := by omega
    rw [this]
theorem pt_find {n k : Nat} (h : k < n) (hd : Nat) : (⟨pt n k, hd⟩ : Ck).find (100 + (k : Int)) = none := by
  cases hf : (⟨pt n k, hd⟩ : Ck).find (100 + (k : Int)) with
  | none => rfl
  | some i =>
    obtain ⟨j, f, e, hj, hp, hn⟩ := first_some hf
    have hjn : j < n := by have := (List.getElem?_eq_some_iff.1 hj).1; rwa [pt_len] at this
    simp only at hj
    rw [pt_get hjn] at hj
    by_cases hlt : j < k
    · rw [if_pos hlt] at hj
      cases hj
      simp [isKey] at hp
      omega
    · rw [if_neg hlt] at hj
      cases hj
      simp [isKey, Fm.K] at hp
theorem pt_may {n k : Nat} (h : k < n) (hd : Nat) : (⟨pt n k, hd⟩ : Ck).mayPut k (100 + (k : Int)) = true := by
  unfold Ck.mayPut Ck.may
  rw [pt_find h hd, Ck.get_nat]
  simp only
  rw [pt_get h, if_neg (by omega)]
  simp [Fm.P]
  omega
theorem pt_put {n k : Nat} (h : k < n) (hd : Nat) : (⟨pt n k, hd⟩ : Ck).put k (100 + (k : Int)) = ⟨pt n (k + 1), hd⟩ := by
  rw [put_yes (pt_may h hd)]
  simp only [pt_set h]
theorem tl_set {n : Nat} {p mk : Nat → Bool} {h : Nat} (hn : h < n) (x y : Bool) : (tl n p mk).set h ⟨100 + (h : Int), x, if y then 1 else 0⟩ = tl n (fun i => if i = h then y else p i) (fun i => if i = h then x else mk i) := by
  apply List.ext_getElem?
  intro i
  rw [List.getElem?_set, tl_len]
  by_cases hi : h = i
  · subst hi
    rw [if_pos rfl, if_pos hn, tl_get hn]
    simp
  · rw [if_neg hi]
    by_cases hk : i < n
    · have hi2 : ¬ i = h := fun e => hi e.symm
      rw [tl_get hk, tl_get hk]
      simp only [hi2, if_false]
    · rw [List.getElem?_eq_none (by rw [tl_len]; omega), List.getElem?_eq_none (by rw [tl_len]; omega)]
theorem tl_congr {n : Nat} {p q mk nk : Nat → Bool} (h1 : ∀ i, i < n → p i = q i) (h2 : ∀ i, i < n → mk i = nk i) : tl n p mk = tl n q nk := by
  apply List.ext_getElem?
  intro i
  by_cases hk : i < n
  · rw [tl_get hk, tl_get hk, h1 i hk, h2 i hk]
  · rw [List.getElem?_eq_none (by rw [tl_len]; omega), List.getElem?_eq_none (by rw [tl_len]; omega)]
section
variable {n m : Nat} {p mk : Nat → Bool} {h : Nat}
theorem sp_pin (hn : h < n) (hp : p h = true) : spin (m + 1) (tl n p mk) h = spin m (tl n p mk) ((h + 1) % n) := by
  rw [spin, tl_get hn]
  simp [Fm.P, hp, tl_len]
theorem sp_mark (hn : h < n) (hp : p h = false) (hm : mk h = true) : spin (m + 1) (tl n p mk) h = spin m (tl n p (fun i => if i = h then false else mk i)) ((h + 1) % n) := by
  rw [spin, tl_get hn]
  simp only [Fm.P, hp, hm, tl_len, Bool.false_eq_true, if_false, if_true, decide_false, show ¬ (0 : Int) < 0 by omega]
  have := tl_set (p := p) (mk := mk) hn false false
  simp only [Bool.false_eq_true, if_false] at this
  rw [this]
  congr 1
  exact tl_congr (fun i hi => by by_cases e : i = h <;> simp [e, hp]) fun i _ => rfl
theorem sp_stop (hn : h < n) (hp : p h = false) (hm : mk h = false) : spin (m + 1) (tl n p mk) h = (some h, ⟨tl n p mk, (h + 1) % n⟩) := by
  rw [spin, tl_get hn]
  simp [Fm.P, hp, hm, tl_len]
end
theorem sp_skip {n m : Nat} {p mk : Nat → Bool} : ∀ (d h : Nat), h + d < n → (∀ i, h ≤ i → i < h + d → p i = true) → spin (m + d) (tl n p mk) h = spin m (tl n p mk) (h + d)
  | 0, h, _, _ => rfl
  | d + 1, h, hn, hp => by
    rw [show m + (d + 1) = m + d + 1 by omega, sp_pin (by omega) (hp h (by omega) (by omega)), Nat.mod_eq_of_lt (show h + 1 < n by omega), sp_skip (m := m) d (h + 1) (by omega) fun i h1 h2 => hp i (by omega) (by omega)]
    rw [show h + 1 + d = h + (d + 1) by omega]
theorem sp_end {n m : Nat} {p mk : Nat → Bool} : ∀ (d h : Nat), h + d = n → (∀ i, h ≤ i → i < n → p i = true) → spin (m + d) (tl n p mk) (h % n) = spin m (tl n p mk) 0
  | 0, h, hn, _ => by rw [show h = n by omega, Nat.mod_self]; rfl
  | d + 1, h, hn, hp => by
    rw [show m + (d + 1) = m + d + 1 by omega, Nat.mod_eq_of_lt (show h < n by omega), sp_pin (by omega) (hp h (by omega) (by omega)), sp_end (m := m) d (h + 1) (by omega) fun i h1 h2 => hp i (by omega) h2]
theorem sp_pass {n m : Nat} {p : Nat → Bool} : ∀ (d h : Nat) (mk : Nat → Bool), h + d = n → (∀ i, h ≤ i → i < n → mk i = true) →
    ∃ nk : Nat → Bool, (∀ i, i < h → nk i = mk i) ∧ (∀ i, h ≤ i → i < n → p i = false → nk i = false) ∧ spin (m + d) (tl n p mk) (h % n) = spin m (tl n p nk) 0
  | 0, h, mk, hn, _ => ⟨mk, fun _ _ => rfl, fun i h1 h2 => by omega, by rw [show h = n by omega, Nat.mod_self]; rfl⟩
  | d + 1, h, mk, hn, hm => by
    by_cases hp : p h = true
    · obtain ⟨nk, k1, k2, k3⟩ := sp_pass (n := n) (m := m) (p := p) d (h + 1) mk (by omega) fun i h1 h2 => hm i (by omega) h2
      refine ⟨nk, fun i hi => k1 i (by omega), fun i h1 h2 h3 => ?_, ?_⟩
      · by_cases e : i = h
        · subst e; rw [hp] at h3; cases h3
        · exact k2 i (by omega) h2 h3
      · rw [show m + (d + 1) = m + d + 1 by omega, Nat.mod_eq_of_lt (show h < n by omega), sp_pin (by omega) hp, k3]
    · have hp2 : p h = false := by simpa using hp
      obtain ⟨nk, k1, k2, k3⟩ := sp_pass (n := n) (m := m) (p := p) d (h + 1) (fun i => if i = h then false else mk i) (by omega) fun i h1 h2 => by
        have e : ¬ i = h := by omega
        simp only [e, if_false]
        exact hm i (by omega) h2
      refine ⟨nk, fun i hi => by
        have e : ¬ i = h := by omega
        rw [k1 i (by omega)]
        simp only [e, if_false], fun i h1 h2 h3 => ?_, ?_⟩
      · by_cases e : i = h
        · subst e; rw [k1 i (by omega), if_pos rfl]
        · exact k2 i (by omega) h2 h3
      · rw [show m + (d + 1) = m + d + 1 by omega, Nat.mod_eq_of_lt (show h < n by omega), sp_mark (by omega) hp2 (hm h (by omega) (by omega)), k3]
theorem tl_victim {n : Nat} (p mk : Nat → Bool) (h : Nat) : (⟨tl n p mk, h⟩ : Ck).victim = spin (2 * n) (tl n p mk) h := by
  unfold Ck.victim
  simp only
  cases hf : firstFrom noKey (tl n p mk) 0 with
  | none => simp only [tl_len]
  | some i =>
    obtain ⟨j, f, e, hj, hp, hn⟩ := first_some hf
    have hjn : j < n := by have := (List.getElem?_eq_some_iff.1 hj).1; rwa [tl_len] at this
    rw [tl_get hjn] at hj
    cases hj
    simp [noKey] at hp
    omega
def loose (n : Nat) (p : Nat → Bool) : List Nat := (List.range n).filter fun i => !p i
theorem mem_loose {n : Nat} {p : Nat → Bool} {i : Nat} : i ∈ loose n p ↔ i < n ∧ p i = false := by simp [loose]
theorem loose_lt (n : Nat) (p : Nat → Bool) : (loose n p).Pairwise (· < ·) := List.pairwise_lt_range.filter _
theorem loose_next {n : Nat} {p : Nat → Bool} {k i : Nat} (hk : i ≤ n) : loose (k + 1) p = loose k p ++ (if p k then [] else [k]) := by
  unfold loose
  rw [List.range_succ, List.filter_append]
  by_cases h : p k <;> simp [h]
/-- The first two that are loose, and the one behind them. -/
theorem loose_cases {n : Nat} {p : Nat → Bool} {a b : Nat} {r : List Nat} (h : loose n p = a :: b :: r) :
    a < b ∧ b < n ∧ p a = false ∧ p b = false ∧ (∀ i, i < a → p i = true) ∧ (∀ i, a < i → i < b → p i = true) ∧ (r = [] → ∀ i, b < i → i < n → p i = true) ∧ (∀ d s, r = d :: s → b < d ∧ d < n ∧ p d = false ∧ ∀ i, b < i → i < d → p i = true) := by
  have hs := loose_lt n p
  rw [h] at hs
  obtain ⟨h1, hs2⟩ := List.pairwise_cons.1 hs
  obtain ⟨h2, hs3⟩ := List.pairwise_cons.1 hs2
  have hm : ∀ i, i ∈ a :: b :: r ↔ i < n ∧ p i = false := fun i => by rw [← h]; exact mem_loose
  have ha := (hm a).1 (by simp)
  have hb := (hm b).1 (by simp)
  have hab := h1 b (by simp)
  have hP : ∀ i, i < n → i ∉ a :: b :: r → p i = true := fun i hi hni => by
    cases e : p i with
    | true => rfl
    | false => exact absurd ((hm i).2 ⟨hi, e⟩) hni
  refine ⟨hab, hb.1, ha.2, hb.2, fun i hi => hP i (by omega) fun hc => ?_, fun i hi hi2 => hP i (by omega) fun hc => ?_, fun hr i hi hi2 => hP i hi2 fun hc => ?_, fun d s hr => ?_⟩
  · rcases List.mem_cons.1 hc with e | hc
    · omega
    · have := h1 i hc; omega
  · rcases List.mem_cons.1 hc with e | hc
    · omega
    · rcases List.mem_cons.1 hc with e | hc
      · omega
      · have := h2 i hc; omega
  · subst hr
    simp at hc
    omega
  · subst hr
    have hd := (hm d).1 (by simp)
    have hbd := h2 d (by simp)
    obtain ⟨h3, _⟩ := List.pairwise_cons.1 hs3
    refine ⟨hbd, hd.1, hd.2, fun i hi hi2 => hP i (by omega) fun hc => ?_⟩
    rcases List.mem_cons.1 hc with e | hc
    · omega
    · rcases List.mem_cons.1 hc with e | hc
      · omega
      · rcases List.mem_cons.1 hc with e | hc
        · omega
        · have := h3 i hc; omega
/-- All have keys and marks: the first one that is loose. -/
theorem turn_one {n : Nat} {p : Nat → Bool} {a b : Nat} {r : List Nat} (h : loose n p = a :: b :: r) :
    ∃ nk : Nat → Bool, (∀ i, i < n → p i = false → nk i = false) ∧ (⟨tl n p (fun _ => true), 0⟩ : Ck).victim = (some a, ⟨tl n p nk, a + 1⟩) := by
  obtain ⟨hab, hbn, ha, hb, hA, -, -, -⟩ := loose_cases h
  obtain ⟨nk, -, k2, k3⟩ := sp_pass (n := n) (m := n) (p := p) n 0 (fun _ => true) (by omega) fun _ _ _ => rfl
  refine ⟨nk, fun i h1 h2 => k2 i (by omega) h1 h2, ?_⟩
  rw [tl_victim, show 2 * n = n + n by omega]
  rw [Nat.zero_mod] at k3
  rw [k3]
  have h1 := sp_skip (n := n) (m := n - a) (p := p) (mk := nk) a 0 (by omega) fun i _ hi => hA i (by omega)
  rw [show n - a + a = n by omega, Nat.zero_add] at h1
  rw [h1, show n - a = n - a - 1 + 1 by omega, sp_stop (by omega) ha (k2 a (by omega) (by omega) ha), Nat.mod_eq_of_lt (by omega)]
/-- Asked again, one of the others touched in between. -/
theorem turn_two {n : Nat} {p nk : Nat → Bool} {a b t : Nat} {r : List Nat} (h : loose n p = a :: b :: r) (hk : ∀ i, i < n → p i = false → nk i = false) (ht : t ∈ b :: r) :
    (⟨tl n p (fun i => if i = t then true else nk i), a + 1⟩ : Ck).victim.1 = some (if t = b then (match r with | d :: _ => d | [] => a) else b) := by
  obtain ⟨hab, hbn, ha, hb, hA, hB, hR, hD⟩ := loose_cases h
  have hs := loose_lt n p
  rw [h] at hs
  obtain ⟨h1, hs2⟩ := List.pairwise_cons.1 hs
  have hta := h1 t ht
  have htn : t < n := (mem_loose.1 (by rw [h]; exact List.mem_cons_of_mem _ ht)).1
  rw [tl_victim, show 2 * n = n + (n - (b - (a + 1))) + (b - (a + 1)) by omega, sp_skip (m := n + (n - (b - (a + 1)))) (b - (a + 1)) (a + 1) (by omega) fun i h2 h3 => hB i (by omega) (by omega), show a + 1 + (b - (a + 1)) = b by omega]
  generalize hq : n + (n - (b - (a + 1))) = q
  obtain ⟨q, rfl⟩ : ∃ q', q = q' + 1 := ⟨q - 1, by omega⟩
  by_cases htb : t = b
  · subst htb
    rw [if_pos rfl, sp_mark hbn hb (by simp)]
    match r, h, ht, hR, hD with
    | [], h, _, hR, _ =>
      have e1 := sp_end (n := n) (m := q - (n - (t + 1))) (p := p) (mk := fun i => if i = t then false else if i = t then true else nk i) (n - (t + 1)) (t + 1) (by omega) fun i h2 h3 => hR rfl i (by omega) h3
      rw [show q - (n - (t + 1)) + (n - (t + 1)) = q by omega] at e1
      rw [e1]
      have e2 := sp_skip (n := n) (m := q - (n - (t + 1)) - a) (p := p) (mk := fun i => if i = t then false else if i = t then true else nk i) a 0 (by omega) fun i _ hi => hA i (by omega)
      rw [show q - (n - (t + 1)) - a + a = q - (n - (t + 1)) by omega, Nat.zero_add] at e2
      rw [e2, show q - (n - (t + 1)) - a = q - (n - (t + 1)) - a - 1 + 1 by omega, sp_stop (by omega) ha (by rw [if_neg (by omega), if_neg (by omega)]; exact hk a (by omega) ha)]
    | d :: s, h, _, _, hD =>
      obtain ⟨d1, d2, d3, d4⟩ := hD d s rfl
      rw [Nat.mod_eq_of_lt (by omega)]
      have e2 := sp_skip (n := n) (m := q - (d - (t + 1))) (p := p) (mk := fun i => if i = t then false else if i = t then true else nk i) (d - (t + 1)) (t + 1) (by omega) fun i h2 h3 => d4 i (by omega) (by omega)
      rw [show q - (d - (t + 1)) + (d - (t + 1)) = q by omega, show t + 1 + (d - (t + 1)) = d by omega] at e2
      rw [e2, show q - (d - (t + 1)) = q - (d - (t + 1)) - 1 + 1 by omega, sp_stop (by omega) d3 (by rw [if_neg (by omega), if_neg (by omega)]; exact hk d d2 d3)]
  · rw [if_neg htb, sp_stop hbn hb (by rw [if_neg (by omega)]; exact hk b hbn hb)]
theorem tl_touch {n : Nat} {p mk : Nat → Bool} {t h : Nat} (ht : t < n) : (⟨tl n p mk, h⟩ : Ck).touch t = ⟨tl n p (fun i => if i = t then true else mk i), h⟩ := by
  rw [touch_yes (f := ⟨100 + (t : Int), mk t, if p t then 1 else 0⟩) (tl_get ht) (by simp [Fm.K]; omega)]
  have := tl_set (p := p) (mk := mk) ht true (p t)
  simp only at this ⊢
  rw [this]
  congr 1
  exact tl_congr (fun i hi => by by_cases e : i = t <;> simp [e]) fun i _ => rfl
theorem tl_keyed {n : Nat} {p mk : Nat → Bool} {t h : Nat} (ht : t < n) : (⟨tl n p mk, h⟩ : Ck).keyed t = true := by
  unfold Ck.keyed
  rw [Ck.get_nat]
  simp only
  rw [tl_get ht]
  simp [Fm.K]
  omega
theorem tl_pin {n : Nat} {p mk : Nat → Bool} {t h : Nat} (ht : t < n) (hp : p t = false) : (⟨tl n p mk, h⟩ : Ck).pin t = ⟨tl n (fun i => if i = t then true else p i) mk, h⟩ := by
  rw [pin_yes (f := ⟨100 + (t : Int), mk t, if p t then 1 else 0⟩) (tl_get ht) (by simp [Fm.K]; omega)]
  have := tl_set (p := p) (mk := mk) ht (mk t) true
  simp only [hp, Bool.false_eq_true, if_false, if_true, Int.zero_add] at this ⊢
  rw [this]
  congr 1
  exact tl_congr (fun i hi => rfl) fun i _ => by by_cases e : i = t <;> simp [e]

end Go.Proofs.Ytblfpakokhlkgaa
