/- A device of sectors: what it is (plain), how it lies in memory, and how its memory goes on. -/
import Derived.Test.YtdmjhpebpooiaaaMem
namespace Go.Proofs.Ytdmjhpebpooiaaa
open Go.RowKit

/-- A sector: sixty-four bytes. -/
structure Sec (cs : Array Value) : Prop where
  size : cs.size = 64
  byte : ∀ v ∈ cs, ∃ m, v = .int .u8 m
theorem Sec.one {cs : Array Value} (h : Sec cs) : ∀ v ∈ cs, v.oneCell' = true := fun v hv => by obtain ⟨m, rfl⟩ := h.byte v hv; rfl
/-- A sector of one byte. -/
def fillA (v : Int) : Array Value := Array.replicate 64 (.int .u8 v)
theorem fillA_sec (v : Int) : Sec (fillA v) := ⟨by simp [fillA], fun x hx => ⟨v, by simp [fillA] at hx; exact hx⟩⟩

/-- What an int holds. -/
def I64 (n : Int) : Prop := -9223372036854775808 ≤ n ∧ n ≤ 9223372036854775807

structure D where
  S : List (Array Value)
  L : List (Nat × Array Value)
  F : Int
  T : Nat

/-- Writes laid over sectors, in order. -/
def app (S : List (Array Value)) (L : List (Nat × Array Value)) : List (Array Value) := L.foldl (fun S p => S.set p.1 p.2) S
@[simp] theorem app_length (S : List (Array Value)) (L : List (Nat × Array Value)) : (app S L).length = S.length := by
  unfold app
  induction L generalizing S with
  | nil => rfl
  | cons p L ih => simp [ih]
theorem app_snoc (S : List (Array Value)) (L : List (Nat × Array Value)) (p : Nat × Array Value) : app S (L ++ [p]) = (app S L).set p.1 p.2 := by simp [app]
theorem app_append (S : List (Array Value)) (L M : List (Nat × Array Value)) : app S (L ++ M) = app (app S L) M := by simp [app]
theorem app_none (S : List (Array Value)) (L : List (Nat × Array Value)) (i : Nat) (h : ∀ p ∈ L, p.1 ≠ i) : (app S L)[i]? = S[i]? := by
  unfold app
  induction L generalizing S with
  | nil => rfl
  | cons p L ih =>
    simp only [List.foldl_cons]
    rw [ih _ fun q hq => h q (by simp [hq])]
    exact List.getElem?_set_ne (h p (by simp))
theorem app_sec {S : List (Array Value)} {L : List (Nat × Array Value)} (hS : ∀ s ∈ S, Sec s) (hL : ∀ p ∈ L, Sec p.2) : ∀ s ∈ app S L, Sec s := by
  unfold app
  induction L generalizing S with
  | nil => exact hS
  | cons p L ih =>
    simp only [List.foldl_cons]
    refine ih (fun s hs => ?_) fun q hq => hL q (by simp [hq])
    rcases List.mem_or_eq_of_mem_set hs with h | rfl
    · exact hS s h
    · exact hL p (by simp)

/-- Of the first k loose writes those that are kept. -/
def keptTo (L : List (Nat × Array Value)) (kp : Nat → Bool) : Nat → List (Nat × Array Value)
  | 0 => []
  | k + 1 => match L[k]? with
    | some p => if kp k then keptTo L kp k ++ [p] else keptTo L kp k
    | none => keptTo L kp k
theorem keptTo_yes {L : List (Nat × Array Value)} {kp : Nat → Bool} {k : Nat} {p : Nat × Array Value} (h : L[k]? = some p) (hk : kp k = true) : keptTo L kp (k + 1) = keptTo L kp k ++ [p] := by simp [keptTo, h, hk]
theorem keptTo_no {L : List (Nat × Array Value)} {kp : Nat → Bool} {k : Nat} (hk : kp k = false) : keptTo L kp (k + 1) = keptTo L kp k := by
  simp only [keptTo, hk]
  split <;> rfl
theorem keptTo_all (L : List (Nat × Array Value)) : ∀ k, k ≤ L.length → keptTo L (fun _ => true) k = L.take k
  | 0, _ => by simp [keptTo]
  | k + 1, h => by
    have hk : L[k]? = some L[k] := List.getElem?_eq_getElem (by omega)
    rw [keptTo_yes hk rfl, keptTo_all L k (by omega), List.take_succ_eq_append_getElem (by omega)]
theorem keptTo_mem {L : List (Nat × Array Value)} {kp : Nat → Bool} : ∀ {k : Nat} {p : Nat × Array Value}, p ∈ keptTo L kp k → p ∈ L
  | k + 1, p, h => by
    simp only [keptTo] at h
    split at h
    · rename_i q hq
      split at h
      · simp only [List.mem_append, List.mem_singleton] at h
        rcases h with h | rfl
        · exact keptTo_mem h
        · exact List.mem_of_getElem? hq
      · exact keptTo_mem h
    · exact keptTo_mem h
/-- Is byte k of keep there, and odd? -/
def oddAt (keep : List Int) (k : Nat) : Bool := decide (k < keep.length) && decide (keep.getD k 0 % 2 = 1)
/-- The loose writes whose byte of keep is odd. -/
def kept (L : List (Nat × Array Value)) (keep : List Int) : List (Nat × Array Value) := keptTo L (oddAt keep) L.length

def D.has (d : D) (i : Int) : Bool := decide (0 ≤ i) && decide (i < d.S.length)
def D.nextF (d : D) : Int := if d.F < 0 then d.F else d.F - 1
def D.write (d : D) (i : Int) (s : Array Value) : D := if d.has i then (if d.F = 0 then { d with F := -1 } else { d with F := d.nextF, T := d.T + 1, L := d.L ++ [(i.toNat, s)] }) else d
def D.writeE (d : D) (i : Int) : Int := if d.has i then (if d.F = 0 then 12 else 0) else 1
def D.flush (d : D) : D := if d.F = 0 then { d with F := -1 } else { d with F := d.nextF, T := d.T + 1, S := app d.S d.L, L := [] }
def D.flushE (d : D) : Int := if d.F = 0 then 12 else 0
def D.crash (d : D) (keep : List Int) : D := { d with S := app d.S (kept d.L keep), L := [], F := -1 }
def D.read (d : D) (i : Int) : Array Value := if d.has i then (app d.S d.L).getD i.toNat (fillA 0) else fillA 0
def D.readE (d : D) (i : Int) : Int := if d.has i then 0 else 1
def newD (n : Nat) : D := ⟨List.replicate n (fillA 0), [], -1, 0⟩

/-- Cells of sectors, one behind the other; of loose writes. -/
def flat (S : List (Array Value)) : List Value := S.flatMap (·.toList)
def flatL (L : List (Nat × Array Value)) : List Value := L.flatMap fun p => .int .i64 p.1 :: p.2.toList
theorem flat_length {S : List (Array Value)} (h : ∀ s ∈ S, Sec s) : (flat S).length = S.length * 64 := by
  induction S with
  | nil => rfl
  | cons s S ih =>
    have := ih fun t ht => h t (by simp [ht])
    have h1 := (h s (by simp)).size
    simp only [flat, List.flatMap_cons, List.length_append, List.length_cons] at this ⊢
    simp only [Array.length_toList]
    omega
theorem flat_at {S : List (Array Value)} (h : ∀ s ∈ S, Sec s) {i : Nat} {s : Array Value} (hi : S[i]? = some s) {j : Nat} (hj : j < 64) : (flat S)[i * 64 + j]? = s[j]? := by
  induction S generalizing i with
  | nil => simp at hi
  | cons t S ih =>
    have h1 := (h t (by simp)).size
    cases i with
    | zero =>
      simp only [List.getElem?_cons_zero, Option.some.injEq] at hi
      subst hi
      simp only [flat, List.flatMap_cons, Nat.zero_mul, Nat.zero_add]
      rw [List.getElem?_append_left (by simp; omega)]
      simp
    | succ i =>
      simp only [List.getElem?_cons_succ] at hi
      have := ih (fun t ht => h t (by simp [ht])) hi
      simp only [flat, List.flatMap_cons] at this ⊢
      rw [List.getElem?_append_right (by simp; omega), ← this]
      congr 1
      simp
      omega
theorem flat_splice {S : List (Array Value)} (h : ∀ s ∈ S, Sec s) {i : Nat} (hi : i < S.length) {s : Array Value} (hs : Sec s) : (splice (flat S) (i * 64) s).toList = flat (S.set i s) := by
  induction S generalizing i with
  | nil => simp at hi
  | cons t S ih =>
    have h1 := (h t (by simp)).size
    have h2 := hs.size
    cases i with
    | zero =>
      simp only [splice, flat, List.flatMap_cons, List.set_cons_zero, Nat.zero_mul, List.take_zero, List.nil_append, Nat.zero_add]
      rw [List.drop_append_of_le_length (by simp; omega), List.drop_of_length_le (by simp; omega)]
      simp
    | succ i =>
      have := ih (fun t ht => h t (by simp [ht])) (by simpa using hi)
      simp only [splice, flat, List.flatMap_cons, List.set_cons_succ] at this ⊢
      rw [← this]
      have e1 : (t.toList ++ List.flatMap (fun x => x.toList) S).take ((i + 1) * 64) = t.toList ++ (List.flatMap (fun x => x.toList) S).take (i * 64) := by
        rw [List.take_append]
        rw [List.take_of_length_le (by simp; omega)]
        congr 2
        simp
        omega
      have e2 : (t.toList ++ List.flatMap (fun x => x.toList) S).drop ((i + 1) * 64 + s.size) = (List.flatMap (fun x => x.toList) S).drop (i * 64 + s.size) := by
        rw [List.drop_append]
        rw [List.drop_of_length_le (by simp; omega)]
        simp only [List.nil_append]
        congr 1
        simp
        omega
      simp [e1, e2]
theorem flatL_length {L : List (Nat × Array Value)} (h : ∀ p ∈ L, Sec p.2) : (flatL L).length = L.length * 65 := by
  induction L with
  | nil => rfl
  | cons s S ih =>
    have := ih fun t ht => h t (by simp [ht])
    have h1 := (h s (by simp)).size
    simp only [flatL, List.flatMap_cons, List.length_append, List.length_cons] at this ⊢
    simp only [Array.length_toList]
    omega
theorem flatL_at {L : List (Nat × Array Value)} (h : ∀ p ∈ L, Sec p.2) {i : Nat} {p : Nat × Array Value} (hi : L[i]? = some p) {j : Nat} (hj : j < 65) : (flatL L)[i * 65 + j]? = (Value.int .i64 p.1 :: p.2.toList)[j]? := by
  induction L generalizing i with
  | nil => simp at hi
  | cons t S ih =>
    have h1 := (h t (by simp)).size
    cases i with
    | zero =>
      simp only [List.getElem?_cons_zero, Option.some.injEq] at hi
      subst hi
      simp only [flatL, List.flatMap_cons, Nat.zero_mul, Nat.zero_add]
      rw [List.getElem?_append_left (by simp; omega)]
    | succ i =>
      simp only [List.getElem?_cons_succ] at hi
      have := ih (fun t ht => h t (by simp [ht])) hi
      simp only [flatL, List.flatMap_cons] at this ⊢
      rw [List.getElem?_append_right (by simp; omega), ← this]
      congr 1
      simp
      omega
theorem flatL_snoc (L : List (Nat × Array Value)) (p : Nat × Array Value) : flatL (L ++ [p]) = flatL L ++ (.int .i64 p.1 :: p.2.toList) := by simp [flatL]
end Go.Proofs.Ytdmjhpebpooiaaa
