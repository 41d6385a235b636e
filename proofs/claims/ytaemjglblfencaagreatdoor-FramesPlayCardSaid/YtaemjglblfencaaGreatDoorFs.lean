/- What frames hold: what each call comes to; lists and numbers, no memory. -/
import Derived.Test.YtaemjglblfencaaGreatDoorKCd
import Derived.Test.YtaemjglblfencaaGreatDoorApp
namespace Go.Proofs.YtaemjglblfencaaGreatDoor
set_option linter.unusedSimpArgs false
set_option linter.unusedVariables false
open Go.RowKit Kl

/-- What a frame was given to hold. -/
structure Hd where
  base : List Int
  now : List Int
  heads : List Int
structure Hd.Ok (x : Hd) : Prop where
  base : Pg x.base
  now : Pg x.now
  heads : x.heads.length = 8
abbrev noHd : Hd := ⟨zeros 32, zeros 32, zeros 8⟩
theorem noHd_ok : noHd.Ok := ⟨Pg.zeros, Pg.zeros, rfl⟩
/-- Frames: their clock, and what each frame was given last. -/
structure Fs where
  c : Ck
  h : List Hd
structure Fs.Ok (B : Nat) (s : Fs) : Prop where
  ck : s.c.Ok B
  len : s.h.length = s.c.l.length
  hd : ∀ (i : Nat) (x : Hd), s.h[i]? = some x → x.Ok
  key : ∀ (i : Nat) (f : Fm), s.c.l[i]? = some f → f.key < 72
  mp : ∀ (i : Nat) (f : Fm) (x : Hd), s.c.l[i]? = some f → s.h[i]? = some x → 64 ≤ f.key → x.base = x.now
theorem Fs.Ok.mono {B C : Nat} {s : Fs} (h : s.Ok B) (hb : B ≤ C) : s.Ok C := ⟨h.ck.mono hb, h.len, h.hd, h.key, h.mp⟩
theorem Fs.Ok.at {B : Nat} {s : Fs} (h : s.Ok B) {k : Nat} (hk : k < s.c.l.length) : ∃ f x, s.c.l[k]? = some f ∧ s.h[k]? = some x := ⟨_, _, List.getElem?_eq_getElem hk, List.getElem?_eq_getElem (by rw [h.len]; exact hk)⟩
def newFs (n : Nat) : Fs := ⟨newCk n, List.replicate n noHd⟩
theorem newFs_ok {n : Nat} (h1 : 1 ≤ n) (h2 : n ≤ 16) : (newFs n).Ok 0 := by
  refine ⟨newCk_ok h1 h2, by simp [newFs, newCk], fun i x e => ?_, fun i f e => ?_, fun i f x e e2 h => ?_⟩
  · simp only [newFs, List.getElem?_replicate] at e
    split at e
    · cases e; exact noHd_ok
    · cases e
  · simp only [newFs, newCk, List.getElem?_replicate] at e
    split at e
    · cases e; decide
    · cases e
  · simp only [newFs, newCk, List.getElem?_replicate] at e
    split at e
    · cases e; exact absurd h (by decide)
    · cases e
def Fs.page (s : Fs) (p : Int) : Option Nat := if 0 ≤ p ∧ p < 64 then s.c.find p else none
/-- Does a frame hold a dirty page? -/
def Fs.dirtyN (s : Fs) (i : Nat) : Bool := match s.c.l[i]?, s.h[i]? with
  | some f, some x => f.K && decide (x.base ≠ x.now)
  | _, _ => false
def Fs.dirty (s : Fs) (i : Int) : Bool := if 0 ≤ i then s.dirtyN i.toNat else false
theorem Fs.dirty_nat (s : Fs) (k : Nat) : s.dirty (k : Int) = s.dirtyN k := by unfold Fs.dirty; rw [if_pos (by omega), Int.toNat_natCast]
theorem Fs.dirtyN_at {s : Fs} {k : Nat} {f : Fm} {x : Hd} (hf : s.c.l[k]? = some f) (hx : s.h[k]? = some x) : s.dirtyN k = (f.K && decide (x.base ≠ x.now)) := by simp only [Fs.dirtyN, hf, hx]
def Fs.may (s : Fs) (i key : Int) : Bool := !s.dirty i && s.c.mayPut i key
def Fs.put (s : Fs) (i key : Int) (x : Hd) : Fs := if s.may i key then ⟨s.c.put i key, s.h.set i.toNat x⟩ else s
def pageKey (p : Int) : Bool := decide (0 ≤ p) && decide (p < 64)
def someKey (p : Int) : Bool := decide (0 ≤ p) && decide (p < 72)
def mapKey (id : Int) : Int := if id < 0 then id else IntKind.i64.wrap (64 + id)
theorem mapKey_in {id : Int} (h0 : 0 ≤ id) (h1 : id < 8) : mapKey id = 64 + id := by unfold mapKey; rw [if_neg (by omega), IntKind.wrap_i64]; omega
theorem mapKey_out {id : Int} (hs : Kl.Small id) (h : id < 0 ∨ 8 ≤ id) : mapKey id < 0 ∨ 72 ≤ mapKey id := by
  unfold mapKey
  have := hs.1
  have := hs.2
  split
  · exact .inl (by omega)
  · rw [IntKind.wrap_i64]; omega
theorem mapKey_page {id : Int} (hs : Kl.Small id) : pageKey (mapKey id) = false := by
  unfold mapKey pageKey
  have := hs.1
  have := hs.2
  split
  · simp; omega
  · rw [IntKind.wrap_i64]; simp; omega
theorem mapKey_some {id : Int} (hs : Kl.Small id) : someKey (mapKey id) = (decide (0 ≤ id) && decide (id < 8)) := by
  by_cases h : 0 ≤ id ∧ id < 8
  · rw [mapKey_in h.1 h.2, someKey, decide_eq_true h.1, decide_eq_true h.2]
    simp; omega
  · have h2 := mapKey_out hs (by omega)
    have : (decide (0 ≤ id) && decide (id < 8)) = false := by simp; omega
    rw [this, someKey]
    simp
    omega
def Fs.hold (s : Fs) (i p : Int) (base : List Int) : Bool × Fs := if pageKey p then (s.may i p, s.put i p ⟨base, base, zeros 8⟩) else (false, s)
def Fs.holdMap (s : Fs) (i id : Int) (heads : List Int) : Bool × Fs := if 0 ≤ id ∧ id < 8 then (s.may i (64 + id), s.put i (64 + id) ⟨zeros 32, zeros 32, heads⟩) else (false, s)
def Fs.turn (s : Fs) (k : Nat) (g : Hd → Hd) : Fs := match s.h[k]? with
  | some x => { s with h := s.h.set k (g x) }
  | none => s
def Fs.write (s : Fs) (p off : Int) (l : List Int) : Int × Fs := match s.page p with
  | some k => if Fits off l then (0, { (s.turn k fun x => { x with now := layI x.now off.toNat l }) with c := s.c.touch k }) else (18, s)
  | none => (17, s)
def Fs.clean (s : Fs) (p : Int) : Fs := match s.page p with
  | some k => s.turn k fun x => { x with base := x.now }
  | none => s
def Fs.forgets (s : Fs) (key : Int) : Bool := match s.c.find key with
  | some k => s.c.may k
  | none => false
def Fs.forget (s : Fs) (key : Int) : Fs := match s.c.find key with
  | some k => { s with c := s.c.drop k }
  | none => s
/-- The dirty pages, rising. -/
def Fs.isDirty (s : Fs) (p : Nat) : Bool := match s.c.find p with
  | some k => s.dirtyN k
  | none => false
def Fs.dirties (s : Fs) : List Int := ((List.range 64).filter s.isDirty).map Int.ofNat
/-- The same, frame by frame. -/
def Fs.keys (s : Fs) : Nat → List Int
  | 0 => []
  | k + 1 => s.keys k ++ (if s.dirtyN k then (match s.c.l[k]? with | some f => [f.key] | none => []) else [])

/-! Where a key is. -/
theorem find_at {B : Nat} {c : Ck} (h : c.Ok B) {key : Int} {k : Nat} (hf : c.find key = some k) : ∃ f, c.l[k]? = some f ∧ f.key = key ∧ 0 ≤ key ∧ f.K = true := by
  obtain ⟨j, f, e, hj, hp, -⟩ := first_some hf
  unfold isKey at hp
  rw [Bool.and_eq_true] at hp
  have hk := of_decide_eq_true hp.1
  have hq := of_decide_eq_true hp.2
  obtain rfl : k = j := by omega
  exact ⟨f, hj, hq, by omega, hp.1⟩
theorem find_is {B : Nat} {c : Ck} (h : c.Ok B) {k : Nat} {f : Fm} (hk : c.l[k]? = some f) (h0 : 0 ≤ f.key) : c.find f.key = some k := by
  cases e : c.find f.key with
  | none =>
    have := first_none e k f hk
    simp [isKey, Fm.K, h0] at this
  | some q =>
    obtain ⟨g, hg, e2, _, _⟩ := find_at h e
    rw [h.one q k g f hg hk (by omega) e2]
theorem find_lt {B : Nat} {c : Ck} (h : c.Ok B) {key : Int} {k : Nat} (hf : c.find key = some k) : k < c.l.length := by
  obtain ⟨f, hk, -⟩ := find_at h hf
  exact (List.getElem?_eq_some_iff.1 hk).1
theorem find_out {B : Nat} {s : Fs} (h : s.Ok B) {key : Int} (hk : key < 0 ∨ 72 ≤ key) : s.c.find key = none := by
  cases e : s.c.find key with
  | none => rfl
  | some k =>
    obtain ⟨f, hf, e2, h0, _⟩ := find_at h.ck e
    have := h.key k f hf
    omega
/-! The dirty pages, sorted. -/
theorem keys_mem {B : Nat} {s : Fs} (h : s.Ok B) : ∀ (n : Nat), n ≤ s.c.l.length → ∀ x, x ∈ s.keys n ↔ ∃ (k : Nat) (f : Fm), k < n ∧ s.c.l[k]? = some f ∧ s.dirtyN k = true ∧ x = f.key
  | 0, _, x => by simp [Fs.keys]
  | n + 1, hn, x => by
    obtain ⟨f, y, hf, hy⟩ := h.at (k := n) (by omega)
    rw [Fs.keys, List.mem_append, keys_mem h n (by omega) x, hf]
    constructor
    · rintro (⟨k, g, hk, hg, hd, e⟩ | hx)
      · exact ⟨k, g, by omega, hg, hd, e⟩
      · by_cases hd : s.dirtyN n = true
        · rw [if_pos hd] at hx
          exact ⟨n, f, by omega, hf, hd, by simpa using hx⟩
        · rw [if_neg hd] at hx; cases hx
    · rintro ⟨k, g, hk, hg, hd, e⟩
      by_cases hkn : k = n
      · subst hkn
        rw [hf] at hg; cases hg
        right; rw [if_pos hd]; simp [e]
      · exact .inl ⟨k, g, by omega, hg, hd, e⟩
theorem dirty_key {B : Nat} {s : Fs} (h : s.Ok B) {k : Nat} {f : Fm} (hf : s.c.l[k]? = some f) (hd : s.dirtyN k = true) : 0 ≤ f.key ∧ f.key < 64 := by
  obtain ⟨g, x, hg, hx⟩ := h.at (k := k) (List.getElem?_eq_some_iff.1 hf).1
  rw [Fs.dirtyN_at hf hx] at hd
  simp only [Fm.K, Bool.and_eq_true, decide_eq_true_eq] at hd
  refine ⟨hd.1, ?_⟩
  rcases Int.lt_or_le f.key 64 with h1 | h1
  · exact h1
  · exact absurd (h.mp k f x hf hx h1) hd.2
theorem keys_nodup {B : Nat} {s : Fs} (h : s.Ok B) : ∀ (n : Nat), n ≤ s.c.l.length → (s.keys n).Nodup
  | 0, _ => List.nodup_nil
  | n + 1, hn => by
    obtain ⟨f, y, hf, hy⟩ := h.at (k := n) (by omega)
    rw [Fs.keys, hf]
    by_cases hd : s.dirtyN n = true
    · rw [if_pos hd]
      refine List.nodup_append.2 ⟨keys_nodup h n (by omega), by simp, fun a ha b hb => ?_⟩
      simp only [List.mem_singleton] at hb
      subst hb
      rintro rfl
      obtain ⟨k, g, hk, hg, hdk, e⟩ := (keys_mem h n (by omega) _).1 ha
      have := (h.ck.one n k f g hf hg (dirty_key h hf hd).1 e)
      omega
    · rw [if_neg hd, List.append_nil]
      exact keys_nodup h n (by omega)
theorem dirties_mem {B : Nat} {s : Fs} (h : s.Ok B) (x : Int) : x ∈ s.dirties ↔ x ∈ s.keys s.c.l.length := by
  rw [keys_mem h _ (Nat.le_refl _)]
  simp only [Fs.dirties, List.mem_map, List.mem_filter, List.mem_range]
  constructor
  · rintro ⟨p, ⟨hp, hd⟩, rfl⟩
    unfold Fs.isDirty at hd
    cases e : s.c.find (p : Int) with
    | none => rw [e] at hd; cases hd
    | some k =>
      rw [e] at hd
      obtain ⟨f, hf, e2, h0, -⟩ := find_at h.ck e
      exact ⟨k, f, find_lt h.ck e, hf, hd, e2.symm⟩
  · rintro ⟨k, f, hk, hf, hd, rfl⟩
    have hr := dirty_key h hf hd
    refine ⟨f.key.toNat, ⟨by omega, ?_⟩, by show ((f.key.toNat : Nat) : Int) = f.key; omega⟩
    unfold Fs.isDirty
    rw [show ((f.key.toNat : Nat) : Int) = f.key by omega, find_is h.ck hf hr.1]
    exact hd
theorem dirties_sorted (s : Fs) : s.dirties.Pairwise (fun a b => a < b) := by
  unfold Fs.dirties
  rw [List.pairwise_map]
  refine List.Pairwise.filter _ ?_
  exact List.pairwise_lt_range.imp fun h => by show (_ : Int) < _; exact Int.ofNat_lt.2 h
theorem sort_keys {B : Nat} {s : Fs} (h : s.Ok B) : (s.keys s.c.l.length).mergeSort (fun x y => decide (x ≤ y)) = s.dirties := by
  have hp : (s.keys s.c.l.length).Perm s.dirties := by
    refine (List.perm_ext_iff_of_nodup (keys_nodup h _ (Nat.le_refl _)) ?_).2 fun x => (dirties_mem h x).symm
    exact (dirties_sorted s).imp fun hlt e => by omega
  have h1 := List.pairwise_mergeSort (le := fun x y : Int => decide (x ≤ y)) (fun a b c h1 h2 => by simp only [decide_eq_true_eq] at *; omega) (fun a b => by simp only [Bool.or_eq_true, decide_eq_true_eq]; omega) (s.keys s.c.l.length)
  refine List.Perm.eq_of_pairwise (le := fun x y : Int => decide (x ≤ y) = true) (fun a b _ _ h1 h2 => ?_) h1 ((dirties_sorted s).imp fun hlt => by simp only [decide_eq_true_eq]; omega) ((List.mergeSort_perm _ _).trans hp)
  simp only [decide_eq_true_eq] at h1 h2
  omega
theorem dirties_len {B : Nat} {s : Fs} (h : s.Ok B) : s.dirties.length ≤ 64 := by
  unfold Fs.dirties
  rw [List.length_map]
  exact Nat.le_trans (List.length_filter_le _ _) (by simp)
theorem keys_len (s : Fs) : ∀ n, (s.keys n).length ≤ n
  | 0 => Nat.le_refl _
  | n + 1 => by
    rw [Fs.keys, List.length_append]
    have := keys_len s n
    split
    · split <;> simp <;> omega
    · simp; omega

/-! What stays as it may be. -/
theorem Fs.Ok.turn {B : Nat} {s : Fs} (h : s.Ok B) {k : Nat} {g : Hd → Hd} (hg : ∀ x, s.h[k]? = some x → (g x).Ok) (hm : ∀ x f, s.h[k]? = some x → s.c.l[k]? = some f → 64 ≤ f.key → (g x).base = (g x).now) : (s.turn k g).Ok B := by
  unfold Fs.turn
  cases e : s.h[k]? with
  | none => exact h
  | some x =>
    have hlt := (List.getElem?_eq_some_iff.1 e).1
    refine ⟨h.ck, by simpa using h.len, fun i y hy => ?_, h.key, fun i f y hf hy h64 => ?_⟩
    · simp only [List.getElem?_set] at hy
      split at hy
      · simp only [hlt, if_true, Option.some.injEq] at hy; subst hy; exact hg x e
      · exact h.hd i y hy
    · simp only [List.getElem?_set] at hy
      split at hy
      · rename_i hki
        simp only [hlt, if_true, Option.some.injEq] at hy; subst hy; subst hki; exact hm x f e hf h64
      · exact h.mp i f y hf hy h64
theorem Fs.turn_c (s : Fs) (k : Nat) (g : Hd → Hd) : (s.turn k g).c = s.c := by unfold Fs.turn; split <;> rfl
/-- The clock turned, but no key. -/
theorem Fs.Ok.clock {B C : Nat} {s : Fs} (h : s.Ok B) {c : Ck} (hc : c.Ok C) (hl : c.l.length = s.c.l.length) (hk : ∀ (i : Nat) (f : Fm), c.l[i]? = some f → f.key < 0 ∨ ∃ g, s.c.l[i]? = some g ∧ g.key = f.key) : Fs.Ok C { s with c := c } := by
  refine ⟨hc, by rw [h.len, hl], h.hd, fun i f hf => ?_, fun i f x hf hx h64 => ?_⟩
  · rcases hk i f hf with h0 | ⟨g, hg, e⟩
    · omega
    · rw [← e]; exact h.key i g hg
  · rcases hk i f hf with h0 | ⟨g, hg, e⟩
    · omega
    · exact h.mp i g x hg hx (by omega)
theorem turn_keys (c : Ck) (i : Int) (g : Fm → Fm) (hg : ∀ f, (g f).key = f.key) : ∀ (k : Nat) (f : Fm), (c.turn i g).l[k]? = some f → ∃ f', c.l[k]? = some f' ∧ f'.key = f.key := fun k f hf => by
  unfold Ck.turn at hf
  cases e : c.get i with
  | none => simp only [e] at hf; exact ⟨f, hf, rfl⟩
  | some x =>
    obtain ⟨j, rfl, hj, hx⟩ := Ck.get_some e
    simp only [e, Int.toNat_natCast, List.getElem?_set] at hf
    split at hf
    · rename_i hjk
      subst hjk
      simp only [if_pos hj, Option.some.injEq] at hf
      subst hf
      exact ⟨x, hx, (hg x).symm⟩
    · exact ⟨f, hf, rfl⟩
theorem touch_keys (c : Ck) (i : Int) : ∀ (k : Nat) (f : Fm), (c.touch i).l[k]? = some f → ∃ f', c.l[k]? = some f' ∧ f'.key = f.key := fun k f hf => by
  unfold Ck.touch at hf
  split at hf
  · exact turn_keys c i (fun f => { f with mark := true }) (fun _ => rfl) k f hf
  · exact ⟨f, hf, rfl⟩
theorem pin_keys (c : Ck) (i : Int) : ∀ (k : Nat) (f : Fm), (c.pin i).l[k]? = some f → ∃ f', c.l[k]? = some f' ∧ f'.key = f.key := fun k f hf => by
  unfold Ck.pin at hf
  split at hf
  · exact turn_keys c i (fun f => { f with pins := f.pins + 1 }) (fun _ => rfl) k f hf
  · exact ⟨f, hf, rfl⟩
theorem unpin_keys (c : Ck) (i : Int) : ∀ (k : Nat) (f : Fm), (c.unpin i).l[k]? = some f → ∃ f', c.l[k]? = some f' ∧ f'.key = f.key := fun k f hf => by
  unfold Ck.unpin at hf
  split at hf
  · exact turn_keys c i (fun f => { f with pins := f.pins - 1 }) (fun _ => rfl) k f hf
  · exact ⟨f, hf, rfl⟩
theorem drop_keys {c : Ck} (i : Int) : ∀ (k : Nat) (f : Fm), (c.drop i).l[k]? = some f → f.key < 0 ∨ ∃ f', c.l[k]? = some f' ∧ f'.key = f.key := fun k f hf => by
  unfold Ck.drop at hf
  split at hf
  · simp only [List.getElem?_set] at hf
    split at hf
    · split at hf
      · cases hf; exact .inl (by decide)
      · cases hf
    · exact .inr ⟨f, hf, rfl⟩
  · exact .inr ⟨f, hf, rfl⟩
theorem may_at {c : Ck} {i key : Int} (h : c.mayPut i key = true) : ∃ (k : Nat) (f : Fm), i = (k : Int) ∧ c.l[k]? = some f ∧ 0 ≤ key := by
  unfold Ck.mayPut Ck.may at h
  cases e : c.get i with
  | none => simp [e] at h
  | some f =>
    obtain ⟨k, rfl, hk, hf⟩ := Ck.get_some e
    simp only [e, Bool.and_eq_true, decide_eq_true_eq] at h
    exact ⟨k, f, rfl, hf, h.1.1⟩
theorem Fs.Ok.put {B : Nat} {s : Fs} (h : s.Ok B) (i key : Int) (x : Hd) (hx : x.Ok) (hk : key < 72) (hm : 64 ≤ key → x.base = x.now) : (s.put i key x).Ok B := by
  unfold Fs.put
  by_cases hp : s.may i key = true
  · rw [if_pos hp]
    unfold Fs.may at hp
    rw [Bool.and_eq_true] at hp
    obtain ⟨k, f, rfl, hf, h0⟩ := may_at hp.2
    have hlt := (List.getElem?_eq_some_iff.1 hf).1
    refine ⟨h.ck.put _ key (by omega), by rw [Ck.put_len]; simpa using h.len, fun j y hy => ?_, fun j g hg => ?_, fun j g y hg hy h64 => ?_⟩
    · simp only [Int.toNat_natCast, List.getElem?_set] at hy
      split at hy
      · split at hy
        · cases hy; exact hx
        · cases hy
      · exact h.hd j y hy
    · rw [put_yes hp.2] at hg
      simp only [List.getElem?_set] at hg
      split at hg
      · simp only [if_pos hlt, Option.some.injEq] at hg
        subst hg; exact hk
      · exact h.key j g hg
    · rw [put_yes hp.2] at hg
      simp only [Int.toNat_natCast, List.getElem?_set] at hg hy
      split at hg
      · rename_i e
        subst e
        simp only [if_pos hlt, Option.some.injEq] at hg
        subst hg
        rw [if_pos rfl] at hy
        split at hy
        · cases hy; exact hm h64
        · cases hy
      · rename_i e
        rw [if_neg e] at hy
        exact h.mp j g y hg hy h64
  · rw [if_neg hp]; exact h
theorem Fs.Ok.hold {B : Nat} {s : Fs} (h : s.Ok B) (i p : Int) {l : List Int} (hl : Pg l) : (s.hold i p l).2.Ok B := by
  unfold Fs.hold
  split
  · rename_i hp
    simp only [pageKey, Bool.and_eq_true, decide_eq_true_eq] at hp
    exact h.put i p _ ⟨hl, hl, rfl⟩ (by omega) fun _ => rfl
  · exact h
theorem Fs.Ok.holdMap {B : Nat} {s : Fs} (h : s.Ok B) (i p : Int) {l : List Int} (hl : l.length = 8) : (s.holdMap i p l).2.Ok B := by
  unfold Fs.holdMap
  split
  · exact h.put i _ _ ⟨Pg.zeros, Pg.zeros, hl⟩ (by omega) fun _ => rfl
  · exact h
theorem Fs.page_key {s : Fs} {p : Int} {k : Nat} (hp : s.page p = some k) : 0 ≤ p ∧ p < 64 ∧ s.c.find p = some k := by
  unfold Fs.page at hp
  split at hp
  · rename_i h; exact ⟨h.1, h.2, hp⟩
  · cases hp
theorem Fs.page_at {B : Nat} {s : Fs} (h : s.Ok B) {p : Int} {k : Nat} (hp : s.page p = some k) : 0 ≤ p ∧ p < 64 ∧ s.c.find p = some k ∧ ∃ f x, s.c.l[k]? = some f ∧ s.h[k]? = some x ∧ f.key = p ∧ x.Ok := by
  obtain ⟨h0, h1, h2⟩ := Fs.page_key hp
  obtain ⟨f, hf, e, _, _⟩ := find_at h.ck h2
  obtain ⟨_, x, _, hx⟩ := h.at (k := k) (find_lt h.ck h2)
  exact ⟨h0, h1, h2, f, x, hf, hx, e, h.hd k x hx⟩
theorem Fs.Ok.write {B : Nat} {s : Fs} (h : s.Ok B) (p off : Int) {l : List Int} (hl : ∀ y ∈ l, Byte y) : (s.write p off l).2.Ok B := by
  unfold Fs.write
  cases e : s.page p with
  | none => exact h
  | some k =>
    simp only
    split
    · rename_i hf
      obtain ⟨h0, h1, h2, f, x, hfk, hx, ef, hxo⟩ := Fs.page_at h e
      have ht := h.turn (k := k) (g := fun x => { x with now := layI x.now off.toNat l }) (fun y hy => by
        rw [hx] at hy; cases hy
        have hof : (off.toNat : Int) = off := by have := hf.1; omega
        exact ⟨hxo.base, lay_page hxo.now _ (by rw [hof]; exact hf) hl, hxo.heads⟩) (fun y g hy hg h64 => by
        rw [hfk] at hg; cases hg; omega)
      have hc := ht.clock (h.ck.touch k) (by rw [Ck.touch_len, Fs.turn_c]) fun i g hg => by
        obtain ⟨f', h1, h2⟩ := touch_keys s.c k i g hg
        exact .inr ⟨f', by rw [Fs.turn_c]; exact h1, h2⟩
      exact hc
    · exact h
theorem Fs.Ok.clean {B : Nat} {s : Fs} (h : s.Ok B) (p : Int) : (s.clean p).Ok B := by
  unfold Fs.clean
  cases e : s.page p with
  | none => exact h
  | some k =>
    refine h.turn (fun x hx => ?_) fun x f _ _ _ => rfl
    have := h.hd k x hx
    exact ⟨this.now, this.now, this.heads⟩
theorem Fs.Ok.forget {B : Nat} {s : Fs} (h : s.Ok B) (key : Int) : (s.forget key).Ok B := by
  unfold Fs.forget
  cases e : s.c.find key with
  | none => exact h
  | some k => exact h.clock (h.ck.drop k) (Ck.drop_len _ _) (drop_keys _)
theorem Fs.Ok.pin {B : Nat} {s : Fs} (h : s.Ok B) (i : Int) : Fs.Ok (B + 1) { s with c := s.c.pin i } := h.clock (h.ck.pin i) (Ck.pin_len _ _) fun k f hf => .inr (pin_keys _ _ k f hf)
theorem Fs.Ok.unpin {B : Nat} {s : Fs} (h : s.Ok B) (i : Int) : Fs.Ok B { s with c := s.c.unpin i } := h.clock (h.ck.unpin i) (Ck.unpin_len _ _) fun k f hf => .inr (unpin_keys _ _ k f hf)

end Go.Proofs.YtaemjglblfencaaGreatDoor
