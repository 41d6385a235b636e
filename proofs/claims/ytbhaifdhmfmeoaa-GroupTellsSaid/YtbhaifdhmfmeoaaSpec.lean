/- What a block's sector is, and what block a sector says: lists of numbers, no memory. -/
import Derived.Test.YtbhaifdhmfmeoaaProg
namespace Go.Proofs.Ytbhaifdhmfmeoaa
set_option linter.unusedSimpArgs false
set_option linter.unusedVariables false

/-- A block. -/
structure Bk where
  kind : Int
  id : Int
  page : List Int
  off : Int
  bytes : List Int
  prev : Int
  heads : List Int

def Small (n : Int) : Prop := -9223372036854775808 ≤ n ∧ n < 9223372036854775808
def Byte (n : Int) : Prop := 0 ≤ n ∧ n < 256
/-- Each field is of its type. -/
structure Bk.Wf (b : Bk) : Prop where
  kind : Small b.kind
  id : Small b.id
  off : Small b.off
  prev : Small b.prev
  page : b.page.length = 32
  pages : ∀ x ∈ b.page, Byte x
  bytes : b.bytes.length ≤ 9223372036854775807
  bytess : ∀ x ∈ b.bytes, Byte x
  heads : b.heads.length = 8
  headss : ∀ x ∈ b.heads, Small x

def zeros (n : Nat) : List Int := List.replicate n 0
theorem zeros_length (n : Nat) : (zeros n).length = n := by simp [zeros]
def isHead (h : Int) : Bool := decide (h = 0) || decide (h = 1) || (decide (4 ≤ h) && decide (h ≤ 1023))
def within (n a b : Int) : Bool := decide (a ≤ n) && decide (n ≤ b)
def Bk.plain (b : Bk) : Bool := decide (b.off = 0) && decide (b.bytes.length = 0) && decide (b.prev = 0)
def Bk.diff (b : Bk) : Bool := within b.bytes.length 1 16 && within b.off 0 (32 - b.bytes.length) && isHead b.prev && decide (b.prev ≠ 0)
/-- May it be? -/
def Bk.good (b : Bk) : Bool :=
  if b.kind = 1 then within b.id 0 63 && b.plain && decide (b.heads = zeros 8)
  else if b.kind = 2 then within b.id 0 63 && b.diff && decide (b.page = zeros 32) && decide (b.heads = zeros 8)
  else if b.kind = 3 then within b.id 0 7 && b.heads.all isHead && b.plain && decide (b.page = zeros 32)
  else false

/-- A number's bytes, the lowest first. -/
def le : Nat → Int → List Int
  | 0, _ => []
  | n + 1, v => v % 256 :: le n (v / 256)
def num : List Int → Int
  | [] => 0
  | x :: l => x + 256 * num l
theorem le_length (n : Nat) (v : Int) : (le n v).length = n := by
  induction n generalizing v with
  | zero => rfl
  | succ n ih => simp [le, ih]
theorem le_byte (n : Nat) (v : Int) : ∀ x ∈ le n v, Byte x := by
  induction n generalizing v with
  | zero => simp [le]
  | succ n ih =>
    intro x hx
    simp only [le, List.mem_cons] at hx
    rcases hx with rfl | hx
    · exact ⟨Int.emod_nonneg _ (by decide), Int.emod_lt_of_pos _ (by decide)⟩
    · exact ih _ x hx
theorem num_le4 (v : Int) (h : 0 ≤ v ∧ v < 4294967296) : num (le 4 v) = v := by
  simp only [le, num]
  omega
theorem num_le2 (v : Int) (h : 0 ≤ v ∧ v < 65536) : num (le 2 v) = v := by
  simp only [le, num]
  omega
theorem num_range (l : List Int) (h : ∀ x ∈ l, Byte x) : 0 ≤ num l ∧ num l < 256 ^ l.length := by
  induction l with
  | nil => simp [num]
  | cons x l ih =>
    have hx := h x (by simp)
    have := ih fun y hy => h y (by simp [hy])
    simp only [num, List.length_cons, Int.pow_succ]
    unfold Byte at hx
    omega

/-- A block's sector. -/
def Bk.enc (b : Bk) (n : Int) : List Int :=
  if b.kind = 1 then 1 :: b.id :: (le 4 n ++ (b.page ++ zeros 26))
  else if b.kind = 2 then 2 :: b.id :: (le 4 n ++ (b.off :: b.bytes.length :: (b.bytes ++ (zeros (16 - b.bytes.length) ++ (le 2 b.prev ++ zeros 38)))))
  else 3 :: b.id :: (le 4 n ++ (b.heads.flatMap (le 2) ++ zeros 42))
def Bk.sec (b : Bk) (n : Int) : List Int := if b.good then b.enc n else zeros 64
def Bk.err (b : Bk) : Int := if b.good then 0 else 11
def Bk.none : Bk := ⟨0, 0, zeros 32, 0, [], 0, zeros 8⟩

def kindOf (s : List Int) : Int := s.getD 0 0
def seqOf (s : List Int) : Int := num ((s.drop 2).take 4)
def headOf (s : List Int) (i : Nat) : Int := num ((s.drop (6 + 2 * i)).take 2)
/-- What the fields of a sector say. -/
def readOf (s : List Int) : Bk :=
  { kind := kindOf s, id := s.getD 1 0
    page := if kindOf s = 1 then (s.drop 6).take 32 else zeros 32
    off := if kindOf s = 2 then s.getD 6 0 else 0
    bytes := if kindOf s = 2 then (s.drop 8).take (min 16 (s.getD 7 0).toNat) ++ zeros ((s.getD 7 0).toNat - 16) else []
    prev := if kindOf s = 2 then num ((s.drop 24).take 2) else 0
    heads := if kindOf s = 3 then (List.range 8).map (headOf s) else zeros 8 }
/-- A sector of bytes. -/
structure Sc (s : List Int) : Prop where
  length : s.length = 64
  bytes : ∀ x ∈ s, Byte x
def isBlock (s : List Int) : Bool := (readOf s).good && decide ((readOf s).enc (seqOf s) = s)
def decB (s : List Int) : Bk := if isBlock s then readOf s else Bk.none
def decN (s : List Int) : Int := if isBlock s then seqOf s else 0
def decE (s : List Int) : Int := if isBlock s then 0 else 11

theorem flat_length (l : List Int) : (l.flatMap (le 2)).length = 2 * l.length := by
  induction l with
  | nil => rfl
  | cons x l ih => simp only [List.flatMap_cons, List.length_append, ih, le_length, List.length_cons]; omega
theorem heads_of (l : List Int) (h : l.length = 8) : ∃ a b c d e f g k, l = [a, b, c, d, e, f, g, k] := by
  match l, h with
  | [a, b, c, d, e, f, g, k], _ => exact ⟨a, b, c, d, e, f, g, k, rfl⟩
theorem isHead_range {h : Int} (e : isHead h = true) : 0 ≤ h ∧ h < 65536 := by
  simp only [isHead, Bool.or_eq_true, Bool.and_eq_true, decide_eq_true_eq] at e
  omega

theorem good_kind {b : Bk} (h : b.good = true) : (b.kind = 1 ∨ b.kind = 2 ∨ b.kind = 3) ∧ 0 ≤ b.id ∧ b.id ≤ 63 := by
  unfold Bk.good within at h
  split at h
  · simp at h; omega
  · split at h
    · simp at h; omega
    · split at h
      · simp at h; omega
      · cases h
theorem good1 {b : Bk} (h : b.good = true) (k : b.kind = 1) : b.off = 0 ∧ b.bytes = [] ∧ b.prev = 0 ∧ b.heads = zeros 8 := by
  simp [Bk.good, k, Bk.plain] at h
  exact ⟨h.1.2.1.1, h.1.2.1.2, h.1.2.2, h.2⟩
theorem good2 {b : Bk} (h : b.good = true) (k : b.kind = 2) : (1 ≤ b.bytes.length ∧ b.bytes.length ≤ 16) ∧ (0 ≤ b.off ∧ b.off ≤ 32 - b.bytes.length) ∧ (0 ≤ b.prev ∧ b.prev < 65536) ∧ b.page = zeros 32 ∧ b.heads = zeros 8 := by
  simp [Bk.good, k, Bk.diff, within] at h
  obtain ⟨⟨⟨_, ⟨⟨h1, h2⟩, h3⟩, h4⟩, h5⟩, h6⟩ := h
  have := isHead_range h3
  exact ⟨by omega, by omega, this, h5, h6⟩
theorem good3 {b : Bk} (h : b.good = true) (k : b.kind = 3) : (∀ x ∈ b.heads, 0 ≤ x ∧ x < 65536) ∧ b.off = 0 ∧ b.bytes = [] ∧ b.prev = 0 ∧ b.page = zeros 32 := by
  simp [Bk.good, k, Bk.plain] at h
  obtain ⟨⟨⟨_, h2⟩, ⟨h3, h4⟩, h5⟩, h6⟩ := h
  exact ⟨fun x hx => isHead_range (h2 x hx), h3, h4, h5, h6⟩

theorem enc_length {b : Bk} (h : b.good = true) (w : b.Wf) (n : Int) : (b.enc n).length = 64 := by
  have hp := w.page
  have hh := w.heads
  unfold Bk.enc
  split
  · simp [le_length, zeros_length, hp]
  · split
    · rename_i k
      have := (good2 h k).1
      simp [le_length, zeros_length]
      omega
    · simp only [List.length_cons, List.length_append, le_length, zeros_length, flat_length, hh]
theorem enc_byte {b : Bk} (h : b.good = true) (w : b.Wf) (n : Int) : ∀ x ∈ b.enc n, Byte x := by
  have hz : ∀ m, ∀ x ∈ zeros m, Byte x := fun m x hx => by
    rw [List.eq_of_mem_replicate hx]
    exact ⟨by decide, by decide⟩
  obtain ⟨hk, h0, h1⟩ := good_kind h
  have hid : Byte b.id := ⟨h0, by omega⟩
  unfold Bk.enc
  split
  · intro x hx
    simp only [List.mem_cons, List.mem_append] at hx
    rcases hx with rfl | rfl | hx | hx | hx
    · exact ⟨by decide, by decide⟩
    · exact hid
    · exact le_byte _ _ x hx
    · exact w.pages x hx
    · exact hz _ x hx
  · split
    · rename_i k
      have g2 := good2 h k
      intro x hx
      simp only [List.mem_cons, List.mem_append] at hx
      rcases hx with rfl | rfl | hx | rfl | rfl | hx | hx | hx | hx
      · exact ⟨by decide, by decide⟩
      · exact hid
      · exact le_byte _ _ x hx
      · exact ⟨g2.2.1.1, by omega⟩
      · exact ⟨by omega, by omega⟩
      · exact w.bytess x hx
      · exact hz _ x hx
      · exact le_byte _ _ x hx
      · exact hz _ x hx
    · intro x hx
      simp only [List.mem_cons, List.mem_append, List.mem_flatMap] at hx
      rcases hx with rfl | rfl | hx | ⟨y, _, hx⟩ | hx
      · exact ⟨by decide, by decide⟩
      · exact hid
      · exact le_byte _ _ x hx
      · exact le_byte _ _ x hx
      · exact hz _ x hx
theorem enc_sc {b : Bk} (h : b.good = true) (w : b.Wf) (n : Int) : Sc (b.enc n) := ⟨enc_length h w n, enc_byte h w n⟩

/-- The block of a block's sector is it. -/
theorem read_enc {b : Bk} (h : b.good = true) (w : b.Wf) (n : Int) (hn : 0 ≤ n ∧ n < 4294967296) : readOf (b.enc n) = b ∧ seqOf (b.enc n) = n := by
  obtain ⟨hk, _⟩ := good_kind h
  have hp := w.page
  have hh := w.heads
  have hs : seqOf (b.enc n) = n := by
    have e := num_le4 n hn
    unfold Bk.enc seqOf
    split
    · simpa [le] using e
    · split <;> simpa [le] using e
  refine ⟨?_, hs⟩
  obtain ⟨kind, id, page, off, bytes, prev, heads⟩ := b
  rcases hk with k | k | k
  · obtain ⟨e1, e2, e3, e4⟩ := good1 h k
    simp only at k e1 e2 e3 e4 hp
    subst k e1 e2 e3 e4
    simp [readOf, Bk.enc, kindOf, le, hp]
  · obtain ⟨⟨e1, e2⟩, _, ep, e3, e4⟩ := good2 h k
    simp only at k e1 e2 e3 e4 ep
    subst k e3 e4
    have ep2 := num_le2 prev ep
    simp only [le] at ep2
    have e5 : min 16 bytes.length = bytes.length := by omega
    have e6 : bytes.length - 16 = 0 := by omega
    have e7 : 16 - bytes.length = 16 - bytes.length := rfl
    have e8 : bytes.drop 16 = [] := List.drop_of_length_le e2
    have e9 : (zeros (16 - bytes.length)).drop (16 - bytes.length) = [] := List.drop_of_length_le (by simp [zeros])
    simp [readOf, Bk.enc, kindOf, le, e5, e6, zeros, List.drop_append]
    simpa [e8] using ep2
  · obtain ⟨e0, e1, e2, e3, e4⟩ := good3 h k
    simp only at k e0 e1 e2 e3 e4 hh
    subst k e1 e2 e3 e4
    obtain ⟨a, b, c, d, e, f, g, k, rfl⟩ := heads_of heads hh
    simp only [List.mem_cons, List.not_mem_nil, or_false, forall_eq_or_imp, forall_eq] at e0
    obtain ⟨p0, p1, p2, p3, p4, p5, p6, p7⟩ := e0
    have q0 := num_le2 a p0
    have q1 := num_le2 b p1
    have q2 := num_le2 c p2
    have q3 := num_le2 d p3
    have q4 := num_le2 e p4
    have q5 := num_le2 f p5
    have q6 := num_le2 g p6
    have q7 := num_le2 k p7
    simp only [le] at q0 q1 q2 q3 q4 q5 q6 q7
    simp [readOf, Bk.enc, kindOf, le, headOf, List.range, List.range.loop, q0, q1, q2, q3, q4, q5, q6, q7]
theorem isBlock_enc {b : Bk} (h : b.good = true) (w : b.Wf) (n : Int) (hn : 0 ≤ n ∧ n < 4294967296) : isBlock (b.enc n) = true := by
  obtain ⟨e1, e2⟩ := read_enc h w n hn
  simp [isBlock, e1, e2, h]
theorem enc_inj {b c : Bk} (hb : b.good = true) (wb : b.Wf) (hc : c.good = true) (wc : c.Wf) {n m : Int} (hn : 0 ≤ n ∧ n < 4294967296) (hm : 0 ≤ m ∧ m < 4294967296) (e : b.enc n = c.enc m) : b = c ∧ n = m := by
  obtain ⟨b1, b2⟩ := read_enc hb wb n hn
  obtain ⟨c1, c2⟩ := read_enc hc wc m hm
  rw [e] at b1 b2
  exact ⟨b1.symm.trans c1, b2.symm.trans c2⟩
/-- Behind a block's end there are zeros. -/
theorem enc_tail {b : Bk} (h : b.good = true) (w : b.Wf) (n : Int) (k : Nat) (h1 : 38 ≤ k) (h2 : k < 64) : (b.enc n)[k]? = some 0 := by
  have hp := w.page
  have hh := w.heads
  obtain ⟨j, rfl⟩ : ∃ j, k = j + 38 := ⟨k - 38, by omega⟩
  unfold Bk.enc
  split
  · simp only [le, List.cons_append, List.nil_append, List.getElem?_cons_succ]
    rw [List.getElem?_append_right (by omega), hp, zeros, List.getElem?_replicate, if_pos (by omega)]
  · split
    · rename_i k
      have := (good2 h k).1
      simp only [le, List.cons_append, List.nil_append, List.getElem?_cons_succ]
      rw [List.getElem?_append_right (by omega), List.getElem?_append_right (by simp [zeros]; omega)]
      rw [show j + 30 - b.bytes.length - (zeros (16 - b.bytes.length)).length = j + 12 + 1 + 1 by simp [zeros]; omega]
      simp only [List.getElem?_cons_succ]
      rw [zeros, List.getElem?_replicate, if_pos (by omega)]
    · obtain ⟨a1, a2, a3, a4, a5, a6, a7, a8, e⟩ := heads_of b.heads hh
      rw [e]
      simp only [le, List.flatMap_cons, List.flatMap_nil, List.cons_append, List.nil_append, List.getElem?_cons_succ, Nat.add_succ]
      rw [zeros, List.getElem?_replicate, if_pos (by omega)]
theorem readOf_wf {s : List Int} (h : Sc s) : (readOf s).Wf := by
  obtain ⟨hl, hb⟩ := h
  have hd : ∀ i, Byte (s.getD i 0) := fun i => by
    rw [List.getD_eq_getElem?_getD]
    cases e : s[i]? with
    | none => exact ⟨by decide, by decide⟩
    | some x => exact hb x (List.mem_of_getElem? e)
  have small : ∀ {x}, Byte x → Small x := fun h => ⟨by have := h.1; omega, by have := h.2; omega⟩
  have hz : ∀ m, ∀ x ∈ zeros m, Byte x := fun m x hx => by
    rw [List.eq_of_mem_replicate hx]
    exact ⟨by decide, by decide⟩
  have hnum : ∀ i, Small (num ((s.drop i).take 2)) := fun i => by
    have hb' : ∀ x ∈ (s.drop i).take 2, Byte x := fun x hx => hb x (List.mem_of_mem_drop (List.mem_of_mem_take hx))
    have h1 := num_range _ hb'
    have h2 : ((s.drop i).take 2).length ≤ 2 := by simp; omega
    generalize (s.drop i).take 2 = l at *
    have : (256 : Int) ^ l.length ≤ 65536 := by
      match l, h2 with
      | [], _ => decide
      | [_], _ => simp
      | [_, _], _ => simp
    exact ⟨by omega, by omega⟩
  have h0 : Small (0 : Int) := ⟨by decide, by decide⟩
  refine ⟨small (hd 0), small (hd 1), ?_, ?_, ?_, ?_, ?_, ?_, ?_, ?_⟩
  · simp only [readOf]; split
    · exact small (hd 6)
    · exact h0
  · simp only [readOf]; split
    · exact hnum 24
    · exact h0
  · simp only [readOf]; split <;> simp [hl, zeros]
  · simp only [readOf]; split
    · exact fun x hx => hb x (List.mem_of_mem_drop (List.mem_of_mem_take hx))
    · exact hz 32
  · simp only [readOf]; split
    · have := (hd 7).2
      have h1 := (hd 7).1
      simp only [List.length_append, List.length_take, zeros_length]
      omega
    · simp
  · simp only [readOf]; split
    · intro x hx
      rcases List.mem_append.1 hx with hx | hx
      · exact hb x (List.mem_of_mem_drop (List.mem_of_mem_take hx))
      · exact hz _ x hx
    · simp
  · simp only [readOf]; split <;> simp [zeros]
  · simp only [readOf]; split
    · intro x hx
      obtain ⟨i, _, rfl⟩ := List.mem_map.1 hx
      exact hnum _
    · intro x hx
      exact small (hz _ x hx)
theorem seqOf_range {s : List Int} (h : Sc s) : 0 ≤ seqOf s ∧ seqOf s < 4294967296 := by
  have hb' : ∀ x ∈ (s.drop 2).take 4, Byte x := fun x hx => h.bytes x (List.mem_of_mem_drop (List.mem_of_mem_take hx))
  have h1 := num_range _ hb'
  have h2 : ((s.drop 2).take 4).length = 4 := by simp [h.length]
  rw [h2] at h1
  exact h1
end Go.Proofs.Ytbhaifdhmfmeoaa
