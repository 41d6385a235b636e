/- What a summary's sector is, and what summary a sector says: lists of numbers, no memory. -/
import Derived.Test.YtbhaifdhmfmeoaaSpec
import Derived.Test.YtbhaifdhmfmeoaaOwn
import Derived.Test.YtbhaifdhmfmeoaaLay
namespace Go.Proofs.Ytbhaifdhmfmeoaa
set_option linter.unusedSimpArgs false
set_option linter.unusedVariables false

/-- A mark: its kind, its number. -/
abbrev Mk := Int × Int
/-- A summary. -/
structure Sm where
  seq : Int
  more : Bool
  marks : List Mk



/-- Each field is of its type. -/
structure Sm.Wf (s : Sm) : Prop where
  seq : 0 ≤ s.seq ∧ s.seq < 4294967296
  marks : ∀ m ∈ s.marks, Small m.1 ∧ Small m.2



theorem zeros_byte (n : Nat) : ∀ x ∈ zeros n, Byte x := fun x hx => by
  rw [List.eq_of_mem_replicate hx]
  exact ⟨by decide, by decide⟩
def kindIds (n : Int) : Int := if n = 3 then 8 else if 1 ≤ n ∧ n ≤ 5 then 64 else 0
def hasBlock (n : Int) : Bool := decide (1 ≤ n) && decide (n ≤ 3)
/-- May a mark be? -/
def okMark (m : Mk) : Bool := decide (0 ≤ m.2) && decide (m.2 < kindIds m.1)
def blocks : List Mk → Nat
  | [] => 0
  | m :: l => (if hasBlock m.1 then 1 else 0) + blocks l
def goodMarks (l : List Mk) : Bool := decide (1 ≤ l.length) && decide (l.length ≤ 24) && l.all okMark
def Sm.good (s : Sm) : Bool := goodMarks s.marks
theorem okMark_iff {m : Mk} : okMark m = true ↔ (1 ≤ m.1 ∧ m.1 ≤ 5 ∧ 0 ≤ m.2 ∧ m.2 < 64 ∧ (m.1 = 3 → m.2 < 8)) := by
  have hk : kindIds m.1 = if m.1 = 3 then 8 else if 1 ≤ m.1 ∧ m.1 ≤ 5 then 64 else 0 := rfl
  unfold okMark
  generalize kindIds m.1 = n at *
  simp only [Bool.and_eq_true, decide_eq_true_eq]
  split at hk
  · omega
  · split at hk <;> omega
theorem blocks_le (l : List Mk) : blocks l ≤ l.length := by
  induction l with
  | nil => simp [blocks]
  | cons m l ih =>
    simp only [blocks, List.length_cons]
    split <;> omega
theorem blocks_append (l m : List Mk) : blocks (l ++ m) = blocks l + blocks m := by
  induction l with
  | nil => simp [blocks]
  | cons x l ih =>
    simp only [List.cons_append, blocks, ih]
    omega
theorem blocks_snoc {l : List Mk} {k : Nat} {m : Mk} (h : l[k]? = some m) : blocks (l.take (k + 1)) = blocks (l.take k) + if hasBlock m.1 then 1 else 0 := by
  rw [List.take_add_one, h, blocks_append]
  simp [blocks]
theorem blocks_same (n : Nat) (m : Mk) : blocks (List.replicate n m) = if hasBlock m.1 then n else 0 := by
  induction n with
  | zero => simp [blocks]
  | succ n ih =>
    simp only [List.replicate_succ, blocks, ih]
    split <;> omega







/-- Marks as numbers, one behind the other. -/
def flat : List Mk → List Int
  | [] => []
  | m :: l => m.1 :: m.2 :: flat l
theorem sflat_length (l : List Mk) : (flat l).length = 2 * l.length := by
  induction l with
  | nil => rfl
  | cons m l ih => simp only [flat, List.length_cons, ih]; omega
theorem flat_append (l m : List Mk) : flat (l ++ m) = flat l ++ flat m := by
  induction l with
  | nil => rfl
  | cons x l ih => simp [flat, ih]
theorem flat_fst (l : List Mk) (i : Nat) : (flat l)[2 * i]? = l[i]?.map Prod.fst := by
  induction l generalizing i with
  | nil => simp [flat]
  | cons m l ih =>
    cases i with
    | zero => simp [flat]
    | succ i =>
      rw [show 2 * (i + 1) = 2 * i + 1 + 1 by omega]
      simp only [flat, List.getElem?_cons_succ, ih]
theorem flat_snd (l : List Mk) (i : Nat) : (flat l)[2 * i + 1]? = l[i]?.map Prod.snd := by
  induction l generalizing i with
  | nil => simp [flat]
  | cons m l ih =>
    cases i with
    | zero => simp [flat]
    | succ i =>
      rw [show 2 * (i + 1) + 1 = 2 * i + 1 + 1 + 1 by omega]
      simp only [flat, List.getElem?_cons_succ, ih]
theorem flat_snoc {l : List Mk} {k : Nat} {m : Mk} (h : l[k]? = some m) : flat (l.take (k + 1)) = flat (l.take k) ++ [m.1, m.2] := by
  rw [List.take_add_one, h, flat_append]
  simp [flat]
theorem getD_zeros (l : List Int) (n k : Nat) : (l ++ zeros n).getD k 0 = l.getD k 0 := by
  simp only [List.getD_eq_getElem?_getD]
  by_cases h : k < l.length
  · rw [List.getElem?_append_left h]
  · rw [List.getElem?_append_right (by omega), List.getElem?_eq_none (l := l) (by omega), zeros, List.getElem?_replicate]
    split <;> rfl

def bit (b : Bool) : Int := if b then 1 else 0
theorem bit_range (b : Bool) : 0 ≤ bit b ∧ bit b ≤ 1 := by cases b <;> simp [bit]
/-- All ahead of the marks. -/
def Sm.pre (s : Sm) : List Int := 83 :: bit s.more :: (le 4 s.seq ++ [(s.marks.length : Int)])
theorem pre_length (s : Sm) : s.pre.length = 7 := by simp [Sm.pre, le_length]
/-- A summary's sector. -/
def Sm.enc (s : Sm) : List Int := s.pre ++ (flat s.marks ++ zeros (57 - 2 * s.marks.length))
def Sm.sec (s : Sm) : List Int := if s.good then s.enc else zeros 64
def Sm.err (s : Sm) : Int := if s.good then 0 else 11
def Sm.none : Sm := ⟨0, false, []⟩

def sseqOf (x : List Int) : Int := num ((x.drop 2).take 4)
def marksOf (x : List Int) (n : Nat) : List Mk := (List.range n).map fun i => (x.getD (7 + 2 * i) 0, x.getD (8 + 2 * i) 0)
theorem marksOf_length (x : List Int) (n : Nat) : (marksOf x n).length = n := by simp [marksOf]
theorem marksOf_at (x : List Int) {n i : Nat} (h : i < n) : (marksOf x n)[i]? = some (x.getD (7 + 2 * i) 0, x.getD (8 + 2 * i) 0) := by simp [marksOf, h]
theorem marksOf_snoc (x : List Int) (n : Nat) : marksOf x (n + 1) = marksOf x n ++ [(x.getD (7 + 2 * n) 0, x.getD (8 + 2 * n) 0)] := by simp [marksOf, List.range_succ]
/-- What the fields of a sector say. -/
def sreadOf (x : List Int) : Sm := ⟨sseqOf x, decide (x.getD 1 0 ≠ 0), marksOf x (min 24 (x.getD 6 0).toNat)⟩
/-- The same, of a More that is 1 alone. -/
def srreadOf (x : List Int) : Sm := ⟨sseqOf x, decide (x.getD 1 0 = 1), marksOf x (min 24 (x.getD 6 0).toNat)⟩

def isSum (x : List Int) : Bool := (sreadOf x).good && decide ((sreadOf x).enc = x)
def decS (x : List Int) : Sm := if isSum x then sreadOf x else Sm.none
def sdecE (x : List Int) : Int := if isSum x then 0 else 11

theorem good_len {l : List Mk} (h : goodMarks l = true) : 1 ≤ l.length ∧ l.length ≤ 24 := by
  simp only [goodMarks, Bool.and_eq_true, decide_eq_true_eq] at h
  exact h.1
theorem good_ok {l : List Mk} (h : goodMarks l = true) : ∀ m ∈ l, okMark m = true := by
  simp only [goodMarks, Bool.and_eq_true, List.all_eq_true] at h
  exact h.2
theorem good_byte {l : List Mk} (h : goodMarks l = true) : ∀ m ∈ l, Byte m.1 ∧ Byte m.2 := fun m hm => by
  have := okMark_iff.1 (good_ok h m hm)
  exact ⟨⟨by omega, by omega⟩, ⟨by omega, by omega⟩⟩
theorem flat_byte {l : List Mk} (h : ∀ m ∈ l, Byte m.1 ∧ Byte m.2) : ∀ x ∈ flat l, Byte x := by
  induction l with
  | nil => intro x hx; cases hx
  | cons m l ih =>
    intro x hx
    simp only [flat, List.mem_cons] at hx
    rcases hx with rfl | rfl | hx
    · exact (h m (by simp)).1
    · exact (h m (by simp)).2
    · exact ih (fun y hy => h y (by simp [hy])) x hx
theorem senc_length {s : Sm} (h : s.good = true) : s.enc.length = 64 := by
  have := good_len h
  simp only [Sm.enc, List.length_append, pre_length, sflat_length, zeros_length]
  omega
theorem ssec_length (s : Sm) : s.sec.length = 64 := by
  unfold Sm.sec
  split
  · exact senc_length ‹_›
  · exact zeros_length _
theorem senc_byte {s : Sm} (h : s.good = true) : ∀ x ∈ s.enc, Byte x := by
  have hl := good_len h
  have hb := bit_range s.more
  intro x hx
  simp only [Sm.enc, Sm.pre, List.mem_append, List.mem_cons, List.not_mem_nil, or_false, List.cons_append] at hx
  rcases hx with rfl | rfl | (hx | rfl) | hx | hx
  · exact ⟨by decide, by decide⟩
  · exact ⟨hb.1, by omega⟩
  · exact le_byte _ _ x hx
  · exact ⟨by omega, by omega⟩
  · exact flat_byte (good_byte h) x hx
  · exact zeros_byte _ x hx
theorem senc_sc {s : Sm} (h : s.good = true) : Sc s.enc := ⟨senc_length h, senc_byte h⟩
theorem sec_sc (s : Sm) : Sc s.sec := by
  unfold Sm.sec
  split
  · exact senc_sc ‹_›
  · exact ⟨zeros_length _, zeros_byte _⟩
theorem enc_mark (s : Sm) (k : Nat) : s.enc.getD (7 + k) 0 = (flat s.marks).getD k 0 := by
  have e : s.enc.getD (7 + k) 0 = (flat s.marks ++ zeros (57 - 2 * s.marks.length)).getD k 0 := by
    simp only [List.getD_eq_getElem?_getD, Sm.enc]
    rw [List.getElem?_append_right (by rw [pre_length]; omega), pre_length, show 7 + k - 7 = k by omega]
  rw [e, getD_zeros]
theorem enc_kind (s : Sm) (i : Nat) : s.enc.getD (7 + 2 * i) 0 = (s.marks.getD i (0, 0)).1 := by
  rw [enc_mark]
  simp only [List.getD_eq_getElem?_getD, flat_fst]
  cases s.marks[i]? <;> rfl
theorem enc_id (s : Sm) (i : Nat) : s.enc.getD (8 + 2 * i) 0 = (s.marks.getD i (0, 0)).2 := by
  rw [show 8 + 2 * i = 7 + (2 * i + 1) by omega, enc_mark]
  simp only [List.getD_eq_getElem?_getD, flat_snd]
  cases s.marks[i]? <;> rfl
theorem enc_0 (s : Sm) : s.enc.getD 0 0 = 83 := rfl
theorem enc_1 (s : Sm) : s.enc.getD 1 0 = bit s.more := rfl
theorem enc_6 (s : Sm) : s.enc.getD 6 0 = s.marks.length := rfl
theorem enc_seqs (s : Sm) : (s.enc.drop 2).take 4 = le 4 s.seq := rfl
theorem enc_seq (s : Sm) (i : Nat) (h : i < 4) : s.enc.getD (2 + i) 0 = (le 4 s.seq).getD i 0 := by
  rcases (show i = 0 ∨ i = 1 ∨ i = 2 ∨ i = 3 by omega) with rfl | rfl | rfl | rfl <;> rfl
theorem marks_enc (s : Sm) : marksOf s.enc s.marks.length = s.marks := by
  apply List.ext_getElem?
  intro i
  by_cases h : i < s.marks.length
  · rw [marksOf_at _ h, enc_kind, enc_id, List.getD_eq_getElem?_getD, List.getElem?_eq_getElem h]
    rfl
  · rw [List.getElem?_eq_none (by rw [marksOf_length]; omega), List.getElem?_eq_none (by omega)]
/-- The summary of a summary's sector is it. -/
theorem sread_enc {s : Sm} (h : s.good = true) (w : s.Wf) : sreadOf s.enc = s := by
  have hl := good_len h
  obtain ⟨seq, more, marks⟩ := s
  unfold sreadOf sseqOf
  rw [enc_seqs, enc_1, enc_6, num_le4 _ w.seq]
  simp only [Int.toNat_natCast]
  have e : min 24 marks.length = marks.length := Nat.min_eq_right hl.2
  have e2 := marks_enc ⟨seq, more, marks⟩
  simp only at e2 hl ⊢
  rw [e, e2]
  cases more <;> rfl
theorem isSum_enc {s : Sm} (h : s.good = true) (w : s.Wf) : isSum s.enc = true := by
  simp [isSum, sread_enc h w, h]
theorem senc_inj {s t : Sm} (hs : s.good = true) (ws : s.Wf) (ht : t.good = true) (wt : t.Wf) (e : s.enc = t.enc) : s = t := by
  have := sread_enc hs ws
  rw [e, sread_enc ht wt] at this
  exact this.symm
/-- A sector whose count is too great is none's. -/
theorem isSum_count {x : List Int} (h : isSum x = true) (hb : 0 ≤ x.getD 6 0) : x.getD 6 0 ≤ 24 := by
  simp only [isSum, Bool.and_eq_true, decide_eq_true_eq] at h
  have e := h.2
  have e6 : (sreadOf x).enc.getD 6 0 = (sreadOf x).marks.length := enc_6 _
  rw [e] at e6
  simp only [sreadOf, marksOf_length] at e6
  omega
theorem isSum_more {x : List Int} (h : isSum x = true) : x.getD 1 0 = 0 ∨ x.getD 1 0 = 1 := by
  simp only [isSum, Bool.and_eq_true, decide_eq_true_eq] at h
  have e1 : (sreadOf x).enc.getD 1 0 = bit (sreadOf x).more := enc_1 _
  rw [h.2] at e1
  rw [e1]
  cases (sreadOf x).more <;> simp [bit]
theorem isSum_first {x : List Int} (h : isSum x = true) : x.getD 0 0 = 83 := by
  simp only [isSum, Bool.and_eq_true, decide_eq_true_eq] at h
  rw [← h.2]
  rfl
/-- Both readings come to one. -/
theorem srread_is (x : List Int) : ((srreadOf x).good && decide ((srreadOf x).enc = x)) = isSum x := by
  by_cases h : x.getD 1 0 = 0 ∨ x.getD 1 0 = 1
  · have : srreadOf x = sreadOf x := by
      unfold srreadOf sreadOf
      rcases h with h | h <;> rw [h] <;> rfl
    rw [this]
    rfl
  · have h2 : isSum x = false := by
      cases e : isSum x with
      | false => rfl
      | true => exact absurd (isSum_more e) h
    rw [h2, Bool.and_eq_false_iff]
    right
    rw [decide_eq_false_iff_not]
    intro e
    have e1 : (srreadOf x).enc.getD 1 0 = bit (srreadOf x).more := enc_1 _
    rw [e] at e1
    have := bit_range (srreadOf x).more
    omega
theorem rread_sum {x : List Int} (h : isSum x = true) : srreadOf x = sreadOf x := by
  unfold srreadOf sreadOf
  rcases isSum_more h with h | h <;> rw [h] <;> rfl


theorem marksOf_small {x : List Int} (h : Sc x) (n : Nat) : ∀ m ∈ marksOf x n, Small m.1 ∧ Small m.2 := fun m hm => by
  obtain ⟨i, _, rfl⟩ := List.mem_map.1 hm
  have h1 := sc_byte h (7 + 2 * i)
  have h2 := sc_byte h (8 + 2 * i)
  exact ⟨⟨by simp only; omega, by simp only; omega⟩, ⟨by simp only; omega, by simp only; omega⟩⟩
theorem sreadOf_wf {x : List Int} (h : Sc x) : (sreadOf x).Wf := ⟨seqOf_range h, marksOf_small h _⟩
theorem rreadOf_wf {x : List Int} (h : Sc x) : (srreadOf x).Wf := ⟨seqOf_range h, marksOf_small h _⟩
theorem snone_wf : Sm.none.Wf := ⟨⟨by decide, by decide⟩, fun m hm => by cases hm⟩
theorem decS_wf {x : List Int} (h : Sc x) : (decS x).Wf := by
  unfold decS
  split
  · exact sreadOf_wf h
  · exact snone_wf
end Go.Proofs.Ytbhaifdhmfmeoaa
