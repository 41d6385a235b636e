/- Bytes laid over a page; blocks, and when one may be; chains, and the page that one comes to: lists of numbers, no memory. -/
import Derived.Test.YtlmehhjgagddoaaDoorMem
namespace Go.Proofs.YtlmehhjgagddoaaDoor
set_option linter.unusedSimpArgs false
set_option linter.unusedVariables false

def Small (n : Int) : Prop := -9223372036854775808 ≤ n ∧ n < 9223372036854775808
def Byte (n : Int) : Prop := 0 ≤ n ∧ n < 256
def zeros (n : Nat) : List Int := List.replicate n 0
theorem zeros_length (n : Nat) : (zeros n).length = n := by simp [zeros]
theorem zeros_byte (n : Nat) : ∀ x ∈ zeros n, Byte x := fun x hx => by
  rw [List.eq_of_mem_replicate hx]
  exact ⟨by decide, by decide⟩
/-- A page. -/
structure Pg (x : List Int) : Prop where
  length : x.length = 32
  bytes : ∀ y ∈ x, Byte y
theorem Pg.zeros : Pg (zeros 32) := ⟨zeros_length 32, zeros_byte 32⟩

/-- Do bytes fit? -/
def Fits (off : Int) (l : List Int) : Prop := 0 ≤ off ∧ 0 < l.length ∧ off + l.length ≤ 32
instance (off : Int) (l : List Int) : Decidable (Fits off l) := by unfold Fits; infer_instance
/-- b's bytes where it differs. -/
def mid (b : List Int) (o e : Nat) : List Int := (b.drop o).take (e - o)
theorem mid_length {b : List Int} (hb : Pg b) {o e : Nat} (h : o ≤ e) (k : e ≤ 32) : (mid b o e).length = e - o := by
  have := hb.length
  simp [mid]
  omega
theorem mid_at {b : List Int} {o e j : Nat} (h : j < e - o) : (mid b o e)[j]? = b[o + j]? := by rw [mid, List.getElem?_take_of_lt h, List.getElem?_drop]
theorem mid_byte {b : List Int} (hb : Pg b) (o e : Nat) : ∀ y ∈ mid b o e, Byte y := fun y hy => hb.bytes y (List.mem_of_mem_drop (List.mem_of_mem_take hy))
/-- A block. -/
structure Bk where
  kind : Int
  id : Int
  page : List Int
  off : Int
  bytes : List Int
  prev : Int
  heads : List Int

/-- Each field is of its type. -/
structure Bk.Wf (b : Bk) : Prop where
  kind : Small b.kind
  id : Small b.id
  off : Small b.off
  prev : Small b.prev
  page : b.page.length = 32
  pages : ∀ x ∈ b.page, Byte x
  bytes : b.bytes.length ≤ 9223372036854775807
  bytess : ∀ x ∈ b.bytes, Byte x
  heads : b.heads.length = 8
  headss : ∀ x ∈ b.heads, Small x

def isHead (h : Int) : Bool := decide (h = 0) || decide (h = 1) || (decide (4 ≤ h) && decide (h ≤ 1023))
def within (n a b : Int) : Bool := decide (a ≤ n) && decide (n ≤ b)
def Bk.plain (b : Bk) : Bool := decide (b.off = 0) && decide (b.bytes.length = 0) && decide (b.prev = 0)
def Bk.diff (b : Bk) : Bool := within b.bytes.length 1 16 && within b.off 0 (32 - b.bytes.length) && isHead b.prev && decide (b.prev ≠ 0)
/-- May it be? -/
def Bk.good (b : Bk) : Bool :=
  if b.kind = 1 then within b.id 0 63 && b.plain && decide (b.heads = zeros 8)
  else if b.kind = 2 then within b.id 0 63 && b.diff && decide (b.page = zeros 32) && decide (b.heads = zeros 8)
  else if b.kind = 3 then within b.id 0 7 && b.heads.all isHead && b.plain && decide (b.page = zeros 32)
  else false

theorem heads_of (l : List Int) (h : l.length = 8) : ∃ a b c d e f g k, l = [a, b, c, d, e, f, g, k] := by
  match l, h with
  | [a, b, c, d, e, f, g, k], _ => exact ⟨a, b, c, d, e, f, g, k, rfl⟩
theorem isHead_range {h : Int} (e : isHead h = true) : 0 ≤ h ∧ h < 65536 := by
  simp only [isHead, Bool.or_eq_true, Bool.and_eq_true, decide_eq_true_eq] at e
  omega

theorem good_kind {b : Bk} (h : b.good = true) : (b.kind = 1 ∨ b.kind = 2 ∨ b.kind = 3) ∧ 0 ≤ b.id ∧ b.id ≤ 63 := by
  unfold Bk.good within at h
  split at h
  · simp at h; omega
  · split at h
    · simp at h; omega
    · split at h
      · simp at h; omega
      · cases h
theorem good1 {b : Bk} (h : b.good = true) (k : b.kind = 1) : b.off = 0 ∧ b.bytes = [] ∧ b.prev = 0 ∧ b.heads = zeros 8 := by
  simp [Bk.good, k, Bk.plain] at h
  exact ⟨h.1.2.1.1, h.1.2.1.2, h.1.2.2, h.2⟩
theorem good2 {b : Bk} (h : b.good = true) (k : b.kind = 2) : (1 ≤ b.bytes.length ∧ b.bytes.length ≤ 16) ∧ (0 ≤ b.off ∧ b.off ≤ 32 - b.bytes.length) ∧ (0 ≤ b.prev ∧ b.prev < 65536) ∧ b.page = zeros 32 ∧ b.heads = zeros 8 := by
  simp [Bk.good, k, Bk.diff, within] at h
  obtain ⟨⟨⟨_, ⟨⟨h1, h2⟩, h3⟩, h4⟩, h5⟩, h6⟩ := h
  have := isHead_range h3
  exact ⟨by omega, by omega, this, h5, h6⟩
theorem good3 {b : Bk} (h : b.good = true) (k : b.kind = 3) : (∀ x ∈ b.heads, 0 ≤ x ∧ x < 65536) ∧ b.off = 0 ∧ b.bytes = [] ∧ b.prev = 0 ∧ b.page = zeros 32 := by
  simp [Bk.good, k, Bk.plain] at h
  obtain ⟨⟨⟨_, h2⟩, ⟨h3, h4⟩, h5⟩, h6⟩ := h
  exact ⟨fun x hx => isHead_range (h2 x hx), h3, h4, h5, h6⟩

end Go.Proofs.YtlmehhjgagddoaaDoor
