/- What a region's two sectors are, and what region two sectors say: lists of numbers, no memory. -/
import Derived.Test.YtoiekieddkadmaaDoorMem
namespace Go.Proofs.YtoiekieddkadmaaDoor
set_option linter.unusedSimpArgs false
set_option linter.unusedVariables false

def Small (n : Int) : Prop := -9223372036854775808 ≤ n ∧ n < 9223372036854775808
def Byte (n : Int) : Prop := 0 ≤ n ∧ n < 256
def U32 (n : Int) : Prop := 0 ≤ n ∧ n < 4294967296
def zeros (n : Nat) : List Int := List.replicate n 0
theorem zeros_length (n : Nat) : (zeros n).length = n := by simp [zeros]
theorem zeros_byte (n : Nat) : ∀ x ∈ zeros n, Byte x := fun x hx => by
  rw [List.eq_of_mem_replicate hx]
  exact ⟨by decide, by decide⟩
/-- A number's bytes, the lowest first. -/
def le : Nat → Int → List Int
  | 0, _ => []
  | n + 1, v => v % 256 :: le n (v / 256)
def num : List Int → Int
  | [] => 0
  | x :: l => x + 256 * num l
theorem le_length (n : Nat) (v : Int) : (le n v).length = n := by
  induction n generalizing v with
  | zero => rfl
  | succ n ih => simp [le, ih]
theorem le_byte (n : Nat) (v : Int) : ∀ x ∈ le n v, Byte x := by
  induction n generalizing v with
  | zero => simp [le]
  | succ n ih =>
    intro x hx
    simp only [le, List.mem_cons] at hx
    rcases hx with rfl | hx
    · exact ⟨Int.emod_nonneg _ (by decide), Int.emod_lt_of_pos _ (by decide)⟩
    · exact ih _ x hx
theorem num_le4 (v : Int) (h : U32 v) : num (le 4 v) = v := by
  unfold U32 at h
  simp only [le, num]
  omega
theorem num_le2 (v : Int) (h : 0 ≤ v ∧ v < 65536) : num (le 2 v) = v := by
  simp only [le, num]
  omega
theorem num_range (l : List Int) (h : ∀ x ∈ l, Byte x) : 0 ≤ num l ∧ num l < 256 ^ l.length := by
  induction l with
  | nil => simp [num]
  | cons x l ih =>
    have hx := h x (by simp)
    have := ih fun y hy => h y (by simp [hy])
    simp only [num, List.length_cons, Int.pow_succ]
    unfold Byte at hx
    omega
theorem getD_zeros (l : List Int) (n k : Nat) : (l ++ zeros n).getD k 0 = l.getD k 0 := by
  simp only [List.getD_eq_getElem?_getD]
  by_cases h : k < l.length
  · rw [List.getElem?_append_left h]
  · rw [List.getElem?_append_right (by omega), List.getElem?_eq_none (l := l) (by omega), zeros, List.getElem?_replicate]
    split <;> rfl

/-- A geometry: its pages, its segments, a segment's sectors, its frames. -/
structure Gm where
  p : Int
  s : Int
  l : Int
  f : Int
def Gm.Ok (g : Gm) : Prop := (1 ≤ g.p ∧ g.p ≤ 64) ∧ (6 ≤ g.s ∧ g.s ≤ 16) ∧ (24 ≤ g.l ∧ g.l ≤ 32) ∧ (2 ≤ g.f ∧ g.f ≤ 16)
instance (g : Gm) : Decidable g.Ok := by unfold Gm.Ok; infer_instance
/-- How many mapping pages a geometry that may be has. -/
def Gm.maps (g : Gm) : Int := (g.p + 7).tdiv 8
theorem small_area {a b A B : Int} (h0 : 0 ≤ a) (h1 : a ≤ A) (k0 : 0 ≤ b) (k1 : b ≤ B) : 0 ≤ a * b ∧ a * b ≤ A * B :=
  ⟨Int.mul_nonneg h0 k0, Int.mul_le_mul h1 k1 k0 (by omega)⟩
theorem Gm.Ok.area0 {g : Gm} (h : g.Ok) : 0 ≤ g.s * g.l ∧ g.s * g.l ≤ 512 := by
  obtain ⟨_, ⟨h3, h4⟩, ⟨h5, h6⟩, _⟩ := h
  exact small_area (by omega) h4 (by omega) h6

/-- A region. -/
structure Rg where
  gen : Int
  p : Int
  s : Int
  l : Int
  f : Int
  seg : Int
  off : Int
  seq : Int
  rs : List Int
abbrev Rg.g (r : Rg) : Gm := ⟨r.p, r.s, r.l, r.f⟩
def Rg.hd (r : Rg) : List Value := [.int .u32 r.gen, .int .i64 r.p, .int .i64 r.s, .int .i64 r.l, .int .i64 r.f, .int .i64 r.seg, .int .i64 r.off, .int .u32 r.seq]
def Rg.cells (r : Rg) : List Value := r.hd ++ r.rs.map (Value.int .i64)
def Rg.none : Rg := ⟨0, 0, 0, 0, 0, 0, 0, 0, zeros 8⟩
/-- Each field is of its type. -/
structure Rg.Wf (r : Rg) : Prop where
  gen : U32 r.gen
  p : Small r.p
  s : Small r.s
  l : Small r.l
  f : Small r.f
  seg : Small r.seg
  off : Small r.off
  seq : U32 r.seq
  len : r.rs.length = 8
  rs : ∀ x ∈ r.rs, Small x
theorem Rg.Wf.cells {r : Rg} (h : r.Wf) : r.cells.length = 16 := by simp [Rg.cells, Rg.hd, h.len]
theorem Rg.root_cell {r : Rg} {k : Nat} {x : Int} (h : r.rs[k]? = some x) : r.cells[8 + k]? = some (.int .i64 x) := by
  unfold Rg.cells
  rw [List.getElem?_append_right (by simp [Rg.hd])]
  simp [Rg.hd, h]
theorem Rg.cell_one (r : Rg) : ∀ v ∈ r.cells, v.oneCell' = true := fun v hv => by
  simp only [Rg.cells, Rg.hd, List.mem_append, List.mem_cons, List.not_mem_nil, or_false, List.mem_map] at hv
  rcases hv with (rfl | rfl | rfl | rfl | rfl | rfl | rfl | rfl) | ⟨_, _, rfl⟩ <;> rfl
/-- May a root be? -/
def okRoot (g : Gm) (k : Nat) (x : Int) : Bool := decide (x = 0) || (decide ((k : Int) < g.maps) && (decide (4 ≤ x) && decide (x ≤ 4 + g.s * g.l - 1)))
def rootsOk (g : Gm) (rs : List Int) : Bool := (List.range 8).all fun k => okRoot g k (rs.getD k 0)
/-- May a region be? -/
def Rg.good (r : Rg) : Bool := decide r.g.Ok && (decide (0 ≤ r.seg ∧ r.seg ≤ r.s - 1) && (decide (0 ≤ r.off ∧ r.off ≤ r.l) && rootsOk r.g r.rs))
theorem good_iff {r : Rg} : r.good = true ↔ r.g.Ok ∧ (0 ≤ r.seg ∧ r.seg ≤ r.s - 1) ∧ (0 ≤ r.off ∧ r.off ≤ r.l) ∧ rootsOk r.g r.rs = true := by
  simp only [Rg.good, Bool.and_eq_true, decide_eq_true_eq]
theorem roots_at {g : Gm} {rs : List Int} (h : rootsOk g rs = true) (k : Nat) (hk : k < 8) : okRoot g k (rs.getD k 0) = true := by
  simp only [rootsOk, List.all_eq_true, List.mem_range] at h
  exact h k hk
theorem roots_all {g : Gm} {rs : List Int} (h : ∀ k, k < 8 → okRoot g k (rs.getD k 0) = true) : rootsOk g rs = true := by
  simp only [rootsOk, List.all_eq_true, List.mem_range]
  exact h
theorem roots_no {g : Gm} {rs : List Int} {k : Nat} (hk : k < 8) (h : okRoot g k (rs.getD k 0) = false) : rootsOk g rs = false := by
  cases e : rootsOk g rs with
  | false => rfl
  | true => rw [roots_at e k hk] at h; cases h
theorem getD_of {l : List Int} {k : Nat} {x : Int} (h : l[k]? = some x) : l.getD k 0 = x := by rw [List.getD_eq_getElem?_getD, h]; rfl
theorem okRoot_range {g : Gm} (hg : g.Ok) {k : Nat} {x : Int} (h : okRoot g k x = true) : 0 ≤ x ∧ x < 65536 := by
  have := hg.area0
  simp only [okRoot, Bool.or_eq_true, Bool.and_eq_true, decide_eq_true_eq] at h
  omega
theorem good_roots {r : Rg} (h : r.good = true) : ∀ x ∈ r.rs.take 8, 0 ≤ x ∧ x < 65536 := fun x hx => by
  obtain ⟨hg, _, _, hr⟩ := good_iff.1 h
  obtain ⟨i, hi, rfl⟩ := List.getElem_of_mem hx
  have h8 : i < 8 := by simp at hi; omega
  have hl : i < r.rs.length := by simp at hi; omega
  have := roots_at hr i h8
  rw [getD_of (List.getElem?_eq_getElem hl)] at this
  rw [List.getElem_take]
  exact okRoot_range hg this

/-- Roots as bytes, one behind the other. -/
def flat2 : List Int → List Int
  | [] => []
  | x :: l => le 2 x ++ flat2 l
theorem flat2_length (l : List Int) : (flat2 l).length = 2 * l.length := by
  induction l with
  | nil => rfl
  | cons m l ih => simp only [flat2, List.length_append, le_length, List.length_cons, ih]; omega
theorem flat2_append (l m : List Int) : flat2 (l ++ m) = flat2 l ++ flat2 m := by
  induction l with
  | nil => rfl
  | cons x l ih => simp [flat2, ih]
theorem flat2_snoc {l : List Int} {k : Nat} {x : Int} (h : l[k]? = some x) : flat2 (l.take (k + 1)) = flat2 (l.take k) ++ le 2 x := by
  rw [List.take_add_one, h, flat2_append]
  simp [flat2]
theorem flat2_byte (l : List Int) : ∀ x ∈ flat2 l, Byte x := by
  induction l with
  | nil => intro x hx; cases hx
  | cons m l ih =>
    intro x hx
    simp only [flat2, List.mem_append] at hx
    rcases hx with hx | hx
    · exact le_byte _ _ x hx
    · exact ih x hx
/-- The small numbers. -/
def Rg.six (r : Rg) : List Int := [r.p, r.s, r.l, r.f, r.seg, r.off]
/-- What stands at the sectors' beginnings. -/
def Rg.b0 (r : Rg) : List Int := 82 :: 0 :: (le 4 r.gen ++ (r.six ++ le 4 r.seq))
def Rg.b1 (r : Rg) : List Int := 82 :: 1 :: (le 4 r.gen ++ flat2 r.rs)
def Rg.s0 (r : Rg) : List Int := r.b0 ++ zeros 48
def Rg.s1 (r : Rg) : List Int := r.b1 ++ zeros 42
/-- A region's sectors, one behind the other. -/
def Rg.enc (r : Rg) : List Int := r.s0 ++ r.s1
def Rg.sec (r : Rg) : List Int := if r.good then r.enc else zeros 128
def Rg.err (r : Rg) : Int := if r.good then 0 else 11
theorem s0_length (r : Rg) : r.s0.length = 64 := by simp [Rg.s0, Rg.b0, Rg.six, le_length, zeros_length]
theorem s1_length {r : Rg} (h : r.rs.length = 8) : r.s1.length = 64 := by simp [Rg.s1, Rg.b1, le_length, zeros_length, flat2_length, h]
theorem enc_length {r : Rg} (h : r.rs.length = 8) : r.enc.length = 128 := by simp [Rg.enc, s0_length, s1_length h]
theorem sec_length {r : Rg} (h : r.rs.length = 8) : r.sec.length = 128 := by
  unfold Rg.sec
  split
  · exact enc_length h
  · exact zeros_length _
theorem six_byte {r : Rg} (h : r.good = true) : ∀ x ∈ r.six, Byte x := by
  obtain ⟨⟨h1, h2, h3, h4⟩, h5, h6, _⟩ := good_iff.1 h
  intro x hx
  unfold Byte
  simp only [Rg.six, List.mem_cons, List.not_mem_nil, or_false] at hx
  rcases hx with rfl | rfl | rfl | rfl | rfl | rfl <;> simp only at h1 h2 h3 h4 <;> omega
theorem enc_byte {r : Rg} (h : r.good = true) : ∀ x ∈ r.enc, Byte x := by
  have h6 := six_byte h
  intro x hx
  simp only [Rg.enc, Rg.s0, Rg.s1, Rg.b0, Rg.b1, List.mem_append, List.mem_cons, List.cons_append, or_assoc] at hx
  rcases hx with rfl | rfl | hx | hx | hx | hx | rfl | rfl | hx | hx | hx
  all_goals first
    | exact le_byte _ _ _ ‹_›
    | exact h6 _ ‹_›
    | exact zeros_byte _ _ ‹_›
    | exact flat2_byte _ _ ‹_›
    | exact ⟨by decide, by decide⟩
/-- Two sectors of bytes. -/
structure Sc2 (x : List Int) : Prop where
  length : x.length = 128
  bytes : ∀ y ∈ x, Byte y
theorem enc_sc {r : Rg} (h : r.good = true) (hl : r.rs.length = 8) : Sc2 r.enc := ⟨enc_length hl, enc_byte h⟩
theorem zeros_sc : Sc2 (zeros 128) := ⟨zeros_length _, zeros_byte _⟩
theorem sec_sc {r : Rg} (hl : r.rs.length = 8) : Sc2 r.sec := by
  cases h : r.good with
  | false => rw [show r.sec = zeros 128 by simp [Rg.sec, h]]; exact zeros_sc
  | true => rw [show r.sec = r.enc by simp [Rg.sec, h]]; exact enc_sc h hl

def rootsOf (x : List Int) : List Int := (List.range 8).map fun i => num ((x.drop (70 + 2 * i)).take 2)
/-- What the fields of two sectors say. -/
def readOf (x : List Int) : Rg := ⟨num ((x.drop 2).take 4), x.getD 6 0, x.getD 7 0, x.getD 8 0, x.getD 9 0, x.getD 10 0, x.getD 11 0, num ((x.drop 12).take 4), rootsOf x⟩
def isReg (x : List Int) : Bool := (readOf x).good && decide ((readOf x).enc = x)
def dec (x : List Int) : Rg := if isReg x then readOf x else Rg.none
def decE (x : List Int) : Int := if isReg x then 0 else 11
theorem sc_byte {s : List Int} (h : Sc2 s) (i : Nat) : Byte (s.getD i 0) := by
  rw [List.getD_eq_getElem?_getD]
  cases e : s[i]? with
  | none => exact ⟨by decide, by decide⟩
  | some x => exact h.bytes x (List.mem_of_getElem? e)
theorem byte_small {n : Int} (h : Byte n) : Small n := ⟨by have := h.1; omega, by have := h.2; omega⟩
theorem num_part {s : List Int} (h : Sc2 s) (o n : Nat) (ho : o + n ≤ 128) : 0 ≤ num ((s.drop o).take n) ∧ num ((s.drop o).take n) < 256 ^ n := by
  have hb : ∀ x ∈ (s.drop o).take n, Byte x := fun x hx => h.bytes x (List.mem_of_mem_drop (List.mem_of_mem_take hx))
  have h1 := num_range _ hb
  rwa [show ((s.drop o).take n).length = n by simp [h.length]; omega] at h1
theorem rootsOf_length (x : List Int) : (rootsOf x).length = 8 := by simp [rootsOf]
theorem rootsOf_at (x : List Int) {k : Nat} (h : k < 8) : (rootsOf x)[k]? = some (num ((x.drop (70 + 2 * k)).take 2)) := by simp [rootsOf, h]
theorem readOf_wf {x : List Int} (h : Sc2 x) : (readOf x).Wf where
  gen := num_part h 2 4 (by omega)
  p := byte_small (sc_byte h 6)
  s := byte_small (sc_byte h 7)
  l := byte_small (sc_byte h 8)
  f := byte_small (sc_byte h 9)
  seg := byte_small (sc_byte h 10)
  off := byte_small (sc_byte h 11)
  seq := num_part h 12 4 (by omega)
  len := rootsOf_length x
  rs := fun y hy => by
    obtain ⟨i, hi, rfl⟩ := List.mem_map.1 hy
    have hi8 : i < 8 := by simpa using hi
    have := num_part h (70 + 2 * i) 2 (by omega)
    exact ⟨by omega, by omega⟩
theorem none_wf : Rg.none.Wf where
  gen := ⟨by decide, by decide⟩
  p := ⟨by decide, by decide⟩
  s := ⟨by decide, by decide⟩
  l := ⟨by decide, by decide⟩
  f := ⟨by decide, by decide⟩
  seg := ⟨by decide, by decide⟩
  off := ⟨by decide, by decide⟩
  seq := ⟨by decide, by decide⟩
  len := rfl
  rs := fun x hx => byte_small (zeros_byte 8 x hx)
theorem dec_wf {x : List Int} (h : Sc2 x) : (dec x).Wf := by
  unfold dec
  split
  · exact readOf_wf h
  · exact none_wf
theorem eight {l : List Int} (h : l.length = 8) : ∃ a b c d e f g i, l = [a, b, c, d, e, f, g, i] := by
  match l, h with
  | [a, b, c, d, e, f, g, i], _ => exact ⟨a, b, c, d, e, f, g, i, rfl⟩
theorem enc_gen0 (r : Rg) (t : List Int) : ((r.s0 ++ t).drop 2).take 4 = le 4 r.gen := rfl
theorem enc_seq (r : Rg) (t : List Int) : ((r.s0 ++ t).drop 12).take 4 = le 4 r.seq := rfl
theorem enc_roots {r : Rg} (s : List Int) (hs : s.length = 64) (hl : r.rs.length = 8) (hr : ∀ x ∈ r.rs, 0 ≤ x ∧ x < 65536) : rootsOf (s ++ r.s1) = r.rs := by
  apply List.ext_getElem?
  intro k
  by_cases hk : k < 8
  · rw [rootsOf_at _ hk, List.drop_append, List.drop_of_length_le (by omega), hs]
    simp only [List.nil_append]
    obtain ⟨gen, p, q, l, f, seg, off, seq, rs⟩ := r
    simp only at hl hr
    obtain ⟨a, b, c, d, e, g, i, j, rfl⟩ := eight hl
    simp only [List.mem_cons, List.not_mem_nil, or_false, forall_eq_or_imp, forall_eq] at hr
    obtain ⟨h0, h1, h2, h3, h4, h5, h6, h7⟩ := hr
    rcases (show k = 0 ∨ k = 1 ∨ k = 2 ∨ k = 3 ∨ k = 4 ∨ k = 5 ∨ k = 6 ∨ k = 7 by omega) with rfl | rfl | rfl | rfl | rfl | rfl | rfl | rfl
    · exact congrArg some (num_le2 a h0)
    · exact congrArg some (num_le2 b h1)
    · exact congrArg some (num_le2 c h2)
    · exact congrArg some (num_le2 d h3)
    · exact congrArg some (num_le2 e h4)
    · exact congrArg some (num_le2 g h5)
    · exact congrArg some (num_le2 i h6)
    · exact congrArg some (num_le2 j h7)
  · rw [List.getElem?_eq_none (by rw [rootsOf_length]; omega), List.getElem?_eq_none (by omega)]
theorem good_all {r : Rg} (h : r.good = true) (hl : r.rs.length = 8) : ∀ x ∈ r.rs, 0 ≤ x ∧ x < 65536 := by
  have := good_roots h
  rwa [List.take_of_length_le (by omega)] at this
/-- The region of a region's sectors is it. -/
theorem read_enc {r : Rg} (h : r.good = true) (w : r.Wf) : readOf r.enc = r := by
  have e1 : readOf r.enc = ⟨num (le 4 r.gen), r.p, r.s, r.l, r.f, r.seg, r.off, num (le 4 r.seq), rootsOf r.enc⟩ := rfl
  rw [e1, num_le4 _ w.gen, num_le4 _ w.seq, Rg.enc, enc_roots _ (s0_length r) w.len (good_all h w.len)]
theorem isReg_enc {r : Rg} (h : r.good = true) (w : r.Wf) : isReg r.enc = true := by
  simp [isReg, read_enc h w, h]
theorem dec_enc {r : Rg} (h : r.good = true) (w : r.Wf) : dec r.enc = r ∧ decE r.enc = 0 := by
  unfold dec decE
  rw [isReg_enc h w]
  exact ⟨read_enc h w, rfl⟩
theorem isReg_parts {x : List Int} (h : isReg x = true) : (readOf x).good = true ∧ (readOf x).enc = x := by
  simpa [isReg] using h
theorem isReg_zeros : isReg (zeros 128) = false := by kernel_rfl
theorem enc_1 (r : Rg) : r.enc.getD 1 0 = 0 := rfl
theorem enc_gen1 {r : Rg} (s : List Int) (hs : s.length = 64) : ((s ++ r.s1).drop 66).take 4 = le 4 r.gen := by
  rw [List.drop_append, List.drop_of_length_le (by omega), hs]
  rfl
/-- Of two sectors of two generations there is no region. -/
theorem isReg_torn {r q : Rg} (hr : r.Wf) (hq : q.Wf) (hne : q.gen ≠ r.gen) : isReg (r.s0 ++ q.s1) = false := by
  cases e : isReg (r.s0 ++ q.s1) with
  | false => rfl
  | true =>
    have h2 := (isReg_parts e).2
    have g1 := enc_gen1 (r := readOf (r.s0 ++ q.s1)) (readOf (r.s0 ++ q.s1)).s0 (s0_length _)
    have g2 := enc_gen1 (r := q) r.s0 (s0_length _)
    have g3 : (readOf (r.s0 ++ q.s1)).gen = r.gen := by
      show num (((r.s0 ++ q.s1).drop 2).take 4) = r.gen
      rw [enc_gen0, num_le4 _ hr.gen]
    rw [show (readOf (r.s0 ++ q.s1)).s0 ++ (readOf (r.s0 ++ q.s1)).s1 = (readOf (r.s0 ++ q.s1)).enc from rfl, h2, g2, g3] at g1
    have := congrArg num g1
    rw [num_le4 _ hr.gen, num_le4 _ hq.gen] at this
    exact absurd this hne
/-- Nor of sectors that are turned round. -/
theorem isReg_round (r q : Rg) (t : List Int) : isReg (r.s1 ++ t) = false := by
  cases e : isReg (r.s1 ++ t) with
  | false => rfl
  | true =>
    have h2 := (isReg_parts e).2
    have h1 := enc_1 (readOf (r.s1 ++ t))
    rw [h2] at h1
    exact absurd h1 (show ¬ (1 : Int) = 0 by decide)
end Go.Proofs.YtoiekieddkadmaaDoor
