/- Where frames lie in memory. -/
import Derived.Test.YtaemjglblfencaaGreatDoorFs
namespace Go.Proofs.YtaemjglblfencaaGreatDoor
set_option linter.unusedSimpArgs false
set_option linter.unusedVariables false
open Go.RowKit Kl

/-- What a frame holds, in memory: a pointer. -/
def pv : Option Nat → Value
  | some g => .pointer (some ⟨g, 0, none⟩)
  | none => .pointer none
def encH (key : Int) (x : Hd) : List Value := .int .i64 key :: (u8s x.base ++ (u8s x.now ++ i64s x.heads))
theorem encH_len {key : Int} {x : Hd} (h : x.Ok) : (encH key x).length = 73 := by
  have h1 := h.base.length
  have h2 := h.now.length
  have h3 := h.heads
  simp [encH, h1, h2, h3]
theorem encH_base {w : World} {g : Nat} {key : Int} {x : Hd} (hx : x.Ok) (h : Blk w g (encH key x)) : At w g 1 (u8s x.base).toArray := h.sub 1 fun j hj => by
  have hb := hx.base.length
  have hj' : j < 32 := by simpa [hb] using hj
  unfold encH
  rw [show 1 + j = j + 1 by omega, List.getElem?_cons_succ, List.getElem?_append_left (by simpa [hb] using hj')]
  simp
theorem encH_now {w : World} {g : Nat} {key : Int} {x : Hd} (hx : x.Ok) (h : Blk w g (encH key x)) : At w g 33 (u8s x.now).toArray := h.sub 33 fun j hj => by
  have hb := hx.base.length
  have hn := hx.now.length
  have hj' : j < 32 := by simpa [hn] using hj
  unfold encH
  rw [show 33 + j = (32 + j) + 1 by omega, List.getElem?_cons_succ, List.getElem?_append_right (by simp [hb]), List.getElem?_append_left (by simp [hb, hn]; omega)]
  simp [hb]
theorem encH_heads {w : World} {g : Nat} {key : Int} {x : Hd} (hx : x.Ok) (h : Blk w g (encH key x)) : At w g 65 (i64s x.heads).toArray := h.sub 65 fun j hj => by
  have hb := hx.base.length
  have hn := hx.now.length
  have hh := hx.heads
  have hj' : j < 8 := by simpa [hh] using hj
  unfold encH
  rw [show 65 + j = (64 + j) + 1 by omega, List.getElem?_cons_succ, List.getElem?_append_right (by simp [hb]; omega), List.getElem?_append_right (by simp [hb, hn]; omega)]
  rw [show 64 + j - (u8s x.base).length - (u8s x.now).length = j by simp [hb, hn]; omega]
  simp
/-- A store over what it is, over what it was. -/
theorem splice_at {l m r : List Value} (cs : Array Value) (h : m.length = cs.size) : splice (l ++ (m ++ r)) l.length cs = (l ++ (cs.toList ++ r)).toArray := by
  unfold splice
  congr 1
  rw [List.take_left, List.append_assoc]
  congr 2
  rw [← List.append_assoc l m r, show l.length + cs.size = (l ++ m).length by simp [h], List.drop_left]
theorem splice_now {key : Int} {x : Hd} (hx : x.Ok) {p : List Int} (hp : p.length = 32) : splice (encH key x) 33 (u8s p).toArray = (encH key { x with now := p }).toArray := by
  have := splice_at (l := .int .i64 key :: u8s x.base) (m := u8s x.now) (r := i64s x.heads) (u8s p).toArray (by simp [hp, hx.now.length])
  rw [show (Value.int .i64 key :: u8s x.base).length = 33 by simp [hx.base.length]] at this
  exact this
theorem splice_base {key : Int} {x : Hd} (hx : x.Ok) {p : List Int} (hp : p.length = 32) : splice (encH key x) 1 (u8s p).toArray = (encH key { x with base := p }).toArray := by
  have := splice_at (l := [.int .i64 key]) (m := u8s x.base) (r := u8s x.now ++ i64s x.heads) (u8s p).toArray (by simp [hp, hx.base.length])
  exact this
/-- Where frames lie: themselves, their clock, its row, the row of what was given. -/
structure Lay where
  b : Nat
  cb : Nat
  cr : Nat
  cap : Nat
  gr : Nat
  gcap : Nat
def Foot (L : Lay) (ps : List (Option Nat)) (k : Nat) : Prop := k = L.b ∨ k = L.cb ∨ k = L.cr ∨ k = L.gr ∨ some k ∈ ps
structure FAt (w : World) (L : Lay) (ps : List (Option Nat)) (s : Fs) : Prop where
  blk : Blk w L.b [.pointer (some ⟨L.cb, 0, none⟩), .slice (some ⟨L.gr, 0, none⟩) s.c.l.length L.gcap]
  clk : Kl.At encC w L.cb L.cr L.cap [] s.c
  row : Blk w L.gr (ps.map pv)
  len : ps.length = s.c.l.length
  yes : ∀ (k : Nat) (f : Fm) (x : Hd), s.c.l[k]? = some f → s.h[k]? = some x → 0 ≤ f.key → ∃ g, ps[k]? = some (some g) ∧ Blk w g (encH f.key x)
  no : ∀ (k : Nat) (f : Fm), s.c.l[k]? = some f → f.key < 0 → ps[k]? = some none
  one : ∀ (i j g : Nat), ps[i]? = some (some g) → ps[j]? = some (some g) → i = j
  nb : ∀ g, some g ∈ ps → g ≠ L.b ∧ g ≠ L.cb ∧ g ≠ L.cr ∧ g ≠ L.gr
  n1 : L.b ≠ L.cb ∧ L.b ≠ L.cr ∧ L.b ≠ L.gr ∧ L.cb ≠ L.gr ∧ L.cr ≠ L.gr
theorem FAt.at {B : Nat} {w : World} {L : Lay} {ps : List (Option Nat)} {s : Fs} (h : FAt w L ps s) (ho : s.Ok B) {k : Nat} {f : Fm} (hf : s.c.l[k]? = some f) : ∃ x, s.h[k]? = some x ∧ x.Ok ∧ ((0 ≤ f.key ∧ ∃ g, ps[k]? = some (some g) ∧ Blk w g (encH f.key x)) ∨ (f.key < 0 ∧ ps[k]? = some none)) := by
  obtain ⟨_, x, _, hx⟩ := ho.at (k := k) (List.getElem?_eq_some_iff.1 hf).1
  refine ⟨x, hx, ho.hd k x hx, ?_⟩
  by_cases h0 : 0 ≤ f.key
  · exact .inl ⟨h0, h.yes k f x hf hx h0⟩
  · exact .inr ⟨by omega, h.no k f hf (by omega)⟩
theorem FAt.own {B : Nat} {w : World} {L : Lay} {ps : List (Option Nat)} {s : Fs} (h : FAt w L ps s) (ho : s.Ok B) {g : Nat} (hg : some g ∈ ps) : ∃ (k : Nat) (f : Fm) (x : Hd), ps[k]? = some (some g) ∧ s.c.l[k]? = some f ∧ s.h[k]? = some x ∧ x.Ok ∧ 0 ≤ f.key ∧ Blk w g (encH f.key x) := by
  obtain ⟨k, hk⟩ := List.getElem?_of_mem hg
  have hlt := (List.getElem?_eq_some_iff.1 hk).1
  obtain ⟨f, hf⟩ : ∃ f, s.c.l[k]? = some f := ⟨_, List.getElem?_eq_getElem (by rw [← h.len]; exact hlt)⟩
  obtain ⟨x, hx, hxo, ⟨h0, g', hg', hb⟩ | ⟨h0, hn⟩⟩ := h.at ho hf
  · rw [hk] at hg'
    cases hg'
    exact ⟨k, _, x, hk, hf, hx, hxo, h0, hb⟩
  · rw [hk] at hn
    cases hn
theorem FAt.lt {B : Nat} {w : World} {L : Lay} {ps : List (Option Nat)} {s : Fs} (h : FAt w L ps s) (ho : s.Ok B) {k : Nat} (hk : Foot L ps k) : k < w.heap.size := by
  rcases hk with rfl | rfl | rfl | rfl | hk
  · exact h.blk.lt
  · exact h.clk.blk.lt
  · exact h.clk.row.lt
  · exact h.row.lt
  · obtain ⟨_, _, _, _, _, _, _, _, hb⟩ := h.own ho hk
    exact hb.lt
theorem FAt.below {w w' : World} {L : Lay} {ps : List (Option Nat)} {s : Fs} (h : FAt w L ps s) (hb : Below w.heap.size w w') : FAt w' L ps s :=
  ⟨h.blk.below hb h.blk.lt, h.clk.below hb, h.row.below hb h.row.lt, h.len, fun k f x hf hx h0 => let ⟨g, h1, h2⟩ := h.yes k f x hf hx h0; ⟨g, h1, h2.below hb h2.lt⟩, h.no, h.one, h.nb, h.n1⟩
theorem FAt.only {S : Nat → Prop} {w w' : World} {L : Lay} {ps : List (Option Nat)} {s : Fs} (h : FAt w L ps s) (ho : Only S w w') (hS : ∀ k, Foot L ps k → ¬ S k) : FAt w' L ps s :=
  ⟨h.blk.only ho (hS _ (.inl rfl)), h.clk.only ho (hS _ (.inr (.inl rfl))) (hS _ (.inr (.inr (.inl rfl)))), h.row.only ho (hS _ (.inr (.inr (.inr (.inl rfl))))), h.len, fun k f x hf hx h0 => let ⟨g, h1, h2⟩ := h.yes k f x hf hx h0; ⟨g, h1, h2.only ho (hS _ (.inr (.inr (.inr (.inr (List.mem_of_getElem? h1))))))⟩, h.no, h.one, h.nb, h.n1⟩
/-- The clock turned, and no key. -/
theorem FAt.clock {w w' : World} {L : Lay} {ps : List (Option Nat)} {s : Fs} {c : Ck} (h : FAt w L ps s) (hc : Kl.At encC w' L.cb L.cr L.cap [] c) (ho : Only (foot L.cb L.cr) w w') (hl : c.l.length = s.c.l.length) (hk : ∀ (k : Nat) (f : Fm), c.l[k]? = some f → ∃ f', s.c.l[k]? = some f' ∧ f'.key = f.key) : FAt w' L ps { s with c := c } := by
  obtain ⟨n1, n2, n3, n4, n5⟩ := h.n1
  refine ⟨?_, hc, h.row.only ho (by rintro (e | e) <;> omega), by rw [h.len, hl], fun k f x hf hx h0 => ?_, fun k f hf h0 => ?_, h.one, h.nb, h.n1⟩
  · have := h.blk.only ho (by rintro (e | e) <;> omega)
    rw [hl]
    exact this
  · obtain ⟨f', hf', e⟩ := hk k f hf
    obtain ⟨g, h1, h2⟩ := h.yes k f' x hf' hx (by omega)
    have := h.nb g (List.mem_of_getElem? h1)
    rw [e] at h2
    exact ⟨g, h1, h2.only ho (by rintro (e | e) <;> omega)⟩
  · obtain ⟨f', hf', e⟩ := hk k f hf
    exact h.no k f' hf' (by omega)
theorem foot_Foot {L : Lay} {ps : List (Option Nat)} : ∀ k, foot L.cb L.cr k → Foot L ps k := fun k h => h.elim (fun e => .inr (.inl e)) fun e => .inr (.inr (.inl e))
/-- What a frame's contents turn to. -/
theorem FAt.turn {B : Nat} {w w' : World} {L : Lay} {ps : List (Option Nat)} {s : Fs} (h : FAt w L ps s) (hok : s.Ok B) {k g : Nat} {f : Fm} {x y : Hd} (hf : s.c.l[k]? = some f) (hx : s.h[k]? = some x) (hg : ps[k]? = some (some g)) (ho : Only (fun j => j = g) w w') (hb : Blk w' g (encH f.key y)) : FAt w' L ps { s with h := s.h.set k y } := by
  have hn := h.nb g (List.mem_of_getElem? hg)
  have hlt := (List.getElem?_eq_some_iff.1 hx).1
  refine ⟨h.blk.only ho (fun e => hn.1 e.symm), h.clk.only ho (fun e => hn.2.1 e.symm) (fun e => hn.2.2.1 e.symm), h.row.only ho (fun e => hn.2.2.2 e.symm), h.len, fun i f' x' hf' hx' h0 => ?_, h.no, h.one, h.nb, h.n1⟩
  simp only [List.getElem?_set] at hx'
  by_cases e : k = i
  · subst e
    rw [if_pos rfl, if_pos hlt] at hx'
    cases hx'
    rw [hf] at hf'
    cases hf'
    exact ⟨g, hg, hb⟩
  · rw [if_neg e] at hx'
    obtain ⟨g', h1, h2⟩ := h.yes i f' x' hf' hx' h0
    exact ⟨g', h1, h2.only ho fun e2 => e (by subst e2; exact h.one k i _ hg h1)⟩
/-- What a frame holds. -/
def inn (ps : List (Option Nat)) (i : Int) : Option Nat := if 0 ≤ i then ps.getD i.toNat none else none
theorem inn_nat {ps : List (Option Nat)} {k : Nat} {p : Option Nat} (h : ps[k]? = some p) : inn ps (k : Int) = p := by unfold inn; rw [if_pos (by omega), Int.toNat_natCast, List.getD_eq_getElem?_getD, h]; rfl
theorem inn_out {ps : List (Option Nat)} {i : Int} (h : i < 0 ∨ (ps.length : Int) ≤ i) : inn ps i = none := by
  unfold inn
  split
  · rw [List.getD_eq_getElem?_getD, List.getElem?_eq_none (by omega)]; rfl
  · rfl
theorem pv_cell {w : World} {b k : Nat} {ps : List (Option Nat)} {p : Option Nat} (h : Blk w b (ps.map pv)) (hk : ps[k]? = some p) : w.cell? ⟨b, k, none⟩ = some (pv p) := h.cell (by rw [List.getElem?_map, hk]; rfl)

end Go.Proofs.YtaemjglblfencaaGreatDoor
