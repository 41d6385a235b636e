/- What a chain of blocks is, and the page that it comes to: lists of numbers; blocks in a slice in memory. -/
import Derived.Test.YtjejodgjakjeiaaDoorGood
namespace Go.Proofs.YtjejodgjakjeiaaDoor
set_option linter.unusedSimpArgs false
set_option linter.unusedVariables false
open Go.RowKit

/-- Does nothing stand behind it? -/
def Bk.ends (b : Bk) : Bool := decide (b.kind = 1) || decide (b.prev = 1)
def okAt (id : Int) (last : Bool) (b : Bk) : Bool := b.good && !decide (b.kind = 3) && decide (b.id = id) && (b.ends == last)
def chainFrom (id : Int) : List Bk → Bool
  | [] => true
  | b :: r => okAt id r.isEmpty b && chainFrom id r
def isChain : List Bk → Bool
  | [] => true
  | b :: r => decide ((b :: r).length ≤ 3) && chainFrom b.id (b :: r)
/-- What a block makes of the page that was. -/
def Bk.over (b : Bk) (p : List Int) : List Int := if b.kind = 1 then b.page else layI p b.off.toNat b.bytes
/-- The page that blocks come to. -/
def comes (l : List Bk) : List Int := l.foldr Bk.over (zeros 32)

theorem chainFrom_iff (id : Int) : ∀ l : List Bk, chainFrom id l = true ↔ ∀ i b, l[i]? = some b → okAt id (decide (i + 1 = l.length)) b = true
  | [] => by simp [chainFrom]
  | b :: r => by
    rw [chainFrom, Bool.and_eq_true, chainFrom_iff id r]
    constructor
    · rintro ⟨h1, h2⟩ i c hc
      cases i with
      | zero =>
        simp only [List.getElem?_cons_zero, Option.some.injEq] at hc
        subst hc
        rw [← h1]
        congr 1
        cases r <;> simp
      | succ i =>
        simp only [List.getElem?_cons_succ] at hc
        have := h2 i c hc
        rwa [show decide (i + 1 + 1 = (b :: r).length) = decide (i + 1 = r.length) by simp]
    · intro h
      refine ⟨?_, fun i c hc => ?_⟩
      · have := h 0 b rfl
        rw [← this]
        congr 1
        cases r <;> simp
      · have := h (i + 1) c (by simpa using hc)
        rwa [show decide (i + 1 + 1 = (b :: r).length) = decide (i + 1 = r.length) by simp] at this
theorem isChain_iff (l : List Bk) : isChain l = true ↔ l.length ≤ 3 ∧ ∀ h, l[0]? = some h → ∀ i b, l[i]? = some b → okAt h.id (decide (i + 1 = l.length)) b = true := by
  cases l with
  | nil => simp [isChain]
  | cons b r =>
    rw [isChain, Bool.and_eq_true, chainFrom_iff]
    simp only [decide_eq_true_eq, List.getElem?_cons_zero, Option.some.injEq]
    constructor
    · rintro ⟨h1, h2⟩
      exact ⟨h1, fun h e => by subst e; exact h2⟩
    · rintro ⟨h1, h2⟩
      exact ⟨h1, h2 b rfl⟩
theorem okAt_iff {id : Int} {last : Bool} {b : Bk} : okAt id last b = true ↔ b.good = true ∧ b.kind ≠ 3 ∧ b.id = id ∧ b.ends = last := by
  simp [okAt, and_assoc]
theorem okAt_fits {id : Int} {last : Bool} {b : Bk} (h : okAt id last b = true) (k : b.kind ≠ 1) : Fits b.off b.bytes := by
  obtain ⟨h1, h2, -, -⟩ := okAt_iff.1 h
  have hk := (good_kind h1).1
  obtain ⟨h3, h4, -⟩ := good2 h1 (by omega)
  exact ⟨h4.1, by omega, by omega⟩
theorem over_page {id : Int} {last : Bool} {b : Bk} (h : okAt id last b = true) (w : b.Wf) {p : List Int} (hp : Pg p) : Pg (b.over p) := by
  unfold Bk.over
  split
  · exact ⟨w.page, w.pages⟩
  · rename_i k
    have hf := okAt_fits h k
    obtain ⟨f1, f2, f3⟩ := hf
    have hl := hp.length
    refine ⟨by rw [layI_length (by omega), hl], fun y hy => ?_⟩
    unfold layI at hy
    rcases List.mem_append.1 hy with hy | hy
    · rcases List.mem_append.1 hy with hy | hy
      · exact hp.bytes y (List.mem_of_mem_take hy)
      · exact w.bytess y hy
    · exact hp.bytes y (List.mem_of_mem_drop hy)
theorem chainFrom_page {id : Int} : ∀ {l : List Bk}, chainFrom id l = true → (∀ b ∈ l, b.Wf) → Pg (comes l)
  | [], _, _ => Pg.zeros
  | b :: r, h, w => by
    rw [chainFrom, Bool.and_eq_true] at h
    exact over_page h.1 (w b (by simp)) (chainFrom_page h.2 fun c hc => w c (List.mem_cons_of_mem _ hc))
theorem isChain_from {l : List Bk} (h : isChain l = true) : ∃ id, chainFrom id l = true := by
  cases l with
  | nil => exact ⟨0, rfl⟩
  | cons b r =>
    rw [isChain, Bool.and_eq_true] at h
    exact ⟨b.id, h.2⟩
theorem isChain_page {l : List Bk} (h : isChain l = true) (w : ∀ b ∈ l, b.Wf) : Pg (comes l) := by
  obtain ⟨id, h⟩ := isChain_from h
  exact chainFrom_page h w

/-- A slice of blocks, each with its slice of bytes. -/
def BlksAt (w : World) (sv : Value) (l : List (Bk × Value)) : Prop := ∃ a cap, sv = .slice a l.length cap ∧ ∀ i x, l[i]? = some x → x.1.Wf ∧ BytesAt w x.2 x.1.bytes ∧ ∃ g o, a = some ⟨g, o, none⟩ ∧ At w g (o + i * 45) (x.1.arr x.2)
theorem At.below {w w' : World} {B g off : Nat} {cs : Array Value} (h : At w g off cs) (hb : Below B w w') (hg : g < B) : At w' g off cs := fun j hj => (hb.cell (p := ⟨g, off + j, none⟩) hg).trans (h j hj)
theorem At.lt {w : World} {g off : Nat} {cs : Array Value} (h : At w g off cs) (hc : 0 < cs.size) : g < w.heap.size := lt_block (h 0 hc)
  where lt_block {w : World} {g o : Nat} {v : Value} (h : w.cell? ⟨g, o, none⟩ = some v) : g < w.heap.size := block_lt_of_cell h
theorem BlksAt.below {w w' : World} {sv : Value} {l : List (Bk × Value)} (h : BlksAt w sv l) (hb : Below w.heap.size w w') : BlksAt w' sv l := by
  obtain ⟨a, cap, e, hc⟩ := h
  refine ⟨a, cap, e, fun i x hx => ?_⟩
  obtain ⟨h1, h2, g, o, h3, h4⟩ := hc i x hx
  exact ⟨h1, h2.below hb, g, o, h3, h4.below hb (h4.lt (by rw [Bk.arr_size h1]; decide))⟩
theorem BlksAt.nil (w : World) (a : Option Addr) (cap : Nat) : BlksAt w (.slice a 0 cap) [] := ⟨a, cap, rfl, fun i x h => by simp at h⟩
theorem BlksAt.wf {w : World} {sv : Value} {l : List (Bk × Value)} (h : BlksAt w sv l) : ∀ b ∈ l.map (·.1), b.Wf := fun b hb => by
  obtain ⟨a, cap, e, hc⟩ := h
  obtain ⟨x, hx, rfl⟩ := List.mem_map.1 hb
  obtain ⟨i, hi⟩ := List.getElem?_of_mem hx
  exact (hc i x hi).1
/-- Where they lie, if there are any. -/
theorem BlksAt.has {w : World} {sv : Value} {l : List (Bk × Value)} (h : BlksAt w sv l) (hl : 0 < l.length) : ∃ g o cap, sv = .slice (some ⟨g, o, none⟩) l.length cap ∧ g < w.heap.size ∧ ∀ i x, l[i]? = some x → x.1.Wf ∧ BytesAt w x.2 x.1.bytes ∧ At w g (o + i * 45) (x.1.arr x.2) := by
  obtain ⟨a, cap, e, hc⟩ := h
  obtain ⟨h1, -, g, o, h3, h4⟩ := hc 0 l[0] (by simp [hl])
  refine ⟨g, o, cap, by rw [e, h3], h4.lt (by rw [Bk.arr_size h1]; decide), fun i x hx => ?_⟩
  obtain ⟨k1, k2, g', o', k3, k4⟩ := hc i x hx
  rw [h3] at k3
  cases k3
  exact ⟨k1, k2, k4⟩
theorem slice_one {sv : Value} {n : Nat} (h : Len sv n) : sv.oneCell' = true := by
  obtain ⟨a, c, rfl⟩ := h
  rfl
theorem Bk.arr_one {b : Bk} {sv : Value} (h : sv.oneCell' = true) : ∀ v ∈ b.arr sv, v.oneCell' = true := fun v hv => by
  simp only [Bk.arr, Bk.cells, List.mem_toArray, List.mem_cons, List.mem_append, List.mem_map] at hv
  rcases hv with rfl | rfl | ⟨z, _, rfl⟩ | rfl | rfl | rfl | ⟨z, _, rfl⟩ <;> first | rfl | exact h
def Bk.none : Bk := ⟨0, 0, zeros 32, 0, [], 0, zeros 8⟩
theorem zeros_small (n : Nat) : ∀ x ∈ zeros n, Small x := fun x hx => by
  rw [List.eq_of_mem_replicate hx]
  exact small0
theorem Bk.none_wf : Bk.none.Wf := ⟨small0, small0, small0, small0, zeros_length 32, zeros_byte 32, Nat.zero_le _, (fun x hx => by cases hx), zeros_length 8, zeros_small 8⟩
theorem zero30b : (Tryd.prog.info? 30).bind (·.zero) = some (.agg (Bk.none.arr (.slice none 0 0))) := by kernel_rfl
theorem info30s {b : Bk} (h : b.Wf) (sv : Value) : (Tryd.prog.info? 30).map (·.size) = some (b.arr sv).size := by rw [b.arr_size h]; exact info30
theorem same30 {b c : Bk} (h : b.Wf) (k : c.Wf) (sv cv : Value) : (b.cells sv).length = (c.arr cv).size := by rw [b.cells_length h, c.arr_size k]
end Go.Proofs.YtjejodgjakjeiaaDoor
