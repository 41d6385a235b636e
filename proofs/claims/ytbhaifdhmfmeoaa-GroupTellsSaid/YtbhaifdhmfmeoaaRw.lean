/- A row of sectors of one's own into which one stores. -/
import Derived.Test.YtbhaifdhmfmeoaaBf
import Derived.Test.YtbhaifdhmfmeoaaRdec
import Derived.Test.YtbhaifdhmfmeoaaRenc
import Derived.Test.YtbhaifdhmfmeoaaSrdec
import Derived.Test.YtbhaifdhmfmeoaaSrenc
namespace Go.Proofs.Ytbhaifdhmfmeoaa
set_option linter.unusedSimpArgs false
set_option linter.unusedVariables false
open Go.RowKit

/-- Sectors in a row of one's own. -/
structure Row1 (w : World) (g T cap : Nat) (X : List (List Int)) : Prop where
  n : X.length = T
  cap : T ≤ cap
  sc : ∀ y ∈ X, Sc y
  row : ∃ L : List Value, Blk w g L ∧ T * 64 ≤ L.length ∧ ∀ i x, X[i]? = some x → ∀ (j : Nat) (v : Value), (u8s x)[j]? = some v → L[i * 64 + j]? = some v
theorem Row1.secs {w : World} {g T cap : Nat} {X : List (List Int)} (h : Row1 w g T cap X) : SecsAt w (.slice (some ⟨g, 0, none⟩) T cap) X := by
  obtain ⟨L, hb, hl, hc⟩ := h.row
  refine ⟨_, cap, by rw [h.n], by rw [h.n]; exact h.cap, fun i x hx => ?_⟩
  have hs := h.sc x (List.mem_of_getElem? hx)
  refine ⟨hs, g, 0, rfl, fun j hj => ?_⟩
  have := hc i x hx j ((u8s x).toArray[j]) (by simp)
  rw [Nat.zero_add]
  exact hb.cell this
theorem Row1.below {w w' : World} {g T cap : Nat} {X : List (List Int)} (h : Row1 w g T cap X) (hb : Below w.heap.size w w') : Row1 w' g T cap X := by
  obtain ⟨L, h1, h2, h3⟩ := h.row
  exact ⟨h.n, h.cap, h.sc, L, h1.below hb h1.lt, h2, h3⟩
theorem own_row {w : World} {B : Nat} {sv : Value} {X : List (List Int)} (h : OwnS w B sv X) (hX : 0 < X.length) : ∃ g cap, sv = .slice (some ⟨g, 0, none⟩) X.length cap ∧ Row1 w g X.length cap X ∧ B ≤ g := by
  have hr := h.row
  rcases hr.2 with ⟨rfl, h0⟩ | ⟨g, cap, cur, e, hgB, hg, hn, hm, hs, ht⟩
  · omega
  refine ⟨g, cap, e, ⟨rfl, hn, h.all, cur.toList, ⟨50, by simpa using hg⟩, ?_, fun i x hx j v hv => ?_⟩, hgB⟩
  · have e1 : cur.toList.length = cap * 64 := by rw [← hs]; simp
    rw [e1]
    exact Nat.mul_le_mul_right 64 hn
  · have hi := (List.getElem?_eq_some_iff.1 hx).1
    have h1 := h.all x (List.mem_of_getElem? hx)
    have hj : j < 64 := by
      have := (List.getElem?_eq_some_iff.1 hv).1
      rw [List.length_map, h1.length] at this
      exact this
    have h2 := secCells_at h.all (i := i) hj
    rw [hx, ← ht] at h2
    rw [List.getElem?_take_of_lt (by omega)] at h2
    rw [h2]
    exact hv
theorem splice_at {L : List Value} {o : Nat} {cs : Array Value} (h : o + cs.size ≤ L.length) (p : Nat) : (splice L o cs).toList[p]? = if o ≤ p ∧ p < o + cs.size then cs.toList[p - o]? else L[p]? := by
  unfold splice
  have hl : (L.take o).length = o := by rw [List.length_take]; omega
  by_cases h1 : p < o
  · rw [if_neg (by omega), List.append_assoc, List.getElem?_append_left (by omega), List.getElem?_take_of_lt h1]
  · by_cases h2 : p < o + cs.size
    · rw [if_pos ⟨by omega, h2⟩, List.append_assoc, List.getElem?_append_right (by omega), hl, List.getElem?_append_left (by simp; omega)]
    · rw [if_neg (by omega), List.getElem?_append_right (by simp; omega), List.getElem?_drop]
      congr 1
      simp
      omega
theorem splice_size {L : List Value} {o : Nat} {cs : Array Value} (h : o + cs.size ≤ L.length) : (splice L o cs).toList.length = L.length := by
  unfold splice
  simp
  omega
theorem row_set {L : List Value} {X : List (List Int)} {T k : Nat} {y : List Int} (hn : X.length = T) (hsc : ∀ y ∈ X, Sc y) (hl : T * 64 ≤ L.length) (hc : ∀ i x, X[i]? = some x → ∀ (j : Nat) (v : Value), (u8s x)[j]? = some v → L[i * 64 + j]? = some v) (hk : k < T) (hy : Sc y) :
    k * 64 + (u8s y).toArray.size ≤ L.length ∧ T * 64 ≤ (splice L (k * 64) (u8s y).toArray).toList.length ∧ ∀ i x, (X.set k y)[i]? = some x → ∀ (j : Nat) (v : Value), (u8s x)[j]? = some v → (splice L (k * 64) (u8s y).toArray).toList[i * 64 + j]? = some v := by
  have hs : (u8s y).toArray.size = 64 := hy.size
  have hf : k * 64 + (u8s y).toArray.size ≤ L.length := by rw [hs]; omega
  refine ⟨hf, by rw [splice_size hf]; exact hl, fun i x hx j v hv => ?_⟩
  rw [splice_at hf, hs]
  by_cases hik : i = k
  · subst hik
    rw [List.getElem?_set_self (by omega)] at hx
    cases hx
    have hj := (List.getElem?_eq_some_iff.1 hv).1
    rw [List.length_map, hy.length] at hj
    rw [if_pos ⟨by omega, by omega⟩, show i * 64 + j - i * 64 = j by omega]
    exact hv
  · rw [List.getElem?_set_ne (fun e => hik e.symm)] at hx
    have hj := (List.getElem?_eq_some_iff.1 hv).1
    rw [List.length_map, (hsc x (List.mem_of_getElem? hx)).length] at hj
    rw [if_neg (by
      intro h
      have : i < k ∨ k < i := by omega
      omega)]
    exact hc i x hx j v hv
section
variable {ops : Array Oper} {rest : List Oper} {dst : Option Tmp} {x y : Operand} {t2 : TypeId} {pos : String} {after : Array Edge} {guard : Option (Nat × Bool)} {a : Act} {w : World} {Q : Exit → Act → World → Prop}
/-- A sector stored into a row of one's own. -/
theorem store_sec {g T cap k : Nat} {X : List (List Int)} {s : List Int} (h : Row1 w g T cap X) (hk : k < T) (hs : Sc s) (hx : a.eval x = .pointer (some ⟨g, k * 64, none⟩)) (hy : a.eval y = .agg (u8s s).toArray) (hw : Region.wanted ⟨dst, .store 50 x y, t2, pos, after, guard⟩ (yielded ops a.tmps) = true)
    (hh : ∀ w', Row1 w' g T cap (X.set k s) → Only (fun k => k = g) w w' → w'.heap.size = w.heap.size → wpList Try.prog ops Q rest (a.put dst undef) w') : wpList Try.prog ops Q (⟨dst, .store 50 x y, t2, pos, after, guard⟩ :: rest) a w := by
  obtain ⟨L, hb, hl, hc⟩ := h.row
  obtain ⟨h1, h2, h3⟩ := row_set h.n h.sc hl hc hk hs
  refine store_g hb (by rw [hs.size]; exact info50) h1 (u8s_one _) hx hy hw fun wX hX hO hS => ?_
  refine hh wX ⟨by rw [List.length_set]; exact h.n, h.cap, fun z hz => ?_, _, hX, h2, h3⟩ hO hS
  rcases List.mem_or_eq_of_mem_set hz with hz | rfl
  · exact h.sc z hz
  · exact hs
end
/-- Bytes that lie elsewhere than in t. -/
def Away (sv : Value) (l : List Int) (t : Nat) : Prop := 0 < l.length → ∀ b o n c, sv = .slice (some ⟨b, o, none⟩) n c → b ≠ t
theorem BytesAt.away {w w' : World} {sv : Value} {l : List Int} {t : Nat} (h : BytesAt w sv l) (ho : Only (fun k => k = t) w w') (ha : Away sv l t) : BytesAt w' sv l := by
  rcases Nat.eq_zero_or_pos l.length with h0 | h0
  · obtain ⟨a, cap, e, _⟩ := h
    exact ⟨a, cap, e, fun i x hx => by rw [List.eq_nil_of_length_eq_zero h0] at hx; simp at hx⟩
  · exact h.only ho (ha h0)
theorem away_new {w : World} {sv : Value} {l : List Int} (h : BytesAt w sv l) : Away sv l w.heap.size := fun hl b o n c e => by have := h.lt hl e; omega
theorem away_old {w : World} {sv : Value} {l : List Int} {t : Nat} (h : Fresh w.heap.size sv) (ht : t < w.heap.size) : Away sv l t := fun _ b o n c e => by have := h b o n c e; omega
/-- Numbers are zeros. -/
def Zeroed (L : List Value) : Prop := ∀ (i : Nat) (n : Int), L[i]? = some (Value.int .i64 n) → n = 0
theorem MarksAt.only0 {w w' : World} {sv : Value} {l : List Mk} {t : Nat} {L : List Value} (h : MarksAt w sv l) (ho : Only (fun k => k = t) w w') (ht : Blk w t L) (hL : Zeroed L) (hm : ∀ x ∈ l, x.1 ≠ 0) : MarksAt w' sv l := by
  obtain ⟨a, cap, e, hc⟩ := h
  refine ⟨a, cap, e, fun i x hx => ?_⟩
  obtain ⟨b, o, e2, h1, h2⟩ := hc i x hx
  have hb : b ≠ t := by
    rintro rfl
    exact hm x (List.mem_of_getElem? hx) (hL _ _ (ht.inv h1))
  refine ⟨b, o, e2, ?_, ?_⟩
  · rw [← h1]
    exact cell_same (ho.block b (block_lt_of_cell h1) hb)
  · rw [← h2]
    exact cell_same (ho.block b (block_lt_of_cell h2) hb)
theorem noMark4 (q : Int) (b : Bool) (a : Option Addr) (n cap : Nat) (e : Int) : NoMark [.int .u32 q, .bool b, .slice a n cap, .int .i64 e] := fun i n m h h2 => by
  match i with
  | 0 => simp at h
  | 1 => simp at h
  | 2 => simp at h
  | 3 => simp at h2
theorem decB_wf {x : List Int} (h : Sc x) : (decB x).Wf := by
  unfold decB
  split
  · exact readOf_wf h
  · exact none_wf
theorem decS_marks (x : List Int) : ∀ m ∈ (decS x).marks, m.1 ≠ 0 := fun m hm => by
  unfold decS at hm
  split at hm
  · rename_i h
    have hg := sum_good h
    unfold goodMarks at hg
    rw [Bool.and_eq_true, List.all_eq_true] at hg
    have := hg.2 m hm
    intro h0
    unfold okMark at this
    rw [h0] at this
    simp [kindIds] at this
    omega
  · cases hm
theorem zeroed59 : Zeroed (gotA Bk.none nilv 0 0).toList := fun i n h => by
  have key : ((gotA Bk.none nilv 0 0).toList.all fun v => match v with | Value.int .i64 z => z == 0 | _ => true) = true := by kernel_rfl
  have := List.all_eq_true.1 key _ (List.mem_of_getElem? h)
  simpa using this
theorem SecsAt.atSec {w : World} {g o n c : Nat} {X : List (List Int)} {x : List Int} {i : Nat} (h : SecsAt w (.slice (some ⟨g, o, none⟩) n c) X) (hx : X[i]? = some x) : At w g (o + i * 64) (u8s x).toArray := by
  obtain ⟨a, c', e, -, hc⟩ := h
  obtain ⟨h1, g2, o2, h3, h4⟩ := hc i x hx
  injection e with q1 q2 q3
  rw [← q1] at h3
  injection h3 with h5
  injection h5 with h6 h7
  subst h6
  subst h7
  exact h4

theorem zeroed63 : Zeroed [.int .u32 0, .bool false, .slice none 0 0, .int .i64 0] := fun i n h => by
  match i with
  | 0 => simp at h
  | 1 => simp at h
  | 2 => simp at h
  | 3 => simpa using h.symm
theorem four_onem (q : Int) (b : Bool) (a : Option Addr) (k c : Nat) (e : Int) : ∀ v ∈ (#[.int .u32 q, .bool b, .slice a k c, .int .i64 e] : Array Value), v.oneCell' = true := fun v hv => by
  simp only [List.mem_toArray, List.mem_cons, List.not_mem_nil, or_false] at hv
  rcases hv with rfl | rfl | rfl | rfl <;> rfl
theorem threeH {P : Program} {ops : Array Oper} {md : Region.Mode} {Q : Exit → Act → World → Prop} {S : World → Prop} {fuel : Nat} {listed : Array Bool} {a : Act} {w : World} (i j l : Nat) {o p r : Oper} (hr : Region.ready md ops listed = [i, j, l]) (hi : ops[i]? = some o) (hj : ops[j]? = some p) (hl : ops[l]? = some r)
    (hw : Region.wanted o (yielded ops a.tmps) = true) (hx : Region.wanted p (yielded ops a.tmps) = true) (hy : Region.wanted r (yielded ops a.tmps) = true)
    (h : ∀ K : Act → World → Prop, (∀ a w, S w → wpAnyH P md ops Q S fuel (listed.setIfInBounds i true) a w → K a w) → Oper.wp P o a w K Q)
    (k : ∀ K : Act → World → Prop, (∀ a w, S w → wpAnyH P md ops Q S fuel (listed.setIfInBounds j true) a w → K a w) → Oper.wp P p a w K Q)
    (k2 : ∀ K : Act → World → Prop, (∀ a w, S w → wpAnyH P md ops Q S fuel (listed.setIfInBounds l true) a w → K a w) → Oper.wp P r a w K Q) : wpAnyH P md ops Q S (fuel + 1) listed a w :=
  wpAnyH_all hr (by simp) fun m hm => by
    rcases (show m = i ∨ m = j ∨ m = l by simpa using hm) with rfl | rfl | rfl
    · exact wpOp_step hi fun K hK => by rw [if_pos hw]; exact h K fun a w hS hA => hK a w ⟨hS, hA⟩
    · exact wpOp_step hj fun K hK => by rw [if_pos hx]; exact k K fun a w hS hA => hK a w ⟨hS, hA⟩
    · exact wpOp_step hl fun K hK => by rw [if_pos hy]; exact k2 K fun a w hS hA => hK a w ⟨hS, hA⟩
/-- What the two decodings left. -/
structure TW (wb wx : World) (t1 t2 : Nat) (svb : Value) (ma : Option Addr) (mc : Nat) (x : List Int) : Prop where
  low : Below wb.heap.size wb wx
  g1 : wb.heap.size ≤ t1
  g2 : wb.heap.size ≤ t2
  b1 : Blk wx t1 (gotA (decB x) svb (decN x) (decE x)).toList
  b2 : Blk wx t2 [.int .u32 (decS x).seq, .bool (decS x).more, .slice ma (decS x).marks.length mc, .int .i64 (sdecE x)]
  by1 : BytesAt wx svb (decB x).bytes
  mks : MarksAt wx (.slice ma (decS x).marks.length mc) (decS x).marks
  ne : t1 ≠ t2

end Go.Proofs.Ytbhaifdhmfmeoaa
