/- Ha: stage 13's texts turned: group.Read and what it calls; items compared. -/
import Derived.Test.YthlnmdihdcfphaaGreatDoorMc
import Derived.WalkKit
import Derived.WalkSpells
import Derived.WalkLawsBesides
import Derived.Deep.AppendLies
import Derived.Deep.LoopGhost
import Derived.Laws.CopyRow
import Derived.Laws.Rows
import Derived.Laws.StructEq
import Derived.Lib.Hide
import Derived.Deep.DeepFit
import Derived.Deep.DeepMust
import Derived.Lib.EndianBits
import Derived.OrdersHeld
import Derived.Deep.Cut
import Derived.Deep.CutRange
namespace Go.Proofs.YthlnmdihdcfphaaGreatDoor
set_option linter.unusedSimpArgs false
set_option linter.unusedVariables false
open Go.RowKit

def num : List Int → Int
  | [] => 0
  | x :: l => x + 256 * num l
theorem num_le4 (v : Int) (h : 0 ≤ v ∧ v < 4294967296) : num (le 4 v) = v := by
  simp only [le, num]
  omega
theorem num_le2 (v : Int) (h : 0 ≤ v ∧ v < 65536) : num (le 2 v) = v := by
  simp only [le, num]
  omega
theorem num_range (l : List Int) (h : ∀ x ∈ l, Byte x) : 0 ≤ num l ∧ num l < 256 ^ l.length := by
  induction l with
  | nil => simp [num]
  | cons x l ih =>
    have hx := h x (by simp)
    have := ih fun y hy => h y (by simp [hy])
    simp only [num, List.length_cons, Int.pow_succ]
    unfold Byte at hx
    omega
def kindOf (s : List Int) : Int := s.getD 0 0
def seqOf (s : List Int) : Int := num ((s.drop 2).take 4)
def headOf (s : List Int) (i : Nat) : Int := num ((s.drop (6 + 2 * i)).take 2)
/-- What the fields of a sector say. -/
def readOf (s : List Int) : Bk :=
  { kind := kindOf s, id := s.getD 1 0
    page := if kindOf s = 1 then (s.drop 6).take 32 else zeros 32
    off := if kindOf s = 2 then s.getD 6 0 else 0
    bytes := if kindOf s = 2 then (s.drop 8).take (min 16 (s.getD 7 0).toNat) ++ zeros ((s.getD 7 0).toNat - 16) else []
    prev := if kindOf s = 2 then num ((s.drop 24).take 2) else 0
    heads := if kindOf s = 3 then (List.range 8).map (headOf s) else zeros 8 }
def isBlock (s : List Int) : Bool := (readOf s).good && decide ((readOf s).enc (seqOf s) = s)
def decB (s : List Int) : Bk := if isBlock s then readOf s else Bk.none
def decN (s : List Int) : Int := if isBlock s then seqOf s else 0
def decE (s : List Int) : Int := if isBlock s then 0 else 11
theorem good1 {b : Bk} (h : b.good = true) (k : b.kind = 1) : b.off = 0 ∧ b.bytes = [] ∧ b.prev = 0 ∧ b.heads = zeros 8 := by
  simp [Bk.good, k, Bk.plain] at h
  exact ⟨h.1.2.1.1, h.1.2.1.2, h.1.2.2, h.2⟩
/-- The block of a block's sector is it. -/
theorem read_enc {b : Bk} (h : b.good = true) (w : b.Wf) (n : Int) (hn : 0 ≤ n ∧ n < 4294967296) : readOf (b.enc n) = b ∧ seqOf (b.enc n) = n := by
  obtain ⟨hk, _⟩ := good_kind h
  have hp := w.page
  have hh := w.heads
  have hs : seqOf (b.enc n) = n := by
    have e := num_le4 n hn
    unfold Bk.enc seqOf
    split
    · simpa [le] using e
    · split <;> simpa [le] using e
  refine ⟨?_, hs⟩
  obtain ⟨kind, id, page, off, bytes, prev, heads⟩ := b
  rcases hk with k | k | k
  · obtain ⟨e1, e2, e3, e4⟩ := good1 h k
    simp only at k e1 e2 e3 e4 hp
    subst k e1 e2 e3 e4
    simp [readOf, Bk.enc, kindOf, le, hp]
  · obtain ⟨⟨e1, e2⟩, _, ep, e3, e4⟩ := good2 h k
    simp only at k e1 e2 e3 e4 ep
    subst k e3 e4
    have ep2 := num_le2 prev ep
    simp only [le] at ep2
    have e5 : min 16 bytes.length = bytes.length := by omega
    have e6 : bytes.length - 16 = 0 := by omega
    have e7 : 16 - bytes.length = 16 - bytes.length := rfl
    have e8 : bytes.drop 16 = [] := List.drop_of_length_le e2
    have e9 : (zeros (16 - bytes.length)).drop (16 - bytes.length) = [] := List.drop_of_length_le (by simp [zeros])
    simp [readOf, Bk.enc, kindOf, le, e5, e6, zeros, List.drop_append]
    simpa [e8] using ep2
  · obtain ⟨e0, e1, e2, e3, e4⟩ := good3 h k
    simp only at k e0 e1 e2 e3 e4 hh
    subst k e1 e2 e3 e4
    obtain ⟨a, b, c, d, e, f, g, k, rfl⟩ := heads_of heads hh
    simp only [List.mem_cons, List.not_mem_nil, or_false, forall_eq_or_imp, forall_eq] at e0
    obtain ⟨p0, p1, p2, p3, p4, p5, p6, p7⟩ := e0
    have q0 := num_le2 a p0
    have q1 := num_le2 b p1
    have q2 := num_le2 c p2
    have q3 := num_le2 d p3
    have q4 := num_le2 e p4
    have q5 := num_le2 f p5
    have q6 := num_le2 g p6
    have q7 := num_le2 k p7
    simp only [le] at q0 q1 q2 q3 q4 q5 q6 q7
    simp [readOf, Bk.enc, kindOf, le, headOf, List.range, List.range.loop, q0, q1, q2, q3, q4, q5, q6, q7]
theorem isBlock_enc {b : Bk} (h : b.good = true) (w : b.Wf) (n : Int) (hn : 0 ≤ n ∧ n < 4294967296) : isBlock (b.enc n) = true := by
  obtain ⟨e1, e2⟩ := read_enc h w n hn
  simp [isBlock, e1, e2, h]
theorem readOf_wf {s : List Int} (h : Sc s) : (readOf s).Wf := by
  obtain ⟨hl, hb⟩ := h
  have hd : ∀ i, Byte (s.getD i 0) := fun i => by
    rw [List.getD_eq_getElem?_getD]
    cases e : s[i]? with
    | none => exact ⟨by decide, by decide⟩
    | some x => exact hb x (List.mem_of_getElem? e)
  have small : ∀ {x}, Byte x → Small x := fun h => ⟨by have := h.1; omega, by have := h.2; omega⟩
  have hz : ∀ m, ∀ x ∈ zeros m, Byte x := fun m x hx => by
    rw [List.eq_of_mem_replicate hx]
    exact ⟨by decide, by decide⟩
  have hnum : ∀ i, Small (num ((s.drop i).take 2)) := fun i => by
    have hb' : ∀ x ∈ (s.drop i).take 2, Byte x := fun x hx => hb x (List.mem_of_mem_drop (List.mem_of_mem_take hx))
    have h1 := num_range _ hb'
    have h2 : ((s.drop i).take 2).length ≤ 2 := by simp; omega
    generalize (s.drop i).take 2 = l at *
    have : (256 : Int) ^ l.length ≤ 65536 := by
      match l, h2 with
      | [], _ => decide
      | [_], _ => simp
      | [_, _], _ => simp
    exact ⟨by omega, by omega⟩
  have h0 : Small (0 : Int) := ⟨by decide, by decide⟩
  refine ⟨small (hd 0), small (hd 1), ?_, ?_, ?_, ?_, ?_, ?_, ?_, ?_⟩
  · simp only [readOf]; split
    · exact small (hd 6)
    · exact h0
  · simp only [readOf]; split
    · exact hnum 24
    · exact h0
  · simp only [readOf]; split <;> simp [hl, zeros]
  · simp only [readOf]; split
    · exact fun x hx => hb x (List.mem_of_mem_drop (List.mem_of_mem_take hx))
    · exact hz 32
  · simp only [readOf]; split
    · have := (hd 7).2
      have h1 := (hd 7).1
      simp only [List.length_append, List.length_take, zeros_length]
      omega
    · simp
  · simp only [readOf]; split
    · intro x hx
      rcases List.mem_append.1 hx with hx | hx
      · exact hb x (List.mem_of_mem_drop (List.mem_of_mem_take hx))
      · exact hz _ x hx
    · simp
  · simp only [readOf]; split <;> simp [zeros]
  · simp only [readOf]; split
    · intro x hx
      obtain ⟨i, _, rfl⟩ := List.mem_map.1 hx
      exact hnum _
    · intro x hx
      exact small (hz _ x hx)
theorem seqOf_range {s : List Int} (h : Sc s) : 0 ≤ seqOf s ∧ seqOf s < 4294967296 := by
  have hb' : ∀ x ∈ (s.drop 2).take 4, Byte x := fun x hx => h.bytes x (List.mem_of_mem_drop (List.mem_of_mem_take hx))
  have h1 := num_range _ hb'
  have h2 : ((s.drop 2).take 4).length = 4 := by simp [h.length]
  rw [h2] at h1
  exact h1
theorem u32_or0 (x : Int) (h : 0 ≤ x ∧ x < 4294967296) : bits .or .u32 0 x = x := by
  have := bits_join_low .u32 32 (by decide) wraps_u32 0 0 x (by decide) (by decide) (by decide) h.1 (by omega) (by omega)
  omega
theorem get4_any (w : World) (g o cap : Nat) (l : List Int) (hl : l.length = 4) (hb : ∀ x ∈ l, Byte x) (hc : ∀ i x, l[i]? = some x → w.cell? ⟨g, o + i, none⟩ = some (.int .u8 x)) :
    Calls Tryz.prog 120 #[.slice (some ⟨g, o, none⟩) 4 cap] w fun e w' => e = .returned (.int .u32 (num l)) ∧ w = w' := by
  obtain ⟨x0, x1, x2, x3, rfl⟩ : ∃ x0 x1 x2 x3, l = [x0, x1, x2, x3] := by
    match l, hl with
    | [x0, x1, x2, x3], _ => exact ⟨x0, x1, x2, x3, rfl⟩
  have c0 := hc 0 x0 rfl
  obtain ⟨p0, q0⟩ := hb x0 (by simp)
  have c1 := hc 1 x1 rfl
  obtain ⟨p1, q1⟩ := hb x1 (by simp)
  have c2 := hc 2 x2 rfl
  obtain ⟨p2, q2⟩ := hb x2 (by simp)
  have c3 := hc 3 x3 rfl
  obtain ⟨p3, q3⟩ := hb x3 (by simp)
  simp only [Nat.add_zero] at c0
  clear hc hb hl
  go_enter Tryz.func120, Tryz.ntmps120
  go_wp2_with fail
  go_loopg [3, 8] 4 (fun q r i wr => ∃ k : Nat, 4 - k ≤ q ∧ k ≤ 4 ∧ i = .int .i64 k ∧ r = .int .u32 (num ([x0, x1, x2, x3].take k)) ∧ w = wr)
  case atStart => exact ⟨0, by omega, by omega, rfl, rfl, rfl⟩
  case round =>
    obtain ⟨k, hg, hk, rfl, rfl, rfl⟩ := hrel
    rcases (show k = 0 ∨ k = 1 ∨ k = 2 ∨ k = 3 ∨ k = 4 by omega) with rfl | rfl | rfl | rfl | rfl
    · simp only [List.take_succ_cons, List.take_zero, num]
      go_wp2_with fail
      go_roundg (4 - 1)
      case measure => omega
      case rel =>
        refine ⟨1, by omega, by omega, by go_num, ?_, rfl⟩
        simp only [List.take_succ_cons, List.take_zero, num]
        refine congrArg (Value.int .u32) ?_
        rw [u32_or0 x0 (by omega)]
        omega
    · simp only [List.take_succ_cons, List.take_zero, num]
      go_wp2_with fail
      go_roundg (4 - 2)
      case measure => omega
      case rel =>
        refine ⟨2, by omega, by omega, by go_num, ?_, rfl⟩
        simp only [List.take_succ_cons, List.take_zero, num]
        refine congrArg (Value.int .u32) ?_
        rw [u32_or8 _ _ (by omega) (by omega) (by omega) (by omega) (by omega)]
        omega
    · simp only [List.take_succ_cons, List.take_zero, num]
      go_wp2_with fail
      go_roundg (4 - 3)
      case measure => omega
      case rel =>
        refine ⟨3, by omega, by omega, by go_num, ?_, rfl⟩
        simp only [List.take_succ_cons, List.take_zero, num]
        refine congrArg (Value.int .u32) ?_
        rw [u32_or16 _ _ (by omega) (by omega) (by omega) (by omega) (by omega)]
        omega
    · simp only [List.take_succ_cons, List.take_zero, num]
      go_wp2_with fail
      go_roundg (4 - 4)
      case measure => omega
      case rel =>
        refine ⟨4, by omega, by omega, by go_num, ?_, rfl⟩
        simp only [List.take_succ_cons, List.take_zero, num]
        refine congrArg (Value.int .u32) ?_
        rw [u32_or24 _ _ (by omega) (by omega) (by omega) (by omega) (by omega)]
        omega
    · simp only [List.take_succ_cons, List.take_zero, num]
      go_wp2_with fail
      go_ret
      exact ⟨rfl, rfl⟩
theorem get2_any (w : World) (g o cap : Nat) (l : List Int) (hl : l.length = 2) (hb : ∀ x ∈ l, Byte x) (hc : ∀ i x, l[i]? = some x → w.cell? ⟨g, o + i, none⟩ = some (.int .u8 x)) :
    Calls Tryz.prog 120 #[.slice (some ⟨g, o, none⟩) 2 cap] w fun e w' => e = .returned (.int .u32 (num l)) ∧ w = w' := by
  obtain ⟨x0, x1, rfl⟩ : ∃ x0 x1, l = [x0, x1] := by
    match l, hl with
    | [x0, x1], _ => exact ⟨x0, x1, rfl⟩
  have c0 := hc 0 x0 rfl
  obtain ⟨p0, q0⟩ := hb x0 (by simp)
  have c1 := hc 1 x1 rfl
  obtain ⟨p1, q1⟩ := hb x1 (by simp)
  simp only [Nat.add_zero] at c0
  clear hc hb hl
  go_enter Tryz.func120, Tryz.ntmps120
  go_wp2_with fail
  go_loopg [3, 8] 2 (fun q r i wr => ∃ k : Nat, 2 - k ≤ q ∧ k ≤ 2 ∧ i = .int .i64 k ∧ r = .int .u32 (num ([x0, x1].take k)) ∧ w = wr)
  case atStart => exact ⟨0, by omega, by omega, rfl, rfl, rfl⟩
  case round =>
    obtain ⟨k, hg, hk, rfl, rfl, rfl⟩ := hrel
    rcases (show k = 0 ∨ k = 1 ∨ k = 2 by omega) with rfl | rfl | rfl
    · simp only [List.take_succ_cons, List.take_zero, num]
      go_wp2_with fail
      go_roundg (2 - 1)
      case measure => omega
      case rel =>
        refine ⟨1, by omega, by omega, by go_num, ?_, rfl⟩
        simp only [List.take_succ_cons, List.take_zero, num]
        refine congrArg (Value.int .u32) ?_
        rw [u32_or0 x0 (by omega)]
        omega
    · simp only [List.take_succ_cons, List.take_zero, num]
      go_wp2_with fail
      go_roundg (2 - 2)
      case measure => omega
      case rel =>
        refine ⟨2, by omega, by omega, by go_num, ?_, rfl⟩
        simp only [List.take_succ_cons, List.take_zero, num]
        refine congrArg (Value.int .u32) ?_
        rw [u32_or8 _ _ (by omega) (by omega) (by omega) (by omega) (by omega)]
        omega
    · simp only [List.take_succ_cons, List.take_zero, num]
      go_wp2_with fail
      go_ret
      exact ⟨rfl, rfl⟩
section
variable {P : Program}
theorem exec_load_at (w : World) (ev : Operand → Value) (o : Oper) (ty : TypeId) (x : Operand) (ho : o.op = .load ty x) (g off : Nat) (hx : ev x = .pointer (some ⟨g, off, none⟩)) (cs : Array Value) (d : TypeDesc)
    (hu : P.underlying ty = some d) (hd : (match d with | .struct _ | .array _ _ => true | _ => false) = true) (hi : (P.info? ty).map (·.size) = some cs.size)
    (hc : ∀ j (h : j < cs.size), w.cell? ⟨g, off + j, none⟩ = some cs[j]) : (execOp ev o).run P w = .ok (.value (.agg cs)) w := by
  unfold execOp
  simp only [ho, hx, Instr.loadAt, Instr.sureAddr, Sem.run_bind, Sem.run_pure, Result.andThen_ok, run_load_at w g off ty cs d hu hd hi hc]
theorem passH {ops : Array Oper} {md : Region.Mode} {Q : Exit → Act → World → Prop} {S : World → Prop} (i : Nat) {oi : Oper} (dst : Option Tmp) {fuel : Nat} {listed : Array Bool} {a : Act} {w : World} (hi : ops[i]? = some oi) (hd : oi.dst = dst)
    (hs : Region.noSelect ops = true) (hf : Region.free md ops listed i = true) (hr : (Region.ready md ops listed).contains i = true)
    (hQ : ∀ c a w, Q (.panic c) (a.put dst undef) w → Q (.panic c) a w) (hw : Region.wanted oi (yielded ops a.tmps) = false) (hS : S w)
    (h : wpAnyH P md ops Q S fuel (listed.setIfInBounds i true) (a.put dst undef) w) : wpAnyH P md ops Q S (fuel + 1) listed a w := by
  subst hd
  exact wpAnyH_take hi hs hf hr hQ (.inr ⟨hw, rfl⟩) hS h
end
theorem neq115 (w : World) (l m : List Int) (hl : l.length = 64) (hm : m.length = 64) : (binOp .neq 115 (.agg (u8s l).toArray) (.agg (u8s m).toArray)).run Tryz.prog w = .ok (.bool (!decide (l = m))) w := by
  obtain ⟨i, hi, hs⟩ := size_of info5s
  exact run_neq_ints w 115 5 64 .u8 .u8 i l m Tryz.underlying115 Tryz.underlying5 hi hs hl hm
abbrev nilv : Value := .slice none 0 0
theorem zero73b : (Tryz.prog.info? 73).bind (·.zero) = some (.agg (Bk.none.arr nilv)) := by kernel_rfl
theorem built73k (k i : Int) : Tryz.prog.built 73 [(0, .int .i64 k), (1, .int .i64 i)] = some (Bk.arr ⟨k, i, zeros 32, 0, [], 0, zeros 8⟩ nilv) := by kernel_rfl
theorem build73k (k i : Int) (w : World) : (Instr.build 73 #[(0, .int .i64 k), (1, .int .i64 i)]).run Tryz.prog w = .ok (.agg (Bk.arr ⟨k, i, zeros 32, 0, [], 0, zeros 8⟩ nilv)) w := run_build w 73 _ _ (built73k k i)
theorem sc_cell {s : List Int} (h : Sc s) {i : Nat} (hi : i < 64) : (u8s s)[i]? = some (.int .u8 (s.getD i 0)) := by
  rw [List.getElem?_map, List.getD_eq_getElem?_getD, List.getElem?_eq_getElem (by rw [h.length]; exact hi)]
  rfl
theorem sc_byte {s : List Int} (h : Sc s) (i : Nat) : 0 ≤ s.getD i 0 ∧ s.getD i 0 < 256 := by
  rw [List.getD_eq_getElem?_getD]
  cases e : s[i]? with
  | none => exact ⟨by decide, by decide⟩
  | some x => exact h.bytes x (List.mem_of_getElem? e)
theorem cells_one (b : Bk) (a : Option Addr) (n cap : Nat) : ∀ v ∈ b.arr (.slice a n cap), v.oneCell' = true := fun v hv => by
  simp only [Bk.arr, Bk.cells, List.mem_toArray, List.mem_cons, List.mem_append, List.mem_map] at hv
  rcases hv with rfl | rfl | ⟨z, _, rfl⟩ | rfl | rfl | rfl | ⟨z, _, rfl⟩ <;> rfl
/-- A sector in a variable (g), the result's variable (r), the block's (t), all made behind W. -/
structure RT (W w : World) (g r t : Nat) (s : List Int) (b : Bk) (sv : Value) : Prop where
  sec : Blk w g (u8s s)
  res : Blk w r (Bk.none.cells nilv)
  blk : Blk w t (b.cells sv)
  bel : Below W.heap.size W w
  g0 : W.heap.size ≤ g
  gr : g < r
  rt : r < t
theorem RT.below {W w w' : World} {g r t : Nat} {s : List Int} {b : Bk} {sv : Value} (h : RT W w g r t s b sv) (hb : Below w.heap.size w w') : RT W w' g r t s b sv :=
  ⟨h.sec.below hb h.sec.lt, h.res.below hb h.res.lt, h.blk.below hb h.blk.lt, h.bel.trans (hb.mono h.bel.size), h.g0, h.gr, h.rt⟩
theorem RT.drew {W w : World} {g r t : Nat} {s : List Int} {b : Bk} {sv : Value} (h : RT W w g r t s b sv) : RT W w.drew g r t s b sv := h.below (Below.refl _ _).drew
theorem RT.put {W w w' : World} {g r t : Nat} {s : List Int} {b c : Bk} {sv cv : Value} (h : RT W w g r t s b sv) (hs : Blk w' t (c.cells cv)) (ho : Only (fun k => k = t) w w') : RT W w' g r t s c cv :=
  ⟨h.sec.only ho (by have := h.gr; have := h.rt; omega), h.res.only ho (by have := h.rt; omega), hs, h.bel.trans (ho.below h.bel.size (fun k hk => by have := h.g0; have := h.gr; have := h.rt; omega)), h.g0, h.gr, h.rt⟩
theorem RT.set {W w : World} {g r t : Nat} {s : List Int} {b c : Bk} {sv cv : Value} (h : RT W w g r t s b sv) (i : Nat) (x : Value) (e : (b.cells sv).set i x = c.cells cv) : RT W (w.setCell ⟨t, i, none⟩ x) g r t s c cv :=
  h.put (by have := h.blk.set i x; rwa [e] at this) ((Only.refl (fun k => k = t) w).setCell (p := ⟨t, i, none⟩) (.inl rfl) _)
theorem RT.seg {W w : World} {g r t : Nat} {s : List Int} {b : Bk} {sv : Value} (h : RT W w g r t s b sv) (o n : Nat) (j : Nat) (v : Int) (hv : ((s.drop o).take n)[j]? = some v) : w.cell? ⟨g, o + j, none⟩ = some (.int .u8 v) := h.sec.cell (by
  have hj : j < n := by
    have := (List.getElem?_eq_some_iff.1 hv).1
    simp at this
    omega
  rw [List.getElem?_take_of_lt hj, List.getElem?_drop] at hv
  rw [List.getElem?_map, hv]
  rfl)
theorem cells_set34 (b : Bk) (hp : b.page.length = 32) (sv : Value) (x : Int) : (b.cells sv).set 34 (.int .i64 x) = Bk.cells { b with off := x } sv := by
  unfold Bk.cells
  simp only [List.set_cons_succ]
  rw [List.set_append_right _ _ (by simp [hp])]
  simp [hp]
theorem cells_set35 (b : Bk) (hp : b.page.length = 32) (sv cv : Value) (l : List Int) : (b.cells sv).set 35 cv = Bk.cells { b with bytes := l } cv := by
  unfold Bk.cells
  simp only [List.set_cons_succ]
  rw [List.set_append_right _ _ (by simp [hp])]
  simp [hp]
theorem cells_set36 (b : Bk) (hp : b.page.length = 32) (sv : Value) (x : Int) : (b.cells sv).set 36 (.int .i64 x) = Bk.cells { b with prev := x } sv := by
  unfold Bk.cells
  simp only [List.set_cons_succ]
  rw [List.set_append_right _ _ (by simp [hp])]
  simp [hp]
theorem cells_setH (b : Bk) (hp : b.page.length = 32) (sv : Value) (k : Nat) (x : Int) : (b.cells sv).set (37 + k) (.int .i64 x) = Bk.cells { b with heads := b.heads.set k x } sv := by
  unfold Bk.cells
  rw [show 37 + k = (k + 35) + 1 + 1 by omega]
  simp only [List.set_cons_succ]
  rw [List.set_append_right _ _ (by simp [hp])]
  simp only [List.length_map, hp]
  rw [show k + 35 - 32 = k + 1 + 1 + 1 by omega]
  simp only [List.set_cons_succ, List.map_set]
theorem cells_page (b : Bk) (hp : b.page.length = 32) (sv : Value) (l : List Int) (hl : l.length = 32) : lay (b.cells sv) 2 l = Bk.cells { b with page := l } sv := by
  unfold Bk.cells lay
  simp [hl, hp]
theorem cell_at34 (b : Bk) (hp : b.page.length = 32) (sv : Value) (k : Nat) : (b.cells sv)[34 + k]? = (.int .i64 b.off :: sv :: .int .i64 b.prev :: i64s b.heads)[k]? := by
  unfold Bk.cells
  rw [show 34 + k = (32 + k) + 1 + 1 by omega]
  simp only [List.getElem?_cons_succ]
  rw [List.getElem?_append_right (by simp [hp])]
  simp only [List.length_map, hp]
  congr 1
  omega
theorem made_zeros (n : Nat) : (madeCells (#[.int .u8 0] : Array Value) n).toList = u8s (zeros n) := by
  unfold madeCells
  apply List.ext_getElem?
  intro i
  by_cases h : i < n <;> simp [zeros, h, Nat.mod_one]
section
variable {ops : Array Oper} {rest : List Oper} {dst : Option Tmp} {x : Operand} {t2 : TypeId} {pos : String} {after : Array Edge} {guard : Option (Nat × Bool)} {a : Act} {w : World} {Q : Exit → Act → World → Prop}
theorem make_g {y : Operand} {n : Nat} (hx : a.eval x = .int .i64 n) (hy : a.eval y = .int .i64 n) (hn : n < 256) (hw : Region.wanted ⟨dst, .makeSlice 25 x y, t2, pos, after, guard⟩ (yielded ops a.tmps) = true)
    (h : ∀ wX, Blk wX w.heap.size (u8s (zeros n)) → Below w.heap.size w wX → w.heap.size < wX.heap.size → wpList Tryz.prog ops Q rest (a.put dst (.slice (some ⟨w.heap.size, 0, none⟩) n n)) wX) : wpList Tryz.prog ops Q (⟨dst, .makeSlice 25 x y, t2, pos, after, guard⟩ :: rest) a w := by
  obtain ⟨i, hi, hz, hs, hb⟩ : ∃ i, Tryz.prog.info? 5 = some i ∧ i.zero = some (.int .u8 0) ∧ i.size = 1 ∧ i.bytes = 1 := by
    have := info5
    cases hq : Tryz.prog.info? 5 with
    | none => simp [hq] at this
    | some i => simp [hq] at this; exact ⟨i, rfl, this⟩
  have hr := run_makeSlice (P := Tryz.prog) w 25 5 i (.int .u8 0) Tryz.underlying25 hi hz .i64 .i64 n n (by omega) (Int.le_refl _) (by rw [hs]; omega) (by rw [hb]; omega) (by omega)
  refine wpList_run _ _ hw ?_ (h _ ?_ ((Below.refl _ _).alloc (Nat.le_refl _) (.cells (madeCells #[.int .u8 0] n) 5)) (by simp))
  · unfold execOp
    simp only [hx, hy, Sem.run_bind, hr, Result.andThen_ok, Sem.run_pure, Int.toNat_natCast, hs, Nat.mul_one]
    rfl
  · have := Blk.new w (madeCells #[.int .u8 0] n) 5
    rwa [made_zeros] at this
end
theorem BytesAt.of_blk {w : World} {m cap : Nat} {l : List Int} (h : Blk w m (u8s l)) : BytesAt w (.slice (some ⟨m, 0, none⟩) l.length cap) l :=
  ⟨_, cap, rfl, fun i x hx => ⟨m, 0, rfl, by rw [Nat.zero_add]; exact h.cell (by rw [List.getElem?_map, hx]; rfl)⟩⟩
set_option maxRecDepth 100000 in
theorem read_oth (s : List Int) (hs : Sc s) (hk : kindOf s ≠ 1 ∧ kindOf s ≠ 2 ∧ kindOf s ≠ 3) (w : World) : Calls Tryz.prog 119 #[.agg (u8s s).toArray] w fun e w' => ∃ sv, e = .returned (.agg ((readOf s).arr sv)) ∧ BytesAt w' sv (readOf s).bytes ∧ Below w.heap.size w w' ∧ Fresh w.heap.size sv := by
  have HS := Lib.hid hs
  obtain ⟨hi1, hi2⟩ := sc_byte hs 1
  obtain ⟨id, hid⟩ : ∃ i, s.getD 1 0 = i := ⟨_, rfl⟩
  rw [hid] at hi1 hi2
  have HID := Lib.hid hid
  obtain ⟨hk1, hk2, hk3⟩ := hk
  have hk0 := sc_byte hs 0
  rw [show s.getD 0 0 = kindOf s from rfl] at hk0
  go_enter Tryz.func119, Tryz.ntmps119
  repeat (first | (with_reducible refine stopR (id := 0) ?_) | go_values | go_skip | go_guarded | go_step | go_upon | go_back)
  refine Stop.mk (wp_region_lit ?_)
  refine box_g rfl rfl ?_
  intro wA hA hB hl
  try simp only [Act.put, List.setIfInBounds_toArray, List.set_cons_succ, List.set_cons_zero]
  refine alloc_g zero73b rfl ?_
  intro wB hR hB2 hl2
  try simp only [Act.put, List.setIfInBounds_toArray, List.set_cons_succ, List.set_cons_zero]
  have hA2 := hA.below hB2 hl
  have hBB := hB.trans (hB2.mono hB.size)
  refine wpList_nil ?_
  repeat (first | (with_reducible refine stopR (id := 1) ?_) | go_values | go_skip | go_guarded | go_step | go_upon | go_back)
  refine Stop.mk (wp_region_lit ?_)
  have c0 : wB.cell? ⟨w.heap.size, 0, none⟩ = some (.int .u8 (kindOf s)) := hA2.cell (sc_cell HS.out (by decide))
  have c1 : wB.cell? ⟨w.heap.size, 1, none⟩ = some (.int .u8 id) := by rw [← HID.out]; exact hA2.cell (sc_cell HS.out (by decide))
  refine takeL (.pointer (some ⟨w.heap.size, 0, none⟩)) rfl (by go_simp) ?_
  try simp only [Act.put, List.setIfInBounds_toArray, List.set_cons_succ, List.set_cons_zero]
  refine takeL (.int .u8 (kindOf s)) rfl (by go_simp) ?_
  try simp only [Act.put, List.setIfInBounds_toArray, List.set_cons_succ, List.set_cons_zero]
  refine takeL (.int .i64 (kindOf s)) rfl (by go_simp; exact wrap64 hk0.1 (by omega)) ?_
  try simp only [Act.put, List.setIfInBounds_toArray, List.set_cons_succ, List.set_cons_zero]
  refine takeL (.pointer (some ⟨w.heap.size, 1, none⟩)) rfl (by go_simp) ?_
  try simp only [Act.put, List.setIfInBounds_toArray, List.set_cons_succ, List.set_cons_zero]
  refine takeL (.int .u8 (id)) rfl (by go_simp) ?_
  try simp only [Act.put, List.setIfInBounds_toArray, List.set_cons_succ, List.set_cons_zero]
  refine takeL (.int .i64 id) rfl (by go_simp; exact wrap64 hi1 (by omega)) ?_
  try simp only [Act.put, List.setIfInBounds_toArray, List.set_cons_succ, List.set_cons_zero]
  refine takeL (.agg (Bk.arr ⟨(kindOf s), id, zeros 32, 0, [], 0, zeros 8⟩ nilv)) rfl (exec_build _ _ _ _ 73 #[(0, .tmp 7), (1, .tmp 10)] rfl #[(0, .int .i64 (kindOf s)), (1, .int .i64 (id))] (by simp only [List.map_toArray, List.map_cons, List.map_nil]; rfl) _ (build73k (kindOf s) (id) _)) ?_
  try simp only [Act.put, List.setIfInBounds_toArray, List.set_cons_succ, List.set_cons_zero]
  refine alloc_g zero73b rfl ?_
  intro wC hC hBC hlC
  try simp only [Act.put, List.setIfInBounds_toArray, List.set_cons_succ, List.set_cons_zero]
  refine store_all hC (by rfl) (by exact info73) (cells_one _ _ _ _) rfl rfl rfl ?_
  intro wD hD hOD hlD
  try simp only [Act.put, List.setIfInBounds_toArray, List.set_cons_succ, List.set_cons_zero]
  have hBD := hBC.trans (hOD.below hBC.size (fun k hk => Nat.le_of_eq hk.symm))
  have H1 : Hid (RT w wD w.heap.size wA.heap.size wB.heap.size s ⟨(kindOf s), id, zeros 32, 0, [], 0, zeros 8⟩ nilv) := Lib.hid
    ⟨hA2.below hBD hA2.lt, hR.below hBD hR.lt, hD, hBB.trans (hBD.mono hBB.size), Nat.le_refl _, hl, hl2⟩
  clear c0 c1 hA hB hl hR hB2 hl2 hA2 hBB hC hBC hlC hD hOD hlD hBD
  generalize hgg : w.heap.size = g at *
  generalize wA.heap.size = r at *
  generalize wB.heap.size = t at *
  have HGG := Lib.hid hgg
  clear hgg wA wB wC
  have ck : wD.cell? ⟨t, 0, none⟩ = some (.int .i64 (kindOf s)) := H1.out.blk.cell rfl
  refine wpList_nil ?_
  repeat (first | (with_reducible refine stopR (id := 16) ?_) | go_values | go_skip | go_guarded | go_step | go_upon | go_back)
  refine Stop.mk (wp_region_lit ?_)
  have HB := Lib.hid H1.out.blk
  have HRW := Lib.hid (readOf_wf HS.out)
  rw [(show (⟨kindOf s, id, zeros 32, 0, [], 0, zeros 8⟩ : Bk) = readOf s from by rw [← HID.out]; unfold readOf; simp [hk1, hk2, hk3])] at HB
  refine load73 (cs := (readOf s).arr nilv) (Blk.all HB.out rfl) ((readOf s).arr_size HRW.out _) rfl rfl ?_
  try simp only [Act.put, List.setIfInBounds_toArray, List.set_cons_succ, List.set_cons_zero]
  refine store_all (cs := (readOf s).arr nilv) H1.out.res (by rw [(readOf s).arr_size HRW.out]; rfl) (by rw [(readOf s).arr_size HRW.out]; exact info73) (cells_one _ _ _ _) rfl rfl rfl ?_
  intro wZ hZ hOZ hlZ
  try simp only [Act.put, List.setIfInBounds_toArray, List.set_cons_succ, List.set_cons_zero]
  have HF := Lib.hid (H1.out.bel.trans (hOZ.below H1.out.bel.size (fun k hk => by have := H1.out.g0; have := H1.out.gr; omega)))
  refine wpList_nil ?_
  go_wp2_with fail
  refine bodyPost_ret (v := .agg ((readOf s).arr nilv)) (results_cell_at rfl _ _ r 0 _ _ rfl Tryz.underlying73 rfl (by rw [(readOf s).arr_size HRW.out]; exact info73) (Blk.all hZ rfl)) rfl ⟨_, rfl, ?_, HF.out, Fresh.nil _⟩
  rw [show (readOf s).bytes = [] from by unfold readOf; simp [hk2]]
  exact BytesAt.nil _ _ _
set_option maxRecDepth 100000 in
theorem read_img (s : List Int) (hs : Sc s) (hk : kindOf s = 1) (w : World) : Calls Tryz.prog 119 #[.agg (u8s s).toArray] w fun e w' => ∃ sv, e = .returned (.agg ((readOf s).arr sv)) ∧ BytesAt w' sv (readOf s).bytes ∧ Below w.heap.size w w' ∧ Fresh w.heap.size sv := by
  have HS := Lib.hid hs
  obtain ⟨hi1, hi2⟩ := sc_byte hs 1
  obtain ⟨id, hid⟩ : ∃ i, s.getD 1 0 = i := ⟨_, rfl⟩
  rw [hid] at hi1 hi2
  have HID := Lib.hid hid
  have HK := Lib.hid hk
  have hk0 := sc_byte hs 0
  clear hk0
  go_enter Tryz.func119, Tryz.ntmps119
  repeat (first | (with_reducible refine stopR (id := 0) ?_) | go_values | go_skip | go_guarded | go_step | go_upon | go_back)
  refine Stop.mk (wp_region_lit ?_)
  refine box_g rfl rfl ?_
  intro wA hA hB hl
  try simp only [Act.put, List.setIfInBounds_toArray, List.set_cons_succ, List.set_cons_zero]
  refine alloc_g zero73b rfl ?_
  intro wB hR hB2 hl2
  try simp only [Act.put, List.setIfInBounds_toArray, List.set_cons_succ, List.set_cons_zero]
  have hA2 := hA.below hB2 hl
  have hBB := hB.trans (hB2.mono hB.size)
  refine wpList_nil ?_
  repeat (first | (with_reducible refine stopR (id := 1) ?_) | go_values | go_skip | go_guarded | go_step | go_upon | go_back)
  refine Stop.mk (wp_region_lit ?_)
  have c0 : wB.cell? ⟨w.heap.size, 0, none⟩ = some (.int .u8 (kindOf s)) := hA2.cell (sc_cell HS.out (by decide))
  rw [HK.out] at c0
  have c1 : wB.cell? ⟨w.heap.size, 1, none⟩ = some (.int .u8 id) := by rw [← HID.out]; exact hA2.cell (sc_cell HS.out (by decide))
  refine takeL (.pointer (some ⟨w.heap.size, 0, none⟩)) rfl (by go_simp) ?_
  try simp only [Act.put, List.setIfInBounds_toArray, List.set_cons_succ, List.set_cons_zero]
  refine takeL (.int .u8 1) rfl (by go_simp) ?_
  try simp only [Act.put, List.setIfInBounds_toArray, List.set_cons_succ, List.set_cons_zero]
  refine takeL (.int .i64 1) rfl (by go_simp; rfl) ?_
  try simp only [Act.put, List.setIfInBounds_toArray, List.set_cons_succ, List.set_cons_zero]
  refine takeL (.pointer (some ⟨w.heap.size, 1, none⟩)) rfl (by go_simp) ?_
  try simp only [Act.put, List.setIfInBounds_toArray, List.set_cons_succ, List.set_cons_zero]
  refine takeL (.int .u8 (id)) rfl (by go_simp) ?_
  try simp only [Act.put, List.setIfInBounds_toArray, List.set_cons_succ, List.set_cons_zero]
  refine takeL (.int .i64 id) rfl (by go_simp; exact wrap64 hi1 (by omega)) ?_
  try simp only [Act.put, List.setIfInBounds_toArray, List.set_cons_succ, List.set_cons_zero]
  refine takeL (.agg (Bk.arr ⟨1, id, zeros 32, 0, [], 0, zeros 8⟩ nilv)) rfl (exec_build _ _ _ _ 73 #[(0, .tmp 7), (1, .tmp 10)] rfl #[(0, .int .i64 1), (1, .int .i64 (id))] (by simp only [List.map_toArray, List.map_cons, List.map_nil]; rfl) _ (build73k 1 (id) _)) ?_
  try simp only [Act.put, List.setIfInBounds_toArray, List.set_cons_succ, List.set_cons_zero]
  refine alloc_g zero73b rfl ?_
  intro wC hC hBC hlC
  try simp only [Act.put, List.setIfInBounds_toArray, List.set_cons_succ, List.set_cons_zero]
  refine store_all hC (by rfl) (by exact info73) (cells_one _ _ _ _) rfl rfl rfl ?_
  intro wD hD hOD hlD
  try simp only [Act.put, List.setIfInBounds_toArray, List.set_cons_succ, List.set_cons_zero]
  have hBD := hBC.trans (hOD.below hBC.size (fun k hk => Nat.le_of_eq hk.symm))
  have H1 : Hid (RT w wD w.heap.size wA.heap.size wB.heap.size s ⟨1, id, zeros 32, 0, [], 0, zeros 8⟩ nilv) := Lib.hid
    ⟨hA2.below hBD hA2.lt, hR.below hBD hR.lt, hD, hBB.trans (hBD.mono hBB.size), Nat.le_refl _, hl, hl2⟩
  clear c0 c1 hA hB hl hR hB2 hl2 hA2 hBB hC hBC hlC hD hOD hlD hBD
  generalize hgg : w.heap.size = g at *
  generalize wA.heap.size = r at *
  generalize wB.heap.size = t at *
  have HGG := Lib.hid hgg
  clear hgg wA wB wC
  have ck : wD.cell? ⟨t, 0, none⟩ = some (.int .i64 1) := H1.out.blk.cell rfl
  refine wpList_nil ?_
  go_wp2_with fail
  refine startH (fun _ => True) (by kernel_rfl) ?_
  refine takeH 0 (some 16) (.pointer (some ⟨t, 2, none⟩)) rfl rfl (by kernel_rfl) (by kernel_rfl) (by kernel_rfl) (fun _ _ _ h => h) rfl (fun w _ => by go_simp) trivial ?_
  try simp only [Act.put, List.setIfInBounds_toArray, List.set_cons_succ, List.set_cons_zero]
  refine takeH 1 (some 17) (.slice (some ⟨t, 2, none⟩) 32 32) rfl rfl (by kernel_rfl) (by kernel_rfl) (by kernel_rfl) (fun _ _ _ h => h) rfl (fun w _ => by go_simp) trivial ?_
  try simp only [Act.put, List.setIfInBounds_toArray, List.set_cons_succ, List.set_cons_zero]
  refine takeH 2 (some 18) (.slice (some ⟨g, 6, none⟩) 58 58) rfl rfl (by kernel_rfl) (by kernel_rfl) (by kernel_rfl) (fun _ _ _ h => h) rfl (fun w _ => by go_simp) trivial ?_
  try simp only [Act.put, List.setIfInBounds_toArray, List.set_cons_succ, List.set_cons_zero]
  refine oneH 3 (by kernel_rfl) rfl rfl fun K hK => ?_
  have hl32 : ((s.drop 6).take 32).length = 32 := by simp [HS.out.length]
  refine wp_copy _ _ rfl Tryz.underlying25 info5s t 2 32 32 g 6 58 58 rfl rfl _ ((s.drop 6).take 32) H1.out.drew.blk (by rw [hl32]; rfl) (fun j v hv => H1.out.drew.seg 6 32 j v hv) (by rw [hl32]; simp [Bk.cells, zeros]) (some 19) rfl fun wC hb ho => ?_
  rw [cells_page _ rfl _ _ hl32] at hb
  have H2 := Lib.hid (H1.out.drew.put hb ho)
  refine hK _ _ trivial ?_
  clear hK K hb ho
  try simp only [Act.put, List.setIfInBounds_toArray, List.set_cons_succ, List.set_cons_zero]
  refine wpAnyH_done (by kernel_rfl) ?_ _
  repeat (first | (with_reducible refine stopR (id := 16) ?_) | go_values | go_skip | go_guarded | go_step | go_upon | go_back)
  refine Stop.mk (wp_region_lit ?_)
  have HB := Lib.hid H2.out.blk
  have HRW := Lib.hid (readOf_wf HS.out)
  rw [(show ({ (⟨1, id, zeros 32, 0, [], 0, zeros 8⟩ : Bk) with page := (s.drop 6).take 32 }) = readOf s from by rw [← HID.out]; unfold readOf; simp [HK.out])] at HB
  refine load73 (cs := (readOf s).arr nilv) (Blk.all HB.out rfl) ((readOf s).arr_size HRW.out _) rfl rfl ?_
  try simp only [Act.put, List.setIfInBounds_toArray, List.set_cons_succ, List.set_cons_zero]
  refine store_all (cs := (readOf s).arr nilv) H2.out.res (by rw [(readOf s).arr_size HRW.out]; rfl) (by rw [(readOf s).arr_size HRW.out]; exact info73) (cells_one _ _ _ _) rfl rfl rfl ?_
  intro wZ hZ hOZ hlZ
  try simp only [Act.put, List.setIfInBounds_toArray, List.set_cons_succ, List.set_cons_zero]
  have HF := Lib.hid (H2.out.bel.trans (hOZ.below H2.out.bel.size (fun k hk => by have := H2.out.g0; have := H2.out.gr; omega)))
  refine wpList_nil ?_
  go_wp2_with fail
  refine bodyPost_ret (v := .agg ((readOf s).arr nilv)) (results_cell_at rfl _ _ r 0 _ _ rfl Tryz.underlying73 rfl (by rw [(readOf s).arr_size HRW.out]; exact info73) (Blk.all hZ rfl)) rfl ⟨_, rfl, ?_, HF.out, Fresh.nil _⟩
  rw [show (readOf s).bytes = [] from by unfold readOf; simp [HK.out]]
  exact BytesAt.nil _ _ _
theorem RT.other {W w w' : World} {g r t m : Nat} {s : List Int} {b : Bk} {sv : Value} (h : RT W w g r t s b sv) (ho : Only (fun k => k = m) w w') (hm : t < m) : RT W w' g r t s b sv :=
  ⟨h.sec.only ho (by have := h.gr; have := h.rt; omega), h.res.only ho (by have := h.rt; omega), h.blk.only ho (by omega), h.bel.trans (ho.below h.bel.size (fun k hk => by have := h.g0; have := h.gr; have := h.rt; omega)), h.g0, h.gr, h.rt⟩
theorem RT.cell34 {W w : World} {g r t : Nat} {s : List Int} {b : Bk} {sv : Value} (h : RT W w g r t s b sv) (hp : b.page.length = 32) : w.cell? ⟨t, 34, none⟩ = some (.int .i64 b.off) := h.blk.cell (cell_at34 b hp sv 0)
theorem RT.cell35 {W w : World} {g r t : Nat} {s : List Int} {b : Bk} {sv : Value} (h : RT W w g r t s b sv) (hp : b.page.length = 32) : w.cell? ⟨t, 35, none⟩ = some sv := h.blk.cell (cell_at34 b hp sv 1)
theorem RT.cell36 {W w : World} {g r t : Nat} {s : List Int} {b : Bk} {sv : Value} (h : RT W w g r t s b sv) (hp : b.page.length = 32) : w.cell? ⟨t, 36, none⟩ = some (.int .i64 b.prev) := h.blk.cell (cell_at34 b hp sv 2)
theorem RT.cellH {W w : World} {g r t : Nat} {s : List Int} {b : Bk} {sv : Value} (h : RT W w g r t s b sv) (hp : b.page.length = 32) (k : Nat) : w.cell? ⟨t, 37 + k, none⟩ = (i64s b.heads)[k]? := by
  obtain ⟨ty, e⟩ := h.blk
  rw [cell_of_row w t _ _ ty _ e, List.getElem?_toArray]
  have := cell_at34 b hp sv (k + 3)
  rwa [show 34 + (k + 3) = 37 + k by omega] at this
theorem sc_seg {s : List Int} (h : Sc s) (o n : Nat) : ∀ x ∈ (s.drop o).take n, Byte x := fun x hx => h.bytes x (List.mem_of_mem_drop (List.mem_of_mem_take hx))
/-- The block of a delta's sector. -/
def dltOf (id : Int) (o : Int) (n : Nat) (s : List Int) (p : Int) : Bk := ⟨2, id, zeros 32, o, (s.drop 8).take (min 16 n) ++ zeros (n - 16), p, zeros 8⟩
theorem dlt_eq {s : List Int} (hk : kindOf s = 2) {id o p : Int} {n : Nat} (h1 : s.getD 1 0 = id) (h6 : s.getD 6 0 = o) (h7 : s.getD 7 0 = (n : Int)) (hp : num ((s.drop 24).take 2) = p) : dltOf id o n s p = readOf s := by
  subst h1 h6 hp
  have e : (s.getD 7 0).toNat = n := by rw [h7]; rfl
  unfold dltOf readOf
  rw [e]
  simp [hk]
set_option maxRecDepth 100000 in
theorem read_dlt (s : List Int) (hs : Sc s) (hk : kindOf s = 2) (w : World) : Calls Tryz.prog 119 #[.agg (u8s s).toArray] w fun e w' => ∃ sv, e = .returned (.agg ((readOf s).arr sv)) ∧ BytesAt w' sv (readOf s).bytes ∧ Below w.heap.size w w' ∧ Fresh w.heap.size sv := by
  have HS := Lib.hid hs
  obtain ⟨hi1, hi2⟩ := sc_byte hs 1
  obtain ⟨id, hid⟩ : ∃ i, s.getD 1 0 = i := ⟨_, rfl⟩
  rw [hid] at hi1 hi2
  have HID := Lib.hid hid
  have HK := Lib.hid hk
  have hk0 := sc_byte hs 0
  clear hk0
  go_enter Tryz.func119, Tryz.ntmps119
  repeat (first | (with_reducible refine stopR (id := 0) ?_) | go_values | go_skip | go_guarded | go_step | go_upon | go_back)
  refine Stop.mk (wp_region_lit ?_)
  refine box_g rfl rfl ?_
  intro wA hA hB hl
  try simp only [Act.put, List.setIfInBounds_toArray, List.set_cons_succ, List.set_cons_zero]
  refine alloc_g zero73b rfl ?_
  intro wB hR hB2 hl2
  try simp only [Act.put, List.setIfInBounds_toArray, List.set_cons_succ, List.set_cons_zero]
  have hA2 := hA.below hB2 hl
  have hBB := hB.trans (hB2.mono hB.size)
  refine wpList_nil ?_
  repeat (first | (with_reducible refine stopR (id := 1) ?_) | go_values | go_skip | go_guarded | go_step | go_upon | go_back)
  refine Stop.mk (wp_region_lit ?_)
  have c0 : wB.cell? ⟨w.heap.size, 0, none⟩ = some (.int .u8 (kindOf s)) := hA2.cell (sc_cell HS.out (by decide))
  rw [HK.out] at c0
  have c1 : wB.cell? ⟨w.heap.size, 1, none⟩ = some (.int .u8 id) := by rw [← HID.out]; exact hA2.cell (sc_cell HS.out (by decide))
  refine takeL (.pointer (some ⟨w.heap.size, 0, none⟩)) rfl (by go_simp) ?_
  try simp only [Act.put, List.setIfInBounds_toArray, List.set_cons_succ, List.set_cons_zero]
  refine takeL (.int .u8 2) rfl (by go_simp) ?_
  try simp only [Act.put, List.setIfInBounds_toArray, List.set_cons_succ, List.set_cons_zero]
  refine takeL (.int .i64 2) rfl (by go_simp; rfl) ?_
  try simp only [Act.put, List.setIfInBounds_toArray, List.set_cons_succ, List.set_cons_zero]
  refine takeL (.pointer (some ⟨w.heap.size, 1, none⟩)) rfl (by go_simp) ?_
  try simp only [Act.put, List.setIfInBounds_toArray, List.set_cons_succ, List.set_cons_zero]
  refine takeL (.int .u8 (id)) rfl (by go_simp) ?_
  try simp only [Act.put, List.setIfInBounds_toArray, List.set_cons_succ, List.set_cons_zero]
  refine takeL (.int .i64 id) rfl (by go_simp; exact wrap64 hi1 (by omega)) ?_
  try simp only [Act.put, List.setIfInBounds_toArray, List.set_cons_succ, List.set_cons_zero]
  refine takeL (.agg (Bk.arr ⟨2, id, zeros 32, 0, [], 0, zeros 8⟩ nilv)) rfl (exec_build _ _ _ _ 73 #[(0, .tmp 7), (1, .tmp 10)] rfl #[(0, .int .i64 2), (1, .int .i64 (id))] (by simp only [List.map_toArray, List.map_cons, List.map_nil]; rfl) _ (build73k 2 (id) _)) ?_
  try simp only [Act.put, List.setIfInBounds_toArray, List.set_cons_succ, List.set_cons_zero]
  refine alloc_g zero73b rfl ?_
  intro wC hC hBC hlC
  try simp only [Act.put, List.setIfInBounds_toArray, List.set_cons_succ, List.set_cons_zero]
  refine store_all hC (by rfl) (by exact info73) (cells_one _ _ _ _) rfl rfl rfl ?_
  intro wD hD hOD hlD
  try simp only [Act.put, List.setIfInBounds_toArray, List.set_cons_succ, List.set_cons_zero]
  have hBD := hBC.trans (hOD.below hBC.size (fun k hk => Nat.le_of_eq hk.symm))
  have H1 : Hid (RT w wD w.heap.size wA.heap.size wB.heap.size s ⟨2, id, zeros 32, 0, [], 0, zeros 8⟩ nilv) := Lib.hid
    ⟨hA2.below hBD hA2.lt, hR.below hBD hR.lt, hD, hBB.trans (hBD.mono hBB.size), Nat.le_refl _, hl, hl2⟩
  clear c0 c1 hA hB hl hR hB2 hl2 hA2 hBB hC hBC hlC hD hOD hlD hBD
  generalize hgg : w.heap.size = g at *
  generalize wA.heap.size = r at *
  generalize wB.heap.size = t at *
  have HGG := Lib.hid hgg
  clear hgg wA wB wC
  have ck : wD.cell? ⟨t, 0, none⟩ = some (.int .i64 2) := H1.out.blk.cell rfl
  refine wpList_nil ?_
  repeat (first | (with_reducible refine stopR (id := 6) ?_) | go_values | go_skip | go_guarded | go_step | go_upon | go_back)
  refine Stop.mk (wp_region_lit ?_)
  obtain ⟨ho1, ho2⟩ := sc_byte hs 6
  obtain ⟨hm1, hm2⟩ := sc_byte hs 7
  obtain ⟨o, ho⟩ : ∃ i, s.getD 6 0 = i := ⟨_, rfl⟩
  obtain ⟨n, hn⟩ : ∃ n : Nat, s.getD 7 0 = (n : Int) := ⟨(s.getD 7 0).toNat, by omega⟩
  rw [ho] at ho1 ho2
  rw [hn] at hm2
  have HO := Lib.hid ho
  have HNN := Lib.hid hn
  clear ho hn hm1
  have hn256 : n < 256 := by omega
  have c6 : wD.cell? ⟨g, 6, none⟩ = some (.int .u8 o) := by rw [← HO.out]; exact H1.out.sec.cell (sc_cell HS.out (by decide))
  have c34 := H1.out.cell34 rfl
  have hf := H1.out.blk.frozen 34
  refine takeL (.pointer (some ⟨g, 6, none⟩)) rfl (by go_simp) ?_
  try simp only [Act.put, List.setIfInBounds_toArray, List.set_cons_succ, List.set_cons_zero]
  refine takeL (.int .u8 o) rfl (by go_simp) ?_
  try simp only [Act.put, List.setIfInBounds_toArray, List.set_cons_succ, List.set_cons_zero]
  refine takeL (.int .i64 o) rfl (by go_simp; exact wrap64 ho1 (by omega)) ?_
  try simp only [Act.put, List.setIfInBounds_toArray, List.set_cons_succ, List.set_cons_zero]
  refine takeL (.pointer (some ⟨t, 34, none⟩)) rfl (by go_simp) ?_
  try simp only [Act.put, List.setIfInBounds_toArray, List.set_cons_succ, List.set_cons_zero]
  refine skipL (wD.setCell ⟨t, 34, none⟩ (.int .i64 o)) rfl (by go_simp) ?_
  try simp only [Act.put, List.setIfInBounds_toArray, List.set_cons_succ, List.set_cons_zero]
  have H2 := Lib.hid (H1.out.set 34 (.int .i64 o) (cells_set34 _ rfl _ o))
  clear ck c6 c34 hf
  generalize wD.setCell ⟨t, 34, none⟩ (.int .i64 o) = wE at *
  refine wpList_nil ?_
  repeat (first | (with_reducible refine stopR (id := 7) ?_) | go_values | go_skip | go_guarded | go_step | go_upon | go_back)
  refine Stop.mk (wp_region_lit ?_)
  have c7 : wE.cell? ⟨g, 7, none⟩ = some (.int .u8 (n : Int)) := by rw [← HNN.out]; exact H2.out.sec.cell (sc_cell HS.out (by decide))
  refine takeL (.pointer (some ⟨g, 7, none⟩)) rfl (by go_simp) ?_
  try simp only [Act.put, List.setIfInBounds_toArray, List.set_cons_succ, List.set_cons_zero]
  refine takeL (.int .u8 (n : Int)) rfl (by go_simp) ?_
  try simp only [Act.put, List.setIfInBounds_toArray, List.set_cons_succ, List.set_cons_zero]
  refine takeL (.int .i64 (n : Int)) rfl (by go_simp; exact wrap64 (by omega) (by omega)) ?_
  try simp only [Act.put, List.setIfInBounds_toArray, List.set_cons_succ, List.set_cons_zero]
  refine make_g (n := n) rfl rfl hn256 rfl ?_
  intro wF hM hBM hlM
  try simp only [Act.put, List.setIfInBounds_toArray, List.set_cons_succ, List.set_cons_zero]
  have H3 := Lib.hid (H2.out.below hBM)
  have hmt : t < wE.heap.size := H2.out.blk.lt
  generalize wE.heap.size = m at *
  clear c7 hBM
  have c35 := H3.out.cell35 rfl
  have hf := H3.out.blk.frozen 35
  refine takeL (.pointer (some ⟨t, 35, none⟩)) rfl (by go_simp) ?_
  try simp only [Act.put, List.setIfInBounds_toArray, List.set_cons_succ, List.set_cons_zero]
  refine skipL (wF.setCell ⟨t, 35, none⟩ (.slice (some ⟨m, 0, none⟩) n n)) rfl (by go_simp) ?_
  try simp only [Act.put, List.setIfInBounds_toArray, List.set_cons_succ, List.set_cons_zero]
  have H4 := Lib.hid (H3.out.set 35 (.slice (some ⟨m, 0, none⟩) n n) (cells_set35 _ rfl _ _ ((s.drop 8).take (min 16 n) ++ zeros (n - 16))))
  have HM4 := Lib.hid (hM.setOther (a := ⟨t, 35, none⟩) (by simp only; omega) (.slice (some ⟨m, 0, none⟩) n n))
  clear c35 hf hM H3
  generalize wF.setCell ⟨t, 35, none⟩ (.slice (some ⟨m, 0, none⟩) n n) = wG at *
  refine wpList_nil ?_
  go_wp2_with fail
  have c35 := H4.out.drew.cell35 rfl
  refine startH (fun wq => wq.cell? ⟨t, 35, none⟩ = some (.slice (some ⟨m, 0, none⟩) n n)) (by kernel_rfl) ?_
  refine takeH 0 (some 31) (.pointer (some ⟨t, 35, none⟩)) rfl rfl (by kernel_rfl) (by kernel_rfl) (by kernel_rfl) (fun _ _ _ h => h) rfl (fun w _ => by go_simp) c35 ?_
  try simp only [Act.put, List.setIfInBounds_toArray, List.set_cons_succ, List.set_cons_zero]
  refine takeH 1 (some 32) (.slice (some ⟨m, 0, none⟩) n n) rfl rfl (by kernel_rfl) (by kernel_rfl) (by kernel_rfl) (fun _ _ _ h => h) rfl (fun w hS => by go_simp) c35 ?_
  try simp only [Act.put, List.setIfInBounds_toArray, List.set_cons_succ, List.set_cons_zero]
  refine takeH 2 (some 33) (.slice (some ⟨g, 8, none⟩) 16 56) rfl rfl (by kernel_rfl) (by kernel_rfl) (by kernel_rfl) (fun _ _ _ h => h) rfl (fun w _ => by go_simp) c35 ?_
  try simp only [Act.put, List.setIfInBounds_toArray, List.set_cons_succ, List.set_cons_zero]
  refine oneH 3 (by kernel_rfl) rfl rfl fun K hK => ?_
  have hl16 : ((s.drop 8).take (min 16 n)).length = min 16 n := by
    rw [List.length_take, List.length_drop, HS.out.length]
    omega
  refine wp_copy _ _ rfl Tryz.underlying25 info5s m 0 n n g 8 16 56 rfl rfl _ ((s.drop 8).take (min 16 n)) HM4.out.drew (by rw [hl16]) (fun j v hv => H4.out.drew.seg 8 (min 16 n) j v hv) (by rw [hl16, List.length_map, zeros_length]; omega) (some 34) rfl fun wC hb ho => ?_
  rw [lay_u8s, layI_zeros, hl16, show n - min 16 n = n - 16 by omega] at hb
  have H5 := Lib.hid (H4.out.drew.other ho hmt)
  have HM5 := Lib.hid hb
  refine hK _ _ (H5.out.cell35 rfl) ?_
  clear hK K hb ho c35 H4 HM4 hl16
  try simp only [Act.put, List.setIfInBounds_toArray, List.set_cons_succ, List.set_cons_zero]
  refine wpAnyH_done (by kernel_rfl) ?_ _
  repeat (first | (with_reducible refine stopR (id := 9) ?_) | go_values | go_skip | go_guarded | go_step | go_upon | go_back)
  refine Stop.mk (wp_region_lit ?_)
  refine takeL (.slice (some ⟨g, 24, none⟩) 2 40) rfl (by go_simp) ?_
  try simp only [Act.put, List.setIfInBounds_toArray, List.set_cons_succ, List.set_cons_zero]
  refine wpList_op rfl fun K hK => ?_
  go_simp
  have hp2 := num_range _ (sc_seg HS.out 24 2)
  have hp3 : ((s.drop 24).take 2).length = 2 := by simp [HS.out.length]
  rw [hp3] at hp2
  refine (get2_any _ g 24 40 ((s.drop 24).take 2) hp3 (sc_seg HS.out 24 2) (fun i x hx => H5.out.seg 24 2 i x hx)).mono ?_
  rintro e w6 ⟨rfl, rfl⟩
  refine hK _ _ ?_
  clear hK K
  try simp only [Act.put, List.setIfInBounds_toArray, List.set_cons_succ, List.set_cons_zero]
  obtain ⟨hp4, hp5⟩ := hp2
  generalize hpp : num ((s.drop 24).take 2) = p at *
  have HPP := Lib.hid hpp
  have hp6 : p < 65536 := hp5
  clear hpp hp3 hp5
  have c36 := H5.out.cell36 rfl
  have hf := H5.out.blk.frozen 36
  refine takeL (.int .i64 p) rfl (by go_simp; exact wrap64 hp4 (by omega)) ?_
  try simp only [Act.put, List.setIfInBounds_toArray, List.set_cons_succ, List.set_cons_zero]
  refine takeL (.pointer (some ⟨t, 36, none⟩)) rfl (by go_simp) ?_
  try simp only [Act.put, List.setIfInBounds_toArray, List.set_cons_succ, List.set_cons_zero]
  refine skipL (wC.setCell ⟨t, 36, none⟩ (.int .i64 p)) rfl (by go_simp) ?_
  try simp only [Act.put, List.setIfInBounds_toArray, List.set_cons_succ, List.set_cons_zero]
  have H6 : Hid (RT w _ g r t s (dltOf id o n s p) (.slice (some ⟨m, 0, none⟩) n n)) := Lib.hid (H5.out.set 36 (.int .i64 p) (cells_set36 _ rfl _ p))
  have HM6 := Lib.hid (HM5.out.setOther (a := ⟨t, 36, none⟩) (by simp only; omega) (.int .i64 p))
  clear c36 hf H5 HM5
  generalize wC.setCell ⟨t, 36, none⟩ (.int .i64 p) = wH at *
  have hmlt : m < wH.heap.size := HM6.out.lt
  refine wpList_nil ?_
  repeat (first | (with_reducible refine stopR (id := 16) ?_) | go_values | go_skip | go_guarded | go_step | go_upon | go_back)
  refine Stop.mk (wp_region_lit ?_)
  have HB := Lib.hid H6.out.blk
  have HRW := Lib.hid (readOf_wf HS.out)
  rw [(dlt_eq HK.out HID.out HO.out HNN.out HPP.out)] at HB
  refine load73 (cs := (readOf s).arr (.slice (some ⟨m, 0, none⟩) n n)) (Blk.all HB.out rfl) ((readOf s).arr_size HRW.out _) rfl rfl ?_
  try simp only [Act.put, List.setIfInBounds_toArray, List.set_cons_succ, List.set_cons_zero]
  refine store_all (cs := (readOf s).arr (.slice (some ⟨m, 0, none⟩) n n)) H6.out.res (by rw [(readOf s).arr_size HRW.out]; rfl) (by rw [(readOf s).arr_size HRW.out]; exact info73) (cells_one _ _ _ _) rfl rfl rfl ?_
  intro wZ hZ hOZ hlZ
  try simp only [Act.put, List.setIfInBounds_toArray, List.set_cons_succ, List.set_cons_zero]
  have HF := Lib.hid (H6.out.bel.trans (hOZ.below H6.out.bel.size (fun k hk => by have := H6.out.g0; have := H6.out.gr; omega)))
  refine wpList_nil ?_
  go_wp2_with fail
  refine bodyPost_ret (v := .agg ((readOf s).arr (.slice (some ⟨m, 0, none⟩) n n))) (results_cell_at rfl _ _ r 0 _ _ rfl Tryz.underlying73 rfl (by rw [(readOf s).arr_size HRW.out]; exact info73) (Blk.all hZ rfl)) rfl ⟨_, rfl, ?_, HF.out, fun b o k c h => by cases h; have := H6.out.g0; have := H6.out.gr; have := H6.out.rt; omega⟩
  have hz := HM6.out.only hOZ (by have := H6.out.rt; omega)
  have hb := BytesAt.of_blk (cap := n) hz
  have e : readOf s = dltOf id o n s p := (dlt_eq HK.out HID.out HO.out HNN.out HPP.out).symm
  rw [e]
  have el : ((s.drop 8).take (min 16 n) ++ zeros (n - 16)).length = n := by
    simp [HS.out.length, zeros]
    omega
  rw [el] at hb
  exact hb
set_option maxRecDepth 100000 in
theorem read_map (s : List Int) (hs : Sc s) (hk : kindOf s = 3) (w : World) : Calls Tryz.prog 119 #[.agg (u8s s).toArray] w fun e w' => ∃ sv, e = .returned (.agg ((readOf s).arr sv)) ∧ BytesAt w' sv (readOf s).bytes ∧ Below w.heap.size w w' ∧ Fresh w.heap.size sv := by
  have HS := Lib.hid hs
  obtain ⟨hi1, hi2⟩ := sc_byte hs 1
  obtain ⟨id, hid⟩ : ∃ i, s.getD 1 0 = i := ⟨_, rfl⟩
  rw [hid] at hi1 hi2
  have HID := Lib.hid hid
  have HK := Lib.hid hk
  have hk0 := sc_byte hs 0
  clear hk0
  go_enter Tryz.func119, Tryz.ntmps119
  repeat (first | (with_reducible refine stopR (id := 0) ?_) | go_values | go_skip | go_guarded | go_step | go_upon | go_back)
  refine Stop.mk (wp_region_lit ?_)
  refine box_g rfl rfl ?_
  intro wA hA hB hl
  try simp only [Act.put, List.setIfInBounds_toArray, List.set_cons_succ, List.set_cons_zero]
  refine alloc_g zero73b rfl ?_
  intro wB hR hB2 hl2
  try simp only [Act.put, List.setIfInBounds_toArray, List.set_cons_succ, List.set_cons_zero]
  have hA2 := hA.below hB2 hl
  have hBB := hB.trans (hB2.mono hB.size)
  refine wpList_nil ?_
  repeat (first | (with_reducible refine stopR (id := 1) ?_) | go_values | go_skip | go_guarded | go_step | go_upon | go_back)
  refine Stop.mk (wp_region_lit ?_)
  have c0 : wB.cell? ⟨w.heap.size, 0, none⟩ = some (.int .u8 (kindOf s)) := hA2.cell (sc_cell HS.out (by decide))
  rw [HK.out] at c0
  have c1 : wB.cell? ⟨w.heap.size, 1, none⟩ = some (.int .u8 id) := by rw [← HID.out]; exact hA2.cell (sc_cell HS.out (by decide))
  refine takeL (.pointer (some ⟨w.heap.size, 0, none⟩)) rfl (by go_simp) ?_
  try simp only [Act.put, List.setIfInBounds_toArray, List.set_cons_succ, List.set_cons_zero]
  refine takeL (.int .u8 3) rfl (by go_simp) ?_
  try simp only [Act.put, List.setIfInBounds_toArray, List.set_cons_succ, List.set_cons_zero]
  refine takeL (.int .i64 3) rfl (by go_simp; rfl) ?_
  try simp only [Act.put, List.setIfInBounds_toArray, List.set_cons_succ, List.set_cons_zero]
  refine takeL (.pointer (some ⟨w.heap.size, 1, none⟩)) rfl (by go_simp) ?_
  try simp only [Act.put, List.setIfInBounds_toArray, List.set_cons_succ, List.set_cons_zero]
  refine takeL (.int .u8 (id)) rfl (by go_simp) ?_
  try simp only [Act.put, List.setIfInBounds_toArray, List.set_cons_succ, List.set_cons_zero]
  refine takeL (.int .i64 id) rfl (by go_simp; exact wrap64 hi1 (by omega)) ?_
  try simp only [Act.put, List.setIfInBounds_toArray, List.set_cons_succ, List.set_cons_zero]
  refine takeL (.agg (Bk.arr ⟨3, id, zeros 32, 0, [], 0, zeros 8⟩ nilv)) rfl (exec_build _ _ _ _ 73 #[(0, .tmp 7), (1, .tmp 10)] rfl #[(0, .int .i64 3), (1, .int .i64 (id))] (by simp only [List.map_toArray, List.map_cons, List.map_nil]; rfl) _ (build73k 3 (id) _)) ?_
  try simp only [Act.put, List.setIfInBounds_toArray, List.set_cons_succ, List.set_cons_zero]
  refine alloc_g zero73b rfl ?_
  intro wC hC hBC hlC
  try simp only [Act.put, List.setIfInBounds_toArray, List.set_cons_succ, List.set_cons_zero]
  refine store_all hC (by rfl) (by exact info73) (cells_one _ _ _ _) rfl rfl rfl ?_
  intro wD hD hOD hlD
  try simp only [Act.put, List.setIfInBounds_toArray, List.set_cons_succ, List.set_cons_zero]
  have hBD := hBC.trans (hOD.below hBC.size (fun k hk => Nat.le_of_eq hk.symm))
  have H1 : Hid (RT w wD w.heap.size wA.heap.size wB.heap.size s ⟨3, id, zeros 32, 0, [], 0, zeros 8⟩ nilv) := Lib.hid
    ⟨hA2.below hBD hA2.lt, hR.below hBD hR.lt, hD, hBB.trans (hBD.mono hBB.size), Nat.le_refl _, hl, hl2⟩
  clear c0 c1 hA hB hl hR hB2 hl2 hA2 hBB hC hBC hlC hD hOD hlD hBD
  generalize hgg : w.heap.size = g at *
  generalize wA.heap.size = r at *
  generalize wB.heap.size = t at *
  have HGG := Lib.hid hgg
  clear hgg wA wB wC
  have ck : wD.cell? ⟨t, 0, none⟩ = some (.int .i64 3) := H1.out.blk.cell rfl
  refine wpList_nil ?_
  go_wp2_with fail
  go_loopg [41] 8 (fun q i wr => ∃ k : Nat, 8 - k ≤ q ∧ k ≤ 8 ∧ i = .int .i64 k ∧ RT w wr g r t s ⟨3, id, zeros 32, 0, [], 0, (List.range k).map (headOf s) ++ zeros (8 - k)⟩ nilv)
  case atStart => exact ⟨0, by omega, by omega, rfl, H1.out⟩
  case round =>
    obtain ⟨k, hg, hk, rfl, hrt⟩ := hrel
    have HR := Lib.hid hrt
    clear hrt H1
    by_cases hlt : k < 8
    · have hcell := HR.out.cellH rfl k
      rw [show (i64s ((List.range k).map (headOf s) ++ zeros (8 - k)))[k]? = some (.int .i64 0) from by
        rw [List.getElem?_map, List.getElem?_append_right (by simp), zeros, List.getElem?_replicate, if_pos (by rw [List.length_map, List.length_range]; omega)]
        rfl] at hcell
      have hfro := HR.out.blk.frozen (37 + k)
      have hp2 := num_range _ (sc_seg HS.out (6 + 2 * k) 2)
      have hp3 : ((s.drop (6 + 2 * k)).take 2).length = 2 := by
        rw [List.length_take, List.length_drop, HS.out.length]
        omega
      rw [hp3] at hp2
      obtain ⟨hp4, hp5⟩ := hp2
      have HG2 := Lib.hid (get2_any wr g (6 + 2 * k) (64 - (6 + 2 * k)) ((s.drop (6 + 2 * k)).take 2) hp3 (sc_seg HS.out (6 + 2 * k) 2) (fun i x hx => HR.out.seg (6 + 2 * k) 2 i x hx))
      generalize hpp : num ((s.drop (6 + 2 * k)).take 2) = p at *
      have HPP := Lib.hid hpp
      have hp6 : p < 65536 := hp5
      clear hpp hp3 hp5
      go_wp2_with fail
      refine (headOf_any wr g k hlt).mono ?_
      rintro e w6 ⟨rfl, rfl⟩
      go_wp2_with fail
      refine HG2.out.mono ?_
      rintro e w7 ⟨rfl, rfl⟩
      go_wp2_with fail
      go_roundg (8 - (k + 1))
      case measure => omega
      case rel =>
        refine ⟨k + 1, by omega, by omega, by go_num, ?_⟩
        refine HR.out.set (37 + k) (.int .i64 p) ?_
        rw [cells_setH _ rfl]
        congr 1
        simp only [Bk.mk.injEq, true_and]
        rw [List.set_append_right _ _ (by simp), List.range_succ, show 8 - k = (8 - (k + 1)) + 1 by omega, show zeros ((8 - (k + 1)) + 1) = 0 :: zeros (8 - (k + 1)) from rfl]
        simp [headOf, HPP.out]
    · have H9 : Hid (RT w wr g r t s ⟨3, id, zeros 32, 0, [], 0, (List.range 8).map (headOf s)⟩ nilv) := Lib.hid (by
        obtain rfl : k = 8 := by omega
        have := HR.out
        simpa [zeros] using this)
      have hk8 : k = 8 := by omega
      clear HR
      subst hk8
      repeat (first | (with_reducible refine stopR (id := 16) ?_) | go_values | go_skip | go_guarded | go_step | go_upon | go_back)
      refine Stop.mk (wp_region_lit ?_)
      have HB := Lib.hid H9.out.blk
      have HRW := Lib.hid (readOf_wf HS.out)
      rw [(show (⟨3, id, zeros 32, 0, [], 0, (List.range 8).map (headOf s)⟩ : Bk) = readOf s from by rw [← HID.out]; unfold readOf; simp [HK.out])] at HB
      refine load73 (cs := (readOf s).arr nilv) (Blk.all HB.out rfl) ((readOf s).arr_size HRW.out _) rfl rfl ?_
      try simp only [Act.put, List.setIfInBounds_toArray, List.set_cons_succ, List.set_cons_zero]
      refine store_all (cs := (readOf s).arr nilv) H9.out.res (by rw [(readOf s).arr_size HRW.out]; rfl) (by rw [(readOf s).arr_size HRW.out]; exact info73) (cells_one _ _ _ _) rfl rfl rfl ?_
      intro wZ hZ hOZ hlZ
      try simp only [Act.put, List.setIfInBounds_toArray, List.set_cons_succ, List.set_cons_zero]
      have HF := Lib.hid (H9.out.bel.trans (hOZ.below H9.out.bel.size (fun k hk => by have := H9.out.g0; have := H9.out.gr; omega)))
      refine wpList_nil ?_
      go_wp2_with fail
      refine bodyPost_ret (v := .agg ((readOf s).arr nilv)) (results_cell_at rfl _ _ r 0 _ _ rfl Tryz.underlying73 rfl (by rw [(readOf s).arr_size HRW.out]; exact info73) (Blk.all hZ rfl)) rfl ⟨_, rfl, ?_, HF.out, Fresh.nil _⟩
      rw [show (readOf s).bytes = [] from by unfold readOf; simp [HK.out]]
      exact BytesAt.nil _ _ _
theorem read_any (s : List Int) (hs : Sc s) (w : World) : Calls Tryz.prog 119 #[.agg (u8s s).toArray] w fun e w' => ∃ sv, e = .returned (.agg ((readOf s).arr sv)) ∧ BytesAt w' sv (readOf s).bytes ∧ Below w.heap.size w w' ∧ Fresh w.heap.size sv := by
  by_cases k1 : kindOf s = 1
  · exact read_img s hs k1 w
  · by_cases k2 : kindOf s = 2
    · exact read_dlt s hs k2 w
    · by_cases k3 : kindOf s = 3
      · exact read_map s hs k3 w
      · exact read_oth s hs ⟨k1, k2, k3⟩ w
theorem results_cell_tmp2 {P : Program} {fn : Func} {p q r : Tmp} {ty : TypeId} (h : fn.results = #[.cell p ty, .tmp q, .tmp r]) (tmps : Array Value) (w : World) (g off : Nat) (cs : Array Value) (d : TypeDesc) (v u : Value)
    (hp : tmps.getD p undef = .pointer (some ⟨g, off, none⟩)) (hv : tmps.getD q undef = v) (hv2 : tmps.getD r undef = u) (hu : P.underlying ty = some d) (hd : (match d with | .struct _ | .array _ _ => true | _ => false) = true) (hi : (P.info? ty).map (·.size) = some cs.size)
    (hc : ∀ j (h : j < cs.size), w.cell? ⟨g, off + j, none⟩ = some cs[j]) :
    (results fn tmps).run P w = .ok (.tuple #[.agg cs, v, u]) w := by
  have hp' : tmps[p]?.getD undef = .pointer (some ⟨g, off, none⟩) := by simpa using hp
  have hv' : tmps[q]?.getD undef = v := by simpa using hv
  have hv2' : tmps[r]?.getD undef = u := by simpa using hv2
  simp [results, h, hp', hv', hv2', asAddr, run_load_at w g off ty cs d hu hd hi hc]
theorem built73n : Tryz.prog.built 73 [] = some (Bk.none.arr nilv) := by kernel_rfl
theorem build73 (w : World) : (Instr.build 73 #[]).run Tryz.prog w = .ok (.agg (Bk.none.arr nilv)) w := run_build w 73 _ _ built73n
theorem arr_form (b : Bk) {w : World} {sv : Value} {l : List Int} (h : BytesAt w sv l) : ∀ v ∈ b.arr sv, v.oneCell' = true := by
  obtain ⟨a, cap, rfl, _⟩ := h
  exact cells_one b a _ cap
theorem sec_length {b : Bk} (h : b.Wf) (n : Int) : (b.sec n).length = 64 := by
  unfold Bk.sec
  cases hg : b.good
  · simp [zeros]
  · simpa using enc_length hg h n
set_option maxRecDepth 100000 in
theorem decode_any (s : List Int) (hs : Sc s) (w : World) : Calls Tryz.prog 111 #[.agg (u8s s).toArray] w fun e w' => ∃ sv, e = .returned (.tuple #[.agg ((decB s).arr sv), .int .u32 (decN s), .int .i64 (decE s)]) ∧ BytesAt w' sv (decB s).bytes ∧ Below w.heap.size w w' ∧ Fresh w.heap.size sv := by
  have HS := Lib.hid hs
  have HSL : Hid ((u8s s).toArray.size = 64) := Lib.hid (by rw [u8s_size, hs.length])
  have HRW := Lib.hid (readOf_wf hs)
  have HSR := Lib.hid (seqOf_range hs)
  have HRD := Lib.hid fun w => read_any s hs w
  have hsl4 : ((s.drop 2).take 4).length = 4 := by rw [List.length_take, List.length_drop, hs.length]; omega
  clear hs
  go_enter Tryz.func111, Tryz.ntmps111
  repeat (first | (with_reducible refine stopR (id := 0) ?_) | go_values | go_skip | go_guarded | go_step | go_upon | go_back)
  refine Stop.mk (wp_region_lit ?_)
  refine box_g rfl rfl ?_
  intro wA hA hB hl
  try simp only [Act.put, List.setIfInBounds_toArray, List.set_cons_succ, List.set_cons_zero]
  refine alloc_g zero73b rfl ?_
  intro wB hR hB2 hl2
  try simp only [Act.put, List.setIfInBounds_toArray, List.set_cons_succ, List.set_cons_zero]
  have hA2 := hA.below hB2 hl
  have hBB := hB.trans (hB2.mono hB.size)
  refine takeL (.int .u32 0) rfl (by go_simp) ?_
  try simp only [Act.put, List.setIfInBounds_toArray, List.set_cons_succ, List.set_cons_zero]
  refine takeL (.int .i64 0) rfl (by go_simp) ?_
  try simp only [Act.put, List.setIfInBounds_toArray, List.set_cons_succ, List.set_cons_zero]
  have HA2 : Hid (Blk wB w.heap.size (u8s s) ∧ Blk wB wA.heap.size (Bk.none.cells nilv) ∧ Below w.heap.size w wB ∧ w.heap.size < wA.heap.size) := Lib.hid ⟨hA2, hR, hBB, hl⟩
  clear hA hB hl hR hB2 hl2 hA2 hBB
  generalize hgg : w.heap.size = g at *
  generalize wA.heap.size = r at *
  have HGG := Lib.hid hgg
  clear hgg wA
  refine wpList_nil ?_
  go_upto_region 1 with fail
  go_cut [5, 6] from 9 to 13 (fun s5 s6 wx => ∃ t sv, s5 = .pointer (some ⟨t, 0, none⟩) ∧ s6 = .int .u32 (seqOf s) ∧ RT w wx g r t s (readOf s) sv ∧ BytesAt wx sv (readOf s).bytes ∧ Fresh (r + 1) sv)
  case first =>
    have hAt : ∀ wq, Below wB.heap.size wB wq → At wq g 0 (u8s s).toArray := fun wq hq => Blk.all (HA2.out.1.below hq HA2.out.1.lt) rfl
    have HC4 := Lib.hid fun (wq : World) (hq : Below wB.heap.size wB wq) => get4_any wq g 2 62 ((s.drop 2).take 4) hsl4 (sc_seg HS.out 2 4) (fun i x hx => (HA2.out.1.below hq HA2.out.1.lt).cell (by
      have hj : i < 4 := by
        have := (List.getElem?_eq_some_iff.1 hx).1
        omega
      rw [List.getElem?_take_of_lt hj, List.getElem?_drop] at hx
      rw [List.getElem?_map, hx]
      rfl))
    refine startH (fun wq => Below wB.heap.size wB wq) (by kernel_rfl) ?_
    have HSX : Hid (Below wB.heap.size wB wB.drew) := Lib.hid (Below.refl _ _).drew
    generalize wB.drew = wS at *
    refine takeH 0 (some 9) (.agg (u8s s).toArray) rfl rfl (by kernel_rfl) (by kernel_rfl) (by kernel_rfl) (fun _ _ _ h => h) rfl (fun w hS => exec_load_at w _ _ 115 _ rfl g 0 rfl _ _ Tryz.underlying115 rfl (by rw [HSL.out]; exact info115) (hAt w hS)) HSX.out ?_
    try simp only [Act.put, List.setIfInBounds_toArray, List.set_cons_succ, List.set_cons_zero]
    refine takeH 2 (some 11) (.slice (some ⟨g, 2, none⟩) 4 62) rfl rfl (by kernel_rfl) (by kernel_rfl) (by kernel_rfl) (fun _ _ _ h => h) rfl (fun w hS => by go_simp) HSX.out ?_
    try simp only [Act.put, List.setIfInBounds_toArray, List.set_cons_succ, List.set_cons_zero]
    refine twoH 1 4 (by kernel_rfl) rfl rfl rfl rfl (fun K hK => ?_) (fun K hK => ?_)
    · go_simp
      refine (HRD.out _).mono ?_
      rintro e w1 ⟨sv, rfl, hby, hb, hfr⟩
      have HSY := Lib.hid (HSX.out.trans (hb.mono HSX.out.size))
      have HFR0 := Lib.hid (show ∀ b o n c, sv = .slice (some ⟨b, o, none⟩) n c → 0 < (readOf s).bytes.length → b < w1.heap.size from fun b o n c h hl => hby.lt hl h)
      have HFRR := Lib.hid (show Fresh (r + 1) sv from fun b o n c h => by have := hfr b o n c h; have := HSX.out.size; have := HA2.out.2.1.lt; omega)
      have HBY := Lib.hid hby
      refine hK _ _ HSY.out ?_
      clear hK K hb hby HSX hfr
      have HSX := HSY
      clear HSY
      try simp only [Act.put, List.setIfInBounds_toArray, List.set_cons_succ, List.set_cons_zero]
      refine twoH 3 4 (by kernel_rfl) rfl rfl rfl rfl (fun K hK => ?_) (fun K hK => ?_)
      · go_simp
        refine (HC4.out _ HSX.out).mono ?_
        rintro e w2 ⟨rfl, rfl⟩
        refine hK _ _ HSX.out ?_
        clear hK K
        try simp only [Act.put, List.setIfInBounds_toArray, List.set_cons_succ, List.set_cons_zero]
        rw [show num ((s.drop 2).take 4) = seqOf s from rfl]
        refine oneH 4 (by kernel_rfl) rfl rfl fun K hK => ?_
        refine wp_runTo (some 5) rfl _ _ (exec_alloc _ _ _ 73 rfl _ zero73b) ?_
        have hT := Blk.new w1 (Bk.none.arr nilv) 73
        have hBT := (Below.refl w1.heap.size w1).alloc (Nat.le_refl _) (.cells (Bk.none.arr nilv) 73)
        have HSY := Lib.hid (HSX.out.trans (hBT.mono HSX.out.size))
        have HT := Lib.hid hT
        have HTB := Lib.hid HSX.out.size
        have HBZ := Lib.hid (HBY.out.below hBT)
        clear HBY
        have HBY := HBZ
        clear HBZ
        refine hK _ _ HSY.out ?_
        clear hK K hBT hT HSX
        have HSX := HSY
        clear HSY
        try simp only [Act.put, List.setIfInBounds_toArray, List.set_cons_succ, List.set_cons_zero]
        generalize w1.alloc (.cells (Bk.none.arr nilv) 73) = wD at *
        generalize w1.heap.size = t at *
        refine oneH 5 (by kernel_rfl) rfl rfl fun K hK => ?_
        refine wp_store_at 73 _ _ rfl t 0 ((readOf s).arr sv) rfl rfl _ HT.out (by rw [(readOf s).arr_size HRW.out]; exact info73) (by rw [(readOf s).arr_size HRW.out]; decide) (arr_form _ HBY.out) ?_
        rw [splice_all _ _ (by rw [(readOf s).arr_size HRW.out]; rfl)]
        have hT2 := HT.out.row ((readOf s).arr sv)
        have hOT := (Only.refl (fun k => k = t) wD).setRow (g := t) (.inl rfl) ((readOf s).arr sv)
        generalize wD.setRow t ((readOf s).arr sv) = wT at *
        have hbf := hOT.below HSX.out.size (fun k hk => by have := HTB.out; omega)
        have HSY := Lib.hid (HSX.out.trans hbf)
        have HBZ : Hid (BytesAt wT sv (readOf s).bytes) := Lib.hid (by
          rcases Nat.eq_zero_or_pos (readOf s).bytes.length with h0 | h0
          · obtain ⟨a, cap, e, _⟩ := HBY.out
            exact ⟨a, cap, e, fun i x hx => by rw [List.eq_nil_of_length_eq_zero h0] at hx; simp at hx⟩
          · exact HBY.out.only hOT fun b o n c h => by have := HFR0.out b o n c h h0; omega)
        refine hK _ _ HSY.out ?_
        clear hK K
        try simp only [Act.put, List.setIfInBounds_toArray, List.set_cons_succ, List.set_cons_zero]
        refine takeH 6 (some 6) (.int .u32 (seqOf s)) rfl rfl (by kernel_rfl) (by kernel_rfl) (by kernel_rfl) (fun _ _ _ h => h) rfl (fun w hS => by go_simp) HSY.out ?_
        try simp only [Act.put, List.setIfInBounds_toArray, List.set_cons_succ, List.set_cons_zero]
        refine wpAnyH_done (by kernel_rfl) ?_ _
        go_wp2_with fail
        go_meet
        refine ⟨t, sv, rfl, rfl, ⟨HA2.out.1.below HSY.out HA2.out.1.lt, HA2.out.2.1.below HSY.out HA2.out.2.1.lt, hT2, by rw [HGG.out]; exact HA2.out.2.2.1.trans (HSY.out.mono (by have := HA2.out.2.2.1.size; have := HGG.out; omega)), Nat.le_of_eq HGG.out, HA2.out.2.2.2, by have := HTB.out; have := HA2.out.2.1.lt; omega⟩, HBZ.out, HFRR.out⟩
      · refine wp_runTo (some 5) rfl _ _ (exec_alloc _ _ _ 73 rfl _ zero73b) ?_
        have hT := Blk.new w1 (Bk.none.arr nilv) 73
        have hBT := (Below.refl w1.heap.size w1).alloc (Nat.le_refl _) (.cells (Bk.none.arr nilv) 73)
        have HSY := Lib.hid (HSX.out.trans (hBT.mono HSX.out.size))
        have HT := Lib.hid hT
        have HTB := Lib.hid HSX.out.size
        have HBZ := Lib.hid (HBY.out.below hBT)
        clear HBY
        have HBY := HBZ
        clear HBZ
        refine hK _ _ HSY.out ?_
        clear hK K hBT hT HSX
        have HSX := HSY
        clear HSY
        try simp only [Act.put, List.setIfInBounds_toArray, List.set_cons_succ, List.set_cons_zero]
        generalize w1.alloc (.cells (Bk.none.arr nilv) 73) = wD at *
        generalize w1.heap.size = t at *
        refine oneH 3 (by kernel_rfl) rfl rfl fun K hK => ?_
        go_simp
        refine (HC4.out _ HSX.out).mono ?_
        rintro e w2 ⟨rfl, rfl⟩
        refine hK _ _ HSX.out ?_
        clear hK K
        try simp only [Act.put, List.setIfInBounds_toArray, List.set_cons_succ, List.set_cons_zero]
        rw [show num ((s.drop 2).take 4) = seqOf s from rfl]
        refine oneH 5 (by kernel_rfl) rfl rfl fun K hK => ?_
        refine wp_store_at 73 _ _ rfl t 0 ((readOf s).arr sv) rfl rfl _ HT.out (by rw [(readOf s).arr_size HRW.out]; exact info73) (by rw [(readOf s).arr_size HRW.out]; decide) (arr_form _ HBY.out) ?_
        rw [splice_all _ _ (by rw [(readOf s).arr_size HRW.out]; rfl)]
        have hT2 := HT.out.row ((readOf s).arr sv)
        have hOT := (Only.refl (fun k => k = t) wD).setRow (g := t) (.inl rfl) ((readOf s).arr sv)
        generalize wD.setRow t ((readOf s).arr sv) = wT at *
        have hbf := hOT.below HSX.out.size (fun k hk => by have := HTB.out; omega)
        have HSY := Lib.hid (HSX.out.trans hbf)
        have HBZ : Hid (BytesAt wT sv (readOf s).bytes) := Lib.hid (by
          rcases Nat.eq_zero_or_pos (readOf s).bytes.length with h0 | h0
          · obtain ⟨a, cap, e, _⟩ := HBY.out
            exact ⟨a, cap, e, fun i x hx => by rw [List.eq_nil_of_length_eq_zero h0] at hx; simp at hx⟩
          · exact HBY.out.only hOT fun b o n c h => by have := HFR0.out b o n c h h0; omega)
        refine hK _ _ HSY.out ?_
        clear hK K
        try simp only [Act.put, List.setIfInBounds_toArray, List.set_cons_succ, List.set_cons_zero]
        refine takeH 6 (some 6) (.int .u32 (seqOf s)) rfl rfl (by kernel_rfl) (by kernel_rfl) (by kernel_rfl) (fun _ _ _ h => h) rfl (fun w hS => by go_simp) HSY.out ?_
        try simp only [Act.put, List.setIfInBounds_toArray, List.set_cons_succ, List.set_cons_zero]
        refine wpAnyH_done (by kernel_rfl) ?_ _
        go_wp2_with fail
        go_meet
        refine ⟨t, sv, rfl, rfl, ⟨HA2.out.1.below HSY.out HA2.out.1.lt, HA2.out.2.1.below HSY.out HA2.out.2.1.lt, hT2, by rw [HGG.out]; exact HA2.out.2.2.1.trans (HSY.out.mono (by have := HA2.out.2.2.1.size; have := HGG.out; omega)), Nat.le_of_eq HGG.out, HA2.out.2.2.2, by have := HTB.out; have := HA2.out.2.1.lt; omega⟩, HBZ.out, HFRR.out⟩
    · refine wp_runTo (some 5) rfl _ _ (exec_alloc _ _ _ 73 rfl _ zero73b) ?_
      have hT := Blk.new wS (Bk.none.arr nilv) 73
      have hBT := (Below.refl wS.heap.size wS).alloc (Nat.le_refl _) (.cells (Bk.none.arr nilv) 73)
      have HSY := Lib.hid (HSX.out.trans (hBT.mono HSX.out.size))
      have HT := Lib.hid hT
      have HTB := Lib.hid HSX.out.size
      refine hK _ _ HSY.out ?_
      clear hK K hBT hT HSX
      have HSX := HSY
      clear HSY
      try simp only [Act.put, List.setIfInBounds_toArray, List.set_cons_succ, List.set_cons_zero]
      generalize wS.alloc (.cells (Bk.none.arr nilv) 73) = wD at *
      generalize wS.heap.size = t at *
      refine oneH 1 (by kernel_rfl) rfl rfl fun K hK => ?_
      go_simp
      refine (HRD.out _).mono ?_
      rintro e w1 ⟨sv, rfl, hby, hb, hfr⟩
      have HSY := Lib.hid (HSX.out.trans (hb.mono HSX.out.size))
      have HFR := Lib.hid (show ∀ b o n c, sv = .slice (some ⟨b, o, none⟩) n c → b ≠ t from fun b o n c h => by have := hfr b o n c h; have := HT.out.lt; omega)
      have HT' := Lib.hid (HT.out.below hb HT.out.lt)
      clear HT
      have HT := HT'
      clear HT'
      have HFRR := Lib.hid (show Fresh (r + 1) sv from fun b o n c h => by have := hfr b o n c h; have := HSX.out.size; have := HA2.out.2.1.lt; omega)
      have HBY := Lib.hid hby
      refine hK _ _ HSY.out ?_
      clear hK K hb hby HSX hfr
      have HSX := HSY
      clear HSY
      try simp only [Act.put, List.setIfInBounds_toArray, List.set_cons_succ, List.set_cons_zero]
      refine oneH 3 (by kernel_rfl) rfl rfl fun K hK => ?_
      go_simp
      refine (HC4.out _ HSX.out).mono ?_
      rintro e w2 ⟨rfl, rfl⟩
      refine hK _ _ HSX.out ?_
      clear hK K
      try simp only [Act.put, List.setIfInBounds_toArray, List.set_cons_succ, List.set_cons_zero]
      rw [show num ((s.drop 2).take 4) = seqOf s from rfl]
      refine oneH 5 (by kernel_rfl) rfl rfl fun K hK => ?_
      refine wp_store_at 73 _ _ rfl t 0 ((readOf s).arr sv) rfl rfl _ HT.out (by rw [(readOf s).arr_size HRW.out]; exact info73) (by rw [(readOf s).arr_size HRW.out]; decide) (arr_form _ HBY.out) ?_
      rw [splice_all _ _ (by rw [(readOf s).arr_size HRW.out]; rfl)]
      have hT2 := HT.out.row ((readOf s).arr sv)
      have hOT := (Only.refl (fun k => k = t) w1).setRow (g := t) (.inl rfl) ((readOf s).arr sv)
      generalize w1.setRow t ((readOf s).arr sv) = wT at *
      have hbf := hOT.below HSX.out.size (fun k hk => by have := HTB.out; omega)
      have HSY := Lib.hid (HSX.out.trans hbf)
      have HBZ := Lib.hid (HBY.out.only hOT HFR.out)
      refine hK _ _ HSY.out ?_
      clear hK K
      try simp only [Act.put, List.setIfInBounds_toArray, List.set_cons_succ, List.set_cons_zero]
      refine takeH 6 (some 6) (.int .u32 (seqOf s)) rfl rfl (by kernel_rfl) (by kernel_rfl) (by kernel_rfl) (fun _ _ _ h => h) rfl (fun w hS => by go_simp) HSY.out ?_
      try simp only [Act.put, List.setIfInBounds_toArray, List.set_cons_succ, List.set_cons_zero]
      refine wpAnyH_done (by kernel_rfl) ?_ _
      go_wp2_with fail
      go_meet
      refine ⟨t, sv, rfl, rfl, ⟨HA2.out.1.below HSY.out HA2.out.1.lt, HA2.out.2.1.below HSY.out HA2.out.2.1.lt, hT2, by rw [HGG.out]; exact HA2.out.2.2.1.trans (HSY.out.mono (by have := HA2.out.2.2.1.size; have := HGG.out; omega)), Nat.le_of_eq HGG.out, HA2.out.2.2.2, by have := HTB.out; have := HA2.out.2.1.lt; omega⟩, HBZ.out, HFRR.out⟩
  case rest =>
    obtain ⟨t, sv, rfl, rfl, H2, HBY, hfr⟩ := hcut
    have HFR := Lib.hid hfr
    clear hfr
    have HB2 := Lib.hid HBY
    have H2 := Lib.hid H2
    clear HBY
    have HEN := Lib.hid fun w h => encode_any (readOf s) sv (seqOf s) w h HRW.out HSR.out
    repeat (first | (with_reducible refine stopR (id := 2) ?_) | go_values | go_skip | go_guarded | go_step | go_upon | go_back)
    refine Stop.mk (wp_region_lit ?_)
    refine load73 (cs := (readOf s).arr sv) (Blk.all H2.out.blk rfl) ((readOf s).arr_size HRW.out _) rfl rfl ?_
    try simp only [Act.put, List.setIfInBounds_toArray, List.set_cons_succ, List.set_cons_zero]
    refine takeL (.int .u32 (seqOf s)) rfl (by go_simp) ?_
    try simp only [Act.put, List.setIfInBounds_toArray, List.set_cons_succ, List.set_cons_zero]
    refine wpList_op rfl fun K hK => ?_
    go_simp
    refine (HEN.out _ HB2.out).mono ?_
    rintro e w3 ⟨rfl, hb⟩
    have H3 := Lib.hid (H2.out.below hb)
    have HB3 := Lib.hid (HB2.out.below hb)
    refine hK _ _ ?_
    clear hK K hb H2 HB2 HEN
    try simp only [Act.put, List.setIfInBounds_toArray, List.set_cons_succ, List.set_cons_zero]
    refine takeL (.tuple #[.agg (u8s ((readOf s).sec (seqOf s))).toArray, .int .i64 (readOf s).err]) rfl (by go_simp) ?_
    try simp only [Act.put, List.setIfInBounds_toArray, List.set_cons_succ, List.set_cons_zero]
    refine takeL (.agg (u8s ((readOf s).sec (seqOf s))).toArray) rfl (by go_simp) ?_
    try simp only [Act.put, List.setIfInBounds_toArray, List.set_cons_succ, List.set_cons_zero]
    refine takeL (.int .i64 (readOf s).err) rfl (by go_simp) ?_
    try simp only [Act.put, List.setIfInBounds_toArray, List.set_cons_succ, List.set_cons_zero]
    have HSE := Lib.hid (sec_length HRW.out (seqOf s))
    refine alloc_g zero115 rfl ?_
    intro wC hC hBC hlC
    try simp only [Act.put, List.setIfInBounds_toArray, List.set_cons_succ, List.set_cons_zero]
    refine store_all (cs := (u8s ((readOf s).sec (seqOf s))).toArray) hC (by rw [u8s_size, HSE.out]; simp [zeros]) (by rw [u8s_size, HSE.out]; exact info115) (u8s_one _) rfl rfl rfl ?_
    intro wD hD hOD hlD
    try simp only [Act.put, List.setIfInBounds_toArray, List.set_cons_succ, List.set_cons_zero]
    have hBD := hBC.trans (hOD.below hBC.size (fun k hk => Nat.le_of_eq hk.symm))
    have H4 := Lib.hid (H3.out.below hBD)
    have HB4 := Lib.hid (HB3.out.below hBD)
    have HD4 := Lib.hid hD
    clear hC hBC hlC hD hOD hlD hBD H3 HB3
    generalize w3.heap.size = x at *
    clear w3 wC
    refine takeL (.int .i64 (readOf s).err) rfl (by go_simp) ?_
    try simp only [Act.put, List.setIfInBounds_toArray, List.set_cons_succ, List.set_cons_zero]
    refine wpList_nil ?_
    repeat (first | (with_reducible refine stopR (id := 3) ?_) | go_values | go_skip | go_guarded | go_step | go_upon | go_back)
    refine Stop.mk (wp_region_lit ?_)
    cases hg : (readOf s).good
    · have HSX : Hid ((readOf s).err = 11) := Lib.hid (by unfold Bk.err; rw [hg]; rfl)
      rw [HSX.out]
      have hnb : isBlock s = false := by unfold isBlock; rw [hg]; rfl
      refine takeL (.int .i64 11) rfl (by go_simp) ?_
      try simp only [Act.put, List.setIfInBounds_toArray, List.set_cons_succ, List.set_cons_zero]
      refine takeL (.bool true) rfl (by go_simp) ?_
      try simp only [Act.put, List.setIfInBounds_toArray, List.set_cons_succ, List.set_cons_zero]
      refine takeL (.bool true) rfl (by go_simp) ?_
      try simp only [Act.put, List.setIfInBounds_toArray, List.set_cons_succ, List.set_cons_zero]
      refine passL rfl ?_
      try simp only [Act.put, List.setIfInBounds_toArray, List.set_cons_succ, List.set_cons_zero]
      refine passL rfl ?_
      try simp only [Act.put, List.setIfInBounds_toArray, List.set_cons_succ, List.set_cons_zero]
      refine passL rfl ?_
      try simp only [Act.put, List.setIfInBounds_toArray, List.set_cons_succ, List.set_cons_zero]
      refine takeL (.bool true) rfl (by go_simp) ?_
      try simp only [Act.put, List.setIfInBounds_toArray, List.set_cons_succ, List.set_cons_zero]
      refine wpList_nil ?_
      repeat (first | (with_reducible refine stopR (id := 4) ?_) | go_values | go_skip | go_guarded | go_step | go_upon | go_back)
      refine Stop.mk (wp_region_lit ?_)
      refine build_g (build73 _) rfl ?_
      try simp only [Act.put, List.setIfInBounds_toArray, List.set_cons_succ, List.set_cons_zero]
      refine store_all (cs := Bk.none.arr nilv) H4.out.res (by rfl) (by exact info73) (cells_one _ _ _ _) rfl rfl rfl ?_
      intro wZ hZ hOZ hlZ
      try simp only [Act.put, List.setIfInBounds_toArray, List.set_cons_succ, List.set_cons_zero]
      refine takeL (.int .u32 0) rfl (by go_simp) ?_
      try simp only [Act.put, List.setIfInBounds_toArray, List.set_cons_succ, List.set_cons_zero]
      refine takeL (.int .i64 11) rfl (by go_simp) ?_
      try simp only [Act.put, List.setIfInBounds_toArray, List.set_cons_succ, List.set_cons_zero]
      have HF := Lib.hid (H4.out.bel.trans (hOZ.below H4.out.bel.size (fun k hk => by have := H4.out.g0; have := H4.out.gr; omega)))
      refine wpList_nil ?_
      go_wp2_with fail
      refine bodyPost_ret (v := .tuple #[.agg (Bk.none.arr nilv), .int .u32 0, .int .i64 11]) (results_cell_tmp2 rfl _ _ r 0 _ _ _ _ rfl rfl rfl Tryz.underlying73 rfl (by exact info73) (Blk.all hZ rfl)) rfl ⟨nilv, by unfold decB decN decE; rw [hnb]; rfl, by unfold decB; rw [hnb]; exact BytesAt.nil _ _ _, HF.out, Fresh.nil _⟩
    · have HSX : Hid ((readOf s).err = 0) := Lib.hid (by unfold Bk.err; rw [hg]; rfl)
      have HSS : Hid ((readOf s).sec (seqOf s) = (readOf s).enc (seqOf s)) := Lib.hid (by unfold Bk.sec; rw [hg]; rfl)
      have HNQ := Lib.hid fun w => neq115 w ((readOf s).sec (seqOf s)) s HSE.out HS.out.length
      rw [HSX.out]
      refine takeL (.int .i64 0) rfl (by go_simp) ?_
      try simp only [Act.put, List.setIfInBounds_toArray, List.set_cons_succ, List.set_cons_zero]
      refine takeL (.bool false) rfl (by go_simp) ?_
      try simp only [Act.put, List.setIfInBounds_toArray, List.set_cons_succ, List.set_cons_zero]
      refine takeL (.bool false) rfl (by go_simp) ?_
      try simp only [Act.put, List.setIfInBounds_toArray, List.set_cons_succ, List.set_cons_zero]
      refine load115 (cs := (u8s ((readOf s).sec (seqOf s))).toArray) (Blk.all HD4.out rfl) (by rw [u8s_size, HSE.out]) rfl rfl ?_
      try simp only [Act.put, List.setIfInBounds_toArray, List.set_cons_succ, List.set_cons_zero]
      refine load115 (cs := (u8s s).toArray) (Blk.all H4.out.sec rfl) HSL.out rfl rfl ?_
      try simp only [Act.put, List.setIfInBounds_toArray, List.set_cons_succ, List.set_cons_zero]
      by_cases he : (readOf s).sec (seqOf s) = s
      · have hnb : isBlock s = true := by unfold isBlock; rw [hg, ← HSS.out, he]; simp
        simp only [he, decide_true] at HNQ
        refine takeL (.bool false) rfl (by have hq := HNQ.out; go_simp) ?_
        try simp only [Act.put, List.setIfInBounds_toArray, List.set_cons_succ, List.set_cons_zero]
        refine takeL (.bool false) rfl (by go_simp) ?_
        try simp only [Act.put, List.setIfInBounds_toArray, List.set_cons_succ, List.set_cons_zero]
        refine wpList_nil ?_
        repeat (first | (with_reducible refine stopR (id := 5) ?_) | go_values | go_skip | go_guarded | go_step | go_upon | go_back)
        refine Stop.mk (wp_region_lit ?_)
        refine load73 (cs := (readOf s).arr sv) (Blk.all H4.out.blk rfl) ((readOf s).arr_size HRW.out _) rfl rfl ?_
        try simp only [Act.put, List.setIfInBounds_toArray, List.set_cons_succ, List.set_cons_zero]
        refine takeL (.int .u32 (seqOf s)) rfl (by go_simp) ?_
        try simp only [Act.put, List.setIfInBounds_toArray, List.set_cons_succ, List.set_cons_zero]
        refine store_all (cs := (readOf s).arr sv) H4.out.res (by rw [(readOf s).arr_size HRW.out]; rfl) (by rw [(readOf s).arr_size HRW.out]; exact info73) (arr_form _ HB4.out) rfl rfl rfl ?_
        intro wZ hZ hOZ hlZ
        try simp only [Act.put, List.setIfInBounds_toArray, List.set_cons_succ, List.set_cons_zero]
        refine takeL (.int .u32 (seqOf s)) rfl (by go_simp) ?_
        try simp only [Act.put, List.setIfInBounds_toArray, List.set_cons_succ, List.set_cons_zero]
        refine takeL (.int .i64 0) rfl (by go_simp) ?_
        try simp only [Act.put, List.setIfInBounds_toArray, List.set_cons_succ, List.set_cons_zero]
        have HF := Lib.hid (H4.out.bel.trans (hOZ.below H4.out.bel.size (fun k hk => by have := H4.out.g0; have := H4.out.gr; omega)))
        refine wpList_nil ?_
        go_wp2_with fail
        refine bodyPost_ret (v := .tuple #[.agg ((readOf s).arr sv), .int .u32 (seqOf s), .int .i64 0]) (results_cell_tmp2 rfl _ _ r 0 _ _ _ _ rfl rfl rfl Tryz.underlying73 rfl (by rw [(readOf s).arr_size HRW.out]; exact info73) (Blk.all hZ rfl)) rfl ⟨sv, by unfold decB decN decE; rw [hnb]; rfl, ?_, HF.out, fun b o n c h => by have := HFR.out b o n c h; have := H4.out.gr; have := HGG.out; omega⟩
        unfold decB
        rw [hnb]
        exact HB4.out.only hOZ fun b o n c h => by have := HFR.out b o n c h; omega
      · have hnb : isBlock s = false := by unfold isBlock; rw [hg, ← HSS.out]; simpa using he
        simp only [he, decide_false] at HNQ
        refine takeL (.bool true) rfl (by have hq := HNQ.out; go_simp) ?_
        try simp only [Act.put, List.setIfInBounds_toArray, List.set_cons_succ, List.set_cons_zero]
        refine takeL (.bool true) rfl (by go_simp) ?_
        try simp only [Act.put, List.setIfInBounds_toArray, List.set_cons_succ, List.set_cons_zero]
        refine wpList_nil ?_
        repeat (first | (with_reducible refine stopR (id := 4) ?_) | go_values | go_skip | go_guarded | go_step | go_upon | go_back)
        refine Stop.mk (wp_region_lit ?_)
        refine build_g (build73 _) rfl ?_
        try simp only [Act.put, List.setIfInBounds_toArray, List.set_cons_succ, List.set_cons_zero]
        refine store_all (cs := Bk.none.arr nilv) H4.out.res (by rfl) (by exact info73) (cells_one _ _ _ _) rfl rfl rfl ?_
        intro wZ hZ hOZ hlZ
        try simp only [Act.put, List.setIfInBounds_toArray, List.set_cons_succ, List.set_cons_zero]
        refine takeL (.int .u32 0) rfl (by go_simp) ?_
        try simp only [Act.put, List.setIfInBounds_toArray, List.set_cons_succ, List.set_cons_zero]
        refine takeL (.int .i64 11) rfl (by go_simp) ?_
        try simp only [Act.put, List.setIfInBounds_toArray, List.set_cons_succ, List.set_cons_zero]
        have HF := Lib.hid (H4.out.bel.trans (hOZ.below H4.out.bel.size (fun k hk => by have := H4.out.g0; have := H4.out.gr; omega)))
        refine wpList_nil ?_
        go_wp2_with fail
        refine bodyPost_ret (v := .tuple #[.agg (Bk.none.arr nilv), .int .u32 0, .int .i64 11]) (results_cell_tmp2 rfl _ _ r 0 _ _ _ _ rfl rfl rfl Tryz.underlying73 rfl (by exact info73) (Blk.all hZ rfl)) rfl ⟨nilv, by unfold decB decN decE; rw [hnb]; rfl, by unfold decB; rw [hnb]; exact BytesAt.nil _ _ _, HF.out, Fresh.nil _⟩

end Go.Proofs.YthlnmdihdcfphaaGreatDoor
