/- Rows of truth values; slices of slices of items. -/
import Derived.Test.YtmlniannilnmhaaGreatDoorKo
namespace Go.Proofs.YtmlniannilnmhaaGreatDoor
set_option linter.unusedSimpArgs false
set_option linter.unusedVariables false
open Go.RowKit

section
variable {P : Program}
theorem passH {ops : Array Oper} {md : Region.Mode} {Q : Exit → Act → World → Prop} {S : World → Prop} (i : Nat) {oi : Oper} (dst : Option Tmp) {fuel : Nat} {listed : Array Bool} {a : Act} {w : World} (hi : ops[i]? = some oi) (hd : oi.dst = dst)
    (hs : Region.noSelect ops = true) (hf : Region.free md ops listed i = true) (hr : (Region.ready md ops listed).contains i = true)
    (hQ : ∀ c a w, Q (.panic c) (a.put dst undef) w → Q (.panic c) a w) (hw : Region.wanted oi (yielded ops a.tmps) = false) (hS : S w)
    (h : wpAnyH P md ops Q S fuel (listed.setIfInBounds i true) (a.put dst undef) w) : wpAnyH P md ops Q S (fuel + 1) listed a w := by
  subst hd
  exact wpAnyH_take hi hs hf hr hQ (.inr ⟨hw, rfl⟩) hS h
end
abbrev bools (l : List Bool) : List Value := l.map Value.bool
theorem info4 : (Tryz.prog.info? 4).map (fun i => (i.zero, i.size, i.bytes)) = some (some (.bool false), 1, 1) := by kernel_rfl
theorem makeB (n : Nat) (hn : n ≤ 1024) (w : World) : (Instr.makeSlice 80 (.int .i64 (n : Int)) (.int .i64 (n : Int))).run Tryz.prog w = .ok (.slice (some ⟨w.heap.size, 0, none⟩) n n) (w.alloc (.cells (Array.replicate n (Value.bool false)) 4)) := by
  obtain ⟨i, hi, hz, hs, hb⟩ : ∃ i, Tryz.prog.info? 4 = some i ∧ i.zero = some (.bool false) ∧ i.size = 1 ∧ i.bytes = 1 := by
    have := info4
    cases hq : Tryz.prog.info? 4 with
    | none => simp [hq] at this
    | some i => simp [hq] at this; exact ⟨i, rfl, this⟩
  have := run_makeSlice (P := Tryz.prog) w 80 4 i _ Tryz.underlying80 hi hz .i64 .i64 n n (by omega) (Int.le_refl _) (by rw [hs]; omega) (by rw [hb]; omega) (by omega)
  rw [this]
  simp only [Int.toNat_natCast, hs, Nat.mul_one]
  have h : madeCells (Value.bool false).cells n = Array.replicate n (Value.bool false) := by
    apply Array.ext'
    simp only [Value.cells]
    rw [toList_madeCells_one]
    simp
  rw [h]
theorem Blk.bool {w : World} {g : Nat} {l : List Bool} (h : Blk w g (bools l)) {i : Nat} {x : Bool} (hx : l[i]? = some x) : w.cell? ⟨g, i, none⟩ = some (.bool x) := h.cell (by simp [hx])
theorem Blk.setBool {w : World} {g : Nat} {l : List Bool} (h : Blk w g (bools l)) (i : Nat) (x : Bool) : Blk (w.setCell ⟨g, i, none⟩ (.bool x)) g (bools (l.set i x)) := by
  have := h.set i (.bool x)
  rwa [← List.map_set] at this
/-- A slice of slices of items. -/
def GroupsAt (w : World) (sv : Value) (l : List (Value × List (It × Value))) : Prop := ∃ a cap, sv = .slice a l.length cap ∧ ∀ i x, l[i]? = some x → ∃ b o, a = some ⟨b, o, none⟩ ∧ w.cell? ⟨b, o + i, none⟩ = some x.1 ∧ ItemsAt w x.1 x.2 ∧ x.2.length ≤ 9223372036854775807
theorem GroupsAt.below {w w' : World} {sv : Value} {l : List (Value × List (It × Value))} (h : GroupsAt w sv l) (hb : Below w.heap.size w w') : GroupsAt w' sv l := by
  obtain ⟨a, cap, e, hc⟩ := h
  refine ⟨a, cap, e, fun i x hx => ?_⟩
  obtain ⟨b, o, e2, h2, h3, h4⟩ := hc i x hx
  exact ⟨b, o, e2, (hb.cell (block_lt_of_cell h2)).trans h2, h3.below hb, h4⟩
theorem built27b (o q : Int) (a : Option Addr) (n c : Nat) : Tryz.prog.built 27 [(1, .int .i64 o), (2, .int .u32 q), (3, .slice a n c)] = some #[.int .i64 0, .int .i64 o, .int .u32 q, .slice a n c] := by kernel_rfl
theorem zero83 : (Tryz.prog.info? 83).bind (·.zero) = some (.agg #[.int .i64 0, .int .i64 0, .bool false]) := by kernel_rfl
theorem info83 : (Tryz.prog.info? 83).map (·.size) = some 3 := by kernel_rfl
theorem where_one (a b : Int) (c : Bool) : ∀ v ∈ (#[.int .i64 a, .int .i64 b, .bool c] : Array Value), v.oneCell' = true := fun v hv => by
  simp only [List.mem_toArray, List.mem_cons, List.not_mem_nil, or_false] at hv
  rcases hv with rfl | rfl | rfl <;> rfl
theorem Ap.skip {g : Pl.Gm} {t : Nat} {a : Ja} {d : De.D} {B : List Bool} {i : Nat} (h : Ap g t a d B i) : Ap g t a d B (i + 1) :=
  ⟨h.F, h.S, by have := h.T; omega, by have := h.L; omega, by have := h.seq; push_cast; omega, h.seg, h.free, h.len, h.met⟩
theorem seq_step {s q : Int} {i : Nat} (h : 1 ≤ s ∧ s ≤ 1 + 3 * (i : Int)) (hi : i ≤ 40) (hq : 1 ≤ q ∧ q ≤ 3) : (s + q) % M32 = s + q := Int.emod_eq_of_lt (by omega) (by unfold M32; omega)
theorem Ap.ok {g : Pl.Gm} {t : Nat} {a a1 : Ja} {d d' : De.D} {B B' : List Bool} {i n f k : Nat} {P : List Int} {q : Int} (h : Ap g t a d B i) (hi : i ≤ 40) (hg : a.good g = true) (hnx : Nx g a a1 n) (hs : Step1 a a1) (hf : firstOf g a1 = (f : Int)) (hq : 1 ≤ q ∧ q ≤ 3) (hF : d'.F < 0)
    (hS : d'.S.length = d.S.length) (hT : d'.T ≤ d.T + 1025) (hL : d'.L.length ≤ d.L.length + 1024) (hu : upto P f k B B') (hP : ∀ (j : Nat) (x : Int), P[j]? = some x → x < (n : Int)) : Ap g t ⟨a1.seg, a1.off + n, (a.seq + q) % M32, a1.free⟩ d' B' (i + 1) := by
  obtain ⟨s1, s2⟩ := step_odd hs h.seg h.free
  have hsq := seq_step h.seq hi hq
  refine ⟨hF, hS.trans h.S, by have := h.T; omega, by have := h.L; omega, ?_, s1, s2, hu.1.trans h.len, fun p hp => ?_⟩
  · have := h.seq
    simp only
    rw [hsq]
    push_cast
    omega
  · rcases hu.2 p hp with h1 | ⟨j, x, -, h2, h3, h4⟩
    · exact met_old hg hnx hs (h.met p h1)
    · rw [h4, ← hf]
      exact met_new hnx h3 (hP j x h2)
/-- The place of a group's next block was not met. -/
theorem upto_new {g : Pl.Gm} {t : Nat} {a a1 : Ja} {d : De.D} {B B' : List Bool} {i n f k : Nat} {q : Int} {L : List It} {px : Int} (h : Ap g t a d B i) (hg : a.good g = true) (hnx : Nx g a a1 n) (hs : Step1 a a1) (hf : firstOf g a1 = (f : Int)) (hu : upto (lay2 q L).2 f k B B') (hx : (lay2 q L).2[k]? = some px) (h0 : 0 ≤ px) (h1 : px < (n : Int)) (hlt : f + px.toNat < t) : B'[f + px.toNat]? = some false := by
  have hl : f + px.toNat < B'.length := by rw [hu.1, h.len]; exact hlt
  rw [List.getElem?_eq_getElem hl]
  cases hb : B'[f + px.toNat]
  · rfl
  · exfalso
    have hp : B'[f + px.toNat]? = some true := by rw [List.getElem?_eq_getElem hl, hb]
    rcases hu.2 _ hp with h2 | ⟨j, x, hj, h2, h3, h4⟩
    · exact met_dis hg hnx hs h0 h1 (h.met _ h2) (by rw [hf]; push_cast; omega)
    · have := lay2_lt h2 hx hj h3 h0
      push_cast at h4
      omega
theorem plOf_nat {f : Nat} {x : Int} (h : 0 ≤ x) : plOf (f : Int) x = ((f + x.toNat : Nat) : Int) := by
  unfold plOf
  rw [if_pos h]
  push_cast
  omega
theorem IntsAt.bools {w w' : World} {mb : Nat} {B : List Bool} {sv : Value} {l : List Int} (h : IntsAt w sv l) (hm : Blk w mb (bools B)) (ho : Only (fun k => k = mb) w w') : IntsAt w' sv l := by
  obtain ⟨a, cap, e, hc⟩ := h
  refine ⟨a, cap, e, fun i x hx => ?_⟩
  obtain ⟨b, o, e2, hx2⟩ := hc i x hx
  refine ⟨b, o, e2, ?_⟩
  have hne : ¬ b = mb := by
    rintro rfl
    cases hb : B[o + i]? with
    | none =>
      obtain ⟨t, ht⟩ := hm
      rw [cell_of_row w b (o + i) _ t _ ht] at hx2
      simp [hb] at hx2
    | some z =>
      rw [hm.bool hb] at hx2
      cases hx2
  rw [← hx2]
  simp only [World.cell?, ho.block b (block_lt_of_cell hx2) hne]
/-- A row of truth values is turned. -/
theorem Jn.bools {W w w' : World} {jb b mb : Nat} {F : Nat → Prop} {d : De.D} {g : Pl.Gm} {a : Ja} {fv : Value} {B : List Bool} (h : Jn W w jb b F d g a fv) (hm : Blk w mb (bools B)) (ho : Only (fun k => k = mb) w w') (hW : W.heap.size ≤ mb) (hF : ¬ F mb) (hj : ¬ mb = jb) : Jn W w' jb b F d g a fv :=
  h.turnS ho (fun k hk => by rw [hk]; exact hW) (fun k hk e => hF (by rw [← e]; exact hk)) (h.blk.only ho fun e => hj e.symm) (h.fr.bools hm ho)
    (fun b' o n c e => let ⟨h1, h2, h3, h4⟩ := h.sep b' o n c e; ⟨h1, h2, h3, Nat.lt_of_lt_of_le h4 ho.size⟩) h.good h.seq h.cp

end Go.Proofs.YtmlniannilnmhaaGreatDoor
