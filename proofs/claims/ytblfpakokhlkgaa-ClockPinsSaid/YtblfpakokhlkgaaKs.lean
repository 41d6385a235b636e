/- A clock beside a row of numbers. -/
import Derived.Test.YtblfpakokhlkgaaWk
import Derived.Test.YtblfpakokhlkgaaSt
namespace Go.Proofs.Ytblfpakokhlkgaa
set_option linter.unusedSimpArgs false
set_option linter.unusedVariables false
open Go.RowKit

theorem i64s_set (l : List Int) (i : Nat) (v : Int) : (i64s l).set i (.int .i64 v) = i64s (l.set i v) := by simp [i64s, List.map_set]
theorem info3b : (Try.prog.info? 3).map (fun i => (i.zero, i.size, i.bytes)) = some (some (.int .i64 0), 1, 8) := by kernel_rfl
theorem make47 (n : Nat) (hn : n ≤ 1000) (w : World) : (Instr.makeSlice 47 (.int .i64 (n : Int)) (.int .i64 (n : Int))).run Try.prog w = .ok (.slice (some ⟨w.heap.size, 0, none⟩) n n) (w.alloc (.cells (Array.replicate n (Value.int .i64 0)) 3)) := by
  obtain ⟨i, hi, hz, hs, hb⟩ : ∃ i, Try.prog.info? 3 = some i ∧ i.zero = some (.int .i64 0) ∧ i.size = 1 ∧ i.bytes = 8 := by
    have := info3b
    cases hq : Try.prog.info? 3 with
    | none => simp [hq] at this
    | some i => simp [hq] at this; exact ⟨i, rfl, this⟩
  have := run_makeSlice (P := Try.prog) w 47 3 i _ Try.underlying47 hi hz .i64 .i64 n n (by omega) (Int.le_refl _) (by rw [hs]; omega) (by rw [hb]; omega) (by omega)
  rw [hs] at this
  have e : madeCells #[.int .i64 0] n = Array.replicate n (Value.int .i64 0) := by
    apply Array.ext
    · simp [madeCells]
    · intro j h1 h2
      simp [madeCells, Nat.mod_one]
  rw [Nat.mul_one, Int.toNat_natCast] at this
  rw [this, show (Value.int IntKind.i64 0).cells = #[.int .i64 0] from rfl, e]
/-- A clock at b and r, and a row of numbers at q, all made since w. -/
structure KS (w wr : World) (b r cap : Nat) (q : Nat) (c : Ck) (l : List Int) : Prop where
  at' : At encC wr b r cap [] c
  row : Blk wr q (i64s l)
  nb : q ≠ b
  nr : q ≠ r
  bel : Below w.heap.size w wr
  lb : w.heap.size ≤ b
  lr : w.heap.size ≤ r
  lq : w.heap.size ≤ q
theorem KS.below {w wr w' : World} {b r cap q : Nat} {c : Ck} {l : List Int} (h : KS w wr b r cap q c l) (hb : Below wr.heap.size wr w') : KS w w' b r cap q c l :=
  ⟨h.at'.below hb, h.row.below hb h.row.lt, h.nb, h.nr, stay h.bel hb, h.lb, h.lr, h.lq⟩
theorem KS.drewN {w wr : World} {b r cap q : Nat} {c : Ck} {l : List Int} (h : KS w wr b r cap q c l) (n : Nat) : KS w (wr.drewN n) b r cap q c l := h.below (drewN_below (Below.refl _ _) n)
/-- The clock turned. -/
theorem KS.turn {w wr w' : World} {b r cap q : Nat} {c d : Ck} {l : List Int} (h : KS w wr b r cap q c l) (ha : At encC w' b r cap [] d) (ho : Only (foot b r) wr w') : KS w w' b r cap q d l :=
  ⟨ha, h.row.only ho (fun hf => by rcases hf with e | e; exact h.nb e; exact h.nr e), h.nb, h.nr, h.bel.trans (ho.below h.bel.size fun k hk => by rcases hk with rfl | rfl; exact h.lb; exact h.lr), h.lb, h.lr, h.lq⟩
/-- The row turned. -/
theorem KS.set {w wr : World} {b r cap q : Nat} {c : Ck} {l : List Int} (h : KS w wr b r cap q c l) (i : Nat) (v : Int) : KS w (wr.setCell ⟨q, i, none⟩ (.int .i64 v)) b r cap q c (l.set i v) :=
  ⟨⟨h.at'.blk.setOther h.nb.symm _, h.at'.row.setOther h.nr.symm _, h.at'.ne⟩, by rw [← i64s_set]; exact h.row.set i _, h.nb, h.nr, h.bel.setCell h.lq _, h.lb, h.lr, h.lq⟩
theorem KS.cell {w wr : World} {b r cap q : Nat} {c : Ck} {l : List Int} (h : KS w wr b r cap q c l) {i : Nat} {v : Int} (hi : l[i]? = some v) : wr.cell? ⟨q, i, none⟩ = some (.int .i64 v) := h.row.cell (by simp [i64s, hi])
/-- A variable of one's own, newer than all of it. -/
theorem fresh_blk {w : World} {b : Nat} {l : List Value} (h : Blk w b l) {w' : World} (hb : Below w.heap.size w w') : Blk w' b l := h.below hb h.lt
theorem mod16 (n : Nat) : ∃ m : Nat, ((n : Int).tmod 16 = (m : Int)) ∧ m < 16 := ⟨n % 16, by rfl, by omega⟩

/-- And a variable of one's own. -/
structure KX (w wr : World) (b r cap q : Nat) (c : Ck) (l : List Int) (xb : Nat) (X : List Value) : Prop where
  ks : KS w wr b r cap q c l
  x : Blk wr xb X
  n1 : xb ≠ b
  n2 : xb ≠ r
  n3 : xb ≠ q
section
variable {w wr w' : World} {b r cap q : Nat} {c d : Ck} {l : List Int} {xb : Nat} {X : List Value}
theorem KX.below (h : KX w wr b r cap q c l xb X) (hb : Below wr.heap.size wr w') : KX w w' b r cap q c l xb X := ⟨h.ks.below hb, h.x.below hb h.x.lt, h.n1, h.n2, h.n3⟩
theorem KX.drewN (h : KX w wr b r cap q c l xb X) (n : Nat) : KX w (wr.drewN n) b r cap q c l xb X := h.below (drewN_below (Below.refl _ _) n)
theorem KX.turn (h : KX w wr b r cap q c l xb X) (ha : At encC w' b r cap [] d) (ho : Only (foot b r) wr w') : KX w w' b r cap q d l xb X :=
  ⟨h.ks.turn ha ho, h.x.only ho (fun hf => by rcases hf with e | e; exact h.n1 e; exact h.n2 e), h.n1, h.n2, h.n3⟩
theorem KX.set (h : KX w wr b r cap q c l xb X) (i : Nat) (v : Int) : KX w (wr.setCell ⟨q, i, none⟩ (.int .i64 v)) b r cap q c (l.set i v) xb X := ⟨h.ks.set i v, h.x.setOther h.n3 _, h.n1, h.n2, h.n3⟩
theorem KS.box (h : KS w wr b r cap q c l) (cs : Array Value) (t : TypeId) : KX w (wr.alloc (.cells cs t)) b r cap q c l wr.heap.size cs.toList := by
  refine ⟨h.below (alloc_below wr _), Blk.new wr cs t, ?_, ?_, ?_⟩
  · have := h.at'.blk.lt; omega
  · have := h.at'.row.lt; omega
  · have := h.row.lt; omega
end
theorem may_free {c : Ck} (h : c.Ok 0) (i : Int) : c.may i = (c.get i).isSome := by
  unfold Ck.may
  cases hg : c.get i with
  | none => rfl
  | some f =>
    obtain ⟨k, rfl, -, hk⟩ := Ck.get_some hg
    have := (h.all k f hk).p1
    simp [Fm.P]
    omega
theorem key_of {B : Nat} {f : Fm} (h : f.Ok B) (hk : f.K = false) : f.key = -1 := by
  have : f.key < 0 := by simpa [Fm.K] using hk
  rw [h.none this]
theorem find_of {B : Nat} {c : Ck} (ho : c.Ok B) {ky : Int} {u : Nat} {f : Fm} (hu : c.l[u]? = some f) (hk : isKey ky f = true) : c.find ky = some u := by
  cases hf : c.find ky with
  | none => exact absurd (first_none hf u f hu) (by simp [hk])
  | some v =>
    obtain ⟨j, g, e, hj, hg, -⟩ := first_some hf
    simp only [isKey, Fm.K, Bool.and_eq_true, decide_eq_true_eq] at hk hg
    have := ho.one j u g f hj hu hg.1 (by omega)
    rw [e, this, Nat.zero_add]
theorem find_not {c : Ck} {ky : Int} (h : ∀ (u : Nat) (f : Fm), u < c.l.length → c.l[u]? = some f → isKey ky f = false) : c.find ky = none := by
  cases hf : c.find ky with
  | none => rfl
  | some v =>
    obtain ⟨j, g, e, hj, hg, -⟩ := first_some hf
    have := h j g (List.getElem?_eq_some_iff.1 hj).1 hj
    rw [hg] at this
    cases this
theorem fill_step (M k : Nat) (hk : k < M) : (List.replicate k (-1 : Int) ++ List.replicate (M - k) 0).set k (-1) = List.replicate (k + 1) (-1) ++ List.replicate (M - (k + 1)) 0 := by
  obtain ⟨d, rfl⟩ : ∃ d, M = k + d + 1 := ⟨M - k - 1, by omega⟩
  rw [show k + d + 1 - k = d + 1 by omega, show k + d + 1 - (k + 1) = d by omega, List.set_append_right _ _ (by simp), List.length_replicate, Nat.sub_self, List.replicate_succ, List.set_cons_zero, List.replicate_succ', List.append_assoc]
  rfl

end Go.Proofs.Ytblfpakokhlkgaa
