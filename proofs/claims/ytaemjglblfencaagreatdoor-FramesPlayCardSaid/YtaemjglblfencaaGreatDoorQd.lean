/- The program's frames beside the statements' own. -/
import Derived.Test.YtaemjglblfencaaGreatDoorQc
import Derived.Test.YtaemjglblfencaaGreatDoorSt
import Derived.Test.YtaemjglblfencaaGreatDoorWk
namespace Go.Proofs.YtaemjglblfencaaGreatDoor
set_option linter.unusedSimpArgs false
set_option linter.unusedVariables false
open Go.RowKit Kl

abbrev GP (W : World) (R : Rl) (X : Nat → Prop) (q : Nat) : Prop := q < W.heap.size ∨ RFoot R q ∨ X q
/-- The program's frames beside the statements' own. -/
structure Pz (W w : World) (L : Lay) (R : Rl) (X : Nat → Prop) (s t : Fs) : Prop where
  fz : Fz W (GP W R X) w L s
  re : RAt w R t
  ro : ∀ q, RFoot R q → W.heap.size ≤ q
/-- Beside a step's own variable. -/
structure Py (W w : World) (L : Lay) (R : Rl) (X : Nat → Prop) (xb : Nat) (s t : Fs) (cs : List Value) : Prop where
  k : Pz W w L R X s t
  x : Blk w xb cs
  xm : X xb
  ne : ∀ q, X q → ¬ RFoot R q ∧ W.heap.size ≤ q
section
variable {W w w' : World} {L : Lay} {R : Rl} {X X' : Nat → Prop} {xb B g : Nat} {s s' t t' : Fs} {cs : List Value}
theorem Pz.below (h : Pz W w L R X s t) (hb : Below w.heap.size w w') : Pz W w' L R X s t := ⟨h.fz.below hb, h.re.below hb, h.ro⟩
theorem Py.below (h : Py W w L R X xb s t cs) (hb : Below w.heap.size w w') : Py W w' L R X xb s t cs := ⟨h.k.below hb, h.x.below hb h.x.lt, h.xm, h.ne⟩
theorem Py.call (h : Py W w L R X xb s t cs) (hz : Fz W (GP W R X) w' L s') (ho : Only (fun q => ¬ GP W R X q) w w') : Py W w' L R X xb s' t cs :=
  ⟨⟨hz, h.k.re.only ho fun q hq hg => hg (.inr (.inl hq)), h.k.ro⟩, h.x.only ho (fun q => q (.inr (.inr h.xm))), h.xm, h.ne⟩
theorem Py.rcall (h : Py W w L R X xb s t cs) (hr : RAt w' R t') (ho : Only (RFoot R) w w') : Py W w' L R X xb s t' cs :=
  ⟨⟨h.k.fz.only ho fun q hq => ⟨.inr (.inl hq), h.k.ro q hq⟩, hr, h.k.ro⟩, h.x.only ho (h.ne xb h.xm).1, h.xm, h.ne⟩
theorem Py.kept {ds : List Value} (h : Py W w L R X xb s t cs) (hg : Blk w g ds) (hX : X g) (ho : Only (fun q => ¬ GP W R X q) w w') : Blk w' g ds := hg.only ho fun q => q (.inr (.inr hX))
theorem Py.rkept {ds : List Value} (h : Py W w L R X xb s t cs) (hg : Blk w g ds) (hX : X g) (ho : Only (RFoot R) w w') : Blk w' g ds := hg.only ho (h.ne g hX).1
theorem Pz.box (h : Pz W w L R (fun _ => False) s t) (hok : s.Ok B) (hb : Below w.heap.size w w') (hx : Blk w' xb cs) (hl : w.heap.size ≤ xb) : Py W w' L R (fun q => q = xb) xb s t cs := by
  have h5 := h.fz.bel.size
  have h4 := hx.lt
  refine ⟨⟨h.fz.add hok hb (fun k hk => ?_) (fun k hk => ?_), h.re.below hb, h.ro⟩, hx, rfl, fun q hq => ?_⟩
  · rcases hk with hk | hk | hk
    · exact .inl hk
    · exact .inr (.inl hk)
    · cases hk
  · rcases hk with hk | hk | hk
    · exact .inl (.inl hk)
    · exact .inl (.inr (.inl hk))
    · exact .inr (by omega)
  · subst hq
    refine ⟨fun hf => ?_, by omega⟩
    have := h.re.lt hf
    omega
theorem Py.add {ds : List Value} (h : Py W w L R X xb s t cs) (hok : s.Ok B) (hb : Below w.heap.size w w') (hg : Blk w' g ds) (hl : w.heap.size ≤ g) : Py W w' L R (fun q => X q ∨ q = g) xb s t cs := by
  have h5 := h.k.fz.bel.size
  have h4 := hg.lt
  refine ⟨⟨h.k.fz.add hok hb (fun k hk => ?_) (fun k hk => ?_), h.k.re.below hb, h.k.ro⟩, h.x.below hb h.x.lt, .inl h.xm, fun q hq => ?_⟩
  · rcases hk with hk | hk | hk
    · exact .inl hk
    · exact .inr (.inl hk)
    · exact .inr (.inr (.inl hk))
  · rcases hk with hk | hk | hk | hk
    · exact .inl (.inl hk)
    · exact .inl (.inr (.inl hk))
    · exact .inl (.inr (.inr hk))
    · exact .inr (by omega)
  · rcases hq with hq | hq
    · exact h.ne q hq
    · subst hq
      refine ⟨fun hf => ?_, by omega⟩
      have := h.k.re.lt hf
      omega
theorem Py.less (h : Py W w L R X' xb s t cs) (hX : ∀ q, X q → X' q) (hx : X xb) : Py W w L R X xb s t cs :=
  ⟨⟨h.k.fz.less (fun k hk => by
    rcases hk with hk | hk | hk
    · exact .inl hk
    · exact .inr (.inl hk)
    · exact .inr (.inr (hX k hk))) (fun k hk => .inl hk), h.k.re, h.k.ro⟩, h.x, hx, fun q hq => h.ne q (hX q hq)⟩
theorem Py.back (h : Py W w L R X xb s t cs) : Pz W w L R (fun _ => False) s t :=
  ⟨h.k.fz.less (fun k hk => by
    rcases hk with hk | hk | hk
    · exact .inl hk
    · exact .inr (.inl hk)
    · cases hk) (fun k hk => .inl hk), h.k.re, h.k.ro⟩
end
def pB : Option Hd → List Int
  | some x => x.base
  | none => zeros 32
def pN : Option Hd → List Int
  | some x => x.now
  | none => zeros 32
def pH : Option Hd → List Int
  | some x => x.heads
  | none => zeros 8
theorem pageR_eq (o : Option Hd) : pageR o = .tuple #[.agg (u8s (pB o)).toArray, .agg (u8s (pN o)).toArray, .bool o.isSome] := by cases o <;> rfl
theorem mapR_eq (o : Option Hd) : mapR o = .tuple #[.agg (i64s (pH o)).toArray, .bool o.isSome] := by cases o <;> rfl
theorem held_ok {B : Nat} {s : Fs} (ho : s.Ok B) {p : Int} {x : Hd} (h : s.held p = some x) : x.Ok := by
  unfold Fs.held at h
  cases e : s.page p with
  | none => rw [e] at h; cases h
  | some k => rw [e] at h; exact ho.hd k x h
theorem heldMap_ok {B : Nat} {s : Fs} (ho : s.Ok B) {p : Int} {x : Hd} (h : s.heldMap p = some x) : x.Ok := by
  unfold Fs.heldMap at h
  split at h
  · cases e : s.c.find (64 + p) with
    | none => rw [e] at h; cases h
    | some k => rw [e] at h; exact ho.hd k x h
  · cases h
theorem pB_len {B : Nat} {s : Fs} (ho : s.Ok B) (p : Int) : (pB (s.held p)).length = 32 := by
  cases e : s.held p with
  | none => exact zeros_length 32
  | some x => exact (held_ok ho e).base.length
theorem pN_len {B : Nat} {s : Fs} (ho : s.Ok B) (p : Int) : (pN (s.held p)).length = 32 := by
  cases e : s.held p with
  | none => exact zeros_length 32
  | some x => exact (held_ok ho e).now.length
theorem pH_len {B : Nat} {s : Fs} (ho : s.Ok B) (p : Int) : (pH (s.heldMap p)).length = 8 := by
  cases e : s.heldMap p with
  | none => exact zeros_length 8
  | some x => exact (heldMap_ok ho e).heads
theorem held_at {B : Nat} {s : Fs} (ho : s.Ok B) {p : Int} {k : Nat} (h : s.page p = some k) : k < s.c.l.length ∧ ∃ x, s.held p = some x ∧ s.h[k]? = some x ∧ x.Ok := by
  obtain ⟨h0, h1, h2, f, x, hf, hx, ef, hxo⟩ := Fs.page_at ho h
  exact ⟨find_lt ho.ck h2, x, by unfold Fs.held; rw [h]; exact hx, hx, hxo⟩
theorem heldMap_at {B : Nat} {s : Fs} (ho : s.Ok B) {p : Int} {k : Nat} (h0 : 0 ≤ p ∧ p < 8) (h : s.c.find (64 + p) = some k) : k < s.c.l.length ∧ ∃ x, s.heldMap p = some x ∧ s.h[k]? = some x ∧ x.Ok := by
  obtain ⟨_, x, _, hx⟩ := ho.at (k := k) (find_lt ho.ck h)
  exact ⟨find_lt ho.ck h, x, by unfold Fs.heldMap; rw [if_pos h0, h]; exact hx, hx, ho.hd k x hx⟩
theorem guardh : Tryz.prog.eqGuardType Tryz.prog.depth 41 = false := by kernel_rfl
theorem exec_headsN {l m : List Int} {v : Bool} (hv : decide (l = m) = !v) (hl : l.length = 8) (hm : m.length = 8) (ev : Operand → Value) (o : Oper) (w : World) {x y : Operand} {t : TypeId} (ho : o.op = .binOp .neq 41 x y t) (hx : ev x = .agg (i64s l).toArray) (hy : ev y = .agg (i64s m).toArray) : (execOp ev o).run Tryz.prog w = .ok (.value (.bool v)) w := by
  obtain ⟨i3, hi3, hs3⟩ := size_of info3
  have hb := run_neq_ints (P := Tryz.prog) w 41 3 8 _ .i64 i3 l m Tryz.underlying41 Tryz.underlying3 hi3 hs3 hl hm
  rw [hv, Bool.not_not] at hb
  unfold execOp
  simp only [ho, hx, hy, Sem.run_bind, run_eqGuard_agg w .neq 41 x y _ _ guardh, Result.andThen_ok, hb, Sem.run_pure]
def vh (v o : Int) : List Int := [v, o, 0, 0, 0, 0, 0, 0]
theorem builtV (v o : Int) : Tryz.prog.built 41 [(0, .int .i64 v), (1, .int .i64 o)] = some (i64s (vh v o)).toArray := by kernel_rfl

end Go.Proofs.YtaemjglblfencaaGreatDoor
