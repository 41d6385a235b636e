/- Within a round of a range over a function: what a plain walk shows of a region's operations holds there, too; blocks of cells lie on, whatever is turned that is no cells. -/
import Derived.Test.YtjejodgjakjeiaaDoorGood
import Derived.RangeFuncNested
import Derived.RangeFuncLeaves
import Derived.Shelf.Abstract
import Derived.OwnWalkIn
import Derived.TacticsInMore
import Derived.LoopNIn
import Derived.LoopIn
namespace Go.Proofs.YtjejodgjakjeiaaDoor
set_option linter.unusedSimpArgs false
set_option linter.unusedVariables false
open Go.RowKit

theorem rowsIn_of {l m : Nat} {P : Program} {row : String} {args : Array Value} {w : World} {R : Value → World → Prop} (h : Rows P row args w R) : RowsIn (Fence.wide.inRound l) m P row args w R := fun c cs _ => by
  obtain ⟨v, w', r, s⟩ := h c cs
  exact ⟨v, w', r, stepsIn_wide.2 s⟩
theorem uponIn_of {l m : Nat} {P : Program} {o : Oper} {a : Act} {next next' : Act → World → Prop} {Q : Exit → Act → World → Prop} (hn : ∀ a w, next a w → next' a w) : ∀ {r : Result Next}, o.upon P a next Q r → o.uponIn (Fence.wide.inRound l) m P a next' Q r
  | .ok (.value v) w', h => hn _ _ h
  | .ok .skip w', h => hn _ _ h
  | .ok (.defer d) w', h => hn _ _ h
  | .ok (.enter f args) w', h => ⟨(fun h0 => by cases h0), CallsIn.inRound l (callsIn_wide.2 (Calls.mono h fun e w'' he => by cases e <;> first | exact hn _ _ he | exact he))⟩
  | .ok (.row row args) w', h => ⟨(fun h0 => by cases h0), rowsIn_of (h.mono fun v w'' he => hn _ _ he)⟩
  | .halt (.panic v) w', h => h
theorem listIn_of {l m : Nat} {P : Program} {ops : Array Oper} {Q : Exit → Act → World → Prop} (hno : ¬ LetsOut Q) : ∀ {rest : List Oper} {a : Act} {w : World}, (∀ o ∈ rest, ∀ c, o.op ≠ .defer c) → wpList P ops Q rest a w → wpListIn (Fence.wide.inRound l) m P ops Q rest a w
  | [], _, _, _, h => h
  | o :: rest, a, w, hd, h => by
    have ih := fun {a : Act} {w : World} => listIn_of (l := l) (m := m) (P := P) (ops := ops) hno (rest := rest) (a := a) (w := w) fun x hx => hd x (List.mem_cons_of_mem _ hx)
    unfold wpList at h
    unfold wpListIn
    split
    · rename_i hw
      rw [if_pos hw] at h
      have h' : o.wp P a w (wpList P ops Q rest) Q := h.resolve_right fun hh => hno hh.2
      refine ⟨fun _ _ => trivial, ?_⟩
      rw [show (Fence.wide.inRound l).round = some l from rfl, Oper.semAt_some l _ _ (hd o (by simp))]
      exact uponIn_of (fun a w => ih) h'
    · rename_i hw
      rw [if_neg hw] at h
      exact ⟨fun _ _ => trivial, ih h⟩
theorem regionIn_of {l m id : Nat} {P : Program} {ops : List Oper} {Q : Exit → Act → World → Prop} {a : Act} {w : World} (hno : ¬ LetsOut Q) (hd : ∀ o ∈ ops, ∀ c, o.op ≠ .defer c) (h : wpList P ops.toArray Q ops a w) : (Code.region id ops.toArray false).wpIn (Fence.wide.inRound l) m P Q a w :=
  wpIn_region_lit (listIn_of hno hd h)
theorem Blk.kept {w w' : World} {row : Option Nat} {b : Nat} {l : List Value} (h : Blk w b l) (hg : w.grownBy w' row) (hr : ∀ r, row = some r → ∃ o : Obj, w.heap[r]? = some o ∧ o.isCells = false) : Blk w' b l := by
  have hne : some b ≠ row := fun e => by
    obtain ⟨o, h1, h2⟩ := hr b e.symm
    obtain ⟨t, ht⟩ := h
    rw [ht] at h1
    cases h1
    cases h2
  exact h.of_block (hg.block b h.lt hne)
/-- What the world differs at is cells. -/
theorem keeps_of_only {g B : Nat} {w w' : World} {l : List Value} (h : Only (fun k => k = g) w w') (hg : Blk w g l) : KeepsFrom B w w' := ⟨h.size, fun k o _ hk ho => by
  have hlt := (Array.getElem?_eq_some_iff.1 hk).1
  refine (h.block k hlt fun e => ?_).trans hk
  subst e
  obtain ⟨t, ht⟩ := hg
  rw [ht] at hk
  cases hk
  cases ho⟩
theorem keeps_of_below {B : Nat} {w w' : World} (h : Below w.heap.size w w') : KeepsFrom B w w' := ⟨h.size, fun k o _ hk _ => (h.block k (Array.getElem?_eq_some_iff.1 hk).1).trans hk⟩
def noDefer (o : Oper) : Bool := match o.op with | .defer _ => false | _ => true
theorem noDefer_all {ops : List Oper} (h : ops.all noDefer = true) : ∀ o ∈ ops, ∀ c, o.op ≠ .defer c := fun o ho c e => by
  have := List.all_eq_true.1 h o ho
  simp [noDefer, e] at this
end Go.Proofs.YtjejodgjakjeiaaDoor
