/- Three frames, a page and a mapping page of one number: what each call comes to. -/
import Derived.Test.YtaemjglblfencaaDoorSt
import Derived.Test.YtaemjglblfencaaDoorWk
namespace Go.Proofs.YtaemjglblfencaaDoor
set_option linter.unusedSimpArgs false
set_option linter.unusedVariables false
open Go.RowKit Kl

def bm (b : Int) : List Int := [b, 0, 0, 0, 0, 0, 0, 0]
def pg1 (k : Nat) (a : Int) : Fs := ⟨⟨[⟨k, true, 0⟩, noFm, noFm], 0⟩, [⟨leaf a, leaf a, zeros 8⟩, noHd, noHd]⟩
def pg2 (k : Nat) (a b : Int) : Fs := ⟨⟨[⟨k, true, 0⟩, ⟨64 + k, true, 0⟩, noFm], 0⟩, [⟨leaf a, leaf a, zeros 8⟩, ⟨zeros 32, zeros 32, bm b⟩, noHd]⟩
def pg3 (k : Nat) (a b : Int) : Bool → Fs
  | true => ⟨⟨[⟨k, true, 1⟩, ⟨64 + k, true, 0⟩, noFm], 0⟩, [⟨leaf a, leaf a, zeros 8⟩, ⟨zeros 32, zeros 32, bm b⟩, noHd]⟩
  | false => pg2 k a b
def pg4 (k : Nat) (a b : Int) : Bool → Fs
  | true => pg3 k a b true
  | false => ⟨⟨[⟨((k + 1) % 8 : Nat), true, 0⟩, ⟨64 + k, true, 0⟩, noFm], 0⟩, [⟨leaf b, leaf b, zeros 8⟩, ⟨zeros 32, zeros 32, bm b⟩, noHd]⟩
theorem hold_clean {s : Fs} {i p : Int} {l : List Int} (hd : s.dirty i = false) (hp : pageKey p = true) : s.hold i p l = (s.c.mayPut i p, if s.c.mayPut i p then ⟨s.c.put i p, s.h.set i.toNat ⟨l, l, zeros 8⟩⟩ else s) := by
  unfold Fs.hold
  rw [if_pos hp]
  unfold Fs.put Fs.may
  rw [hd]
  simp
theorem clean0 {k a b : Int} {m : Bool} {q : Int} {r : List Fm} {n : Nat} {x : List Hd} {f : Fm} : (Fs.mk ⟨f :: r, n⟩ (⟨leaf a, leaf a, zeros 8⟩ :: x)).dirty 0 = false := by
  simp [Fs.dirty, Fs.dirtyN]
set_option maxRecDepth 100000 in
theorem pf1 (k : Nat) (hk : k < 8) (a b : Int) : (newFs 3).hold 0 k (leaf a) = (true, pg1 k a) := by
  rcases (by omega : k = 0 ∨ k = 1 ∨ k = 2 ∨ k = 3 ∨ k = 4 ∨ k = 5 ∨ k = 6 ∨ k = 7) with rfl | rfl | rfl | rfl | rfl | rfl | rfl | rfl
  · kernel_rfl
  · kernel_rfl
  · kernel_rfl
  · kernel_rfl
  · kernel_rfl
  · kernel_rfl
  · kernel_rfl
  · kernel_rfl
set_option maxRecDepth 100000 in
theorem pf2 (k : Nat) (hk : k < 8) (a b : Int) : (pg1 k a).hold 1 k (leaf b) = (false, pg1 k a) := by
  rcases (by omega : k = 0 ∨ k = 1 ∨ k = 2 ∨ k = 3 ∨ k = 4 ∨ k = 5 ∨ k = 6 ∨ k = 7) with rfl | rfl | rfl | rfl | rfl | rfl | rfl | rfl
  · kernel_rfl
  · kernel_rfl
  · kernel_rfl
  · kernel_rfl
  · kernel_rfl
  · kernel_rfl
  · kernel_rfl
  · kernel_rfl
set_option maxRecDepth 100000 in
theorem pf3 (k : Nat) (hk : k < 8) (a b : Int) : (pg1 k a).holdMap 1 k (bm b) = (true, pg2 k a b) := by
  rcases (by omega : k = 0 ∨ k = 1 ∨ k = 2 ∨ k = 3 ∨ k = 4 ∨ k = 5 ∨ k = 6 ∨ k = 7) with rfl | rfl | rfl | rfl | rfl | rfl | rfl | rfl
  · kernel_rfl
  · kernel_rfl
  · kernel_rfl
  · kernel_rfl
  · kernel_rfl
  · kernel_rfl
  · kernel_rfl
  · kernel_rfl
set_option maxRecDepth 100000 in
theorem pf4 (k : Nat) (hk : k < 8) (a b : Int) : (pg2 k a b).holdMap 2 k (zeros 8) = (false, pg2 k a b) := by
  rcases (by omega : k = 0 ∨ k = 1 ∨ k = 2 ∨ k = 3 ∨ k = 4 ∨ k = 5 ∨ k = 6 ∨ k = 7) with rfl | rfl | rfl | rfl | rfl | rfl | rfl | rfl
  · kernel_rfl
  · kernel_rfl
  · kernel_rfl
  · kernel_rfl
  · kernel_rfl
  · kernel_rfl
  · kernel_rfl
  · kernel_rfl
set_option maxRecDepth 100000 in
theorem pf5 (k : Nat) (hk : k < 8) (a b : Int) : (pg2 k a b).c.keyed 0 = true ∧ Fs.mk ((pg2 k a b).c.pin 0) (pg2 k a b).h = pg3 k a b true := by
  rcases (by omega : k = 0 ∨ k = 1 ∨ k = 2 ∨ k = 3 ∨ k = 4 ∨ k = 5 ∨ k = 6 ∨ k = 7) with rfl | rfl | rfl | rfl | rfl | rfl | rfl | rfl
  · exact ⟨by kernel_rfl, by kernel_rfl⟩
  · exact ⟨by kernel_rfl, by kernel_rfl⟩
  · exact ⟨by kernel_rfl, by kernel_rfl⟩
  · exact ⟨by kernel_rfl, by kernel_rfl⟩
  · exact ⟨by kernel_rfl, by kernel_rfl⟩
  · exact ⟨by kernel_rfl, by kernel_rfl⟩
  · exact ⟨by kernel_rfl, by kernel_rfl⟩
  · exact ⟨by kernel_rfl, by kernel_rfl⟩
set_option maxRecDepth 100000 in
theorem pf6t (k : Nat) (hk : k < 8) (a b : Int) : (pg3 k a b true).hold 0 ((k + 1) % 8 : Nat) (leaf b) = (false, pg4 k a b true) := by
  rcases (by omega : k = 0 ∨ k = 1 ∨ k = 2 ∨ k = 3 ∨ k = 4 ∨ k = 5 ∨ k = 6 ∨ k = 7) with rfl | rfl | rfl | rfl | rfl | rfl | rfl | rfl
  · (refine (hold_clean (clean0 (k := 0) (b := 0) (m := true) (q := 0)) (by kernel_rfl)).trans ?_; kernel_rfl)
  · (refine (hold_clean (clean0 (k := 0) (b := 0) (m := true) (q := 0)) (by kernel_rfl)).trans ?_; kernel_rfl)
  · (refine (hold_clean (clean0 (k := 0) (b := 0) (m := true) (q := 0)) (by kernel_rfl)).trans ?_; kernel_rfl)
  · (refine (hold_clean (clean0 (k := 0) (b := 0) (m := true) (q := 0)) (by kernel_rfl)).trans ?_; kernel_rfl)
  · (refine (hold_clean (clean0 (k := 0) (b := 0) (m := true) (q := 0)) (by kernel_rfl)).trans ?_; kernel_rfl)
  · (refine (hold_clean (clean0 (k := 0) (b := 0) (m := true) (q := 0)) (by kernel_rfl)).trans ?_; kernel_rfl)
  · (refine (hold_clean (clean0 (k := 0) (b := 0) (m := true) (q := 0)) (by kernel_rfl)).trans ?_; kernel_rfl)
  · (refine (hold_clean (clean0 (k := 0) (b := 0) (m := true) (q := 0)) (by kernel_rfl)).trans ?_; kernel_rfl)
set_option maxRecDepth 100000 in
theorem pf6f (k : Nat) (hk : k < 8) (a b : Int) : (pg3 k a b false).hold 0 ((k + 1) % 8 : Nat) (leaf b) = (true, pg4 k a b false) := by
  rcases (by omega : k = 0 ∨ k = 1 ∨ k = 2 ∨ k = 3 ∨ k = 4 ∨ k = 5 ∨ k = 6 ∨ k = 7) with rfl | rfl | rfl | rfl | rfl | rfl | rfl | rfl
  · (refine (hold_clean (clean0 (k := 0) (b := 0) (m := true) (q := 0)) (by kernel_rfl)).trans ?_; kernel_rfl)
  · (refine (hold_clean (clean0 (k := 0) (b := 0) (m := true) (q := 0)) (by kernel_rfl)).trans ?_; kernel_rfl)
  · (refine (hold_clean (clean0 (k := 0) (b := 0) (m := true) (q := 0)) (by kernel_rfl)).trans ?_; kernel_rfl)
  · (refine (hold_clean (clean0 (k := 0) (b := 0) (m := true) (q := 0)) (by kernel_rfl)).trans ?_; kernel_rfl)
  · (refine (hold_clean (clean0 (k := 0) (b := 0) (m := true) (q := 0)) (by kernel_rfl)).trans ?_; kernel_rfl)
  · (refine (hold_clean (clean0 (k := 0) (b := 0) (m := true) (q := 0)) (by kernel_rfl)).trans ?_; kernel_rfl)
  · (refine (hold_clean (clean0 (k := 0) (b := 0) (m := true) (q := 0)) (by kernel_rfl)).trans ?_; kernel_rfl)
  · (refine (hold_clean (clean0 (k := 0) (b := 0) (m := true) (q := 0)) (by kernel_rfl)).trans ?_; kernel_rfl)
set_option maxRecDepth 100000 in
theorem pf7t (k : Nat) (hk : k < 8) (a b : Int) : (pg4 k a b true).held k = some ⟨leaf a, leaf a, zeros 8⟩ := by
  rcases (by omega : k = 0 ∨ k = 1 ∨ k = 2 ∨ k = 3 ∨ k = 4 ∨ k = 5 ∨ k = 6 ∨ k = 7) with rfl | rfl | rfl | rfl | rfl | rfl | rfl | rfl
  · kernel_rfl
  · kernel_rfl
  · kernel_rfl
  · kernel_rfl
  · kernel_rfl
  · kernel_rfl
  · kernel_rfl
  · kernel_rfl
set_option maxRecDepth 100000 in
theorem pf7f (k : Nat) (hk : k < 8) (a b : Int) : (pg4 k a b false).held k = none := by
  rcases (by omega : k = 0 ∨ k = 1 ∨ k = 2 ∨ k = 3 ∨ k = 4 ∨ k = 5 ∨ k = 6 ∨ k = 7) with rfl | rfl | rfl | rfl | rfl | rfl | rfl | rfl
  · kernel_rfl
  · kernel_rfl
  · kernel_rfl
  · kernel_rfl
  · kernel_rfl
  · kernel_rfl
  · kernel_rfl
  · kernel_rfl
set_option maxRecDepth 100000 in
theorem pf8t (k : Nat) (hk : k < 8) (a b : Int) : (pg4 k a b true).heldMap k = some ⟨zeros 32, zeros 32, bm b⟩ := by
  rcases (by omega : k = 0 ∨ k = 1 ∨ k = 2 ∨ k = 3 ∨ k = 4 ∨ k = 5 ∨ k = 6 ∨ k = 7) with rfl | rfl | rfl | rfl | rfl | rfl | rfl | rfl
  · kernel_rfl
  · kernel_rfl
  · kernel_rfl
  · kernel_rfl
  · kernel_rfl
  · kernel_rfl
  · kernel_rfl
  · kernel_rfl
set_option maxRecDepth 100000 in
theorem pf9t (k : Nat) (hk : k < 8) (a b : Int) : (pg4 k a b true).forgets k = false ∧ (pg4 k a b true).forget k = pg4 k a b true := by
  rcases (by omega : k = 0 ∨ k = 1 ∨ k = 2 ∨ k = 3 ∨ k = 4 ∨ k = 5 ∨ k = 6 ∨ k = 7) with rfl | rfl | rfl | rfl | rfl | rfl | rfl | rfl
  · exact ⟨by kernel_rfl, by kernel_rfl⟩
  · exact ⟨by kernel_rfl, by kernel_rfl⟩
  · exact ⟨by kernel_rfl, by kernel_rfl⟩
  · exact ⟨by kernel_rfl, by kernel_rfl⟩
  · exact ⟨by kernel_rfl, by kernel_rfl⟩
  · exact ⟨by kernel_rfl, by kernel_rfl⟩
  · exact ⟨by kernel_rfl, by kernel_rfl⟩
  · exact ⟨by kernel_rfl, by kernel_rfl⟩
set_option maxRecDepth 100000 in
theorem pf10t (k : Nat) (hk : k < 8) (a b : Int) : (pg4 k a b true).forgets (64 + k) = true := by
  rcases (by omega : k = 0 ∨ k = 1 ∨ k = 2 ∨ k = 3 ∨ k = 4 ∨ k = 5 ∨ k = 6 ∨ k = 7) with rfl | rfl | rfl | rfl | rfl | rfl | rfl | rfl
  · kernel_rfl
  · kernel_rfl
  · kernel_rfl
  · kernel_rfl
  · kernel_rfl
  · kernel_rfl
  · kernel_rfl
  · kernel_rfl
set_option maxRecDepth 100000 in
theorem pf8f (k : Nat) (hk : k < 8) (a b : Int) : (pg4 k a b false).heldMap k = some ⟨zeros 32, zeros 32, bm b⟩ := by
  rcases (by omega : k = 0 ∨ k = 1 ∨ k = 2 ∨ k = 3 ∨ k = 4 ∨ k = 5 ∨ k = 6 ∨ k = 7) with rfl | rfl | rfl | rfl | rfl | rfl | rfl | rfl
  · kernel_rfl
  · kernel_rfl
  · kernel_rfl
  · kernel_rfl
  · kernel_rfl
  · kernel_rfl
  · kernel_rfl
  · kernel_rfl
set_option maxRecDepth 100000 in
theorem pf9f (k : Nat) (hk : k < 8) (a b : Int) : (pg4 k a b false).forgets k = false ∧ (pg4 k a b false).forget k = pg4 k a b false := by
  rcases (by omega : k = 0 ∨ k = 1 ∨ k = 2 ∨ k = 3 ∨ k = 4 ∨ k = 5 ∨ k = 6 ∨ k = 7) with rfl | rfl | rfl | rfl | rfl | rfl | rfl | rfl
  · exact ⟨by kernel_rfl, by kernel_rfl⟩
  · exact ⟨by kernel_rfl, by kernel_rfl⟩
  · exact ⟨by kernel_rfl, by kernel_rfl⟩
  · exact ⟨by kernel_rfl, by kernel_rfl⟩
  · exact ⟨by kernel_rfl, by kernel_rfl⟩
  · exact ⟨by kernel_rfl, by kernel_rfl⟩
  · exact ⟨by kernel_rfl, by kernel_rfl⟩
  · exact ⟨by kernel_rfl, by kernel_rfl⟩
set_option maxRecDepth 100000 in
theorem pf10f (k : Nat) (hk : k < 8) (a b : Int) : (pg4 k a b false).forgets (64 + k) = true := by
  rcases (by omega : k = 0 ∨ k = 1 ∨ k = 2 ∨ k = 3 ∨ k = 4 ∨ k = 5 ∨ k = 6 ∨ k = 7) with rfl | rfl | rfl | rfl | rfl | rfl | rfl | rfl
  · kernel_rfl
  · kernel_rfl
  · kernel_rfl
  · kernel_rfl
  · kernel_rfl
  · kernel_rfl
  · kernel_rfl
  · kernel_rfl

end Go.Proofs.YtaemjglblfencaaDoor
