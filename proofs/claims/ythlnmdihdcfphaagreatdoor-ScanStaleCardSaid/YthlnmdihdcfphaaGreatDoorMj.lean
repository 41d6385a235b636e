/- Dc: texts of elder seats turned: what the stage needs of them. Dz: stage 2's texts turned: a crash of the device. -/
import Derived.Test.YthlnmdihdcfphaaGreatDoorDb
namespace Go.Proofs.YthlnmdihdcfphaaGreatDoor
set_option linter.unusedSimpArgs false
set_option linter.unusedVariables false
open Go.RowKit

namespace De
open Go.RowKit
end De

end Go.Proofs.YthlnmdihdcfphaaGreatDoor
namespace Go.Proofs.YthlnmdihdcfphaaGreatDoor
set_option linter.unusedSimpArgs false
set_option linter.unusedVariables false
open Go.RowKit

namespace De
open Go.RowKit
/-- Is byte k of keep there, and odd? -/
def oddAt (keep : List Int) (k : Nat) : Bool := decide (k < keep.length) && decide (keep.getD k 0 % 2 = 1)
/-- The loose writes whose byte of keep is odd. -/
def kept (L : List (Nat × Array Value)) (keep : List Int) : List (Nat × Array Value) := keptTo L (oddAt keep) L.length
def D.crash (d : D) (keep : List Int) : D := { d with S := app d.S (kept d.L keep), L := [], F := -1 }
/-- A slice that reads as bytes. -/
def BytesAt (w : World) (v : Value) (l : List Int) : Prop := ∃ (a : Option Addr) (cap : Nat), v = .slice a l.length cap ∧ l.length ≤ maxLen ∧ (∀ n ∈ l, 0 ≤ n ∧ n ≤ 255) ∧ ∀ i (h : i < l.length), ∃ b o, a = some ⟨b, o, none⟩ ∧ w.cell? ⟨b, o + i, none⟩ = some (.int .u8 l[i])
theorem BytesAt.keep {w w' : World} {v : Value} {l : List Int} (h : BytesAt w v l) (hk : ∀ b o x, v.ownBlock = some b → w.cell? ⟨b, o, none⟩ = some x → w'.cell? ⟨b, o, none⟩ = some x) : BytesAt w' v l := by
  obtain ⟨a, cap, rfl, hl, hb, hc⟩ := h
  refine ⟨a, cap, rfl, hl, hb, fun i hi => ?_⟩
  obtain ⟨b, o, rfl, hx⟩ := hc i hi
  exact ⟨b, o, rfl, hk b _ _ rfl hx⟩
end De

end Go.Proofs.YthlnmdihdcfphaaGreatDoor
