/- Dc: texts of elder seats turned: what the stage needs of them. -/
import Derived.Test.YtoiekieddkadmaaDoorDb
namespace Go.Proofs.YtoiekieddkadmaaDoor
set_option linter.unusedSimpArgs false
set_option linter.unusedVariables false
open Go.RowKit

namespace De
open Go.RowKit
def rfoot (b sb : Nat) (lv : Value) (k : Nat) : Prop := k = b ∨ k = sb ∨ lv.ownBlock = some k
theorem ownsRow_of' {w w' : World} {base e : Nat} {v : Value} {n : Nat} {xs : List Value} (h : w.ownsRow base e 65 v n xs) (hb : ∀ k, v.ownBlock = some k → w'.heap[k]? = w.heap[k]?) : w'.ownsRow base e 65 v n xs := by
  refine ⟨h.1, ?_⟩
  rcases h.2 with hn | ⟨g, cap, cur, e, hb', hg, r⟩
  · exact .inl hn
  · exact .inr ⟨g, cap, cur, e, hb', (hb g (by rw [e]; rfl)).trans hg, r⟩
theorem app_take_yes {S : List (Array Value)} {L : List (Nat × Array Value)} {k i : Nat} {s : Array Value} (hk : L[k]? = some (i, s)) (hi : i < S.length) : (app S (L.take (k + 1)))[i]? = some s := by
  obtain ⟨hlt, e⟩ := List.getElem?_eq_some_iff.1 hk
  rw [List.take_succ_eq_append_getElem hlt, e, app_snoc]
  simp [hi]
theorem app_take_no {S : List (Array Value)} {L : List (Nat × Array Value)} {k i j : Nat} {s : Array Value} (hk : L[k]? = some (j, s)) (hne : j ≠ i) : (app S (L.take (k + 1)))[i]? = (app S (L.take k))[i]? := by
  obtain ⟨hlt, e⟩ := List.getElem?_eq_some_iff.1 hk
  rw [List.take_succ_eq_append_getElem hlt, e, app_snoc]
  exact List.getElem?_set_ne hne
theorem D.read_sec {W w : World} {b : Nat} {F : Nat → Prop} {d : D} (h : Dv W w b F d) (i : Int) : Sec (d.read i) := by
  unfold D.read
  split
  · rw [List.getD_eq_getElem?_getD]
    cases hx : (app d.S d.L)[i.toNat]? with
    | none => exact fillA_sec 0
    | some s => exact h.secs s (List.mem_of_getElem? hx)
  · exact fillA_sec 0
end De

end Go.Proofs.YtoiekieddkadmaaDoor
