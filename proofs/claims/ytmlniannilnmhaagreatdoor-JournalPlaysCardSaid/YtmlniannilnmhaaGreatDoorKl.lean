/- What the statements' walks share. -/
import Derived.Test.YtmlniannilnmhaaGreatDoorKa
namespace Go.Proofs.YtmlniannilnmhaaGreatDoor
set_option linter.unusedSimpArgs false
set_option linter.unusedVariables false
open Go.RowKit

section
variable {W w w' : World} {jb b : Nat} {F F' : Nat → Prop} {d : De.D} {g : Pl.Gm} {a : Ja} {fv : Value}
theorem Jn.bel (h : Jn W w jb b F d g a fv) : Below W.heap.size W w := h.dv.2
/-- A block that neither the journal nor its device has. -/
def Safe (w : World) (F : Nat → Prop) (jb k : Nat) : Prop := k < w.heap.size ∧ ¬ F k ∧ k ≠ jb
theorem Safe.next {k : Nat} (h : Safe w F jb k) (ho : Only (fun k => F k ∨ k = jb) w w') (hn : ∀ k, F' k → F k ∨ w.heap.size ≤ k) : Safe w' F' jb k :=
  ⟨Nat.lt_of_lt_of_le h.1 ho.size, fun hF => (hn k hF).elim h.2.1 fun h2 => by have := h.1; omega, h.2.2⟩
theorem Safe.dev {k : Nat} (h : Safe w F jb k) (ho : Only F w w') (hn : ∀ k, F' k → F k ∨ w.heap.size ≤ k) : Safe w' F' jb k := h.next (ho.more fun _ _ hj => .inl hj) hn
theorem Safe.below {k : Nat} (h : Safe w F jb k) (hb : Below w.heap.size w w') : Safe w' F jb k := ⟨Nat.lt_of_lt_of_le h.1 hb.size, h.2⟩
theorem Safe.blk {k : Nat} {l : List Value} (h : Safe w F jb k) (ho : Only (fun k => F k ∨ k = jb) w w') (hb : Blk w k l) : Blk w' k l := hb.only ho fun hF => hF.elim h.2.1 h.2.2
theorem fail_law (h : Jn W w jb b F d g a fv) (n : Int) (hn : De.I64 n) : Calls Tryz.prog 25 #[.pointer (some ⟨b, 0, none⟩), .int .i64 n] w fun e w' => ∃ F', e = .returned (.tuple #[]) ∧ Jn W w' jb b F' { d with F := n } g a fv ∧ Only F w w' ∧ ∀ k, F' k → F k ∨ w.heap.size ≤ k :=
  (De.dv_fail h.dv n hn).mono fun e w' ⟨F', he, hd, ho, hk⟩ => ⟨F', he, h.dev hd ho hk rfl, ho, hk⟩
end
theorem laid_of {g : Pl.Gm} {a : Ja} {L : List It} (h : mayBe L = true) (hk : ((lay2 a.seq L).1.length : Int) ≤ g.l) : laid g a L = true := by
  unfold laid
  rw [h, decide_eq_true hk]
  rfl
theorem parts_val {L : List It} (h : mayBe L = true) : 1 ≤ partsN L ∧ partsN L ≤ 3 := by
  have := parts_pos h
  unfold partsN
  rw [h]
  simp only [if_true]
  omega
theorem Pl.Gm.total {g : Pl.Gm} (h : g.Ok) : ∃ t : Nat, 4 + g.s * g.l = (t : Int) ∧ 1 ≤ t ∧ t ≤ 1024 := by
  obtain ⟨-, h1, h2, -⟩ := h
  have a1 : 0 ≤ g.s * g.l := Int.mul_nonneg (by omega) (by omega)
  have a2 : g.s * g.l ≤ 16 * 32 := Int.mul_le_mul (by omega) (by omega) (by omega) (by omega)
  exact ⟨(4 + g.s * g.l).toNat, by omega, by omega, by omega⟩

end Go.Proofs.YtmlniannilnmhaaGreatDoor
