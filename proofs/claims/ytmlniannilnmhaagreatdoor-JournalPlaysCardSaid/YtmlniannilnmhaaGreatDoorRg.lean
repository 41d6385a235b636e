/- The two journals side by side. -/
import Derived.Test.YtmlniannilnmhaaGreatDoorRf
namespace Go.Proofs.YtmlniannilnmhaaGreatDoor
set_option linter.unusedSimpArgs false
set_option linter.unusedVariables false
open Go.RowKit

/-- The two journals side by side: the code's (d, a) and the reference's (r, c). -/
structure Duo (W w : World) (jb b qb q : Nat) (F G : Nat → Prop) (d r : De.D) (g : Pl.Gm) (a c : Ja) (fv fr : Value) : Prop where
  j : Jn W w jb b F d g a fv
  r : Rn W w qb q G r g c fr
  dj : ∀ k, F k ∨ k = jb → ¬ (G k ∨ k = qb)
  s1 : ∀ b' o n c, fv = .slice (some ⟨b', o, none⟩) n c → ¬ (G b' ∨ b' = qb)
  s2 : ∀ b' o n c, fr = .slice (some ⟨b', o, none⟩) n c → ¬ (F b' ∨ b' = jb)
section
variable {W w w' : World} {jb b qb q : Nat} {F F' G G' : Nat → Prop} {d d' r r' : De.D} {g : Pl.Gm} {a a' c c' : Ja} {fv fv' fr fr' : Value}
theorem Duo.below (h : Duo W w jb b qb q F G d r g a c fv fr) (hb : Below w.heap.size w w') : Duo W w' jb b qb q F G d r g a c fv fr := ⟨h.j.below hb, h.r.below hb, h.dj, h.s1, h.s2⟩
/-- A list's block: the old one's, or a new one. -/
def SrcOr (w : World) (fv fv' : Value) : Prop := Src fv fv' ∨ ∀ b o n c, fv' = .slice (some ⟨b, o, none⟩) n c → w.heap.size ≤ b
theorem Duo.left (h : Duo W w jb b qb q F G d r g a c fv fr) (hj : Jn W w' jb b F' d' g a' fv') (ho : Only (fun k => F k ∨ k = jb) w w') (hn : ∀ k, F' k → F k ∨ w.heap.size ≤ k) (hs : SrcOr w fv fv') : Duo W w' jb b qb q F' G d' r g a' c fv' fr := by
  have hqb := h.r.blk.lt
  have hGl := fun k hk => (h.r.rv.lt k hk).2
  refine ⟨hj, h.r.turnS ho (fun k hk => hk.elim (fun hF => (h.j.dv.lt k hF).1) fun e => by rw [e]; exact h.j.lo) (fun k hG hk => h.dj k hk (.inl hG)) (h.r.blk.only ho fun hk => h.dj qb hk (.inr rfl)) (h.r.fr.onlyF ho fun b' o n c e hk => h.s2 b' o n c e hk)
    (fun b' o n c e => let ⟨h1, h2, h3, h4⟩ := h.r.sep b' o n c e; ⟨h1, h2, h3, Nat.lt_of_lt_of_le h4 ho.size⟩), fun k hk hg => ?_, fun b' o n c e hg => ?_, fun b' o n c e hk => ?_⟩
  · rcases hk with hk | hk
    · rcases hn k hk with h1 | h1
      · exact h.dj k (.inl h1) hg
      · rcases hg with hg | hg
        · have := hGl k hg; omega
        · omega
    · exact h.dj k (.inr hk) hg
  · rcases hs with hs | hs
    · obtain ⟨o2, n2, c2, e2⟩ := hs b' o n c e
      exact h.s1 b' o2 n2 c2 e2 hg
    · have h1 := hs b' o n c e
      rcases hg with hg | hg
      · have := hGl b' hg; omega
      · omega
  · rcases hk with hk | hk
    · rcases hn b' hk with h1 | h1
      · exact h.s2 b' o n c e (.inl h1)
      · have := (h.r.sep b' o n c e).2.2.2; omega
    · exact h.s2 b' o n c e (.inr hk)
theorem Duo.right (h : Duo W w jb b qb q F G d r g a c fv fr) (hr : Rn W w' qb q G' r' g c' fr') (ho : Only (fun k => G k ∨ k = qb) w w') (hn : ∀ k, G' k → G k ∨ w.heap.size ≤ k) (hs : SrcOr w fr fr') : Duo W w' jb b qb q F G' d r' g a c' fv fr' := by
  have hjb := h.j.blk.lt
  have hFl := fun k hk => (h.j.dv.lt k hk).2
  refine ⟨h.j.turnS ho (fun k hk => hk.elim (fun hG => (h.r.rv.lt k hG).1) fun e => by rw [e]; exact h.r.lo) (fun k hF hk => h.dj k (.inl hF) hk) (h.j.blk.only ho fun hk => h.dj jb (.inr rfl) hk) (h.j.fr.onlyF ho fun b' o n c e hk => h.s1 b' o n c e hk)
    (fun b' o n c e => let ⟨h1, h2, h3, h4⟩ := h.j.sep b' o n c e; ⟨h1, h2, h3, Nat.lt_of_lt_of_le h4 ho.size⟩) h.j.good h.j.seq h.j.cp, hr, fun k hk hg => ?_, fun b' o n c e hg => ?_, fun b' o n c e hk => ?_⟩
  · rcases hg with hg | hg
    · rcases hn k hg with h1 | h1
      · exact h.dj k hk (.inl h1)
      · rcases hk with hk | hk
        · have := hFl k hk; omega
        · omega
    · exact h.dj k hk (.inr hg)
  · rcases hg with hg | hg
    · rcases hn b' hg with h1 | h1
      · exact h.s1 b' o n c e (.inl h1)
      · have := (h.j.sep b' o n c e).2.2.2; omega
    · exact h.s1 b' o n c e (.inr hg)
  · rcases hs with hs | hs
    · obtain ⟨o2, n2, c2, e2⟩ := hs b' o n c e
      exact h.s2 b' o2 n2 c2 e2 hk
    · have h1 := hs b' o n c e
      rcases hk with hk | hk
      · have := hFl b' hk; omega
      · omega
/-- How far JournalPlays is. -/
structure Duo1 (W w : World) (jb b qb q : Nat) (t : Nat) (g : Pl.Gm) (i : Nat) (F G : Nat → Prop) (d : De.D) (a : Ja) (fv fr : Value) : Prop where
  duo : Duo W w jb b qb q F G d d g a a fv fr
  S : d.S.length = t
  T : d.T ≤ 1025 * i
  L : d.L.length ≤ 1024 * i
theorem Duo1.below {t i : Nat} (h : Duo1 W w jb b qb q t g i F G d a fv fr) (hb : Below w.heap.size w w') : Duo1 W w' jb b qb q t g i F G d a fv fr := ⟨h.duo.below hb, h.S, h.T, h.L⟩
end
theorem zero53 : (Tryz.prog.info? 53).bind (·.zero) = some (.agg #[.int .i64 0, .int .i64 0, .slice none 0 0, .slice none 0 0]) := by kernel_rfl
theorem info53 : (Tryz.prog.info? 53).map (·.size) = some 4 := by kernel_rfl
theorem step_one (k n : Int) (a b : Option Addr) (m c e f : Nat) : ∀ v ∈ (#[.int .i64 k, .int .i64 n, .slice a m c, .slice b e f] : Array Value), v.oneCell' = true := fun v hv => by
  simp only [List.mem_toArray, List.mem_cons, List.not_mem_nil, or_false] at hv
  rcases hv with rfl | rfl | rfl | rfl <;> rfl
/-- Own items, kept as long as the journals alone are turned. -/
theorem own_kept {w w' : World} {F : Nat → Prop} {tv : Value} {m : List (It × Value)} (B : Nat) (hF : ∀ k, F k → k < B) (h : ItemsAt w tv m) (h1 : ∀ b o n c, tv = .slice (some ⟨b, o, none⟩) n c → B ≤ b) (h2 : ∀ x ∈ m, ∀ b o n c, x.2 = .slice (some ⟨b, o, none⟩) n c → B ≤ b) (ho : Only F w w') : ItemsAt w' tv m :=
  h.onlyF ho (fun b o n c e hk => by have := hF b hk; have := h1 b o n c e; omega) fun x hx b o n c e hk => by have := hF b hk; have := h2 x hx b o n c e; omega

end Go.Proofs.YtmlniannilnmhaaGreatDoor
