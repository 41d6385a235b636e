/- What ScanStale has besides: old journals, a list of what was put. -/
import Derived.Test.YthlnmdihdcfphaaGreatDoorLd
namespace Go.Proofs.YthlnmdihdcfphaaGreatDoor
set_option linter.unusedSimpArgs false
set_option linter.unusedVariables false
open Go.RowKit

/-- The lists that were put, as the argument has them. -/
structure PL (w : World) (P : List (List It × List Int)) (vs : List Value) : Prop where
  len : vs.length = P.length
  at_ : ∀ (i : Nat) (v : Value) (x : List It × List Int), vs[i]? = some v → P[i]? = some x → ∃ l : List (It × Value), ItemsAt w v l ∧ l.map (·.1) = x.1
theorem PL.nil (w : World) : PL w [] [] := ⟨rfl, fun i v x h => by simp at h⟩
theorem PL.snoc {w : World} {P : List (List It × List Int)} {vs : List Value} (h : PL w P vs) {v : Value} {l : List (It × Value)} (hi : ItemsAt w v l) (pl : List Int) : PL w (P ++ [(l.map (·.1), pl)]) (vs ++ [v]) := by
  refine ⟨by rw [List.length_append, List.length_append, h.len]; rfl, fun i u x h1 h2 => ?_⟩
  rcases Nat.lt_or_ge i vs.length with hl | hl
  · rw [List.getElem?_append_left hl] at h1
    rw [List.getElem?_append_left (by rw [← h.len]; exact hl)] at h2
    exact h.at_ i u x h1 h2
  · rw [List.getElem?_append_right hl] at h1
    rw [List.getElem?_append_right (by rw [← h.len]; exact hl), ← h.len] at h2
    obtain ⟨k, hk⟩ : ∃ k, i - vs.length = k := ⟨_, rfl⟩
    rw [hk] at h1 h2
    cases k with
    | zero =>
      simp only [List.getElem?_cons_zero, Option.some.injEq] at h1 h2
      subst h1
      subst h2
      exact ⟨l, hi, rfl⟩
    | succ k => simp at h1
/-- A device without a journal, and what stays. -/
structure Dq (W w wr : World) (b : Nat) (F : Nat → Prop) (d : De.D) (Bs : List (Nat × List Value)) (Is : List (Value × List Int)) : Prop where
  dv : De.Dv W wr b F d
  bl : ∀ x ∈ Bs, Blk wr x.1 x.2 ∧ x.1 < wr.heap.size ∧ ¬ F x.1
  il : ∀ x ∈ Is, IntsAt wr x.1 x.2 ∧ ∀ b' o n c, x.1 = .slice (some ⟨b', o, none⟩) n c → b' < wr.heap.size ∧ ¬ F b'
  bel : Below w.heap.size w wr
  hW : w.heap.size ≤ W.heap.size
  wl : W.heap.size ≤ wr.heap.size
section
variable {W w wr wx : World} {jb b kb : Nat} {F F' : Nat → Prop} {d d' : De.D} {g : Pl.Gm} {a a' : Ja} {fv fv' : Value} {Bs : List (Nat × List Value)} {Is : List (Value × List Int)}
theorem Dq.below (h : Dq W w wr b F d Bs Is) (hb : Below wr.heap.size wr wx) : Dq W w wx b F d Bs Is :=
  ⟨h.dv.below hb, fun x hx => ⟨(h.bl x hx).1.below hb (h.bl x hx).1.lt, Nat.lt_of_lt_of_le (h.bl x hx).2.1 hb.size, (h.bl x hx).2.2⟩, fun x hx => ⟨(h.il x hx).1.below hb, fun b' o n c e => ⟨Nat.lt_of_lt_of_le ((h.il x hx).2 b' o n c e).1 hb.size, ((h.il x hx).2 b' o n c e).2⟩⟩, stay h.bel hb, h.hW, Nat.le_trans h.wl hb.size⟩
theorem Dq.new (h : Dq W w wr b F d Bs Is) (hb : Below wr.heap.size wr wx) (hj : Jn W wx jb b F d g a fv) (hl : wr.heap.size ≤ jb) : Kp W w wx jb b F d g a fv Bs Is :=
  ⟨hj, fun x hx => by
    obtain ⟨h1, h2, h3⟩ := h.bl x hx
    exact ⟨h1.below hb h1.lt, Nat.lt_of_lt_of_le h2 hb.size, h3, by omega⟩, fun x hx => by
    obtain ⟨h1, h2⟩ := h.il x hx
    refine ⟨h1.below hb, fun b' o n c e => ?_⟩
    obtain ⟨h3, h4⟩ := h2 b' o n c e
    exact ⟨Nat.lt_of_lt_of_le h3 hb.size, h4, by omega⟩, stay h.bel hb, h.hW⟩
theorem Dq.of (h : Kp W w wr jb b F d g a fv Bs Is) : Dq W w wr b F d Bs Is :=
  ⟨h.jn.dv, fun x hx => ⟨(h.bl x hx).1, (h.bl x hx).2.1, (h.bl x hx).2.2.1⟩, fun x hx => ⟨(h.il x hx).1, fun b' o n c e => ⟨((h.il x hx).2 b' o n c e).1, ((h.il x hx).2 b' o n c e).2.1⟩⟩, h.bel, h.hW, Nat.le_trans h.jn.lo (Nat.le_of_lt h.jn.blk.lt)⟩
theorem Kp.other (h : Kp W w wr jb b F d g a fv Bs Is) (ho : Only (fun k => k = kb) wr wx) (hW : W.heap.size ≤ kb) (hF : ¬ F kb) (hj : ¬ kb = jb) (hs : ∀ b' o n c, fv = .slice (some ⟨b', o, none⟩) n c → ¬ b' = kb) (hB : ∀ x ∈ Bs, ¬ x.1 = kb) (hI : ∀ x ∈ Is, ∀ b' o n c, x.1 = .slice (some ⟨b', o, none⟩) n c → ¬ b' = kb) : Kp W w wx jb b F d g a fv Bs Is :=
  ⟨h.jn.other ho hW hF hj hs, fun x hx => ⟨(h.bl x hx).1.only ho (hB x hx), Nat.lt_of_lt_of_le (h.bl x hx).2.1 ho.size, (h.bl x hx).2.2⟩, fun x hx => ⟨(h.il x hx).1.onlyF ho fun b' o n c e => hI x hx b' o n c e, fun b' o n c e => ⟨Nat.lt_of_lt_of_le ((h.il x hx).2 b' o n c e).1 ho.size, ((h.il x hx).2 b' o n c e).2⟩⟩, h.bel.trans (ho.below h.bel.size fun k hk => by rw [hk]; exact Nat.le_trans h.hW hW), h.hW⟩
/-- The list of what was put, apart from the journal. -/
structure Pv (wr : World) (B jb : Nat) (F : Nat → Prop) (fv sv : Value) (vs : List Value) : Prop where
  own : OwnV wr B sv vs
  sf : ∀ k, sv.ownBlock = some k → Safe wr F jb k
  fv : ∀ k, sv.ownBlock = some k → ∀ b' o n c, fv = .slice (some ⟨b', o, none⟩) n c → b' ≠ k
variable {B : Nat} {sv sv' v : Value} {vs : List Value}
theorem Pv.nil (wr : World) (B jb : Nat) (F : Nat → Prop) (fv : Value) : Pv wr B jb F fv (.slice none 0 0) [] := ⟨OwnV.nil wr B, fun k h => (by cases h), fun k h => (by cases h)⟩
theorem Pv.below (h : Pv wr B jb F fv sv vs) (hb : Below wr.heap.size wr wx) : Pv wx B jb F fv sv vs := ⟨h.own.below hb, fun k hk => (h.sf k hk).below hb, h.fv⟩
theorem Pv.put (h : Pv wr B jb F fv sv vs) (ho : Only (fun k => F k ∨ k = jb) wr wx) (hn : ∀ k, F' k → F k ∨ wr.heap.size ≤ k) (hs : Src fv fv') : Pv wx B jb F' fv' sv vs :=
  ⟨h.own.only ho fun k hk hF => hF.elim (h.sf k hk).2.1 (h.sf k hk).2.2, fun k hk => (h.sf k hk).next ho hn, fun k hk b' o n c e => by
    obtain ⟨o2, n2, c2, e2⟩ := hs b' o n c e
    exact h.fv k hk b' o2 n2 c2 e2⟩
theorem Pv.app (h : Pv wr B jb F fv sv vs) (hk : Kp W w wr jb b F d g a fv Bs Is) (hW : W.heap.size ≤ B) (hB : ∀ x ∈ Bs, x.1 < B) (hI : ∀ x ∈ Is, ∀ b' o n c, x.1 = .slice (some ⟨b', o, none⟩) n c → b' < B) (ho : OwnV wx B sv' (vs ++ [v])) (hg : wr.grownBy wx sv.ownBlock) (hr : sv'.ownBlock = sv.ownBlock ∨ sv'.ownBlock = some wr.heap.size) : Pv wx B jb F fv sv' (vs ++ [v]) ∧ Kp W w wx jb b F d g a fv Bs Is := by
  have hsz : wr.heap.size ≤ wx.heap.size := ((Only.refl (fun _ => True) wr).grown hg fun k _ => .inl trivial).size
  refine ⟨⟨ho, fun k e => ?_, fun k e b' o n c e2 => ?_⟩, ?_⟩
  · rcases hr with hr | hr
    · have := h.sf k (by rw [← hr]; exact e)
      exact ⟨Nat.lt_of_lt_of_le this.1 hsz, this.2⟩
    · rw [hr] at e
      injection e with e
      subst e
      have h1 := (ho.lt _ hr).2
      exact ⟨h1, fun hf => by have := (hk.jn.dv.lt _ hf).2; omega, by have := hk.jn.blk.lt; omega⟩
  · rcases hr with hr | hr
    · exact h.fv k (by rw [← hr]; exact e) b' o n c e2
    · rw [hr] at e
      injection e with e
      have := (hk.jn.sep b' o n c e2).2.2.2
      omega
  · cases hrow : sv.ownBlock with
    | none =>
      rw [hrow] at hg
      exact hk.below (grown_below hg (Nat.le_refl _) fun k e => by cases e)
    | some kb =>
      rw [hrow] at hg
      have hlt := h.own.lt kb hrow
      have hsf := h.sf kb hrow
      exact hk.other ((Only.refl (fun j => j = kb) wr).grown hg fun k e => .inl (by injection e with e; exact e.symm)) (by omega) hsf.2.1 hsf.2.2 (fun b' o n c e => h.fv kb hrow b' o n c e) (fun x hx => by have := hB x hx; omega) fun x hx b' o n c e => by have := hI x hx b' o n c e; omega
end
end Go.Proofs.YthlnmdihdcfphaaGreatDoor
