/- Gk: texts of elder seats turned: what the stage needs of them. Gl: texts of elder seats turned: what the stage needs of them. -/
import Derived.Test.YthlnmdihdcfphaaGreatDoorMb
import Derived.Test.YthlnmdihdcfphaaGreatDoorMa
import Derived.BigQuiet
import Derived.Deep.QuietTactic
import Derived.RegionTactic
namespace Go.Proofs.YthlnmdihdcfphaaGreatDoor
set_option linter.unusedSimpArgs false
set_option linter.unusedVariables false
open Go.RowKit

theorem It.split (x : It) (sv : Value) : x.cells sv = (.int .i64 x.mark.1 :: .int .i64 x.mark.2 :: .int .i64 x.blk.kind :: .int .i64 x.blk.id :: (u8s x.blk.page ++ [.int .i64 x.blk.off])) ++ sv :: (.int .i64 x.blk.prev :: i64s x.blk.heads) := by simp [It.cells, Bk.cells]
theorem Own.fresh {w : World} {B : Nat} {sv : Value} {l : List Int} (h : Own w B sv l) : Fresh B sv := fun b o n c e => (h.lt b (by rw [e]; rfl)).1
end Go.Proofs.YthlnmdihdcfphaaGreatDoor
namespace Go.Proofs.YthlnmdihdcfphaaGreatDoor
set_option linter.unusedSimpArgs false
set_option linter.unusedVariables false
open Go.RowKit

/-- What the reference's Lay tells. -/
def layR (n : Int) (L : List It) : St := if mayBe L then lay2 n L else ([], [])
theorem Blk.setB {w : World} {b c : Nat} {l : List Value} (h : Blk w b l) {i : Nat} {v : Value} (hne : b ≠ c) : Blk (w.setCell ⟨c, i, none⟩ v) b l := h.setOther hne v
theorem set_bel {B : Nat} {w w' : World} {b i : Nat} {v : Value} (h : Below B w w') (hb : B ≤ b) (hB : B ≤ w.heap.size) : Below B w (w'.setCell ⟨b, i, none⟩ v) := h.trans (((Only.refl (fun k => k = b) w').setCell (p := ⟨b, i, none⟩) (.inl rfl) v).below (Nat.le_trans hB h.size) fun k hk => by omega)
theorem ownsRow_only {w w' : World} {B e s n t : Nat} {sv : Value} {xs : List Value} (h : w.ownsRow B e s sv n xs) (ho : Only (fun k => k = t) w w') (ht : t < B) : w'.ownsRow B e s sv n xs := by
  refine ⟨h.1, ?_⟩
  rcases h.2 with hn | ⟨g, cap, cur, e, hB, hg, r⟩
  · exact .inl hn
  · exact .inr ⟨g, cap, cur, e, hB, (ho.block g (Array.getElem?_eq_some_iff.1 hg).1 (by omega)).trans hg, r⟩
theorem OwnS.only {w w' : World} {B t : Nat} {sv : Value} {l : List (List Int)} (h : OwnS w B sv l) (ho : Only (fun k => k = t) w w') (ht : t < B) : OwnS w' B sv l := ⟨ownsRow_only h.row ho ht, h.all⟩
theorem OwnN.onlyN {w w' : World} {B t : Nat} {sv : Value} {l : List Int} (h : OwnN w B sv l) (ho : Only (fun k => k = t) w w') (ht : t < B) : OwnN w' B sv l := ownsRow_only h ho ht
/-- The struct that the reference's Lay fills, in block b, and its lists; block r is its result. -/
structure RL (w wr : World) (r b : Nat) (s7 s8 : Value) (st : St) : Prop where
  v : Blk wr b [s7, s8, .bool true]
  rv : Blk wr r [.slice none 0 0, .slice none 0 0, .bool false]
  s : OwnS wr (b + 1) s7 st.1
  a : OwnN wr (b + 1) s8 st.2
  bel : Below w.heap.size w wr
  lo : w.heap.size ≤ r
  rb : r < b
theorem RL.below {w wr w2 : World} {r b : Nat} {s7 s8 : Value} {st : St} (h : RL w wr r b s7 s8 st) (hb : Below wr.heap.size wr w2) : RL w w2 r b s7 s8 st :=
  ⟨h.v.below hb h.v.lt, h.rv.below hb h.rv.lt, h.s.below hb, h.a.below hb, stay h.bel hb, h.lo, h.rb⟩
theorem RL.size {w wr : World} {r b : Nat} {s7 s8 : Value} {st : St} (h : RL w wr r b s7 s8 st) : b + 1 ≤ wr.heap.size := h.v.lt
theorem RL.secs {w wr w2 : World} {r b : Nat} {s7 s8 t7 : Value} {st : St} {l : List (List Int)} (h : RL w wr r b s7 s8 st) (ho : OwnS w2 (b + 1) t7 l) (hg : wr.grownBy w2 s7.ownBlock) : RL w (w2.setCell ⟨b, 0, none⟩ t7) r b t7 s8 (l, st.2) := by
  have hr : ∀ k, s7.ownBlock = some k → b + 1 ≤ k := fun k hk => (h.s.lt k hk).1
  have h1 := h.v.grown hg fun k hk => by have := hr k hk; omega
  have h2 := h.rv.grown hg fun k hk => by have := hr k hk; have := h.rb; omega
  refine ⟨h1.set 0 t7, h2.setB (by have := h.rb; omega), ⟨ownsRow_setCell_below ho.row (Nat.lt_succ_self b) t7, ho.all⟩, ownsRow_setCell_below (h.a.keep hg (ownsRow_type h.s.row) (by decide)) (Nat.lt_succ_self b) t7, ?_, h.lo, h.rb⟩
  exact set_bel (h.bel.trans (grown_below hg h.bel.size fun k hk => by have := hr k hk; have := h.lo; have := h.rb; omega)) (by have := h.lo; have := h.rb; omega) (Nat.le_refl _)
theorem RL.ats {w wr w2 : World} {r b : Nat} {s7 s8 t8 : Value} {st : St} {l : List Int} (h : RL w wr r b s7 s8 st) (ho : OwnN w2 (b + 1) t8 l) (hg : wr.grownBy w2 s8.ownBlock) : RL w (w2.setCell ⟨b, 1, none⟩ t8) r b s7 t8 (st.1, l) := by
  have hr : ∀ k, s8.ownBlock = some k → b + 1 ≤ k := fun k hk => (h.a.lt k hk).1
  have h1 := h.v.grown hg fun k hk => by have := hr k hk; omega
  have h2 := h.rv.grown hg fun k hk => by have := hr k hk; have := h.rb; omega
  refine ⟨h1.set 1 t8, h2.setB (by have := h.rb; omega), ⟨ownsRow_setCell_below (h.s.keep hg (ownsRow_type h.a) (by decide)).row (Nat.lt_succ_self b) t8, h.s.all⟩, ownsRow_setCell_below ho (Nat.lt_succ_self b) t8, ?_, h.lo, h.rb⟩
  exact set_bel (h.bel.trans (grown_below hg h.bel.size fun k hk => by have := hr k hk; have := h.lo; have := h.rb; omega)) (by have := h.lo; have := h.rb; omega) (Nat.le_refl _)
/-- The summary that the reference's Lay fills, in block u. -/
structure RSm (wA wr : World) (u : Nat) (q : Int) (mo : Bool) (sv : Value) (ms : List Mk) : Prop where
  v : Blk wr u [.int .u32 q, .bool mo, sv, .int .i64 0]
  o : OwnM wr (u + 1) sv ms
  bel : Below wA.heap.size wA wr
  lo : wA.heap.size ≤ u
theorem RSm.below {wA wr w2 : World} {u : Nat} {q : Int} {mo : Bool} {sv : Value} {ms : List Mk} (h : RSm wA wr u q mo sv ms) (hb : Below wr.heap.size wr w2) : RSm wA w2 u q mo sv ms :=
  ⟨h.v.below hb h.v.lt, h.o.below hb, stay h.bel hb, h.lo⟩
theorem RSm.add {wA wr w2 : World} {u : Nat} {q : Int} {mo : Bool} {sv sv' : Value} {ms ms' : List Mk} (h : RSm wA wr u q mo sv ms) (ho : OwnM w2 (u + 1) sv' ms') (hB : Below (u + 1) wr w2) : RSm wA (w2.setCell ⟨u, 2, none⟩ sv') u q mo sv' ms' :=
  ⟨(h.v.below hB (Nat.lt_succ_self u)).set 2 sv', ownsRow_setCell_below ho (Nat.lt_succ_self u) sv', set_bel (h.bel.trans (hB.mono (by have := h.lo; omega))) h.lo (Nat.le_refl _), h.lo⟩
theorem MarksAt.lt {w : World} {mv : Value} {l : List Mk} (h : MarksAt w mv l) (hl : 0 < l.length) {b o n c : Nat} (e : mv = .slice (some ⟨b, o, none⟩) n c) : b < w.heap.size := by
  obtain ⟨b', o', cap, e2, hc⟩ := h.has hl
  rw [e] at e2
  cases e2
  exact block_lt_of_cell (hc 0 l[0] (by simp)).1
/-- The program's, in the same words. -/
theorem lay_alike (l : List (It × Value)) (L : List It) (hL : l.map (·.1) = L) (n : Int) (hn : Seq32 n) (sv : Value) (hlen : l.length < 100000) (w : World) (h : ItemsAt w sv l) : Calls Tryz.prog 59 #[.int .u32 n, sv] w fun e w' => ∃ s7 s8, e = .returned (.tuple #[s7, s8, .int .i64 (if mayBe L then 0 else 1)]) ∧ Two w w' s7 s8 (layR n L) := by
  cases hm : mayBe L
  · refine (lay_no l L hL hm n sv hlen w h).mono ?_
    rintro e w' ⟨rfl, hb⟩
    refine ⟨_, _, rfl, ?_⟩
    unfold layR
    rw [hm]
    exact ⟨OwnS.nil _ _, OwnN.nil _ _, hb⟩
  · refine (lay_yes l L hL hm n hn sv w h).mono ?_
    rintro e w' ⟨s7, s8, rfl, ht⟩
    refine ⟨_, _, rfl, ?_⟩
    unfold layR
    rw [hm]
    exact ht

end Go.Proofs.YthlnmdihdcfphaaGreatDoor
