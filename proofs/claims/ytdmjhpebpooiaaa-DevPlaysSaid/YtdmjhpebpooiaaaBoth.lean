/- The device and the document's own, side by side, as a statement holds them. -/
import Derived.Test.YtdmjhpebpooiaaaRflush
import Derived.Test.YtdmjhpebpooiaaaWakes
namespace Go.Proofs.Ytdmjhpebpooiaaa
open Go.RowKit
def Rv (W w : World) (q : Nat) (G : Nat → Prop) (d : D) : Prop := (∃ sb lv, G = rfoot q sb lv ∧ RefIs w W.heap.size q sb lv d) ∧ Below W.heap.size W w
theorem Rv.lt {W w : World} {q : Nat} {G : Nat → Prop} {d : D} (h : Rv W w q G d) : ∀ k, G k → W.heap.size ≤ k ∧ k < w.heap.size := by
  obtain ⟨⟨sb, lv, rfl, h⟩, _⟩ := h
  exact h.foot_lt
theorem Rv.go {W w w' : World} {q : Nat} {G : Nat → Prop} {d : D} (h : Rv W w q G d) {S : Nat → Prop} (ho : Only S w w') (hS : ∀ k, S k → W.heap.size ≤ k) (hG : ∀ k, G k → ¬ S k) : Rv W w' q G d := by
  obtain ⟨⟨sb, lv, rfl, hr⟩, hB⟩ := h
  exact ⟨⟨sb, lv, rfl, hr.only ho hG⟩, hB.trans (ho.below hB.size hS)⟩
/-- Two devices apart. -/
structure Both (W w : World) (b : Nat) (F : Nat → Prop) (q : Nat) (G : Nat → Prop) (d r : D) : Prop where
  dv : Dv W w b F d
  rv : Rv W w q G r
  dj : ∀ k, F k → ¬ G k
theorem Both.below {W w w' : World} {b q : Nat} {F G : Nat → Prop} {d r : D} (h : Both W w b F q G d r) (hb : Below w.heap.size w w') : Both W w' b F q G d r :=
  ⟨h.dv.below hb, h.rv.go (S := fun _ => False) (Only.of_below hb) (fun _ h => h.elim) (fun _ _ h => h), h.dj⟩
theorem Both.drew {W w : World} {b q : Nat} {F G : Nat → Prop} {d r : D} (h : Both W w b F q G d r) : Both W w.drew b F q G d r := h.below (Below.refl _ _).drew
theorem Both.dev {W w w' : World} {b q : Nat} {F F' G : Nat → Prop} {d r d' : D} (h : Both W w b F q G d r) (hd : Dv W w' b F' d') (ho : Only F w w') (hn : ∀ k, F' k → F k ∨ w.heap.size ≤ k) : Both W w' b F' q G d' r :=
  ⟨hd, h.rv.go ho (fun k hk => (h.dv.lt k hk).1) (fun k hg hf => h.dj k hf hg), fun k hf hg => by
    rcases hn k hf with h1 | h1
    · exact h.dj k h1 hg
    · have := (h.rv.lt k hg).2; omega⟩
def RAfter (W w : World) (q : Nat) (G : Nat → Prop) (r : Value) (d : D) (e : Ending) (w' : World) : Prop := ∃ G', e = .returned r ∧ Rv W w' q G' d ∧ Only G w w' ∧ ∀ k, G' k → G k ∨ w.heap.size ≤ k
theorem Both.ref {W w w' : World} {b q : Nat} {F G G' : Nat → Prop} {d r r' : D} (h : Both W w b F q G d r) (hr : Rv W w' q G' r') (ho : Only G w w') (hn : ∀ k, G' k → G k ∨ w.heap.size ≤ k) : Both W w' b F q G' d r' :=
  ⟨h.dv.go ho (fun k hk => (h.rv.lt k hk).1) (fun k hf hg => h.dj k hf hg), hr, fun k hf hg => by
    rcases hn k hg with h1 | h1
    · exact h.dj k hf h1
    · have := (h.dv.lt k hf).2; omega⟩
theorem RAfter.of {W w : World} {q sb : Nat} {lv r : Value} {d : D} {e : Ending} {w' : World} (hB : Below W.heap.size W w) (hf : ∀ k, rfoot q sb lv k → W.heap.size ≤ k) (h : RDid w W.heap.size q sb lv r d e w') : RAfter W w q (rfoot q sb lv) r d e w' := by
  obtain ⟨lv', rfl, hd, ho, hl⟩ := h
  refine ⟨rfoot q sb lv', rfl, ⟨⟨sb, lv', rfl, hd⟩, hB.trans (ho.below hB.size hf)⟩, ho, ?_⟩
  rintro k (rfl | rfl | hk)
  · exact .inl (.inl rfl)
  · exact .inl (.inr (.inl rfl))
  · rcases hl k hk with h | h
    · exact .inl (.inr (.inr h))
    · exact .inr h
theorem rv_write {W w : World} {q : Nat} {G : Nat → Prop} {d : D} (h : Rv W w q G d) (hT : d.T ≤ 1000000) (hLn : d.L.length ≤ 1000000) (i : Int) (cs : Array Value) (hs : Sec cs) :
    Calls Try.prog 16 #[.pointer (some ⟨q, 0, none⟩), .int .i64 i, .agg cs] w (RAfter W w q G (.int .i64 (d.writeE i)) (d.write i cs)) := by
  obtain ⟨⟨sb, lv, rfl, hd⟩, hB⟩ := h
  cases hh : d.has i
  · have e1 : d.writeE i = 1 := by unfold D.writeE; rw [hh]; rfl
    have e2 : d.write i cs = d := by unfold D.write; rw [hh]; rfl
    rw [e1, e2]
    refine (rwrite_no w W.heap.size q sb lv d hd i hh cs).mono ?_
    rintro e w' ⟨rfl, hb⟩
    exact ⟨_, rfl, ⟨⟨sb, lv, rfl, hd.below hb⟩, hB.trans (hb.mono hB.size)⟩, Only.of_below hb, fun _ h => .inl h⟩
  · have e1 : d.writeE i = d.flushE := by unfold D.writeE D.flushE; rw [if_pos hh]
    rw [e1]
    exact (rwrite_yes w W.heap.size q sb lv d hd hT hLn hB.size i hh cs hs).mono fun e w' h => h.elim fun lv' h' => RAfter.of hB (fun k hk => (hd.foot_lt k hk).1) ⟨lv', h'⟩
theorem rv_flush {W w : World} {q : Nat} {G : Nat → Prop} {d : D} (h : Rv W w q G d) (hT : d.T ≤ 1000000) (hLn : d.L.length ≤ 1000000) :
    Calls Try.prog 20 #[.pointer (some ⟨q, 0, none⟩)] w (RAfter W w q G (.int .i64 d.flushE) d.flush) := by
  obtain ⟨⟨sb, lv, rfl, hd⟩, hB⟩ := h
  exact (rflush_any w W.heap.size q sb lv d hd hT hLn).mono fun e w' h => RAfter.of hB (fun k hk => (hd.foot_lt k hk).1) h
theorem rv_crash {W w : World} {q : Nat} {G : Nat → Prop} {d : D} (h : Rv W w q G d) (hLn : d.L.length ≤ 1000000) (kv : Value) (l : List Int) (hv : BytesAt w kv l) (hkeep : ∀ wr, Only G w wr → BytesAt wr kv l) :
    Calls Try.prog 22 #[.pointer (some ⟨q, 0, none⟩), kv] w (RAfter W w q G (.tuple #[]) (d.crash l)) := by
  obtain ⟨⟨sb, lv, rfl, hd⟩, hB⟩ := h
  exact (rcrash_any w W.heap.size q sb lv d hd hLn kv l hv hkeep).mono fun e w' h => RAfter.of hB (fun k hk => (hd.foot_lt k hk).1) h
theorem rv_read {W w : World} {q : Nat} {G : Nat → Prop} {d : D} (h : Rv W w q G d) (hLn : d.L.length ≤ 1000000) (i : Int) :
    Calls Try.prog 18 #[.pointer (some ⟨q, 0, none⟩), .int .i64 i] w fun e w' => e = .returned (.tuple #[.agg (d.read i), .int .i64 (d.readE i)]) ∧ Below w.heap.size w w' := by
  obtain ⟨⟨sb, lv, rfl, hd⟩, hB⟩ := h
  exact rread_any w W.heap.size q sb lv d hd hLn i
theorem rv_new (W w : World) (hB : Below W.heap.size W w) (n : Nat) (hn : 1 ≤ n ∧ n ≤ 1024) : Calls Try.prog 13 #[.int .i64 n] w fun e w' => ∃ q G, e = .returned (.tuple #[.pointer (some ⟨q, 0, none⟩), .int .i64 0]) ∧ Rv W w' q G (newD n) ∧ Below w.heap.size w w' ∧ ∀ k, G k → w.heap.size ≤ k := by
  refine (rnew_any W.heap.size n hn w hB.size).mono ?_
  rintro e w' ⟨q, sb, rfl, hr, hb, h1, h2⟩
  refine ⟨q, rfoot q sb (.slice none 0 0), rfl, ⟨⟨sb, _, rfl, hr⟩, hB.trans (hb.mono hB.size)⟩, hb, ?_⟩
  rintro k (rfl | rfl | hk)
  · exact h1
  · exact h2
  · simp [Value.ownBlock] at hk
/-- The document's failure set in place. -/
theorem Rv.setF {W w : World} {q : Nat} {G : Nat → Prop} {d : D} (h : Rv W w q G d) (n : Int) (hn : I64 n) : Rv W (w.setCell ⟨q, 2, none⟩ (.int .i64 n)) q G { d with F := n } ∧ Only G w (w.setCell ⟨q, 2, none⟩ (.int .i64 n)) ∧ w.cell? ⟨q, 2, none⟩ = some (.int .i64 d.F) ∧ w.frozen? ⟨q, 2, none⟩ = false := by
  obtain ⟨⟨sb, lv, rfl, hd⟩, hB⟩ := h
  have ho : Only (rfoot q sb lv) w (w.setCell ⟨q, 2, none⟩ (.int .i64 n)) := (Only.refl _ _).setCell (.inl (.inl rfl)) _
  exact ⟨⟨⟨sb, lv, rfl, hd.setF hn⟩, hB.trans (ho.below hB.size fun k hk => (hd.foot_lt k hk).1)⟩, ho, hd.blk.cell rfl, hd.blk.frozen 2⟩
/-- What the document's device holds, field by field. -/
theorem Rv.fields {W w : World} {q : Nat} {G : Nat → Prop} {d : D} (h : Rv W w q G d) : ∃ (sb : Nat) (la : Option Addr) (lc : Nat), Blk w q [.slice (some ⟨sb, 0, none⟩) d.S.length d.S.length, .slice la d.L.length lc, .int .i64 d.F, .int .i64 d.T] := by
  obtain ⟨⟨sb, lv, rfl, hd⟩, hB⟩ := h
  obtain ⟨a, c, e⟩ := hd.lvShape
  have := hd.blk
  rw [e] at this
  exact ⟨sb, a, c, this⟩
theorem D.read_sec {W w : World} {b : Nat} {F : Nat → Prop} {d : D} (h : Dv W w b F d) (i : Int) : Sec (d.read i) := by
  unfold D.read
  split
  · rw [List.getD_eq_getElem?_getD]
    cases hx : (app d.S d.L)[i.toNat]? with
    | none => exact fillA_sec 0
    | some s => exact h.secs s (List.mem_of_getElem? hx)
  · exact fillA_sec 0
end Go.Proofs.Ytdmjhpebpooiaaa
