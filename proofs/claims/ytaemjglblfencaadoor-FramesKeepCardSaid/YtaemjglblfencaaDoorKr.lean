/- What FramesKeep keeps beside frames, in memory. -/
import Derived.Test.YtaemjglblfencaaDoorKq
namespace Go.Proofs.YtaemjglblfencaaDoor
set_option linter.unusedSimpArgs false
set_option linter.unusedVariables false
open Go.RowKit Kl

abbrev GK (W : World) (gb gn gh xb : Nat) (q : Nat) : Prop := q < W.heap.size ∨ q = gb ∨ q = gn ∨ q = gh ∨ q = xb
structure Kx (W w : World) (L : Lay) (gb gn gh xb : Nat) (s : Fs) (z : Kz) : Prop where
  fz : Fz W (GK W gb gn gh xb) w L s
  b : Blk w gb (z.bs.flatMap pgE)
  n : Blk w gn (z.ns.flatMap pgE)
  h : Blk w gh (bools z.hs)
  d : gb ≠ gn ∧ gb ≠ gh ∧ gn ≠ gh
  o : W.heap.size ≤ gb ∧ W.heap.size ≤ gn ∧ W.heap.size ≤ gh
/-- Beside a step's own variable. -/
structure Ky (W w : World) (L : Lay) (gb gn gh xb : Nat) (s : Fs) (z : Kz) (cs : List Value) : Prop where
  k : Kx W w L gb gn gh xb s z
  x : Blk w xb cs
  ne : xb ≠ gb ∧ xb ≠ gn ∧ xb ≠ gh
  ox : W.heap.size ≤ xb
section
variable {W w w' : World} {L : Lay} {gb gn gh xb : Nat} {s s' : Fs} {z z' : Kz} {cs : List Value} {B : Nat}
theorem Kx.below (h : Kx W w L gb gn gh xb s z) (hb : Below w.heap.size w w') : Kx W w' L gb gn gh xb s z := ⟨h.fz.below hb, h.b.below hb h.b.lt, h.n.below hb h.n.lt, h.h.below hb h.h.lt, h.d, h.o⟩
theorem Ky.below (h : Ky W w L gb gn gh xb s z cs) (hb : Below w.heap.size w w') : Ky W w' L gb gn gh xb s z cs := ⟨h.k.below hb, h.x.below hb h.x.lt, h.ne, h.ox⟩
theorem Ky.call (h : Ky W w L gb gn gh xb s z cs) (hz : Fz W (GK W gb gn gh xb) w' L s') (ho : Only (fun q => ¬ GK W gb gn gh xb q) w w') : Ky W w' L gb gn gh xb s' z cs :=
  ⟨⟨hz, h.k.b.only ho (fun q => q (.inr (.inl rfl))), h.k.n.only ho (fun q => q (.inr (.inr (.inl rfl)))), h.k.h.only ho (fun q => q (.inr (.inr (.inr (.inl rfl))))), h.k.d, h.k.o⟩, h.x.only ho (fun q => q (.inr (.inr (.inr (.inr rfl))))), h.ne, h.ox⟩
theorem Kx.box (h : Kx W w L gb gn gh gb s z) (hok : s.Ok B) (hb : Below w.heap.size w w') (hx : Blk w' xb cs) (hl : w.heap.size ≤ xb) : Ky W w' L gb gn gh xb s z cs := by
  have h1 := h.b.lt
  have h2 := h.n.lt
  have h3 := h.h.lt
  have h4 := hx.lt
  have h5 := h.fz.bel.size
  refine ⟨⟨h.fz.add hok hb (fun k hk => ?_) (fun k hk => ?_), h.b.below hb h1, h.n.below hb h2, h.h.below hb h3, h.d, h.o⟩, hx, by omega, by omega⟩
  · rcases hk with hk | hk | hk | hk | hk <;> simp [GK, hk]
  · rcases hk with hk | hk | hk | hk | hk
    · exact .inl (.inl hk)
    · exact .inl (.inr (.inl hk))
    · exact .inl (.inr (.inr (.inl hk)))
    · exact .inl (.inr (.inr (.inr (.inl hk))))
    · exact .inr (by omega)
theorem Ky.back (h : Ky W w L gb gn gh xb s z cs) : Kx W w L gb gn gh gb s z :=
  ⟨h.k.fz.less (fun k hk => by rcases hk with hk | hk | hk | hk | hk <;> simp [GK, hk]) (fun k hk => .inl hk), h.k.b, h.k.n, h.k.h, h.k.d, h.k.o⟩
theorem Ky.turn (h : Ky W w L gb gn gh xb s z cs) (ho : Only (fun q => q = gb ∨ q = gn ∨ q = gh) w w') (hb : Blk w' gb (z'.bs.flatMap pgE)) (hn : Blk w' gn (z'.ns.flatMap pgE)) (hh : Blk w' gh (bools z'.hs)) : Ky W w' L gb gn gh xb s z' cs := by
  obtain ⟨o1, o2, o3⟩ := h.k.o
  obtain ⟨n1, n2, n3⟩ := h.ne
  refine ⟨⟨h.k.fz.only ho fun q hq => ?_, hb, hn, hh, h.k.d, h.k.o⟩, h.x.only ho (by rintro (e | e | e) <;> omega), h.ne, h.ox⟩
  rcases hq with e | e | e
  · exact ⟨.inr (.inl e), by omega⟩
  · exact ⟨.inr (.inr (.inl e)), by omega⟩
  · exact ⟨.inr (.inr (.inr (.inl e))), by omega⟩
/-- A page out of a row of them. -/
theorem page_at {g k : Nat} {l : List (List Int)} {x : List Int} (h : Blk w g (l.flatMap pgE)) (hk : l[k]? = some x) (hx : x.length = 32) : At w g (k * 32) (u8s x).toArray := h.sub (k * 32) fun j hj => by
  have hj' : j < 32 := by simpa [hx] using hj
  rw [fm_at pgE_len hk hj', pgE_eq hx]
  simp
theorem hold_fst {i p : Int} {l : List Int} (hp : pageKey p = true) : (s.hold i p l).1 = s.may i p := by unfold Fs.hold; rw [if_pos hp]
theorem hold_snd {i p : Int} {l : List Int} (hm : s.may i p = false) : (s.hold i p l).2 = s := by
  unfold Fs.hold
  split
  · unfold Fs.put; rw [hm, if_neg (by simp)]
  · rfl
theorem pageKey8 {p : Nat} (h : p < 8) : pageKey p = true := by simp [pageKey]; omega
end

end Go.Proofs.YtaemjglblfencaaDoor
