/- The document's own device: where it lies in memory; the contracts of its small functions, of its New and its Write. -/
import Derived.Test.YtdmjhpebpooiaaaCopy
namespace Go.Proofs.Ytdmjhpebpooiaaa
open Go.RowKit

structure RefIs (w : World) (base : Nat) (b sb : Nat) (lv : Value) (d : D) : Prop where
  blk : Blk w b [.slice (some ⟨sb, 0, none⟩) d.S.length d.S.length, lv, .int .i64 d.F, .int .i64 d.T]
  sec : Blk w sb (flat d.S)
  own : w.ownsRow base 72 65 lv d.L.length (flatL d.L)
  hS : ∀ s ∈ d.S, Sec s
  hL : ∀ p ∈ d.L, Sec p.2 ∧ p.1 < d.S.length
  n1 : b ≠ sb
  o1 : lv.ownBlock ≠ some b
  o2 : lv.ownBlock ≠ some sb
  b1 : base ≤ b
  b2 : base ≤ sb
  len : d.S.length ≤ 1024
  f : I64 d.F
def rfoot (b sb : Nat) (lv : Value) (k : Nat) : Prop := k = b ∨ k = sb ∨ lv.ownBlock = some k

theorem ownsRow_of' {w w' : World} {base e : Nat} {v : Value} {n : Nat} {xs : List Value} (h : w.ownsRow base e 65 v n xs) (hb : ∀ k, v.ownBlock = some k → w'.heap[k]? = w.heap[k]?) : w'.ownsRow base e 65 v n xs := by
  refine ⟨h.1, ?_⟩
  rcases h.2 with hn | ⟨g, cap, cur, e, hb', hg, r⟩
  · exact .inl hn
  · exact .inr ⟨g, cap, cur, e, hb', (hb g (by rw [e]; rfl)).trans hg, r⟩
theorem RefIs.lvShape {w : World} {base b sb : Nat} {lv : Value} {d : D} (h : RefIs w base b sb lv d) : ∃ a cap, lv = .slice a d.L.length cap := by
  rcases h.own.2 with ⟨e, e2⟩ | ⟨g, cap, cur, e, _⟩
  · exact ⟨none, 0, by rw [e, e2]⟩
  · exact ⟨_, _, e⟩
theorem RefIs.foot_lt {w : World} {base b sb : Nat} {lv : Value} {d : D} (h : RefIs w base b sb lv d) : ∀ k, rfoot b sb lv k → base ≤ k ∧ k < w.heap.size := by
  rintro k (rfl | rfl | hk)
  · exact ⟨h.b1, h.blk.lt⟩
  · exact ⟨h.b2, h.sec.lt⟩
  · exact h.own.lt k hk
theorem RefIs.of {w w' : World} {base b sb : Nat} {lv : Value} {d : D} (h : RefIs w base b sb lv d) (hk : ∀ k, rfoot b sb lv k → w'.heap[k]? = w.heap[k]?) : RefIs w' base b sb lv d :=
  { h with blk := h.blk.of_block (hk _ (.inl rfl)), sec := h.sec.of_block (hk _ (.inr (.inl rfl))), own := ownsRow_of' h.own fun k e => hk k (.inr (.inr e)) }
theorem RefIs.only {w w' : World} {base b sb : Nat} {lv : Value} {d : D} (h : RefIs w base b sb lv d) {S : Nat → Prop} (ho : Only S w w') (hS : ∀ k, rfoot b sb lv k → ¬ S k) : RefIs w' base b sb lv d :=
  h.of fun k hk => ho.block k (h.foot_lt k hk).2 (hS k hk)
/-- A field of the receiver set. -/
theorem RefIs.setF {w : World} {base b sb : Nat} {lv : Value} {d : D} (h : RefIs w base b sb lv d) {f : Int} (hf : I64 f) : RefIs (w.setCell ⟨b, 2, none⟩ (.int .i64 f)) base b sb lv { d with F := f } :=
  { h with blk := h.blk.set 2 (.int .i64 f), sec := h.sec.setOther h.n1.symm _, f := hf
           own := ownsRow_of' h.own fun k hk => heap_setCell_other w _ _ _ fun e => h.o1 (by rw [hk, e]) }
theorem RefIs.setT {w : World} {base b sb : Nat} {lv : Value} {d : D} (h : RefIs w base b sb lv d) (t : Nat) : RefIs (w.setCell ⟨b, 3, none⟩ (.int .i64 t)) base b sb lv { d with T := t } :=
  { h with blk := h.blk.set 3 (.int .i64 t), sec := h.sec.setOther h.n1.symm _
           own := ownsRow_of' h.own fun k hk => heap_setCell_other w _ _ _ fun e => h.o1 (by rw [hk, e]) }

theorem rhas_any (w : World) (base b sb : Nat) (lv : Value) (d : D) (h : RefIs w base b sb lv d) (i : Int) : Calls Try.prog 29 #[.pointer (some ⟨b, 0, none⟩), .int .i64 i] w fun e w' => e = .returned (.bool (d.has i)) ∧ w = w' := by
  have c0 : w.cell? ⟨b, 0, none⟩ = some (.slice (some ⟨sb, 0, none⟩) d.S.length d.S.length) := h.blk.cell rfl
  have hl := h.len
  unfold D.has
  clear h
  generalize d.S.length = n at *
  by_cases h0 : 0 ≤ i
  · by_cases h1 : i < n
    · rw [show (decide (0 ≤ i) && decide (i < n)) = true by simp [h0, h1]]
      go_enter Try.func29, Try.ntmps29
      go_wp2
      go_ret
      exact ⟨rfl, rfl⟩
    · rw [show (decide (0 ≤ i) && decide (i < n)) = false by simp [h1]]
      go_enter Try.func29, Try.ntmps29
      go_wp2
      go_ret
      exact ⟨rfl, rfl⟩
  · rw [show (decide (0 ≤ i) && decide (i < n)) = false by simp [h0]]
    go_enter Try.func29, Try.ntmps29
    go_wp2
    go_ret
    exact ⟨rfl, rfl⟩

/-- What fails leaves: as ask does. -/
theorem rfails_any (w : World) (base b sb : Nat) (lv : Value) (d : D) (h : RefIs w base b sb lv d) (hT : d.T ≤ 1000000) : Calls Try.prog 30 #[.pointer (some ⟨b, 0, none⟩)] w fun e w' => e = .returned (.bool (decide (d.F = 0))) ∧ RefIs w' base b sb lv d.ask ∧ Only (rfoot b sb lv) w w' := by
  have c2 : w.cell? ⟨b, 2, none⟩ = some (.int .i64 d.F) := h.blk.cell rfl
  have c3 : w.cell? ⟨b, 3, none⟩ = some (.int .i64 d.T) := h.blk.cell rfl
  have f2 := h.blk.frozen 2
  have f3 := h.blk.frozen 3
  have hI := h.f
  obtain ⟨hI1, hI2⟩ := hI
  unfold D.ask
  by_cases h0 : d.F = 0
  · rw [if_pos h0]
    have HD := Lib.hid (h.setF (f := -1) ⟨by decide, by decide⟩)
    have HO := Lib.hid (show Only (rfoot b sb lv) w (w.setCell ⟨b, 2, none⟩ (.int .i64 (-1))) from (Only.refl _ _).setCell (.inl (.inl rfl)) _)
    rw [h0] at c2
    rw [show decide (d.F = 0) = true by simp [h0]]
    clear h h0 hI1 hI2
    go_enter Try.func30, Try.ntmps30
    go_wp2
    go_ret
    exact ⟨rfl, HD.out, HO.out⟩
  · rw [if_neg h0, show decide (d.F = 0) = false by simp [h0]]
    by_cases hn : d.F < 0
    · rw [nextF_neg d hn]
      have HD := Lib.hid (h.setT (d.T + 1))
      have HO := Lib.hid (show Only (rfoot b sb lv) w (w.setCell ⟨b, 3, none⟩ (.int .i64 ((d.T + 1 : Nat) : Int))) from (Only.refl _ _).setCell (.inl (.inl rfl)) _)
      have e1 : (d.F == 0) = false := beq_eq_false_iff_ne.2 h0
      have e2 : ¬ 0 < d.F := by omega
      clear h h0
      go_enter Try.func30, Try.ntmps30
      go_wp2
      go_ret
      exact ⟨rfl, HD.out, HO.out⟩
    · rw [nextF_eq d hn]
      have HD := Lib.hid ((h.setF (f := d.F - 1) ⟨by omega, by omega⟩).setT (d.T + 1))
      have HO := Lib.hid (show Only (rfoot b sb lv) w ((w.setCell ⟨b, 2, none⟩ (.int .i64 (d.F - 1))).setCell ⟨b, 3, none⟩ (.int .i64 ((d.T + 1 : Nat) : Int))) from ((Only.refl _ _).setCell (.inl (.inl rfl)) _).setCell (.inl (.inl rfl)) _)
      have e1 : (d.F == 0) = false := beq_eq_false_iff_ne.2 h0
      have e2 : 0 < d.F := by omega
      clear h h0 hn
      go_enter Try.func30, Try.ntmps30
      go_wp2
      go_ret
      exact ⟨rfl, HD.out, HO.out⟩

theorem rnew_no (n : Int) (hn : n < 1 ∨ 1024 < n) (w : World) : Calls Try.prog 13 #[.int .i64 n] w fun e w' => e = .returned (.tuple #[.pointer none, .int .i64 1]) ∧ w = w' := by
  rcases hn with hn | hn
  · go_enter Try.func13, Try.ntmps13
    go_wp2_with fail
    go_ret2
    exact ⟨rfl, rfl⟩
  · by_cases h1 : n < 1
    · omega
    · go_enter Try.func13, Try.ntmps13
      go_wp2_with fail
      go_ret2
      exact ⟨rfl, rfl⟩
def RMade (base : Nat) (w : World) (n : Nat) (e : Ending) (w' : World) : Prop := ∃ b sb, e = .returned (.tuple #[.pointer (some ⟨b, 0, none⟩), .int .i64 0]) ∧ RefIs w' base b sb (.slice none 0 0) (newD n) ∧ Below w.heap.size w w' ∧ w.heap.size ≤ b ∧ w.heap.size ≤ sb
theorem rnewD_at (w : World) (n : Nat) (hn : n ≤ 1024) (b sb base : Nat) (h1 : b ≠ sb) (g1 : base ≤ b) (g2 : base ≤ sb)
    (hb : Blk w b [.slice (some ⟨sb, 0, none⟩) n n, .slice none 0 0, .int .i64 (-1), .int .i64 0]) (hs : Blk w sb (madeCells (fillA 0) (n * 64)).toList) : RefIs w base b sb (.slice none 0 0) (newD n) where
  blk := by simpa [newD] using hb
  sec := by rw [flat_zero] at hs; exact hs
  own := World.ownsRow_nil _ _ _ _
  hS := fun s hs => by simp [newD] at hs; rw [hs.2]; exact fillA_sec 0
  hL := by simp [newD]
  n1 := h1
  o1 := by simp [Value.ownBlock]
  o2 := by simp [Value.ownBlock]
  b1 := g1
  b2 := g2
  len := by simpa [newD] using hn
  f := by simp [newD, I64]
set_option maxRecDepth 100000 in
theorem rnew_any (base n : Nat) (hn : 1 ≤ n ∧ n ≤ 1024) (w : World) (hB : base ≤ w.heap.size) : Calls Try.prog 13 #[.int .i64 n] w (RMade base w n) := by
  obtain ⟨hn1, hn2⟩ := hn
  have h1 : (1 : Int) ≤ (n : Int) := by omega
  have h2 : (n : Int) ≤ 1024 := by omega
  have m1 := make48 n hn2
  have HF := Lib.hid (rnewD_at (n := n) (hn := hn2))
  generalize madeCells (fillA 0) (n * 64) = z48 at *
  go_enter Try.func13, Try.ntmps13
  go_wp2_with fail
  go_ret2
  exact ⟨w.heap.size + 1, w.heap.size, rfl, HF.out _ _ _ _ (by omega) (by omega) (by omega) (Blk.newAt _ _ _ (by simp) rfl) ((Blk.newAt _ _ _ rfl rfl).alloc _), ((Below.refl _ _).alloc (Nat.le_refl _) _).alloc (by simp) _, by omega, Nat.le_refl _⟩
end Go.Proofs.Ytdmjhpebpooiaaa
