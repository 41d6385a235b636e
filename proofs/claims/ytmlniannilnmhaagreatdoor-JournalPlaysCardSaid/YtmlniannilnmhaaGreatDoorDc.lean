/- Dc: texts of elder seats turned: what the stage needs of them. -/
import Derived.Test.YtmlniannilnmhaaGreatDoorDb
namespace Go.Proofs.YtmlniannilnmhaaGreatDoor
set_option linter.unusedSimpArgs false
set_option linter.unusedVariables false
open Go.RowKit

namespace De
open Go.RowKit
structure RefIs (w : World) (base : Nat) (b sb : Nat) (lv : Value) (d : D) : Prop where
  blk : Blk w b [.slice (some ⟨sb, 0, none⟩) d.S.length d.S.length, lv, .int .i64 d.F, .int .i64 d.T]
  sec : Blk w sb (flat d.S)
  own : w.ownsRow base 133 65 lv d.L.length (flatL d.L)
  hS : ∀ s ∈ d.S, Sec s
  hL : ∀ p ∈ d.L, Sec p.2 ∧ p.1 < d.S.length
  n1 : b ≠ sb
  o1 : lv.ownBlock ≠ some b
  o2 : lv.ownBlock ≠ some sb
  b1 : base ≤ b
  b2 : base ≤ sb
  len : d.S.length ≤ 1024
  f : I64 d.F
def rfoot (b sb : Nat) (lv : Value) (k : Nat) : Prop := k = b ∨ k = sb ∨ lv.ownBlock = some k
theorem ownsRow_of' {w w' : World} {base e : Nat} {v : Value} {n : Nat} {xs : List Value} (h : w.ownsRow base e 65 v n xs) (hb : ∀ k, v.ownBlock = some k → w'.heap[k]? = w.heap[k]?) : w'.ownsRow base e 65 v n xs := by
  refine ⟨h.1, ?_⟩
  rcases h.2 with hn | ⟨g, cap, cur, e, hb', hg, r⟩
  · exact .inl hn
  · exact .inr ⟨g, cap, cur, e, hb', (hb g (by rw [e]; rfl)).trans hg, r⟩
theorem RefIs.lvShape {w : World} {base b sb : Nat} {lv : Value} {d : D} (h : RefIs w base b sb lv d) : ∃ a cap, lv = .slice a d.L.length cap := by
  rcases h.own.2 with ⟨e, e2⟩ | ⟨g, cap, cur, e, _⟩
  · exact ⟨none, 0, by rw [e, e2]⟩
  · exact ⟨_, _, e⟩
theorem RefIs.foot_lt {w : World} {base b sb : Nat} {lv : Value} {d : D} (h : RefIs w base b sb lv d) : ∀ k, rfoot b sb lv k → base ≤ k ∧ k < w.heap.size := by
  rintro k (rfl | rfl | hk)
  · exact ⟨h.b1, h.blk.lt⟩
  · exact ⟨h.b2, h.sec.lt⟩
  · exact h.own.lt k hk
theorem RefIs.of {w w' : World} {base b sb : Nat} {lv : Value} {d : D} (h : RefIs w base b sb lv d) (hk : ∀ k, rfoot b sb lv k → w'.heap[k]? = w.heap[k]?) : RefIs w' base b sb lv d :=
  { h with blk := h.blk.of_block (hk _ (.inl rfl)), sec := h.sec.of_block (hk _ (.inr (.inl rfl))), own := ownsRow_of' h.own fun k e => hk k (.inr (.inr e)) }
theorem RefIs.only {w w' : World} {base b sb : Nat} {lv : Value} {d : D} (h : RefIs w base b sb lv d) {S : Nat → Prop} (ho : Only S w w') (hS : ∀ k, rfoot b sb lv k → ¬ S k) : RefIs w' base b sb lv d :=
  h.of fun k hk => ho.block k (h.foot_lt k hk).2 (hS k hk)
/-- A field of the receiver set. -/
theorem RefIs.setF {w : World} {base b sb : Nat} {lv : Value} {d : D} (h : RefIs w base b sb lv d) {f : Int} (hf : I64 f) : RefIs (w.setCell ⟨b, 2, none⟩ (.int .i64 f)) base b sb lv { d with F := f } :=
  { h with blk := h.blk.set 2 (.int .i64 f), sec := h.sec.setOther h.n1.symm _, f := hf
           own := ownsRow_of' h.own fun k hk => heap_setCell_other w _ _ _ fun e => h.o1 (by rw [hk, e]) }
theorem RefIs.setT {w : World} {base b sb : Nat} {lv : Value} {d : D} (h : RefIs w base b sb lv d) (t : Nat) : RefIs (w.setCell ⟨b, 3, none⟩ (.int .i64 t)) base b sb lv { d with T := t } :=
  { h with blk := h.blk.set 3 (.int .i64 t), sec := h.sec.setOther h.n1.symm _
           own := ownsRow_of' h.own fun k hk => heap_setCell_other w _ _ _ fun e => h.o1 (by rw [hk, e]) }
theorem rhas_any (w : World) (base b sb : Nat) (lv : Value) (d : D) (h : RefIs w base b sb lv d) (i : Int) : Calls Tryz.prog 54 #[.pointer (some ⟨b, 0, none⟩), .int .i64 i] w fun e w' => e = .returned (.bool (d.has i)) ∧ w = w' := by
  have c0 : w.cell? ⟨b, 0, none⟩ = some (.slice (some ⟨sb, 0, none⟩) d.S.length d.S.length) := h.blk.cell rfl
  have hl := h.len
  unfold D.has
  clear h
  generalize d.S.length = n at *
  by_cases h0 : 0 ≤ i
  · by_cases h1 : i < n
    · rw [show (decide (0 ≤ i) && decide (i < n)) = true by simp [h0, h1]]
      go_enter Tryz.func54, Tryz.ntmps54
      go_wp2
      go_ret
      exact ⟨rfl, rfl⟩
    · rw [show (decide (0 ≤ i) && decide (i < n)) = false by simp [h1]]
      go_enter Tryz.func54, Tryz.ntmps54
      go_wp2
      go_ret
      exact ⟨rfl, rfl⟩
  · rw [show (decide (0 ≤ i) && decide (i < n)) = false by simp [h0]]
    go_enter Tryz.func54, Tryz.ntmps54
    go_wp2
    go_ret
    exact ⟨rfl, rfl⟩
/-- What fails leaves: as ask does. -/
theorem rfails_any (w : World) (base b sb : Nat) (lv : Value) (d : D) (h : RefIs w base b sb lv d) (hT : d.T ≤ 1000000) : Calls Tryz.prog 72 #[.pointer (some ⟨b, 0, none⟩)] w fun e w' => e = .returned (.bool (decide (d.F = 0))) ∧ RefIs w' base b sb lv d.ask ∧ Only (rfoot b sb lv) w w' := by
  have c2 : w.cell? ⟨b, 2, none⟩ = some (.int .i64 d.F) := h.blk.cell rfl
  have c3 : w.cell? ⟨b, 3, none⟩ = some (.int .i64 d.T) := h.blk.cell rfl
  have f2 := h.blk.frozen 2
  have f3 := h.blk.frozen 3
  have hI := h.f
  obtain ⟨hI1, hI2⟩ := hI
  unfold D.ask
  by_cases h0 : d.F = 0
  · rw [if_pos h0]
    have HD := Lib.hid (h.setF (f := -1) ⟨by decide, by decide⟩)
    have HO := Lib.hid (show Only (rfoot b sb lv) w (w.setCell ⟨b, 2, none⟩ (.int .i64 (-1))) from (Only.refl _ _).setCell (.inl (.inl rfl)) _)
    rw [h0] at c2
    rw [show decide (d.F = 0) = true by simp [h0]]
    clear h h0 hI1 hI2
    go_enter Tryz.func72, Tryz.ntmps72
    go_wp2
    go_ret
    exact ⟨rfl, HD.out, HO.out⟩
  · rw [if_neg h0, show decide (d.F = 0) = false by simp [h0]]
    by_cases hn : d.F < 0
    · rw [nextF_neg d hn]
      have HD := Lib.hid (h.setT (d.T + 1))
      have HO := Lib.hid (show Only (rfoot b sb lv) w (w.setCell ⟨b, 3, none⟩ (.int .i64 ((d.T + 1 : Nat) : Int))) from (Only.refl _ _).setCell (.inl (.inl rfl)) _)
      have e1 : (d.F == 0) = false := beq_eq_false_iff_ne.2 h0
      have e2 : ¬ 0 < d.F := by omega
      clear h h0
      go_enter Tryz.func72, Tryz.ntmps72
      go_wp2
      go_ret
      exact ⟨rfl, HD.out, HO.out⟩
    · rw [nextF_eq d hn]
      have HD := Lib.hid ((h.setF (f := d.F - 1) ⟨by omega, by omega⟩).setT (d.T + 1))
      have HO := Lib.hid (show Only (rfoot b sb lv) w ((w.setCell ⟨b, 2, none⟩ (.int .i64 (d.F - 1))).setCell ⟨b, 3, none⟩ (.int .i64 ((d.T + 1 : Nat) : Int))) from ((Only.refl _ _).setCell (.inl (.inl rfl)) _).setCell (.inl (.inl rfl)) _)
      have e1 : (d.F == 0) = false := beq_eq_false_iff_ne.2 h0
      have e2 : 0 < d.F := by omega
      clear h h0 hn
      go_enter Tryz.func72, Tryz.ntmps72
      go_wp2
      go_ret
      exact ⟨rfl, HD.out, HO.out⟩
def RMade (base : Nat) (w : World) (n : Nat) (e : Ending) (w' : World) : Prop := ∃ b sb, e = .returned (.tuple #[.pointer (some ⟨b, 0, none⟩), .int .i64 0]) ∧ RefIs w' base b sb (.slice none 0 0) (newD n) ∧ Below w.heap.size w w' ∧ w.heap.size ≤ b ∧ w.heap.size ≤ sb
theorem rnewD_at (w : World) (n : Nat) (hn : n ≤ 1024) (b sb base : Nat) (h1 : b ≠ sb) (g1 : base ≤ b) (g2 : base ≤ sb)
    (hb : Blk w b [.slice (some ⟨sb, 0, none⟩) n n, .slice none 0 0, .int .i64 (-1), .int .i64 0]) (hs : Blk w sb (madeCells (fillA 0) (n * 64)).toList) : RefIs w base b sb (.slice none 0 0) (newD n) where
  blk := by simpa [newD] using hb
  sec := by rw [flat_zero] at hs; exact hs
  own := World.ownsRow_nil _ _ _ _
  hS := fun s hs => by simp [newD] at hs; rw [hs.2]; exact fillA_sec 0
  hL := by simp [newD]
  n1 := h1
  o1 := by simp [Value.ownBlock]
  o2 := by simp [Value.ownBlock]
  b1 := g1
  b2 := g2
  len := by simpa [newD] using hn
  f := by simp [newD, I64]
set_option maxRecDepth 100000 in
theorem rnew_any (base n : Nat) (hn : 1 ≤ n ∧ n ≤ 1024) (w : World) (hB : base ≤ w.heap.size) : Calls Tryz.prog 13 #[.int .i64 n] w (RMade base w n) := by
  obtain ⟨hn1, hn2⟩ := hn
  have h1 : (1 : Int) ≤ (n : Int) := by omega
  have h2 : (n : Int) ≤ 1024 := by omega
  have m1 := make48 n hn2
  have HF := Lib.hid (rnewD_at (n := n) (hn := hn2))
  generalize madeCells (fillA 0) (n * 64) = z48 at *
  go_enter Tryz.func13, Tryz.ntmps13
  go_wp2_with fail
  go_ret2
  exact ⟨w.heap.size + 1, w.heap.size, rfl, HF.out _ _ _ _ (by omega) (by omega) (by omega) (Blk.newAt _ _ _ (by simp) rfl) ((Blk.newAt _ _ _ rfl rfl).alloc _), ((Below.refl _ _).alloc (Nat.le_refl _) _).alloc (by simp) _, by omega, Nat.le_refl _⟩
theorem info133z : (Tryz.prog.info? 133).bind (·.zero) = some (.agg (#[.int .i64 0] ++ fillA 0)) := by kernel_rfl
theorem places72 : (Tryz.prog.underlying 133).map (fun | .struct fs => fs.toList.mapM (fun f => (Tryz.prog.info? f.type).map fun i => (f.offset, i.size)) | _ => none) = some (some [(0, 1), (1, 64)]) := by kernel_rfl
theorem built133 (i : Int) (cs : Array Value) (h : cs.size = 64) : Tryz.prog.built 133 [(0, .int .i64 i), (1, .agg cs)] = some (#[.int .i64 i] ++ cs) := by
  have hp := places72
  rw [Tryz.underlying133] at hp
  rw [built_struct Tryz.underlying133 info133z (Option.some.inj hp)]
  exact fill_pair i cs _ 64 h (by simp [Value.cells, fillA])
theorem build133 (w : World) (i : Int) (cs : Array Value) (h : cs.size = 64) : (Instr.build 133 #[(0, .int .i64 i), (1, .agg cs)]).run Tryz.prog w = .ok (.agg (#[.int .i64 i] ++ cs)) w := run_build w 133 _ _ (built133 i cs h)
theorem info133s : (Tryz.prog.info? 133).map (fun i => (i.zero, i.size, i.bytes)) = some (some (.agg (#[.int .i64 0] ++ fillA 0)), 65, 72) := by kernel_rfl
theorem row66 (w : World) (cs : Array Value) (h : cs.size = 65) : (Instr.buildSlice 66 1 #[(0, .agg cs)]).run Tryz.prog w = .ok (.slice (some ⟨w.heap.size, 0, none⟩) 1 1) (w.alloc (.cells cs 133)) := by
  obtain ⟨i, hi, hz, hs, _⟩ := info_parts info133s
  exact run_buildSlice_one w 66 133 i _ cs Tryz.underlying66 hi hz (by omega) (by omega) (by rw [h]; decide)
theorem RefIs.wrote {w1 w2 : World} {base b sb : Nat} {lv : Value} {d : D} (h : RefIs w1 base b sb lv d) {k : Nat} (hk : k < d.S.length) {s : Array Value} (hs : Sec s) {o : Obj} {g cap : Nat}
    (hown : w2.ownsRow base 133 65 (.slice (some ⟨g, 0, none⟩) (d.L.length + 1) cap) (d.L.length + 1) (flatL d.L ++ (Value.int .i64 (k : Int) :: s.toList))) (hgrow : (w1.drew.alloc o).grownBy w2 lv.ownBlock) (hat : lv.ownBlock = some g ∨ w1.heap.size ≤ g) :
    RefIs (w2.setCell ⟨b, 1, none⟩ (.slice (some ⟨g, 0, none⟩) (d.L.length + 1) cap)) base b sb (.slice (some ⟨g, 0, none⟩) (d.L.length + 1) cap) { d with L := d.L ++ [(k, s)] } ∧
    Only (rfoot b sb lv) w1 (w2.setCell ⟨b, 1, none⟩ (.slice (some ⟨g, 0, none⟩) (d.L.length + 1) cap)) := by
  have hf := h.foot_lt
  have hb := (hf b (.inl rfl)).2
  have hsb := (hf sb (.inr (.inl rfl))).2
  have hg1 : g ≠ b := fun e => by
    rcases hat with h1 | h1
    · exact h.o1 (by rw [h1, e])
    · omega
  have hg2 : g ≠ sb := fun e => by
    rcases hat with h1 | h1
    · exact h.o2 (by rw [h1, e])
    · omega
  have ho : Only (rfoot b sb lv) w1 w2 := ((Only.refl (rfoot b sb lv) w1).drew.alloc o).grown hgrow fun k hk => .inl (.inr (.inr hk))
  have blk2 : ∀ {c : Nat} {l : List Value}, Blk w1 c l → lv.ownBlock ≠ some c → Blk w2 c l := fun {c l} hb hne =>
    (hb.drew.alloc o).of_block (hgrow.block c (by have := hb.lt; simp; omega) fun e => hne e.symm)
  refine ⟨?_, ho.setCell (.inl (.inl rfl)) _⟩
  exact {
    blk := (blk2 h.blk h.o1).set 1 _
    sec := (blk2 h.sec h.o2).setOther h.n1.symm _
    own := by
      simp only [List.length_append, List.length_singleton]
      rw [flatL_snoc]
      exact ownsRow_of' hown fun k hk => heap_setCell_other w2 _ _ _ fun e => by
        have : g = k := Option.some.inj hk
        exact hg1 (by rw [this, e])
    hS := h.hS
    hL := fun p hp => by
      simp only [List.mem_append, List.mem_singleton] at hp
      rcases hp with hp | rfl
      · exact h.hL p hp
      · exact ⟨hs, hk⟩
    n1 := h.n1
    o1 := fun e => hg1 (Option.some.inj e)
    o2 := fun e => hg2 (Option.some.inj e)
    b1 := h.b1, b2 := h.b2, len := h.len, f := h.f }
/-- What a call of the document's device comes to. -/
def RDid (w : World) (base b sb : Nat) (lv : Value) (r : Value) (d : D) (e : Ending) (w' : World) : Prop :=
  ∃ lv', e = .returned r ∧ RefIs w' base b sb lv' d ∧ Only (rfoot b sb lv) w w' ∧ ∀ k, lv'.ownBlock = some k → lv.ownBlock = some k ∨ w.heap.size ≤ k
theorem RDid.same {w w' : World} {base b sb : Nat} {lv : Value} {r : Value} {d : D} (h : RefIs w' base b sb lv d) (ho : Only (rfoot b sb lv) w w') : RDid w base b sb lv r d (.returned r) w' := ⟨lv, rfl, h, ho, fun _ h => .inl h⟩
set_option maxRecDepth 100000 in
theorem rwrite_no (w : World) (base b sb : Nat) (lv : Value) (d : D) (h : RefIs w base b sb lv d) (i : Int) (hi : d.has i = false) (cs : Array Value) :
    Calls Tryz.prog 51 #[.pointer (some ⟨b, 0, none⟩), .int .i64 i, .agg cs] w fun e w' => e = .returned (.int .i64 1) ∧ Below w.heap.size w w' := by
  have H := Lib.hid (rhas_any (w.alloc (.cells cs 72)) base b sb lv d (h.only (S := fun _ => False) ((Only.refl _ _).alloc _) (fun _ _ h => h)) i)
  rw [hi] at H
  clear h hi
  go_enter Tryz.func51, Tryz.ntmps51
  go_wp2_with fail
  refine H.out.mono ?_
  rintro e w' ⟨rfl, rfl⟩
  go_wp2_with fail
  go_ret
  exact ⟨rfl, (Below.refl _ _).alloc (Nat.le_refl _) _⟩
set_option maxRecDepth 100000 in
set_option maxHeartbeats 1000000 in
theorem rwrite_yes (w : World) (base b sb : Nat) (lv : Value) (d : D) (h : RefIs w base b sb lv d) (hT : d.T ≤ 1000000) (hLn : d.L.length ≤ 1000000) (hbase : base ≤ w.heap.size) (i : Int) (hi : d.has i = true) (cs : Array Value) (hs : Sec cs) :
    Calls Tryz.prog 51 #[.pointer (some ⟨b, 0, none⟩), .int .i64 i, .agg cs] w (RDid w base b sb lv (.int .i64 d.flushE) (d.write i cs)) := by
  have hf := h.foot_lt
  have hA := h.only (S := fun _ => False) ((Only.refl w.heap.size.le w).alloc (.cells cs 72) |>.more (T := fun _ => False) (fun k hk hh => absurd hk (Nat.not_lt.2 hh))) (fun _ _ h => h)
  have HH := Lib.hid (rhas_any (w.alloc (.cells cs 72)) base b sb lv d hA i)
  rw [hi] at HH
  have H := Lib.hid (rfails_any (w.alloc (.cells cs 72)) base b sb lv d hA hT)
  have hbox := Blk.newAt (w := w) (cs := cs) 72 _ _ rfl rfl
  obtain ⟨k, rfl, hk⟩ := write_has hi
  have HW : d.write k cs = if d.F = 0 then { d with F := -1 } else { d with F := d.nextF, T := d.T + 1, L := d.L ++ [(k, cs)] } := by unfold D.write; rw [if_pos hi, Int.toNat_natCast]
  rw [HW]
  clear HW hi h hA
  unfold D.flushE
  unfold D.ask at H
  by_cases h0 : d.F = 0
  · rw [if_pos h0, if_pos h0]
    rw [if_pos h0, show decide (d.F = 0) = true by simp [h0]] at H
    clear hbox h0
    go_enter Tryz.func51, Tryz.ntmps51
    go_wp2_with fail
    refine HH.out.mono ?_
    rintro e w' ⟨rfl, rfl⟩
    go_wp2_with fail
    refine H.out.mono ?_
    rintro e w' ⟨rfl, hd, ho⟩
    have HD := Lib.hid hd
    have HO := Lib.hid ho
    clear hd ho
    go_wp2_with fail
    go_ret
    exact RDid.same HD.out (((Only.refl _ w).alloc _).trans HO.out)
  · rw [if_neg h0, if_neg h0]
    rw [if_neg h0, show decide (d.F = 0) = false by simp [h0]] at H
    clear h0
    have HF := Lib.hid hf
    have HX := Lib.hid hbox
    have HS := Lib.hid hs
    clear hf hbox hs
    go_enter Tryz.func51, Tryz.ntmps51
    go_wp2_with fail
    refine HH.out.mono ?_
    rintro e w' ⟨rfl, rfl⟩
    go_wp2_with fail
    refine H.out.mono ?_
    rintro e w1 ⟨rfl, hd, ho⟩
    have hx1 : Blk w1 w.heap.size cs.toList := HX.out.only ho fun hh => by have := (HF.out _ hh).2; omega
    have HX1 := Lib.hid hx1
    have HO := Lib.hid ho
    have HD := Lib.hid hd
    have c1 : w1.cell? ⟨b, 1, none⟩ = some lv := hd.blk.cell rfl
    clear hx1 ho hd
    go_wp2_with fail
    refine wp_region_any (by kernel_rfl) ?_
    change wpAny _ _ _ _ _ _ _ w1.drew
    refine any_take 0 (some 13) (.pointer (some ⟨b, 0, none⟩)) rfl rfl (by kernel_rfl) (by kernel_rfl) (by kernel_rfl) (fun _ _ _ h => h) rfl (fun w => by go_simp) ?_
    simp only [Act.put, List.setIfInBounds_toArray, List.set_cons_succ, List.set_cons_zero]
    refine any_take 1 (some 14) (.pointer (some ⟨b, 0, none⟩)) rfl rfl (by kernel_rfl) (by kernel_rfl) (by kernel_rfl) (fun _ _ _ h => h) rfl (fun w => by go_simp) ?_
    simp only [Act.put, List.setIfInBounds_toArray, List.set_cons_succ, List.set_cons_zero]
    refine any_take 2 (some 15) (.pointer (some ⟨b, 0, none⟩)) rfl rfl (by kernel_rfl) (by kernel_rfl) (by kernel_rfl) (fun _ _ _ h => h) rfl (fun w => by go_simp) ?_
    simp only [Act.put, List.setIfInBounds_toArray, List.set_cons_succ, List.set_cons_zero]
    refine any_take 3 (some 16) (.pointer (some ⟨b, 1, none⟩)) rfl rfl (by kernel_rfl) (by kernel_rfl) (by kernel_rfl) (fun _ _ _ h => h) rfl (fun w => by go_simp) ?_
    simp only [Act.put, List.setIfInBounds_toArray, List.set_cons_succ, List.set_cons_zero]
    refine any_take 5 (some 18) (.int .i64 (k : Int)) rfl rfl (by kernel_rfl) (by kernel_rfl) (by kernel_rfl) (fun _ _ _ h => h) rfl (fun w => by go_simp) ?_
    simp only [Act.put, List.setIfInBounds_toArray, List.set_cons_succ, List.set_cons_zero]
    have hz65 : (#[Value.int .i64 (k : Int)] ++ cs).size = 65 := by have := HS.out.size; simp; omega
    have hw1 : w.heap.size ≤ w1.heap.size := by have := HO.out.size; simp at this; omega
    have HZ := Lib.hid hz65
    obtain ⟨i72, hi, hz0, hz1, hz2⟩ := info_parts info133s
    have HI := Lib.hid hi
    have HI0 := Lib.hid hz0
    have HI1 := Lib.hid hz1
    have HI2 := Lib.hid hz2
    clear hz65 hi hz0 hz1 hz2
    have c1' : (w1.drew.alloc (.cells (#[.int .i64 (k : Int)] ++ cs) 133)).cell? ⟨b, 1, none⟩ = some lv := (HD.out.blk.drew.alloc _).cell rfl
    refine any_two 4 6 (by kernel_rfl) (any_op rfl rfl (some 17) rfl lv w1.drew (exec_load1 _ _ _ 66 _ rfl ⟨b, 1, none⟩ rfl lv _ Tryz.underlying66 rfl c1) ?_) (any_op rfl rfl (some 19) rfl (.agg cs) w1.drew (exec_load_at _ _ _ 72 _ rfl w.heap.size 0 rfl cs _ Tryz.underlying72 rfl (by rw [HS.out.size]; exact info72) (HX1.out.drew.cells cs rfl)) ?_)
    all_goals simp only [Act.put, List.setIfInBounds_toArray, List.set_cons_succ, List.set_cons_zero]
    case' refine_1 =>
      refine any_one 6 (by kernel_rfl) (any_op rfl rfl (some 19) rfl (.agg cs) w1.drew (exec_load_at _ _ _ 72 _ rfl w.heap.size 0 rfl cs _ Tryz.underlying72 rfl (by rw [HS.out.size]; exact info72) (HX1.out.drew.cells cs rfl)) ?_)
      simp only [Act.put, List.setIfInBounds_toArray, List.set_cons_succ, List.set_cons_zero]
      refine any_one 7 (by kernel_rfl) (any_op rfl rfl (some 20) rfl (.agg (#[.int .i64 (k : Int)] ++ cs)) w1.drew (exec_build _ _ _ _ 133 _ rfl #[(0, .int .i64 (k : Int)), (1, .agg cs)] (by simp [Act.eval]) _ (build133 _ k cs HS.out.size)) ?_)
      simp only [Act.put, List.setIfInBounds_toArray, List.set_cons_succ, List.set_cons_zero]
      refine any_one 8 (by kernel_rfl) (any_op rfl rfl (some 21) rfl _ _ (exec_buildSlice _ _ _ _ 66 1 _ rfl #[(0, .agg (#[.int .i64 (k : Int)] ++ cs))] (by simp [Act.eval]) _ (row66 _ _ HZ.out)) ?_)
      simp only [Act.put, List.setIfInBounds_toArray, List.set_cons_succ, List.set_cons_zero]
    case' refine_2 =>
      refine any_take 7 (some 20) (.agg (#[.int .i64 (k : Int)] ++ cs)) rfl rfl (by kernel_rfl) (by kernel_rfl) (by kernel_rfl) (fun _ _ _ h => h) rfl (fun w => (exec_build _ _ _ _ 133 _ rfl #[(0, .int .i64 (k : Int)), (1, .agg cs)] (by simp [Act.eval]) _ (build133 _ k cs HS.out.size))) ?_
      simp only [Act.put, List.setIfInBounds_toArray, List.set_cons_succ, List.set_cons_zero]
      refine any_two 4 8 (by kernel_rfl) (any_op rfl rfl (some 17) rfl lv w1.drew (exec_load1 _ _ _ 66 _ rfl ⟨b, 1, none⟩ rfl lv _ Tryz.underlying66 rfl c1) ?_) (any_op rfl rfl (some 21) rfl _ _ (exec_buildSlice _ _ _ _ 66 1 _ rfl #[(0, .agg (#[.int .i64 (k : Int)] ++ cs))] (by simp [Act.eval]) _ (row66 _ _ HZ.out)) ?_)
      all_goals simp only [Act.put, List.setIfInBounds_toArray, List.set_cons_succ, List.set_cons_zero]
      case' refine_1 =>
        refine any_one 8 (by kernel_rfl) (any_op rfl rfl (some 21) rfl _ _ (exec_buildSlice _ _ _ _ 66 1 _ rfl #[(0, .agg (#[.int .i64 (k : Int)] ++ cs))] (by simp [Act.eval]) _ (row66 _ _ HZ.out)) ?_)
        simp only [Act.put, List.setIfInBounds_toArray, List.set_cons_succ, List.set_cons_zero]
      case' refine_2 =>
        refine any_one 4 (by kernel_rfl) (any_op rfl rfl (some 17) rfl lv _ (exec_load1 _ _ _ 66 _ rfl ⟨b, 1, none⟩ rfl lv _ Tryz.underlying66 rfl c1') ?_)
        simp only [Act.put, List.setIfInBounds_toArray, List.set_cons_succ, List.set_cons_zero]
    all_goals
      change wpAny _ _ _ _ _ _ _ (w1.drew.alloc (.cells (#[.int .i64 (k : Int)] ++ cs) 133))
      refine any_one 9 (by kernel_rfl) (wpOp_step rfl fun K hK => step_append_lies _ rfl _ _ 66 rfl base 133 i72 _ 65 72 Tryz.underlying66 HI.out HI0.out HI1.out HI2.out (by simp [Value.cells, fillA]) (by decide) lv d.L.length (flatL d.L) rfl (HD.out.own.drew.alloc _) ⟨w1.heap.size, 0, none⟩ 1 1 (Value.int .i64 (k : Int) :: cs.toList) rfl (by simp; exact HS.out.size) ?_ ?_ (by decide) (by unfold maxLen; omega) (by omega) (by simp; omega) _ rfl ?_)
      · intro j u hu
        have hb : Blk (w1.drew.alloc (Obj.cells (#[Value.int .i64 (k : Int)] ++ cs) 133)) w1.heap.size (Value.int .i64 (k : Int) :: cs.toList) := Blk.newAt 133 _ _ rfl (by simp)
        have hadd : (⟨w1.heap.size, 0, none⟩ : Addr).add j = ⟨w1.heap.size, j, none⟩ := by unfold Addr.add; split <;> simp_all
        rw [hadd]
        exact hb.cell hu
      · intro u hu
        rcases List.mem_cons.1 hu with rfl | hu
        · rfl
        · exact HS.out.one u (by simpa using hu)
      · intro g cap w2 hown hgrow hat hlt
        refine hK _ _ ?_
        clear hK K
        change wpAny _ _ _ _ _ _ (Act.put _ (some 22) _) _
        simp only [Act.put, List.setIfInBounds_toArray, List.set_cons_succ, List.set_cons_zero]
        have HOwn := Lib.hid hown
        have HGrow := Lib.hid hgrow
        have HAt := Lib.hid (show lv.ownBlock = some g ∨ w1.heap.size ≤ g by
          rcases hat with h | h
          · exact .inl h
          · right; rw [h]; simp)
        have hb0 := (HD.out.blk.drew.alloc (Obj.cells (#[Value.int .i64 (k : Int)] ++ cs) 133)).of_block (hgrow.block b (by have := HD.out.blk.lt; simp; omega) fun e => HD.out.o1 e.symm)
        skip
        have hc1 : w2.cell? ⟨b, 1, none⟩ = some lv := hb0.cell rfl
        have hf1 := hb0.frozen 1
        have HB0 := Lib.hid hb0
        clear hown hgrow hat hb0 c1 c1'
        refine any_one 10 (by kernel_rfl) (wpOp_step rfl fun K hK => ?_)
        go_simp
        refine hK _ _ ?_
        clear hK K
        refine any_one 11 (by kernel_rfl) (wpOp_step rfl fun K hK => ?_)
        go_simp
        refine hK _ _ ?_
        clear hK K
        refine any_one 12 (by kernel_rfl) (wpOp_step rfl fun K hK => ?_)
        go_simp
        refine hK _ _ ?_
        clear hK K
        refine wpAny_done (by kernel_rfl) ?_ _
        have HFin := Lib.hid (HD.out.wrote (k := k) hk HS.out HOwn.out HGrow.out HAt.out)
        go_wp2_with fail
        go_ret
        have hO1 : Only (rfoot b sb lv) w w1 := ((Only.refl _ w).alloc _).trans HO.out
        refine ⟨.slice (some ⟨g, 0, none⟩) (d.L.length + 1) cap, rfl, HFin.out.1, hO1.trans HFin.out.2, fun k hk => ?_⟩
        rcases HAt.out with h | h
        · exact .inl (by rw [h]; exact hk)
        · right
          have : g = k := Option.some.inj hk
          omega
theorem RefIs.below {w w' : World} {base b sb : Nat} {lv : Value} {d : D} (h : RefIs w base b sb lv d) (hb : Below w.heap.size w w') : RefIs w' base b sb lv d := h.of fun k hk => hb.block k (h.foot_lt k hk).2
theorem RefIs.loose {w : World} {base b sb : Nat} {lv : Value} {d : D} (h : RefIs w base b sb lv d) {k : Nat} {p : Nat × Array Value} (hk : d.L[k]? = some p) : ∃ g cap, lv = .slice (some ⟨g, 0, none⟩) d.L.length cap ∧ w.cell? ⟨g, k * 65, none⟩ = some (.int .i64 p.1) ∧ ∀ x (hx : x < p.2.size), w.cell? ⟨g, k * 65 + 1 + x, none⟩ = some p.2[x] := by
  have hlt : k < d.L.length := (List.getElem?_eq_some_iff.1 hk).1
  obtain ⟨g, cap, e, _⟩ := h.own.form (by omega)
  have hown := h.own
  rw [e] at hown
  have hs := (h.hL p (List.mem_of_getElem? hk)).1
  refine ⟨g, cap, e, ?_, fun x hx => ?_⟩
  · rw [hown.cellAt (k * 65) (by omega)]
    have := flatL_at (fun p hp => (h.hL p hp).1) hk (j := 0) (by decide)
    rw [Nat.add_zero] at this
    rw [this]
    rfl
  · have h65 : 1 + x < 65 := by have := hs.size; omega
    rw [hown.cellAt (k * 65 + 1 + x) (by omega)]
    have := flatL_at (fun p hp => (h.hL p hp).1) hk (j := 1 + x) h65
    rw [Nat.add_assoc, this, Nat.add_comm 1 x]
    simp [hx]
theorem app_take_yes {S : List (Array Value)} {L : List (Nat × Array Value)} {k i : Nat} {s : Array Value} (hk : L[k]? = some (i, s)) (hi : i < S.length) : (app S (L.take (k + 1)))[i]? = some s := by
  obtain ⟨hlt, e⟩ := List.getElem?_eq_some_iff.1 hk
  rw [List.take_succ_eq_append_getElem hlt, e, app_snoc]
  simp [hi]
theorem app_take_no {S : List (Array Value)} {L : List (Nat × Array Value)} {k i j : Nat} {s : Array Value} (hk : L[k]? = some (j, s)) (hne : j ≠ i) : (app S (L.take (k + 1)))[i]? = (app S (L.take k))[i]? := by
  obtain ⟨hlt, e⟩ := List.getElem?_eq_some_iff.1 hk
  rw [List.take_succ_eq_append_getElem hlt, e, app_snoc]
  exact List.getElem?_set_ne hne
set_option maxRecDepth 100000 in
theorem rread_no (w : World) (base b sb : Nat) (lv : Value) (d : D) (h : RefIs w base b sb lv d) (i : Int) (hi : d.has i = false) :
    Calls Tryz.prog 29 #[.pointer (some ⟨b, 0, none⟩), .int .i64 i] w fun e w' => e = .returned (.tuple #[.agg (fillA 0), .int .i64 1]) ∧ Below w.heap.size w w' := by
  have HA := Lib.hid h
  clear h
  go_enter Tryz.func29, Tryz.ntmps29
  go_wp2_with fail
  have hb := Blk.newAt (w := w) (cs := (fillA 0)) 72 _ zeros64 rfl rfl
  obtain ⟨wA, hw⟩ : ∃ wA, wA = w.alloc (.cells (fillA 0) 72) := ⟨_, rfl⟩
  change Calls _ _ _ (w.alloc (.cells (fillA 0) 72)) _
  rw [← hw] at hb ⊢
  have HBel := Lib.hid (show Below w.heap.size w wA by rw [hw]; exact (Below.refl _ _).alloc (Nat.le_refl _) _)
  have H := Lib.hid (rhas_any wA base b sb lv d (HA.out.below HBel.out) i)
  rw [hi] at H
  have HB := Lib.hid hb
  clear hb hw hi
  refine H.out.mono ?_
  rintro e w' ⟨rfl, rfl⟩
  go_wp2_with (first | ((with_reducible refine isBuild ?_); refine wpList_build_g 37 rfl rfl _ (build72 _) ?_) | ((with_reducible refine isStore ?_); refine wpList_store_at rfl 72 _ _ rfl w.heap.size 0 (fillA 0) rfl rfl _ HB.out info72 (by simp [fillA, zeros64]) (fillA_sec 0).one ?_))
  have HZ := HB.out.row (splice zeros64 0 (fillA 0))
  rw [splice_all _ _ (by simp [fillA, zeros64])] at HZ
  refine bodyPost_ret (v := .tuple #[.agg (fillA 0), .int .i64 1]) (results_cell_tmp rfl _ _ w.heap.size 0 (fillA 0) _ _ rfl rfl Tryz.underlying72 rfl info72 ?_) rfl ⟨rfl, ?_⟩
  · rw [splice_all _ _ (by simp [fillA, zeros64])]
    exact HZ.cells _ rfl
  · exact ((Only.of_below (S := fun k => w.heap.size ≤ k) HBel.out).setRow (.inl (Nat.le_refl _)) _).below (Nat.le_refl _) (fun _ h => h)
set_option maxRecDepth 100000 in
set_option maxHeartbeats 1000000 in
theorem rread_yes (w : World) (base b sb : Nat) (lv : Value) (d : D) (h : RefIs w base b sb lv d) (hLn : d.L.length ≤ 1000000) (i : Nat) (hi : i < d.S.length) :
    Calls Tryz.prog 29 #[.pointer (some ⟨b, 0, none⟩), .int .i64 i] w fun e w' => e = .returned (.tuple #[.agg (d.read i), .int .i64 0]) ∧ Below w.heap.size w w' := by
  have HA := Lib.hid h
  have hlen := h.len
  have hi0 : (0 : Int) ≤ (i : Int) := by omega
  have hi1 : (i : Int) < (d.S.length : Int) := by omega
  have hh : d.has (i : Int) = true := by unfold D.has; simp [hi]
  obtain ⟨ac, cp, elv⟩ := h.lvShape
  have HLv := Lib.hid elv
  clear h elv
  go_enter Tryz.func29, Tryz.ntmps29
  go_wp2_with fail
  have hb := Blk.newAt (w := w) (cs := (fillA 0)) 72 _ zeros64 rfl rfl
  obtain ⟨wA, hw⟩ : ∃ wA, wA = w.alloc (.cells (fillA 0) 72) := ⟨_, rfl⟩
  change Calls _ _ _ (w.alloc (.cells (fillA 0) 72)) _
  rw [← hw] at hb ⊢
  have HBel := Lib.hid (show Below w.heap.size w wA by rw [hw]; exact (Below.refl _ _).alloc (Nat.le_refl _) _)
  have hA := HA.out.below HBel.out
  have H := Lib.hid (rhas_any wA base b sb lv d hA i)
  rw [hh] at H
  have HB := Lib.hid hb
  have c0 : wA.cell? ⟨b, 0, none⟩ = some (.slice (some ⟨sb, 0, none⟩) d.S.length d.S.length) := hA.blk.cell rfl
  obtain ⟨s0, hs0⟩ : ∃ s0, d.S[i]? = some s0 := ⟨_, List.getElem?_eq_getElem hi⟩
  have HS0 := Lib.hid (hA.hS s0 (List.mem_of_getElem? hs0))
  have HL0 := Lib.hid (flat_load hA.sec hA.hS hs0)
  have HSi := Lib.hid hs0
  clear hb hw hh hA hs0
  refine H.out.mono ?_
  rintro e w' ⟨rfl, rfl⟩
  go_wp2_with (first | ((with_reducible refine isLoad ?_); refine wpList_load_g 72 _ rfl sb (i * 64) rfl rfl s0 _ Tryz.underlying72 rfl (by rw [HS0.out.size]; exact info72) HL0.out ?_) | ((with_reducible refine isNew ?_); refine wpList_store_new 72 _ _ rfl rfl 72 _ s0 rfl rfl (by rw [HS0.out.size]; exact info72) (zeros_size _ HS0.out) HS0.out.one ?_; intro w2 hx hbx; have HX := Lib.hid hx; have HBx := Lib.hid hbx; clear hx hbx))
  have HR2 : Hid (Blk w2 w.heap.size zeros64) := Lib.hid (HB.out.below HBx.out HB.out.lt)
  have HBw : Hid (Below w.heap.size w w2) := Lib.hid (HBel.out.trans (HBx.out.mono HBel.out.size))
  have HNe : Hid (w.heap.size ≠ wA.heap.size) := Lib.hid (Nat.ne_of_lt HB.out.lt)
  clear c0
  go_loopg [7] d.L.length (fun g z wr => ∃ (k : Nat) (cs : Array Value), d.L.length - k ≤ g ∧ k ≤ d.L.length ∧ z = .int .i64 k ∧ (app d.S (d.L.take k))[i]? = some cs ∧ Blk wr wA.heap.size cs.toList ∧ Blk wr w.heap.size zeros64 ∧ Below w.heap.size w wr)
  case atStart => exact ⟨0, s0, by omega, by omega, rfl, HSi.out, HX.out, HR2.out, HBw.out⟩
  case round =>
    obtain ⟨k, cs, hg, hk, rfl, hcs, hx, hr, hbw⟩ := hrel
    have hA := HA.out.below hbw
    have c1 : wr.cell? ⟨b, 1, none⟩ = some lv := hA.blk.cell rfl
    rw [HLv.out] at c1
    have HCs := Lib.hid hcs
    have HXr := Lib.hid hx
    have HRr := Lib.hid hr
    have HBr := Lib.hid hbw
    have HSec : Hid (Sec cs) := Lib.hid (app_sec HA.out.hS (fun p hp => (HA.out.hL p (List.mem_of_mem_take hp)).1) cs (List.mem_of_getElem? hcs))
    clear hcs hx hr hbw
    by_cases hlt : k < d.L.length
    · have hk0 : (0 : Int) ≤ (k : Int) := by omega
      have hk1 : (k : Int) < (d.L.length : Int) := by omega
      obtain ⟨p, hp⟩ : ∃ p, d.L[k]? = some p := ⟨_, List.getElem?_eq_getElem hlt⟩
      obtain ⟨j, s⟩ := p
      obtain ⟨g, cap, elv, cI, cS⟩ := hA.loose hp
      have HSs : Hid (Sec s) := Lib.hid (hA.hL _ (List.mem_of_getElem? hp)).1
      have HP := Lib.hid hp
      have HcS := Lib.hid cS
      have eac : ac = some ⟨g, 0, none⟩ := by
        have := HLv.out.symm.trans elv
        simp at this
        exact this.1
      subst eac
      clear hp cS elv hA
      by_cases hji : j = i
      · subst hji
        have q1 : ((j : Int) == (j : Int)) = true := beq_iff_eq.2 rfl
        go_wp2_with (first | ((with_reducible refine isLoad ?_); refine wpList_load_g 72 _ rfl g (k * 65 + 1) rfl rfl s _ Tryz.underlying72 rfl (by rw [HSs.out.size]; exact info72) HcS.out ?_) | ((with_reducible refine isStore ?_); refine wpList_store_loc 72 _ _ rfl rfl wA.heap.size _ s rfl rfl HXr.out (by rw [HSs.out.size]; exact info72) (by rw [HSs.out.size]; simpa using HSec.out.size) HSs.out.one ?_; intro w3 hx hox; have HX3 := Lib.hid hx; have HO3 := Lib.hid hox; clear hx hox))
        go_roundg (d.L.length - (k + 1))
        case measure => omega
        case rel => exact ⟨k + 1, s, by omega, by omega, by go_num, app_take_yes HP.out hi, HX3.out, HRr.out.only HO3.out HNe.out, HBr.out.trans (HO3.out.below HBr.out.size fun k e => by rw [e]; exact HBel.out.size)⟩
      · have q1 : ((j : Int) == (i : Int)) = false := beq_eq_false_iff_ne.2 (by omega)
        go_wp2_with fail
        go_roundg (d.L.length - (k + 1))
        case measure => omega
        case rel => exact ⟨k + 1, cs, by omega, by omega, by go_num, by rw [app_take_no HP.out hji]; exact HCs.out, HXr.out, HRr.out, HBr.out⟩
    · have hkl : k = d.L.length := by omega
      subst hkl
      clear hlt hA
      have hcs := HCs.out
      rw [List.take_length] at hcs
      obtain ⟨e1, e2⟩ := read_yes_eq hi hcs
      have HE := Lib.hid e1
      clear hcs e1 e2
      go_wp2_with (first | ((with_reducible refine isLoad ?_); refine wpList_load_g 72 _ rfl wA.heap.size 0 rfl rfl cs _ Tryz.underlying72 rfl (by rw [HSec.out.size]; exact info72) (HXr.out.cells _ rfl) ?_) | ((with_reducible refine isStore ?_); refine wpList_store_loc 72 _ _ rfl rfl w.heap.size _ cs rfl rfl HRr.out (by rw [HSec.out.size]; exact info72) (by rw [HSec.out.size]; rfl) HSec.out.one ?_; intro w3 hx hox; have HX3 := Lib.hid hx; have HO3 := Lib.hid hox; clear hx hox))
      refine bodyPost_ret (v := .tuple #[.agg cs, .int .i64 0]) (results_cell_tmp rfl _ _ w.heap.size 0 cs _ _ rfl rfl Tryz.underlying72 rfl (by rw [HSec.out.size]; exact info72) (HX3.out.cells _ rfl)) rfl ⟨by rw [HE.out], ?_⟩
      exact HBr.out.trans (HO3.out.below HBr.out.size fun k e => by rw [e]; exact Nat.le_refl _)
theorem rread_any (w : World) (base b sb : Nat) (lv : Value) (d : D) (h : RefIs w base b sb lv d) (hLn : d.L.length ≤ 1000000) (i : Int) :
    Calls Tryz.prog 29 #[.pointer (some ⟨b, 0, none⟩), .int .i64 i] w fun e w' => e = .returned (.tuple #[.agg (d.read i), .int .i64 (d.readE i)]) ∧ Below w.heap.size w w' := by
  cases hh : d.has i
  · have := rread_no w base b sb lv d h i hh
    have e1 : d.read i = fillA 0 := by unfold D.read; rw [hh]; rfl
    have e2 : d.readE i = 1 := by unfold D.readE; rw [hh]; rfl
    rw [e1, e2]
    exact this
  · have e2 : d.readE i = 0 := by unfold D.readE; rw [hh]; rfl
    rw [e2]
    obtain ⟨k, rfl, hk⟩ : ∃ k : Nat, i = k ∧ k < d.S.length := by
      unfold D.has at hh
      simp only [Bool.and_eq_true, decide_eq_true_eq] at hh
      exact ⟨i.toNat, by omega, by omega⟩
    exact rread_yes w base b sb lv d h hLn k hk
structure RMid (w wr : World) (base b sb : Nat) (lv : Value) (d : D) (kp : Nat → Bool) (k : Nat) : Prop where
  blk : Blk wr b [.slice (some ⟨sb, 0, none⟩) d.S.length d.S.length, lv, .int .i64 d.F, .int .i64 d.T]
  sec : Blk wr sb (flat (app d.S (keptTo d.L kp k)))
  own : wr.ownsRow base 133 65 lv d.L.length (flatL d.L)
  only : Only (rfoot b sb lv) w wr
theorem RMid.start {w : World} {base b sb : Nat} {lv : Value} {d : D} (h : RefIs w base b sb lv d) (kp : Nat → Bool) : RMid w w base b sb lv d kp 0 := ⟨h.blk, h.sec, h.own, Only.refl _ _⟩
theorem RMid.loose {w wr : World} {base b sb : Nat} {lv : Value} {d : D} {kp : Nat → Bool} {k : Nat} (hd : RefIs w base b sb lv d) (h : RMid w wr base b sb lv d kp k) {p : Nat × Array Value} (hk : d.L[k]? = some p) : ∃ g cap, lv = .slice (some ⟨g, 0, none⟩) d.L.length cap ∧ wr.cell? ⟨g, k * 65, none⟩ = some (.int .i64 p.1) ∧ ∀ x (hx : x < p.2.size), wr.cell? ⟨g, k * 65 + 1 + x, none⟩ = some p.2[x] :=
  RefIs.loose (d := { d with S := app d.S (keptTo d.L kp k) }) (base := base) (b := b) (sb := sb)
    { blk := by simpa using h.blk, sec := h.sec, own := h.own, hS := app_sec hd.hS fun p hp => (hd.hL p (keptTo_mem hp)).1, hL := by simpa using hd.hL, n1 := hd.n1, o1 := hd.o1, o2 := hd.o2, b1 := hd.b1, b2 := hd.b2, len := by simpa using hd.len, f := hd.f } hk
/-- One that is kept is done. -/
theorem RMid.done {w wr : World} {base b sb : Nat} {lv : Value} {d : D} {kp : Nat → Bool} {k i : Nat} {s : Array Value} (hd : RefIs w base b sb lv d) (h : RMid w wr base b sb lv d kp k) (hk : d.L[k]? = some (i, s)) (hkp : kp k = true) :
    RMid w (wr.drew.setRow sb (splice (flat (app d.S (keptTo d.L kp k))) (i * 64) s)) base b sb lv d kp (k + 1) := by
  have hm := hd.hL _ (List.mem_of_getElem? hk)
  have hS0 : ∀ t ∈ app d.S (keptTo d.L kp k), Sec t := app_sec hd.hS fun p hp => (hd.hL p (keptTo_mem hp)).1
  have hsp := flat_splice hS0 (i := i) (by rw [app_length]; exact hm.2) hm.1
  have e2 : (app d.S (keptTo d.L kp k)).set i s = app d.S (keptTo d.L kp (k + 1)) := by rw [keptTo_yes hk hkp, app_snoc]
  rw [e2] at hsp
  have hsec := h.sec.drew.row (splice (flat (app d.S (keptTo d.L kp k))) (i * 64) s)
  rw [hsp] at hsec
  exact ⟨h.blk.drew.rowOther hd.n1 _, hsec, ownsRow_of' h.own fun k hk => setRow_other _ _ _ _ fun e => hd.o2 (by rw [hk, e]), h.only.trans ((Only.refl _ _).drew.setRow (.inl (.inr (.inl rfl))) _)⟩
theorem RMid.stop {w wr : World} {base b sb : Nat} {lv : Value} {d : D} {kp : Nat → Bool} (hd : RefIs w base b sb lv d) (h : RMid w wr base b sb lv d kp d.L.length) :
    RefIs (wr.setCell ⟨b, 1, none⟩ (.slice none 0 0)) base b sb (.slice none 0 0) { d with S := app d.S (keptTo d.L kp d.L.length), L := [] } ∧ Only (rfoot b sb lv) w (wr.setCell ⟨b, 1, none⟩ (.slice none 0 0)) := by
  refine ⟨?_, h.only.setCell (.inl (.inl rfl)) _⟩
  exact { blk := by have := h.blk.set 1 (.slice none 0 0); simpa using this
          sec := h.sec.setOther hd.n1.symm _
          own := World.ownsRow_nil _ _ _ _
          hS := app_sec hd.hS fun p hp => (hd.hL p (keptTo_mem hp)).1
          hL := by simp
          n1 := hd.n1, o1 := by simp [Value.ownBlock], o2 := by simp [Value.ownBlock], b1 := hd.b1, b2 := hd.b2, len := by simpa using hd.len, f := hd.f }
set_option maxRecDepth 100000 in
set_option maxHeartbeats 1000000 in
theorem rflush_any (w0 : World) (base b sb : Nat) (lv : Value) (d : D) (h : RefIs w0 base b sb lv d) (hT : d.T ≤ 1000000) (hLn : d.L.length ≤ 1000000) :
    Calls Tryz.prog 52 #[.pointer (some ⟨b, 0, none⟩)] w0 (RDid w0 base b sb lv (.int .i64 d.flushE) d.flush) := by
  have H := Lib.hid (rfails_any w0 base b sb lv d h hT)
  unfold D.ask at H
  unfold D.flushE D.flush
  clear h
  by_cases h0 : d.F = 0
  · rw [if_pos h0, if_pos h0]
    rw [if_pos h0, show decide (d.F = 0) = true by simp [h0]] at H
    clear h0
    go_enter Tryz.func52, Tryz.ntmps52
    go_wp2_with fail
    refine H.out.mono ?_
    rintro e w' ⟨rfl, hd, ho⟩
    have HD := Lib.hid hd
    have HO := Lib.hid ho
    clear hd ho
    go_wp2_with fail
    go_ret
    exact RDid.same HD.out HO.out
  · rw [if_neg h0, if_neg h0]
    rw [if_neg h0, show decide (d.F = 0) = false by simp [h0]] at H
    clear h0
    have HSv := Lib.hid (show app d.S (keptTo d.L (fun _ => true) d.L.length) = app d.S d.L by rw [keptTo_all _ _ (Nat.le_refl _), List.take_length])
    go_enter Tryz.func52, Tryz.ntmps52
    go_wp2_with fail
    refine H.out.mono ?_
    rintro e w ⟨rfl, hd, ho⟩
    have HO := Lib.hid ho
    generalize hdd : ({ S := d.S, L := d.L, F := d.nextF, T := d.T + 1 } : D) = d2 at hd
    have HR := Lib.hid hd
    have HE : Hid (d2.S = d.S ∧ d2.L = d.L ∧ d2.F = d.nextF ∧ d2.T = d.T + 1) := Lib.hid (by subst hdd; exact ⟨rfl, rfl, rfl, rfl⟩)
    have HFinD : Hid (({ d2 with S := app d2.S (keptTo d2.L (fun _ => true) d2.L.length), L := [] } : D) = { d with F := d.nextF, T := d.T + 1, S := app d.S d.L, L := [] }) := Lib.hid (by subst hdd; simp only; rw [HSv.out])
    have hLn2 : d2.L.length ≤ 1000000 := by subst hdd; exact hLn
    clear hd ho hdd H hT hLn HSv HE
    go_wp2_with fail
    go_loopg [3] d2.L.length (fun g z wr => ∃ (k : Nat), d2.L.length - k ≤ g ∧ k ≤ d2.L.length ∧ z = .int .i64 k ∧ RMid w wr base b sb lv d2 (fun _ => true) k)
    case atStart => exact ⟨0, by omega, by omega, rfl, RMid.start HR.out _⟩
    case round =>
      obtain ⟨k, hg, hk, rfl, hmid⟩ := hrel
      by_cases hlt : k < d2.L.length
      · skip
        have hk0 : (0 : Int) ≤ (k : Int) := by omega
        have hk1 : (k : Int) < (d2.L.length : Int) := by omega
        obtain ⟨p, hp⟩ : ∃ p, d2.L[k]? = some p := ⟨_, List.getElem?_eq_getElem hlt⟩
        obtain ⟨i, s⟩ := p
        obtain ⟨g, cap, elv, cI, cS⟩ := hmid.loose HR.out hp
        have hpm := HR.out.hL _ (List.mem_of_getElem? hp)
        have HSs : Hid (Sec s) := Lib.hid hpm.1
        have hi : i < d2.S.length := hpm.2
        have hi0 : (0 : Int) ≤ (i : Int) := by omega
        have hi1 : (i : Int) < (d2.S.length : Int) := by omega
        have HP := Lib.hid hp
        have HcS := Lib.hid cS
        have HM := Lib.hid hmid
        have c0 : wr.cell? ⟨b, 0, none⟩ = some (.slice (some ⟨sb, 0, none⟩) d2.S.length d2.S.length) := hmid.blk.cell rfl
        have c1 : wr.cell? ⟨b, 1, none⟩ = some lv := hmid.blk.cell rfl
        rw [elv] at c1
        clear hp cS elv hpm hmid
        go_wp2_with fail
        refine wp_region_still_tail 21 (by kernel_rfl) (by kernel_rfl) ?_
        simp only [List.take_succ_cons, List.take_zero, List.drop_succ_cons, List.drop_zero]
        change wpStill _ _ wr.drew (fun a' => wpList _ _ _ _ a' wr.drew) _ _
        still_step
        still_step
        still_step
        still_step
        still_step
        still_step
        still_step
        still_step
        still_step
        still_step
        still_step
        still_step
        still_step
        still_step
        still_step
        still_step
        still_step
        still_step
        still_step
        refine wpStill_run (.agg s) rfl (exec_load_at _ _ _ 72 _ rfl g (k * 65 + 1) rfl s _ Tryz.underlying72 rfl (by rw [HSs.out.size]; exact info72) HcS.out) ?_
        still_step
        refine wpStill_nil ?_
        have hS0 : ∀ t ∈ app d2.S (keptTo d2.L (fun _ => true) k), Sec t := app_sec HR.out.hS fun p hp => (HR.out.hL p (keptTo_mem hp)).1
        refine wpList_store_at rfl 72 _ _ rfl sb (i * 64) s rfl rfl _ HM.out.sec.drew (by rw [HSs.out.size]; exact info72) (by rw [flat_length hS0, HSs.out.size, app_length]; omega) HSs.out.one ?_
        have HN := Lib.hid (HM.out.done HR.out HP.out rfl)
        clear hS0
        generalize wr.drew.setRow sb (splice (flat (app d2.S (keptTo d2.L (fun _ => true) k))) (i * 64) s) = w3 at *
        clear c0 c1 cI
        go_wp2_with fail
        go_roundg (d2.L.length - (k + 1))
        case measure => omega
        case rel => exact ⟨k + 1, by omega, by omega, by go_num, HN.out⟩
      · have hkl : k = d2.L.length := by omega
        subst hkl
        obtain ⟨ac, cp, elv⟩ := HR.out.lvShape
        have c1 : wr.cell? ⟨b, 1, none⟩ = some lv := hmid.blk.cell rfl
        have f1 := hmid.blk.frozen 1
        rw [elv] at c1
        have HN := Lib.hid (hmid.stop HR.out)
        rw [HFinD.out] at HN
        clear hmid hlt elv
        go_wp2_with fail
        go_ret
        exact ⟨.slice none 0 0, rfl, HN.out.1, HO.out.trans HN.out.2, by simp [Value.ownBlock]⟩
def Rv (W w : World) (q : Nat) (G : Nat → Prop) (d : D) : Prop := (∃ sb lv, G = rfoot q sb lv ∧ RefIs w W.heap.size q sb lv d) ∧ Below W.heap.size W w
theorem Rv.lt {W w : World} {q : Nat} {G : Nat → Prop} {d : D} (h : Rv W w q G d) : ∀ k, G k → W.heap.size ≤ k ∧ k < w.heap.size := by
  obtain ⟨⟨sb, lv, rfl, h⟩, _⟩ := h
  exact h.foot_lt
theorem Rv.go {W w w' : World} {q : Nat} {G : Nat → Prop} {d : D} (h : Rv W w q G d) {S : Nat → Prop} (ho : Only S w w') (hS : ∀ k, S k → W.heap.size ≤ k) (hG : ∀ k, G k → ¬ S k) : Rv W w' q G d := by
  obtain ⟨⟨sb, lv, rfl, hr⟩, hB⟩ := h
  exact ⟨⟨sb, lv, rfl, hr.only ho hG⟩, hB.trans (ho.below hB.size hS)⟩
/-- Two devices apart. -/
structure Both (W w : World) (b : Nat) (F : Nat → Prop) (q : Nat) (G : Nat → Prop) (d r : D) : Prop where
  dv : Dv W w b F d
  rv : Rv W w q G r
  dj : ∀ k, F k → ¬ G k
theorem Both.below {W w w' : World} {b q : Nat} {F G : Nat → Prop} {d r : D} (h : Both W w b F q G d r) (hb : Below w.heap.size w w') : Both W w' b F q G d r :=
  ⟨h.dv.below hb, h.rv.go (S := fun _ => False) (Only.of_below hb) (fun _ h => h.elim) (fun _ _ h => h), h.dj⟩
theorem Both.drew {W w : World} {b q : Nat} {F G : Nat → Prop} {d r : D} (h : Both W w b F q G d r) : Both W w.drew b F q G d r := h.below (Below.refl _ _).drew
theorem Both.dev {W w w' : World} {b q : Nat} {F F' G : Nat → Prop} {d r d' : D} (h : Both W w b F q G d r) (hd : Dv W w' b F' d') (ho : Only F w w') (hn : ∀ k, F' k → F k ∨ w.heap.size ≤ k) : Both W w' b F' q G d' r :=
  ⟨hd, h.rv.go ho (fun k hk => (h.dv.lt k hk).1) (fun k hg hf => h.dj k hf hg), fun k hf hg => by
    rcases hn k hf with h1 | h1
    · exact h.dj k h1 hg
    · have := (h.rv.lt k hg).2; omega⟩
def RAfter (W w : World) (q : Nat) (G : Nat → Prop) (r : Value) (d : D) (e : Ending) (w' : World) : Prop := ∃ G', e = .returned r ∧ Rv W w' q G' d ∧ Only G w w' ∧ ∀ k, G' k → G k ∨ w.heap.size ≤ k
theorem RAfter.of {W w : World} {q sb : Nat} {lv r : Value} {d : D} {e : Ending} {w' : World} (hB : Below W.heap.size W w) (hf : ∀ k, rfoot q sb lv k → W.heap.size ≤ k) (h : RDid w W.heap.size q sb lv r d e w') : RAfter W w q (rfoot q sb lv) r d e w' := by
  obtain ⟨lv', rfl, hd, ho, hl⟩ := h
  refine ⟨rfoot q sb lv', rfl, ⟨⟨sb, lv', rfl, hd⟩, hB.trans (ho.below hB.size hf)⟩, ho, ?_⟩
  rintro k (rfl | rfl | hk)
  · exact .inl (.inl rfl)
  · exact .inl (.inr (.inl rfl))
  · rcases hl k hk with h | h
    · exact .inl (.inr (.inr h))
    · exact .inr h
theorem rv_write {W w : World} {q : Nat} {G : Nat → Prop} {d : D} (h : Rv W w q G d) (hT : d.T ≤ 1000000) (hLn : d.L.length ≤ 1000000) (i : Int) (cs : Array Value) (hs : Sec cs) :
    Calls Tryz.prog 51 #[.pointer (some ⟨q, 0, none⟩), .int .i64 i, .agg cs] w (RAfter W w q G (.int .i64 (d.writeE i)) (d.write i cs)) := by
  obtain ⟨⟨sb, lv, rfl, hd⟩, hB⟩ := h
  cases hh : d.has i
  · have e1 : d.writeE i = 1 := by unfold D.writeE; rw [hh]; rfl
    have e2 : d.write i cs = d := by unfold D.write; rw [hh]; rfl
    rw [e1, e2]
    refine (rwrite_no w W.heap.size q sb lv d hd i hh cs).mono ?_
    rintro e w' ⟨rfl, hb⟩
    exact ⟨_, rfl, ⟨⟨sb, lv, rfl, hd.below hb⟩, hB.trans (hb.mono hB.size)⟩, Only.of_below hb, fun _ h => .inl h⟩
  · have e1 : d.writeE i = d.flushE := by unfold D.writeE D.flushE; rw [if_pos hh]
    rw [e1]
    exact (rwrite_yes w W.heap.size q sb lv d hd hT hLn hB.size i hh cs hs).mono fun e w' h => h.elim fun lv' h' => RAfter.of hB (fun k hk => (hd.foot_lt k hk).1) ⟨lv', h'⟩
theorem rv_flush {W w : World} {q : Nat} {G : Nat → Prop} {d : D} (h : Rv W w q G d) (hT : d.T ≤ 1000000) (hLn : d.L.length ≤ 1000000) :
    Calls Tryz.prog 52 #[.pointer (some ⟨q, 0, none⟩)] w (RAfter W w q G (.int .i64 d.flushE) d.flush) := by
  obtain ⟨⟨sb, lv, rfl, hd⟩, hB⟩ := h
  exact (rflush_any w W.heap.size q sb lv d hd hT hLn).mono fun e w' h => RAfter.of hB (fun k hk => (hd.foot_lt k hk).1) h
theorem rv_read {W w : World} {q : Nat} {G : Nat → Prop} {d : D} (h : Rv W w q G d) (hLn : d.L.length ≤ 1000000) (i : Int) :
    Calls Tryz.prog 29 #[.pointer (some ⟨q, 0, none⟩), .int .i64 i] w fun e w' => e = .returned (.tuple #[.agg (d.read i), .int .i64 (d.readE i)]) ∧ Below w.heap.size w w' := by
  obtain ⟨⟨sb, lv, rfl, hd⟩, hB⟩ := h
  exact rread_any w W.heap.size q sb lv d hd hLn i
theorem rv_new (W w : World) (hB : Below W.heap.size W w) (n : Nat) (hn : 1 ≤ n ∧ n ≤ 1024) : Calls Tryz.prog 13 #[.int .i64 n] w fun e w' => ∃ q G, e = .returned (.tuple #[.pointer (some ⟨q, 0, none⟩), .int .i64 0]) ∧ Rv W w' q G (newD n) ∧ Below w.heap.size w w' ∧ ∀ k, G k → w.heap.size ≤ k := by
  refine (rnew_any W.heap.size n hn w hB.size).mono ?_
  rintro e w' ⟨q, sb, rfl, hr, hb, h1, h2⟩
  refine ⟨q, rfoot q sb (.slice none 0 0), rfl, ⟨⟨sb, _, rfl, hr⟩, hB.trans (hb.mono hB.size)⟩, hb, ?_⟩
  rintro k (rfl | rfl | hk)
  · exact h1
  · exact h2
  · simp [Value.ownBlock] at hk
/-- The document's failure set in place. -/
theorem Rv.setF {W w : World} {q : Nat} {G : Nat → Prop} {d : D} (h : Rv W w q G d) (n : Int) (hn : I64 n) : Rv W (w.setCell ⟨q, 2, none⟩ (.int .i64 n)) q G { d with F := n } ∧ Only G w (w.setCell ⟨q, 2, none⟩ (.int .i64 n)) ∧ w.cell? ⟨q, 2, none⟩ = some (.int .i64 d.F) ∧ w.frozen? ⟨q, 2, none⟩ = false := by
  obtain ⟨⟨sb, lv, rfl, hd⟩, hB⟩ := h
  have ho : Only (rfoot q sb lv) w (w.setCell ⟨q, 2, none⟩ (.int .i64 n)) := (Only.refl _ _).setCell (.inl (.inl rfl)) _
  exact ⟨⟨⟨sb, lv, rfl, hd.setF hn⟩, hB.trans (ho.below hB.size fun k hk => (hd.foot_lt k hk).1)⟩, ho, hd.blk.cell rfl, hd.blk.frozen 2⟩
theorem D.read_sec {W w : World} {b : Nat} {F : Nat → Prop} {d : D} (h : Dv W w b F d) (i : Int) : Sec (d.read i) := by
  unfold D.read
  split
  · rw [List.getD_eq_getElem?_getD]
    cases hx : (app d.S d.L)[i.toNat]? with
    | none => exact fillA_sec 0
    | some s => exact h.secs s (List.mem_of_getElem? hx)
  · exact fillA_sec 0
end De

end Go.Proofs.YtmlniannilnmhaaGreatDoor
