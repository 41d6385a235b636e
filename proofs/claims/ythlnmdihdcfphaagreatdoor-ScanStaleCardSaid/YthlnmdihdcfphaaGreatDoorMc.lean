/- Gk: texts of elder seats turned: what the stage needs of them. Gl: texts of elder seats turned: what the stage needs of them. -/
import Derived.Test.YthlnmdihdcfphaaGreatDoorMb
import Derived.Test.YthlnmdihdcfphaaGreatDoorMa
import Derived.BigQuiet
import Derived.Deep.QuietTactic
import Derived.RegionTactic
namespace Go.Proofs.YthlnmdihdcfphaaGreatDoor
set_option linter.unusedSimpArgs false
set_option linter.unusedVariables false
open Go.RowKit

theorem It.split (x : It) (sv : Value) : x.cells sv = (.int .i64 x.mark.1 :: .int .i64 x.mark.2 :: .int .i64 x.blk.kind :: .int .i64 x.blk.id :: (u8s x.blk.page ++ [.int .i64 x.blk.off])) ++ sv :: (.int .i64 x.blk.prev :: i64s x.blk.heads) := by simp [It.cells, Bk.cells]
theorem It.at37 {x : It} (h : x.Wf) (sv : Value) : (x.cells sv)[37]? = some sv := by
  have hp := h.b.page
  rw [It.split, List.getElem?_append_right (by simp [hp])]
  simp [hp]
theorem It.set37 {x : It} (h : x.Wf) (sv tv : Value) : (x.cells sv).set 37 tv = x.cells tv := by
  have hp := h.b.page
  rw [It.split, It.split, List.set_append_right _ _ (by simp [hp])]
  simp [hp]
theorem lit0B (w : World) (B : Nat) (hB : B ≤ w.heap.size) : Own (w.alloc (.cells #[] 5)) B (.slice (some ⟨w.heap.size, 0, none⟩) 0 0) [] := Own.lit w B hB [] (by simp) #[] (by simp)
theorem Own.only1 {w w' : World} {B t : Nat} {sv : Value} {l : List Int} (h : Own w B sv l) (ho : Only (fun k => k = t) w w') (ht : t < B) : Own w' B sv l := by
  refine ⟨h.1, ?_⟩
  rcases h.2 with hn | ⟨g, cap, cur, e, hB, hg, r⟩
  · exact .inl hn
  · exact .inr ⟨g, cap, cur, e, hB, (ho.block g (Array.getElem?_eq_some_iff.1 hg).1 (by omega)).trans hg, r⟩
set_option maxRecDepth 100000 in
theorem kown_any (x : It) (sv : Value) (hw : x.Wf) (hl : x.blk.bytes.length ≤ 1000) (w : World) (h : BytesAt w sv x.blk.bytes) : Calls Tryz.prog 34 #[.agg (x.arr sv)] w fun e w' => ∃ tv, e = .returned (.agg (x.arr tv)) ∧ Own w' w.heap.size tv x.blk.bytes ∧ Below w.heap.size w w' := by
  obtain ⟨sa, sc, hs⟩ : ∃ a c, sv = .slice a x.blk.bytes.length c := by
    obtain ⟨a, c, e, -⟩ := h
    exact ⟨a, c, e⟩
  subst hs
  have HH := Lib.hid h
  have HW := Lib.hid hw
  have HLN := Lib.hid hl
  clear h hw hl
  go_enter Tryz.func34, Tryz.ntmps34
  go_upto_region 0 with fail
  refine wp_region_lit ?_
  refine box_g (cs := x.arr (.slice sa x.blk.bytes.length sc)) rfl rfl ?_
  intro w1 hB hb hlt
  try simp only [Act.put, List.setIfInBounds_toArray, List.set_cons_succ, List.set_cons_zero]
  have HB1 := Lib.hid hB
  have HL1 := Lib.hid hb
  have HT1 := Lib.hid hlt
  clear hB hb hlt
  refine alloc_g zero75b rfl ?_
  intro w2 hA hb hlt
  try simp only [Act.put, List.setIfInBounds_toArray, List.set_cons_succ, List.set_cons_zero]
  have HA := Lib.hid hA
  have HB2 := Lib.hid (HB1.out.below hb HT1.out)
  have HL2 := Lib.hid (stay HL1.out hb)
  have HT2 := Lib.hid hlt
  have HT3 := Lib.hid HL1.out.size
  clear hA hb hlt HB1 HL1
  refine wpList_nil ?_
  go_upto_region 1 with fail
  refine wp_region_lit ?_
  refine wpList_run (.slice (some ⟨w2.heap.size, 0, none⟩) 0 0) (w2.alloc (.cells #[] 5)) rfl (by go_simp) ?_
  try simp only [Act.put, List.setIfInBounds_toArray, List.set_cons_succ, List.set_cons_zero]
  have HO := Lib.hid (lit0B w2 w2.heap.size (Nat.le_refl _))
  have HL3 := Lib.hid (alloc_bel w2 (.cells #[] 5))
  generalize w2.alloc (.cells #[] 5) = w3 at *
  have c37 : w3.cell? ⟨w.heap.size, 37, none⟩ = some (.slice sa x.blk.bytes.length sc) := by
    refine (HB2.out.below HL3.out HB2.out.lt).cell ?_
    simpa [It.arr] using It.at37 HW.out (.slice sa x.blk.bytes.length sc)
  refine takeL (.pointer (some ⟨w.heap.size, 2, none⟩)) rfl (by go_simp) ?_
  try simp only [Act.put, List.setIfInBounds_toArray, List.set_cons_succ, List.set_cons_zero]
  refine takeL (.pointer (some ⟨w.heap.size, 37, none⟩)) rfl (by go_simp) ?_
  try simp only [Act.put, List.setIfInBounds_toArray, List.set_cons_succ, List.set_cons_zero]
  refine takeL (.slice sa x.blk.bytes.length sc) rfl (by go_simp) ?_
  try simp only [Act.put, List.setIfInBounds_toArray, List.set_cons_succ, List.set_cons_zero]
  refine app_L HO.out HL3.out.size ((HH.out.below HL2.out).below HL3.out) (by have := HLN.out; simp only [List.length_nil]; omega) rfl rfl rfl ?_
  intro tv w4 ho hb4
  try simp only [Act.put, List.setIfInBounds_toArray, List.set_cons_succ, List.set_cons_zero]
  rw [List.nil_append] at ho
  have HO4 := Lib.hid ho
  have HL4 := Lib.hid (HL3.out.trans hb4)
  clear ho hb4 c37 HO HL3
  have hb5 := HB2.out.below HL4.out HB2.out.lt
  have c37 : w4.cell? ⟨w.heap.size, 37, none⟩ = some (.slice sa x.blk.bytes.length sc) := by
    refine hb5.cell ?_
    simpa [It.arr] using It.at37 HW.out (.slice sa x.blk.bytes.length sc)
  have hf := hb5.frozen 37
  have HB5 := Lib.hid hb5
  clear hb5
  obtain ⟨ta, tc, htv⟩ : ∃ ta tc, tv = .slice ta x.blk.bytes.length tc := by
    obtain ⟨a, c, e, -⟩ := HO4.out.bytes
    exact ⟨a, c, e⟩
  subst htv
  refine takeL (.pointer (some ⟨w.heap.size, 2, none⟩)) rfl (by go_simp) ?_
  try simp only [Act.put, List.setIfInBounds_toArray, List.set_cons_succ, List.set_cons_zero]
  refine takeL (.pointer (some ⟨w.heap.size, 37, none⟩)) rfl (by go_simp) ?_
  try simp only [Act.put, List.setIfInBounds_toArray, List.set_cons_succ, List.set_cons_zero]
  have HO5 : Hid (Only (fun k => k = w.heap.size) w4 (w4.setCell ⟨w.heap.size, 37, none⟩ (.slice ta x.blk.bytes.length tc))) := Lib.hid ((Only.refl (fun k => k = w.heap.size) w4).setCell (p := ⟨w.heap.size, 37, none⟩) (.inl rfl) _)
  have HB6 : Hid (Blk (w4.setCell ⟨w.heap.size, 37, none⟩ (.slice ta x.blk.bytes.length tc)) w.heap.size (x.arr (.slice ta x.blk.bytes.length tc)).toList) := Lib.hid (by
    have := HB5.out.set 37 (.slice ta x.blk.bytes.length tc)
    have e : (x.arr (.slice sa x.blk.bytes.length sc)).toList.set 37 (.slice ta x.blk.bytes.length tc) = (x.arr (.slice ta x.blk.bytes.length tc)).toList := by
      simp only [It.arr]
      exact It.set37 HW.out _ _
    rwa [e] at this)
  have HO6 := Lib.hid (HO4.out.only1 HO5.out (by have := HB2.out.lt; omega))
  have HA5 := Lib.hid ((HA.out.below HL4.out HA.out.lt).only HO5.out (by have := HT1.out; omega))
  have HW5 := Lib.hid ((stay HL2.out HL4.out).trans (HO5.out.below (B := w.heap.size) (Nat.le_trans HL2.out.size HL4.out.size) fun k hk => by omega))
  go_upto_region 2 with fail
  generalize w4.setCell ⟨w.heap.size, 37, none⟩ (.slice ta x.blk.bytes.length tc) = w5 at *
  refine wp_region_lit ?_
  refine load75 (g := w.heap.size) (off := 0) (cs := x.arr (.slice ta x.blk.bytes.length tc)) (HB6.out.all rfl) (x.arr_size HW.out _) rfl rfl ?_
  try simp only [Act.put, List.setIfInBounds_toArray, List.set_cons_succ, List.set_cons_zero]
  refine store_all (cs := x.arr (.slice ta x.blk.bytes.length tc)) HA5.out (same75 It.none_wf HW.out _ _) (info75s HW.out _) (It.arr_one rfl) rfl rfl rfl ?_
  intro w6 hD hO hlD
  try simp only [Act.put, List.setIfInBounds_toArray, List.set_cons_succ, List.set_cons_zero]
  have HO7 := Lib.hid (HO6.out.only1 hO (by have := HT2.out; omega))
  have HW6 := Lib.hid (HW5.out.trans (hO.below HW5.out.size fun k hk => by have := HT3.out; omega))
  refine wpList_nil ?_
  go_wp2_with fail
  refine bodyPost_ret (v := .agg (x.arr (.slice ta x.blk.bytes.length tc))) (results_cell_at rfl _ _ w1.heap.size 0 _ _ rfl Tryz.underlying75 rfl (info75s HW.out _) (hD.all rfl)) rfl ⟨_, rfl, HO7.out.mono HL2.out.size, HW6.out⟩
theorem Own.fresh {w : World} {B : Nat} {sv : Value} {l : List Int} (h : Own w B sv l) : Fresh B sv := fun b o n c e => (h.lt b (by rw [e]; rfl)).1
end Go.Proofs.YthlnmdihdcfphaaGreatDoor
namespace Go.Proofs.YthlnmdihdcfphaaGreatDoor
set_option linter.unusedSimpArgs false
set_option linter.unusedVariables false
open Go.RowKit

/-- What the reference's Lay tells. -/
def layR (n : Int) (L : List It) : St := if mayBe L then lay2 n L else ([], [])
theorem Blk.setB {w : World} {b c : Nat} {l : List Value} (h : Blk w b l) {i : Nat} {v : Value} (hne : b ≠ c) : Blk (w.setCell ⟨c, i, none⟩ v) b l := h.setOther hne v
theorem set_bel {B : Nat} {w w' : World} {b i : Nat} {v : Value} (h : Below B w w') (hb : B ≤ b) (hB : B ≤ w.heap.size) : Below B w (w'.setCell ⟨b, i, none⟩ v) := h.trans (((Only.refl (fun k => k = b) w').setCell (p := ⟨b, i, none⟩) (.inl rfl) v).below (Nat.le_trans hB h.size) fun k hk => by omega)
theorem ownsRow_only {w w' : World} {B e s n t : Nat} {sv : Value} {xs : List Value} (h : w.ownsRow B e s sv n xs) (ho : Only (fun k => k = t) w w') (ht : t < B) : w'.ownsRow B e s sv n xs := by
  refine ⟨h.1, ?_⟩
  rcases h.2 with hn | ⟨g, cap, cur, e, hB, hg, r⟩
  · exact .inl hn
  · exact .inr ⟨g, cap, cur, e, hB, (ho.block g (Array.getElem?_eq_some_iff.1 hg).1 (by omega)).trans hg, r⟩
theorem OwnS.only {w w' : World} {B t : Nat} {sv : Value} {l : List (List Int)} (h : OwnS w B sv l) (ho : Only (fun k => k = t) w w') (ht : t < B) : OwnS w' B sv l := ⟨ownsRow_only h.row ho ht, h.all⟩
theorem OwnN.onlyN {w w' : World} {B t : Nat} {sv : Value} {l : List Int} (h : OwnN w B sv l) (ho : Only (fun k => k = t) w w') (ht : t < B) : OwnN w' B sv l := ownsRow_only h ho ht
/-- The struct that the reference's Lay fills, in block b, and its lists; block r is its result. -/
structure RL (w wr : World) (r b : Nat) (s7 s8 : Value) (st : St) : Prop where
  v : Blk wr b [s7, s8, .bool true]
  rv : Blk wr r [.slice none 0 0, .slice none 0 0, .bool false]
  s : OwnS wr (b + 1) s7 st.1
  a : OwnN wr (b + 1) s8 st.2
  bel : Below w.heap.size w wr
  lo : w.heap.size ≤ r
  rb : r < b
theorem RL.below {w wr w2 : World} {r b : Nat} {s7 s8 : Value} {st : St} (h : RL w wr r b s7 s8 st) (hb : Below wr.heap.size wr w2) : RL w w2 r b s7 s8 st :=
  ⟨h.v.below hb h.v.lt, h.rv.below hb h.rv.lt, h.s.below hb, h.a.below hb, stay h.bel hb, h.lo, h.rb⟩
theorem RL.size {w wr : World} {r b : Nat} {s7 s8 : Value} {st : St} (h : RL w wr r b s7 s8 st) : b + 1 ≤ wr.heap.size := h.v.lt
theorem RL.secs {w wr w2 : World} {r b : Nat} {s7 s8 t7 : Value} {st : St} {l : List (List Int)} (h : RL w wr r b s7 s8 st) (ho : OwnS w2 (b + 1) t7 l) (hg : wr.grownBy w2 s7.ownBlock) : RL w (w2.setCell ⟨b, 0, none⟩ t7) r b t7 s8 (l, st.2) := by
  have hr : ∀ k, s7.ownBlock = some k → b + 1 ≤ k := fun k hk => (h.s.lt k hk).1
  have h1 := h.v.grown hg fun k hk => by have := hr k hk; omega
  have h2 := h.rv.grown hg fun k hk => by have := hr k hk; have := h.rb; omega
  refine ⟨h1.set 0 t7, h2.setB (by have := h.rb; omega), ⟨ownsRow_setCell_below ho.row (Nat.lt_succ_self b) t7, ho.all⟩, ownsRow_setCell_below (h.a.keep hg (ownsRow_type h.s.row) (by decide)) (Nat.lt_succ_self b) t7, ?_, h.lo, h.rb⟩
  exact set_bel (h.bel.trans (grown_below hg h.bel.size fun k hk => by have := hr k hk; have := h.lo; have := h.rb; omega)) (by have := h.lo; have := h.rb; omega) (Nat.le_refl _)
theorem RL.ats {w wr w2 : World} {r b : Nat} {s7 s8 t8 : Value} {st : St} {l : List Int} (h : RL w wr r b s7 s8 st) (ho : OwnN w2 (b + 1) t8 l) (hg : wr.grownBy w2 s8.ownBlock) : RL w (w2.setCell ⟨b, 1, none⟩ t8) r b s7 t8 (st.1, l) := by
  have hr : ∀ k, s8.ownBlock = some k → b + 1 ≤ k := fun k hk => (h.a.lt k hk).1
  have h1 := h.v.grown hg fun k hk => by have := hr k hk; omega
  have h2 := h.rv.grown hg fun k hk => by have := hr k hk; have := h.rb; omega
  refine ⟨h1.set 1 t8, h2.setB (by have := h.rb; omega), ⟨ownsRow_setCell_below (h.s.keep hg (ownsRow_type h.a) (by decide)).row (Nat.lt_succ_self b) t8, h.s.all⟩, ownsRow_setCell_below ho (Nat.lt_succ_self b) t8, ?_, h.lo, h.rb⟩
  exact set_bel (h.bel.trans (grown_below hg h.bel.size fun k hk => by have := hr k hk; have := h.lo; have := h.rb; omega)) (by have := h.lo; have := h.rb; omega) (Nat.le_refl _)
/-- The summary that the reference's Lay fills, in block u. -/
structure RSm (wA wr : World) (u : Nat) (q : Int) (mo : Bool) (sv : Value) (ms : List Mk) : Prop where
  v : Blk wr u [.int .u32 q, .bool mo, sv, .int .i64 0]
  o : OwnM wr (u + 1) sv ms
  bel : Below wA.heap.size wA wr
  lo : wA.heap.size ≤ u
theorem RSm.below {wA wr w2 : World} {u : Nat} {q : Int} {mo : Bool} {sv : Value} {ms : List Mk} (h : RSm wA wr u q mo sv ms) (hb : Below wr.heap.size wr w2) : RSm wA w2 u q mo sv ms :=
  ⟨h.v.below hb h.v.lt, h.o.below hb, stay h.bel hb, h.lo⟩
theorem RSm.add {wA wr w2 : World} {u : Nat} {q : Int} {mo : Bool} {sv sv' : Value} {ms ms' : List Mk} (h : RSm wA wr u q mo sv ms) (ho : OwnM w2 (u + 1) sv' ms') (hB : Below (u + 1) wr w2) : RSm wA (w2.setCell ⟨u, 2, none⟩ sv') u q mo sv' ms' :=
  ⟨(h.v.below hB (Nat.lt_succ_self u)).set 2 sv', ownsRow_setCell_below ho (Nat.lt_succ_self u) sv', set_bel (h.bel.trans (hB.mono (by have := h.lo; omega))) h.lo (Nat.le_refl _), h.lo⟩
theorem MarksAt.lt {w : World} {mv : Value} {l : List Mk} (h : MarksAt w mv l) (hl : 0 < l.length) {b o n c : Nat} (e : mv = .slice (some ⟨b, o, none⟩) n c) : b < w.heap.size := by
  obtain ⟨b', o', cap, e2, hc⟩ := h.has hl
  rw [e] at e2
  cases e2
  exact block_lt_of_cell (hc 0 l[0] (by simp)).1
/-- The program's, in the same words. -/
theorem lay_alike (l : List (It × Value)) (L : List It) (hL : l.map (·.1) = L) (n : Int) (hn : Seq32 n) (sv : Value) (hlen : l.length < 100000) (w : World) (h : ItemsAt w sv l) : Calls Tryz.prog 59 #[.int .u32 n, sv] w fun e w' => ∃ s7 s8, e = .returned (.tuple #[s7, s8, .int .i64 (if mayBe L then 0 else 1)]) ∧ Two w w' s7 s8 (layR n L) := by
  cases hm : mayBe L
  · refine (lay_no l L hL hm n sv hlen w h).mono ?_
    rintro e w' ⟨rfl, hb⟩
    refine ⟨_, _, rfl, ?_⟩
    unfold layR
    rw [hm]
    exact ⟨OwnS.nil _ _, OwnN.nil _ _, hb⟩
  · refine (lay_yes l L hL hm n hn sv w h).mono ?_
    rintro e w' ⟨s7, s8, rfl, ht⟩
    refine ⟨_, _, rfl, ?_⟩
    unfold layR
    rw [hm]
    exact ht

end Go.Proofs.YthlnmdihdcfphaaGreatDoor
