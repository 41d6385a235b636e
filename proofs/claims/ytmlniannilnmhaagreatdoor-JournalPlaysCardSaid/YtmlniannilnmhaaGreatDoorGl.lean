/- Gl: texts of elder seats turned: what the stage needs of them. -/
import Derived.Test.YtmlniannilnmhaaGreatDoorGk
import Derived.Test.YtmlniannilnmhaaGreatDoorGe
namespace Go.Proofs.YtmlniannilnmhaaGreatDoor
set_option linter.unusedSimpArgs false
set_option linter.unusedVariables false
open Go.RowKit

/-- What the reference's Lay tells. -/
def layR (n : Int) (L : List It) : St := if mayBe L then lay2 n L else ([], [])
theorem zero121 : (Tryz.prog.info? 121).bind (·.zero) = some (.agg #[.slice none 0 0, .slice none 0 0, .bool false]) := by kernel_rfl
theorem info121 : (Tryz.prog.info? 121).map (·.size) = some 3 := by kernel_rfl
theorem built121 : Tryz.prog.built 121 [(2, .bool true)] = some #[.slice none 0 0, .slice none 0 0, .bool true] := by kernel_rfl
theorem built121z : Tryz.prog.built 121 [] = some #[.slice none 0 0, .slice none 0 0, .bool false] := by kernel_rfl
theorem Blk.setB {w : World} {b c : Nat} {l : List Value} (h : Blk w b l) {i : Nat} {v : Value} (hne : b ≠ c) : Blk (w.setCell ⟨c, i, none⟩ v) b l := h.setOther hne v
theorem set_bel {B : Nat} {w w' : World} {b i : Nat} {v : Value} (h : Below B w w') (hb : B ≤ b) (hB : B ≤ w.heap.size) : Below B w (w'.setCell ⟨b, i, none⟩ v) := h.trans (((Only.refl (fun k => k = b) w').setCell (p := ⟨b, i, none⟩) (.inl rfl) v).below (Nat.le_trans hB h.size) fun k hk => by omega)
theorem at_grown {w w' : World} {g off : Nat} {cs : Array Value} {row : Option Nat} (h : At w g off cs) (hg : w.grownBy w' row) (hlt : g < w.heap.size) (hne : ∀ k, row = some k → k ≠ g) : At w' g off cs := fun j hj => by
  have hb := hg.block g hlt fun e => hne g e.symm rfl
  rw [← h j hj]
  simp only [World.cell?, hb]
theorem at_set {w : World} {g off b i : Nat} {v : Value} {cs : Array Value} (h : At w g off cs) (hne : g ≠ b) : At (w.setCell ⟨b, i, none⟩ v) g off cs := fun j hj => by
  have hb := heap_setCell_other w ⟨b, i, none⟩ g v hne
  rw [← h j hj]
  simp only [World.cell?, hb]
theorem ownsRow_only {w w' : World} {B e s n t : Nat} {sv : Value} {xs : List Value} (h : w.ownsRow B e s sv n xs) (ho : Only (fun k => k = t) w w') (ht : t < B) : w'.ownsRow B e s sv n xs := by
  refine ⟨h.1, ?_⟩
  rcases h.2 with hn | ⟨g, cap, cur, e, hB, hg, r⟩
  · exact .inl hn
  · exact .inr ⟨g, cap, cur, e, hB, (ho.block g (Array.getElem?_eq_some_iff.1 hg).1 (by omega)).trans hg, r⟩
theorem OwnS.only {w w' : World} {B t : Nat} {sv : Value} {l : List (List Int)} (h : OwnS w B sv l) (ho : Only (fun k => k = t) w w') (ht : t < B) : OwnS w' B sv l := ⟨ownsRow_only h.row ho ht, h.all⟩
theorem OwnN.onlyN {w w' : World} {B t : Nat} {sv : Value} {l : List Int} (h : OwnN w B sv l) (ho : Only (fun k => k = t) w w') (ht : t < B) : OwnN w' B sv l := ownsRow_only h ho ht
/-- The struct that the reference's Lay fills, in block b, and its lists; block r is its result. -/
structure RL (w wr : World) (r b : Nat) (s7 s8 : Value) (st : St) : Prop where
  v : Blk wr b [s7, s8, .bool true]
  rv : Blk wr r [.slice none 0 0, .slice none 0 0, .bool false]
  s : OwnS wr (b + 1) s7 st.1
  a : OwnN wr (b + 1) s8 st.2
  bel : Below w.heap.size w wr
  lo : w.heap.size ≤ r
  rb : r < b
theorem RL.below {w wr w2 : World} {r b : Nat} {s7 s8 : Value} {st : St} (h : RL w wr r b s7 s8 st) (hb : Below wr.heap.size wr w2) : RL w w2 r b s7 s8 st :=
  ⟨h.v.below hb h.v.lt, h.rv.below hb h.rv.lt, h.s.below hb, h.a.below hb, stay h.bel hb, h.lo, h.rb⟩
theorem RL.size {w wr : World} {r b : Nat} {s7 s8 : Value} {st : St} (h : RL w wr r b s7 s8 st) : b + 1 ≤ wr.heap.size := h.v.lt
theorem RL.secs {w wr w2 : World} {r b : Nat} {s7 s8 t7 : Value} {st : St} {l : List (List Int)} (h : RL w wr r b s7 s8 st) (ho : OwnS w2 (b + 1) t7 l) (hg : wr.grownBy w2 s7.ownBlock) : RL w (w2.setCell ⟨b, 0, none⟩ t7) r b t7 s8 (l, st.2) := by
  have hr : ∀ k, s7.ownBlock = some k → b + 1 ≤ k := fun k hk => (h.s.lt k hk).1
  have h1 := h.v.grown hg fun k hk => by have := hr k hk; omega
  have h2 := h.rv.grown hg fun k hk => by have := hr k hk; have := h.rb; omega
  refine ⟨h1.set 0 t7, h2.setB (by have := h.rb; omega), ⟨ownsRow_setCell_below ho.row (Nat.lt_succ_self b) t7, ho.all⟩, ownsRow_setCell_below (h.a.keep hg (ownsRow_type h.s.row) (by decide)) (Nat.lt_succ_self b) t7, ?_, h.lo, h.rb⟩
  exact set_bel (h.bel.trans (grown_below hg h.bel.size fun k hk => by have := hr k hk; have := h.lo; have := h.rb; omega)) (by have := h.lo; have := h.rb; omega) (Nat.le_refl _)
theorem RL.ats {w wr w2 : World} {r b : Nat} {s7 s8 t8 : Value} {st : St} {l : List Int} (h : RL w wr r b s7 s8 st) (ho : OwnN w2 (b + 1) t8 l) (hg : wr.grownBy w2 s8.ownBlock) : RL w (w2.setCell ⟨b, 1, none⟩ t8) r b s7 t8 (st.1, l) := by
  have hr : ∀ k, s8.ownBlock = some k → b + 1 ≤ k := fun k hk => (h.a.lt k hk).1
  have h1 := h.v.grown hg fun k hk => by have := hr k hk; omega
  have h2 := h.rv.grown hg fun k hk => by have := hr k hk; have := h.rb; omega
  refine ⟨h1.set 1 t8, h2.setB (by have := h.rb; omega), ⟨ownsRow_setCell_below (h.s.keep hg (ownsRow_type h.a) (by decide)).row (Nat.lt_succ_self b) t8, h.s.all⟩, ownsRow_setCell_below ho (Nat.lt_succ_self b) t8, ?_, h.lo, h.rb⟩
  exact set_bel (h.bel.trans (grown_below hg h.bel.size fun k hk => by have := hr k hk; have := h.lo; have := h.rb; omega)) (by have := h.lo; have := h.rb; omega) (Nat.le_refl _)
/-- The summary that the reference's Lay fills, in block u. -/
structure RSm (wA wr : World) (u : Nat) (q : Int) (mo : Bool) (sv : Value) (ms : List Mk) : Prop where
  v : Blk wr u [.int .u32 q, .bool mo, sv, .int .i64 0]
  o : OwnM wr (u + 1) sv ms
  bel : Below wA.heap.size wA wr
  lo : wA.heap.size ≤ u
theorem RSm.below {wA wr w2 : World} {u : Nat} {q : Int} {mo : Bool} {sv : Value} {ms : List Mk} (h : RSm wA wr u q mo sv ms) (hb : Below wr.heap.size wr w2) : RSm wA w2 u q mo sv ms :=
  ⟨h.v.below hb h.v.lt, h.o.below hb, stay h.bel hb, h.lo⟩
theorem RSm.add {wA wr w2 : World} {u : Nat} {q : Int} {mo : Bool} {sv sv' : Value} {ms ms' : List Mk} (h : RSm wA wr u q mo sv ms) (ho : OwnM w2 (u + 1) sv' ms') (hB : Below (u + 1) wr w2) : RSm wA (w2.setCell ⟨u, 2, none⟩ sv') u q mo sv' ms' :=
  ⟨(h.v.below hB (Nat.lt_succ_self u)).set 2 sv', ownsRow_setCell_below ho (Nat.lt_succ_self u) sv', set_bel (h.bel.trans (hB.mono (by have := h.lo; omega))) h.lo (Nat.le_refl _), h.lo⟩
theorem ItAt.mks {w : World} {g off : Nat} {x : It} {sv : Value} (h : ItAt w g off x sv) : w.cell? ⟨g, off, none⟩ = some (.int .i64 x.mark.1) ∧ w.cell? ⟨g, off + 1, none⟩ = some (.int .i64 x.mark.2) := ⟨h.c0, h.c1⟩
theorem wf_head {q : Int} (hq : Seq32 q) {C : List It} (w : ∀ x ∈ C, x.Wf) (mo : Bool) : Sm.Wf ⟨q, mo, marks C⟩ := ⟨hq, fun p hp => by
  obtain ⟨x, hx, rfl⟩ := List.mem_map.1 hp
  exact ⟨(w x hx).k, (w x hx).i⟩⟩
set_option maxRecDepth 100000 in
theorem rlay_no (l : List (It × Value)) (L : List It) (hL : l.map (·.1) = L) (hm : mayBe L = false) (n : Int) (sv : Value) (hlen : l.length < 100000) (w : World) (h : ItemsAt w sv l) : Calls Tryz.prog 48 #[.int .u32 n, sv] w fun e w' => e = .returned (.agg #[.slice none 0 0, .slice none 0 0, .bool false]) ∧ Below w.heap.size w w' := by
  have HM := Lib.hid fun w h => hL ▸ rgoodG_any l l.length rfl sv (by omega) w h
  rw [hm] at HM
  have HI := Lib.hid h
  obtain ⟨a, cap, rfl, -⟩ := h
  clear hL
  go_enter Tryz.func48, Tryz.ntmps48
  go_upto_region 0 with fail
  refine wp_region_lit ?_
  refine alloc_g zero121 rfl ?_
  intro w0 hR hb hl
  try simp only [Act.put, List.setIfInBounds_toArray, List.set_cons_succ, List.set_cons_zero]
  have HR := Lib.hid hR
  have HB := Lib.hid hb
  clear hR hb hl
  refine wpList_nil ?_
  go_wp2_with fail
  refine (HM.out _ (HI.out.below HB.out)).mono ?_
  rintro e w1 ⟨rfl, hb⟩
  have HB1 := Lib.hid (stay HB.out hb)
  have HR1 := Lib.hid (HR.out.below hb HR.out.lt)
  clear hb HM HB HR
  go_upto_region 2 with fail
  refine wp_region_lit ?_
  refine takeL (.agg #[.slice none 0 0, .slice none 0 0, .bool false]) rfl (exec_build _ _ _ _ 121 _ rfl #[] (by simp) _ (run_build w1 121 _ _ built121z)) ?_
  try simp only [Act.put, List.setIfInBounds_toArray, List.set_cons_succ, List.set_cons_zero]
  refine store_all (cs := #[.slice none 0 0, .slice none 0 0, .bool false]) HR1.out rfl info121 (by simp [Value.oneCell']) rfl rfl rfl ?_
  intro w2 hD hO hlD
  try simp only [Act.put, List.setIfInBounds_toArray, List.set_cons_succ, List.set_cons_zero]
  have HB2 := Lib.hid (HB1.out.trans (hO.below HB1.out.size fun k hk => Nat.le_of_eq hk.symm))
  have HD := Lib.hid hD
  clear hD hO hlD
  refine wpList_nil ?_
  go_wp2_with fail
  refine bodyPost_ret (v := .agg #[.slice none 0 0, .slice none 0 0, .bool false]) (results_cell_at rfl _ _ w.heap.size 0 _ _ rfl Tryz.underlying121 rfl info121 (HD.out.all rfl)) rfl ⟨rfl, HB2.out⟩
set_option maxRecDepth 100000 in
set_option maxHeartbeats 8000000 in
theorem rlay_yes (l : List (It × Value)) (L : List It) (hL : l.map (·.1) = L) (hm : mayBe L = true) (n : Int) (hn : Seq32 n) (sv : Value) (w : World) (h : ItemsAt w sv l) : Calls Tryz.prog 48 #[.int .u32 n, sv] w fun e w' => ∃ s7 s8, e = .returned (.agg #[s7, s8, .bool true]) ∧ Two w w' s7 s8 (lay2 n L) := by
  have hln : l.length ≤ 64 := by have := (mayBe_iff.1 hm).2.1; rw [← hL, List.length_map] at this; exact this
  have HM := Lib.hid fun w h => hL ▸ rgoodG_any l l.length rfl sv (by omega) w h
  rw [hm] at HM
  have hLn : L.length = l.length := by rw [← hL, List.length_map]
  have HLN := Lib.hid hLn
  have hp3 := (parts_pos hm).2
  rw [hLn] at hp3
  have HOK := Lib.hid (mayBe_iff.1 hm).2.2.1
  have HWFL := Lib.hid (show ∀ x ∈ L, x.Wf from fun x hx => h.wf x (by rw [hL]; exact hx))
  have HL := Lib.hid hL
  have HI := Lib.hid h
  have HSEQ := Lib.hid hn
  have HPN : Hid (∀ k, (k < parts l.length ↔ 24 * k < l.length)) := Lib.hid (fun k => by unfold parts; omega)
  have HPP : Hid (parts L.length = parts l.length) := Lib.hid (by rw [hLn])
  obtain ⟨P, hP⟩ : ∃ P, parts l.length = P := ⟨_, rfl⟩
  rw [hP] at hp3 HPN HPP
  obtain ⟨N, hN⟩ : ∃ N, l.length = N := ⟨_, rfl⟩
  obtain ⟨g, o, cap, rfl, hcap, hgw, hc⟩ := h.has (by have := (mayBe_iff.1 hm).1; rw [hLn] at this; exact this)
  have HC := Lib.hid hc
  have HG := Lib.hid hgw
  have HNN := Lib.hid hN
  rw [hN] at hln HPN HI HLN HM hcap ⊢
  clear hL hm hLn hc hP hN hcap hn h hgw
  go_enter Tryz.func48, Tryz.ntmps48
  go_upto_region 0 with fail
  refine wp_region_lit ?_
  refine alloc_g zero121 rfl ?_
  intro w0 hR hb hl
  try simp only [Act.put, List.setIfInBounds_toArray, List.set_cons_succ, List.set_cons_zero]
  have HR := Lib.hid hR
  have HB := Lib.hid hb
  have HRL : Hid (w.heap.size < w0.heap.size) := Lib.hid hl
  clear hR hb hl
  refine wpList_nil ?_
  go_wp2_with fail
  refine (HM.out _ (HI.out.below HB.out)).mono ?_
  rintro e w1 ⟨rfl, hb⟩
  have HB1 := Lib.hid (stay HB.out hb)
  have HR1 := Lib.hid (HR.out.below hb HR.out.lt)
  have HRL1 : Hid (w.heap.size < w1.heap.size) := Lib.hid (Nat.lt_of_lt_of_le HRL.out hb.size)
  clear hb HM HB HR HRL
  go_upto_region 3 with fail
  refine wp_region_lit ?_
  refine takeL (.agg #[.slice none 0 0, .slice none 0 0, .bool true]) rfl (exec_build _ _ _ _ 121 _ rfl #[(2, .bool true)] (by simp only [List.map_toArray, List.map_cons, List.map_nil]; rfl) _ (run_build w1 121 _ _ built121)) ?_
  try simp only [Act.put, List.setIfInBounds_toArray, List.set_cons_succ, List.set_cons_zero]
  refine alloc_g zero121 rfl ?_
  intro w2 hA hb hl
  try simp only [Act.put, List.setIfInBounds_toArray, List.set_cons_succ, List.set_cons_zero]
  refine store_all (cs := #[.slice none 0 0, .slice none 0 0, .bool true]) hA rfl info121 (by simp [Value.oneCell']) rfl rfl rfl ?_
  intro w3 hD hO hlD
  try simp only [Act.put, List.setIfInBounds_toArray, List.set_cons_succ, List.set_cons_zero]
  have hbb : Below w1.heap.size w1 w3 := hb.trans (hO.below hb.size fun k hk => Nat.le_of_eq hk.symm)
  have HT1 : Hid (RL w w3 w.heap.size w1.heap.size (.slice none 0 0) (.slice none 0 0) (layTo n L 0)) := Lib.hid ⟨hD, HR1.out.below hbb HR1.out.lt, OwnS.nil _ _, OwnN.nil _ _, stay HB1.out hbb, Nat.le_refl _, HRL1.out⟩
  clear hA hb hl hD hO hlD hbb HR1 HB1
  obtain ⟨r, hr⟩ : ∃ r, w.heap.size = r := ⟨_, rfl⟩
  rw [hr] at HT1 ⊢
  obtain ⟨b, hb⟩ : ∃ b, w1.heap.size = b := ⟨_, rfl⟩
  rw [hb] at HT1 ⊢
  have HRE := Lib.hid hr
  clear hb HRL1
  refine wpList_nil ?_
  go_wp2_with fail
  have H0 : Hid ((n + (0 : Nat)) % M32 = n) := Lib.hid (by have := HSEQ.out.1; have := HSEQ.out.2; rw [Int.emod_eq_of_lt] <;> simp_all)
  go_loopg [0, 6] P (fun q u0 u6 wr => ∃ (k : Nat) (s7 s8 : Value), P - k ≤ q ∧ k ≤ P ∧ u0 = .int .u32 ((n + (k : Int)) % M32) ∧ u6 = .int .i64 ((24 * k : Nat) : Int) ∧ RL w wr r b s7 s8 (layTo n L k))
  case atStart => exact ⟨0, _, _, by omega, by omega, by rw [H0.out], rfl, HT1.out⟩
  case round =>
    obtain ⟨k, s7, s8, hq, hk, rfl, rfl, ht⟩ := hrel
    have HT := Lib.hid ht
    clear ht HT1 H0
    have hkN := HPN.out k
    obtain ⟨f, hf⟩ : ∃ f, 24 * k = f := ⟨_, rfl⟩
    have gk1 : Hid (24 * k = f) := Lib.hid hf
    rw [hf] at hkN ⊢
    obtain ⟨q1, hq1⟩ : ∃ q, (n + (k : Int)) % M32 = q := ⟨_, rfl⟩
    rw [hq1]
    have HQ : Hid (Seq32 q1) := Lib.hid (by rw [← hq1]; exact seq_mod _)
    by_cases hlt : k < P
    · have hfN : f < N := hkN.1 hlt
      obtain ⟨e, he⟩ : ∃ e, (if f + 24 < N then f + 24 else N) = e := ⟨_, rfl⟩
      have he1 : f < e ∧ e ≤ N ∧ e ≤ f + 24 := by split at he <;> omega
      obtain ⟨mo, hmo⟩ : ∃ v, decide (24 * k + 24 < N) = v := ⟨_, rfl⟩
      have gm : Hid (decide (e < N) = mo) := Lib.hid (by rw [← hmo]; split at he <;> (congr 1; apply propext; omega))
      have gmin2 : Hid (f + 24 < N → e = f + 24) := Lib.hid (by split at he <;> omega)
      have gmin3 : Hid (¬ f + 24 < N → e = N) := Lib.hid (by split at he <;> omega)
      obtain ⟨c, hc⟩ : ∃ c, e = f + c := ⟨e - f, by omega⟩
      have HCH : Hid (chunk L k = (L.drop f).take c) := Lib.hid (by
        unfold chunk
        rw [hf]
        split at he
        · rw [show c = 24 by omega]
        · rw [List.take_of_length_le (by rw [List.length_drop, HLN.out]; omega), List.take_of_length_le (by rw [List.length_drop, HLN.out]; omega)])
      have HSU : Hid (layTo n L (k + 1) = stepPart q1 mo (chunk L k) (layTo n L k)) := Lib.hid (by rw [layTo, hq1, HLN.out, hmo])
      have HSN : Hid (IntKind.u32.wrap (q1 + 1) = (n + ((k + 1 : Nat) : Int)) % M32) := Lib.hid (by rw [IntKind.wrap_u32, ← hq1]; unfold M32; omega)
      have HSC := Lib.hid (sec_sc ⟨q1, mo, marks ((L.drop f).take c)⟩)
      have HMEM : Hid (∀ x ∈ (L.drop f).take c, x.ok = true) := Lib.hid fun x hx => HOK.out x (List.mem_of_mem_drop (List.mem_of_mem_take hx))
      have HWFC : Hid (∀ x ∈ (L.drop f).take c, x.Wf) := Lib.hid fun x hx => HWFL.out x (List.mem_of_mem_drop (List.mem_of_mem_take hx))
      have HCL : Hid (((L.drop f).take c).length = c) := Lib.hid (by rw [List.length_take, List.length_drop, HLN.out]; omega)
      have HCE : Hid (∀ j, j < c → ∃ x bv, ((L.drop f).take c)[j]? = some x ∧ l[f + j]? = some (x, bv)) := Lib.hid (by
        intro j hj
        obtain ⟨xv, hx⟩ : ∃ x, l[f + j]? = some x := ⟨_, List.getElem?_eq_getElem (by rw [HNN.out]; omega)⟩
        refine ⟨xv.1, xv.2, ?_, hx⟩
        rw [List.getElem?_take, if_pos hj, List.getElem?_drop, ← HL.out, List.getElem?_map, hx]
        rfl)
      generalize (L.drop f).take c = C at *
      have hy0 : headOfPart q1 mo C = Sm.sec ⟨q1, mo, marks C⟩ := rfl
      rw [← hy0] at HSC
      obtain ⟨y0, hy⟩ : ∃ y, headOfPart q1 mo C = y := ⟨_, rfl⟩
      rw [hy] at HSC
      have HY0 : Hid (Sm.sec ⟨q1, mo, marks C⟩ = y0) := Lib.hid hy
      have HSU2 : Hid (layTo n L (k + 1) = C.foldl (stepIt q1) ((layTo n L k).1 ++ [y0], (layTo n L k).2)) := Lib.hid (by rw [HSU.out, HCH.out, stepPart, hy])
      have HLT7 : Hid ((layTo n L k).1.length ≤ 100) := Lib.hid (by
        rw [layTo_length]
        have h1 := blocks_le (marks (L.take (24 * k)))
        rw [List.length_map, List.length_take] at h1
        omega)
      have HLT8 : Hid ((layTo n L k).2.length ≤ 100) := Lib.hid (by rw [layTo_at, List.length_take]; omega)
      have gk : decide ((f : Int) < (N : Int)) = true := decide_eq_true (by omega)
      have gc24 : c ≤ 24 := by omega
      have gce2 : Hid ((e : Int) = (f : Int) + (c : Int)) := Lib.hid (by omega)
      have gce3 : Hid (e = f + c) := Lib.hid hc
      have gf1 : f ≤ 64 := by omega
      have ge1 : e ≤ 64 := by omega
      have geN : Hid (e ≤ N ∧ f < e) := Lib.hid (by omega)
      have hcp : Hid (0 < c) := Lib.hid (by omega)
      have gw2 : Hid (IntKind.i64.wrap ((f : Int) + 24) = (f : Int) + 24) := Lib.hid (by rw [IntKind.wrap_i64]; omega)
      clear he hmo hq1 hf hc hy0 hy HSU HCH HOK he1 HWFL hkN
      go_upto_region 7 with fail
      refine wp_region_lit ?_
      refine takeL (.int .i64 f) rfl (by go_simp) ?_
      try simp only [Act.put, List.setIfInBounds_toArray, List.set_cons_succ, List.set_cons_zero]
      refine takeL (.int .i64 ((f : Int) + 24)) rfl (by have g := gw2.out; go_simp) ?_
      try simp only [Act.put, List.setIfInBounds_toArray, List.set_cons_succ, List.set_cons_zero]
      refine takeL (.slice (some ⟨g, o, none⟩) N cap) rfl (by go_simp) ?_
      try simp only [Act.put, List.setIfInBounds_toArray, List.set_cons_succ, List.set_cons_zero]
      refine takeL (.int .i64 N) rfl (by go_simp) ?_
      try simp only [Act.put, List.setIfInBounds_toArray, List.set_cons_succ, List.set_cons_zero]
      refine takeL (.int .i64 e) rfl (by have g1 := gk1.out; have g2 := gmin2.out; have g3 := gmin3.out; go_simp <;> (split <;> omega)) ?_
      try simp only [Act.put, List.setIfInBounds_toArray, List.set_cons_succ, List.set_cons_zero]
      refine takeL (.int .i64 e) rfl (by go_simp) ?_
      try simp only [Act.put, List.setIfInBounds_toArray, List.set_cons_succ, List.set_cons_zero]
      refine wpList_nil ?_
      clear gmin2 gmin3
      go_upto_region 8 with fail
      refine wp_region_lit ?_
      refine takeL (.int .u32 q1) rfl (by go_simp) ?_
      try simp only [Act.put, List.setIfInBounds_toArray, List.set_cons_succ, List.set_cons_zero]
      refine takeL (.int .i64 e) rfl (by go_simp) ?_
      try simp only [Act.put, List.setIfInBounds_toArray, List.set_cons_succ, List.set_cons_zero]
      refine takeL (.slice (some ⟨g, o, none⟩) N cap) rfl (by go_simp) ?_
      try simp only [Act.put, List.setIfInBounds_toArray, List.set_cons_succ, List.set_cons_zero]
      refine takeL (.int .i64 N) rfl (by go_simp) ?_
      try simp only [Act.put, List.setIfInBounds_toArray, List.set_cons_succ, List.set_cons_zero]
      refine takeL (.bool mo) rfl (by have g := gm.out; go_simp) ?_
      try simp only [Act.put, List.setIfInBounds_toArray, List.set_cons_succ, List.set_cons_zero]
      refine takeL (.agg #[.int .u32 q1, .bool mo, .slice none 0 0, .int .i64 0]) rfl (exec_build _ _ _ _ 150 _ rfl #[(0, .int .u32 q1), (1, .bool mo)] (by simp only [List.map_toArray, List.map_cons, List.map_nil]; rfl) _ (run_build wr 150 _ _ (built150n _ _))) ?_
      try simp only [Act.put, List.setIfInBounds_toArray, List.set_cons_succ, List.set_cons_zero]
      refine alloc_g zero150 rfl ?_
      intro w4 hA hb4 hl4
      try simp only [Act.put, List.setIfInBounds_toArray, List.set_cons_succ, List.set_cons_zero]
      refine store_all (cs := #[.int .u32 q1, .bool mo, .slice none 0 0, .int .i64 0]) hA rfl info150 (rsm_one0 _ _ _) rfl rfl rfl ?_
      intro w5 hD hO hlD
      try simp only [Act.put, List.setIfInBounds_toArray, List.set_cons_succ, List.set_cons_zero]
      have hbb : Below wr.heap.size wr w5 := hb4.trans (hO.below hb4.size fun k hk => Nat.le_of_eq hk.symm)
      have HS5 : Hid (RSm wr w5 wr.heap.size q1 mo (.slice none 0 0) (marks (C.take 0))) := Lib.hid ⟨hD, OwnM.nil _ _, hbb, Nat.le_refl _⟩
      clear hA hb4 hl4 hD hO hlD hbb gm
      obtain ⟨u, hu⟩ : ∃ u, wr.heap.size = u := ⟨_, rfl⟩
      rw [hu] at HS5 ⊢
      have HU := Lib.hid hu
      have HTW := HT
      obtain ⟨wA, hwA⟩ : ∃ W, W = wr := ⟨_, rfl⟩
      rw [← hwA] at HS5 HTW HU
      have HGW : Hid (g < wA.heap.size) := Lib.hid (by rw [hwA]; exact Nat.lt_of_lt_of_le HG.out HT.out.bel.size)
      clear hu hwA HT
      refine wpList_nil ?_
      go_wp2_with fail
      go_loopg [9] c (fun q i wr => ∃ (j : Nat) (sv : Value), c - j ≤ q ∧ j ≤ c ∧ i = .int .i64 ((f + j : Nat) : Int) ∧ RSm wA wr u q1 mo sv (marks (C.take j)))
      case atStart => exact ⟨0, _, by omega, by omega, rfl, HS5.out⟩
      case round =>
        obtain ⟨j, sv, hq2, hj, rfl, hs⟩ := hrel
        have HS := Lib.hid hs
        clear hs HS5
        obtain ⟨d, hd⟩ : ∃ d, f + j = d := ⟨_, rfl⟩
        rw [hd]
        have HD := Lib.hid hd
        by_cases hlj : j < c
        · have hde : d < e := by have := gce3.out; omega
          have gd : decide ((d : Int) < (e : Int)) = true := decide_eq_true (by omega)
          have hdi : (d : Int) < (e : Int) := by omega
          have hdN : (d : Int) < (N : Int) := by have := geN.out; omega
          obtain ⟨x, bv, hx1, hx2⟩ := HCE.out j hlj
          rw [hd] at hx2
          obtain ⟨x1, x2, x3⟩ := HC.out d _ hx2
          have HX := Lib.hid (ItAt.of (x3.below (HTW.out.bel.trans (HS.out.bel.mono HTW.out.bel.size)) HG.out)).mks
          have HMS : Hid (marks (C.take (j + 1)) = marks (C.take j) ++ [x.mark]) := Lib.hid (by rw [take_snoc hx1, marks, List.map_append]; rfl)
          have HML : Hid ((marks (C.take j)).length ≤ 24) := Lib.hid (by rw [List.length_map, List.length_take]; omega)
          obtain ⟨xm, hxm⟩ : ∃ m, x.mark = m := ⟨_, rfl⟩
          rw [hxm] at HX HMS
          obtain ⟨mk, mi⟩ := xm
          have HC1 := Lib.hid (fun wq (hS : Below u wr wq) => show wq.cell? ⟨g, o + d * 47, none⟩ = some (.int .i64 mk) ∧ wq.cell? ⟨g, o + d * 47 + 1, none⟩ = some (.int .i64 mi) from
            ⟨(hS.cell (p := ⟨g, o + d * 47, none⟩) (by have := HGW.out; have := HU.out; show g < u; omega)).trans HX.out.1, (hS.cell (p := ⟨g, o + d * 47 + 1, none⟩) (by have := HGW.out; have := HU.out; show g < u; omega)).trans HX.out.2⟩)
          clear hx1 hx2 x1 x2 x3 hxm HX hd
          go_upto_region 12 with fail
          refine startH (fun wq => Below u wr wq) (by kernel_rfl) ?_
          have HSd : Hid (Below u wr wr.drew) := Lib.hid ((Below.refl u wr).drew)
          have HRd := Lib.hid (HS.out.below (Below.refl _ _).drew)
          generalize wr.drew = wS at *
          refine takeH 0 (some 43) (.pointer (some ⟨u, 2, none⟩)) rfl rfl (by kernel_rfl) (by kernel_rfl) (by kernel_rfl) (fun _ _ _ h => h) rfl (fun wq hS => by go_simp) HSd.out ?_
          try simp only [Act.put, List.setIfInBounds_toArray, List.set_cons_succ, List.set_cons_zero]
          refine takeH 2 (some 45) (.slice (some ⟨g, o, none⟩) N cap) rfl rfl (by kernel_rfl) (by kernel_rfl) (by kernel_rfl) (fun _ _ _ h => h) rfl (fun wq hS => by go_simp) HSd.out ?_
          try simp only [Act.put, List.setIfInBounds_toArray, List.set_cons_succ, List.set_cons_zero]
          refine takeH 3 (some 46) (.int .i64 d) rfl rfl (by kernel_rfl) (by kernel_rfl) (by kernel_rfl) (fun _ _ _ h => h) rfl (fun wq hS => by go_simp) HSd.out ?_
          try simp only [Act.put, List.setIfInBounds_toArray, List.set_cons_succ, List.set_cons_zero]
          refine takeH 4 (some 47) (.pointer (some ⟨g, o + d * 47, none⟩)) rfl rfl (by kernel_rfl) (by kernel_rfl) (by kernel_rfl) (fun _ _ _ h => h) rfl (fun wq hS => by go_simp) HSd.out ?_
          try simp only [Act.put, List.setIfInBounds_toArray, List.set_cons_succ, List.set_cons_zero]
          refine takeH 5 (some 48) (.pointer (some ⟨g, o + d * 47, none⟩)) rfl rfl (by kernel_rfl) (by kernel_rfl) (by kernel_rfl) (fun _ _ _ h => h) rfl (fun wq hS => by go_simp) HSd.out ?_
          try simp only [Act.put, List.setIfInBounds_toArray, List.set_cons_succ, List.set_cons_zero]
          refine takeH 6 (some 49) (.agg #[.int .i64 mk, .int .i64 mi]) rfl rfl (by kernel_rfl) (by kernel_rfl) (by kernel_rfl) (fun _ _ _ h => h) rfl (fun wq hS => by have hq := (HC1.out wq hS).1; have hq2 := (HC1.out wq hS).2; go_simp) HSd.out ?_
          try simp only [Act.put, List.setIfInBounds_toArray, List.set_cons_succ, List.set_cons_zero]
          refine twoH 1 7 (by kernel_rfl) rfl rfl rfl rfl (fun K hK => ?_) (fun K hK => ?_)
          · refine wp_runTo (some 44) rfl sv wS (by have hq := HRd.out.v.cell (i := 2) rfl; go_simp) ?_
            refine hK _ _ HSd.out ?_
            clear hK K
            try simp only [Act.put, List.setIfInBounds_toArray, List.set_cons_succ, List.set_cons_zero]
            refine oneH 7 (by kernel_rfl) rfl rfl fun K hK => ?_
            refine wp_runTo (some 50) rfl (.slice (some ⟨wS.heap.size, 0, none⟩) 1 1) (wS.alloc (.cells #[.int .i64 mk, .int .i64 mi] 94)) (by go_simp) ?_
            have hb1 := (Below.refl wS.heap.size wS).alloc (Nat.le_refl _) (.cells #[.int .i64 mk, .int .i64 mi] 94)
            have HLL : Hid (MarksAt (wS.alloc (.cells #[.int .i64 mk, .int .i64 mi] 94)) (.slice (some ⟨wS.heap.size, 0, none⟩) 1 1) [(mk, mi)]) := Lib.hid (OwnM.lit wS wS.heap.size (Nat.le_refl _) [(mk, mi)] (by simp) _ rfl).marks
            have HSe : Hid (Below u wr (wS.alloc (.cells #[.int .i64 mk, .int .i64 mi] 94))) := Lib.hid (HSd.out.trans (hb1.mono (by have := HRd.out.v.lt; omega)))
            have HRe := Lib.hid (HRd.out.below hb1)
            clear hb1
            generalize wS.alloc (.cells #[.int .i64 mk, .int .i64 mi] 94) = wT at *
            generalize (Value.slice (some ⟨wS.heap.size, 0, none⟩) 1 1) = lv at *
            refine hK _ _ HSe.out ?_
            clear hK K
            try simp only [Act.put, List.setIfInBounds_toArray, List.set_cons_succ, List.set_cons_zero]
            refine oneH 8 (by kernel_rfl) rfl rfl fun K hK => ?_
            refine app_WM _ _ (some 51) rfl rfl HRe.out.o HRe.out.v.lt HLL.out (by have := HML.out; simp only [List.length_cons, List.length_nil]; omega) rfl rfl ?_
            intro sv' wU hO hB
            have HSf : Hid (Below u wr wU) := Lib.hid (HSe.out.trans (hB.mono (Nat.le_succ u)))
            have HRg : Hid (RSm wA (wU.setCell ⟨u, 2, none⟩ sv') u q1 mo sv' (marks (C.take (j + 1)))) := Lib.hid (HRe.out.add (by rw [HMS.out]; exact hO) hB)
            have HVf := Lib.hid (HRe.out.v.below hB (Nat.lt_succ_self u))
            obtain ⟨aq, cq, hsq, -⟩ := hO.marks
            refine hK _ _ HSf.out ?_
            clear hK K hO hB
            try simp only [Act.put, List.setIfInBounds_toArray, List.set_cons_succ, List.set_cons_zero]
            refine takeH 9 (some 52) (.pointer (some ⟨u, 2, none⟩)) rfl rfl (by kernel_rfl) (by kernel_rfl) (by kernel_rfl) (fun _ _ _ h => h) rfl (fun wq hS => by go_simp) HSf.out ?_
            try simp only [Act.put, List.setIfInBounds_toArray, List.set_cons_succ, List.set_cons_zero]
            refine oneH 10 (by kernel_rfl) rfl rfl fun K hK => ?_
            refine swp_skipTo none rfl (wU.setCell ⟨u, 2, none⟩ sv') (by have hq := HVf.out.cell (i := 2) rfl; have hf := HVf.out.frozen 2; rw [hsq]; go_simp) ?_
            have HSg : Hid (Below u wr (wU.setCell ⟨u, 2, none⟩ sv')) := Lib.hid (set_bel HSf.out (Nat.le_refl _) (by have := HS.out.v.lt; omega))
            refine hK _ _ HSg.out ?_
            clear hK K hsq
            generalize wU.setCell ⟨u, 2, none⟩ sv' = wV at *
            try simp only [Act.put, List.setIfInBounds_toArray, List.set_cons_succ, List.set_cons_zero]
            refine wpAnyH_done (by kernel_rfl) ?_ _
            go_wp2_with fail
            go_roundg (c - (j + 1))
            case measure => omega
            case rel => exact ⟨j + 1, sv', by omega, by omega, by have := HD.out; go_num, HRg.out⟩
          · refine wp_runTo (some 50) rfl (.slice (some ⟨wS.heap.size, 0, none⟩) 1 1) (wS.alloc (.cells #[.int .i64 mk, .int .i64 mi] 94)) (by go_simp) ?_
            have hb1 := (Below.refl wS.heap.size wS).alloc (Nat.le_refl _) (.cells #[.int .i64 mk, .int .i64 mi] 94)
            have HLL : Hid (MarksAt (wS.alloc (.cells #[.int .i64 mk, .int .i64 mi] 94)) (.slice (some ⟨wS.heap.size, 0, none⟩) 1 1) [(mk, mi)]) := Lib.hid (OwnM.lit wS wS.heap.size (Nat.le_refl _) [(mk, mi)] (by simp) _ rfl).marks
            have HSe : Hid (Below u wr (wS.alloc (.cells #[.int .i64 mk, .int .i64 mi] 94))) := Lib.hid (HSd.out.trans (hb1.mono (by have := HRd.out.v.lt; omega)))
            have HRe := Lib.hid (HRd.out.below hb1)
            clear hb1
            generalize wS.alloc (.cells #[.int .i64 mk, .int .i64 mi] 94) = wT at *
            generalize (Value.slice (some ⟨wS.heap.size, 0, none⟩) 1 1) = lv at *
            refine hK _ _ HSe.out ?_
            clear hK K
            try simp only [Act.put, List.setIfInBounds_toArray, List.set_cons_succ, List.set_cons_zero]
            refine oneH 1 (by kernel_rfl) rfl rfl fun K hK => ?_
            refine wp_runTo (some 44) rfl sv wT (by have hq := HRe.out.v.cell (i := 2) rfl; go_simp) ?_
            refine hK _ _ HSe.out ?_
            clear hK K
            try simp only [Act.put, List.setIfInBounds_toArray, List.set_cons_succ, List.set_cons_zero]
            refine oneH 8 (by kernel_rfl) rfl rfl fun K hK => ?_
            refine app_WM _ _ (some 51) rfl rfl HRe.out.o HRe.out.v.lt HLL.out (by have := HML.out; simp only [List.length_cons, List.length_nil]; omega) rfl rfl ?_
            intro sv' wU hO hB
            have HSf : Hid (Below u wr wU) := Lib.hid (HSe.out.trans (hB.mono (Nat.le_succ u)))
            have HRg : Hid (RSm wA (wU.setCell ⟨u, 2, none⟩ sv') u q1 mo sv' (marks (C.take (j + 1)))) := Lib.hid (HRe.out.add (by rw [HMS.out]; exact hO) hB)
            have HVf := Lib.hid (HRe.out.v.below hB (Nat.lt_succ_self u))
            obtain ⟨aq, cq, hsq, -⟩ := hO.marks
            refine hK _ _ HSf.out ?_
            clear hK K hO hB
            try simp only [Act.put, List.setIfInBounds_toArray, List.set_cons_succ, List.set_cons_zero]
            refine takeH 9 (some 52) (.pointer (some ⟨u, 2, none⟩)) rfl rfl (by kernel_rfl) (by kernel_rfl) (by kernel_rfl) (fun _ _ _ h => h) rfl (fun wq hS => by go_simp) HSf.out ?_
            try simp only [Act.put, List.setIfInBounds_toArray, List.set_cons_succ, List.set_cons_zero]
            refine oneH 10 (by kernel_rfl) rfl rfl fun K hK => ?_
            refine swp_skipTo none rfl (wU.setCell ⟨u, 2, none⟩ sv') (by have hq := HVf.out.cell (i := 2) rfl; have hf := HVf.out.frozen 2; rw [hsq]; go_simp) ?_
            have HSg : Hid (Below u wr (wU.setCell ⟨u, 2, none⟩ sv')) := Lib.hid (set_bel HSf.out (Nat.le_refl _) (by have := HS.out.v.lt; omega))
            refine hK _ _ HSg.out ?_
            clear hK K hsq
            generalize wU.setCell ⟨u, 2, none⟩ sv' = wV at *
            try simp only [Act.put, List.setIfInBounds_toArray, List.set_cons_succ, List.set_cons_zero]
            refine wpAnyH_done (by kernel_rfl) ?_ _
            go_wp2_with fail
            go_roundg (c - (j + 1))
            case measure => omega
            case rel => exact ⟨j + 1, sv', by omega, by omega, by have := HD.out; go_num, HRg.out⟩
        · obtain rfl : j = c := by omega
          have hde : d = e := by have := gce3.out; omega
          subst hde
          have gd : decide ((d : Int) < (d : Int)) = false := decide_eq_false (by omega)
          have HMF : Hid (marks (C.take j) = marks C) := Lib.hid (by rw [List.take_of_length_le (by rw [HCL.out]; exact Nat.le_refl _)])
          rw [HMF.out] at HS
          have HWH := Lib.hid (wf_head HQ.out HWFC.out mo)
          have hT := HTW.out.below HS.out.bel
          have HT := Lib.hid hT
          have HIC := Lib.hid HC.out
          clear hT hd HMF
          go_upto_region 13 with fail
          refine wp_region_lit ?_
          refine load150 (cs := #[.int .u32 q1, .bool mo, sv, .int .i64 0]) (Blk.all HS.out.v rfl) rfl rfl rfl ?_
          try simp only [Act.put, List.setIfInBounds_toArray, List.set_cons_succ, List.set_cons_zero]
          refine wpList_op rfl fun K hK => ?_
          go_simp
          refine (srencode_any ⟨q1, mo, marks C⟩ sv 0 HWH.out _ HS.out.o.marks).mono ?_
          rintro e6 w6 ⟨rfl, hb⟩
          have HT6 := Lib.hid (HT.out.below hb)
          have HY6 := HY0
          clear hb HS HT
          refine hK _ _ ?_
          clear hK K
          try simp only [Act.put, List.setIfInBounds_toArray, List.set_cons_succ, List.set_cons_zero]
          rw [HY6.out]
          obtain ⟨e0, he0⟩ : ∃ v, Sm.err ⟨q1, mo, marks C⟩ = v := ⟨_, rfl⟩
          rw [he0]
          clear he0
          refine takeL (.tuple #[.agg (u8s y0).toArray, .int .i64 e0]) rfl (by go_simp) ?_
          try simp only [Act.put, List.setIfInBounds_toArray, List.set_cons_succ, List.set_cons_zero]
          refine takeL (.agg (u8s y0).toArray) rfl (by go_simp) ?_
          try simp only [Act.put, List.setIfInBounds_toArray, List.set_cons_succ, List.set_cons_zero]
          refine takeL (.int .i64 e0) rfl (by go_simp) ?_
          try simp only [Act.put, List.setIfInBounds_toArray, List.set_cons_succ, List.set_cons_zero]
          refine alloc_g zero72 rfl ?_
          intro w7 hA hb hl
          try simp only [Act.put, List.setIfInBounds_toArray, List.set_cons_succ, List.set_cons_zero]
          refine store_all (cs := (u8s y0).toArray) hA (by rw [HSC.out.size]; simp [zeros]) (by rw [HSC.out.size]; exact info72) (u8s_one _) rfl rfl rfl ?_
          intro w8 hD hO hlD
          try simp only [Act.put, List.setIfInBounds_toArray, List.set_cons_succ, List.set_cons_zero]
          have hbb : Below w6.heap.size w6 w8 := hb.trans (hO.below hb.size fun k hk => Nat.le_of_eq hk.symm)
          have HT8 := Lib.hid (HT6.out.below hbb)
          have HY8 := Lib.hid (hD.all rfl)
          have HYL : Hid (w6.heap.size < w8.heap.size) := Lib.hid (by omega)
          generalize w6.heap.size = yb at *
          clear hA hb hl hD hO hlD hbb HT6
          refine takeL (.int .i64 e0) rfl (by go_simp) ?_
          try simp only [Act.put, List.setIfInBounds_toArray, List.set_cons_succ, List.set_cons_zero]
          refine wpList_nil ?_
          go_upto_region 14 with fail
          refine wp_region_lit ?_
          have c0 := HT8.out.v.cell (i := 0) rfl
          refine takeL (.pointer (some ⟨b, 0, none⟩)) rfl (by go_simp) ?_
          try simp only [Act.put, List.setIfInBounds_toArray, List.set_cons_succ, List.set_cons_zero]
          refine takeL (s7) rfl (by go_simp) ?_
          try simp only [Act.put, List.setIfInBounds_toArray, List.set_cons_succ, List.set_cons_zero]
          refine load72 HY8.out HSC.out.size rfl rfl ?_
          try simp only [Act.put, List.setIfInBounds_toArray, List.set_cons_succ, List.set_cons_zero]
          clear c0
          refine lit_LS HSC.out rfl rfl ?_
          intro w9 hs9 hb9
          try simp only [Act.put, List.setIfInBounds_toArray, List.set_cons_succ, List.set_cons_zero]
          have HT9 := Lib.hid (HT8.out.below hb9)
          clear HT8 HY8
          refine app_LS HT9.out.s HT9.out.size hs9 (by have := HLT7.out; simp only [List.length_cons, List.length_nil]; omega) rfl rfl rfl ?_
          intro t7 w10 ho hg
          try simp only [Act.put, List.setIfInBounds_toArray, List.set_cons_succ, List.set_cons_zero]
          have HTB := Lib.hid (HT9.out.secs ho hg)
          have HV := Lib.hid (HT9.out.v.grown hg fun k hk => by have := (HT9.out.s.lt k hk).1; omega)
          obtain ⟨ta, tc, htv, -⟩ := ho.len
          rw [List.length_append] at htv
          obtain ⟨tn, htn⟩ : ∃ m, (layTo n L k).1.length + [y0].length = m := ⟨_, rfl⟩
          rw [htn] at htv
          subst htv
          clear ho hg htn HT9 hs9 hb9
          have c0 := HV.out.cell (i := 0) rfl
          have cf := HV.out.frozen 0
          refine takeL (.pointer (some ⟨b, 0, none⟩)) rfl (by go_simp) ?_
          try simp only [Act.put, List.setIfInBounds_toArray, List.set_cons_succ, List.set_cons_zero]
          refine skipL (w10.setCell ⟨b, 0, none⟩ (.slice ta tn tc)) rfl (by go_simp) ?_
          generalize w10.setCell ⟨b, 0, none⟩ (.slice ta tn tc) = w11 at *
          generalize (Value.slice ta tn tc) = t7 at *
          clear c0 cf HV
          try simp only [Act.put, List.setIfInBounds_toArray, List.set_cons_succ, List.set_cons_zero]
          refine wpList_nil ?_
          go_wp2_with fail
          have HF0 : Hid (((C.take 0).foldl (stepIt q1) ((layTo n L k).1 ++ [y0], (layTo n L k).2)) = ((layTo n L k).1 ++ [y0], (layTo n L k).2)) := Lib.hid rfl
          have HFL : Hid (∀ j, ((C.take j).foldl (stepIt q1) ((layTo n L k).1 ++ [y0], (layTo n L k).2)).1.length ≤ 300 ∧ ((C.take j).foldl (stepIt q1) ((layTo n L k).1 ++ [y0], (layTo n L k).2)).2.length ≤ 300) := Lib.hid (by
            intro i
            rw [foldl_step]
            have h1 := blocks_le (marks (C.take i))
            have h2 := HLT7.out
            have h3 := HLT8.out
            have h4 := HCL.out
            rw [List.length_map] at h1
            simp only [List.length_append, bodies_length, atOf_length, List.length_cons, List.length_nil, List.length_take] at h1 ⊢
            omega)
          generalize ((layTo n L k).1 ++ [y0], (layTo n L k).2) = st1 at *
          go_loopg [12] j (fun q i wr => ∃ (p : Nat) (s7 s8 : Value), j - p ≤ q ∧ p ≤ j ∧ i = .int .i64 ((f + p : Nat) : Int) ∧ RL w wr r b s7 s8 ((C.take p).foldl (stepIt q1) st1))
          case atStart => exact ⟨0, _, _, by omega, by omega, rfl, by rw [HF0.out]; exact HTB.out⟩
          case round =>
            obtain ⟨p, s7, s8, hq3, hp, rfl, ht⟩ := hrel
            have HT := Lib.hid ht
            clear ht HTB HF0
            obtain ⟨z, hz⟩ : ∃ z, f + p = z := ⟨_, rfl⟩
            rw [hz]
            have HZ := Lib.hid hz
            by_cases hpj : p < j
            · have hzd : z < d := by have := HD.out; omega
              have gz : decide ((z : Int) < (d : Int)) = true := decide_eq_true (by omega)
              have hzi : (z : Int) < (d : Int) := by omega
              have hzN : (z : Int) < (N : Int) := by have := geN.out; omega
              obtain ⟨x, bv, hx1, hx2⟩ := HCE.out p hpj
              rw [hz] at hx2
              obtain ⟨x1, x2, x3⟩ := HC.out z _ hx2
              have hxok := HMEM.out x (List.mem_of_getElem? hx1)
              have HW := Lib.hid x1
              have HX := Lib.hid (ItAt.of (x3.below HT.out.bel HG.out))
              have HY := Lib.hid x2
              have HSTEP := Lib.hid (stepIt_take (n := q1) hx1 st1)
              have HBS := Lib.hid (bsec_sc x1.b q1)
              obtain ⟨hl7, hl8⟩ := HFL.out p
              have HL7 := Lib.hid hl7
              have HL8 := Lib.hid hl8
              have e0 := HX.out.c0
              have HKH : Hid (x.has = decide (x.mark.1 ≤ 3)) := Lib.hid (by
                have := okMark_iff.1 (ok_mark hxok)
                unfold It.has hasBlock
                rw [Bool.eq_iff_iff]
                simp
                omega)
              clear x1 x2 x3 hx1 hx2 hxok hl7 hl8 hz
              generalize (C.take p).foldl (stepIt q1) st1 = st at *
              cases hh : x.has
              · have HSX : Hid (stepIt q1 st x = (st.1, st.2 ++ [-1])) := Lib.hid (by unfold stepIt; rw [hh]; rfl)
                rw [HSX.out] at HSTEP
                have g3 : decide (3 < x.mark.1) = true := by
                  have := HKH.out
                  rw [hh] at this
                  have := of_decide_eq_false this.symm
                  exact decide_eq_true (by omega)
                clear hh HSX HKH HX
                go_upto_region 19 with fail
                refine wp_region_lit ?_
                have c1 := HT.out.v.cell (i := 1) rfl
                refine takeL (.pointer (some ⟨b, 1, none⟩)) rfl (by go_simp) ?_
                try simp only [Act.put, List.setIfInBounds_toArray, List.set_cons_succ, List.set_cons_zero]
                refine takeL (s8) rfl (by go_simp) ?_
                try simp only [Act.put, List.setIfInBounds_toArray, List.set_cons_succ, List.set_cons_zero]
                refine wpList_run (.slice (some ⟨wr.heap.size, 0, none⟩) 1 1) (wr.alloc (.cells #[.int .i64 (-1)] 3)) rfl (by go_simp) ?_
                try simp only [Act.put, List.setIfInBounds_toArray, List.set_cons_succ, List.set_cons_zero]
                clear c1 e0
                have hbl : Below wr.heap.size wr (wr.alloc (.cells #[.int .i64 (-1)] 3)) := (Below.refl _ _).alloc (Nat.le_refl _) _
                have HT9 := Lib.hid (HT.out.below hbl)
                refine app_LNg HT9.out.a HT9.out.size (lit_ints wr (-1)) (by have := HL8.out; simp only [List.length_cons, List.length_nil]; omega) rfl rfl rfl ?_
                intro t8 w12 ho hg
                try simp only [Act.put, List.setIfInBounds_toArray, List.set_cons_succ, List.set_cons_zero]
                have HTC := Lib.hid (HT9.out.ats ho hg)
                have HV := Lib.hid (HT9.out.v.grown hg fun k hk => by have := (HT9.out.a.lt k hk).1; omega)
                obtain ⟨ta, tc, htv⟩ := ho.ints.form
                obtain ⟨tn, htn⟩ : ∃ m, (st.2 ++ [-1]).length = m := ⟨_, rfl⟩
                rw [htn] at htv
                subst htv
                clear ho hg htn HT9 hbl HT
                have c1 := HV.out.cell (i := 1) rfl
                have cf := HV.out.frozen 1
                refine takeL (.pointer (some ⟨b, 1, none⟩)) rfl (by go_simp) ?_
                try simp only [Act.put, List.setIfInBounds_toArray, List.set_cons_succ, List.set_cons_zero]
                refine skipL (w12.setCell ⟨b, 1, none⟩ (.slice ta tn tc)) rfl (by go_simp) ?_
                generalize w12.setCell ⟨b, 1, none⟩ (.slice ta tn tc) = w13 at *
                generalize (Value.slice ta tn tc) = t8 at *
                clear c1 cf HV
                try simp only [Act.put, List.setIfInBounds_toArray, List.set_cons_succ, List.set_cons_zero]
                refine wpList_nil ?_
                go_wp2_with fail
                go_roundg (j - (p + 1))
                case measure => omega
                case rel => exact ⟨p + 1, _, _, by omega, by omega, by have := HZ.out; go_num, by rw [HSTEP.out]; exact HTC.out⟩
              · have HSX : Hid (stepIt q1 st x = (st.1 ++ [x.blk.sec q1], st.2 ++ [(st.1.length : Int)])) := Lib.hid (by unfold stepIt; rw [hh]; rfl)
                rw [HSX.out] at HSTEP
                have g3 : decide (3 < x.mark.1) = false := by
                  have := HKH.out
                  rw [hh] at this
                  have := of_decide_eq_true this.symm
                  exact decide_eq_false (by omega)
                clear hh HSX HKH
                go_upto_region 20 with fail
                refine wp_region_lit ?_
                clear e0
                refine takeL (.slice (some ⟨g, o, none⟩) N cap) rfl (by go_simp) ?_
                try simp only [Act.put, List.setIfInBounds_toArray, List.set_cons_succ, List.set_cons_zero]
                refine takeL (.int .i64 z) rfl (by go_simp) ?_
                try simp only [Act.put, List.setIfInBounds_toArray, List.set_cons_succ, List.set_cons_zero]
                refine takeL (.pointer (some ⟨g, o + z * 47, none⟩)) rfl (by go_simp) ?_
                try simp only [Act.put, List.setIfInBounds_toArray, List.set_cons_succ, List.set_cons_zero]
                refine takeL (.pointer (some ⟨g, o + z * 47 + 2, none⟩)) rfl (by go_simp) ?_
                try simp only [Act.put, List.setIfInBounds_toArray, List.set_cons_succ, List.set_cons_zero]
                refine load100 HX.out.blk (x.blk.arr_size HW.out.b bv) rfl rfl ?_
                try simp only [Act.put, List.setIfInBounds_toArray, List.set_cons_succ, List.set_cons_zero]
                refine takeL (.int .u32 q1) rfl (by go_simp) ?_
                try simp only [Act.put, List.setIfInBounds_toArray, List.set_cons_succ, List.set_cons_zero]
                refine wpList_op rfl fun K hK => ?_
                go_simp
                refine (rencode_any x.blk bv q1 _ (HY.out.below HT.out.bel) HW.out.b HQ.out).mono ?_
                rintro e6 w6 ⟨rfl, hb⟩
                have HT6 := Lib.hid (HT.out.below hb)
                clear hb HT HX
                refine hK _ _ ?_
                clear hK K
                try simp only [Act.put, List.setIfInBounds_toArray, List.set_cons_succ, List.set_cons_zero]
                obtain ⟨ys, hys⟩ : ∃ y, x.blk.sec q1 = y := ⟨_, rfl⟩
                obtain ⟨e0, he0⟩ : ∃ v, x.blk.err = v := ⟨_, rfl⟩
                rw [hys, he0]
                rw [hys] at HBS HSTEP
                clear he0 hys
                refine takeL (.tuple #[.agg (u8s ys).toArray, .int .i64 e0]) rfl (by go_simp) ?_
                try simp only [Act.put, List.setIfInBounds_toArray, List.set_cons_succ, List.set_cons_zero]
                refine takeL (.agg (u8s ys).toArray) rfl (by go_simp) ?_
                try simp only [Act.put, List.setIfInBounds_toArray, List.set_cons_succ, List.set_cons_zero]
                refine takeL (.int .i64 e0) rfl (by go_simp) ?_
                try simp only [Act.put, List.setIfInBounds_toArray, List.set_cons_succ, List.set_cons_zero]
                refine alloc_g zero72 rfl ?_
                intro w7' hA hb hl
                try simp only [Act.put, List.setIfInBounds_toArray, List.set_cons_succ, List.set_cons_zero]
                refine store_all (cs := (u8s ys).toArray) hA (by rw [HBS.out.size]; simp [zeros]) (by rw [HBS.out.size]; exact info72) (u8s_one _) rfl rfl rfl ?_
                intro w8' hD hO hlD
                try simp only [Act.put, List.setIfInBounds_toArray, List.set_cons_succ, List.set_cons_zero]
                have hbb : Below w6.heap.size w6 w8' := hb.trans (hO.below hb.size fun k hk => Nat.le_of_eq hk.symm)
                have HT8 := Lib.hid (HT6.out.below hbb)
                have HY8 := Lib.hid (hD.all rfl)
                have HA8 : Hid (∀ k, s8.ownBlock = some k → k < w6.heap.size) := Lib.hid fun k hk => (HT6.out.a.lt k hk).2
                have HBY : Hid (w6.heap.size ≠ b) := Lib.hid (by have := HT6.out.v.lt; omega)
                have HYL2 : Hid (w6.heap.size < w8'.heap.size) := Lib.hid (by omega)
                generalize w6.heap.size = yc at *
                clear hA hb hl hD hO hlD hbb HT6
                refine takeL (.int .i64 e0) rfl (by go_simp) ?_
                try simp only [Act.put, List.setIfInBounds_toArray, List.set_cons_succ, List.set_cons_zero]
                refine wpList_nil ?_
                obtain ⟨a7, c7, hv7, -⟩ := HT8.out.s.len
                obtain ⟨m7, hm7⟩ : ∃ m, st.1.length = m := ⟨_, rfl⟩
                rw [hm7] at hv7 HL7 HSTEP
                subst hv7
                have HM7 := Lib.hid hm7
                clear hm7
                go_upto_region 21 with fail
                refine wp_region_lit ?_
                have c0 := HT8.out.v.cell (i := 0) rfl
                have c1 := HT8.out.v.cell (i := 1) rfl
                refine takeL (.pointer (some ⟨b, 1, none⟩)) rfl (by go_simp) ?_
                try simp only [Act.put, List.setIfInBounds_toArray, List.set_cons_succ, List.set_cons_zero]
                refine takeL (s8) rfl (by go_simp) ?_
                try simp only [Act.put, List.setIfInBounds_toArray, List.set_cons_succ, List.set_cons_zero]
                refine takeL (.pointer (some ⟨b, 0, none⟩)) rfl (by go_simp) ?_
                try simp only [Act.put, List.setIfInBounds_toArray, List.set_cons_succ, List.set_cons_zero]
                refine takeL (.slice a7 m7 c7) rfl (by go_simp) ?_
                try simp only [Act.put, List.setIfInBounds_toArray, List.set_cons_succ, List.set_cons_zero]
                refine takeL (.int .i64 m7) rfl (by go_simp) ?_
                try simp only [Act.put, List.setIfInBounds_toArray, List.set_cons_succ, List.set_cons_zero]
                refine wpList_run (.slice (some ⟨w8'.heap.size, 0, none⟩) 1 1) (w8'.alloc (.cells #[.int .i64 m7] 3)) rfl (by go_simp) ?_
                try simp only [Act.put, List.setIfInBounds_toArray, List.set_cons_succ, List.set_cons_zero]
                clear c0 c1
                have hbl : Below w8'.heap.size w8' (w8'.alloc (.cells #[.int .i64 m7] 3)) := (Below.refl _ _).alloc (Nat.le_refl _) _
                have HT9 := Lib.hid (HT8.out.below hbl)
                have HY9 := Lib.hid (HY8.out.below hbl HYL2.out)
                have HYL3 : Hid (yc < (w8'.alloc (.cells #[.int .i64 m7] 3)).heap.size) := Lib.hid (Nat.lt_of_lt_of_le HYL2.out hbl.size)
                refine app_LNg HT9.out.a HT9.out.size (lit_ints w8' m7) (by have := HL8.out; simp only [List.length_cons, List.length_nil]; omega) rfl rfl rfl ?_
                intro t8 w12 ho hg
                try simp only [Act.put, List.setIfInBounds_toArray, List.set_cons_succ, List.set_cons_zero]
                have HTC := Lib.hid (HT9.out.ats ho hg)
                have HV := Lib.hid (HT9.out.v.grown hg fun k hk => by have := (HT9.out.a.lt k hk).1; omega)
                have HNEW : Hid (∀ k, s8.ownBlock = some k → k ≠ yc ∧ k ≠ b ∧ k < (w8'.alloc (.cells #[.int .i64 m7] 3)).heap.size) := Lib.hid fun k hk => ⟨by have := HA8.out k hk; omega, by have := (HT9.out.a.lt k hk).1; omega, (HT9.out.a.lt k hk).2⟩
                have HY12 := Lib.hid (at_grown HY9.out hg HYL3.out fun k hk => (HNEW.out k hk).1)
                have HYL4 : Hid (yc < w12.heap.size) := Lib.hid (Nat.lt_of_lt_of_le HYL3.out hg.size)
                obtain ⟨ta, tc, htv⟩ := ho.ints.form
                obtain ⟨tn, htn⟩ : ∃ m, (st.2 ++ [(m7 : Int)]).length = m := ⟨_, rfl⟩
                rw [htn] at htv
                subst htv
                clear ho hg htn HT9 hbl HT8 HNEW HY9 HYL3 HYL2 HY8
                have c1 := HV.out.cell (i := 1) rfl
                have cf := HV.out.frozen 1
                refine takeL (.pointer (some ⟨b, 1, none⟩)) rfl (by go_simp) ?_
                try simp only [Act.put, List.setIfInBounds_toArray, List.set_cons_succ, List.set_cons_zero]
                refine skipL (w12.setCell ⟨b, 1, none⟩ (.slice ta tn tc)) rfl (by go_simp) ?_
                have HY13 := Lib.hid (at_set (i := 1) (v := .slice ta tn tc) HY12.out HBY.out)
                have HYL5 : Hid (yc < (w12.setCell ⟨b, 1, none⟩ (.slice ta tn tc)).heap.size) := Lib.hid (by simpa using HYL4.out)
                generalize w12.setCell ⟨b, 1, none⟩ (.slice ta tn tc) = w13 at *
                generalize (Value.slice ta tn tc) = t8 at *
                clear c1 cf HV HY12 HYL4
                try simp only [Act.put, List.setIfInBounds_toArray, List.set_cons_succ, List.set_cons_zero]
                refine wpList_nil ?_
                go_upto_region 22 with fail
                refine wp_region_lit ?_
                have c0 := HTC.out.v.cell (i := 0) rfl
                refine takeL (.pointer (some ⟨b, 0, none⟩)) rfl (by go_simp) ?_
                try simp only [Act.put, List.setIfInBounds_toArray, List.set_cons_succ, List.set_cons_zero]
                refine takeL (.slice a7 m7 c7) rfl (by go_simp) ?_
                try simp only [Act.put, List.setIfInBounds_toArray, List.set_cons_succ, List.set_cons_zero]
                refine load72 HY13.out HBS.out.size rfl rfl ?_
                try simp only [Act.put, List.setIfInBounds_toArray, List.set_cons_succ, List.set_cons_zero]
                clear c0
                refine lit_LS HBS.out rfl rfl ?_
                intro w14 hs14 hb14
                try simp only [Act.put, List.setIfInBounds_toArray, List.set_cons_succ, List.set_cons_zero]
                have HT14 := Lib.hid (HTC.out.below hb14)
                clear HTC HY13 HYL5
                refine app_LS HT14.out.s HT14.out.size hs14 (by have := HL7.out; have := HM7.out; simp only [List.length_cons, List.length_nil]; omega) rfl rfl rfl ?_
                intro t7 w15 ho hg
                try simp only [Act.put, List.setIfInBounds_toArray, List.set_cons_succ, List.set_cons_zero]
                have HTD := Lib.hid (HT14.out.secs ho hg)
                have HV := Lib.hid (HT14.out.v.grown hg fun k hk => by have := (HT14.out.s.lt k hk).1; omega)
                obtain ⟨ta, tc, htv, -⟩ := ho.len
                obtain ⟨tn, htn⟩ : ∃ m, (st.1 ++ [ys]).length = m := ⟨_, rfl⟩
                rw [htn] at htv
                subst htv
                clear ho hg htn HT14 hs14 hb14
                have c0 := HV.out.cell (i := 0) rfl
                have cf := HV.out.frozen 0
                refine takeL (.pointer (some ⟨b, 0, none⟩)) rfl (by go_simp) ?_
                try simp only [Act.put, List.setIfInBounds_toArray, List.set_cons_succ, List.set_cons_zero]
                refine skipL (w15.setCell ⟨b, 0, none⟩ (.slice ta tn tc)) rfl (by go_simp) ?_
                generalize w15.setCell ⟨b, 0, none⟩ (.slice ta tn tc) = w16 at *
                generalize (Value.slice ta tn tc) = t7 at *
                clear c0 cf HV
                try simp only [Act.put, List.setIfInBounds_toArray, List.set_cons_succ, List.set_cons_zero]
                refine wpList_nil ?_
                go_wp2_with fail
                go_roundg (j - (p + 1))
                case measure => omega
                case rel => exact ⟨p + 1, _, _, by omega, by omega, by have := HZ.out; go_num, by rw [HSTEP.out]; exact HTD.out⟩
            · obtain rfl : p = j := by omega
              have hzd : z = d := by have := HD.out; omega
              subst hzd
              have gz : decide ((z : Int) < (z : Int)) = false := decide_eq_false (by omega)
              have HFIN : Hid ((C.take p).foldl (stepIt q1) st1 = layTo n L (k + 1)) := Lib.hid (by
                rw [HSU2.out, List.take_of_length_le (by rw [HCL.out]; exact Nat.le_refl _)])
              rw [HFIN.out] at HT
              have HSN1 := HSN.out
              have HK1 : Hid (f + 24 = 24 * (k + 1)) := Lib.hid (by have := gk1.out; omega)
              clear hz hpj
              go_wp2_with fail
              all_goals
                go_roundg (P - (k + 1))
                case measure => omega
                case rel => exact ⟨k + 1, _, _, by omega, by omega, by first | (rw [← HSN.out]; rfl) | rfl, by have := HK1.out; go_num, HT.out⟩
    · obtain rfl : k = P := by omega
      have hfN : N ≤ f := by have := mt hkN.2 hlt; omega
      have gk : decide ((f : Int) < (N : Int)) = false := decide_eq_false (by omega)
      have HFIN : Hid (lay2 n L = layTo n L k) := Lib.hid (by unfold lay2; rw [HPP.out])
      obtain ⟨a7, c7, hv7, -⟩ := HT.out.s.len
      obtain ⟨a8, c8, hv8⟩ := HT.out.a.ints.form
      obtain ⟨m7, hm7⟩ : ∃ m, (layTo n L k).1.length = m := ⟨_, rfl⟩
      obtain ⟨m8, hm8⟩ : ∃ m, (layTo n L k).2.length = m := ⟨_, rfl⟩
      rw [hm7] at hv7
      rw [hm8] at hv8
      subst hv7
      subst hv8
      clear hm7 hm8 hkN hf hq1
      go_upto_region 24 with fail
      refine wp_region_lit ?_
      refine takeL (.agg #[.slice a7 m7 c7, .slice a8 m8 c8, .bool true]) rfl (by have c0 := HT.out.v.cell (i := 0) rfl; have c1 := HT.out.v.cell (i := 1) rfl; have c2 := HT.out.v.cell (i := 2) rfl; go_simp) ?_
      try simp only [Act.put, List.setIfInBounds_toArray, List.set_cons_succ, List.set_cons_zero]
      refine store_all (cs := #[.slice a7 m7 c7, .slice a8 m8 c8, .bool true]) HT.out.rv rfl info121 (by simp [Value.oneCell']) rfl rfl rfl ?_
      intro w2 hD hO hlD
      try simp only [Act.put, List.setIfInBounds_toArray, List.set_cons_succ, List.set_cons_zero]
      have HTF : Hid (Two w w2 (.slice a7 m7 c7) (.slice a8 m8 c8) (layTo n L k)) := Lib.hid ⟨(HT.out.s.only hO (by have := HT.out.rb; omega)).mono (by have := HT.out.lo; have := HT.out.rb; omega), (HT.out.a.onlyN hO (by have := HT.out.rb; omega)).mono (by have := HT.out.lo; have := HT.out.rb; omega), HT.out.bel.trans (hO.below HT.out.bel.size fun k hk => by have := HT.out.lo; omega)⟩
      have HDD := Lib.hid hD
      clear hD hO hlD
      refine wpList_nil ?_
      go_wp2_with fail
      refine bodyPost_ret (v := .agg #[.slice a7 m7 c7, .slice a8 m8 c8, .bool true]) (results_cell_at rfl _ _ r 0 _ _ rfl Tryz.underlying121 rfl info121 (HDD.out.all rfl)) rfl ⟨_, _, rfl, by rw [HFIN.out]; exact HTF.out⟩
theorem MarksAt.lt {w : World} {mv : Value} {l : List Mk} (h : MarksAt w mv l) (hl : 0 < l.length) {b o n c : Nat} (e : mv = .slice (some ⟨b, o, none⟩) n c) : b < w.heap.size := by
  obtain ⟨b', o', cap, e2, hc⟩ := h.has hl
  rw [e] at e2
  cases e2
  exact block_lt_of_cell (hc 0 l[0] (by simp)).1
/-- The reference's Lay, whatever the items. -/
theorem rlay_gen (l : List (It × Value)) (L : List It) (hL : l.map (·.1) = L) (n : Int) (hn : Seq32 n) (sv : Value) (hlen : l.length < 100000) (w : World) (h : ItemsAt w sv l) : Calls Tryz.prog 48 #[.int .u32 n, sv] w fun e w' => ∃ s7 s8, e = .returned (.agg #[s7, s8, .bool (mayBe L)]) ∧ Two w w' s7 s8 (layR n L) := by
  cases hm : mayBe L
  · refine (rlay_no l L hL hm n sv hlen w h).mono ?_
    rintro e w' ⟨rfl, hb⟩
    refine ⟨_, _, rfl, ?_⟩
    unfold layR
    rw [hm]
    exact ⟨OwnS.nil _ _, OwnN.nil _ _, hb⟩
  · refine (rlay_yes l L hL hm n hn sv w h).mono ?_
    rintro e w' ⟨s7, s8, rfl, ht⟩
    refine ⟨_, _, rfl, ?_⟩
    unfold layR
    rw [hm]
    exact ht
/-- The program's, in the same words. -/
theorem lay_alike (l : List (It × Value)) (L : List It) (hL : l.map (·.1) = L) (n : Int) (hn : Seq32 n) (sv : Value) (hlen : l.length < 100000) (w : World) (h : ItemsAt w sv l) : Calls Tryz.prog 80 #[.int .u32 n, sv] w fun e w' => ∃ s7 s8, e = .returned (.tuple #[s7, s8, .int .i64 (if mayBe L then 0 else 1)]) ∧ Two w w' s7 s8 (layR n L) := by
  cases hm : mayBe L
  · refine (lay_no l L hL hm n sv hlen w h).mono ?_
    rintro e w' ⟨rfl, hb⟩
    refine ⟨_, _, rfl, ?_⟩
    unfold layR
    rw [hm]
    exact ⟨OwnS.nil _ _, OwnN.nil _ _, hb⟩
  · refine (lay_yes l L hL hm n hn sv w h).mono ?_
    rintro e w' ⟨s7, s8, rfl, ht⟩
    refine ⟨_, _, rfl, ?_⟩
    unfold layR
    rw [hm]
    exact ht

end Go.Proofs.YtmlniannilnmhaaGreatDoor
