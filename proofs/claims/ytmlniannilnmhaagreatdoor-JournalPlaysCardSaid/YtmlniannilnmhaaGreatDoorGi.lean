/- Gi: texts of elder seats turned: what the stage needs of them. -/
import Derived.Test.YtmlniannilnmhaaGreatDoorGh
namespace Go.Proofs.YtmlniannilnmhaaGreatDoor
set_option linter.unusedSimpArgs false
set_option linter.unusedVariables false
open Go.RowKit

theorem el22 : Tryz.prog.underlying 51 = some (.slice (Tryz.prog.elem 51)) ∧ Tryz.prog.elem 51 = 102 := ⟨by kernel_rfl, by kernel_rfl⟩
/-- Where a part of a slice begins. -/
def cutA (a : Option Addr) (f cap s : Nat) : Option Addr := if cap = f then a else a.map (·.add (f * s))
theorem size72 (w : World) : (Go.sizeOf 102).run Tryz.prog w = .ok 47 w := by
  obtain ⟨i, hi, hs⟩ := size_of info102
  simp [Go.sizeOf, typeInfo, hi, hs]
theorem run_cut22 (w : World) (a : Option Addr) (n cap f e : Nat) (h1 : f ≤ e) (h2 : e ≤ cap) : (Instr.sliceAt 51 (.slice a n cap) (some (.int .i64 f)) (some (.int .i64 e)) none).run Tryz.prog w = .ok (.slice (cutA a f cap 47) (e - f) (cap - f)) w := by
  rw [run_sliceAt_slice w 51 _ _ _ _ el22.1, run_slice_lh w 51 a n cap el22.1 .i64 .i64 f e (by omega) (by omega) (by omega), el22.2, size72]
  rfl
theorem exec_cut22 (w : World) (ev : Operand → Value) (op : Oper) (x y z : Operand) (ho : op.op = .slice 51 x (some y) (some z) none) (a : Option Addr) (n cap f e : Nat) (hx : ev x = .slice a n cap) (hy : ev y = .int .i64 f) (hz : ev z = .int .i64 e) (h1 : f ≤ e) (h2 : e ≤ cap) : (execOp ev op).run Tryz.prog w = .ok (.value (.slice (cutA a f cap 47) (e - f) (cap - f))) w := by
  unfold execOp
  simp only [ho, hx, hy, hz, Option.map_some, Option.map_none, Sem.run_bind, run_cut22 w a n cap f e h1 h2, Result.andThen_ok, Sem.run_pure]
theorem ItemsAt.cut {w : World} {a : Option Addr} {n cap : Nat} {l : List (It × Value)} (h : ItemsAt w (.slice a n cap) l) (f e : Nat) (h1 : f ≤ e) (h2 : e ≤ n) (m : List (It × Value)) (hm : m = (l.drop f).take (e - f)) : ItemsAt w (.slice (cutA a f cap 47) (e - f) (cap - f)) m := by
  subst hm
  obtain ⟨a', cap', e', hcap, hc⟩ := h
  cases e'
  have hlen : ((l.drop f).take (e - f)).length = e - f := by simp; omega
  refine ⟨_, _, by rw [hlen], by rw [hlen]; omega, fun i x hx => ?_⟩
  have hik : i < e - f := by have := (List.getElem?_eq_some_iff.1 hx).1; omega
  have hx2 : l[f + i]? = some x := by
    rw [List.getElem?_take, if_pos hik, List.getElem?_drop] at hx
    exact hx
  obtain ⟨k1, k2, g', o', rfl, k4⟩ := hc _ x hx2
  refine ⟨k1, k2, g', o' + f * 47, ?_, ?_⟩
  · unfold cutA
    rw [if_neg (by omega)]
    simp [Addr.add]
  rw [show o' + f * 47 + i * 47 = o' + (f + i) * 47 by omega]
  exact k4
theorem SecsAt.cut {w : World} {a : Option Addr} {n cap : Nat} {l : List (List Int)} (h : SecsAt w (.slice a n cap) l) (f e : Nat) (h1 : f ≤ e) (h2 : e ≤ n) (m : List (List Int)) (hm : m = (l.drop f).take (e - f)) : SecsAt w (.slice (cutA a f cap 64) (e - f) (cap - f)) m := by
  subst hm
  obtain ⟨a', cap', e', hcap, hc⟩ := h
  cases e'
  have hlen : ((l.drop f).take (e - f)).length = e - f := by simp; omega
  refine ⟨_, _, by rw [hlen], by rw [hlen]; omega, fun i x hx => ?_⟩
  have hik : i < e - f := by have := (List.getElem?_eq_some_iff.1 hx).1; omega
  have hx2 : l[f + i]? = some x := by
    rw [List.getElem?_take, if_pos hik, List.getElem?_drop] at hx
    exact hx
  obtain ⟨k1, g', o', rfl, k4⟩ := hc _ x hx2
  refine ⟨k1, g', o' + f * 64, ?_, ?_⟩
  · unfold cutA
    rw [if_neg (by omega)]
    simp [Addr.add]
  rw [show o' + f * 64 + i * 64 = o' + (f + i) * 64 by omega]
  exact k4
theorem exec_cut22c (w : World) (ev : Operand → Value) (op : Oper) (x y z : Operand) (ho : op.op = .slice 51 x (some y) (some z) none) (a : Option Addr) (n cap f e c g o : Nat) (hx : ev x = .slice a n cap) (hy : ev y = .int .i64 f) (hz : ev z = .int .i64 e) (h1 : e = f + c) (h2 : e ≤ cap) (ha : cutA a f cap 47 = some ⟨g, o, none⟩) : (execOp ev op).run Tryz.prog w = .ok (.value (.slice (some ⟨g, o, none⟩) c (cap - f))) w := by
  have := exec_cut22 w ev op x y z ho a n cap f e hx hy hz (by omega) h2
  rw [ha, show e - f = c by omega] at this
  exact this
theorem lay_no (l : List (It × Value)) (L : List It) (hL : l.map (·.1) = L) (hm : mayBe L = false) (n : Int) (sv : Value) (hlen : l.length < 100000) (w : World) (h : ItemsAt w sv l) : Calls Tryz.prog 80 #[.int .u32 n, sv] w fun e w' => e = .returned (.tuple #[.slice none 0 0, .slice none 0 0, .int .i64 1]) ∧ Below w.heap.size w w' := by
  have HM := Lib.hid (hL ▸ mayBe_any l l.length rfl sv (by omega) w h)
  rw [hm] at HM
  obtain ⟨a, cap, rfl, -⟩ := h
  clear hL
  go_enter Tryz.func80, Tryz.ntmps80
  go_wp2_with fail
  refine HM.out.mono ?_
  rintro e w1 ⟨rfl, hb⟩
  have HB := Lib.hid hb
  clear hb HM
  go_wp2_with fail
  first | go_ret3 | go_ret2 | go_ret
  exact ⟨rfl, HB.out⟩
theorem stepIt_take {n : Int} {p : List It} {j : Nat} {x : It} (hx : p[j]? = some x) (st : St) : (p.take (j + 1)).foldl (stepIt n) st = stepIt n ((p.take j).foldl (stepIt n) st) x := by rw [take_snoc hx, List.foldl_append]; rfl
theorem lit_ints (W : World) (x : Int) : IntsAt (W.alloc (.cells #[.int .i64 x] 3)) (.slice (some ⟨W.heap.size, 0, none⟩) 1 1) [x] := (OwnN.lit W W.heap.size (Nat.le_refl _) [x] (by simp) _ rfl).ints
/-- The two lists that Lay makes. -/
structure Two (w wr : World) (s7 s8 : Value) (st : St) : Prop where
  s : OwnS wr w.heap.size s7 st.1
  a : OwnN wr w.heap.size s8 st.2
  b : Below w.heap.size w wr
theorem Two.below {w wr w2 : World} {s7 s8 : Value} {st : St} (h : Two w wr s7 s8 st) (hb : Below wr.heap.size wr w2) : Two w w2 s7 s8 st := ⟨h.s.below hb, h.a.below hb, stay h.b hb⟩
theorem Two.secs {w wr w2 : World} {s7 s8 t7 : Value} {st : St} {l : List (List Int)} (h : Two w wr s7 s8 st) (ho : OwnS w2 w.heap.size t7 l) (hg : wr.grownBy w2 s7.ownBlock) : Two w w2 t7 s8 (l, st.2) :=
  ⟨ho, h.a.keep hg (ownsRow_type h.s.row) (by decide), h.b.trans (grown_below hg h.b.size fun k hk => (h.s.lt k hk).1)⟩
theorem Two.ats {w wr w2 : World} {s7 s8 t8 : Value} {st : St} {l : List Int} (h : Two w wr s7 s8 st) (ho : OwnN w2 w.heap.size t8 l) (hg : wr.grownBy w2 s8.ownBlock) : Two w w2 s7 t8 (st.1, l) :=
  ⟨h.s.keep hg (ownsRow_type h.a) (by decide), ho, h.b.trans (grown_below hg h.b.size fun k hk => (h.a.lt k hk).1)⟩
theorem ItemsAt.below' {w w' : World} {sv : Value} {l : List (It × Value)} (h : ItemsAt w sv l) (hb : Below w.heap.size w w') : ItemsAt w' sv l := h.below hb
theorem ItAt.grown {w w' : World} {g off : Nat} {x : It} {sv : Value} {row : Option Nat} (h : ItAt w g off x sv) (hg : w.grownBy w' row) (hlt : g < w.heap.size) (hne : ∀ k, row = some k → k ≠ g) : ItAt w' g off x sv := ItAt.of fun j hj => by
  have hb := hg.block g hlt fun e => hne g e.symm rfl
  rw [← h.all j hj]
  simp only [World.cell?, hb]
set_option maxRecDepth 100000 in
set_option maxHeartbeats 4000000 in
theorem lay_yes (l : List (It × Value)) (L : List It) (hL : l.map (·.1) = L) (hm : mayBe L = true) (n : Int) (hn : Seq32 n) (sv : Value) (w : World) (h : ItemsAt w sv l) : Calls Tryz.prog 80 #[.int .u32 n, sv] w fun e w' => ∃ s7 s8, e = .returned (.tuple #[s7, s8, .int .i64 0]) ∧ Two w w' s7 s8 (lay2 n L) := by
  have hln : l.length ≤ 64 := by have := (mayBe_iff.1 hm).2.1; rw [← hL, List.length_map] at this; exact this
  have HM := Lib.hid (hL ▸ mayBe_any l l.length rfl sv (by omega) w h)
  have HP := Lib.hid fun w => partsOf_any sv l.length h.len (by omega) w
  have HH := Lib.hid fun q (hq : Seq32 q) m (f e : Nat) (he : f ≤ e) (he2 : e ≤ l.length) tv w k => headOf_any2 ((l.drop f).take (e - f)) ((L.drop f).take (e - f)) (by rw [← hL, List.map_take, List.map_drop]) tv (by simp; omega) q hq m w k
  rw [hm] at HM
  have hLn : L.length = l.length := by rw [← hL, List.length_map]
  have HLN := Lib.hid hLn
  have hp3 := (parts_pos hm).2
  rw [hLn] at hp3
  have HOK := Lib.hid (mayBe_iff.1 hm).2.2.1
  have HL := Lib.hid hL
  have HI := Lib.hid h
  have HSEQ := Lib.hid hn
  have HPN : Hid (∀ k, k < parts l.length → 24 * k < l.length ∧ (24 * k + 24 < l.length → k + 1 < parts l.length)) := Lib.hid (fun k hk => by unfold parts at hk ⊢; omega)
  have HPP : Hid (parts L.length = parts l.length) := Lib.hid (by rw [hLn])
  obtain ⟨P, hP⟩ : ∃ P, parts l.length = P := ⟨_, rfl⟩
  rw [hP] at HP hp3 HPN HPP
  obtain ⟨N, hN⟩ : ∃ N, l.length = N := ⟨_, rfl⟩
  obtain ⟨a, cap, rfl, hcap, hc⟩ := h
  have HC := Lib.hid hc
  have HNN := Lib.hid hN
  rw [hN] at hln HPN HH HI HLN HM HP hcap ⊢
  have HCAP := Lib.hid hcap
  clear hL hm hLn hc hP hN hcap hn
  go_enter Tryz.func80, Tryz.ntmps80
  go_wp2_with fail
  refine HM.out.mono ?_
  rintro e w1 ⟨rfl, hb⟩
  have HB := Lib.hid hb
  clear hb HM
  go_wp2_with fail
  refine (HP.out _).mono ?_
  rintro e w2 ⟨rfl, rfl⟩
  clear HP
  go_wp2_with fail
  have HT1 : Hid (Two w w1 (.slice none 0 0) (.slice none 0 0) (layTo n L 0)) := Lib.hid ⟨OwnS.nil _ _, OwnN.nil _ _, HB.out⟩
  go_loopg [7, 8, 22] P (fun q u7 u8 i wr => ∃ (k : Nat) (s7 s8 : Value), s7 = u7 ∧ s8 = u8 ∧ P - k ≤ q ∧ k ≤ P ∧ i = .int .i64 k ∧ Two w wr s7 s8 (layTo n L k))
  case atStart => exact ⟨0, _, _, rfl, rfl, by omega, by omega, rfl, HT1.out⟩
  case round =>
    obtain ⟨k, s7, s8, rfl, rfl, hq, hk, rfl, ht⟩ := hrel
    have HT := Lib.hid ht
    clear ht HT1 HB
    by_cases hlt : k < P
    · obtain ⟨hp1, hp2⟩ := HPN.out k hlt
      obtain ⟨e, he⟩ : ∃ e, (if 24 * k + 24 < N then 24 * k + 24 else N) = e := ⟨_, rfl⟩
      have he1 : 24 * k < e ∧ e ≤ N ∧ e ≤ 24 * k + 24 := by split at he <;> omega
      obtain ⟨mo, hmo⟩ : ∃ v, decide (24 * k + 24 < N) = v := ⟨_, rfl⟩
      have gm : Hid (decide (e < N) = mo) := Lib.hid (by rw [← hmo]; split at he <;> (congr 1; apply propext; omega))
      have gmin2 : Hid (24 * k + 24 < N → e = 24 * k + 24) := Lib.hid (by split at he <;> omega)
      have gmin3 : Hid (¬ 24 * k + 24 < N → e = N) := Lib.hid (by split at he <;> omega)
      have HCH : Hid (chunk L k = (L.drop (24 * k)).take (e - 24 * k)) := Lib.hid (by
        split at he
        · rw [show e - 24 * k = 24 by omega]
        · unfold chunk
          rw [List.take_of_length_le (by rw [List.length_drop, HLN.out]; omega), List.take_of_length_le (by rw [List.length_drop, HLN.out]; omega)])
      obtain ⟨q1, hq1⟩ : ∃ q, (n + (k : Int)) % M32 = q := ⟨_, rfl⟩
      have HQ : Hid (Seq32 q1) := Lib.hid (by rw [← hq1]; exact seq_mod _)
      have HSU : Hid (layTo n L (k + 1) = stepPart q1 mo (chunk L k) (layTo n L k)) := Lib.hid (by rw [layTo, hq1, HLN.out, hmo])
      have gq : Hid (IntKind.u32.wrap (n + (k : Int)) = q1) := Lib.hid (by rw [IntKind.wrap_u32, ← hq1]; rfl)
      obtain ⟨f, hf⟩ : ∃ f, 24 * k = f := ⟨_, rfl⟩
      have gw : Hid (IntKind.i64.wrap ((k : Int) * 24) = (f : Int)) := Lib.hid (by rw [IntKind.wrap_i64]; omega)
      have gw2 : Hid (IntKind.i64.wrap ((f : Int) + 24) = (f : Int) + 24) := Lib.hid (by rw [IntKind.wrap_i64]; omega)
      obtain ⟨c, hc⟩ : ∃ c, e = f + c := ⟨e - f, by omega⟩
      rw [hf, show e - f = c by omega] at HCH
      have HSC := Lib.hid (sec_sc ⟨q1, mo, marks ((L.drop f).take c)⟩)
      have HIC := Lib.hid (HI.out.cut f e (by omega) (by omega) ((l.drop f).take c) (by rw [show e - f = c by omega]))
      rw [show e - f = c by omega] at HIC
      have HCL : Hid (((l.drop f).take c).length = c) := Lib.hid (by rw [List.length_take, List.length_drop, HNN.out]; omega)
      have HCM : Hid (((l.drop f).take c).map (·.1) = (L.drop f).take c) := Lib.hid (by rw [List.map_take, List.map_drop, HL.out])
      obtain ⟨g, o, cap2, hcut, hcap2, hgw, hcc⟩ := HIC.out.has (by rw [HCL.out]; omega)
      rw [HCL.out] at hcut
      have hcut : cutA a f cap 47 = some ⟨g, o, none⟩ := by injection hcut
      rw [hcut] at HIC
      have HCU := Lib.hid hcut
      have HGW := Lib.hid hgw
      have HCC := Lib.hid hcc
      have HHC : Hid (∀ w, ItemsAt w (.slice (some ⟨g, o, none⟩) c (cap - f)) ((l.drop f).take c) → Calls Tryz.prog 93 #[.int .u32 q1, .bool mo, .slice (some ⟨g, o, none⟩) c (cap - f)] w fun e_1 w' => e_1 = .returned (.agg (u8s (headOfPart q1 mo ((L.drop f).take c))).toArray) ∧ Below w.heap.size w w') := Lib.hid (by
        intro w h
        have := HH.out q1 HQ.out mo f e (by omega) (by omega) (.slice (some ⟨g, o, none⟩) c (cap - f)) w
        rw [show e - f = c by omega] at this
        exact this h)
      have HMEM : Hid (∀ x ∈ (L.drop f).take c, x.ok = true) := Lib.hid fun x hx => HOK.out x (List.mem_of_mem_drop (List.mem_of_mem_take hx))
      generalize (l.drop f).take c = Cl at *
      generalize (L.drop f).take c = C at *
      have hy0 : headOfPart q1 mo C = Sm.sec ⟨q1, mo, marks C⟩ := rfl
      rw [← hy0] at HSC
      obtain ⟨y0, hy⟩ : ∃ y, headOfPart q1 mo C = y := ⟨_, rfl⟩
      rw [hy] at HSC HHC
      have HSU2 : Hid (layTo n L (k + 1) = C.foldl (stepIt q1) ((layTo n L k).1 ++ [y0], (layTo n L k).2)) := Lib.hid (by rw [HSU.out, HCH.out, stepPart, hy])
      have HLT7 : Hid ((layTo n L k).1.length ≤ 100) := Lib.hid (by
        rw [layTo_length]
        have h1 := blocks_le (marks (L.take (24 * k)))
        rw [List.length_map, List.length_take] at h1
        omega)
      have HLT8 : Hid ((layTo n L k).2.length ≤ 100) := Lib.hid (by rw [layTo_at, List.length_take]; omega)
      have gk : decide ((k : Int) < (P : Int)) = true := decide_eq_true (by omega)
      have gce : (e : Int) = (f : Int) + (c : Int) := by omega
      have gc24 : c ≤ 24 := by omega
      have gcapf : Hid (e ≤ cap ∧ e = f + c) := Lib.hid ⟨by have := HCAP.out; omega, hc⟩
      have gce2 := Lib.hid gce
      have gf1 : f ≤ 64 := by omega
      have gk1 : Hid (24 * k = f) := Lib.hid hf
      have ge1 : e ≤ 64 := by omega
      clear gce he hmo hq1 hp2 hf hc hcut hcap2 hgw hcc hy0 hy HSU HCH HOK he1 hp1
      go_upto_region 7 with fail
      refine wp_region_lit ?_
      refine takeL (.int .i64 k) rfl (by go_simp) ?_
      try simp only [Act.put, List.setIfInBounds_toArray, List.set_cons_succ, List.set_cons_zero]
      refine takeL (.int .i64 k) rfl (by go_simp) ?_
      try simp only [Act.put, List.setIfInBounds_toArray, List.set_cons_succ, List.set_cons_zero]
      refine wpList_nil ?_
      go_upto_region 8 with fail
      refine wp_region_lit ?_
      refine takeL (.int .u32 n) rfl (by go_simp) ?_
      try simp only [Act.put, List.setIfInBounds_toArray, List.set_cons_succ, List.set_cons_zero]
      refine takeL (.int .i64 k) rfl (by go_simp) ?_
      try simp only [Act.put, List.setIfInBounds_toArray, List.set_cons_succ, List.set_cons_zero]
      refine takeL (.int .u32 k) rfl (by go_simp <;> exact wrap32 (by omega) (by omega)) ?_
      try simp only [Act.put, List.setIfInBounds_toArray, List.set_cons_succ, List.set_cons_zero]
      refine takeL (.int .u32 q1) rfl (by have g := gq.out; go_simp) ?_
      try simp only [Act.put, List.setIfInBounds_toArray, List.set_cons_succ, List.set_cons_zero]
      refine takeL (.int .u32 q1) rfl (by go_simp) ?_
      try simp only [Act.put, List.setIfInBounds_toArray, List.set_cons_succ, List.set_cons_zero]
      refine wpList_nil ?_
      go_upto_region 9 with fail
      refine wp_region_lit ?_
      refine takeL (.int .i64 k) rfl (by go_simp) ?_
      try simp only [Act.put, List.setIfInBounds_toArray, List.set_cons_succ, List.set_cons_zero]
      refine takeL (.int .i64 f) rfl (by have g := gw.out; go_simp) ?_
      try simp only [Act.put, List.setIfInBounds_toArray, List.set_cons_succ, List.set_cons_zero]
      refine takeL (.int .i64 f) rfl (by go_simp) ?_
      try simp only [Act.put, List.setIfInBounds_toArray, List.set_cons_succ, List.set_cons_zero]
      refine wpList_nil ?_
      go_upto_region 10 with fail
      refine wp_region_lit ?_
      refine takeL (.int .i64 f) rfl (by go_simp) ?_
      try simp only [Act.put, List.setIfInBounds_toArray, List.set_cons_succ, List.set_cons_zero]
      refine takeL (.int .i64 ((f : Int) + 24)) rfl (by have g := gw2.out; go_simp) ?_
      try simp only [Act.put, List.setIfInBounds_toArray, List.set_cons_succ, List.set_cons_zero]
      refine takeL (.slice a N cap) rfl (by go_simp) ?_
      try simp only [Act.put, List.setIfInBounds_toArray, List.set_cons_succ, List.set_cons_zero]
      refine takeL (.int .i64 N) rfl (by go_simp) ?_
      try simp only [Act.put, List.setIfInBounds_toArray, List.set_cons_succ, List.set_cons_zero]
      refine takeL (.int .i64 e) rfl (by have g1 := gk1.out; have g2 := gmin2.out; have g3 := gmin3.out; go_simp <;> (split <;> omega)) ?_
      try simp only [Act.put, List.setIfInBounds_toArray, List.set_cons_succ, List.set_cons_zero]
      refine takeL (.int .i64 e) rfl (by go_simp) ?_
      try simp only [Act.put, List.setIfInBounds_toArray, List.set_cons_succ, List.set_cons_zero]
      refine wpList_nil ?_
      clear gmin2 gmin3 gw gw2 gq
      go_upto_region 11 with fail
      refine wp_region_lit ?_
      refine takeL (s7) rfl (by go_simp) ?_
      try simp only [Act.put, List.setIfInBounds_toArray, List.set_cons_succ, List.set_cons_zero]
      refine takeL (.int .u32 q1) rfl (by go_simp) ?_
      try simp only [Act.put, List.setIfInBounds_toArray, List.set_cons_succ, List.set_cons_zero]
      refine takeL (.int .i64 e) rfl (by go_simp) ?_
      try simp only [Act.put, List.setIfInBounds_toArray, List.set_cons_succ, List.set_cons_zero]
      refine takeL (.slice a N cap) rfl (by go_simp) ?_
      try simp only [Act.put, List.setIfInBounds_toArray, List.set_cons_succ, List.set_cons_zero]
      refine takeL (.int .i64 N) rfl (by go_simp) ?_
      try simp only [Act.put, List.setIfInBounds_toArray, List.set_cons_succ, List.set_cons_zero]
      refine takeL (.bool mo) rfl (by have g := gm.out; go_simp) ?_
      try simp only [Act.put, List.setIfInBounds_toArray, List.set_cons_succ, List.set_cons_zero]
      refine takeL (.slice a N cap) rfl (by go_simp) ?_
      try simp only [Act.put, List.setIfInBounds_toArray, List.set_cons_succ, List.set_cons_zero]
      refine takeL (.int .i64 f) rfl (by go_simp) ?_
      try simp only [Act.put, List.setIfInBounds_toArray, List.set_cons_succ, List.set_cons_zero]
      refine takeL (.int .i64 e) rfl (by go_simp) ?_
      try simp only [Act.put, List.setIfInBounds_toArray, List.set_cons_succ, List.set_cons_zero]
      refine takeL (.slice (some ⟨g, o, none⟩) c (cap - f)) rfl (exec_cut22c _ _ _ _ _ _ rfl a N cap f e c g o rfl rfl rfl gcapf.out.2 gcapf.out.1 HCU.out) ?_
      try simp only [Act.put, List.setIfInBounds_toArray, List.set_cons_succ, List.set_cons_zero]
      refine wpList_op rfl fun K hK => ?_
      go_simp
      refine (HHC.out _ (HIC.out.below' HT.out.b)).mono ?_
      rintro e1 w3 ⟨rfl, hb⟩
      have HT3 := Lib.hid (HT.out.below hb)
      clear hb HT HHC
      refine hK _ _ ?_
      clear hK K
      try simp only [Act.put, List.setIfInBounds_toArray, List.set_cons_succ, List.set_cons_zero]
      refine lit_LS HSC.out rfl rfl ?_
      intro w4 hs4 hb4
      try simp only [Act.put, List.setIfInBounds_toArray, List.set_cons_succ, List.set_cons_zero]
      have HT4 := Lib.hid (HT3.out.below hb4)
      clear HT3
      refine app_LS HT4.out.s HT4.out.b.size hs4 (by have := HLT7.out; simp only [List.length_cons, List.length_nil]; omega) rfl rfl rfl ?_
      intro t7 w5 ho5 hg5
      try simp only [Act.put, List.setIfInBounds_toArray, List.set_cons_succ, List.set_cons_zero]
      have HT5 := Lib.hid (HT4.out.secs ho5 hg5)
      clear HT4 hs4 hb4 ho5 hg5
      refine takeL (t7) rfl (by go_simp) ?_
      try simp only [Act.put, List.setIfInBounds_toArray, List.set_cons_succ, List.set_cons_zero]
      refine wpList_nil ?_
      go_upto_region 12 with fail
      refine wp_region_lit ?_
      refine takeL (.slice a N cap) rfl (by go_simp) ?_
      try simp only [Act.put, List.setIfInBounds_toArray, List.set_cons_succ, List.set_cons_zero]
      refine takeL (.int .i64 f) rfl (by go_simp) ?_
      try simp only [Act.put, List.setIfInBounds_toArray, List.set_cons_succ, List.set_cons_zero]
      refine takeL (.int .i64 e) rfl (by go_simp) ?_
      try simp only [Act.put, List.setIfInBounds_toArray, List.set_cons_succ, List.set_cons_zero]
      refine takeL (.slice (some ⟨g, o, none⟩) c (cap - f)) rfl (exec_cut22c _ _ _ _ _ _ rfl a N cap f e c g o rfl rfl rfl gcapf.out.2 gcapf.out.1 HCU.out) ?_
      try simp only [Act.put, List.setIfInBounds_toArray, List.set_cons_succ, List.set_cons_zero]
      refine takeL (.int .i64 c) rfl (by go_simp) ?_
      try simp only [Act.put, List.setIfInBounds_toArray, List.set_cons_succ, List.set_cons_zero]
      refine takeL (.int .i64 0) rfl (by go_simp) ?_
      try simp only [Act.put, List.setIfInBounds_toArray, List.set_cons_succ, List.set_cons_zero]
      refine wpList_nil ?_
      go_wp2_with fail
      have HF0 : Hid (((C.take 0).foldl (stepIt q1) ((layTo n L k).1 ++ [y0], (layTo n L k).2)) = ((layTo n L k).1 ++ [y0], (layTo n L k).2)) := Lib.hid rfl
      have HFL : Hid (∀ j, j ≤ c → ((C.take j).foldl (stepIt q1) ((layTo n L k).1 ++ [y0], (layTo n L k).2)).1.length ≤ 200 ∧ ((C.take j).foldl (stepIt q1) ((layTo n L k).1 ++ [y0], (layTo n L k).2)).2.length ≤ 200) := Lib.hid (by
        intro j hj
        rw [foldl_step]
        have h1 := blocks_le (marks (C.take j))
        have h2 := HLT7.out
        have h3 := HLT8.out
        rw [List.length_map] at h1
        simp only [List.length_append, bodies_length, atOf_length, List.length_cons, List.length_nil, List.length_take] at h1 ⊢
        omega)
      generalize ((layTo n L k).1 ++ [y0], (layTo n L k).2) = st1 at *
      go_loopg [7, 8, 54] c (fun q u7 u8 i wr => ∃ (j : Nat) (s7 s8 : Value), s7 = u7 ∧ s8 = u8 ∧ c - j ≤ q ∧ j ≤ c ∧ i = .int .i64 j ∧ Two w wr s7 s8 ((C.take j).foldl (stepIt q1) st1))
      case atStart => exact ⟨0, _, _, rfl, rfl, by omega, by omega, rfl, by rw [HF0.out]; exact HT5.out⟩
      case round =>
        obtain ⟨j, v7, v8, rfl, rfl, hq2, hj, rfl, ht⟩ := hrel
        have HT := Lib.hid ht
        clear ht HT5 HF0
        by_cases hlj : j < c
        · obtain ⟨xv, hx⟩ : ∃ x, Cl[j]? = some x := ⟨_, List.getElem?_eq_getElem (by have := HCL.out; omega)⟩
          obtain ⟨x, bv⟩ := xv
          obtain ⟨x1, x2, x3⟩ := HCC.out j _ hx
          have HLX : Hid (C[j]? = some x) := Lib.hid (by rw [← HCM.out, List.getElem?_map, hx]; rfl)
          have hxok := HMEM.out x (List.mem_of_getElem? HLX.out)
          have HTE := Lib.hid fun w => tell_any x.mark (ok_mark hxok) w
          have HW := Lib.hid x1
          have HLE := Lib.hid x2.len
          have HX := Lib.hid (x3.below HT.out.b HGW.out)
          have HY := Lib.hid x2
          have HK7 := Lib.hid fun k hk => (HT.out.s.lt k hk).2
          have HK8 := Lib.hid fun k hk => (HT.out.a.lt k hk).2
          have HBO := Lib.hid fun w h => bodyOf_any x bv x1 q1 HQ.out w h
          have HBS := Lib.hid (bsec_sc x1.b q1)
          have HSTEP := Lib.hid (stepIt_take (n := q1) HLX.out st1)
          have gj : decide ((j : Int) < (c : Int)) = true := decide_eq_true (by omega)
          have hj0 : (j : Int) < (c : Int) := by omega
          obtain ⟨hl7, hl8⟩ := HFL.out j (by omega)
          have HL7 := Lib.hid hl7
          have HL8 := Lib.hid hl8
          clear x1 x2 x3 hx hxok hl7 hl8
          generalize (C.take j).foldl (stepIt q1) st1 = st at *
          go_upto_region 14 with fail
          refine wp_region_lit ?_
          refine takeL (.pointer (some ⟨g, o + j * 47, none⟩)) rfl (by go_simp) ?_
          try simp only [Act.put, List.setIfInBounds_toArray, List.set_cons_succ, List.set_cons_zero]
          refine load102 HX.out (x.arr_size HW.out bv) rfl rfl ?_
          try simp only [Act.put, List.setIfInBounds_toArray, List.set_cons_succ, List.set_cons_zero]
          refine alloc_g zero102b rfl ?_
          intro w6 hA hb hl
          try simp only [Act.put, List.setIfInBounds_toArray, List.set_cons_succ, List.set_cons_zero]
          refine store_all (cs := x.arr bv) hA (same102 It.none_wf HW.out _ _) (info102s HW.out _) (It.arr_one (slice_one HLE.out)) rfl rfl rfl ?_
          intro w7 hD hO hlD
          try simp only [Act.put, List.setIfInBounds_toArray, List.set_cons_succ, List.set_cons_zero]
          have hbb : Below wr.heap.size wr w7 := hb.trans (hO.below hb.size fun k hk => Nat.le_of_eq hk.symm)
          have HT7 := Lib.hid (HT.out.below hbb)
          have HA7 := Lib.hid (ItAt.of (x := x) (sv := bv) (w := w7) (g := wr.heap.size) (off := 0) (hD.all rfl))
          have HLT : Hid (wr.heap.size < w7.heap.size) := Lib.hid (by omega)
          generalize wr.heap.size = t at *
          clear hA hb hl hD hO hlD hbb HX HT
          refine wpList_nil ?_
          have c0 : w7.cell? ⟨t, 0, none⟩ = some (.int .i64 x.mark.1) := HA7.out.c0
          have c1 : w7.cell? ⟨t, 1, none⟩ = some (.int .i64 x.mark.2) := HA7.out.c1
          go_wp2_with fail
          refine (HTE.out _).mono ?_
          rintro e3 w8 ⟨rfl, hb⟩
          have HT8 := Lib.hid (HT7.out.below hb)
          have HA8 := Lib.hid (HA7.out.below hb HLT.out)
          have HLT8 : Hid (t < w8.heap.size) := Lib.hid (Nat.lt_of_lt_of_le HLT.out hb.size)
          clear hb HT7 HA7 HLT c0 c1 HTE
          cases hh : hasBlock x.mark.1
          · have HSX : Hid (stepIt q1 st x = (st.1, st.2 ++ [-1])) := Lib.hid (by unfold stepIt; rw [show x.has = false from hh]; rfl)
            rw [HSX.out] at HSTEP
            clear hh HSX
            go_upto_region 17 with fail
            refine wp_region_lit ?_
            refine takeL (v8) rfl (by go_simp) ?_
            try simp only [Act.put, List.setIfInBounds_toArray, List.set_cons_succ, List.set_cons_zero]
            refine wpList_run (.slice (some ⟨w8.heap.size, 0, none⟩) 1 1) (w8.alloc (.cells #[.int .i64 (-1)] 3)) rfl (by go_simp) ?_
            try simp only [Act.put, List.setIfInBounds_toArray, List.set_cons_succ, List.set_cons_zero]
            have hbl : Below w8.heap.size w8 (w8.alloc (.cells #[.int .i64 (-1)] 3)) := (Below.refl _ _).alloc (Nat.le_refl _) _
            have HT9 := Lib.hid (HT8.out.below hbl)
            refine app_LNg HT9.out.a HT9.out.b.size (lit_ints w8 (-1)) (by have := HL8.out; simp only [List.length_cons, List.length_nil]; omega) rfl rfl rfl ?_
            intro t8 w9 ho9 hg9
            try simp only [Act.put, List.setIfInBounds_toArray, List.set_cons_succ, List.set_cons_zero]
            have HT10 := Lib.hid (HT9.out.ats ho9 hg9)
            clear hbl HT8 HT9 ho9 hg9
            refine takeL (t8) rfl (by go_simp) ?_
            try simp only [Act.put, List.setIfInBounds_toArray, List.set_cons_succ, List.set_cons_zero]
            refine wpList_nil ?_
            go_wp2_with fail
            go_roundg (c - (j + 1))
            case measure => omega
            case rel => exact ⟨j + 1, _, _, rfl, rfl, by omega, by omega, by go_num, by rw [HSTEP.out]; exact HT10.out⟩
          · have HSX : Hid (stepIt q1 st x = (st.1 ++ [x.blk.sec q1], st.2 ++ [(st.1.length : Int)])) := Lib.hid (by unfold stepIt; rw [show x.has = true from hh]; rfl)
            rw [HSX.out] at HSTEP
            obtain ⟨a7, c7, hv7, -⟩ := HT8.out.s.len
            subst hv7
            clear hh HSX
            obtain ⟨m7, hm7⟩ : ∃ m, st.1.length = m := ⟨_, rfl⟩
            rw [hm7] at HL7 HSTEP HT8
            have HM7 := Lib.hid hm7
            rw [hm7]
            clear hm7
            go_upto_region 18 with fail
            refine wp_region_lit ?_
            refine takeL (v8) rfl (by go_simp) ?_
            try simp only [Act.put, List.setIfInBounds_toArray, List.set_cons_succ, List.set_cons_zero]
            refine takeL (.slice a7 m7 c7) rfl (by go_simp) ?_
            try simp only [Act.put, List.setIfInBounds_toArray, List.set_cons_succ, List.set_cons_zero]
            refine takeL (.int .i64 m7) rfl (by go_simp) ?_
            try simp only [Act.put, List.setIfInBounds_toArray, List.set_cons_succ, List.set_cons_zero]
            refine wpList_run (.slice (some ⟨w8.heap.size, 0, none⟩) 1 1) (w8.alloc (.cells #[.int .i64 m7] 3)) rfl (by go_simp) ?_
            try simp only [Act.put, List.setIfInBounds_toArray, List.set_cons_succ, List.set_cons_zero]
            have hbl : Below w8.heap.size w8 (w8.alloc (.cells #[.int .i64 m7] 3)) := (Below.refl _ _).alloc (Nat.le_refl _) _
            have HT9 := Lib.hid (HT8.out.below hbl)
            have HA9 := Lib.hid (HA8.out.below hbl HLT8.out)
            have HLT9 : Hid (t < (w8.alloc (.cells #[.int .i64 m7] 3)).heap.size) := Lib.hid (Nat.lt_of_lt_of_le HLT8.out hbl.size)
            refine app_LNg HT9.out.a HT9.out.b.size (lit_ints w8 m7) (by have := HL8.out; simp only [List.length_cons, List.length_nil]; omega) rfl rfl rfl ?_
            intro t8 w9 ho9 hg9
            try simp only [Act.put, List.setIfInBounds_toArray, List.set_cons_succ, List.set_cons_zero]
            have HA10 := Lib.hid (HA9.out.grown hg9 HLT9.out fun k hk => Nat.ne_of_lt (HK8.out k hk))
            have HT10 := Lib.hid (HT9.out.ats ho9 hg9)
            clear hbl HT8 HT9 ho9 hg9 HA8 HA9 HLT8 HLT9
            refine takeL (t8) rfl (by go_simp) ?_
            try simp only [Act.put, List.setIfInBounds_toArray, List.set_cons_succ, List.set_cons_zero]
            refine wpList_nil ?_
            go_upto_region 19 with fail
            refine wp_region_lit ?_
            refine takeL (.slice a7 m7 c7) rfl (by go_simp) ?_
            try simp only [Act.put, List.setIfInBounds_toArray, List.set_cons_succ, List.set_cons_zero]
            refine takeL (.int .u32 q1) rfl (by go_simp) ?_
            try simp only [Act.put, List.setIfInBounds_toArray, List.set_cons_succ, List.set_cons_zero]
            refine load102 HA10.out.all (x.arr_size HW.out bv) rfl rfl ?_
            try simp only [Act.put, List.setIfInBounds_toArray, List.set_cons_succ, List.set_cons_zero]
            refine wpList_op rfl fun K hK => ?_
            go_simp
            refine (HBO.out _ (HY.out.below HT10.out.b)).mono ?_
            rintro e4 w10 ⟨rfl, hb⟩
            have HT11 := Lib.hid (HT10.out.below hb)
            clear hb HT10 HA10 HBO
            refine hK _ _ ?_
            clear hK K
            try simp only [Act.put, List.setIfInBounds_toArray, List.set_cons_succ, List.set_cons_zero]
            refine lit_LS HBS.out rfl rfl ?_
            intro w11 hs11 hb11
            try simp only [Act.put, List.setIfInBounds_toArray, List.set_cons_succ, List.set_cons_zero]
            have HT12 := Lib.hid (HT11.out.below hb11)
            clear HT11
            refine app_LS HT12.out.s HT12.out.b.size hs11 (by have := HL7.out; have := HM7.out; simp only [List.length_cons, List.length_nil]; omega) rfl rfl rfl ?_
            intro t7' w12 ho12 hg12
            try simp only [Act.put, List.setIfInBounds_toArray, List.set_cons_succ, List.set_cons_zero]
            have HT13 := Lib.hid (HT12.out.secs ho12 hg12)
            clear HT12 hs11 hb11 ho12 hg12
            refine takeL (t7') rfl (by go_simp) ?_
            try simp only [Act.put, List.setIfInBounds_toArray, List.set_cons_succ, List.set_cons_zero]
            refine wpList_nil ?_
            go_wp2_with fail
            go_roundg (c - (j + 1))
            case measure => omega
            case rel => exact ⟨j + 1, _, _, rfl, rfl, by omega, by omega, by go_num, by rw [HSTEP.out]; exact HT13.out⟩
        · obtain rfl : j = c := by omega
          have HFIN : Hid ((C.take j).foldl (stepIt q1) st1 = layTo n L (k + 1)) := Lib.hid (by
            rw [HSU2.out, List.take_of_length_le (by have := HCL.out; rw [← HCM.out, List.length_map]; omega)])
          rw [HFIN.out] at HT
          have gj : decide ((j : Int) < (j : Int)) = false := decide_eq_false (by omega)
          clear hlj
          go_wp2_with fail
          go_roundg (P - (k + 1))
          case measure => omega
          case rel => exact ⟨k + 1, _, _, rfl, rfl, by omega, by omega, by go_num, HT.out⟩
    · obtain rfl : k = P := by omega
      have HFIN : Hid (lay2 n L = layTo n L k) := Lib.hid (by unfold lay2; rw [HPP.out])
      have gk : decide ((k : Int) < (k : Int)) = false := decide_eq_false (by omega)
      go_wp2_with fail
      first | go_ret3 | go_ret2 | go_ret
      exact ⟨_, _, rfl, by rw [HFIN.out]; exact HT.out⟩

end Go.Proofs.YtmlniannilnmhaaGreatDoor
