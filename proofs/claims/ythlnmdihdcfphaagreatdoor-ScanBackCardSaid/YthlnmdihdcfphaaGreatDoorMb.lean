/- Gi: texts of elder seats turned: what the stage needs of them. Gj: texts of elder seats turned: what the stage needs of them. -/
import Derived.Test.YthlnmdihdcfphaaGreatDoorGh
namespace Go.Proofs.YthlnmdihdcfphaaGreatDoor
set_option linter.unusedSimpArgs false
set_option linter.unusedVariables false
open Go.RowKit

theorem el22 : Tryz.prog.underlying 44 = some (.slice (Tryz.prog.elem 44)) ∧ Tryz.prog.elem 44 = 75 := ⟨by kernel_rfl, by kernel_rfl⟩
/-- Where a part of a slice begins. -/
def cutA (a : Option Addr) (f cap s : Nat) : Option Addr := if cap = f then a else a.map (·.add (f * s))
theorem size72 (w : World) : (Go.sizeOf 75).run Tryz.prog w = .ok 47 w := by
  obtain ⟨i, hi, hs⟩ := size_of info75
  simp [Go.sizeOf, typeInfo, hi, hs]
theorem run_cut22 (w : World) (a : Option Addr) (n cap f e : Nat) (h1 : f ≤ e) (h2 : e ≤ cap) : (Instr.sliceAt 44 (.slice a n cap) (some (.int .i64 f)) (some (.int .i64 e)) none).run Tryz.prog w = .ok (.slice (cutA a f cap 47) (e - f) (cap - f)) w := by
  rw [run_sliceAt_slice w 44 _ _ _ _ el22.1, run_slice_lh w 44 a n cap el22.1 .i64 .i64 f e (by omega) (by omega) (by omega), el22.2, size72]
  rfl
theorem exec_cut22 (w : World) (ev : Operand → Value) (op : Oper) (x y z : Operand) (ho : op.op = .slice 44 x (some y) (some z) none) (a : Option Addr) (n cap f e : Nat) (hx : ev x = .slice a n cap) (hy : ev y = .int .i64 f) (hz : ev z = .int .i64 e) (h1 : f ≤ e) (h2 : e ≤ cap) : (execOp ev op).run Tryz.prog w = .ok (.value (.slice (cutA a f cap 47) (e - f) (cap - f))) w := by
  unfold execOp
  simp only [ho, hx, hy, hz, Option.map_some, Option.map_none, Sem.run_bind, run_cut22 w a n cap f e h1 h2, Result.andThen_ok, Sem.run_pure]
theorem ItemsAt.cut {w : World} {a : Option Addr} {n cap : Nat} {l : List (It × Value)} (h : ItemsAt w (.slice a n cap) l) (f e : Nat) (h1 : f ≤ e) (h2 : e ≤ n) (m : List (It × Value)) (hm : m = (l.drop f).take (e - f)) : ItemsAt w (.slice (cutA a f cap 47) (e - f) (cap - f)) m := by
  subst hm
  obtain ⟨a', cap', e', hcap, hc⟩ := h
  cases e'
  have hlen : ((l.drop f).take (e - f)).length = e - f := by simp; omega
  refine ⟨_, _, by rw [hlen], by rw [hlen]; omega, fun i x hx => ?_⟩
  have hik : i < e - f := by have := (List.getElem?_eq_some_iff.1 hx).1; omega
  have hx2 : l[f + i]? = some x := by
    rw [List.getElem?_take, if_pos hik, List.getElem?_drop] at hx
    exact hx
  obtain ⟨k1, k2, g', o', rfl, k4⟩ := hc _ x hx2
  refine ⟨k1, k2, g', o' + f * 47, ?_, ?_⟩
  · unfold cutA
    rw [if_neg (by omega)]
    simp [Addr.add]
  rw [show o' + f * 47 + i * 47 = o' + (f + i) * 47 by omega]
  exact k4
theorem SecsAt.cut {w : World} {a : Option Addr} {n cap : Nat} {l : List (List Int)} (h : SecsAt w (.slice a n cap) l) (f e : Nat) (h1 : f ≤ e) (h2 : e ≤ n) (m : List (List Int)) (hm : m = (l.drop f).take (e - f)) : SecsAt w (.slice (cutA a f cap 64) (e - f) (cap - f)) m := by
  subst hm
  obtain ⟨a', cap', e', hcap, hc⟩ := h
  cases e'
  have hlen : ((l.drop f).take (e - f)).length = e - f := by simp; omega
  refine ⟨_, _, by rw [hlen], by rw [hlen]; omega, fun i x hx => ?_⟩
  have hik : i < e - f := by have := (List.getElem?_eq_some_iff.1 hx).1; omega
  have hx2 : l[f + i]? = some x := by
    rw [List.getElem?_take, if_pos hik, List.getElem?_drop] at hx
    exact hx
  obtain ⟨k1, g', o', rfl, k4⟩ := hc _ x hx2
  refine ⟨k1, g', o' + f * 64, ?_, ?_⟩
  · unfold cutA
    rw [if_neg (by omega)]
    simp [Addr.add]
  rw [show o' + f * 64 + i * 64 = o' + (f + i) * 64 by omega]
  exact k4
theorem exec_cut22c (w : World) (ev : Operand → Value) (op : Oper) (x y z : Operand) (ho : op.op = .slice 44 x (some y) (some z) none) (a : Option Addr) (n cap f e c g o : Nat) (hx : ev x = .slice a n cap) (hy : ev y = .int .i64 f) (hz : ev z = .int .i64 e) (h1 : e = f + c) (h2 : e ≤ cap) (ha : cutA a f cap 47 = some ⟨g, o, none⟩) : (execOp ev op).run Tryz.prog w = .ok (.value (.slice (some ⟨g, o, none⟩) c (cap - f))) w := by
  have := exec_cut22 w ev op x y z ho a n cap f e hx hy hz (by omega) h2
  rw [ha, show e - f = c by omega] at this
  exact this
theorem lay_no (l : List (It × Value)) (L : List It) (hL : l.map (·.1) = L) (hm : mayBe L = false) (n : Int) (sv : Value) (hlen : l.length < 100000) (w : World) (h : ItemsAt w sv l) : Calls Tryz.prog 59 #[.int .u32 n, sv] w fun e w' => e = .returned (.tuple #[.slice none 0 0, .slice none 0 0, .int .i64 1]) ∧ Below w.heap.size w w' := by
  have HM := Lib.hid (hL ▸ mayBe_any l l.length rfl sv (by omega) w h)
  rw [hm] at HM
  obtain ⟨a, cap, rfl, -⟩ := h
  clear hL
  go_enter Tryz.func59, Tryz.ntmps59
  go_wp2_with fail
  refine HM.out.mono ?_
  rintro e w1 ⟨rfl, hb⟩
  have HB := Lib.hid hb
  clear hb HM
  go_wp2_with fail
  first | go_ret3 | go_ret2 | go_ret
  exact ⟨rfl, HB.out⟩
theorem stepIt_take {n : Int} {p : List It} {j : Nat} {x : It} (hx : p[j]? = some x) (st : St) : (p.take (j + 1)).foldl (stepIt n) st = stepIt n ((p.take j).foldl (stepIt n) st) x := by rw [take_snoc hx, List.foldl_append]; rfl
theorem lit_ints (W : World) (x : Int) : IntsAt (W.alloc (.cells #[.int .i64 x] 3)) (.slice (some ⟨W.heap.size, 0, none⟩) 1 1) [x] := (OwnN.lit W W.heap.size (Nat.le_refl _) [x] (by simp) _ rfl).ints
/-- The two lists that Lay makes. -/
structure Two (w wr : World) (s7 s8 : Value) (st : St) : Prop where
  s : OwnS wr w.heap.size s7 st.1
  a : OwnN wr w.heap.size s8 st.2
  b : Below w.heap.size w wr
theorem Two.below {w wr w2 : World} {s7 s8 : Value} {st : St} (h : Two w wr s7 s8 st) (hb : Below wr.heap.size wr w2) : Two w w2 s7 s8 st := ⟨h.s.below hb, h.a.below hb, stay h.b hb⟩
theorem Two.secs {w wr w2 : World} {s7 s8 t7 : Value} {st : St} {l : List (List Int)} (h : Two w wr s7 s8 st) (ho : OwnS w2 w.heap.size t7 l) (hg : wr.grownBy w2 s7.ownBlock) : Two w w2 t7 s8 (l, st.2) :=
  ⟨ho, h.a.keep hg (ownsRow_type h.s.row) (by decide), h.b.trans (grown_below hg h.b.size fun k hk => (h.s.lt k hk).1)⟩
theorem Two.ats {w wr w2 : World} {s7 s8 t8 : Value} {st : St} {l : List Int} (h : Two w wr s7 s8 st) (ho : OwnN w2 w.heap.size t8 l) (hg : wr.grownBy w2 s8.ownBlock) : Two w w2 s7 t8 (st.1, l) :=
  ⟨h.s.keep hg (ownsRow_type h.a) (by decide), ho, h.b.trans (grown_below hg h.b.size fun k hk => (h.a.lt k hk).1)⟩
theorem ItemsAt.below' {w w' : World} {sv : Value} {l : List (It × Value)} (h : ItemsAt w sv l) (hb : Below w.heap.size w w') : ItemsAt w' sv l := h.below hb
theorem ItAt.grown {w w' : World} {g off : Nat} {x : It} {sv : Value} {row : Option Nat} (h : ItAt w g off x sv) (hg : w.grownBy w' row) (hlt : g < w.heap.size) (hne : ∀ k, row = some k → k ≠ g) : ItAt w' g off x sv := ItAt.of fun j hj => by
  have hb := hg.block g hlt fun e => hne g e.symm rfl
  rw [← h.all j hj]
  simp only [World.cell?, hb]
set_option maxRecDepth 100000 in
set_option maxHeartbeats 4000000 in
theorem lay_yes (l : List (It × Value)) (L : List It) (hL : l.map (·.1) = L) (hm : mayBe L = true) (n : Int) (hn : Seq32 n) (sv : Value) (w : World) (h : ItemsAt w sv l) : Calls Tryz.prog 59 #[.int .u32 n, sv] w fun e w' => ∃ s7 s8, e = .returned (.tuple #[s7, s8, .int .i64 0]) ∧ Two w w' s7 s8 (lay2 n L) := by
  have hln : l.length ≤ 64 := by have := (mayBe_iff.1 hm).2.1; rw [← hL, List.length_map] at this; exact this
  have HM := Lib.hid (hL ▸ mayBe_any l l.length rfl sv (by omega) w h)
  have HP := Lib.hid fun w => partsOf_any sv l.length h.len (by omega) w
  have HH := Lib.hid fun q (hq : Seq32 q) m (f e : Nat) (he : f ≤ e) (he2 : e ≤ l.length) tv w k => headOf_any2 ((l.drop f).take (e - f)) ((L.drop f).take (e - f)) (by rw [← hL, List.map_take, List.map_drop]) tv (by simp; omega) q hq m w k
  rw [hm] at HM
  have hLn : L.length = l.length := by rw [← hL, List.length_map]
  have HLN := Lib.hid hLn
  have hp3 := (parts_pos hm).2
  rw [hLn] at hp3
  have HOK := Lib.hid (mayBe_iff.1 hm).2.2.1
  have HL := Lib.hid hL
  have HI := Lib.hid h
  have HSEQ := Lib.hid hn
  have HPN : Hid (∀ k, k < parts l.length → 24 * k < l.length ∧ (24 * k + 24 < l.length → k + 1 < parts l.length)) := Lib.hid (fun k hk => by unfold parts at hk ⊢; omega)
  have HPP : Hid (parts L.length = parts l.length) := Lib.hid (by rw [hLn])
  obtain ⟨P, hP⟩ : ∃ P, parts l.length = P := ⟨_, rfl⟩
  rw [hP] at HP hp3 HPN HPP
  obtain ⟨N, hN⟩ : ∃ N, l.length = N := ⟨_, rfl⟩
  obtain ⟨a, cap, rfl, hcap, hc⟩ := h
  have HC := Lib.hid hc
  have HNN := Lib.hid hN
  rw [hN] at hln HPN HH HI HLN HM HP hcap ⊢
  have HCAP := Lib.hid hcap
  clear hL hm hLn hc hP hN hcap hn
  go_enter Tryz.func59, Tryz.ntmps59
  go_wp2_with fail
  refine HM.out.mono ?_
  rintro e w1 ⟨rfl, hb⟩
  have HB := Lib.hid hb
  clear hb HM
  go_wp2_with fail
  refine (HP.out _).mono ?_
  rintro e w2 ⟨rfl, rfl⟩
  clear HP
  go_wp2_with fail
  have HT1 : Hid (Two w w1 (.slice none 0 0) (.slice none 0 0) (layTo n L 0)) := Lib.hid ⟨OwnS.nil _ _, OwnN.nil _ _, HB.out⟩
  go_loopg [7, 8, 22] P (fun q u7 u8 i wr => ∃ (k : Nat) (s7 s8 : Value), s7 = u7 ∧ s8 = u8 ∧ P - k ≤ q ∧ k ≤ P ∧ i = .int .i64 k ∧ Two w wr s7 s8 (layTo n L k))
  case atStart => exact ⟨0, _, _, rfl, rfl, by omega, by omega, rfl, HT1.out⟩
  case round =>
    obtain ⟨k, s7, s8, rfl, rfl, hq, hk, rfl, ht⟩ := hrel
    have HT := Lib.hid ht
    clear ht HT1 HB
    by_cases hlt : k < P
    · obtain ⟨hp1, hp2⟩ := HPN.out k hlt
      obtain ⟨e, he⟩ : ∃ e, (if 24 * k + 24 < N then 24 * k + 24 else N) = e := ⟨_, rfl⟩
      have he1 : 24 * k < e ∧ e ≤ N ∧ e ≤ 24 * k + 24 := by split at he <;> omega
      obtain ⟨mo, hmo⟩ : ∃ v, decide (24 * k + 24 < N) = v := ⟨_, rfl⟩
      have gm : Hid (decide (e < N) = mo) := Lib.hid (by rw [← hmo]; split at he <;> (congr 1; apply propext; omega))
      have gmin2 : Hid (24 * k + 24 < N → e = 24 * k + 24) := Lib.hid (by split at he <;> omega)
      have gmin3 : Hid (¬ 24 * k + 24 < N → e = N) := Lib.hid (by split at he <;> omega)
      have HCH : Hid (chunk L k = (L.drop (24 * k)).take (e - 24 * k)) := Lib.hid (by
        split at he
        · rw [show e - 24 * k = 24 by omega]
        · unfold chunk
          rw [List.take_of_length_le (by rw [List.length_drop, HLN.out]; omega), List.take_of_length_le (by rw [List.length_drop, HLN.out]; omega)])
      obtain ⟨q1, hq1⟩ : ∃ q, (n + (k : Int)) % M32 = q := ⟨_, rfl⟩
      have HQ : Hid (Seq32 q1) := Lib.hid (by rw [← hq1]; exact seq_mod _)
      have HSU : Hid (layTo n L (k + 1) = stepPart q1 mo (chunk L k) (layTo n L k)) := Lib.hid (by rw [layTo, hq1, HLN.out, hmo])
      have gq : Hid (IntKind.u32.wrap (n + (k : Int)) = q1) := Lib.hid (by rw [IntKind.wrap_u32, ← hq1]; rfl)
      obtain ⟨f, hf⟩ : ∃ f, 24 * k = f := ⟨_, rfl⟩
      have gw : Hid (IntKind.i64.wrap ((k : Int) * 24) = (f : Int)) := Lib.hid (by rw [IntKind.wrap_i64]; omega)
      have gw2 : Hid (IntKind.i64.wrap ((f : Int) + 24) = (f : Int) + 24) := Lib.hid (by rw [IntKind.wrap_i64]; omega)
      obtain ⟨c, hc⟩ : ∃ c, e = f + c := ⟨e - f, by omega⟩
      rw [hf, show e - f = c by omega] at HCH
      have HSC := Lib.hid (sec_sc ⟨q1, mo, marks ((L.drop f).take c)⟩)
      have HIC := Lib.hid (HI.out.cut f e (by omega) (by omega) ((l.drop f).take c) (by rw [show e - f = c by omega]))
      rw [show e - f = c by omega] at HIC
      have HCL : Hid (((l.drop f).take c).length = c) := Lib.hid (by rw [List.length_take, List.length_drop, HNN.out]; omega)
      have HCM : Hid (((l.drop f).take c).map (·.1) = (L.drop f).take c) := Lib.hid (by rw [List.map_take, List.map_drop, HL.out])
      obtain ⟨g, o, cap2, hcut, hcap2, hgw, hcc⟩ := HIC.out.has (by rw [HCL.out]; omega)
      rw [HCL.out] at hcut
      have hcut : cutA a f cap 47 = some ⟨g, o, none⟩ := by injection hcut
      rw [hcut] at HIC
      have HCU := Lib.hid hcut
      have HGW := Lib.hid hgw
      have HCC := Lib.hid hcc
      have HHC : Hid (∀ w, ItemsAt w (.slice (some ⟨g, o, none⟩) c (cap - f)) ((l.drop f).take c) → Calls Tryz.prog 75 #[.int .u32 q1, .bool mo, .slice (some ⟨g, o, none⟩) c (cap - f)] w fun e_1 w' => e_1 = .returned (.agg (u8s (headOfPart q1 mo ((L.drop f).take c))).toArray) ∧ Below w.heap.size w w') := Lib.hid (by
        intro w h
        have := HH.out q1 HQ.out mo f e (by omega) (by omega) (.slice (some ⟨g, o, none⟩) c (cap - f)) w
        rw [show e - f = c by omega] at this
        exact this h)
      have HMEM : Hid (∀ x ∈ (L.drop f).take c, x.ok = true) := Lib.hid fun x hx => HOK.out x (List.mem_of_mem_drop (List.mem_of_mem_take hx))
      generalize (l.drop f).take c = Cl at *
      generalize (L.drop f).take c = C at *
      have hy0 : headOfPart q1 mo C = Sm.sec ⟨q1, mo, marks C⟩ := rfl
      rw [← hy0] at HSC
      obtain ⟨y0, hy⟩ : ∃ y, headOfPart q1 mo C = y := ⟨_, rfl⟩
      rw [hy] at HSC HHC
      have HSU2 : Hid (layTo n L (k + 1) = C.foldl (stepIt q1) ((layTo n L k).1 ++ [y0], (layTo n L k).2)) := Lib.hid (by rw [HSU.out, HCH.out, stepPart, hy])
      have HLT7 : Hid ((layTo n L k).1.length ≤ 100) := Lib.hid (by
        rw [layTo_length]
        have h1 := blocks_le (marks (L.take (24 * k)))
        rw [List.length_map, List.length_take] at h1
        omega)
      have HLT8 : Hid ((layTo n L k).2.length ≤ 100) := Lib.hid (by rw [layTo_at, List.length_take]; omega)
      have gk : decide ((k : Int) < (P : Int)) = true := decide_eq_true (by omega)
      have gce : (e : Int) = (f : Int) + (c : Int) := by omega
      have gc24 : c ≤ 24 := by omega
      have gcapf : Hid (e ≤ cap ∧ e = f + c) := Lib.hid ⟨by have := HCAP.out; omega, hc⟩
      have gce2 := Lib.hid gce
      have gf1 : f ≤ 64 := by omega
      have gk1 : Hid (24 * k = f) := Lib.hid hf
      have ge1 : e ≤ 64 := by omega
      clear gce he hmo hq1 hp2 hf hc hcut hcap2 hgw hcc hy0 hy HSU HCH HOK he1 hp1
      go_upto_region 7 with fail
      refine wp_region_lit ?_
      refine takeL (.int .i64 k) rfl (by go_simp) ?_
      try simp only [Act.put, List.setIfInBounds_toArray, List.set_cons_succ, List.set_cons_zero]
      refine takeL (.int .i64 k) rfl (by go_simp) ?_
      try simp only [Act.put, List.setIfInBounds_toArray, List.set_cons_succ, List.set_cons_zero]
      refine wpList_nil ?_
      go_upto_region 8 with fail
      refine wp_region_lit ?_
      refine takeL (.int .u32 n) rfl (by go_simp) ?_
      try simp only [Act.put, List.setIfInBounds_toArray, List.set_cons_succ, List.set_cons_zero]
      refine takeL (.int .i64 k) rfl (by go_simp) ?_
      try simp only [Act.put, List.setIfInBounds_toArray, List.set_cons_succ, List.set_cons_zero]
      refine takeL (.int .u32 k) rfl (by go_simp <;> exact wrap32 (by omega) (by omega)) ?_
      try simp only [Act.put, List.setIfInBounds_toArray, List.set_cons_succ, List.set_cons_zero]
      refine takeL (.int .u32 q1) rfl (by have g := gq.out; go_simp) ?_
      try simp only [Act.put, List.setIfInBounds_toArray, List.set_cons_succ, List.set_cons_zero]
      refine takeL (.int .u32 q1) rfl (by go_simp) ?_
      try simp only [Act.put, List.setIfInBounds_toArray, List.set_cons_succ, List.set_cons_zero]
      refine wpList_nil ?_
      go_upto_region 9 with fail
      refine wp_region_lit ?_
      refine takeL (.int .i64 k) rfl (by go_simp) ?_
      try simp only [Act.put, List.setIfInBounds_toArray, List.set_cons_succ, List.set_cons_zero]
      refine takeL (.int .i64 f) rfl (by have g := gw.out; go_simp) ?_
      try simp only [Act.put, List.setIfInBounds_toArray, List.set_cons_succ, List.set_cons_zero]
      refine takeL (.int .i64 f) rfl (by go_simp) ?_
      try simp only [Act.put, List.setIfInBounds_toArray, List.set_cons_succ, List.set_cons_zero]
      refine wpList_nil ?_
      go_upto_region 10 with fail
      refine wp_region_lit ?_
      refine takeL (.int .i64 f) rfl (by go_simp) ?_
      try simp only [Act.put, List.setIfInBounds_toArray, List.set_cons_succ, List.set_cons_zero]
      refine takeL (.int .i64 ((f : Int) + 24)) rfl (by have g := gw2.out; go_simp) ?_
      try simp only [Act.put, List.setIfInBounds_toArray, List.set_cons_succ, List.set_cons_zero]
      refine takeL (.slice a N cap) rfl (by go_simp) ?_
      try simp only [Act.put, List.setIfInBounds_toArray, List.set_cons_succ, List.set_cons_zero]
      refine takeL (.int .i64 N) rfl (by go_simp) ?_
      try simp only [Act.put, List.setIfInBounds_toArray, List.set_cons_succ, List.set_cons_zero]
      refine takeL (.int .i64 e) rfl (by have g1 := gk1.out; have g2 := gmin2.out; have g3 := gmin3.out; go_simp <;> (split <;> omega)) ?_
      try simp only [Act.put, List.setIfInBounds_toArray, List.set_cons_succ, List.set_cons_zero]
      refine takeL (.int .i64 e) rfl (by go_simp) ?_
      try simp only [Act.put, List.setIfInBounds_toArray, List.set_cons_succ, List.set_cons_zero]
      refine wpList_nil ?_
      clear gmin2 gmin3 gw gw2 gq
      go_upto_region 11 with fail
      refine wp_region_lit ?_
      refine takeL (s7) rfl (by go_simp) ?_
      try simp only [Act.put, List.setIfInBounds_toArray, List.set_cons_succ, List.set_cons_zero]
      refine takeL (.int .u32 q1) rfl (by go_simp) ?_
      try simp only [Act.put, List.setIfInBounds_toArray, List.set_cons_succ, List.set_cons_zero]
      refine takeL (.int .i64 e) rfl (by go_simp) ?_
      try simp only [Act.put, List.setIfInBounds_toArray, List.set_cons_succ, List.set_cons_zero]
      refine takeL (.slice a N cap) rfl (by go_simp) ?_
      try simp only [Act.put, List.setIfInBounds_toArray, List.set_cons_succ, List.set_cons_zero]
      refine takeL (.int .i64 N) rfl (by go_simp) ?_
      try simp only [Act.put, List.setIfInBounds_toArray, List.set_cons_succ, List.set_cons_zero]
      refine takeL (.bool mo) rfl (by have g := gm.out; go_simp) ?_
      try simp only [Act.put, List.setIfInBounds_toArray, List.set_cons_succ, List.set_cons_zero]
      refine takeL (.slice a N cap) rfl (by go_simp) ?_
      try simp only [Act.put, List.setIfInBounds_toArray, List.set_cons_succ, List.set_cons_zero]
      refine takeL (.int .i64 f) rfl (by go_simp) ?_
      try simp only [Act.put, List.setIfInBounds_toArray, List.set_cons_succ, List.set_cons_zero]
      refine takeL (.int .i64 e) rfl (by go_simp) ?_
      try simp only [Act.put, List.setIfInBounds_toArray, List.set_cons_succ, List.set_cons_zero]
      refine takeL (.slice (some ⟨g, o, none⟩) c (cap - f)) rfl (exec_cut22c _ _ _ _ _ _ rfl a N cap f e c g o rfl rfl rfl gcapf.out.2 gcapf.out.1 HCU.out) ?_
      try simp only [Act.put, List.setIfInBounds_toArray, List.set_cons_succ, List.set_cons_zero]
      refine wpList_op rfl fun K hK => ?_
      go_simp
      refine (HHC.out _ (HIC.out.below' HT.out.b)).mono ?_
      rintro e1 w3 ⟨rfl, hb⟩
      have HT3 := Lib.hid (HT.out.below hb)
      clear hb HT HHC
      refine hK _ _ ?_
      clear hK K
      try simp only [Act.put, List.setIfInBounds_toArray, List.set_cons_succ, List.set_cons_zero]
      refine lit_LS HSC.out rfl rfl ?_
      intro w4 hs4 hb4
      try simp only [Act.put, List.setIfInBounds_toArray, List.set_cons_succ, List.set_cons_zero]
      have HT4 := Lib.hid (HT3.out.below hb4)
      clear HT3
      refine app_LS HT4.out.s HT4.out.b.size hs4 (by have := HLT7.out; simp only [List.length_cons, List.length_nil]; omega) rfl rfl rfl ?_
      intro t7 w5 ho5 hg5
      try simp only [Act.put, List.setIfInBounds_toArray, List.set_cons_succ, List.set_cons_zero]
      have HT5 := Lib.hid (HT4.out.secs ho5 hg5)
      clear HT4 hs4 hb4 ho5 hg5
      refine takeL (t7) rfl (by go_simp) ?_
      try simp only [Act.put, List.setIfInBounds_toArray, List.set_cons_succ, List.set_cons_zero]
      refine wpList_nil ?_
      go_upto_region 12 with fail
      refine wp_region_lit ?_
      refine takeL (.slice a N cap) rfl (by go_simp) ?_
      try simp only [Act.put, List.setIfInBounds_toArray, List.set_cons_succ, List.set_cons_zero]
      refine takeL (.int .i64 f) rfl (by go_simp) ?_
      try simp only [Act.put, List.setIfInBounds_toArray, List.set_cons_succ, List.set_cons_zero]
      refine takeL (.int .i64 e) rfl (by go_simp) ?_
      try simp only [Act.put, List.setIfInBounds_toArray, List.set_cons_succ, List.set_cons_zero]
      refine takeL (.slice (some ⟨g, o, none⟩) c (cap - f)) rfl (exec_cut22c _ _ _ _ _ _ rfl a N cap f e c g o rfl rfl rfl gcapf.out.2 gcapf.out.1 HCU.out) ?_
      try simp only [Act.put, List.setIfInBounds_toArray, List.set_cons_succ, List.set_cons_zero]
      refine takeL (.int .i64 c) rfl (by go_simp) ?_
      try simp only [Act.put, List.setIfInBounds_toArray, List.set_cons_succ, List.set_cons_zero]
      refine takeL (.int .i64 0) rfl (by go_simp) ?_
      try simp only [Act.put, List.setIfInBounds_toArray, List.set_cons_succ, List.set_cons_zero]
      refine wpList_nil ?_
      go_wp2_with fail
      have HF0 : Hid (((C.take 0).foldl (stepIt q1) ((layTo n L k).1 ++ [y0], (layTo n L k).2)) = ((layTo n L k).1 ++ [y0], (layTo n L k).2)) := Lib.hid rfl
      have HFL : Hid (∀ j, j ≤ c → ((C.take j).foldl (stepIt q1) ((layTo n L k).1 ++ [y0], (layTo n L k).2)).1.length ≤ 200 ∧ ((C.take j).foldl (stepIt q1) ((layTo n L k).1 ++ [y0], (layTo n L k).2)).2.length ≤ 200) := Lib.hid (by
        intro j hj
        rw [foldl_step]
        have h1 := blocks_le (marks (C.take j))
        have h2 := HLT7.out
        have h3 := HLT8.out
        rw [List.length_map] at h1
        simp only [List.length_append, bodies_length, atOf_length, List.length_cons, List.length_nil, List.length_take] at h1 ⊢
        omega)
      generalize ((layTo n L k).1 ++ [y0], (layTo n L k).2) = st1 at *
      go_loopg [7, 8, 54] c (fun q u7 u8 i wr => ∃ (j : Nat) (s7 s8 : Value), s7 = u7 ∧ s8 = u8 ∧ c - j ≤ q ∧ j ≤ c ∧ i = .int .i64 j ∧ Two w wr s7 s8 ((C.take j).foldl (stepIt q1) st1))
      case atStart => exact ⟨0, _, _, rfl, rfl, by omega, by omega, rfl, by rw [HF0.out]; exact HT5.out⟩
      case round =>
        obtain ⟨j, v7, v8, rfl, rfl, hq2, hj, rfl, ht⟩ := hrel
        have HT := Lib.hid ht
        clear ht HT5 HF0
        by_cases hlj : j < c
        · obtain ⟨xv, hx⟩ : ∃ x, Cl[j]? = some x := ⟨_, List.getElem?_eq_getElem (by have := HCL.out; omega)⟩
          obtain ⟨x, bv⟩ := xv
          obtain ⟨x1, x2, x3⟩ := HCC.out j _ hx
          have HLX : Hid (C[j]? = some x) := Lib.hid (by rw [← HCM.out, List.getElem?_map, hx]; rfl)
          have hxok := HMEM.out x (List.mem_of_getElem? HLX.out)
          have HTE := Lib.hid fun w => tell_any x.mark (ok_mark hxok) w
          have HW := Lib.hid x1
          have HLE := Lib.hid x2.len
          have HX := Lib.hid (x3.below HT.out.b HGW.out)
          have HY := Lib.hid x2
          have HK7 := Lib.hid fun k hk => (HT.out.s.lt k hk).2
          have HK8 := Lib.hid fun k hk => (HT.out.a.lt k hk).2
          have HBO := Lib.hid fun w h => bodyOf_any x bv x1 q1 HQ.out w h
          have HBS := Lib.hid (bsec_sc x1.b q1)
          have HSTEP := Lib.hid (stepIt_take (n := q1) HLX.out st1)
          have gj : decide ((j : Int) < (c : Int)) = true := decide_eq_true (by omega)
          have hj0 : (j : Int) < (c : Int) := by omega
          obtain ⟨hl7, hl8⟩ := HFL.out j (by omega)
          have HL7 := Lib.hid hl7
          have HL8 := Lib.hid hl8
          clear x1 x2 x3 hx hxok hl7 hl8
          generalize (C.take j).foldl (stepIt q1) st1 = st at *
          go_upto_region 14 with fail
          refine wp_region_lit ?_
          refine takeL (.pointer (some ⟨g, o + j * 47, none⟩)) rfl (by go_simp) ?_
          try simp only [Act.put, List.setIfInBounds_toArray, List.set_cons_succ, List.set_cons_zero]
          refine load75 HX.out (x.arr_size HW.out bv) rfl rfl ?_
          try simp only [Act.put, List.setIfInBounds_toArray, List.set_cons_succ, List.set_cons_zero]
          refine alloc_g zero75b rfl ?_
          intro w6 hA hb hl
          try simp only [Act.put, List.setIfInBounds_toArray, List.set_cons_succ, List.set_cons_zero]
          refine store_all (cs := x.arr bv) hA (same75 It.none_wf HW.out _ _) (info75s HW.out _) (It.arr_one (slice_one HLE.out)) rfl rfl rfl ?_
          intro w7 hD hO hlD
          try simp only [Act.put, List.setIfInBounds_toArray, List.set_cons_succ, List.set_cons_zero]
          have hbb : Below wr.heap.size wr w7 := hb.trans (hO.below hb.size fun k hk => Nat.le_of_eq hk.symm)
          have HT7 := Lib.hid (HT.out.below hbb)
          have HA7 := Lib.hid (ItAt.of (x := x) (sv := bv) (w := w7) (g := wr.heap.size) (off := 0) (hD.all rfl))
          have HLT : Hid (wr.heap.size < w7.heap.size) := Lib.hid (by omega)
          generalize wr.heap.size = t at *
          clear hA hb hl hD hO hlD hbb HX HT
          refine wpList_nil ?_
          have c0 : w7.cell? ⟨t, 0, none⟩ = some (.int .i64 x.mark.1) := HA7.out.c0
          have c1 : w7.cell? ⟨t, 1, none⟩ = some (.int .i64 x.mark.2) := HA7.out.c1
          go_wp2_with fail
          refine (HTE.out _).mono ?_
          rintro e3 w8 ⟨rfl, hb⟩
          have HT8 := Lib.hid (HT7.out.below hb)
          have HA8 := Lib.hid (HA7.out.below hb HLT.out)
          have HLT8 : Hid (t < w8.heap.size) := Lib.hid (Nat.lt_of_lt_of_le HLT.out hb.size)
          clear hb HT7 HA7 HLT c0 c1 HTE
          cases hh : hasBlock x.mark.1
          · have HSX : Hid (stepIt q1 st x = (st.1, st.2 ++ [-1])) := Lib.hid (by unfold stepIt; rw [show x.has = false from hh]; rfl)
            rw [HSX.out] at HSTEP
            clear hh HSX
            go_upto_region 17 with fail
            refine wp_region_lit ?_
            refine takeL (v8) rfl (by go_simp) ?_
            try simp only [Act.put, List.setIfInBounds_toArray, List.set_cons_succ, List.set_cons_zero]
            refine wpList_run (.slice (some ⟨w8.heap.size, 0, none⟩) 1 1) (w8.alloc (.cells #[.int .i64 (-1)] 3)) rfl (by go_simp) ?_
            try simp only [Act.put, List.setIfInBounds_toArray, List.set_cons_succ, List.set_cons_zero]
            have hbl : Below w8.heap.size w8 (w8.alloc (.cells #[.int .i64 (-1)] 3)) := (Below.refl _ _).alloc (Nat.le_refl _) _
            have HT9 := Lib.hid (HT8.out.below hbl)
            refine app_LNg HT9.out.a HT9.out.b.size (lit_ints w8 (-1)) (by have := HL8.out; simp only [List.length_cons, List.length_nil]; omega) rfl rfl rfl ?_
            intro t8 w9 ho9 hg9
            try simp only [Act.put, List.setIfInBounds_toArray, List.set_cons_succ, List.set_cons_zero]
            have HT10 := Lib.hid (HT9.out.ats ho9 hg9)
            clear hbl HT8 HT9 ho9 hg9
            refine takeL (t8) rfl (by go_simp) ?_
            try simp only [Act.put, List.setIfInBounds_toArray, List.set_cons_succ, List.set_cons_zero]
            refine wpList_nil ?_
            go_wp2_with fail
            go_roundg (c - (j + 1))
            case measure => omega
            case rel => exact ⟨j + 1, _, _, rfl, rfl, by omega, by omega, by go_num, by rw [HSTEP.out]; exact HT10.out⟩
          · have HSX : Hid (stepIt q1 st x = (st.1 ++ [x.blk.sec q1], st.2 ++ [(st.1.length : Int)])) := Lib.hid (by unfold stepIt; rw [show x.has = true from hh]; rfl)
            rw [HSX.out] at HSTEP
            obtain ⟨a7, c7, hv7, -⟩ := HT8.out.s.len
            subst hv7
            clear hh HSX
            obtain ⟨m7, hm7⟩ : ∃ m, st.1.length = m := ⟨_, rfl⟩
            rw [hm7] at HL7 HSTEP HT8
            have HM7 := Lib.hid hm7
            rw [hm7]
            clear hm7
            go_upto_region 18 with fail
            refine wp_region_lit ?_
            refine takeL (v8) rfl (by go_simp) ?_
            try simp only [Act.put, List.setIfInBounds_toArray, List.set_cons_succ, List.set_cons_zero]
            refine takeL (.slice a7 m7 c7) rfl (by go_simp) ?_
            try simp only [Act.put, List.setIfInBounds_toArray, List.set_cons_succ, List.set_cons_zero]
            refine takeL (.int .i64 m7) rfl (by go_simp) ?_
            try simp only [Act.put, List.setIfInBounds_toArray, List.set_cons_succ, List.set_cons_zero]
            refine wpList_run (.slice (some ⟨w8.heap.size, 0, none⟩) 1 1) (w8.alloc (.cells #[.int .i64 m7] 3)) rfl (by go_simp) ?_
            try simp only [Act.put, List.setIfInBounds_toArray, List.set_cons_succ, List.set_cons_zero]
            have hbl : Below w8.heap.size w8 (w8.alloc (.cells #[.int .i64 m7] 3)) := (Below.refl _ _).alloc (Nat.le_refl _) _
            have HT9 := Lib.hid (HT8.out.below hbl)
            have HA9 := Lib.hid (HA8.out.below hbl HLT8.out)
            have HLT9 : Hid (t < (w8.alloc (.cells #[.int .i64 m7] 3)).heap.size) := Lib.hid (Nat.lt_of_lt_of_le HLT8.out hbl.size)
            refine app_LNg HT9.out.a HT9.out.b.size (lit_ints w8 m7) (by have := HL8.out; simp only [List.length_cons, List.length_nil]; omega) rfl rfl rfl ?_
            intro t8 w9 ho9 hg9
            try simp only [Act.put, List.setIfInBounds_toArray, List.set_cons_succ, List.set_cons_zero]
            have HA10 := Lib.hid (HA9.out.grown hg9 HLT9.out fun k hk => Nat.ne_of_lt (HK8.out k hk))
            have HT10 := Lib.hid (HT9.out.ats ho9 hg9)
            clear hbl HT8 HT9 ho9 hg9 HA8 HA9 HLT8 HLT9
            refine takeL (t8) rfl (by go_simp) ?_
            try simp only [Act.put, List.setIfInBounds_toArray, List.set_cons_succ, List.set_cons_zero]
            refine wpList_nil ?_
            go_upto_region 19 with fail
            refine wp_region_lit ?_
            refine takeL (.slice a7 m7 c7) rfl (by go_simp) ?_
            try simp only [Act.put, List.setIfInBounds_toArray, List.set_cons_succ, List.set_cons_zero]
            refine takeL (.int .u32 q1) rfl (by go_simp) ?_
            try simp only [Act.put, List.setIfInBounds_toArray, List.set_cons_succ, List.set_cons_zero]
            refine load75 HA10.out.all (x.arr_size HW.out bv) rfl rfl ?_
            try simp only [Act.put, List.setIfInBounds_toArray, List.set_cons_succ, List.set_cons_zero]
            refine wpList_op rfl fun K hK => ?_
            go_simp
            refine (HBO.out _ (HY.out.below HT10.out.b)).mono ?_
            rintro e4 w10 ⟨rfl, hb⟩
            have HT11 := Lib.hid (HT10.out.below hb)
            clear hb HT10 HA10 HBO
            refine hK _ _ ?_
            clear hK K
            try simp only [Act.put, List.setIfInBounds_toArray, List.set_cons_succ, List.set_cons_zero]
            refine lit_LS HBS.out rfl rfl ?_
            intro w11 hs11 hb11
            try simp only [Act.put, List.setIfInBounds_toArray, List.set_cons_succ, List.set_cons_zero]
            have HT12 := Lib.hid (HT11.out.below hb11)
            clear HT11
            refine app_LS HT12.out.s HT12.out.b.size hs11 (by have := HL7.out; have := HM7.out; simp only [List.length_cons, List.length_nil]; omega) rfl rfl rfl ?_
            intro t7' w12 ho12 hg12
            try simp only [Act.put, List.setIfInBounds_toArray, List.set_cons_succ, List.set_cons_zero]
            have HT13 := Lib.hid (HT12.out.secs ho12 hg12)
            clear HT12 hs11 hb11 ho12 hg12
            refine takeL (t7') rfl (by go_simp) ?_
            try simp only [Act.put, List.setIfInBounds_toArray, List.set_cons_succ, List.set_cons_zero]
            refine wpList_nil ?_
            go_wp2_with fail
            go_roundg (c - (j + 1))
            case measure => omega
            case rel => exact ⟨j + 1, _, _, rfl, rfl, by omega, by omega, by go_num, by rw [HSTEP.out]; exact HT13.out⟩
        · obtain rfl : j = c := by omega
          have HFIN : Hid ((C.take j).foldl (stepIt q1) st1 = layTo n L (k + 1)) := Lib.hid (by
            rw [HSU2.out, List.take_of_length_le (by have := HCL.out; rw [← HCM.out, List.length_map]; omega)])
          rw [HFIN.out] at HT
          have gj : decide ((j : Int) < (j : Int)) = false := decide_eq_false (by omega)
          clear hlj
          go_wp2_with fail
          go_roundg (P - (k + 1))
          case measure => omega
          case rel => exact ⟨k + 1, _, _, rfl, rfl, by omega, by omega, by go_num, HT.out⟩
    · obtain rfl : k = P := by omega
      have HFIN : Hid (lay2 n L = layTo n L k) := Lib.hid (by unfold lay2; rw [HPP.out])
      have gk : decide ((k : Int) < (k : Int)) = false := decide_eq_false (by omega)
      go_wp2_with fail
      first | go_ret3 | go_ret2 | go_ret
      exact ⟨_, _, rfl, by rw [HFIN.out]; exact HT.out⟩

end Go.Proofs.YthlnmdihdcfphaaGreatDoor
namespace Go.Proofs.YthlnmdihdcfphaaGreatDoor
set_option linter.unusedSimpArgs false
set_option linter.unusedVariables false
open Go.RowKit

set_option maxRecDepth 100000 in
theorem ints_any (l m : List Int) (hl : l.length ≤ 1000) (hm : m.length ≤ 1000) (sv tv : Value) (w : World) (h : IntsAt w sv l) (k : IntsAt w tv m) : Calls Tryz.prog 23 #[sv, tv] w fun e w' => e = .returned (.bool (decide (l = m))) ∧ Below w.heap.size w w' := by
  obtain ⟨a, cap, rfl, hc⟩ := h
  obtain ⟨a', cap', rfl, hc'⟩ := k
  have HC := Lib.hid hc
  have HC' := Lib.hid hc'
  clear hc hc'
  by_cases hlen : l.length = m.length
  · obtain ⟨n, hn⟩ : ∃ n, m.length = n := ⟨_, rfl⟩
    have hln := hlen.trans hn
    rw [hn] at hm
    rw [hln, hn]
    have HN := Lib.hid hn
    have HLN := Lib.hid hln
    clear hln hl hlen hn
    go_enter Tryz.func23, Tryz.ntmps23
    go_wp2_with fail
    go_loopg [5] n (fun q i wr => ∃ k : Nat, n - k ≤ q ∧ k ≤ n ∧ i = .int .i64 k ∧ (∀ j, j < k → l[j]? = m[j]?) ∧ Below w.heap.size w wr)
    case atStart => exact ⟨0, by omega, by omega, rfl, fun j hj => by omega, Below.refl _ _⟩
    case round =>
      obtain ⟨k, hg, hk, rfl, heq, hbel⟩ := hrel
      have HE := Lib.hid heq
      have HB := Lib.hid hbel
      clear heq hbel
      by_cases hlt : k < n
      · have h1 := HLN.out
        have h2 := HN.out
        obtain ⟨x, hx⟩ : ∃ x, l[k]? = some x := ⟨_, List.getElem?_eq_getElem (by omega)⟩
        obtain ⟨y, hy⟩ : ∃ y, m[k]? = some y := ⟨_, List.getElem?_eq_getElem (by omega)⟩
        obtain ⟨b, o, rfl, c1⟩ := HC.out k x hx
        obtain ⟨b', o', rfl, c2⟩ := HC'.out k y hy
        have d1 := (HB.out.cell (block_lt_of_cell c1)).trans c1
        have d2 := (HB.out.cell (block_lt_of_cell c2)).trans c2
        have HX := Lib.hid hx
        have HY := Lib.hid hy
        clear hx hy c1 c2 h1 h2
        have hk1 : (k : Int) < (n : Int) := by omega
        have hg1 : decide ((k : Int) < (n : Int)) = true := decide_eq_true hk1
        by_cases hxy : x = y
        · subst hxy
          have e1 : (x != x) = false := by simp
          go_wp2_with fail
          go_quiet (fail)
          go_wp2_with fail
          go_roundg (n - (k + 1))
          case measure => omega
          case rel => exact ⟨k + 1, by omega, by omega, by go_num, fun j hj => by
            by_cases hj2 : j < k
            · exact HE.out j hj2
            · obtain rfl : j = k := by omega
              rw [HX.out, HY.out], drewN_below HB.out _⟩
        · have e1 : (x != y) = true := by simpa using hxy
          have HXY := Lib.hid hxy
          clear hxy
          go_wp2_with fail
          go_quiet (fail)
          go_wp2_with fail
          go_ret
          exact ⟨ret_bool (by
            symm
            refine decide_eq_false fun e => HXY.out ?_
            have := HX.out
            rw [e, HY.out] at this
            exact (Option.some.inj this).symm), drewN_below HB.out _⟩
      · obtain rfl : k = n := by omega
        have hk1 : ¬ (k : Int) < (k : Int) := by omega
        have hg1 : decide ((k : Int) < (k : Int)) = false := decide_eq_false hk1
        go_wp2_with fail
        go_ret
        exact ⟨ret_bool (by
          symm
          refine decide_eq_true (List.ext_getElem? fun j => ?_)
          rcases Nat.lt_or_ge j k with h1 | h1
          · exact HE.out j h1
          · have h2 := HLN.out
            have h3 := HN.out
            rw [List.getElem?_eq_none (by omega), List.getElem?_eq_none (by omega)]), HB.out⟩
  · have HL : Hid (l ≠ m) := Lib.hid fun e => hlen (by rw [e])
    have e1 : ((l.length : Int) != (m.length : Int)) = true := by simp; omega
    have hne : ¬ (l.length : Int) = (m.length : Int) := by omega
    clear hlen
    go_enter Tryz.func23, Tryz.ntmps23
    go_wp2_with fail
    go_ret
    exact ⟨ret_bool (by symm; exact decide_eq_false HL.out), Below.refl _ _⟩
theorem ItemsAt.of_row {w : World} {g n cap : Nat} {l : List (It × Value)} (h : Blk w g (itCells l)) (hn : l.length = n) (hc : n ≤ cap) (hw : ∀ x ∈ l, x.1.Wf ∧ BytesAt w x.2 x.1.blk.bytes) : ItemsAt w (.slice (some ⟨g, 0, none⟩) n cap) l := by
  subst hn
  refine ⟨_, cap, rfl, hc, fun i x hx => ?_⟩
  obtain ⟨h1, h2⟩ := hw x (List.mem_of_getElem? hx)
  refine ⟨h1, h2, g, 0, rfl, fun j hj => h.cell ?_⟩
  rw [It.arr_size h1] at hj
  rw [Nat.zero_add, itCells_at (fun y hy => (hw y hy).1) hj, hx]
  show (x.1.cells x.2)[j]? = _
  rw [List.getElem?_eq_getElem (by rw [It.cells_length h1]; exact hj)]
  rfl
theorem Blk.grown {w w' : World} {b : Nat} {l : List Value} {row : Option Nat} (h : Blk w b l) (hg : w.grownBy w' row) (hr : ∀ k, row = some k → k ≠ b) : Blk w' b l := h.of_block (hg.block b h.lt fun e => hr b e.symm rfl)
theorem MarksAt.grown {w w' : World} {sv : Value} {l : List Mk} {row : Option Nat} {B : Nat} (h : MarksAt w sv l) (hg : w.grownBy w' row) (hf : Fresh B sv) (hr : ∀ k, row = some k → k < B) : MarksAt w' sv l := by
  obtain ⟨a, cap, e, hc⟩ := h
  refine ⟨a, cap, e, fun i x hx => ?_⟩
  obtain ⟨b, o, e2, h1, h2⟩ := hc i x hx
  have hb := hg.block b (block_lt_of_cell h1) fun e3 => by
    have h3 := hr b e3.symm
    have h4 := hf b o _ _ (by rw [e, e2])
    omega
  exact ⟨b, o, e2, by rw [← h1]; simp only [World.cell?, hb], by rw [← h2]; simp only [World.cell?, hb]⟩
/-- A variable that holds no byte, and few cells. -/
structure NoIt (L : List Value) : Prop where
  few : L.length ≤ 46
  byte : ∀ x, (Value.int .u8 x) ∉ L
theorem Blk.has_cell {w : World} {g : Nat} {L : List Value} (h : Blk w g L) {i : Nat} {v : Value} (hc : w.cell? ⟨g, i, none⟩ = some v) : L[i]? = some v := by
  obtain ⟨t, ht⟩ := h
  rw [cell_of_row w g i _ t _ ht] at hc
  simpa using hc
theorem ItemsAt.only {w w' : World} {sv : Value} {l : List (It × Value)} {g : Nat} {L : List Value} (h : ItemsAt w sv l) (hb : Blk w g L) (hL : NoIt L) (ho : Only (fun k => k = g) w w') : ItemsAt w' sv l := by
  obtain ⟨a, cap, e, hcap, hc⟩ := h
  refine ⟨a, cap, e, hcap, fun i x hx => ?_⟩
  obtain ⟨h1, h2, b, o, h3, h4⟩ := hc i x hx
  have hne : b ≠ g := by
    rintro rfl
    have := hb.has_cell (h4 46 (by rw [It.arr_size h1]; decide))
    have := (List.getElem?_eq_some_iff.1 this).1
    have := hL.few
    omega
  have hbb := ho.block b (h4.lt (by rw [It.arr_size h1]; decide)) hne
  refine ⟨h1, ?_, b, o, h3, fun j hj => ?_⟩
  · by_cases h0 : x.1.blk.bytes.length = 0
    · obtain ⟨a, cap, e, _⟩ := h2
      exact ⟨a, cap, e, fun i z hz => by rw [List.eq_nil_of_length_eq_zero h0] at hz; simp at hz⟩
    · refine h2.only ho fun b2 o2 n2 c2 e2 => ?_
      rintro rfl
      obtain ⟨b3, o3, c3, e3, hc3⟩ := h2.has (by omega)
      rw [e2] at e3
      cases e3
      have := hb.has_cell (hc3 0 x.1.blk.bytes[0] (by simp))
      exact hL.byte _ (List.mem_of_getElem? this)
  · rw [← h4 j hj]
    simp only [World.cell?, hbb]
def rp (n : Nat) (v : Int) : List Int := List.replicate n v
theorem small1 : Small 1 := ⟨by decide, by decide⟩
theorem zero70z : (Tryz.prog.info? 70).bind (·.zero) = some (.agg (u8s (zeros 32)).toArray) := by kernel_rfl
theorem filled32_set (v : Int) (k : Nat) (h : k < 32) : (List.replicate k v ++ zeros (32 - k)).set k v = List.replicate (k + 1) v ++ zeros (32 - (k + 1)) := by
  unfold zeros
  rw [List.set_append_right _ _ (by simp), show 32 - k = (32 - (k + 1)) + 1 by omega, List.replicate_succ]
  simp only [List.length_replicate, Nat.sub_self, List.set_cons_zero]
  rw [List.replicate_succ', List.append_assoc]
  rfl
theorem filled32_at (v : Int) (k : Nat) (h : k < 32) : (u8s (List.replicate k v ++ zeros (32 - k)))[k]? = some (.int .u8 0) := by
  rw [List.getElem?_map]
  unfold zeros
  rw [List.getElem?_append_right (by simp)]
  simp only [List.length_replicate, Nat.sub_self]
  rw [List.getElem?_replicate, if_pos (by omega)]
  rfl
set_option maxRecDepth 100000 in
theorem leaf_any (v : Int) (w : World) : Calls Tryz.prog 35 #[.int .u8 v] w fun e w' => e = .returned (.agg (u8s (rp 32 v)).toArray) ∧ Below w.heap.size w w' := by
  go_enter Tryz.func35, Tryz.ntmps35
  go_upto_region 0 with fail
  refine wp_region_lit ?_
  refine alloc_g zero70z rfl ?_
  intro w1 hA hb hl
  try simp only [Act.put, List.setIfInBounds_toArray, List.set_cons_succ, List.set_cons_zero]
  have HA := Lib.hid hA
  have HB := Lib.hid hb
  have HL := Lib.hid hl
  clear hA hb hl
  refine wpList_nil ?_
  go_upto_region 1 with fail
  refine wp_region_lit ?_
  refine alloc_g zero70z rfl ?_
  intro w2 hA hb hl
  try simp only [Act.put, List.setIfInBounds_toArray, List.set_cons_succ, List.set_cons_zero]
  have HA2 := Lib.hid (HA.out.below hb HL.out)
  have HC := Lib.hid hA
  have HB2 := Lib.hid (stay HB.out hb)
  obtain ⟨t, ht⟩ : ∃ t, w1.heap.size = t := ⟨_, rfl⟩
  rw [ht] at HC HL ⊢
  clear hA hb hl HA HB ht
  refine wpList_nil ?_
  go_wp2_with fail
  go_loopg [4] 32 (fun q i wr => ∃ k : Nat, 32 - k ≤ q ∧ k ≤ 32 ∧ i = .int .i64 k ∧ Blk wr w.heap.size (u8s (zeros 32)) ∧ Blk wr t (u8s (List.replicate k v ++ zeros (32 - k))) ∧ Below w.heap.size w wr)
  case atStart => exact ⟨0, by omega, by omega, rfl, HA2.out, HC.out, HB2.out⟩
  case round =>
    obtain ⟨k, hq, hk, rfl, h1, h2, h3⟩ := hrel
    have H1 := Lib.hid h1
    have H2 := Lib.hid h2
    have H3 := Lib.hid h3
    clear h1 h2 h3 HA2 HC HB2
    by_cases hlt : k < 32
    · have c0 := H2.out.cell (filled32_at v k hlt)
      have f0 := H2.out.frozen k
      have gk : decide ((k : Int) < 32) = true := decide_eq_true (by omega)
      have HR : Hid (Blk (wr.setCell ⟨t, k, none⟩ (.int .u8 v)) t (u8s (List.replicate (k + 1) v ++ zeros (32 - (k + 1))))) := Lib.hid (by
        have := H2.out.set k (.int .u8 v)
        rw [show (u8s (List.replicate k v ++ zeros (32 - k))).set k (.int .u8 v) = u8s ((List.replicate k v ++ zeros (32 - k)).set k v) by simp [List.map_set], filled32_set v k hlt] at this
        exact this)
      have HR1 : Hid (Blk (wr.setCell ⟨t, k, none⟩ (.int .u8 v)) w.heap.size (u8s (zeros 32))) := Lib.hid (H1.out.setOther (by have := HL.out; simp only; omega) _)
      have HR3 : Hid (Below w.heap.size w (wr.setCell ⟨t, k, none⟩ (.int .u8 v))) := Lib.hid (H3.out.setCell (by have := HL.out; simp only; omega) _)
      go_wp2_with fail
      go_roundg (32 - (k + 1))
      case measure => omega
      case rel => exact ⟨k + 1, by omega, by omega, by go_num, HR1.out, HR.out, HR3.out⟩
    · obtain rfl : k = 32 := by omega
      rw [Nat.sub_self, show zeros 0 = [] from rfl, List.append_nil] at H2
      have HLN : Hid ((rp 32 v).length = 32) := Lib.hid (by simp [rp])
      have HZ : Hid ((zeros 32).length = 32) := Lib.hid (zeros_length 32)
      have hrp : List.replicate 32 v = rp 32 v := rfl
      rw [hrp] at H2
      obtain ⟨p, hp⟩ : ∃ p, rp 32 v = p := ⟨_, rfl⟩
      rw [hp] at H2 HLN
      have HP := Lib.hid hp
      clear hp hlt hrp
      go_upto_region 6 with fail
      refine wp_region_lit ?_
      refine load70 (cs := (u8s p).toArray) (Blk.all H2.out rfl) (by rw [u8s_size, HLN.out]) rfl rfl ?_
      try simp only [Act.put, List.setIfInBounds_toArray, List.set_cons_succ, List.set_cons_zero]
      refine store_all (cs := (u8s p).toArray) H1.out (by rw [u8s_size, HLN.out, List.length_map, HZ.out]) (by rw [u8s_size, HLN.out]; exact info70) (u8s_one _) rfl rfl rfl ?_
      intro w9 hD hO hlD
      try simp only [Act.put, List.setIfInBounds_toArray, List.set_cons_succ, List.set_cons_zero]
      have HD := Lib.hid hD
      have HR := Lib.hid (H3.out.trans (hO.below H3.out.size fun k hk => Nat.le_of_eq hk.symm))
      clear hD hO hlD
      refine wpList_nil ?_
      go_wp2_with fail
      refine bodyPost_ret (v := .agg (u8s p).toArray) (results_cell_at rfl _ _ w.heap.size 0 _ _ rfl Tryz.underlying70 rfl (by rw [u8s_size, HLN.out]; exact info70) (Blk.all HD.out rfl)) rfl ⟨by rw [HP.out], HR.out⟩
/-- Are blocks not too many, nor too long? -/
def fair (L : List It) : Bool := L.all (fun b => decide (b.blk.bytes.length ≤ 300)) && decide (L.length ≤ 100)
theorem fair_no {L : List It} {b : It} {k : Nat} (h : L[k]? = some b) (h3 : 300 < b.blk.bytes.length) : fair L = false := by
  unfold fair
  rw [Bool.and_eq_false_iff]
  refine .inl ?_
  rw [← Bool.not_eq_true, List.all_eq_true]
  intro e
  have := e b (List.mem_of_getElem? h)
  simp at this
  omega
theorem fair_yes {L : List It} (h : ∀ (j : Nat) (b : It), L[j]? = some b → b.blk.bytes.length ≤ 300) : fair L = decide (L.length ≤ 100) := by
  unfold fair
  rw [List.all_eq_true.2 (fun b hb => by
    obtain ⟨j, hj⟩ := List.getElem?_of_mem hb
    exact decide_eq_true (h j b hj)), Bool.true_and]
theorem fair_any (l : List (It × Value)) (n : Nat) (hn : l.length = n) (hbig : n ≤ 9223372036854775807) (sv : Value) (w : World) (h : ItemsAt w sv l) : Calls Tryz.prog 12 #[sv] w fun e w' => e = .returned (.bool (fair (l.map (·.1)))) ∧ w = w' := by
  rcases Nat.eq_zero_or_pos n with rfl | hpos
  · obtain rfl : l = [] := List.eq_nil_of_length_eq_zero hn
    obtain ⟨a, cap, rfl, -⟩ := h
    clear hn
    go_enter Tryz.func12, Tryz.ntmps12
    go_wp2_with fail
    go_loopg [3] 0 (fun q i wr => i = .int .i64 0 ∧ wr = w)
    case atStart => exact ⟨rfl, rfl⟩
    case round =>
      obtain ⟨rfl, rfl⟩ := hrel
      go_wp2_with fail
      go_ret
      exact ⟨rfl, rfl⟩
  obtain ⟨g, o, cap, rfl, -, hg, hc⟩ := h.has (by omega)
  rw [hn]
  have HN := Lib.hid hn
  have HC := Lib.hid hc
  clear hn hc hg h
  go_enter Tryz.func12, Tryz.ntmps12
  go_wp2_with fail
  go_loopg [3] n (fun q i wr => ∃ k : Nat, n - k ≤ q ∧ k ≤ n ∧ i = .int .i64 k ∧ (∀ j x, j < k → l[j]? = some x → x.1.blk.bytes.length ≤ 300) ∧ wr = w)
  case atStart => exact ⟨0, by omega, by omega, rfl, fun j x hj => by omega, rfl⟩
  case round =>
    obtain ⟨k, hq, hk, rfl, hall, rfl⟩ := hrel
    have HALL := Lib.hid hall
    clear hall
    by_cases hlt : k < n
    · obtain ⟨x, hx⟩ : ∃ x, l[k]? = some x := ⟨_, List.getElem?_eq_getElem (by have := HN.out; omega)⟩
      obtain ⟨b, bv⟩ := x
      obtain ⟨x1, x2, x3⟩ := HC.out k _ hx
      obtain ⟨ba, bc, hbv⟩ := x2.len
      simp only at hbv x1 x3
      obtain ⟨bn, hbn⟩ : ∃ bn, b.blk.bytes.length = bn := ⟨_, rfl⟩
      rw [hbn] at hbv
      subst hbv
      have c35 := x3 37 (by rw [It.arr_size x1]; decide)
      have e35 : (b.arr (.slice ba bn bc))[37]'(by rw [It.arr_size x1]; decide) = .slice ba bn bc := by
        have := Bk.at35 x1.b (.slice ba bn bc)
        simp only [It.arr, It.cells, List.getElem_toArray]
        have h2 := Bk.cells_length x1.b (.slice ba bn bc)
        rw [List.getElem?_eq_getElem (by omega)] at this
        simpa using this
      rw [e35] at c35
      have gk : decide ((k : Int) < (n : Int)) = true := decide_eq_true (by omega)
      have gw : IntKind.i64.wrap ((k : Int) + 1) = (k : Int) + 1 := by rw [IntKind.wrap_i64]; omega
      have HX := Lib.hid hx
      have HBN := Lib.hid hbn
      clear e35 x1 x2 x3 hx hbn
      by_cases h3 : 300 < bn
      · have g3 : decide (300 < (bn : Int)) = true := decide_eq_true (by omega)
        go_wp2_with fail
        go_ret
        exact ⟨ret_bool (fair_no (k := k) (b := b) (by rw [List.getElem?_map, HX.out]; rfl) (by rw [HBN.out]; exact h3)).symm, rfl⟩
      · have g3 : decide (300 < (bn : Int)) = false := decide_eq_false (by omega)
        go_wp2_with fail
        go_roundg (n - (k + 1))
        case measure => omega
        case rel => exact ⟨k + 1, by omega, by omega, by go_num, fun j x hj e => by
          rcases Nat.lt_succ_iff_lt_or_eq.1 hj with hj | rfl
          · exact HALL.out j x hj e
          · rw [HX.out] at e
            cases e
            show b.blk.bytes.length ≤ 300
            have := HBN.out
            omega, rfl⟩
    · obtain rfl : k = n := by omega
      have gk : decide ((k : Int) < (k : Int)) = false := decide_eq_false (by omega)
      go_wp2_with fail
      go_ret
      refine ⟨ret_bool ?_, rfl⟩
      rw [fair_yes (fun j b hj => by
        rw [List.getElem?_map] at hj
        cases hq : l[j]? with
        | none => rw [hq] at hj; cases hj
        | some x =>
          rw [hq] at hj
          cases hj
          exact HALL.out j x (by have := (List.getElem?_eq_some_iff.1 hq).1; have := HN.out; omega) hq), List.length_map, HN.out]
      by_cases h : k ≤ 100
      · rw [decide_eq_true h, decide_eq_true (by omega)]
      · rw [decide_eq_false h, decide_eq_false (by omega)]
/-- An image's block, and its item; a mark alone. -/
def imgB (id v : Int) : Bk := ⟨1, id, rp 32 v, 0, [], 0, zeros 8⟩
def imgI (id v : Int) : It := ⟨(1, id), imgB id v⟩
theorem built73i (id v : Int) : Tryz.prog.built 73 [(0, .int .i64 1), (1, .int .i64 id), (2, .agg (u8s (rp 32 v)).toArray)] = some ((imgB id v).arr (.slice none 0 0)) := by kernel_rfl
theorem built75i (id v : Int) : Tryz.prog.built 75 [(0, .agg #[.int .i64 1, .int .i64 id]), (1, .agg ((imgB id v).arr (.slice none 0 0)))] = some ((imgI id v).arr (.slice none 0 0)) := by kernel_rfl
theorem built68 (k i : Int) : Tryz.prog.built 68 [(0, .int .i64 k), (1, .int .i64 i)] = some #[.int .i64 k, .int .i64 i] := by kernel_rfl
theorem zeros_small (n : Nat) : ∀ x ∈ zeros n, Small x := fun x hx => by
  rw [List.eq_of_mem_replicate hx]
  exact small0
theorem imgI_wf {id v : Int} (h : Small id) (hv : Byte v) : (imgI id v).Wf := ⟨small1, h, ⟨small1, h, small0, small0, by simp [imgI, imgB, rp], (fun x hx => by rw [List.eq_of_mem_replicate (show x ∈ List.replicate 32 v from hx)]; exact hv), Nat.zero_le _, (fun x hx => by cases hx), zeros_length 8, zeros_small 8⟩⟩
set_option maxRecDepth 100000 in
theorem image_any (id v : Int) (h : Small id) (hv : Byte v) (w : World) : Calls Tryz.prog 24 #[.int .i64 id, .int .u8 v] w fun e w' => e = .returned (.agg ((imgI id v).arr (.slice none 0 0))) ∧ Below w.heap.size w w' := by
  have HL := Lib.hid fun w => leaf_any v w
  have HW := Lib.hid (imgI_wf h hv)
  clear h hv
  go_enter Tryz.func24, Tryz.ntmps24
  go_upto_region 0 with fail
  refine wp_region_lit ?_
  refine alloc_g zero75b rfl ?_
  intro w1 hA hb hl
  try simp only [Act.put, List.setIfInBounds_toArray, List.set_cons_succ, List.set_cons_zero]
  have HA := Lib.hid hA
  have HB := Lib.hid hb
  have HLT := Lib.hid hl
  clear hA hb hl
  refine wpList_nil ?_
  go_upto_region 1 with fail
  refine wp_region_lit ?_
  refine takeL (.int .i64 id) rfl (by go_simp) ?_
  try simp only [Act.put, List.setIfInBounds_toArray, List.set_cons_succ, List.set_cons_zero]
  refine takeL (.agg #[.int .i64 1, .int .i64 id]) rfl (exec_build _ _ _ _ 68 _ rfl #[(0, .int .i64 1), (1, .int .i64 id)] (by simp only [List.map_toArray, List.map_cons, List.map_nil]; rfl) _ (run_build w1 68 _ _ (built68 _ _))) ?_
  try simp only [Act.put, List.setIfInBounds_toArray, List.set_cons_succ, List.set_cons_zero]
  refine takeL (.int .i64 id) rfl (by go_simp) ?_
  try simp only [Act.put, List.setIfInBounds_toArray, List.set_cons_succ, List.set_cons_zero]
  refine takeL (.int .u8 v) rfl (by go_simp) ?_
  try simp only [Act.put, List.setIfInBounds_toArray, List.set_cons_succ, List.set_cons_zero]
  refine wpList_op rfl fun K hK => ?_
  go_simp
  refine (HL.out _).mono ?_
  rintro e w2 ⟨rfl, hb⟩
  have HB2 := Lib.hid (stay HB.out hb)
  have HA2 := Lib.hid (HA.out.below hb HLT.out)
  clear hb HA HB HL
  refine hK _ _ ?_
  clear hK K
  try simp only [Act.put, List.setIfInBounds_toArray, List.set_cons_succ, List.set_cons_zero]
  refine takeL (.agg ((imgB id v).arr (.slice none 0 0))) rfl (exec_build _ _ _ _ 73 _ rfl #[(0, .int .i64 1), (1, .int .i64 id), (2, .agg (u8s (rp 32 v)).toArray)] (by simp only [List.map_toArray, List.map_cons, List.map_nil]; rfl) _ (run_build w2 73 _ _ (built73i _ _))) ?_
  try simp only [Act.put, List.setIfInBounds_toArray, List.set_cons_succ, List.set_cons_zero]
  refine takeL (.agg ((imgI id v).arr (.slice none 0 0))) rfl (exec_build _ _ _ _ 75 _ rfl #[(0, .agg #[.int .i64 1, .int .i64 id]), (1, .agg ((imgB id v).arr (.slice none 0 0)))] (by simp only [List.map_toArray, List.map_cons, List.map_nil]; rfl) _ (run_build w2 75 _ _ (built75i _ _))) ?_
  try simp only [Act.put, List.setIfInBounds_toArray, List.set_cons_succ, List.set_cons_zero]
  refine store_all (cs := (imgI id v).arr (.slice none 0 0)) HA2.out (same75 It.none_wf HW.out _ _) (info75s HW.out _) (It.arr_one rfl) rfl rfl rfl ?_
  intro w3 hD hO hlD
  try simp only [Act.put, List.setIfInBounds_toArray, List.set_cons_succ, List.set_cons_zero]
  have HB3 := Lib.hid (HB2.out.trans (hO.below HB2.out.size fun k hk => Nat.le_of_eq hk.symm))
  refine wpList_nil ?_
  go_wp2_with fail
  refine bodyPost_ret (v := .agg ((imgI id v).arr (.slice none 0 0))) (results_cell_at rfl _ _ w.heap.size 0 _ _ rfl Tryz.underlying75 rfl (info75s HW.out _) (hD.all rfl)) rfl ⟨rfl, HB3.out⟩
theorem items_one {w : World} {iv : Value} {pl : List (It × Value)} (h : ItemsAt w iv pl) : ∃ a c, iv = .slice a pl.length c := by
  obtain ⟨a, c, e, -⟩ := h
  exact ⟨a, c, e⟩
theorem alloc_bel (W : World) (o : Obj) : Below W.heap.size W (W.alloc o) := (Below.refl _ _).alloc (Nat.le_refl _) _
theorem fair_len {L : List It} (h : fair L = true) : L.length ≤ 100 := by
  unfold fair at h
  rw [Bool.and_eq_true, decide_eq_true_eq] at h
  exact h.2
theorem SecsAt.cellAt {w : World} {g o n c : Nat} {X : List (List Int)} {x : List Int} {i j : Nat} {v : Int} (h : SecsAt w (.slice (some ⟨g, o, none⟩) n c) X) (hx : X[i]? = some x) (hv : x[j]? = some v) : w.cell? ⟨g, o + i * 64 + j, none⟩ = some (.int .u8 v) := by
  obtain ⟨a, c', e, -, hc⟩ := h
  obtain ⟨h1, g2, o2, h3, h4⟩ := hc i x hx
  injection e with q1 q2 q3
  rw [← q1] at h3
  injection h3 with h5
  injection h5 with h6 h7
  subst h6
  subst h7
  have hj := (List.getElem?_eq_some_iff.1 hv).1
  rw [h4 j (by simpa [u8s] using hj)]
  have e := (List.getElem?_eq_some_iff.1 hv).2
  simp [u8s, e]

end Go.Proofs.YthlnmdihdcfphaaGreatDoor
