/- GroupRow's walk. -/
import Derived.Test.YtbhaifdhmfmeoaaWakes
namespace Go.Proofs.Ytbhaifdhmfmeoaa
set_option linter.unusedSimpArgs false
set_option linter.unusedVariables false
open Go.RowKit

/-- What Lay hands back. -/
structure LayOut (n : Int) (L : List It) (w w' : World) (s7 s8 : Value) (e0 : Int) : Prop where
  bel : Below w.heap.size w w'
  no : mayBe L = false → e0 = 1 ∧ s7 = .slice none 0 0 ∧ s8 = .slice none 0 0
  yes : mayBe L = true → e0 = 0 ∧ Two w w' s7 s8 (lay2 n L)
theorem lay_gen (l : List (It × Value)) (L : List It) (hL : l.map (·.1) = L) (n : Int) (hn : Seq32 n) (sv : Value) (hlen : l.length < 100000) (w : World) (h : ItemsAt w sv l) : Calls Try.prog 12 #[.int .u32 n, sv] w fun e w' => ∃ s7 s8 e0, e = .returned (.tuple #[s7, s8, .int .i64 e0]) ∧ LayOut n L w w' s7 s8 e0 := by
  cases hm : mayBe L
  · refine (lay_no l L hL hm n sv hlen w h).mono ?_
    rintro e w' ⟨rfl, hb⟩
    exact ⟨_, _, 1, rfl, hb, fun _ => ⟨rfl, rfl, rfl⟩, fun h2 => by rw [hm] at h2; cases h2⟩
  · refine (lay_yes l L hL hm n hn sv w h).mono ?_
    rintro e w' ⟨s7, s8, rfl, ht⟩
    exact ⟨s7, s8, 0, rfl, ht.b, fun h2 => (by rw [hm] at h2; cases h2), fun _ => ⟨rfl, ht⟩⟩
theorem fair_len {L : List It} (h : fair L = true) : L.length ≤ 100 := by
  unfold fair at h
  rw [Bool.and_eq_true, decide_eq_true_eq] at h
  exact h.2
theorem lit0S (w : World) (B : Nat) (hB : B ≤ w.heap.size) : OwnS (w.alloc (.cells #[] 50)) B (.slice (some ⟨w.heap.size, 0, none⟩) 0 0) [] :=
  ⟨⟨by simp [secCells], .inr ⟨w.heap.size, 0, #[], rfl, hB, heap_alloc_new w _, Nat.le_refl _, by simp only [maxLen]; omega, by simp, by simp [secCells]⟩⟩, fun y hy => by cases hy⟩
/-- What lies in memory behind the second Read. -/
structure R2 (w wx : World) (al : Value) (X : List (List Int)) (f : Nat) (F : List Value) (t : Nat) (iv dv : Value) (pb : Int) (lb : Nat) (pl : List (It × Value)) (B : List It) : Prop where
  bel : Below w.heap.size w wx
  al : SecsAt wx al X
  fb : Blk wx f F
  it : ItemsAt wx iv pl
  eq : pl.map (·.1) = B
  box : Blk wx t [iv, dv, .int .i64 lb, .int .i64 pb]
theorem R2.below {w wx wy : World} {al : Value} {X : List (List Int)} {f : Nat} {F : List Value} {t : Nat} {iv dv : Value} {pb : Int} {lb : Nat} {pl : List (It × Value)} {B : List It} (h : R2 w wx al X f F t iv dv pb lb pl B) (hb : Below wx.heap.size wx wy) : R2 w wy al X f F t iv dv pb lb pl B :=
  ⟨stay h.bel hb, h.al.below hb, h.fb.below hb h.fb.lt, h.it.below hb, h.eq, h.box.below hb h.box.lt⟩
theorem noit36 : NoIt [.slice none 0 0, .slice none 0 0, .int .i64 0, .int .i64 0] := noIt4 _ _ _ _ _ _ _ _
theorem wp_store_all {P : Program} {o : Oper} {a : Act} {w : World} {K : Act → World → Prop} {Q : Exit → Act → World → Prop} (ty : TypeId) (x y : Operand) (ho : o.op = .store ty x y) (g : Nat) (cs : Array Value) (hx : a.eval x = .pointer (some ⟨g, 0, none⟩)) (hy : a.eval y = .agg cs) (l : List Value) (hg : Blk w g l) (hl : l.length = cs.size) (hi : (P.info? ty).map (·.size) = some cs.size) (h1 : ∀ v ∈ cs, v.oneCell' = true)
    (h : ∀ wX, Blk wX g cs.toList → Only (fun k => k = g) w wX → K (a.put o.dst undef) wX) : o.wp P a w K Q := by
  refine wp_store_at ty x y ho g 0 cs hx hy l hg hi (by omega) h1 ?_
  rw [splice_all _ _ hl]
  exact h _ (hg.row cs) ((Only.refl (fun k => k = g) w).setRow (g := g) (.inl rfl) cs)
theorem exec_from24c (w : World) (ev : Operand → Value) (op : Oper) (x y : Operand) (ho : op.op = .slice 24 x (some y) none none) (a : Option Addr) (n cap f c : Nat) (hx : ev x = .slice a n cap) (hy : ev y = .int .i64 f) (h1 : n = f + c) : (execOp ev op).run Try.prog w = .ok (.value (.slice (cutA a f cap 64) c (cap - f))) w := by
  have := exec_from24 w ev op x y ho a n cap f hx hy (by omega)
  rw [show n - f = c by omega] at this
  exact this
theorem secs_from {w : World} {a : Option Addr} {cap la lb : Nat} {X Y : List (List Int)} (h : SecsAt w (.slice a (la + lb) cap) (X ++ Y)) (hx : X.length = la) (hy : Y.length = lb) : SecsAt w (.slice (cutA a la cap 64) lb (cap - la)) Y := by
  have := h.cut la (la + lb) (by omega) (by omega) Y (by rw [List.drop_left' hx, show la + lb - la = lb by omega, ← hy, List.take_length])
  rwa [show la + lb - la = lb by omega] at this
theorem seq_ok {n : Int} (h : 0 ≤ n ∧ n < 4294967296) : Seq32 n := h
set_option maxRecDepth 100000 in
theorem row_bad (a b : List (It × Value)) (n : Int) (hn : 0 ≤ n ∧ n < 4294967296) (av bv : Value) (na : a.length ≤ 9223372036854775807) (nb : b.length ≤ 9223372036854775807) (hf : (fair (a.map (·.1)) && fair (b.map (·.1))) = false) (w : World) (ha : ItemsAt w av a) (hb : ItemsAt w bv b) : Calls Try.prog 6 #[av, bv, .int .u32 n] w fun e w' => e = .returned (.bool true) ∧ Below w.heap.size w w' := by
  have HFA := Lib.hid (fair_any a a.length rfl na av w ha)
  have HFB := Lib.hid (fair_any b b.length rfl nb bv w hb)
  have HWK := Lib.hid wakes_any
  cases h1 : fair (a.map (·.1))
  · rw [h1] at HFA
    clear ha hb na nb hf h1 HFB
    go_enter Try.func6, Try.ntmps6
    go_wp2_with fail
    refine HFA.out.mono ?_
    rintro e w2 ⟨rfl, rfl⟩
    go_wp2_with fail
    refine (HWK.out _).mono ?_
    rintro e w3 ⟨rfl, hb⟩
    have HB := Lib.hid hb
    clear hb
    go_wp2_with fail
    go_ret
    exact ⟨rfl, HB.out⟩
  · rw [h1, Bool.true_and] at hf
    rw [h1] at HFA
    rw [hf] at HFB
    clear ha hb na nb hf h1
    go_enter Try.func6, Try.ntmps6
    go_wp2_with fail
    refine HFA.out.mono ?_
    rintro e w2 ⟨rfl, rfl⟩
    go_wp2_with fail
    refine HFB.out.mono ?_
    rintro e w2 ⟨rfl, rfl⟩
    go_wp2_with fail
    refine (HWK.out _).mono ?_
    rintro e w3 ⟨rfl, hb⟩
    have HB := Lib.hid hb
    clear hb
    go_wp2_with fail
    go_ret
    exact ⟨rfl, HB.out⟩
set_option maxRecDepth 100000 in
set_option maxHeartbeats 8000000 in
theorem row_any (a b : List (It × Value)) (n : Int) (hn : 0 ≤ n ∧ n < 4294967296) (av bv : Value) (na : a.length ≤ 9223372036854775807) (nb : b.length ≤ 9223372036854775807) (w : World) (ha : ItemsAt w av a) (hb : ItemsAt w bv b) : Calls Try.prog 6 #[av, bv, .int .u32 n] w fun e w' => e = .returned (.bool true) ∧ Below w.heap.size w w' := by
  cases hf : (fair (a.map (·.1)) && fair (b.map (·.1)))
  · exact row_bad a b n hn av bv na nb hf w ha hb
  rw [Bool.and_eq_true] at hf
  obtain ⟨hfa, hfb⟩ := hf
  have HFA := Lib.hid (fair_any a a.length rfl na av w ha)
  have HFB := Lib.hid (fair_any b b.length rfl nb bv w hb)
  rw [hfa] at HFA
  rw [hfb] at HFB
  have hla := fair_len hfa
  have hlb := fair_len hfb
  rw [List.length_map] at hla hlb
  have HWK := Lib.hid wakes_any
  obtain ⟨A, hA⟩ : ∃ A, a.map (·.1) = A := ⟨_, rfl⟩
  obtain ⟨B, hB⟩ : ∃ B, b.map (·.1) = B := ⟨_, rfl⟩
  have HLA := Lib.hid fun w h => lay_gen a A hA n hn av (by omega) w h
  have HPA := Lib.hid fun w h => partsG_any a A hA av (by omega) w h
  have HLB := Lib.hid fun q (hq : Seq32 q) w h => lay_gen b B hB q hq bv (by omega) w h
  have HIA := Lib.hid ha
  have HIB := Lib.hid hb
  have HA := Lib.hid hA
  have HBB := Lib.hid hB
  have HLAN := Lib.hid hla
  have HLBN := Lib.hid hlb
  have HAW : Hid (∀ x ∈ A, x.Wf) := Lib.hid (by rw [← hA]; exact ha.wf)
  have HBW : Hid (∀ x ∈ B, x.Wf) := Lib.hid (by rw [← hB]; exact hb.wf)
  have HALN : Hid (A.length ≤ 100) := Lib.hid (by rw [← hA, List.length_map]; exact hla)
  obtain ⟨pa, hpa⟩ : ∃ p : Nat, partsN A = (p : Int) := by
    unfold partsN
    split
    · exact ⟨_, rfl⟩
    · exact ⟨0, rfl⟩
  have hpa10 : pa ≤ 10 := by
    unfold partsN at hpa
    split at hpa
    · have : parts A.length ≤ 10 := by have := HALN.out; unfold parts; omega
      omega
    · omega
  rw [hpa] at HPA
  have HPN := Lib.hid hpa
  obtain ⟨q, hq⟩ : ∃ q, (n + (pa : Int)) % M32 = q := ⟨_, rfl⟩
  have HQ : Hid (Seq32 q) := Lib.hid (by rw [← hq]; exact seq_mod _)
  have gq : Hid (IntKind.u32.wrap (n + (pa : Int)) = q) := Lib.hid (by rw [IntKind.wrap_u32, ← hq]; rfl)
  have HQQ := Lib.hid hq
  have HSEQ := Lib.hid (seq_ok hn)
  clear hfa hfb hla hlb hA hB ha hb na nb hpa hq
  go_enter Try.func6, Try.ntmps6
  go_wp2_with fail
  refine HFA.out.mono ?_
  rintro e w2 ⟨rfl, rfl⟩
  go_wp2_with fail
  refine HFB.out.mono ?_
  rintro e w2 ⟨rfl, rfl⟩
  go_wp2_with fail
  refine (HLA.out _ HIA.out).mono ?_
  rintro e w2 ⟨s7, s8, e0, rfl, hlo⟩
  have HB2 := Lib.hid hlo.bel
  have HLO := Lib.hid hlo
  clear hlo HFA HFB HLA
  go_wp2_with fail
  refine (HPA.out _ (HIA.out.below HB2.out)).mono ?_
  rintro e w3 ⟨rfl, hb⟩
  have HB3 := Lib.hid (stay HB2.out hb)
  have HB23 := Lib.hid hb
  clear hb HPA
  have gpw : IntKind.u32.wrap (pa : Int) = (pa : Int) := wrap32 (by omega) (by omega)
  have gqq := gq.out
  go_wp2_with fail
  refine (HLB.out q HQ.out _ (HIB.out.below HB3.out)).mono ?_
  rintro e w4 ⟨t7, t8, e1, rfl, hlo⟩
  have HB4 := Lib.hid (stay HB3.out hlo.bel)
  have HLP := Lib.hid hlo
  clear hlo HLB gqq gpw
  cases hmA : mayBe A
  · obtain ⟨rfl, rfl, rfl⟩ := HLO.out.no hmA
    clear hmA
    go_wp2_with fail
    refine (HWK.out _).mono ?_
    rintro e w5 ⟨rfl, hb⟩
    have HB5 := Lib.hid (stay HB4.out hb)
    clear hb
    go_wp2_with fail
    go_ret
    exact ⟨rfl, HB5.out⟩
  cases hmB : mayBe B
  · obtain ⟨rfl, rfl, rfl⟩ := HLP.out.no hmB
    obtain ⟨rfl, -⟩ := HLO.out.yes hmA
    clear hmA hmB
    go_wp2_with fail
    refine (HWK.out _).mono ?_
    rintro e w5 ⟨rfl, hb⟩
    have HB5 := Lib.hid (stay HB4.out hb)
    clear hb
    go_wp2_with fail
    go_ret
    exact ⟨rfl, HB5.out⟩
  obtain ⟨rfl, htA⟩ := HLO.out.yes hmA
  obtain ⟨rfl, htB⟩ := HLP.out.yes hmB
  have HXS := Lib.hid ((htA.s.secs.below HB23.out).below HLP.out.bel)
  have HYS := Lib.hid htB.s.secs
  obtain ⟨ax, cx, hs7, -⟩ := htA.s.len
  obtain ⟨ay, cy, ht7, -⟩ := htB.s.len
  obtain ⟨la, hla⟩ : ∃ l, (lay2 n A).1.length = l := ⟨_, rfl⟩
  obtain ⟨lb, hlb⟩ : ∃ l, (lay2 q B).1.length = l := ⟨_, rfl⟩
  rw [hla] at hs7
  rw [hlb] at ht7
  subst hs7
  subst ht7
  have HLA := Lib.hid hla
  have HLB := Lib.hid hlb
  have hpp : parts A.length = pa := by
    have := HPN.out
    unfold partsN at this
    rw [hmA, if_pos rfl] at this
    omega
  have HPP := Lib.hid hpp
  have hla4 : la ≤ 200 := by
    rw [← hla, lay2_length]
    have h1 := blocks_le (marks A)
    rw [List.length_map] at h1
    have := HALN.out
    omega
  have hlb4 : lb ≤ 300 := by
    rw [← hlb, lay2_length]
    have h1 := blocks_le (marks B)
    rw [List.length_map] at h1
    have h2 : B.length ≤ 100 := by rw [← HBB.out, List.length_map]; exact HLBN.out
    have : parts B.length ≤ 10 := by unfold parts; omega
    omega
  have hne : n ≠ q := by
    have h1 := HQQ.out
    have h2 := (parts_pos hmA)
    rw [hpp] at h2
    have h3 := hn.1
    have h4 := hn.2
    simp only [M32] at h1
    omega
  have HRD1 := Lib.hid fun w sv h => readG_any n HSEQ.out ((lay2 n A).1 ++ (lay2 q B).1) (la + lb) (by rw [List.length_append, hla, hlb]) (by omega) sv w h
  rw [readP_lay hmA HAW.out] at HRD1
  have HRD2 := Lib.hid fun w sv h => readG_any q HQ.out (lay2 q B).1 lb hlb (by omega) sv w h
  have e2 := readP_lay (n := q) hmB HBW.out []
  rw [List.append_nil] at e2
  rw [e2] at HRD2
  have HRD3 := Lib.hid fun w sv h => readG_any q HQ.out ((lay2 n A).1 ++ (lay2 q B).1) (la + lb) (by rw [List.length_append, hla, hlb]) (by omega) sv w h
  rw [readP_other HSEQ.out HQ.out hne hmA HAW.out _ (lay2_sc HBW.out q)] at HRD3
  have HAN : Hid (A.length = a.length) := Lib.hid (by rw [← HA.out, List.length_map])
  have HBN : Hid (B.length = b.length) := Lib.hid (by rw [← HBB.out, List.length_map])
  clear hla hlb e2 htA htB HLO HLP hmA hmB hpp hne
  go_upto_region 7 with fail
  refine wp_region_lit ?_
  refine wpList_run (.slice (some ⟨w4.heap.size, 0, none⟩) 0 0) (w4.alloc (.cells #[] 50)) rfl (by go_simp) ?_
  try simp only [Act.put, List.setIfInBounds_toArray, List.set_cons_succ, List.set_cons_zero]
  have hO5 := Lib.hid (lit0S w4 w4.heap.size (Nat.le_refl _))
  have HB5 := Lib.hid (alloc_bel w4 (.cells #[] 50))
  generalize w4.alloc (.cells #[] 50) = w5 at *
  refine takeL (.slice ax la cx) rfl (by go_simp) ?_
  try simp only [Act.put, List.setIfInBounds_toArray, List.set_cons_succ, List.set_cons_zero]
  refine app_LS hO5.out HB5.out.size (HXS.out.below HB5.out) (by rw [HLA.out]; simp only [List.length_nil]; omega) rfl rfl rfl ?_
  intro s6 w6 ho6 hg6
  try simp only [Act.put, List.setIfInBounds_toArray, List.set_cons_succ, List.set_cons_zero]
  have HB6 := Lib.hid (HB5.out.trans (grown_below hg6 HB5.out.size fun k hk => (hO5.out.lt k hk).1))
  rw [List.nil_append] at ho6
  have HO6 := Lib.hid ho6
  clear ho6 hg6 HB5 hO5
  refine takeL (.slice ay lb cy) rfl (by go_simp) ?_
  try simp only [Act.put, List.setIfInBounds_toArray, List.set_cons_succ, List.set_cons_zero]
  refine app_LS HO6.out HB6.out.size (HYS.out.below HB6.out) (by rw [HLA.out, HLB.out]; omega) rfl rfl rfl ?_
  intro s8' w7 ho7 hg7
  try simp only [Act.put, List.setIfInBounds_toArray, List.set_cons_succ, List.set_cons_zero]
  have HB7 := Lib.hid (HB6.out.trans (grown_below hg7 HB6.out.size fun k hk => (HO6.out.lt k hk).1))
  have HAL := Lib.hid ho7.secs
  obtain ⟨aq, cq, hsq, -⟩ := ho7.len
  rw [List.length_append, HLA.out, HLB.out] at hsq
  subst hsq
  clear ho7 hg7 HB6 HO6
  refine takeL (.slice aq (la + lb) cq) rfl (by go_simp) ?_
  try simp only [Act.put, List.setIfInBounds_toArray, List.set_cons_succ, List.set_cons_zero]
  refine wpList_nil ?_
  go_wp2_with fail
  refine (HRD1.out _ _ HAL.out).mono ?_
  rintro e w8 ⟨hro, hb⟩
  obtain ⟨iv, pl, dv, hpl, rfl, hit, hin⟩ := hro.some
  have HBW8 := Lib.hid (stay (stay HB4.out HB7.out) hb)
  have hb48 := stay HB7.out hb
  have HX8 := Lib.hid (HXS.out.below hb48)
  have HY8 := Lib.hid (HYS.out.below hb48)
  have HAL8 := Lib.hid (HAL.out.below hb)
  have HIT8 := Lib.hid hit
  have hpn : pl.length = a.length := by
    have := congrArg List.length hpl
    rw [List.length_map, HAN.out] at this
    exact this
  obtain ⟨ia, ic, hia⟩ := items_one hit
  rw [hpn] at hia
  obtain ⟨da, dc, hda⟩ := hin.form
  have hal : (lay2 n A).2.length = a.length := by rw [lay2_at, HAN.out]
  rw [hal] at hda
  subst hia
  subst hda
  have HPL := Lib.hid hpl
  have HPN2 := Lib.hid hpn
  rw [HLA.out, HPP.out]
  clear hro hb hb48 hit hin hpl hpn hal HXS HYS HAL HRD1
  go_upto_region 9 with fail
  have HF := Lib.hid (Blk.new w8 #[.slice ia a.length ic, .slice da a.length dc, .int .i64 la, .int .i64 pa] 36)
  have hb := alloc_bel w8 (.cells #[.slice ia a.length ic, .slice da a.length dc, .int .i64 la, .int .i64 pa] 36)
  have HBW9 := Lib.hid (stay HBW8.out hb)
  have HAL9 := Lib.hid (HAL8.out.below hb)
  have HIT9 := Lib.hid (HIT8.out.below hb)
  generalize w8.alloc (.cells #[.slice ia a.length ic, .slice da a.length dc, .int .i64 la, .int .i64 pa] 36) = w9 at *
  generalize w8.heap.size = f at *
  clear hb HBW8 HAL8 HIT8 HX8 HY8
  have c0 : w9.cell? ⟨f, 0, none⟩ = some (.slice ia a.length ic) := HF.out.cell rfl
  have c2 : w9.cell? ⟨f, 2, none⟩ = some (.int .i64 la) := HF.out.cell rfl
  have HIQ := Lib.hid fun w h k => items_any (.slice ia a.length ic) av pl a (by rw [HPN2.out]; have := HLAN.out; omega) (by have := HLAN.out; omega) w h k
  rw [HPL.out, HA.out, sameIts_yes rfl] at HIQ
  refine wp_region_lit ?_
  go_wp2_with fail
  refine (HIQ.out _ HIT9.out (HIA.out.below HBW9.out)).mono ?_
  rintro e w10 ⟨rfl, hb⟩
  have HBW10 := Lib.hid (stay HBW9.out hb)
  have HAL10 := Lib.hid (HAL9.out.below hb)
  have HF10 := Lib.hid (HF.out.below hb HF.out.lt)
  clear hb c0 c2 HBW9 HAL9 HIT9 HF HIQ
  have HCUT := Lib.hid (secs_from HAL10.out HLA.out HLB.out)
  have gpw : IntKind.u32.wrap (pa : Int) = (pa : Int) := wrap32 (by omega) (by omega)
  have gqq := gq.out
  have GPW := Lib.hid gpw
  have GQQ := Lib.hid gqq
  go_upto_region 11 with fail
  go_cut [16, 17] from 81 to 93 (fun s16 s17 wx => ∃ t ib jb ic2 jc p2, s16 = .pointer (some ⟨t, 0, none⟩) ∧ s17 = .bool true ∧ R2 w wx (.slice aq (la + lb) cq) ((lay2 n A).1 ++ (lay2 q B).1) f [.slice ia a.length ic, .slice da a.length dc, .int .i64 la, .int .i64 pa] t (.slice ib b.length ic2) (.slice jb b.length jc) (parts B.length) lb p2 B)
  case first =>
    have c2 := HF10.out.cell (i := 2) rfl
    have HC2 := Lib.hid fun (wq : World) (hq : Below w10.heap.size w10 wq) => (HF10.out.below hq HF10.out.lt).cell (i := 2) rfl
    have HC3 := Lib.hid fun (wq : World) (hq : Below w10.heap.size w10 wq) => (HF10.out.below hq HF10.out.lt).cell (i := 3) rfl
    clear c2 gpw gqq
    refine startH (fun wq => Below w10.heap.size w10 wq) (by kernel_rfl) ?_
    have HSX : Hid (Below w10.heap.size w10 w10.drew) := Lib.hid (Below.refl _ _).drew
    generalize w10.drew = wS at *
    refine takeH 0 (some 82) (.int .u32 n) rfl rfl (by kernel_rfl) (by kernel_rfl) (by kernel_rfl) (fun _ _ _ h => h) rfl (fun wq hS => by go_simp) HSX.out ?_
    try simp only [Act.put, List.setIfInBounds_toArray, List.set_cons_succ, List.set_cons_zero]
    refine takeH 1 (some 83) (.pointer (some ⟨f, 3, none⟩)) rfl rfl (by kernel_rfl) (by kernel_rfl) (by kernel_rfl) (fun _ _ _ h => h) rfl (fun wq hS => by go_simp) HSX.out ?_
    try simp only [Act.put, List.setIfInBounds_toArray, List.set_cons_succ, List.set_cons_zero]
    refine takeH 2 (some 84) (.int .i64 pa) rfl rfl (by kernel_rfl) (by kernel_rfl) (by kernel_rfl) (fun _ _ _ h => h) rfl (fun wq hS => by have q : wq.cell? ⟨f, 3, none⟩ = some (.int .i64 pa) := HC3.out wq hS; go_simp) HSX.out ?_
    try simp only [Act.put, List.setIfInBounds_toArray, List.set_cons_succ, List.set_cons_zero]
    refine takeH 3 (some 85) (.int .u32 pa) rfl rfl (by kernel_rfl) (by kernel_rfl) (by kernel_rfl) (fun _ _ _ h => h) rfl (fun wq hS => by have g := GPW.out; go_simp) HSX.out ?_
    try simp only [Act.put, List.setIfInBounds_toArray, List.set_cons_succ, List.set_cons_zero]
    refine takeH 4 (some 86) (.int .u32 q) rfl rfl (by kernel_rfl) (by kernel_rfl) (by kernel_rfl) (fun _ _ _ h => h) rfl (fun wq hS => by have g := GQQ.out; go_simp) HSX.out ?_
    try simp only [Act.put, List.setIfInBounds_toArray, List.set_cons_succ, List.set_cons_zero]
    refine takeH 5 (some 87) (.slice aq (la + lb) cq) rfl rfl (by kernel_rfl) (by kernel_rfl) (by kernel_rfl) (fun _ _ _ h => h) rfl (fun wq hS => by go_simp) HSX.out ?_
    try simp only [Act.put, List.setIfInBounds_toArray, List.set_cons_succ, List.set_cons_zero]
    refine takeH 6 (some 88) (.pointer (some ⟨f, 2, none⟩)) rfl rfl (by kernel_rfl) (by kernel_rfl) (by kernel_rfl) (fun _ _ _ h => h) rfl (fun wq hS => by go_simp) HSX.out ?_
    try simp only [Act.put, List.setIfInBounds_toArray, List.set_cons_succ, List.set_cons_zero]
    refine takeH 7 (some 89) (.int .i64 la) rfl rfl (by kernel_rfl) (by kernel_rfl) (by kernel_rfl) (fun _ _ _ h => h) rfl (fun wq hS => by have q : wq.cell? ⟨f, 2, none⟩ = some (.int .i64 la) := HC2.out wq hS; go_simp) HSX.out ?_
    try simp only [Act.put, List.setIfInBounds_toArray, List.set_cons_succ, List.set_cons_zero]
    refine takeH 8 (some 90) (.slice (cutA aq la cq 64) lb (cq - la)) rfl rfl (by kernel_rfl) (by kernel_rfl) (by kernel_rfl) (fun _ _ _ h => h) rfl (fun wq hS => by exact exec_from24c wq _ _ _ _ rfl aq (la + lb) cq la lb rfl rfl rfl) HSX.out ?_
    try simp only [Act.put, List.setIfInBounds_toArray, List.set_cons_succ, List.set_cons_zero]
    generalize cutA aq la cq 64 = ac at *
    generalize cq - la = cc at *
    refine twoH 9 13 (by kernel_rfl) rfl rfl rfl rfl (fun K hK => ?_) (fun K hK => ?_)
    · go_simp
      refine (HRD2.out _ _ (HCUT.out.below HSX.out)).mono ?_
      rintro e w11 ⟨hro, hb⟩
      obtain ⟨iv, p2, dv, hpl, rfl, hit, hin⟩ := hro.some
      have hpn : p2.length = b.length := by
        have := congrArg List.length hpl
        rw [List.length_map, HBN.out] at this
        exact this
      obtain ⟨ib, ic2, hib⟩ := items_one hit
      rw [hpn] at hib
      obtain ⟨jb, jc, hjb⟩ := hin.form
      have hal : (lay2 q B).2.length = b.length := by rw [lay2_at, HBN.out]
      rw [hal] at hjb
      subst hib
      subst hjb
      rw [HLB.out]
      have HIT := Lib.hid hit
      have HPL2 := Lib.hid hpl
      have HSY := Lib.hid (stay HSX.out hb)
      refine hK _ _ HSY.out ?_
      clear hK K hro hb hit hin hpl hpn hal
      try simp only [Act.put, List.setIfInBounds_toArray, List.set_cons_succ, List.set_cons_zero]
      refine takeH 10 (some 81) (.tuple #[.agg #[.slice ib b.length ic2, .slice jb b.length jc, .int .i64 lb, .int .i64 (parts B.length)], .bool true]) rfl rfl (by kernel_rfl) (by kernel_rfl) (by kernel_rfl) (fun _ _ _ h => h) rfl (fun wq hS => by go_simp) HSY.out ?_
      try simp only [Act.put, List.setIfInBounds_toArray, List.set_cons_succ, List.set_cons_zero]
      refine takeH 11 (some 92) (.agg #[.slice ib b.length ic2, .slice jb b.length jc, .int .i64 lb, .int .i64 (parts B.length)]) rfl rfl (by kernel_rfl) (by kernel_rfl) (by kernel_rfl) (fun _ _ _ h => h) rfl (fun wq hS => by go_simp) HSY.out ?_
      try simp only [Act.put, List.setIfInBounds_toArray, List.set_cons_succ, List.set_cons_zero]
      refine takeH 12 (some 93) (.bool true) rfl rfl (by kernel_rfl) (by kernel_rfl) (by kernel_rfl) (fun _ _ _ h => h) rfl (fun wq hS => by go_simp) HSY.out ?_
      try simp only [Act.put, List.setIfInBounds_toArray, List.set_cons_succ, List.set_cons_zero]
      refine oneH 13 (by kernel_rfl) rfl rfl fun K hK => ?_
      refine wp_runTo (some 16) rfl _ _ (exec_alloc _ _ _ 36 rfl _ zero36) ?_
      have hT := Blk.new w11 #[.slice none 0 0, .slice none 0 0, .int .i64 0, .int .i64 0] 36
      have hBT := alloc_bel w11 (.cells #[.slice none 0 0, .slice none 0 0, .int .i64 0, .int .i64 0] 36)
      have HSZ := Lib.hid (stay HSY.out hBT)
      have HT := Lib.hid hT
      have HTB := Lib.hid HSY.out.size
      have HIT2 := Lib.hid (HIT.out.below hBT)
      refine hK _ _ HSZ.out ?_
      clear hK K hBT hT HSY HIT
      try simp only [Act.put, List.setIfInBounds_toArray, List.set_cons_succ, List.set_cons_zero]
      generalize w11.alloc (.cells #[.slice none 0 0, .slice none 0 0, .int .i64 0, .int .i64 0] 36) = wD at *
      generalize w11.heap.size = t at *
      refine oneH 14 (by kernel_rfl) rfl rfl fun K hK => ?_
      refine wp_store_all 36 _ _ rfl t #[.slice ib b.length ic2, .slice jb b.length jc, .int .i64 lb, .int .i64 (parts B.length)] rfl rfl _ HT.out rfl info36 (four_one _ _ _ _ _ _ _ _) ?_
      intro wT hT2 hOT
      have HIT3 := Lib.hid (HIT2.out.only HT.out noit36 hOT)
      have hbf := hOT.below HSZ.out.size (fun k hk => by have := HTB.out; omega)
      have HSU := Lib.hid (HSZ.out.trans hbf)
      refine hK _ _ HSU.out ?_
      clear hK K
      try simp only [Act.put, List.setIfInBounds_toArray, List.set_cons_succ, List.set_cons_zero]
      refine takeH 15 (some 17) (.bool true) rfl rfl (by kernel_rfl) (by kernel_rfl) (by kernel_rfl) (fun _ _ _ h => h) rfl (fun wq hS => by go_simp) HSU.out ?_
      try simp only [Act.put, List.setIfInBounds_toArray, List.set_cons_succ, List.set_cons_zero]
      refine wpAnyH_done (by kernel_rfl) ?_ _
      go_wp2_with fail
      go_meet
      exact ⟨t, ib, jb, ic2, jc, p2, rfl, rfl, stay HBW10.out HSU.out, HAL10.out.below HSU.out, HF10.out.below HSU.out HF10.out.lt, HIT3.out, HPL2.out, hT2⟩
    · refine wp_runTo (some 16) rfl _ _ (exec_alloc _ _ _ 36 rfl _ zero36) ?_
      have hT := Blk.new wS #[.slice none 0 0, .slice none 0 0, .int .i64 0, .int .i64 0] 36
      have hBT := alloc_bel wS (.cells #[.slice none 0 0, .slice none 0 0, .int .i64 0, .int .i64 0] 36)
      have HSY := Lib.hid (stay HSX.out hBT)
      have HT := Lib.hid hT
      have HTB := Lib.hid HSX.out.size
      refine hK _ _ HSY.out ?_
      clear hK K hBT hT HSX
      try simp only [Act.put, List.setIfInBounds_toArray, List.set_cons_succ, List.set_cons_zero]
      generalize wS.alloc (.cells #[.slice none 0 0, .slice none 0 0, .int .i64 0, .int .i64 0] 36) = wD at *
      generalize wS.heap.size = t at *
      refine oneH 9 (by kernel_rfl) rfl rfl fun K hK => ?_
      go_simp
      refine (HRD2.out _ _ (HCUT.out.below HSY.out)).mono ?_
      rintro e w11 ⟨hro, hb⟩
      obtain ⟨iv, p2, dv, hpl, rfl, hit, hin⟩ := hro.some
      have hpn : p2.length = b.length := by
        have := congrArg List.length hpl
        rw [List.length_map, HBN.out] at this
        exact this
      obtain ⟨ib, ic2, hib⟩ := items_one hit
      rw [hpn] at hib
      obtain ⟨jb, jc, hjb⟩ := hin.form
      have hal : (lay2 q B).2.length = b.length := by rw [lay2_at, HBN.out]
      rw [hal] at hjb
      subst hib
      subst hjb
      rw [HLB.out]
      have HIT2 := Lib.hid hit
      have HPL2 := Lib.hid hpl
      have HSZ := Lib.hid (stay HSY.out hb)
      have HTT := Lib.hid (HT.out.below hb HT.out.lt)
      refine hK _ _ HSZ.out ?_
      clear hK K hro hb hit hin hpl hpn hal
      try simp only [Act.put, List.setIfInBounds_toArray, List.set_cons_succ, List.set_cons_zero]
      refine takeH 10 (some 81) (.tuple #[.agg #[.slice ib b.length ic2, .slice jb b.length jc, .int .i64 lb, .int .i64 (parts B.length)], .bool true]) rfl rfl (by kernel_rfl) (by kernel_rfl) (by kernel_rfl) (fun _ _ _ h => h) rfl (fun wq hS => by go_simp) HSZ.out ?_
      try simp only [Act.put, List.setIfInBounds_toArray, List.set_cons_succ, List.set_cons_zero]
      refine takeH 11 (some 92) (.agg #[.slice ib b.length ic2, .slice jb b.length jc, .int .i64 lb, .int .i64 (parts B.length)]) rfl rfl (by kernel_rfl) (by kernel_rfl) (by kernel_rfl) (fun _ _ _ h => h) rfl (fun wq hS => by go_simp) HSZ.out ?_
      try simp only [Act.put, List.setIfInBounds_toArray, List.set_cons_succ, List.set_cons_zero]
      refine takeH 12 (some 93) (.bool true) rfl rfl (by kernel_rfl) (by kernel_rfl) (by kernel_rfl) (fun _ _ _ h => h) rfl (fun wq hS => by go_simp) HSZ.out ?_
      try simp only [Act.put, List.setIfInBounds_toArray, List.set_cons_succ, List.set_cons_zero]
      refine oneH 14 (by kernel_rfl) rfl rfl fun K hK => ?_
      refine wp_store_all 36 _ _ rfl t #[.slice ib b.length ic2, .slice jb b.length jc, .int .i64 lb, .int .i64 (parts B.length)] rfl rfl _ HTT.out rfl info36 (four_one _ _ _ _ _ _ _ _) ?_
      intro wT hT2 hOT
      have HIT3 := Lib.hid (HIT2.out.only HTT.out noit36 hOT)
      have hbf := hOT.below HSZ.out.size (fun k hk => by have := HTB.out; omega)
      have HSU := Lib.hid (HSZ.out.trans hbf)
      refine hK _ _ HSU.out ?_
      clear hK K
      try simp only [Act.put, List.setIfInBounds_toArray, List.set_cons_succ, List.set_cons_zero]
      refine takeH 15 (some 17) (.bool true) rfl rfl (by kernel_rfl) (by kernel_rfl) (by kernel_rfl) (fun _ _ _ h => h) rfl (fun wq hS => by go_simp) HSU.out ?_
      try simp only [Act.put, List.setIfInBounds_toArray, List.set_cons_succ, List.set_cons_zero]
      refine wpAnyH_done (by kernel_rfl) ?_ _
      go_wp2_with fail
      go_meet
      exact ⟨t, ib, jb, ic2, jc, p2, rfl, rfl, stay HBW10.out HSU.out, HAL10.out.below HSU.out, HF10.out.below HSU.out HF10.out.lt, HIT3.out, HPL2.out, hT2⟩
  case rest =>
    obtain ⟨t, ib, jb, ic2, jc, p2, rfl, rfl, h2⟩ := hcut
    have H2 := Lib.hid h2
    have gpw := GPW.out
    have gqq := GQQ.out
    have c3 : wc.cell? ⟨f, 3, none⟩ = some (.int .i64 pa) := h2.fb.cell rfl
    have hp2 : p2.length = b.length := by
      have := congrArg List.length h2.eq
      rw [List.length_map, HBN.out] at this
      exact this
    have HP2 := Lib.hid hp2
    clear h2 hp2
    go_wp2_with fail
    refine (HRD3.out _ _ H2.out.al).mono ?_
    rintro e w12 ⟨hro, hb⟩
    have he := hro.no
    subst he
    have H3 := Lib.hid (H2.out.below hb)
    clear hro hb c3 HRD3 H2 gpw gqq
    go_upto_region 13 with fail
    have H4 := Lib.hid (H3.out.below (alloc_bel w12 (.cells #[.slice none 0 0, .slice none 0 0, .int .i64 0, .int .i64 0] 36)))
    generalize w12.alloc (.cells #[.slice none 0 0, .slice none 0 0, .int .i64 0, .int .i64 0] 36) = w13 at *
    generalize w12.heap.size = g at *
    clear H3
    have c0 : w13.cell? ⟨t, 0, none⟩ = some (.slice ib b.length ic2) := H4.out.box.cell rfl
    have c2 : w13.cell? ⟨t, 2, none⟩ = some (.int .i64 lb) := H4.out.box.cell rfl
    have HIQ := Lib.hid fun w h k => items_any (.slice ib b.length ic2) bv p2 b (by rw [HP2.out]; have := HLBN.out; omega) (by have := HLBN.out; omega) w h k
    rw [H4.out.eq, HBB.out, sameIts_yes rfl] at HIQ
    refine wp_region_lit ?_
    go_wp2_with fail
    refine (HIQ.out _ H4.out.it (HIB.out.below H4.out.bel)).mono ?_
    rintro e w14 ⟨rfl, hb⟩
    have HB14 := Lib.hid (stay H4.out.bel hb)
    clear hb c0 c2 HIQ
    go_wp2_with fail
    refine (HWK.out _).mono ?_
    rintro e w15 ⟨rfl, hb⟩
    have HB15 := Lib.hid (stay HB14.out hb)
    clear hb
    go_wp2_with fail
    go_ret
    exact ⟨rfl, HB15.out⟩

end Go.Proofs.Ytbhaifdhmfmeoaa
